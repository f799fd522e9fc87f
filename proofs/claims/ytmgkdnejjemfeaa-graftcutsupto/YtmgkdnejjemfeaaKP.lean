/- What lent hands out; kept of it. -/
import Derived.Test.YtmgkdnejjemfeaaKN
import Derived.Test.YtmgkdnejjemfeaaKO
namespace Go.Proofs.Ytmgkdnejjemfeaa
open Go.RowKit

def lentNr (gp cp gs cs gk ck : Nat) : Nr := ⟨some ⟨gp, 0, none⟩, gp, 0, cp, some ⟨gs, 0, none⟩, gs, 0, cs, some ⟨gk, 0, none⟩, gk, 0, ck⟩
structure LentAt (w : World) (B gp cp gs cs gk ck : Nat) (N : Nd) : Prop where
  oP : w.ownsRow B 48 2 (.slice (some ⟨gp, 0, none⟩) (N.ps.length + 4) cp) (N.ps.length + 4) (pcells (N.ps ++ mksP 4))
  oS : w.ownsRow B 9 1 (.slice (some ⟨gs, 0, none⟩) (N.ss.length + 4) cs) (N.ss.length + 4) (scells (N.ss ++ mksS 4))
  oK : w.ownsRow B 59 33 (.slice (some ⟨gk, 0, none⟩) (N.ks.length + 4) ck) (N.ks.length + 4) (kcellsL (N.ks ++ mksK 4))
theorem LentAt.same {w w' : World} {B gp cp gs cs gk ck : Nat} {N : Nd} (h : LentAt w B gp cp gs cs gk ck N) (s : Same w w') : LentAt w' B gp cp gs cs gk ck N := ⟨own_frameB h.oP s (fun _ _ f => f), own_frameB h.oS s (fun _ _ f => f), own_frameB h.oK s (fun _ _ f => f)⟩
theorem mark_ok : KidOk markK := ⟨by decide, by decide⟩
theorem LentAt.rows {w : World} {B gp cp gs cs gk ck : Nat} {N : Nd} (h : LentAt w B gp cp gs cs gk ck N) (hok : ∀ x ∈ N.ks, KidOk x) : PRow w (some ⟨gp, 0, none⟩) gp 0 (N.ps ++ mksP 4) ∧ TRow w (some ⟨gs, 0, none⟩) gs 0 (N.ss ++ mksS 4) ∧ KRow w (some ⟨gk, 0, none⟩) gk 0 (N.ks ++ mksK 4) := by
  have hk4 : ∀ x ∈ N.ks ++ mksK 4, KidOk x := fun x hx => by
    rcases List.mem_append.1 hx with h | h
    · exact hok x h
    · rw [List.eq_of_mem_replicate h]; exact mark_ok
  obtain ⟨g1, r1⟩ := own_prow (own_base h.oP (Nat.zero_le _)) (by simp [mksP])
  obtain ⟨g2, r2⟩ := own_trow (own_base h.oS (Nat.zero_le _)) (by simp [mksS])
  obtain ⟨g3, r3⟩ := own_krow hk4 (own_base h.oK (Nat.zero_le _)) (by simp [mksK])
  have e1 := (r1.place (by simp [mksP])).1
  have e2 := (r2.place (by simp [mksS])).1
  have e3 := (r3.place (by simp [mksK])).1
  cases e1; cases e2; cases e3
  exact ⟨r1, r2, r3⟩
theorem prow_front {w : World} {pa : Option Addr} {pb po : Nat} {a b : List (ByteArray × ByteArray)} (h : PRow w pa pb po (a ++ b)) : PRow w pa pb po a :=
  ⟨fun e => h.place (by intro e2; exact e (List.append_eq_nil_iff.1 e2).1), fun j x hx => h.cells j x (by rw [List.getElem?_append_left (List.getElem?_eq_some_iff.1 hx).1]; exact hx)⟩
theorem trow_front {w : World} {pa : Option Addr} {pb po : Nat} {a b : List ByteArray} (h : TRow w pa pb po (a ++ b)) : TRow w pa pb po a :=
  ⟨fun e => h.place (by intro e2; exact e (List.append_eq_nil_iff.1 e2).1), fun j x hx => h.cells j x (by rw [List.getElem?_append_left (List.getElem?_eq_some_iff.1 hx).1]; exact hx)⟩
theorem krow_front {w : World} {pa : Option Addr} {pb po : Nat} {a b : List Kid} (h : KRow w pa pb po (a ++ b)) : KRow w pa pb po a :=
  ⟨fun e => h.place (by intro e2; exact e (List.append_eq_nil_iff.1 e2).1), fun j x hx => h.cells j x (by rw [List.getElem?_append_left (List.getElem?_eq_some_iff.1 hx).1]; exact hx)⟩
theorem LentAt.nd {w : World} {B gp cp gs cs gk ck : Nat} {N : Nd} (h : LentAt w B gp cp gs cs gk ck N) {v : World} {r : Nr} (hn : NdAt v r N) : NdAt w (lentNr gp cp gs cs gk ck) N := by
  obtain ⟨h1, h2, h3⟩ := h.rows hn.ok
  exact ⟨prow_front h1, trow_front h2, krow_front h3, hn.ok, hn.lp, hn.ls, hn.lk⟩
theorem LentAt.caps {w : World} {B gp cp gs cs gk ck : Nat} {N : Nd} (h : LentAt w B gp cp gs cs gk ck N) : N.ps.length + 4 ≤ cp ∧ N.ss.length + 4 ≤ cs ∧ N.ks.length + 4 ≤ ck :=
  ⟨(own_cap (own_base h.oP (Nat.zero_le _))).1, (own_cap (own_base h.oS (Nat.zero_le _))).1, (own_cap (own_base h.oK (Nat.zero_le _))).1⟩
theorem lent_at {r : Nr} {N : Nd} (w : World) (h : NdIn w r N) (h1 : N.ps.length ≤ 1048576) (h2 : N.ss.length ≤ 1048576) (h3 : N.ks.length ≤ 1048576) : Calls Try.prog 6 #[ndV r N] w fun e w' => ∃ gp cp gs cs gk ck, e = .returned (ndV (lentNr gp cp gs cs gk ck) N) ∧ LentAt w' w.heap.size gp cp gs cs gk ck N ∧ Same w w' := by
  refine (lent_calls w h h1 h2 h3).mono ?_
  rintro e w' ⟨pa, cp, sa, cs, ka, ck, rfl, oP, oS, oK, s⟩
  obtain ⟨gp, rfl, _⟩ := own_some (own_base oP (Nat.zero_le _)) (by omega)
  obtain ⟨gs, rfl, _⟩ := own_some (own_base oS (Nat.zero_le _)) (by omega)
  obtain ⟨gk, rfl, _⟩ := own_some (own_base oK (Nat.zero_le _)) (by omega)
  exact ⟨gp, cp, gs, cs, gk, ck, rfl, ⟨oP, oS, oK⟩, s⟩
set_option maxRecDepth 100000 in
set_option maxHeartbeats 1000000 in
theorem kept_true {B gp cp gs cs gk ck : Nat} {r : Nr} {N : Nd} (w : World) (h : LentAt w B gp cp gs cs gk ck N) (hn : NdAt w r N) (h1 : N.ps.length ≤ 1048576) (h2 : N.ss.length ≤ 1048576) (h3 : N.ks.length ≤ 1048576) : Calls Try.prog 9 #[ndV (lentNr gp cp gs cs gk ck) N, ndV r N] w fun e w' => e = .returned (.bool true) ∧ Same w w' := by
  have HS : Hid (∀ W, Same w W → Calls Try.prog 24 #[ndV (lentNr gp cp gs cs gk ck) N, ndV r N] W fun e w' => e = .returned (.bool true) ∧ Same W w') := fun W s => rsame_true W ((h.nd hn).same s) (hn.same s)
  obtain ⟨r1, r2, r3⟩ := h.rows hn.ok
  obtain ⟨y1, y2, y3⟩ := h.caps
  have HP : Hid (∀ k, k < 4 → w.cell? ⟨gp, (N.ps.length + k) * 2, none⟩ = some (.string ⟨#[109, 97, 114, 107]⟩)) := fun k hk => by
    have := (r1.cells (N.ps.length + k) (⟨#[109, 97, 114, 107]⟩, ⟨#[]⟩) (by rw [List.getElem?_append_right (by omega), Nat.add_sub_cancel_left, mksP, List.getElem?_replicate, if_pos hk])).1
    rwa [Nat.zero_add] at this
  have HT : Hid (∀ k, k < 4 → w.cell? ⟨gs, N.ss.length + k, none⟩ = some (.string ⟨#[109, 97, 114, 107]⟩)) := fun k hk => by
    have := r2.cells (N.ss.length + k) ⟨#[109, 97, 114, 107]⟩ (by rw [List.getElem?_append_right (by omega), Nat.add_sub_cancel_left, mksS, List.getElem?_replicate, if_pos hk])
    rwa [Nat.zero_add] at this
  have HK : Hid (∀ k, k < 4 → w.cell? ⟨gk, (N.ks.length + k) * 33, none⟩ = some (.int .u32 77)) := fun k hk => by
    have := r3.cells (N.ks.length + k) markK (by rw [List.getElem?_append_right (by omega), Nat.add_sub_cancel_left, mksK, List.getElem?_replicate, if_pos hk]) 0 _ rfl
    rwa [Nat.zero_add, Nat.add_zero] at this
  have z1 : IntKind.i64.wrap ((N.ps.length : Int) + 4) = ((N.ps.length + 4 : Nat) : Int) := by rw [IntKind.wrap_i64]; omega
  have z2 : IntKind.i64.wrap ((N.ss.length : Int) + 4) = ((N.ss.length + 4 : Nat) : Int) := by rw [IntKind.wrap_i64]; omega
  have z3 : IntKind.i64.wrap ((N.ks.length : Int) + 4) = ((N.ks.length + 4 : Nat) : Int) := by rw [IntKind.wrap_i64]; omega
  have x1 : ((N.ps.length + 4 : Nat) : Int) ≤ (cp : Int) := by omega
  have x2 : ((N.ss.length + 4 : Nat) : Int) ≤ (cs : Int) := by omega
  have x3 : ((N.ks.length + 4 : Nat) : Int) ≤ (ck : Int) := by omega
  have v1 : (0 : Int) ≤ ((N.ps.length + 4 : Nat) : Int) := by omega
  have v2 : (0 : Int) ≤ ((N.ss.length + 4 : Nat) : Int) := by omega
  have v3 : (0 : Int) ≤ ((N.ks.length + 4 : Nat) : Int) := by omega
  obtain ⟨V, hV⟩ : ∃ V, V = (w.alloc (.cells #[.slice (some ⟨gp, 0, none⟩) N.ps.length cp, .slice (some ⟨gs, 0, none⟩) N.ss.length cs, .slice (some ⟨gk, 0, none⟩) N.ks.length ck] 28)).alloc (.cells #[.slice r.pa N.ps.length r.cp, .slice r.sa N.ss.length r.cs, .slice r.ka N.ks.length r.ck] 28) := ⟨_, rfl⟩
  have sx : Same w V := by rw [hV]; exact ((Fr.refl _ w).alloc _).alloc _
  have a0 : V.cell? ⟨w.heap.size, 0, none⟩ = some (.slice (some ⟨gp, 0, none⟩) N.ps.length cp) := by rw [hV]; simp
  have a1 : V.cell? ⟨w.heap.size, 1, none⟩ = some (.slice (some ⟨gs, 0, none⟩) N.ss.length cs) := by rw [hV]; simp
  have a2 : V.cell? ⟨w.heap.size, 2, none⟩ = some (.slice (some ⟨gk, 0, none⟩) N.ks.length ck) := by rw [hV]; simp
  have b0 : V.cell? ⟨w.heap.size + 1, 0, none⟩ = some (.slice r.pa N.ps.length r.cp) := by rw [hV]; simp
  have b1 : V.cell? ⟨w.heap.size + 1, 1, none⟩ = some (.slice r.sa N.ss.length r.cs) := by rw [hV]; simp
  have b2 : V.cell? ⟨w.heap.size + 1, 2, none⟩ = some (.slice r.ka N.ks.length r.ck) := by rw [hV]; simp
  have HC : Hid (∀ W, Same V W → W.cell? ⟨w.heap.size, 0, none⟩ = some (.slice (some ⟨gp, 0, none⟩) N.ps.length cp) ∧ W.cell? ⟨w.heap.size, 1, none⟩ = some (.slice (some ⟨gs, 0, none⟩) N.ss.length cs) ∧ W.cell? ⟨w.heap.size, 2, none⟩ = some (.slice (some ⟨gk, 0, none⟩) N.ks.length ck) ∧ W.cell? ⟨w.heap.size + 1, 0, none⟩ = some (.slice r.pa N.ps.length r.cp) ∧ W.cell? ⟨w.heap.size + 1, 1, none⟩ = some (.slice r.sa N.ss.length r.cs) ∧ W.cell? ⟨w.heap.size + 1, 2, none⟩ = some (.slice r.ka N.ks.length r.ck)) := fun W h => ⟨h.keep a0, h.keep a1, h.keep a2, h.keep b0, h.keep b1, h.keep b2⟩
  have HL : Hid (N.ps.length ≤ 1048576 ∧ N.ss.length ≤ 1048576 ∧ N.ks.length ≤ 1048576) := ⟨h1, h2, h3⟩
  clear h hn r1 r2 r3 y1 y2 y3 h1 h2 h3
  unfold lentNr at HS ⊢
  go_enter Try.func9, Try.ntmps9
  go_wp2_with fail
  rw [← hV]
  clear hV
  refine (HS.out _ sx).mono ?_
  rintro e W1 ⟨rfl, s1⟩
  clear a0 a1 a2 b0 b1 b2
  obtain ⟨a0, a1, a2, b0, b1, b2⟩ := HC.out _ s1
  go_wp2_with fail
  go_loopg [8] 4 (fun g iv wr => ∃ k : Nat, iv = .int .i64 (k : Int) ∧ k ≤ 4 ∧ g = 4 - k ∧ Same V wr)
  case atStart => exact ⟨0, rfl, by omega, rfl, s1⟩
  case round =>
    clear a0 a1 a2 b0 b1 b2
    obtain ⟨k, rfl, hk, hg, sr⟩ := hrel
    obtain ⟨a0, a1, a2, b0, b1, b2⟩ := HC.out _ sr
    obtain ⟨l1, l2, l3⟩ := HL.out
    by_cases hgo : k < 4
    · have i1 : (k : Int) < 4 := by omega
      have c0 := (sx.trans sr).keep (HP.out k hgo)
      have c1 := (sx.trans sr).keep (HT.out k hgo)
      have c2 := (sx.trans sr).keep (HK.out k hgo)
      have u1 : RowKit.wrap64 ((N.ps.length : Int) + (k : Int)) = ((N.ps.length + k : Nat) : Int) := by unfold RowKit.wrap64; omega
      have u2 : RowKit.wrap64 ((N.ss.length : Int) + (k : Int)) = ((N.ss.length + k : Nat) : Int) := by unfold RowKit.wrap64; omega
      have u3 : RowKit.wrap64 ((N.ks.length : Int) + (k : Int)) = ((N.ks.length + k : Nat) : Int) := by unfold RowKit.wrap64; omega
      have t1 : ((N.ps.length + k : Nat) : Int) < ((N.ps.length + 4 : Nat) : Int) := by omega
      have t2 : ((N.ss.length + k : Nat) : Int) < ((N.ss.length + 4 : Nat) : Int) := by omega
      have t3 : ((N.ks.length + k : Nat) : Int) < ((N.ks.length + 4 : Nat) : Int) := by omega
      clear HP HT HK HS l1 l2 l3 z1 z2 z3 x1 x2 x3
      go_wp2_with fail
      go_roundg (4 - (k + 1))
      case measure => omega
      case rel => exact ⟨k + 1, by go_num, by omega, rfl, sr⟩
    · obtain rfl : k = 4 := by omega
      clear HP HT HK HS l1 l2 l3 z1 z2 z3 x1 x2 x3
      go_wp2_with fail
      go_ret
      exact ⟨rfl, sx.trans sr⟩
end Go.Proofs.Ytmgkdnejjemfeaa
