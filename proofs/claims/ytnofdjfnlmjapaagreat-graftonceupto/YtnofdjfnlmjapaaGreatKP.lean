/- What lent hands out; kept of it. -/
import Derived.Test.YtnofdjfnlmjapaaGreatKN
import Derived.Test.YtnofdjfnlmjapaaGreatKO
namespace Go.Proofs.YtnofdjfnlmjapaaGreat
open Go.RowKit

def lentNr (gp cp gs cs gk ck : Nat) : Nr := ⟨some ⟨gp, 0, none⟩, gp, 0, cp, some ⟨gs, 0, none⟩, gs, 0, cs, some ⟨gk, 0, none⟩, gk, 0, ck⟩
structure LentAt (w : World) (B gp cp gs cs gk ck : Nat) (N : Nd) : Prop where
  oP : w.ownsRow B 48 2 (.slice (some ⟨gp, 0, none⟩) (N.ps.length + 4) cp) (N.ps.length + 4) (pcells (N.ps ++ mksP 4))
  oS : w.ownsRow B 9 1 (.slice (some ⟨gs, 0, none⟩) (N.ss.length + 4) cs) (N.ss.length + 4) (scells (N.ss ++ mksS 4))
  oK : w.ownsRow B 53 33 (.slice (some ⟨gk, 0, none⟩) (N.ks.length + 4) ck) (N.ks.length + 4) (kcellsL (N.ks ++ mksK 4))
theorem LentAt.same {w w' : World} {B gp cp gs cs gk ck : Nat} {N : Nd} (h : LentAt w B gp cp gs cs gk ck N) (s : Same w w') : LentAt w' B gp cp gs cs gk ck N := ⟨own_frameB h.oP s (fun _ _ f => f), own_frameB h.oS s (fun _ _ f => f), own_frameB h.oK s (fun _ _ f => f)⟩
theorem mark_ok : KidOk markK := ⟨by decide, by decide⟩
theorem LentAt.rows {w : World} {B gp cp gs cs gk ck : Nat} {N : Nd} (h : LentAt w B gp cp gs cs gk ck N) (hok : ∀ x ∈ N.ks, KidOk x) : PRow w (some ⟨gp, 0, none⟩) gp 0 (N.ps ++ mksP 4) ∧ TRow w (some ⟨gs, 0, none⟩) gs 0 (N.ss ++ mksS 4) ∧ KRow w (some ⟨gk, 0, none⟩) gk 0 (N.ks ++ mksK 4) := by
  have hk4 : ∀ x ∈ N.ks ++ mksK 4, KidOk x := fun x hx => by
    rcases List.mem_append.1 hx with h | h
    · exact hok x h
    · rw [List.eq_of_mem_replicate h]; exact mark_ok
  obtain ⟨g1, r1⟩ := own_prow (own_base h.oP (Nat.zero_le _)) (by simp [mksP])
  obtain ⟨g2, r2⟩ := own_trow (own_base h.oS (Nat.zero_le _)) (by simp [mksS])
  obtain ⟨g3, r3⟩ := own_krow hk4 (own_base h.oK (Nat.zero_le _)) (by simp [mksK])
  have e1 := (r1.place (by simp [mksP])).1
  have e2 := (r2.place (by simp [mksS])).1
  have e3 := (r3.place (by simp [mksK])).1
  cases e1; cases e2; cases e3
  exact ⟨r1, r2, r3⟩
theorem prow_front {w : World} {pa : Option Addr} {pb po : Nat} {a b : List (ByteArray × ByteArray)} (h : PRow w pa pb po (a ++ b)) : PRow w pa pb po a :=
  ⟨fun e => h.place (by intro e2; exact e (List.append_eq_nil_iff.1 e2).1), fun j x hx => h.cells j x (by rw [List.getElem?_append_left (List.getElem?_eq_some_iff.1 hx).1]; exact hx)⟩
theorem trow_front {w : World} {pa : Option Addr} {pb po : Nat} {a b : List ByteArray} (h : TRow w pa pb po (a ++ b)) : TRow w pa pb po a :=
  ⟨fun e => h.place (by intro e2; exact e (List.append_eq_nil_iff.1 e2).1), fun j x hx => h.cells j x (by rw [List.getElem?_append_left (List.getElem?_eq_some_iff.1 hx).1]; exact hx)⟩
theorem krow_front {w : World} {pa : Option Addr} {pb po : Nat} {a b : List Kid} (h : KRow w pa pb po (a ++ b)) : KRow w pa pb po a :=
  ⟨fun e => h.place (by intro e2; exact e (List.append_eq_nil_iff.1 e2).1), fun j x hx => h.cells j x (by rw [List.getElem?_append_left (List.getElem?_eq_some_iff.1 hx).1]; exact hx)⟩
theorem LentAt.nd {w : World} {B gp cp gs cs gk ck : Nat} {N : Nd} (h : LentAt w B gp cp gs cs gk ck N) {v : World} {r : Nr} (hn : NdAt v r N) : NdAt w (lentNr gp cp gs cs gk ck) N := by
  obtain ⟨h1, h2, h3⟩ := h.rows hn.ok
  exact ⟨prow_front h1, trow_front h2, krow_front h3, hn.ok, hn.lp, hn.ls, hn.lk⟩
theorem LentAt.caps {w : World} {B gp cp gs cs gk ck : Nat} {N : Nd} (h : LentAt w B gp cp gs cs gk ck N) : N.ps.length + 4 ≤ cp ∧ N.ss.length + 4 ≤ cs ∧ N.ks.length + 4 ≤ ck :=
  ⟨(own_cap (own_base h.oP (Nat.zero_le _))).1, (own_cap (own_base h.oS (Nat.zero_le _))).1, (own_cap (own_base h.oK (Nat.zero_le _))).1⟩
theorem lent_at {r : Nr} {N : Nd} (w : World) (h : NdIn w r N) (h1 : N.ps.length ≤ 1048576) (h2 : N.ss.length ≤ 1048576) (h3 : N.ks.length ≤ 1048576) : Calls Tryz.prog 5 #[ndV r N] w fun e w' => ∃ gp cp gs cs gk ck, e = .returned (ndV (lentNr gp cp gs cs gk ck) N) ∧ LentAt w' w.heap.size gp cp gs cs gk ck N ∧ Same w w' := by
  refine (lent_calls w h h1 h2 h3).mono ?_
  rintro e w' ⟨pa, cp, sa, cs, ka, ck, rfl, oP, oS, oK, s⟩
  obtain ⟨gp, rfl, _⟩ := own_some (own_base oP (Nat.zero_le _)) (by omega)
  obtain ⟨gs, rfl, _⟩ := own_some (own_base oS (Nat.zero_le _)) (by omega)
  obtain ⟨gk, rfl, _⟩ := own_some (own_base oK (Nat.zero_le _)) (by omega)
  exact ⟨gp, cp, gs, cs, gk, ck, rfl, ⟨oP, oS, oK⟩, s⟩
end Go.Proofs.YtnofdjfnlmjapaaGreat
