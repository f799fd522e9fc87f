/- The walk of GraftFull. -/
import Derived.Test.YtmhjlffceahbaaaGreatFB
import Derived.Test.YtmhjlffceahbaaaGreatKP
import Derived.Test.YtmhjlffceahbaaaGreatKI
namespace Go.Proofs.YtmhjlffceahbaaaGreat
open Go.RowKit

def fullV (p q : Int) (N : Nd) : Bool := chkN p q N == 0 && decide (p - 32 < sizeV p q N)
def thinV (p q : Int) (N : Nd) : Bool := chkN p q N == 0 && decide (sizeV p q N < (p - 30) / 3)
theorem chk_p {p q : Int} {N : Nd} (h : chkN p q N = 0) : p = 1024 ∨ p = 2048 ∨ p = 4096 ∨ p = 8192 := (frameP_cases (chk_zero h).1).1
theorem sizeV_range {p q : Int} {N : Nd} (h : (formN true q N).length ≤ 50000000000) : 0 ≤ sizeV p q N ∧ sizeV p q N ≤ 50000000000 := by
  unfold sizeV
  split <;> omega
theorem full_calls {p q : Int} {r : Nr} {N : Nd} (w : World) (h : NdOk w r q N) :
    Calls Tryz.prog 5 #[frameV p q, ndV r N] w fun e w' => e = .returned (.bool (fullV p q N)) ∧ Same w w' :=
  full_core w (fun W s => check_calls p q W (h.at_.same s)) (fun W s => size_calls W (h.same s)) (fun hE W => Room_calls (chk_p hE) W)
theorem thin_calls {p q : Int} {r : Nr} {N : Nd} (w : World) (h : NdOk w r q N) :
    Calls Tryz.prog 7 #[frameV p q, ndV r N] w fun e w' => e = .returned (.bool (thinV p q N)) ∧ Same w w' :=
  thin_core w (fun W s => check_calls p q W (h.at_.same s)) (fun W s => size_calls W (h.same s)) (fun hE W => Least_calls (chk_p hE) W)
theorem dfull_calls {p q : Int} {r : Nr} {N : Nd} (w : World) (h : NdAt w r N) (hl : (formN true q N).length ≤ 50000000000) (h1 : N.ps.length ≤ 1048576) (h2 : N.ss.length ≤ 1048576) (h3 : N.ks.length ≤ 1048576) :
    Calls Tryz.prog 6 #[frameV p q, ndV r N] w fun e w' => e = .returned (.bool (fullV p q N)) ∧ Same w w' :=
  dfull_core w (fun hE => by have := chk_p hE; omega) (sizeV_range hl) (fun W s => dcheck_calls W (h.same s) h1 h2 h3) (fun W s => dsize_calls W (h.same s) hl h1 h2 h3)
theorem dthin_calls {p q : Int} {r : Nr} {N : Nd} (w : World) (h : NdAt w r N) (hl : (formN true q N).length ≤ 50000000000) (h1 : N.ps.length ≤ 1048576) (h2 : N.ss.length ≤ 1048576) (h3 : N.ks.length ≤ 1048576) :
    Calls Tryz.prog 8 #[frameV p q, ndV r N] w fun e w' => e = .returned (.bool (thinV p q N)) ∧ Same w w' := by
  have e : thinV p q N = (chkN p q N == 0 && decide (3 * sizeV p q N < p - 32)) := by
    unfold thinV
    congr 1
    rw [Bool.eq_iff_iff, decide_eq_true_eq, decide_eq_true_eq]
    omega
  rw [e]
  exact dthin_core w (fun hE => by have := chk_p hE; omega) (sizeV_range hl) (fun W s => dcheck_calls W (h.same s) h1 h2 h3) (fun W s => dsize_calls W (h.same s) hl h1 h2 h3)
def noNd : Nd := ⟨[], [], []⟩
def noNr : Nr := ⟨none, 0, 0, 0, none, 0, 0, 0, none, 0, 0, 0⟩
theorem noNd_ok (w : World) (q : Int) : NdOk w noNr q noNd := by
  have b6 : ∀ t, (formN t q noNd).length ≤ 50000000000 := fun t => by
    unfold formN; rw [if_pos (by rfl), List.length_cons, List.length_append]
    have := freeB_length ([] : List (ByteArray × ByteArray)).length
    show (freeB ([] : List (ByteArray × ByteArray)).length).length + (pairsB []).length + 1 ≤ _
    have e : (pairsB []).length = 0 := rfl
    omega
  exact ⟨⟨⟨fun e => absurd rfl e, fun j x hx => by simp [noNd] at hx⟩, ⟨fun e => absurd rfl e, fun j x hx => by simp [noNd] at hx⟩, ⟨fun e => absurd rfl e, fun j x hx => by simp [noNd] at hx⟩, by simp [noNd], by simp [noNd], by simp [noNd], by simp [noNd]⟩, ⟨by simp [noNd], by simp [noNr]⟩, b6 _, b6 _⟩
theorem noNd_thin : thinV 1024 32 noNd = true := by decide +kernel
theorem LentAt.ok {w : World} {B gp cp gs cs gk ck : Nat} {N : Nd} {q : Int} (h : LentAt w B gp cp gs cs gk ck N) {v : World} {r : Nr} (hn : NdAt v r N) (l1 : (formN true q N).length ≤ 50000000000) (l0 : (formN false q N).length ≤ 50000000000) : NdOk w (lentNr gp cp gs cs gk ck) q N := by
  have h2 := own_cap (own_base h.oS (Nat.zero_le _))
  exact ⟨h.nd hn, ⟨by show N.ss.length ≤ cs; omega, by show cs ≤ _; have := h2.2; unfold maxLen at this; omega⟩, l1, l0⟩

set_option maxRecDepth 100000 in
set_option maxHeartbeats 4000000 in
theorem gfull_walk {p q : Int} {r : Nr} {N : Nd} (w : World) (h : NdIn w r N) (l1 : (formN true q N).length ≤ 50000000000) (l0 : (formN false q N).length ≤ 50000000000) (h1 : N.ps.length ≤ 1048576) (h2 : N.ss.length ≤ 1048576) (h3 : N.ks.length ≤ 1048576) : Calls Tryz.prog 3 #[frameV p q, ndV r N] w fun e w' => e = .returned (.bool true) ∧ Same w w' := by
  have HL : Hid (∀ W, Same w W → Calls Tryz.prog 4 #[ndV r N] W fun e w' => ∃ gp cp gs cs gk ck, e = .returned (ndV (lentNr gp cp gs cs gk ck) N) ∧ LentAt w' W.heap.size gp cp gs cs gk ck N ∧ Same W w') := fun W s => lent_at W (h.same s) h1 h2 h3
  have HF2 : Hid (∀ W, Same w W → Calls Tryz.prog 6 #[frameV p q, ndV r N] W fun e w' => e = .returned (.bool (fullV p q N)) ∧ Same W w') := fun W s => dfull_calls W (h.at_.same s) l1 h1 h2 h3
  have HT2 : Hid (∀ W, Same w W → Calls Tryz.prog 8 #[frameV p q, ndV r N] W fun e w' => e = .returned (.bool (thinV p q N)) ∧ Same W w') := fun W s => dthin_calls W (h.at_.same s) l1 h1 h2 h3
  have HF1 : Hid (∀ W gp cp gs cs gk ck B, LentAt W B gp cp gs cs gk ck N → Calls Tryz.prog 5 #[frameV p q, ndV (lentNr gp cp gs cs gk ck) N] W fun e w' => e = .returned (.bool (fullV p q N)) ∧ Same W w') := fun W gp cp gs cs gk ck B l => full_calls W (l.ok h.at_ l1 l0)
  have HT1 : Hid (∀ W gp cp gs cs gk ck B, LentAt W B gp cp gs cs gk ck N → Calls Tryz.prog 7 #[frameV p q, ndV (lentNr gp cp gs cs gk ck) N] W fun e w' => e = .returned (.bool (thinV p q N)) ∧ Same W w') := fun W gp cp gs cs gk ck B l => thin_calls W (l.ok h.at_ l1 l0)
  have HT0 : Hid (∀ W, Calls Tryz.prog 7 #[frameV 1024 32, nodeV none 0 0 none 0 0 none 0 0] W fun e w' => e = .returned (.bool true) ∧ Same W w') := fun W => by
    have := thin_calls (p := 1024) (q := 32) W (noNd_ok W 32)
    rw [noNd_thin] at this
    exact this
  have HK : Hid (∀ W gp cp gs cs gk ck B, Same w W → LentAt W B gp cp gs cs gk ck N → Calls Tryz.prog 9 #[ndV (lentNr gp cp gs cs gk ck) N, ndV r N] W fun e w' => e = .returned (.bool true) ∧ Same W w') := fun W gp cp gs cs gk ck B s l => kept_true W l (h.at_.same s) h1 h2 h3
  have HFR : Hid (∀ W, Calls Tryz.prog 10 #[] W fun e w' => e = .returned (frameV 1024 32) ∧ Same W w') := lframe_calls
  have HAW : Hid (∀ W, Calls Tryz.prog 11 #[] W fun e w' => e = .returned (.bool true) ∧ Same W w') := awake_calls
  generalize fullV p q N = FB at *
  generalize thinV p q N = TB at *
  have e1 : (FB != FB) = false := by simp
  have e2 : (TB != TB) = false := by simp
  have e3 : (FB == FB) = true := by simp
  have e4 : (TB == TB) = true := by simp
  obtain ⟨V, hV⟩ : ∃ V, V = (w.alloc (.cells #[.int .i64 p, .int .i64 q] 23)).alloc (.cells #[.slice r.pa N.ps.length r.cp, .slice r.sa N.ss.length r.cs, .slice r.ka N.ks.length r.ck] 28) := ⟨_, rfl⟩
  have sx : Same w V := by rw [hV]; exact ((Fr.refl _ w).alloc _).alloc _
  have c0 : V.cell? ⟨w.heap.size, 0, none⟩ = some (.int .i64 p) := by rw [hV]; simp
  have c1 : V.cell? ⟨w.heap.size, 1, none⟩ = some (.int .i64 q) := by rw [hV]; simp
  have n0 : V.cell? ⟨w.heap.size + 1, 0, none⟩ = some (.slice r.pa N.ps.length r.cp) := by rw [hV]; simp
  have n1 : V.cell? ⟨w.heap.size + 1, 1, none⟩ = some (.slice r.sa N.ss.length r.cs) := by rw [hV]; simp
  have n2 : V.cell? ⟨w.heap.size + 1, 2, none⟩ = some (.slice r.ka N.ks.length r.ck) := by rw [hV]; simp
  clear h l1 l0
  go_enter Tryz.func3, Tryz.ntmps3
  go_wp2_with fail
  rw [← hV]
  clear hV
  refine (HL.out _ sx).mono ?_
  rintro e W1 ⟨gp, cp, gs, cs, gk, ck, rfl, la, s1⟩
  have t1 := sx.trans s1
  have c0 := s1.keep c0
  have c1 := s1.keep c1
  have n0 := s1.keep n0
  have n1 := s1.keep n1
  have n2 := s1.keep n2
  have HLA : Hid (LentAt W1 V.heap.size gp cp gs cs gk ck N) := la
  clear la
  unfold lentNr at HF1 HT1 HK ⊢
  go_wp2_with fail
  obtain ⟨V2, hV2⟩ : ∃ V2, V2 = W1.alloc (.cells #[.slice (some ⟨gp, 0, none⟩) N.ps.length cp, .slice (some ⟨gs, 0, none⟩) N.ss.length cs, .slice (some ⟨gk, 0, none⟩) N.ks.length ck] 28) := ⟨_, rfl⟩
  obtain ⟨xb, hxb⟩ : ∃ xb, xb = W1.heap.size := ⟨_, rfl⟩
  have x0 : V2.cell? ⟨xb, 0, none⟩ = some (.slice (some ⟨gp, 0, none⟩) N.ps.length cp) := by rw [hV2, hxb]; simp
  have x1 : V2.cell? ⟨xb, 1, none⟩ = some (.slice (some ⟨gs, 0, none⟩) N.ss.length cs) := by rw [hV2, hxb]; simp
  have x2 : V2.cell? ⟨xb, 2, none⟩ = some (.slice (some ⟨gk, 0, none⟩) N.ks.length ck) := by rw [hV2, hxb]; simp
  have sv : Same W1 V2 := by rw [hV2]; exact (Fr.refl _ W1).alloc _
  rw [← hV2, ← hxb]
  clear hV2 hxb
  have t2 := t1.trans sv
  have HA : Hid (∀ W, Same V2 W → LentAt W V.heap.size gp cp gs cs gk ck N) := fun W s => HLA.out.same (sv.trans s)
  have HC : Hid (∀ W, Same V2 W → (W.cell? ⟨xb, 0, none⟩ = some (.slice (some ⟨gp, 0, none⟩) N.ps.length cp) ∧ W.cell? ⟨xb, 1, none⟩ = some (.slice (some ⟨gs, 0, none⟩) N.ss.length cs) ∧ W.cell? ⟨xb, 2, none⟩ = some (.slice (some ⟨gk, 0, none⟩) N.ks.length ck)) ∧ W.cell? ⟨w.heap.size, 0, none⟩ = some (.int .i64 p) ∧ W.cell? ⟨w.heap.size, 1, none⟩ = some (.int .i64 q) ∧ W.cell? ⟨w.heap.size + 1, 0, none⟩ = some (.slice r.pa N.ps.length r.cp) ∧ W.cell? ⟨w.heap.size + 1, 1, none⟩ = some (.slice r.sa N.ss.length r.cs) ∧ W.cell? ⟨w.heap.size + 1, 2, none⟩ = some (.slice r.ka N.ks.length r.ck)) := fun W s => ⟨⟨s.keep x0, s.keep x1, s.keep x2⟩, s.keep (sv.keep c0), s.keep (sv.keep c1), s.keep (sv.keep n0), s.keep (sv.keep n1), s.keep (sv.keep n2)⟩
  clear HLA HL c0 c1 n0 n1 n2 x0 x1 x2
  have d0 : Same V2 V2.drew := Fr.drew (Fr.refl _ V2)
  go_region_held3 (fun W => (W.cell? ⟨xb, 0, none⟩ = some (.slice (some ⟨gp, 0, none⟩) N.ps.length cp) ∧ W.cell? ⟨xb, 1, none⟩ = some (.slice (some ⟨gs, 0, none⟩) N.ss.length cs) ∧ W.cell? ⟨xb, 2, none⟩ = some (.slice (some ⟨gk, 0, none⟩) N.ks.length ck)) ∧ W.cell? ⟨w.heap.size, 0, none⟩ = some (.int .i64 p) ∧ W.cell? ⟨w.heap.size, 1, none⟩ = some (.int .i64 q) ∧ W.cell? ⟨w.heap.size + 1, 0, none⟩ = some (.slice r.pa N.ps.length r.cp) ∧ W.cell? ⟨w.heap.size + 1, 1, none⟩ = some (.slice r.sa N.ss.length r.cs) ∧ W.cell? ⟨w.heap.size + 1, 2, none⟩ = some (.slice r.ka N.ks.length r.ck)) (first | exact HC.out _ u4 | exact HC.out _ u3 | exact HC.out _ u2 | exact HC.out _ u1 | exact HC.out _ d0)
    (first | (go_at_call 5; refine (HF1.out _ _ _ _ _ _ _ _ (HA.out _ d0)).mono ?_; rintro e Z1 ⟨rfl, q1⟩; have u1 := Same.trans d0 q1; clear q1) | (go_at_call 6; refine (HF2.out _ (t2.trans u1)).mono ?_; rintro e Z2 ⟨rfl, q2⟩; have u2 := Same.trans u1 q2; clear q2) | (go_at_call 7; refine (HT1.out _ _ _ _ _ _ _ _ (HA.out _ u2)).mono ?_; rintro e Z3 ⟨rfl, q3⟩; have u3 := Same.trans u2 q3; clear q3) | (go_at_call 8; refine (HT2.out _ (t2.trans u3)).mono ?_; rintro e Z4 ⟨rfl, q4⟩; have u4 := Same.trans u3 q4; clear q4))
  go_wp2_with fail
  refine (HK.out _ _ _ _ _ _ _ _ (t2.trans u4) (HA.out _ u4)).mono ?_
  rintro e W5 ⟨rfl, s5⟩
  have u5 := Same.trans u4 s5
  go_wp2_with fail
  refine (HFR.out _).mono ?_
  rintro e W6 ⟨rfl, s6⟩
  have u6 := Same.trans u5 s6
  go_wp2_with fail
  refine (HT0.out _).mono ?_
  rintro e W7 ⟨rfl, s7⟩
  have u7 := Same.trans u6 s7
  go_wp2_with fail
  refine (HAW.out _).mono ?_
  rintro e W8 ⟨rfl, s8⟩
  have u8 := Same.trans u7 s8
  go_wp2_with fail
  go_ret
  exact ⟨rfl, t2.trans u8⟩
end Go.Proofs.YtmhjlffceahbaaaGreat
