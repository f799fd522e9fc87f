/- free: list, where a spare of an opened batch is left. -/
import Derived.Test.YtbpoklkaffaleaaEN
namespace Go.Proofs.Ytbpoklkaffaleaa
open Go.RowKit Go.Maps

set_option maxRecDepth 100000 in
set_option maxHeartbeats 1000000 in
theorem list_spare {w0 w : World} {mb no bt : Nat} {M : Mk} {S' : List (Nat × Nat)} (h : MkAt w0 w mb M) (hS : M.S = (no, bt) :: S') (hbt : bt < M.opened) :
    Calls Try.prog 53 #[.pointer (some ⟨mb, 0, none⟩)] w fun e w' => e = .returned (.tuple #[.int .u32 (no : Int), .int .i64 0]) ∧ (∃ sa so sc, MkAt w0 w' mb { M with sa := sa, so := so, sc := sc, S := S', D := delN M.D no }) ∧ Fr (fun k => k = mb ∨ k = M.lb) w w' := by
  have HH : Hid (MkAt w0 w mb M) := h
  have HS : Hid (M.S = (no, bt) :: S') := hS
  have hl : M.S.length = S'.length + 1 := by rw [hS]; rfl
  obtain ⟨c0, c1, c2, c3, c4, c5⟩ := h.cell
  obtain ⟨hpa, hlt⟩ := h.sp.place (by rw [hS]; simp)
  obtain ⟨q0, q1⟩ := h.sp.cells 0 (no, bt) (by rw [hS]; rfl)
  simp only [Nat.zero_mul, Nat.add_zero] at hpa q0 q1
  rw [hpa, hl] at c1
  have hlen1 : (0 : Int) < ((S'.length + 1 : Nat) : Int) := by omega
  have hlen2 : (0 : Int) < (S'.length : Int) + 1 := by omega
  have hbi : (bt : Int) < (M.opened : Int) := by omega
  clear h hS c0 c3 c4 c5 q0 hlt hl hpa
  go_enter Try.func53, Try.ntmps53
  go_wp2_with fail
  go_step3
  go_wp2_with fail
  go_step3
  go_wp2_with fail
  refine wp_loop_rounds 1 ?_
  rw [rounds_succ]
  go_wp2_with fail
  go_region
  have HM1 : Hid (MkAt w0 w.drew mb M ∧ Same w w.drew) := ⟨HH.out.same (Fr.drew (Fr.refl _ w)), Fr.drew (Fr.refl _ w)⟩
  generalize w.drew = X at *
  clear c1 c2 q1 hlen1 hlen2 hbi hbt
  go_wp2_with fail
  refine (takeSpare_calls HM1.out.1 HS.out).mono ?_
  rintro e X2 ⟨rfl, ⟨sa, so, sc, m2⟩, f2⟩
  have HM2 : Hid (MkAt w0 X2 mb { M with sa := sa, so := so, sc := sc, S := S', D := delN M.D no }) := m2
  have HF2 : Hid (Fr (fun k => k = mb ∨ k = M.lb) w X2) := Fr.trans (HM1.out.2.mono (fun _ _ e => e.elim)) f2 (fun _ _ e => e)
  clear m2 f2
  go_wp2_with fail
  try rw [Exit.noGoto_ret]
  go_ret2
  exact ⟨rfl, ⟨sa, so, sc, HM2.out⟩, HF2.out⟩
end Go.Proofs.Ytbpoklkaffaleaa
