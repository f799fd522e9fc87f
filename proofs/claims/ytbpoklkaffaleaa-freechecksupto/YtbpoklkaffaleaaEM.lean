/- free: tree, where spares are left. -/
import Derived.Test.YtbpoklkaffaleaaEL
namespace Go.Proofs.Ytbpoklkaffaleaa
open Go.RowKit Go.Maps

/-- What is loose behind batches that were opened. -/
def opD (D : SetD) : List Bt → SetD
  | [] => D
  | x :: xs => opD (loD (loD D [x.pg]) x.ns) xs
theorem drop_take {α : Type} {L : List α} {o t : Nat} {x : α} (hx : L[o]? = some x) (h : o ≤ t) : (L.drop o).take (t + 1 - o) = x :: (L.drop (o + 1)).take (t + 1 - (o + 1)) := by
  obtain ⟨hl, e⟩ := List.getElem?_eq_some_iff.1 hx
  rw [List.drop_eq_getElem_cons hl, e, show t + 1 - o = (t + 1 - (o + 1)) + 1 from by omega, List.take_succ_cons]
set_option maxRecDepth 100000 in
set_option maxHeartbeats 1000000 in
theorem tree_calls {w0 w : World} {mb cb co no bt : Nat} {M : Mk} {L : List Bt} {S' : List (Nat × Nat)} (h : MkAt w0 w mb M) (hch : BtRow w0 M.ca cb co L) (hcl : M.cl = L.length) (hS : M.S = (no, bt) :: S') (hbt : bt < L.length) (hlm : L.length ≤ 100) (ho : M.opened ≤ bt + 1) (hb : M.n + 1001 * L.length ≤ 500000) :
    Calls Try.prog 52 #[.pointer (some ⟨mb, 0, none⟩)] w fun e w' => e = .returned (.tuple #[.int .u32 (no : Int), .int .i64 0]) ∧ (∃ sa so sc n', n' ≤ M.n + 1001 * (bt + 1 - M.opened) ∧ MkAt w0 w' mb { M with sa := sa, so := so, sc := sc, S := S', opened := bt + 1, n := n', D := delN (opD M.D ((L.drop M.opened).take (bt + 1 - M.opened))) no }) ∧ Fr (fun k => k = mb ∨ k = M.lb) w w' := by
  have HH : Hid (MkAt w0 w mb M) := h
  have HCH : Hid (BtRow w0 M.ca cb co L) := hch
  have HCL : Hid (M.cl = L.length ∧ L.length ≤ 100 ∧ bt < L.length ∧ M.n + 1001 * L.length ≤ 500000) := ⟨hcl, hlm, hbt, hb⟩
  have HS : Hid (M.S = (no, bt) :: S') := hS
  have hl : M.S.length = S'.length + 1 := by rw [hS]; rfl
  have hlz : (((S'.length : Int) + 1 == 0)) = false := by rw [beq_eq_false_iff_ne]; omega
  obtain ⟨c0, c1, c2, c3, c4, c5⟩ := h.cell
  rw [hl] at c1
  have HO : Hid (M.opened ≤ bt + 1) := ho
  clear h hch hcl hlm hbt hb hS c0 c2 c3 c4 c5
  go_enter Try.func52, Try.ntmps52
  go_wp2_with fail
  clear c1
  go_loopg [] (bt + 1 - M.opened) (fun g wr => ∃ (o' n' : Nat) (D' : SetD), o' ≤ bt + 1 ∧ g = bt + 1 - o' ∧ Hid (M.opened ≤ o' ∧ n' ≤ M.n + 1001 * (o' - M.opened)) ∧ Hid (MkAt w0 wr mb { M with opened := o', n := n', D := D' }) ∧ Hid (opD M.D ((L.drop M.opened).take (bt + 1 - M.opened)) = opD D' ((L.drop o').take (bt + 1 - o'))) ∧ Hid (Fr (fun k => k = mb ∨ k = M.lb) w wr))
  case atStart => exact ⟨M.opened, M.n, M.D, HO.out, rfl, ⟨Nat.le_refl _, by omega⟩, HH.out, rfl, Fr.refl _ _⟩
  case round =>
    obtain ⟨o', n', D', ho', hg, HOO, HM, HD, HFR⟩ := hrel
    have hm := HM.out
    obtain ⟨c0, c1, c2, c3, c4, c5⟩ := hm.cell
    obtain ⟨hpa, hlt⟩ := hm.sp.place (by show M.S ≠ []; rw [HS.out]; simp)
    obtain ⟨q0, q1⟩ := hm.sp.cells 0 (no, bt) (by show M.S[0]? = _; rw [HS.out]; rfl)
    simp only [Nat.zero_mul, Nat.add_zero] at hpa q0 q1 c1 c2 hlt
    rw [hpa, hl] at c1
    have hlen1 : (0 : Int) < ((S'.length + 1 : Nat) : Int) := by omega
    clear hm c0 c3 c4 c5 q0 hlt
    by_cases hgo : o' ≤ bt
    · have hgi : (o' : Int) ≤ (bt : Int) := by omega
      obtain ⟨x, hx⟩ : ∃ x, L[o']? = some x := ⟨_, List.getElem?_eq_getElem (by have := HCL.out; omega)⟩
      have HX : Hid (L[o']? = some x) := hx
      clear hx
      go_wp2_with fail
      go_region
      have HM1 : Hid (MkAt w0 wr.drew mb { M with opened := o', n := n', D := D' }) := HM.out.same (Fr.drew (Fr.refl _ _))
      have HFX : Hid (Fr (fun k => k = mb ∨ k = M.lb) w wr.drew) := Fr.drew HFR.out
      generalize wr.drew = X at *
      clear c1 c2 q1 hpa hgi hlen1
      go_wp2_with fail
      refine (open_batch HM1.out HCH.out HCL.out.1 HX.out (by have := HCL.out; omega) ?_).mono ?_
      · have h1 := HCL.out
        have h2 := HOO.out
        have h3 := ((HCH.out.same HM1.out.base).cells _ _ HX.out).2.2.hl
        show n' + 1 + x.ns.length ≤ 500000
        have h4 : o' - M.opened + 1 ≤ L.length := by omega
        have h5 : 1001 * (o' - M.opened + 1) ≤ 1001 * L.length := Nat.mul_le_mul_left _ h4
        omega
      rintro e X2 ⟨rfl, m2, f2⟩
      have HFX2 : Hid (Fr (fun k => k = mb ∨ k = M.lb) w X2) := Fr.trans HFX.out f2 (fun _ _ e => e)
      clear f2
      have HM2 : Hid (MkAt w0 X2 mb { M with opened := o' + 1, n := n' + 1 + x.ns.length, D := loD (loD D' [x.pg]) x.ns }) := m2
      have HO2 : Hid (M.opened ≤ o' + 1 ∧ n' + 1 + x.ns.length ≤ M.n + 1001 * (o' + 1 - M.opened)) := by
        have h2 := HOO.out
        have h3 := ((HCH.out.same HM1.out.base).cells _ _ HX.out).2.2.hl
        exact ⟨by omega, by omega⟩
      have HD2 : Hid (opD M.D ((L.drop M.opened).take (bt + 1 - M.opened)) = opD (loD (loD D' [x.pg]) x.ns) ((L.drop (o' + 1)).take (bt + 1 - (o' + 1)))) := by
        show _ = _
        rw [HD.out, drop_take HX.out hgo]
        rfl
      clear m2
      go_wp2_with fail
      go_roundg (bt + 1 - (o' + 1))
      case measure => omega
      case rel => exact ⟨o' + 1, _, _, by omega, rfl, HO2, HM2, HD2, HFX2⟩
    · have hgi : ¬ (o' : Int) ≤ (bt : Int) := by omega
      have heo : o' = bt + 1 := by omega
      go_wp2_with fail
      go_region
      have HM1 : Hid (MkAt w0 wr.drew mb { M with opened := bt + 1, n := n', D := opD M.D ((L.drop M.opened).take (bt + 1 - M.opened)) }) := by
        have h1 := HM.out.same (Fr.drew (Fr.refl _ wr))
        have h2 := HD.out
        rw [heo, Nat.sub_self, List.take_zero] at h2
        show MkAt _ _ _ _
        rw [h2, ← heo]
        exact h1
      have HN1 : Hid (n' ≤ M.n + 1001 * (bt + 1 - M.opened)) := by have := HOO.out.2; rw [heo] at this; exact this
      have HFX : Hid (Fr (fun k => k = mb ∨ k = M.lb) w wr.drew) := Fr.drew HFR.out
      generalize wr.drew = X at *
      clear c1 c2 q1 hpa hgi hlen1 heo HM HD HOO
      go_wp2_with fail
      refine (takeSpare_calls HM1.out HS.out).mono ?_
      rintro e X2 ⟨rfl, ⟨sa, so, sc, m2⟩, f2⟩
      have HFX2 : Hid (Fr (fun k => k = mb ∨ k = M.lb) w X2) := Fr.trans HFX.out f2 (fun _ _ e => e)
      clear f2
      have HM2 : Hid (MkAt w0 X2 mb { M with sa := sa, so := so, sc := sc, S := S', opened := bt + 1, n := n', D := delN (opD M.D ((L.drop M.opened).take (bt + 1 - M.opened))) no }) := m2
      clear m2
      go_wp2_with fail
      go_ret2
      exact ⟨rfl, ⟨sa, so, sc, n', HN1.out, HM2.out⟩, HFX2.out⟩
end Go.Proofs.Ytbpoklkaffaleaa
