/- free: takeSpare. -/
import Derived.Test.YtbpoklkaffaleaaEJ
namespace Go.Proofs.Ytbpoklkaffaleaa
open Go.RowKit Go.Maps

theorem six_set1 {w : World} {b : Nat} {x0 x1 x2 x3 x4 x5 : Value} {t : TypeId} (h : w.heap[b]? = some (.cells #[x0, x1, x2, x3, x4, x5] t (0, 0))) (v : Value) : (w.setCell ⟨b, 1, none⟩ v).heap[b]? = some (.cells #[x0, v, x2, x3, x4, x5] t (0, 0)) := by
  simp [World.setCell, Array.getElem?_modify, h]
theorem six_set2 {w : World} {b : Nat} {x0 x1 x2 x3 x4 x5 : Value} {t : TypeId} (h : w.heap[b]? = some (.cells #[x0, x1, x2, x3, x4, x5] t (0, 0))) (v : Value) : (w.setCell ⟨b, 2, none⟩ v).heap[b]? = some (.cells #[x0, x1, v, x3, x4, x5] t (0, 0)) := by
  simp [World.setCell, Array.getElem?_modify, h]
/-- The spares change, and nothing else. -/
theorem MkAt.spare {w W : World} {mb : Nat} {M : Mk} (h : MkAt w W mb M) (sa : Option Addr) (so sc : Nat) (S : List (Nat × Nat)) (hsub : ∀ x ∈ S, x ∈ M.S) (hsp : SpRow W sa M.sb so S) (hsc : S.length ≤ sc) (_hsm : sc ≤ M.sc) :
    MkAt w (W.setCell ⟨mb, 1, none⟩ (.slice sa S.length sc)) mb { M with sa := sa, so := so, sc := sc, S := S } := by
  have f : Fr (fun k => k = mb) W (W.setCell ⟨mb, 1, none⟩ (.slice sa S.length sc)) := (Fr.refl (fun k => k = mb) _).setCell (p := ⟨mb, 1, none⟩) (fun _ => rfl) _
  have he : S ≠ [] → M.S ≠ [] := fun e e2 => by
    obtain ⟨x, xs, rfl⟩ := List.exists_cons_of_ne_nil e
    have := hsub x (List.mem_cons_self ..)
    rw [e2] at this
    cases this
  exact ⟨six_set1 h.hm _, h.set.fr f (fun e => h.ne e.symm), hsp.fr f (fun e => (h.ap (he e)).1), fun e => h.ap (he e), Fr.trans h.base f (fun k hk e => by have := h.ge.1; omega), h.ge, h.bn, fun x hx => h.vs x (hsub x hx), hsc, Nat.zero_le _⟩
set_option maxRecDepth 100000 in
set_option maxHeartbeats 1000000 in
theorem takeSpare_calls {w0 w : World} {mb no bt : Nat} {M : Mk} {S' : List (Nat × Nat)} (h : MkAt w0 w mb M) (hS : M.S = (no, bt) :: S') :
    Calls Try.prog 62 #[.pointer (some ⟨mb, 0, none⟩)] w fun e w' => e = .returned (.int .u32 (no : Int)) ∧ (∃ sa so sc, MkAt w0 w' mb { M with sa := sa, so := so, sc := sc, S := S', D := delN M.D no }) ∧ Fr (fun k => k = mb ∨ k = M.lb) w w' := by
  have HH : Hid (MkAt w0 w mb M) := h
  have hl : M.S.length = S'.length + 1 := by rw [hS]; rfl
  have HL : Hid (M.S.length = S'.length + 1 ∧ S'.length + 1 ≤ M.sc ∧ 0 ≤ M.sc) := ⟨hl, by rw [← hl]; exact h.sc, h.scm⟩
  have hne : M.S ≠ [] := by rw [hS]; simp
  obtain ⟨hpa, hlt⟩ := h.sp.place hne
  obtain ⟨q0, q1⟩ := h.sp.cells 0 (no, bt) (by rw [hS]; rfl)
  simp only [Nat.zero_mul, Nat.add_zero] at q0 q1
  obtain ⟨c0, c1, c2, c3, c4, c5⟩ := h.cell
  rw [hpa, hl] at c1
  have z1 := h.frozen 1
  have hlen1 : (0 : Int) < ((S'.length + 1 : Nat) : Int) := by omega
  have hsc1 : (1 : Int) ≤ ((S'.length + 1 : Nat) : Int) := by omega
  have HKY : Hid (keyOf Try.prog 25 (.int .u32 (no : Int)) = some (.int .u32 (no : Int))) := ukeyOf (h.vs (no, bt) (by rw [hS]; exact List.mem_cons_self ..))
  have hsub : ∀ x ∈ S', x ∈ M.S := fun x hx => by rw [hS]; exact List.mem_cons_of_mem _ hx
  by_cases hsc : M.sc = 1
  · have hS0 : S' = [] := List.eq_nil_of_length_eq_zero (by have := HL.out; omega)
    have HM1 : Hid (MkAt w0 (w.setCell ⟨mb, 1, none⟩ (.slice (some ⟨M.sb, M.so, none⟩) S'.length 0)) mb { M with sa := some ⟨M.sb, M.so, none⟩, so := M.so, sc := 0, S := S' }) := h.spare _ _ _ _ hsub ⟨fun e => absurd hS0 e, fun j x hx => by rw [hS0] at hx; simp at hx⟩ (by rw [hS0]; simp) (Nat.zero_le _)
    have HST : Hid (SetAt (w.setCell ⟨mb, 1, none⟩ (.slice (some ⟨M.sb, M.so, none⟩) S'.length 0)) M.lb M.n M.D) := HM1.out.set
    clear h hS hl hne hpa hlt hS0 hsub
    go_enter Try.func62, Try.ntmps62
    go_wp2_with (at_delete; refine wpList_delete_own _ rfl _ _ 46 25 rfl 98 ukey Try.underlying46 (unitElem (H := Unit)) M.lb M.n M.D rfl HST.out _ _ rfl HKY.out ?_; intro W1 o1 t1)
    have f1 : Fr (fun k => k = M.lb) _ W1 := Fr.grown (Fr.refl _ _) t1.grown (fun k e _ => by cases e; rfl)
    have HM2 : Hid (MkAt w0 W1 mb { M with sa := some ⟨M.sb, M.so, none⟩, so := M.so, sc := 0, S := S', D := delN M.D no }) := HM1.out.loose f1 o1 HM1.out.bn
    have HFF : Hid (Fr (fun k => k = mb ∨ k = M.lb) w W1) := Fr.trans ((Fr.refl (fun k => k = mb ∨ k = M.lb) w).setCell (p := ⟨mb, 1, none⟩) (fun _ => Or.inl rfl) _) (f1.mono (fun _ _ e => Or.inr e)) (fun _ _ e => e)
    clear f1 o1 t1
    go_wp2_with fail
    go_ret
    exact ⟨rfl, ⟨_, _, _, HM2.out⟩, HFF.out⟩
  · have hrow : SpRow w (some ⟨M.sb, M.so + 2, none⟩) M.sb (M.so + 2) S' := ⟨fun _ => ⟨rfl, hlt⟩, fun j x hx => by
      have := h.sp.cells (j + 1) x (by rw [hS]; exact hx)
      rw [show M.so + (j + 1) * 2 = M.so + 2 + j * 2 from by omega] at this
      exact this⟩
    have HM1 : Hid (MkAt w0 (w.setCell ⟨mb, 1, none⟩ (.slice (some ⟨M.sb, M.so + 2, none⟩) S'.length (M.sc - 1))) mb { M with sa := some ⟨M.sb, M.so + 2, none⟩, so := M.so + 2, sc := M.sc - 1, S := S' }) := h.spare _ _ _ _ hsub hrow (by have := HL.out; omega) (Nat.sub_le _ _)
    have HST : Hid (SetAt (w.setCell ⟨mb, 1, none⟩ (.slice (some ⟨M.sb, M.so + 2, none⟩) S'.length (M.sc - 1))) M.lb M.n M.D) := HM1.out.set
    clear h hS hl hne hpa hlt hsub hrow
    go_enter Try.func62, Try.ntmps62
    go_wp2_with (at_delete; refine wpList_delete_own _ rfl _ _ 46 25 rfl 98 ukey Try.underlying46 (unitElem (H := Unit)) M.lb M.n M.D rfl HST.out _ _ rfl HKY.out ?_; intro W1 o1 t1)
    have f1 : Fr (fun k => k = M.lb) _ W1 := Fr.grown (Fr.refl _ _) t1.grown (fun k e _ => by cases e; rfl)
    have HM2 : Hid (MkAt w0 W1 mb { M with sa := some ⟨M.sb, M.so + 2, none⟩, so := M.so + 2, sc := M.sc - 1, S := S', D := delN M.D no }) := HM1.out.loose f1 o1 HM1.out.bn
    have HFF : Hid (Fr (fun k => k = mb ∨ k = M.lb) w W1) := Fr.trans ((Fr.refl (fun k => k = mb ∨ k = M.lb) w).setCell (p := ⟨mb, 1, none⟩) (fun _ => Or.inl rfl) _) (f1.mono (fun _ _ e => Or.inr e)) (fun _ _ e => e)
    clear f1 o1 t1
    go_wp2_with fail
    go_ret
    exact ⟨rfl, ⟨_, _, _, HM2.out⟩, HFF.out⟩
end Go.Proofs.Ytbpoklkaffaleaa
