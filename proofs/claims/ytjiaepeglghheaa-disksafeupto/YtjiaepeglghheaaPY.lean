/- A list of fates that came in, opened. -/
import Derived.Test.YtjiaepeglghheaaOZ
import Derived.Test.YtjiaepeglghheaaON
import Derived.OpenShut
import Derived.ChangeSlices
namespace Go.Proofs.Ytjiaepeglghheaa
open Go.ChangeShapes Go.WideShapes Go.ChangeAt Go.RowKit

theorem okWide_place {P : Program} {w : World} {r : Reach} {base : Nat} {t e : TypeId} {a : Addr} {n c : Nat} (ht : P.underlying t = some (.slice e)) (h : Value.okWide P w r base t (.slice (some a) n c)) : a.block < w.heap.size := by
  simp only [Value.okWide, ht, Cell.okWide, Cell.ok] at h
  obtain ⟨_, _, _, _, row, cells, hs, _⟩ := h
  unfold World.shape? at hs
  split at hs
  · rename_i hh; exact lt_of_heap hh
  · cases hs
set_option maxRecDepth 100000 in
theorem open_fates {H : Type} {enc : TypeId × Value → H} {W : World} {v : Value} {d : DataW H} {pl : List MemPlace} {base : Nat}
    (hv : Value.okWide Try.prog W .any base 33 v) (h : DataW.Trod enc Try.prog W 0 (fun _ => true) true 33 v d pl) :
    ∃ (l : List Nat) (pa : Option Addr) (pc : Nat), v = .slice pa l.length pc ∧ FtRow W pa l ∧ (∀ g o, pa = some ⟨g, o, none⟩ → g < W.heap.size) := by
  obtain ⟨a0, len0, cap0, rfl⟩ := okWide_slice Try.underlying33 hv
  have hlt : ∀ g o, a0 = some ⟨g, o, none⟩ → g < W.heap.size := fun g o e => by subst e; exact okWide_place Try.underlying33 hv
  obtain ⟨fuel, hf⟩ := h
  rcases open_ints Try.underlying33 Try.underlying38 (by kernel_rfl) hf with ⟨e, _⟩ | ⟨a, len, cap, zs, e, _, hl, hm, hz, hx, hcell, hws⟩
  · simp only [Value.cells, List.cons.injEq, and_true] at e
    exact ⟨[], none, 0, e, ⟨fun e => absurd rfl e, fun g o e => by cases e⟩, fun g o e => by cases e⟩
  · have hlen : zs.length = cap := by simpa using hz
    simp only [Value.cells, List.cons.injEq, and_true] at e
    injection e with e1 e2 e3
    subst e1 e2 e3
    have htl : ((zs.take len0).map Int.toNat).length = len0 := by rw [List.length_map, List.length_take]; omega
    refine ⟨(zs.take len0).map Int.toNat, some a, cap0, by rw [htl], ⟨fun hne => ?_, fun g o e2 i x hi => ?_⟩, hlt⟩
    · have h0 : len0 ≠ 0 := fun e => hne (List.eq_nil_of_length_eq_zero (by rw [htl]; exact e))
      have hc0 := hcell 0 (by omega)
      obtain ⟨b, off, spot⟩ := a
      have hspot : spot = none := by simpa [Addr.add] using World.cell?_spot hc0
      subst hspot
      exact ⟨b, off, rfl⟩
    · injection e2 with e2
      subst e2
      have hilt : i < len0 := by
        have := (List.getElem?_eq_some_iff.1 hi).1
        omega
      have hc := hcell i (by omega)
      rw [Addr.add_mid] at hc
      rw [hc]
      obtain ⟨z, hzz⟩ : ∃ z, zs[i]? = some z := ⟨_, List.getElem?_eq_getElem (by omega)⟩
      have hw := hws z (List.mem_of_getElem? hzz)
      have hw' : 0 ≤ z ∧ z ≤ 255 := by
        simp only [Lit.wf, Bool.and_eq_true, decide_eq_true_eq] at hw
        exact hw
      rw [List.getElem?_map, List.getElem?_take, if_pos hilt, hzz] at hi
      simp only [Option.map_some, Option.some.injEq] at hi
      rw [List.getD_eq_getElem?_getD, hzz]
      subst hi
      simp only [Option.getD_some]
      rw [Int.toNat_of_nonneg hw'.1]
end Go.Proofs.Ytjiaepeglghheaa
