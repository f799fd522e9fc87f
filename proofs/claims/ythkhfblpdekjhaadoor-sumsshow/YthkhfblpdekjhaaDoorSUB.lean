/-
  A list of bytes that came in, opened.
-/
import Derived.Test.YthkhfblpdekjhaaDoorRows
import Derived.Test.YthkhfblpdekjhaaDoorSRM
import Derived.ProofKit
import Derived.OpenShut
import Derived.ChangeSlices
namespace Go.Proofs.YthkhfblpdekjhaaDoor
open Go.ChangeShapes Go.WideShapes Go.ChangeAt Go.RowKit

set_option maxRecDepth 100000 in
theorem open_bytes {H : Type} {enc : TypeId × Value → H} {W : World} {v : Value} {d : DataW H} {pl : List MemPlace} {base : Nat}
    (hv : Value.okWide Tryd.prog W .any base 42 v) (h : DataW.Trod enc Tryd.prog W 0 (fun _ => true) true 42 v d pl) :
    ∃ l pa pb po pc, v = .slice pa (l : List UInt8).length pc ∧ BIn W pa pb po l ∧ l.length ≤ 9223372036854775807 := by
  obtain ⟨a0, len0, cap0, rfl⟩ := okWide_slice Tryd.underlying42 hv
  obtain ⟨fuel, hf⟩ := h
  rcases open_ints Tryd.underlying42 Tryd.underlying5 (by kernel_rfl) hf with ⟨e, _⟩ | ⟨a, len, cap, zs, e, _, hl, hm, hz, hx, hcell, hws⟩
  · simp only [Value.cells, List.cons.injEq, and_true] at e
    exact ⟨[], none, 0, 0, 0, e, ⟨fun e => absurd rfl e, fun j s hj => by simp at hj⟩, by simp⟩
  · have hlen : zs.length = cap := by simpa using hz
    have hmx : maxLen = 9223372036854775807 := rfl
    simp only [Value.cells, List.cons.injEq, and_true] at e
    have htl : ((zs.take len).map fun z => UInt8.ofNat z.toNat).length = len := by rw [List.length_map, List.length_take]; omega
    by_cases h0 : len = 0
    · subst h0
      exact ⟨[], some a, 0, 0, cap, e, ⟨fun e => absurd rfl e, fun j s hj => by simp at hj⟩, by simp⟩
    · have hc0 := hcell 0 (by omega)
      obtain ⟨b, off, spot⟩ := a
      have hspot : spot = none := by simpa [Addr.add] using World.cell?_spot hc0
      subst hspot
      refine ⟨(zs.take len).map fun z => UInt8.ofNat z.toNat, some ⟨b, off, none⟩, b, off, cap, by rw [htl]; exact e, ⟨fun _ => rfl, ?_⟩, by omega⟩
      intro i x hi
      have hilt : i < len := by
        have := (List.getElem?_eq_some_iff.1 hi).1
        omega
      have hc := hcell i (by omega)
      rw [Addr.add_mid] at hc
      rw [hc]
      obtain ⟨z, hzz⟩ : ∃ z, zs[i]? = some z := ⟨_, List.getElem?_eq_getElem (by omega)⟩
      have hw := hws z (List.mem_of_getElem? hzz)
      have hw' : 0 ≤ z ∧ z ≤ 255 := by
        simp only [Lit.wf, Bool.and_eq_true, decide_eq_true_eq] at hw
        exact hw
      rw [List.getElem?_map, List.getElem?_take, if_pos hilt, hzz] at hi
      simp only [Option.map_some, Option.some.injEq] at hi
      rw [List.getD_eq_getElem?_getD, hzz]
      subst hi
      simp only [Option.getD_some]
      congr 2
      rw [UInt8.toNat_ofNat']
      omega
end Go.Proofs.YthkhfblpdekjhaaDoor
