/- Slots and turns that come in, opened. -/
import Derived.Test.YtaknpcimdpdekaaDoorMU
namespace Go.Proofs.YtaknpcimdpdekaaDoor
open Go.ChangeShapes Go.WideShapes Go.ChangeAt Go.RowKit Go.Joins
theorem Tryd.cellsSlots : Tryd.prog.cellsOf 25 = 2 := by kernel_rfl
set_option maxRecDepth 100000 in
theorem open_slots {H : Type} {enc : TypeId × Value → H} {W : World} {v : Value} {d : DataW H} {pl : List MemPlace} {base : Nat}
    (hv : Value.okWide Tryd.prog W .any base 25 v) (h : DataW.Trod enc Tryd.prog W 0 (fun _ => true) true 25 v d pl) :
    ∃ z o : ByteArray, v = .agg #[.string z, .string o] := by
  obtain ⟨cs, rfl, hz⟩ := okWide_struct Tryd.underlying25 hv
  rw [Tryd.cellsSlots] at hz
  obtain ⟨fuel, hf⟩ := h
  obtain ⟨x, y, rfl⟩ : ∃ x y, cs = #[x, y] := by
    obtain ⟨l⟩ := cs
    match l, hz with
    | [x, y], _ => exact ⟨x, y, rfl⟩
  obtain ⟨y0, y1, n, hx, _, f0, f1⟩ := trod_struct2 Tryd.underlying25 hf
  have c4 : Tryd.prog.cellsOf 9 = 1 := by kernel_rfl
  simp only [Value.cells, c4, List.drop_succ_cons, List.drop_zero, List.take_succ_cons, List.take_zero] at f0 f1
  obtain ⟨a, e0, _, _⟩ := DataW.trod_string Tryd.underlying9 f0
  obtain ⟨b, e1, _, _⟩ := DataW.trod_string Tryd.underlying9 f1
  simp only [List.cons.injEq, and_true] at e0 e1
  subst e0; subst e1
  exact ⟨a, b, rfl⟩
end Go.Proofs.YtaknpcimdpdekaaDoor
