/- A pair that comes in, opened. -/
import Derived.Test.YtkkjalmedogmeaaKV
namespace Go.Proofs.Ytkkjalmedogmeaa
open Go.ChangeShapes Go.WideShapes Go.ChangeAt Go.RowKit Go.Joins

set_option maxRecDepth 100000 in
theorem open_pair {H : Type} {enc : TypeId × Value → H} {W : World} {v : Value} {d : DataW H} {pl : List MemPlace} {base : Nat}
    (hv : Value.okWide Try.prog W .any base 30 v) (h : DataW.Trod enc Try.prog W 0 (fun _ => true) true 30 v d pl) :
    ∃ a b, v = .agg #[.string a, .string b] := by
  obtain ⟨cs, rfl, hz⟩ := okWide_struct Try.underlying30 hv
  rw [show Try.prog.cellsOf 30 = 2 from by kernel_rfl] at hz
  obtain ⟨fuel, hf⟩ := h
  obtain ⟨x, y, rfl⟩ : ∃ x y, cs = #[x, y] := by
    obtain ⟨l⟩ := cs
    match l, hz with
    | [x, y], _ => exact ⟨x, y, rfl⟩
  obtain ⟨y0, y1, n, hx, _, f0, f1⟩ := trod_struct2 Try.underlying30 hf
  have c4 : Try.prog.cellsOf 9 = 1 := by kernel_rfl
  simp only [Value.cells, c4, List.drop_succ_cons, List.drop_zero, List.take_succ_cons, List.take_zero] at f0 f1
  obtain ⟨a, e0, g0, _⟩ := DataW.trod_string Try.underlying9 f0
  obtain ⟨b, e1, g1, _⟩ := DataW.trod_string Try.underlying9 f1
  simp only [List.cons.injEq, and_true] at e0 e1
  subst e0; subst e1
  exact ⟨a, b, rfl⟩
end Go.Proofs.Ytkkjalmedogmeaa
