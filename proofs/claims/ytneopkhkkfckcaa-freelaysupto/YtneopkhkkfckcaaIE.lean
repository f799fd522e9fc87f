/- free: what the laws lean on when they are opened. -/
import Derived.Test.YtneopkhkkfckcaaRows
import Derived.Test.YtneopkhkkfckcaaEA
import Derived.ProofKit
import Derived.OpenShut
namespace Go.Proofs.Ytneopkhkkfckcaa
open Go.ChangeShapes Go.WideShapes Go.ChangeAt Go.RowKit

theorem nd_own : ownKnob Try.prog.godebug = none := by kernel_rfl
theorem nd_laidOut : laidOutB Try.prog = true := by kernel_rfl
theorem Fr.below {S : Nat → Prop} {w w' : World} (h : Fr S w w') {B : Nat} (hB : B ≤ w.heap.size) (hS : ∀ k, S k → B ≤ k) : Below B w w' :=
  ⟨h.os, h.tape, h.output, h.size, fun k hk => h.block k (by omega) (fun s => by have := hS k s; omega)⟩
theorem Try.cellsFrame : Try.prog.cellsOf 39 = 2 := by kernel_rfl
set_option maxRecDepth 100000 in
theorem open_frame {H : Type} {enc : TypeId × Value → H} {W : World} {v : Value} {d : DataW H} {pl : List MemPlace} {base : Nat}
    (hv : Value.okWide Try.prog W .any base 39 v) (h : DataW.Trod enc Try.prog W 0 (fun _ => true) true 39 v d pl) :
    ∃ p q, v = .agg #[.int .i64 p, .int .i64 q] := by
  obtain ⟨cs, rfl, hz⟩ := okWide_struct Try.underlying39 hv
  rw [Try.cellsFrame] at hz
  obtain ⟨fuel, hf⟩ := h
  obtain ⟨x, y, rfl⟩ : ∃ x y, cs = #[x, y] := by
    obtain ⟨l⟩ := cs
    match l, hz with
    | [x, y], _ => exact ⟨x, y, rfl⟩
  obtain ⟨y0, y1, n, hx, _, f0, f1⟩ := trod_struct2 Try.underlying39 hf
  have c4 : Try.prog.cellsOf 3 = 1 := by kernel_rfl
  simp only [Value.cells, c4, List.drop_succ_cons, List.drop_zero, List.take_succ_cons, List.take_zero] at f0 f1
  obtain ⟨a, e0, g0, _⟩ := DataW.trod_int Try.underlying3 f0
  obtain ⟨b, e1, g1, _⟩ := DataW.trod_int Try.underlying3 f1
  simp only [List.cons.injEq, and_true] at e0 e1
  subst e0; subst e1
  exact ⟨a, b, rfl⟩
end Go.Proofs.Ytneopkhkkfckcaa
