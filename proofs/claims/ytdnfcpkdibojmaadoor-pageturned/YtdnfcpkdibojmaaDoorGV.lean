/- A Turn that comes in, opened. -/
import Derived.Test.YtdnfcpkdibojmaaDoorGU
import Derived.Test.YtdnfcpkdibojmaaDoorGT
namespace Go.Proofs.YtdnfcpkdibojmaaDoor
open Go.ChangeShapes Go.WideShapes Go.ChangeAt Go.RowKit Go.Joins

theorem Tryd.cellsTurn : Tryd.prog.cellsOf 41 = 8 := by kernel_rfl
set_option maxRecDepth 100000 in
theorem open_turn {H : Type} {enc : TypeId × Value → H} {W : World} {v : Value} {d : DataW H} {pl : List MemPlace} {base : Nat}
    (hv : Value.okWide Tryd.prog W .any base 41 v) (h : DataW.Trod enc Tryd.prog W 0 (fun _ => true) true 41 v d pl) :
    ∃ (p q : Int) (kd no vs : Nat) (b : ByteArray) (at' : Int) (mask : Nat), v = turnV p q kd no vs b at' mask ∧ kd < 256 ∧ no < 4294967296 ∧ vs < 18446744073709551616 ∧ mask < 4294967296 := by
  obtain ⟨cs, rfl, hz⟩ := okWide_struct Tryd.underlying41 hv
  rw [Tryd.cellsTurn] at hz
  obtain ⟨fuel, hf⟩ := h
  obtain ⟨x0, x1, x2, x3, x4, x5, x6, x7, rfl⟩ : ∃ x0 x1 x2 x3 x4 x5 x6 x7, cs = #[x0, x1, x2, x3, x4, x5, x6, x7] := by
    obtain ⟨l⟩ := cs
    match l, hz with
    | [x0, x1, x2, x3, x4, x5, x6, x7], _ => exact ⟨x0, x1, x2, x3, x4, x5, x6, x7, rfl⟩
  obtain ⟨y0, y1, y2, y3, n, hx, _, f0, f1, f2, f3⟩ := trod_struct4 Tryd.underlying41 hf
  have c3 : Tryd.prog.cellsOf 3 = 1 := by kernel_rfl
  have c4 : Tryd.prog.cellsOf 26 = 1 := by kernel_rfl
  simp only [Value.cells, Tryd.cellsFrame, Tryd.cellsPage, c3, c4, List.drop_succ_cons, List.drop_zero, List.take_succ_cons, List.take_zero] at f0 f1 f2 f3
  obtain ⟨p, q, e0⟩ := open_frame_in (by rfl) f0
  obtain ⟨kd, no, vs, b, e1, h1, h2, h3⟩ := open_page_in (by rfl) f1
  obtain ⟨a2, e2, g2, w2⟩ := DataW.trod_int Tryd.underlying3 f2
  obtain ⟨a3, e3, g3, w3⟩ := DataW.trod_int Tryd.underlying26 f3
  simp only [List.cons.injEq, and_true] at e0 e1 e2 e3
  obtain ⟨rfl, rfl⟩ := e0
  obtain ⟨rfl, rfl, rfl, rfl⟩ := e1
  subst e2; subst e3
  have b3 := bounds_u32 w3
  obtain ⟨k3, rfl⟩ := Int.eq_ofNat_of_zero_le b3.1
  exact ⟨p, q, kd, no, vs, b, a2, k3, rfl, h1, h2, h3, by omega⟩
end Go.Proofs.YtdnfcpkdibojmaaDoor
