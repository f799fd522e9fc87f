/- Frames and pages that come in, opened. -/
import Derived.Test.YtajpgopgohadeaaDoorG8
import Derived.Test.YtajpgopgohadeaaDoorSNC
import Derived.OpenShut
import Derived.Lib.SmallJoins
namespace Go.Proofs.YtajpgopgohadeaaDoor
open Go.ChangeShapes Go.WideShapes Go.ChangeAt Go.RowKit Go.Joins

theorem Tryd.cellsFrame : Tryd.prog.cellsOf 23 = 2 := by kernel_rfl
theorem Tryd.cellsPage : Tryd.prog.cellsOf 41 = 4 := by kernel_rfl
set_option maxRecDepth 100000 in
theorem open_frame_in {H : Type} {enc : TypeId × Value → H} {W : World} {d : DataW H × List MemPlace} {fuel : Nat} {cs : List Value} (hz : cs.length = 2)
    (hf : DataW.trod enc Tryd.prog W 0 (fun _ => true) true fuel 23 cs = some d) : ∃ p q, cs = [.int .i64 p, .int .i64 q] := by
  obtain ⟨x, y, rfl⟩ : ∃ x y, cs = [x, y] := by
    match cs, hz with
    | [x, y], _ => exact ⟨x, y, rfl⟩
  obtain ⟨y0, y1, n, hx, _, f0, f1⟩ := trod_struct2 Tryd.underlying23 hf
  have c4 : Tryd.prog.cellsOf 3 = 1 := by kernel_rfl
  simp only [c4, List.drop_succ_cons, List.drop_zero, List.take_succ_cons, List.take_zero] at f0 f1
  obtain ⟨a, e0, g0, _⟩ := DataW.trod_int Tryd.underlying3 f0
  obtain ⟨b, e1, g1, _⟩ := DataW.trod_int Tryd.underlying3 f1
  simp only [List.cons.injEq, and_true] at e0 e1
  subst e0; subst e1
  exact ⟨a, b, rfl⟩
set_option maxRecDepth 100000 in
theorem open_frame {H : Type} {enc : TypeId × Value → H} {W : World} {v : Value} {d : DataW H} {pl : List MemPlace} {base : Nat}
    (hv : Value.okWide Tryd.prog W .any base 23 v) (h : DataW.Trod enc Tryd.prog W 0 (fun _ => true) true 23 v d pl) :
    ∃ p q, v = frameV p q := by
  obtain ⟨cs, rfl, hz⟩ := okWide_struct Tryd.underlying23 hv
  rw [Tryd.cellsFrame] at hz
  obtain ⟨fuel, hf⟩ := h
  obtain ⟨p, q, e⟩ := open_frame_in (cs := cs.toList) (by simpa using hz) hf
  refine ⟨p, q, ?_⟩
  obtain ⟨l⟩ := cs
  simp only at e
  rw [e]
set_option maxRecDepth 100000 in
theorem open_page_in {H : Type} {enc : TypeId × Value → H} {W : World} {d : DataW H × List MemPlace} {fuel : Nat} {cs : List Value} (hz : cs.length = 4)
    (hf : DataW.trod enc Tryd.prog W 0 (fun _ => true) true fuel 41 cs = some d) : ∃ (kd no vs : Nat) (b : ByteArray), cs = [.int .u8 kd, .int .u32 no, .int .u64 vs, .string b] ∧ kd < 256 ∧ no < 4294967296 ∧ vs < 18446744073709551616 := by
  obtain ⟨x, y, z, u, rfl⟩ : ∃ x y z u, cs = [x, y, z, u] := by
    match cs, hz with
    | [x, y, z, u], _ => exact ⟨x, y, z, u, rfl⟩
  obtain ⟨y0, y1, y2, y3, n, hx, _, f0, f1, f2, f3⟩ := trod_struct4 Tryd.underlying41 hf
  have c1 : Tryd.prog.cellsOf 38 = 1 := by kernel_rfl
  have c2 : Tryd.prog.cellsOf 29 = 1 := by kernel_rfl
  have c3 : Tryd.prog.cellsOf 39 = 1 := by kernel_rfl
  have c4 : Tryd.prog.cellsOf 9 = 1 := by kernel_rfl
  simp only [c1, c2, c3, c4, List.drop_succ_cons, List.drop_zero, List.take_succ_cons, List.take_zero] at f0 f1 f2 f3
  obtain ⟨a0, e0, g0, w0⟩ := DataW.trod_int Tryd.underlying38 f0
  obtain ⟨a1, e1, g1, w1⟩ := DataW.trod_int Tryd.underlying29 f1
  obtain ⟨a2, e2, g2, w2⟩ := DataW.trod_int Tryd.underlying39 f2
  obtain ⟨b, e3, g3, _⟩ := DataW.trod_string Tryd.underlying9 f3
  simp only [List.cons.injEq, and_true] at e0 e1 e2 e3
  subst e0; subst e1; subst e2; subst e3
  have b0 := bounds_u8 w0
  have b1 := bounds_u32 w1
  have b2 := bounds_u64 w2
  obtain ⟨k0, rfl⟩ := Int.eq_ofNat_of_zero_le b0.1
  obtain ⟨k1, rfl⟩ := Int.eq_ofNat_of_zero_le b1.1
  obtain ⟨k2, rfl⟩ := Int.eq_ofNat_of_zero_le b2.1
  exact ⟨k0, k1, k2, b, rfl, by omega, by omega, by omega⟩
set_option maxRecDepth 100000 in
theorem open_page {H : Type} {enc : TypeId × Value → H} {W : World} {v : Value} {d : DataW H} {pl : List MemPlace} {base : Nat}
    (hv : Value.okWide Tryd.prog W .any base 41 v) (h : DataW.Trod enc Tryd.prog W 0 (fun _ => true) true 41 v d pl) :
    ∃ (kd no vs : Nat) (b : ByteArray), v = pageV kd no vs b ∧ kd < 256 ∧ no < 4294967296 ∧ vs < 18446744073709551616 := by
  obtain ⟨cs, rfl, hz⟩ := okWide_struct Tryd.underlying41 hv
  rw [Tryd.cellsPage] at hz
  obtain ⟨fuel, hf⟩ := h
  obtain ⟨kd, no, vs, b, e, h1, h2, h3⟩ := open_page_in (cs := cs.toList) (by simpa using hz) hf
  refine ⟨kd, no, vs, b, ?_, h1, h2, h3⟩
  obtain ⟨l⟩ := cs
  simp only at e
  rw [e]
end Go.Proofs.YtajpgopgohadeaaDoor
