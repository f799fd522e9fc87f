/- Records that come in, opened. -/
import Derived.Test.YtaknpcimdpdekaaDoorMN
namespace Go.Proofs.YtaknpcimdpdekaaDoor
open Go.ChangeShapes Go.WideShapes Go.ChangeAt Go.RowKit Go.Joins

theorem list_of_ones (l : List Value) (h : ∀ i, i < l.length → ∃ x : UInt8, l[i]? = some (.int .u8 x.toNat)) : ∃ D : List UInt8, l = bcells D := by
  induction l with
  | nil => exact ⟨[], rfl⟩
  | cons v l ih =>
    obtain ⟨x, hx⟩ := h 0 (by simp)
    obtain ⟨D, hD⟩ := ih (fun i hi => by have := h (i + 1) (by simp; omega); simpa using this)
    refine ⟨x :: D, ?_⟩
    rw [List.getElem?_cons_zero, Option.some.injEq] at hx
    rw [hx, hD]; rfl
set_option maxRecDepth 100000 in
theorem open_digest_in {H : Type} {enc : TypeId × Value → H} {W : World} {d : DataW H × List MemPlace} {fuel : Nat} {cs : List Value}
    (hf : DataW.trod enc Tryd.prog W 0 (fun _ => true) true fuel 30 cs = some d) : ∃ D : List UInt8, cs = bcells D ∧ D.length = 32 := by
  obtain ⟨xs, m, _, _, hl, hn, hi⟩ := DataW.trod_array Tryd.aund32 hf
  rw [Tryd.cellsDig] at hl
  rw [Tryd.cells8] at hi
  have hall : ∀ i, i < cs.length → ∃ x : UInt8, cs[i]? = some (.int .u8 x.toNat) := by
    intro i hlt
    have h1 := hi i (by omega)
    rw [List.getElem?_eq_getElem (show i < xs.length by omega), Nat.mul_one] at h1
    obtain ⟨n, e, _, wf⟩ := DataW.trod_int Tryd.und8 h1
    have hb := bounds_u8 wf
    have e2 : cs[i]? = some (.int .u8 n) := by
      have := congrArg (fun l => l[0]?) e
      simp only [List.getElem?_take, List.getElem?_drop, List.getElem?_cons_zero, Nat.add_zero] at this
      simpa using this
    refine ⟨UInt8.ofNat n.toNat, ?_⟩
    rw [e2]
    congr 2
    rw [UInt8.toNat_ofNat']
    omega
  obtain ⟨D, hD⟩ := list_of_ones cs hall
  exact ⟨D, hD, by rw [hD, bcells_length] at hl; exact hl⟩
theorem one_of {cs : List Value} {i : Nat} {v : Value} (h : (cs.drop i).take 1 = [v]) : cs[i]? = some v := by
  have := congrArg (fun l => l[0]?) h
  simp only [List.getElem?_take, List.getElem?_drop, List.getElem?_cons_zero, Nat.add_zero] at this
  simpa using this
theorem one_get {cs : List Value} {i : Nat} {v : Value} (h : (cs.drop i).take 1 = [v]) : cs.drop i = v :: cs.drop (i + 1) := by
  have h1 := one_of h
  have hlt := (List.getElem?_eq_some_iff.1 h1).1
  rw [List.drop_eq_getElem_cons hlt]
  congr 1
  rw [List.getElem?_eq_getElem hlt] at h1
  exact Option.some.inj h1
set_option maxRecDepth 100000 in
theorem open_meta_in {H : Type} {enc : TypeId × Value → H} {W : World} {d : DataW H × List MemPlace} {fuel : Nat} {cs : List Value} (hz : cs.length = 38)
    (hf : DataW.trod enc Tryd.prog W 0 (fun _ => true) true fuel 34 cs = some d) : ∃ m : Rec, cs = m.cells ∧ RecOk m := by
  obtain ⟨y0, y1, y2, y3, n, hx, _, f0, f1, f2, f3⟩ := trod_struct4 Tryd.underlying34 hf
  have c2 : Tryd.prog.cellsOf 28 = 1 := by kernel_rfl
  have c3 : Tryd.prog.cellsOf 27 = 1 := by kernel_rfl
  simp only [c2, c3, Tryd.cellsRoot] at f0 f1 f2 f3
  obtain ⟨z0, z1, z2, z3, n', hx', _, g0, g1, g2, g3⟩ := trod_struct4 Tryd.underlying32 f1
  simp only [c2, c3, Tryd.cellsDig] at g0 g1 g2 g3
  obtain ⟨a0, e0, _, w0⟩ := DataW.trod_int Tryd.underlying27 f0
  obtain ⟨a2, e2, _, w2⟩ := DataW.trod_int Tryd.underlying28 f2
  obtain ⟨a3, e3, _, w3⟩ := DataW.trod_int Tryd.underlying28 f3
  obtain ⟨b0, i0, _, v0⟩ := DataW.trod_int Tryd.underlying28 g0
  obtain ⟨D, iD, hD⟩ := open_digest_in g1
  obtain ⟨b2, i2, _, v2⟩ := DataW.trod_int Tryd.underlying27 g2
  obtain ⟨b3, i3, _, v3⟩ := DataW.trod_int Tryd.underlying27 g3
  have k0 := bounds_u64 w0
  have k2 := bounds_u32 w2
  have k3 := bounds_u32 w3
  have l0 := bounds_u32 v0
  have l2 := bounds_u64 v2
  have l3 := bounds_u64 v3
  obtain ⟨a0, rfl⟩ := Int.eq_ofNat_of_zero_le k0.1
  obtain ⟨a2, rfl⟩ := Int.eq_ofNat_of_zero_le k2.1
  obtain ⟨a3, rfl⟩ := Int.eq_ofNat_of_zero_le k3.1
  obtain ⟨b0, rfl⟩ := Int.eq_ofNat_of_zero_le l0.1
  obtain ⟨b2, rfl⟩ := Int.eq_ofNat_of_zero_le l2.1
  obtain ⟨b3, rfl⟩ := Int.eq_ofNat_of_zero_le l3.1
  refine ⟨⟨a0, b0, D, b2, b3, a2, a3⟩, ?_, ⟨by simp only; omega, by simp only; omega, hD, by simp only; omega, by simp only; omega, by simp only; omega, by simp only; omega⟩⟩
  have hrl : ((cs.drop 1).take 35).length = 35 := by rw [List.length_take, List.length_drop]; omega
  -- the root, put together
  have hroot : (cs.drop 1).take 35 = .int .u32 b0 :: (bcells D ++ [.int .u64 b2, .int .u64 b3]) := by
    generalize (cs.drop 1).take 35 = R at *
    have h1 := one_get i0
    rw [List.drop_zero] at h1
    rw [h1]
    congr 1
    have h2 : R.drop 1 = bcells D ++ R.drop 33 := by
      have := (List.take_append_drop 32 (R.drop 1)).symm
      rw [iD, List.drop_drop] at this
      exact this
    rw [h2]
    congr 1
    rw [one_get i2, one_get i3, List.drop_of_length_le (by omega)]
  have hc0 := one_get e0
  rw [List.drop_zero] at hc0
  rw [hc0]
  show _ = Value.int .u64 a0 :: (Value.int .u32 b0 :: (bcells D ++ [Value.int .u64 b2, .int .u64 b3, .int .u32 a2, .int .u32 a3]))
  congr 1
  have := (List.take_append_drop 35 (cs.drop 1)).symm
  rw [hroot, List.drop_drop] at this
  rw [this, show 1 + 35 = 36 from rfl, one_get e2, one_get e3, List.drop_of_length_le (by omega)]
  simp
set_option maxRecDepth 100000 in
theorem open_meta {H : Type} {enc : TypeId × Value → H} {W : World} {v : Value} {d : DataW H} {pl : List MemPlace} {base : Nat}
    (hv : Value.okWide Tryd.prog W .any base 34 v) (h : DataW.Trod enc Tryd.prog W 0 (fun _ => true) true 34 v d pl) :
    ∃ m : Rec, v = metaV m ∧ RecOk m := by
  obtain ⟨cs, rfl, hz⟩ := okWide_struct Tryd.underlying34 hv
  rw [Tryd.cellsMeta] at hz
  obtain ⟨fuel, hf⟩ := h
  obtain ⟨m, e, ok⟩ := open_meta_in (cs := cs.toList) (by simpa using hz) hf
  refine ⟨m, ?_, ok⟩
  obtain ⟨l⟩ := cs
  simp only at e
  rw [e]
  rfl
end Go.Proofs.YtaknpcimdpdekaaDoor
