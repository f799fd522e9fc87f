/- Slots and turns that come in, opened. -/
import Derived.Test.YtepbphgpklphiaaDoorMU
import Derived.Test.YtepbphgpklphiaaDoorML
namespace Go.Proofs.YtepbphgpklphiaaDoor
open Go.ChangeShapes Go.WideShapes Go.ChangeAt Go.RowKit Go.Joins

theorem trod_three {H : Type} {enc : TypeId × Value → H} {P : Program} {w : World} {base : Nat} {spare : Nat → Bool} {held : Bool} {t : TypeId} {f0 f1 f2 : Field} {fuel : Nat} {cs : List Value} {x : DataW H × List MemPlace} (ht : P.underlying t = some (.struct #[f0, f1, f2])) (h : DataW.trod enc P w base spare held fuel t cs = some x) :
    ∃ y0 y1 y2 n, DataW.trod enc P w base spare held n f0.type ((cs.drop f0.offset).take (P.cellsOf f0.type)) = some y0 ∧ DataW.trod enc P w base spare held n f1.type ((cs.drop f1.offset).take (P.cellsOf f1.type)) = some y1 ∧ DataW.trod enc P w base spare held n f2.type ((cs.drop f2.offset).take (P.cellsOf f2.type)) = some y2 := by
  obtain ⟨xs, n, _, rfl, hl, hlen, hf⟩ := DataW.trod_struct ht h
  match xs, hlen with
  | [y0, y1, y2], _ => exact ⟨y0, y1, y2, n, by simpa using hf 0 f0 rfl, by simpa using hf 1 f1 rfl, by simpa using hf 2 f2 rfl⟩
/-- A turn of noughts, for the witness. -/
def zeroMTurn : Array Value := zeroRec.arr ++ #[.int .u8 0, .int .i64 0]
theorem Tryd.cellsSlots : Tryd.prog.cellsOf 44 = 2 := by kernel_rfl
theorem Tryd.cellsMTurn : Tryd.prog.cellsOf 48 = 40 := by kernel_rfl
set_option maxRecDepth 100000 in
theorem open_slots {H : Type} {enc : TypeId × Value → H} {W : World} {v : Value} {d : DataW H} {pl : List MemPlace} {base : Nat}
    (hv : Value.okWide Tryd.prog W .any base 44 v) (h : DataW.Trod enc Tryd.prog W 0 (fun _ => true) true 44 v d pl) :
    ∃ z o : ByteArray, v = .agg #[.string z, .string o] := by
  obtain ⟨cs, rfl, hz⟩ := okWide_struct Tryd.underlying44 hv
  rw [Tryd.cellsSlots] at hz
  obtain ⟨fuel, hf⟩ := h
  obtain ⟨x, y, rfl⟩ : ∃ x y, cs = #[x, y] := by
    obtain ⟨l⟩ := cs
    match l, hz with
    | [x, y], _ => exact ⟨x, y, rfl⟩
  obtain ⟨y0, y1, n, hx, _, f0, f1⟩ := trod_struct2 Tryd.underlying44 hf
  have c4 : Tryd.prog.cellsOf 9 = 1 := by kernel_rfl
  simp only [Value.cells, c4, List.drop_succ_cons, List.drop_zero, List.take_succ_cons, List.take_zero] at f0 f1
  obtain ⟨a, e0, _, _⟩ := DataW.trod_string Tryd.underlying9 f0
  obtain ⟨b, e1, _, _⟩ := DataW.trod_string Tryd.underlying9 f1
  simp only [List.cons.injEq, and_true] at e0 e1
  subst e0; subst e1
  exact ⟨a, b, rfl⟩
set_option maxRecDepth 100000 in
theorem open_mturn {H : Type} {enc : TypeId × Value → H} {W : World} {v : Value} {d : DataW H} {pl : List MemPlace} {base : Nat}
    (hv : Value.okWide Tryd.prog W .any base 48 v) (h : DataW.Trod enc Tryd.prog W 0 (fun _ => true) true 48 v d pl) :
    ∃ (m : Rec) (came : Nat) (pages : Int), v = mturnV m came pages ∧ RecOk m ∧ came < 256 ∧ (-9223372036854775808 ≤ pages ∧ pages ≤ 9223372036854775807) := by
  obtain ⟨cs, rfl, hz⟩ := okWide_struct Tryd.underlying48 hv
  rw [Tryd.cellsMTurn] at hz
  obtain ⟨fuel, hf⟩ := h
  obtain ⟨l⟩ := cs
  have hl : l.length = 40 := by simpa using hz
  have hf' : DataW.trod enc Tryd.prog W 0 (fun _ => true) true fuel 48 l = some (d, pl) := hf
  obtain ⟨y0, y1, y2, n, f0, f1, f2⟩ := trod_three Tryd.underlying48 hf'
  have c3 : Tryd.prog.cellsOf 3 = 1 := by kernel_rfl
  have c4 : Tryd.prog.cellsOf 5 = 1 := by kernel_rfl
  simp only [c3, c4, Tryd.cellsMeta] at f0 f1 f2
  rw [List.drop_zero] at f0
  obtain ⟨m, e0, ok⟩ := open_meta_in (by rw [List.length_take]; omega) f0
  obtain ⟨a1, e1, _, w1⟩ := DataW.trod_int Tryd.underlying5 f1
  obtain ⟨a2, e2, _, w2⟩ := DataW.trod_int Tryd.underlying3 f2
  have b1 := bounds_u8 w1
  have b2 := bounds_i64 w2
  obtain ⟨came, rfl⟩ := Int.eq_ofNat_of_zero_le b1.1
  refine ⟨m, came, a2, ?_, ok, by omega, b2⟩
  have e : l = m.cells ++ [.int .u8 came, .int .i64 a2] := by
    have := (List.take_append_drop 38 l).symm
    rw [e0, one_get e1, one_get e2, List.drop_of_length_le (by omega)] at this
    exact this
  rw [e]
  show Value.agg _ = Value.agg _
  congr 1
  rw [Rec.arr, List.append_toArray]
end Go.Proofs.YtepbphgpklphiaaDoor
