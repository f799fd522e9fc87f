/- The tables that the rows list lie where the walks look for them; frames and records that come in, opened. -/
import Derived.Test.YtaknpcimdpdekaaDoorRows
import Derived.Test.YtaknpcimdpdekaaDoorMF
import Derived.Lib.LaidTab
import Derived.OpenShut
import Derived.Stop.LaidErr
import Derived.Lib.SmallJoins
namespace Go.Proofs.YtaknpcimdpdekaaDoor
open Go.ChangeShapes Go.WideShapes Go.ChangeAt Go.RowKit Go.Joins

theorem gNib : Tryd.prog.globalNamed "heartwood/sums.nibbles" = some 2 := by kernel_rfl
theorem gNibType : (Tryd.prog.globals[2]?).map (·.type) = some 128 := by kernel_rfl
theorem cellsNib : Tryd.prog.cellsOf 128 = 16 := by kernel_rfl
theorem cellsU32 : Tryd.prog.cellsOf 28 = 1 := by kernel_rfl
theorem gDb : Tryd.prog.globalNamed "math/bits.deBruijn64tab" = some 1 := by kernel_rfl
theorem gDbType : (Tryd.prog.globals[1]?).map (·.type) = some 127 := by kernel_rfl
theorem cellsDb : Tryd.prog.cellsOf 127 = 64 := by kernel_rfl
abbrev laid3 : List (String × DataW Unit) := [("math/bits.deBruijn32tab", Rows.laid_math_bits_deBruijn32tab), ("math/bits.deBruijn64tab", Rows.laid_math_bits_deBruijn64tab), ("heartwood/sums.nibbles", Rows.laid_heartwood_sums_nibbles)]
theorem nibTab {W : World} (h : laidMetH Tryd.prog laid3 W) : TabAt W := by
  have ht : Lib.TabIs Tryd.prog W "heartwood/sums.nibbles" .u32 [0, 498536548, 997073096, 651767980, 1994146192, 1802195444, 1303535960, 1342533948, 3988292384, 4027552580, 3604390888, 3412177804, 2607071920, 2262029012, 2685067896, 3183342108] :=
    Lib.tabIs_of_head (rest := []) gNib gNibType Tryd.underlying128 Tryd.underlying28 cellsU32 cellsNib (laidMet.tail (laidMet.tail h))
  intro k hk
  have := ht.cell gNib k (by simpa using hk)
  rw [this]
  have e : ∀ j : Fin 16, ([0, 498536548, 997073096, 651767980, 1994146192, 1802195444, 1303535960, 1342533948, 3988292384, 4027552580, 3604390888, 3412177804, 2607071920, 2262029012, 2685067896, 3183342108] : List Int).getD j.val 0 = ((crcTab.getD j.val 0).toNat : Int) := by decide
  exact congrArg (fun z => some (Value.int .u32 z)) (e ⟨k, hk⟩)
theorem dbTab {W : World} (h : laidMetH Tryd.prog laid3 W) : TzAt W := by
  have ht : Lib.TabIs Tryd.prog W "math/bits.deBruijn64tab" .u8 db64 :=
    Lib.tabIs_of_head (rest := [("heartwood/sums.nibbles", Rows.laid_heartwood_sums_nibbles)]) gDb gDbType Tryd.underlying127 Tryd.underlying5 Tryd.cells8 cellsDb (laidMet.tail h)
  intro k hk
  have := ht.cell gDb k (by simpa [db64] using hk)
  rw [this]

theorem Tryd.cellsFrame : Tryd.prog.cellsOf 23 = 2 := by kernel_rfl
theorem Tryd.cellsMeta : Tryd.prog.cellsOf 34 = 38 := by kernel_rfl
theorem Tryd.cellsRoot : Tryd.prog.cellsOf 32 = 35 := by kernel_rfl
theorem Tryd.cellsDig : Tryd.prog.cellsOf 30 = 32 := by kernel_rfl
set_option maxRecDepth 100000 in
theorem open_frame_in {H : Type} {enc : TypeId × Value → H} {W : World} {d : DataW H × List MemPlace} {fuel : Nat} {cs : List Value} (hz : cs.length = 2)
    (hf : DataW.trod enc Tryd.prog W 0 (fun _ => true) true fuel 23 cs = some d) : ∃ p q, cs = [.int .i64 p, .int .i64 q] := by
  obtain ⟨x, y, rfl⟩ : ∃ x y, cs = [x, y] := by
    match cs, hz with
    | [x, y], _ => exact ⟨x, y, rfl⟩
  obtain ⟨y0, y1, n, hx, _, f0, f1⟩ := trod_struct2 Tryd.underlying23 hf
  have c4 : Tryd.prog.cellsOf 3 = 1 := by kernel_rfl
  simp only [c4, List.drop_succ_cons, List.drop_zero, List.take_succ_cons, List.take_zero] at f0 f1
  obtain ⟨a, e0, g0, _⟩ := DataW.trod_int Tryd.underlying3 f0
  obtain ⟨b, e1, g1, _⟩ := DataW.trod_int Tryd.underlying3 f1
  simp only [List.cons.injEq, and_true] at e0 e1
  subst e0; subst e1
  exact ⟨a, b, rfl⟩
set_option maxRecDepth 100000 in
theorem open_frame {H : Type} {enc : TypeId × Value → H} {W : World} {v : Value} {d : DataW H} {pl : List MemPlace} {base : Nat}
    (hv : Value.okWide Tryd.prog W .any base 23 v) (h : DataW.Trod enc Tryd.prog W 0 (fun _ => true) true 23 v d pl) :
    ∃ p q, v = frameV p q := by
  obtain ⟨cs, rfl, hz⟩ := okWide_struct Tryd.underlying23 hv
  rw [Tryd.cellsFrame] at hz
  obtain ⟨fuel, hf⟩ := h
  obtain ⟨p, q, e⟩ := open_frame_in (cs := cs.toList) (by simpa using hz) hf
  refine ⟨p, q, ?_⟩
  obtain ⟨l⟩ := cs
  simp only at e
  rw [e]
end Go.Proofs.YtaknpcimdpdekaaDoor
