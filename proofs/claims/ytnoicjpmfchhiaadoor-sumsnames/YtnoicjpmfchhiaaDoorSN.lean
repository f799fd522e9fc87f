/-
  The table that the rows list lies where the walks look for it.
-/
import Derived.Test.YtnoicjpmfchhiaaDoorRows
import Derived.Test.YtnoicjpmfchhiaaDoorSG
import Derived.Lib.LaidTab
namespace Go.Proofs.YtnoicjpmfchhiaaDoor
open Go.RowKit
theorem gNib : Tryd.prog.globalNamed "heartwood/sums.nibbles" = some 0 := by kernel_rfl
theorem gNibType : (Tryd.prog.globals[0]?).map (·.type) = some 57 := by kernel_rfl
theorem cellsNib : Tryd.prog.cellsOf 57 = 16 := by kernel_rfl
theorem cellsU32 : Tryd.prog.cellsOf 27 = 1 := by kernel_rfl
theorem nibTab {W : World} (h : laidMetH Tryd.prog [("heartwood/sums.nibbles", Rows.laid_heartwood_sums_nibbles)] W) : TabAt W := by
  have ht : Lib.TabIs Tryd.prog W "heartwood/sums.nibbles" .u32 [0, 498536548, 997073096, 651767980, 1994146192, 1802195444, 1303535960, 1342533948, 3988292384, 4027552580, 3604390888, 3412177804, 2607071920, 2262029012, 2685067896, 3183342108] :=
    Lib.tabIs_of_head (rest := []) gNib gNibType Tryd.underlying57 Tryd.underlying27 cellsU32 cellsNib h
  intro k hk
  have := ht.cell gNib k (by simpa using hk)
  rw [this]
  have e : ∀ j : Fin 16, ([0, 498536548, 997073096, 651767980, 1994146192, 1802195444, 1303535960, 1342533948, 3988292384, 4027552580, 3604390888, 3412177804, 2607071920, 2262029012, 2685067896, 3183342108] : List Int).getD j.val 0 = ((crcTab.getD j.val 0).toNat : Int) := by decide
  exact congrArg (fun z => some (Value.int .u32 z)) (e ⟨k, hk⟩)
end Go.Proofs.YtnoicjpmfchhiaaDoor
