/-
  Walks: the sizes of numbers.
-/
import Derived.Test.YtbdlebjhmhmnnaaDoorProg
import Derived.WalkKit
import Derived.WalkSpells
import Derived.WalkLawsBesides
import Derived.Handy
namespace Go.Proofs.YtbdlebjhmhmnnaaDoor
open Go.RowKit

theorem w32a : wrap32 2147483648 = -2147483648 := by unfold wrap32; decide
theorem w32b : wrap32 (-4294967296) = 0 := by unfold wrap32; decide
theorem w64a : wrap64 9223372036854775808 = -9223372036854775808 := by unfold wrap64; decide
theorem w64b : wrap64 (-18446744073709551616) = 0 := by unfold wrap64; decide
set_option maxRecDepth 100000 in
set_option maxHeartbeats 4000000 in
theorem size_u16 (w : World) : Calls Tryd.prog 29 #[] w fun e w' => e = .returned (.int .i64 2) ∧ w = w' := by
  skip
  go_enter Tryd.func29, Tryd.ntmps29
  go_wp2
  go_rounds 17
  go_ret
  exact ⟨rfl, rfl⟩
end Go.Proofs.YtbdlebjhmhmnnaaDoor
