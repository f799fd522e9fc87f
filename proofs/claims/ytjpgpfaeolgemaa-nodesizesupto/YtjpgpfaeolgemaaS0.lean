/-
  Walks: the sizes of numbers.
-/
import Derived.Test.YtjpgpfaeolgemaaProg
import Derived.WalkKit
import Derived.WalkSpells
import Derived.WalkLawsBesides
import Derived.Handy
namespace Go.Proofs.Ytjpgpfaeolgemaa
open Go.RowKit

theorem w32a : wrap32 2147483648 = -2147483648 := by unfold wrap32; decide
theorem w32b : wrap32 (-4294967296) = 0 := by unfold wrap32; decide
theorem w64a : wrap64 9223372036854775808 = -9223372036854775808 := by unfold wrap64; decide
theorem w64b : wrap64 (-18446744073709551616) = 0 := by unfold wrap64; decide
set_option maxRecDepth 100000 in
set_option maxHeartbeats 4000000 in
theorem size_u8 (w : World) : Calls Try.prog 74 #[] w fun e w' => e = .returned (.int .i64 1) ∧ w = w' := by
  skip
  go_enter Try.func74, Try.ntmps74
  go_wp2
  go_rounds 9
  go_ret
  exact ⟨rfl, rfl⟩
set_option maxRecDepth 100000 in
set_option maxHeartbeats 4000000 in
theorem size_u32 (w : World) : Calls Try.prog 88 #[] w fun e w' => e = .returned (.int .i64 4) ∧ w = w' := by
  skip
  go_enter Try.func88, Try.ntmps88
  go_wp2
  go_rounds 33
  go_ret
  exact ⟨rfl, rfl⟩
end Go.Proofs.Ytjpgpfaeolgemaa
