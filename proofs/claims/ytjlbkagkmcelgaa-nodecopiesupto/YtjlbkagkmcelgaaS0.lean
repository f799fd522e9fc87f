/-
  Walks: the sizes of numbers.
-/
import Derived.Test.YtjlbkagkmcelgaaProg
import Derived.WalkKit
import Derived.WalkSpells
import Derived.WalkLawsBesides
import Derived.Handy
namespace Go.Proofs.Ytjlbkagkmcelgaa
open Go.RowKit

set_option maxRecDepth 100000 in
set_option maxHeartbeats 4000000 in
theorem size_u8 (w : World) : Calls Try.prog 65 #[] w fun e w' => e = .returned (.int .i64 1) ∧ w = w' := by
  skip
  go_enter Try.func65, Try.ntmps65
  go_wp2
  go_rounds 9
  go_ret
  exact ⟨rfl, rfl⟩
set_option maxRecDepth 100000 in
set_option maxHeartbeats 4000000 in
theorem size_u32 (w : World) : Calls Try.prog 80 #[] w fun e w' => e = .returned (.int .i64 4) ∧ w = w' := by
  skip
  go_enter Try.func80, Try.ntmps80
  go_wp2
  go_rounds 33
  go_ret
  exact ⟨rfl, rfl⟩
end Go.Proofs.Ytjlbkagkmcelgaa
