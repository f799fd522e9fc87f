/-
  Walks: the sizes of numbers.
-/
import Derived.Test.YtpcdpdagcigigaaProg
import Derived.WalkKit
import Derived.WalkSpells
import Derived.WalkLawsBesides
import Derived.Handy
namespace Go.Proofs.Ytpcdpdagcigigaa
open Go.RowKit

theorem w32a : wrap32 2147483648 = -2147483648 := by unfold wrap32; decide
theorem w32b : wrap32 (-4294967296) = 0 := by unfold wrap32; decide
theorem w64a : wrap64 9223372036854775808 = -9223372036854775808 := by unfold wrap64; decide
theorem w64b : wrap64 (-18446744073709551616) = 0 := by unfold wrap64; decide
set_option maxRecDepth 100000 in
set_option maxHeartbeats 4000000 in
theorem size_u8 (w : World) : Calls Try.prog 68 #[] w fun e w' => e = .returned (.int .i64 1) ∧ w = w' := by
  skip
  go_enter Try.func68, Try.ntmps68
  go_wp2
  go_rounds 9
  go_ret
  exact ⟨rfl, rfl⟩
set_option maxRecDepth 100000 in
set_option maxHeartbeats 4000000 in
theorem size_u16 (w : World) : Calls Try.prog 69 #[] w fun e w' => e = .returned (.int .i64 2) ∧ w = w' := by
  skip
  go_enter Try.func69, Try.ntmps69
  go_wp2
  go_rounds 17
  go_ret
  exact ⟨rfl, rfl⟩
set_option maxRecDepth 100000 in
set_option maxHeartbeats 4000000 in
theorem size_u32 (w : World) : Calls Try.prog 70 #[] w fun e w' => e = .returned (.int .i64 4) ∧ w = w' := by
  skip
  go_enter Try.func70, Try.ntmps70
  go_wp2
  go_rounds 33
  go_ret
  exact ⟨rfl, rfl⟩
set_option maxRecDepth 100000 in
set_option maxHeartbeats 4000000 in
theorem size_u64 (w : World) : Calls Try.prog 71 #[] w fun e w' => e = .returned (.int .i64 8) ∧ w = w' := by
  skip
  go_enter Try.func71, Try.ntmps71
  go_wp2
  go_rounds 65
  go_ret
  exact ⟨rfl, rfl⟩
set_option maxRecDepth 100000 in
set_option maxHeartbeats 4000000 in
theorem size_i8 (w : World) : Calls Try.prog 72 #[] w fun e w' => e = .returned (.int .i64 1) ∧ w = w' := by
  skip
  go_enter Try.func72, Try.ntmps72
  go_wp2
  go_rounds 9
  go_ret
  exact ⟨rfl, rfl⟩
set_option maxRecDepth 100000 in
set_option maxHeartbeats 4000000 in
theorem size_i16 (w : World) : Calls Try.prog 73 #[] w fun e w' => e = .returned (.int .i64 2) ∧ w = w' := by
  skip
  go_enter Try.func73, Try.ntmps73
  go_wp2
  go_rounds 17
  go_ret
  exact ⟨rfl, rfl⟩
set_option maxRecDepth 100000 in
set_option maxHeartbeats 4000000 in
theorem size_i32 (w : World) : Calls Try.prog 74 #[] w fun e w' => e = .returned (.int .i64 4) ∧ w = w' := by
  have h1 := w32a; have h2 := w32b
  go_enter Try.func74, Try.ntmps74
  go_wp2
  go_rounds 33
  go_ret
  exact ⟨rfl, rfl⟩
set_option maxRecDepth 100000 in
set_option maxHeartbeats 4000000 in
theorem size_i64 (w : World) : Calls Try.prog 75 #[] w fun e w' => e = .returned (.int .i64 8) ∧ w = w' := by
  have h1 := w64a; have h2 := w64b
  go_enter Try.func75, Try.ntmps75
  go_wp2
  go_rounds 65
  go_ret
  exact ⟨rfl, rfl⟩
set_option maxRecDepth 100000 in
set_option maxHeartbeats 4000000 in
theorem size_shade (w : World) : Calls Try.prog 76 #[] w fun e w' => e = .returned (.int .i64 2) ∧ w = w' := by
  skip
  go_enter Try.func76, Try.ntmps76
  go_wp2
  go_rounds 17
  go_ret
  exact ⟨rfl, rfl⟩
end Go.Proofs.Ytpcdpdagcigigaa
