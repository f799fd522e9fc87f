/-
  Walks: the sizes of numbers.
-/
import Derived.Test.YtcbbjicoedeioaaProg
import Derived.WalkKit
import Derived.WalkSpells
import Derived.WalkLawsBesides
import Derived.Handy
namespace Go.Proofs.Ytcbbjicoedeioaa
open Go.RowKit

theorem w32a : wrap32 2147483648 = -2147483648 := by unfold wrap32; decide
theorem w32b : wrap32 (-4294967296) = 0 := by unfold wrap32; decide
theorem w64a : wrap64 9223372036854775808 = -9223372036854775808 := by unfold wrap64; decide
theorem w64b : wrap64 (-18446744073709551616) = 0 := by unfold wrap64; decide
set_option maxRecDepth 100000 in
set_option maxHeartbeats 4000000 in
theorem size_u8 (w : World) : Calls Try.prog 88 #[] w fun e w' => e = .returned (.int .i64 1) ∧ w = w' := by
  skip
  go_enter Try.func88, Try.ntmps88
  go_wp2
  go_rounds 9
  go_ret
  exact ⟨rfl, rfl⟩
set_option maxRecDepth 100000 in
set_option maxHeartbeats 4000000 in
theorem size_u16 (w : World) : Calls Try.prog 89 #[] w fun e w' => e = .returned (.int .i64 2) ∧ w = w' := by
  skip
  go_enter Try.func89, Try.ntmps89
  go_wp2
  go_rounds 17
  go_ret
  exact ⟨rfl, rfl⟩
set_option maxRecDepth 100000 in
set_option maxHeartbeats 4000000 in
theorem size_u32 (w : World) : Calls Try.prog 90 #[] w fun e w' => e = .returned (.int .i64 4) ∧ w = w' := by
  skip
  go_enter Try.func90, Try.ntmps90
  go_wp2
  go_rounds 33
  go_ret
  exact ⟨rfl, rfl⟩
set_option maxRecDepth 100000 in
set_option maxHeartbeats 4000000 in
theorem size_u64 (w : World) : Calls Try.prog 91 #[] w fun e w' => e = .returned (.int .i64 8) ∧ w = w' := by
  skip
  go_enter Try.func91, Try.ntmps91
  go_wp2
  go_rounds 65
  go_ret
  exact ⟨rfl, rfl⟩
set_option maxRecDepth 100000 in
set_option maxHeartbeats 4000000 in
theorem size_i8 (w : World) : Calls Try.prog 92 #[] w fun e w' => e = .returned (.int .i64 1) ∧ w = w' := by
  skip
  go_enter Try.func92, Try.ntmps92
  go_wp2
  go_rounds 9
  go_ret
  exact ⟨rfl, rfl⟩
set_option maxRecDepth 100000 in
set_option maxHeartbeats 4000000 in
theorem size_i16 (w : World) : Calls Try.prog 93 #[] w fun e w' => e = .returned (.int .i64 2) ∧ w = w' := by
  skip
  go_enter Try.func93, Try.ntmps93
  go_wp2
  go_rounds 17
  go_ret
  exact ⟨rfl, rfl⟩
set_option maxRecDepth 100000 in
set_option maxHeartbeats 4000000 in
theorem size_i32 (w : World) : Calls Try.prog 94 #[] w fun e w' => e = .returned (.int .i64 4) ∧ w = w' := by
  have h1 := w32a; have h2 := w32b
  go_enter Try.func94, Try.ntmps94
  go_wp2
  go_rounds 33
  go_ret
  exact ⟨rfl, rfl⟩
set_option maxRecDepth 100000 in
set_option maxHeartbeats 4000000 in
theorem size_i64 (w : World) : Calls Try.prog 95 #[] w fun e w' => e = .returned (.int .i64 8) ∧ w = w' := by
  have h1 := w64a; have h2 := w64b
  go_enter Try.func95, Try.ntmps95
  go_wp2
  go_rounds 65
  go_ret
  exact ⟨rfl, rfl⟩
set_option maxRecDepth 100000 in
set_option maxHeartbeats 4000000 in
theorem size_shade (w : World) : Calls Try.prog 96 #[] w fun e w' => e = .returned (.int .i64 2) ∧ w = w' := by
  skip
  go_enter Try.func96, Try.ntmps96
  go_wp2
  go_rounds 17
  go_ret
  exact ⟨rfl, rfl⟩
end Go.Proofs.Ytcbbjicoedeioaa
