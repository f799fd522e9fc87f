/- The walk of DiskNames. -/
import Derived.Test.YtjiaepeglghheaaOW
namespace Go.Proofs.Ytjiaepeglghheaa
open Go.RowKit

set_option maxRecDepth 100000 in
theorem dnames_walk (w : World) : Calls Try.prog 3 #[] w fun e w' => e = .returned (.bool true) ∧ Same w w' := by
  have HL := lives_calls w
  go_enter Try.func3, Try.ntmps3
  go_wp2_with fail
  refine HL.mono ?_
  rintro e W1 ⟨rfl, s1⟩
  have H1 : Hid (Same w W1) := s1
  clear s1 HL
  go_wp2_with fail
  go_ret
  exact ⟨rfl, H1.out⟩
end Go.Proofs.Ytjiaepeglghheaa
