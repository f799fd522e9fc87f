/-
  Walks: step, times, power, Join; turn.
-/
import Derived.Test.YtepbphgpklphiaaDoorS1
import Derived.Test.YtepbphgpklphiaaDoorSP
namespace Go.Proofs.YtepbphgpklphiaaDoor
open Go.RowKit

theorem ret_int {k : IntKind} {a b : Int} (h : a = b) : Ending.returned (.int k a) = .returned (.int k b) := by rw [h]

end Go.Proofs.YtepbphgpklphiaaDoor
