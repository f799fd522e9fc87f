/-
  Walks: step, times, power, Join; turn.
-/
import Derived.Test.YtdnfcpkdibojmaaDoorS1
import Derived.Test.YtdnfcpkdibojmaaDoorSP
namespace Go.Proofs.YtdnfcpkdibojmaaDoor
open Go.RowKit

theorem ret_int {k : IntKind} {a b : Int} (h : a = b) : Ending.returned (.int k a) = .returned (.int k b) := by rw [h]

end Go.Proofs.YtdnfcpkdibojmaaDoor
