/- The document's shaped and Check. -/
import Derived.Test.YtmekgmpildlciaaGreatK1
import Derived.Deep.LoopGhost
import Derived.Deep.AppendLies
import Derived.Deep.QuietTactic
namespace Go.Proofs.YtmekgmpildlciaaGreat
open Go.RowKit

end Go.Proofs.YtmekgmpildlciaaGreat
