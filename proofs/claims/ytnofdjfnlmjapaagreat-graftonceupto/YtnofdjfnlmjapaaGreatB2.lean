/- The document's shaped and Check. -/
import Derived.Test.YtnofdjfnlmjapaaGreatK1
import Derived.Deep.LoopGhost
import Derived.Deep.AppendLies
import Derived.Deep.QuietTactic
namespace Go.Proofs.YtnofdjfnlmjapaaGreat
open Go.RowKit

end Go.Proofs.YtnofdjfnlmjapaaGreat
