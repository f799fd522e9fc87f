/- The document's Check of any node. -/
import Derived.Test.YtnofdjfnlmjapaaGreatB1
import Derived.Test.YtnofdjfnlmjapaaGreatB2
namespace Go.Proofs.YtnofdjfnlmjapaaGreat
open Go.RowKit

end Go.Proofs.YtnofdjfnlmjapaaGreat
