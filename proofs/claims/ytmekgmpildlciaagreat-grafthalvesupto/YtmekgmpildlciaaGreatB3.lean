/- The document's Check of any node. -/
import Derived.Test.YtmekgmpildlciaaGreatB1
import Derived.Test.YtmekgmpildlciaaGreatB2
namespace Go.Proofs.YtmekgmpildlciaaGreat
open Go.RowKit

end Go.Proofs.YtmekgmpildlciaaGreat
