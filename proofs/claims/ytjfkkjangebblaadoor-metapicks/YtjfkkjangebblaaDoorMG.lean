/- Walks: MetaNames, MetaBack. -/
import Derived.Test.YtjfkkjangebblaaDoorMF
namespace Go.Proofs.YtjfkkjangebblaaDoor
open Go.RowKit

end Go.Proofs.YtjfkkjangebblaaDoor
