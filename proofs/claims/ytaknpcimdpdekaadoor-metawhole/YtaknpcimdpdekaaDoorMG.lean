/- Walks: MetaNames, MetaBack. -/
import Derived.Test.YtaknpcimdpdekaaDoorMF
namespace Go.Proofs.YtaknpcimdpdekaaDoor
open Go.RowKit

end Go.Proofs.YtaknpcimdpdekaaDoor
