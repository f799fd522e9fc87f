/- free: the walk of FreeBodies. -/
import Derived.Test.YtneopkhkkfckcaaII
namespace Go.Proofs.Ytneopkhkkfckcaa
open Go.RowKit Go.Maps

end Go.Proofs.Ytneopkhkkfckcaa
