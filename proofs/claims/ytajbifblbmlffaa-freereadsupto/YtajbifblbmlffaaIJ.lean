/- free: the walk of FreeBodies. -/
import Derived.Test.YtajbifblbmlffaaII
namespace Go.Proofs.Ytajbifblbmlffaa
open Go.RowKit Go.Maps

end Go.Proofs.Ytajbifblbmlffaa
