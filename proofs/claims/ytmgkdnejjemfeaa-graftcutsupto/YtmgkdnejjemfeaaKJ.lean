/- The walks of GraftNames, GraftBetween, GraftSeparates. -/
import Derived.Test.YtmgkdnejjemfeaaKI
import Derived.Test.YtmgkdnejjemfeaaK6J
namespace Go.Proofs.Ytmgkdnejjemfeaa
open Go.RowKit

end Go.Proofs.Ytmgkdnejjemfeaa
