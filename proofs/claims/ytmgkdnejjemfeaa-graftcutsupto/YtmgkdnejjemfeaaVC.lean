/- halved of a branch. -/
import Derived.Test.YtmgkdnejjemfeaaVG
import Derived.Test.YtmgkdnejjemfeaaV3
namespace Go.Proofs.Ytmgkdnejjemfeaa
open Go.RowKit

end Go.Proofs.Ytmgkdnejjemfeaa
