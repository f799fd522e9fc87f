/- Put in all the ways that it is refused; Remove of a leaf. -/
import Derived.Test.YtmgkdnejjemfeaaK4
import Derived.Test.YtmgkdnejjemfeaaKM
namespace Go.Proofs.Ytmgkdnejjemfeaa
open Go.RowKit

end Go.Proofs.Ytmgkdnejjemfeaa
