/- free: the document's Body. -/
import Derived.Test.YtneopkhkkfckcaaIH
namespace Go.Proofs.Ytneopkhkkfckcaa
open Go.RowKit Go.Maps

end Go.Proofs.Ytneopkhkkfckcaa
