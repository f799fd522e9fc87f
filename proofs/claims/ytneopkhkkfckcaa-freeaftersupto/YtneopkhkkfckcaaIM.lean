/- free: the document's FromBody. -/
import Derived.Test.YtneopkhkkfckcaaIL
namespace Go.Proofs.Ytneopkhkkfckcaa
open Go.RowKit Go.Maps

end Go.Proofs.Ytneopkhkkfckcaa
