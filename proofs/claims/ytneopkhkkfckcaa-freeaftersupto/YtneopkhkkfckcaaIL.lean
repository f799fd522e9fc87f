/- free: the document's number; plain: both read alike. -/
import Derived.Test.YtneopkhkkfckcaaIJ
namespace Go.Proofs.Ytneopkhkkfckcaa
open Go.RowKit Go.Maps

end Go.Proofs.Ytneopkhkkfckcaa
