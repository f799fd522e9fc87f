/- free: the document's four, rising. -/
import Derived.Test.YtneopkhkkfckcaaIG
namespace Go.Proofs.Ytneopkhkkfckcaa
open Go.RowKit Go.Maps

end Go.Proofs.Ytneopkhkkfckcaa
