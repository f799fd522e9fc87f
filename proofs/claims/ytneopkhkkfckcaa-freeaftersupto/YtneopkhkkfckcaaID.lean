/- free: the document's Entries; FreeEntries, FreeNames. -/
import Derived.Test.YtneopkhkkfckcaaIC
namespace Go.Proofs.Ytneopkhkkfckcaa
open Go.RowKit Go.Maps

end Go.Proofs.Ytneopkhkkfckcaa
