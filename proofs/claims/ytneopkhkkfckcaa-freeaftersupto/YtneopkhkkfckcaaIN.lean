/- free: one number more, and the old row's cells are as they were; a number written into an owned row. -/
import Derived.Test.YtneopkhkkfckcaaIM
namespace Go.Proofs.Ytneopkhkkfckcaa
open Go.RowKit Go.Maps

end Go.Proofs.Ytneopkhkkfckcaa
