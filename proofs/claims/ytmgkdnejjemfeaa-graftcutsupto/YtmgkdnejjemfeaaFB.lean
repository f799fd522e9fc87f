/- Least, Full and Thin of the program, Full and Thin of the document. -/
import Derived.Test.YtmgkdnejjemfeaaFA
namespace Go.Proofs.Ytmgkdnejjemfeaa
open Go.RowKit

end Go.Proofs.Ytmgkdnejjemfeaa
