/- Least, Full and Thin of the program, Full and Thin of the document. -/
import Derived.Test.YtdmoglnbelembaaGreatFA
namespace Go.Proofs.YtdmoglnbelembaaGreat
open Go.RowKit

end Go.Proofs.YtdmoglnbelembaaGreat
