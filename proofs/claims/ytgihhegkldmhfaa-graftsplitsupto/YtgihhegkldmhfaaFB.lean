/- Least, Full and Thin of the program, Full and Thin of the document. -/
import Derived.Test.YtgihhegkldmhfaaFA
namespace Go.Proofs.Ytgihhegkldmhfaa
open Go.RowKit

end Go.Proofs.Ytgihhegkldmhfaa
