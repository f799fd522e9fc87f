/- Least, Full and Thin of the program, Full and Thin of the document. -/
import Derived.Test.YteddbkbfnafbpaaFA
namespace Go.Proofs.Yteddbkbfnafbpaa
open Go.RowKit

end Go.Proofs.Yteddbkbfnafbpaa
