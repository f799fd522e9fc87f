/-
  Walks: Each over texts, Join.
-/
import Derived.Test.YtjlbkagkmcelgaaW3J
namespace Go.Proofs.Ytjlbkagkmcelgaa
open Go.RowKit

end Go.Proofs.Ytjlbkagkmcelgaa
