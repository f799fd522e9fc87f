/-
  Walks: Each over numbers, bytes and texts, as the steps lay them.
-/
import Derived.Test.YtjlbkagkmcelgaaWG
import Derived.Test.YtjlbkagkmcelgaaWC
namespace Go.Proofs.Ytjlbkagkmcelgaa
open Go.RowKit

end Go.Proofs.Ytjlbkagkmcelgaa
