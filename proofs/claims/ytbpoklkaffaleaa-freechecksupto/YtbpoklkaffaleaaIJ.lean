/- free: the walk of FreeBodies. -/
import Derived.Test.YtbpoklkaffaleaaII
namespace Go.Proofs.Ytbpoklkaffaleaa
open Go.RowKit Go.Maps

end Go.Proofs.Ytbpoklkaffaleaa
