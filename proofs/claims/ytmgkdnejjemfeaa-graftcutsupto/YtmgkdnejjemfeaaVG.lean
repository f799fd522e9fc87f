/- best of a branch. -/
import Derived.Test.YtmgkdnejjemfeaaKG
import Derived.Test.YtmgkdnejjemfeaaVF
namespace Go.Proofs.Ytmgkdnejjemfeaa
open Go.RowKit Go.Shelf
end Go.Proofs.Ytmgkdnejjemfeaa
