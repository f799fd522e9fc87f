/- The walk of GraftFull. -/
import Derived.Test.YtmgkdnejjemfeaaFB
import Derived.Test.YtmgkdnejjemfeaaKP
import Derived.Test.YtmgkdnejjemfeaaKI
namespace Go.Proofs.Ytmgkdnejjemfeaa
open Go.RowKit

theorem LentAt.ok {w : World} {B gp cp gs cs gk ck : Nat} {N : Nd} {q : Int} (h : LentAt w B gp cp gs cs gk ck N) {v : World} {r : Nr} (hn : NdAt v r N) (l1 : (formN true q N).length ≤ 50000000000) (l0 : (formN false q N).length ≤ 50000000000) : NdOk w (lentNr gp cp gs cs gk ck) q N := by
  have h2 := own_cap (own_base h.oS (Nat.zero_le _))
  exact ⟨h.nd hn, ⟨by show N.ss.length ≤ cs; omega, by show cs ≤ _; have := h2.2; unfold maxLen at this; omega⟩, l1, l0⟩

end Go.Proofs.Ytmgkdnejjemfeaa
