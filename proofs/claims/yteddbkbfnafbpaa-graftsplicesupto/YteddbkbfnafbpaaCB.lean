/- The document's cut. -/
import Derived.Test.YteddbkbfnafbpaaC3
import Derived.Test.YteddbkbfnafbpaaV3
import Derived.Test.YteddbkbfnafbpaaK7
import Derived.Test.YteddbkbfnafbpaaVD
namespace Go.Proofs.Yteddbkbfnafbpaa
open Go.RowKit

/-- Halves under way in a box of their own. -/
structure HS (V W : World) (nb : Nat) (xs : Array Value) : Prop where
  hb : W.heap[nb]? = some (.cells xs 60 (0, 0))
  fr : Same V W
  hn : V.heap.size ≤ nb
theorem HS.same {V W W' : World} {nb : Nat} {xs : Array Value} (h : HS V W nb xs) (s : Same W W') : HS V W' nb xs := ⟨(s.block _ (lt_of_heap h.hb) (fun e => e)).trans h.hb, h.fr.trans s, h.hn⟩
theorem HS.put {V W : World} {nb : Nat} {xs : Array Value} (h : HS V W nb xs) (j : Nat) (v : Value) : HS V (W.setCell ⟨nb, j, none⟩ v) nb (xs.setIfInBounds j v) ∧ W.frozen? ⟨nb, j, none⟩ = false ∧ Fr (fun k => k = nb) W (W.setCell ⟨nb, j, none⟩ v) := by
  have fs : Fr (fun k => k = nb) W (W.setCell ⟨nb, j, none⟩ v) := (Fr.refl (fun k => k = nb) W).setCell (p := ⟨nb, j, none⟩) (fun _ => rfl) _
  exact ⟨⟨heap_setCell_same W nb j _ _ _ h.hb, Fr.trans h.fr fs (fun i hi e => by have := h.hn; omega), h.hn⟩, frozen_of_row W nb j _ _ h.hb, fs⟩
/-- How much room behind a node's lists. -/
structure NdCapN (r : Nr) (N : Nd) : Prop where
  cp : N.ps.length ≤ r.cp
  cs : N.ss.length ≤ r.cs
  ck : N.ks.length ≤ r.ck
end Go.Proofs.Yteddbkbfnafbpaa
