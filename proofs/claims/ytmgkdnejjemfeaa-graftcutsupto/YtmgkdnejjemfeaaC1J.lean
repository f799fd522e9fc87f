/- fresh of made nodes. -/
import Derived.Test.YtmgkdnejjemfeaaB7J
import Derived.Test.YtmgkdnejjemfeaaFJ
import Derived.Test.YtmgkdnejjemfeaaKP
import Derived.Test.YtmgkdnejjemfeaaKI
import Derived.Test.YtmgkdnejjemfeaaCG
namespace Go.Proofs.Ytmgkdnejjemfeaa
open Go.RowKit

def blkO (ao : Option Addr) (k : Nat) : Prop := ∃ a, ao = some a ∧ a.block = k
/-- The blocks of a node's lists. -/
def blkN (r : Nr) (k : Nat) : Prop := blkO r.pa k ∨ blkO r.sa k ∨ blkO r.ka k
theorem own_blkO {ao : Option Addr} {n c k : Nat} (h : Value.ownBlock (.slice ao n c) = some k) : blkO ao k := by
  cases ao with
  | none => cases h
  | some a => exact ⟨a, rfl, by simpa [Value.ownBlock] using h⟩
theorem MadeNd.fr {w w' : World} {B : Nat} {r : Nr} {N : Nd} {S : Nat → Prop} (h : MadeNd w B r N) (f : Fr S w w') (hn : ∀ k, blkN r k → ¬ S k) : MadeNd w' B r N :=
  ⟨own_frameB h.op f (fun k hk => hn k (Or.inl (own_blkO hk))), own_frameB h.os f (fun k hk => hn k (Or.inr (Or.inl (own_blkO hk)))), own_frameB h.ok f (fun k hk => hn k (Or.inr (Or.inr (own_blkO hk))))⟩
theorem MadeNd.blk {w : World} {B : Nat} {r : Nr} {N : Nd} (h : MadeNd w B r N) {k : Nat} (hk : blkN r k) : B ≤ k ∧ k < w.heap.size := by
  obtain ⟨pa, pb, po, cp, sa, sb, so, cs, ka, kb, ko, ck⟩ := r
  rcases hk with ⟨a, e, rfl⟩ | ⟨a, e, rfl⟩ | ⟨a, e, rfl⟩
  · simp only at e; subst e; exact own_ge h.op
  · simp only at e; subst e; exact own_ge h.os
  · simp only at e; subst e; exact own_ge h.ok
end Go.Proofs.Ytmgkdnejjemfeaa
namespace Go.Proofs.Ytmgkdnejjemfeaa
open Go.RowKit

end Go.Proofs.Ytmgkdnejjemfeaa
