/-
  Walks: two lists of texts held against each other; whether one text begins another.
-/
import Derived.Test.YtpcdpdagcigigaaR0
import Derived.Test.YtpcdpdagcigigaaProg
import Derived.Handy
import Derived.Deep.QuietTactic
import Derived.BigQuiet
namespace Go.Proofs.Ytpcdpdagcigigaa
open Go.RowKit

/-- A slice value whose elements are these texts. -/
def StrSl (w : World) (v : Value) (ss : List ByteArray) : Prop :=
  ∃ ad c, v = .slice ad ss.length c ∧ ss.length ≤ 100000000000 ∧ (ss = [] ∨ ∃ ab ao, ad = some ⟨ab, ao, none⟩ ∧ ab < w.heap.size ∧ ∀ i s, ss[i]? = some s → w.cell? ⟨ab, ao + i, none⟩ = some (.string s))
theorem StrSl.frame {w w' : World} {v : Value} {ss : List ByteArray} {B : Nat} (h : StrSl w v ss) (hs : w.heap.size ≤ B) (k : Below B w w') : StrSl w' v ss := by
  obtain ⟨ad, c, hv, hl, h⟩ := h
  refine ⟨ad, c, hv, hl, ?_⟩
  rcases h with h | ⟨ab, ao, e, hlt, h⟩
  · exact Or.inl h
  · exact Or.inr ⟨ab, ao, e, Nat.lt_of_lt_of_le hlt k.size, fun i s hi => by rw [k.cell (p := ⟨ab, ao + i, none⟩) (Nat.lt_of_lt_of_le hlt hs)]; exact h i s hi⟩
theorem StrSl.same {w w' : World} {v : Value} {ss : List ByteArray} (h : StrSl w v ss) (k : Same w w') : StrSl w' v ss :=
  h.frame (Nat.le_refl _) (Fr.below k (Nat.le_refl _) (fun _ f => f.elim))

end Go.Proofs.Ytpcdpdagcigigaa
