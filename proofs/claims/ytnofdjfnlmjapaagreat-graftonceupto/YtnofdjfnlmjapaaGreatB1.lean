/- The document's Right, Leaf, fits, keys. -/
import Derived.Test.YtnofdjfnlmjapaaGreatK1
import Derived.Test.YtnofdjfnlmjapaaGreatK7
import Derived.Test.YtnofdjfnlmjapaaGreatKT
import Derived.Deep.QuietTactic
import Derived.Deep.LoopGhost
namespace Go.Proofs.YtnofdjfnlmjapaaGreat
open Go.RowKit

theorem cut_iff {k : Nat} {D : List UInt8} (hk : k ≤ 32) (hD : D.length = 32) : cutD k D = D ↔ ∀ j, k ≤ j → j < 32 → D[j]? = some 0 := by
  unfold cutD
  constructor
  · intro h j h1 h2
    rw [← h, List.getElem?_append_right (by rw [List.length_take]; omega), List.getElem?_replicate, if_pos (by rw [List.length_take]; omega)]
  · intro h
    apply List.ext_getElem?
    intro j
    by_cases h1 : j < k
    · rw [List.getElem?_append_left (by rw [List.length_take]; omega), List.getElem?_take, if_pos h1]
    · by_cases h2 : j < 32
      · rw [List.getElem?_append_right (by rw [List.length_take]; omega), List.getElem?_replicate, if_pos (by rw [List.length_take]; omega), h j (by omega) h2]
      · rw [List.getElem?_eq_none (by simp; omega), List.getElem?_eq_none (by omega)]
theorem empty_below {x pv : ByteArray} (h : x.size = 0) : (Op.bytesLess x.toList pv.toList || x.toList == pv.toList) = true := by
  have e : x.toList = [] := by
    rw [ByteArray.toList_eq]
    exact List.eq_nil_of_length_eq_zero (by rw [bytes_length', h])
  rw [e]
  cases pv.toList <;> rfl
theorem rises_step {mk : Int} {pv x : ByteArray} {l : List ByteArray} : risesP mk pv (x :: l) = if (Op.bytesLess x.toList pv.toList || x.toList == pv.toList) = true then false else if mk < (x.size : Int) then false else risesP mk x l := rfl
end Go.Proofs.YtnofdjfnlmjapaaGreat
