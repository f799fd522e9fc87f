/-
  Walks: Each over numbers, bytes and texts, as the steps lay them.
-/
import Derived.Test.YtaknpcimdpdekaaDoorWG
import Derived.Test.YtaknpcimdpdekaaDoorWC
namespace Go.Proofs.YtaknpcimdpdekaaDoor
open Go.RowKit

def byteB (c : UInt8) : List UInt8 := [c]
/-- Things laid one behind the other. -/
def laidAll {α : Type} (enc : α → List UInt8) (l : List α) : List UInt8 := (l.map enc).flatten
theorem laidAll_take_succ {α : Type} (enc : α → List UInt8) (l : List α) (k : Nat) (h : k < l.length) : laidAll enc (l.take (k + 1)) = laidAll enc (l.take k) ++ enc l[k] := by
  unfold laidAll; rw [List.take_succ_eq_append_getElem h, List.map_append, List.flatten_append]; simp
theorem laidAll_take_le {α : Type} (enc : α → List UInt8) (l : List α) (k : Nat) : (laidAll enc (l.take k)).length ≤ (laidAll enc l).length := by
  have : (laidAll enc l).length = (laidAll enc (l.take k)).length + (laidAll enc (l.drop k)).length := by
    rw [← List.length_append]; unfold laidAll; rw [← List.flatten_append, ← List.map_append, List.take_append_drop]
  omega

end Go.Proofs.YtaknpcimdpdekaaDoor
