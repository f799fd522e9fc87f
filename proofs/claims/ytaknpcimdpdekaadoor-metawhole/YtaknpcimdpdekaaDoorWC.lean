/-
  Walks: Each over texts, Join.
-/
import Derived.Test.YtaknpcimdpdekaaDoorW4
namespace Go.Proofs.YtaknpcimdpdekaaDoor
open Go.RowKit

/-- The texts of a list, each with its length, one behind the other. -/
def textsB (ss : List ByteArray) : List UInt8 := (ss.map textB).flatten
theorem textsB_nil : textsB [] = [] := rfl
theorem textsB_take_succ (ss : List ByteArray) (k : Nat) (h : k < ss.length) : textsB (ss.take (k + 1)) = textsB (ss.take k) ++ textB ss[k] := by
  unfold textsB; rw [List.take_succ_eq_append_getElem h, List.map_append, List.flatten_append]; simp
theorem textsB_take_le (ss : List ByteArray) (k : Nat) : (textsB (ss.take k)).length ≤ (textsB ss).length := by
  have : (textsB ss).length = (textsB (ss.take k)).length + (textsB (ss.drop k)).length := by
    rw [← List.length_append]; unfold textsB; rw [← List.flatten_append, ← List.map_append, List.take_append_drop]
  omega
theorem textB_length (s : ByteArray) : s.size ≤ (textB s).length := by unfold textB; rw [List.length_append, bytes_length]; omega

/-- The bytes of a list of texts. -/
def joinB (ss : List ByteArray) : List UInt8 := freeB ss.length ++ textsB ss

/-- Join of texts that lie somewhere. -/
theorem wr_new (w : World) : WrAt (w.alloc (.cells #[.bool true, .slice none 0 0] 114)) w.heap.size none [] :=
  ⟨none, 0, heap_alloc_new w _, World.ownsRow_nil _ _ _ _, rfl⟩

end Go.Proofs.YtaknpcimdpdekaaDoor
