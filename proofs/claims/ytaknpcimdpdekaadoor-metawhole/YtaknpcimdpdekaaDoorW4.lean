/-
  Walks: what Text of a Writer does; the sizes of numbers.
-/
import Derived.Test.YtaknpcimdpdekaaDoorW3
namespace Go.Proofs.YtaknpcimdpdekaaDoor
open Go.RowKit

def textB (s : ByteArray) : List UInt8 := freeB s.size ++ s.data.toList

theorem freeF_length (k n : Nat) : (freeF k n).length ≤ k + 1 := by
  induction k generalizing n with
  | zero => simp [freeF]
  | succ k ih => rw [freeF]; split
                 · simp
                 · have := ih (n / 128); simp; omega
theorem freeB_length (n : Nat) : (freeB n).length ≤ 10 := freeF_length 9 n

end Go.Proofs.YtaknpcimdpdekaaDoor
