/-
  The plain functions that lists are read by.
-/
import Derived.Test.YtjlbkagkmcelgaaR0
namespace Go.Proofs.Ytjlbkagkmcelgaa
open Go.RowKit

/-- How many things a list has: (number, place, fault). -/
def rCount (s : ByteArray) (p c most : Nat) : Nat × Nat × Nat :=
  if s.size - (rFree s p c most).2.1 < (rFree s p c most).1 then (0, p, 12) else rFree s p c most
theorem rFree_code (s : ByteArray) (p c most : Nat) : (rFree s p c most).2.2 ≠ 0 → (rFree s p c most).1 = 0 := by
  unfold rFree; split
  · split
    · split <;> simp
    · simp
  · simp
end Go.Proofs.Ytjlbkagkmcelgaa
