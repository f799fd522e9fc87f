/-
  The plain functions that lists are read by.
-/
import Derived.Test.YtbdlebjhmhmnnaaDoorR0
namespace Go.Proofs.YtbdlebjhmhmnnaaDoor
open Go.RowKit

/-- How many things a list has: (number, place, fault). -/
def rCount (s : ByteArray) (p c most : Nat) : Nat × Nat × Nat :=
  if s.size - (rFree s p c most).2.1 < (rFree s p c most).1 then (0, p, 12) else rFree s p c most
/-- Texts read one behind the other, until one fails. -/
def rTexts (s : ByteArray) (tm : Int) : Nat → Nat → Nat → List ByteArray → List ByteArray × Nat × Nat
  | 0, p, c, acc => (acc, p, c)
  | n + 1, p, c, acc => if c = 0 then rTexts s tm n (rText s p c tm).2.1 (rText s p c tm).2.2 (acc ++ [(rText s p c tm).1]) else (acc, p, c)
/-- A list of texts: (texts, place, fault). -/
def rListT (s : ByteArray) (p c most : Nat) (tm : Int) : List ByteArray × Nat × Nat :=
  if (rTexts s tm (rCount s p c most).1 (rCount s p c most).2.1 (rCount s p c most).2.2 []).2.2 = 0 then rTexts s tm (rCount s p c most).1 (rCount s p c most).2.1 (rCount s p c most).2.2 [] else ([], (rTexts s tm (rCount s p c most).1 (rCount s p c most).2.1 (rCount s p c most).2.2 []).2)
def strs (l : List ByteArray) : List Value := l.map Value.string
theorem strs_append (a b : List ByteArray) : strs (a ++ b) = strs a ++ strs b := by simp [strs]

theorem rCount_place (s : ByteArray) (p c most : Nat) (hp : p ≤ s.size) : p ≤ (rCount s p c most).2.1 ∧ (rCount s p c most).2.1 ≤ s.size ∧ (rCount s p c most).1 ≤ s.size := by
  have := rFree_place s p c most hp
  unfold rCount; split
  · simp; exact hp
  · omega
theorem rFree_code (s : ByteArray) (p c most : Nat) : (rFree s p c most).2.2 ≠ 0 → (rFree s p c most).1 = 0 := by
  unfold rFree; split
  · split
    · split <;> simp
    · simp
  · simp
theorem rCount_code (s : ByteArray) (p c most : Nat) : (rCount s p c most).2.2 ≠ 0 → (rCount s p c most).1 = 0 := by
  have := rFree_code s p c most
  unfold rCount; split
  · simp
  · exact this
end Go.Proofs.YtbdlebjhmhmnnaaDoor
