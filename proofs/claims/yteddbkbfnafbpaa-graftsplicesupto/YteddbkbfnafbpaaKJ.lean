/- The walks of GraftNames, GraftBetween, GraftSeparates. -/
import Derived.Test.YteddbkbfnafbpaaKI
import Derived.Test.YteddbkbfnafbpaaK7
namespace Go.Proofs.Yteddbkbfnafbpaa
open Go.RowKit

theorem less_self : ∀ x : List UInt8, Op.bytesLess x x = false := by
  intro x
  induction x with
  | nil => rfl
  | cons a l ih => simp [Op.bytesLess, ih]
theorem not_or {a b : Bool} (h : (!a && !b) = false) : (a = true) ∨ (a = false ∧ b = true) := by cases a <;> cases b <;> simp_all
theorem not_and {a b : Bool} (h : (!a && !b) = true) : a = false ∧ b = false := by cases a <;> cases b <;> simp_all
theorem sep_facts {l r : ByteArray} (h : Op.bytesLess l.toList r.toList = true) : ∃ (C : Nat) (x y : ByteArray), C = comP l.data.toList r.data.toList ∧ C < r.size ∧ x = r.extract 0 (C + 1) ∧ y = r.extract 0 C ∧ x.size = C + 1 ∧
    (Op.bytesLess x.toList l.toList = false ∧ (x.toList == l.toList) = false) ∧ (Op.bytesLess x.toList r.toList = true ∨ (Op.bytesLess x.toList r.toList = false ∧ (x.toList == r.toList) = true)) ∧ (Op.bytesLess y.toList l.toList = true ∨ (Op.bytesLess y.toList l.toList = false ∧ (y.toList == l.toList) = true)) := by
  have h' := h
  rw [ByteArray.toList_eq, ByteArray.toList_eq] at h'
  obtain ⟨_, c2⟩ := com_less h'
  have c2' := c2
  rw [bytes_length'] at c2'
  refine ⟨_, _, _, rfl, c2', rfl, rfl, ?_, not_and ?_, not_or ?_, not_or ?_⟩
  · rw [ByteArray.size_extract]; omega
  · rw [ext_less, less_take h' (by omega)]; simp
  · rw [ext_less]; exact not_less_take (less_self _)
  · rw [ext_less, less_take h' (by omega)]; simp
end Go.Proofs.Yteddbkbfnafbpaa
