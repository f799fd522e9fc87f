/- The document's Between. -/
import Derived.Test.YteddbkbfnafbpaaK6
import Derived.Lib.Bytealg
namespace Go.Proofs.Yteddbkbfnafbpaa
open Go.RowKit

theorem cmp_spec : ∀ a b : List UInt8, (Op.bytesLess a b = true → Lib.compareBytes a b = -1) ∧ (Op.bytesLess a b = false → (a == b) = true → Lib.compareBytes a b = 0) ∧ (Op.bytesLess a b = false → (a == b) = false → Lib.compareBytes a b = 1) := by
  intro a
  induction a with
  | nil => intro b; cases b <;> simp [Op.bytesLess, Lib.compareBytes]
  | cons x a ih =>
    intro b
    cases b with
    | nil => simp [Op.bytesLess, Lib.compareBytes]
    | cons y b =>
      by_cases e : x = y
      · subst e
        have hn : ¬ x < x := UInt8.lt_irrefl x
        have := ih b
        simp only [Op.bytesLess, Lib.compareBytes, hn, decide_false, Bool.false_or, beq_self_eq_true, Bool.true_and, if_false, List.cons_beq_cons]
        exact this
      · rcases UInt8.lt_or_lt_of_ne e with h | h
        · simp [Op.bytesLess, Lib.compareBytes, h]
        · have h2 : ¬ x < y := UInt8.lt_asymm h
          simp [Op.bytesLess, Lib.compareBytes, h, h2, e]

theorem less_take : ∀ {x y : List UInt8} {i : Nat}, Op.bytesLess x y = true → i ≤ y.length → Op.bytesLess x (y.take i) = decide (comP x y < i) := by
  intro x
  induction x with
  | nil =>
    intro y i h hi
    cases y with
    | nil => simp [Op.bytesLess] at h
    | cons b y =>
      cases i with
      | zero => simp [Op.bytesLess, comP]
      | succ i => simp [Op.bytesLess, comP]
  | cons a x ih =>
    intro y i h hi
    cases y with
    | nil => simp [Op.bytesLess] at h
    | cons b y =>
      cases i with
      | zero => simp [Op.bytesLess]
      | succ i =>
        rw [List.take_succ_cons, comP]
        by_cases e : a = b
        · subst e
          have h2 : Op.bytesLess x y = true := by simpa [Op.bytesLess] using h
          have := ih h2 (show i ≤ y.length by simpa using hi)
          rw [if_pos rfl]
          simp only [Op.bytesLess, UInt8.lt_irrefl, decide_false, Bool.false_or, beq_self_eq_true, Bool.true_and]
          rw [this]
          simp
        · have h2 : a < b := by
            simp only [Op.bytesLess, Bool.or_eq_true, decide_eq_true_eq, Bool.and_eq_true, beq_iff_eq] at h
            rcases h with h | h
            · exact h
            · exact absurd h.1 e
          rw [if_neg e]
          simp [Op.bytesLess, h2]
theorem not_less_take : ∀ {x y : List UInt8} {i : Nat}, Op.bytesLess x y = false → Op.bytesLess x (y.take i) = false := by
  intro x
  induction x with
  | nil =>
    intro y i h
    cases y with
    | nil => simp [Op.bytesLess]
    | cons b y => simp [Op.bytesLess] at h
  | cons a x ih =>
    intro y i h
    cases y with
    | nil => simp [Op.bytesLess]
    | cons b y =>
      cases i with
      | zero => simp [Op.bytesLess]
      | succ i =>
        rw [List.take_succ_cons]
        simp only [Op.bytesLess, Bool.or_eq_false_iff, Bool.and_eq_false_iff] at h ⊢
        refine ⟨h.1, ?_⟩
        rcases h.2 with h2 | h2
        · exact Or.inl h2
        · exact Or.inr (ih h2)
theorem extract_list (s : ByteArray) (i n : Nat) : (s.extract i (i + n)).data.toList = (s.data.toList.drop i).take n := by
  rw [ByteArray.data_extract, Array.toList_extract, List.extract_eq_take_drop, Nat.add_sub_cancel_left]
theorem less_gt : ∀ (x y : List UInt8), (!Op.bytesLess x y && !(x == y)) = Op.bytesLess y x := by
  intro x
  induction x with
  | nil => intro y; cases y <;> simp [Op.bytesLess]
  | cons a x ih =>
    intro y
    cases y with
    | nil => simp [Op.bytesLess]
    | cons b y =>
      have := ih y
      by_cases e : a = b
      · subst e
        simp only [Op.bytesLess, UInt8.lt_irrefl, decide_false, Bool.false_or, beq_self_eq_true, Bool.true_and, List.cons_beq_cons]
        exact this
      · rcases UInt8.lt_or_lt_of_ne e with h | h
        · have h2 : ¬ b < a := UInt8.lt_asymm h
          simp [Op.bytesLess, h, h2, Ne.symm e]
        · have h2 : ¬ a < b := UInt8.lt_asymm h
          simp [Op.bytesLess, h, h2, e]
theorem ext_less (l r : ByteArray) (i : Nat) : (!Op.bytesLess (r.extract 0 i).toList l.toList && !(r.extract 0 i).toList == l.toList) = Op.bytesLess l.data.toList (r.data.toList.take i) := by
  rw [less_gt]
  have := extract_list r 0 i
  rw [Nat.zero_add, List.drop_zero] at this
  rw [ByteArray.toList_eq, ByteArray.toList_eq, this]
end Go.Proofs.Yteddbkbfnafbpaa
