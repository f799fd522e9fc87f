/-
  Plain: every text is a tag and parts with nothing behind them, or has a fault.
-/
import Derived.Test.YtpkpklbambmbeaaDoorSPA
namespace Go.Proofs.YtpkpklbambmbeaaDoor
open Go.RowKit

def num4 (l : List UInt8) : Nat := (l.getD 0 0).toNat * 16777216 + (l.getD 1 0).toNat * 65536 + (l.getD 2 0).toNat * 256 + (l.getD 3 0).toNat
theorem u8_lt (x : UInt8) : x.toNat < 256 := x.toBitVec.isLt
theorem num4_lt (l : List UInt8) : num4 l < 4294967296 := by
  have h0 := u8_lt (l.getD 0 0)
  have h1 := u8_lt (l.getD 1 0)
  have h2 := u8_lt (l.getD 2 0)
  have h3 := u8_lt (l.getD 3 0)
  unfold num4
  omega
theorem by4_num4 (a b c d : UInt8) (l : List UInt8) : by4 (UInt32.ofNat (num4 (a :: b :: c :: d :: l))) = [a, b, c, d] := by
  have h0 := u8_lt a
  have h1 := u8_lt b
  have h2 := u8_lt c
  have h3 := u8_lt d
  have e : num4 (a :: b :: c :: d :: l) = a.toNat * 16777216 + b.toNat * 65536 + c.toNat * 256 + d.toNat := rfl
  rw [e]
  unfold by4
  congr 1
  · apply UInt8.toNat_inj.1
    simp [UInt32.toNat_shiftRight, Nat.shiftRight_eq_div_pow]; omega
  congr 1
  · apply UInt8.toNat_inj.1
    simp [UInt32.toNat_shiftRight, Nat.shiftRight_eq_div_pow]; omega
  congr 1
  · apply UInt8.toNat_inj.1
    simp [UInt32.toNat_shiftRight, Nat.shiftRight_eq_div_pow]; omega
  congr 1
  · apply UInt8.toNat_inj.1
    simp
/-- Bytes that begin no part. -/
def badR (R : List UInt8) : Prop := R ≠ [] ∧ (R.length < 4 ∨ R.length - 4 < num4 R)
theorem split_rest : ∀ (n : Nat) (R0 : List UInt8), R0.length ≤ n → ∃ (ss : List ByteArray) (R : List UInt8), R0 = ss.flatMap partB ++ R ∧ (∀ s ∈ ss, s.size < 4294967296) ∧ (R = [] ∨ badR R) := by
  intro n
  induction n with
  | zero =>
    intro R0 h
    have : R0 = [] := List.eq_nil_of_length_eq_zero (by omega)
    exact ⟨[], [], by rw [this]; rfl, by simp, Or.inl rfl⟩
  | succ n ih =>
    intro R0 h
    by_cases h0 : R0 = []
    · exact ⟨[], [], by rw [h0]; rfl, by simp, Or.inl rfl⟩
    · by_cases hb : R0.length < 4 ∨ R0.length - 4 < num4 R0
      · exact ⟨[], R0, rfl, by simp, Or.inr ⟨h0, hb⟩⟩
      · obtain ⟨a, b, c, d, l, rfl⟩ : ∃ a b c d l, R0 = a :: b :: c :: d :: l := by
          match R0, hb with
          | a :: b :: c :: d :: l, _ => exact ⟨a, b, c, d, l, rfl⟩
          | [], hb => exact absurd (Or.inl (by simp)) hb
          | [_], hb => exact absurd (Or.inl (by simp)) hb
          | [_, _], hb => exact absurd (Or.inl (by simp)) hb
          | [_, _, _], hb => exact absurd (Or.inl (by simp)) hb
        have hn := num4_lt (a :: b :: c :: d :: l)
        have h4 := by4_num4 a b c d l
        generalize num4 (a :: b :: c :: d :: l) = m at *
        have hml : m ≤ l.length := by simp at hb; omega
        obtain ⟨ss, R, e1, e2, e3⟩ := ih (l.drop m) (by rw [List.length_drop]; simp at h; omega)
        have hsz : (⟨(l.take m).toArray⟩ : ByteArray).size = m := by
          show (List.toArray _).size = m
          rw [List.size_toArray, List.length_take]; omega
        refine ⟨⟨(l.take m).toArray⟩ :: ss, R, ?_, ?_, e3⟩
        · have ep : partB ⟨(l.take m).toArray⟩ = [a, b, c, d] ++ l.take m := by
            unfold partB
            rw [hsz, h4]
          rw [List.flatMap_cons, ep, List.append_assoc, List.append_assoc, ← e1, List.take_append_drop]
          rfl
        · intro s hs
          rcases List.mem_cons.1 hs with rfl | hs
          · omega
          · exact e2 s hs
/-- Bytes that begin with no tag. -/
def badT (T : List UInt8) : Prop := T = [] ∨ ¬ (1 ≤ (T.getD 0 0).toNat ∧ (T.getD 0 0).toNat ≤ 64) ∨ T.length ≤ (T.getD 0 0).toNat
theorem split_text (T : List UInt8) : badT T ∨ ∃ (tag : ByteArray) (ss : List ByteArray) (R : List UInt8), (1 ≤ tag.size ∧ tag.size ≤ 64) ∧ T = UInt8.ofNat tag.size :: tag.data.toList ++ (ss.flatMap partB ++ R) ∧ (∀ s ∈ ss, s.size < 4294967296) ∧ (R = [] ∨ badR R) := by
  by_cases hb : badT T
  · exact Or.inl hb
  · right
    obtain ⟨t, X, rfl⟩ : ∃ t X, T = t :: X := by
      cases T with
      | nil => exact absurd (Or.inl rfl) hb
      | cons t X => exact ⟨t, X, rfl⟩
    have e0 : (t :: X).getD 0 0 = t := rfl
    unfold badT at hb
    rw [e0] at hb
    have h1 : 1 ≤ t.toNat ∧ t.toNat ≤ 64 := by
      apply Decidable.byContradiction
      intro h
      exact hb (Or.inr (Or.inl h))
    have h2 : t.toNat ≤ X.length := by
      apply Decidable.byContradiction
      intro h
      exact hb (Or.inr (Or.inr (by simp; omega)))
    obtain ⟨ss, R, e1, e2, e3⟩ := split_rest _ (X.drop t.toNat) (Nat.le_refl _)
    have hsz : (⟨(X.take t.toNat).toArray⟩ : ByteArray).size = t.toNat := by
      show (List.toArray _).size = _
      rw [List.size_toArray, List.length_take]; omega
    refine ⟨⟨(X.take t.toNat).toArray⟩, ss, R, by rw [hsz]; exact h1, ?_, e2, e3⟩
    rw [hsz, ← e1]
    have : UInt8.ofNat t.toNat = t := by simp
    rw [this]
    show t :: X = t :: (X.take t.toNat ++ X.drop t.toNat)
    rw [List.take_append_drop]
end Go.Proofs.YtpkpklbambmbeaaDoor
