/- Plain: a pair put into rising pairs, found there, and taken out. -/
import Derived.Test.YtmgkdnejjemfeaaK1
import Derived.Test.YtmgkdnejjemfeaaK6J
namespace Go.Proofs.Ytmgkdnejjemfeaa
open Go.RowKit

theorem less_trans : ∀ {a b c : List UInt8}, Op.bytesLess a b = true → Op.bytesLess b c = true → Op.bytesLess a c = true := by
  intro a
  induction a with
  | nil =>
    intro b c h1 h2
    cases c with
    | nil => cases b <;> simp [Op.bytesLess] at h1 h2
    | cons z c => simp [Op.bytesLess]
  | cons x a ih =>
    intro b c h1 h2
    cases b with
    | nil => simp [Op.bytesLess] at h1
    | cons y b =>
      cases c with
      | nil => simp [Op.bytesLess] at h2
      | cons z c =>
        simp only [Op.bytesLess, Bool.or_eq_true, Bool.and_eq_true, decide_eq_true_eq, beq_iff_eq] at h1 h2 ⊢
        rcases h1 with h1 | ⟨rfl, h1⟩
        · rcases h2 with h2 | ⟨rfl, h2⟩
          · exact Or.inl (UInt8.lt_trans h1 h2)
          · exact Or.inl h1
        · rcases h2 with h2 | ⟨rfl, h2⟩
          · exact Or.inl h2
          · exact Or.inr ⟨rfl, ih h1 h2⟩
theorem not_below {a b : ByteArray} (h : Op.bytesLess a.toList b.toList = true) : (Op.bytesLess b.toList a.toList || b.toList == a.toList) = false := by
  have hg := less_gt b.toList a.toList
  rw [h] at hg
  cases h1 : Op.bytesLess b.toList a.toList <;> cases h2 : (b.toList == a.toList) <;> simp_all
theorem below_of {a b : ByteArray} (h : (Op.bytesLess b.toList a.toList || b.toList == a.toList) = false) : Op.bytesLess a.toList b.toList = true := by
  have hg := less_gt b.toList a.toList
  rw [Bool.or_eq_false_iff] at h
  rw [h.1, h.2] at hg
  exact hg.symm
theorem rises_cons {mk : Int} {pv k : ByteArray} {l : List ByteArray} : risesP mk pv (k :: l) = true ↔ Op.bytesLess pv.toList k.toList = true ∧ (k.size : Int) ≤ mk ∧ risesP mk k l = true := by
  show ((if (Op.bytesLess k.toList pv.toList || k.toList == pv.toList) = true then false else if mk < (k.size : Int) then false else risesP mk k l) = true) ↔ _
  cases h : (Op.bytesLess k.toList pv.toList || k.toList == pv.toList) with
  | true =>
    rw [if_pos rfl]
    constructor
    · intro h; cases h
    · rintro ⟨h1, _⟩; rw [not_below h1] at h; cases h
  | false =>
    rw [if_neg (by simp)]
    by_cases hs : mk < (k.size : Int)
    · rw [if_pos hs]
      constructor
      · intro h; cases h
      · rintro ⟨_, h1, _⟩; omega
    · rw [if_neg hs]
      exact ⟨fun h' => ⟨below_of h, by omega, h'⟩, fun h' => h'.2.2⟩
theorem empty_less (k : ByteArray) (h : 1 ≤ k.size) : Op.bytesLess (⟨#[]⟩ : ByteArray).toList k.toList = true := by
  rw [ByteArray.toList_eq, ByteArray.toList_eq]
  cases hl : k.data.toList with
  | nil => have := bytes_length' k; rw [hl] at this; simp at this; omega
  | cons x l => rfl
theorem rises_weak {mk : Int} {pv x : ByteArray} {l : List ByteArray} (h : risesP mk x l = true) (hl : Op.bytesLess pv.toList x.toList = true) : risesP mk pv l = true := by
  cases l with
  | nil => rfl
  | cons y l => rw [rises_cons] at h ⊢; exact ⟨less_trans hl h.1, h.2⟩
theorem chk_leaf {p q : Int} {N : Nd} (hc : chkN p q N = 0) (hk : N.ks.length = 0) : N.ss = [] ∧ N.ks = [] ∧ frameP p q = true ∧ risesP (p / 16) ⟨#[]⟩ (N.ps.map (·.1)) = true ∧ (∀ x ∈ N.ps, longB (p / 8) x = false) := by
  obtain ⟨hf, hs⟩ := chk_zero hc
  unfold shapeP at hs
  have hk0 : N.ks = [] := List.eq_nil_of_length_eq_zero hk
  by_cases hl : leafB N = true
  · rw [if_pos hl] at hs
    unfold leafB at hl
    simp only [Bool.and_eq_true, decide_eq_true_eq] at hl
    unfold leafP at hs
    simp only [Bool.and_eq_true, Bool.not_eq_true', List.any_eq_false] at hs
    exact ⟨List.eq_nil_of_length_eq_zero hl.1, hk0, hf, hs.1, fun x hx => by simpa using hs.2 x hx⟩
  · rw [if_neg hl] at hs
    unfold branchP at hs
    simp only [Bool.and_eq_true, Bool.not_eq_true', Bool.or_eq_false_iff, decide_eq_false_iff_not] at hs
    omega
theorem leaf_chk {p q : Int} {ps : List (ByteArray × ByteArray)} (hf : frameP p q = true) (h1 : risesP (p / 16) ⟨#[]⟩ (ps.map (·.1)) = true) (h2 : ∀ x ∈ ps, longB (p / 8) x = false) : chkN p q ⟨ps, [], []⟩ = 0 := by
  unfold chkN shapeP
  rw [if_pos hf, if_pos (show leafB ⟨ps, [], []⟩ = true from rfl)]
  have : leafP p ⟨ps, [], []⟩ = true := by
    unfold leafP
    simp only [Bool.and_eq_true, Bool.not_eq_true', List.any_eq_false]
    exact ⟨h1, fun x hx => by simp [h2 x hx]⟩
  rw [if_pos this]
end Go.Proofs.Ytmgkdnejjemfeaa
