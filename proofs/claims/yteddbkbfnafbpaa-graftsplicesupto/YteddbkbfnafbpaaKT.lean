/- Plain: a pair put into rising pairs, found there, and taken out. -/
import Derived.Test.YteddbkbfnafbpaaK1
import Derived.Test.YteddbkbfnafbpaaK7
namespace Go.Proofs.Yteddbkbfnafbpaa
open Go.RowKit

def cmpB (a b : ByteArray) : Int := Lib.compareBytes a.data.toList b.data.toList
theorem cmp_self : ∀ l : List UInt8, Lib.compareBytes l l = 0
  | [] => rfl
  | a :: l => by simp [Lib.compareBytes, cmp_self l]
theorem cmp_cases (a b : ByteArray) : (Op.bytesLess a.toList b.toList = true ∧ cmpB a b = -1) ∨ (a = b ∧ cmpB a b = 0) ∨ (Op.bytesLess b.toList a.toList = true ∧ cmpB a b = 1) := by
  obtain ⟨q1, q2, q3⟩ := cmp_spec a.data.toList b.data.toList
  have hg := less_gt a.data.toList b.data.toList
  rw [ByteArray.toList_eq, ByteArray.toList_eq]
  unfold cmpB
  cases h1 : Op.bytesLess a.data.toList b.data.toList with
  | true => exact Or.inl ⟨rfl, q1 h1⟩
  | false =>
    cases h2 : (a.data.toList == b.data.toList) with
    | true =>
      refine Or.inr (Or.inl ⟨?_, q2 h1 h2⟩)
      have := eq_of_beq h2
      obtain ⟨⟨x⟩⟩ := a
      obtain ⟨⟨y⟩⟩ := b
      simp only at this
      rw [this]
    | false =>
      rw [h1, h2] at hg
      exact Or.inr (Or.inr ⟨hg.symm, q3 h1 h2⟩)
theorem less_trans : ∀ {a b c : List UInt8}, Op.bytesLess a b = true → Op.bytesLess b c = true → Op.bytesLess a c = true := by
  intro a
  induction a with
  | nil =>
    intro b c h1 h2
    cases c with
    | nil => cases b <;> simp [Op.bytesLess] at h1 h2
    | cons z c => simp [Op.bytesLess]
  | cons x a ih =>
    intro b c h1 h2
    cases b with
    | nil => simp [Op.bytesLess] at h1
    | cons y b =>
      cases c with
      | nil => simp [Op.bytesLess] at h2
      | cons z c =>
        simp only [Op.bytesLess, Bool.or_eq_true, Bool.and_eq_true, decide_eq_true_eq, beq_iff_eq] at h1 h2 ⊢
        rcases h1 with h1 | ⟨rfl, h1⟩
        · rcases h2 with h2 | ⟨rfl, h2⟩
          · exact Or.inl (UInt8.lt_trans h1 h2)
          · exact Or.inl h1
        · rcases h2 with h2 | ⟨rfl, h2⟩
          · exact Or.inl h2
          · exact Or.inr ⟨rfl, ih h1 h2⟩
theorem not_below {a b : ByteArray} (h : Op.bytesLess a.toList b.toList = true) : (Op.bytesLess b.toList a.toList || b.toList == a.toList) = false := by
  have hg := less_gt b.toList a.toList
  rw [h] at hg
  cases h1 : Op.bytesLess b.toList a.toList <;> cases h2 : (b.toList == a.toList) <;> simp_all
theorem below_of {a b : ByteArray} (h : (Op.bytesLess b.toList a.toList || b.toList == a.toList) = false) : Op.bytesLess a.toList b.toList = true := by
  have hg := less_gt b.toList a.toList
  rw [Bool.or_eq_false_iff] at h
  rw [h.1, h.2] at hg
  exact hg.symm
theorem rises_cons {mk : Int} {pv k : ByteArray} {l : List ByteArray} : risesP mk pv (k :: l) = true ↔ Op.bytesLess pv.toList k.toList = true ∧ (k.size : Int) ≤ mk ∧ risesP mk k l = true := by
  show ((if (Op.bytesLess k.toList pv.toList || k.toList == pv.toList) = true then false else if mk < (k.size : Int) then false else risesP mk k l) = true) ↔ _
  cases h : (Op.bytesLess k.toList pv.toList || k.toList == pv.toList) with
  | true =>
    rw [if_pos rfl]
    constructor
    · intro h; cases h
    · rintro ⟨h1, _⟩; rw [not_below h1] at h; cases h
  | false =>
    rw [if_neg (by simp)]
    by_cases hs : mk < (k.size : Int)
    · rw [if_pos hs]
      constructor
      · intro h; cases h
      · rintro ⟨_, h1, _⟩; omega
    · rw [if_neg hs]
      exact ⟨fun h' => ⟨below_of h, by omega, h'⟩, fun h' => h'.2.2⟩
theorem empty_less (k : ByteArray) (h : 1 ≤ k.size) : Op.bytesLess (⟨#[]⟩ : ByteArray).toList k.toList = true := by
  rw [ByteArray.toList_eq, ByteArray.toList_eq]
  cases hl : k.data.toList with
  | nil => have := bytes_length' k; rw [hl] at this; simp at this; omega
  | cons x l => rfl
theorem rises_weak {mk : Int} {pv x : ByteArray} {l : List ByteArray} (h : risesP mk x l = true) (hl : Op.bytesLess pv.toList x.toList = true) : risesP mk pv l = true := by
  cases l with
  | nil => rfl
  | cons y l => rw [rises_cons] at h ⊢; exact ⟨less_trans hl h.1, h.2⟩
def insR (k v : ByteArray) : List (ByteArray × ByteArray) → List (ByteArray × ByteArray)
  | [] => [(k, v)]
  | x :: l => if cmpB x.1 k = 0 then (k, v) :: l else if cmpB x.1 k = 1 then (k, v) :: x :: l else x :: insR k v l
def delR (k : ByteArray) : List (ByteArray × ByteArray) → List (ByteArray × ByteArray)
  | [] => []
  | x :: l => if cmpB x.1 k = 0 then l else if cmpB x.1 k = 1 then x :: l else x :: delR k l
theorem ins_cons (k v : ByteArray) (x : ByteArray × ByteArray) (l : List (ByteArray × ByteArray)) : insR k v (x :: l) = if cmpB x.1 k = 0 then (k, v) :: l else if cmpB x.1 k = 1 then (k, v) :: x :: l else x :: insR k v l := rfl
theorem find_shift (k : ByteArray) : ∀ (ps : List (ByteArray × ByteArray)) (s : Nat), findP k ps (s + 1) = ((findP k ps s).1 + 1, (findP k ps s).2) := by
  intro ps
  induction ps with
  | nil => intro s; rfl
  | cons x l ih =>
    intro s
    unfold findP
    split
    · rfl
    · split
      · rfl
      · exact ih (s + 1)
theorem find_cons (k : ByteArray) (x : ByteArray × ByteArray) (l : List (ByteArray × ByteArray)) : findP k (x :: l) 0 = if cmpB x.1 k = 0 then (0, true) else if cmpB x.1 k = 1 then (0, false) else ((findP k l 0).1 + 1, (findP k l 0).2) := by
  show (if _ then _ else if _ then _ else _) = _
  rw [find_shift]; rfl
theorem find_parts (k v : ByteArray) (ps : List (ByteArray × ByteArray)) : ∀ i b, findP k ps 0 = (i, b) → i + (if b = true then 1 else 0) ≤ ps.length ∧ ps.take i ++ (k, v) :: ps.drop (i + if b = true then 1 else 0) = insR k v ps ∧ ps.take i ++ ps.drop (i + if b = true then 1 else 0) = delR k ps := by
  induction ps with
  | nil => intro i b h; cases h; simp [insR, delR]
  | cons x l ih =>
    intro i b h
    rw [find_cons] at h
    unfold insR delR
    by_cases h0 : cmpB x.1 k = 0
    · rw [if_pos h0] at h ⊢; cases h; simp [h0]
    · rw [if_neg h0] at h
      rw [if_neg h0, if_neg h0]
      by_cases h1 : cmpB x.1 k = 1
      · rw [if_pos h1] at h; cases h; simp [h1]
      · rw [if_neg h1] at h
        rw [if_neg h1, if_neg h1]
        cases h
        obtain ⟨h2, h3, h4⟩ := ih _ _ rfl
        refine ⟨by rw [List.length_cons]; omega, ?_, ?_⟩
        · rw [← h3, show (findP k l 0).1 + 1 + (if (findP k l 0).2 = true then 1 else 0) = ((findP k l 0).1 + if (findP k l 0).2 = true then 1 else 0) + 1 from by omega]; rfl
        · rw [← h4, show (findP k l 0).1 + 1 + (if (findP k l 0).2 = true then 1 else 0) = ((findP k l 0).1 + if (findP k l 0).2 = true then 1 else 0) + 1 from by omega]; rfl
theorem cmpB_self (k : ByteArray) : cmpB k k = 0 := cmp_self _
theorem find_ins (k v : ByteArray) (ps : List (ByteArray × ByteArray)) : findP k (insR k v ps) 0 = ((findP k ps 0).1, true) := by
  induction ps with
  | nil => rw [insR, find_cons, if_pos (cmpB_self k)]; rfl
  | cons x l ih =>
    rw [find_cons k x l]
    unfold insR
    by_cases h0 : cmpB x.1 k = 0
    · rw [if_pos h0, if_pos h0, find_cons, if_pos (cmpB_self k)]
    · rw [if_neg h0, if_neg h0]
      by_cases h1 : cmpB x.1 k = 1
      · rw [if_pos h1, if_pos h1, find_cons, if_pos (cmpB_self k)]
      · rw [if_neg h1, if_neg h1, find_cons, if_neg h0, if_neg h1, ih]
theorem ins_ins (k v : ByteArray) (ps : List (ByteArray × ByteArray)) : insR k v (insR k v ps) = insR k v ps := by
  induction ps with
  | nil => rw [insR, insR, if_pos (cmpB_self k)]
  | cons x l ih =>
    rw [ins_cons k v x l]
    by_cases h0 : cmpB x.1 k = 0
    · rw [if_pos h0, ins_cons, if_pos (cmpB_self k)]
    · rw [if_neg h0]
      by_cases h1 : cmpB x.1 k = 1
      · rw [if_pos h1, ins_cons, if_pos (cmpB_self k)]
      · rw [if_neg h1, ins_cons, if_neg h0, if_neg h1, ih]
theorem del_ins (k v : ByteArray) (ps : List (ByteArray × ByteArray)) : delR k (insR k v ps) = delR k ps := by
  induction ps with
  | nil =>
    show (if cmpB k k = 0 then [] else if cmpB k k = 1 then [(k, v)] else (k, v) :: delR k []) = []
    rw [if_pos (cmpB_self k)]
  | cons x l ih =>
    rw [insR]
    by_cases h0 : cmpB x.1 k = 0
    · rw [if_pos h0, delR, if_pos (cmpB_self k), delR, if_pos h0]
    · rw [if_neg h0]
      by_cases h1 : cmpB x.1 k = 1
      · rw [if_pos h1, delR, if_pos (cmpB_self k), delR, if_neg h0, if_pos h1]
      · rw [if_neg h1, delR, if_neg h0, if_neg h1, ih, delR, if_neg h0, if_neg h1]
theorem del_none (k : ByteArray) (ps : List (ByteArray × ByteArray)) (h : (findP k ps 0).2 = false) : delR k ps = ps := by
  induction ps with
  | nil => rfl
  | cons x l ih =>
    rw [find_cons] at h
    rw [delR]
    by_cases h0 : cmpB x.1 k = 0
    · rw [if_pos h0] at h; cases h
    · rw [if_neg h0] at h ⊢
      by_cases h1 : cmpB x.1 k = 1
      · rw [if_pos h1]
      · rw [if_neg h1] at h ⊢; rw [ih h]
theorem find_del {mk : Int} (k : ByteArray) (ps : List (ByteArray × ByteArray)) : ∀ pv, risesP mk pv (ps.map (·.1)) = true → (findP k (delR k ps) 0).2 = false := by
  induction ps with
  | nil => intro pv h; rfl
  | cons x l ih =>
    intro pv h
    rw [List.map_cons, rises_cons] at h
    rw [delR]
    rcases cmp_cases x.1 k with ⟨h1, h2⟩ | ⟨h1, h2⟩ | ⟨h1, h2⟩
    · rw [if_neg (by rw [h2]; decide), if_neg (by rw [h2]; decide), find_cons, if_neg (by rw [h2]; decide), if_neg (by rw [h2]; decide)]
      exact ih _ h.2.2
    · rw [if_pos h2]
      cases l with
      | nil => rfl
      | cons y l =>
        have h3 := h.2.2
        rw [List.map_cons, rises_cons, h1] at h3
        rcases cmp_cases y.1 k with ⟨h4, h5⟩ | ⟨h4, h5⟩ | ⟨h4, h5⟩
        · have := not_below h3.1; rw [h4] at this; cases this
        · have := not_below h3.1; rw [h4] at this; simp at this
        · rw [find_cons, if_neg (by rw [h5]; decide), if_pos h5]
    · rw [if_neg (by rw [h2]; decide), if_pos h2, find_cons, if_neg (by rw [h2]; decide), if_pos h2]
theorem rises_ins {mk : Int} (k v : ByteArray) (hk : (k.size : Int) ≤ mk) (ps : List (ByteArray × ByteArray)) : ∀ pv, Op.bytesLess pv.toList k.toList = true → risesP mk pv (ps.map (·.1)) = true → risesP mk pv ((insR k v ps).map (·.1)) = true := by
  induction ps with
  | nil => intro pv h1 _; rw [insR, List.map_cons, rises_cons]; exact ⟨h1, hk, rfl⟩
  | cons x l ih =>
    intro pv hp h
    rw [List.map_cons, rises_cons] at h
    rw [insR]
    rcases cmp_cases x.1 k with ⟨h1, h2⟩ | ⟨h1, h2⟩ | ⟨h1, h2⟩
    · rw [if_neg (by rw [h2]; decide), if_neg (by rw [h2]; decide), List.map_cons, rises_cons]
      exact ⟨h.1, h.2.1, ih _ h1 h.2.2⟩
    · rw [if_pos h2, List.map_cons, rises_cons]
      exact ⟨hp, hk, by rw [← h1]; exact h.2.2⟩
    · rw [if_neg (by rw [h2]; decide), if_pos h2, List.map_cons, rises_cons, List.map_cons, rises_cons]
      exact ⟨hp, hk, h1, h.2⟩
theorem rises_del {mk : Int} (k : ByteArray) (ps : List (ByteArray × ByteArray)) : ∀ pv, risesP mk pv (ps.map (·.1)) = true → risesP mk pv ((delR k ps).map (·.1)) = true := by
  induction ps with
  | nil => intro pv _; rfl
  | cons x l ih =>
    intro pv h
    have h' := h
    rw [List.map_cons, rises_cons] at h
    rw [delR]
    rcases cmp_cases x.1 k with ⟨h1, h2⟩ | ⟨h1, h2⟩ | ⟨h1, h2⟩
    · rw [if_neg (by rw [h2]; decide), if_neg (by rw [h2]; decide), List.map_cons, rises_cons]
      exact ⟨h.1, h.2.1, ih _ h.2.2⟩
    · rw [if_pos h2]; exact rises_weak h.2.2 h.1
    · rw [if_neg (by rw [h2]; decide), if_pos h2]; exact h'
theorem mem_ins {k v : ByteArray} {ps : List (ByteArray × ByteArray)} {y : ByteArray × ByteArray} (h : y ∈ insR k v ps) : y = (k, v) ∨ y ∈ ps := by
  induction ps with
  | nil => simpa [insR] using h
  | cons x l ih =>
    rw [insR] at h
    split at h
    · rcases List.mem_cons.1 h with h | h
      · exact Or.inl h
      · exact Or.inr (List.mem_cons_of_mem _ h)
    · split at h
      · rcases List.mem_cons.1 h with h | h
        · exact Or.inl h
        · exact Or.inr h
      · rcases List.mem_cons.1 h with h | h
        · exact Or.inr (by rw [h]; exact List.mem_cons_self ..)
        · rcases ih h with h | h
          · exact Or.inl h
          · exact Or.inr (List.mem_cons_of_mem _ h)
theorem mem_del {k : ByteArray} {ps : List (ByteArray × ByteArray)} {y : ByteArray × ByteArray} (h : y ∈ delR k ps) : y ∈ ps := by
  induction ps with
  | nil => exact h
  | cons x l ih =>
    rw [delR] at h
    split at h
    · exact List.mem_cons_of_mem _ h
    · split at h
      · exact h
      · rcases List.mem_cons.1 h with h | h
        · rw [h]; exact List.mem_cons_self ..
        · exact List.mem_cons_of_mem _ (ih h)
theorem ins_len (k v : ByteArray) (ps : List (ByteArray × ByteArray)) : (insR k v ps).length ≤ ps.length + 1 ∧ 1 ≤ (insR k v ps).length := by
  induction ps with
  | nil => simp [insR]
  | cons x l ih =>
    rw [insR]
    split
    · simp
    · split
      · simp
      · simp only [List.length_cons]; omega
theorem chk_leaf {p q : Int} {N : Nd} (hc : chkN p q N = 0) (hk : N.ks.length = 0) : N.ss = [] ∧ N.ks = [] ∧ frameP p q = true ∧ risesP (p / 16) ⟨#[]⟩ (N.ps.map (·.1)) = true ∧ (∀ x ∈ N.ps, longB (p / 8) x = false) := by
  obtain ⟨hf, hs⟩ := chk_zero hc
  unfold shapeP at hs
  have hk0 : N.ks = [] := List.eq_nil_of_length_eq_zero hk
  by_cases hl : leafB N = true
  · rw [if_pos hl] at hs
    unfold leafB at hl
    simp only [Bool.and_eq_true, decide_eq_true_eq] at hl
    unfold leafP at hs
    simp only [Bool.and_eq_true, Bool.not_eq_true', List.any_eq_false] at hs
    exact ⟨List.eq_nil_of_length_eq_zero hl.1, hk0, hf, hs.1, fun x hx => by simpa using hs.2 x hx⟩
  · rw [if_neg hl] at hs
    unfold branchP at hs
    simp only [Bool.and_eq_true, Bool.not_eq_true', Bool.or_eq_false_iff, decide_eq_false_iff_not] at hs
    omega
theorem leaf_chk {p q : Int} {ps : List (ByteArray × ByteArray)} (hf : frameP p q = true) (h1 : risesP (p / 16) ⟨#[]⟩ (ps.map (·.1)) = true) (h2 : ∀ x ∈ ps, longB (p / 8) x = false) : chkN p q ⟨ps, [], []⟩ = 0 := by
  unfold chkN shapeP
  rw [if_pos hf, if_pos (show leafB ⟨ps, [], []⟩ = true from rfl)]
  have : leafP p ⟨ps, [], []⟩ = true := by
    unfold leafP
    simp only [Bool.and_eq_true, Bool.not_eq_true', List.any_eq_false]
    exact ⟨h1, fun x hx => by simp [h2 x hx]⟩
  rw [if_pos this]
end Go.Proofs.Yteddbkbfnafbpaa
