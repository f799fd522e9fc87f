/- Plain: a form that was turned within four bytes, in one of its parts, has another sum. -/
import Derived.Test.YtdnfcpkdibojmaaDoorG7
import Derived.Test.YtdnfcpkdibojmaaDoorSAL
namespace Go.Proofs.YtdnfcpkdibojmaaDoor

theorem mask4_bit (m0 m1 m2 m3 : UInt8) (i : Nat) (hi : i < 32) : (mask4 m0 m1 m2 m3).toBitVec.getLsbD i =
    if i < 8 then m0.toBitVec.getLsbD i else if i < 16 then m1.toBitVec.getLsbD (i - 8) else if i < 24 then m2.toBitVec.getLsbD (i - 16) else m3.toBitVec.getLsbD (i - 24) := by
  unfold mask4
  have a8 : (UInt32.toBitVec 8 % 32).toNat = 8 := by decide
  have a16 : (UInt32.toBitVec 16 % 32).toNat = 16 := by decide
  have a24 : (UInt32.toBitVec 24 % 32).toNat = 24 := by decide
  simp only [UInt32.toBitVec_xor, BitVec.getLsbD_xor, UInt32.toBitVec_shiftLeft, BitVec.shiftLeft_eq', BitVec.getLsbD_shiftLeft, a8, a16, a24, UInt8.toBitVec_toUInt32, BitVec.getLsbD_setWidth]
  have z0 : ∀ j, 8 ≤ j → m0.toBitVec.getLsbD j = false := fun j h => BitVec.getLsbD_of_ge _ _ h
  have z1 : ∀ j, 8 ≤ j → m1.toBitVec.getLsbD j = false := fun j h => BitVec.getLsbD_of_ge _ _ h
  have z2 : ∀ j, 8 ≤ j → m2.toBitVec.getLsbD j = false := fun j h => BitVec.getLsbD_of_ge _ _ h
  by_cases h1 : i < 8
  · have h2 : i < 16 := by omega
    have h3 : i < 24 := by omega
    simp [h1, h2, h3, hi]
  · by_cases h2 : i < 16
    · have h3 : i < 24 := by omega
      have e := z0 i (by omega)
      have h4 : i - 8 < 32 := by omega
      simp [h1, h2, h3, h4, hi, e]
    · by_cases h3 : i < 24
      · have e := z0 i (by omega)
        have e1 := z1 (i - 8) (by omega)
        have h4 : i - 8 < 32 := by omega
        have h5 : i - 16 < 32 := by omega
        simp [h1, h2, h3, h4, h5, hi, e, e1]
      · have e := z0 i (by omega)
        have e1 := z1 (i - 8) (by omega)
        have e2 := z2 (i - 16) (by omega)
        have h4 : i - 8 < 32 := by omega
        have h5 : i - 16 < 32 := by omega
        have h6 : i - 24 < 32 := by omega
        simp [h1, h2, h3, h4, h5, h6, hi, e, e1, e2]
theorem u8_zero {m : UInt8} (h : ∀ j, j < 8 → m.toBitVec.getLsbD j = false) : m = 0 := by
  apply UInt8.toBitVec_inj.1
  apply BitVec.eq_of_getLsbD_eq
  intro j hj
  rw [h j hj]
  simp
theorem mask4_zero {m0 m1 m2 m3 : UInt8} (h : mask4 m0 m1 m2 m3 = 0) : m0 = 0 ∧ m1 = 0 ∧ m2 = 0 ∧ m3 = 0 := by
  have hb : ∀ i, i < 32 → (mask4 m0 m1 m2 m3).toBitVec.getLsbD i = false := by intro i hi; rw [h]; simp
  refine ⟨u8_zero fun j hj => ?_, u8_zero fun j hj => ?_, u8_zero fun j hj => ?_, u8_zero fun j hj => ?_⟩
  · have := hb j (by omega)
    rw [mask4_bit _ _ _ _ _ (by omega), if_pos hj] at this
    exact this
  · have := hb (j + 8) (by omega)
    rw [mask4_bit _ _ _ _ _ (by omega), if_neg (by omega), if_pos (by omega), Nat.add_sub_cancel] at this
    exact this
  · have := hb (j + 16) (by omega)
    rw [mask4_bit _ _ _ _ _ (by omega), if_neg (by omega), if_neg (by omega), if_pos (by omega), Nat.add_sub_cancel] at this
    exact this
  · have := hb (j + 24) (by omega)
    rw [mask4_bit _ _ _ _ _ (by omega), if_neg (by omega), if_neg (by omega), if_neg (by omega), Nat.add_sub_cancel] at this
    exact this

/-- One byte turned. -/
def tset (l : List UInt8) (j : Nat) (e : UInt8) : List UInt8 := l.set j (l.getD j 0 ^^^ e)
theorem tset_length (l : List UInt8) (j : Nat) (e : UInt8) : (tset l j e).length = l.length := by simp [tset]
theorem tset_zero (l : List UInt8) (j : Nat) : tset l j 0 = l := by
  unfold tset
  apply List.ext_getElem?
  intro k
  rw [List.getElem?_set]
  by_cases h : j = k
  · subst h
    by_cases hl : j < l.length
    · simp [hl]
    · simp [hl]
  · rw [if_neg h]
/-- Four bytes turned. -/
def turn4 (l : List UInt8) (i : Nat) (e0 e1 e2 e3 : UInt8) : List UInt8 := tset (tset (tset (tset l i e0) (i + 1) e1) (i + 2) e2) (i + 3) e3
theorem turn4_parts (l : List UInt8) (i : Nat) (e0 e1 e2 e3 : UInt8) (hi : i + 4 ≤ l.length) : ∃ b0 b1 b2 b3, l = l.take i ++ ([b0, b1, b2, b3] ++ l.drop (i + 4)) ∧
    turn4 l i e0 e1 e2 e3 = l.take i ++ ([b0 ^^^ e0, b1 ^^^ e1, b2 ^^^ e2, b3 ^^^ e3] ++ l.drop (i + 4)) := by
  obtain ⟨p, q, rfl, hp⟩ : ∃ p q, l = p ++ q ∧ p.length = i := ⟨l.take i, l.drop i, (List.take_append_drop i l).symm, by rw [List.length_take]; omega⟩
  match q, hi with
  | [], hi => simp at hi; omega
  | [_], hi => simp at hi; omega
  | [_, _], hi => simp at hi; omega
  | [_, _, _], hi => simp at hi; omega
  | b0 :: b1 :: b2 :: b3 :: t, hi =>
    subst hp
    refine ⟨b0, b1, b2, b3, ?_, ?_⟩
    · simp [List.take_left', List.drop_append]
    · simp [turn4, tset, List.take_left', List.drop_append]
theorem turn4_ne (l : List UInt8) (i : Nat) (e0 e1 e2 e3 : UInt8) (hi : i + 4 ≤ l.length) (hm : ¬ mask4 e0 e1 e2 e3 = 0) : ¬ moreP 0 (turn4 l i e0 e1 e2 e3) = moreP 0 l := by
  obtain ⟨b0, b1, b2, b3, h1, h2⟩ := turn4_parts l i e0 e1 e2 e3 hi
  have := turned_ne (l.take i) (l.drop (i + 4)) b0 b1 b2 b3 e0 e1 e2 e3 hm 0
  rw [← h1, ← h2] at this
  exact this

/-- All of a form but its sum; its sum. -/
def offS (l : List UInt8) : List UInt8 := l.take 28 ++ l.drop 32
def sumS (l : List UInt8) : List UInt8 := (l.drop 28).take 4
theorem form_off (l : List UInt8) : l = l.take 28 ++ (sumS l ++ l.drop 32) := by
  unfold sumS
  rw [show (32 : Nat) = 28 + 4 from rfl, ← List.drop_drop, List.take_append_drop, List.take_append_drop]
theorem take_tset (l : List UInt8) (j n : Nat) (e : UInt8) : (tset l j e).take n = tset (l.take n) j (if j < n then e else 0) := by
  by_cases h : j < n
  · rw [if_pos h]
    unfold tset
    rw [List.take_set]
    congr 2
    rw [List.getD_eq_getElem?_getD, List.getD_eq_getElem?_getD, List.getElem?_take_of_lt h]
  · rw [if_neg h, tset_zero]
    unfold tset
    rw [List.take_set, List.set_eq_of_length_le]
    rw [List.length_take]; omega
theorem drop_tset (l : List UInt8) (j n : Nat) (e : UInt8) : (tset l j e).drop n = if j < n then l.drop n else tset (l.drop n) (j - n) e := by
  unfold tset
  rw [List.drop_set]
  by_cases h : j < n
  · rw [if_pos h, if_pos h]
  · rw [if_neg h, if_neg h]
    congr 2
    rw [List.getD_eq_getElem?_getD, List.getD_eq_getElem?_getD, List.getElem?_drop, show n + (j - n) = j from by omega]
theorem off_tset (l : List UInt8) (j : Nat) (e : UInt8) (hl : 32 ≤ l.length) : offS (tset l j e) = if j < 28 then tset (offS l) j e else if j < 32 then offS l else tset (offS l) (j - 4) e := by
  have h28 : (l.take 28).length = 28 := by rw [List.length_take]; omega
  unfold offS
  rw [take_tset, drop_tset]
  by_cases h : j < 28
  · rw [if_pos h, if_pos h, if_pos (by omega)]
    unfold tset
    rw [List.set_append_left _ _ (by omega), List.getD_eq_getElem?_getD, List.getD_eq_getElem?_getD, List.getElem?_append_left (by omega)]
  · rw [if_neg h, if_neg h, tset_zero]
    by_cases h2 : j < 32
    · rw [if_pos h2, if_pos h2]
    · rw [if_neg h2, if_neg h2]
      unfold tset
      rw [List.set_append_right _ _ (by omega), List.getD_eq_getElem?_getD, List.getD_eq_getElem?_getD, List.getElem?_append_right (by omega), h28, show j - 4 - 28 = j - 32 from by omega]
theorem sum_tset (l : List UInt8) (j : Nat) (e : UInt8) (h : j < 28 ∨ 32 ≤ j) : sumS (tset l j e) = sumS l := by
  unfold sumS
  rw [drop_tset]
  rcases h with h | h
  · rw [if_pos h]
  · rw [if_neg (by omega), take_tset, if_neg (by omega), tset_zero]
end Go.Proofs.YtdnfcpkdibojmaaDoor
