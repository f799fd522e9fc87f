/- Plain: a record's page of which one byte was turned. -/
import Derived.Test.YtepbphgpklphiaaDoorMD
import Derived.Test.YtepbphgpklphiaaDoorSAL
namespace Go.Proofs.YtepbphgpklphiaaDoor
open Go.RowKit

theorem mask4_bit (m0 m1 m2 m3 : UInt8) (i : Nat) (hi : i < 32) : (mask4 m0 m1 m2 m3).toBitVec.getLsbD i =
    if i < 8 then m0.toBitVec.getLsbD i else if i < 16 then m1.toBitVec.getLsbD (i - 8) else if i < 24 then m2.toBitVec.getLsbD (i - 16) else m3.toBitVec.getLsbD (i - 24) := by
  unfold mask4
  have a8 : (UInt32.toBitVec 8 % 32).toNat = 8 := by decide
  have a16 : (UInt32.toBitVec 16 % 32).toNat = 16 := by decide
  have a24 : (UInt32.toBitVec 24 % 32).toNat = 24 := by decide
  simp only [UInt32.toBitVec_xor, BitVec.getLsbD_xor, UInt32.toBitVec_shiftLeft, BitVec.shiftLeft_eq', BitVec.getLsbD_shiftLeft, a8, a16, a24, UInt8.toBitVec_toUInt32, BitVec.getLsbD_setWidth]
  have z0 : ∀ j, 8 ≤ j → m0.toBitVec.getLsbD j = false := fun j h => BitVec.getLsbD_of_ge _ _ h
  have z1 : ∀ j, 8 ≤ j → m1.toBitVec.getLsbD j = false := fun j h => BitVec.getLsbD_of_ge _ _ h
  have z2 : ∀ j, 8 ≤ j → m2.toBitVec.getLsbD j = false := fun j h => BitVec.getLsbD_of_ge _ _ h
  by_cases h1 : i < 8
  · have h2 : i < 16 := by omega
    have h3 : i < 24 := by omega
    simp [h1, h2, h3, hi]
  · by_cases h2 : i < 16
    · have h3 : i < 24 := by omega
      have e := z0 i (by omega)
      have h4 : i - 8 < 32 := by omega
      simp [h1, h2, h3, h4, hi, e]
    · by_cases h3 : i < 24
      · have e := z0 i (by omega)
        have e1 := z1 (i - 8) (by omega)
        have h4 : i - 8 < 32 := by omega
        have h5 : i - 16 < 32 := by omega
        simp [h1, h2, h3, h4, h5, hi, e, e1]
      · have e := z0 i (by omega)
        have e1 := z1 (i - 8) (by omega)
        have e2 := z2 (i - 16) (by omega)
        have h4 : i - 8 < 32 := by omega
        have h5 : i - 16 < 32 := by omega
        have h6 : i - 24 < 32 := by omega
        simp [h1, h2, h3, h4, h5, h6, hi, e, e1, e2]
theorem u8_zero {m : UInt8} (h : ∀ j, j < 8 → m.toBitVec.getLsbD j = false) : m = 0 := by
  apply UInt8.toBitVec_inj.1
  apply BitVec.eq_of_getLsbD_eq
  intro j hj
  rw [h j hj]
  simp
theorem mask4_zero {m0 m1 m2 m3 : UInt8} (h : mask4 m0 m1 m2 m3 = 0) : m0 = 0 ∧ m1 = 0 ∧ m2 = 0 ∧ m3 = 0 := by
  have hb : ∀ i, i < 32 → (mask4 m0 m1 m2 m3).toBitVec.getLsbD i = false := by intro i hi; rw [h]; simp
  refine ⟨u8_zero fun j hj => ?_, u8_zero fun j hj => ?_, u8_zero fun j hj => ?_, u8_zero fun j hj => ?_⟩
  · have := hb j (by omega)
    rw [mask4_bit _ _ _ _ _ (by omega), if_pos hj] at this
    exact this
  · have := hb (j + 8) (by omega)
    rw [mask4_bit _ _ _ _ _ (by omega), if_neg (by omega), if_pos (by omega), Nat.add_sub_cancel] at this
    exact this
  · have := hb (j + 16) (by omega)
    rw [mask4_bit _ _ _ _ _ (by omega), if_neg (by omega), if_neg (by omega), if_pos (by omega), Nat.add_sub_cancel] at this
    exact this
  · have := hb (j + 24) (by omega)
    rw [mask4_bit _ _ _ _ _ (by omega), if_neg (by omega), if_neg (by omega), if_neg (by omega), Nat.add_sub_cancel] at this
    exact this

/-- One byte turned. -/
def tset (l : List UInt8) (j : Nat) (e : UInt8) : List UInt8 := l.set j (l.getD j 0 ^^^ e)
theorem tset_length (l : List UInt8) (j : Nat) (e : UInt8) : (tset l j e).length = l.length := by simp [tset]
theorem tset_zero (l : List UInt8) (j : Nat) : tset l j 0 = l := by
  unfold tset
  apply List.ext_getElem?
  intro k
  rw [List.getElem?_set]
  by_cases h : j = k
  · subst h
    by_cases hl : j < l.length
    · simp [hl]
    · simp [hl]
  · rw [if_neg h]
/-- Four bytes turned. -/
def turn4 (l : List UInt8) (i : Nat) (e0 e1 e2 e3 : UInt8) : List UInt8 := tset (tset (tset (tset l i e0) (i + 1) e1) (i + 2) e2) (i + 3) e3
theorem turn4_parts (l : List UInt8) (i : Nat) (e0 e1 e2 e3 : UInt8) (hi : i + 4 ≤ l.length) : ∃ b0 b1 b2 b3, l = l.take i ++ ([b0, b1, b2, b3] ++ l.drop (i + 4)) ∧
    turn4 l i e0 e1 e2 e3 = l.take i ++ ([b0 ^^^ e0, b1 ^^^ e1, b2 ^^^ e2, b3 ^^^ e3] ++ l.drop (i + 4)) := by
  obtain ⟨p, q, rfl, hp⟩ : ∃ p q, l = p ++ q ∧ p.length = i := ⟨l.take i, l.drop i, (List.take_append_drop i l).symm, by rw [List.length_take]; omega⟩
  match q, hi with
  | [], hi => simp at hi; omega
  | [_], hi => simp at hi; omega
  | [_, _], hi => simp at hi; omega
  | [_, _, _], hi => simp at hi; omega
  | b0 :: b1 :: b2 :: b3 :: t, hi =>
    subst hp
    refine ⟨b0, b1, b2, b3, ?_, ?_⟩
    · simp [List.take_left', List.drop_append]
    · simp [turn4, tset, List.take_left', List.drop_append]
theorem turn4_ne (l : List UInt8) (i : Nat) (e0 e1 e2 e3 : UInt8) (hi : i + 4 ≤ l.length) (hm : ¬ mask4 e0 e1 e2 e3 = 0) : ¬ moreP 0 (turn4 l i e0 e1 e2 e3) = moreP 0 l := by
  obtain ⟨b0, b1, b2, b3, h1, h2⟩ := turn4_parts l i e0 e1 e2 e3 hi
  have := turned_ne (l.take i) (l.drop (i + 4)) b0 b1 b2 b3 e0 e1 e2 e3 hm 0
  rw [← h1, ← h2] at this
  exact this


theorem mask4_one {e : UInt8} (h : ¬ e = 0) : ¬ mask4 e 0 0 0 = 0 ∧ ¬ mask4 0 e 0 0 = 0 ∧ ¬ mask4 0 0 e 0 = 0 ∧ ¬ mask4 0 0 0 e = 0 :=
  ⟨fun k => h (mask4_zero k).1, fun k => h (mask4_zero k).2.1, fun k => h (mask4_zero k).2.2.1, fun k => h (mask4_zero k).2.2.2⟩
/-- One byte turned gives another sum. -/
theorem one_ne (l : List UInt8) (j : Nat) (e : UInt8) (hl : 4 ≤ l.length) (hj : j < l.length) (he : ¬ e = 0) : ¬ moreP 0 (tset l j e) = moreP 0 l := by
  obtain ⟨m0, m1, m2, m3⟩ := mask4_one he
  by_cases h : j + 4 ≤ l.length
  · have := turn4_ne l j e 0 0 0 h m0
    unfold turn4 at this
    rw [tset_zero, tset_zero, tset_zero] at this
    exact this
  · by_cases h1 : j + 3 = l.length
    · have := turn4_ne l (j - 1) 0 e 0 0 (by omega) m1
      unfold turn4 at this
      rw [tset_zero, tset_zero, tset_zero, show j - 1 + 1 = j from by omega] at this
      exact this
    · by_cases h2 : j + 2 = l.length
      · have := turn4_ne l (j - 2) 0 0 e 0 (by omega) m2
        unfold turn4 at this
        rw [tset_zero, tset_zero, tset_zero, show j - 2 + 2 = j from by omega] at this
        exact this
      · have := turn4_ne l (j - 3) 0 0 0 e (by omega) m3
        unfold turn4 at this
        rw [tset_zero, tset_zero, tset_zero, show j - 3 + 3 = j from by omega] at this
        exact this
theorem tset_get (l : List UInt8) (j k : Nat) (e : UInt8) : (tset l j e)[k]? = if j = k then (if k < l.length then some (l.getD k 0 ^^^ e) else none) else l[k]? := by
  unfold tset
  rw [List.getElem?_set]
  by_cases h : j = k
  · subst h; rw [if_pos rfl]
  · rw [if_neg h, if_neg h]
theorem tset_take (l : List UInt8) (j n : Nat) (e : UInt8) (h : j < n) (hn : n ≤ l.length) : (tset l j e).take n = tset (l.take n) j e := by
  apply List.ext_getElem?
  intro k
  rw [List.getElem?_take, tset_get, tset_get, List.getElem?_take, List.length_take]
  by_cases hk : k < n
  · rw [if_pos hk, if_pos hk]
    by_cases hjk : j = k
    · rw [if_pos hjk, if_pos hjk, if_pos (by omega), if_pos (by omega)]
      congr 2
      rw [List.getD_eq_getElem?_getD, List.getD_eq_getElem?_getD, List.getElem?_take, if_pos hk]
    · rw [if_neg hjk, if_neg hjk]
  · rw [if_neg hk, if_neg hk, if_neg (by omega)]
theorem tset_take_out (l : List UInt8) (j n : Nat) (e : UInt8) (h : n ≤ j) : (tset l j e).take n = l.take n := by
  apply List.ext_getElem?
  intro k
  rw [List.getElem?_take, List.getElem?_take, tset_get]
  by_cases hk : k < n
  · rw [if_pos hk, if_pos hk, if_neg (by omega)]
  · rw [if_neg hk, if_neg hk]
theorem tset_drop_out (l : List UInt8) (j n : Nat) (e : UInt8) (h : j < n) : (tset l j e).drop n = l.drop n := by
  apply List.ext_getElem?
  intro k
  rw [List.getElem?_drop, List.getElem?_drop, tset_get, if_neg (by omega)]
/-- What a laid sector's bytes say. -/
def SumOk (l : List UInt8) : Prop := (l.drop 76).take 4 = fixB 4 (moreP 0 (l.take 76)).toNat ∧ ∀ k x, 80 ≤ k → l[k]? = some x → x = 0
theorem sum_of_fill {p q : Int} {m : Rec} {s : ByteArray} (hm : m.d.length = 32) (hs : s = fillS (formS p q m) s.size) : SumOk s.data.toList := by
  have hl : s.data.toList = recB (logP p) q.toNat m ++ (fixB 4 (crcP [⟨(recB (logP p) q.toNat m).toArray⟩]).toNat ++ List.replicate (s.size - (formS p q m).size) 0) := by
    have := congrArg (fun x => x.data.toList) hs
    simp only [fillS_list, formS_list, formM] at this
    rw [this, List.append_assoc]
  have h76 := recB_length (logP p) q.toNat m hm
  have e1 : s.data.toList.take 76 = recB (logP p) q.toNat m := by rw [hl]; exact List.take_left' h76
  have e2 : s.data.toList.drop 76 = fixB 4 (crcP [⟨(recB (logP p) q.toNat m).toArray⟩]).toNat ++ List.replicate (s.size - (formS p q m).size) 0 := by rw [hl]; exact List.drop_left' h76
  refine ⟨?_, ?_⟩
  · rw [e1, e2]
    exact List.take_left' (fixB_length 4 _)
  · intro k x hk hx
    have : s.data.toList[k]? = (s.data.toList.drop 76)[k - 76]? := by rw [List.getElem?_drop]; congr 1; omega
    rw [this, e2, List.getElem?_append_right (by rw [fixB_length]; omega), List.getElem?_replicate] at hx
    split at hx
    · exact (Option.some.inj hx).symm
    · cases hx
theorem laid_sum {s : ByteArray} (hz : 80 ≤ s.size) (h : laidM s = true) : SumOk s.data.toList := by
  unfold laidM at h
  rw [Bool.and_eq_true, decide_eq_true_eq] at h
  exact sum_of_fill (recAt_ok s hz).d h.2
theorem fix4_inj {a b : Nat} (ha : a < 4294967296) (hb : b < 4294967296) (h : fixB 4 (a : Int) = fixB 4 (b : Int)) : a = b := by
  have h1 := beN_fix 4 a
  have h2 := beN_fix 4 b
  rw [h, h2] at h1
  have e : (256 : Nat) ^ 4 = 4294967296 := rfl
  rw [e, Nat.mod_eq_of_lt ha, Nat.mod_eq_of_lt hb] at h1
  exact h1.symm
/-- A sector whose sum is right, one byte turned: its sum is not. -/
theorem sum_turned {l : List UInt8} {j : Nat} {e : UInt8} (hl : 80 ≤ l.length) (hj : j < l.length) (he : ¬ e = 0) (h : SumOk l) : ¬ SumOk (tset l j e) := by
  rintro ⟨h1, h2⟩
  by_cases c1 : j < 76
  · have e1 := tset_take l j 76 e c1 (by omega)
    have e2 := tset_drop_out l j 76 e (by omega)
    rw [e1, e2, h.1] at h1
    have := fix4_inj (moreP 0 (l.take 76)).toBitVec.isLt (moreP 0 (tset (l.take 76) j e)).toBitVec.isLt h1
    exact one_ne (l.take 76) j e (by rw [List.length_take]; omega) (by rw [List.length_take]; omega) he (UInt32.toNat_inj.1 this.symm)
  · have hx : l[j]? = some (l.getD j 0) := by rw [List.getD_eq_getElem?_getD, List.getElem?_eq_getElem hj]; rfl
    have hy : (tset l j e)[j]? = some (l.getD j 0 ^^^ e) := by rw [tset_get, if_pos rfl, if_pos hj]
    by_cases c2 : j < 80
    · have e1 := tset_take_out l j 76 e (by omega)
      rw [e1, ← h.1] at h1
      have h3 := congrArg (fun x => x[j - 76]?) h1
      simp only [List.getElem?_take, List.getElem?_drop] at h3
      rw [if_pos (by omega), if_pos (by omega), show 76 + (j - 76) = j from by omega, hx, hy] at h3
      have h4 := Option.some.inj h3
      apply he
      have := congrArg (fun x => l.getD j 0 ^^^ x) h4
      simp only [← UInt8.xor_assoc, UInt8.xor_self, UInt8.zero_xor] at this
      exact this
    · have h3 := h2 j _ (by omega) hy
      have h4 := h.2 j _ (by omega) hx
      rw [h4, UInt8.zero_xor] at h3
      exact he h3
/-- The first sector of a record's page, one byte turned: it is spoilt. -/
theorem slot_turned {p q : Int} {m : Rec} {s t : ByteArray} {j : Nat} {e : UInt8} (hm : RecOk m) (hs : s = fillS (formS p q m) s.size) (hz : 80 ≤ s.size) (hj : j < s.size) (he : ¬ e = 0) (ht : t.data.toList = tset s.data.toList j e) : slotK p q t = 3 ∧ slotR p q t = zeroRec := by
  have hsum := sum_of_fill hm.d hs
  have htz : t.size = s.size := by rw [← bytes_length, ht, tset_length, bytes_length]
  have hl : laidM t = false := by
    rw [Bool.eq_false_iff]
    intro h
    have := laid_sum (by omega) h
    rw [ht] at this
    exact sum_turned (by rw [bytes_length]; exact hz) (by rw [bytes_length]; exact hj) he hsum this
  have h0 : ¬ t = noughtS t.size := by
    intro h
    have hh := congrArg (fun x => x.data.toList) h
    simp only [noughtS_list] at hh
    rw [ht] at hh
    have hb : ∀ (k : Nat) (x : UInt8), (tset s.data.toList j e)[k]? = some x → x = 0 := by
      intro k x hx
      rw [hh, List.getElem?_replicate] at hx
      split at hx
      · exact (Option.some.inj hx).symm
      · cases hx
    have hL : s.data.toList = recB (logP p) q.toNat m ++ (fixB 4 (crcP [⟨(recB (logP p) q.toNat m).toArray⟩]).toNat ++ List.replicate (s.size - (formS p q m).size) 0) := by
      have := congrArg (fun x => x.data.toList) hs
      simp only [fillS_list, formS_list, formM] at this
      rw [this, List.append_assoc]
    by_cases hj0 : j = 0
    · have := hb 1 119 (by rw [tset_get, if_neg (by omega), hL]; rfl)
      exact absurd this (by decide)
    · have := hb 0 104 (by rw [tset_get, if_neg hj0, hL]; rfl)
      exact absurd this (by decide)
  have hk : slotK p q t = 3 := by unfold slotK; rw [if_neg h0, if_pos hl]
  exact ⟨hk, by unfold slotR; rw [hk]; rfl⟩
/-- A record's page, one byte turned. -/
theorem dec_turned {p q : Int} {m : Rec} {t : ByteArray} {j : Nat} {e : UInt8} (hm : RecOk m) (h : mayM p q m = true) (he : ¬ e = 0) (ht : t.data.toList = tset (encS p q m).data.toList j e) :
    decE p q t = 0 ∧ (j < p.toNat / 8 → decK p q t = 3 ∧ decR p q t = zeroRec) ∧ (¬ j < p.toNat / 8 → decK p q t = 1 ∧ decR p q t = m) := by
  obtain ⟨d1, d2, d3⟩ := dec_enc hm h
  have hsz := encS_size hm h
  have hlo := sect_lo (mayM_parts h).1
  have htz : t.size = (encS p q m).size := by rw [← bytes_length, ht, tset_length, bytes_length]
  have hb : decB p q t = true := by unfold decB at d1 ⊢; rw [htz]; exact d1
  have hsl : (sectS p t).data.toList = (tset (encS p q m).data.toList j e).take (p.toNat / 8) := by
    unfold sectS
    rw [show p.toNat / 8 = 0 + p.toNat / 8 from by omega, extract_list, List.drop_zero, ht]
    simp
  have hse : (sectS p (encS p q m)).data.toList = (encS p q m).data.toList.take (p.toNat / 8) := by
    unfold sectS
    rw [show p.toNat / 8 = 0 + p.toNat / 8 from by omega, extract_list, List.drop_zero]
    simp
  refine ⟨by unfold decE; rw [if_pos hb], fun hj2 => ?_, fun hj2 => ?_⟩
  · have hs := encS_sect hm h
    have hz : (fillS (formS p q m) (p.toNat / 8)).size = p.toNat / 8 := fillS_size _ _ (by rw [formS_size p q m hm.d]; omega)
    obtain ⟨k1, k2⟩ := slot_turned (s := sectS p (encS p q m)) (t := sectS p t) (j := j) (e := e) hm (by rw [hs, hz]) (by rw [hs, hz]; omega) (by rw [hs, hz]; exact hj2) he (by rw [hsl, hse, tset_take _ _ _ _ hj2 (by rw [bytes_length]; omega)])
    refine ⟨by unfold decK; rw [if_pos hb, k1], by unfold decR; rw [if_pos hb, k2]⟩
  · have hs : sectS p t = sectS p (encS p q m) := bytes_ext (by rw [hsl, hse, tset_take_out _ _ _ _ (by omega)])
    refine ⟨?_, ?_⟩
    · rw [← d2]; unfold decK; rw [if_pos hb, if_pos d1, hs]
    · rw [← d3]; unfold decR; rw [if_pos hb, if_pos d1, hs]
end Go.Proofs.YtepbphgpklphiaaDoor
