/-
  Plain facts: what was read without a fault is, laid again, the very bytes.
-/
import Derived.Test.YtcbbjicoedeioaaWY
namespace Go.Proofs.Ytcbbjicoedeioaa
open Go.RowKit

theorem freeR_inv (k acc : Nat) (l : List UInt8) (hk : k ≤ 9) (h0 : (freeR (k + 1) acc l).2.2 = 0) : ∃ m r, l = freeF k m ++ r ∧ m < 2 * 128 ^ k ∧ (k = 9 ∨ 1 ≤ m) := by
  induction k generalizing acc l with
  | zero =>
    cases l with
    | nil => simp [freeR] at h0
    | cons b r =>
      rw [freeR] at h0
      by_cases h1 : 1 < b.toNat
      · rw [if_pos ⟨rfl, h1⟩] at h0; simp at h0
      · rw [if_neg (by omega), if_neg (by omega)] at h0
        by_cases h2 : b.toNat = 0
        · rw [if_pos ⟨h2, by omega⟩] at h0; simp at h0
        · refine ⟨b.toNat, r, by simp [freeF], by omega, Or.inr (by omega)⟩
  | succ k ih =>
    cases l with
    | nil => simp [freeR] at h0
    | cons b r =>
      have hb := UInt8.toNat_lt b
      rw [freeR, if_neg (by omega)] at h0
      by_cases h1 : 127 < b.toNat
      · rw [if_pos h1] at h0
        obtain ⟨m, r', e, hm, h3⟩ := ih _ r (by omega) h0
        have hm1 : 1 ≤ m := by omega
        refine ⟨b.toNat % 128 + m * 128, r', ?_, by rw [Nat.pow_succ]; omega, Or.inr (by omega)⟩
        rw [freeF, if_neg (by omega), e, List.cons_append]
        congr 1
        · apply UInt8.toNat_inj.1
          simp
          omega
        · rw [show (b.toNat % 128 + m * 128) / 128 = m from by omega]
      · rw [if_neg h1] at h0
        by_cases h2 : b.toNat = 0 ∧ k + 1 < 9
        · rw [if_pos h2] at h0; simp at h0
        · have hp : 1 ≤ 128 ^ k := Nat.one_le_pow _ _ (by decide)
          refine ⟨b.toNat, r, ?_, by rw [Nat.pow_succ]; omega, by omega⟩
          rw [freeF, if_pos (by omega)]
          simp

/-- From p to p' stand the bytes X. -/
def Spans (S : ByteArray) (p : Nat) (X : List UInt8) (p' : Nat) : Prop := ∃ r, Stands S p X r ∧ p' = p + X.length
theorem Spans.take {S : ByteArray} {p p' : Nat} {X : List UInt8} (h : Spans S p X p') : S.data.toList.take p' = S.data.toList.take p ++ X := by
  obtain ⟨r, ⟨h, hp⟩, rfl⟩ := h
  have e : S.data.toList = S.data.toList.take p ++ (X ++ r) := by rw [← h, List.take_append_drop]
  have hl : (S.data.toList.take p).length = p := by rw [List.length_take, bytes_length]; omega
  conv => lhs; rw [e]
  rw [List.take_append, List.take_of_length_le (by omega), hl, Nat.add_sub_cancel_left, List.take_left]
theorem Spans.trans {S : ByteArray} {p q p' : Nat} {X Y : List UInt8} (h : Spans S p X q) (k : Spans S q Y p') : Spans S p (X ++ Y) p' := by
  obtain ⟨r, ⟨h, hp⟩, rfl⟩ := h
  obtain ⟨r2, ⟨k, kp⟩, rfl⟩ := k
  refine ⟨r2, ⟨?_, hp⟩, by rw [List.length_append]; omega⟩
  rw [← List.drop_drop, h, List.drop_left] at k
  rw [h, k, List.append_assoc]
theorem Spans.nil (S : ByteArray) (p : Nat) (h : p ≤ S.size) : Spans S p [] p := ⟨_, ⟨by rw [List.nil_append], h⟩, by simp⟩

theorem rFree_inv {S : ByteArray} {p most n p' : Nat} (hp : p ≤ S.size) (h : rFree S p 0 most = (n, p', 0)) : Spans S p (freeB n) p' ∧ n < 18446744073709551616 := by
  unfold rFree at h
  rw [if_pos rfl] at h
  by_cases h0 : (freeR 10 0 (S.data.toList.drop p)).2.2 = 0
  · rw [if_pos h0] at h
    obtain ⟨m, r, e, hm, _⟩ := freeR_inv 9 0 _ (by omega) h0
    have hm2 : m < 18446744073709551616 := by have : (128 : Nat) ^ 9 = 9223372036854775808 := by decide
                                              omega
    have hb := free_back m r hm2
    have e' : S.data.toList.drop p = freeB m ++ r := e
    rw [e', hb] at h
    simp only at h
    by_cases h1 : most < m
    · rw [if_pos h1] at h; simp at h
    · rw [if_neg h1] at h
      simp only [Prod.mk.injEq, and_true] at h
      obtain ⟨rfl, rfl⟩ := h
      exact ⟨⟨r, ⟨e', hp⟩, rfl⟩, hm2⟩
  · rw [if_neg h0] at h
    simp only [Prod.mk.injEq] at h
    exact absurd h.2.2 h0
theorem rFree_bad {S : ByteArray} {p most n p' c : Nat} (h : rFree S p 0 most = (n, p', c)) (hc : c ≠ 0) : p' = p := by
  unfold rFree at h
  rw [if_pos rfl] at h
  split at h
  · split at h
    · simp only [Prod.mk.injEq] at h; exact h.2.1.symm
    · simp only [Prod.mk.injEq] at h; exact absurd h.2.2.symm hc
  · simp only [Prod.mk.injEq] at h; exact h.2.1.symm

theorem rRaw_inv {S : ByteArray} {p p' : Nat} {n : Int} {X : ByteArray} (hp : p ≤ S.size) (h : rRaw S p 0 n = (X, p', 0)) : Spans S p X.data.toList p' ∧ X.size = n.toNat := by
  unfold rRaw at h
  rw [if_pos rfl] at h
  by_cases h1 : S.size - p < n.toNat
  · rw [if_pos h1] at h; simp at h
  · rw [if_neg h1] at h
    simp only [Prod.mk.injEq, and_true] at h
    obtain ⟨rfl, rfl⟩ := h
    have e := Lib.extract_eq S p (p + n.toNat)
    have e2 : (S.extract p (p + n.toNat)).data.toList = (S.data.toList.drop p).take n.toNat := by
      rw [e, show p + n.toNat - p = n.toNat from by omega]
    have hl : ((S.data.toList.drop p).take n.toNat).length = n.toNat := by rw [List.length_take, List.length_drop, bytes_length]; omega
    refine ⟨⟨(S.data.toList.drop p).drop n.toNat, ⟨by rw [e2, List.take_append_drop], hp⟩, by rw [e2, hl]⟩, ?_⟩
    rw [← bytes_length, e2, hl]

theorem rText_inv {S : ByteArray} {p p' : Nat} {most : Int} {X : ByteArray} (hp : p ≤ S.size) (h : rText S p 0 most = (X, p', 0)) : Spans S p (textB X) p' := by
  unfold rText at h
  obtain ⟨n, q, c, hr⟩ : ∃ n q c, rFree S p 0 most.toNat = (n, q, c) := ⟨_, _, _, rfl⟩
  rw [hr] at h
  simp only at h
  by_cases h1 : S.size - q < n
  · rw [if_pos h1] at h; simp at h
  · rw [if_neg h1] at h
    by_cases hc : c = 0
    · subst hc
      obtain ⟨h2, hn⟩ := rFree_inv hp hr
      have hq := rFree_place S p 0 most.toNat hp
      rw [hr] at hq
      obtain ⟨h3, h4⟩ := rRaw_inv hq.2 h
      rw [Int.toNat_natCast] at h4
      have := h2.trans h3
      unfold textB
      rw [h4]
      exact this
    · unfold rRaw at h
      rw [if_neg hc] at h
      simp only [Prod.mk.injEq] at h
      exact absurd h.2.2 hc

theorem fixB_low' (k : Nat) (x : Nat) : fixB (k + 1) (x : Int) = UInt8.ofNat (x / 256 ^ k % 256) :: fixB k (x : Int) := by
  rw [fixB]
  have h1 : ((256 ^ k : Nat) : Int) = 256 ^ k := Int.natCast_pow 256 k
  have h2 : ((x : Int) / 256 ^ k % 256).toNat = x / 256 ^ k % 256 := by rw [← h1]; omega
  rw [h2]
theorem fix_beN (l : List UInt8) : fixB l.length ((beN l : Nat) : Int) = l := by
  induction l with
  | nil => rfl
  | cons c l ih =>
    have hlt := beN_lt l
    have hc := UInt8.toNat_lt c
    have e := beN_cons c l
    rw [List.length_cons, fixB_low']
    have e1 : beN (c :: l) / 256 ^ l.length % 256 = c.toNat := by
      rw [e, Nat.mul_comm, Nat.mul_add_div (Nat.pow_pos (by decide)), Nat.div_eq_of_lt hlt]; omega
    rw [e1, UInt8.ofNat_toNat]
    congr 1
    have := fixB_mod l.length ((beN (c :: l) : Nat) : Int) ((beN l : Nat) : Int) (c.toNat : Int) (by
      rw [e, Int.natCast_add, Int.natCast_mul, Int.natCast_pow, Int.add_comm, Int.mul_comm]
      rfl)
    rw [this, ih]
theorem zig_zag (n : Nat) : zig (zag n) = n := by
  unfold zig zag
  by_cases h : n % 2 = 1
  · rw [if_pos h, if_pos (by omega)]; omega
  · rw [if_neg h, if_neg (by omega)]; omega

theorem rMany_inv {α : Type} {S : ByteArray} (rd : Nat → Nat → α × Nat × Nat) (enc : α → List UInt8) (good : α → Prop) (hrd : ∀ p x p', p ≤ S.size → rd p 0 = (x, p', 0) → Spans S p (enc x) p' ∧ good x ∧ p' ≤ S.size)
    (n p c : Nat) (acc l : List α) (p' : Nat) (hp : p ≤ S.size) (h : rMany rd n p c acc = (l, p', 0)) (hc : c = 0) : ∃ l2, l = acc ++ l2 ∧ l2.length = n ∧ Spans S p (laidAll enc l2) p' ∧ (∀ x ∈ l2, good x) := by
  induction n generalizing p c acc with
  | zero =>
    rw [rMany] at h
    simp only [Prod.mk.injEq] at h
    obtain ⟨rfl, rfl, _⟩ := h
    exact ⟨[], by simp, rfl, by simpa [laidAll] using Spans.nil S p hp, by simp⟩
  | succ n ih =>
    subst hc
    rw [rMany, if_pos rfl] at h
    obtain ⟨x, q, c, hr⟩ : ∃ x q c, rd p 0 = (x, q, c) := ⟨_, _, _, rfl⟩
    rw [hr] at h
    simp only at h
    by_cases hc : c = 0
    · subst hc
      obtain ⟨h1, h2, h3⟩ := hrd p x q hp hr
      obtain ⟨l2, e1, e2, e3, e4⟩ := ih q 0 _ h3 h rfl
      refine ⟨x :: l2, by rw [e1]; simp, by simp [e2], ?_, ?_⟩
      · have := h1.trans e3
        simpa [laidAll] using this
      · intro y hy
        rcases List.mem_cons.1 hy with rfl | hy
        · exact h2
        · exact e4 y hy
    · exfalso
      cases n with
      | zero => rw [rMany] at h; simp only [Prod.mk.injEq] at h; exact hc h.2.2
      | succ n => rw [rMany, if_neg hc] at h; simp only [Prod.mk.injEq] at h; exact hc h.2.2
theorem rListG_inv {α : Type} {S : ByteArray} (rd : Nat → Nat → α × Nat × Nat) (enc : α → List UInt8) (good : α → Prop) (hrd : ∀ p x p', p ≤ S.size → rd p 0 = (x, p', 0) → Spans S p (enc x) p' ∧ good x ∧ p' ≤ S.size)
    (p m : Nat) (l : List α) (p' : Nat) (hp : p ≤ S.size) (h : rListG rd S p 0 m = (l, p', 0)) : Spans S p (freeB l.length ++ laidAll enc l) p' ∧ (∀ x ∈ l, good x) ∧ l.length ≤ S.size := by
  unfold rListG at h
  obtain ⟨n, q, c, hr⟩ : ∃ n q c, rCount S p 0 m = (n, q, c) := ⟨_, _, _, rfl⟩
  have hpl := rCount_place S p 0 m hp
  rw [hr] at h hpl
  simp only at h hpl
  obtain ⟨l1, p1, c1, h1⟩ : ∃ l1 p1 c1, rMany rd n q c [] = (l1, p1, c1) := ⟨_, _, _, rfl⟩
  rw [h1] at h
  simp only at h
  by_cases hc1 : c1 = 0
  · rw [if_pos hc1] at h
    subst hc1
    simp only [Prod.mk.injEq, and_true] at h
    obtain ⟨rfl, rfl⟩ := h
    by_cases hc : c = 0
    · subst hc
      have hf : rFree S p 0 m = (n, q, 0) := by
        unfold rCount at hr
        split at hr
        · simp at hr
        · exact hr
      obtain ⟨h2, _⟩ := rFree_inv hp hf
      obtain ⟨l2, e1, e2, e3, e4⟩ := rMany_inv rd enc good hrd n q 0 [] l1 p1 hpl.2.1 h1 rfl
      rw [List.nil_append] at e1
      subst e1
      rw [e2]
      exact ⟨h2.trans e3, e4, hpl.2.2⟩
    · exfalso
      cases n with
      | zero => rw [rMany] at h1; simp only [Prod.mk.injEq] at h1; exact hc h1.2.2
      | succ n => rw [rMany, if_neg hc] at h1; simp only [Prod.mk.injEq] at h1; exact hc h1.2.2
  · rw [if_neg hc1] at h
    simp only [Prod.mk.injEq] at h
    exact absurd h.2.2 hc1
end Go.Proofs.Ytcbbjicoedeioaa
