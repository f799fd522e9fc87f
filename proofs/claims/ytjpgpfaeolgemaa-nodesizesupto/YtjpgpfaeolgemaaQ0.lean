/-
  Plain facts: what was laid is read back; no number's, text's or list's bytes begin another one's.
-/
import Derived.Test.YtjpgpfaeolgemaaR1
import Derived.Test.YtjpgpfaeolgemaaWC
namespace Go.Proofs.Ytjpgpfaeolgemaa
open Go.RowKit

theorem freeF_back (k m acc : Nat) (r : List UInt8) (hk : k ≤ 9) (hm : m < 2 * 128 ^ k) (h1 : k = 9 ∨ 1 ≤ m) :
    freeR (k + 1) acc (freeF k m ++ r) = (acc + m * 128 ^ (9 - k), (9 - k) + (freeF k m).length, 0) := by
  induction k generalizing m acc with
  | zero =>
    have hm2 : m < 2 := by simpa using hm
    have hb : (UInt8.ofNat m).toNat = m := by simp; omega
    simp only [freeF, List.cons_append, List.nil_append, freeR, hb]
    rw [if_neg (by omega), if_neg (by omega), if_neg (by omega), Nat.mod_eq_of_lt (by omega)]
    simp
  | succ k ih =>
    rw [freeF]
    by_cases h : m < 128
    · have hb : (UInt8.ofNat m).toNat = m := by simp; omega
      rw [if_pos h]
      simp only [List.cons_append, List.nil_append, freeR, hb]
      rw [if_neg (by omega), if_neg (by omega), if_neg (by omega), Nat.mod_eq_of_lt (by omega)]
      simp; omega
    · rw [if_neg h]
      have hb : (UInt8.ofNat (m % 128 + 128)).toNat = m % 128 + 128 := by simp; omega
      rw [List.cons_append, freeR]
      simp only [hb]
      rw [if_neg (by omega), if_pos (by omega)]
      rw [Nat.pow_succ] at hm
      rw [ih (m / 128) _ (by omega) (by omega) (by omega)]
      have e1 : (m % 128 + 128) % 128 = m % 128 := by omega
      have e2 : 128 ^ (9 - k) = 128 ^ (9 - (k + 1)) * 128 := by rw [← Nat.pow_succ]; congr 1; omega
      rw [e1, e2]
      have e3 : m % 128 * 128 ^ (9 - (k + 1)) + m / 128 * (128 ^ (9 - (k + 1)) * 128) = m * 128 ^ (9 - (k + 1)) := by
        generalize 128 ^ (9 - (k + 1)) = P
        have : m = m % 128 + m / 128 * 128 := by omega
        calc m % 128 * P + m / 128 * (P * 128) = (m % 128 + m / 128 * 128) * P := by rw [Nat.add_mul, Nat.mul_comm P 128, Nat.mul_assoc]
          _ = m * P := by rw [← this]
      simp only [List.length_cons, Prod.mk.injEq, and_true]
      omega

theorem free_back (n : Nat) (r : List UInt8) (h : n < 18446744073709551616) : freeR 10 0 (freeB n ++ r) = (n, (freeB n).length, 0) := by
  have := freeF_back 9 n 0 r (by omega) (by omega) (Or.inl rfl)
  simpa [freeB] using this

theorem free_apart {a b : Nat} {x y : List UInt8} (ha : a < 18446744073709551616) (hb : b < 18446744073709551616) (h : freeB a ++ x = freeB b ++ y) : a = b ∧ x = y := by
  have h1 := free_back a x ha
  have h2 := free_back b y hb
  rw [h, h2] at h1
  have e : b = a := by injection h1
  subst e
  exact ⟨rfl, List.append_cancel_left h⟩
theorem text_apart {s t : ByteArray} {x y : List UInt8} (hs : s.size < 18446744073709551616) (ht : t.size < 18446744073709551616) (h : textB s ++ x = textB t ++ y) : s = t ∧ x = y := by
  unfold textB at h
  rw [List.append_assoc, List.append_assoc] at h
  obtain ⟨e1, e2⟩ := free_apart hs ht h
  have hl : s.data.toList.length = t.data.toList.length := by rw [bytes_length, bytes_length, e1]
  obtain ⟨e3, e4⟩ := List.append_inj e2 hl
  refine ⟨?_, e4⟩
  cases s; cases t
  congr 1
  exact Array.toList_inj.1 e3
theorem texts_apart {p q : List ByteArray} {x y : List UInt8} (hp : ∀ s ∈ p, s.size < 18446744073709551616) (hq : ∀ s ∈ q, s.size < 18446744073709551616) (hl : p.length = q.length) (h : textsB p ++ x = textsB q ++ y) : p = q ∧ x = y := by
  induction p generalizing q with
  | nil =>
    cases q with
    | nil => exact ⟨rfl, by simpa [textsB] using h⟩
    | cons t q => simp at hl
  | cons s p ih =>
    cases q with
    | nil => simp at hl
    | cons t q =>
      have e1 : textsB (s :: p) = textB s ++ textsB p := by simp [textsB]
      have e2 : textsB (t :: q) = textB t ++ textsB q := by simp [textsB]
      rw [e1, e2, List.append_assoc, List.append_assoc] at h
      obtain ⟨e3, e4⟩ := text_apart (hp s (by simp)) (hq t (by simp)) h
      obtain ⟨e5, e6⟩ := ih (fun s hs => hp s (by simp [hs])) (fun s hs => hq s (by simp [hs])) (by simpa using hl) e4
      exact ⟨by rw [e3, e5], e6⟩
theorem join_apart {p q : List ByteArray} {x y : List UInt8} (hp : ∀ s ∈ p, s.size < 18446744073709551616) (hq : ∀ s ∈ q, s.size < 18446744073709551616) (hpl : p.length < 18446744073709551616) (hql : q.length < 18446744073709551616) (h : joinB p ++ x = joinB q ++ y) : p = q ∧ x = y := by
  unfold joinB at h
  rw [List.append_assoc, List.append_assoc] at h
  obtain ⟨e1, e2⟩ := free_apart hpl hql h
  exact texts_apart hp hq e1 e2
end Go.Proofs.Ytjpgpfaeolgemaa
