/- Plain: one cut is enough: neither half full nor thin. -/
import Derived.Test.YtmgkdnejjemfeaaFZ
import Derived.Test.YtmgkdnejjemfeaaVDJ
namespace Go.Proofs.Ytmgkdnejjemfeaa
open Go.RowKit

theorem bitLen_pos {x : Nat} (h0 : x ≠ 0) (h : x < 18446744073709551616) : 1 ≤ Lib.bitLen x := by
  rw [Lib.bitLen_half x h0 h]; omega
theorem numN_cases {n : Nat} (h : n < 2097152) : (n < 128 ∧ numN n = 1) ∨ (128 ≤ n ∧ n < 16384 ∧ numN n = 2) ∨ (16384 ≤ n ∧ numN n = 3) := by
  by_cases h1 : n < 128
  · have := Lib.bitLen_le n 7 (by omega) h1
    exact Or.inl ⟨h1, by unfold numN; omega⟩
  · by_cases h2 : n < 16384
    · have e := Lib.bitLen_shift 7 n (by omega) (by omega)
      have a := bitLen_pos (x := n / 2 ^ 7) (by omega) (by omega)
      have b := Lib.bitLen_le (n / 2 ^ 7) 7 (by omega) (by omega)
      exact Or.inr (Or.inl ⟨by omega, h2, by unfold numN; omega⟩)
    · have e := Lib.bitLen_shift 14 n (by omega) (by omega)
      have a := bitLen_pos (x := n / 2 ^ 14) (by omega) (by omega)
      have b := Lib.bitLen_le (n / 2 ^ 14) 7 (by omega) (by omega)
      exact Or.inr (Or.inr ⟨by omega, by unfold numN; omega⟩)
theorem free_num {n : Nat} (h : n < 2097152) : (freeB n).length = numN n := by
  unfold freeB
  rw [freeF]
  rcases numN_cases h with ⟨h1, e⟩ | ⟨h1, h2, e⟩ | ⟨h1, e⟩
  · rw [if_pos h1, e]; rfl
  · rw [if_neg (by omega), freeF, if_pos (by omega), e]; rfl
  · rw [if_neg (by omega), freeF, if_neg (by omega), freeF, if_pos (by omega), e]; rfl
end Go.Proofs.Ytmgkdnejjemfeaa
namespace Go.Proofs.Ytmgkdnejjemfeaa
open Go.RowKit

end Go.Proofs.Ytmgkdnejjemfeaa
namespace Go.Proofs.Ytmgkdnejjemfeaa
open Go.RowKit

theorem rises_take {mk : Int} : ∀ (l : List ByteArray) (pv : ByteArray) (k : Nat), risesP mk pv l = true → risesP mk pv (l.take k) = true
  | _, _, 0, _ => by rw [List.take_zero]; rfl
  | [], _, k + 1, _ => by rw [List.take_nil]; rfl
  | a :: l, pv, k + 1, h => by
    obtain ⟨h1, h2, h3⟩ := rises_cons.1 h
    rw [List.take_succ_cons]
    exact rises_cons.2 ⟨h1, h2, rises_take l a k h3⟩
theorem rises_drop {mk : Int} : ∀ (l : List ByteArray) (pv : ByteArray) (k : Nat), risesP mk pv l = true → risesP mk pv (l.drop k) = true
  | _, _, 0, h => by rw [List.drop_zero]; exact h
  | [], _, k + 1, _ => by rw [List.drop_nil]; rfl
  | a :: l, pv, k + 1, h => by
    obtain ⟨h1, _, h3⟩ := rises_cons.1 h
    rw [List.drop_succ_cons]
    exact rises_drop l pv k (rises_weak h3 h1)
end Go.Proofs.Ytmgkdnejjemfeaa
