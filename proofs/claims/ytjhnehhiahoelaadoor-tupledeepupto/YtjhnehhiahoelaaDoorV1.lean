/-
  Walks: bitsOf, turned.
-/
import Derived.Test.YtjhnehhiahoelaaDoorT8Z
import Derived.Laws.Cover2
import Derived.Laws.BitsLemmas
import Derived.Laws.Bits64
namespace Go.Proofs.YtjhnehhiahoelaaDoor
open Go.RowKit

/-- Is a float no number? -/
def nanB (f : Nat) : Bool := FloatKind.f64.format.order f f != some .eq
/-- A float's bits; of what is no number those of the one NaN. -/
def bitsN (f : Nat) : Nat := if nanB f then 9221120237041090560 else f
/-- Bits so turned that they sort. -/
def turnedN (x : Nat) : Nat := if x < 9223372036854775808 then x + 9223372036854775808 else 18446744073709551615 - x

set_option maxRecDepth 100000 in
theorem isNaN_calls (w : World) (f : Nat) : Calls Tryd.prog 40 #[.float .f64 f] w fun e w' => e = .returned (.bool (nanB f)) ∧ w' = w := by
  go_enter Tryd.func40, Tryd.ntmps40
  go_wp2_with fail
  go_ret
  exact ⟨rfl, rfl⟩

set_option maxRecDepth 100000 in
theorem bitsOf_calls (w : World) (f : Nat) : Calls Tryd.prog 35 #[.float .f64 f] w fun e w' => e = .returned (.int .u64 (bitsN f)) ∧ w' = w := by
  have hb := f64bits
  have HN : Hid (∀ W, Calls Tryd.prog 40 #[.float .f64 f] W fun e w' => e = .returned (.bool (nanB f)) ∧ w' = W) := fun W => isNaN_calls W f
  unfold bitsN
  generalize nanB f = nb at *
  cases nb
  · go_enter Tryd.func35, Tryd.ntmps35
    go_wp2_with fail
    refine (HN.out _).mono ?_
    rintro e W1 ⟨rfl, rfl⟩
    go_wp2_with fail
    go_ret
    exact ⟨rfl, rfl⟩
  · go_enter Tryd.func35, Tryd.ntmps35
    go_wp2_with fail
    refine (HN.out _).mono ?_
    rintro e W1 ⟨rfl, rfl⟩
    go_wp2_with fail
    go_ret
    exact ⟨rfl, rfl⟩

theorem wraps_u64 (n : Int) (h0 : 0 ≤ n) (h1 : n < 2 ^ 64) : IntKind.u64.wrap n = n := by rw [IntKind.wrap_u64]; omega
theorem and_top0 (x : Nat) (h : x < 9223372036854775808) : x &&& 9223372036854775808 = 0 := by
  apply Nat.eq_of_testBit_eq
  intro i
  rw [Nat.testBit_and, show (9223372036854775808 : Nat) = 2 ^ 63 from rfl, Nat.testBit_two_pow, Nat.zero_testBit]
  by_cases hi : 63 = i
  · subst hi
    rw [Nat.testBit_lt_two_pow h]; rfl
  · simp [hi]
theorem and_top1 (x : Nat) (h : ¬ x < 9223372036854775808) (hx : x < 18446744073709551616) : ¬ x &&& 9223372036854775808 = 0 := by
  intro e
  have : (x &&& 9223372036854775808).testBit 63 = true := by
    rw [Nat.testBit_and, show (9223372036854775808 : Nat) = 2 ^ 63 from rfl, Nat.testBit_two_pow, Nat.testBit_eq_decide_div_mod_eq]
    have : x / 2 ^ 63 % 2 = 1 := by omega
    simp [this]
  rw [e] at this
  simp at this
theorem xor_top (x : Nat) (h : x < 9223372036854775808) : x ^^^ 9223372036854775808 = x + 9223372036854775808 := by
  have e := Nat.two_pow_add_eq_or_of_lt (i := 63) (b := x) h 1
  rw [Nat.mul_one] at e
  rw [Nat.add_comm, show (9223372036854775808 : Nat) = 2 ^ 63 from rfl, e]
  apply Nat.eq_of_testBit_eq
  intro i
  rw [Nat.testBit_xor, Nat.testBit_or, Nat.testBit_two_pow]
  by_cases hi : 63 = i
  · subst hi
    rw [Nat.testBit_lt_two_pow h]; rfl
  · simp [hi]
theorem xor_all (x : Nat) (h : x < 18446744073709551616) : x ^^^ 18446744073709551615 = 18446744073709551615 - x := by
  have e := congrArg BitVec.toNat (BitVec.xor_allOnes (x := BitVec.ofNat 64 x))
  rw [BitVec.toNat_xor, BitVec.toNat_not, BitVec.toNat_ofNat, BitVec.toNat_allOnes, Nat.mod_eq_of_lt (by omega)] at e
  exact e
theorem bits_xor64 (a b : Nat) (ha : a < 2 ^ 64) (hb : b < 2 ^ 64) : bits .xor .u64 (a : Int) (b : Int) = ((a ^^^ b : Nat) : Int) := by
  have e : bits .xor .u64 (a : Int) (b : Int) = IntKind.u64.wrap ((BitVec.ofInt 64 (a : Int) ^^^ BitVec.ofInt 64 (b : Int)).toNat : Int) := rfl
  rw [e, BitVec.toNat_xor, BitVec.ofInt_natCast, BitVec.ofInt_natCast, BitVec.toNat_ofNat, BitVec.toNat_ofNat, Nat.mod_eq_of_lt ha, Nat.mod_eq_of_lt hb]
  have := Nat.xor_lt_two_pow ha hb
  exact wraps_u64 _ (by omega) (by omega)
set_option maxRecDepth 100000 in
theorem turned_calls (w : World) (x : Nat) (hx : x < 18446744073709551616) : Calls Tryd.prog 34 #[.int .u64 x] w fun e w' => e = .returned (.int .u64 (turnedN x)) ∧ w' = w := by
  unfold turnedN
  have ha : bits .and .u64 (x : Int) 9223372036854775808 = ((x &&& 9223372036854775808 : Nat) : Int) := (bits_nat .u64 64 (by decide) wraps_u64 x 9223372036854775808 hx (by decide)).1
  have hb : bits .xor .u64 (x : Int) 9223372036854775808 = ((x ^^^ 9223372036854775808 : Nat) : Int) := bits_xor64 x 9223372036854775808 hx (by decide)
  have hc : bits .xor .u64 (x : Int) 18446744073709551615 = ((x ^^^ 18446744073709551615 : Nat) : Int) := bits_xor64 x 18446744073709551615 hx (by decide)
  rw [xor_all x hx] at hc
  by_cases h : x < 9223372036854775808
  · rw [if_pos h]
    rw [and_top0 x h] at ha
    rw [xor_top x h] at hb
    go_enter Tryd.func34, Tryd.ntmps34
    go_wp2_with fail
    go_ret
    exact ⟨rfl, rfl⟩
  · rw [if_neg h]
    have hz := and_top1 x h hx
    generalize x &&& 9223372036854775808 = y at *
    have hy : ¬ (y : Int) = 0 := by omega
    go_enter Tryd.func34, Tryd.ntmps34
    go_wp2_with fail
    go_ret
    exact ⟨rfl, rfl⟩
end Go.Proofs.YtjhnehhiahoelaaDoor
