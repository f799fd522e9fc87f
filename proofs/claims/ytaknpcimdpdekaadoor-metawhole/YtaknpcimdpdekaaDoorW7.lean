/-
  Walks: how a free number is read.
-/
import Derived.Test.YtaknpcimdpdekaaDoorW6
import Derived.Laws.BitsAllLaws
namespace Go.Proofs.YtaknpcimdpdekaaDoor
open Go.RowKit

theorem and127_u8 (c : Nat) (h : c < 256) : bits .and .u8 (c : Int) 127 = ((c % 128 : Nat) : Int) := by
  have := u8_and_nat c 127 h (by decide)
  rw [show ((127 : Nat) : Int) = 127 from rfl] at this
  rw [this, show (127 : Nat) = 2 ^ 7 - 1 from rfl, Nat.and_two_pow_sub_one_eq_mod]
theorem shl_free (m i : Nat) (hm : m * 128 ^ i < 18446744073709551616) : IntKind.u64.wrap ((m : Int) * 2 ^ (7 * i)) = ((m * 128 ^ i : Nat) : Int) := by
  rw [show (2 : Int) ^ (7 * i) = ((128 ^ i : Nat) : Int) from by rw [Int.pow_mul]; push_cast; rfl, ← Int.natCast_mul, IntKind.wrap_u64]
  rw [Int.emod_eq_of_lt (by omega) (by omega)]
theorem or_free (n y i : Nat) (hn : n < 128 ^ i) (hy : 128 ^ i ∣ y) (h : n + y < 18446744073709551616) : bits .or .u64 (n : Int) (y : Int) = ((n + y : Nat) : Int) := by
  rw [u64_or_nat n y (by omega) (by omega)]
  obtain ⟨q, rfl⟩ := hy
  rw [show 128 ^ i = 2 ^ (7 * i) from by rw [Nat.pow_mul]] at hn ⊢
  rw [Nat.or_comm, ← Nat.two_pow_add_eq_or_of_lt hn, Nat.add_comm]

end Go.Proofs.YtaknpcimdpdekaaDoor
