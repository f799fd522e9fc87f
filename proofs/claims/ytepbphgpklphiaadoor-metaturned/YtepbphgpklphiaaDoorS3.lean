/-
  Walks: times, power, Join.
-/
import Derived.Test.YtepbphgpklphiaaDoorS2
import Derived.Deep.LoopGhost
namespace Go.Proofs.YtepbphgpklphiaaDoor
open Go.RowKit

def timesF : Nat → UInt32 → UInt32 → UInt32 → UInt32
  | 0, _, _, p => p
  | n + 1, a, b, p => if a = 0 then p else timesF n (a <<< 1) (crcS b) (if a &&& 2147483648 = 0 then p else p ^^^ b)
/-- The product of two registers. -/
def timesP (a b : UInt32) : UInt32 := timesF 32 a b 0
theorem timesF_zero (n : Nat) (b p : UInt32) : timesF n 0 b p = p := by cases n <;> simp [timesF]
def gone (n : Nat) (a : UInt32) : Prop := a.toNat * 2 ^ n % 4294967296 = 0
theorem gone_zero {a : UInt32} (h : gone 0 a) : a = 0 := by
  have := a.toNat_lt
  unfold gone at h
  apply UInt32.toNat_inj.1
  rw [Nat.pow_zero, Nat.mul_one, Nat.mod_eq_of_lt (by omega)] at h
  rw [h]; rfl
theorem gone_32 (a : UInt32) : gone 32 a := by unfold gone; exact Nat.mul_mod_left _ _
theorem gone_succ {n : Nat} {a : UInt32} (h : gone (n + 1) a) : gone n (a <<< 1) := by
  unfold gone at *
  have e : (a <<< 1).toNat = a.toNat * 2 % 4294967296 := by
    rw [UInt32.toNat_shiftLeft]
    show a.toNat <<< 1 % _ = _
    rw [Nat.shiftLeft_eq]
  rw [e, Nat.mod_mul_mod, Nat.mul_assoc, ← Nat.pow_succ']
  exact h
theorem ne32 {a : UInt32} (h : ¬ a = 0) : ¬ (a.toNat : Int) = 0 := by
  intro e
  apply h
  apply UInt32.toNat_inj.1
  have : a.toNat = 0 := by omega
  rw [this]; rfl

def powerF : Nat → UInt32 → Nat → UInt32 → UInt32
  | 0, _, _, p => p
  | f + 1, a, n, p => if n = 0 then p else powerF f (timesP a a) (n / 2) (if n % 2 = 1 then timesP p a else p)
/-- A register to the n. -/
def powerP (a : UInt32) (n : Nat) : UInt32 := powerF 63 a n 2147483648
theorem powerF_zero (f : Nat) (a p : UInt32) : powerF f a 0 p = p := by cases f <;> simp [powerF]

def joinP (a b : UInt32) (n : Nat) : UInt32 := timesP a (powerP 8388608 n) ^^^ b
theorem join_val : joinP 0xcbf53a1c 0x9dbabf87 4 = 0xcbf43926 := by decide +kernel
end Go.Proofs.YtepbphgpklphiaaDoor
