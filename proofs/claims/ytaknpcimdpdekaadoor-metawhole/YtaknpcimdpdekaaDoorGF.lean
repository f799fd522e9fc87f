/- Plain: numbers in bytes, there and back. -/
import Derived.Test.YtaknpcimdpdekaaDoorW5
import Derived.Test.YtaknpcimdpdekaaDoorWA
namespace Go.Proofs.YtaknpcimdpdekaaDoor
open Go.RowKit

theorem beF_acc (l : List UInt8) (a : Nat) : l.foldl (fun x b => x * 256 + b.toNat) a = a * 256 ^ l.length + beN l := by
  unfold beN
  induction l generalizing a with
  | nil => simp
  | cons c l ih =>
    simp only [List.foldl_cons, List.length_cons]
    rw [ih (a * 256 + c.toNat), ih (0 * 256 + c.toNat), Nat.pow_succ, Nat.add_mul, Nat.mul_comm (256 ^ l.length) 256, Nat.mul_assoc]
    simp only [Nat.zero_mul, Nat.zero_add]
    omega
theorem beN_cons (c : UInt8) (l : List UInt8) : beN (c :: l) = c.toNat * 256 ^ l.length + beN l := by
  have := beF_acc l c.toNat
  show (c :: l).foldl _ 0 = _
  simp only [List.foldl_cons, Nat.zero_mul, Nat.zero_add]
  exact this
theorem beN_fix (n x : Nat) : beN (fixB n (x : Int)) = x % 256 ^ n := by
  induction n with
  | zero => simp [fixB, beN, Nat.mod_one]
  | succ n ih =>
    have e : ((x : Int) / 256 ^ n % 256).toNat = x / 256 ^ n % 256 := by
      have h1 : ((256 ^ n : Nat) : Int) = 256 ^ n := Int.natCast_pow 256 n
      rw [← h1]
      omega
    have hc : (UInt8.ofNat (x / 256 ^ n % 256)).toNat = x / 256 ^ n % 256 := by simp
    rw [fixB, beN_cons, ih, fixB_length, e, hc, Nat.mod_pow_succ, Nat.mul_comm]
    omega
theorem fixB_mod (n : Nat) (x y q : Int) (h : x = y + 256 ^ n * q) : fixB n x = fixB n y := by
  induction n generalizing q with
  | zero => rfl
  | succ n ih =>
    rw [fixB, fixB]
    have e : x = y + 256 ^ n * (256 * q) := by rw [h, Int.pow_succ, Int.mul_assoc]
    rw [ih (256 * q) e]
    have hp : (256 : Int) ^ n ≠ 0 := by exact Int.ne_of_gt (Int.pow_pos (by decide))
    have e2 : x / 256 ^ n = y / 256 ^ n + 256 * q := by rw [e, Int.add_mul_ediv_left _ _ hp]
    rw [e2, Int.add_mul_emod_self_left]
theorem fixB_low' (k : Nat) (x : Nat) : fixB (k + 1) (x : Int) = UInt8.ofNat (x / 256 ^ k % 256) :: fixB k (x : Int) := by
  rw [fixB]
  have h1 : ((256 ^ k : Nat) : Int) = 256 ^ k := Int.natCast_pow 256 k
  have h2 : ((x : Int) / 256 ^ k % 256).toNat = x / 256 ^ k % 256 := by rw [← h1]; omega
  rw [h2]
theorem fix_beN (l : List UInt8) : fixB l.length ((beN l : Nat) : Int) = l := by
  induction l with
  | nil => rfl
  | cons c l ih =>
    have hlt := beN_lt l
    have hc := UInt8.toNat_lt c
    have e := beN_cons c l
    rw [List.length_cons, fixB_low']
    have e1 : beN (c :: l) / 256 ^ l.length % 256 = c.toNat := by
      rw [e, Nat.mul_comm, Nat.mul_add_div (Nat.pow_pos (by decide)), Nat.div_eq_of_lt hlt]; omega
    rw [e1, UInt8.ofNat_toNat]
    congr 1
    have := fixB_mod l.length ((beN (c :: l) : Nat) : Int) ((beN l : Nat) : Int) (c.toNat : Int) (by
      rw [e, Int.natCast_add, Int.natCast_mul, Int.natCast_pow, Int.add_comm, Int.mul_comm]
      rfl)
    rw [this, ih]
end Go.Proofs.YtaknpcimdpdekaaDoor
