/-
  Walks: the document's Text.
-/
import Derived.Test.YtpkpklbambmbeaaDoorSL
namespace Go.Proofs.YtpkpklbambmbeaaDoor
open Go.RowKit

theorem by4_nat (n : Nat) : ∃ b0 b1 b2 b3 : UInt8, by4 (UInt32.ofNat n) = [b0, b1, b2, b3] ∧ (n : Int) / 16777216 % 256 = (b0.toNat : Int) ∧ (n : Int) / 65536 % 256 = (b1.toNat : Int) ∧ (n : Int) / 256 % 256 = (b2.toNat : Int) ∧ (n : Int) % 256 = (b3.toNat : Int) := by
  refine ⟨_, _, _, _, rfl, ?_, ?_, ?_, ?_⟩
  · simp [UInt32.toNat_shiftRight, UInt32.toNat_ofNat', Nat.shiftRight_eq_div_pow]; omega
  · simp [UInt32.toNat_shiftRight, UInt32.toNat_ofNat', Nat.shiftRight_eq_div_pow]; omega
  · simp [UInt32.toNat_shiftRight, UInt32.toNat_ofNat', Nat.shiftRight_eq_div_pow]; omega
  · simp

end Go.Proofs.YtpkpklbambmbeaaDoor
