/-
  Walks: the document's own SHA-256: turn; plain words of a block.
-/
import Derived.Test.YtnoicjpmfchhiaaDoorS3
import Derived.Deep.MidRow
namespace Go.Proofs.YtnoicjpmfchhiaaDoor
open Go.RowKit

theorem or_shl (a b n : UInt32) : (a ||| b) <<< n = (a <<< n) ||| (b <<< n) := by
  apply UInt32.toBitVec_inj.1
  simp only [UInt32.toBitVec_or, UInt32.toBitVec_shiftLeft, BitVec.shiftLeft_eq', BitVec.shiftLeft_or_distrib]
theorem shl_shl8 (a : UInt32) (n : Nat) (hn : n ≤ 16) : (a <<< UInt32.ofNat n) <<< 8 = a <<< UInt32.ofNat (n + 8) := by
  apply UInt32.toBitVec_inj.1
  have a8 : (UInt32.toBitVec 8 % 32).toNat = 8 := by decide
  have hb : ∀ k, k < 32 → ((UInt32.ofNat k).toBitVec % 32).toNat = k := by
    intro k hk
    rw [BitVec.toNat_umod, UInt32.toBitVec_ofNat', BitVec.toNat_ofNat]
    show k % 2 ^ 32 % 32 = k
    omega
  simp only [UInt32.toBitVec_shiftLeft, BitVec.shiftLeft_eq', a8, hb n (by omega), hb (n + 8) (by omega)]
  rw [← BitVec.shiftLeft_add]
/-- Four bytes, each at its place. -/
theorem be4_eq (a b c d : UInt8) : ((a.toUInt32 <<< UInt32.ofNat 24 ||| b.toUInt32 <<< UInt32.ofNat 16) ||| c.toUInt32 <<< UInt32.ofNat 8) ||| d.toUInt32 = be4 a b c d := by
  unfold be4
  rw [or_shl, or_shl, or_shl]
  have e8 : ∀ x : UInt32, x <<< 8 = x <<< UInt32.ofNat 8 := fun x => rfl
  have h1 : (a.toUInt32 <<< 8) <<< 8 = a.toUInt32 <<< UInt32.ofNat 16 := by rw [e8 a.toUInt32]; exact shl_shl8 _ 8 (by omega)
  have h2 : (a.toUInt32 <<< UInt32.ofNat 16) <<< 8 = a.toUInt32 <<< UInt32.ofNat 24 := shl_shl8 _ 16 (by omega)
  have h3 : (b.toUInt32 <<< 8) <<< 8 = b.toUInt32 <<< UInt32.ofNat 16 := by rw [e8 b.toUInt32]; exact shl_shl8 _ 8 (by omega)
  rw [h1, h2, h3]
  rfl
def be4At (B : List UInt8) (i : Nat) : UInt32 := be4 (B.getD (4 * i) 0) (B.getD (4 * i + 1) 0) (B.getD (4 * i + 2) 0) (B.getD (4 * i + 3) 0)
theorem words4_range : ∀ (n : Nat) (B : List UInt8), B.length = 4 * n → words4 B = (List.range n).map (be4At B) := by
  intro n
  induction n with
  | zero =>
    intro B h
    have : B = [] := List.eq_nil_of_length_eq_zero (by omega)
    subst this; rfl
  | succ n ih =>
    intro B h
    match B, h with
    | a :: b :: c :: d :: t, h =>
      have ht : t.length = 4 * n := by simp at h; omega
      rw [words4, ih t ht, List.range_succ_eq_map, List.map_cons, List.map_map]
      congr 1
end Go.Proofs.YtnoicjpmfchhiaaDoor
