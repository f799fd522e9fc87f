/-
  Walks: padded.
-/
import Derived.Test.YtnoicjpmfchhiaaDoorSRB
namespace Go.Proofs.YtnoicjpmfchhiaaDoor
open Go.RowKit

theorem str_brow (w : World) (s : ByteArray) (hs : s.size ≤ 140737488355328) :
    ∃ cs cap fr, (convert 9 52 (.string s)).run Tryd.prog w = .ok (.slice (some ⟨w.heap.size, 0, none⟩) s.size cap) (w.drew.alloc (.cells cs 5 fr)) ∧ fr = (cs.size, cs.size + 1) ∧ s.size ≤ cap ∧ cap ≤ maxLen ∧ cs.size = cap ∧ cs.toList.take s.size = bcells s.data.toList := by
  have hge := grownCap_ge w s.size 0 5
  have hle := grownCap_le_maxLen w s.size 0 5 (by unfold maxLen; omega)
  refine ⟨_, _, _, run_bytes_of_string w 9 52 5 s Tryd.underlying9 Tryd.underlying52 Tryd.underlying5, rfl, hge, hle, ?_, ?_⟩
  · unfold bytesRow
    have : s.data.size = s.size := rfl
    simp; omega
  · unfold bytesRow
    rw [Array.toList_append, List.take_left' (by simp)]
    simp [bcells]
theorem BRow.drew {w : World} {base g n cap : Nat} {xs : List UInt8} (h : BRow w base g n cap xs) : BRow w.drew base g n cap xs := h
/-- The k-th byte of how many bits n bytes have. -/
def lenB (n k : Nat) : UInt8 := UInt8.ofNat (n * 8 / 2 ^ (8 * (7 - k)))
theorem by4_val (x : Nat) : by4 (UInt32.ofNat x) = [UInt8.ofNat (x / 16777216), UInt8.ofNat (x / 65536), UInt8.ofNat (x / 256), UInt8.ofNat x] := by
  have e24 : ((UInt32.ofNat x) >>> 24).toUInt8 = UInt8.ofNat (x / 16777216) := by
    apply UInt8.toNat_inj.1
    rw [UInt32.toNat_toUInt8, UInt32.toNat_shiftRight, UInt32.toNat_ofNat', UInt8.toNat_ofNat']
    show (x % 2 ^ 32) >>> 24 % 2 ^ 8 = _
    rw [Nat.shiftRight_eq_div_pow]; omega
  have e16 : ((UInt32.ofNat x) >>> 16).toUInt8 = UInt8.ofNat (x / 65536) := by
    apply UInt8.toNat_inj.1
    rw [UInt32.toNat_toUInt8, UInt32.toNat_shiftRight, UInt32.toNat_ofNat', UInt8.toNat_ofNat']
    show (x % 2 ^ 32) >>> 16 % 2 ^ 8 = _
    rw [Nat.shiftRight_eq_div_pow]; omega
  have e8 : ((UInt32.ofNat x) >>> 8).toUInt8 = UInt8.ofNat (x / 256) := by
    apply UInt8.toNat_inj.1
    rw [UInt32.toNat_toUInt8, UInt32.toNat_shiftRight, UInt32.toNat_ofNat', UInt8.toNat_ofNat']
    show (x % 2 ^ 32) >>> 8 % 2 ^ 8 = _
    rw [Nat.shiftRight_eq_div_pow]; omega
  have e0 : (UInt32.ofNat x).toUInt8 = UInt8.ofNat x := by
    apply UInt8.toNat_inj.1
    rw [UInt32.toNat_toUInt8, UInt32.toNat_ofNat', UInt8.toNat_ofNat']
    omega
  unfold by4
  rw [e24, e16, e8, e0]
theorem len_bytes (n : Nat) : by4 (UInt32.ofNat (n * 8 / 4294967296)) ++ by4 (UInt32.ofNat (n * 8)) = (List.range 8).map (lenB n) := by
  rw [by4_val, by4_val]
  have e : (List.range 8).map (lenB n) = [lenB n 0, lenB n 1, lenB n 2, lenB n 3, lenB n 4, lenB n 5, lenB n 6, lenB n 7] := rfl
  rw [e]
  unfold lenB
  simp only [Nat.div_div_eq_div_mul]
  simp
theorem lenB_val (n k : Nat) : ((n : Int) * 8) / 2 ^ (8 * (7 - k)) % 256 = ((lenB n k).toNat : Int) := by
  unfold lenB
  rw [UInt8.toNat_ofNat']
  have : ((n : Int) * 8) / 2 ^ (8 * (7 - k)) = ((n * 8 / 2 ^ (8 * (7 - k)) : Nat) : Int) := by simp
  rw [this]
  omega
def padL (n : Nat) : Nat := (119 - n % 64) % 64
theorem padN_eq (n : Nat) : padN n = [128] ++ List.replicate (padL n) 0 ++ (List.range 8).map (lenB n) := by
  unfold padN padL
  rw [len_bytes]; simp

end Go.Proofs.YtnoicjpmfchhiaaDoor
