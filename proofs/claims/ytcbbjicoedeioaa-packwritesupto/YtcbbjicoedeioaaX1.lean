/-
  Walks: the document's own fixed number, digest, list (heartwoodref01.Fixed, Digest, Join).
-/
import Derived.Test.YtcbbjicoedeioaaX0
namespace Go.Proofs.Ytcbbjicoedeioaa
open Go.RowKit

theorem fixB_low (k : Nat) (x : Nat) : fixB (k + 1) (x : Int) = UInt8.ofNat (x / 256 ^ k % 256) :: fixB k (x : Int) := by
  rw [fixB]
  have h1 : ((256 ^ k : Nat) : Int) = 256 ^ k := Int.natCast_pow 256 k
  have h2 : ((x : Int) / 256 ^ k % 256).toNat = x / 256 ^ k % 256 := by rw [← h1]; omega
  rw [h2]
theorem laidAll_snoc {α : Type} (enc : α → List UInt8) (l : List α) (x : α) : laidAll enc (l ++ [x]) = laidAll enc l ++ enc x := by simp [laidAll]

theorem str_size (l : List UInt8) : (⟨l.toArray⟩ : ByteArray).size = l.length := by
  show l.toArray.size = l.length
  simp
theorem str_append (a b : List UInt8) : (⟨a.toArray⟩ : ByteArray) ++ (⟨b.toArray⟩ : ByteArray) = ⟨(a ++ b).toArray⟩ := by
  apply ByteArray.ext; simp

set_option maxRecDepth 100000 in
set_option maxHeartbeats 1000000 in
theorem xfixed_calls (x : Nat) (hx : x < 18446744073709551616) (n : Nat) (hn : n ≤ 8) (w : World) :
    Calls Try.prog 54 #[.int .u64 x, .int .i64 n] w fun e w' => e = .returned (.string ⟨(fixB n x).toArray⟩) ∧ Same w w' := by
  go_enter Try.func54, Try.ntmps54
  go_wp2_with fail
  go_loopw [0, 5, 6] (fun xv sv iv wr => ∃ (k y : Nat) (T : ByteArray), iv = .int .i64 k ∧ k ≤ n ∧ xv = .int .u64 y ∧ sv = .string T ∧ y = x / 256 ^ k ∧ T = ⟨(fixB k x).toArray⟩ ∧ Same w wr)
    (fun _ _ iv _ => n - (intOf iv).toNat)
  case atStart => exact ⟨0, x, ⟨#[]⟩, rfl, by omega, rfl, rfl, by simp, rfl, Fr.refl _ _⟩
  case round =>
    obtain ⟨k, y, T, rfl, hk, rfl, rfl, hy, hT, hst⟩ := hrel
    have hyl : y < 18446744073709551616 := by rw [hy]; exact Nat.lt_of_le_of_lt (Nat.div_le_self _ _) hx
    by_cases hgo : k < n
    · obtain ⟨c, hc⟩ : ∃ c, c = y % 256 := ⟨_, rfl⟩
      have hclt : c < 256 := by omega
      have hcs := fun W => one_str W c hclt
      have hw1 : IntKind.u8.wrap (y : Int) = (c : Int) := by rw [IntKind.wrap_u8]; omega
      have hw2 : (y : Int) % 256 = (c : Int) := by omega
      have hTs : T.size ≤ 8 := by rw [hT, str_size, fixB_length]; omega
      have hadd := fun W => run_string_add_sum (P := Try.prog) W (⟨#[UInt8.ofNat c]⟩ : ByteArray) T (by have : (⟨#[UInt8.ofNat c]⟩ : ByteArray).size = 1 := rfl; omega)
      have HN : Hid ((⟨#[UInt8.ofNat c]⟩ : ByteArray) ++ T = ⟨(fixB (k + 1) x).toArray⟩) := by
        show _ = _
        rw [fixB_low, hT, ← hy, ← hc]
        exact str_append [UInt8.ofNat c] _
      have HY : Hid (y / 256 = x / 256 ^ (k + 1)) := by
        show _ = _
        rw [hy, Nat.div_div_eq_div_mul, Nat.pow_succ]
      clear hy hT hc
      go_wp2_with fail
      go_roundw
      case rel => exact ⟨k + 1, y / 256, _, by go_num, by omega, by go_num, rfl, HY.out, HN.out, hst.alloc _⟩
      case measure => simp [intOf]; omega
    · obtain rfl : k = n := by omega
      clear hy
      go_wp2_with fail
      go_ret
      exact ⟨by rw [← hT]; rfl, hst⟩

set_option maxRecDepth 100000 in
set_option maxHeartbeats 1000000 in
theorem xwidth_calls (wd : Int) (w : World) :
    Calls Try.prog 100 #[.int .i64 wd] w fun e w' => e = .returned (.int .i64 (widthN wd)) ∧ w = w' := by
  by_cases h1 : wd < 0
  · have e : ((widthN wd : Nat) : Int) = 0 := by unfold widthN; omega
    rw [e]
    go_enter Try.func100, Try.ntmps100
    go_wp2_with fail
    go_ret
    exact ⟨rfl, rfl⟩
  · by_cases h2 : 32 < wd
    · have e : ((widthN wd : Nat) : Int) = 32 := by unfold widthN; omega
      rw [e]
      go_enter Try.func100, Try.ntmps100
      go_wp2_with fail
      go_ret
      exact ⟨rfl, rfl⟩
    · have e : ((widthN wd : Nat) : Int) = wd := by unfold widthN; omega
      rw [e]
      go_enter Try.func100, Try.ntmps100
      go_wp2_with fail
      go_ret
      exact ⟨rfl, rfl⟩

set_option maxRecDepth 100000 in
set_option maxHeartbeats 1000000 in
theorem xdigest_calls (wd : Int) (D : List UInt8) (hD : D.length = 32) (w : World) :
    Calls Try.prog 57 #[.int .i64 wd, .agg (bcells D).toArray] w fun e w' => e = .returned (.string ⟨(D.take (widthN wd)).toArray⟩) ∧ Same w w' := by
  go_enter Try.func57, Try.ntmps57
  go_wp2_with fail
  go_loopw [5, 6] (fun sv iv wr => ∃ (k : Nat) (T : ByteArray), iv = .int .i64 k ∧ k ≤ widthN wd ∧ sv = .string T ∧ T = ⟨(D.take k).toArray⟩ ∧ wr.heap[w.heap.size]? = some (.cells (bcells D).toArray 51 (0, 0)) ∧ Same w wr)
    (fun _ iv _ => widthN wd - (intOf iv).toNat)
  case atStart => exact ⟨0, ⟨#[]⟩, rfl, by omega, rfl, rfl, heap_alloc_new w _, (Fr.refl _ w).alloc _⟩
  case round =>
    obtain ⟨k, T, rfl, hk, rfl, hT, hrow, hst⟩ := hrel
    have hwd := widthN_le wd
    by_cases hgo : k < widthN wd
    · obtain ⟨c, hc⟩ : ∃ c, c = (D[k]'(by omega)).toNat := ⟨_, rfl⟩
      have hclt : c < 256 := by rw [hc]; exact UInt8.toNat_lt _
      have hcs := fun W => one_str W c hclt
      have hcell : wr.cell? ⟨w.heap.size, k, none⟩ = some (.int .u8 c) := by
        rw [cell_of_row _ _ _ _ _ _ hrow]
        simp [bcells, hc, show k < D.length from by omega]
      have hTs : T.size ≤ 32 := by rw [hT, str_size, List.length_take]; omega
      have hadd := fun W => run_string_add_sum (P := Try.prog) W T (⟨#[UInt8.ofNat c]⟩ : ByteArray) (by have : (⟨#[UInt8.ofNat c]⟩ : ByteArray).size = 1 := rfl; omega)
      have HN : Hid (T ++ (⟨#[UInt8.ofNat c]⟩ : ByteArray) = ⟨(D.take (k + 1)).toArray⟩) := by
        show _ = _
        rw [List.take_succ_eq_append_getElem (show k < D.length from by omega), hT, hc, UInt8.ofNat_toNat]
        exact str_append _ [_]
      have i0 : (0 : Int) ≤ (k : Int) := by omega
      have i1 : (k : Int) < 32 := by omega
      have i2 : (k : Int) < ((widthN wd : Nat) : Int) := by omega
      have HR : Hid ((wr.alloc (.cells #[.int .u8 c] 5)).heap[w.heap.size]? = some (.cells (bcells D).toArray 51 (0, 0))) := by
        show _ = _
        rw [Below.heap_alloc _ _ _ (lt_of_heap hrow)]; exact hrow
      clear hT hc hrow
      go_wp2_with fail
      refine (xwidth_calls wd _).mono ?_
      rintro e w1 ⟨rfl, rfl⟩
      go_wp2_with fail
      go_roundw
      case rel => exact ⟨k + 1, _, by go_num, by omega, rfl, HN.out, HR.out, hst.alloc _⟩
      case measure => simp [intOf]; omega
    · obtain rfl : k = widthN wd := by omega
      go_wp2_with fail
      refine (xwidth_calls wd _).mono ?_
      rintro e w1 ⟨rfl, rfl⟩
      go_wp2_with fail
      go_ret
      exact ⟨by rw [← hT]; rfl, hst⟩

set_option maxRecDepth 100000 in
set_option maxHeartbeats 1000000 in
theorem xjoin_calls {w : World} {B : Nat} {v : Value} (ss : List ByteArray) (he : ElemIn Value.string B w v ss) (hl : sumB ss ≤ 1048576) :
    Calls Try.prog 58 #[v] w fun e w' => e = .returned (.string ⟨(freeB ss.length ++ laidAll textB ss).toArray⟩) ∧ Same w w' := by
  obtain ⟨ad, cp, rfl, hsl, hel⟩ := he
  have HX : Hid (∀ W, Calls Try.prog 30 #[.int .u64 (ss.length : Int)] W fun e w' => e = .returned (.string ⟨(freeB ss.length).toArray⟩) ∧ Same W w') := fun W => xfreeB_calls ss.length W (by omega)
  go_enter Try.func58, Try.ntmps58
  go_wp2_with fail
  refine (HX.out _).mono ?_
  rintro e w1 ⟨rfl, s1⟩
  go_wp2_with fail
  go_loopw [3, 4] (fun sv iv wr => ∃ (k : Nat) (T : ByteArray), iv = .int .i64 k ∧ k ≤ ss.length ∧ sv = .string T ∧ T = ⟨(freeB ss.length ++ laidAll textB (ss.take k)).toArray⟩ ∧ Same w wr)
    (fun _ iv _ => ss.length - (intOf iv).toNat)
  case atStart => exact ⟨0, _, rfl, by omega, rfl, by simp [laidAll], s1⟩
  case round =>
    obtain ⟨k, T, rfl, hk, rfl, hT, hst⟩ := hrel
    by_cases hgo : k < ss.length
    · rcases hel with rfl | ⟨ab, ao, rfl, hlt, hel⟩
      · simp at hgo
      have hx := hel k ss[k] (List.getElem?_eq_getElem hgo)
      have hx1 := (hst.cell (p := ⟨ab, ao + k, none⟩) (World.block_lt_of_cell? _ _ hx) (fun f => f)).trans hx
      have hsz := sumB_mem (List.getElem_mem hgo)
      have HT : Hid (∀ W, Calls Try.prog 56 #[.string ss[k]] W fun e w' => e = .returned (.string ⟨(textB ss[k]).toArray⟩) ∧ Same W w') := fun W => xtext_calls ss[k] (by omega) W
      have h1 := laid_texts_len (ss.take k)
      have h2 : sumB (ss.take k) ≤ sumB ss := by
        have : sumB ss = sumB (ss.take k) + sumB (ss.drop k) := by unfold sumB; rw [← List.sum_append, ← List.map_append, List.take_append_drop]
        omega
      have h3 := freeB_length ss.length
      have h4 := freeB_length ss[k].size
      have hTs : T.size ≤ 20000000 := by rw [hT, str_size, List.length_append]; omega
      obtain ⟨U, hU⟩ : ∃ U : ByteArray, U = ⟨(textB ss[k]).toArray⟩ := ⟨_, rfl⟩
      have hUs : U.size ≤ 20000000 := by rw [hU, str_size]; unfold textB; rw [List.length_append, bytes_length]; omega
      rw [← hU] at HT
      have hadd := fun W => run_string_add_sum (P := Try.prog) W T U (by omega)
      have HN : Hid (T ++ U = ⟨(freeB ss.length ++ laidAll textB (ss.take (k + 1))).toArray⟩) := by
        show _ = _
        rw [hT, hU, str_append, List.take_succ_eq_append_getElem hgo, laidAll_snoc, List.append_assoc]
      have i0 : (0 : Int) ≤ (k : Int) := by omega
      have i1 : (k : Int) < (ss.length : Int) := by omega
      generalize hs0 : ss[k] = s0 at *
      clear hT hU hx hel h1 h2 h3 h4 hsz
      go_wp2_with fail
      refine (HT.out _).mono ?_
      rintro e w2 ⟨rfl, s2⟩
      go_wp2_with fail
      go_roundw
      case rel => exact ⟨k + 1, _, by go_num, by omega, rfl, HN.out, Fr.trans hst s2 (fun _ _ f => f)⟩
      case measure => simp [intOf]; omega
    · obtain rfl : k = ss.length := by omega
      rw [List.take_length] at hT
      go_wp2_with fail
      go_ret
      exact ⟨by rw [← hT]; rfl, hst⟩
end Go.Proofs.Ytcbbjicoedeioaa
