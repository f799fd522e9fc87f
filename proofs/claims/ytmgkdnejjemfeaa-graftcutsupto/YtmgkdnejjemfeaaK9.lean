/- The bytes of a free number as graft reckons them; a text's, a head's. -/
import Derived.Test.YtmgkdnejjemfeaaK6J
import Derived.Lib.BitFns
import Derived.Lib.Small
namespace Go.Proofs.Ytmgkdnejjemfeaa
open Go.RowKit

theorem tab_len : ∀ n : Fin Lib.len8tab.size, (Lib.len8tab[n.val]'n.isLt).toNat = Lib.bitLen n.val ∧ Lib.bitLen n.val ≤ 8 := by decide +kernel
theorem tab_at {k : Nat} {h : k < Lib.len8tab.size} : (Lib.len8tab[k]'h).toNat = Lib.bitLen k := (tab_len ⟨k, h⟩).1
theorem tab_le {k : Nat} (h : k < 256) : Lib.bitLen k ≤ 8 := Lib.bitLen_le8 ⟨k, h⟩
set_option maxRecDepth 100000 in
set_option maxHeartbeats 4000000 in
theorem len64_int (x : Int) (w : World) (h0 : 0 ≤ x) (h1 : x ≤ 2097152) :
    Calls Try.prog 85 #[.int .u64 x] w fun e w' => e = .returned (.int .i64 (Lib.bitLen x.toNat : Int)) ∧ w' = w := by
  have hz : Lib.len8tab.size = 256 := by rfl
  go_enter Try.func85, Try.ntmps85
  go_wp2
  · go_ret
    refine ⟨congrArg Ending.returned (congrArg (Value.int IntKind.i64) ?_), rfl⟩
    rw [tab_at]
    have e : (x / 65536).toNat = x.toNat / 65536 := by omega
    have l := tab_le (k := x.toNat / 65536) (by omega)
    have s := Lib.bitLen_shift16 x.toNat (by omega) (by omega)
    rw [e, s]; unfold RowKit.wrap64; omega
  · go_ret
    refine ⟨congrArg Ending.returned (congrArg (Value.int IntKind.i64) ?_), rfl⟩
    rw [tab_at]
    have e : (x / 256).toNat = x.toNat / 256 := by omega
    have l := tab_le (k := x.toNat / 256) (by omega)
    have s := Lib.bitLen_shift8 x.toNat (by omega) (by omega)
    rw [e, s]; unfold RowKit.wrap64; omega
  · go_ret
    refine ⟨congrArg Ending.returned (congrArg (Value.int IntKind.i64) ?_), rfl⟩
    rw [tab_at]
    have l := tab_le (k := x.toNat) (by omega)
    unfold RowKit.wrap64; omega
theorem len64_calls (n : Nat) (w : World) (h : n ≤ 2097152) :
    Calls Try.prog 85 #[.int .u64 (n : Int)] w fun e w' => e = .returned (.int .i64 (Lib.bitLen n : Int)) ∧ w' = w := by
  have := len64_int (n : Int) w (by omega) (by omega)
  rw [Int.toNat_natCast] at this
  exact this
set_option maxRecDepth 100000 in
theorem len_calls (n : Nat) (w : World) (h : n ≤ 2097152) :
    Calls Try.prog 79 #[.int .u64 (n : Int)] w fun e w' => e = .returned (.int .i64 (Lib.bitLen n : Int)) ∧ w' = w := by
  have H : Hid (∀ W, Calls Try.prog 85 #[.int .u64 (n : Int)] W fun e w' => e = .returned (.int .i64 (Lib.bitLen n : Int)) ∧ w' = W) := fun W => len64_calls n W h
  go_enter Try.func79, Try.ntmps79
  go_wp2_with fail
  refine (H.out _).mono ?_
  rintro e W1 ⟨rfl, hW⟩; rw [hW]
  go_wp2_with fail
  go_ret
  exact ⟨rfl, rfl⟩
theorem bitLen_21 {n : Nat} (h : n ≤ 2097152) : Lib.bitLen n ≤ 22 := by
  by_cases h1 : 65536 ≤ n
  · rw [Lib.bitLen_shift16 n h1 (by omega)]
    by_cases h2 : n / 65536 = 32
    · rw [h2]; decide
    · have := Lib.bitLen_shift16 n h1 (by omega)
      have : ∀ k : Fin 32, Lib.bitLen k.val ≤ 6 := by decide +kernel
      have := this ⟨n / 65536, by omega⟩
      simp only at this; omega
  · by_cases h2 : 256 ≤ n
    · rw [Lib.bitLen_shift8 n h2 (by omega)]
      have := tab_le (k := n / 256) (by omega); omega
    · have := tab_le (k := n) (by omega); omega
/-- How many bytes a free number takes. -/
def numN (n : Nat) : Nat := max 1 ((Lib.bitLen n + 6) / 7)
set_option maxRecDepth 100000 in
theorem number_calls (n : Nat) (w : World) (h : n ≤ 2097152) :
    Calls Try.prog 71 #[.int .i64 (n : Int)] w fun e w' => e = .returned (.int .i64 (numN n : Int)) ∧ w' = w := by
  have H : Hid (∀ W, Calls Try.prog 79 #[.int .u64 (n : Int)] W fun e w' => e = .returned (.int .i64 (Lib.bitLen n : Int)) ∧ w' = W) := fun W => len_calls n W h
  have hb := bitLen_21 h
  unfold numN
  generalize Lib.bitLen n = b at *
  go_enter Try.func71, Try.ntmps71
  go_wp2_with fail
  refine (H.out _).mono ?_
  rintro e W1 ⟨rfl, hW⟩; rw [hW]
  go_wp2_with fail
  go_ret
  refine ⟨congrArg Ending.returned (congrArg (Value.int IntKind.i64) ?_), rfl⟩
  omega
theorem numN_le {n : Nat} (h : n ≤ 2097152) : 1 ≤ numN n ∧ numN n ≤ 4 := by
  have := bitLen_21 h
  unfold numN; omega
/-- How many bytes a text takes, and a pair. -/
def textN (n : Nat) : Nat := numN n + n
set_option maxRecDepth 100000 in
theorem text_calls (s : ByteArray) (w : World) (h : s.size ≤ 1048576) :
    Calls Try.prog 45 #[.string s] w fun e w' => e = .returned (.int .i64 (textN s.size : Int)) ∧ w' = w := by
  have H : Hid (∀ W, Calls Try.prog 71 #[.int .i64 (s.size : Int)] W fun e w' => e = .returned (.int .i64 (numN s.size : Int)) ∧ w' = W) := fun W => number_calls s.size W (by omega)
  have hb := (numN_le (n := s.size) (by omega)).2
  unfold textN
  generalize numN s.size = b at *
  go_enter Try.func45, Try.ntmps45
  go_wp2_with fail
  refine (H.out _).mono ?_
  rintro e W1 ⟨rfl, hW⟩; rw [hW]
  go_wp2_with fail
  go_ret
  exact ⟨rfl, rfl⟩
set_option maxRecDepth 100000 in
theorem head_calls (n : Nat) (w : World) (h : n ≤ 1048576) :
    Calls Try.prog 47 #[.int .i64 (n : Int)] w fun e w' => e = .returned (.int .i64 (1 + numN n : Nat)) ∧ w' = w := by
  have H : Hid (∀ W, Calls Try.prog 71 #[.int .i64 (n : Int)] W fun e w' => e = .returned (.int .i64 (numN n : Int)) ∧ w' = W) := fun W => number_calls n W (by omega)
  have hb := (numN_le (n := n) (by omega)).2
  generalize numN n = b at *
  go_enter Try.func47, Try.ntmps47
  go_wp2_with fail
  refine (H.out _).mono ?_
  rintro e W1 ⟨rfl, hW⟩; rw [hW]
  go_wp2_with fail
  go_ret
  exact ⟨rfl, rfl⟩
set_option maxRecDepth 100000 in
set_option maxHeartbeats 1000000 in
theorem pair_calls (k v : ByteArray) (w : World) (hk : k.size ≤ 1048576) (hv : v.size ≤ 1048576) :
    Calls Try.prog 49 #[.agg #[.string k, .string v]] w fun e w' => e = .returned (.int .i64 (textN k.size + textN v.size : Nat)) ∧ Same w w' := by
  have H : Hid (∀ W, Calls Try.prog 45 #[.string k] W fun e w' => e = .returned (.int .i64 (textN k.size : Int)) ∧ w' = W) := fun W => text_calls k W hk
  have H2 : Hid (∀ W, Calls Try.prog 45 #[.string v] W fun e w' => e = .returned (.int .i64 (textN v.size : Int)) ∧ w' = W) := fun W => text_calls v W hv
  have hb : textN k.size ≤ 2097152 := by have := (numN_le (n := k.size) (by omega)).2; unfold textN; omega
  have hc : textN v.size ≤ 2097152 := by have := (numN_le (n := v.size) (by omega)).2; unfold textN; omega
  generalize textN k.size = b at *
  generalize textN v.size = c at *
  have s0 : Same w (w.alloc (Obj.cells #[.string k, .string v] 48)) := (Fr.refl _ w).alloc _
  have a0 : (w.alloc (Obj.cells #[.string k, .string v] 48)).cell? ⟨w.heap.size, 0, none⟩ = some (.string k) := by simp
  have a1 : (w.alloc (Obj.cells #[.string k, .string v] 48)).cell? ⟨w.heap.size, 1, none⟩ = some (.string v) := by simp
  go_enter Try.func49, Try.ntmps49
  go_wp2_with fail
  generalize w.alloc (Obj.cells #[.string k, .string v] 48) = V at *
  have d0 : Same V V.drew := Fr.drew (Fr.refl _ V)
  have b0 := d0.keep a0
  have b1 := d0.keep a1
  go_region_held3 (fun W => W.cell? ⟨w.heap.size, 0, none⟩ = some (.string k) ∧ W.cell? ⟨w.heap.size, 1, none⟩ = some (.string v)) (exact ⟨b0, b1⟩)
    (first | (go_at_call 45; first | (refine (H.out _).mono ?_; rintro e W1 ⟨rfl, hW⟩; rw [hW]) | (refine (H2.out _).mono ?_; rintro e W2 ⟨rfl, hW⟩; rw [hW])))
  go_wp2_with fail
  go_ret
  refine ⟨congrArg Ending.returned (congrArg (Value.int IntKind.i64) ?_), s0.trans d0⟩
  rw [IntKind.wrap_i64]; omega
end Go.Proofs.Ytmgkdnejjemfeaa
