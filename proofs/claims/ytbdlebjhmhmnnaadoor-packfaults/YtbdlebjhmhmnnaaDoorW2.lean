/-
  Walks: what Signed, Raw, Text, String and Len of a Writer do.
-/
import Derived.Test.YtbdlebjhmhmnnaaDoorW1
namespace Go.Proofs.YtbdlebjhmhmnnaaDoor
open Go.RowKit

def zig (n : Int) : Nat := if n < 0 then (-2 * n - 1).toNat else (2 * n).toNat

theorem nat_not64 (T : Nat) (h : T < 18446744073709551616) : (18446744073709551615 ^^^ T : Nat) = 18446744073709551615 - T := by
  have h1 : (BitVec.allOnes 64 ^^^ BitVec.ofNat 64 T).toNat = 18446744073709551615 ^^^ T := by
    rw [BitVec.toNat_xor, BitVec.toNat_allOnes, BitVec.toNat_ofNat, Nat.mod_eq_of_lt (by omega)]
  have h2 : (~~~ (BitVec.ofNat 64 T)).toNat = 18446744073709551615 - T := by
    rw [BitVec.toNat_not, BitVec.toNat_ofNat, Nat.mod_eq_of_lt (by omega)]
  rw [← h1, ← h2, BitVec.allOnes_xor]
theorem not64 (x : Int) (h0 : 0 ≤ x) (h1 : x < 18446744073709551616) : bits .xor .u64 IntKind.u64.max x = 18446744073709551615 - x := by
  obtain ⟨T, rfl⟩ := Int.eq_ofNat_of_zero_le h0
  have hm : IntKind.u64.max = ((18446744073709551615 : Nat) : Int) := by decide
  rw [hm, bits_xor_u64_nat _ _ (by decide) (by omega), nat_not64 T (by omega)]
  omega
theorem zig_neg (n : Int) (h0 : -9223372036854775808 ≤ n) (hneg : n < 0) : bits .xor .u64 IntKind.u64.max (IntKind.u64.wrap (IntKind.u64.wrap n * 2)) = (zig n : Int) := by
  rw [IntKind.wrap_u64, IntKind.wrap_u64, not64 _ (by omega) (by omega)]
  unfold zig; rw [if_pos hneg]; omega
theorem zig_lt (n : Int) (h0 : -9223372036854775808 ≤ n) (h1 : n ≤ 9223372036854775807) : zig n < 18446744073709551616 := by unfold zig; split <;> omega

set_option maxRecDepth 100000 in
set_option maxHeartbeats 400000 in
theorem wsigned_calls {w : World} {b : Nat} {g : Option Nat} {bs : List UInt8} (n : Int) (hn0 : -9223372036854775808 ≤ n) (hn1 : n ≤ 9223372036854775807) (h : WrAt w b g bs) (hl : bs.length ≤ 1000000000000) :
    Calls Tryd.prog 13 #[.pointer (some ⟨b, 0, none⟩), .int .i64 n] w fun e w' => e = .returned (.tuple #[]) ∧ ∃ g', WrAt w' b g' (bs ++ freeB (zig n)) ∧ WrStep b g g' w w' := by
  have hz := zig_lt n hn0 hn1
  have H : Hid (∀ x : Int, x = (zig n : Int) → Calls Tryd.prog 12 #[.pointer (some ⟨b, 0, none⟩), .int .u64 x] w fun e w' => e = .returned (.tuple #[]) ∧ ∃ g', WrAt w' b g' (bs ++ freeB (zig n)) ∧ WrStep b g g' w w') := by
    rintro x rfl; exact wfree_calls (zig n) hz h hl
  by_cases hneg : n < 0
  · have hzn : Hid (_ = _) := zig_neg n hn0 hneg
    go_enter Tryd.func13, Tryd.ntmps13
    go_wp2_with fail
    refine (H.out _ hzn.out).mono ?_
    rintro e w' ⟨rfl, hq⟩
    go_wp2_with fail
    go_end0
    exact ⟨rfl, hq⟩
  · have hzn : Hid (n * 2 = (zig n : Int)) := by show _ = _; unfold zig; rw [if_neg hneg]; omega
    go_enter Tryd.func13, Tryd.ntmps13
    go_wp2_with fail
    refine (H.out _ hzn.out).mono ?_
    rintro e w' ⟨rfl, hq⟩
    go_wp2_with fail
    go_end0
    exact ⟨rfl, hq⟩

set_option maxRecDepth 100000 in
set_option maxHeartbeats 400000 in
theorem wstring_calls {w : World} {b : Nat} {g : Option Nat} {bs : List UInt8} (h : WrAt w b g bs) :
    Calls Tryd.prog 15 #[.pointer (some ⟨b, 0, none⟩)] w fun e w' => e = .returned (.string ⟨bs.toArray⟩) ∧ w = w' := by
  obtain ⟨ao, c, hblk, hown, hg⟩ := id h
  obtain ⟨c0, c1, f0, f1⟩ := cell_of_two hblk
  have hcv := owns_string (P := Tryd.prog) hown 56 9 Tryd.underlying56 Tryd.underlying5 Tryd.underlying9
  go_enter Tryd.func15, Tryd.ntmps15
  go_wp2_with (go_at_call 28; refine (there_calls c0).mono ?_; rintro e w' ⟨rfl, rfl⟩)
  go_ret
  exact ⟨rfl, rfl⟩

end Go.Proofs.YtbdlebjhmhmnnaaDoor
