/-
  Walks: the document's own free number (heartwoodref01.Free, Signed, Text).
-/
import Derived.Test.YtcbbjicoedeioaaWX
import Derived.Laws.Concat
import Derived.Deep.RegionWith
namespace Go.Proofs.Ytcbbjicoedeioaa
open Go.RowKit

theorem one_str (W : World) (c : Nat) (hc : c < 256) : (convert 67 9 (.slice (some ⟨W.heap.size, 0, none⟩) 1 1)).run Try.prog (W.alloc (.cells #[.int .u8 c] 5)) = .ok (.string ⟨#[UInt8.ofNat c]⟩) (W.alloc (.cells #[.int .u8 c] 5)) := by
  have hown : Owns (W.alloc (.cells #[.int .u8 c] 5)) (.slice (some ⟨W.heap.size, 0, none⟩) 1 1) [UInt8.ofNat c] := by
    refine ⟨rfl, Or.inr ⟨W.heap.size, 1, #[.int .u8 c], rfl, Nat.zero_le _, heap_alloc_new W _, Nat.le_refl _, by decide, rfl, ?_⟩⟩
    simp [bcells]
    omega
  exact owns_string (P := Try.prog) hown 67 9 Try.underlying67 Try.underlying5 Try.underlying9

theorem one_strD (W : World) (c : Nat) (hc : c < 256) : (convert 67 9 (.slice (some ⟨W.heap.size, 0, none⟩) 1 1)).run Try.prog (W.alloc (.cells #[.int .u8 c] 5)).drew = .ok (.string ⟨#[UInt8.ofNat c]⟩) (W.alloc (.cells #[.int .u8 c] 5)).drew := by
  have hown : Owns (W.alloc (.cells #[.int .u8 c] 5)).drew (.slice (some ⟨W.heap.size, 0, none⟩) 1 1) [UInt8.ofNat c] := by
    refine ⟨rfl, Or.inr ⟨W.heap.size, 1, #[.int .u8 c], rfl, Nat.zero_le _, heap_alloc_new W _, Nat.le_refl _, by decide, rfl, ?_⟩⟩
    simp [bcells]
    omega
  exact owns_string (P := Try.prog) hown 67 9 Try.underlying67 Try.underlying5 Try.underlying9
theorem one_strA (W : World) (c : Nat) (hc : c < 256) : (convert 67 9 (.slice (some ⟨W.heap.size, 0, none⟩) 1 1)).run Try.prog (W.drew.alloc (.cells #[.int .u8 c] 5)) = .ok (.string ⟨#[UInt8.ofNat c]⟩) (W.drew.alloc (.cells #[.int .u8 c] 5)) := one_str W.drew c hc

theorem one_strS {W W4 : World} {c : Nat} (hc : c < 256) (s : Same (W.alloc (.cells #[.int .u8 c] 5)).drew W4) : (convert 67 9 (.slice (some ⟨W.heap.size, 0, none⟩) 1 1)).run Try.prog W4 = .ok (.string ⟨#[UInt8.ofNat c]⟩) W4 := by
  have hown : Owns (W.alloc (.cells #[.int .u8 c] 5)).drew (.slice (some ⟨W.heap.size, 0, none⟩) 1 1) [UInt8.ofNat c] := by
    refine ⟨rfl, Or.inr ⟨W.heap.size, 1, #[.int .u8 c], rfl, Nat.zero_le _, heap_alloc_new W _, Nat.le_refl _, by decide, rfl, ?_⟩⟩
    simp [bcells]
    omega
  exact owns_string (P := Try.prog) (own_frame hown s (fun _ _ f => f)) 67 9 Try.underlying67 Try.underlying5 Try.underlying9

set_option maxRecDepth 100000 in
set_option maxHeartbeats 1000000 in
theorem xfree_calls (k : Nat) (hkk : k ≤ 100) : ∀ (n : Nat) (w : World), n < 18446744073709551616 → n < 128 ^ (k + 1) →
    Calls Try.prog 30 #[.int .u64 n] w fun e w' => e = .returned (.string ⟨(freeF k n).toArray⟩) ∧ Same w w' := by
  induction k with
  | zero =>
    intro n w hn hk
    have h1 : n < 128 := by simpa using hk
    have hc := fun W => one_str W n (by omega)
    go_enter Try.func30, Try.ntmps30
    go_wp2_with fail
    go_ret
    exact ⟨rfl, (Fr.refl _ w).alloc _⟩
  | succ k ih =>
    intro n w hn hk
    by_cases h1 : n < 128
    · have hc := fun W => one_str W n (by omega)
      have e : freeF (k + 1) n = [UInt8.ofNat n] := by rw [freeF, if_pos h1]
      rw [e]
      clear ih
      go_enter Try.func30, Try.ntmps30
      go_wp2_with fail
      go_ret
      exact ⟨rfl, (Fr.refl _ w).alloc _⟩
    · obtain ⟨c, hcn⟩ : ∃ c, c = n % 128 + 128 := ⟨_, rfl⟩
      have e : freeF (k + 1) n = UInt8.ofNat c :: freeF k (n / 128) := by rw [freeF, if_neg h1, hcn]
      have hclt : c < 256 := by omega
      have hc := fun W => one_str W c hclt
      have hcD := fun W => one_strD W c (by omega)
      have hcA := fun W => one_strA W c (by omega)
      have hw1 : IntKind.u8.wrap (IntKind.u8.wrap ((n : Int).tmod 128) + 128) = (c : Int) := by
        rw [IntKind.wrap_u8, IntKind.wrap_u8, Int.tmod_eq_emod_of_nonneg (by omega)]; omega
      have hw2 : IntKind.u64.wrap ((n : Int) / 128) = (n : Int) / 128 := by rw [IntKind.wrap_u64]; omega
      have HX : Hid (∀ W, Calls Try.prog 30 #[.int .u64 ((n : Int) / 128)] W fun e w' => e = .returned (.string ⟨(freeF k (n / 128)).toArray⟩) ∧ Same W w') := fun W => by
        have := ih (by omega) (n / 128) W (by omega) (by rw [Nat.pow_succ] at hk; omega)
        rwa [show ((n / 128 : Nat) : Int) = (n : Int) / 128 from by omega] at this
      obtain ⟨T, hT⟩ : ∃ T : ByteArray, T = ⟨(freeF k (n / 128)).toArray⟩ := ⟨_, rfl⟩
      have hj : (⟨#[UInt8.ofNat c]⟩ : ByteArray) ++ T = ⟨(freeF (k + 1) n).toArray⟩ := by
        rw [hT, e]; apply ByteArray.ext; simp
      have hTs : T.size ≤ k + 1 := by rw [hT]; show ((freeF k (n / 128)).toArray).size ≤ _; have := freeF_length k (n / 128); simpa using this
      have hadd := fun W => run_string_add_sum (P := Try.prog) W (⟨#[UInt8.ofNat c]⟩ : ByteArray) T (by have : (⟨#[UInt8.ofNat c]⟩ : ByteArray).size = 1 := rfl; omega)
      rw [← hj]
      rw [← hT] at HX
      clear ih e hT hj hcn
      go_enter Try.func30, Try.ntmps30
      go_wp2_with fail
      go_region_with (first | (go_at_call 30; refine (HX.out _).mono ?_; rintro e W4 ⟨rfl, s4⟩; try have hc4 := one_strS hclt s4))
      all_goals go_wp2_with fail
      all_goals go_ret
      all_goals first
        | exact ⟨rfl, Fr.trans ((Fr.alloc (Fr.refl _ w) _).drew) s4 (fun _ _ f => f)⟩
        | exact ⟨rfl, (Fr.trans (Fr.drew (Fr.refl _ w)) s4 (fun _ _ f => f)).alloc _⟩

theorem xfreeB_calls (n : Nat) (w : World) (hn : n < 18446744073709551616) :
    Calls Try.prog 30 #[.int .u64 n] w fun e w' => e = .returned (.string ⟨(freeB n).toArray⟩) ∧ Same w w' :=
  xfree_calls 9 (by omega) n w hn (by have : (128 : Nat) ^ (9 + 1) = 1180591620717411303424 := by decide
                                      omega)

set_option maxRecDepth 100000 in
set_option maxHeartbeats 1000000 in
theorem xsigned_calls (n : Int) (h0 : -9223372036854775808 ≤ n) (h1 : n ≤ 9223372036854775807) (w : World) :
    Calls Try.prog 55 #[.int .i64 n] w fun e w' => e = .returned (.string ⟨(freeB (zig n)).toArray⟩) ∧ Same w w' := by
  have HX : Hid (∀ W, Calls Try.prog 30 #[.int .u64 (zig n : Int)] W fun e w' => e = .returned (.string ⟨(freeB (zig n)).toArray⟩) ∧ Same W w') := fun W => xfreeB_calls (zig n) W (zig_lt n h0 h1)
  generalize (⟨(freeB (zig n)).toArray⟩ : ByteArray) = T at *
  by_cases hn : n < 0
  · have hz : (zig n : Int) = -(n + 1) * 2 + 1 := by unfold zig; rw [if_pos hn]; omega
    rw [hz] at HX
    go_enter Try.func55, Try.ntmps55
    go_wp2_with fail
    refine (HX.out _).mono ?_
    rintro e w1 ⟨rfl, s1⟩
    go_wp2_with fail
    go_ret
    exact ⟨rfl, s1⟩
  · have hz : (zig n : Int) = n * 2 := by unfold zig; rw [if_neg hn]; omega
    rw [hz] at HX
    go_enter Try.func55, Try.ntmps55
    go_wp2_with fail
    refine (HX.out _).mono ?_
    rintro e w1 ⟨rfl, s1⟩
    go_wp2_with fail
    go_ret
    exact ⟨rfl, s1⟩

set_option maxRecDepth 100000 in
set_option maxHeartbeats 1000000 in
theorem xtext_calls (s : ByteArray) (hs : s.size ≤ 1000000000000) (w : World) :
    Calls Try.prog 56 #[.string s] w fun e w' => e = .returned (.string ⟨(textB s).toArray⟩) ∧ Same w w' := by
  have HX : Hid (∀ W, Calls Try.prog 30 #[.int .u64 (s.size : Int)] W fun e w' => e = .returned (.string ⟨(freeB s.size).toArray⟩) ∧ Same W w') := fun W => xfreeB_calls s.size W (by omega)
  obtain ⟨T, hT⟩ : ∃ T : ByteArray, T = ⟨(freeB s.size).toArray⟩ := ⟨_, rfl⟩
  have hTs : T.size ≤ 10 := by rw [hT]; show ((freeB s.size).toArray).size ≤ _; have := freeB_length s.size; simpa using this
  have hj : T ++ s = ⟨(textB s).toArray⟩ := by rw [hT]; unfold textB; apply ByteArray.ext; simp
  have hadd := fun W => run_string_add_sum (P := Try.prog) W T s (by omega)
  rw [← hj]
  rw [← hT] at HX
  clear hj hT
  go_enter Try.func56, Try.ntmps56
  go_wp2_with fail
  refine (HX.out _).mono ?_
  rintro e w1 ⟨rfl, s1⟩
  go_wp2_with fail
  go_ret
  exact ⟨rfl, s1⟩
end Go.Proofs.Ytcbbjicoedeioaa
