/- The document's Number: a number in decimal digits. -/
import Derived.Test.YtbdlebjhmhmnnaaDoorWF
import Derived.WalkKit
import Derived.WalkSpells
import Derived.WalkLawsBesides
import Derived.Deep.AppendLies
import Derived.Lib.AppendStr
import Derived.Laws.IdiomStrings
import Derived.Lib.Strings
import Derived.Handy
import Derived.Deep.QuietTactic
import Derived.BigQuiet
import Derived.Laws.BitsAllLaws
import Derived.Deep.DeepMust
import Derived.ProofKit
import Derived.OpenShut
import Derived.SliceStrings
import Derived.JoinedCond
import Derived.Deep.RegionLaw
import Derived.Deep.DrawnRows
import Derived.Deep.MidRow
import Derived.Deep.RegionHeld3
import Derived.Deep.Slices
import Derived.Laws.DeepNot64
import Derived.RegionTactic
import Derived.Deep.RegionWith
import Derived.Lib.LazyBuf
import Derived.ChangeKeysEq
import Derived.Laws.Concat
import Derived.Lib.ItoaNum
namespace Go.Proofs.YtbdlebjhmhmnnaaDoor
open Go.RowKit

theorem one_str (W : World) (c : Nat) (hc : c < 256) : (convert 56 9 (.slice (some ⟨W.heap.size, 0, none⟩) 1 1)).run Tryd.prog (W.alloc (.cells #[.int .u8 c] 5)) = .ok (.string ⟨#[UInt8.ofNat c]⟩) (W.alloc (.cells #[.int .u8 c] 5)) := by
  have hown : Owns (W.alloc (.cells #[.int .u8 c] 5)) (.slice (some ⟨W.heap.size, 0, none⟩) 1 1) [UInt8.ofNat c] := by
    refine ⟨rfl, Or.inr ⟨W.heap.size, 1, #[.int .u8 c], rfl, Nat.zero_le _, heap_alloc_new W _, Nat.le_refl _, by decide, rfl, ?_⟩⟩
    simp [bcells]
    omega
  exact owns_string (P := Tryd.prog) hown 56 9 Tryd.underlying56 Tryd.underlying5 Tryd.underlying9

theorem one_strD (W : World) (c : Nat) (hc : c < 256) : (convert 56 9 (.slice (some ⟨W.heap.size, 0, none⟩) 1 1)).run Tryd.prog (W.alloc (.cells #[.int .u8 c] 5)).drew = .ok (.string ⟨#[UInt8.ofNat c]⟩) (W.alloc (.cells #[.int .u8 c] 5)).drew := by
  have hown : Owns (W.alloc (.cells #[.int .u8 c] 5)).drew (.slice (some ⟨W.heap.size, 0, none⟩) 1 1) [UInt8.ofNat c] := by
    refine ⟨rfl, Or.inr ⟨W.heap.size, 1, #[.int .u8 c], rfl, Nat.zero_le _, heap_alloc_new W _, Nat.le_refl _, by decide, rfl, ?_⟩⟩
    simp [bcells]
    omega
  exact owns_string (P := Tryd.prog) hown 56 9 Tryd.underlying56 Tryd.underlying5 Tryd.underlying9
theorem one_strA (W : World) (c : Nat) (hc : c < 256) : (convert 56 9 (.slice (some ⟨W.heap.size, 0, none⟩) 1 1)).run Tryd.prog (W.drew.alloc (.cells #[.int .u8 c] 5)) = .ok (.string ⟨#[UInt8.ofNat c]⟩) (W.drew.alloc (.cells #[.int .u8 c] 5)) := one_str W.drew c hc

theorem one_strS {W W4 : World} {c : Nat} (hc : c < 256) (s : Same (W.alloc (.cells #[.int .u8 c] 5)).drew W4) : (convert 56 9 (.slice (some ⟨W.heap.size, 0, none⟩) 1 1)).run Tryd.prog W4 = .ok (.string ⟨#[UInt8.ofNat c]⟩) W4 := by
  have hown : Owns (W.alloc (.cells #[.int .u8 c] 5)).drew (.slice (some ⟨W.heap.size, 0, none⟩) 1 1) [UInt8.ofNat c] := by
    refine ⟨rfl, Or.inr ⟨W.heap.size, 1, #[.int .u8 c], rfl, Nat.zero_le _, heap_alloc_new W _, Nat.le_refl _, by decide, rfl, ?_⟩⟩
    simp [bcells]
    omega
  exact owns_string (P := Tryd.prog) (own_frame hown s (fun _ _ f => f)) 56 9 Tryd.underlying56 Tryd.underlying5 Tryd.underlying9

theorem dec_small {n : Nat} (h : n < 10) : Lib.decDigits n = [UInt8.ofNat (48 + n)] := Lib.decDigits_one h
theorem dec_big {n : Nat} (h : ¬ n < 10) : Lib.decDigits n = Lib.decDigits (n / 10) ++ [UInt8.ofNat (48 + n % 10)] := by rw [Lib.decDigits, dif_neg h]
theorem dec_len (k : Nat) : ∀ n, n < 10 ^ (k + 1) → (Lib.decDigits n).length ≤ k + 1 := by
  induction k with
  | zero => intro n h; rw [dec_small (by simpa using h)]; simp
  | succ k ih =>
    intro n h
    by_cases h1 : n < 10
    · rw [dec_small h1]; simp
    · rw [dec_big h1, List.length_append]
      have := ih (n / 10) (by rw [Nat.pow_succ] at h; omega)
      simp; omega
set_option maxRecDepth 100000 in
set_option maxHeartbeats 1000000 in
theorem rdigits_calls (k : Nat) (hkk : k ≤ 100) : ∀ (n : Nat) (w : World), n < 18446744073709551616 → n < 10 ^ (k + 1) →
    Calls Tryd.prog 24 #[.int .u64 n] w fun e w' => e = .returned (.string ⟨(Lib.decDigits n).toArray⟩) ∧ Same w w' := by
  induction k with
  | zero =>
    intro n w hn hk
    have h1 : n < 10 := by simpa using hk
    have hc := fun W => one_str W (48 + n) (by omega)
    have hw1 : IntKind.u64.wrap (48 + (n : Int)) = ((48 + n : Nat) : Int) := by rw [IntKind.wrap_u64]; omega
    have hw2 : IntKind.u8.wrap ((48 + n : Nat) : Int) = ((48 + n : Nat) : Int) := by rw [IntKind.wrap_u8]; omega
    rw [dec_small h1]
    generalize 48 + n = c at *
    go_enter Tryd.func24, Tryd.ntmps24
    go_wp2_with fail
    go_ret
    exact ⟨rfl, (Fr.refl _ w).alloc _⟩
  | succ k ih =>
    intro n w hn hk
    by_cases h1 : n < 10
    · have hc := fun W => one_str W (48 + n) (by omega)
      have hw1 : IntKind.u64.wrap (48 + (n : Int)) = ((48 + n : Nat) : Int) := by rw [IntKind.wrap_u64]; omega
      have hw2 : IntKind.u8.wrap ((48 + n : Nat) : Int) = ((48 + n : Nat) : Int) := by rw [IntKind.wrap_u8]; omega
      rw [dec_small h1]
      generalize 48 + n = c at *
      clear ih
      go_enter Tryd.func24, Tryd.ntmps24
      go_wp2_with fail
      go_ret
      exact ⟨rfl, (Fr.refl _ w).alloc _⟩
    · obtain ⟨c, hcn⟩ : ∃ c, c = 48 + n % 10 := ⟨_, rfl⟩
      have e : Lib.decDigits n = Lib.decDigits (n / 10) ++ [UInt8.ofNat c] := by rw [dec_big h1, hcn]
      have hclt : c < 256 := by omega
      have hc := fun W => one_str W c hclt
      have hcD := fun W => one_strD W c (by omega)
      have hcA := fun W => one_strA W c (by omega)
      have hw1 : IntKind.u8.wrap (IntKind.u64.wrap (48 + (n : Int).tmod 10)) = (c : Int) := by
        rw [IntKind.wrap_u8, IntKind.wrap_u64, Int.tmod_eq_emod_of_nonneg (by omega)]; omega
      have hw2 : IntKind.u64.wrap ((n : Int) / 10) = (n : Int) / 10 := by rw [IntKind.wrap_u64]; omega
      have HX : Hid (∀ W, Calls Tryd.prog 24 #[.int .u64 ((n : Int) / 10)] W fun e w' => e = .returned (.string ⟨(Lib.decDigits (n / 10)).toArray⟩) ∧ Same W w') := fun W => by
        have := ih (by omega) (n / 10) W (by omega) (by rw [Nat.pow_succ] at hk; omega)
        rwa [show ((n / 10 : Nat) : Int) = (n : Int) / 10 from by omega] at this
      obtain ⟨T, hT⟩ : ∃ T : ByteArray, T = ⟨(Lib.decDigits (n / 10)).toArray⟩ := ⟨_, rfl⟩
      have hj : T ++ (⟨#[UInt8.ofNat c]⟩ : ByteArray) = ⟨(Lib.decDigits n).toArray⟩ := by
        rw [hT, e]; apply ByteArray.ext; simp
      have hTs : T.size ≤ k + 1 := by
        rw [hT]
        show ((Lib.decDigits (n / 10)).toArray).size ≤ _
        have := dec_len k (n / 10) (by rw [Nat.pow_succ] at hk; omega)
        simpa using this
      have hadd := fun W => run_string_add_sum (P := Tryd.prog) W T (⟨#[UInt8.ofNat c]⟩ : ByteArray) (by have : (⟨#[UInt8.ofNat c]⟩ : ByteArray).size = 1 := rfl; omega)
      rw [← hj]
      rw [← hT] at HX
      clear ih e hT hj hcn
      go_enter Tryd.func24, Tryd.ntmps24
      go_wp2_with fail
      go_region_with (first | (go_at_call 24; refine (HX.out _).mono ?_; rintro e W4 ⟨rfl, s4⟩; try have hc4 := one_strS hclt s4))
      all_goals go_wp2_with fail
      all_goals go_ret
      all_goals first
        | exact ⟨rfl, Fr.trans ((Fr.alloc (Fr.refl _ w) _).drew) s4 (fun _ _ f => f)⟩
        | exact ⟨rfl, (Fr.trans (Fr.drew (Fr.refl _ w)) s4 (fun _ _ f => f)).alloc _⟩
theorem rdigits64 (n : Nat) (w : World) (hn : n < 18446744073709551616) :
    Calls Tryd.prog 24 #[.int .u64 n] w fun e w' => e = .returned (.string ⟨(Lib.decDigits n).toArray⟩) ∧ Same w w' :=
  rdigits_calls 19 (by omega) n w hn (by have : (10 : Nat) ^ (19 + 1) = 100000000000000000000 := by decide
                                         omega)
set_option maxRecDepth 100000 in
set_option maxHeartbeats 1000000 in
theorem rnumber_calls (n : Int) (w : World) (h0 : -9223372036854775808 ≤ n) (h1 : n ≤ 9223372036854775807) :
    Calls Tryd.prog 7 #[.int .i64 n] w fun e w' => e = .returned (.string ⟨(Lib.itoa n).toArray⟩) ∧ Same w w' := by
  by_cases hn : n < 0
  · obtain ⟨a, ha⟩ : ∃ a : Nat, a = n.natAbs := ⟨_, rfl⟩
    have e : Lib.itoa n = 45 :: Lib.decDigits a := by unfold Lib.itoa; rw [if_pos hn, ha]
    have hal : (Lib.decDigits a).length ≤ 20 := dec_len 19 a (by have : (10 : Nat) ^ (19 + 1) = 100000000000000000000 := by decide
                                                                 omega)
    have HD : Hid (∀ W, Calls Tryd.prog 24 #[.int .u64 (a : Int)] W fun e w' => e = .returned (.string ⟨(Lib.decDigits a).toArray⟩) ∧ Same W w') := fun W => rdigits64 a W (by omega)
    obtain ⟨T, hT⟩ : ∃ T : ByteArray, T = ⟨(Lib.decDigits a).toArray⟩ := ⟨_, rfl⟩
    have hTs : T.size ≤ 20 := by rw [hT]; show ((Lib.decDigits a).toArray).size ≤ _; simpa using hal
    have hj : (⟨#[45]⟩ : ByteArray) ++ T = ⟨(Lib.itoa n).toArray⟩ := by
      rw [hT, e]; apply ByteArray.ext; simp
    have hadd := fun W => run_string_add_sum (P := Tryd.prog) W (⟨#[45]⟩ : ByteArray) T (by have : (⟨#[45]⟩ : ByteArray).size = 1 := rfl; omega)
    have w1 : IntKind.i64.wrap (n + 1) = n + 1 := by rw [IntKind.wrap_i64]; omega
    have w2 : IntKind.i64.wrap (-(n + 1)) = -(n + 1) := by rw [IntKind.wrap_i64]; omega
    have w3 : IntKind.u64.wrap (-(n + 1)) = -(n + 1) := by rw [IntKind.wrap_u64]; omega
    have w4 : IntKind.u64.wrap (-(n + 1) + 1) = (a : Int) := by rw [IntKind.wrap_u64]; omega
    rw [← hj]
    rw [← hT] at HD
    clear e hal hT hj ha
    go_enter Tryd.func7, Tryd.ntmps7
    go_wp2_with fail
    refine (HD.out _).mono ?_
    rintro e W1 ⟨rfl, s1⟩
    go_wp2_with fail
    go_ret
    exact ⟨rfl, s1⟩
  · obtain ⟨m, rfl⟩ : ∃ m : Nat, n = (m : Int) := ⟨n.toNat, by omega⟩
    have e : Lib.itoa (m : Int) = Lib.decDigits m := by unfold Lib.itoa; rw [if_neg hn, Int.toNat_natCast]
    have hw : IntKind.u64.wrap (m : Int) = (m : Int) := by rw [IntKind.wrap_u64]; omega
    have HD : Hid (∀ W, Calls Tryd.prog 24 #[.int .u64 (m : Int)] W fun e w' => e = .returned (.string ⟨(Lib.decDigits m).toArray⟩) ∧ Same W w') := fun W => rdigits64 m W (by omega)
    rw [e]
    clear e
    go_enter Tryd.func7, Tryd.ntmps7
    go_wp2_with fail
    refine (HD.out _).mono ?_
    rintro e W1 ⟨rfl, s1⟩
    go_wp2_with fail
    go_ret
    exact ⟨rfl, s1⟩
end Go.Proofs.YtbdlebjhmhmnnaaDoor
