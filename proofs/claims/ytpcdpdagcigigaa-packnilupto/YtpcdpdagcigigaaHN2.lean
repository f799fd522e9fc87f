/- Picked: X0. -/
import Derived.Test.YtpcdpdagcigigaaHN1
import Derived.Test.YtpcdpdagcigigaaWF
import Derived.Test.YtpcdpdagcigigaaR1
import Derived.Test.YtpcdpdagcigigaaU0
import Derived.WalkKit
import Derived.WalkSpells
import Derived.WalkLawsBesides
import Derived.Deep.AppendLies
import Derived.Lib.AppendStr
import Derived.Laws.IdiomStrings
import Derived.Lib.Strings
import Derived.Test.YtpcdpdagcigigaaProg
import Derived.Handy
import Derived.Deep.QuietTactic
import Derived.BigQuiet
import Derived.Laws.BitsAllLaws
import Derived.Deep.DeepMust
import Derived.Test.YtpcdpdagcigigaaRows
import Derived.ProofKit
import Derived.OpenShut
import Derived.SliceStrings
import Derived.JoinedCond
import Derived.Deep.RegionLaw
import Derived.Deep.DrawnRows
import Derived.Deep.MidRow
import Derived.Deep.RegionHeld3
import Derived.Deep.Slices
import Derived.Laws.DeepNot64
import Derived.RegionTactic
import Derived.Deep.RegionWith
import Derived.Lib.LazyBuf
import Derived.ChangeKeysEq
import Derived.Laws.Concat
namespace Go.Proofs.Ytpcdpdagcigigaa
open Go.RowKit



theorem one_str (W : World) (c : Nat) (hc : c < 256) : (convert 81 9 (.slice (some ⟨W.heap.size, 0, none⟩) 1 1)).run Try.prog (W.alloc (.cells #[.int .u8 c] 5)) = .ok (.string ⟨#[UInt8.ofNat c]⟩) (W.alloc (.cells #[.int .u8 c] 5)) := by
  have hown : Owns (W.alloc (.cells #[.int .u8 c] 5)) (.slice (some ⟨W.heap.size, 0, none⟩) 1 1) [UInt8.ofNat c] := by
    refine ⟨rfl, Or.inr ⟨W.heap.size, 1, #[.int .u8 c], rfl, Nat.zero_le _, heap_alloc_new W _, Nat.le_refl _, by decide, rfl, ?_⟩⟩
    simp [bcells]
    omega
  exact owns_string (P := Try.prog) hown 81 9 Try.underlying81 Try.underlying5 Try.underlying9

theorem one_strD (W : World) (c : Nat) (hc : c < 256) : (convert 81 9 (.slice (some ⟨W.heap.size, 0, none⟩) 1 1)).run Try.prog (W.alloc (.cells #[.int .u8 c] 5)).drew = .ok (.string ⟨#[UInt8.ofNat c]⟩) (W.alloc (.cells #[.int .u8 c] 5)).drew := by
  have hown : Owns (W.alloc (.cells #[.int .u8 c] 5)).drew (.slice (some ⟨W.heap.size, 0, none⟩) 1 1) [UInt8.ofNat c] := by
    refine ⟨rfl, Or.inr ⟨W.heap.size, 1, #[.int .u8 c], rfl, Nat.zero_le _, heap_alloc_new W _, Nat.le_refl _, by decide, rfl, ?_⟩⟩
    simp [bcells]
    omega
  exact owns_string (P := Try.prog) hown 81 9 Try.underlying81 Try.underlying5 Try.underlying9
theorem one_strA (W : World) (c : Nat) (hc : c < 256) : (convert 81 9 (.slice (some ⟨W.heap.size, 0, none⟩) 1 1)).run Try.prog (W.drew.alloc (.cells #[.int .u8 c] 5)) = .ok (.string ⟨#[UInt8.ofNat c]⟩) (W.drew.alloc (.cells #[.int .u8 c] 5)) := one_str W.drew c hc

theorem one_strS {W W4 : World} {c : Nat} (hc : c < 256) (s : Same (W.alloc (.cells #[.int .u8 c] 5)).drew W4) : (convert 81 9 (.slice (some ⟨W.heap.size, 0, none⟩) 1 1)).run Try.prog W4 = .ok (.string ⟨#[UInt8.ofNat c]⟩) W4 := by
  have hown : Owns (W.alloc (.cells #[.int .u8 c] 5)).drew (.slice (some ⟨W.heap.size, 0, none⟩) 1 1) [UInt8.ofNat c] := by
    refine ⟨rfl, Or.inr ⟨W.heap.size, 1, #[.int .u8 c], rfl, Nat.zero_le _, heap_alloc_new W _, Nat.le_refl _, by decide, rfl, ?_⟩⟩
    simp [bcells]
    omega
  exact owns_string (P := Try.prog) (own_frame hown s (fun _ _ f => f)) 81 9 Try.underlying81 Try.underlying5 Try.underlying9

set_option maxRecDepth 100000 in
set_option maxHeartbeats 1000000 in
theorem xfree_calls (k : Nat) (hkk : k ≤ 100) : ∀ (n : Nat) (w : World), n < 18446744073709551616 → n < 128 ^ (k + 1) →
    Calls Try.prog 25 #[.int .u64 n] w fun e w' => e = .returned (.string ⟨(freeF k n).toArray⟩) ∧ Same w w' := by
  induction k with
  | zero =>
    intro n w hn hk
    have h1 : n < 128 := by simpa using hk
    have hc := fun W => one_str W n (by omega)
    go_enter Try.func25, Try.ntmps25
    go_wp2_with fail
    go_ret
    exact ⟨rfl, (Fr.refl _ w).alloc _⟩
  | succ k ih =>
    intro n w hn hk
    by_cases h1 : n < 128
    · have hc := fun W => one_str W n (by omega)
      have e : freeF (k + 1) n = [UInt8.ofNat n] := by rw [freeF, if_pos h1]
      rw [e]
      clear ih
      go_enter Try.func25, Try.ntmps25
      go_wp2_with fail
      go_ret
      exact ⟨rfl, (Fr.refl _ w).alloc _⟩
    · obtain ⟨c, hcn⟩ : ∃ c, c = n % 128 + 128 := ⟨_, rfl⟩
      have e : freeF (k + 1) n = UInt8.ofNat c :: freeF k (n / 128) := by rw [freeF, if_neg h1, hcn]
      have hclt : c < 256 := by omega
      have hc := fun W => one_str W c hclt
      have hcD := fun W => one_strD W c (by omega)
      have hcA := fun W => one_strA W c (by omega)
      have hw1 : IntKind.u8.wrap (IntKind.u8.wrap ((n : Int).tmod 128) + 128) = (c : Int) := by
        rw [IntKind.wrap_u8, IntKind.wrap_u8, Int.tmod_eq_emod_of_nonneg (by omega)]; omega
      have hw2 : IntKind.u64.wrap ((n : Int) / 128) = (n : Int) / 128 := by rw [IntKind.wrap_u64]; omega
      have HX : Hid (∀ W, Calls Try.prog 25 #[.int .u64 ((n : Int) / 128)] W fun e w' => e = .returned (.string ⟨(freeF k (n / 128)).toArray⟩) ∧ Same W w') := fun W => by
        have := ih (by omega) (n / 128) W (by omega) (by rw [Nat.pow_succ] at hk; omega)
        rwa [show ((n / 128 : Nat) : Int) = (n : Int) / 128 from by omega] at this
      obtain ⟨T, hT⟩ : ∃ T : ByteArray, T = ⟨(freeF k (n / 128)).toArray⟩ := ⟨_, rfl⟩
      have hj : (⟨#[UInt8.ofNat c]⟩ : ByteArray) ++ T = ⟨(freeF (k + 1) n).toArray⟩ := by
        rw [hT, e]; apply ByteArray.ext; simp
      have hTs : T.size ≤ k + 1 := by rw [hT]; show ((freeF k (n / 128)).toArray).size ≤ _; have := freeF_length k (n / 128); simpa using this
      have hadd := fun W => run_string_add_sum (P := Try.prog) W (⟨#[UInt8.ofNat c]⟩ : ByteArray) T (by have : (⟨#[UInt8.ofNat c]⟩ : ByteArray).size = 1 := rfl; omega)
      rw [← hj]
      rw [← hT] at HX
      clear ih e hT hj hcn
      go_enter Try.func25, Try.ntmps25
      go_wp2_with fail
      go_region_with (first | (go_at_call 25; refine (HX.out _).mono ?_; rintro e W4 ⟨rfl, s4⟩; try have hc4 := one_strS hclt s4))
      all_goals go_wp2_with fail
      all_goals go_ret
      all_goals first
        | exact ⟨rfl, Fr.trans ((Fr.alloc (Fr.refl _ w) _).drew) s4 (fun _ _ f => f)⟩
        | exact ⟨rfl, (Fr.trans (Fr.drew (Fr.refl _ w)) s4 (fun _ _ f => f)).alloc _⟩

theorem xfreeB_calls (n : Nat) (w : World) (hn : n < 18446744073709551616) :
    Calls Try.prog 25 #[.int .u64 n] w fun e w' => e = .returned (.string ⟨(freeB n).toArray⟩) ∧ Same w w' :=
  xfree_calls 9 (by omega) n w hn (by have : (128 : Nat) ^ (9 + 1) = 1180591620717411303424 := by decide
                                      omega)

end Go.Proofs.Ytpcdpdagcigigaa
