/-
  Walks: times, power, Join.
-/
import Derived.Test.YtnoicjpmfchhiaaDoorS2
import Derived.Deep.LoopGhost
namespace Go.Proofs.YtnoicjpmfchhiaaDoor
open Go.RowKit

def timesF : Nat → UInt32 → UInt32 → UInt32 → UInt32
  | 0, _, _, p => p
  | n + 1, a, b, p => if a = 0 then p else timesF n (a <<< 1) (crcS b) (if a &&& 2147483648 = 0 then p else p ^^^ b)
/-- The product of two registers. -/
def timesP (a b : UInt32) : UInt32 := timesF 32 a b 0
theorem timesF_zero (n : Nat) (b p : UInt32) : timesF n 0 b p = p := by cases n <;> simp [timesF]
def gone (n : Nat) (a : UInt32) : Prop := a.toNat * 2 ^ n % 4294967296 = 0
theorem gone_zero {a : UInt32} (h : gone 0 a) : a = 0 := by
  have := a.toNat_lt
  unfold gone at h
  apply UInt32.toNat_inj.1
  rw [Nat.pow_zero, Nat.mul_one, Nat.mod_eq_of_lt (by omega)] at h
  rw [h]; rfl
theorem gone_32 (a : UInt32) : gone 32 a := by unfold gone; exact Nat.mul_mod_left _ _
theorem gone_succ {n : Nat} {a : UInt32} (h : gone (n + 1) a) : gone n (a <<< 1) := by
  unfold gone at *
  have e : (a <<< 1).toNat = a.toNat * 2 % 4294967296 := by
    rw [UInt32.toNat_shiftLeft]
    show a.toNat <<< 1 % _ = _
    rw [Nat.shiftLeft_eq]
  rw [e, Nat.mod_mul_mod, Nat.mul_assoc, ← Nat.pow_succ']
  exact h
theorem ne32 {a : UInt32} (h : ¬ a = 0) : ¬ (a.toNat : Int) = 0 := by
  intro e
  apply h
  apply UInt32.toNat_inj.1
  have : a.toNat = 0 := by omega
  rw [this]; rfl

set_option maxRecDepth 100000 in
set_option maxHeartbeats 400000 in
theorem times_calls (w : World) (a0 b0 : UInt32) : Calls Tryd.prog 16 #[.int .u32 a0.toNat, .int .u32 b0.toNat] w fun e w' => e = .returned (.int .u32 (timesP a0 b0).toNat) ∧ w' = w := by
  go_enter Tryd.func16, Tryd.ntmps16
  go_wp2
  go_loopg [0, 1, 5] 32 (fun g va vb vp wr => ∃ a b p : UInt32, va = .int .u32 a.toNat ∧ vb = .int .u32 b.toNat ∧ vp = .int .u32 p.toNat ∧ timesF g a b p = timesP a0 b0 ∧ gone g a ∧ wr = w)
  case atStart => exact ⟨a0, b0, 0, rfl, rfl, rfl, rfl, gone_32 a0, rfl⟩
  case round =>
    obtain ⟨a, b, p, rfl, rfl, rfl, hT, hG, rfl⟩ := hrel
    by_cases h0 : a = 0
    · subst h0
      rw [timesF_zero] at hT
      subst hT
      have z : ((0 : UInt32).toNat : Int) = 0 := rfl
      go_wp2
      go_ret
      exact ⟨rfl, rfl⟩
    · obtain ⟨g, rfl⟩ : ∃ g, gk = g + 1 := by
        cases gk with
        | zero => exact absurd (gone_zero hG) h0
        | succ g => exact ⟨g, rfl⟩
      rw [timesF, if_neg h0] at hT
      have n0 := ne32 h0
      obtain ⟨a', ha'⟩ : ∃ a', a' = a <<< 1 := ⟨_, rfl⟩
      have el : IntKind.u32.wrap ((a.toNat : Int) * (2 : Int)) = (a'.toNat : Int) := by rw [ha']; exact l32 a 1 (by decide)
      have hG' := gone_succ hG
      rw [← ha'] at hG' hT
      obtain ⟨q, hq⟩ : ∃ q, q = p ^^^ b := ⟨_, rfl⟩
      have ex : bits .xor .u32 (p.toNat : Int) (b.toNat : Int) = (q.toNat : Int) := by rw [hq]; exact x32 p b
      rw [← hq] at hT
      have ea : bits .and .u32 (a.toNat : Int) (2147483648 : Int) = ((a &&& 2147483648).toNat : Int) := a32 a 2147483648
      have HT : Hid (timesF g a' (crcS b) (if a &&& 2147483648 = 0 then p else q) = timesP a0 b0) := hT
      have HS : Hid (∀ W, Calls Tryd.prog 26 #[.int .u32 b.toNat] W fun e w' => e = .returned (.int .u32 (crcS b).toNat) ∧ w' = W) := fun W => step_calls W b
      have HG : Hid (gone g a') := hG'
      generalize crcS b = b' at *
      clear hT hG hG' ha' hq h0
      by_cases h1 : a &&& 2147483648 = 0
      · rw [if_pos h1] at HT
        rw [h1] at ea
        have ea' : bits .and .u32 (a.toNat : Int) (2147483648 : Int) = (0 : Int) := ea
        clear ea h1
        go_wp2_with fail
        refine (HS.out _).mono ?_
        rintro e W1 ⟨rfl, rfl⟩
        go_wp2_with fail
        go_roundg g
        case measure => omega
        case rel => exact ⟨a', b', p, rfl, rfl, rfl, HT.out, HG.out, rfl⟩
      · rw [if_neg h1] at HT
        have n1 := ne32 h1
        generalize (a &&& 2147483648).toNat = z at *
        clear h1
        go_wp2_with fail
        refine (HS.out _).mono ?_
        rintro e W1 ⟨rfl, rfl⟩
        go_wp2_with fail
        go_roundg g
        case measure => omega
        case rel => exact ⟨a', b', q, rfl, rfl, rfl, HT.out, HG.out, rfl⟩

def powerF : Nat → UInt32 → Nat → UInt32 → UInt32
  | 0, _, _, p => p
  | f + 1, a, n, p => if n = 0 then p else powerF f (timesP a a) (n / 2) (if n % 2 = 1 then timesP p a else p)
/-- A register to the n. -/
def powerP (a : UInt32) (n : Nat) : UInt32 := powerF 63 a n 2147483648
theorem powerF_zero (f : Nat) (a p : UInt32) : powerF f a 0 p = p := by cases f <;> simp [powerF]

set_option maxRecDepth 100000 in
set_option maxHeartbeats 400000 in
theorem power_calls (w : World) (a0 : UInt32) (n0 : Nat) (hn : n0 ≤ 9223372036854775807) : Calls Tryd.prog 17 #[.int .u32 a0.toNat, .int .i64 n0] w fun e w' => e = .returned (.int .u32 (powerP a0 n0).toNat) ∧ w' = w := by
  go_enter Tryd.func17, Tryd.ntmps17
  go_wp2
  go_loopg [0, 1, 5] 63 (fun g va vn vp wr => ∃ (a : UInt32) (n : Nat) (p : UInt32), va = .int .u32 a.toNat ∧ vn = .int .i64 n ∧ vp = .int .u32 p.toNat ∧ powerF g a n p = powerP a0 n0 ∧ n < 2 ^ g ∧ n ≤ 9223372036854775807 ∧ wr = w)
  case atStart => exact ⟨a0, n0, 2147483648, rfl, rfl, rfl, rfl, by omega, hn, rfl⟩
  case round =>
    obtain ⟨a, n, p, rfl, rfl, rfl, hT, hG, hm, rfl⟩ := hrel
    by_cases h0 : n = 0
    · subst h0
      rw [powerF_zero] at hT
      subst hT
      go_wp2
      go_ret
      exact ⟨rfl, rfl⟩
    · obtain ⟨g, rfl⟩ : ∃ g, gk = g + 1 := by
        cases gk with
        | zero => omega
        | succ g => exact ⟨g, rfl⟩
      rw [powerF, if_neg h0] at hT
      have hG' : n / 2 < 2 ^ g := by rw [Nat.pow_succ] at hG; omega
      have HT : Hid (powerF g (timesP a a) (n / 2) (if n % 2 = 1 then timesP p a else p) = powerP a0 n0) := hT
      have HG : Hid (n / 2 < 2 ^ g) := hG'
      have HA : Hid (∀ W, Calls Tryd.prog 16 #[.int .u32 a.toNat, .int .u32 a.toNat] W fun e w' => e = .returned (.int .u32 (timesP a a).toNat) ∧ w' = W) := fun W => times_calls W a a
      have HP : Hid (∀ W, Calls Tryd.prog 16 #[.int .u32 p.toNat, .int .u32 a.toNat] W fun e w' => e = .returned (.int .u32 (timesP p a).toNat) ∧ w' = W) := fun W => times_calls W p a
      generalize timesP a a = a' at *
      generalize timesP p a = p' at *
      clear hT hG hG'
      by_cases h1 : n % 2 = 1
      · rw [if_pos h1] at HT
        go_wp2_with fail
        refine (HP.out _).mono ?_
        rintro e W1 ⟨rfl, rfl⟩
        go_wp2_with fail
        refine (HA.out _).mono ?_
        rintro e W1 ⟨rfl, rfl⟩
        go_wp2_with fail
        go_roundg g
        case measure => omega
        case rel => exact ⟨a', n / 2, p', rfl, by go_num, rfl, HT.out, HG.out, by omega, rfl⟩
      · rw [if_neg h1] at HT
        go_wp2_with fail
        refine (HA.out _).mono ?_
        rintro e W1 ⟨rfl, rfl⟩
        go_wp2_with fail
        go_roundg g
        case measure => omega
        case rel => exact ⟨a', n / 2, p, rfl, by go_num, rfl, HT.out, HG.out, by omega, rfl⟩
def joinP (a b : UInt32) (n : Nat) : UInt32 := timesP a (powerP 8388608 n) ^^^ b
theorem join_calls (w : World) (a b : UInt32) (n : Nat) (hn : n ≤ 9223372036854775807) : Calls Tryd.prog 9 #[.int .u32 a.toNat, .int .u32 b.toNat, .int .i64 n] w fun e w' => e = .returned (.tuple #[.int .u32 (joinP a b n).toNat, .int .i64 0]) ∧ w' = w := by
  have HP : Hid (∀ W, Calls Tryd.prog 17 #[.int .u32 (8388608 : Int), .int .i64 n] W fun e w' => e = .returned (.int .u32 (powerP 8388608 n).toNat) ∧ w' = W) := fun W => power_calls W 8388608 n hn
  have HT : Hid (∀ W, Calls Tryd.prog 16 #[.int .u32 a.toNat, .int .u32 (powerP 8388608 n).toNat] W fun e w' => e = .returned (.int .u32 (timesP a (powerP 8388608 n)).toNat) ∧ w' = W) := fun W => times_calls W a _
  have ex := x32 (timesP a (powerP 8388608 n)) b
  unfold joinP
  generalize timesP a (powerP 8388608 n) = t at *
  generalize powerP 8388608 n = p at *
  generalize t ^^^ b = q at *
  go_enter Tryd.func9, Tryd.ntmps9
  go_wp2_with fail
  refine (HP.out _).mono ?_
  rintro e W1 ⟨rfl, rfl⟩
  go_wp2_with fail
  refine (HT.out _).mono ?_
  rintro e W1 ⟨rfl, rfl⟩
  go_wp2_with fail
  go_ret2
  exact ⟨rfl, rfl⟩
theorem join_neg (w : World) (a b : UInt32) (n : Int) (hn : n < 0) : Calls Tryd.prog 9 #[.int .u32 a.toNat, .int .u32 b.toNat, .int .i64 n] w fun e w' => e = .returned (.tuple #[.int .u32 0, .int .i64 2]) ∧ w' = w := by
  go_enter Tryd.func9, Tryd.ntmps9
  go_wp2_with fail
  go_ret2
  exact ⟨rfl, rfl⟩
theorem join_val : joinP 0xcbf53a1c 0x9dbabf87 4 = 0xcbf43926 := by decide +kernel
end Go.Proofs.YtnoicjpmfchhiaaDoor
