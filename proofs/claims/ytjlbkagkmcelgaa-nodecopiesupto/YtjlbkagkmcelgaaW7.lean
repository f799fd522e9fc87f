/-
  Walks: how a free number is read.
-/
import Derived.Test.YtjlbkagkmcelgaaW6
import Derived.Laws.BitsAllLaws
namespace Go.Proofs.Ytjlbkagkmcelgaa
open Go.RowKit

theorem and127_u8 (c : Nat) (h : c < 256) : bits .and .u8 (c : Int) 127 = ((c % 128 : Nat) : Int) := by
  have := u8_and_nat c 127 h (by decide)
  rw [show ((127 : Nat) : Int) = 127 from rfl] at this
  rw [this, show (127 : Nat) = 2 ^ 7 - 1 from rfl, Nat.and_two_pow_sub_one_eq_mod]
theorem shl_free (m i : Nat) (hm : m * 128 ^ i < 18446744073709551616) : IntKind.u64.wrap ((m : Int) * 2 ^ (7 * i)) = ((m * 128 ^ i : Nat) : Int) := by
  rw [show (2 : Int) ^ (7 * i) = ((128 ^ i : Nat) : Int) from by rw [Int.pow_mul]; push_cast; rfl, ← Int.natCast_mul, IntKind.wrap_u64]
  rw [Int.emod_eq_of_lt (by omega) (by omega)]
theorem or_free (n y i : Nat) (hn : n < 128 ^ i) (hy : 128 ^ i ∣ y) (h : n + y < 18446744073709551616) : bits .or .u64 (n : Int) (y : Int) = ((n + y : Nat) : Int) := by
  rw [u64_or_nat n y (by omega) (by omega)]
  obtain ⟨q, rfl⟩ := hy
  rw [show 128 ^ i = 2 ^ (7 * i) from by rw [Nat.pow_mul]] at hn ⊢
  rw [Nat.or_comm, ← Nat.two_pow_add_eq_or_of_lt hn, Nat.add_comm]

set_option maxRecDepth 100000 in
set_option maxHeartbeats 1000000 in
theorem pfree_calls (s : ByteArray) (w : World) (hs : s.size ≤ 281474976710656) :
    Calls Try.prog 91 #[.string s] w fun e w' => e = .returned (.tuple #[.int .u64 (freeR 10 0 s.data.toList).1, .int .i64 (freeR 10 0 s.data.toList).2.1, .int .i64 (freeR 10 0 s.data.toList).2.2]) ∧ w' = w := by
  obtain ⟨R, hR⟩ : ∃ R, R = freeR 10 0 s.data.toList := ⟨_, rfl⟩
  rw [← hR]
  have HR : Hid (freeR 10 0 s.data.toList = R) := hR.symm
  clear hR
  go_enter Try.func91, Try.ntmps91
  go_wp2
  go_loop [2, 7] (fun nv iv => ∃ i n : Nat, i ≤ 10 ∧ i ≤ s.size ∧ n < 128 ^ i ∧ nv = .int .u64 n ∧ iv = .int .i64 i ∧ Hid (freeR (10 - i) n (s.data.toList.drop i) = R))
    (fun _ iv => 10 - (intOf iv).toNat)
  case atStart => exact ⟨0, 0, by omega, by omega, by decide, rfl, rfl, HR⟩
  case round =>
    obtain ⟨i, n, hi, his, hn, rfl, rfl, hf⟩ := hrel
    by_cases h10 : i = 10
    · have hx : R = (0, 0, 11) := by have := hf.out; rw [h10] at this; simpa [freeR] using this.symm
      subst hx; subst h10
      clear HR hf hn
      go_wp2
      go_ret3
      exact ⟨rfl, rfl⟩
    · by_cases hend : i = s.size
      · have hx : R = (0, 0, 10) := by
          have := hf.out
          rw [show 10 - i = (9 - i) + 1 from by omega, List.drop_of_length_le (by rw [bytes_length]; omega)] at this
          simpa [freeR] using this.symm
        subst hx
        clear HR hf hn
        go_wp2
        go_ret3
        exact ⟨rfl, rfl⟩
      · have hlt : i < s.size := by omega
        have hdrop : s.data.toList.drop i = s[i] :: s.data.toList.drop (i + 1) := by
          rw [List.drop_eq_getElem_cons (by rw [bytes_length]; exact hlt)]; rfl
        have hb := s[i].toNat_lt
        have hpw : 128 ^ (i + 1) = 128 ^ i * 128 := Nat.pow_succ ..
        have hp9 : 128 ^ i ≤ 128 ^ 9 := Nat.pow_le_pow_right (by decide) (by omega)
        have hstep : freeR (10 - i) n (s.data.toList.drop i) = (if (i = 9 ∧ 1 < s[i].toNat) then (0, 0, 11) else if 127 < s[i].toNat then freeR (10 - (i + 1)) (n + s[i].toNat % 128 * 128 ^ i) (s.data.toList.drop (i + 1)) else if s[i].toNat = 0 ∧ 0 < i then (0, 0, 11) else (n + s[i].toNat % 128 * 128 ^ i, i + 1, 0)) := by
          rw [hdrop, show 10 - i = (9 - i) + 1 from by omega, freeR]
          rw [show 9 - (9 - i) = i from by omega, show 10 - (i + 1) = 9 - i from by omega, show 10 - (9 - i) = i + 1 from by omega]
          simp only [show (9 - i = 0) = (i = 9) from by apply propext; omega, show (9 - i < 9) = (0 < i) from by apply propext; omega]
        have HF : Hid (_ = R) := hstep.symm.trans hf.out
        clear hstep hf hdrop HR
        have hmul : s[i].toNat % 128 * 128 ^ i ≤ 127 * 128 ^ i := Nat.mul_le_mul_right _ (by omega)
        by_cases h1 : i = 9 ∧ 1 < s[i].toNat
        · obtain ⟨h9, h1⟩ := h1
          have hx : R = (0, 0, 11) := by rw [← HF.out, if_pos ⟨h9, h1⟩]
          subst hx
          clear HF hn hpw hp9 hmul
          subst h9
          go_wp2
          go_ret3
          exact ⟨rfl, rfl⟩
        · have hy : n + s[i].toNat % 128 * 128 ^ i < 18446744073709551616 := by
            by_cases h9 : i = 9
            · subst h9
              have h2 : s[9].toNat % 128 * 128 ^ 9 ≤ 1 * 128 ^ 9 := Nat.mul_le_mul_right _ (by omega)
              omega
            · have : 128 ^ i ≤ 128 ^ 8 := Nat.pow_le_pow_right (by decide) (by omega)
              omega
          have hand := and127_u8 s[i].toNat hb
          obtain ⟨m, hm⟩ : ∃ m, m = s[i].toNat % 128 := ⟨_, rfl⟩
          rw [← hm] at hand hy hmul
          have hsh := shl_free m i (by omega)
          obtain ⟨y, hyy⟩ : ∃ y, y = m * 128 ^ i := ⟨_, rfl⟩
          rw [← hyy] at hsh hy hmul
          have hor := or_free n y i hn ⟨m, by rw [hyy, Nat.mul_comm]⟩ hy
          obtain ⟨z, hz⟩ : ∃ z, z = n + y := ⟨_, rfl⟩
          rw [← hz] at hor
          have hm128 : m < 128 := by omega
          have HZ : Hid (z = n + s[i].toNat % 128 * 128 ^ i) := by show _ = _; rw [hz, hyy, hm]
          have hz1 : z < 128 ^ (i + 1) := by omega
          rw [show n + s[i].toNat % 128 * 128 ^ i = z from HZ.out.symm] at HF
          clear hm hyy hz
          by_cases h2 : 127 < s[i].toNat
          · have h9 : i < 9 := by omega
            rw [if_neg h1, if_pos h2] at HF
            clear h1
            go_wp2
            go_round
            case rel => exact ⟨i + 1, z, by omega, by omega, hz1, rfl, by go_num, HF⟩
            case measure => simp [intOf]; omega
          · rw [if_neg h1, if_neg h2] at HF
            by_cases h3 : s[i].toNat = 0 ∧ 0 < i
            · have hx : R = (0, 0, 11) := by rw [← HF.out, if_pos h3]
              obtain ⟨h3, h4⟩ := h3
              subst hx
              clear HF h1
              go_wp2
              all_goals
                go_ret3
                exact ⟨rfl, rfl⟩
            · have hx : R = (z, i + 1, 0) := by rw [← HF.out, if_neg h3]
              subst hx
              clear HF
              by_cases h9 : i = 9
              · subst h9
                have hsh9 : IntKind.u64.wrap ((m : Int) * 9223372036854775808) = (y : Int) := hsh
                have h1' : s[9].toNat ≤ 1 := by omega
                have h0' : 0 < s[9].toNat := by omega
                clear h1 hsh h3
                go_wp2
                all_goals
                  go_ret3
                  exact ⟨rfl, rfl⟩
              · clear h1
                go_wp2
                all_goals
                  go_ret3
                  exact ⟨rfl, rfl⟩
end Go.Proofs.Ytjlbkagkmcelgaa
