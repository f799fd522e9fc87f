/- The document's told. -/
import Derived.Test.YtajpgopgohadeaaDoorGY
namespace Go.Proofs.YtajpgopgohadeaaDoor
open Go.RowKit

set_option maxRecDepth 100000 in
set_option maxHeartbeats 1000000 in
theorem told_calls (s : ByteArray) (hs : s.size ≤ 8) (w : World) :
    Calls Tryd.prog 55 #[.string s] w fun e w' => e = .returned (.int .u64 (beN s.data.toList)) ∧ w = w' := by
  go_enter Tryd.func55, Tryd.ntmps55
  go_wp2_with fail
  go_loop [3, 4] (fun nv iv => ∃ k : Nat, k ≤ s.size ∧ iv = .int .i64 k ∧ nv = .int .u64 (beN (s.data.toList.take k))) (fun _ iv => s.size - (intOf iv).toNat)
  case atStart => exact ⟨0, Nat.zero_le _, rfl, rfl⟩
  case round =>
    obtain ⟨k, hk, rfl, rfl⟩ := hrel
    by_cases hlt : k < s.size
    · have hgi : (k : Int) < (s.size : Int) := by omega
      have hx1 := beN_lt (s.data.toList.take k)
      have hx2 : 256 ^ (s.data.toList.take k).length ≤ 256 ^ 7 := Nat.pow_le_pow_right (by decide) (by rw [List.length_take]; omega)
      have HS := beN_snoc (s.data.toList.take k) s[k]
      rw [← take_snoc s k hlt] at HS
      obtain ⟨x, hx⟩ : ∃ x, x = beN (s.data.toList.take k) := ⟨_, rfl⟩
      rw [← hx] at hx1 HS ⊢
      have hx3 : x * 256 < 18446744073709551616 := by omega
      have htk : s[k].toNat < 256 := s[k].toNat_lt
      have hor := or_byte x s[k].toNat hx3 htk
      have HS' : Hid (beN (s.data.toList.take (k + 1)) = x * 256 + s[k].toNat) := HS
      clear HS hx hx1 hx2
      go_wp2
      go_round
      case rel => exact ⟨k + 1, by omega, by go_num, by rw [HS'.out]; go_num⟩
      case measure => simp [intOf]; omega
    · have hgi : ¬ (k : Int) < (s.size : Int) := by omega
      have hte : s.data.toList.take k = s.data.toList := by rw [List.take_of_length_le]; rw [bytes_length]; omega
      rw [hte]
      go_wp2_with fail
      go_ret
      exact ⟨rfl, rfl⟩
end Go.Proofs.YtajpgopgohadeaaDoor
