/- The document's step of a bit, and its More. -/
import Derived.Test.YtjfkkjangebblaaDoorSGC
import Derived.Deep.LoopGhost
namespace Go.Proofs.YtjfkkjangebblaaDoor
open Go.RowKit

set_option maxRecDepth 100000 in
set_option maxHeartbeats 400000 in
theorem bit_calls (w : World) (r b : UInt32) : Calls Tryd.prog 85 #[.int .u32 r.toNat, .int .u32 b.toNat] w fun e w' => e = .returned (.int .u32 (bitS r b).toNat) ∧ w' = w := by
  have e1 : bits .and .u32 (r.toNat : Int) (1 : Int) = ((r &&& 1).toNat : Int) := a32 r 1
  obtain ⟨y, hy⟩ : ∃ y, y = r >>> 1 := ⟨_, rfl⟩
  obtain ⟨z, hz⟩ : ∃ z, z = y ^^^ 0xedb88320 := ⟨_, rfl⟩
  have e2 : (r.toNat : Int) / (2 : Int) = (y.toNat : Int) := by rw [hy]; exact r32 r 1 (by decide)
  have e3 : bits .xor .u32 (y.toNat : Int) (3988292384 : Int) = (z.toNat : Int) := by rw [hz]; exact x32 y 0xedb88320
  unfold bitS
  rw [← hy, ← hz]
  clear hy hz
  obtain ⟨l, hl⟩ : ∃ l, l = r &&& 1 := ⟨_, rfl⟩
  rw [← hl] at e1 ⊢
  clear hl
  by_cases h : l = b
  · rw [if_pos h]
    subst h
    go_enter Tryd.func85, Tryd.ntmps85
    go_wp2
    all_goals go_ret
    all_goals exact ⟨rfl, rfl⟩
  · rw [if_neg h]
    have h0 : ¬ (l.toNat : Int) = (b.toNat : Int) := by
      intro e
      apply h
      apply UInt32.toNat_inj.1
      omega
    go_enter Tryd.func85, Tryd.ntmps85
    go_wp2
    all_goals go_ret
    all_goals exact ⟨rfl, rfl⟩


set_option maxRecDepth 100000 in
set_option maxHeartbeats 2000000 in
theorem rmore_calls (w : World) (sum : UInt32) (s : ByteArray) (hs : s.size ≤ 281474976710656) :
    Calls Tryd.prog 71 #[.int .u32 sum.toNat, .string s] w fun e w' => e = .returned (.int .u32 (moreP sum s.data.toList).toNat) ∧ w' = w := by
  go_enter Tryd.func71, Tryd.ntmps71
  go_wp2_with fail
  go_loop [5, 6] (fun r i => ∃ k : Nat, k ≤ s.size ∧ i = .int .i64 k ∧ r = .int .u32 ((s.data.toList.take k).foldl byteS (~~~ sum)).toNat) (fun _ i => s.size - (intOf i).toNat)
  case atStart => exact ⟨0, Nat.zero_le _, rfl, by rw [n32]; rfl⟩
  case round =>
    obtain ⟨k, hk, rfl, rfl⟩ := hrel
    by_cases hlt : k < s.size
    · obtain ⟨r, hr⟩ : ∃ r, r = (s.data.toList.take k).foldl byteS (~~~ sum) := ⟨_, rfl⟩
      rw [← hr]
      have HR : Hid (r = (s.data.toList.take k).foldl byteS (~~~ sum)) := hr
      clear hr
      obtain ⟨c, hc⟩ : ∃ c, c = (s[k]).toUInt32 := ⟨_, rfl⟩
      have ec : ((s[k]).toNat : Int) % 4294967296 = (c.toNat : Int) := by
        have := (s[k]).toNat_lt
        rw [hc, UInt8.toNat_toUInt32, Int.emod_eq_of_lt (by omega) (by omega)]
      obtain ⟨c0, hc0⟩ : ∃ z, z = c >>> UInt32.ofNat 0 := ⟨_, rfl⟩
      obtain ⟨b0, hb0⟩ : ∃ z, z = c0 &&& 1 := ⟨_, rfl⟩
      have eb0 : bits .and .u32 (c.toNat : Int) (1 : Int) = (b0.toNat : Int) := by rw [hb0, hc0, show c >>> UInt32.ofNat 0 = c from by simp]; exact a32 c 1
      obtain ⟨c1, hc1⟩ : ∃ z, z = c >>> UInt32.ofNat 1 := ⟨_, rfl⟩
      obtain ⟨b1, hb1⟩ : ∃ z, z = c1 &&& 1 := ⟨_, rfl⟩
      have ed1 : (c.toNat : Int) / (2 : Int) = (c1.toNat : Int) := by rw [hc1]; exact r32 c 1 (by decide)
      have eb1 : bits .and .u32 (c1.toNat : Int) (1 : Int) = (b1.toNat : Int) := by rw [hb1]; exact a32 c1 1
      obtain ⟨c2, hc2⟩ : ∃ z, z = c >>> UInt32.ofNat 2 := ⟨_, rfl⟩
      obtain ⟨b2, hb2⟩ : ∃ z, z = c2 &&& 1 := ⟨_, rfl⟩
      have ed2 : (c.toNat : Int) / (4 : Int) = (c2.toNat : Int) := by rw [hc2]; exact r32 c 2 (by decide)
      have eb2 : bits .and .u32 (c2.toNat : Int) (1 : Int) = (b2.toNat : Int) := by rw [hb2]; exact a32 c2 1
      obtain ⟨c3, hc3⟩ : ∃ z, z = c >>> UInt32.ofNat 3 := ⟨_, rfl⟩
      obtain ⟨b3, hb3⟩ : ∃ z, z = c3 &&& 1 := ⟨_, rfl⟩
      have ed3 : (c.toNat : Int) / (8 : Int) = (c3.toNat : Int) := by rw [hc3]; exact r32 c 3 (by decide)
      have eb3 : bits .and .u32 (c3.toNat : Int) (1 : Int) = (b3.toNat : Int) := by rw [hb3]; exact a32 c3 1
      obtain ⟨c4, hc4⟩ : ∃ z, z = c >>> UInt32.ofNat 4 := ⟨_, rfl⟩
      obtain ⟨b4, hb4⟩ : ∃ z, z = c4 &&& 1 := ⟨_, rfl⟩
      have ed4 : (c.toNat : Int) / (16 : Int) = (c4.toNat : Int) := by rw [hc4]; exact r32 c 4 (by decide)
      have eb4 : bits .and .u32 (c4.toNat : Int) (1 : Int) = (b4.toNat : Int) := by rw [hb4]; exact a32 c4 1
      obtain ⟨c5, hc5⟩ : ∃ z, z = c >>> UInt32.ofNat 5 := ⟨_, rfl⟩
      obtain ⟨b5, hb5⟩ : ∃ z, z = c5 &&& 1 := ⟨_, rfl⟩
      have ed5 : (c.toNat : Int) / (32 : Int) = (c5.toNat : Int) := by rw [hc5]; exact r32 c 5 (by decide)
      have eb5 : bits .and .u32 (c5.toNat : Int) (1 : Int) = (b5.toNat : Int) := by rw [hb5]; exact a32 c5 1
      obtain ⟨c6, hc6⟩ : ∃ z, z = c >>> UInt32.ofNat 6 := ⟨_, rfl⟩
      obtain ⟨b6, hb6⟩ : ∃ z, z = c6 &&& 1 := ⟨_, rfl⟩
      have ed6 : (c.toNat : Int) / (64 : Int) = (c6.toNat : Int) := by rw [hc6]; exact r32 c 6 (by decide)
      have eb6 : bits .and .u32 (c6.toNat : Int) (1 : Int) = (b6.toNat : Int) := by rw [hb6]; exact a32 c6 1
      obtain ⟨c7, hc7⟩ : ∃ z, z = c >>> UInt32.ofNat 7 := ⟨_, rfl⟩
      obtain ⟨b7, hb7⟩ : ∃ z, z = c7 &&& 1 := ⟨_, rfl⟩
      have ed7 : (c.toNat : Int) / (128 : Int) = (c7.toNat : Int) := by rw [hc7]; exact r32 c 7 (by decide)
      have eb7 : bits .and .u32 (c7.toNat : Int) (1 : Int) = (b7.toNat : Int) := by rw [hb7]; exact a32 c7 1
      obtain ⟨x0, hx0⟩ : ∃ z, z = bitS r b0 := ⟨_, rfl⟩
      have H0 : Hid (∀ W, Calls Tryd.prog 85 #[.int .u32 r.toNat, .int .u32 b0.toNat] W fun e w' => e = .returned (.int .u32 x0.toNat) ∧ w' = W) := by rw [hx0]; exact fun W => bit_calls W r b0
      obtain ⟨x1, hx1⟩ : ∃ z, z = bitS x0 b1 := ⟨_, rfl⟩
      have H1 : Hid (∀ W, Calls Tryd.prog 85 #[.int .u32 x0.toNat, .int .u32 b1.toNat] W fun e w' => e = .returned (.int .u32 x1.toNat) ∧ w' = W) := by rw [hx1]; exact fun W => bit_calls W x0 b1
      obtain ⟨x2, hx2⟩ : ∃ z, z = bitS x1 b2 := ⟨_, rfl⟩
      have H2 : Hid (∀ W, Calls Tryd.prog 85 #[.int .u32 x1.toNat, .int .u32 b2.toNat] W fun e w' => e = .returned (.int .u32 x2.toNat) ∧ w' = W) := by rw [hx2]; exact fun W => bit_calls W x1 b2
      obtain ⟨x3, hx3⟩ : ∃ z, z = bitS x2 b3 := ⟨_, rfl⟩
      have H3 : Hid (∀ W, Calls Tryd.prog 85 #[.int .u32 x2.toNat, .int .u32 b3.toNat] W fun e w' => e = .returned (.int .u32 x3.toNat) ∧ w' = W) := by rw [hx3]; exact fun W => bit_calls W x2 b3
      obtain ⟨x4, hx4⟩ : ∃ z, z = bitS x3 b4 := ⟨_, rfl⟩
      have H4 : Hid (∀ W, Calls Tryd.prog 85 #[.int .u32 x3.toNat, .int .u32 b4.toNat] W fun e w' => e = .returned (.int .u32 x4.toNat) ∧ w' = W) := by rw [hx4]; exact fun W => bit_calls W x3 b4
      obtain ⟨x5, hx5⟩ : ∃ z, z = bitS x4 b5 := ⟨_, rfl⟩
      have H5 : Hid (∀ W, Calls Tryd.prog 85 #[.int .u32 x4.toNat, .int .u32 b5.toNat] W fun e w' => e = .returned (.int .u32 x5.toNat) ∧ w' = W) := by rw [hx5]; exact fun W => bit_calls W x4 b5
      obtain ⟨x6, hx6⟩ : ∃ z, z = bitS x5 b6 := ⟨_, rfl⟩
      have H6 : Hid (∀ W, Calls Tryd.prog 85 #[.int .u32 x5.toNat, .int .u32 b6.toNat] W fun e w' => e = .returned (.int .u32 x6.toNat) ∧ w' = W) := by rw [hx6]; exact fun W => bit_calls W x5 b6
      obtain ⟨x7, hx7⟩ : ∃ z, z = bitS x6 b7 := ⟨_, rfl⟩
      have H7 : Hid (∀ W, Calls Tryd.prog 85 #[.int .u32 x6.toNat, .int .u32 b7.toNat] W fun e w' => e = .returned (.int .u32 x7.toNat) ∧ w' = W) := by rw [hx7]; exact fun W => bit_calls W x6 b7
      have HX : Hid (x7 = byteS r s[k]) := by
        show _ = _
        rw [← bits8, ← hc]
        simp only [bitsN, hx7, hb7, hc7, hx6, hb6, hc6, hx5, hb5, hc5, hx4, hb4, hc4, hx3, hb3, hc3, hx2, hb2, hc2, hx1, hb1, hc1, hx0, hb0, hc0]
      clear hc hc0 hb0 hx0 hc1 hb1 hx1 hc2 hb2 hx2 hc3 hb3 hx3 hc4 hb4 hx4 hc5 hb5 hx5 hc6 hb6 hx6 hc7 hb7 hx7
      go_wp2_with fail
      refine wp_loop_rounds 9 ?_
      rw [rounds_succ]
      go_wp2_with fail
      refine (H0.out _).mono ?_
      rintro e W0 ⟨rfl, hW0⟩
      rw [hW0]
      clear hW0
      go_wp2_with fail
      rw [rounds_succ]
      go_wp2_with fail
      refine (H1.out _).mono ?_
      rintro e W1 ⟨rfl, hW1⟩
      rw [hW1]
      clear hW1
      go_wp2_with fail
      rw [rounds_succ]
      go_wp2_with fail
      refine (H2.out _).mono ?_
      rintro e W2 ⟨rfl, hW2⟩
      rw [hW2]
      clear hW2
      go_wp2_with fail
      rw [rounds_succ]
      go_wp2_with fail
      refine (H3.out _).mono ?_
      rintro e W3 ⟨rfl, hW3⟩
      rw [hW3]
      clear hW3
      go_wp2_with fail
      rw [rounds_succ]
      go_wp2_with fail
      refine (H4.out _).mono ?_
      rintro e W4 ⟨rfl, hW4⟩
      rw [hW4]
      clear hW4
      go_wp2_with fail
      rw [rounds_succ]
      go_wp2_with fail
      refine (H5.out _).mono ?_
      rintro e W5 ⟨rfl, hW5⟩
      rw [hW5]
      clear hW5
      go_wp2_with fail
      rw [rounds_succ]
      go_wp2_with fail
      refine (H6.out _).mono ?_
      rintro e W6 ⟨rfl, hW6⟩
      rw [hW6]
      clear hW6
      go_wp2_with fail
      rw [rounds_succ]
      go_wp2_with fail
      refine (H7.out _).mono ?_
      rintro e W7 ⟨rfl, hW7⟩
      rw [hW7]
      clear hW7
      go_wp2_with fail
      rw [rounds_succ]
      go_wp2_with fail
      go_round
      case rel =>
        refine ⟨k + 1, by omega, by go_num, ?_⟩
        rw [HX.out, HR.out, List.take_succ_eq_append_getElem (by simpa using hlt), List.foldl_append]
        rfl
      case measure => simp [intOf]; omega
    · obtain rfl : k = s.size := by omega
      go_wp2_with fail
      go_ret
      refine ⟨?_, rfl⟩
      rw [n32, show s.size = s.data.toList.length from by simp, List.take_length]
      rfl
end Go.Proofs.YtjfkkjangebblaaDoor
