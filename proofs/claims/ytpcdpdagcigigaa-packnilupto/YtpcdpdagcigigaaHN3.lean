/- Calls on a Reader that is none. -/
import Derived.Test.YtpcdpdagcigigaaHN1
import Derived.Test.YtpcdpdagcigigaaWO
import Derived.Test.YtpcdpdagcigigaaWB
namespace Go.Proofs.Ytpcdpdagcigigaa
open Go.RowKit

set_option maxRecDepth 100000 in
theorem rfree_nil (w : World) (n : Int) :
    Calls Try.prog 12 #[.pointer none, .int .u64 n] w fun e w' => e = .returned (.int .u64 0) ∧ Same w w' := by
  go_enter Try.func12, Try.ntmps12
  go_wp2_with fail
  refine (reads_nil _).mono ?_
  rintro e w' ⟨rfl, rfl⟩
  go_wp2_with fail
  go_ret
  exact ⟨rfl, Fr.refl _ _⟩
set_option maxRecDepth 100000 in
theorem rraw_nil (w : World) (n : Int) :
    Calls Try.prog 14 #[.pointer none, .int .i64 n] w fun e w' => e = .returned (.string ⟨#[]⟩) ∧ Same w w' := by
  go_enter Try.func14, Try.ntmps14
  go_wp2_with fail
  refine (reads_nil _).mono ?_
  rintro e w' ⟨rfl, rfl⟩
  go_wp2_with fail
  go_ret
  exact ⟨rfl, Fr.refl _ _⟩
set_option maxRecDepth 100000 in
theorem rsigned_nil (w : World) :
    Calls Try.prog 13 #[.pointer none] w fun e w' => e = .returned (.int .i64 0) ∧ Same w w' := by
  go_enter Try.func13, Try.ntmps13
  go_wp2_with fail
  refine (rfree_nil _ _).mono ?_
  rintro e w1 ⟨rfl, s1⟩
  go_wp2_with fail
  go_ret
  exact ⟨rfl, s1⟩
set_option maxRecDepth 100000 in
theorem rtext_nil (w : World) :
    Calls Try.prog 15 #[.pointer none, .int .i64 9] w fun e w' => e = .returned (.string ⟨#[]⟩) ∧ Same w w' := by
  go_enter Try.func15, Try.ntmps15
  go_wp2_with fail
  refine (at_nil _).mono ?_
  rintro e w0 ⟨rfl, rfl⟩
  go_wp2_with fail
  refine (counted_calls _ _).mono ?_
  rintro e w0 ⟨rfl, rfl⟩
  go_wp2_with fail
  refine (rfree_nil _ _).mono ?_
  rintro e w1 ⟨rfl, s1⟩
  go_wp2_with fail
  refine (left_nil _).mono ?_
  rintro e w0 ⟨rfl, rfl⟩
  go_wp2_with fail
  refine (rraw_nil _ _).mono ?_
  rintro e w2 ⟨rfl, s2⟩
  go_wp2_with fail
  go_ret
  exact ⟨rfl, Same.trans s1 s2⟩
theorem end_nil (w : World) :
    Calls Try.prog 20 #[.pointer none] w fun e w' => e = .returned (.iface 35 (.int .i64 1)) ∧ Same w w' := by
  go_enter Try.func20, Try.ntmps20
  go_wp2_with (go_at_call 62; refine (rthere_nil _).mono ?_; rintro e w' ⟨rfl, rfl⟩)
  go_ret
  exact ⟨rfl, Fr.refl _ _⟩
set_option maxRecDepth 100000 in
theorem list_nil (w : World) (f : Value) :
    Calls Try.prog 7 #[.pointer none, .int .i64 1099511627776, f] w fun e w' => e = .returned (.slice none 0 0) ∧ Same w w' := by
  go_enter Try.func7, Try.ntmps7
  go_wp2_with fail
  refine (at_nil _).mono ?_
  rintro e w0 ⟨rfl, rfl⟩
  go_wp2_with fail
  refine (counted_calls _ _).mono ?_
  rintro e w0 ⟨rfl, rfl⟩
  go_wp2_with fail
  refine (rfree_nil _ _).mono ?_
  rintro e w1 ⟨rfl, s1⟩
  go_wp2_with fail
  refine (left_nil _).mono ?_
  rintro e w0 ⟨rfl, rfl⟩
  go_wp2_with fail
  refine (reads_nil _).mono ?_
  rintro e w0 ⟨rfl, rfl⟩
  go_wp2_with fail
  go_ret
  exact ⟨rfl, s1⟩
attribute [local go_sem ↓] Go.wp_at_zero Go.wp_at_succ
set_option maxRecDepth 100000 in
set_option maxHeartbeats 1000000 in
theorem take_nil_u8 (w : World) :
    Calls Try.prog 51 #[.pointer none] w fun e w' => e = .returned (.int .u8 0) ∧ Same w w' := by
  obtain ⟨t, ht⟩ : ∃ t : ByteArray, t = ⟨#[]⟩ := ⟨_, rfl⟩
  have hsz : t.size ≤ 1 := by rw [ht]; decide
  have HR : Hid (Calls Try.prog 14 #[.pointer none, .int .i64 1] w fun e w' => e = .returned (.string t) ∧ Same w w') := by rw [ht]; exact rraw_nil w _
  have HT : Hid (t = ⟨#[]⟩) := ht
  clear ht
  go_enter Try.func51, Try.ntmps51
  go_wp2_with (go_at_call 68; refine (size_u8 _).mono ?_; rintro e w' ⟨rfl, rfl⟩)
  refine HR.out.mono ?_
  rintro e w1 ⟨rfl, st1⟩
  obtain ⟨cs, cap, fr, hcv, hcell⟩ := str_bytes (P := Try.prog) w1 9 81 5 t Try.underlying9 Try.underlying81 Try.underlying5
  have HX : Hid (∀ k (h : k < t.size), (w1.alloc (.cells cs 5 fr)).cell? ⟨w1.heap.size, k, none⟩ = some (.int .u8 t[k].toNat)) := hcell
  clear hcell
  go_wp2_with fail
  go_loop [3, 11] (fun xv iv => ∃ k : Nat, k ≤ t.size ∧ iv = .int .i64 k ∧ xv = .int .u64 (beN (t.data.toList.take k))) (fun _ iv => t.size - (intOf iv).toNat)
  case atStart => exact ⟨0, by omega, rfl, rfl⟩
  case round =>
    obtain ⟨k, hk, rfl, rfl⟩ := hrel
    by_cases hlt : k < t.size
    · have hcx := HX.out k hlt
      have hx1 := beN_lt (t.data.toList.take k)
      have hx2 : 256 ^ (t.data.toList.take k).length ≤ 256 ^ 7 := Nat.pow_le_pow_right (by decide) (by rw [List.length_take]; omega)
      have HS := beN_snoc (t.data.toList.take k) t[k]
      rw [← take_snoc t k hlt] at HS
      obtain ⟨x, hx⟩ : ∃ x, x = beN (t.data.toList.take k) := ⟨_, rfl⟩
      rw [← hx] at hx1 HS ⊢
      have hx3 : x * 256 < 18446744073709551616 := by omega
      have htk : t[k].toNat < 256 := t[k].toNat_lt
      have hor := or_byte x t[k].toNat hx3 htk
      have HS' : Hid (beN (t.data.toList.take (k + 1)) = x * 256 + t[k].toNat) := HS
      clear HS hx hx1 hx2
      go_wp2
      go_round
      case rel => exact ⟨k + 1, by omega, by go_num, by rw [HS'.out]; go_num⟩
      case measure => simp [intOf]; omega
    · have hke : k = t.size := by omega
      have hx1 := beN_lt (t.data.toList.take k)
      have hx2 : 256 ^ (t.data.toList.take k).length ≤ 256 ^ 1 := Nat.pow_le_pow_right (by decide) (by rw [List.length_take]; omega)
      have hte : t.data.toList.take k = t.data.toList := by rw [List.take_of_length_le]; rw [bytes_length]; omega
      rw [hte] at hx1 hx2 ⊢
      obtain ⟨x, hx⟩ : ∃ x, x = beN t.data.toList := ⟨_, rfl⟩
      rw [← hx] at hx1 ⊢
      have hx3 : x < 256 ^ 1 := by omega
      have HE : Hid (x = beN t.data.toList) := hx
      clear hx hx1 hx2 hte
      go_wp2
      go_ret
      refine ⟨?_, Same.trans st1 ((Fr.refl _ w1).drew.alloc _)⟩
      refine ret_int ?_
      have e := HE.out
      rw [HT.out] at e
      obtain rfl : x = 0 := e
      first
        | rfl
        | (unfold wrap32; decide)
        | (unfold wrap64; decide)
set_option maxRecDepth 100000 in
set_option maxHeartbeats 1000000 in
theorem take_nil_u16 (w : World) :
    Calls Try.prog 52 #[.pointer none] w fun e w' => e = .returned (.int .u16 0) ∧ Same w w' := by
  obtain ⟨t, ht⟩ : ∃ t : ByteArray, t = ⟨#[]⟩ := ⟨_, rfl⟩
  have hsz : t.size ≤ 2 := by rw [ht]; decide
  have HR : Hid (Calls Try.prog 14 #[.pointer none, .int .i64 2] w fun e w' => e = .returned (.string t) ∧ Same w w') := by rw [ht]; exact rraw_nil w _
  have HT : Hid (t = ⟨#[]⟩) := ht
  clear ht
  go_enter Try.func52, Try.ntmps52
  go_wp2_with (go_at_call 69; refine (size_u16 _).mono ?_; rintro e w' ⟨rfl, rfl⟩)
  refine HR.out.mono ?_
  rintro e w1 ⟨rfl, st1⟩
  obtain ⟨cs, cap, fr, hcv, hcell⟩ := str_bytes (P := Try.prog) w1 9 81 5 t Try.underlying9 Try.underlying81 Try.underlying5
  have HX : Hid (∀ k (h : k < t.size), (w1.alloc (.cells cs 5 fr)).cell? ⟨w1.heap.size, k, none⟩ = some (.int .u8 t[k].toNat)) := hcell
  clear hcell
  go_wp2_with fail
  go_loop [3, 11] (fun xv iv => ∃ k : Nat, k ≤ t.size ∧ iv = .int .i64 k ∧ xv = .int .u64 (beN (t.data.toList.take k))) (fun _ iv => t.size - (intOf iv).toNat)
  case atStart => exact ⟨0, by omega, rfl, rfl⟩
  case round =>
    obtain ⟨k, hk, rfl, rfl⟩ := hrel
    by_cases hlt : k < t.size
    · have hcx := HX.out k hlt
      have hx1 := beN_lt (t.data.toList.take k)
      have hx2 : 256 ^ (t.data.toList.take k).length ≤ 256 ^ 7 := Nat.pow_le_pow_right (by decide) (by rw [List.length_take]; omega)
      have HS := beN_snoc (t.data.toList.take k) t[k]
      rw [← take_snoc t k hlt] at HS
      obtain ⟨x, hx⟩ : ∃ x, x = beN (t.data.toList.take k) := ⟨_, rfl⟩
      rw [← hx] at hx1 HS ⊢
      have hx3 : x * 256 < 18446744073709551616 := by omega
      have htk : t[k].toNat < 256 := t[k].toNat_lt
      have hor := or_byte x t[k].toNat hx3 htk
      have HS' : Hid (beN (t.data.toList.take (k + 1)) = x * 256 + t[k].toNat) := HS
      clear HS hx hx1 hx2
      go_wp2
      go_round
      case rel => exact ⟨k + 1, by omega, by go_num, by rw [HS'.out]; go_num⟩
      case measure => simp [intOf]; omega
    · have hke : k = t.size := by omega
      have hx1 := beN_lt (t.data.toList.take k)
      have hx2 : 256 ^ (t.data.toList.take k).length ≤ 256 ^ 2 := Nat.pow_le_pow_right (by decide) (by rw [List.length_take]; omega)
      have hte : t.data.toList.take k = t.data.toList := by rw [List.take_of_length_le]; rw [bytes_length]; omega
      rw [hte] at hx1 hx2 ⊢
      obtain ⟨x, hx⟩ : ∃ x, x = beN t.data.toList := ⟨_, rfl⟩
      rw [← hx] at hx1 ⊢
      have hx3 : x < 256 ^ 2 := by omega
      have HE : Hid (x = beN t.data.toList) := hx
      clear hx hx1 hx2 hte
      go_wp2
      go_ret
      refine ⟨?_, Same.trans st1 ((Fr.refl _ w1).drew.alloc _)⟩
      refine ret_int ?_
      have e := HE.out
      rw [HT.out] at e
      obtain rfl : x = 0 := e
      first
        | rfl
        | (unfold wrap32; decide)
        | (unfold wrap64; decide)
set_option maxRecDepth 100000 in
set_option maxHeartbeats 1000000 in
theorem take_nil_u32 (w : World) :
    Calls Try.prog 53 #[.pointer none] w fun e w' => e = .returned (.int .u32 0) ∧ Same w w' := by
  obtain ⟨t, ht⟩ : ∃ t : ByteArray, t = ⟨#[]⟩ := ⟨_, rfl⟩
  have hsz : t.size ≤ 4 := by rw [ht]; decide
  have HR : Hid (Calls Try.prog 14 #[.pointer none, .int .i64 4] w fun e w' => e = .returned (.string t) ∧ Same w w') := by rw [ht]; exact rraw_nil w _
  have HT : Hid (t = ⟨#[]⟩) := ht
  clear ht
  go_enter Try.func53, Try.ntmps53
  go_wp2_with (go_at_call 70; refine (size_u32 _).mono ?_; rintro e w' ⟨rfl, rfl⟩)
  refine HR.out.mono ?_
  rintro e w1 ⟨rfl, st1⟩
  obtain ⟨cs, cap, fr, hcv, hcell⟩ := str_bytes (P := Try.prog) w1 9 81 5 t Try.underlying9 Try.underlying81 Try.underlying5
  have HX : Hid (∀ k (h : k < t.size), (w1.alloc (.cells cs 5 fr)).cell? ⟨w1.heap.size, k, none⟩ = some (.int .u8 t[k].toNat)) := hcell
  clear hcell
  go_wp2_with fail
  go_loop [3, 11] (fun xv iv => ∃ k : Nat, k ≤ t.size ∧ iv = .int .i64 k ∧ xv = .int .u64 (beN (t.data.toList.take k))) (fun _ iv => t.size - (intOf iv).toNat)
  case atStart => exact ⟨0, by omega, rfl, rfl⟩
  case round =>
    obtain ⟨k, hk, rfl, rfl⟩ := hrel
    by_cases hlt : k < t.size
    · have hcx := HX.out k hlt
      have hx1 := beN_lt (t.data.toList.take k)
      have hx2 : 256 ^ (t.data.toList.take k).length ≤ 256 ^ 7 := Nat.pow_le_pow_right (by decide) (by rw [List.length_take]; omega)
      have HS := beN_snoc (t.data.toList.take k) t[k]
      rw [← take_snoc t k hlt] at HS
      obtain ⟨x, hx⟩ : ∃ x, x = beN (t.data.toList.take k) := ⟨_, rfl⟩
      rw [← hx] at hx1 HS ⊢
      have hx3 : x * 256 < 18446744073709551616 := by omega
      have htk : t[k].toNat < 256 := t[k].toNat_lt
      have hor := or_byte x t[k].toNat hx3 htk
      have HS' : Hid (beN (t.data.toList.take (k + 1)) = x * 256 + t[k].toNat) := HS
      clear HS hx hx1 hx2
      go_wp2
      go_round
      case rel => exact ⟨k + 1, by omega, by go_num, by rw [HS'.out]; go_num⟩
      case measure => simp [intOf]; omega
    · have hke : k = t.size := by omega
      have hx1 := beN_lt (t.data.toList.take k)
      have hx2 : 256 ^ (t.data.toList.take k).length ≤ 256 ^ 4 := Nat.pow_le_pow_right (by decide) (by rw [List.length_take]; omega)
      have hte : t.data.toList.take k = t.data.toList := by rw [List.take_of_length_le]; rw [bytes_length]; omega
      rw [hte] at hx1 hx2 ⊢
      obtain ⟨x, hx⟩ : ∃ x, x = beN t.data.toList := ⟨_, rfl⟩
      rw [← hx] at hx1 ⊢
      have hx3 : x < 256 ^ 4 := by omega
      have HE : Hid (x = beN t.data.toList) := hx
      clear hx hx1 hx2 hte
      go_wp2
      go_ret
      refine ⟨?_, Same.trans st1 ((Fr.refl _ w1).drew.alloc _)⟩
      refine ret_int ?_
      have e := HE.out
      rw [HT.out] at e
      obtain rfl : x = 0 := e
      first
        | rfl
        | (unfold wrap32; decide)
        | (unfold wrap64; decide)
set_option maxRecDepth 100000 in
set_option maxHeartbeats 1000000 in
theorem take_nil_u64 (w : World) :
    Calls Try.prog 54 #[.pointer none] w fun e w' => e = .returned (.int .u64 0) ∧ Same w w' := by
  obtain ⟨t, ht⟩ : ∃ t : ByteArray, t = ⟨#[]⟩ := ⟨_, rfl⟩
  have hsz : t.size ≤ 8 := by rw [ht]; decide
  have HR : Hid (Calls Try.prog 14 #[.pointer none, .int .i64 8] w fun e w' => e = .returned (.string t) ∧ Same w w') := by rw [ht]; exact rraw_nil w _
  have HT : Hid (t = ⟨#[]⟩) := ht
  clear ht
  go_enter Try.func54, Try.ntmps54
  go_wp2_with (go_at_call 71; refine (size_u64 _).mono ?_; rintro e w' ⟨rfl, rfl⟩)
  refine HR.out.mono ?_
  rintro e w1 ⟨rfl, st1⟩
  obtain ⟨cs, cap, fr, hcv, hcell⟩ := str_bytes (P := Try.prog) w1 9 81 5 t Try.underlying9 Try.underlying81 Try.underlying5
  have HX : Hid (∀ k (h : k < t.size), (w1.alloc (.cells cs 5 fr)).cell? ⟨w1.heap.size, k, none⟩ = some (.int .u8 t[k].toNat)) := hcell
  clear hcell
  go_wp2_with fail
  go_loop [3, 11] (fun xv iv => ∃ k : Nat, k ≤ t.size ∧ iv = .int .i64 k ∧ xv = .int .u64 (beN (t.data.toList.take k))) (fun _ iv => t.size - (intOf iv).toNat)
  case atStart => exact ⟨0, by omega, rfl, rfl⟩
  case round =>
    obtain ⟨k, hk, rfl, rfl⟩ := hrel
    by_cases hlt : k < t.size
    · have hcx := HX.out k hlt
      have hx1 := beN_lt (t.data.toList.take k)
      have hx2 : 256 ^ (t.data.toList.take k).length ≤ 256 ^ 7 := Nat.pow_le_pow_right (by decide) (by rw [List.length_take]; omega)
      have HS := beN_snoc (t.data.toList.take k) t[k]
      rw [← take_snoc t k hlt] at HS
      obtain ⟨x, hx⟩ : ∃ x, x = beN (t.data.toList.take k) := ⟨_, rfl⟩
      rw [← hx] at hx1 HS ⊢
      have hx3 : x * 256 < 18446744073709551616 := by omega
      have htk : t[k].toNat < 256 := t[k].toNat_lt
      have hor := or_byte x t[k].toNat hx3 htk
      have HS' : Hid (beN (t.data.toList.take (k + 1)) = x * 256 + t[k].toNat) := HS
      clear HS hx hx1 hx2
      go_wp2
      go_round
      case rel => exact ⟨k + 1, by omega, by go_num, by rw [HS'.out]; go_num⟩
      case measure => simp [intOf]; omega
    · have hke : k = t.size := by omega
      have hx1 := beN_lt (t.data.toList.take k)
      have hx2 : 256 ^ (t.data.toList.take k).length ≤ 256 ^ 8 := Nat.pow_le_pow_right (by decide) (by rw [List.length_take]; omega)
      have hte : t.data.toList.take k = t.data.toList := by rw [List.take_of_length_le]; rw [bytes_length]; omega
      rw [hte] at hx1 hx2 ⊢
      obtain ⟨x, hx⟩ : ∃ x, x = beN t.data.toList := ⟨_, rfl⟩
      rw [← hx] at hx1 ⊢
      have hx3 : x < 256 ^ 8 := by omega
      have HE : Hid (x = beN t.data.toList) := hx
      clear hx hx1 hx2 hte
      go_wp2
      go_ret
      refine ⟨?_, Same.trans st1 ((Fr.refl _ w1).drew.alloc _)⟩
      refine ret_int ?_
      have e := HE.out
      rw [HT.out] at e
      obtain rfl : x = 0 := e
      first
        | rfl
        | (unfold wrap32; decide)
        | (unfold wrap64; decide)
set_option maxRecDepth 100000 in
set_option maxHeartbeats 1000000 in
theorem take_nil_i8 (w : World) :
    Calls Try.prog 55 #[.pointer none] w fun e w' => e = .returned (.int .i8 0) ∧ Same w w' := by
  obtain ⟨t, ht⟩ : ∃ t : ByteArray, t = ⟨#[]⟩ := ⟨_, rfl⟩
  have hsz : t.size ≤ 1 := by rw [ht]; decide
  have HR : Hid (Calls Try.prog 14 #[.pointer none, .int .i64 1] w fun e w' => e = .returned (.string t) ∧ Same w w') := by rw [ht]; exact rraw_nil w _
  have HT : Hid (t = ⟨#[]⟩) := ht
  clear ht
  go_enter Try.func55, Try.ntmps55
  go_wp2_with (go_at_call 72; refine (size_i8 _).mono ?_; rintro e w' ⟨rfl, rfl⟩)
  refine HR.out.mono ?_
  rintro e w1 ⟨rfl, st1⟩
  obtain ⟨cs, cap, fr, hcv, hcell⟩ := str_bytes (P := Try.prog) w1 9 81 5 t Try.underlying9 Try.underlying81 Try.underlying5
  have HX : Hid (∀ k (h : k < t.size), (w1.alloc (.cells cs 5 fr)).cell? ⟨w1.heap.size, k, none⟩ = some (.int .u8 t[k].toNat)) := hcell
  clear hcell
  go_wp2_with fail
  go_loop [3, 11] (fun xv iv => ∃ k : Nat, k ≤ t.size ∧ iv = .int .i64 k ∧ xv = .int .u64 (beN (t.data.toList.take k))) (fun _ iv => t.size - (intOf iv).toNat)
  case atStart => exact ⟨0, by omega, rfl, rfl⟩
  case round =>
    obtain ⟨k, hk, rfl, rfl⟩ := hrel
    by_cases hlt : k < t.size
    · have hcx := HX.out k hlt
      have hx1 := beN_lt (t.data.toList.take k)
      have hx2 : 256 ^ (t.data.toList.take k).length ≤ 256 ^ 7 := Nat.pow_le_pow_right (by decide) (by rw [List.length_take]; omega)
      have HS := beN_snoc (t.data.toList.take k) t[k]
      rw [← take_snoc t k hlt] at HS
      obtain ⟨x, hx⟩ : ∃ x, x = beN (t.data.toList.take k) := ⟨_, rfl⟩
      rw [← hx] at hx1 HS ⊢
      have hx3 : x * 256 < 18446744073709551616 := by omega
      have htk : t[k].toNat < 256 := t[k].toNat_lt
      have hor := or_byte x t[k].toNat hx3 htk
      have HS' : Hid (beN (t.data.toList.take (k + 1)) = x * 256 + t[k].toNat) := HS
      clear HS hx hx1 hx2
      go_wp2
      go_round
      case rel => exact ⟨k + 1, by omega, by go_num, by rw [HS'.out]; go_num⟩
      case measure => simp [intOf]; omega
    · have hke : k = t.size := by omega
      have hx1 := beN_lt (t.data.toList.take k)
      have hx2 : 256 ^ (t.data.toList.take k).length ≤ 256 ^ 1 := Nat.pow_le_pow_right (by decide) (by rw [List.length_take]; omega)
      have hte : t.data.toList.take k = t.data.toList := by rw [List.take_of_length_le]; rw [bytes_length]; omega
      rw [hte] at hx1 hx2 ⊢
      obtain ⟨x, hx⟩ : ∃ x, x = beN t.data.toList := ⟨_, rfl⟩
      rw [← hx] at hx1 ⊢
      have hx3 : x < 256 ^ 1 := by omega
      have HE : Hid (x = beN t.data.toList) := hx
      clear hx hx1 hx2 hte
      go_wp2
      go_ret
      refine ⟨?_, Same.trans st1 ((Fr.refl _ w1).drew.alloc _)⟩
      refine ret_int ?_
      have e := HE.out
      rw [HT.out] at e
      obtain rfl : x = 0 := e
      first
        | rfl
        | (unfold wrap32; decide)
        | (unfold wrap64; decide)
set_option maxRecDepth 100000 in
set_option maxHeartbeats 1000000 in
theorem take_nil_i16 (w : World) :
    Calls Try.prog 56 #[.pointer none] w fun e w' => e = .returned (.int .i16 0) ∧ Same w w' := by
  obtain ⟨t, ht⟩ : ∃ t : ByteArray, t = ⟨#[]⟩ := ⟨_, rfl⟩
  have hsz : t.size ≤ 2 := by rw [ht]; decide
  have HR : Hid (Calls Try.prog 14 #[.pointer none, .int .i64 2] w fun e w' => e = .returned (.string t) ∧ Same w w') := by rw [ht]; exact rraw_nil w _
  have HT : Hid (t = ⟨#[]⟩) := ht
  clear ht
  go_enter Try.func56, Try.ntmps56
  go_wp2_with (go_at_call 73; refine (size_i16 _).mono ?_; rintro e w' ⟨rfl, rfl⟩)
  refine HR.out.mono ?_
  rintro e w1 ⟨rfl, st1⟩
  obtain ⟨cs, cap, fr, hcv, hcell⟩ := str_bytes (P := Try.prog) w1 9 81 5 t Try.underlying9 Try.underlying81 Try.underlying5
  have HX : Hid (∀ k (h : k < t.size), (w1.alloc (.cells cs 5 fr)).cell? ⟨w1.heap.size, k, none⟩ = some (.int .u8 t[k].toNat)) := hcell
  clear hcell
  go_wp2_with fail
  go_loop [3, 11] (fun xv iv => ∃ k : Nat, k ≤ t.size ∧ iv = .int .i64 k ∧ xv = .int .u64 (beN (t.data.toList.take k))) (fun _ iv => t.size - (intOf iv).toNat)
  case atStart => exact ⟨0, by omega, rfl, rfl⟩
  case round =>
    obtain ⟨k, hk, rfl, rfl⟩ := hrel
    by_cases hlt : k < t.size
    · have hcx := HX.out k hlt
      have hx1 := beN_lt (t.data.toList.take k)
      have hx2 : 256 ^ (t.data.toList.take k).length ≤ 256 ^ 7 := Nat.pow_le_pow_right (by decide) (by rw [List.length_take]; omega)
      have HS := beN_snoc (t.data.toList.take k) t[k]
      rw [← take_snoc t k hlt] at HS
      obtain ⟨x, hx⟩ : ∃ x, x = beN (t.data.toList.take k) := ⟨_, rfl⟩
      rw [← hx] at hx1 HS ⊢
      have hx3 : x * 256 < 18446744073709551616 := by omega
      have htk : t[k].toNat < 256 := t[k].toNat_lt
      have hor := or_byte x t[k].toNat hx3 htk
      have HS' : Hid (beN (t.data.toList.take (k + 1)) = x * 256 + t[k].toNat) := HS
      clear HS hx hx1 hx2
      go_wp2
      go_round
      case rel => exact ⟨k + 1, by omega, by go_num, by rw [HS'.out]; go_num⟩
      case measure => simp [intOf]; omega
    · have hke : k = t.size := by omega
      have hx1 := beN_lt (t.data.toList.take k)
      have hx2 : 256 ^ (t.data.toList.take k).length ≤ 256 ^ 2 := Nat.pow_le_pow_right (by decide) (by rw [List.length_take]; omega)
      have hte : t.data.toList.take k = t.data.toList := by rw [List.take_of_length_le]; rw [bytes_length]; omega
      rw [hte] at hx1 hx2 ⊢
      obtain ⟨x, hx⟩ : ∃ x, x = beN t.data.toList := ⟨_, rfl⟩
      rw [← hx] at hx1 ⊢
      have hx3 : x < 256 ^ 2 := by omega
      have HE : Hid (x = beN t.data.toList) := hx
      clear hx hx1 hx2 hte
      go_wp2
      go_ret
      refine ⟨?_, Same.trans st1 ((Fr.refl _ w1).drew.alloc _)⟩
      refine ret_int ?_
      have e := HE.out
      rw [HT.out] at e
      obtain rfl : x = 0 := e
      first
        | rfl
        | (unfold wrap32; decide)
        | (unfold wrap64; decide)
set_option maxRecDepth 100000 in
set_option maxHeartbeats 1000000 in
theorem take_nil_i32 (w : World) :
    Calls Try.prog 57 #[.pointer none] w fun e w' => e = .returned (.int .i32 0) ∧ Same w w' := by
  obtain ⟨t, ht⟩ : ∃ t : ByteArray, t = ⟨#[]⟩ := ⟨_, rfl⟩
  have hsz : t.size ≤ 4 := by rw [ht]; decide
  have HR : Hid (Calls Try.prog 14 #[.pointer none, .int .i64 4] w fun e w' => e = .returned (.string t) ∧ Same w w') := by rw [ht]; exact rraw_nil w _
  have HT : Hid (t = ⟨#[]⟩) := ht
  clear ht
  go_enter Try.func57, Try.ntmps57
  go_wp2_with (go_at_call 74; refine (size_i32 _).mono ?_; rintro e w' ⟨rfl, rfl⟩)
  refine HR.out.mono ?_
  rintro e w1 ⟨rfl, st1⟩
  obtain ⟨cs, cap, fr, hcv, hcell⟩ := str_bytes (P := Try.prog) w1 9 81 5 t Try.underlying9 Try.underlying81 Try.underlying5
  have HX : Hid (∀ k (h : k < t.size), (w1.alloc (.cells cs 5 fr)).cell? ⟨w1.heap.size, k, none⟩ = some (.int .u8 t[k].toNat)) := hcell
  clear hcell
  go_wp2_with fail
  go_loop [3, 11] (fun xv iv => ∃ k : Nat, k ≤ t.size ∧ iv = .int .i64 k ∧ xv = .int .u64 (beN (t.data.toList.take k))) (fun _ iv => t.size - (intOf iv).toNat)
  case atStart => exact ⟨0, by omega, rfl, rfl⟩
  case round =>
    obtain ⟨k, hk, rfl, rfl⟩ := hrel
    by_cases hlt : k < t.size
    · have hcx := HX.out k hlt
      have hx1 := beN_lt (t.data.toList.take k)
      have hx2 : 256 ^ (t.data.toList.take k).length ≤ 256 ^ 7 := Nat.pow_le_pow_right (by decide) (by rw [List.length_take]; omega)
      have HS := beN_snoc (t.data.toList.take k) t[k]
      rw [← take_snoc t k hlt] at HS
      obtain ⟨x, hx⟩ : ∃ x, x = beN (t.data.toList.take k) := ⟨_, rfl⟩
      rw [← hx] at hx1 HS ⊢
      have hx3 : x * 256 < 18446744073709551616 := by omega
      have htk : t[k].toNat < 256 := t[k].toNat_lt
      have hor := or_byte x t[k].toNat hx3 htk
      have HS' : Hid (beN (t.data.toList.take (k + 1)) = x * 256 + t[k].toNat) := HS
      clear HS hx hx1 hx2
      go_wp2
      go_round
      case rel => exact ⟨k + 1, by omega, by go_num, by rw [HS'.out]; go_num⟩
      case measure => simp [intOf]; omega
    · have hke : k = t.size := by omega
      have hx1 := beN_lt (t.data.toList.take k)
      have hx2 : 256 ^ (t.data.toList.take k).length ≤ 256 ^ 4 := Nat.pow_le_pow_right (by decide) (by rw [List.length_take]; omega)
      have hte : t.data.toList.take k = t.data.toList := by rw [List.take_of_length_le]; rw [bytes_length]; omega
      rw [hte] at hx1 hx2 ⊢
      obtain ⟨x, hx⟩ : ∃ x, x = beN t.data.toList := ⟨_, rfl⟩
      rw [← hx] at hx1 ⊢
      have hx3 : x < 256 ^ 4 := by omega
      have HE : Hid (x = beN t.data.toList) := hx
      clear hx hx1 hx2 hte
      go_wp2
      go_ret
      refine ⟨?_, Same.trans st1 ((Fr.refl _ w1).drew.alloc _)⟩
      refine ret_int ?_
      have e := HE.out
      rw [HT.out] at e
      obtain rfl : x = 0 := e
      first
        | rfl
        | (unfold wrap32; decide)
        | (unfold wrap64; decide)
set_option maxRecDepth 100000 in
set_option maxHeartbeats 1000000 in
theorem take_nil_i64 (w : World) :
    Calls Try.prog 58 #[.pointer none] w fun e w' => e = .returned (.int .i64 0) ∧ Same w w' := by
  obtain ⟨t, ht⟩ : ∃ t : ByteArray, t = ⟨#[]⟩ := ⟨_, rfl⟩
  have hsz : t.size ≤ 8 := by rw [ht]; decide
  have HR : Hid (Calls Try.prog 14 #[.pointer none, .int .i64 8] w fun e w' => e = .returned (.string t) ∧ Same w w') := by rw [ht]; exact rraw_nil w _
  have HT : Hid (t = ⟨#[]⟩) := ht
  clear ht
  go_enter Try.func58, Try.ntmps58
  go_wp2_with (go_at_call 75; refine (size_i64 _).mono ?_; rintro e w' ⟨rfl, rfl⟩)
  refine HR.out.mono ?_
  rintro e w1 ⟨rfl, st1⟩
  obtain ⟨cs, cap, fr, hcv, hcell⟩ := str_bytes (P := Try.prog) w1 9 81 5 t Try.underlying9 Try.underlying81 Try.underlying5
  have HX : Hid (∀ k (h : k < t.size), (w1.alloc (.cells cs 5 fr)).cell? ⟨w1.heap.size, k, none⟩ = some (.int .u8 t[k].toNat)) := hcell
  clear hcell
  go_wp2_with fail
  go_loop [3, 11] (fun xv iv => ∃ k : Nat, k ≤ t.size ∧ iv = .int .i64 k ∧ xv = .int .u64 (beN (t.data.toList.take k))) (fun _ iv => t.size - (intOf iv).toNat)
  case atStart => exact ⟨0, by omega, rfl, rfl⟩
  case round =>
    obtain ⟨k, hk, rfl, rfl⟩ := hrel
    by_cases hlt : k < t.size
    · have hcx := HX.out k hlt
      have hx1 := beN_lt (t.data.toList.take k)
      have hx2 : 256 ^ (t.data.toList.take k).length ≤ 256 ^ 7 := Nat.pow_le_pow_right (by decide) (by rw [List.length_take]; omega)
      have HS := beN_snoc (t.data.toList.take k) t[k]
      rw [← take_snoc t k hlt] at HS
      obtain ⟨x, hx⟩ : ∃ x, x = beN (t.data.toList.take k) := ⟨_, rfl⟩
      rw [← hx] at hx1 HS ⊢
      have hx3 : x * 256 < 18446744073709551616 := by omega
      have htk : t[k].toNat < 256 := t[k].toNat_lt
      have hor := or_byte x t[k].toNat hx3 htk
      have HS' : Hid (beN (t.data.toList.take (k + 1)) = x * 256 + t[k].toNat) := HS
      clear HS hx hx1 hx2
      go_wp2
      go_round
      case rel => exact ⟨k + 1, by omega, by go_num, by rw [HS'.out]; go_num⟩
      case measure => simp [intOf]; omega
    · have hke : k = t.size := by omega
      have hx1 := beN_lt (t.data.toList.take k)
      have hx2 : 256 ^ (t.data.toList.take k).length ≤ 256 ^ 8 := Nat.pow_le_pow_right (by decide) (by rw [List.length_take]; omega)
      have hte : t.data.toList.take k = t.data.toList := by rw [List.take_of_length_le]; rw [bytes_length]; omega
      rw [hte] at hx1 hx2 ⊢
      obtain ⟨x, hx⟩ : ∃ x, x = beN t.data.toList := ⟨_, rfl⟩
      rw [← hx] at hx1 ⊢
      have hx3 : x < 256 ^ 8 := by omega
      have HE : Hid (x = beN t.data.toList) := hx
      clear hx hx1 hx2 hte
      go_wp2
      go_ret
      refine ⟨?_, Same.trans st1 ((Fr.refl _ w1).drew.alloc _)⟩
      refine ret_int ?_
      have e := HE.out
      rw [HT.out] at e
      obtain rfl : x = 0 := e
      first
        | rfl
        | (unfold wrap32; decide)
        | (unfold wrap64; decide)
set_option maxRecDepth 100000 in
set_option maxHeartbeats 1000000 in
theorem take_nil_shade (w : World) :
    Calls Try.prog 59 #[.pointer none] w fun e w' => e = .returned (.int .u16 0) ∧ Same w w' := by
  obtain ⟨t, ht⟩ : ∃ t : ByteArray, t = ⟨#[]⟩ := ⟨_, rfl⟩
  have hsz : t.size ≤ 2 := by rw [ht]; decide
  have HR : Hid (Calls Try.prog 14 #[.pointer none, .int .i64 2] w fun e w' => e = .returned (.string t) ∧ Same w w') := by rw [ht]; exact rraw_nil w _
  have HT : Hid (t = ⟨#[]⟩) := ht
  clear ht
  go_enter Try.func59, Try.ntmps59
  go_wp2_with (go_at_call 76; refine (size_shade _).mono ?_; rintro e w' ⟨rfl, rfl⟩)
  refine HR.out.mono ?_
  rintro e w1 ⟨rfl, st1⟩
  obtain ⟨cs, cap, fr, hcv, hcell⟩ := str_bytes (P := Try.prog) w1 9 81 5 t Try.underlying9 Try.underlying81 Try.underlying5
  have HX : Hid (∀ k (h : k < t.size), (w1.alloc (.cells cs 5 fr)).cell? ⟨w1.heap.size, k, none⟩ = some (.int .u8 t[k].toNat)) := hcell
  clear hcell
  go_wp2_with fail
  go_loop [3, 11] (fun xv iv => ∃ k : Nat, k ≤ t.size ∧ iv = .int .i64 k ∧ xv = .int .u64 (beN (t.data.toList.take k))) (fun _ iv => t.size - (intOf iv).toNat)
  case atStart => exact ⟨0, by omega, rfl, rfl⟩
  case round =>
    obtain ⟨k, hk, rfl, rfl⟩ := hrel
    by_cases hlt : k < t.size
    · have hcx := HX.out k hlt
      have hx1 := beN_lt (t.data.toList.take k)
      have hx2 : 256 ^ (t.data.toList.take k).length ≤ 256 ^ 7 := Nat.pow_le_pow_right (by decide) (by rw [List.length_take]; omega)
      have HS := beN_snoc (t.data.toList.take k) t[k]
      rw [← take_snoc t k hlt] at HS
      obtain ⟨x, hx⟩ : ∃ x, x = beN (t.data.toList.take k) := ⟨_, rfl⟩
      rw [← hx] at hx1 HS ⊢
      have hx3 : x * 256 < 18446744073709551616 := by omega
      have htk : t[k].toNat < 256 := t[k].toNat_lt
      have hor := or_byte x t[k].toNat hx3 htk
      have HS' : Hid (beN (t.data.toList.take (k + 1)) = x * 256 + t[k].toNat) := HS
      clear HS hx hx1 hx2
      go_wp2
      go_round
      case rel => exact ⟨k + 1, by omega, by go_num, by rw [HS'.out]; go_num⟩
      case measure => simp [intOf]; omega
    · have hke : k = t.size := by omega
      have hx1 := beN_lt (t.data.toList.take k)
      have hx2 : 256 ^ (t.data.toList.take k).length ≤ 256 ^ 2 := Nat.pow_le_pow_right (by decide) (by rw [List.length_take]; omega)
      have hte : t.data.toList.take k = t.data.toList := by rw [List.take_of_length_le]; rw [bytes_length]; omega
      rw [hte] at hx1 hx2 ⊢
      obtain ⟨x, hx⟩ : ∃ x, x = beN t.data.toList := ⟨_, rfl⟩
      rw [← hx] at hx1 ⊢
      have hx3 : x < 256 ^ 2 := by omega
      have HE : Hid (x = beN t.data.toList) := hx
      clear hx hx1 hx2 hte
      go_wp2
      go_ret
      refine ⟨?_, Same.trans st1 ((Fr.refl _ w1).drew.alloc _)⟩
      refine ret_int ?_
      have e := HE.out
      rw [HT.out] at e
      obtain rfl : x = 0 := e
      first
        | rfl
        | (unfold wrap32; decide)
        | (unfold wrap64; decide)
set_option maxRecDepth 100000 in
set_option maxHeartbeats 1000000 in
theorem rdigest_nil (w : World) (wd : Int) :
    Calls Try.prog 16 #[.pointer none, .int .i64 wd] w fun e w' => e = .returned (.agg (bcells (List.replicate 32 0)).toArray) ∧ Same w w' := by
  have hk := widthN_le wd
  have HN : Hid (∀ W, Calls Try.prog 61 #[.int .i64 wd] W fun e w' => e = .returned (.int .i64 (widthN wd)) ∧ W = w') := fun W => counting_calls W wd
  obtain ⟨k, hk2⟩ : ∃ k, k = widthN wd := ⟨_, rfl⟩
  rw [← hk2] at hk HN
  clear hk2
  obtain ⟨t, ht⟩ : ∃ t : ByteArray, t = ⟨#[]⟩ := ⟨_, rfl⟩
  have hrz : t.size ≤ k := by rw [ht]; exact Nat.zero_le _
  have HR : Hid (∀ W, Calls Try.prog 14 #[.pointer none, .int .i64 (k : Int)] W fun e w' => e = .returned (.string t) ∧ Same W w') := fun W => by rw [ht]; exact rraw_nil W _
  have hpad : bcells (List.replicate 32 0) = bcells (padD t) := by rw [ht]; rfl
  rw [hpad]
  clear ht hpad
  have ht32 : t.size ≤ 32 := by omega
  have hsl := fun W => slice_digest_all W (w.heap.size + 1)
  obtain ⟨A, hA⟩ : ∃ A, A = (bcells (padD t)).toArray := ⟨_, rfl⟩
  have hAs : A.size = 32 := by rw [hA]; simp [bcells, padD_length t ht32]
  have hone : A.all (·.oneCell') = true := by
    rw [hA]
    exact all_oneCell_toArray (by intro v hv; simp only [bcells, List.mem_map] at hv; obtain ⟨c, _, rfl⟩ := hv; rfl)
  have hsz : (Try.prog.info? 45).map (·.size) = some A.size := by rw [Try.ainfo, hAs]
  rw [← hA]
  have HA : Hid (A = (bcells (padD t)).toArray) := hA
  have HAs : Hid (A.size = 32) := hAs
  clear hA hAs
  go_enter Try.func16, Try.ntmps16
  go_wp2_with fail
  go_region_held3 (fun _ => True) (trivial)
    (first | (go_at_call 61; refine (HN.out _).mono ?_; rintro e W1 ⟨rfl, rfl⟩) | (go_at_call 14; refine (HR.out _).mono ?_; rintro e W1 ⟨rfl, st1⟩; have r1 : W1.heap[w.heap.size + 1]? = some (.cells (bcells (List.replicate 32 0)).toArray 45 (0, 0)) := (st1.block _ (by simp) (fun f => f)).trans (heap_alloc2_new w _ _); have r0 : W1.heap[w.heap.size]? = some (.cells (bcells (List.replicate 32 0)).toArray 45 (0, 0)) := (st1.block _ (by simp; omega) (fun f => f)).trans (heap_alloc2_old w _ _); have stw : Same w W1 := Fr.trans ((((Fr.refl _ w).alloc _).alloc _).drew) st1 (fun _ _ t => t); clear st1) | (refine _root_.Go.step_copy_string (by rfl) _ _ _ _ (by rfl) 5 Try.underlying81 Try.size8 (w.heap.size + 1) 0 32 32 (by rfl) t (by rfl) ht32 (fun j hj => (there_row (n := 32) r1 (by simp [bcells]) j (by omega)).1) (fun j hj => (there_row (n := 32) r1 (by simp [bcells]) j (by omega)).2) ?_))
  have R1 : (W1.setCells (w.heap.size + 1) 0 (t.data.toList.map fun x => Value.int .u8 (x.toNat : Int))).heap[w.heap.size + 1]? = some (.cells A 45 (0, 0)) := by rw [HA.out]; exact setCells_pad t ht32 r1
  have F1 : Fr (fun k => k = w.heap.size + 1) W1 (W1.setCells (w.heap.size + 1) 0 (t.data.toList.map fun x => Value.int .u8 (x.toNat : Int))) := Fr.setCells (S := fun k => k = w.heap.size + 1) (fun _ => rfl) _ 0 W1 (Fr.refl _ _)
  obtain ⟨W2, hW2⟩ : ∃ W2, W2 = W1.setCells (w.heap.size + 1) 0 (t.data.toList.map fun x => Value.int .u8 (x.toNat : Int)) := ⟨_, rfl⟩
  rw [← hW2] at R1 F1 ⊢
  clear hW2
  have r2 : W2.heap[w.heap.size]? = some (.cells (bcells (List.replicate 32 0)).toArray 45 (0, 0)) := (F1.block _ (lt_of_heap r0) (by omega)).trans r0
  have stw2 : Same w W2 := Fr.trans stw F1 (fun i hi e => by omega)
  have hth : W2.there w.heap.size 0 A.size := there_row r2 (by rw [HAs.out]; simp [bcells])
  have R3 : (W2.setCells w.heap.size 0 A.toList).heap[w.heap.size]? = some (.cells A 45 (0, 0)) := by
    have := setCells_whole A.toList _ r2 (by rw [Array.length_toList, HAs.out]; simp [bcells]) (by rw [Array.length_toList]; exact hth)
    rwa [Array.toArray_toList] at this
  have F3 : Fr (fun k => k = w.heap.size) W2 (W2.setCells w.heap.size 0 A.toList) := Fr.setCells (S := fun k => k = w.heap.size) (fun _ => rfl) _ 0 W2 (Fr.refl _ _)
  have stw3 : Same w (W2.setCells w.heap.size 0 A.toList) := Fr.trans stw2 F3 (fun i hi e => by omega)
  have HRR : Hid (∀ tmps : Array Value, tmps.getD 4 undef = .pointer (some ⟨w.heap.size, 0, none⟩) → (results Try.f16 tmps).run Try.prog (W2.setCells w.heap.size 0 A.toList) = .ok (.agg A) (W2.setCells w.heap.size 0 A.toList)) := fun tmps hp => results_cell_row (p := 4) (ty := 45) (by kernel_rfl) tmps _ w.heap.size 45 _ (0, 0) _ hp R3 Try.underlying45 rfl hsz
  clear r0 r1 r2 F1 F3 stw stw2 R3
  go_wp2_with (first | (refine wpList_load_row (by rfl) 45 _ (by rfl) (w.heap.size + 1) (by rfl) 45 A (0, 0) _ R1 Try.underlying45 rfl hsz ?_) | (refine wpList_store_mid (by rfl) 45 _ _ (by rfl) w.heap.size 0 A (by rfl) (by rfl) hth hsz hone ?_))
  exact bodyPost_ret (HRR.out _ rfl) rfl ⟨rfl, stw3⟩
set_option maxRecDepth 100000 in
set_option maxHeartbeats 1000000 in
theorem fixed_nil_0 (w : World) (kd : Int) (hkd : kd = 0) :
    Calls Try.prog 11 #[.pointer none, .int .i64 kd] w fun e w' => e = .returned (.int .u64 0) ∧ Same w w' := by
  subst hkd
  go_enter Try.func11, Try.ntmps11
  go_wp2_with fail
  refine (take_nil_u8 _).mono ?_
  rintro e w1 ⟨rfl, s1⟩
  go_wp2_with fail
  go_ret
  exact ⟨rfl, s1⟩
set_option maxRecDepth 100000 in
set_option maxHeartbeats 1000000 in
theorem fixed_nil_1 (w : World) (kd : Int) (hkd : kd = 1) :
    Calls Try.prog 11 #[.pointer none, .int .i64 kd] w fun e w' => e = .returned (.int .u64 0) ∧ Same w w' := by
  subst hkd
  go_enter Try.func11, Try.ntmps11
  go_wp2_with fail
  refine (take_nil_u16 _).mono ?_
  rintro e w1 ⟨rfl, s1⟩
  go_wp2_with fail
  go_ret
  exact ⟨rfl, s1⟩
set_option maxRecDepth 100000 in
set_option maxHeartbeats 1000000 in
theorem fixed_nil_2 (w : World) (kd : Int) (hkd : kd = 2) :
    Calls Try.prog 11 #[.pointer none, .int .i64 kd] w fun e w' => e = .returned (.int .u64 0) ∧ Same w w' := by
  subst hkd
  go_enter Try.func11, Try.ntmps11
  go_wp2_with fail
  refine (take_nil_u32 _).mono ?_
  rintro e w1 ⟨rfl, s1⟩
  go_wp2_with fail
  go_ret
  exact ⟨rfl, s1⟩
set_option maxRecDepth 100000 in
set_option maxHeartbeats 1000000 in
theorem fixed_nil_3 (w : World) (kd : Int) (hkd : kd = 3) :
    Calls Try.prog 11 #[.pointer none, .int .i64 kd] w fun e w' => e = .returned (.int .u64 0) ∧ Same w w' := by
  subst hkd
  go_enter Try.func11, Try.ntmps11
  go_wp2_with fail
  refine (take_nil_u64 _).mono ?_
  rintro e w1 ⟨rfl, s1⟩
  go_wp2_with fail
  go_ret
  exact ⟨rfl, s1⟩
set_option maxRecDepth 100000 in
set_option maxHeartbeats 1000000 in
theorem fixed_nil_4 (w : World) (kd : Int) (hkd : kd = 4) :
    Calls Try.prog 11 #[.pointer none, .int .i64 kd] w fun e w' => e = .returned (.int .u64 0) ∧ Same w w' := by
  subst hkd
  go_enter Try.func11, Try.ntmps11
  go_wp2_with fail
  refine (take_nil_i8 _).mono ?_
  rintro e w1 ⟨rfl, s1⟩
  go_wp2_with fail
  go_ret
  exact ⟨rfl, s1⟩
set_option maxRecDepth 100000 in
set_option maxHeartbeats 1000000 in
theorem fixed_nil_5 (w : World) (kd : Int) (hkd : kd = 5) :
    Calls Try.prog 11 #[.pointer none, .int .i64 kd] w fun e w' => e = .returned (.int .u64 0) ∧ Same w w' := by
  subst hkd
  go_enter Try.func11, Try.ntmps11
  go_wp2_with fail
  refine (take_nil_i16 _).mono ?_
  rintro e w1 ⟨rfl, s1⟩
  go_wp2_with fail
  go_ret
  exact ⟨rfl, s1⟩
set_option maxRecDepth 100000 in
set_option maxHeartbeats 1000000 in
theorem fixed_nil_6 (w : World) (kd : Int) (hkd : kd = 6) :
    Calls Try.prog 11 #[.pointer none, .int .i64 kd] w fun e w' => e = .returned (.int .u64 0) ∧ Same w w' := by
  subst hkd
  go_enter Try.func11, Try.ntmps11
  go_wp2_with fail
  refine (take_nil_i32 _).mono ?_
  rintro e w1 ⟨rfl, s1⟩
  go_wp2_with fail
  go_ret
  exact ⟨rfl, s1⟩
set_option maxRecDepth 100000 in
set_option maxHeartbeats 1000000 in
theorem fixed_nil_7 (w : World) (kd : Int) (hkd : kd = 7) :
    Calls Try.prog 11 #[.pointer none, .int .i64 kd] w fun e w' => e = .returned (.int .u64 0) ∧ Same w w' := by
  subst hkd
  go_enter Try.func11, Try.ntmps11
  go_wp2_with fail
  refine (take_nil_i64 _).mono ?_
  rintro e w1 ⟨rfl, s1⟩
  go_wp2_with fail
  go_ret
  exact ⟨rfl, s1⟩
set_option maxRecDepth 100000 in
set_option maxHeartbeats 1000000 in
theorem fixed_nil_other (w : World) (kd : Int) (hkd : kd < 0 ∨ 7 < kd) :
    Calls Try.prog 11 #[.pointer none, .int .i64 kd] w fun e w' => e = .returned (.int .u64 0) ∧ Same w w' := by
  rcases hkd with hkd | hkd
  all_goals
    go_enter Try.func11, Try.ntmps11
    go_wp2_with fail
    refine (take_nil_shade _).mono ?_
    rintro e w1 ⟨rfl, s1⟩
    go_wp2_with fail
    go_ret
    exact ⟨rfl, s1⟩
theorem fixed_nil (w : World) (kd : Int) :
    Calls Try.prog 11 #[.pointer none, .int .i64 kd] w fun e w' => e = .returned (.int .u64 0) ∧ Same w w' := by
  by_cases h : kd < 0 ∨ 7 < kd
  · exact fixed_nil_other w kd h
  · have hc : kd = 0 ∨ kd = 1 ∨ kd = 2 ∨ kd = 3 ∨ kd = 4 ∨ kd = 5 ∨ kd = 6 ∨ kd = 7 := by omega
    rcases hc with h0 | h1 | h2 | h3 | h4 | h5 | h6 | h7
    · exact fixed_nil_0 w kd h0
    · exact fixed_nil_1 w kd h1
    · exact fixed_nil_2 w kd h2
    · exact fixed_nil_3 w kd h3
    · exact fixed_nil_4 w kd h4
    · exact fixed_nil_5 w kd h5
    · exact fixed_nil_6 w kd h6
    · exact fixed_nil_7 w kd h7
end Go.Proofs.Ytpcdpdagcigigaa
