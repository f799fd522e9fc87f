/-
  Walks: the sizes of kinds; a fixed number read.
-/
import Derived.Test.YtcbbjicoedeioaaWA
import Derived.Test.YtcbbjicoedeioaaWG
namespace Go.Proofs.Ytcbbjicoedeioaa
open Go.RowKit

set_option maxRecDepth 100000 in
theorem lsize_0 (w : World) : Calls Try.prog 53 #[.int .i64 0] w fun e w' => e = .returned (.int .i64 1) ∧ Same w w' := by
  go_enter Try.func53, Try.ntmps53
  go_wp2
  go_ret
  exact ⟨rfl, (Fr.refl _ w).alloc _⟩
set_option maxRecDepth 100000 in
theorem lsize_1 (w : World) : Calls Try.prog 53 #[.int .i64 1] w fun e w' => e = .returned (.int .i64 2) ∧ Same w w' := by
  go_enter Try.func53, Try.ntmps53
  go_wp2
  go_ret
  exact ⟨rfl, (Fr.refl _ w).alloc _⟩
set_option maxRecDepth 100000 in
theorem lsize_2 (w : World) : Calls Try.prog 53 #[.int .i64 2] w fun e w' => e = .returned (.int .i64 4) ∧ Same w w' := by
  go_enter Try.func53, Try.ntmps53
  go_wp2
  go_ret
  exact ⟨rfl, (Fr.refl _ w).alloc _⟩
set_option maxRecDepth 100000 in
theorem lsize_3 (w : World) : Calls Try.prog 53 #[.int .i64 3] w fun e w' => e = .returned (.int .i64 8) ∧ Same w w' := by
  go_enter Try.func53, Try.ntmps53
  go_wp2
  go_ret
  exact ⟨rfl, (Fr.refl _ w).alloc _⟩
set_option maxRecDepth 100000 in
theorem lsize_4 (w : World) : Calls Try.prog 53 #[.int .i64 4] w fun e w' => e = .returned (.int .i64 1) ∧ Same w w' := by
  go_enter Try.func53, Try.ntmps53
  go_wp2
  go_ret
  exact ⟨rfl, (Fr.refl _ w).alloc _⟩
set_option maxRecDepth 100000 in
theorem lsize_5 (w : World) : Calls Try.prog 53 #[.int .i64 5] w fun e w' => e = .returned (.int .i64 2) ∧ Same w w' := by
  go_enter Try.func53, Try.ntmps53
  go_wp2
  go_ret
  exact ⟨rfl, (Fr.refl _ w).alloc _⟩
set_option maxRecDepth 100000 in
theorem lsize_6 (w : World) : Calls Try.prog 53 #[.int .i64 6] w fun e w' => e = .returned (.int .i64 4) ∧ Same w w' := by
  go_enter Try.func53, Try.ntmps53
  go_wp2
  go_ret
  exact ⟨rfl, (Fr.refl _ w).alloc _⟩
set_option maxRecDepth 100000 in
theorem lsize_7 (w : World) : Calls Try.prog 53 #[.int .i64 7] w fun e w' => e = .returned (.int .i64 8) ∧ Same w w' := by
  go_enter Try.func53, Try.ntmps53
  go_wp2
  go_ret
  exact ⟨rfl, (Fr.refl _ w).alloc _⟩
set_option maxRecDepth 100000 in
theorem lsize_8 (w : World) : Calls Try.prog 53 #[.int .i64 8] w fun e w' => e = .returned (.int .i64 2) ∧ Same w w' := by
  go_enter Try.func53, Try.ntmps53
  go_wp2
  go_ret
  exact ⟨rfl, (Fr.refl _ w).alloc _⟩
set_option maxRecDepth 100000 in
theorem lsize_other (w : World) (kd : Int) (h : kd < 0 ∨ 8 < kd) : Calls Try.prog 53 #[.int .i64 kd] w fun e w' => e = .returned (.int .i64 0) ∧ Same w w' := by
  rcases h with h | h
  all_goals
    go_enter Try.func53, Try.ntmps53
    go_wp2
    go_ret
    exact ⟨rfl, (Fr.refl _ w).alloc _⟩

set_option maxRecDepth 100000 in
set_option maxHeartbeats 1000000 in
theorem fixed_0 {w : World} {b : Nat} {s : ByteArray} {p c : Nat} (h : RdAt w b s p c) :
    Calls Try.prog 17 #[.pointer (some ⟨b, 0, none⟩), .int .i64 0] w fun e w' => e = .returned (.int .u64 (beN (rRaw s p c 1).1.data.toList)) ∧ RdAt w' b s (rRaw s p c 1).2.1 (rRaw s p c 1).2.2 ∧ RdStep b w w' := by
  have HT0 := take_u8 h
  have hlt := beN_lt (rRaw s p c 1).1.data.toList
  have hz : (rRaw s p c 1).1.size ≤ 1 := rRaw_size s p c 1
  have hpw : 256 ^ (rRaw s p c 1).1.data.toList.length ≤ 256 ^ 1 := Nat.pow_le_pow_right (by decide) (by rw [bytes_length]; exact hz)
  obtain ⟨x, hx⟩ : ∃ x, x = beN (rRaw s p c 1).1.data.toList := ⟨_, rfl⟩
  rw [← hx] at HT0 hlt ⊢
  obtain ⟨y, hy⟩ : ∃ y : Int, y = IntKind.u8.wrap (x : Int) := ⟨_, rfl⟩
  rw [← hy] at HT0
  have HY : Hid (y = IntKind.u8.wrap (x : Int)) := hy
  have hx2 : x < 256 ^ 1 := by omega
  have HT : Hid (Calls Try.prog 66 #[.pointer (some ⟨b, 0, none⟩)] w fun e w' => e = .returned (.int .u8 y) ∧ RdAt w' b s (rRaw s p c 1).2.1 (rRaw s p c 1).2.2 ∧ RdStep b w w') := HT0
  clear HT0 hx hy hlt hz hpw
  go_enter Try.func17, Try.ntmps17
  go_wp2_with fail
  refine HT.out.mono ?_
  rintro e w1 ⟨rfl, h1, st1⟩
  go_wp2_with fail
  go_ret
  refine ⟨ret_int ?_, h1, st1⟩
  have e := HY.out
  simp only [IntKind.wrap, IntKind.bits, IntKind.signed] at e
  show _ = (x : Int)
  first
    | (simp at e; omega)
    | (simp only [IntKind.wrap, IntKind.bits, IntKind.signed]; simp at e; simp; omega)
    | (simp only [IntKind.wrap, IntKind.bits, IntKind.signed]; simp at e ⊢; omega)
set_option maxRecDepth 100000 in
set_option maxHeartbeats 1000000 in
theorem fixed_1 {w : World} {b : Nat} {s : ByteArray} {p c : Nat} (h : RdAt w b s p c) :
    Calls Try.prog 17 #[.pointer (some ⟨b, 0, none⟩), .int .i64 1] w fun e w' => e = .returned (.int .u64 (beN (rRaw s p c 2).1.data.toList)) ∧ RdAt w' b s (rRaw s p c 2).2.1 (rRaw s p c 2).2.2 ∧ RdStep b w w' := by
  have HT0 := take_u16 h
  have hlt := beN_lt (rRaw s p c 2).1.data.toList
  have hz : (rRaw s p c 2).1.size ≤ 2 := rRaw_size s p c 2
  have hpw : 256 ^ (rRaw s p c 2).1.data.toList.length ≤ 256 ^ 2 := Nat.pow_le_pow_right (by decide) (by rw [bytes_length]; exact hz)
  obtain ⟨x, hx⟩ : ∃ x, x = beN (rRaw s p c 2).1.data.toList := ⟨_, rfl⟩
  rw [← hx] at HT0 hlt ⊢
  obtain ⟨y, hy⟩ : ∃ y : Int, y = IntKind.u16.wrap (x : Int) := ⟨_, rfl⟩
  rw [← hy] at HT0
  have HY : Hid (y = IntKind.u16.wrap (x : Int)) := hy
  have hx2 : x < 256 ^ 2 := by omega
  have HT : Hid (Calls Try.prog 60 #[.pointer (some ⟨b, 0, none⟩)] w fun e w' => e = .returned (.int .u16 y) ∧ RdAt w' b s (rRaw s p c 2).2.1 (rRaw s p c 2).2.2 ∧ RdStep b w w') := HT0
  clear HT0 hx hy hlt hz hpw
  go_enter Try.func17, Try.ntmps17
  go_wp2_with fail
  refine HT.out.mono ?_
  rintro e w1 ⟨rfl, h1, st1⟩
  go_wp2_with fail
  go_ret
  refine ⟨ret_int ?_, h1, st1⟩
  have e := HY.out
  simp only [IntKind.wrap, IntKind.bits, IntKind.signed] at e
  show _ = (x : Int)
  first
    | (simp at e; omega)
    | (simp only [IntKind.wrap, IntKind.bits, IntKind.signed]; simp at e; simp; omega)
    | (simp only [IntKind.wrap, IntKind.bits, IntKind.signed]; simp at e ⊢; omega)
set_option maxRecDepth 100000 in
set_option maxHeartbeats 1000000 in
theorem fixed_2 {w : World} {b : Nat} {s : ByteArray} {p c : Nat} (h : RdAt w b s p c) :
    Calls Try.prog 17 #[.pointer (some ⟨b, 0, none⟩), .int .i64 2] w fun e w' => e = .returned (.int .u64 (beN (rRaw s p c 4).1.data.toList)) ∧ RdAt w' b s (rRaw s p c 4).2.1 (rRaw s p c 4).2.2 ∧ RdStep b w w' := by
  have HT0 := take_u32 h
  have hlt := beN_lt (rRaw s p c 4).1.data.toList
  have hz : (rRaw s p c 4).1.size ≤ 4 := rRaw_size s p c 4
  have hpw : 256 ^ (rRaw s p c 4).1.data.toList.length ≤ 256 ^ 4 := Nat.pow_le_pow_right (by decide) (by rw [bytes_length]; exact hz)
  obtain ⟨x, hx⟩ : ∃ x, x = beN (rRaw s p c 4).1.data.toList := ⟨_, rfl⟩
  rw [← hx] at HT0 hlt ⊢
  obtain ⟨y, hy⟩ : ∃ y : Int, y = IntKind.u32.wrap (x : Int) := ⟨_, rfl⟩
  rw [← hy] at HT0
  have HY : Hid (y = IntKind.u32.wrap (x : Int)) := hy
  have hx2 : x < 256 ^ 4 := by omega
  have HT : Hid (Calls Try.prog 67 #[.pointer (some ⟨b, 0, none⟩)] w fun e w' => e = .returned (.int .u32 y) ∧ RdAt w' b s (rRaw s p c 4).2.1 (rRaw s p c 4).2.2 ∧ RdStep b w w') := HT0
  clear HT0 hx hy hlt hz hpw
  go_enter Try.func17, Try.ntmps17
  go_wp2_with fail
  refine HT.out.mono ?_
  rintro e w1 ⟨rfl, h1, st1⟩
  go_wp2_with fail
  go_ret
  refine ⟨ret_int ?_, h1, st1⟩
  have e := HY.out
  simp only [IntKind.wrap, IntKind.bits, IntKind.signed] at e
  show _ = (x : Int)
  first
    | (simp at e; omega)
    | (simp only [IntKind.wrap, IntKind.bits, IntKind.signed]; simp at e; simp; omega)
    | (simp only [IntKind.wrap, IntKind.bits, IntKind.signed]; simp at e ⊢; omega)
set_option maxRecDepth 100000 in
set_option maxHeartbeats 1000000 in
theorem fixed_3 {w : World} {b : Nat} {s : ByteArray} {p c : Nat} (h : RdAt w b s p c) :
    Calls Try.prog 17 #[.pointer (some ⟨b, 0, none⟩), .int .i64 3] w fun e w' => e = .returned (.int .u64 (beN (rRaw s p c 8).1.data.toList)) ∧ RdAt w' b s (rRaw s p c 8).2.1 (rRaw s p c 8).2.2 ∧ RdStep b w w' := by
  have HT0 := take_u64 h
  have hlt := beN_lt (rRaw s p c 8).1.data.toList
  have hz : (rRaw s p c 8).1.size ≤ 8 := rRaw_size s p c 8
  have hpw : 256 ^ (rRaw s p c 8).1.data.toList.length ≤ 256 ^ 8 := Nat.pow_le_pow_right (by decide) (by rw [bytes_length]; exact hz)
  obtain ⟨x, hx⟩ : ∃ x, x = beN (rRaw s p c 8).1.data.toList := ⟨_, rfl⟩
  rw [← hx] at HT0 hlt ⊢
  obtain ⟨y, hy⟩ : ∃ y : Int, y = IntKind.u64.wrap (x : Int) := ⟨_, rfl⟩
  rw [← hy] at HT0
  have HY : Hid (y = IntKind.u64.wrap (x : Int)) := hy
  have hx2 : x < 256 ^ 8 := by omega
  have HT : Hid (Calls Try.prog 68 #[.pointer (some ⟨b, 0, none⟩)] w fun e w' => e = .returned (.int .u64 y) ∧ RdAt w' b s (rRaw s p c 8).2.1 (rRaw s p c 8).2.2 ∧ RdStep b w w') := HT0
  clear HT0 hx hy hlt hz hpw
  go_enter Try.func17, Try.ntmps17
  go_wp2_with fail
  refine HT.out.mono ?_
  rintro e w1 ⟨rfl, h1, st1⟩
  go_wp2_with fail
  go_ret
  refine ⟨ret_int ?_, h1, st1⟩
  have e := HY.out
  simp only [IntKind.wrap, IntKind.bits, IntKind.signed] at e
  show _ = (x : Int)
  first
    | (simp at e; omega)
    | (simp only [IntKind.wrap, IntKind.bits, IntKind.signed]; simp at e; simp; omega)
    | (simp only [IntKind.wrap, IntKind.bits, IntKind.signed]; simp at e ⊢; omega)
set_option maxRecDepth 100000 in
set_option maxHeartbeats 1000000 in
theorem fixed_4 {w : World} {b : Nat} {s : ByteArray} {p c : Nat} (h : RdAt w b s p c) :
    Calls Try.prog 17 #[.pointer (some ⟨b, 0, none⟩), .int .i64 4] w fun e w' => e = .returned (.int .u64 (beN (rRaw s p c 1).1.data.toList)) ∧ RdAt w' b s (rRaw s p c 1).2.1 (rRaw s p c 1).2.2 ∧ RdStep b w w' := by
  have HT0 := take_i8 h
  have hlt := beN_lt (rRaw s p c 1).1.data.toList
  have hz : (rRaw s p c 1).1.size ≤ 1 := rRaw_size s p c 1
  have hpw : 256 ^ (rRaw s p c 1).1.data.toList.length ≤ 256 ^ 1 := Nat.pow_le_pow_right (by decide) (by rw [bytes_length]; exact hz)
  obtain ⟨x, hx⟩ : ∃ x, x = beN (rRaw s p c 1).1.data.toList := ⟨_, rfl⟩
  rw [← hx] at HT0 hlt ⊢
  obtain ⟨y, hy⟩ : ∃ y : Int, y = IntKind.i8.wrap (x : Int) := ⟨_, rfl⟩
  rw [← hy] at HT0
  have HY : Hid (y = IntKind.i8.wrap (x : Int)) := hy
  have hx2 : x < 256 ^ 1 := by omega
  have HT : Hid (Calls Try.prog 69 #[.pointer (some ⟨b, 0, none⟩)] w fun e w' => e = .returned (.int .i8 y) ∧ RdAt w' b s (rRaw s p c 1).2.1 (rRaw s p c 1).2.2 ∧ RdStep b w w') := HT0
  clear HT0 hx hy hlt hz hpw
  go_enter Try.func17, Try.ntmps17
  go_wp2_with fail
  refine HT.out.mono ?_
  rintro e w1 ⟨rfl, h1, st1⟩
  go_wp2_with fail
  go_ret
  refine ⟨ret_int ?_, h1, st1⟩
  have e := HY.out
  simp only [IntKind.wrap, IntKind.bits, IntKind.signed] at e
  show _ = (x : Int)
  first
    | (simp at e; omega)
    | (simp only [IntKind.wrap, IntKind.bits, IntKind.signed]; simp at e; simp; omega)
    | (simp only [IntKind.wrap, IntKind.bits, IntKind.signed]; simp at e ⊢; omega)
set_option maxRecDepth 100000 in
set_option maxHeartbeats 1000000 in
theorem fixed_5 {w : World} {b : Nat} {s : ByteArray} {p c : Nat} (h : RdAt w b s p c) :
    Calls Try.prog 17 #[.pointer (some ⟨b, 0, none⟩), .int .i64 5] w fun e w' => e = .returned (.int .u64 (beN (rRaw s p c 2).1.data.toList)) ∧ RdAt w' b s (rRaw s p c 2).2.1 (rRaw s p c 2).2.2 ∧ RdStep b w w' := by
  have HT0 := take_i16 h
  have hlt := beN_lt (rRaw s p c 2).1.data.toList
  have hz : (rRaw s p c 2).1.size ≤ 2 := rRaw_size s p c 2
  have hpw : 256 ^ (rRaw s p c 2).1.data.toList.length ≤ 256 ^ 2 := Nat.pow_le_pow_right (by decide) (by rw [bytes_length]; exact hz)
  obtain ⟨x, hx⟩ : ∃ x, x = beN (rRaw s p c 2).1.data.toList := ⟨_, rfl⟩
  rw [← hx] at HT0 hlt ⊢
  obtain ⟨y, hy⟩ : ∃ y : Int, y = IntKind.i16.wrap (x : Int) := ⟨_, rfl⟩
  rw [← hy] at HT0
  have HY : Hid (y = IntKind.i16.wrap (x : Int)) := hy
  have hx2 : x < 256 ^ 2 := by omega
  have HT : Hid (Calls Try.prog 70 #[.pointer (some ⟨b, 0, none⟩)] w fun e w' => e = .returned (.int .i16 y) ∧ RdAt w' b s (rRaw s p c 2).2.1 (rRaw s p c 2).2.2 ∧ RdStep b w w') := HT0
  clear HT0 hx hy hlt hz hpw
  go_enter Try.func17, Try.ntmps17
  go_wp2_with fail
  refine HT.out.mono ?_
  rintro e w1 ⟨rfl, h1, st1⟩
  go_wp2_with fail
  go_ret
  refine ⟨ret_int ?_, h1, st1⟩
  have e := HY.out
  simp only [IntKind.wrap, IntKind.bits, IntKind.signed] at e
  show _ = (x : Int)
  first
    | (simp at e; omega)
    | (simp only [IntKind.wrap, IntKind.bits, IntKind.signed]; simp at e; simp; omega)
    | (simp only [IntKind.wrap, IntKind.bits, IntKind.signed]; simp at e ⊢; omega)
set_option maxRecDepth 100000 in
set_option maxHeartbeats 1000000 in
theorem fixed_6 {w : World} {b : Nat} {s : ByteArray} {p c : Nat} (h : RdAt w b s p c) :
    Calls Try.prog 17 #[.pointer (some ⟨b, 0, none⟩), .int .i64 6] w fun e w' => e = .returned (.int .u64 (beN (rRaw s p c 4).1.data.toList)) ∧ RdAt w' b s (rRaw s p c 4).2.1 (rRaw s p c 4).2.2 ∧ RdStep b w w' := by
  have HT0 := take_i32 h
  have hlt := beN_lt (rRaw s p c 4).1.data.toList
  have hz : (rRaw s p c 4).1.size ≤ 4 := rRaw_size s p c 4
  have hpw : 256 ^ (rRaw s p c 4).1.data.toList.length ≤ 256 ^ 4 := Nat.pow_le_pow_right (by decide) (by rw [bytes_length]; exact hz)
  obtain ⟨x, hx⟩ : ∃ x, x = beN (rRaw s p c 4).1.data.toList := ⟨_, rfl⟩
  rw [← hx] at HT0 hlt ⊢
  obtain ⟨y, hy⟩ : ∃ y : Int, y = IntKind.i32.wrap (x : Int) := ⟨_, rfl⟩
  rw [← hy] at HT0
  have HY : Hid (y = IntKind.i32.wrap (x : Int)) := hy
  have hx2 : x < 256 ^ 4 := by omega
  have HT : Hid (Calls Try.prog 71 #[.pointer (some ⟨b, 0, none⟩)] w fun e w' => e = .returned (.int .i32 y) ∧ RdAt w' b s (rRaw s p c 4).2.1 (rRaw s p c 4).2.2 ∧ RdStep b w w') := HT0
  clear HT0 hx hy hlt hz hpw
  go_enter Try.func17, Try.ntmps17
  go_wp2_with fail
  refine HT.out.mono ?_
  rintro e w1 ⟨rfl, h1, st1⟩
  go_wp2_with fail
  go_ret
  refine ⟨ret_int ?_, h1, st1⟩
  have e := HY.out
  simp only [IntKind.wrap, IntKind.bits, IntKind.signed] at e
  show _ = (x : Int)
  first
    | (simp at e; omega)
    | (simp only [IntKind.wrap, IntKind.bits, IntKind.signed]; simp at e; simp; omega)
    | (simp only [IntKind.wrap, IntKind.bits, IntKind.signed]; simp at e ⊢; omega)
set_option maxRecDepth 100000 in
set_option maxHeartbeats 1000000 in
theorem fixed_7 {w : World} {b : Nat} {s : ByteArray} {p c : Nat} (h : RdAt w b s p c) :
    Calls Try.prog 17 #[.pointer (some ⟨b, 0, none⟩), .int .i64 7] w fun e w' => e = .returned (.int .u64 (beN (rRaw s p c 8).1.data.toList)) ∧ RdAt w' b s (rRaw s p c 8).2.1 (rRaw s p c 8).2.2 ∧ RdStep b w w' := by
  have HT0 := take_i64 h
  have hlt := beN_lt (rRaw s p c 8).1.data.toList
  have hz : (rRaw s p c 8).1.size ≤ 8 := rRaw_size s p c 8
  have hpw : 256 ^ (rRaw s p c 8).1.data.toList.length ≤ 256 ^ 8 := Nat.pow_le_pow_right (by decide) (by rw [bytes_length]; exact hz)
  obtain ⟨x, hx⟩ : ∃ x, x = beN (rRaw s p c 8).1.data.toList := ⟨_, rfl⟩
  rw [← hx] at HT0 hlt ⊢
  obtain ⟨y, hy⟩ : ∃ y : Int, y = IntKind.i64.wrap (x : Int) := ⟨_, rfl⟩
  rw [← hy] at HT0
  have HY : Hid (y = IntKind.i64.wrap (x : Int)) := hy
  have hx2 : x < 256 ^ 8 := by omega
  have HT : Hid (Calls Try.prog 72 #[.pointer (some ⟨b, 0, none⟩)] w fun e w' => e = .returned (.int .i64 y) ∧ RdAt w' b s (rRaw s p c 8).2.1 (rRaw s p c 8).2.2 ∧ RdStep b w w') := HT0
  clear HT0 hx hy hlt hz hpw
  go_enter Try.func17, Try.ntmps17
  go_wp2_with fail
  refine HT.out.mono ?_
  rintro e w1 ⟨rfl, h1, st1⟩
  go_wp2_with fail
  go_ret
  refine ⟨ret_int ?_, h1, st1⟩
  have e := HY.out
  simp only [IntKind.wrap, IntKind.bits, IntKind.signed] at e
  show _ = (x : Int)
  first
    | (simp at e; omega)
    | (simp only [IntKind.wrap, IntKind.bits, IntKind.signed]; simp at e; simp; omega)
    | (simp only [IntKind.wrap, IntKind.bits, IntKind.signed]; simp at e ⊢; omega)
set_option maxRecDepth 100000 in
set_option maxHeartbeats 1000000 in
theorem fixed_8 {w : World} {b : Nat} {s : ByteArray} {p c : Nat} (h : RdAt w b s p c) :
    Calls Try.prog 17 #[.pointer (some ⟨b, 0, none⟩), .int .i64 8] w fun e w' => e = .returned (.int .u64 (beN (rRaw s p c 2).1.data.toList)) ∧ RdAt w' b s (rRaw s p c 2).2.1 (rRaw s p c 2).2.2 ∧ RdStep b w w' := by
  have HT0 := take_shade h
  have hlt := beN_lt (rRaw s p c 2).1.data.toList
  have hz : (rRaw s p c 2).1.size ≤ 2 := rRaw_size s p c 2
  have hpw : 256 ^ (rRaw s p c 2).1.data.toList.length ≤ 256 ^ 2 := Nat.pow_le_pow_right (by decide) (by rw [bytes_length]; exact hz)
  obtain ⟨x, hx⟩ : ∃ x, x = beN (rRaw s p c 2).1.data.toList := ⟨_, rfl⟩
  rw [← hx] at HT0 hlt ⊢
  obtain ⟨y, hy⟩ : ∃ y : Int, y = IntKind.u16.wrap (x : Int) := ⟨_, rfl⟩
  rw [← hy] at HT0
  have HY : Hid (y = IntKind.u16.wrap (x : Int)) := hy
  have hx2 : x < 256 ^ 2 := by omega
  have HT : Hid (Calls Try.prog 73 #[.pointer (some ⟨b, 0, none⟩)] w fun e w' => e = .returned (.int .u16 y) ∧ RdAt w' b s (rRaw s p c 2).2.1 (rRaw s p c 2).2.2 ∧ RdStep b w w') := HT0
  clear HT0 hx hy hlt hz hpw
  go_enter Try.func17, Try.ntmps17
  go_wp2_with fail
  refine HT.out.mono ?_
  rintro e w1 ⟨rfl, h1, st1⟩
  go_wp2_with fail
  go_ret
  refine ⟨ret_int ?_, h1, st1⟩
  have e := HY.out
  simp only [IntKind.wrap, IntKind.bits, IntKind.signed] at e
  show _ = (x : Int)
  first
    | (simp at e; omega)
    | (simp only [IntKind.wrap, IntKind.bits, IntKind.signed]; simp at e; simp; omega)
    | (simp only [IntKind.wrap, IntKind.bits, IntKind.signed]; simp at e ⊢; omega)
end Go.Proofs.Ytcbbjicoedeioaa
