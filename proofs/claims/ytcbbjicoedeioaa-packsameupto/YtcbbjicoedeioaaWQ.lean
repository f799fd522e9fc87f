/-
  Walks: a step read back ('back').
-/
import Derived.Test.YtcbbjicoedeioaaQ1
import Derived.Test.YtcbbjicoedeioaaWP
import Derived.Test.YtcbbjicoedeioaaWH
namespace Go.Proofs.Ytcbbjicoedeioaa
open Go.RowKit

abbrev stepC (kd : Int) (n : Nat) (i : Int) (s : ByteArray) (pa : Option Addr) (pl pc : Nat) (na : Option Addr) (nl nc : Nat) (wd : Int) (m : Nat) (bd : Int) : Obj := .cells #[.int .i64 kd, .int .u64 n, .int .i64 i, .string s, .slice pa pl pc, .slice na nl nc, .int .i64 wd, .int .u64 m, .int .i64 bd] 31
theorem step_cells (w : World) (kd : Int) (n : Nat) (i : Int) (s : ByteArray) (pa : Option Addr) (pl pc : Nat) (na : Option Addr) (nl nc : Nat) (wd : Int) (m : Nat) (bd : Int) :
    (w.alloc (stepC kd n i s pa pl pc na nl nc wd m bd)).cell? ⟨w.heap.size, 0, none⟩ = some (.int .i64 kd) ∧ (w.alloc (stepC kd n i s pa pl pc na nl nc wd m bd)).cell? ⟨w.heap.size, 1, none⟩ = some (.int .u64 n) ∧ (w.alloc (stepC kd n i s pa pl pc na nl nc wd m bd)).cell? ⟨w.heap.size, 2, none⟩ = some (.int .i64 i) ∧
    (w.alloc (stepC kd n i s pa pl pc na nl nc wd m bd)).cell? ⟨w.heap.size, 3, none⟩ = some (.string s) ∧ (w.alloc (stepC kd n i s pa pl pc na nl nc wd m bd)).cell? ⟨w.heap.size, 4, none⟩ = some (.slice pa pl pc) ∧ (w.alloc (stepC kd n i s pa pl pc na nl nc wd m bd)).cell? ⟨w.heap.size, 5, none⟩ = some (.slice na nl nc) ∧
    (w.alloc (stepC kd n i s pa pl pc na nl nc wd m bd)).cell? ⟨w.heap.size, 6, none⟩ = some (.int .i64 wd) := by
  refine ⟨?_, ?_, ?_, ?_, ?_, ?_, ?_⟩ <;> simp

set_option maxRecDepth 100000 in
set_option maxHeartbeats 1000000 in
theorem back_0 {w : World} {b : Nat} {S : ByteArray} {p : Nat} (n : Nat) (hn : n < 18446744073709551616) (i : Int) (s : ByteArray) (pa : Option Addr) (pl pc : Nat) (na : Option Addr) (nl nc : Nat) (wd : Int) (m : Nat) (bd : Int) (h : RdAt w b S p 0) (r : List UInt8) (hst : Stands S p (fixB 1 n) r) :
    Calls Try.prog 32 #[.pointer (some ⟨b, 0, none⟩), stepV 0 n i s pa pl pc na nl nc wd m bd] w fun e w' => e = .returned (.bool true) ∧ RdAt w' b S (p + (fixB 1 n).length) 0 ∧ RdStep b w w' := by
  have hbw := h.lt
  have e1 := rRaw_at (k := 1) hst (fixB_length _ _)
  have e2 := beN_fix 1 n
  have HX : Hid (∀ W, RdAt W b S p 0 → Calls Try.prog 17 #[.pointer (some ⟨b, 0, none⟩), .int .i64 0] W fun e w' => e = .returned (.int .u64 ((n % 256 : Nat) : Int)) ∧ RdAt w' b S (p + (fixB 1 n).length) 0 ∧ RdStep b W w') := fun W hW => by
    have := fixed_0 hW
    rw [show ((1 : Nat) : Int) = 1 from rfl] at e1
    rw [e1] at this
    simp only [e2] at this
    rw [fixB_length]
    exact this
  obtain ⟨c0, c1, c2, c3, c4, c5, c6⟩ := step_cells w 0 n i s pa pl pc na nl nc wd m bd
  have sa : Same w (w.alloc (stepC 0 n i s pa pl pc na nl nc wd m bd)) := (Fr.refl _ w).alloc _
  have hmod : n % 256 < 18446744073709551616 := by omega
  clear e1 e2
  go_enter Try.func32, Try.ntmps32
  go_wp2_with fail
  refine (lsize_0 _).mono ?_
  rintro e W1 ⟨rfl, s1⟩
  have d0 := (s1.cell (World.block_lt_of_cell? _ _ c0) (fun f => f)).trans c0
  have d1 := (s1.cell (World.block_lt_of_cell? _ _ c1) (fun f => f)).trans c1
  have hw1 : Same w W1 := Fr.trans sa s1 (fun _ _ f => f)
  have h1 := h.same hw1
  clear c0 c1 c2 c3 c4 c5 c6 s1 sa
  go_wp2_with fail
  refine (HX.out _ h1).mono ?_
  rintro e W2 ⟨rfl, h2, st2⟩
  go_wp2_with fail
  go_ret
  refine ⟨?_, h2, RdStep.trans (Same.rd hw1 b) st2⟩
  first
    | rfl
    | (congr 2; simp; done)
    | (congr 2; simp; omega)
set_option maxRecDepth 100000 in
set_option maxHeartbeats 1000000 in
theorem back_1 {w : World} {b : Nat} {S : ByteArray} {p : Nat} (n : Nat) (hn : n < 18446744073709551616) (i : Int) (s : ByteArray) (pa : Option Addr) (pl pc : Nat) (na : Option Addr) (nl nc : Nat) (wd : Int) (m : Nat) (bd : Int) (h : RdAt w b S p 0) (r : List UInt8) (hst : Stands S p (fixB 2 n) r) :
    Calls Try.prog 32 #[.pointer (some ⟨b, 0, none⟩), stepV 1 n i s pa pl pc na nl nc wd m bd] w fun e w' => e = .returned (.bool true) ∧ RdAt w' b S (p + (fixB 2 n).length) 0 ∧ RdStep b w w' := by
  have hbw := h.lt
  have e1 := rRaw_at (k := 2) hst (fixB_length _ _)
  have e2 := beN_fix 2 n
  have HX : Hid (∀ W, RdAt W b S p 0 → Calls Try.prog 17 #[.pointer (some ⟨b, 0, none⟩), .int .i64 1] W fun e w' => e = .returned (.int .u64 ((n % 65536 : Nat) : Int)) ∧ RdAt w' b S (p + (fixB 2 n).length) 0 ∧ RdStep b W w') := fun W hW => by
    have := fixed_1 hW
    rw [show ((2 : Nat) : Int) = 2 from rfl] at e1
    rw [e1] at this
    simp only [e2] at this
    rw [fixB_length]
    exact this
  obtain ⟨c0, c1, c2, c3, c4, c5, c6⟩ := step_cells w 1 n i s pa pl pc na nl nc wd m bd
  have sa : Same w (w.alloc (stepC 1 n i s pa pl pc na nl nc wd m bd)) := (Fr.refl _ w).alloc _
  have hmod : n % 65536 < 18446744073709551616 := by omega
  clear e1 e2
  go_enter Try.func32, Try.ntmps32
  go_wp2_with fail
  refine (lsize_1 _).mono ?_
  rintro e W1 ⟨rfl, s1⟩
  have d0 := (s1.cell (World.block_lt_of_cell? _ _ c0) (fun f => f)).trans c0
  have d1 := (s1.cell (World.block_lt_of_cell? _ _ c1) (fun f => f)).trans c1
  have hw1 : Same w W1 := Fr.trans sa s1 (fun _ _ f => f)
  have h1 := h.same hw1
  clear c0 c1 c2 c3 c4 c5 c6 s1 sa
  go_wp2_with fail
  refine (HX.out _ h1).mono ?_
  rintro e W2 ⟨rfl, h2, st2⟩
  go_wp2_with fail
  go_ret
  refine ⟨?_, h2, RdStep.trans (Same.rd hw1 b) st2⟩
  first
    | rfl
    | (congr 2; simp; done)
    | (congr 2; simp; omega)
set_option maxRecDepth 100000 in
set_option maxHeartbeats 1000000 in
theorem back_2 {w : World} {b : Nat} {S : ByteArray} {p : Nat} (n : Nat) (hn : n < 18446744073709551616) (i : Int) (s : ByteArray) (pa : Option Addr) (pl pc : Nat) (na : Option Addr) (nl nc : Nat) (wd : Int) (m : Nat) (bd : Int) (h : RdAt w b S p 0) (r : List UInt8) (hst : Stands S p (fixB 4 n) r) :
    Calls Try.prog 32 #[.pointer (some ⟨b, 0, none⟩), stepV 2 n i s pa pl pc na nl nc wd m bd] w fun e w' => e = .returned (.bool true) ∧ RdAt w' b S (p + (fixB 4 n).length) 0 ∧ RdStep b w w' := by
  have hbw := h.lt
  have e1 := rRaw_at (k := 4) hst (fixB_length _ _)
  have e2 := beN_fix 4 n
  have HX : Hid (∀ W, RdAt W b S p 0 → Calls Try.prog 17 #[.pointer (some ⟨b, 0, none⟩), .int .i64 2] W fun e w' => e = .returned (.int .u64 ((n % 4294967296 : Nat) : Int)) ∧ RdAt w' b S (p + (fixB 4 n).length) 0 ∧ RdStep b W w') := fun W hW => by
    have := fixed_2 hW
    rw [show ((4 : Nat) : Int) = 4 from rfl] at e1
    rw [e1] at this
    simp only [e2] at this
    rw [fixB_length]
    exact this
  obtain ⟨c0, c1, c2, c3, c4, c5, c6⟩ := step_cells w 2 n i s pa pl pc na nl nc wd m bd
  have sa : Same w (w.alloc (stepC 2 n i s pa pl pc na nl nc wd m bd)) := (Fr.refl _ w).alloc _
  have hmod : n % 4294967296 < 18446744073709551616 := by omega
  clear e1 e2
  go_enter Try.func32, Try.ntmps32
  go_wp2_with fail
  refine (lsize_2 _).mono ?_
  rintro e W1 ⟨rfl, s1⟩
  have d0 := (s1.cell (World.block_lt_of_cell? _ _ c0) (fun f => f)).trans c0
  have d1 := (s1.cell (World.block_lt_of_cell? _ _ c1) (fun f => f)).trans c1
  have hw1 : Same w W1 := Fr.trans sa s1 (fun _ _ f => f)
  have h1 := h.same hw1
  clear c0 c1 c2 c3 c4 c5 c6 s1 sa
  go_wp2_with fail
  refine (HX.out _ h1).mono ?_
  rintro e W2 ⟨rfl, h2, st2⟩
  go_wp2_with fail
  go_ret
  refine ⟨?_, h2, RdStep.trans (Same.rd hw1 b) st2⟩
  first
    | rfl
    | (congr 2; simp; done)
    | (congr 2; simp; omega)
set_option maxRecDepth 100000 in
set_option maxHeartbeats 1000000 in
theorem back_3 {w : World} {b : Nat} {S : ByteArray} {p : Nat} (n : Nat) (hn : n < 18446744073709551616) (i : Int) (s : ByteArray) (pa : Option Addr) (pl pc : Nat) (na : Option Addr) (nl nc : Nat) (wd : Int) (m : Nat) (bd : Int) (h : RdAt w b S p 0) (r : List UInt8) (hst : Stands S p (fixB 8 n) r) :
    Calls Try.prog 32 #[.pointer (some ⟨b, 0, none⟩), stepV 3 n i s pa pl pc na nl nc wd m bd] w fun e w' => e = .returned (.bool true) ∧ RdAt w' b S (p + (fixB 8 n).length) 0 ∧ RdStep b w w' := by
  have hbw := h.lt
  have e1 := rRaw_at (k := 8) hst (fixB_length _ _)
  have e2 := beN_fix 8 n
  have HX : Hid (∀ W, RdAt W b S p 0 → Calls Try.prog 17 #[.pointer (some ⟨b, 0, none⟩), .int .i64 3] W fun e w' => e = .returned (.int .u64 ((n % 18446744073709551616 : Nat) : Int)) ∧ RdAt w' b S (p + (fixB 8 n).length) 0 ∧ RdStep b W w') := fun W hW => by
    have := fixed_3 hW
    rw [show ((8 : Nat) : Int) = 8 from rfl] at e1
    rw [e1] at this
    simp only [e2] at this
    rw [fixB_length]
    exact this
  obtain ⟨c0, c1, c2, c3, c4, c5, c6⟩ := step_cells w 3 n i s pa pl pc na nl nc wd m bd
  have sa : Same w (w.alloc (stepC 3 n i s pa pl pc na nl nc wd m bd)) := (Fr.refl _ w).alloc _
  have hmod : n % 18446744073709551616 < 18446744073709551616 := by omega
  clear e1 e2
  go_enter Try.func32, Try.ntmps32
  go_wp2_with fail
  refine (lsize_3 _).mono ?_
  rintro e W1 ⟨rfl, s1⟩
  have d0 := (s1.cell (World.block_lt_of_cell? _ _ c0) (fun f => f)).trans c0
  have d1 := (s1.cell (World.block_lt_of_cell? _ _ c1) (fun f => f)).trans c1
  have hw1 : Same w W1 := Fr.trans sa s1 (fun _ _ f => f)
  have h1 := h.same hw1
  clear c0 c1 c2 c3 c4 c5 c6 s1 sa
  go_wp2_with fail
  refine (HX.out _ h1).mono ?_
  rintro e W2 ⟨rfl, h2, st2⟩
  go_wp2_with fail
  go_ret
  refine ⟨?_, h2, RdStep.trans (Same.rd hw1 b) st2⟩
  first
    | rfl
    | (congr 2; simp; done)
    | (congr 2; simp; omega)
set_option maxRecDepth 100000 in
set_option maxHeartbeats 1000000 in
theorem back_4 {w : World} {b : Nat} {S : ByteArray} {p : Nat} (n : Nat) (hn : n < 18446744073709551616) (i : Int) (s : ByteArray) (pa : Option Addr) (pl pc : Nat) (na : Option Addr) (nl nc : Nat) (wd : Int) (m : Nat) (bd : Int) (h : RdAt w b S p 0) (r : List UInt8) (hst : Stands S p (fixB 1 n) r) :
    Calls Try.prog 32 #[.pointer (some ⟨b, 0, none⟩), stepV 4 n i s pa pl pc na nl nc wd m bd] w fun e w' => e = .returned (.bool true) ∧ RdAt w' b S (p + (fixB 1 n).length) 0 ∧ RdStep b w w' := by
  have hbw := h.lt
  have e1 := rRaw_at (k := 1) hst (fixB_length _ _)
  have e2 := beN_fix 1 n
  have HX : Hid (∀ W, RdAt W b S p 0 → Calls Try.prog 17 #[.pointer (some ⟨b, 0, none⟩), .int .i64 4] W fun e w' => e = .returned (.int .u64 ((n % 256 : Nat) : Int)) ∧ RdAt w' b S (p + (fixB 1 n).length) 0 ∧ RdStep b W w') := fun W hW => by
    have := fixed_4 hW
    rw [show ((1 : Nat) : Int) = 1 from rfl] at e1
    rw [e1] at this
    simp only [e2] at this
    rw [fixB_length]
    exact this
  obtain ⟨c0, c1, c2, c3, c4, c5, c6⟩ := step_cells w 4 n i s pa pl pc na nl nc wd m bd
  have sa : Same w (w.alloc (stepC 4 n i s pa pl pc na nl nc wd m bd)) := (Fr.refl _ w).alloc _
  have hmod : n % 256 < 18446744073709551616 := by omega
  clear e1 e2
  go_enter Try.func32, Try.ntmps32
  go_wp2_with fail
  refine (lsize_4 _).mono ?_
  rintro e W1 ⟨rfl, s1⟩
  have d0 := (s1.cell (World.block_lt_of_cell? _ _ c0) (fun f => f)).trans c0
  have d1 := (s1.cell (World.block_lt_of_cell? _ _ c1) (fun f => f)).trans c1
  have hw1 : Same w W1 := Fr.trans sa s1 (fun _ _ f => f)
  have h1 := h.same hw1
  clear c0 c1 c2 c3 c4 c5 c6 s1 sa
  go_wp2_with fail
  refine (HX.out _ h1).mono ?_
  rintro e W2 ⟨rfl, h2, st2⟩
  go_wp2_with fail
  go_ret
  refine ⟨?_, h2, RdStep.trans (Same.rd hw1 b) st2⟩
  first
    | rfl
    | (congr 2; simp; done)
    | (congr 2; simp; omega)
set_option maxRecDepth 100000 in
set_option maxHeartbeats 1000000 in
theorem back_5 {w : World} {b : Nat} {S : ByteArray} {p : Nat} (n : Nat) (hn : n < 18446744073709551616) (i : Int) (s : ByteArray) (pa : Option Addr) (pl pc : Nat) (na : Option Addr) (nl nc : Nat) (wd : Int) (m : Nat) (bd : Int) (h : RdAt w b S p 0) (r : List UInt8) (hst : Stands S p (fixB 2 n) r) :
    Calls Try.prog 32 #[.pointer (some ⟨b, 0, none⟩), stepV 5 n i s pa pl pc na nl nc wd m bd] w fun e w' => e = .returned (.bool true) ∧ RdAt w' b S (p + (fixB 2 n).length) 0 ∧ RdStep b w w' := by
  have hbw := h.lt
  have e1 := rRaw_at (k := 2) hst (fixB_length _ _)
  have e2 := beN_fix 2 n
  have HX : Hid (∀ W, RdAt W b S p 0 → Calls Try.prog 17 #[.pointer (some ⟨b, 0, none⟩), .int .i64 5] W fun e w' => e = .returned (.int .u64 ((n % 65536 : Nat) : Int)) ∧ RdAt w' b S (p + (fixB 2 n).length) 0 ∧ RdStep b W w') := fun W hW => by
    have := fixed_5 hW
    rw [show ((2 : Nat) : Int) = 2 from rfl] at e1
    rw [e1] at this
    simp only [e2] at this
    rw [fixB_length]
    exact this
  obtain ⟨c0, c1, c2, c3, c4, c5, c6⟩ := step_cells w 5 n i s pa pl pc na nl nc wd m bd
  have sa : Same w (w.alloc (stepC 5 n i s pa pl pc na nl nc wd m bd)) := (Fr.refl _ w).alloc _
  have hmod : n % 65536 < 18446744073709551616 := by omega
  clear e1 e2
  go_enter Try.func32, Try.ntmps32
  go_wp2_with fail
  refine (lsize_5 _).mono ?_
  rintro e W1 ⟨rfl, s1⟩
  have d0 := (s1.cell (World.block_lt_of_cell? _ _ c0) (fun f => f)).trans c0
  have d1 := (s1.cell (World.block_lt_of_cell? _ _ c1) (fun f => f)).trans c1
  have hw1 : Same w W1 := Fr.trans sa s1 (fun _ _ f => f)
  have h1 := h.same hw1
  clear c0 c1 c2 c3 c4 c5 c6 s1 sa
  go_wp2_with fail
  refine (HX.out _ h1).mono ?_
  rintro e W2 ⟨rfl, h2, st2⟩
  go_wp2_with fail
  go_ret
  refine ⟨?_, h2, RdStep.trans (Same.rd hw1 b) st2⟩
  first
    | rfl
    | (congr 2; simp; done)
    | (congr 2; simp; omega)
set_option maxRecDepth 100000 in
set_option maxHeartbeats 1000000 in
theorem back_6 {w : World} {b : Nat} {S : ByteArray} {p : Nat} (n : Nat) (hn : n < 18446744073709551616) (i : Int) (s : ByteArray) (pa : Option Addr) (pl pc : Nat) (na : Option Addr) (nl nc : Nat) (wd : Int) (m : Nat) (bd : Int) (h : RdAt w b S p 0) (r : List UInt8) (hst : Stands S p (fixB 4 n) r) :
    Calls Try.prog 32 #[.pointer (some ⟨b, 0, none⟩), stepV 6 n i s pa pl pc na nl nc wd m bd] w fun e w' => e = .returned (.bool true) ∧ RdAt w' b S (p + (fixB 4 n).length) 0 ∧ RdStep b w w' := by
  have hbw := h.lt
  have e1 := rRaw_at (k := 4) hst (fixB_length _ _)
  have e2 := beN_fix 4 n
  have HX : Hid (∀ W, RdAt W b S p 0 → Calls Try.prog 17 #[.pointer (some ⟨b, 0, none⟩), .int .i64 6] W fun e w' => e = .returned (.int .u64 ((n % 4294967296 : Nat) : Int)) ∧ RdAt w' b S (p + (fixB 4 n).length) 0 ∧ RdStep b W w') := fun W hW => by
    have := fixed_6 hW
    rw [show ((4 : Nat) : Int) = 4 from rfl] at e1
    rw [e1] at this
    simp only [e2] at this
    rw [fixB_length]
    exact this
  obtain ⟨c0, c1, c2, c3, c4, c5, c6⟩ := step_cells w 6 n i s pa pl pc na nl nc wd m bd
  have sa : Same w (w.alloc (stepC 6 n i s pa pl pc na nl nc wd m bd)) := (Fr.refl _ w).alloc _
  have hmod : n % 4294967296 < 18446744073709551616 := by omega
  clear e1 e2
  go_enter Try.func32, Try.ntmps32
  go_wp2_with fail
  refine (lsize_6 _).mono ?_
  rintro e W1 ⟨rfl, s1⟩
  have d0 := (s1.cell (World.block_lt_of_cell? _ _ c0) (fun f => f)).trans c0
  have d1 := (s1.cell (World.block_lt_of_cell? _ _ c1) (fun f => f)).trans c1
  have hw1 : Same w W1 := Fr.trans sa s1 (fun _ _ f => f)
  have h1 := h.same hw1
  clear c0 c1 c2 c3 c4 c5 c6 s1 sa
  go_wp2_with fail
  refine (HX.out _ h1).mono ?_
  rintro e W2 ⟨rfl, h2, st2⟩
  go_wp2_with fail
  go_ret
  refine ⟨?_, h2, RdStep.trans (Same.rd hw1 b) st2⟩
  first
    | rfl
    | (congr 2; simp; done)
    | (congr 2; simp; omega)
set_option maxRecDepth 100000 in
set_option maxHeartbeats 1000000 in
theorem back_7 {w : World} {b : Nat} {S : ByteArray} {p : Nat} (n : Nat) (hn : n < 18446744073709551616) (i : Int) (s : ByteArray) (pa : Option Addr) (pl pc : Nat) (na : Option Addr) (nl nc : Nat) (wd : Int) (m : Nat) (bd : Int) (h : RdAt w b S p 0) (r : List UInt8) (hst : Stands S p (fixB 8 n) r) :
    Calls Try.prog 32 #[.pointer (some ⟨b, 0, none⟩), stepV 7 n i s pa pl pc na nl nc wd m bd] w fun e w' => e = .returned (.bool true) ∧ RdAt w' b S (p + (fixB 8 n).length) 0 ∧ RdStep b w w' := by
  have hbw := h.lt
  have e1 := rRaw_at (k := 8) hst (fixB_length _ _)
  have e2 := beN_fix 8 n
  have HX : Hid (∀ W, RdAt W b S p 0 → Calls Try.prog 17 #[.pointer (some ⟨b, 0, none⟩), .int .i64 7] W fun e w' => e = .returned (.int .u64 ((n % 18446744073709551616 : Nat) : Int)) ∧ RdAt w' b S (p + (fixB 8 n).length) 0 ∧ RdStep b W w') := fun W hW => by
    have := fixed_7 hW
    rw [show ((8 : Nat) : Int) = 8 from rfl] at e1
    rw [e1] at this
    simp only [e2] at this
    rw [fixB_length]
    exact this
  obtain ⟨c0, c1, c2, c3, c4, c5, c6⟩ := step_cells w 7 n i s pa pl pc na nl nc wd m bd
  have sa : Same w (w.alloc (stepC 7 n i s pa pl pc na nl nc wd m bd)) := (Fr.refl _ w).alloc _
  have hmod : n % 18446744073709551616 < 18446744073709551616 := by omega
  clear e1 e2
  go_enter Try.func32, Try.ntmps32
  go_wp2_with fail
  refine (lsize_7 _).mono ?_
  rintro e W1 ⟨rfl, s1⟩
  have d0 := (s1.cell (World.block_lt_of_cell? _ _ c0) (fun f => f)).trans c0
  have d1 := (s1.cell (World.block_lt_of_cell? _ _ c1) (fun f => f)).trans c1
  have hw1 : Same w W1 := Fr.trans sa s1 (fun _ _ f => f)
  have h1 := h.same hw1
  clear c0 c1 c2 c3 c4 c5 c6 s1 sa
  go_wp2_with fail
  refine (HX.out _ h1).mono ?_
  rintro e W2 ⟨rfl, h2, st2⟩
  go_wp2_with fail
  go_ret
  refine ⟨?_, h2, RdStep.trans (Same.rd hw1 b) st2⟩
  first
    | rfl
    | (congr 2; simp; done)
    | (congr 2; simp; omega)
set_option maxRecDepth 100000 in
set_option maxHeartbeats 1000000 in
theorem back_8 {w : World} {b : Nat} {S : ByteArray} {p : Nat} (n : Nat) (hn : n < 18446744073709551616) (i : Int) (s : ByteArray) (pa : Option Addr) (pl pc : Nat) (na : Option Addr) (nl nc : Nat) (wd : Int) (m : Nat) (bd : Int) (h : RdAt w b S p 0) (r : List UInt8) (hst : Stands S p (fixB 2 n) r) :
    Calls Try.prog 32 #[.pointer (some ⟨b, 0, none⟩), stepV 8 n i s pa pl pc na nl nc wd m bd] w fun e w' => e = .returned (.bool true) ∧ RdAt w' b S (p + (fixB 2 n).length) 0 ∧ RdStep b w w' := by
  have hbw := h.lt
  have e1 := rRaw_at (k := 2) hst (fixB_length _ _)
  have e2 := beN_fix 2 n
  have HX : Hid (∀ W, RdAt W b S p 0 → Calls Try.prog 17 #[.pointer (some ⟨b, 0, none⟩), .int .i64 8] W fun e w' => e = .returned (.int .u64 ((n % 65536 : Nat) : Int)) ∧ RdAt w' b S (p + (fixB 2 n).length) 0 ∧ RdStep b W w') := fun W hW => by
    have := fixed_8 hW
    rw [show ((2 : Nat) : Int) = 2 from rfl] at e1
    rw [e1] at this
    simp only [e2] at this
    rw [fixB_length]
    exact this
  obtain ⟨c0, c1, c2, c3, c4, c5, c6⟩ := step_cells w 8 n i s pa pl pc na nl nc wd m bd
  have sa : Same w (w.alloc (stepC 8 n i s pa pl pc na nl nc wd m bd)) := (Fr.refl _ w).alloc _
  have hmod : n % 65536 < 18446744073709551616 := by omega
  clear e1 e2
  go_enter Try.func32, Try.ntmps32
  go_wp2_with fail
  refine (lsize_8 _).mono ?_
  rintro e W1 ⟨rfl, s1⟩
  have d0 := (s1.cell (World.block_lt_of_cell? _ _ c0) (fun f => f)).trans c0
  have d1 := (s1.cell (World.block_lt_of_cell? _ _ c1) (fun f => f)).trans c1
  have hw1 : Same w W1 := Fr.trans sa s1 (fun _ _ f => f)
  have h1 := h.same hw1
  clear c0 c1 c2 c3 c4 c5 c6 s1 sa
  go_wp2_with fail
  refine (HX.out _ h1).mono ?_
  rintro e W2 ⟨rfl, h2, st2⟩
  go_wp2_with fail
  go_ret
  refine ⟨?_, h2, RdStep.trans (Same.rd hw1 b) st2⟩
  first
    | rfl
    | (congr 2; simp; done)
    | (congr 2; simp; omega)
end Go.Proofs.Ytcbbjicoedeioaa
