/-
  Walks: what the document says a step's bytes are ('laid').
-/
import Derived.Test.YtcbbjicoedeioaaX1
namespace Go.Proofs.Ytcbbjicoedeioaa
open Go.RowKit

set_option maxRecDepth 100000 in
set_option maxHeartbeats 1000000 in
theorem laid_0 {w : World} (n : Nat) (hn : n < 18446744073709551616) (i : Int) (s : ByteArray) (pa : Option Addr) (pl pc : Nat) (na : Option Addr) (nl nc : Nat) (wd : Int) (m : Nat) (bd : Int) :
    Calls Try.prog 9 #[stepV 0 n i s pa pl pc na nl nc wd m bd] w fun e w' => e = .returned (.string ⟨(fixB 1 n).toArray⟩) ∧ Same w w' := by
  have HX : Hid (∀ W, Calls Try.prog 54 #[.int .u64 n, .int .i64 1] W fun e w' => e = .returned (.string ⟨(fixB 1 n).toArray⟩) ∧ Same W w') := fun W => xfixed_calls n hn 1 (by omega) W
  generalize (⟨(fixB 1 n).toArray⟩ : ByteArray) = T at *
  obtain ⟨c0, c1, c2, c3, c4, c5, c6⟩ := step_cells w 0 n i s pa pl pc na nl nc wd m bd
  have sa : Same w (w.alloc (stepC 0 n i s pa pl pc na nl nc wd m bd)) := (Fr.refl _ w).alloc _
  go_enter Try.func9, Try.ntmps9
  go_wp2_with fail
  refine (lsize_0 _).mono ?_
  rintro e W1 ⟨rfl, s1⟩
  have d0 := (s1.cell (World.block_lt_of_cell? _ _ c0) (fun f => f)).trans c0
  have d1 := (s1.cell (World.block_lt_of_cell? _ _ c1) (fun f => f)).trans c1
  have hw1 : Same w W1 := Fr.trans sa s1 (fun _ _ f => f)
  clear c0 c1 c2 c3 c4 c5 c6 s1 sa
  go_wp2_with fail
  refine (HX.out _).mono ?_
  rintro e W2 ⟨rfl, s2⟩
  go_wp2_with fail
  go_ret
  exact ⟨rfl, Fr.trans hw1 s2 (fun _ _ f => f)⟩
set_option maxRecDepth 100000 in
set_option maxHeartbeats 1000000 in
theorem laid_1 {w : World} (n : Nat) (hn : n < 18446744073709551616) (i : Int) (s : ByteArray) (pa : Option Addr) (pl pc : Nat) (na : Option Addr) (nl nc : Nat) (wd : Int) (m : Nat) (bd : Int) :
    Calls Try.prog 9 #[stepV 1 n i s pa pl pc na nl nc wd m bd] w fun e w' => e = .returned (.string ⟨(fixB 2 n).toArray⟩) ∧ Same w w' := by
  have HX : Hid (∀ W, Calls Try.prog 54 #[.int .u64 n, .int .i64 2] W fun e w' => e = .returned (.string ⟨(fixB 2 n).toArray⟩) ∧ Same W w') := fun W => xfixed_calls n hn 2 (by omega) W
  generalize (⟨(fixB 2 n).toArray⟩ : ByteArray) = T at *
  obtain ⟨c0, c1, c2, c3, c4, c5, c6⟩ := step_cells w 1 n i s pa pl pc na nl nc wd m bd
  have sa : Same w (w.alloc (stepC 1 n i s pa pl pc na nl nc wd m bd)) := (Fr.refl _ w).alloc _
  go_enter Try.func9, Try.ntmps9
  go_wp2_with fail
  refine (lsize_1 _).mono ?_
  rintro e W1 ⟨rfl, s1⟩
  have d0 := (s1.cell (World.block_lt_of_cell? _ _ c0) (fun f => f)).trans c0
  have d1 := (s1.cell (World.block_lt_of_cell? _ _ c1) (fun f => f)).trans c1
  have hw1 : Same w W1 := Fr.trans sa s1 (fun _ _ f => f)
  clear c0 c1 c2 c3 c4 c5 c6 s1 sa
  go_wp2_with fail
  refine (HX.out _).mono ?_
  rintro e W2 ⟨rfl, s2⟩
  go_wp2_with fail
  go_ret
  exact ⟨rfl, Fr.trans hw1 s2 (fun _ _ f => f)⟩
set_option maxRecDepth 100000 in
set_option maxHeartbeats 1000000 in
theorem laid_2 {w : World} (n : Nat) (hn : n < 18446744073709551616) (i : Int) (s : ByteArray) (pa : Option Addr) (pl pc : Nat) (na : Option Addr) (nl nc : Nat) (wd : Int) (m : Nat) (bd : Int) :
    Calls Try.prog 9 #[stepV 2 n i s pa pl pc na nl nc wd m bd] w fun e w' => e = .returned (.string ⟨(fixB 4 n).toArray⟩) ∧ Same w w' := by
  have HX : Hid (∀ W, Calls Try.prog 54 #[.int .u64 n, .int .i64 4] W fun e w' => e = .returned (.string ⟨(fixB 4 n).toArray⟩) ∧ Same W w') := fun W => xfixed_calls n hn 4 (by omega) W
  generalize (⟨(fixB 4 n).toArray⟩ : ByteArray) = T at *
  obtain ⟨c0, c1, c2, c3, c4, c5, c6⟩ := step_cells w 2 n i s pa pl pc na nl nc wd m bd
  have sa : Same w (w.alloc (stepC 2 n i s pa pl pc na nl nc wd m bd)) := (Fr.refl _ w).alloc _
  go_enter Try.func9, Try.ntmps9
  go_wp2_with fail
  refine (lsize_2 _).mono ?_
  rintro e W1 ⟨rfl, s1⟩
  have d0 := (s1.cell (World.block_lt_of_cell? _ _ c0) (fun f => f)).trans c0
  have d1 := (s1.cell (World.block_lt_of_cell? _ _ c1) (fun f => f)).trans c1
  have hw1 : Same w W1 := Fr.trans sa s1 (fun _ _ f => f)
  clear c0 c1 c2 c3 c4 c5 c6 s1 sa
  go_wp2_with fail
  refine (HX.out _).mono ?_
  rintro e W2 ⟨rfl, s2⟩
  go_wp2_with fail
  go_ret
  exact ⟨rfl, Fr.trans hw1 s2 (fun _ _ f => f)⟩
set_option maxRecDepth 100000 in
set_option maxHeartbeats 1000000 in
theorem laid_3 {w : World} (n : Nat) (hn : n < 18446744073709551616) (i : Int) (s : ByteArray) (pa : Option Addr) (pl pc : Nat) (na : Option Addr) (nl nc : Nat) (wd : Int) (m : Nat) (bd : Int) :
    Calls Try.prog 9 #[stepV 3 n i s pa pl pc na nl nc wd m bd] w fun e w' => e = .returned (.string ⟨(fixB 8 n).toArray⟩) ∧ Same w w' := by
  have HX : Hid (∀ W, Calls Try.prog 54 #[.int .u64 n, .int .i64 8] W fun e w' => e = .returned (.string ⟨(fixB 8 n).toArray⟩) ∧ Same W w') := fun W => xfixed_calls n hn 8 (by omega) W
  generalize (⟨(fixB 8 n).toArray⟩ : ByteArray) = T at *
  obtain ⟨c0, c1, c2, c3, c4, c5, c6⟩ := step_cells w 3 n i s pa pl pc na nl nc wd m bd
  have sa : Same w (w.alloc (stepC 3 n i s pa pl pc na nl nc wd m bd)) := (Fr.refl _ w).alloc _
  go_enter Try.func9, Try.ntmps9
  go_wp2_with fail
  refine (lsize_3 _).mono ?_
  rintro e W1 ⟨rfl, s1⟩
  have d0 := (s1.cell (World.block_lt_of_cell? _ _ c0) (fun f => f)).trans c0
  have d1 := (s1.cell (World.block_lt_of_cell? _ _ c1) (fun f => f)).trans c1
  have hw1 : Same w W1 := Fr.trans sa s1 (fun _ _ f => f)
  clear c0 c1 c2 c3 c4 c5 c6 s1 sa
  go_wp2_with fail
  refine (HX.out _).mono ?_
  rintro e W2 ⟨rfl, s2⟩
  go_wp2_with fail
  go_ret
  exact ⟨rfl, Fr.trans hw1 s2 (fun _ _ f => f)⟩
set_option maxRecDepth 100000 in
set_option maxHeartbeats 1000000 in
theorem laid_4 {w : World} (n : Nat) (hn : n < 18446744073709551616) (i : Int) (s : ByteArray) (pa : Option Addr) (pl pc : Nat) (na : Option Addr) (nl nc : Nat) (wd : Int) (m : Nat) (bd : Int) :
    Calls Try.prog 9 #[stepV 4 n i s pa pl pc na nl nc wd m bd] w fun e w' => e = .returned (.string ⟨(fixB 1 n).toArray⟩) ∧ Same w w' := by
  have HX : Hid (∀ W, Calls Try.prog 54 #[.int .u64 n, .int .i64 1] W fun e w' => e = .returned (.string ⟨(fixB 1 n).toArray⟩) ∧ Same W w') := fun W => xfixed_calls n hn 1 (by omega) W
  generalize (⟨(fixB 1 n).toArray⟩ : ByteArray) = T at *
  obtain ⟨c0, c1, c2, c3, c4, c5, c6⟩ := step_cells w 4 n i s pa pl pc na nl nc wd m bd
  have sa : Same w (w.alloc (stepC 4 n i s pa pl pc na nl nc wd m bd)) := (Fr.refl _ w).alloc _
  go_enter Try.func9, Try.ntmps9
  go_wp2_with fail
  refine (lsize_4 _).mono ?_
  rintro e W1 ⟨rfl, s1⟩
  have d0 := (s1.cell (World.block_lt_of_cell? _ _ c0) (fun f => f)).trans c0
  have d1 := (s1.cell (World.block_lt_of_cell? _ _ c1) (fun f => f)).trans c1
  have hw1 : Same w W1 := Fr.trans sa s1 (fun _ _ f => f)
  clear c0 c1 c2 c3 c4 c5 c6 s1 sa
  go_wp2_with fail
  refine (HX.out _).mono ?_
  rintro e W2 ⟨rfl, s2⟩
  go_wp2_with fail
  go_ret
  exact ⟨rfl, Fr.trans hw1 s2 (fun _ _ f => f)⟩
set_option maxRecDepth 100000 in
set_option maxHeartbeats 1000000 in
theorem laid_5 {w : World} (n : Nat) (hn : n < 18446744073709551616) (i : Int) (s : ByteArray) (pa : Option Addr) (pl pc : Nat) (na : Option Addr) (nl nc : Nat) (wd : Int) (m : Nat) (bd : Int) :
    Calls Try.prog 9 #[stepV 5 n i s pa pl pc na nl nc wd m bd] w fun e w' => e = .returned (.string ⟨(fixB 2 n).toArray⟩) ∧ Same w w' := by
  have HX : Hid (∀ W, Calls Try.prog 54 #[.int .u64 n, .int .i64 2] W fun e w' => e = .returned (.string ⟨(fixB 2 n).toArray⟩) ∧ Same W w') := fun W => xfixed_calls n hn 2 (by omega) W
  generalize (⟨(fixB 2 n).toArray⟩ : ByteArray) = T at *
  obtain ⟨c0, c1, c2, c3, c4, c5, c6⟩ := step_cells w 5 n i s pa pl pc na nl nc wd m bd
  have sa : Same w (w.alloc (stepC 5 n i s pa pl pc na nl nc wd m bd)) := (Fr.refl _ w).alloc _
  go_enter Try.func9, Try.ntmps9
  go_wp2_with fail
  refine (lsize_5 _).mono ?_
  rintro e W1 ⟨rfl, s1⟩
  have d0 := (s1.cell (World.block_lt_of_cell? _ _ c0) (fun f => f)).trans c0
  have d1 := (s1.cell (World.block_lt_of_cell? _ _ c1) (fun f => f)).trans c1
  have hw1 : Same w W1 := Fr.trans sa s1 (fun _ _ f => f)
  clear c0 c1 c2 c3 c4 c5 c6 s1 sa
  go_wp2_with fail
  refine (HX.out _).mono ?_
  rintro e W2 ⟨rfl, s2⟩
  go_wp2_with fail
  go_ret
  exact ⟨rfl, Fr.trans hw1 s2 (fun _ _ f => f)⟩
set_option maxRecDepth 100000 in
set_option maxHeartbeats 1000000 in
theorem laid_6 {w : World} (n : Nat) (hn : n < 18446744073709551616) (i : Int) (s : ByteArray) (pa : Option Addr) (pl pc : Nat) (na : Option Addr) (nl nc : Nat) (wd : Int) (m : Nat) (bd : Int) :
    Calls Try.prog 9 #[stepV 6 n i s pa pl pc na nl nc wd m bd] w fun e w' => e = .returned (.string ⟨(fixB 4 n).toArray⟩) ∧ Same w w' := by
  have HX : Hid (∀ W, Calls Try.prog 54 #[.int .u64 n, .int .i64 4] W fun e w' => e = .returned (.string ⟨(fixB 4 n).toArray⟩) ∧ Same W w') := fun W => xfixed_calls n hn 4 (by omega) W
  generalize (⟨(fixB 4 n).toArray⟩ : ByteArray) = T at *
  obtain ⟨c0, c1, c2, c3, c4, c5, c6⟩ := step_cells w 6 n i s pa pl pc na nl nc wd m bd
  have sa : Same w (w.alloc (stepC 6 n i s pa pl pc na nl nc wd m bd)) := (Fr.refl _ w).alloc _
  go_enter Try.func9, Try.ntmps9
  go_wp2_with fail
  refine (lsize_6 _).mono ?_
  rintro e W1 ⟨rfl, s1⟩
  have d0 := (s1.cell (World.block_lt_of_cell? _ _ c0) (fun f => f)).trans c0
  have d1 := (s1.cell (World.block_lt_of_cell? _ _ c1) (fun f => f)).trans c1
  have hw1 : Same w W1 := Fr.trans sa s1 (fun _ _ f => f)
  clear c0 c1 c2 c3 c4 c5 c6 s1 sa
  go_wp2_with fail
  refine (HX.out _).mono ?_
  rintro e W2 ⟨rfl, s2⟩
  go_wp2_with fail
  go_ret
  exact ⟨rfl, Fr.trans hw1 s2 (fun _ _ f => f)⟩
set_option maxRecDepth 100000 in
set_option maxHeartbeats 1000000 in
theorem laid_7 {w : World} (n : Nat) (hn : n < 18446744073709551616) (i : Int) (s : ByteArray) (pa : Option Addr) (pl pc : Nat) (na : Option Addr) (nl nc : Nat) (wd : Int) (m : Nat) (bd : Int) :
    Calls Try.prog 9 #[stepV 7 n i s pa pl pc na nl nc wd m bd] w fun e w' => e = .returned (.string ⟨(fixB 8 n).toArray⟩) ∧ Same w w' := by
  have HX : Hid (∀ W, Calls Try.prog 54 #[.int .u64 n, .int .i64 8] W fun e w' => e = .returned (.string ⟨(fixB 8 n).toArray⟩) ∧ Same W w') := fun W => xfixed_calls n hn 8 (by omega) W
  generalize (⟨(fixB 8 n).toArray⟩ : ByteArray) = T at *
  obtain ⟨c0, c1, c2, c3, c4, c5, c6⟩ := step_cells w 7 n i s pa pl pc na nl nc wd m bd
  have sa : Same w (w.alloc (stepC 7 n i s pa pl pc na nl nc wd m bd)) := (Fr.refl _ w).alloc _
  go_enter Try.func9, Try.ntmps9
  go_wp2_with fail
  refine (lsize_7 _).mono ?_
  rintro e W1 ⟨rfl, s1⟩
  have d0 := (s1.cell (World.block_lt_of_cell? _ _ c0) (fun f => f)).trans c0
  have d1 := (s1.cell (World.block_lt_of_cell? _ _ c1) (fun f => f)).trans c1
  have hw1 : Same w W1 := Fr.trans sa s1 (fun _ _ f => f)
  clear c0 c1 c2 c3 c4 c5 c6 s1 sa
  go_wp2_with fail
  refine (HX.out _).mono ?_
  rintro e W2 ⟨rfl, s2⟩
  go_wp2_with fail
  go_ret
  exact ⟨rfl, Fr.trans hw1 s2 (fun _ _ f => f)⟩
set_option maxRecDepth 100000 in
set_option maxHeartbeats 1000000 in
theorem laid_8 {w : World} (n : Nat) (hn : n < 18446744073709551616) (i : Int) (s : ByteArray) (pa : Option Addr) (pl pc : Nat) (na : Option Addr) (nl nc : Nat) (wd : Int) (m : Nat) (bd : Int) :
    Calls Try.prog 9 #[stepV 8 n i s pa pl pc na nl nc wd m bd] w fun e w' => e = .returned (.string ⟨(fixB 2 n).toArray⟩) ∧ Same w w' := by
  have HX : Hid (∀ W, Calls Try.prog 54 #[.int .u64 n, .int .i64 2] W fun e w' => e = .returned (.string ⟨(fixB 2 n).toArray⟩) ∧ Same W w') := fun W => xfixed_calls n hn 2 (by omega) W
  generalize (⟨(fixB 2 n).toArray⟩ : ByteArray) = T at *
  obtain ⟨c0, c1, c2, c3, c4, c5, c6⟩ := step_cells w 8 n i s pa pl pc na nl nc wd m bd
  have sa : Same w (w.alloc (stepC 8 n i s pa pl pc na nl nc wd m bd)) := (Fr.refl _ w).alloc _
  go_enter Try.func9, Try.ntmps9
  go_wp2_with fail
  refine (lsize_8 _).mono ?_
  rintro e W1 ⟨rfl, s1⟩
  have d0 := (s1.cell (World.block_lt_of_cell? _ _ c0) (fun f => f)).trans c0
  have d1 := (s1.cell (World.block_lt_of_cell? _ _ c1) (fun f => f)).trans c1
  have hw1 : Same w W1 := Fr.trans sa s1 (fun _ _ f => f)
  clear c0 c1 c2 c3 c4 c5 c6 s1 sa
  go_wp2_with fail
  refine (HX.out _).mono ?_
  rintro e W2 ⟨rfl, s2⟩
  go_wp2_with fail
  go_ret
  exact ⟨rfl, Fr.trans hw1 s2 (fun _ _ f => f)⟩
set_option maxRecDepth 100000 in
set_option maxHeartbeats 1000000 in
theorem laid_9 {w : World} (n : Nat) (hn : n < 18446744073709551616) (i : Int) (s : ByteArray) (pa : Option Addr) (pl pc : Nat) (na : Option Addr) (nl nc : Nat) (wd : Int) (m : Nat) (bd : Int) :
    Calls Try.prog 9 #[stepV 9 n i s pa pl pc na nl nc wd m bd] w fun e w' => e = .returned (.string ⟨(freeB n).toArray⟩) ∧ Same w w' := by
  have HX : Hid (∀ W, Calls Try.prog 30 #[.int .u64 n] W fun e w' => e = .returned (.string ⟨(freeB n).toArray⟩) ∧ Same W w') := fun W => xfreeB_calls n W hn
  generalize (⟨(freeB n).toArray⟩ : ByteArray) = T at *
  obtain ⟨c0, c1, c2, c3, c4, c5, c6⟩ := step_cells w 9 n i s pa pl pc na nl nc wd m bd
  have sa : Same w (w.alloc (stepC 9 n i s pa pl pc na nl nc wd m bd)) := (Fr.refl _ w).alloc _
  go_enter Try.func9, Try.ntmps9
  go_wp2_with fail
  refine (lsize_other _ 9 (by omega)).mono ?_
  rintro e W1 ⟨rfl, s1⟩
  have d0 := (s1.cell (World.block_lt_of_cell? _ _ c0) (fun f => f)).trans c0
  have d1 := (s1.cell (World.block_lt_of_cell? _ _ c1) (fun f => f)).trans c1
  have hw1 : Same w W1 := Fr.trans sa s1 (fun _ _ f => f)
  clear c0 c1 c2 c3 c4 c5 c6 s1 sa
  go_wp2_with fail
  refine (HX.out _).mono ?_
  rintro e W2 ⟨rfl, s2⟩
  go_wp2_with fail
  go_ret
  exact ⟨rfl, Fr.trans hw1 s2 (fun _ _ f => f)⟩
set_option maxRecDepth 100000 in
set_option maxHeartbeats 1000000 in
theorem laid_10 {w : World} (n : Nat) (_hn : n < 18446744073709551616) (i : Int) (s : ByteArray) (pa : Option Addr) (pl pc : Nat) (na : Option Addr) (nl nc : Nat) (wd : Int) (m : Nat) (bd : Int) (h0 : -9223372036854775808 ≤ i) (h1 : i ≤ 9223372036854775807) :
    Calls Try.prog 9 #[stepV 10 n i s pa pl pc na nl nc wd m bd] w fun e w' => e = .returned (.string ⟨(freeB (zig i)).toArray⟩) ∧ Same w w' := by
  have HX : Hid (∀ W, Calls Try.prog 55 #[.int .i64 i] W fun e w' => e = .returned (.string ⟨(freeB (zig i)).toArray⟩) ∧ Same W w') := fun W => xsigned_calls i h0 h1 W
  generalize (⟨(freeB (zig i)).toArray⟩ : ByteArray) = T at *
  obtain ⟨c0, c1, c2, c3, c4, c5, c6⟩ := step_cells w 10 n i s pa pl pc na nl nc wd m bd
  have sa : Same w (w.alloc (stepC 10 n i s pa pl pc na nl nc wd m bd)) := (Fr.refl _ w).alloc _
  go_enter Try.func9, Try.ntmps9
  go_wp2_with fail
  refine (lsize_other _ 10 (by omega)).mono ?_
  rintro e W1 ⟨rfl, s1⟩
  have d0 := (s1.cell (World.block_lt_of_cell? _ _ c0) (fun f => f)).trans c0
  have d2 := (s1.cell (World.block_lt_of_cell? _ _ c2) (fun f => f)).trans c2
  have hw1 : Same w W1 := Fr.trans sa s1 (fun _ _ f => f)
  clear c0 c1 c2 c3 c4 c5 c6 s1 sa
  go_wp2_with fail
  refine (HX.out _).mono ?_
  rintro e W2 ⟨rfl, s2⟩
  go_wp2_with fail
  go_ret
  exact ⟨rfl, Fr.trans hw1 s2 (fun _ _ f => f)⟩
set_option maxRecDepth 100000 in
set_option maxHeartbeats 1000000 in
theorem laid_12 {w : World} (n : Nat) (_hn : n < 18446744073709551616) (i : Int) (s : ByteArray) (pa : Option Addr) (pl pc : Nat) (na : Option Addr) (nl nc : Nat) (wd : Int) (m : Nat) (bd : Int) (hs : s.size ≤ 1000000000000) :
    Calls Try.prog 9 #[stepV 12 n i s pa pl pc na nl nc wd m bd] w fun e w' => e = .returned (.string ⟨(textB s).toArray⟩) ∧ Same w w' := by
  have HX : Hid (∀ W, Calls Try.prog 56 #[.string s] W fun e w' => e = .returned (.string ⟨(textB s).toArray⟩) ∧ Same W w') := fun W => xtext_calls s hs W
  generalize (⟨(textB s).toArray⟩ : ByteArray) = T at *
  obtain ⟨c0, c1, c2, c3, c4, c5, c6⟩ := step_cells w 12 n i s pa pl pc na nl nc wd m bd
  have sa : Same w (w.alloc (stepC 12 n i s pa pl pc na nl nc wd m bd)) := (Fr.refl _ w).alloc _
  go_enter Try.func9, Try.ntmps9
  go_wp2_with fail
  refine (lsize_other _ 12 (by omega)).mono ?_
  rintro e W1 ⟨rfl, s1⟩
  have d0 := (s1.cell (World.block_lt_of_cell? _ _ c0) (fun f => f)).trans c0
  have d3 := (s1.cell (World.block_lt_of_cell? _ _ c3) (fun f => f)).trans c3
  have hw1 : Same w W1 := Fr.trans sa s1 (fun _ _ f => f)
  clear c0 c1 c2 c3 c4 c5 c6 s1 sa
  go_wp2_with fail
  refine (HX.out _).mono ?_
  rintro e W2 ⟨rfl, s2⟩
  go_wp2_with fail
  go_ret
  exact ⟨rfl, Fr.trans hw1 s2 (fun _ _ f => f)⟩
set_option maxRecDepth 100000 in
set_option maxHeartbeats 1000000 in
theorem laid_13 {w : World} (n : Nat) (_hn : n < 18446744073709551616) (i : Int) (s : ByteArray) (pa : Option Addr) (pl pc : Nat) (na : Option Addr) (nl nc : Nat) (wd : Int) (m : Nat) (bd : Int) (hs : s.size ≤ 1000000000000) :
    Calls Try.prog 9 #[stepV 13 n i s pa pl pc na nl nc wd m bd] w fun e w' => e = .returned (.string ⟨((dig32 s).take (widthN wd)).toArray⟩) ∧ Same w w' := by
  have HX : Hid (∀ W, Calls Try.prog 57 #[.int .i64 wd, .agg (bcells (dig32 s)).toArray] W fun e w' => e = .returned (.string ⟨((dig32 s).take (widthN wd)).toArray⟩) ∧ Same W w') := fun W => xdigest_calls wd (dig32 s) (dig32_length s) W
  have HD : Hid (∀ W, Calls Try.prog 48 #[.string s] W fun e w' => e = .returned (.agg (bcells (dig32 s)).toArray) ∧ Same W w') := fun W => ldigest_calls W s (by omega)
  generalize (⟨((dig32 s).take (widthN wd)).toArray⟩ : ByteArray) = T at *
  generalize (bcells (dig32 s)).toArray = A at *
  obtain ⟨c0, c1, c2, c3, c4, c5, c6⟩ := step_cells w 13 n i s pa pl pc na nl nc wd m bd
  have sa : Same w (w.alloc (stepC 13 n i s pa pl pc na nl nc wd m bd)) := (Fr.refl _ w).alloc _
  go_enter Try.func9, Try.ntmps9
  go_wp2_with fail
  refine (lsize_other _ 13 (by omega)).mono ?_
  rintro e W1 ⟨rfl, s1⟩
  have d0 := (s1.cell (World.block_lt_of_cell? _ _ c0) (fun f => f)).trans c0
  have d3 := (s1.cell (World.block_lt_of_cell? _ _ c3) (fun f => f)).trans c3
  have d6 := (s1.cell (World.block_lt_of_cell? _ _ c6) (fun f => f)).trans c6
  have hw1 : Same w W1 := Fr.trans sa s1 (fun _ _ f => f)
  clear c0 c1 c2 c3 c4 c5 c6 s1 sa
  go_wp2_with fail
  go_region_held3 (fun w' => w'.cell? ⟨w.heap.size, 3, none⟩ = some (.string s) ∧ w'.cell? ⟨w.heap.size, 6, none⟩ = some (.int .i64 wd)) (first | go_keep | exact ⟨k3, k6⟩ | exact ⟨j3, j6⟩)
    (first
      | (go_at_call 48; refine (HD.out _).mono ?_; rintro e W2 ⟨rfl, s2⟩; have k3 := (Fr.cell (S := fun _ => False) s2 (p := ⟨w.heap.size, 3, none⟩) (World.block_lt_of_cell? _ _ d3) (fun f => f)).trans d3; have k6 := (Fr.cell (S := fun _ => False) s2 (p := ⟨w.heap.size, 6, none⟩) (World.block_lt_of_cell? _ _ d6) (fun f => f)).trans d6)
      | (go_at_call 57; refine (HX.out _).mono ?_; rintro e W3 ⟨rfl, s3⟩; have j3 := (s3.cell (p := ⟨w.heap.size, 3, none⟩) (World.block_lt_of_cell? _ _ k3) (fun f => f)).trans k3; have j6 := (s3.cell (p := ⟨w.heap.size, 6, none⟩) (World.block_lt_of_cell? _ _ k6) (fun f => f)).trans k6))
  go_wp2_with fail
  go_ret
  exact ⟨rfl, Fr.trans (Fr.trans hw1 (Fr.trans (Fr.drew (Fr.refl _ W1)) s2 (fun _ _ f => f)) (fun _ _ f => f)) s3 (fun _ _ f => f)⟩
set_option maxRecDepth 100000 in
set_option maxHeartbeats 1000000 in
theorem laid_15 {w : World} (n : Nat) (_hn : n < 18446744073709551616) (i : Int) (s : ByteArray) (pa : Option Addr) (pl pc : Nat) (na : Option Addr) (nl nc : Nat) (wd : Int) (m : Nat) (bd : Int) (B : Nat) (ss : List ByteArray) (he : ElemIn Value.string B w (.slice pa pl pc) ss) (hl : sumB ss ≤ 1048576) (hB : B ≤ w.heap.size) :
    Calls Try.prog 9 #[stepV 15 n i s pa pl pc na nl nc wd m bd] w fun e w' => e = .returned (.string ⟨(freeB ss.length ++ laidAll textB ss).toArray⟩) ∧ Same w w' := by
  have HX : Hid (∀ W, Same w W → Calls Try.prog 58 #[.slice pa pl pc] W fun e w' => e = .returned (.string ⟨(freeB ss.length ++ laidAll textB ss).toArray⟩) ∧ Same W w') := fun W hW => xjoin_calls ss (he.below (Fr.below hW hB (fun _ f => f.elim))) hl
  generalize (⟨(freeB ss.length ++ laidAll textB ss).toArray⟩ : ByteArray) = T at *
  clear he
  obtain ⟨c0, c1, c2, c3, c4, c5, c6⟩ := step_cells w 15 n i s pa pl pc na nl nc wd m bd
  have sa : Same w (w.alloc (stepC 15 n i s pa pl pc na nl nc wd m bd)) := (Fr.refl _ w).alloc _
  go_enter Try.func9, Try.ntmps9
  go_wp2_with fail
  refine (lsize_other _ 15 (by omega)).mono ?_
  rintro e W1 ⟨rfl, s1⟩
  have d0 := (s1.cell (World.block_lt_of_cell? _ _ c0) (fun f => f)).trans c0
  have d4 := (s1.cell (World.block_lt_of_cell? _ _ c4) (fun f => f)).trans c4
  have hw1 : Same w W1 := Fr.trans sa s1 (fun _ _ f => f)
  clear c0 c1 c2 c3 c4 c5 c6 s1 sa
  go_wp2_with fail
  refine (HX.out _ hw1).mono ?_
  rintro e W2 ⟨rfl, s2⟩
  go_wp2_with fail
  go_ret
  exact ⟨rfl, Fr.trans hw1 s2 (fun _ _ f => f)⟩
set_option maxRecDepth 100000 in
set_option maxHeartbeats 1000000 in
theorem laid_16 {w : World} (n : Nat) (_hn : n < 18446744073709551616) (i : Int) (s : ByteArray) (pa : Option Addr) (pl pc : Nat) (na : Option Addr) (nl nc : Nat) (wd : Int) (m : Nat) (bd : Int) (B : Nat) (ss : List ByteArray) (he : ElemIn Value.string B w (.slice pa pl pc) ss) (hl : sumB ss ≤ 1048576) (hB : B ≤ w.heap.size) :
    Calls Try.prog 9 #[stepV 16 n i s pa pl pc na nl nc wd m bd] w fun e w' => e = .returned (.string ⟨(freeB ss.length ++ laidAll textB ss).toArray⟩) ∧ Same w w' := by
  have HX : Hid (∀ W, Same w W → Calls Try.prog 58 #[.slice pa pl pc] W fun e w' => e = .returned (.string ⟨(freeB ss.length ++ laidAll textB ss).toArray⟩) ∧ Same W w') := fun W hW => xjoin_calls ss (he.below (Fr.below hW hB (fun _ f => f.elim))) hl
  generalize (⟨(freeB ss.length ++ laidAll textB ss).toArray⟩ : ByteArray) = T at *
  clear he
  obtain ⟨c0, c1, c2, c3, c4, c5, c6⟩ := step_cells w 16 n i s pa pl pc na nl nc wd m bd
  have sa : Same w (w.alloc (stepC 16 n i s pa pl pc na nl nc wd m bd)) := (Fr.refl _ w).alloc _
  go_enter Try.func9, Try.ntmps9
  go_wp2_with fail
  refine (lsize_other _ 16 (by omega)).mono ?_
  rintro e W1 ⟨rfl, s1⟩
  have d0 := (s1.cell (World.block_lt_of_cell? _ _ c0) (fun f => f)).trans c0
  have d4 := (s1.cell (World.block_lt_of_cell? _ _ c4) (fun f => f)).trans c4
  have hw1 : Same w W1 := Fr.trans sa s1 (fun _ _ f => f)
  clear c0 c1 c2 c3 c4 c5 c6 s1 sa
  go_wp2_with fail
  refine (HX.out _ hw1).mono ?_
  rintro e W2 ⟨rfl, s2⟩
  go_wp2_with fail
  go_ret
  exact ⟨rfl, Fr.trans hw1 s2 (fun _ _ f => f)⟩
set_option maxRecDepth 100000 in
set_option maxHeartbeats 1000000 in
theorem laid_11 {w : World} (n : Nat) (_hn : n < 18446744073709551616) (i : Int) (s : ByteArray) (pa : Option Addr) (pl pc : Nat) (na : Option Addr) (nl nc : Nat) (wd : Int) (m : Nat) (bd : Int) (B : Nat) (ss : List ByteArray) (he : ElemIn Value.string B w (.slice pa pl pc) ss) (hl : sumB ss ≤ 1048576) :
    Calls Try.prog 9 #[stepV 11 n i s pa pl pc na nl nc wd m bd] w fun e w' => e = .returned (.string ⟨(flat ss).toArray⟩) ∧ Same w w' := by
  obtain ⟨ad, cp, hv, hsl, hel⟩ := he
  injection hv with hv1 hv2 hv3
  subst hv1; subst hv2; subst hv3
  obtain ⟨c0, c1, c2, c3, c4, c5, c6⟩ := step_cells w 11 n i s pa ss.length pc na nl nc wd m bd
  have sa : Same w (w.alloc (stepC 11 n i s pa ss.length pc na nl nc wd m bd)) := (Fr.refl _ w).alloc _
  go_enter Try.func9, Try.ntmps9
  go_wp2_with fail
  refine (lsize_other _ 11 (by omega)).mono ?_
  rintro e W1 ⟨rfl, s1⟩
  have d0 := (s1.cell (World.block_lt_of_cell? _ _ c0) (fun f => f)).trans c0
  have d4 := (s1.cell (World.block_lt_of_cell? _ _ c4) (fun f => f)).trans c4
  have hw1 : Same w W1 := Fr.trans sa s1 (fun _ _ f => f)
  clear c0 c1 c2 c3 c4 c5 c6 s1 sa
  go_wp2_with fail
  go_loopw [4, 5] (fun sv iv wr => ∃ (k : Nat) (T : ByteArray), iv = .int .i64 k ∧ k ≤ ss.length ∧ sv = .string T ∧ T = ⟨(flat (ss.take k)).toArray⟩ ∧ Same W1 wr)
    (fun _ iv _ => ss.length - (intOf iv).toNat)
  case atStart => exact ⟨0, ⟨#[]⟩, rfl, by omega, rfl, rfl, Fr.refl _ _⟩
  case round =>
    obtain ⟨k, T, rfl, hk, rfl, hT, hst⟩ := hrel
    have g4 := (hst.cell (World.block_lt_of_cell? _ _ d4) (fun f => f)).trans d4
    by_cases hgo : k < ss.length
    · rcases hel with rfl | ⟨ab, ao, rfl, hlt, hel⟩
      · simp at hgo
      have hx := hel k ss[k] (List.getElem?_eq_getElem hgo)
      have hx0 := (hw1.cell (p := ⟨ab, ao + k, none⟩) (World.block_lt_of_cell? _ _ hx) (fun f => f)).trans hx
      have hx1 := (hst.cell (p := ⟨ab, ao + k, none⟩) (World.block_lt_of_cell? _ _ hx0) (fun f => f)).trans hx0
      have hsz := sumB_mem (List.getElem_mem hgo)
      have h1 := flat_take_le ss k
      have h2 := flat_sumB ss
      have hTs : T.size ≤ 20000000 := by rw [hT, str_size]; omega
      have hadd := fun W => run_string_add_sum (P := Try.prog) W T ss[k] (by omega)
      have HN : Hid (T ++ ss[k] = ⟨(flat (ss.take (k + 1))).toArray⟩) := by
        show _ = _
        rw [flat_take_succ ss k hgo, hT, ← str_append, Lib.mk_data]
      have i0 : (0 : Int) ≤ (k : Int) := by omega
      have i1 : (k : Int) < (ss.length : Int) := by omega
      generalize hs0 : ss[k] = s0 at *
      clear hT hx hx0 hel h1 h2 hsz
      go_wp2_with fail
      go_roundw
      case rel => exact ⟨k + 1, _, by go_num, by omega, rfl, HN.out, hst⟩
      case measure => simp [intOf]; omega
    · obtain rfl : k = ss.length := by omega
      rw [List.take_length] at hT
      go_wp2_with fail
      go_ret
      exact ⟨by rw [← hT]; rfl, Fr.trans hw1 hst (fun _ _ f => f)⟩
set_option maxRecDepth 100000 in
set_option maxHeartbeats 1000000 in
theorem laid_14 {w : World} (n : Nat) (_hn : n < 18446744073709551616) (i : Int) (s : ByteArray) (pa : Option Addr) (pl pc : Nat) (na : Option Addr) (nl nc : Nat) (wd : Int) (m : Nat) (bd : Int) (B : Nat) (ss : List Nat) (he : ElemIn vNum B w (.slice na nl nc) ss) (hl : ss.length ≤ 1048576) (hss : ∀ x ∈ ss, x < 18446744073709551616) :
    Calls Try.prog 9 #[stepV 14 n i s pa pl pc na nl nc wd m bd] w fun e w' => e = .returned (.string ⟨(freeB ss.length ++ laidAll freeB ss).toArray⟩) ∧ Same w w' := by
  obtain ⟨ad, cp, hv, hsl, hel⟩ := he
  injection hv with hv1 hv2 hv3
  subst hv1; subst hv2; subst hv3
  have HX : Hid (∀ W, Calls Try.prog 30 #[.int .u64 (ss.length : Int)] W fun e w' => e = .returned (.string ⟨(freeB ss.length).toArray⟩) ∧ Same W w') := fun W => xfreeB_calls ss.length W (by omega)
  obtain ⟨c0, c1, c2, c3, c4, c5, c6⟩ := step_cells w 14 n i s pa pl pc na ss.length nc wd m bd
  have sa : Same w (w.alloc (stepC 14 n i s pa pl pc na ss.length nc wd m bd)) := (Fr.refl _ w).alloc _
  go_enter Try.func9, Try.ntmps9
  go_wp2_with fail
  refine (lsize_other _ 14 (by omega)).mono ?_
  rintro e W1 ⟨rfl, s1⟩
  have d0 := (s1.cell (World.block_lt_of_cell? _ _ c0) (fun f => f)).trans c0
  have d5 := (s1.cell (World.block_lt_of_cell? _ _ c5) (fun f => f)).trans c5
  have hw1 : Same w W1 := Fr.trans sa s1 (fun _ _ f => f)
  clear c0 c1 c2 c3 c4 c5 c6 s1 sa
  go_wp2_with fail
  refine (HX.out _).mono ?_
  rintro e W2 ⟨rfl, s2⟩
  have e5 := (s2.cell (World.block_lt_of_cell? _ _ d5) (fun f => f)).trans d5
  have hw2 : Same w W2 := Fr.trans hw1 s2 (fun _ _ f => f)
  go_wp2_with fail
  go_loopw [4, 6] (fun sv iv wr => ∃ (k : Nat) (T : ByteArray), iv = .int .i64 k ∧ k ≤ ss.length ∧ sv = .string T ∧ T = ⟨(freeB ss.length ++ laidAll freeB (ss.take k)).toArray⟩ ∧ Same W2 wr)
    (fun _ iv _ => ss.length - (intOf iv).toNat)
  case atStart => exact ⟨0, _, rfl, by omega, rfl, by simp [laidAll], Fr.refl _ _⟩
  case round =>
    obtain ⟨k, T, rfl, hk, rfl, hT, hst⟩ := hrel
    have g5 := (hst.cell (World.block_lt_of_cell? _ _ e5) (fun f => f)).trans e5
    by_cases hgo : k < ss.length
    · rcases hel with rfl | ⟨ab, ao, rfl, hlt, hel⟩
      · simp at hgo
      have hx := hel k ss[k] (List.getElem?_eq_getElem hgo)
      have hx0 := (hw2.cell (p := ⟨ab, ao + k, none⟩) (World.block_lt_of_cell? _ _ hx) (fun f => f)).trans hx
      have hx1 := (hst.cell (p := ⟨ab, ao + k, none⟩) (World.block_lt_of_cell? _ _ hx0) (fun f => f)).trans hx0
      have HT : Hid (∀ W, Calls Try.prog 30 #[.int .u64 (ss[k] : Int)] W fun e w' => e = .returned (.string ⟨(freeB ss[k]).toArray⟩) ∧ Same W w') := fun W => xfreeB_calls ss[k] W (hss ss[k] (List.getElem_mem hgo))
      have h1 := laid_free_len (ss.take k)
      rw [List.length_take] at h1
      have h3 := freeB_length ss.length
      have h4 := freeB_length ss[k]
      have hTs : T.size ≤ 20000000 := by rw [hT, str_size, List.length_append]; omega
      obtain ⟨U, hU⟩ : ∃ U : ByteArray, U = ⟨(freeB ss[k]).toArray⟩ := ⟨_, rfl⟩
      have hUs : U.size ≤ 20000000 := by rw [hU, str_size]; omega
      rw [← hU] at HT
      have hadd := fun W => run_string_add_sum (P := Try.prog) W T U (by omega)
      have HN : Hid (T ++ U = ⟨(freeB ss.length ++ laidAll freeB (ss.take (k + 1))).toArray⟩) := by
        show _ = _
        rw [hT, hU, str_append, List.take_succ_eq_append_getElem hgo, laidAll_snoc, List.append_assoc]
      have i0 : (0 : Int) ≤ (k : Int) := by omega
      have i1 : (k : Int) < (ss.length : Int) := by omega
      generalize hs0 : ss[k] = s0 at *
      clear hT hU hx hx0 hel h1 h3 h4 e5 d5
      go_wp2_with fail
      refine (HT.out _).mono ?_
      rintro e W3 ⟨rfl, s3⟩
      go_wp2_with fail
      go_roundw
      case rel => exact ⟨k + 1, _, by go_num, by omega, rfl, HN.out, Fr.trans hst s3 (fun _ _ f => f)⟩
      case measure => simp [intOf]; omega
    · obtain rfl : k = ss.length := by omega
      rw [List.take_length] at hT
      go_wp2_with fail
      go_ret
      exact ⟨by rw [← hT]; rfl, Fr.trans hw2 hst (fun _ _ f => f)⟩
set_option maxRecDepth 100000 in
set_option maxHeartbeats 1000000 in
theorem laid_none {w : World} (kd : Int) (hk : kd < 0 ∨ 16 < kd) (n : Nat) (i : Int) (s : ByteArray) (pa : Option Addr) (pl pc : Nat) (na : Option Addr) (nl nc : Nat) (wd : Int) (m : Nat) (bd : Int) :
    Calls Try.prog 9 #[stepV kd n i s pa pl pc na nl nc wd m bd] w fun e w' => e = .returned (.string ⟨#[]⟩) ∧ Same w w' := by
  have n9 : ¬ kd = 9 := by omega
  have n10 : ¬ kd = 10 := by omega
  have n11 : ¬ kd = 11 := by omega
  have n12 : ¬ kd = 12 := by omega
  have n13 : ¬ kd = 13 := by omega
  have n14 : ¬ kd = 14 := by omega
  have n15 : ¬ kd = 15 := by omega
  have n16 : ¬ kd = 16 := by omega
  obtain ⟨c0, c1, c2, c3, c4, c5, c6⟩ := step_cells w kd n i s pa pl pc na nl nc wd m bd
  have sa : Same w (w.alloc (stepC kd n i s pa pl pc na nl nc wd m bd)) := (Fr.refl _ w).alloc _
  go_enter Try.func9, Try.ntmps9
  go_wp2_with fail
  refine (lsize_other _ kd (by omega)).mono ?_
  rintro e W1 ⟨rfl, s1⟩
  have d0 := (s1.cell (World.block_lt_of_cell? _ _ c0) (fun f => f)).trans c0
  have hw1 : Same w W1 := Fr.trans sa s1 (fun _ _ f => f)
  clear hk c0 c1 c2 c3 c4 c5 c6 s1 sa
  go_wp2_with fail
  go_ret
  exact ⟨rfl, hw1⟩

theorem laid_any {w : World} {B : Nat} {v : Value} (t : StepP) (ok : StepOK t) (hin : StepIn B w v t) (hB : B ≤ w.heap.size) :
    Calls Try.prog 9 #[v] w fun e w' => e = .returned (.string ⟨(encS t).toArray⟩) ∧ Same w w' := by
  obtain ⟨pa, pl, pc, na, nl, nc, rfl, h1, h2⟩ := hin
  obtain ⟨on, oi0, oi1, ons, ow, _⟩ := ok
  obtain ⟨kd, n, i, s, parts, ns, wd, m, bd⟩ := t
  simp only [wt] at ow
  simp only at *
  by_cases k0 : kd = 0
  · subst k0; exact laid_0 n on i s pa pl pc na nl nc wd m bd
  by_cases k1 : kd = 1
  · subst k1; exact laid_1 n on i s pa pl pc na nl nc wd m bd
  by_cases k2 : kd = 2
  · subst k2; exact laid_2 n on i s pa pl pc na nl nc wd m bd
  by_cases k3 : kd = 3
  · subst k3; exact laid_3 n on i s pa pl pc na nl nc wd m bd
  by_cases k4 : kd = 4
  · subst k4; exact laid_4 n on i s pa pl pc na nl nc wd m bd
  by_cases k5 : kd = 5
  · subst k5; exact laid_5 n on i s pa pl pc na nl nc wd m bd
  by_cases k6 : kd = 6
  · subst k6; exact laid_6 n on i s pa pl pc na nl nc wd m bd
  by_cases k7 : kd = 7
  · subst k7; exact laid_7 n on i s pa pl pc na nl nc wd m bd
  by_cases k8 : kd = 8
  · subst k8; exact laid_8 n on i s pa pl pc na nl nc wd m bd
  by_cases k9 : kd = 9
  · subst k9; exact laid_9 n on i s pa pl pc na nl nc wd m bd
  by_cases k10 : kd = 10
  · subst k10; exact laid_10 n on i s pa pl pc na nl nc wd m bd oi0 oi1
  by_cases k11 : kd = 11
  · subst k11; exact laid_11 n on i s pa pl pc na nl nc wd m bd B parts h1 (by omega)
  by_cases k12 : kd = 12
  · subst k12; exact laid_12 n on i s pa pl pc na nl nc wd m bd (by omega)
  by_cases k13 : kd = 13
  · subst k13; exact laid_13 n on i s pa pl pc na nl nc wd m bd (by omega)
  by_cases k14 : kd = 14
  · subst k14; exact laid_14 n on i s pa pl pc na nl nc wd m bd B ns h2 (by omega) ons
  by_cases k15 : kd = 15
  · subst k15; exact laid_15 n on i s pa pl pc na nl nc wd m bd B parts h1 (by omega) hB
  by_cases k16 : kd = 16
  · subst k16; exact laid_16 n on i s pa pl pc na nl nc wd m bd B parts h1 (by omega) hB
  have e : encS ⟨kd, n, i, s, parts, ns, wd, m, bd⟩ = [] := by simp [encS, *]
  rw [e]
  exact laid_none kd (by omega) n i s pa pl pc na nl nc wd m bd
end Go.Proofs.Ytcbbjicoedeioaa
