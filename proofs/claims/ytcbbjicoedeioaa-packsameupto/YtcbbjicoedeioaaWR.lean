/-
  Walks: a step read back ('back'): the kinds of one free number, and a text.
-/
import Derived.Test.YtcbbjicoedeioaaWQ
import Derived.Deep.RegionHeld3
namespace Go.Proofs.Ytcbbjicoedeioaa
open Go.RowKit

theorem zag_zig (n : Int) : zag (zig n) = n := by
  unfold zag zig
  by_cases h : n < 0
  · rw [if_pos h, if_pos (by omega)]; omega
  · rw [if_neg h, if_neg (by omega)]; omega
set_option maxRecDepth 100000 in
set_option maxHeartbeats 1000000 in
theorem back_9 {w : World} {b : Nat} {S : ByteArray} {p : Nat} (n : Nat) (hn : n < 18446744073709551616) (i : Int) (s : ByteArray) (pa : Option Addr) (pl pc : Nat) (na : Option Addr) (nl nc : Nat) (wd : Int) (m : Nat) (bd : Int) (h : RdAt w b S p 0) (r : List UInt8) (hst : Stands S p (freeB n) r) :
    Calls Try.prog 32 #[.pointer (some ⟨b, 0, none⟩), stepV 9 n i s pa pl pc na nl nc wd m bd] w fun e w' => e = .returned (.bool true) ∧ RdAt w' b S (p + (freeB n).length) 0 ∧ RdStep b w w' := by
  have hbw := h.lt
  have HX : Hid (∀ W, RdAt W b S p 0 → Calls Try.prog 18 #[.pointer (some ⟨b, 0, none⟩), .int .u64 n] W fun e w' => e = .returned (.int .u64 n) ∧ RdAt w' b S (p + (freeB n).length) 0 ∧ RdStep b W w') := fun W hW => by
    have := rfree_calls hW n hn
    rw [rFree_at hst hn (Nat.le_refl _)] at this
    exact this
  obtain ⟨c0, c1, c2, c3, c4, c5, c6⟩ := step_cells w 9 n i s pa pl pc na nl nc wd m bd
  have sa : Same w (w.alloc (stepC 9 n i s pa pl pc na nl nc wd m bd)) := (Fr.refl _ w).alloc _
  go_enter Try.func32, Try.ntmps32
  go_wp2_with fail
  refine (lsize_other _ 9 (by omega)).mono ?_
  rintro e W1 ⟨rfl, s1⟩
  have d0 := (s1.cell (World.block_lt_of_cell? _ _ c0) (fun f => f)).trans c0
  have d1 := (s1.cell (World.block_lt_of_cell? _ _ c1) (fun f => f)).trans c1
  have hw1 : Same w W1 := Fr.trans sa s1 (fun _ _ f => f)
  have h1 := h.same hw1
  clear c0 c1 c2 c3 c4 c5 c6 s1 sa
  go_wp2_with fail
  go_region_held3 (fun w' => w'.cell? ⟨w.heap.size, 1, none⟩ = some (.int .u64 n)) (first | go_keep | exact d2)
    (first | (go_at_call 18; refine (HX.out _ ?_).mono ?_; (exact h1.same ((Fr.refl _ W1).drew)); rintro e W2 ⟨rfl, h2, st2⟩; have d2 := (st2.cell (World.block_lt_of_cell? _ _ d1) (by simp only; omega)).trans d1))
  go_wp2_with fail
  go_ret
  exact ⟨by simp, h2, RdStep.trans (Same.rd hw1 b) (RdStep.trans (Fr.drew (Fr.refl _ W1)) st2)⟩
set_option maxRecDepth 100000 in
set_option maxHeartbeats 1000000 in
theorem back_10 {w : World} {b : Nat} {S : ByteArray} {p : Nat} (n : Nat) (_hn : n < 18446744073709551616) (i : Int) (hi0 : -9223372036854775808 ≤ i) (hi1 : i ≤ 9223372036854775807) (s : ByteArray) (pa : Option Addr) (pl pc : Nat) (na : Option Addr) (nl nc : Nat) (wd : Int) (m : Nat) (bd : Int) (h : RdAt w b S p 0) (r : List UInt8) (hst : Stands S p (freeB (zig i)) r) :
    Calls Try.prog 32 #[.pointer (some ⟨b, 0, none⟩), stepV 10 n i s pa pl pc na nl nc wd m bd] w fun e w' => e = .returned (.bool true) ∧ RdAt w' b S (p + (freeB (zig i)).length) 0 ∧ RdStep b w w' := by
  have hbw := h.lt
  have HX : Hid (∀ W, RdAt W b S p 0 → Calls Try.prog 19 #[.pointer (some ⟨b, 0, none⟩)] W fun e w' => e = .returned (.int .i64 i) ∧ RdAt w' b S (p + (freeB (zig i)).length) 0 ∧ RdStep b W w') := fun W hW => by
    have := rsigned_calls hW
    rw [rFree_at hst (zig_lt i hi0 hi1) (by have := zig_lt i hi0 hi1; omega)] at this
    simp only [zag_zig] at this
    exact this
  obtain ⟨c0, c1, c2, c3, c4, c5, c6⟩ := step_cells w 10 n i s pa pl pc na nl nc wd m bd
  have sa : Same w (w.alloc (stepC 10 n i s pa pl pc na nl nc wd m bd)) := (Fr.refl _ w).alloc _
  go_enter Try.func32, Try.ntmps32
  go_wp2_with fail
  refine (lsize_other _ 10 (by omega)).mono ?_
  rintro e W1 ⟨rfl, s1⟩
  have d0 := (s1.cell (World.block_lt_of_cell? _ _ c0) (fun f => f)).trans c0
  have d1 := (s1.cell (World.block_lt_of_cell? _ _ c2) (fun f => f)).trans c2
  have hw1 : Same w W1 := Fr.trans sa s1 (fun _ _ f => f)
  have h1 := h.same hw1
  clear c0 c1 c2 c3 c4 c5 c6 s1 sa
  go_wp2_with fail
  go_region_held3 (fun w' => w'.cell? ⟨w.heap.size, 2, none⟩ = some (.int .i64 i)) (first | go_keep | exact d2)
    (first | (go_at_call 19; refine (HX.out _ ?_).mono ?_; (exact h1.same ((Fr.refl _ W1).drew)); rintro e W2 ⟨rfl, h2, st2⟩; have d2 := (st2.cell (World.block_lt_of_cell? _ _ d1) (by simp only; omega)).trans d1))
  go_wp2_with fail
  go_ret
  exact ⟨by simp, h2, RdStep.trans (Same.rd hw1 b) (RdStep.trans (Fr.drew (Fr.refl _ W1)) st2)⟩
set_option maxRecDepth 100000 in
set_option maxHeartbeats 1000000 in
theorem back_12 {w : World} {b : Nat} {S : ByteArray} {p : Nat} (n : Nat) (_hn : n < 18446744073709551616) (i : Int) (s : ByteArray) (hs : s.size ≤ 1000000000000) (pa : Option Addr) (pl pc : Nat) (na : Option Addr) (nl nc : Nat) (wd : Int) (m : Nat) (bd : Int) (h : RdAt w b S p 0) (r : List UInt8) (hst : Stands S p (textB s) r) :
    Calls Try.prog 32 #[.pointer (some ⟨b, 0, none⟩), stepV 12 n i s pa pl pc na nl nc wd m bd] w fun e w' => e = .returned (.bool true) ∧ RdAt w' b S (p + (textB s).length) 0 ∧ RdStep b w w' := by
  have hbw := h.lt
  have HX : Hid (∀ W, RdAt W b S p 0 → Calls Try.prog 21 #[.pointer (some ⟨b, 0, none⟩), .int .i64 (s.size : Int)] W fun e w' => e = .returned (.string s) ∧ RdAt w' b S (p + (textB s).length) 0 ∧ RdStep b W w') := fun W hW => by
    have := rtext_calls hW (s.size : Int) (by omega)
    rw [rText_at hst (by omega) (Int.le_refl _)] at this
    exact this
  obtain ⟨c0, c1, c2, c3, c4, c5, c6⟩ := step_cells w 12 n i s pa pl pc na nl nc wd m bd
  have sa : Same w (w.alloc (stepC 12 n i s pa pl pc na nl nc wd m bd)) := (Fr.refl _ w).alloc _
  go_enter Try.func32, Try.ntmps32
  go_wp2_with fail
  refine (lsize_other _ 12 (by omega)).mono ?_
  rintro e W1 ⟨rfl, s1⟩
  have d0 := (s1.cell (World.block_lt_of_cell? _ _ c0) (fun f => f)).trans c0
  have d1 := (s1.cell (World.block_lt_of_cell? _ _ c3) (fun f => f)).trans c3
  have hw1 : Same w W1 := Fr.trans sa s1 (fun _ _ f => f)
  have h1 := h.same hw1
  clear c0 c1 c2 c3 c4 c5 c6 s1 sa
  go_wp2_with fail
  go_region_held3 (fun w' => w'.cell? ⟨w.heap.size, 3, none⟩ = some (.string s)) (first | go_keep | exact d2)
    (first | (go_at_call 21; refine (HX.out _ ?_).mono ?_; (exact h1.same ((Fr.refl _ W1).drew)); rintro e W2 ⟨rfl, h2, st2⟩; have d2 := (st2.cell (World.block_lt_of_cell? _ _ d1) (by simp only; omega)).trans d1))
  go_wp2_with fail
  go_ret
  exact ⟨by simp, h2, RdStep.trans (Same.rd hw1 b) (RdStep.trans (Fr.drew (Fr.refl _ W1)) st2)⟩
end Go.Proofs.Ytcbbjicoedeioaa
