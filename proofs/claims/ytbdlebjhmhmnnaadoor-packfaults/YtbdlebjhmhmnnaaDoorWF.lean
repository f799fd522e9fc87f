/-
  What every program does: 'lives' answers true, and leaves all that was there.
-/
import Derived.Test.YtbdlebjhmhmnnaaDoorWE
import Derived.Test.YtbdlebjhmhmnnaaDoorWA
import Derived.Test.YtbdlebjhmhmnnaaDoorW5
import Derived.Test.YtbdlebjhmhmnnaaDoorWC
namespace Go.Proofs.YtbdlebjhmhmnnaaDoor
open Go.RowKit

def liveS : ByteArray := ⟨#[1, 2, 172, 2, 1, 2, 97, 98, 120]⟩
theorem lv1 : ([] : List UInt8) ++ fixB 2 258 = [1, 2] := by decide
theorem lv2 : [1, 2] ++ freeB 300 = [1, 2, 172, 2] := by decide
theorem lv3 : [1, 2, 172, 2] ++ freeB (zig (-1)) = [1, 2, 172, 2, 1] := by decide
theorem lv4 : [1, 2, 172, 2, 1] ++ textB ⟨#[97, 98]⟩ = [1, 2, 172, 2, 1, 2, 97, 98] := by decide
theorem lv5 : rRaw liveS 0 0 2 = (⟨#[1, 2]⟩, 2, 0) := by kernel_rfl
theorem lv6 : rFree liveS 2 0 300 = (300, 4, 0) := by kernel_rfl
theorem lv7 : rFree liveS 4 0 18446744073709551615 = (1, 5, 0) := by kernel_rfl
theorem lv8 : rText liveS 5 0 2 = (⟨#[97, 98]⟩, 8, 0) := by kernel_rfl
theorem lv9 : joinB [⟨#[97]⟩, ⟨#[]⟩] = [2, 1, 97, 0] := by decide
theorem lv10 : splitR ⟨#[2, 1, 97, 0]⟩ = ([⟨#[97]⟩, ⟨#[]⟩], 4, 0) := by kernel_rfl

theorem lv11 : (⟨#[1, 2, 172, 2, 1, 2, 97, 98]⟩ : ByteArray) ++ (⟨#[120]⟩ : ByteArray) = liveS := by kernel_rfl
theorem lv12 : IntKind.u16.wrap ((beN (⟨#[1, 2]⟩ : ByteArray).data.toList : Nat) : Int) = 258 := by decide
theorem lv13 : zag 1 = -1 := by decide

set_option maxRecDepth 100000 in
set_option maxHeartbeats 2000000 in
theorem lives_calls (w : World) : Calls Tryd.prog 6 #[] w fun e w' => e = .returned (.bool true) ∧ Same w w' := by
  go_enter Tryd.func6, Tryd.ntmps6
  go_wp2_with fail
  refine (new_calls w).mono ?_
  rintro e w0 ⟨rfl, rfl⟩
  have h0 := wr_new w
  have st0 : Same w (w.alloc (.cells #[.bool true, .slice none 0 0] 58)) := (Fr.refl _ w).alloc _
  go_wp2_with fail
  refine (put_u16 258 h0 (by simp)).mono ?_
  rintro e w1 ⟨rfl, g1, h1, st1⟩
  rw [lv1] at h1
  go_wp2_with fail
  refine (wfree_calls 300 (by omega) h1 (by simp)).mono ?_
  rintro e w2 ⟨rfl, g2, h2, st2⟩
  rw [lv2] at h2
  go_wp2_with fail
  refine (wsigned_calls (-1) (by omega) (by omega) h2 (by simp)).mono ?_
  rintro e w3 ⟨rfl, g3, h3, st3⟩
  rw [lv3] at h3
  go_wp2_with fail
  refine (wtext_calls ⟨#[97, 98]⟩ h3 (by decide)).mono ?_
  rintro e w4 ⟨rfl, g4, h4, st4⟩
  rw [lv4] at h4
  have st5 : Same w w4 := by
    have := ((st1.trans st2).trans st3).trans st4
    refine Fr.trans (S := fun _ => False) st0 this.1 ?_
    rintro i hi (rfl | e)
    · omega
    · cases e
  clear h0 st0 h1 st1 h2 st2 h3 st3 st4
  go_wp2_with fail
  refine (wstring_calls h4).mono ?_
  rintro e w5 ⟨rfl, rfl⟩
  go_wp2_with fail
  rw [lv11]
  refine (open_calls w4 liveS).mono ?_
  rintro e w5 ⟨rfl, rfl⟩
  have r5 := rd_open w4 liveS (by decide)
  have st6 : Same w (w4.alloc (.cells #[.bool true, .string liveS, .int .i64 0, .int .i64 0] 63)) := Fr.alloc st5 _
  have hbig : w.heap.size ≤ w4.heap.size := st5.size
  obtain ⟨W5, hW5⟩ : ∃ W5, W5 = w4.alloc (.cells #[.bool true, .string liveS, .int .i64 0, .int .i64 0] 63) := ⟨_, rfl⟩
  rw [← hW5] at r5 st6 ⊢
  clear hW5 st5
  go_wp2_with fail
  refine (take_u16 r5).mono ?_
  rintro e w6 ⟨rfl, r6, st7⟩
  rw [lv5] at r6 ⊢
  rw [lv12]
  go_wp2_with fail
  refine (rfree_calls r6 300 (by omega)).mono ?_
  rintro e w7 ⟨rfl, r7, st8⟩
  rw [lv6] at r7 ⊢
  go_wp2_with fail
  refine (rsigned_calls r7).mono ?_
  rintro e w8 ⟨rfl, r8, st9⟩
  rw [lv7] at r8 ⊢
  rw [lv13]
  go_wp2_with fail
  refine (rtext_calls r8 2 (by decide)).mono ?_
  rintro e w9 ⟨rfl, r9, st10⟩
  rw [lv8] at r9 ⊢
  have st11 : Same w w9 := by
    have := ((st7.trans st8).trans st9).trans st10
    refine Fr.trans (S := fun _ => False) st6 this ?_
    intro i hi e; omega
  clear r5 r6 r7 r8 st6 st7 st8 st9 st10
  go_wp2_with fail
  refine (end_rest r9 (by decide)).mono ?_
  rintro e w10 ⟨q, rfl, hq, hflt, st12⟩
  have st13 : Same w w10 := Fr.trans st11 st12 (fun _ _ f => f)
  clear r9 st11 st12
  go_wp2_with fail
  have hj := join_calls (w := w10.alloc (.cells #[.string ⟨#[97]⟩, .string ⟨#[]⟩] 9)) [⟨#[97]⟩, ⟨#[]⟩] w10.heap.size 0 2 (by
    intro i s hi
    match i, hi with
    | 0, hi => simp at hi; subst hi; simp
    | 1, hi => simp at hi; subst hi; simp
    | (i + 2), hi => simp at hi) (by simp) (by decide) (by decide)
  rw [lv9] at hj
  refine hj.mono ?_
  clear hj
  rintro e w11 ⟨rfl, st14⟩
  have st15 : Same w10 w11 := Fr.trans (Fr.alloc (Fr.refl _ w10) _) st14 (fun _ _ f => f)
  clear st14
  go_wp2_with fail
  have hsp := split_ok w11 ⟨#[2, 1, 97, 0]⟩ (by decide) (by rw [lv10]) (by rw [lv10]; rfl)
  rw [lv10] at hsp
  refine hsp.mono ?_
  clear hsp
  rintro e w12 ⟨ao, cap, rfl, hown, hfre, st16⟩
  have st17 : Same w10 w12 := Fr.trans st15 st16 (fun _ _ f => f)
  have hflt2 : FltAt w12 q 13 8 := by
    unfold FltAt
    rw [st17.block q (lt_of_heap hflt) (fun f => f)]; exact hflt
  change w12.ownsRow 0 9 1 (.slice ao 2 cap) 2 (strs [⟨#[97]⟩, ⟨#[]⟩]) at hown
  obtain ⟨g, cap', hv, _, _⟩ := hown.form (by decide)
  injection hv with e1 e2 e3
  subst e1
  subst e3
  have hc0 := hown.cells (g := g) rfl 0 _ rfl
  have hc1 := hown.cells (g := g) rfl 1 _ rfl
  simp only [Addr.add_lit] at hc0 hc1
  have st18 : Same w w12 := Fr.trans st13 st17 (fun _ _ f => f)
  clear hown hfre st15 st16 st17 st13 hflt
  go_wp2_with fail
  refine (error_138 hflt2).mono ?_
  rintro e w13 ⟨rfl, st19⟩
  have hd0 : w13.cell? ⟨g, 0, none⟩ = some (.string ⟨#[97]⟩) := by rw [st19.cell (World.block_lt_of_cell? _ _ hc0) (fun f => f)]; exact hc0
  have hd1 : w13.cell? ⟨g, 0 + 1, none⟩ = some (.string ⟨#[]⟩) := by rw [st19.cell (World.block_lt_of_cell? _ _ hc1) (fun f => f)]; exact hc1
  have st20 : Same w w13 := Fr.trans st18 st19 (fun _ _ f => f)
  clear hc0 hc1 hflt2 st18 st19
  go_wp2_with fail
  go_ret
  exact ⟨rfl, st20⟩
end Go.Proofs.YtbdlebjhmhmnnaaDoor
