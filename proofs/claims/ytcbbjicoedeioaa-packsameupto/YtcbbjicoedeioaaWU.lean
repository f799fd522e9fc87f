/-
  Walks: a step read back ('back'): lists of texts and of numbers, and what is nothing.
-/
import Derived.Test.YtcbbjicoedeioaaWT
namespace Go.Proofs.Ytcbbjicoedeioaa
open Go.RowKit

theorem own_elem {α : Type} {val : α → Value} {e : TypeId} {w : World} {ao : Option Addr} {cap : Nat} {l : List α} (h : w.ownsRow 0 e 1 (.slice ao l.length cap) l.length (vals val l)) :
    l = [] ∨ ∃ g, ao = some ⟨g, 0, none⟩ ∧ g < w.heap.size ∧ ∀ i x, l[i]? = some x → w.cell? ⟨g, i, none⟩ = some (val x) := by
  rcases h.2 with ⟨hv, hn⟩ | ⟨g, c, cur, hv, _, hg, hc, _, hcs, htk⟩
  · exact Or.inl (List.length_eq_zero_iff.1 hn)
  · right
    injection hv with hv1 _ _
    refine ⟨g, hv1, lt_of_heap hg, fun i x hi => ?_⟩
    have hlt := (List.getElem?_eq_some_iff.1 hi).1
    rw [cell_of_row _ _ _ _ _ _ hg]
    have : (cur.toList.take (l.length * 1))[i]? = some (val x) := by rw [htk]; simp [vals, hi]
    rw [List.getElem?_take, if_pos (by omega)] at this
    simpa using this

set_option maxRecDepth 100000 in
set_option maxHeartbeats 1000000 in
theorem back_15 {w : World} {b B : Nat} {S : ByteArray} {p : Nat} (n : Nat) (i : Int) (s : ByteArray) (pa : Option Addr) (pl pc : Nat) (na : Option Addr) (nl nc : Nat) (wd : Int) (m : Nat) (bd : Int) (hR : RdAt w b S p 0) (hS : S.size ≤ 1000000000000) (hbB : B ≤ b)
    (ss : List ByteArray) (he : ElemIn Value.string B w (.slice pa pl pc) ss) (hss : ∀ x ∈ ss, x.size ≤ 1000000000000) (r : List UInt8) (hst : Stands S p (freeB ss.length ++ laidAll textB ss) r) :
    Calls Try.prog 32 #[.pointer (some ⟨b, 0, none⟩), stepV 15 n i s pa pl pc na nl nc wd m bd] w fun e w' => e = .returned (.bool true) ∧ RdAt w' b S (p + (freeB ss.length ++ laidAll textB ss).length) 0 ∧ RdStep b w w' := by
  have hbw := hR.lt
  obtain ⟨ad, cp, hv, hsl, hel⟩ := he
  injection hv with hv1 hv2 hv3
  subst hv1; subst hv2; subst hv3
  have hat := rListG_at (rdText S) textB (fun x => x) ss (fun x hx p r h => rdText_at x (by have := hss x hx; omega) p r h) (fun x _ => by unfold textB; rw [List.length_append]; have := freeB_pos x.size; omega) p ss.length r hst (by omega) (Nat.le_refl _)
  rw [List.map_id'] at hat
  have HX : Hid (∀ W, RdAt W b S p 0 → Calls Try.prog 81 #[.pointer (some ⟨b, 0, none⟩), .int .i64 ss.length, .func (.func 82) #[] #[]] W fun e w' => ∃ ao cap, e = .returned (.slice ao ss.length cap) ∧
      StrSl w' (.slice ao ss.length cap) ss ∧ RdAt w' b S (p + (freeB ss.length ++ laidAll textB ss).length) 0 ∧ RdStep b W w') := fun W hW => by
    have := list_RText hW hS ss.length (by omega)
    rw [hat] at this
    refine this.mono ?_
    rintro e w' ⟨ao, cap, rfl, hown, _, h2, st⟩
    refine ⟨ao, cap, rfl, ⟨ao, cap, rfl, hsl, ?_⟩, h2, st⟩
    rcases own_elem hown with h0 | ⟨g, hg1, hg2, hg3⟩
    · exact Or.inl h0
    · exact Or.inr ⟨g, 0, hg1, hg2, fun i s hi => by rw [Nat.zero_add]; exact hg3 i s hi⟩
  obtain ⟨c0, c1, c2, c3, c4, c5, c6⟩ := step_cells w 15 n i s pa ss.length pc na nl nc wd m bd
  have sa : Same w (w.alloc (stepC 15 n i s pa ss.length pc na nl nc wd m bd)) := (Fr.refl _ w).alloc _
  clear hat
  go_enter Try.func32, Try.ntmps32
  go_wp2_with fail
  refine (lsize_other _ 15 (by omega)).mono ?_
  rintro e W1 ⟨rfl, s1⟩
  have d0 := (s1.cell (World.block_lt_of_cell? _ _ c0) (fun f => f)).trans c0
  have d4 := (s1.cell (World.block_lt_of_cell? _ _ c4) (fun f => f)).trans c4
  have hw1 : Same w W1 := Fr.trans sa s1 (fun _ _ f => f)
  have hwl : w.heap.size < W1.heap.size := World.block_lt_of_cell? _ _ d0
  have h1 := hR.same hw1
  clear c0 c1 c2 c3 c4 c5 c6 s1 sa
  go_wp2_with fail
  refine (HX.out _ h1).mono ?_
  rintro e W2 ⟨ao, cap, rfl, hsl2, h2, st2⟩
  have e4 := (Fr.cell (S := fun k => k = b) st2 (p := ⟨w.heap.size, 4, none⟩) (World.block_lt_of_cell? _ _ d4) (by simp only; omega)).trans d4
  have hsl1 : StrSl W2 (.slice pa ss.length pc) ss := by
    refine ⟨pa, pc, rfl, hsl, ?_⟩
    rcases hel with h0 | ⟨ab, ao', ha1, ha2, ha3⟩
    · exact Or.inl h0
    · refine Or.inr ⟨ab, ao', ha1, by have := hw1.size; have := st2.size; omega, fun j x hj => ?_⟩
      have hx := ha3 j x hj
      have hx1 := (hw1.cell (p := ⟨ab, ao' + j, none⟩) (World.block_lt_of_cell? _ _ hx) (fun f => f)).trans hx
      exact (Fr.cell (S := fun k => k = b) st2 (p := ⟨ab, ao' + j, none⟩) (World.block_lt_of_cell? _ _ hx1) (by simp only; omega)).trans hx1
  go_wp2_with fail
  refine (same_calls hsl2 hsl1).mono ?_
  rintro e W3 ⟨rfl, s3⟩
  go_wp2_with fail
  go_ret
  exact ⟨by simp, h2.same s3, RdStep.trans (Same.rd hw1 b) (RdStep.trans st2 (Same.rd s3 b))⟩

set_option maxRecDepth 100000 in
set_option maxHeartbeats 1000000 in
theorem back_14 {w : World} {b B : Nat} {S : ByteArray} {p : Nat} (n : Nat) (i : Int) (s : ByteArray) (pa : Option Addr) (pl pc : Nat) (na : Option Addr) (nl nc : Nat) (wd : Int) (m : Nat) (bd : Int) (hR : RdAt w b S p 0) (hS : S.size ≤ 1000000000000) (hbB : B ≤ b)
    (ss : List Nat) (he : ElemIn vNum B w (.slice na nl nc) ss) (hss : ∀ x ∈ ss, x < 18446744073709551616) (r : List UInt8) (hst : Stands S p (freeB ss.length ++ laidAll freeB ss) r) :
    Calls Try.prog 32 #[.pointer (some ⟨b, 0, none⟩), stepV 14 n i s pa pl pc na nl nc wd m bd] w fun e w' => e = .returned (.bool true) ∧ RdAt w' b S (p + (freeB ss.length ++ laidAll freeB ss).length) 0 ∧ RdStep b w w' := by
  have hbw := hR.lt
  obtain ⟨ad, cp, hv, hsl, hel⟩ := he
  injection hv with hv1 hv2 hv3
  subst hv1; subst hv2; subst hv3
  have hat := rListG_at (rdFree S) freeB (fun x => x) ss (fun x hx p r h => rdFree_at x (hss x hx) p r h) (fun x _ => freeB_pos x) p ss.length r hst (by omega) (Nat.le_refl _)
  rw [List.map_id'] at hat
  have HX : Hid (∀ W, RdAt W b S p 0 → Calls Try.prog 15 #[.pointer (some ⟨b, 0, none⟩), .int .i64 ss.length, .func (.func 80) #[] #[]] W fun e w' => ∃ ao cap, e = .returned (.slice ao ss.length cap) ∧
      (ss = [] ∨ ∃ g, ao = some ⟨g, 0, none⟩ ∧ g < w'.heap.size ∧ ∀ i x, ss[i]? = some x → w'.cell? ⟨g, i, none⟩ = some (vNum x)) ∧ RdAt w' b S (p + (freeB ss.length ++ laidAll freeB ss).length) 0 ∧ RdStep b W w') := fun W hW => by
    have := list_RFree hW hS ss.length (by omega)
    rw [hat] at this
    refine this.mono ?_
    rintro e w' ⟨ao, cap, rfl, hown, _, h2, st⟩
    exact ⟨ao, cap, rfl, own_elem hown, h2, st⟩
  obtain ⟨c0, c1, c2, c3, c4, c5, c6⟩ := step_cells w 14 n i s pa pl pc na ss.length nc wd m bd
  have sa : Same w (w.alloc (stepC 14 n i s pa pl pc na ss.length nc wd m bd)) := (Fr.refl _ w).alloc _
  clear hat
  go_enter Try.func32, Try.ntmps32
  go_wp2_with fail
  refine (lsize_other _ 14 (by omega)).mono ?_
  rintro e W1 ⟨rfl, s1⟩
  have d0 := (s1.cell (World.block_lt_of_cell? _ _ c0) (fun f => f)).trans c0
  have d5 := (s1.cell (World.block_lt_of_cell? _ _ c5) (fun f => f)).trans c5
  have hw1 : Same w W1 := Fr.trans sa s1 (fun _ _ f => f)
  have hwl : w.heap.size < W1.heap.size := World.block_lt_of_cell? _ _ d0
  have h1 := hR.same hw1
  clear c0 c1 c2 c3 c4 c5 c6 s1 sa
  go_wp2_with fail
  refine (HX.out _ h1).mono ?_
  rintro e W2 ⟨ao, cap, rfl, hel2, h2, st2⟩
  have e5 := (Fr.cell (S := fun k => k = b) st2 (p := ⟨w.heap.size, 5, none⟩) (World.block_lt_of_cell? _ _ d5) (by simp only; omega)).trans d5
  go_wp2_with fail
  go_loopw [11] (fun iv wr => ∃ k : Nat, iv = .int .i64 k ∧ k ≤ ss.length ∧ Same W2 wr)
    (fun iv _ => ss.length - (intOf iv).toNat)
  case atStart => exact ⟨0, rfl, by omega, Fr.refl _ _⟩
  case round =>
    obtain ⟨k, rfl, hk, hst3⟩ := hrel
    have g5 := (hst3.cell (p := ⟨w.heap.size, 5, none⟩) (World.block_lt_of_cell? _ _ e5) (fun f => f)).trans e5
    by_cases hgo : k < ss.length
    · rcases hel with rfl | ⟨ab, ao', rfl, hlt, hel⟩
      · simp at hgo
      rcases hel2 with rfl | ⟨g, rfl, hlt2, hel2⟩
      · simp at hgo
      have hx := hel k ss[k] (List.getElem?_eq_getElem hgo)
      have hx1 := (hw1.cell (p := ⟨ab, ao' + k, none⟩) (World.block_lt_of_cell? _ _ hx) (fun f => f)).trans hx
      have hx2 := (Fr.cell (S := fun k => k = b) st2 (p := ⟨ab, ao' + k, none⟩) (World.block_lt_of_cell? _ _ hx1) (by simp only; omega)).trans hx1
      have hx3 := (hst3.cell (p := ⟨ab, ao' + k, none⟩) (World.block_lt_of_cell? _ _ hx2) (fun f => f)).trans hx2
      have hy := hel2 k ss[k] (List.getElem?_eq_getElem hgo)
      have hy3 := (hst3.cell (p := ⟨g, k, none⟩) (World.block_lt_of_cell? _ _ hy) (fun f => f)).trans hy
      have i0 : (0 : Int) ≤ (k : Int) := by omega
      have i1 : (k : Int) < (ss.length : Int) := by omega
      generalize hs0 : ss[k] = s0 at *
      clear hx hx1 hx2 hy hel hel2 e5 d5
      go_wp2_with fail
      go_quiet (fail)
      go_wp2_with fail
      go_roundw
      case rel => exact ⟨k + 1, by go_num, by omega, hst3.drewN _⟩
      case measure => simp [intOf]; omega
    · obtain rfl : k = ss.length := by omega
      go_wp2_with fail
      go_ret
      exact ⟨rfl, h2.same hst3, RdStep.trans (Same.rd hw1 b) (RdStep.trans st2 (Same.rd hst3 b))⟩

set_option maxRecDepth 100000 in
set_option maxHeartbeats 1000000 in
theorem back_none {w : World} {b : Nat} {S : ByteArray} {p : Nat} (kd : Int) (hk : kd < 0 ∨ 16 < kd) (n : Nat) (i : Int) (s : ByteArray) (pa : Option Addr) (pl pc : Nat) (na : Option Addr) (nl nc : Nat) (wd : Int) (m : Nat) (bd : Int) (hR : RdAt w b S p 0) :
    Calls Try.prog 32 #[.pointer (some ⟨b, 0, none⟩), stepV kd n i s pa pl pc na nl nc wd m bd] w fun e w' => e = .returned (.bool true) ∧ RdAt w' b S p 0 ∧ RdStep b w w' := by
  obtain ⟨c0, c1, c2, c3, c4, c5, c6⟩ := step_cells w kd n i s pa pl pc na nl nc wd m bd
  have sa : Same w (w.alloc (stepC kd n i s pa pl pc na nl nc wd m bd)) := (Fr.refl _ w).alloc _
  have n9 : ¬ kd = 9 := by omega
  have n10 : ¬ kd = 10 := by omega
  have n11 : ¬ kd = 11 := by omega
  have n12 : ¬ kd = 12 := by omega
  have n13 : ¬ kd = 13 := by omega
  have n14 : ¬ kd = 14 := by omega
  have n15 : ¬ kd = 15 := by omega
  have n16 : ¬ kd = 16 := by omega
  go_enter Try.func32, Try.ntmps32
  go_wp2_with fail
  refine (lsize_other _ kd (by omega)).mono ?_
  rintro e W1 ⟨rfl, s1⟩
  have d0 := (s1.cell (World.block_lt_of_cell? _ _ c0) (fun f => f)).trans c0
  have hw1 : Same w W1 := Fr.trans sa s1 (fun _ _ f => f)
  clear c0 c1 c2 c3 c4 c5 c6 s1 sa hk
  go_wp2_with fail
  go_ret
  exact ⟨rfl, hR.same hw1, Same.rd hw1 b⟩
end Go.Proofs.Ytcbbjicoedeioaa
