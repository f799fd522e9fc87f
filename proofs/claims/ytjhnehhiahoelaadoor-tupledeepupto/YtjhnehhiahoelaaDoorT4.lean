/-
  Walks: walk.item.
-/
import Derived.Test.YtjhnehhiahoelaaDoorT3
namespace Go.Proofs.YtjhnehhiahoelaaDoor
open Go.RowKit

def bigN : Nat := 562949953421312
theorem big_step (n z O : Nat) (hz : z ≤ bigN * n) (hO : O ≤ bigN) : z + O ≤ bigN * (n + 1) := by
  rw [Nat.mul_succ]; exact Nat.add_le_add hz hO
theorem big_top (n z : Nat) (hz : z ≤ bigN * n) (hn : n ≤ 64) : z ≤ 36028797018963968 := by
  have h1 : bigN * n ≤ bigN * 64 := Nat.mul_le_mul_left _ hn
  have h2 : bigN * 64 = 36028797018963968 := by decide
  omega

def CkPost (wb : Nat) (r : Nat × Nat × Nat) (w w' : World) : Prop := WalkAt w' wb r.2.1 r.2.2 ∧ r.2.1 ≤ 64 ∧ r.2.2 ≤ bigN * r.2.1 ∧ Fr (fun k => k = wb) w w'
abbrev itemC (kd : Nat) (b : Bool) (i : Int) (f : Nat) (s : ByteArray) (a : Option Addr) (l c : Nat) : Obj := .cells #[.int .u8 kd, .bool b, .int .i64 i, .float .f64 f, .string s, .slice a l c] 26
theorem item_cells (w : World) (kd : Nat) (b : Bool) (i : Int) (f : Nat) (s : ByteArray) (a : Option Addr) (l c : Nat) :
    (w.alloc (itemC kd b i f s a l c)).cell? ⟨w.heap.size, 0, none⟩ = some (.int .u8 kd) ∧ (w.alloc (itemC kd b i f s a l c)).cell? ⟨w.heap.size, 1, none⟩ = some (.bool b) ∧ (w.alloc (itemC kd b i f s a l c)).cell? ⟨w.heap.size, 2, none⟩ = some (.int .i64 i) ∧
    (w.alloc (itemC kd b i f s a l c)).cell? ⟨w.heap.size, 3, none⟩ = some (.float .f64 f) ∧ (w.alloc (itemC kd b i f s a l c)).cell? ⟨w.heap.size, 4, none⟩ = some (.string s) ∧ (w.alloc (itemC kd b i f s a l c)).cell? ⟨w.heap.size, 5, none⟩ = some (.slice a l c) := by
  refine ⟨?_, ?_, ?_, ?_, ?_, ?_⟩ <;> simp

theorem WalkAt.same {w w' : World} {b n z : Nat} (h : WalkAt w b n z) (s : Same w w') : WalkAt w' b n z := by
  unfold WalkAt at *
  rw [s.block b (lt_of_heap h) (fun f => f)]; exact h
theorem WalkAt.set0 {w : World} {b n z : Nat} (h : WalkAt w b n z) (m : Nat) : WalkAt (w.setCell ⟨b, 0, none⟩ (.int .i64 m)) b m z := by
  unfold WalkAt at *
  rw [heap_setCell_same w b 0 _ _ _ h]; rfl
theorem WalkAt.set1 {w : World} {b n z : Nat} (h : WalkAt w b n z) (m : Nat) : WalkAt (w.setCell ⟨b, 1, none⟩ (.int .i64 m)) b n m := by
  unfold WalkAt at *
  rw [heap_setCell_same w b 1 _ _ _ h]; rfl

set_option maxRecDepth 100000 in
set_option maxHeartbeats 8000000 in
theorem witem_calls {w : World} {wb n z d : Nat} (kd : Nat) (b : Bool) (i : Int) (f : Nat) (s : ByteArray) (l : List ItemP) (la : Option Addr) (lc : Nat)
    (hi0 : -9223372036854775808 ≤ i) (hi1 : i ≤ 9223372036854775807) (hs : s.size ≤ 140737488355328) (hd : d ≤ 100) (hW : WalkAt w wb n z) (hn : n ≤ 64) (hz : z ≤ bigN * n)
    (HR : Hid (∀ W n z, n ≤ 64 → z ≤ bigN * n → WalkAt W wb n z → Fr (fun k => k = wb) w W → (kd ≠ 6 → l = []) → (kd = 6 → d < 8) → Calls Tryd.prog 12 #[.pointer (some ⟨wb, 0, none⟩), .slice la l.length lc, .int .i64 ((d : Int) + 1)] W fun e w' => e = .returned (.int .i64 (chkL l (d + 1) n z).1) ∧ CkPost wb (chkL l (d + 1) n z) W w')) :
    Calls Tryd.prog 19 #[.pointer (some ⟨wb, 0, none⟩), itemV kd b i f s la l.length lc, .int .i64 d] w fun e w' => e = .returned (.int .i64 (chkI (.mk kd b i f s l) d n z).1) ∧ CkPost wb (chkI (.mk kd b i f s l) d n z) w w' := by
  have hwb : wb < w.heap.size := lt_of_heap hW
  have hown := ownN_le kd i s hs
  have hztop := big_top n z hz hn
  rw [chkI]
  obtain ⟨c0, c1, c2, c3, c4, c5⟩ := item_cells w kd b i f s la l.length lc
  have sa : Same w (w.alloc (itemC kd b i f s la l.length lc)) := (Fr.refl _ w).alloc _
  have hW1 := hW.same sa
  obtain ⟨q0, q1, q2, q3⟩ := hW1.cells
  have hne : ¬ w.heap.size = wb := by omega
  by_cases h64 : 64 ≤ n
  · rw [if_pos h64]
    have h64' : (64 : Int) ≤ (n : Int) := by omega
    go_enter Tryd.func19, Tryd.ntmps19
    go_wp2_with fail
    go_ret
    exact ⟨rfl, hW1, hn, hz, sa.mono (fun _ _ f => f.elim)⟩
  rw [if_neg h64]
  have h64' : (n : Int) < 64 := by omega
  have HM : Hid (∀ W, Calls Tryd.prog 37 #[itemV kd b i f s la l.length lc] W fun e w' => e = .returned (.bool (mayP kd b i f s l.length)) ∧ Same W w') := fun W => mayBe_calls W kd b i f s la l.length lc
  by_cases hmay : mayP kd b i f s l.length = false
  · rw [if_pos hmay]
    rw [hmay] at HM
    go_enter Tryd.func19, Tryd.ntmps19
    go_wp2_with fail
    refine (HM.out _).mono ?_
    rintro e W1 ⟨rfl, s1⟩
    go_wp2_with fail
    go_ret
    exact ⟨rfl, hW1.same s1, hn, hz, (sa.trans s1).mono (fun _ _ f => f.elim)⟩
  rw [if_neg hmay]
  have hmt : mayP kd b i f s l.length = true := by simpa using hmay
  rw [hmt] at HM
  by_cases h6 : kd = 6 ∧ 8 ≤ d
  · rw [if_pos h6]
    obtain ⟨rfl, h8⟩ := h6
    have h8' : (8 : Int) ≤ (d : Int) := by omega
    have p0 : (w.alloc (.cells #[.int .u8 6, .bool b, .int .i64 i, .float .f64 f, .string s, .slice la l.length lc] 26)).cell? ⟨wb, 0, none⟩ = some (.int .i64 n) := q0
    go_enter Tryd.func19, Tryd.ntmps19
    go_wp2_with fail
    refine (HM.out _).mono ?_
    rintro e W1 ⟨rfl, s1⟩
    have d0 := s1.keep c0
    go_wp2_with fail
    go_ret
    exact ⟨rfl, hW1.same s1, hn, hz, (sa.trans s1).mono (fun _ _ f => f.elim)⟩
  rw [if_neg h6]
  have HO : Hid (∀ W, Calls Tryd.prog 38 #[itemV kd b i f s la l.length lc] W fun e w' => e = .returned (.int .i64 (ownN kd i s)) ∧ Same W w') := fun W => ownSize_calls W kd b i hi0 hi1 f s (by omega) la l.length lc
  generalize hOE : ownN kd i s = O at *
  have hstep := big_step n z O hz hown
  clear hz
  go_enter Tryd.func19, Tryd.ntmps19
  go_wp2_with fail
  refine (HM.out _).mono ?_
  rintro e W1 ⟨rfl, s1⟩
  have d0 := s1.keep c0
  have d1 := s1.keep c1
  have d2 := s1.keep c2
  have d3 := s1.keep c3
  have d4 := s1.keep c4
  have d5 := s1.keep c5
  have hW2 := hW1.same s1
  obtain ⟨r0, r1, r2, r3⟩ := hW2.cells
  clear c0 c1 c2 c3 c4 c5 q0 q1 q2 q3
  have hW3 : WalkAt (W1.setCell ⟨wb, 0, none⟩ (.int .i64 ((n : Int) + 1))) wb (n + 1) z := hW2.set0 (n + 1)
  have f3 : Fr (fun k => k = wb) W1 (W1.setCell ⟨wb, 0, none⟩ (.int .i64 ((n : Int) + 1))) := Fr.setCell (S := fun k => k = wb) (Fr.refl _ W1) (p := ⟨wb, 0, none⟩) (fun _ => rfl) _
  have g0 := (f3.cell (p := ⟨w.heap.size, 0, none⟩) (World.block_lt_of_cell? _ _ d0) hne).trans d0
  have g1 := (f3.cell (p := ⟨w.heap.size, 1, none⟩) (World.block_lt_of_cell? _ _ d1) hne).trans d1
  have g2 := (f3.cell (p := ⟨w.heap.size, 2, none⟩) (World.block_lt_of_cell? _ _ d2) hne).trans d2
  have g3 := (f3.cell (p := ⟨w.heap.size, 3, none⟩) (World.block_lt_of_cell? _ _ d3) hne).trans d3
  have g4 := (f3.cell (p := ⟨w.heap.size, 4, none⟩) (World.block_lt_of_cell? _ _ d4) hne).trans d4
  have g5 := (f3.cell (p := ⟨w.heap.size, 5, none⟩) (World.block_lt_of_cell? _ _ d5) hne).trans d5
  have f03 : Fr (fun k => k = wb) w (W1.setCell ⟨wb, 0, none⟩ (.int .i64 ((n : Int) + 1))) := Fr.trans ((sa.trans s1).mono (fun _ _ f => f.elim)) f3 (fun _ _ e => e)
  obtain ⟨u0, u1, u2, u3⟩ := hW3.cells
  have hlt3 : wb < (W1.setCell ⟨wb, 0, none⟩ (.int .i64 ((n : Int) + 1))).heap.size := lt_of_heap hW3
  have hwr : IntKind.i64.wrap ((z : Int) + (O : Int)) = ((z + O : Nat) : Int) := by rw [IntKind.wrap_i64]; omega
  have hwr2 : wrap64 ((z : Int) + (O : Int)) = ((z + O : Nat) : Int) := by unfold wrap64; omega
  have hl6 : kd ≠ 6 → l = [] := by
    intro hk
    have := hmt
    unfold mayP at this
    simp only [Bool.and_eq_true, Bool.or_eq_true, beq_iff_eq, decide_eq_true_eq] at this
    rcases this.2 with h | h
    · exact absurd h hk
    · exact List.length_eq_zero_iff.1 h
  have hd6 : kd = 6 → d < 8 := by intro hk; omega
  have hn1 : n + 1 ≤ 64 := by omega
  by_cases hk6 : kd = 6
  · have hk6' : (kd : Int) = 6 := by omega
    have h8' : (d : Int) < 8 := by omega
    rw [hk6'] at d0
    clear hk6' hk6 h6
    go_wp2_with fail
    clear d0 d1 d2 d3 d4 d5 r0 r1 r2 r3
    generalize W1.setCell ⟨wb, 0, none⟩ (.int .i64 ((n : Int) + 1)) = W3 at *
    go_region_with (first | (go_at_call 38; refine (HO.out _).mono ?_; rintro e W4 ⟨rfl, s4⟩; have v1 := Same.keep (w := W3.drew) s4 (a := ⟨wb, 1, none⟩) u1; have v3 := (Fr.frozen (S := fun _ => False) (w := W3.drew) s4 (p := ⟨wb, 1, none⟩) hlt3 (fun f => f)).trans u3; have v5 := Same.keep (w := W3.drew) s4 (a := ⟨w.heap.size, 5, none⟩) g5))
    all_goals
      have hW4 : WalkAt W4 wb (n + 1) z := WalkAt.same (w := W3.drew) hW3 s4
      have hW5 : WalkAt (W4.setCell ⟨wb, 1, none⟩ (.int .i64 ((z : Int) + (O : Int)))) wb (n + 1) (z + O) := hW4.set1 (z + O)
      have f34 : Fr (fun k => k = wb) W3 W4 := Fr.trans (Fr.drew (Fr.refl _ W3)) (s4.mono (fun _ _ f => f.elim)) (fun _ _ e => e)
      have f45 : Fr (fun k => k = wb) W4 (W4.setCell ⟨wb, 1, none⟩ (.int .i64 ((z : Int) + (O : Int)))) := Fr.setCell (S := fun k => k = wb) (Fr.refl _ W4) (p := ⟨wb, 1, none⟩) (fun _ => rfl) _
      have x5 := (f45.cell (p := ⟨w.heap.size, 5, none⟩) (World.block_lt_of_cell? _ _ v5) hne).trans v5
      have f05 : Fr (fun k => k = wb) w (W4.setCell ⟨wb, 1, none⟩ (.int .i64 ((z : Int) + (O : Int)))) := Fr.trans (Fr.trans f03 f34 (fun _ _ e => e)) f45 (fun _ _ e => e)
      generalize W4.setCell ⟨wb, 1, none⟩ (.int .i64 ((z : Int) + (O : Int))) = W5 at *
      clear v1 v3 v5 f45 f34 hW4 s4
      go_wp2_with fail
      refine (HR.out W5 (n + 1) (z + O) hn1 hstep hW5 f05 hl6 hd6).mono ?_
      rintro e W6 ⟨rfl, hW6, b6, c6, f6⟩
      go_wp2_with fail
      go_ret
      exact ⟨rfl, hW6, b6, c6, Fr.trans f05 f6 (fun _ _ e => e)⟩
  · have hk6' : ¬ (kd : Int) = 6 := by omega
    clear hk6 h6
    go_wp2_with fail
    clear d0 d1 d2 d3 d4 d5 r0 r1 r2 r3
    generalize W1.setCell ⟨wb, 0, none⟩ (.int .i64 ((n : Int) + 1)) = W3 at *
    go_region_with (first | (go_at_call 38; refine (HO.out _).mono ?_; rintro e W4 ⟨rfl, s4⟩; have v1 := Same.keep (w := W3.drew) s4 (a := ⟨wb, 1, none⟩) u1; have v3 := (Fr.frozen (S := fun _ => False) (w := W3.drew) s4 (p := ⟨wb, 1, none⟩) hlt3 (fun f => f)).trans u3; have v5 := Same.keep (w := W3.drew) s4 (a := ⟨w.heap.size, 5, none⟩) g5))
    all_goals
      have hW4 : WalkAt W4 wb (n + 1) z := WalkAt.same (w := W3.drew) hW3 s4
      have hW5 : WalkAt (W4.setCell ⟨wb, 1, none⟩ (.int .i64 ((z : Int) + (O : Int)))) wb (n + 1) (z + O) := hW4.set1 (z + O)
      have f34 : Fr (fun k => k = wb) W3 W4 := Fr.trans (Fr.drew (Fr.refl _ W3)) (s4.mono (fun _ _ f => f.elim)) (fun _ _ e => e)
      have f45 : Fr (fun k => k = wb) W4 (W4.setCell ⟨wb, 1, none⟩ (.int .i64 ((z : Int) + (O : Int)))) := Fr.setCell (S := fun k => k = wb) (Fr.refl _ W4) (p := ⟨wb, 1, none⟩) (fun _ => rfl) _
      have x5 := (f45.cell (p := ⟨w.heap.size, 5, none⟩) (World.block_lt_of_cell? _ _ v5) hne).trans v5
      have f05 : Fr (fun k => k = wb) w (W4.setCell ⟨wb, 1, none⟩ (.int .i64 ((z : Int) + (O : Int)))) := Fr.trans (Fr.trans f03 f34 (fun _ _ e => e)) f45 (fun _ _ e => e)
      generalize W4.setCell ⟨wb, 1, none⟩ (.int .i64 ((z : Int) + (O : Int))) = W5 at *
      clear v1 v3 v5 f45 f34 hW4 s4
      go_wp2_with fail
      refine (HR.out W5 (n + 1) (z + O) hn1 hstep hW5 f05 hl6 hd6).mono ?_
      rintro e W6 ⟨rfl, hW6, b6, c6, f6⟩
      go_wp2_with fail
      go_ret
      exact ⟨rfl, hW6, b6, c6, Fr.trans f05 f6 (fun _ _ e => e)⟩
end Go.Proofs.YtjhnehhiahoelaaDoor
