/- Read. -/
import Derived.Test.YtajpgopgohadeaaDoorG5
namespace Go.Proofs.YtajpgopgohadeaaDoor
open Go.RowKit

abbrev noPage : Value := pageV 0 0 0 ⟨#[]⟩
/-- The error that Read answers. -/
def readE (p q : Int) (s : ByteArray) : Int :=
  if frameP p q = false then 2 else if ¬ (s.size : Int) = p then 51 else if wholeB s = false then 52
  else if laidB s = false ∨ ¬ chkE p q (beAt s 5 1) (beAt s 8 4) (beAt s 16 8) (bodyAt s).size = 0 then 53 else 0
/-- The page that Read answers. -/
def readV (p q : Int) (s : ByteArray) : Value := if readE p q s = 0 then pageV (beAt s 5 1) (beAt s 8 4) (beAt s 16 8) (bodyAt s) else noPage

theorem read_cases (p q : Int) (s : ByteArray) :
    (frameP p q = false ∧ readE p q s = 2 ∧ readV p q s = noPage) ∨
    (frameP p q = true ∧ ¬ (s.size : Int) = p ∧ readE p q s = 51 ∧ readV p q s = noPage) ∨
    (frameP p q = true ∧ (s.size : Int) = p ∧ wholeB s = false ∧ readE p q s = 52 ∧ readV p q s = noPage) ∨
    (frameP p q = true ∧ (s.size : Int) = p ∧ wholeB s = true ∧ laidB s = false ∧ readE p q s = 53 ∧ readV p q s = noPage) ∨
    (frameP p q = true ∧ (s.size : Int) = p ∧ wholeB s = true ∧ laidB s = true ∧ ¬ chkE p q (beAt s 5 1) (beAt s 8 4) (beAt s 16 8) (bodyAt s).size = 0 ∧ readE p q s = 53 ∧ readV p q s = noPage) ∨
    (frameP p q = true ∧ (s.size : Int) = p ∧ wholeB s = true ∧ laidB s = true ∧ chkE p q (beAt s 5 1) (beAt s 8 4) (beAt s 16 8) (bodyAt s).size = 0 ∧ readE p q s = 0 ∧ readV p q s = pageV (beAt s 5 1) (beAt s 8 4) (beAt s 16 8) (bodyAt s)) := by
  have key : ∀ e : Int, readE p q s = e → e ≠ 0 → readV p q s = noPage := fun e h h0 => by unfold readV; rw [if_neg (by rw [h]; exact h0)]
  by_cases h1 : frameP p q = false
  · have e : readE p q s = 2 := by unfold readE; rw [if_pos h1]
    exact Or.inl ⟨h1, e, key _ e (by decide)⟩
  · have h1' : frameP p q = true := by simpa using h1
    by_cases h2 : (s.size : Int) = p
    · by_cases h3 : wholeB s = false
      · have e : readE p q s = 52 := by unfold readE; rw [if_neg h1, if_neg (by simpa using h2), if_pos h3]
        exact Or.inr (Or.inr (Or.inl ⟨h1', h2, h3, e, key _ e (by decide)⟩))
      · have h3' : wholeB s = true := by simpa using h3
        by_cases h4 : laidB s = false
        · have e : readE p q s = 53 := by unfold readE; rw [if_neg h1, if_neg (by simpa using h2), if_neg h3, if_pos (Or.inl h4)]
          exact Or.inr (Or.inr (Or.inr (Or.inl ⟨h1', h2, h3', h4, e, key _ e (by decide)⟩)))
        · have h4' : laidB s = true := by simpa using h4
          by_cases h5 : chkE p q (beAt s 5 1) (beAt s 8 4) (beAt s 16 8) (bodyAt s).size = 0
          · have e : readE p q s = 0 := by unfold readE; rw [if_neg h1, if_neg (by simpa using h2), if_neg h3, if_neg (by rintro (h | h); exact h4 h; exact h h5)]
            exact Or.inr (Or.inr (Or.inr (Or.inr (Or.inr ⟨h1', h2, h3', h4', h5, e, by unfold readV; rw [if_pos e]⟩))))
          · have e : readE p q s = 53 := by unfold readE; rw [if_neg h1, if_neg (by simpa using h2), if_neg h3, if_pos (Or.inr h5)]
            exact Or.inr (Or.inr (Or.inr (Or.inr (Or.inl ⟨h1', h2, h3', h4', h5, e, key _ e (by decide)⟩))))
    · have e : readE p q s = 51 := by unfold readE; rw [if_neg h1, if_pos h2]
      exact Or.inr (Or.inl ⟨h1', h2, e, key _ e (by decide)⟩)

theorem row4_put {W : World} {g : Nat} {a0 b0 c0 d0 a b c d : Value} {t : TypeId} (h : W.heap[g]? = some (.cells #[a0, b0, c0, d0] t (0, 0))) :
    ((((W.setCell ⟨g, 0, none⟩ a).setCell ⟨g, 1, none⟩ b).setCell ⟨g, 2, none⟩ c).setCell ⟨g, 3, none⟩ d).heap[g]? = some (.cells #[a, b, c, d] t (0, 0)) := by
  have := heap_setCell_same _ g 3 _ t d (heap_setCell_same _ g 2 _ t c (heap_setCell_same _ g 1 _ t b (heap_setCell_same W g 0 _ t a h)))
  simpa using this
set_option maxRecDepth 100000 in
set_option maxHeartbeats 2000000 in
theorem read_calls (p q : Int) (s : ByteArray) (w : World) (ht : TabAt w) :
    Calls Tryd.prog 15 #[frameV p q, .string s] w fun e w' => e = .returned (.tuple #[readV p q s, .int .i64 (readE p q s)]) ∧ Same w w' := by
  have HM := may_calls p q
  have HRES : Hid (∀ (tmps : Array Value) (W : World) (cs : Array Value) (g : Nat), W.heap[g]? = some (.cells cs 41 (0, 0)) → cs.size = 4 → tmps.getD 4 undef = .pointer (some ⟨g, 0, none⟩) → (results Tryd.f15 tmps).run Tryd.prog W = .ok (.tuple #[.agg cs, tmps.getD 5 undef]) W) := fun tmps W cs g h h4 hp => results_row_tmp (p := 4) (u := 5) (ty := 41) (by kernel_rfl) tmps _ g 41 _ (0, 0) _ hp h Tryd.underlying41 rfl (by rw [h4]; kernel_rfl)
  obtain ⟨V, hVV⟩ : ∃ V, V = ((w.alloc (.cells #[.int .i64 p, .int .i64 q] 23)).alloc (.cells #[.int .u8 0, .int .u32 0, .int .u64 0, .string ⟨#[]⟩] 41)) := ⟨_, rfl⟩
  have sx : Same w V := by rw [hVV]; exact ((Fr.refl _ w).alloc _).alloc _
  have c0 : V.cell? ⟨w.heap.size, 0, none⟩ = some (.int .i64 p) := by rw [hVV]; simp
  have c1 : V.cell? ⟨w.heap.size, 1, none⟩ = some (.int .i64 q) := by rw [hVV]; simp
  have RV : V.heap[w.heap.size + 1]? = some (.cells #[.int .u8 0, .int .u32 0, .int .u64 0, .string ⟨#[]⟩] 41 (0, 0)) := by rw [hVV]; exact heap_alloc2_new w _ _
  have HRW : Hid (∀ W, Same V W → W.heap[w.heap.size + 1]? = some (.cells #[.int .u8 0, .int .u32 0, .int .u64 0, .string ⟨#[]⟩] 41 (0, 0))) := fun W h => (h.block _ (lt_of_heap RV) (fun f => f)).trans RV
  have HT : Hid (TabAt w) := ht
  clear ht RV
  rcases read_cases p q s with ⟨hf, hE, hV⟩ | ⟨hf, hz, hE, hV⟩ | ⟨hf, hz, hw, hE, hV⟩ | ⟨hf, hz, hw, hL, hE, hV⟩ | ⟨hf, hz, hw, hL, hc, hE, hV⟩ | ⟨hf, hz, hw, hL, hc, hE, hV⟩
  all_goals
    rw [hE, hV]
    rw [hf] at HM
    clear hE hV
  · clear hf
    go_enter Tryd.func15, Tryd.ntmps15
    go_wp2_with fail
    rw [← hVV]
    clear hVV
    refine (HM _).mono ?_
    rintro e W1 ⟨rfl, s1⟩
    have RW := HRW.out _ s1
    have TT := sx.trans s1
    obtain ⟨j0, j1, j2, j3, g0, g1, g2, g3⟩ := row4_cells RW
    go_wp2_with fail
    obtain ⟨X, hX⟩ : ∃ X, X = ((((W1.setCell ⟨w.heap.size + 1, 0, none⟩ (.int .u8 0)).setCell ⟨w.heap.size + 1, 1, none⟩ (.int .u32 0)).setCell ⟨w.heap.size + 1, 2, none⟩ (.int .u64 0)).setCell ⟨w.heap.size + 1, 3, none⟩ (.string ⟨#[]⟩)) := ⟨_, rfl⟩
    have RX : X.heap[w.heap.size + 1]? = some (.cells #[.int .u8 0, .int .u32 0, .int .u64 0, .string ⟨#[]⟩] 41 (0, 0)) := by rw [hX]; exact row4_put RW
    have SX : Same w X := by rw [hX]; exact (((TT.setCell (p := ⟨w.heap.size + 1, 0, none⟩) (fun h => absurd h (by simp)) _).setCell (p := ⟨w.heap.size + 1, 1, none⟩) (fun h => absurd h (by simp)) _).setCell (p := ⟨w.heap.size + 1, 2, none⟩) (fun h => absurd h (by simp)) _).setCell (p := ⟨w.heap.size + 1, 3, none⟩) (fun h => absurd h (by simp)) _
    rw [← hX]
    clear hX
    exact bodyPost_ret (HRES.out _ _ _ _ RX rfl rfl) rfl ⟨rfl, SX⟩
  · clear hf
    go_enter Tryd.func15, Tryd.ntmps15
    go_wp2_with fail
    rw [← hVV]
    clear hVV
    refine (HM _).mono ?_
    rintro e W1 ⟨rfl, s1⟩
    have b0 := s1.keep c0
    have b1 := s1.keep c1
    have RW := HRW.out _ s1
    have TT := sx.trans s1
    obtain ⟨j0, j1, j2, j3, g0, g1, g2, g3⟩ := row4_cells RW
    go_wp2_with fail
    obtain ⟨X, hX⟩ : ∃ X, X = ((((W1.setCell ⟨w.heap.size + 1, 0, none⟩ (.int .u8 0)).setCell ⟨w.heap.size + 1, 1, none⟩ (.int .u32 0)).setCell ⟨w.heap.size + 1, 2, none⟩ (.int .u64 0)).setCell ⟨w.heap.size + 1, 3, none⟩ (.string ⟨#[]⟩)) := ⟨_, rfl⟩
    have RX : X.heap[w.heap.size + 1]? = some (.cells #[.int .u8 0, .int .u32 0, .int .u64 0, .string ⟨#[]⟩] 41 (0, 0)) := by rw [hX]; exact row4_put RW
    have SX : Same w X := by rw [hX]; exact (((TT.setCell (p := ⟨w.heap.size + 1, 0, none⟩) (fun h => absurd h (by simp)) _).setCell (p := ⟨w.heap.size + 1, 1, none⟩) (fun h => absurd h (by simp)) _).setCell (p := ⟨w.heap.size + 1, 2, none⟩) (fun h => absurd h (by simp)) _).setCell (p := ⟨w.heap.size + 1, 3, none⟩) (fun h => absurd h (by simp)) _
    rw [← hX]
    clear hX
    exact bodyPost_ret (HRES.out _ _ _ _ RX rfl rfl) rfl ⟨rfl, SX⟩
  · have hp := frame_lo hf
    have HW : Hid (∀ W, Same w W → Calls Tryd.prog 31 #[.string s] W fun e w' => e = .returned (.bool false) ∧ Same W w') := fun W h => by rw [← hw]; exact whole_calls s (by omega) (by omega) W (HT.out.same h)
    have hzn : (s.size : Int) = p := hz
    clear hw hf hp
    go_enter Tryd.func15, Tryd.ntmps15
    go_wp2_with fail
    rw [← hVV]
    clear hVV
    refine (HM _).mono ?_
    rintro e W1 ⟨rfl, s1⟩
    have b0 := s1.keep c0
    have b1 := s1.keep c1
    go_wp2_with fail
    refine (HW.out _ (sx.trans s1)).mono ?_
    rintro e W2 ⟨rfl, s2⟩
    have t2 : Same V W2 := s1.trans s2
    have RW := HRW.out _ t2
    have TT := sx.trans t2
    obtain ⟨j0, j1, j2, j3, g0, g1, g2, g3⟩ := row4_cells RW
    go_wp2_with fail
    obtain ⟨X, hX⟩ : ∃ X, X = ((((W2.setCell ⟨w.heap.size + 1, 0, none⟩ (.int .u8 0)).setCell ⟨w.heap.size + 1, 1, none⟩ (.int .u32 0)).setCell ⟨w.heap.size + 1, 2, none⟩ (.int .u64 0)).setCell ⟨w.heap.size + 1, 3, none⟩ (.string ⟨#[]⟩)) := ⟨_, rfl⟩
    have RX : X.heap[w.heap.size + 1]? = some (.cells #[.int .u8 0, .int .u32 0, .int .u64 0, .string ⟨#[]⟩] 41 (0, 0)) := by rw [hX]; exact row4_put RW
    have SX : Same w X := by rw [hX]; exact (((TT.setCell (p := ⟨w.heap.size + 1, 0, none⟩) (fun h => absurd h (by simp)) _).setCell (p := ⟨w.heap.size + 1, 1, none⟩) (fun h => absurd h (by simp)) _).setCell (p := ⟨w.heap.size + 1, 2, none⟩) (fun h => absurd h (by simp)) _).setCell (p := ⟨w.heap.size + 1, 3, none⟩) (fun h => absurd h (by simp)) _
    rw [← hX]
    clear hX
    exact bodyPost_ret (HRES.out _ _ _ _ RX rfl rfl) rfl ⟨rfl, SX⟩
  · have hp := frame_lo hf
    have HW : Hid (∀ W, Same w W → Calls Tryd.prog 31 #[.string s] W fun e w' => e = .returned (.bool true) ∧ Same W w') := fun W h => by rw [← hw]; exact whole_calls s (by omega) (by omega) W (HT.out.same h)
    have HP : Hid (∀ W, Calls Tryd.prog 32 #[.string s] W fun e w' => e = .returned (.tuple #[pageV (beAt s 5 1) (beAt s 8 4) (beAt s 16 8) (bodyAt s), .bool false]) ∧ Same W w') := fun W => by rw [← hL]; exact parse_calls s (by omega) (by omega) W
    have HC := check_calls p q (beAt s 5 1) (beAt s 8 4) (beAt s 16 8) (bodyAt s)
    have hzn : (s.size : Int) = p := hz
    generalize beAt s 5 1 = KD at *
    generalize beAt s 8 4 = NO at *
    generalize beAt s 16 8 = VS at *
    generalize bodyAt s = BD at *
    clear HC
    clear hw hf hp hL
    go_enter Tryd.func15, Tryd.ntmps15
    go_wp2_with fail
    rw [← hVV]
    clear hVV
    refine (HM _).mono ?_
    rintro e W1 ⟨rfl, s1⟩
    have b0 := s1.keep c0
    have b1 := s1.keep c1
    go_wp2_with fail
    refine (HW.out _ (sx.trans s1)).mono ?_
    rintro e W2 ⟨rfl, s2⟩
    have t2 : Same V W2 := s1.trans s2
    go_wp2_with fail
    refine (HP.out _).mono ?_
    rintro e W3 ⟨rfl, s3⟩
    have t3 : Same V W3 := t2.trans s3
    have b0 := t3.keep c0
    have b1 := t3.keep c1
    have RW := HRW.out _ t3
    have TT := sx.trans t3
    have hlt3 : w.heap.size + 1 < W3.heap.size := lt_of_heap RW
    obtain ⟨j0, j1, j2, j3, g0, g1, g2, g3⟩ := row4_cells RW
    go_wp2_with fail
    obtain ⟨X, hX⟩ : ∃ X, X = ((((W3.setCell ⟨w.heap.size + 1, 0, none⟩ (.int .u8 0)).setCell ⟨w.heap.size + 1, 1, none⟩ (.int .u32 0)).setCell ⟨w.heap.size + 1, 2, none⟩ (.int .u64 0)).setCell ⟨w.heap.size + 1, 3, none⟩ (.string ⟨#[]⟩)) := ⟨_, rfl⟩
    have RX : X.heap[w.heap.size + 1]? = some (.cells #[.int .u8 0, .int .u32 0, .int .u64 0, .string ⟨#[]⟩] 41 (0, 0)) := by rw [hX]; exact row4_put RW
    have SX : Same w X := by rw [hX]; exact (((TT.setCell (p := ⟨w.heap.size + 1, 0, none⟩) (fun h => absurd h (by simp)) _).setCell (p := ⟨w.heap.size + 1, 1, none⟩) (fun h => absurd h (by simp)) _).setCell (p := ⟨w.heap.size + 1, 2, none⟩) (fun h => absurd h (by simp)) _).setCell (p := ⟨w.heap.size + 1, 3, none⟩) (fun h => absurd h (by simp)) _
    rw [← hX]
    clear hX
    exact bodyPost_ret (HRES.out _ _ _ _ ((heap_alloc_old X _ (lt_of_heap RX)).trans RX) rfl rfl) rfl ⟨rfl, SX.alloc _⟩
  · have hp := frame_lo hf
    have HW : Hid (∀ W, Same w W → Calls Tryd.prog 31 #[.string s] W fun e w' => e = .returned (.bool true) ∧ Same W w') := fun W h => by rw [← hw]; exact whole_calls s (by omega) (by omega) W (HT.out.same h)
    have HP : Hid (∀ W, Calls Tryd.prog 32 #[.string s] W fun e w' => e = .returned (.tuple #[pageV (beAt s 5 1) (beAt s 8 4) (beAt s 16 8) (bodyAt s), .bool true]) ∧ Same W w') := fun W => by rw [← hL]; exact parse_calls s (by omega) (by omega) W
    have HC := check_calls p q (beAt s 5 1) (beAt s 8 4) (beAt s 16 8) (bodyAt s)
    have hzn : (s.size : Int) = p := hz
    generalize beAt s 5 1 = KD at *
    generalize beAt s 8 4 = NO at *
    generalize beAt s 16 8 = VS at *
    generalize bodyAt s = BD at *
    clear hw hf hp hL
    go_enter Tryd.func15, Tryd.ntmps15
    go_wp2_with fail
    rw [← hVV]
    clear hVV
    refine (HM _).mono ?_
    rintro e W1 ⟨rfl, s1⟩
    have b0 := s1.keep c0
    have b1 := s1.keep c1
    go_wp2_with fail
    refine (HW.out _ (sx.trans s1)).mono ?_
    rintro e W2 ⟨rfl, s2⟩
    have t2 : Same V W2 := s1.trans s2
    go_wp2_with fail
    refine (HP.out _).mono ?_
    rintro e W3 ⟨rfl, s3⟩
    have t3 : Same V W3 := t2.trans s3
    have b0 := t3.keep c0
    have b1 := t3.keep c1
    have s4 : Same W3 (W3.alloc (.cells #[.int .u8 KD, .int .u32 NO, .int .u64 VS, .string BD] 41)) := (Fr.refl _ W3).alloc _
    have d0 : (W3.alloc (.cells #[.int .u8 KD, .int .u32 NO, .int .u64 VS, .string BD] 41)).cell? ⟨W3.heap.size, 0, none⟩ = some (.int .u8 KD) := by simp
    have d1 : (W3.alloc (.cells #[.int .u8 KD, .int .u32 NO, .int .u64 VS, .string BD] 41)).cell? ⟨W3.heap.size, 1, none⟩ = some (.int .u32 NO) := by simp
    have d2 : (W3.alloc (.cells #[.int .u8 KD, .int .u32 NO, .int .u64 VS, .string BD] 41)).cell? ⟨W3.heap.size, 2, none⟩ = some (.int .u64 VS) := by simp
    have d3 : (W3.alloc (.cells #[.int .u8 KD, .int .u32 NO, .int .u64 VS, .string BD] 41)).cell? ⟨W3.heap.size, 3, none⟩ = some (.string BD) := by simp
    have b0 := s4.keep b0
    have b1 := s4.keep b1
    go_wp2_with fail
    refine (HC _).mono ?_
    rintro e W5 ⟨rfl, s5⟩
    have t5 : Same V W5 := (t3.trans s4).trans s5
    have d0 := s5.keep d0
    have d1 := s5.keep d1
    have d2 := s5.keep d2
    have d3 := s5.keep d3
    have RW := HRW.out _ t5
    have TT := sx.trans t5
    obtain ⟨j0, j1, j2, j3, g0, g1, g2, g3⟩ := row4_cells RW
    go_wp2_with fail
    obtain ⟨X, hX⟩ : ∃ X, X = ((((W5.setCell ⟨w.heap.size + 1, 0, none⟩ (.int .u8 0)).setCell ⟨w.heap.size + 1, 1, none⟩ (.int .u32 0)).setCell ⟨w.heap.size + 1, 2, none⟩ (.int .u64 0)).setCell ⟨w.heap.size + 1, 3, none⟩ (.string ⟨#[]⟩)) := ⟨_, rfl⟩
    have RX : X.heap[w.heap.size + 1]? = some (.cells #[.int .u8 0, .int .u32 0, .int .u64 0, .string ⟨#[]⟩] 41 (0, 0)) := by rw [hX]; exact row4_put RW
    have SX : Same w X := by rw [hX]; exact (((TT.setCell (p := ⟨w.heap.size + 1, 0, none⟩) (fun h => absurd h (by simp)) _).setCell (p := ⟨w.heap.size + 1, 1, none⟩) (fun h => absurd h (by simp)) _).setCell (p := ⟨w.heap.size + 1, 2, none⟩) (fun h => absurd h (by simp)) _).setCell (p := ⟨w.heap.size + 1, 3, none⟩) (fun h => absurd h (by simp)) _
    rw [← hX]
    clear hX
    exact bodyPost_ret (HRES.out _ _ _ _ RX rfl rfl) rfl ⟨rfl, SX⟩
  · have hp := frame_lo hf
    have HW : Hid (∀ W, Same w W → Calls Tryd.prog 31 #[.string s] W fun e w' => e = .returned (.bool true) ∧ Same W w') := fun W h => by rw [← hw]; exact whole_calls s (by omega) (by omega) W (HT.out.same h)
    have HP : Hid (∀ W, Calls Tryd.prog 32 #[.string s] W fun e w' => e = .returned (.tuple #[pageV (beAt s 5 1) (beAt s 8 4) (beAt s 16 8) (bodyAt s), .bool true]) ∧ Same W w') := fun W => by rw [← hL]; exact parse_calls s (by omega) (by omega) W
    have HC := check_calls p q (beAt s 5 1) (beAt s 8 4) (beAt s 16 8) (bodyAt s)
    have hzn : (s.size : Int) = p := hz
    generalize beAt s 5 1 = KD at *
    generalize beAt s 8 4 = NO at *
    generalize beAt s 16 8 = VS at *
    generalize bodyAt s = BD at *
    rw [hc] at HC
    clear hw hf hp hL
    go_enter Tryd.func15, Tryd.ntmps15
    go_wp2_with fail
    rw [← hVV]
    clear hVV
    refine (HM _).mono ?_
    rintro e W1 ⟨rfl, s1⟩
    have b0 := s1.keep c0
    have b1 := s1.keep c1
    go_wp2_with fail
    refine (HW.out _ (sx.trans s1)).mono ?_
    rintro e W2 ⟨rfl, s2⟩
    have t2 : Same V W2 := s1.trans s2
    go_wp2_with fail
    refine (HP.out _).mono ?_
    rintro e W3 ⟨rfl, s3⟩
    have t3 : Same V W3 := t2.trans s3
    have b0 := t3.keep c0
    have b1 := t3.keep c1
    have s4 : Same W3 (W3.alloc (.cells #[.int .u8 KD, .int .u32 NO, .int .u64 VS, .string BD] 41)) := (Fr.refl _ W3).alloc _
    have d0 : (W3.alloc (.cells #[.int .u8 KD, .int .u32 NO, .int .u64 VS, .string BD] 41)).cell? ⟨W3.heap.size, 0, none⟩ = some (.int .u8 KD) := by simp
    have d1 : (W3.alloc (.cells #[.int .u8 KD, .int .u32 NO, .int .u64 VS, .string BD] 41)).cell? ⟨W3.heap.size, 1, none⟩ = some (.int .u32 NO) := by simp
    have d2 : (W3.alloc (.cells #[.int .u8 KD, .int .u32 NO, .int .u64 VS, .string BD] 41)).cell? ⟨W3.heap.size, 2, none⟩ = some (.int .u64 VS) := by simp
    have d3 : (W3.alloc (.cells #[.int .u8 KD, .int .u32 NO, .int .u64 VS, .string BD] 41)).cell? ⟨W3.heap.size, 3, none⟩ = some (.string BD) := by simp
    have b0 := s4.keep b0
    have b1 := s4.keep b1
    go_wp2_with fail
    refine (HC _).mono ?_
    rintro e W5 ⟨rfl, s5⟩
    have t5 : Same V W5 := (t3.trans s4).trans s5
    have d0 := s5.keep d0
    have d1 := s5.keep d1
    have d2 := s5.keep d2
    have d3 := s5.keep d3
    have RW := HRW.out _ t5
    have TT := sx.trans t5
    obtain ⟨j0, j1, j2, j3, g0, g1, g2, g3⟩ := row4_cells RW
    go_wp2_with fail
    obtain ⟨X, hX⟩ : ∃ X, X = ((((W5.setCell ⟨w.heap.size + 1, 0, none⟩ (.int .u8 KD)).setCell ⟨w.heap.size + 1, 1, none⟩ (.int .u32 NO)).setCell ⟨w.heap.size + 1, 2, none⟩ (.int .u64 VS)).setCell ⟨w.heap.size + 1, 3, none⟩ (.string BD)) := ⟨_, rfl⟩
    have RX : X.heap[w.heap.size + 1]? = some (.cells #[.int .u8 KD, .int .u32 NO, .int .u64 VS, .string BD] 41 (0, 0)) := by rw [hX]; exact row4_put RW
    have SX : Same w X := by rw [hX]; exact (((TT.setCell (p := ⟨w.heap.size + 1, 0, none⟩) (fun h => absurd h (by simp)) _).setCell (p := ⟨w.heap.size + 1, 1, none⟩) (fun h => absurd h (by simp)) _).setCell (p := ⟨w.heap.size + 1, 2, none⟩) (fun h => absurd h (by simp)) _).setCell (p := ⟨w.heap.size + 1, 3, none⟩) (fun h => absurd h (by simp)) _
    rw [← hX]
    clear hX
    exact bodyPost_ret (HRES.out _ _ _ _ RX rfl rfl) rfl ⟨rfl, SX⟩
end Go.Proofs.YtajpgopgohadeaaDoor
