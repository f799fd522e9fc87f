/- The document's Sheet. -/
import Derived.Test.YtajpgopgohadeaaDoorJ2
import Derived.Test.YtajpgopgohadeaaDoorH3
namespace Go.Proofs.YtajpgopgohadeaaDoor
open Go.RowKit

set_option maxRecDepth 100000 in
set_option maxHeartbeats 2000000 in
theorem rsheet_calls {w : World} {pa : Option Addr} {pb po pc : Nat} {L : List Blk} (p q : Int) (h : LAt w pa pb po L) (hl : L.length ≤ 281474976710656) (no : Nat) :
    Calls Tryd.prog 9 #[frameV p q, .slice pa L.length pc, .int .u32 no] w fun e w' => e = .returned (.tuple #[sheetV p q L no, .int .i64 (sheetE p q L no)]) ∧ Same w w' := by
  have HB : Hid (∀ W, Same w W → Calls Tryd.prog 19 #[.slice pa L.length pc, .int .u32 no] W fun e w' => e = .returned (.tuple #[.string (blkA L no).1, .int .i64 (blkA L no).2]) ∧ Same W w') := fun W hW => blocks_calls (h.fr hW (fun _ f => f)) hl no
  have HRES : Hid (∀ (tmps : Array Value) (W : World) (cs : Array Value) (g : Nat), W.heap[g]? = some (.cells cs 41 (0, 0)) → cs.size = 4 → tmps.getD 6 undef = .pointer (some ⟨g, 0, none⟩) → (results Tryd.f9 tmps).run Tryd.prog W = .ok (.tuple #[.agg cs, tmps.getD 7 undef]) W) := fun tmps W cs g h h4 hp => results_row_tmp (p := 6) (u := 7) (ty := 41) (by kernel_rfl) tmps _ g 41 _ (0, 0) _ hp h Tryd.underlying41 rfl (by rw [h4]; kernel_rfl)
  obtain ⟨V, hV⟩ : ∃ V, V = ((w.alloc (.cells #[.int .i64 p, .int .i64 q] 23)).alloc (.cells #[.int .u8 0, .int .u32 0, .int .u64 0, .string ⟨#[]⟩] 41)) := ⟨_, rfl⟩
  have sx : Same w V := by rw [hV]; exact ((Fr.refl _ w).alloc _).alloc _
  have c0 : V.cell? ⟨w.heap.size, 0, none⟩ = some (.int .i64 p) := by rw [hV]; simp
  have c1 : V.cell? ⟨w.heap.size, 1, none⟩ = some (.int .i64 q) := by rw [hV]; simp
  have RV : V.heap[w.heap.size + 1]? = some (.cells #[.int .u8 0, .int .u32 0, .int .u64 0, .string ⟨#[]⟩] 41 (0, 0)) := by rw [hV]; exact heap_alloc2_new w _ _
  have ov : ∃ a0 a1 a2 a3, openV p q no (blkA L no).1 = pageV a0 a1 a2 a3 := by
    rcases open_cases p q no (blkA L no).1 with ⟨_, _, _, h⟩ | ⟨_, _, _, _, h⟩ | ⟨_, _, _, _, h⟩ <;> exact ⟨_, _, _, _, h⟩
  obtain ⟨b0, b1, b2, b3, hov⟩ := ov
  have HOP : Hid (∀ W, Calls Tryd.prog 20 #[frameV p q, .int .u32 no, .string (blkA L no).1] W fun e w' => e = .returned (.tuple #[pageV b0 b1 b2 b3, .int .i64 (openE p q no (blkA L no).1)]) ∧ Same W w') := fun W => by rw [← hov]; exact ropen_calls p q no _ W
  have cs : (no < 2 ∧ sheetE p q L no = 2 ∧ sheetV p q L no = noPage) ∨ (¬ no < 2 ∧ 2147483648 ≤ no ∧ sheetE p q L no = 2 ∧ sheetV p q L no = noPage) ∨ (¬ no < 2 ∧ no < 2147483648 ∧ ¬ (blkA L no).2 = 0 ∧ sheetE p q L no = (blkA L no).2 ∧ sheetV p q L no = noPage) ∨ (¬ no < 2 ∧ no < 2147483648 ∧ (blkA L no).2 = 0 ∧ sheetE p q L no = openE p q no (blkA L no).1 ∧ sheetV p q L no = pageV b0 b1 b2 b3) := by
    by_cases h1 : no < 2
    · have e : numB no = false := by unfold numB; rw [decide_eq_false_iff_not]; omega
      exact Or.inl ⟨h1, by unfold sheetE; rw [if_pos e], by unfold sheetV; rw [if_pos e]⟩
    · by_cases h2 : 2147483648 ≤ no
      · have e : numB no = false := by unfold numB; rw [decide_eq_false_iff_not]; omega
        exact Or.inr (Or.inl ⟨h1, h2, by unfold sheetE; rw [if_pos e], by unfold sheetV; rw [if_pos e]⟩)
      · have e : numB no = true := by unfold numB; rw [decide_eq_true_eq]; omega
        by_cases h3 : (blkA L no).2 = 0
        · exact Or.inr (Or.inr (Or.inr ⟨h1, by omega, h3, by unfold sheetE; rw [if_neg (by rw [e]; decide), if_neg (by simpa using h3)], by unfold sheetV; rw [if_neg (by rw [e]; decide), if_neg (by simpa using h3), hov]⟩))
        · exact Or.inr (Or.inr (Or.inl ⟨h1, by omega, h3, by unfold sheetE; rw [if_neg (by rw [e]; decide), if_pos h3], by unfold sheetV; rw [if_neg (by rw [e]; decide), if_pos h3]⟩))
  obtain ⟨N, hN⟩ : ∃ N : Int, N = (no : Int) := ⟨_, rfl⟩
  rw [← hN] at HB HOP ⊢
  have HNN : Hid (N = (no : Int)) := hN
  generalize openE p q no (blkA L no).1 = oe at *
  clear hN hov h hl
  generalize (blkA L no).1 = bt at *
  generalize (blkA L no).2 = bc at *
  generalize L.length = nl at *
  rcases cs with ⟨h1, eE, eV⟩ | ⟨h1, h2, eE, eV⟩ | ⟨h1, h2, h3, eE, eV⟩ | ⟨h1, h2, h3, eE, eV⟩
  all_goals rw [eE, eV]
  all_goals clear eE eV
  · have g1 : N < 2 := by have := HNN.out; omega
    clear h1
    go_enter Tryd.func9, Tryd.ntmps9
    go_wp2_with fail
    exact bodyPost_ret (HRES.out _ _ _ _ (heap_alloc2_new w _ _) rfl rfl) rfl ⟨rfl, ((Fr.refl _ w).alloc _).alloc _⟩
  · have g1 : ¬ N < 2 := by have := HNN.out; omega
    have g2 : (2147483648 : Int) ≤ N := by have := HNN.out; omega
    clear h1 h2
    go_enter Tryd.func9, Tryd.ntmps9
    go_wp2_with fail
    exact bodyPost_ret (HRES.out _ _ _ _ (heap_alloc2_new w _ _) rfl rfl) rfl ⟨rfl, ((Fr.refl _ w).alloc _).alloc _⟩
  · have g1 : ¬ N < 2 := by have := HNN.out; omega
    have g2 : ¬ (2147483648 : Int) ≤ N := by have := HNN.out; omega
    clear h1 h2
    go_enter Tryd.func9, Tryd.ntmps9
    go_wp2_with fail
    rw [← hV]
    clear hV
    refine (HB.out _ sx).mono ?_
    rintro e W1 ⟨rfl, s1⟩
    have RW := (s1.block _ (lt_of_heap RV) (fun f => f)).trans RV
    have TT := sx.trans s1
    obtain ⟨j0, j1, j2, j3, g0, g1', g2', g3⟩ := row4_cells RW
    go_wp2_with fail
    obtain ⟨X9, hX⟩ : ∃ X, X = ((((W1.setCell ⟨w.heap.size + 1, 0, none⟩ (.int .u8 0)).setCell ⟨w.heap.size + 1, 1, none⟩ (.int .u32 0)).setCell ⟨w.heap.size + 1, 2, none⟩ (.int .u64 0)).setCell ⟨w.heap.size + 1, 3, none⟩ (.string ⟨#[]⟩)) := ⟨_, rfl⟩
    have RX : X9.heap[w.heap.size + 1]? = some (.cells #[.int .u8 0, .int .u32 0, .int .u64 0, .string ⟨#[]⟩] 41 (0, 0)) := by rw [hX]; exact row4_put RW
    have SX : Same w X9 := by rw [hX]; exact (((TT.setCell (p := ⟨w.heap.size + 1, 0, none⟩) (fun h => absurd h (by simp)) _).setCell (p := ⟨w.heap.size + 1, 1, none⟩) (fun h => absurd h (by simp)) _).setCell (p := ⟨w.heap.size + 1, 2, none⟩) (fun h => absurd h (by simp)) _).setCell (p := ⟨w.heap.size + 1, 3, none⟩) (fun h => absurd h (by simp)) _
    rw [← hX]
    clear hX
    exact bodyPost_ret (HRES.out _ _ _ _ RX rfl rfl) rfl ⟨rfl, SX⟩
  · have g1 : ¬ N < 2 := by have := HNN.out; omega
    have g2 : ¬ (2147483648 : Int) ≤ N := by have := HNN.out; omega
    clear h1 h2
    rw [h3] at HB
    clear h3
    go_enter Tryd.func9, Tryd.ntmps9
    go_wp2_with fail
    rw [← hV]
    clear hV
    refine (HB.out _ sx).mono ?_
    rintro e W1 ⟨rfl, s1⟩
    have d0 := s1.keep c0
    have d1 := s1.keep c1
    go_wp2_with fail
    refine (HOP.out _).mono ?_
    rintro e W2 ⟨rfl, s2⟩
    have t2 := s1.trans s2
    have RW := (t2.block _ (lt_of_heap RV) (fun f => f)).trans RV
    have TT := sx.trans t2
    obtain ⟨j0, j1, j2, j3, g0, g1', g2', g3⟩ := row4_cells RW
    go_wp2_with fail
    obtain ⟨X9, hX⟩ : ∃ X, X = ((((W2.setCell ⟨w.heap.size + 1, 0, none⟩ (.int .u8 b0)).setCell ⟨w.heap.size + 1, 1, none⟩ (.int .u32 b1)).setCell ⟨w.heap.size + 1, 2, none⟩ (.int .u64 b2)).setCell ⟨w.heap.size + 1, 3, none⟩ (.string b3)) := ⟨_, rfl⟩
    have RX : X9.heap[w.heap.size + 1]? = some (.cells #[.int .u8 b0, .int .u32 b1, .int .u64 b2, .string b3] 41 (0, 0)) := by rw [hX]; exact row4_put RW
    have SX : Same w X9 := by rw [hX]; exact (((TT.setCell (p := ⟨w.heap.size + 1, 0, none⟩) (fun h => absurd h (by simp)) _).setCell (p := ⟨w.heap.size + 1, 1, none⟩) (fun h => absurd h (by simp)) _).setCell (p := ⟨w.heap.size + 1, 2, none⟩) (fun h => absurd h (by simp)) _).setCell (p := ⟨w.heap.size + 1, 3, none⟩) (fun h => absurd h (by simp)) _
    rw [← hX]
    clear hX
    exact bodyPost_ret (HRES.out _ _ _ _ RX rfl rfl) rfl ⟨rfl, SX⟩
end Go.Proofs.YtajpgopgohadeaaDoor
