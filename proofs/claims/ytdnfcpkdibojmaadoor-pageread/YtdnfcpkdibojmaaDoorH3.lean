/- The document's Open; PageRead. -/
import Derived.Test.YtdnfcpkdibojmaaDoorH2
namespace Go.Proofs.YtdnfcpkdibojmaaDoor
open Go.RowKit

set_option maxRecDepth 100000 in
set_option maxHeartbeats 2000000 in
theorem ropen_calls (p q : Int) (no : Nat) (s : ByteArray) (w : World) :
    Calls Tryd.prog 17 #[frameV p q, .int .u32 no, .string s] w fun e w' => e = .returned (.tuple #[openV p q no s, .int .i64 (openE p q no s)]) ∧ Same w w' := by
  have HR : Hid (∀ W, Same w W → Calls Tryd.prog 16 #[frameV p q, .string s] W fun e w' => e = .returned (.tuple #[readV p q s, .int .i64 (readE p q s)]) ∧ Same W w') := fun W _ => rread_calls p q s W
  have HRES : Hid (∀ (tmps : Array Value) (W : World) (cs : Array Value) (g : Nat), W.heap[g]? = some (.cells cs 29 (0, 0)) → cs.size = 4 → tmps.getD 6 undef = .pointer (some ⟨g, 0, none⟩) → (results Tryd.f17 tmps).run Tryd.prog W = .ok (.tuple #[.agg cs, tmps.getD 7 undef]) W) := fun tmps W cs g h h4 hp => results_row_tmp (p := 6) (u := 7) (ty := 29) (by kernel_rfl) tmps _ g 29 _ (0, 0) _ hp h Tryd.underlying29 rfl (by rw [h4]; kernel_rfl)
  obtain ⟨V, hVV⟩ : ∃ V, V = ((w.alloc (.cells #[.int .i64 p, .int .i64 q] 24)).alloc (.cells #[.int .u8 0, .int .u32 0, .int .u64 0, .string ⟨#[]⟩] 29)) := ⟨_, rfl⟩
  have sx : Same w V := by rw [hVV]; exact ((Fr.refl _ w).alloc _).alloc _
  have RV : V.heap[w.heap.size + 1]? = some (.cells #[.int .u8 0, .int .u32 0, .int .u64 0, .string ⟨#[]⟩] 29 (0, 0)) := by rw [hVV]; exact heap_alloc2_new w _ _
  have HRW : Hid (∀ W, Same V W → W.heap[w.heap.size + 1]? = some (.cells #[.int .u8 0, .int .u32 0, .int .u64 0, .string ⟨#[]⟩] 29 (0, 0))) := fun W h => (h.block _ (lt_of_heap RV) (fun f => f)).trans RV
  clear RV
  rcases open_cases p q no s with ⟨hE, hv, e1, e2⟩ | ⟨hE, hn, hv, e1, e2⟩ | ⟨hE, hn, hv, e1, e2⟩
  · rw [e1, e2]
    rw [hv] at HR
    generalize readE p q s = E at *
    clear hv e1 e2
    go_enter Tryd.func17, Tryd.ntmps17
    go_wp2_with fail
    rw [← hVV]
    clear hVV
    refine (HR.out _ sx).mono ?_
    rintro e W1 ⟨rfl, s1⟩
    have RW := HRW.out _ s1
    have TT := sx.trans s1
    have hlt3 : w.heap.size + 1 < W1.heap.size := lt_of_heap RW
    obtain ⟨j0, j1, j2, j3, g0, g1, g2, g3⟩ := row4_cells RW
    go_wp2_with fail
    obtain ⟨X, hX⟩ : ∃ X, X = ((((W1.setCell ⟨w.heap.size + 1, 0, none⟩ (.int .u8 0)).setCell ⟨w.heap.size + 1, 1, none⟩ (.int .u32 0)).setCell ⟨w.heap.size + 1, 2, none⟩ (.int .u64 0)).setCell ⟨w.heap.size + 1, 3, none⟩ (.string ⟨#[]⟩)) := ⟨_, rfl⟩
    have RX : X.heap[w.heap.size + 1]? = some (.cells #[.int .u8 0, .int .u32 0, .int .u64 0, .string ⟨#[]⟩] 29 (0, 0)) := by rw [hX]; exact row4_put RW
    have SX : Same w X := by rw [hX]; exact (((TT.setCell (p := ⟨w.heap.size + 1, 0, none⟩) (fun h => absurd h (by simp)) _).setCell (p := ⟨w.heap.size + 1, 1, none⟩) (fun h => absurd h (by simp)) _).setCell (p := ⟨w.heap.size + 1, 2, none⟩) (fun h => absurd h (by simp)) _).setCell (p := ⟨w.heap.size + 1, 3, none⟩) (fun h => absurd h (by simp)) _
    rw [← hX]
    clear hX
    exact bodyPost_ret (HRES.out _ _ _ _ ((heap_alloc_old X _ (lt_of_heap RX)).trans RX) rfl rfl) rfl ⟨rfl, SX.alloc _⟩
  · rw [e1, e2]
    rw [hE, hv] at HR
    clear hE hv e1 e2
    generalize beAt s 5 1 = KD at *
    generalize beAt s 8 4 = NO at *
    generalize beAt s 16 8 = VS at *
    generalize bodyAt s = BD at *
    have hne : ((NO : Int) != (no : Int)) = true := by rw [bne_iff_ne]; intro e; exact hn (by omega)
    have hne2 : ¬ (NO : Int) = (no : Int) := by intro e; exact hn (by omega)
    clear hn
    go_enter Tryd.func17, Tryd.ntmps17
    go_wp2_with fail
    rw [← hVV]
    clear hVV
    refine (HR.out _ sx).mono ?_
    rintro e W1 ⟨rfl, s1⟩
    have RW := HRW.out _ s1
    have TT := sx.trans s1
    have hlt3 : w.heap.size + 1 < W1.heap.size := lt_of_heap RW
    obtain ⟨j0, j1, j2, j3, g0, g1, g2, g3⟩ := row4_cells RW
    go_wp2_with fail
    obtain ⟨X, hX⟩ : ∃ X, X = ((((W1.setCell ⟨w.heap.size + 1, 0, none⟩ (.int .u8 0)).setCell ⟨w.heap.size + 1, 1, none⟩ (.int .u32 0)).setCell ⟨w.heap.size + 1, 2, none⟩ (.int .u64 0)).setCell ⟨w.heap.size + 1, 3, none⟩ (.string ⟨#[]⟩)) := ⟨_, rfl⟩
    have RX : X.heap[w.heap.size + 1]? = some (.cells #[.int .u8 0, .int .u32 0, .int .u64 0, .string ⟨#[]⟩] 29 (0, 0)) := by rw [hX]; exact row4_put RW
    have SX : Same w X := by rw [hX]; exact (((TT.setCell (p := ⟨w.heap.size + 1, 0, none⟩) (fun h => absurd h (by simp)) _).setCell (p := ⟨w.heap.size + 1, 1, none⟩) (fun h => absurd h (by simp)) _).setCell (p := ⟨w.heap.size + 1, 2, none⟩) (fun h => absurd h (by simp)) _).setCell (p := ⟨w.heap.size + 1, 3, none⟩) (fun h => absurd h (by simp)) _
    rw [← hX]
    clear hX
    exact bodyPost_ret (HRES.out _ _ _ _ ((heap_alloc_old X _ (lt_of_heap RX)).trans RX) rfl rfl) rfl ⟨rfl, SX.alloc _⟩
  · rw [e1, e2]
    rw [hE, hv] at HR
    clear hE hv e1 e2
    generalize beAt s 5 1 = KD at *
    generalize beAt s 8 4 = NO at *
    generalize beAt s 16 8 = VS at *
    generalize bodyAt s = BD at *
    subst hn
    go_enter Tryd.func17, Tryd.ntmps17
    go_wp2_with fail
    rw [← hVV]
    clear hVV
    refine (HR.out _ sx).mono ?_
    rintro e W1 ⟨rfl, s1⟩
    have RW := HRW.out _ s1
    have TT := sx.trans s1
    have hlt3 : w.heap.size + 1 < W1.heap.size := lt_of_heap RW
    obtain ⟨j0, j1, j2, j3, g0, g1, g2, g3⟩ := row4_cells RW
    go_wp2_with fail
    obtain ⟨X, hX⟩ : ∃ X, X = ((((W1.setCell ⟨w.heap.size + 1, 0, none⟩ (.int .u8 KD)).setCell ⟨w.heap.size + 1, 1, none⟩ (.int .u32 NO)).setCell ⟨w.heap.size + 1, 2, none⟩ (.int .u64 VS)).setCell ⟨w.heap.size + 1, 3, none⟩ (.string BD)) := ⟨_, rfl⟩
    have RX : X.heap[w.heap.size + 1]? = some (.cells #[.int .u8 KD, .int .u32 NO, .int .u64 VS, .string BD] 29 (0, 0)) := by rw [hX]; exact row4_put RW
    have SX : Same w X := by rw [hX]; exact (((TT.setCell (p := ⟨w.heap.size + 1, 0, none⟩) (fun h => absurd h (by simp)) _).setCell (p := ⟨w.heap.size + 1, 1, none⟩) (fun h => absurd h (by simp)) _).setCell (p := ⟨w.heap.size + 1, 2, none⟩) (fun h => absurd h (by simp)) _).setCell (p := ⟨w.heap.size + 1, 3, none⟩) (fun h => absurd h (by simp)) _
    rw [← hX]
    clear hX
    exact bodyPost_ret (HRES.out _ _ _ _ ((heap_alloc_old X _ (lt_of_heap RX)).trans RX) rfl rfl) rfl ⟨rfl, SX.alloc _⟩

set_option maxRecDepth 100000 in
set_option maxHeartbeats 4000000 in
theorem pread_walk (w : World) (ht : TabAt w) (p q : Int) (s : ByteArray) (no : Nat) :
    Calls Tryd.prog 6 #[frameV p q, .string s, .int .u32 no] w fun e w' => e = .returned (.bool true) ∧ Same w w' := by
  have HA : Hid (∀ W, Same w W → Calls Tryd.prog 9 #[] W fun e w' => e = .returned (.bool true) ∧ Same W w') := fun W h => awake_calls W (ht.same h)
  obtain ⟨re, hre⟩ : ∃ re, re = readE p q s := ⟨_, rfl⟩
  obtain ⟨oe, hoe⟩ : ∃ oe, oe = openE p q no s := ⟨_, rfl⟩
  have rv : ∃ a0 a1 a2 a3, readV p q s = pageV a0 a1 a2 a3 := by unfold readV; split <;> exact ⟨_, _, _, _, rfl⟩
  obtain ⟨a0, a1, a2, a3, hrv⟩ := rv
  have ov : ∃ a0 a1 a2 a3, openV p q no s = pageV a0 a1 a2 a3 := by
    rcases open_cases p q no s with ⟨_, _, _, h⟩ | ⟨_, _, _, _, h⟩ | ⟨_, _, _, _, h⟩ <;> exact ⟨_, _, _, _, h⟩
  obtain ⟨b0, b1, b2, b3, hov⟩ := ov
  have H1 : Hid (∀ W, Same w W → Calls Tryd.prog 14 #[frameV p q, .string s] W fun e w' => e = .returned (.tuple #[pageV a0 a1 a2 a3, .int .i64 re]) ∧ Same W w') := fun W h => by rw [hre, ← hrv]; exact read_calls p q s W (ht.same h)
  have H2 : Hid (∀ W, Calls Tryd.prog 16 #[frameV p q, .string s] W fun e w' => e = .returned (.tuple #[pageV a0 a1 a2 a3, .int .i64 re]) ∧ Same W w') := fun W => by rw [hre, ← hrv]; exact rread_calls p q s W
  have H3 : Hid (∀ W, Same w W → Calls Tryd.prog 15 #[frameV p q, .int .u32 no, .string s] W fun e w' => e = .returned (.tuple #[pageV b0 b1 b2 b3, .int .i64 oe]) ∧ Same W w') := fun W h => by rw [hoe, ← hov]; exact open_calls5 p q no s W (ht.same h)
  have H4 : Hid (∀ W, Calls Tryd.prog 17 #[frameV p q, .int .u32 no, .string s] W fun e w' => e = .returned (.tuple #[pageV b0 b1 b2 b3, .int .i64 oe]) ∧ Same W w') := fun W => by rw [hoe, ← hov]; exact ropen_calls p q no s W
  obtain ⟨V, hV⟩ : ∃ V, V = w.alloc (.cells #[.int .i64 p, .int .i64 q] 24) := ⟨_, rfl⟩
  have sx : Same w V := by rw [hV]; exact (Fr.refl _ w).alloc _
  have HS : Hid (∀ W, Same V W → W.cell? ⟨w.heap.size, 0, none⟩ = some (.int .i64 p) ∧ W.cell? ⟨w.heap.size, 1, none⟩ = some (.int .i64 q)) := by
    intro W h
    refine ⟨h.keep ?_, h.keep ?_⟩ <;> (rw [hV]; simp)
  have HQ : Hid (∀ (W : World) (c0 c1 c2 : Nat) (c3 : ByteArray), (W.alloc (.cells #[.int .u8 c0, .int .u32 c1, .int .u64 c2, .string c3] 29)).cell? ⟨W.heap.size, 0, none⟩ = some (.int .u8 c0) ∧ (W.alloc (.cells #[.int .u8 c0, .int .u32 c1, .int .u64 c2, .string c3] 29)).cell? ⟨W.heap.size, 1, none⟩ = some (.int .u32 c1) ∧ (W.alloc (.cells #[.int .u8 c0, .int .u32 c1, .int .u64 c2, .string c3] 29)).cell? ⟨W.heap.size, 2, none⟩ = some (.int .u64 c2) ∧ (W.alloc (.cells #[.int .u8 c0, .int .u32 c1, .int .u64 c2, .string c3] 29)).cell? ⟨W.heap.size, 3, none⟩ = some (.string c3)) := by
    intro W c0 c1 c2 c3
    refine ⟨?_, ?_, ?_, ?_⟩ <;> simp
  clear ht hre hoe hrv hov
  go_enter Tryd.func6, Tryd.ntmps6
  go_wp2_with fail
  rw [← hV]
  clear hV
  refine (H1.out _ sx).mono ?_
  rintro e W1 ⟨rfl, s1⟩
  have t1 : Same V (W1.alloc (.cells #[.int .u8 a0, .int .u32 a1, .int .u64 a2, .string a3] 29)) := s1.alloc _
  obtain ⟨x0, x1, x2, x3⟩ := HQ.out W1 a0 a1 a2 a3
  obtain ⟨c0, c1⟩ := HS.out _ t1
  go_wp2_with fail
  refine (H2.out _).mono ?_
  rintro e W2 ⟨rfl, s2⟩
  have q2 : Same W2 (W2.alloc (.cells #[.int .u8 a0, .int .u32 a1, .int .u64 a2, .string a3] 29)) := (Fr.refl _ W2).alloc _
  have t2 := (t1.trans s2).trans q2
  have x0 := q2.keep (s2.keep x0)
  have x1 := q2.keep (s2.keep x1)
  have x2 := q2.keep (s2.keep x2)
  have x3 := q2.keep (s2.keep x3)
  obtain ⟨y0, y1, y2, y3⟩ := HQ.out W2 a0 a1 a2 a3
  clear c0 c1
  obtain ⟨c0, c1⟩ := HS.out _ t2
  go_wp2_with fail
  refine (H3.out _ (sx.trans t2)).mono ?_
  rintro e W3 ⟨rfl, s3⟩
  have q3 : Same W3 (W3.alloc (.cells #[.int .u8 b0, .int .u32 b1, .int .u64 b2, .string b3] 29)) := (Fr.refl _ W3).alloc _
  have t3 := (t2.trans s3).trans q3
  have x0 := q3.keep (s3.keep x0)
  have x1 := q3.keep (s3.keep x1)
  have x2 := q3.keep (s3.keep x2)
  have x3 := q3.keep (s3.keep x3)
  have y0 := q3.keep (s3.keep y0)
  have y1 := q3.keep (s3.keep y1)
  have y2 := q3.keep (s3.keep y2)
  have y3 := q3.keep (s3.keep y3)
  obtain ⟨u0, u1, u2, u3⟩ := HQ.out W3 b0 b1 b2 b3
  clear c0 c1
  obtain ⟨c0, c1⟩ := HS.out _ t3
  go_wp2_with fail
  refine (H4.out _).mono ?_
  rintro e W4 ⟨rfl, s4⟩
  have q4 : Same W4 (W4.alloc (.cells #[.int .u8 b0, .int .u32 b1, .int .u64 b2, .string b3] 29)) := (Fr.refl _ W4).alloc _
  have t4 := (t3.trans s4).trans q4
  have x0 := q4.keep (s4.keep x0)
  have x1 := q4.keep (s4.keep x1)
  have x2 := q4.keep (s4.keep x2)
  have x3 := q4.keep (s4.keep x3)
  have y0 := q4.keep (s4.keep y0)
  have y1 := q4.keep (s4.keep y1)
  have y2 := q4.keep (s4.keep y2)
  have y3 := q4.keep (s4.keep y3)
  have u0 := q4.keep (s4.keep u0)
  have u1 := q4.keep (s4.keep u1)
  have u2 := q4.keep (s4.keep u2)
  have u3 := q4.keep (s4.keep u3)
  clear c0 c1
  go_wp2_with fail
  refine (HA.out _ (sx.trans t4)).mono ?_
  rintro e W5 ⟨rfl, s5⟩
  go_wp2_with fail
  go_ret
  exact ⟨rfl, (sx.trans t4).trans s5⟩
end Go.Proofs.YtdnfcpkdibojmaaDoor
