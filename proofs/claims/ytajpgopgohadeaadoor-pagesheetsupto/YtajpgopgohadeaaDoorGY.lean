/- Open; PageWrite. -/
import Derived.Test.YtajpgopgohadeaaDoorGX
import Derived.Test.YtajpgopgohadeaaDoorG8
namespace Go.Proofs.YtajpgopgohadeaaDoor
open Go.RowKit

/-- What Open answers. -/
def openE (p q : Int) (no : Nat) (s : ByteArray) : Int := if readE p q s = 0 then (if beAt s 8 4 = no then 0 else 54) else readE p q s
def openV (p q : Int) (no : Nat) (s : ByteArray) : Value := if openE p q no s = 0 then readV p q s else noPage
theorem open_cases (p q : Int) (no : Nat) (s : ByteArray) :
    (¬ readE p q s = 0 ∧ readV p q s = noPage ∧ openE p q no s = readE p q s ∧ openV p q no s = noPage) ∨
    (readE p q s = 0 ∧ ¬ beAt s 8 4 = no ∧ readV p q s = pageV (beAt s 5 1) (beAt s 8 4) (beAt s 16 8) (bodyAt s) ∧ openE p q no s = 54 ∧ openV p q no s = noPage) ∨
    (readE p q s = 0 ∧ beAt s 8 4 = no ∧ readV p q s = pageV (beAt s 5 1) (beAt s 8 4) (beAt s 16 8) (bodyAt s) ∧ openE p q no s = 0 ∧ openV p q no s = pageV (beAt s 5 1) (beAt s 8 4) (beAt s 16 8) (bodyAt s)) := by
  by_cases h1 : readE p q s = 0
  · have hv : readV p q s = pageV (beAt s 5 1) (beAt s 8 4) (beAt s 16 8) (bodyAt s) := by unfold readV; rw [if_pos h1]
    by_cases h2 : beAt s 8 4 = no
    · have e : openE p q no s = 0 := by unfold openE; rw [if_pos h1, if_pos h2]
      exact Or.inr (Or.inr ⟨h1, h2, hv, e, by unfold openV; rw [if_pos e, hv]⟩)
    · have e : openE p q no s = 54 := by unfold openE; rw [if_pos h1, if_neg h2]
      exact Or.inr (Or.inl ⟨h1, h2, hv, e, by unfold openV; rw [e]; rfl⟩)
  · have e : openE p q no s = readE p q s := by unfold openE; rw [if_neg h1]
    exact Or.inl ⟨h1, by unfold readV; rw [if_neg h1], e, by unfold openV; rw [if_neg (by rw [e]; exact h1)]⟩

set_option maxRecDepth 100000 in
set_option maxHeartbeats 2000000 in
theorem open_calls5 (p q : Int) (no : Nat) (s : ByteArray) (w : World) (ht : TabAt w) :
    Calls Tryd.prog 18 #[frameV p q, .int .u32 no, .string s] w fun e w' => e = .returned (.tuple #[openV p q no s, .int .i64 (openE p q no s)]) ∧ Same w w' := by
  have HR : Hid (∀ W, Same w W → Calls Tryd.prog 15 #[frameV p q, .string s] W fun e w' => e = .returned (.tuple #[readV p q s, .int .i64 (readE p q s)]) ∧ Same W w') := fun W h => read_calls p q s W (ht.same h)
  have HRES : Hid (∀ (tmps : Array Value) (W : World) (cs : Array Value) (g : Nat), W.heap[g]? = some (.cells cs 41 (0, 0)) → cs.size = 4 → tmps.getD 6 undef = .pointer (some ⟨g, 0, none⟩) → (results Tryd.f18 tmps).run Tryd.prog W = .ok (.tuple #[.agg cs, tmps.getD 7 undef]) W) := fun tmps W cs g h h4 hp => results_row_tmp (p := 6) (u := 7) (ty := 41) (by kernel_rfl) tmps _ g 41 _ (0, 0) _ hp h Tryd.underlying41 rfl (by rw [h4]; kernel_rfl)
  obtain ⟨V, hVV⟩ : ∃ V, V = ((w.alloc (.cells #[.int .i64 p, .int .i64 q] 23)).alloc (.cells #[.int .u8 0, .int .u32 0, .int .u64 0, .string ⟨#[]⟩] 41)) := ⟨_, rfl⟩
  have sx : Same w V := by rw [hVV]; exact ((Fr.refl _ w).alloc _).alloc _
  have RV : V.heap[w.heap.size + 1]? = some (.cells #[.int .u8 0, .int .u32 0, .int .u64 0, .string ⟨#[]⟩] 41 (0, 0)) := by rw [hVV]; exact heap_alloc2_new w _ _
  have HRW : Hid (∀ W, Same V W → W.heap[w.heap.size + 1]? = some (.cells #[.int .u8 0, .int .u32 0, .int .u64 0, .string ⟨#[]⟩] 41 (0, 0))) := fun W h => (h.block _ (lt_of_heap RV) (fun f => f)).trans RV
  clear ht RV
  rcases open_cases p q no s with ⟨hE, hv, e1, e2⟩ | ⟨hE, hn, hv, e1, e2⟩ | ⟨hE, hn, hv, e1, e2⟩
  · rw [e1, e2]
    rw [hv] at HR
    generalize readE p q s = E at *
    clear hv e1 e2
    go_enter Tryd.func18, Tryd.ntmps18
    go_wp2_with fail
    rw [← hVV]
    clear hVV
    refine (HR.out _ sx).mono ?_
    rintro e W1 ⟨rfl, s1⟩
    have RW := HRW.out _ s1
    have TT := sx.trans s1
    have hlt3 : w.heap.size + 1 < W1.heap.size := lt_of_heap RW
    obtain ⟨j0, j1, j2, j3, g0, g1, g2, g3⟩ := row4_cells RW
    go_wp2_with fail
    obtain ⟨X, hX⟩ : ∃ X, X = ((((W1.setCell ⟨w.heap.size + 1, 0, none⟩ (.int .u8 0)).setCell ⟨w.heap.size + 1, 1, none⟩ (.int .u32 0)).setCell ⟨w.heap.size + 1, 2, none⟩ (.int .u64 0)).setCell ⟨w.heap.size + 1, 3, none⟩ (.string ⟨#[]⟩)) := ⟨_, rfl⟩
    have RX : X.heap[w.heap.size + 1]? = some (.cells #[.int .u8 0, .int .u32 0, .int .u64 0, .string ⟨#[]⟩] 41 (0, 0)) := by rw [hX]; exact row4_put RW
    have SX : Same w X := by rw [hX]; exact (((TT.setCell (p := ⟨w.heap.size + 1, 0, none⟩) (fun h => absurd h (by simp)) _).setCell (p := ⟨w.heap.size + 1, 1, none⟩) (fun h => absurd h (by simp)) _).setCell (p := ⟨w.heap.size + 1, 2, none⟩) (fun h => absurd h (by simp)) _).setCell (p := ⟨w.heap.size + 1, 3, none⟩) (fun h => absurd h (by simp)) _
    rw [← hX]
    clear hX
    exact bodyPost_ret (HRES.out _ _ _ _ ((heap_alloc_old X _ (lt_of_heap RX)).trans RX) rfl rfl) rfl ⟨rfl, SX.alloc _⟩
  · rw [e1, e2]
    rw [hE, hv] at HR
    clear hE hv e1 e2
    generalize beAt s 5 1 = KD at *
    generalize beAt s 8 4 = NO at *
    generalize beAt s 16 8 = VS at *
    generalize bodyAt s = BD at *
    have hne : ((NO : Int) != (no : Int)) = true := by rw [bne_iff_ne]; intro e; exact hn (by omega)
    have hne2 : ¬ (NO : Int) = (no : Int) := by intro e; exact hn (by omega)
    clear hn
    go_enter Tryd.func18, Tryd.ntmps18
    go_wp2_with fail
    rw [← hVV]
    clear hVV
    refine (HR.out _ sx).mono ?_
    rintro e W1 ⟨rfl, s1⟩
    have RW := HRW.out _ s1
    have TT := sx.trans s1
    have hlt3 : w.heap.size + 1 < W1.heap.size := lt_of_heap RW
    obtain ⟨j0, j1, j2, j3, g0, g1, g2, g3⟩ := row4_cells RW
    go_wp2_with fail
    obtain ⟨X, hX⟩ : ∃ X, X = ((((W1.setCell ⟨w.heap.size + 1, 0, none⟩ (.int .u8 0)).setCell ⟨w.heap.size + 1, 1, none⟩ (.int .u32 0)).setCell ⟨w.heap.size + 1, 2, none⟩ (.int .u64 0)).setCell ⟨w.heap.size + 1, 3, none⟩ (.string ⟨#[]⟩)) := ⟨_, rfl⟩
    have RX : X.heap[w.heap.size + 1]? = some (.cells #[.int .u8 0, .int .u32 0, .int .u64 0, .string ⟨#[]⟩] 41 (0, 0)) := by rw [hX]; exact row4_put RW
    have SX : Same w X := by rw [hX]; exact (((TT.setCell (p := ⟨w.heap.size + 1, 0, none⟩) (fun h => absurd h (by simp)) _).setCell (p := ⟨w.heap.size + 1, 1, none⟩) (fun h => absurd h (by simp)) _).setCell (p := ⟨w.heap.size + 1, 2, none⟩) (fun h => absurd h (by simp)) _).setCell (p := ⟨w.heap.size + 1, 3, none⟩) (fun h => absurd h (by simp)) _
    rw [← hX]
    clear hX
    exact bodyPost_ret (HRES.out _ _ _ _ ((heap_alloc_old X _ (lt_of_heap RX)).trans RX) rfl rfl) rfl ⟨rfl, SX.alloc _⟩
  · rw [e1, e2]
    rw [hE, hv] at HR
    clear hE hv e1 e2
    generalize beAt s 5 1 = KD at *
    generalize beAt s 8 4 = NO at *
    generalize beAt s 16 8 = VS at *
    generalize bodyAt s = BD at *
    subst hn
    go_enter Tryd.func18, Tryd.ntmps18
    go_wp2_with fail
    rw [← hVV]
    clear hVV
    refine (HR.out _ sx).mono ?_
    rintro e W1 ⟨rfl, s1⟩
    have RW := HRW.out _ s1
    have TT := sx.trans s1
    have hlt3 : w.heap.size + 1 < W1.heap.size := lt_of_heap RW
    obtain ⟨j0, j1, j2, j3, g0, g1, g2, g3⟩ := row4_cells RW
    go_wp2_with fail
    obtain ⟨X, hX⟩ : ∃ X, X = ((((W1.setCell ⟨w.heap.size + 1, 0, none⟩ (.int .u8 KD)).setCell ⟨w.heap.size + 1, 1, none⟩ (.int .u32 NO)).setCell ⟨w.heap.size + 1, 2, none⟩ (.int .u64 VS)).setCell ⟨w.heap.size + 1, 3, none⟩ (.string BD)) := ⟨_, rfl⟩
    have RX : X.heap[w.heap.size + 1]? = some (.cells #[.int .u8 KD, .int .u32 NO, .int .u64 VS, .string BD] 41 (0, 0)) := by rw [hX]; exact row4_put RW
    have SX : Same w X := by rw [hX]; exact (((TT.setCell (p := ⟨w.heap.size + 1, 0, none⟩) (fun h => absurd h (by simp)) _).setCell (p := ⟨w.heap.size + 1, 1, none⟩) (fun h => absurd h (by simp)) _).setCell (p := ⟨w.heap.size + 1, 2, none⟩) (fun h => absurd h (by simp)) _).setCell (p := ⟨w.heap.size + 1, 3, none⟩) (fun h => absurd h (by simp)) _
    rw [← hX]
    clear hX
    exact bodyPost_ret (HRES.out _ _ _ _ ((heap_alloc_old X _ (lt_of_heap RX)).trans RX) rfl rfl) rfl ⟨rfl, SX.alloc _⟩
end Go.Proofs.YtajpgopgohadeaaDoor
