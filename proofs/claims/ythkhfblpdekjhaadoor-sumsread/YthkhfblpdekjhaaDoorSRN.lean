/-
  Walks: Fits, the document's Fits; SumsCut.
-/
import Derived.Test.YthkhfblpdekjhaaDoorSRM
namespace Go.Proofs.YthkhfblpdekjhaaDoor
open Go.RowKit

def fitsP (wd : Int) (D : List UInt8) : Bool := decide (1 ≤ wd ∧ wd ≤ 32) && decide (cutR wd D = D)

set_option maxRecDepth 100000 in
set_option maxHeartbeats 1000000 in
theorem fits_calls (w : World) (wd : Int) (D : List UInt8) (hD : D.length = 32) : Calls Tryd.prog 22 #[.int .i64 wd, .agg (bcells D).toArray] w fun e w' => e = .returned (.bool (fitsP wd D)) ∧ Same w w' := by
  have HC : Hid (∀ W, Calls Tryd.prog 20 #[.int .i64 wd, .agg (bcells D).toArray] W fun e w' => e = .returned (.tuple #[.agg (bcells (cutR wd D)).toArray, .int .i64 (cutE wd)]) ∧ Same W w') := fun W => cut_calls W wd D hD
  have l1 := cutR_length wd D hD
  have hEq := fun W => eq_digest W (cutR wd D) D l1 hD
  have hXs : (bcells (cutR wd D)).toArray.size = 32 := by simp [bcells, l1]
  have hXone := bcells_one (cutR wd D)
  have hP : fitsP wd D = (decide (1 ≤ wd ∧ wd ≤ 32) && decide (cutR wd D = D)) := rfl
  have hce : cutE wd = if 1 ≤ wd ∧ wd ≤ 32 then 0 else 2 := rfl
  have hDs : (bcells D).toArray.size = 32 := by simp [bcells, hD]
  have hDone := bcells_one D
  generalize decide (cutR wd D = D) = bb at *
  generalize (bcells (cutR wd D)).toArray = X at *
  generalize (bcells D).toArray = Y at *
  have hXsz : (Tryd.prog.info? 36).map (·.size) = some X.size := by rw [Tryd.ainfoD, hXs]
  have hYsz : (Tryd.prog.info? 36).map (·.size) = some Y.size := by rw [Tryd.ainfoD, hDs]
  clear l1
  by_cases h1 : 1 ≤ wd ∧ wd ≤ 32
  · rw [decide_eq_true h1, Bool.true_and] at hP
    rw [if_pos h1] at hce
    rw [hce] at HC
    rw [hP]
    clear hP hce
    go_enter Tryd.func22, Tryd.ntmps22
    go_wp2_with (first | (refine wpList_load_row (by rfl) 36 _ (by rfl) w.heap.size (by rfl) 36 Y (0, 0) _ (heap_alloc_new w _) Tryd.underlying36 rfl hYsz ?_))
    have s0 : Same w (w.alloc (.cells Y 36)) := (Fr.refl _ w).alloc _
    have r0 : (w.alloc (.cells Y 36)).heap[w.heap.size]? = some (.cells Y 36 (0, 0)) := heap_alloc_new w _
    generalize w.alloc (.cells Y 36) = W0 at *
    refine (HC.out _).mono ?_
    rintro e W1 ⟨rfl, s1⟩
    have r1 : W1.heap[w.heap.size]? = some (.cells Y 36 (0, 0)) := by rw [s1.block _ (lt_of_heap r0) (fun f => f)]; exact r0
    clear r0
    go_wp2_with (first | (refine wpList_store_whole (by rfl) 36 _ _ (by rfl) W1.heap.size X _ 36 (by rfl) (by rfl) (heap_alloc_new W1 _) (by rw [hXs]; rfl) hXsz hXone ?_; intro W2 r2 f2; have s2 : Same W1 W2 := Fr.trans ((Fr.refl _ W1).alloc _) f2 (fun i hi e => by omega); clear f2) | (refine wpList_load_want (by rfl) 36 _ (by rfl) W1.heap.size (by rfl) 36 X (0, 0) _ r2 Tryd.underlying36 rfl hXsz ?_) | (refine wpList_load_want (by rfl) 36 _ (by rfl) w.heap.size (by rfl) 36 Y (0, 0) _ ((s2.block _ (lt_of_heap r1) (fun f => f)).trans r1) Tryd.underlying36 rfl hYsz ?_))
    go_ret
    exact ⟨rfl, s0.trans (s1.trans s2)⟩
  · rw [decide_eq_false h1, Bool.false_and] at hP
    rw [if_neg h1] at hce
    rw [hce] at HC
    rw [hP]
    clear hP hce
    go_enter Tryd.func22, Tryd.ntmps22
    go_wp2_with (first | (refine wpList_load_row (by rfl) 36 _ (by rfl) w.heap.size (by rfl) 36 Y (0, 0) _ (heap_alloc_new w _) Tryd.underlying36 rfl hYsz ?_))
    have s0 : Same w (w.alloc (.cells Y 36)) := (Fr.refl _ w).alloc _
    have r0 : (w.alloc (.cells Y 36)).heap[w.heap.size]? = some (.cells Y 36 (0, 0)) := heap_alloc_new w _
    generalize w.alloc (.cells Y 36) = W0 at *
    refine (HC.out _).mono ?_
    rintro e W1 ⟨rfl, s1⟩
    have r1 : W1.heap[w.heap.size]? = some (.cells Y 36 (0, 0)) := by rw [s1.block _ (lt_of_heap r0) (fun f => f)]; exact r0
    clear r0
    go_wp2_with (first | (refine wpList_store_whole (by rfl) 36 _ _ (by rfl) W1.heap.size X _ 36 (by rfl) (by rfl) (heap_alloc_new W1 _) (by rw [hXs]; rfl) hXsz hXone ?_; intro W2 r2 f2; have s2 : Same W1 W2 := Fr.trans ((Fr.refl _ W1).alloc _) f2 (fun i hi e => by omega); clear f2) | (refine wpList_load_want (by rfl) 36 _ (by rfl) W1.heap.size (by rfl) 36 X (0, 0) _ r2 Tryd.underlying36 rfl hXsz ?_) | (refine wpList_load_want (by rfl) 36 _ (by rfl) w.heap.size (by rfl) 36 Y (0, 0) _ ((s2.block _ (lt_of_heap r1) (fun f => f)).trans r1) Tryd.underlying36 rfl hYsz ?_))
    go_ret
    exact ⟨rfl, s0.trans (s1.trans s2)⟩


set_option maxRecDepth 100000 in
set_option maxHeartbeats 1000000 in
theorem rfits_calls (w : World) (wd : Int) (D : List UInt8) (hD : D.length = 32) : Calls Tryd.prog 23 #[.int .i64 wd, .agg (bcells D).toArray] w fun e w' => e = .returned (.bool (fitsP wd D)) ∧ Same w w' := by
  have HC : Hid (∀ W, Calls Tryd.prog 21 #[.int .i64 wd, .agg (bcells D).toArray] W fun e w' => e = .returned (.tuple #[.agg (bcells (cutR wd D)).toArray, .int .i64 (cutE wd)]) ∧ Same W w') := fun W => rcut_calls W wd D hD
  have l1 := cutR_length wd D hD
  have hEq := fun W => eq_digest W (cutR wd D) D l1 hD
  have hXs : (bcells (cutR wd D)).toArray.size = 32 := by simp [bcells, l1]
  have hXone := bcells_one (cutR wd D)
  have hP : fitsP wd D = (decide (1 ≤ wd ∧ wd ≤ 32) && decide (cutR wd D = D)) := rfl
  have hce : cutE wd = if 1 ≤ wd ∧ wd ≤ 32 then 0 else 2 := rfl
  have hDs : (bcells D).toArray.size = 32 := by simp [bcells, hD]
  have hDone := bcells_one D
  generalize decide (cutR wd D = D) = bb at *
  generalize (bcells (cutR wd D)).toArray = X at *
  generalize (bcells D).toArray = Y at *
  have hXsz : (Tryd.prog.info? 36).map (·.size) = some X.size := by rw [Tryd.ainfoD, hXs]
  have hYsz : (Tryd.prog.info? 36).map (·.size) = some Y.size := by rw [Tryd.ainfoD, hDs]
  clear l1
  by_cases h1 : 1 ≤ wd ∧ wd ≤ 32
  · rw [decide_eq_true h1, Bool.true_and] at hP
    rw [if_pos h1] at hce
    rw [hce] at HC
    rw [hP]
    clear hP hce
    go_enter Tryd.func23, Tryd.ntmps23
    go_wp2_with (first | (refine wpList_load_row (by rfl) 36 _ (by rfl) w.heap.size (by rfl) 36 Y (0, 0) _ (heap_alloc_new w _) Tryd.underlying36 rfl hYsz ?_))
    have s0 : Same w (w.alloc (.cells Y 36)) := (Fr.refl _ w).alloc _
    have r0 : (w.alloc (.cells Y 36)).heap[w.heap.size]? = some (.cells Y 36 (0, 0)) := heap_alloc_new w _
    generalize w.alloc (.cells Y 36) = W0 at *
    refine (HC.out _).mono ?_
    rintro e W1 ⟨rfl, s1⟩
    have r1 : W1.heap[w.heap.size]? = some (.cells Y 36 (0, 0)) := by rw [s1.block _ (lt_of_heap r0) (fun f => f)]; exact r0
    clear r0
    go_wp2_with (first | (refine wpList_store_whole (by rfl) 36 _ _ (by rfl) W1.heap.size X _ 36 (by rfl) (by rfl) (heap_alloc_new W1 _) (by rw [hXs]; rfl) hXsz hXone ?_; intro W2 r2 f2; have s2 : Same W1 W2 := Fr.trans ((Fr.refl _ W1).alloc _) f2 (fun i hi e => by omega); clear f2) | (refine wpList_load_want (by rfl) 36 _ (by rfl) W1.heap.size (by rfl) 36 X (0, 0) _ r2 Tryd.underlying36 rfl hXsz ?_) | (refine wpList_load_want (by rfl) 36 _ (by rfl) w.heap.size (by rfl) 36 Y (0, 0) _ ((s2.block _ (lt_of_heap r1) (fun f => f)).trans r1) Tryd.underlying36 rfl hYsz ?_))
    go_ret
    exact ⟨rfl, s0.trans (s1.trans s2)⟩
  · rw [decide_eq_false h1, Bool.false_and] at hP
    rw [if_neg h1] at hce
    rw [hce] at HC
    rw [hP]
    clear hP hce
    go_enter Tryd.func23, Tryd.ntmps23
    go_wp2_with (first | (refine wpList_load_row (by rfl) 36 _ (by rfl) w.heap.size (by rfl) 36 Y (0, 0) _ (heap_alloc_new w _) Tryd.underlying36 rfl hYsz ?_))
    have s0 : Same w (w.alloc (.cells Y 36)) := (Fr.refl _ w).alloc _
    have r0 : (w.alloc (.cells Y 36)).heap[w.heap.size]? = some (.cells Y 36 (0, 0)) := heap_alloc_new w _
    generalize w.alloc (.cells Y 36) = W0 at *
    refine (HC.out _).mono ?_
    rintro e W1 ⟨rfl, s1⟩
    have r1 : W1.heap[w.heap.size]? = some (.cells Y 36 (0, 0)) := by rw [s1.block _ (lt_of_heap r0) (fun f => f)]; exact r0
    clear r0
    go_wp2_with (first | (refine wpList_store_whole (by rfl) 36 _ _ (by rfl) W1.heap.size X _ 36 (by rfl) (by rfl) (heap_alloc_new W1 _) (by rw [hXs]; rfl) hXsz hXone ?_; intro W2 r2 f2; have s2 : Same W1 W2 := Fr.trans ((Fr.refl _ W1).alloc _) f2 (fun i hi e => by omega); clear f2) | (refine wpList_load_want (by rfl) 36 _ (by rfl) W1.heap.size (by rfl) 36 X (0, 0) _ r2 Tryd.underlying36 rfl hXsz ?_) | (refine wpList_load_want (by rfl) 36 _ (by rfl) w.heap.size (by rfl) 36 Y (0, 0) _ ((s2.block _ (lt_of_heap r1) (fun f => f)).trans r1) Tryd.underlying36 rfl hYsz ?_))
    go_ret
    exact ⟨rfl, s0.trans (s1.trans s2)⟩
end Go.Proofs.YthkhfblpdekjhaaDoor
