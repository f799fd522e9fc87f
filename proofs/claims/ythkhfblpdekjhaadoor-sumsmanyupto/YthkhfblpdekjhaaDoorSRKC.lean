/-
  Walks: Clash.
-/
import Derived.Test.YthkhfblpdekjhaaDoorSRI
namespace Go.Proofs.YthkhfblpdekjhaaDoor
open Go.RowKit

theorem beqB_ne {x y : ByteArray} (h : ¬ x = y) : (x.toList == y.toList) = false := by
  rw [beq_eq_false_iff_ne]
  intro e
  apply h
  apply ByteArray.ext
  rw [ByteArray.toList_eq, ByteArray.toList_eq] at e
  exact Array.toList_inj.1 e
def clashP (wd : Int) (x y : ByteArray) : Bool := decide (1 ≤ wd ∧ wd ≤ 32) && decide (x ≠ y) && decide (ofR wd x.data.toList = ofR wd y.data.toList)

set_option maxRecDepth 100000 in
set_option maxHeartbeats 1000000 in
theorem clash_calls (w : World) (wd : Int) (x y : ByteArray) (hx : x.size ≤ 70368744177664) (hy : y.size ≤ 70368744177664) : Calls Tryd.prog 25 #[.int .i64 wd, .string x, .string y] w fun e w' => e = .returned (.bool (clashP wd x y)) ∧ Same w w' := by
  have HM : Hid (∀ W, Calls Tryd.prog 40 #[.int .i64 wd] W fun e w' => e = .returned (.bool (decide (1 ≤ wd ∧ wd ≤ 32))) ∧ w' = W) := fun W => may_calls W wd
  by_cases h1 : 1 ≤ wd ∧ wd ≤ 32
  · rw [decide_eq_true h1] at HM
    by_cases hxy : x = y
    · have hr : clashP wd x y = false := by unfold clashP; simp [hxy]
      rw [hr]
      have hb : (x.toList == y.toList) = true := by rw [hxy]; simp
      clear hr
      go_enter Tryd.func25, Tryd.ntmps25
      go_wp2_with fail
      refine (HM.out _).mono ?_
      rintro e W1 ⟨rfl, hW1⟩
      rw [hW1]
      clear hW1
      go_wp2_with fail
      go_ret
      exact ⟨rfl, Fr.refl _ _⟩
    · have hb : (x.toList == y.toList) = false := beqB_ne hxy
      have hr : clashP wd x y = decide (ofR wd x.data.toList = ofR wd y.data.toList) := by unfold clashP; rw [decide_eq_true h1, decide_eq_true hxy]; simp
      rw [hr]
      have HO1 : Hid (∀ W, Calls Tryd.prog 24 #[.int .i64 wd, .string x] W fun e w' => e = .returned (.tuple #[.agg (bcells (ofR wd x.data.toList)).toArray, .int .i64 (cutE wd)]) ∧ Same W w') := fun W => of_calls W wd x hx
      have HO2 : Hid (∀ W, Calls Tryd.prog 24 #[.int .i64 wd, .string y] W fun e w' => e = .returned (.tuple #[.agg (bcells (ofR wd y.data.toList)).toArray, .int .i64 (cutE wd)]) ∧ Same W w') := fun W => of_calls W wd y hy
      have l1 := cutR_length wd (sha x.data.toList) (sha_length _)
      have l2 := cutR_length wd (sha y.data.toList) (sha_length _)
      have hEq := fun W => eq_digest W (ofR wd x.data.toList) (ofR wd y.data.toList) l1 l2
      have hXs : (bcells (ofR wd x.data.toList)).toArray.size = 32 := by simp [bcells, ofR, l1]
      have hYs : (bcells (ofR wd y.data.toList)).toArray.size = 32 := by simp [bcells, ofR, l2]
      have hXone := bcells_one (ofR wd x.data.toList)
      have hYone := bcells_one (ofR wd y.data.toList)
      generalize decide (ofR wd x.data.toList = ofR wd y.data.toList) = bb at *
      generalize (bcells (ofR wd x.data.toList)).toArray = X at *
      generalize (bcells (ofR wd y.data.toList)).toArray = Y at *
      have hXsz : (Tryd.prog.info? 36).map (·.size) = some X.size := by rw [Tryd.ainfoD, hXs]
      have hYsz : (Tryd.prog.info? 36).map (·.size) = some Y.size := by rw [Tryd.ainfoD, hYs]
      generalize cutE wd = ce at *
      clear hr l1 l2 hxy
      go_enter Tryd.func25, Tryd.ntmps25
      go_wp2_with fail
      refine (HM.out _).mono ?_
      rintro e W0 ⟨rfl, hW0⟩
      rw [hW0]
      clear hW0
      go_wp2_with fail
      refine (HO1.out _).mono ?_
      rintro e W1 ⟨rfl, s1⟩
      go_wp2_with (first | (refine wpList_store_whole (by rfl) 36 _ _ (by rfl) W1.heap.size X _ 36 (by rfl) (by rfl) (heap_alloc_new W1 _) (by rw [hXs]; rfl) hXsz hXone ?_; intro W2 r2 f2; have s2 : Same W1 W2 := Fr.trans ((Fr.refl _ W1).alloc _) f2 (fun i hi e => by omega); clear f2))
      refine (HO2.out _).mono ?_
      rintro e W3 ⟨rfl, s3⟩
      have r3 : W3.heap[W1.heap.size]? = some (.cells X 36 (0, 0)) := by rw [s3.block _ (lt_of_heap r2) (fun f => f)]; exact r2
      clear r2
      go_wp2_with (first | (refine wpList_store_whole (by rfl) 36 _ _ (by rfl) W3.heap.size Y _ 36 (by rfl) (by rfl) (heap_alloc_new W3 _) (by rw [hYs]; rfl) hYsz hYone ?_; intro W4 r4 f4; have s4 : Same W3 W4 := Fr.trans ((Fr.refl _ W3).alloc _) f4 (fun i hi e => by omega); clear f4) | (refine wpList_load_row (by rfl) 36 _ (by rfl) W1.heap.size (by rfl) 36 X (0, 0) _ ((s4.block _ (lt_of_heap r3) (fun f => f)).trans r3) Tryd.underlying36 rfl hXsz ?_) | (refine wpList_load_row (by rfl) 36 _ (by rfl) W3.heap.size (by rfl) 36 Y (0, 0) _ r4 Tryd.underlying36 rfl hYsz ?_))
      go_ret
      exact ⟨rfl, s1.trans (s2.trans (s3.trans s4))⟩
  · have hr : clashP wd x y = false := by unfold clashP; rw [decide_eq_false h1]; simp
    rw [hr]
    rw [decide_eq_false h1] at HM
    clear hr
    go_enter Tryd.func25, Tryd.ntmps25
    go_wp2_with fail
    refine (HM.out _).mono ?_
    rintro e W1 ⟨rfl, hW1⟩
    rw [hW1]
    clear hW1
    go_wp2_with fail
    go_ret
    exact ⟨rfl, Fr.refl _ _⟩

end Go.Proofs.YthkhfblpdekjhaaDoor
