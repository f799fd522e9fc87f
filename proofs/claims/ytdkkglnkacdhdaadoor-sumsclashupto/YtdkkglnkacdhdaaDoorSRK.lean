/-
  Walks: Clash, the document's Clash; SumsClash.
-/
import Derived.Test.YtdkkglnkacdhdaaDoorSRJ
namespace Go.Proofs.YtdkkglnkacdhdaaDoor
open Go.RowKit

theorem beqB_ne {x y : ByteArray} (h : ¬ x = y) : (x.toList == y.toList) = false := by
  rw [beq_eq_false_iff_ne]
  intro e
  apply h
  apply ByteArray.ext
  rw [ByteArray.toList_eq, ByteArray.toList_eq] at e
  exact Array.toList_inj.1 e
def clashP (wd : Int) (x y : ByteArray) : Bool := decide (1 ≤ wd ∧ wd ≤ 32) && decide (x ≠ y) && decide (ofR wd x.data.toList = ofR wd y.data.toList)

set_option maxRecDepth 100000 in
set_option maxHeartbeats 1000000 in
theorem clash_calls (w : World) (wd : Int) (x y : ByteArray) (hx : x.size ≤ 70368744177664) (hy : y.size ≤ 70368744177664) : Calls Tryd.prog 18 #[.int .i64 wd, .string x, .string y] w fun e w' => e = .returned (.bool (clashP wd x y)) ∧ Same w w' := by
  have HM : Hid (∀ W, Calls Tryd.prog 36 #[.int .i64 wd] W fun e w' => e = .returned (.bool (decide (1 ≤ wd ∧ wd ≤ 32))) ∧ w' = W) := fun W => may_calls W wd
  by_cases h1 : 1 ≤ wd ∧ wd ≤ 32
  · rw [decide_eq_true h1] at HM
    by_cases hxy : x = y
    · have hr : clashP wd x y = false := by unfold clashP; simp [hxy]
      rw [hr]
      have hb : (x.toList == y.toList) = true := by rw [hxy]; simp
      clear hr
      go_enter Tryd.func18, Tryd.ntmps18
      go_wp2_with fail
      refine (HM.out _).mono ?_
      rintro e W1 ⟨rfl, hW1⟩
      rw [hW1]
      clear hW1
      go_wp2_with fail
      go_ret
      exact ⟨rfl, Fr.refl _ _⟩
    · have hb : (x.toList == y.toList) = false := beqB_ne hxy
      have hr : clashP wd x y = decide (ofR wd x.data.toList = ofR wd y.data.toList) := by unfold clashP; rw [decide_eq_true h1, decide_eq_true hxy]; simp
      rw [hr]
      have HO1 : Hid (∀ W, Calls Tryd.prog 12 #[.int .i64 wd, .string x] W fun e w' => e = .returned (.tuple #[.agg (bcells (ofR wd x.data.toList)).toArray, .int .i64 (cutE wd)]) ∧ Same W w') := fun W => of_calls W wd x hx
      have HO2 : Hid (∀ W, Calls Tryd.prog 12 #[.int .i64 wd, .string y] W fun e w' => e = .returned (.tuple #[.agg (bcells (ofR wd y.data.toList)).toArray, .int .i64 (cutE wd)]) ∧ Same W w') := fun W => of_calls W wd y hy
      have l1 := cutR_length wd (sha x.data.toList) (sha_length _)
      have l2 := cutR_length wd (sha y.data.toList) (sha_length _)
      have hEq := fun W => eq_digest W (ofR wd x.data.toList) (ofR wd y.data.toList) l1 l2
      have hXs : (bcells (ofR wd x.data.toList)).toArray.size = 32 := by simp [bcells, ofR, l1]
      have hYs : (bcells (ofR wd y.data.toList)).toArray.size = 32 := by simp [bcells, ofR, l2]
      have hXone := bcells_one (ofR wd x.data.toList)
      have hYone := bcells_one (ofR wd y.data.toList)
      generalize decide (ofR wd x.data.toList = ofR wd y.data.toList) = bb at *
      generalize (bcells (ofR wd x.data.toList)).toArray = X at *
      generalize (bcells (ofR wd y.data.toList)).toArray = Y at *
      have hXsz : (Tryd.prog.info? 23).map (·.size) = some X.size := by rw [Tryd.ainfoD, hXs]
      have hYsz : (Tryd.prog.info? 23).map (·.size) = some Y.size := by rw [Tryd.ainfoD, hYs]
      generalize cutE wd = ce at *
      clear hr l1 l2 hxy
      go_enter Tryd.func18, Tryd.ntmps18
      go_wp2_with fail
      refine (HM.out _).mono ?_
      rintro e W0 ⟨rfl, hW0⟩
      rw [hW0]
      clear hW0
      go_wp2_with fail
      refine (HO1.out _).mono ?_
      rintro e W1 ⟨rfl, s1⟩
      go_wp2_with (first | (refine wpList_store_whole (by rfl) 23 _ _ (by rfl) W1.heap.size X _ 23 (by rfl) (by rfl) (heap_alloc_new W1 _) (by rw [hXs]; rfl) hXsz hXone ?_; intro W2 r2 f2; have s2 : Same W1 W2 := Fr.trans ((Fr.refl _ W1).alloc _) f2 (fun i hi e => by omega); clear f2))
      refine (HO2.out _).mono ?_
      rintro e W3 ⟨rfl, s3⟩
      have r3 : W3.heap[W1.heap.size]? = some (.cells X 23 (0, 0)) := by rw [s3.block _ (lt_of_heap r2) (fun f => f)]; exact r2
      clear r2
      go_wp2_with (first | (refine wpList_store_whole (by rfl) 23 _ _ (by rfl) W3.heap.size Y _ 23 (by rfl) (by rfl) (heap_alloc_new W3 _) (by rw [hYs]; rfl) hYsz hYone ?_; intro W4 r4 f4; have s4 : Same W3 W4 := Fr.trans ((Fr.refl _ W3).alloc _) f4 (fun i hi e => by omega); clear f4) | (refine wpList_load_row (by rfl) 23 _ (by rfl) W1.heap.size (by rfl) 23 X (0, 0) _ ((s4.block _ (lt_of_heap r3) (fun f => f)).trans r3) Tryd.underlying23 rfl hXsz ?_) | (refine wpList_load_row (by rfl) 23 _ (by rfl) W3.heap.size (by rfl) 23 Y (0, 0) _ r4 Tryd.underlying23 rfl hYsz ?_))
      go_ret
      exact ⟨rfl, s1.trans (s2.trans (s3.trans s4))⟩
  · have hr : clashP wd x y = false := by unfold clashP; rw [decide_eq_false h1]; simp
    rw [hr]
    rw [decide_eq_false h1] at HM
    clear hr
    go_enter Tryd.func18, Tryd.ntmps18
    go_wp2_with fail
    refine (HM.out _).mono ?_
    rintro e W1 ⟨rfl, hW1⟩
    rw [hW1]
    clear hW1
    go_wp2_with fail
    go_ret
    exact ⟨rfl, Fr.refl _ _⟩

set_option maxRecDepth 100000 in
set_option maxHeartbeats 1000000 in
theorem rclash_calls (w : World) (wd : Int) (x y : ByteArray) (hx : x.size ≤ 1099511627776) (hy : y.size ≤ 1099511627776) : Calls Tryd.prog 19 #[.int .i64 wd, .string x, .string y] w fun e w' => e = .returned (.bool (clashP wd x y)) ∧ Same w w' := by
  have HO1 : Hid (∀ W, Calls Tryd.prog 13 #[.int .i64 wd, .string x] W fun e w' => e = .returned (.tuple #[.agg (bcells (ofR wd x.data.toList)).toArray, .int .i64 (cutE wd)]) ∧ Same W w') := fun W => rof_calls W wd x hx
  have HO2 : Hid (∀ W, Calls Tryd.prog 13 #[.int .i64 wd, .string y] W fun e w' => e = .returned (.tuple #[.agg (bcells (ofR wd y.data.toList)).toArray, .int .i64 (cutE wd)]) ∧ Same W w') := fun W => rof_calls W wd y hy
  have l1 := cutR_length wd (sha x.data.toList) (sha_length _)
  have l2 := cutR_length wd (sha y.data.toList) (sha_length _)
  have hEq := fun W => eq_digest W (ofR wd x.data.toList) (ofR wd y.data.toList) l1 l2
  have hXs : (bcells (ofR wd x.data.toList)).toArray.size = 32 := by simp [bcells, ofR, l1]
  have hYs : (bcells (ofR wd y.data.toList)).toArray.size = 32 := by simp [bcells, ofR, l2]
  have hXone := bcells_one (ofR wd x.data.toList)
  have hYone := bcells_one (ofR wd y.data.toList)
  have hP : clashP wd x y = (decide (1 ≤ wd ∧ wd ≤ 32) && decide (x ≠ y) && decide (ofR wd x.data.toList = ofR wd y.data.toList)) := rfl
  have hce : cutE wd = if 1 ≤ wd ∧ wd ≤ 32 then 0 else 2 := rfl
  generalize decide (ofR wd x.data.toList = ofR wd y.data.toList) = bb at *
  generalize (bcells (ofR wd x.data.toList)).toArray = X at *
  generalize (bcells (ofR wd y.data.toList)).toArray = Y at *
  have hXsz : (Tryd.prog.info? 23).map (·.size) = some X.size := by rw [Tryd.ainfoD, hXs]
  have hYsz : (Tryd.prog.info? 23).map (·.size) = some Y.size := by rw [Tryd.ainfoD, hYs]
  clear l1 l2
  by_cases h1 : 1 ≤ wd ∧ wd ≤ 32
  · rw [decide_eq_true h1, Bool.true_and] at hP
    rw [if_pos h1] at hce
    rw [hce] at HO1 HO2
    by_cases hxy : x = y
    · have hr : clashP wd x y = false := by rw [hP, decide_eq_false (fun h => h hxy)]; rfl
      rw [hr]
      clear hr hP hce
      subst hxy
      go_enter Tryd.func19, Tryd.ntmps19
      go_wp2_with fail
      refine (HO1.out _).mono ?_
      rintro e W1 ⟨rfl, s1⟩
      go_wp2_with (first | (refine wpList_store_whole (by rfl) 23 _ _ (by rfl) W1.heap.size X _ 23 (by rfl) (by rfl) (heap_alloc_new W1 _) (by rw [hXs]; rfl) hXsz hXone ?_; intro W2 r2 f2; have s2 : Same W1 W2 := Fr.trans ((Fr.refl _ W1).alloc _) f2 (fun i hi e => by omega); clear f2))
      refine (HO2.out _).mono ?_
      rintro e W3 ⟨rfl, s3⟩
      have r3 : W3.heap[W1.heap.size]? = some (.cells X 23 (0, 0)) := by rw [s3.block _ (lt_of_heap r2) (fun f => f)]; exact r2
      clear r2
      go_wp2_with (first | (refine wpList_store_whole (by rfl) 23 _ _ (by rfl) W3.heap.size Y _ 23 (by rfl) (by rfl) (heap_alloc_new W3 _) (by rw [hYs]; rfl) hYsz hYone ?_; intro W4 r4 f4; have s4 : Same W3 W4 := Fr.trans ((Fr.refl _ W3).alloc _) f4 (fun i hi e => by omega); clear f4) | (refine wpList_load_want (by rfl) 23 _ (by rfl) W1.heap.size (by rfl) 23 X (0, 0) _ ((s4.block _ (lt_of_heap r3) (fun f => f)).trans r3) Tryd.underlying23 rfl hXsz ?_) | (refine wpList_load_want (by rfl) 23 _ (by rfl) W3.heap.size (by rfl) 23 Y (0, 0) _ r4 Tryd.underlying23 rfl hYsz ?_))
      go_ret
      exact ⟨rfl, s1.trans (s2.trans (s3.trans s4))⟩
    · have hb : (x.toList == y.toList) = false := beqB_ne hxy
      have hb' : (x.toList != y.toList) = true := by rw [bne, hb]; rfl
      have hr : clashP wd x y = bb := by rw [hP, decide_eq_true hxy]; rfl
      rw [hr]
      clear hr hP hce
      go_enter Tryd.func19, Tryd.ntmps19
      go_wp2_with fail
      refine (HO1.out _).mono ?_
      rintro e W1 ⟨rfl, s1⟩
      go_wp2_with (first | (refine wpList_store_whole (by rfl) 23 _ _ (by rfl) W1.heap.size X _ 23 (by rfl) (by rfl) (heap_alloc_new W1 _) (by rw [hXs]; rfl) hXsz hXone ?_; intro W2 r2 f2; have s2 : Same W1 W2 := Fr.trans ((Fr.refl _ W1).alloc _) f2 (fun i hi e => by omega); clear f2))
      refine (HO2.out _).mono ?_
      rintro e W3 ⟨rfl, s3⟩
      have r3 : W3.heap[W1.heap.size]? = some (.cells X 23 (0, 0)) := by rw [s3.block _ (lt_of_heap r2) (fun f => f)]; exact r2
      clear r2
      go_wp2_with (first | (refine wpList_store_whole (by rfl) 23 _ _ (by rfl) W3.heap.size Y _ 23 (by rfl) (by rfl) (heap_alloc_new W3 _) (by rw [hYs]; rfl) hYsz hYone ?_; intro W4 r4 f4; have s4 : Same W3 W4 := Fr.trans ((Fr.refl _ W3).alloc _) f4 (fun i hi e => by omega); clear f4) | (refine wpList_load_want (by rfl) 23 _ (by rfl) W1.heap.size (by rfl) 23 X (0, 0) _ ((s4.block _ (lt_of_heap r3) (fun f => f)).trans r3) Tryd.underlying23 rfl hXsz ?_) | (refine wpList_load_want (by rfl) 23 _ (by rfl) W3.heap.size (by rfl) 23 Y (0, 0) _ r4 Tryd.underlying23 rfl hYsz ?_))
      go_ret
      exact ⟨rfl, s1.trans (s2.trans (s3.trans s4))⟩
  · rw [decide_eq_false h1] at hP
    rw [if_neg h1] at hce
    rw [hce] at HO1 HO2
    have hr : clashP wd x y = false := by rw [hP]; rfl
    rw [hr]
    clear hr hP hce
    go_enter Tryd.func19, Tryd.ntmps19
    go_wp2_with fail
    refine (HO1.out _).mono ?_
    rintro e W1 ⟨rfl, s1⟩
    go_wp2_with (first | (refine wpList_store_whole (by rfl) 23 _ _ (by rfl) W1.heap.size X _ 23 (by rfl) (by rfl) (heap_alloc_new W1 _) (by rw [hXs]; rfl) hXsz hXone ?_; intro W2 r2 f2; have s2 : Same W1 W2 := Fr.trans ((Fr.refl _ W1).alloc _) f2 (fun i hi e => by omega); clear f2))
    refine (HO2.out _).mono ?_
    rintro e W3 ⟨rfl, s3⟩
    have r3 : W3.heap[W1.heap.size]? = some (.cells X 23 (0, 0)) := by rw [s3.block _ (lt_of_heap r2) (fun f => f)]; exact r2
    clear r2
    go_wp2_with (first | (refine wpList_store_whole (by rfl) 23 _ _ (by rfl) W3.heap.size Y _ 23 (by rfl) (by rfl) (heap_alloc_new W3 _) (by rw [hYs]; rfl) hYsz hYone ?_; intro W4 r4 f4; have s4 : Same W3 W4 := Fr.trans ((Fr.refl _ W3).alloc _) f4 (fun i hi e => by omega); clear f4) | (refine wpList_load_want (by rfl) 23 _ (by rfl) W1.heap.size (by rfl) 23 X (0, 0) _ ((s4.block _ (lt_of_heap r3) (fun f => f)).trans r3) Tryd.underlying23 rfl hXsz ?_) | (refine wpList_load_want (by rfl) 23 _ (by rfl) W3.heap.size (by rfl) 23 Y (0, 0) _ r4 Tryd.underlying23 rfl hYsz ?_))
    go_ret
    exact ⟨rfl, s1.trans (s2.trans (s3.trans s4))⟩

theorem sha_5 : (sha [5]).take 2 = [231, 123] := by
  unfold sha
  rw [← mixF_eq 2 _ _ (by decide)]
  decide +kernel
theorem sha_11 : (sha [11]).take 2 = [231, 207] := by
  unfold sha
  rw [← mixF_eq 2 _ _ (by decide)]
  decide +kernel
theorem sha_5' : (sha [5]).take 1 = [231] := by
  have := congrArg (List.take 1) sha_5
  rw [List.take_take] at this
  exact this
theorem sha_11' : (sha [11]).take 1 = [231] := by
  have := congrArg (List.take 1) sha_11
  rw [List.take_take] at this
  exact this
theorem ne_5 : ¬ (⟨#[5]⟩ : ByteArray) = ⟨#[11]⟩ := by
  intro h
  injection h with h
  exact absurd h (by decide)
theorem clash_1 : clashP 1 ⟨#[5]⟩ ⟨#[11]⟩ = true := by
  unfold clashP ofR cutR cutD
  rw [if_pos (by decide), if_pos (by decide), decide_eq_true ne_5, decide_eq_true (by decide)]
  show decide (_ = _) = true
  rw [decide_eq_true_eq]
  show (sha [5]).take 1 ++ _ = (sha [11]).take 1 ++ _
  rw [sha_5', sha_11']
theorem clash_2 : clashP 2 ⟨#[5]⟩ ⟨#[11]⟩ = false := by
  unfold clashP ofR cutR cutD
  rw [if_pos (by decide), if_pos (by decide), decide_eq_true ne_5, decide_eq_true (by decide)]
  show decide (_ = _) = false
  rw [decide_eq_false_iff_not]
  show ¬ (sha [5]).take 2 ++ _ = (sha [11]).take 2 ++ _
  rw [sha_5, sha_11]
  intro h
  injection h with _ h
  injection h with h _
  exact absurd h (by decide)

set_option maxRecDepth 100000 in
set_option maxHeartbeats 400000 in
theorem sclash_walk (w : World) (ht : TabAt w) (wd : Int) (x y : ByteArray) (hx : x.size ≤ 1099511627776) (hy : y.size ≤ 1099511627776) : Calls Tryd.prog 6 #[.int .i64 wd, .string x, .string y] w fun e w' => e = .returned (.bool true) ∧ Same w w' := by
  have HC : Hid (∀ W, Calls Tryd.prog 18 #[.int .i64 wd, .string x, .string y] W fun e w' => e = .returned (.bool (clashP wd x y)) ∧ Same W w') := fun W => clash_calls W wd x y (by omega) (by omega)
  have HR : Hid (∀ W, Calls Tryd.prog 19 #[.int .i64 wd, .string x, .string y] W fun e w' => e = .returned (.bool (clashP wd x y)) ∧ Same W w') := fun W => rclash_calls W wd x y hx hy
  have H1 : Hid (∀ W, Calls Tryd.prog 18 #[.int .i64 1, .string ⟨#[5]⟩, .string ⟨#[11]⟩] W fun e w' => e = .returned (.bool true) ∧ Same W w') := by
    intro W
    have := clash_calls W 1 ⟨#[5]⟩ ⟨#[11]⟩ (by decide) (by decide)
    rw [clash_1] at this
    exact this
  have H2 : Hid (∀ W, Calls Tryd.prog 18 #[.int .i64 2, .string ⟨#[5]⟩, .string ⟨#[11]⟩] W fun e w' => e = .returned (.bool false) ∧ Same W w') := by
    intro W
    have := clash_calls W 2 ⟨#[5]⟩ ⟨#[11]⟩ (by decide) (by decide)
    rw [clash_2] at this
    exact this
  have HA : Hid (∀ W, Same w W → Calls Tryd.prog 11 #[] W fun e w' => e = .returned (.bool true) ∧ Same W w') := fun W s => awake_calls W (ht.same s)
  obtain ⟨b, hb⟩ : ∃ b, b = clashP wd x y := ⟨_, rfl⟩
  rw [← hb] at HC HR
  clear hb ht
  cases b
  all_goals
    go_enter Tryd.func6, Tryd.ntmps6
    go_wp2_with fail
    refine (HC.out _).mono ?_
    rintro e W1 ⟨rfl, s1⟩
    go_wp2_with fail
    refine (HR.out _).mono ?_
    rintro e W2 ⟨rfl, s2⟩
    go_wp2_with fail
    refine (H1.out _).mono ?_
    rintro e W3 ⟨rfl, s3⟩
    go_wp2_with fail
    refine (H2.out _).mono ?_
    rintro e W4 ⟨rfl, s4⟩
    have s04 := s1.trans (s2.trans (s3.trans s4))
    have HA4 := HA.out W4 s04
    clear s1 s2 s3 s4
    go_wp2_with fail
    refine HA4.mono ?_
    rintro e W5 ⟨rfl, s5⟩
    go_wp2_with fail
    go_ret
    exact ⟨rfl, s04.trans s5⟩
end Go.Proofs.YtdkkglnkacdhdaaDoor
