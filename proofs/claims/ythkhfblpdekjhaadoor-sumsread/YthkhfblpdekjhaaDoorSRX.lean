/-
  Walks: SumsShow.
-/
import Derived.Test.YthkhfblpdekjhaaDoorSRS
namespace Go.Proofs.YthkhfblpdekjhaaDoor
open Go.RowKit

theorem readR_length (wd : Int) (l : List UInt8) : (readR wd l).length = 32 := by
  unfold readR; split
  · exact readK_length _ _
  · simp
set_option maxRecDepth 100000 in
set_option maxHeartbeats 2000000 in
theorem sshow_walk (w : World) (ht : TabAt w) (wd : Int) (pa : Option Addr) (pb po pc : Nat) (l : List UInt8) (h : BIn w pa pb po l) (hl : l.length ≤ 9223372036854775807) : Calls Tryd.prog 6 #[.int .i64 wd, .slice pa l.length pc] w fun e w' => e = .returned (.bool true) ∧ Same w w' := by
  have HD : Hid (Calls Tryd.prog 19 #[.slice pa l.length pc] w fun e w' => e = .returned (.agg (bcells (dig32 l)).toArray) ∧ Same w w') := digest32_calls w pa pb po pc l h hl
  have l32 := dig32_length l
  have HS : Hid (∀ W, Calls Tryd.prog 26 #[.int .i64 wd, .agg (bcells (dig32 l)).toArray] W fun e w' => e = .returned (.tuple #[.string (showS wd (dig32 l)), .int .i64 (showE wd (dig32 l))]) ∧ Same W w') := fun W => show_calls W wd _ l32
  have HR : Hid (∀ W, Calls Tryd.prog 27 #[.int .i64 wd, .agg (bcells (dig32 l)).toArray] W fun e w' => e = .returned (.tuple #[.string (showS wd (dig32 l)), .int .i64 (showE wd (dig32 l))]) ∧ Same W w') := fun W => rshow_calls W wd _ l32
  have HA : Hid (∀ W, Same w W → Calls Tryd.prog 18 #[] W fun e w' => e = .returned (.bool true) ∧ Same W w') := fun W s => awake_calls W (ht.same s)
  have hsz : (showS wd (dig32 l)).size ≤ 9223372036854775807 := by
    unfold showS
    split
    · have := showP_length ((dig32 l).take wd.toNat)
      rw [List.length_take] at this
      show (List.toArray _).size ≤ _
      rw [List.size_toArray]; omega
    · exact Nat.zero_le _
  have HG : Hid (∀ W, Calls Tryd.prog 28 #[.int .i64 wd, .string (showS wd (dig32 l))] W fun e w' => e = .returned (.tuple #[.agg (bcells (readR wd (showS wd (dig32 l)).data.toList)).toArray, .int .i64 (readE wd (showS wd (dig32 l)).data.toList)]) ∧ Same W w') := fun W => read_calls W wd _ hsz
  have lr := readR_length wd (showS wd (dig32 l)).data.toList
  have hYs : (bcells (dig32 l)).toArray.size = 32 := by simp [bcells, l32]
  have hYone := bcells_one (dig32 l)
  by_cases hf : fitsP wd (dig32 l) = true
  · have e0 : showE wd (dig32 l) = 0 := by unfold showE; rw [if_pos hf]
    have e1 : readR wd (showS wd (dig32 l)).data.toList = dig32 l ∧ readE wd (showS wd (dig32 l)).data.toList = 0 := by
      obtain ⟨a, b⟩ := read_show wd (dig32 l) l32 hf
      have e : (showS wd (dig32 l)).data.toList = showP ((dig32 l).take wd.toNat) := by unfold showS; rw [if_pos hf]
      rw [e]
      unfold readR readE
      rw [if_pos a, if_pos a.1, if_pos a, b]
      exact ⟨rfl, rfl⟩
    rw [e1.1, e1.2] at HG
    rw [e0] at HS HR
    have hEq := eq_same (dig32 l) l32
    clear e0 e1 lr hsz
    generalize showS wd (dig32 l) = sx at *
    generalize (bcells (dig32 l)).toArray = Y at *
    have hYsz : (Tryd.prog.info? 36).map (·.size) = some Y.size := by rw [Tryd.ainfoD, hYs]
    obtain ⟨n, hn⟩ : ∃ n, n = l.length := ⟨_, rfl⟩
    rw [← hn] at HD ⊢
    clear ht h hl hn l32 hf
    go_enter Tryd.func6, Tryd.ntmps6
    go_wp2_with fail
    refine HD.out.mono ?_
    rintro e W0 ⟨rfl, s0⟩
    go_wp2_with (first | (refine wpList_store_whole (by rfl) 36 _ _ (by rfl) W0.heap.size Y _ 36 (by rfl) (by rfl) (heap_alloc_new W0 _) (by rw [hYs]; rfl) hYsz hYone ?_; intro W1 r1 fr1; have s1 : Same W0 W1 := Fr.trans ((Fr.refl _ W0).alloc _) fr1 (fun i hi e => by omega); clear fr1) | (refine wpList_load_row (by rfl) 36 _ (by rfl) W0.heap.size (by rfl) 36 Y (0, 0) _ r1 Tryd.underlying36 rfl hYsz ?_))
    refine (HS.out _).mono ?_
    rintro e W2 ⟨rfl, s2⟩
    have r2 : W2.heap[W0.heap.size]? = some (.cells Y 36 (0, 0)) := by rw [s2.block _ (lt_of_heap r1) (fun f => f)]; exact r1
    go_wp2_with (first | (refine wpList_load_row (by rfl) 36 _ (by rfl) W0.heap.size (by rfl) 36 Y (0, 0) _ r2 Tryd.underlying36 rfl hYsz ?_))
    refine (HR.out _).mono ?_
    rintro e W3 ⟨rfl, s3⟩
    have r3 : W3.heap[W0.heap.size]? = some (.cells Y 36 (0, 0)) := by rw [s3.block _ (lt_of_heap r2) (fun f => f)]; exact r2
    clear r1 r2
    go_wp2_with fail
    refine (HG.out _).mono ?_
    rintro e W4 ⟨rfl, s4⟩
    have r4 : W4.heap[W0.heap.size]? = some (.cells Y 36 (0, 0)) := by rw [s4.block _ (lt_of_heap r3) (fun f => f)]; exact r3
    clear r3
    have s04 : Same w W4 := s0.trans (s1.trans (s2.trans (s3.trans s4)))
    clear s0 s1 s2 s3 s4
    go_wp2_with (first | (refine wpList_store_whole (by rfl) 36 _ _ (by rfl) W4.heap.size Y _ 36 (by rfl) (by rfl) (heap_alloc_new W4 _) (by rw [hYs]; rfl) hYsz hYone ?_; intro W5 r5 fr5; have s5 : Same W4 W5 := Fr.trans ((Fr.refl _ W4).alloc _) fr5 (fun i hi e => by omega); clear fr5) | (refine wpList_load_want (by rfl) 36 _ (by rfl) W4.heap.size (by rfl) 36 Y (0, 0) _ r5 Tryd.underlying36 rfl hYsz ?_) | (refine wpList_load_want (by rfl) 36 _ (by rfl) W0.heap.size (by rfl) 36 Y (0, 0) _ ((s5.block _ (lt_of_heap r4) (fun f => f)).trans r4) Tryd.underlying36 rfl hYsz ?_))
    have s05 := s04.trans s5
    refine (HA.out W5 s05).mono ?_
    rintro e W6 ⟨rfl, s6⟩
    go_wp2_with fail
    go_ret
    exact ⟨rfl, s05.trans s6⟩
  · have e0 : showE wd (dig32 l) = 2 := by unfold showE; rw [if_neg hf]
    rw [e0] at HS HR
    have hXs : (bcells (readR wd (showS wd (dig32 l)).data.toList)).toArray.size = 32 := by simp [bcells, lr]
    have hXone := bcells_one (readR wd (showS wd (dig32 l)).data.toList)
    clear e0 lr hsz
    generalize readE wd (showS wd (dig32 l)).data.toList = fe at *
    generalize (bcells (readR wd (showS wd (dig32 l)).data.toList)).toArray = X at *
    generalize showS wd (dig32 l) = sx at *
    generalize (bcells (dig32 l)).toArray = Y at *
    have hYsz : (Tryd.prog.info? 36).map (·.size) = some Y.size := by rw [Tryd.ainfoD, hYs]
    have hXsz : (Tryd.prog.info? 36).map (·.size) = some X.size := by rw [Tryd.ainfoD, hXs]
    obtain ⟨n, hn⟩ : ∃ n, n = l.length := ⟨_, rfl⟩
    rw [← hn] at HD ⊢
    clear ht h hl hn l32 hf
    go_enter Tryd.func6, Tryd.ntmps6
    go_wp2_with fail
    refine HD.out.mono ?_
    rintro e W0 ⟨rfl, s0⟩
    go_wp2_with (first | (refine wpList_store_whole (by rfl) 36 _ _ (by rfl) W0.heap.size Y _ 36 (by rfl) (by rfl) (heap_alloc_new W0 _) (by rw [hYs]; rfl) hYsz hYone ?_; intro W1 r1 fr1; have s1 : Same W0 W1 := Fr.trans ((Fr.refl _ W0).alloc _) fr1 (fun i hi e => by omega); clear fr1) | (refine wpList_load_row (by rfl) 36 _ (by rfl) W0.heap.size (by rfl) 36 Y (0, 0) _ r1 Tryd.underlying36 rfl hYsz ?_))
    refine (HS.out _).mono ?_
    rintro e W2 ⟨rfl, s2⟩
    have r2 : W2.heap[W0.heap.size]? = some (.cells Y 36 (0, 0)) := by rw [s2.block _ (lt_of_heap r1) (fun f => f)]; exact r1
    go_wp2_with (first | (refine wpList_load_row (by rfl) 36 _ (by rfl) W0.heap.size (by rfl) 36 Y (0, 0) _ r2 Tryd.underlying36 rfl hYsz ?_))
    refine (HR.out _).mono ?_
    rintro e W3 ⟨rfl, s3⟩
    have r3 : W3.heap[W0.heap.size]? = some (.cells Y 36 (0, 0)) := by rw [s3.block _ (lt_of_heap r2) (fun f => f)]; exact r2
    clear r1 r2
    go_wp2_with fail
    refine (HG.out _).mono ?_
    rintro e W4 ⟨rfl, s4⟩
    have r4 : W4.heap[W0.heap.size]? = some (.cells Y 36 (0, 0)) := by rw [s4.block _ (lt_of_heap r3) (fun f => f)]; exact r3
    clear r3
    have s04 : Same w W4 := s0.trans (s1.trans (s2.trans (s3.trans s4)))
    clear s0 s1 s2 s3 s4
    go_wp2_with (first | (refine wpList_store_whole (by rfl) 36 _ _ (by rfl) W4.heap.size X _ 36 (by rfl) (by rfl) (heap_alloc_new W4 _) (by rw [hXs]; rfl) hXsz hXone ?_; intro W5 r5 fr5; have s5 : Same W4 W5 := Fr.trans ((Fr.refl _ W4).alloc _) fr5 (fun i hi e => by omega); clear fr5))
    have s05 := s04.trans s5
    refine (HA.out W5 s05).mono ?_
    rintro e W6 ⟨rfl, s6⟩
    go_wp2_with fail
    go_ret
    exact ⟨rfl, s05.trans s6⟩
end Go.Proofs.YthkhfblpdekjhaaDoor
