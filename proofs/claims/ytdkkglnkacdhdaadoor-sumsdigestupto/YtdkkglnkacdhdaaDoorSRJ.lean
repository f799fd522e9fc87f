/-
  Walks: the document's Of; SumsOf.
-/
import Derived.Test.YtdkkglnkacdhdaaDoorSRI
namespace Go.Proofs.YtdkkglnkacdhdaaDoor
open Go.RowKit

set_option maxRecDepth 100000 in
set_option maxHeartbeats 1000000 in
theorem rof_calls (w : World) (wd : Int) (s : ByteArray) (hs : s.size ≤ 1099511627776) : Calls Tryd.prog 13 #[.int .i64 wd, .string s] w fun e w' => e = .returned (.tuple #[.agg (bcells (ofR wd s.data.toList)).toArray, .int .i64 (cutE wd)]) ∧ Same w w' := by
  have hl := cutR_length wd (sha s.data.toList) (sha_length _)
  have HSU : Hid (∀ W, Calls Tryd.prog 10 #[.string s] W fun e w' => e = .returned (.agg (bcells (sha s.data.toList)).toArray) ∧ Same W w') := fun W => rsum_calls W s hs
  have HCU : Hid (∀ W, Calls Tryd.prog 29 #[.int .i64 wd, .agg (bcells (sha s.data.toList)).toArray] W fun e w' => e = .returned (.tuple #[.agg (bcells (ofR wd s.data.toList)).toArray, .int .i64 (cutE wd)]) ∧ Same W w') := fun W => rcut_calls W wd _ (sha_length _)
  generalize (bcells (sha s.data.toList)).toArray = SA at *
  obtain ⟨R, hR⟩ : ∃ R, R = (bcells (ofR wd s.data.toList)).toArray := ⟨_, rfl⟩
  have hRs : R.size = 32 := by rw [hR]; simp [bcells, ofR, hl]
  have hRsz : (Tryd.prog.info? 23).map (·.size) = some R.size := by rw [Tryd.ainfoD, hRs]
  have hRone : R.all (·.oneCell') = true := by rw [hR]; exact bcells_one _
  have HRES : Hid (∀ (tmps : Array Value) (W : World), W.heap[w.heap.size]? = some (.cells R 23 (0, 0)) → tmps.getD 4 undef = .pointer (some ⟨w.heap.size, 0, none⟩) → (results Tryd.f13 tmps).run Tryd.prog W = .ok (.tuple #[.agg R, tmps.getD 5 undef]) W) := fun tmps W h hp => results_row_tmp (p := 4) (u := 5) (ty := 23) (by kernel_rfl) tmps _ w.heap.size 23 _ (0, 0) _ hp h Tryd.underlying23 rfl hRsz
  rw [← hR] at HCU ⊢
  clear hR hl
  generalize cutE wd = ce at *
  go_enter Tryd.func13, Tryd.ntmps13
  go_wp2_with fail
  obtain ⟨W1, hW1⟩ : ∃ W1, W1 = w.alloc (.cells (bcells (List.replicate 32 0)).toArray 23) := ⟨_, rfl⟩
  obtain ⟨Z, rz, hZ⟩ : ∃ Z : Array Value, W1.heap[w.heap.size]? = some (.cells Z 23 (0, 0)) ∧ Z.size = 32 := by rw [hW1]; exact ⟨_, heap_alloc_new w _, rfl⟩
  have s1 : Same w W1 := by rw [hW1]; exact (Fr.refl _ w).alloc _
  refine (HSU.out _).mono ?_
  rintro e W2 ⟨rfl, s2'⟩
  have s2 : Same W1 W2 := by rw [hW1]; exact s2'
  clear hW1 s2'
  go_wp2_with fail
  refine (HCU.out _).mono ?_
  rintro e W3 ⟨rfl, s3⟩
  have rz3 : W3.heap[w.heap.size]? = some (.cells Z 23 (0, 0)) := by rw [(s2.trans s3).block _ (lt_of_heap rz) (fun f => f)]; exact rz
  have s03 := s1.trans (s2.trans s3)
  clear s1 s2 s3 rz
  go_wp2_with (first | (refine wpList_store_whole (by rfl) 23 _ _ (by rfl) w.heap.size R Z 23 (by rfl) (by rfl) rz3 (by rw [hRs, hZ]) hRsz hRone ?_; intro W5 r5 f5))
  exact bodyPost_ret (HRES.out _ _ r5 rfl) rfl ⟨rfl, Fr.trans s03 f5 (fun i hi e => by omega)⟩

set_option maxRecDepth 100000 in
set_option maxHeartbeats 1000000 in
theorem sof_walk (w : World) (ht : TabAt w) (wd : Int) (s : ByteArray) (hs : s.size ≤ 1099511627776) : Calls Tryd.prog 4 #[.int .i64 wd, .string s] w fun e w' => e = .returned (.bool true) ∧ Same w w' := by
  have hl := cutR_length wd (sha s.data.toList) (sha_length _)
  have HO : Hid (∀ W, Calls Tryd.prog 12 #[.int .i64 wd, .string s] W fun e w' => e = .returned (.tuple #[.agg (bcells (ofR wd s.data.toList)).toArray, .int .i64 (cutE wd)]) ∧ Same W w') := fun W => of_calls W wd s (by omega)
  have HR : Hid (∀ W, Calls Tryd.prog 13 #[.int .i64 wd, .string s] W fun e w' => e = .returned (.tuple #[.agg (bcells (ofR wd s.data.toList)).toArray, .int .i64 (cutE wd)]) ∧ Same W w') := fun W => rof_calls W wd s hs
  have hEq := eq_same (ofR wd s.data.toList) hl
  have hXs : (bcells (ofR wd s.data.toList)).toArray.size = 32 := by simp [bcells, ofR, hl]
  have hXone := bcells_one (ofR wd s.data.toList)
  have HA : Hid (∀ W, Same w W → Calls Tryd.prog 11 #[] W fun e w' => e = .returned (.bool true) ∧ Same W w') := fun W s => awake_calls W (ht.same s)
  generalize (bcells (ofR wd s.data.toList)).toArray = X at *
  have hXsz : (Tryd.prog.info? 23).map (·.size) = some X.size := by rw [Tryd.ainfoD, hXs]
  generalize cutE wd = ce at *
  clear ht hl
  go_enter Tryd.func4, Tryd.ntmps4
  go_wp2_with fail
  refine (HO.out _).mono ?_
  rintro e W1 ⟨rfl, s1⟩
  go_wp2_with (first | (refine wpList_store_whole (by rfl) 23 _ _ (by rfl) W1.heap.size X _ 23 (by rfl) (by rfl) (heap_alloc_new W1 _) (by rw [hXs]; rfl) hXsz hXone ?_; intro W2 r2 f2; have s2 : Same W1 W2 := Fr.trans ((Fr.refl _ W1).alloc _) f2 (fun i hi e => by omega); clear f2))
  refine (HR.out _).mono ?_
  rintro e W3 ⟨rfl, s3⟩
  have r3 : W3.heap[W1.heap.size]? = some (.cells X 23 (0, 0)) := by rw [s3.block _ (lt_of_heap r2) (fun f => f)]; exact r2
  clear r2
  go_wp2_with (first | (refine wpList_store_whole (by rfl) 23 _ _ (by rfl) W3.heap.size X _ 23 (by rfl) (by rfl) (heap_alloc_new W3 _) (by rw [hXs]; rfl) hXsz hXone ?_; intro W4 r4 f4; have s4 : Same W3 W4 := Fr.trans ((Fr.refl _ W3).alloc _) f4 (fun i hi e => by omega); clear f4) | (refine wpList_load_want (by rfl) 23 _ (by rfl) W1.heap.size (by rfl) 23 X (0, 0) _ ((s4.block _ (lt_of_heap r3) (fun f => f)).trans r3) Tryd.underlying23 rfl hXsz ?_) | (refine wpList_load_want (by rfl) 23 _ (by rfl) W3.heap.size (by rfl) 23 X (0, 0) _ r4 Tryd.underlying23 rfl hXsz ?_))
  have s04 := s1.trans (s2.trans (s3.trans s4))
  refine (HA.out W4 s04).mono ?_
  rintro e W5 ⟨rfl, s5⟩
  go_wp2_with fail
  go_ret
  exact ⟨rfl, s04.trans s5⟩
end Go.Proofs.YtdkkglnkacdhdaaDoor
