/-
  Walks: sums.Sum, mayBe, Cut, Of.
-/
import Derived.Test.YtnoicjpmfchhiaaDoorSB
namespace Go.Proofs.YtnoicjpmfchhiaaDoor
open Go.RowKit

set_option maxRecDepth 100000 in
set_option maxHeartbeats 400000 in
theorem may_calls (w : World) (wd : Int) : Calls Tryd.prog 13 #[.int .i64 wd] w fun e w' => e = .returned (.bool (decide (1 ≤ wd ∧ wd ≤ 32))) ∧ w' = w := by
  by_cases h1 : 1 ≤ wd
  · by_cases h2 : wd ≤ 32
    · rw [decide_eq_true ⟨h1, h2⟩]
      go_enter Tryd.func13, Tryd.ntmps13
      go_wp2
      go_ret
      exact ⟨rfl, rfl⟩
    · rw [decide_eq_false (by omega)]
      go_enter Tryd.func13, Tryd.ntmps13
      go_wp2
      go_ret
      exact ⟨rfl, rfl⟩
  · rw [decide_eq_false (by omega)]
    go_enter Tryd.func13, Tryd.ntmps13
    go_wp2
    go_ret
    exact ⟨rfl, rfl⟩

set_option maxRecDepth 100000 in
set_option maxHeartbeats 1000000 in
theorem sum_calls (w : World) (s : ByteArray) (hs : s.size ≤ 70368744177664) : Calls Tryd.prog 25 #[.string s] w fun e w' => e = .returned (.agg (bcells (sha s.data.toList)).toArray) ∧ Same w w' := by
  obtain ⟨D, hD⟩ : ∃ D, D = (bcells (sha s.data.toList)).toArray := ⟨_, rfl⟩
  have hDs : D.size = 32 := by rw [hD]; rfl
  have hDsz : (Tryd.prog.info? 29).map (·.size) = some D.size := by rw [Tryd.ainfoD, hDs]
  have hDone : D.all (·.oneCell') = true := by rw [hD]; exact bcells_one _
  have HN : Hid (∀ W, Calls Tryd.prog 27 #[] W fun e w' => e = .returned (.pointer (some ⟨W.heap.size, 0, none⟩)) ∧ HashAt w' W.heap.size hTab (List.replicate 64 0) 0 ∧ Same W w') := fun W => new_calls W
  have HS : Hid (∀ W b, HashOf W b s.data.toList → Calls Tryd.prog 29 #[.pointer (some ⟨b, 0, none⟩)] W fun e w' => e = .returned (.agg D) ∧ Same W w') := by
    intro W b h
    rw [hD]
    exact hsum_calls h hs
  have HWR : Hid (∀ W b pb, HashOf W b [] → pb ≠ b → pb < W.heap.size → W.cell? ⟨pb, 0, none⟩ = some (.string s) → Calls Tryd.prog 28 #[.pointer (some ⟨b, 0, none⟩), .slice (some ⟨pb, 0, none⟩) 1 1] W fun e w' => e = .returned (.tuple #[]) ∧ HashOf w' b s.data.toList ∧ Fr (fun k => k = b) W w') := by
    intro W b pb h h1 h2 h3
    have := write_calls h [s] (some ⟨pb, 0, none⟩) pb 0 1 (fun _ => rfl) h1 (fun _ => h2) (by
      intro j s' hj
      cases j with
      | zero => simp at hj; subst hj; exact h3
      | succ j => simp at hj) (by simp [flat]; exact hs) (by simp)
    simpa [flat] using this
  have HRES : Hid (∀ (tmps : Array Value) (W : World), W.heap[w.heap.size]? = some (.cells D 29 (0, 0)) → tmps.getD 2 undef = .pointer (some ⟨w.heap.size, 0, none⟩) → (results Tryd.f25 tmps).run Tryd.prog W = .ok (.agg D) W) := fun tmps W h hp => results_cell_row (p := 2) (ty := 29) (by kernel_rfl) tmps _ w.heap.size 29 _ (0, 0) _ hp h Tryd.underlying29 rfl hDsz
  rw [← hD]
  clear hD
  go_enter Tryd.func25, Tryd.ntmps25
  go_wp2_with fail
  refine (HN.out _).mono ?_
  rintro e W1 ⟨rfl, hA1, s1⟩
  have hof : HashOf W1 (w.heap.size + 1) [] := by
    have := hA1
    rw [World.size_alloc] at this
    exact ⟨List.replicate 64 0, by rw [mixAll_end _ _ (by simp)]; exact this, rfl⟩
  obtain ⟨Z, r1, hZ⟩ : ∃ Z : Array Value, W1.heap[w.heap.size]? = some (.cells Z 29 (0, 0)) ∧ Z.size = 32 := ⟨_, (s1.block _ (by simp) (fun f => f)).trans (heap_alloc_new w _), rfl⟩
  have s01 : Same w W1 := Fr.trans ((Fr.refl _ w).alloc _) s1 (fun _ _ f => f)
  have hz1 : w.heap.size + 1 < W1.heap.size := hof.lt
  clear hA1 s1
  go_wp2_with fail
  have s2 : Same W1 (W1.alloc (.cells #[.string s] 9)) := (Fr.refl _ W1).alloc _
  refine (HWR.out _ _ _ (hof.same s2) (by omega) (by simp) (by simp)).mono ?_
  rintro e W2 ⟨rfl, hof2, f2⟩
  have r2 : W2.heap[w.heap.size]? = some (.cells Z 29 (0, 0)) := by
    rw [f2.block _ (by simp; omega) (by omega), s2.block _ (by omega) (fun f => f)]; exact r1
  have s02 : Same w W2 := Fr.trans (Fr.trans s01 s2 (fun _ _ f => f)) f2 (fun i hi e => by omega)
  clear hof f2 r1 s2 s01
  go_wp2_with fail
  refine (HS.out _ _ hof2).mono ?_
  rintro e W3 ⟨rfl, s3⟩
  have r3 : W3.heap[w.heap.size]? = some (.cells Z 29 (0, 0)) := by rw [s3.block _ (lt_of_heap r2) (fun f => f)]; exact r2
  have s03 := s02.trans s3
  clear hof2 s02 s3 r2
  go_wp2_with (first | (refine wpList_store_whole (by rfl) 29 _ _ (by rfl) w.heap.size D Z 29 (by rfl) (by rfl) r3 (by rw [hDs, hZ]) hDsz hDone ?_; intro W5 r5 f5))
  exact bodyPost_ret (HRES.out _ _ r5 rfl) rfl ⟨rfl, Fr.trans s03 f5 (fun i hi e => by omega)⟩
end Go.Proofs.YtnoicjpmfchhiaaDoor
