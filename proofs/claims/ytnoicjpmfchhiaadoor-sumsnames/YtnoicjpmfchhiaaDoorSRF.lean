/-
  Walks: the document's table.
-/
import Derived.Test.YtnoicjpmfchhiaaDoorSRE
namespace Go.Proofs.YtnoicjpmfchhiaaDoor
open Go.RowKit
theorem uat_row {W : World} {g : Nat} {cs : Array Value} {t : TypeId} {fr : Nat × Nat} {l : List UInt32} (h : W.heap[g]? = some (.cells cs t fr)) (hc : cs = (ucells l).toArray) : UAt W g 0 l := by
  intro j x hx
  rw [Nat.zero_add, cell_of_row _ _ _ _ _ _ h, hc]
  simp [ucells, hx]
theorem uat2 (w : World) (A C : Obj) (cs : Array Value) (t : TypeId) (l : List UInt32) (h : cs = (ucells l).toArray) : UAt (((w.alloc A).alloc (.cells cs t)).alloc C) (w.heap.size + 1) 0 l := by
  have e : (w.alloc A).heap.size = w.heap.size + 1 := by simp
  refine uat_row (cs := cs) (t := t) (fr := (0, 0)) ?_ h
  rw [heap_alloc_old _ _ (by simp), ← e]
  exact heap_alloc_new (w.alloc A) _
theorem uat3 (w : World) (A B : Obj) (cs : Array Value) (t : TypeId) (l : List UInt32) (h : cs = (ucells l).toArray) : UAt (((w.alloc A).alloc B).alloc (.cells cs t)) (w.heap.size + 1 + 1) 0 l := by
  have e : ((w.alloc A).alloc B).heap.size = w.heap.size + 1 + 1 := by simp
  refine uat_row (cs := cs) (t := t) (fr := (0, 0)) ?_ h
  rw [← e]
  exact heap_alloc_new ((w.alloc A).alloc B) _
theorem heap_first (w : World) (A B C : Obj) : (((w.alloc A).alloc B).alloc C).heap[w.heap.size]? = some A := by
  rw [heap_alloc_old _ _ (by simp; omega), heap_alloc_old _ _ (by simp)]
  exact heap_alloc_new w A

set_option maxRecDepth 100000 in
set_option maxHeartbeats 1000000 in
theorem table_calls (w : World) :
    Calls Tryd.prog 7 #[] w fun e w' => ∃ hg hc kg kc, e = .returned (.agg #[.slice (some ⟨hg, 0, none⟩) 8 hc, .slice (some ⟨kg, 0, none⟩) 64 kc]) ∧ UAt w' hg 0 [hTab.a, hTab.b, hTab.c, hTab.d, hTab.e, hTab.f, hTab.g, hTab.h] ∧ UAt w' kg 0 kTab ∧ Same w w' := by
  go_enter Tryd.func7, Tryd.ntmps7
  go_wp2_with fail
  refine bodyPost_ret (results_cell_row (p := 0) (ty := 25) (by kernel_rfl) _ _ w.heap.size 25 _ (0, 0) _ rfl (heap_first w _ _ _) Tryd.underlying25 rfl (by kernel_rfl)) rfl ?_
  exact ⟨_, _, _, _, rfl, uat2 w _ _ _ _ _ (by kernel_rfl), uat3 w _ _ _ _ _ (by kernel_rfl), (((Fr.refl _ w).alloc _).alloc _).alloc _⟩
end Go.Proofs.YtnoicjpmfchhiaaDoor
