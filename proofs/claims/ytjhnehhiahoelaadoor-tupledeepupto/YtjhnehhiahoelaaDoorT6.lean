/-
  Walks: Check.
-/
import Derived.Test.YtjhnehhiahoelaaDoorT5
namespace Go.Proofs.YtjhnehhiahoelaaDoor
open Go.RowKit

/-- What Check answers. -/
def checkP (l : List ItemP) : Nat := if (chkL l 0 0 0).1 = 0 then (if 4096 < (chkL l 0 0 0).2.2 then 4 else 0) else (chkL l 0 0 0).1

set_option maxRecDepth 100000 in
set_option maxHeartbeats 1000000 in
theorem check_calls {w : World} {B : Nat} {v : Value} (l : List ItemP) (h : RowIn B w v l) (hB : B ≤ w.heap.size) :
    Calls Tryd.prog 7 #[v] w fun e w' => e = .returned (.int .i64 (checkP l)) ∧ Same w w' := by
  have sx : Same w (w.alloc (.cells #[.int .i64 0, .int .i64 0] 40)) := (Fr.refl _ w).alloc _
  have hW : WalkAt (w.alloc (.cells #[.int .i64 0, .int .i64 0] 40)) w.heap.size 0 0 := heap_alloc_new w _
  have HI := wrow_calls (SizeOf.sizeOf l) l (Nat.le_refl _) (d := 0) (h.below (Fr.below sx hB (fun _ f => f.elim))) hB hW (by omega) (by omega) (by omega) (by omega)
  unfold checkP
  generalize chkL l 0 0 0 = r at *
  obtain ⟨rc, rn, rz⟩ := r
  simp only at *
  have HI' : Hid (Calls Tryd.prog 12 #[.pointer (some ⟨w.heap.size, 0, none⟩), v, .int .i64 0] (w.alloc (.cells #[.int .i64 0, .int .i64 0] 40)) fun e w' => e = .returned (.int .i64 rc) ∧ CkPost w.heap.size (rc, rn, rz) (w.alloc (.cells #[.int .i64 0, .int .i64 0] 40)) w') := HI
  clear HI
  obtain ⟨E, hE⟩ : ∃ E : Nat, E = (if rc = 0 then (if 4096 < rz then 4 else 0) else rc) := ⟨_, rfl⟩
  rw [← hE]
  have HE : Hid (E = (if rc = 0 then (if 4096 < rz then 4 else 0) else rc)) := hE
  clear hE
  go_enter Tryd.func7, Tryd.ntmps7
  go_wp2_with fail
  refine HI'.out.mono ?_
  rintro e W1 ⟨rfl, hW1, hn1, hz1, hF1⟩
  have s1 : Same w W1 := Fr.trans sx hF1 (fun i hi e => by omega)
  obtain ⟨c0, c1, _, _⟩ := hW1.cells
  simp only at c0 c1
  by_cases hrc : rc = 0
  · subst hrc
    by_cases hbig : 4096 < rz
    · have hb' : (4096 : Int) < (rz : Int) := by omega
      go_wp2_with fail
      go_ret
      have e : E = 4 := by have := HE.out; simpa [hbig] using this
      rw [e]
      exact ⟨rfl, s1⟩
    · have hb' : (rz : Int) ≤ 4096 := by omega
      go_wp2_with fail
      go_ret
      have e : E = 0 := by have := HE.out; simpa [hbig] using this
      rw [e]
      exact ⟨rfl, s1⟩
  · have hrc' : ¬ (rc : Int) = 0 := by omega
    go_wp2_with fail
    go_ret
    have e : E = rc := by have := HE.out; simpa [hrc] using this
    rw [e]
    exact ⟨rfl, s1⟩
end Go.Proofs.YtjhnehhiahoelaaDoor
