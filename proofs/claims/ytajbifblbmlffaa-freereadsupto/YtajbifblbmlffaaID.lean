/- free: the document's Entries; FreeEntries, FreeNames. -/
import Derived.Test.YtajbifblbmlffaaIC
namespace Go.Proofs.Ytajbifblbmlffaa
open Go.RowKit Go.Maps

set_option maxRecDepth 100000 in
theorem rentries_calls (p q : Int) (w : World) : Calls Try.prog 40 #[frameV p q] w fun e w' => e = .returned (.int .i64 (entN p q : Int)) ∧ Same w w' := by
  have HM : Hid (∀ W, Calls Try.prog 21 #[.agg #[.int .i64 p, .int .i64 q]] W fun e w' => e = .returned (.bool (frameP p q)) ∧ Same W w') := rframe_calls p q
  have t1 : Same w (w.alloc (.cells #[.int .i64 p, .int .i64 q] 23)) := (Fr.refl _ w).alloc _
  have HC : Hid (∀ W, Same (w.alloc (.cells #[.int .i64 p, .int .i64 q] 23)) W → W.cell? ⟨w.heap.size, 0, none⟩ = some (.int .i64 p) ∧ W.cell? ⟨w.heap.size, 1, none⟩ = some (.int .i64 q)) := fun W h => ⟨h.keep (by simp), h.keep (by simp)⟩
  rcases entN_cases p q with ⟨h1, h2⟩ | ⟨h1, h2, h3, h4, h5⟩
  · rw [h1] at HM
    rw [h2]
    go_enter Try.func40, Try.ntmps40
    go_wp2_with fail
    refine (HM.out _).mono ?_
    rintro e W1 ⟨rfl, s1⟩
    go_wp2_with fail
    go_ret
    exact ⟨rfl, t1.trans s1⟩
  · rw [h1] at HM
    have hw : RowKit.wrap64 (p - 40) = p - 40 := by unfold RowKit.wrap64; omega
    have hd : Int.tdiv (p - 40) 4 = (entN p q : Int) := by rw [h2]; exact Int.tdiv_eq_ediv_of_nonneg (by omega)
    have hw2 : RowKit.wrap64 (entN p q : Int) = (entN p q : Int) := by unfold RowKit.wrap64; omega
    go_enter Try.func40, Try.ntmps40
    go_wp2_with fail
    refine (HM.out _).mono ?_
    rintro e W1 ⟨rfl, s1⟩
    obtain ⟨c0, c1⟩ := HC.out _ s1
    go_wp2_with fail
    go_ret
    exact ⟨by first | rfl | (simp_all; try omega), t1.trans s1⟩
end Go.Proofs.Ytajbifblbmlffaa
