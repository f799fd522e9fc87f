/- free: the document's SamePlan where plans are alike. -/
import Derived.Test.YtajbifblbmlffaaIA
namespace Go.Proofs.Ytajbifblbmlffaa
open Go.RowKit Go.Maps

set_option maxRecDepth 100000 in
set_option maxHeartbeats 2000000 in
theorem samePlan_true {ta ta2 la la2 : Option Addr} {tb to tc tb2 to2 tc2 lb lo lc lb2 lo2 lc2 : Nat} {ts : List Nat} {L L2 : List Bt} {op pg : Int} (w : World) (ht : NRow w ta tb to ts) (ht2 : NRow w ta2 tb2 to2 ts) (htn : ts.length ≤ 1099511627776) (h : BrRow w la lb lo L) (h2 : BrRow w la2 lb2 lo2 L2) (he : L.map Bt.key = L2.map Bt.key) (hn : L.length ≤ 1099511627776) :
    Calls Try.prog 19 #[.agg #[.slice ta ts.length tc, .slice la L.length lc, .int .i64 op, .int .u32 pg], .agg #[.slice ta2 ts.length tc2, .slice la2 L2.length lc2, .int .i64 op, .int .u32 pg]] w fun e w' => e = .returned (.bool true) ∧ Same w w' := by
  have HSN0 : Hid (∀ W, Same w W → Calls Try.prog 18 #[.slice ta ts.length tc, .slice ta2 ts.length tc2] W fun e w' => e = .returned (.bool true) ∧ Same W w') := fun W s => sameNumbers_true W (ht.same s) (ht2.same s) htn
  have HSB0 : Hid (∀ W, Same w W → Calls Try.prog 8 #[.slice la L.length lc, .slice la2 L2.length lc2] W fun e w' => e = .returned (.bool true) ∧ Same W w') := fun W s => sameB_true W (h.same s) (h2.same s) he hn
  generalize ts.length = tl at *
  generalize L.length = ll at *
  generalize L2.length = ll2 at *
  clear ht ht2 htn h h2 he hn
  obtain ⟨V, hV⟩ : ∃ V, V = (w.alloc (.cells #[.slice ta tl tc, .slice la ll lc, .int .i64 op, .int .u32 pg] 63)).alloc (.cells #[.slice ta2 tl tc2, .slice la2 ll2 lc2, .int .i64 op, .int .u32 pg] 63) := ⟨_, rfl⟩
  have sx : Same w V := by rw [hV]; exact ((Fr.refl _ w).alloc _).alloc _
  have HSN : Hid (∀ W, Same V W → Calls Try.prog 18 #[.slice ta tl tc, .slice ta2 tl tc2] W fun e w' => e = .returned (.bool true) ∧ Same W w') := fun W s => HSN0.out W (sx.trans s)
  have HSB : Hid (∀ W, Same V W → Calls Try.prog 8 #[.slice la ll lc, .slice la2 ll2 lc2] W fun e w' => e = .returned (.bool true) ∧ Same W w') := fun W s => HSB0.out W (sx.trans s)
  clear HSN0 HSB0
  have HSX : Hid (Same w V) := sx
  have r0 : V.heap[w.heap.size]? = some (.cells #[.slice ta tl tc, .slice la ll lc, .int .i64 op, .int .u32 pg] 63 (0, 0)) := by rw [hV]; exact (((Fr.refl (fun _ => False) (w.alloc (.cells #[.slice ta tl tc, .slice la ll lc, .int .i64 op, .int .u32 pg] 63))).alloc _).block _ (by simp) (fun f => f)).trans (heap_alloc_new w _)
  have r1 : V.heap[w.heap.size + 1]? = some (.cells #[.slice ta2 tl tc2, .slice la2 ll2 lc2, .int .i64 op, .int .u32 pg] 63 (0, 0)) := by
    rw [hV]
    have := heap_alloc_new (w.alloc (.cells #[.slice ta tl tc, .slice la ll lc, .int .i64 op, .int .u32 pg] 63)) (.cells #[.slice ta2 tl tc2, .slice la2 ll2 lc2, .int .i64 op, .int .u32 pg] 63)
    simpa using this
  have HK0 : Hid (∀ g1 g2, g1 = w.heap.size → g2 = w.heap.size + 1 → ∀ W, Same V W → (W.cell? ⟨g1, 0, none⟩ = some (.slice ta tl tc) ∧ W.cell? ⟨g1, 1, none⟩ = some (.slice la ll lc) ∧ W.cell? ⟨g1, 2, none⟩ = some (.int .i64 op) ∧ W.cell? ⟨g1, 3, none⟩ = some (.int .u32 pg) ∧ W.cell? ⟨g2, 0, none⟩ = some (.slice ta2 tl tc2) ∧ W.cell? ⟨g2, 1, none⟩ = some (.slice la2 ll2 lc2) ∧ W.cell? ⟨g2, 2, none⟩ = some (.int .i64 op) ∧ W.cell? ⟨g2, 3, none⟩ = some (.int .u32 pg) ∧ Same V W)) := fun g1 g2 e1 e2 W s => by
    subst e1
    subst e2
    have q0 := (s.block _ (lt_of_heap r0) (fun f => f)).trans r0
    have q1 := (s.block _ (lt_of_heap r1) (fun f => f)).trans r1
    exact ⟨(cell_of_row _ _ _ _ _ _ q0).trans rfl, (cell_of_row _ _ _ _ _ _ q0).trans rfl, (cell_of_row _ _ _ _ _ _ q0).trans rfl, (cell_of_row _ _ _ _ _ _ q0).trans rfl, (cell_of_row _ _ _ _ _ _ q1).trans rfl, (cell_of_row _ _ _ _ _ _ q1).trans rfl, (cell_of_row _ _ _ _ _ _ q1).trans rfl, (cell_of_row _ _ _ _ _ _ q1).trans rfl, s⟩
  clear r0 r1 sx
  obtain ⟨a0, a1, a2, a3, b0, b1, b2, b3, _⟩ := HK0.out _ _ rfl rfl V (Fr.refl _ V)
  rw [hV] at a0 a1 a2 a3 b0 b1 b2 b3
  go_enter Try.func19, Try.ntmps19
  go_wp2_with fail
  rw [← hV]
  clear hV a0 a1 a2 a3 b0 b1 b2 b3
  refine (HSN.out _ (Fr.refl _ V)).mono ?_
  rintro e W8 ⟨rfl, s8⟩
  obtain ⟨a0, a1, a2, a3, b0, b1, b2, b3, _⟩ := HK0.out _ _ rfl rfl W8 s8
  have HS8 : Hid (Same V W8) := s8
  clear s8
  go_wp2_with fail
  refine (HSB.out _ HS8.out).mono ?_
  rintro e W9 ⟨rfl, s9⟩
  have HD : Hid (Same w W9) := HSX.out.trans (HS8.out.trans s9)
  clear s9 a0 a1 a2 a3 b0 b1 b2 b3
  go_wp2_with fail
  go_ret
  exact ⟨rfl, HD.out⟩
end Go.Proofs.Ytajbifblbmlffaa
