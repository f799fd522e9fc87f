/-
  Walks: Fault and End of a Reader; the text of one fault.
-/
import Derived.Test.YtbdlebjhmhmnnaaDoorW9
import Derived.RegionTactic
import Derived.Deep.RegionWith
namespace Go.Proofs.YtbdlebjhmhmnnaaDoor
open Go.RowKit

/-- At block q lies a Fault of that number and place. -/
def FltAt (w : World) (q c p : Nat) : Prop := w.heap[q]? = some (.cells #[.int .i64 c, .int .i64 p] 25 (0, 0))

theorem fault_ok {w : World} {b : Nat} {s : ByteArray} {p : Nat} (h : RdAt w b s p 0) :
    Calls Tryd.prog 39 #[.pointer (some ⟨b, 0, none⟩)] w fun e w' => e = .returned (.pointer none) ∧ w = w' := by
  obtain ⟨c0, c1, c2, c3, f2, f3⟩ := cell_of_four h.1
  go_enter Tryd.func39, Tryd.ntmps39
  go_wp2_with (go_at_call 38; refine (rthere_calls c0).mono ?_; rintro e w' ⟨rfl, rfl⟩)
  go_ret
  exact ⟨rfl, rfl⟩
theorem fault_nil (w : World) :
    Calls Tryd.prog 39 #[.pointer none] w fun e w' => e = .returned (.pointer none) ∧ w = w' := by
  go_enter Tryd.func39, Tryd.ntmps39
  go_wp2_with (go_at_call 38; refine (rthere_nil _).mono ?_; rintro e w' ⟨rfl, rfl⟩)
  go_ret
  exact ⟨rfl, rfl⟩
set_option maxRecDepth 100000 in
set_option maxHeartbeats 1000000 in
theorem fault_bad {w : World} {b : Nat} {s : ByteArray} {p c : Nat} (h : RdAt w b s p c) (hc : 0 < c) :
    Calls Tryd.prog 39 #[.pointer (some ⟨b, 0, none⟩)] w fun e w' => e = .returned (.pointer (some ⟨w.heap.size, 0, none⟩)) ∧ FltAt w' w.heap.size c p ∧ Same w w' := by
  obtain ⟨c0, c1, c2, c3, f2, f3⟩ := cell_of_four h.1
  have hlt := h.lt
  have hcb : ((c : Int) == 0) = false := by simp; omega
  go_enter Tryd.func39, Tryd.ntmps39
  go_wp2_with (go_at_call 38; refine (rthere_calls c0).mono ?_; rintro e w' ⟨rfl, rfl⟩)
  go_region
  all_goals (try go_wp2)
  all_goals
    go_ret
    exact ⟨rfl, heap_alloc_new w _, ((Fr.refl _ w).alloc _).drew⟩
theorem end_ok {w : World} {b : Nat} {s : ByteArray} {p : Nat} (h : RdAt w b s p 0) (hp : p = s.size) :
    Calls Tryd.prog 21 #[.pointer (some ⟨b, 0, none⟩)] w fun e w' => e = .returned .nilIface ∧ Same w w' := by
  obtain ⟨c0, c1, c2, c3, f2, f3⟩ := cell_of_four h.1
  go_enter Tryd.func21, Tryd.ntmps21
  go_wp2_with (first | (go_at_call 38; refine (rthere_calls c0).mono ?_; rintro e w' ⟨rfl, rfl⟩) | (go_at_call 39; refine (fault_ok h).mono ?_; rintro e w' ⟨rfl, rfl⟩))
  refine (left_calls h).mono ?_
  rintro e w1 ⟨rfl, st1⟩
  have hx : (s.size : Int) - (p : Int) ≤ 0 := by omega
  go_wp2_with fail
  go_ret
  exact ⟨rfl, st1⟩
set_option maxRecDepth 100000 in
set_option maxHeartbeats 1000000 in
theorem end_rest {w : World} {b : Nat} {s : ByteArray} {p : Nat} (h : RdAt w b s p 0) (hp : p < s.size) :
    Calls Tryd.prog 21 #[.pointer (some ⟨b, 0, none⟩)] w fun e w' => ∃ q, e = .returned (.iface 22 (.pointer (some ⟨q, 0, none⟩))) ∧ w.heap.size ≤ q ∧ FltAt w' q 13 p ∧ Same w w' := by
  obtain ⟨c0, c1, c2, c3, f2, f3⟩ := cell_of_four h.1
  go_enter Tryd.func21, Tryd.ntmps21
  go_wp2_with (first | (go_at_call 38; refine (rthere_calls c0).mono ?_; rintro e w' ⟨rfl, rfl⟩) | (go_at_call 39; refine (fault_ok h).mono ?_; rintro e w' ⟨rfl, rfl⟩))
  refine (left_calls h).mono ?_
  rintro e w1 ⟨rfl, st1⟩
  have h1 := h.same st1
  obtain ⟨d0, d1, d2, d3, g2, g3⟩ := cell_of_four h1.1
  have hx : 0 < (s.size : Int) - (p : Int) := by omega
  go_wp2_with fail
  go_ret
  exact ⟨w1.heap.size, rfl, st1.size, heap_alloc_new w1 _, Fr.alloc st1 _⟩
set_option maxRecDepth 100000 in
set_option maxHeartbeats 1000000 in
theorem end_bad {w : World} {b : Nat} {s : ByteArray} {p c : Nat} (h : RdAt w b s p c) (hc : 0 < c) :
    Calls Tryd.prog 21 #[.pointer (some ⟨b, 0, none⟩)] w fun e w' => ∃ q, e = .returned (.iface 22 (.pointer (some ⟨q, 0, none⟩))) ∧ w.heap.size ≤ q ∧ FltAt w' q c p ∧ Same w w' := by
  obtain ⟨c0, c1, c2, c3, f2, f3⟩ := cell_of_four h.1
  go_enter Tryd.func21, Tryd.ntmps21
  go_wp2_with (go_at_call 38; refine (rthere_calls c0).mono ?_; rintro e w' ⟨rfl, rfl⟩)
  refine (fault_bad h hc).mono ?_
  rintro e w1 ⟨rfl, h1, st1⟩
  go_wp2_with fail
  go_ret
  exact ⟨w.heap.size, rfl, Nat.le_refl _, h1, st1⟩
set_option maxRecDepth 100000 in
set_option maxHeartbeats 1000000 in
theorem itoa13 (w : World) : Calls Tryd.prog 9 #[.int .i64 13] w fun e w' => e = .returned (.string ⟨#[49, 51]⟩) ∧ w' = w := by
  go_enter Tryd.func9, Tryd.ntmps9
  go_wp2
  go_ret
  exact ⟨rfl, rfl⟩
set_option maxRecDepth 100000 in
set_option maxHeartbeats 1000000 in
theorem itoa8 (w : World) : Calls Tryd.prog 9 #[.int .i64 8] w fun e w' => e = .returned (.string ⟨#[56]⟩) ∧ w' = w := by
  go_enter Tryd.func9, Tryd.ntmps9
  go_wp2
  go_ret
  exact ⟨rfl, rfl⟩
set_option maxRecDepth 100000 in
set_option maxHeartbeats 1000000 in
theorem error_138 {w : World} {q : Nat} (h : FltAt w q 13 8) :
    Calls Tryd.prog 4 #[.pointer (some ⟨q, 0, none⟩)] w fun e w' => e = .returned (.string ⟨#[112, 97, 99, 107, 58, 32, 49, 51, 32, 97, 116, 32, 56]⟩) ∧ Same w w' := by
  obtain ⟨c0, c1, f0, f1⟩ := cell_of_two h
  go_enter Tryd.func4, Tryd.ntmps4
  go_wp2_with fail
  go_quiet (first | (go_at_call_of 9 (13 : Int); exact Calls.quiet_of_same (itoa13 _)) | (go_at_call_of 9 (8 : Int); exact Calls.quiet_of_same (itoa8 _)))
  go_wp2_with fail
  go_ret
  exact ⟨rfl, (Fr.refl _ w).drewN _⟩
end Go.Proofs.YtbdlebjhmhmnnaaDoor
