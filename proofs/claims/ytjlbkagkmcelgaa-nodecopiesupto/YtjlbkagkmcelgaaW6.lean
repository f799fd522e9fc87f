/-
  Walks: a Reader's small calls: there, reads, fail, counted, Left, At, Open.
-/
import Derived.Test.YtjlbkagkmcelgaaProg
import Derived.Test.YtjlbkagkmcelgaaR0
import Derived.Handy
import Derived.Deep.QuietTactic
import Derived.BigQuiet
import Derived.Deep.DeepMust
namespace Go.Proofs.Ytjlbkagkmcelgaa
open Go.RowKit

theorem rthere_calls {w : World} {b : Nat} {v : Bool} (h0 : w.cell? ⟨b, 0, none⟩ = some (.bool v)) :
    Calls Try.prog 90 #[.pointer (some ⟨b, 0, none⟩)] w fun e w' => e = .returned (.bool v) ∧ w = w' := by
  go_enter Try.func90, Try.ntmps90
  go_wp2
  go_ret
  exact ⟨rfl, rfl⟩
theorem open_calls (w : World) (s : ByteArray) :
    Calls Try.prog 70 #[.string s] w fun e w' => e = .returned (.pointer (some ⟨w.heap.size, 0, none⟩)) ∧ w' = w.alloc (.cells #[.bool true, .string s, .int .i64 0, .int .i64 0] 111) := by
  go_enter Try.func70, Try.ntmps70
  go_wp2
  go_ret
  exact ⟨rfl, rfl⟩
theorem ret_int {k : IntKind} {a b : Int} (h : a = b) : Ending.returned (.int k a) = .returned (.int k b) := by rw [h]
theorem counted_calls (w : World) (n : Int) :
    Calls Try.prog 85 #[.int .i64 n] w fun e w' => e = .returned (.int .i64 (max n 0)) ∧ w = w' := by
  by_cases h : 0 ≤ n
  · go_enter Try.func85, Try.ntmps85
    go_wp2
    all_goals
      go_ret
      exact ⟨ret_int (by omega), rfl⟩
  · go_enter Try.func85, Try.ntmps85
    go_wp2
    all_goals
      go_ret
      exact ⟨ret_int (by omega), rfl⟩
theorem reads_calls {w : World} {b : Nat} {s : ByteArray} {p c : Nat} (h : RdAt w b s p c) :
    Calls Try.prog 88 #[.pointer (some ⟨b, 0, none⟩)] w fun e w' => e = .returned (.bool (c == 0)) ∧ w = w' := by
  obtain ⟨c0, c1, c2, c3, f2, f3⟩ := cell_of_four h.1
  have hc : ((c : Int) == 0) = (c == 0) := by cases hcc : (c == 0) <;> simp_all <;> omega
  go_enter Try.func88, Try.ntmps88
  go_wp2_with (go_at_call 90; refine (rthere_calls c0).mono ?_; rintro e w' ⟨rfl, rfl⟩)
  go_ret
  exact ⟨rfl, rfl⟩
theorem fail_calls {w : World} {b : Nat} {s : ByteArray} {p c : Nat} (h : RdAt w b s p c) (q d : Nat) (hq : q ≤ s.size) :
    Calls Try.prog 87 #[.pointer (some ⟨b, 0, none⟩), .int .i64 q, .int .i64 d] w fun e w' => e = .returned (.tuple #[]) ∧ RdAt w' b s q d ∧ RdStep b w w' := by
  obtain ⟨c0, c1, c2, c3, f2, f3⟩ := cell_of_four h.1
  go_enter Try.func87, Try.ntmps87
  go_wp2
  go_end0
  refine ⟨rfl, ⟨four_setCell3 (four_setCell2 h.1 _) _, hq, h.2.2⟩, ((Fr.refl (fun k => k = b) w).setCell (p := ⟨b, 2, none⟩) (fun _ => rfl) _).setCell (p := ⟨b, 3, none⟩) (fun _ => rfl) _⟩
set_option maxRecDepth 100000 in
theorem left_calls {w : World} {b : Nat} {s : ByteArray} {p c : Nat} (h : RdAt w b s p c) :
    Calls Try.prog 86 #[.pointer (some ⟨b, 0, none⟩)] w fun e w' => e = .returned (.int .i64 ((s.size : Int) - (p : Int))) ∧ Same w w' := by
  obtain ⟨c0, c1, c2, c3, f2, f3⟩ := cell_of_four h.1
  have hp := h.2.1
  have hs := h.2.2
  go_enter Try.func86, Try.ntmps86
  go_wp2_with (go_at_call 90; refine (rthere_calls c0).mono ?_; rintro e w' ⟨rfl, rfl⟩)
  go_quiet (fail)
  go_wp2
  go_ret
  exact ⟨rfl, (Fr.refl _ w).drewN _⟩
theorem at_calls {w : World} {b : Nat} {s : ByteArray} {p c : Nat} (h : RdAt w b s p c) :
    Calls Try.prog 83 #[.pointer (some ⟨b, 0, none⟩)] w fun e w' => e = .returned (.int .i64 p) ∧ w = w' := by
  obtain ⟨c0, c1, c2, c3, f2, f3⟩ := cell_of_four h.1
  go_enter Try.func83, Try.ntmps83
  go_wp2_with (go_at_call 90; refine (rthere_calls c0).mono ?_; rintro e w' ⟨rfl, rfl⟩)
  go_ret
  exact ⟨rfl, rfl⟩
end Go.Proofs.Ytjlbkagkmcelgaa
