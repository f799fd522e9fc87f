/-
  Walks: Free and Signed of a Reader.
-/
import Derived.Test.YtjlbkagkmcelgaaW7
import Derived.Laws.DeepNot64
namespace Go.Proofs.Ytjlbkagkmcelgaa
open Go.RowKit

theorem extract_drop (s : ByteArray) (p : Nat) : (s.extract p s.size).data.toList = s.data.toList.drop p := by
  rw [Lib.extract_data, List.take_of_length_le]
  rw [List.length_drop, bytes_length]; omega

theorem pfree_at (s : ByteArray) (p : Nat) (hs : s.size ≤ 281474976710656) : ∃ r1 r2 r3 : Nat, freeR 10 0 (s.data.toList.drop p) = (r1, r2, r3) ∧ r1 < 18446744073709551616 ∧ r2 ≤ 10 ∧ (r3 = 0 → p ≤ s.size → p + r2 ≤ s.size) ∧ r3 ≤ 11 ∧
    ∀ W, Calls Try.prog 91 #[.string (s.extract p s.size)] W fun e w' => e = .returned (.tuple #[.int .u64 r1, .int .i64 r2, .int .i64 r3]) ∧ w' = W := by
  obtain ⟨r1, r2, r3, hr⟩ : ∃ r1 r2 r3, freeR 10 0 (s.data.toList.drop p) = (r1, r2, r3) := ⟨_, _, _, rfl⟩
  have h1 := freeR_lt 10 0 (s.data.toList.drop p) (by omega) (by decide)
  have h2 := freeR_len 10 0 (s.data.toList.drop p) (by omega)
  rw [hr] at h1 h2
  refine ⟨r1, r2, r3, hr, h1, h2.1, ?_, h2.2.1, fun W => ?_⟩
  · intro h3 hp
    have := h2.2.2 h3
    simp only [List.length_drop, bytes_length] at this
    simp at this; omega
  · have := pfree_calls (s.extract p s.size) W (by simp; omega)
    rw [extract_drop, hr] at this
    exact this

set_option maxRecDepth 100000 in
set_option maxHeartbeats 1000000 in
theorem rfree_calls {w : World} {b : Nat} {s : ByteArray} {p c : Nat} (h : RdAt w b s p c) (most : Nat) (_hm : most < 18446744073709551616) :
    Calls Try.prog 84 #[.pointer (some ⟨b, 0, none⟩), .int .u64 most] w fun e w' => e = .returned (.int .u64 (rFree s p c most).1) ∧ RdAt w' b s (rFree s p c most).2.1 (rFree s p c most).2.2 ∧ RdStep b w w' := by
  obtain ⟨c0, c1, c2, c3, f2, f3⟩ := cell_of_four h.1
  have hp := h.2.1
  have hs := h.2.2
  by_cases hc : c = 0
  · obtain ⟨r1, r2, r3, hr, hr1, hr2, hr4, hr3, hcall⟩ := pfree_at s p hs
    have HC : Hid (∀ W, Calls Try.prog 91 #[.string (s.extract p s.size)] W fun e w' => e = .returned (.tuple #[.int .u64 r1, .int .i64 r2, .int .i64 r3]) ∧ w' = W) := hcall
    have hx : rFree s p c most = if r3 = 0 then (if most < r1 then (0, p, 12) else (r1, p + r2, 0)) else (0, p, r3) := by
      unfold rFree; rw [if_pos hc, hr]
    rw [hx]
    subst hc
    clear hcall hx
    have hd : ∀ n, RdAt (w.drewN n) b s p 0 := fun n => h.same ((Fr.refl _ w).drewN n)
    have HD : Hid (∀ n, RdAt (w.drewN n) b s p 0) := hd
    clear hd
    by_cases h30 : r3 = 0
    · subst h30
      by_cases hmr : most < r1
      · rw [if_pos rfl, if_pos hmr]
        go_enter Try.func84, Try.ntmps84
        go_wp2_with (go_at_call 88; refine (reads_calls h).mono ?_; rintro e w' ⟨rfl, rfl⟩)
        go_quiet ((go_at_call 91; exact Calls.quiet_of_same (HC.out _)))
        go_wp2_with fail
        refine (fail_calls (HD.out nq) p 12 hp).mono ?_
        rintro e w1 ⟨rfl, h1, st1⟩
        go_wp2_with fail
        go_ret
        exact ⟨rfl, h1, RdStep.trans (Fr.drewN (Fr.refl _ w) nq) st1⟩
      · rw [if_pos rfl, if_neg hmr]
        have hsum := hr4 rfl hp
        go_enter Try.func84, Try.ntmps84
        go_wp2_with (go_at_call 88; refine (reads_calls h).mono ?_; rintro e w' ⟨rfl, rfl⟩)
        go_quiet ((go_at_call 91; exact Calls.quiet_of_same (HC.out _)))
        go_wp2_with fail
        go_ret
        refine ⟨rfl, ⟨?_, hsum, hs⟩, Fr.setCell (S := fun k => k = b) (p := ⟨b, 2, none⟩) (Fr.drewN (Fr.refl _ w) nq) (fun _ => rfl) _⟩
        have := four_setCell2 (HD.out nq).1 (.int .i64 ((p : Int) + (r2 : Int)))
        rw [show ((p + r2 : Nat) : Int) = (p : Int) + (r2 : Int) from by omega]
        exact this
    · rw [if_neg h30]
      have h30' : 0 < r3 := by omega
      go_enter Try.func84, Try.ntmps84
      go_wp2_with (go_at_call 88; refine (reads_calls h).mono ?_; rintro e w' ⟨rfl, rfl⟩)
      go_quiet ((go_at_call 91; exact Calls.quiet_of_same (HC.out _)))
      go_wp2_with fail
      refine (fail_calls (HD.out nq) p r3 hp).mono ?_
      rintro e w1 ⟨rfl, h1, st1⟩
      go_wp2_with fail
      go_ret
      exact ⟨rfl, h1, RdStep.trans (Fr.drewN (Fr.refl _ w) nq) st1⟩
  · have hx : rFree s p c most = (0, p, c) := by unfold rFree; rw [if_neg hc]
    rw [hx]
    have hcb : (c == 0) = false := by simpa using hc
    go_enter Try.func84, Try.ntmps84
    go_wp2_with (go_at_call 88; refine (reads_calls h).mono ?_; rintro e w' ⟨rfl, rfl⟩)
    go_ret
    exact ⟨rfl, h, Fr.refl _ _⟩

end Go.Proofs.Ytjlbkagkmcelgaa
