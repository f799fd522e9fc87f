/-
  Walks: Raw and Text of a Reader.
-/
import Derived.Test.YtjlbkagkmcelgaaW8
namespace Go.Proofs.Ytjlbkagkmcelgaa
open Go.RowKit

set_option maxRecDepth 100000 in
set_option maxHeartbeats 1000000 in
theorem rraw_calls {w : World} {b : Nat} {s : ByteArray} {p c : Nat} (h : RdAt w b s p c) (n : Int) (hn : n ≤ 9223372036854775807) :
    Calls Try.prog 81 #[.pointer (some ⟨b, 0, none⟩), .int .i64 n] w fun e w' => e = .returned (.string (rRaw s p c n).1) ∧ RdAt w' b s (rRaw s p c n).2.1 (rRaw s p c n).2.2 ∧ RdStep b w w' := by
  obtain ⟨c0, c1, c2, c3, f2, f3⟩ := cell_of_four h.1
  have hp := h.2.1
  have hs := h.2.2
  by_cases hc : c = 0
  · subst hc
    obtain ⟨m, hm⟩ : ∃ m : Nat, m = n.toNat := ⟨_, rfl⟩
    have hmx : max n 0 = (m : Int) := by omega
    have hx : rRaw s p 0 n = if s.size - p < m then (⟨#[]⟩, p, 10) else (s.extract p (p + m), p + m, 0) := by unfold rRaw; rw [if_pos rfl, ← hm]
    rw [hx]
    have HC : Hid (∀ W, Calls Try.prog 85 #[.int .i64 n] W fun e w' => e = .returned (.int .i64 m) ∧ W = w') := fun W => by
      have := counted_calls W n; rw [hmx] at this; exact this
    have hmb : m ≤ 9223372036854775807 := by omega
    clear hx hmx hm
    by_cases hlt : s.size - p < m
    · rw [if_pos hlt]
      have hlt' : (s.size : Int) - (p : Int) < (m : Int) := by omega
      go_enter Try.func81, Try.ntmps81
      go_wp2_with (first | (go_at_call 88; refine (reads_calls h).mono ?_; rintro e w' ⟨rfl, rfl⟩) | (go_at_call 85; refine (HC.out _).mono ?_; rintro e w' ⟨rfl, rfl⟩))
      refine (left_calls h).mono ?_
      rintro e w1 ⟨rfl, st1⟩
      have h1 := h.same st1
      obtain ⟨d0, d1, d2, d3, g2, g3⟩ := cell_of_four h1.1
      go_wp2_with fail
      refine (fail_calls h1 p 10 hp).mono ?_
      rintro e w2 ⟨rfl, h2, st2⟩
      go_wp2_with fail
      go_ret
      exact ⟨rfl, h2, RdStep.trans (Same.rd st1 b) st2⟩
    · rw [if_neg hlt]
      have hlt' : (m : Int) ≤ (s.size : Int) - (p : Int) := by omega
      go_enter Try.func81, Try.ntmps81
      go_wp2_with (first | (go_at_call 88; refine (reads_calls h).mono ?_; rintro e w' ⟨rfl, rfl⟩) | (go_at_call 85; refine (HC.out _).mono ?_; rintro e w' ⟨rfl, rfl⟩))
      refine (left_calls h).mono ?_
      rintro e w1 ⟨rfl, st1⟩
      have h1 := h.same st1
      obtain ⟨d0, d1, d2, d3, g2, g3⟩ := cell_of_four h1.1
      have hpm : p + m ≤ s.size := by omega
      have hw1 : IntKind.i64.wrap ((p : Int) + (m : Int) - (m : Int)) = (p : Int) := by rw [IntKind.wrap_i64]; omega
      go_wp2_with fail
      go_quiet (fail)
      go_wp2_with fail
      go_ret
      refine ⟨rfl, ⟨?_, hpm, hs⟩, ?_⟩
      · rw [show ((p + m : Nat) : Int) = (p : Int) + (m : Int) from by omega]
        exact four_setCell2 h1.1 (.int .i64 ((p : Int) + (m : Int)))
      · exact Fr.drewN (Fr.setCell (S := fun k => k = b) (p := ⟨b, 2, none⟩) (Same.rd st1 b) (fun _ => rfl) _) nq
  · have hx : rRaw s p c n = (⟨#[]⟩, p, c) := by unfold rRaw; rw [if_neg hc]
    rw [hx]
    have hcb : (c == 0) = false := by simpa using hc
    go_enter Try.func81, Try.ntmps81
    go_wp2_with (go_at_call 88; refine (reads_calls h).mono ?_; rintro e w' ⟨rfl, rfl⟩)
    go_ret
    exact ⟨rfl, h, Fr.refl _ _⟩

set_option maxRecDepth 100000 in
set_option maxHeartbeats 1000000 in
theorem rtext_calls {w : World} {b : Nat} {s : ByteArray} {p c : Nat} (h : RdAt w b s p c) (most : Int) (hmost : most ≤ 9223372036854775807) :
    Calls Try.prog 74 #[.pointer (some ⟨b, 0, none⟩), .int .i64 most] w fun e w' => e = .returned (.string (rText s p c most).1) ∧ RdAt w' b s (rText s p c most).2.1 (rText s p c most).2.2 ∧ RdStep b w w' := by
  have hp := h.2.1
  have hs := h.2.2
  obtain ⟨m, hm⟩ : ∃ m : Nat, m = most.toNat := ⟨_, rfl⟩
  have hmx : max most 0 = (m : Int) := by omega
  have hmb : m ≤ 9223372036854775807 := by omega
  have HC : Hid (∀ W, Calls Try.prog 85 #[.int .i64 most] W fun e w' => e = .returned (.int .i64 m) ∧ W = w') := fun W => by
    have := counted_calls W most; rw [hmx] at this; exact this
  have HF0 := rfree_calls h m (by omega)
  have hl := (rFree_lt s p c m)
  have hpl := rFree_place s p c m hp
  obtain ⟨n, p', c', hr⟩ : ∃ n p' c', rFree s p c m = (n, p', c') := ⟨_, _, _, rfl⟩
  have hx : rText s p c most = if s.size - p' < n then (⟨#[]⟩, p, 10) else rRaw s p' c' n := by unfold rText; rw [← hm, hr]
  rw [hx]
  rw [hr] at HF0 hl hpl
  simp only at hl hpl
  have HF : Hid (Calls Try.prog 84 #[.pointer (some ⟨b, 0, none⟩), .int .u64 m] w fun e w' => e = .returned (.int .u64 n) ∧ RdAt w' b s p' c' ∧ RdStep b w w') := HF0
  clear HF0
  clear hx hr hmx hm
  by_cases hlt : s.size - p' < n
  · rw [if_pos hlt]
    go_enter Try.func74, Try.ntmps74
    go_wp2_with (first | (go_at_call 83; refine (at_calls h).mono ?_; rintro e w' ⟨rfl, rfl⟩) | (go_at_call 85; refine (HC.out _).mono ?_; rintro e w' ⟨rfl, rfl⟩))
    refine HF.out.mono ?_
    rintro e w1 ⟨rfl, h1, st1⟩
    go_wp2_with fail
    refine (left_calls h1).mono ?_
    rintro e w2 ⟨rfl, st2⟩
    have hlt' : (s.size : Int) - (p' : Int) < (n : Int) := by omega
    go_wp2_with fail
    refine (fail_calls (h1.same st2) p 10 hp).mono ?_
    rintro e w3 ⟨rfl, h3, st3⟩
    go_wp2_with fail
    refine (rraw_calls h3 n (by omega)).mono ?_
    rintro e w4 ⟨rfl, h4, st4⟩
    go_wp2_with fail
    go_ret
    have hq : rRaw s p 10 n = (⟨#[]⟩, p, 10) := by unfold rRaw; rw [if_neg (by decide)]
    rw [hq] at h4
    refine ⟨?_, h4, ((st1.trans (Same.rd st2 b)).trans st3).trans st4⟩
    rw [hq]; rfl
  · rw [if_neg hlt]
    go_enter Try.func74, Try.ntmps74
    go_wp2_with (first | (go_at_call 83; refine (at_calls h).mono ?_; rintro e w' ⟨rfl, rfl⟩) | (go_at_call 85; refine (HC.out _).mono ?_; rintro e w' ⟨rfl, rfl⟩))
    refine HF.out.mono ?_
    rintro e w1 ⟨rfl, h1, st1⟩
    go_wp2_with fail
    refine (left_calls h1).mono ?_
    rintro e w2 ⟨rfl, st2⟩
    have hlt' : (n : Int) ≤ (s.size : Int) - (p' : Int) := by omega
    go_wp2_with fail
    refine (rraw_calls (h1.same st2) n (by omega)).mono ?_
    rintro e w4 ⟨rfl, h4, st4⟩
    go_wp2_with fail
    go_ret
    exact ⟨rfl, h4, (st1.trans (Same.rd st2 b)).trans st4⟩
end Go.Proofs.Ytjlbkagkmcelgaa
