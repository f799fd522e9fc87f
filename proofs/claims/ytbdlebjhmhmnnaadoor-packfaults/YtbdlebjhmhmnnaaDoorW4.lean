/-
  Walks: what Text of a Writer does; the sizes of numbers.
-/
import Derived.Test.YtbdlebjhmhmnnaaDoorW3
namespace Go.Proofs.YtbdlebjhmhmnnaaDoor
open Go.RowKit

def textB (s : ByteArray) : List UInt8 := freeB s.size ++ s.data.toList

theorem freeF_length (k n : Nat) : (freeF k n).length ≤ k + 1 := by
  induction k generalizing n with
  | zero => simp [freeF]
  | succ k ih => rw [freeF]; split
                 · simp
                 · have := ih (n / 128); simp; omega
theorem freeB_length (n : Nat) : (freeB n).length ≤ 10 := freeF_length 9 n

set_option maxRecDepth 100000 in
set_option maxHeartbeats 400000 in
theorem wtext_calls {w : World} {b : Nat} {g : Option Nat} {bs : List UInt8} (s : ByteArray) (h : WrAt w b g bs) (hl : bs.length + s.size ≤ 999999999000) :
    Calls Tryd.prog 14 #[.pointer (some ⟨b, 0, none⟩), .string s] w fun e w' => e = .returned (.tuple #[]) ∧ ∃ g', WrAt w' b g' (bs ++ textB s) ∧ WrStep b g g' w w' := by
  have hfl := freeB_length s.size
  have hbw : b < w.heap.size := by obtain ⟨ao, c, hblk, _⟩ := h; exact lt_of_heap hblk
  go_enter Tryd.func14, Tryd.ntmps14
  go_wp2_with fail
  refine (wfree_calls s.size (by omega) h (by omega)).mono ?_
  rintro e w1 ⟨rfl, g1, h1, st1⟩
  go_wp2_with fail
  have hne : w1.heap.size ≠ b := by have := st1.1.size; omega
  have h1' : WrAt (w1.alloc (.cells #[.string s] 9)) b g1 (bs ++ freeB s.size) := by
    obtain ⟨ao, c, hblk, hown, hg⟩ := h1
    exact ⟨ao, c, by rw [Below.heap_alloc _ _ _ (lt_of_heap hblk)]; exact hblk, hown.alloc _, hg⟩
  have hg1 : some w1.heap.size ≠ g1 := by
    obtain ⟨ao, c, hblk, hown, hg⟩ := h1
    intro e; rw [hg] at e
    have := own_lt hown (k := w1.heap.size) (by cases ao <;> simp_all [Value.ownBlock])
    omega
  refine (wraw_some [s] w1.heap.size 0 1 ?_ (by simp) hne hg1 (by simp) h1' (by simp [flat]; omega)).mono ?_
  · intro i s' hi
    match i, hi with
    | 0, hi => simp at hi; subst hi; simp
    | (i + 1), hi => simp at hi
  rintro e w2 ⟨rfl, g2, h2, st2⟩
  go_wp2_with fail
  go_end0
  refine ⟨rfl, g2, ?_, ?_⟩
  · simpa [textB, flat] using h2
  · refine st1.trans ?_
    refine ⟨?_, ?_⟩
    · exact ((Fr.refl _ w1).alloc _).trans st2.1 (fun i _ t => t)
    · intro k hk; rcases st2.2 k hk with h' | h'
      · exact Or.inl h'
      · right; simp at h'; omega

end Go.Proofs.YtbdlebjhmhmnnaaDoor
