/-
  Walks: what Raw and Text of a Writer do.
-/
import Derived.Test.YtjlbkagkmcelgaaW1J
namespace Go.Proofs.Ytjlbkagkmcelgaa
open Go.RowKit

set_option maxRecDepth 100000 in
set_option maxHeartbeats 400000 in
theorem wraw_some {w : World} {b : Nat} {g : Option Nat} {bs : List UInt8} (ss : List ByteArray) (ab aoff c : Nat) (hc : ∀ i s, ss[i]? = some s → w.cell? ⟨ab, aoff + i, none⟩ = some (.string s)) (hab : ab < w.heap.size) (hb : ab ≠ b) (hbg : some ab ≠ g)
    (hss : ss.length ≤ 1000000000000000) (h : WrAt w b g bs) (hl : bs.length + (flat ss).length ≤ 1000000000000) :
    Calls Try.prog 67 #[.pointer (some ⟨b, 0, none⟩), .slice (some ⟨ab, aoff, none⟩) ss.length c] w fun e w' => e = .returned (.tuple #[]) ∧ ∃ g', WrAt w' b g' (bs ++ flat ss) ∧ WrStep b g g' w w' := by
  obtain ⟨ao, c, hblk, hown, hg⟩ := id h
  obtain ⟨c0, c1, f0, f1⟩ := cell_of_two hblk
  obtain ⟨i0, hi, hz0, hz1, hz2⟩ := info_parts Try.info5
  have HC : Hid (∀ i s, ss[i]? = some s → w.cell? ⟨ab, aoff + i, none⟩ = some (.string s)) := hc
  clear hc
  go_enter Try.func67, Try.ntmps67
  go_wp2_with (go_at_call 64; refine (there_calls c0).mono ?_; rintro e w' ⟨rfl, rfl⟩)
  go_loopw [11] (fun iv wr => ∃ (k : Nat) (cur : List UInt8) (g1 : Option Nat), iv = .int .i64 k ∧ k ≤ ss.length ∧ WrAt wr b g1 cur ∧ Hid (cur = bs ++ flat (ss.take k)) ∧ WrStep b g g1 w wr)
    (fun iv _ => ss.length - (intOf iv).toNat)
  case atStart => exact ⟨0, bs, g, rfl, by omega, h, by show _ = _; simp [flat], WrStep.refl _ _ _⟩
  case round =>
    obtain ⟨k, cur, g1, rfl, hk, hwr, hd, hst⟩ := hrel
    by_cases hlt : k < ss.length
    · obtain ⟨ao1, c1', hblk1, hown1, hg1⟩ := id hwr
      obtain ⟨d0, d1, e0, e1⟩ := cell_of_two hblk1
      have hlen : cur.length + ss[k].size ≤ 1000000000000 := by
        have h1 := flat_take_succ ss k hlt
        have h2 := flat_take_le ss (k + 1)
        rw [h1, List.length_append, bytes_length] at h2
        rw [hd.out, List.length_append]; omega
      have hcx : wr.cell? ⟨ab, aoff + k, none⟩ = some (.string ss[k]) := by
        rw [hst.1.cell (p := ⟨ab, aoff + k, none⟩) hab (by rintro (e | e); exact hb e; exact hbg e)]
        exact HC.out k _ (List.getElem?_eq_getElem hlt)
      obtain ⟨s, hs⟩ : ∃ s, s = ss[k] := ⟨_, rfl⟩
      have HS : Hid (s = ss[k]) := hs
      rw [← hs] at hlen hcx
      clear hs
      go_wp2_with (at_builtin; go_must (refine wpList_append_str _ (by rfl) _ _ _ _ (by rfl) 5 i0 Try.underlying44 Try.underlying9 hi hz0 hz1 hz2 _ _ _ (by rfl) hown1 s (by rfl) ?_ ?_))
      · omega
      · intro ao2 cap w1 hown2 hgrow hat
        obtain ⟨q0, q1, q2, q3⟩ := wr_cells hblk1 hown1 (Fr.refl _ wr) hgrow
        obtain ⟨g', R1, R2⟩ := wr_text s hblk1 hown1 hown2 hgrow hat
        subst hg1
        clear hown2 hgrow hat d0 d1 e0 e1 hcx
        go_wp2
        go_roundw
        case rel => exact ⟨k + 1, cur ++ s.data.toList, g', by go_num, by omega, R1, by show _ = _; rw [flat_take_succ ss k hlt, hd.out, HS.out, List.append_assoc], hst.trans R2⟩
        case measure => simp [intOf]; omega
    · go_wp2
      go_end0
      have hke : k = ss.length := by omega
      subst hke
      refine ⟨rfl, g1, ?_, hst⟩
      have e := hd.out
      rw [List.take_length] at e
      rw [← e]; exact hwr
end Go.Proofs.Ytjlbkagkmcelgaa
namespace Go.Proofs.Ytjlbkagkmcelgaa
open Go.RowKit

def textB (s : ByteArray) : List UInt8 := freeB s.size ++ s.data.toList

theorem freeF_length (k n : Nat) : (freeF k n).length ≤ k + 1 := by
  induction k generalizing n with
  | zero => simp [freeF]
  | succ k ih => rw [freeF]; split
                 · simp
                 · have := ih (n / 128); simp; omega
theorem freeB_length (n : Nat) : (freeB n).length ≤ 10 := freeF_length 9 n

set_option maxRecDepth 100000 in
set_option maxHeartbeats 400000 in
theorem wtext_calls {w : World} {b : Nat} {g : Option Nat} {bs : List UInt8} (s : ByteArray) (h : WrAt w b g bs) (hl : bs.length + s.size ≤ 999999999000) :
    Calls Try.prog 48 #[.pointer (some ⟨b, 0, none⟩), .string s] w fun e w' => e = .returned (.tuple #[]) ∧ ∃ g', WrAt w' b g' (bs ++ textB s) ∧ WrStep b g g' w w' := by
  have hfl := freeB_length s.size
  have hbw : b < w.heap.size := by obtain ⟨ao, c, hblk, _⟩ := h; exact lt_of_heap hblk
  go_enter Try.func48, Try.ntmps48
  go_wp2_with fail
  refine (wfree_calls s.size (by omega) h (by omega)).mono ?_
  rintro e w1 ⟨rfl, g1, h1, st1⟩
  go_wp2_with fail
  have hne : w1.heap.size ≠ b := by have := st1.1.size; omega
  have h1' : WrAt (w1.alloc (.cells #[.string s] 9)) b g1 (bs ++ freeB s.size) := by
    obtain ⟨ao, c, hblk, hown, hg⟩ := h1
    exact ⟨ao, c, by rw [Below.heap_alloc _ _ _ (lt_of_heap hblk)]; exact hblk, hown.alloc _, hg⟩
  have hg1 : some w1.heap.size ≠ g1 := by
    obtain ⟨ao, c, hblk, hown, hg⟩ := h1
    intro e; rw [hg] at e
    have := own_lt hown (k := w1.heap.size) (by cases ao <;> simp_all [Value.ownBlock])
    omega
  refine (wraw_some [s] w1.heap.size 0 1 ?_ (by simp) hne hg1 (by simp) h1' (by simp [flat]; omega)).mono ?_
  · intro i s' hi
    match i, hi with
    | 0, hi => simp at hi; subst hi; simp
    | (i + 1), hi => simp at hi
  rintro e w2 ⟨rfl, g2, h2, st2⟩
  go_wp2_with fail
  go_end0
  refine ⟨rfl, g2, ?_, ?_⟩
  · simpa [textB, flat] using h2
  · refine st1.trans ?_
    refine ⟨?_, ?_⟩
    · exact ((Fr.refl _ w1).alloc _).trans st2.1 (fun i _ t => t)
    · intro k hk; rcases st2.2 k hk with h' | h'
      · exact Or.inl h'
      · right; simp at h'; omega

end Go.Proofs.Ytjlbkagkmcelgaa
