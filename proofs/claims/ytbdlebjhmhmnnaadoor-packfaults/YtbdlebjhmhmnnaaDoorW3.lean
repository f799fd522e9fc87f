/-
  Walks: what Raw and Text of a Writer do.
-/
import Derived.Test.YtbdlebjhmhmnnaaDoorW2
namespace Go.Proofs.YtbdlebjhmhmnnaaDoor
open Go.RowKit

set_option maxRecDepth 100000 in
set_option maxHeartbeats 400000 in
theorem wraw_none {w : World} {b : Nat} {g : Option Nat} {bs : List UInt8} (ad : Option Addr) (c : Nat) (h : WrAt w b g bs) :
    Calls Tryd.prog 30 #[.pointer (some ⟨b, 0, none⟩), .slice ad 0 c] w fun e w' => e = .returned (.tuple #[]) ∧ w = w' := by
  obtain ⟨ao, c, hblk, hown, hg⟩ := id h
  obtain ⟨c0, c1, f0, f1⟩ := cell_of_two hblk
  go_enter Tryd.func30, Tryd.ntmps30
  go_wp2_with (go_at_call 28; refine (there_calls c0).mono ?_; rintro e w' ⟨rfl, rfl⟩)
  go_rounds 1
  go_end0
  exact ⟨rfl, rfl⟩

set_option maxRecDepth 100000 in
set_option maxHeartbeats 400000 in
theorem wraw_some {w : World} {b : Nat} {g : Option Nat} {bs : List UInt8} (ss : List ByteArray) (ab aoff c : Nat) (hc : ∀ i s, ss[i]? = some s → w.cell? ⟨ab, aoff + i, none⟩ = some (.string s)) (hab : ab < w.heap.size) (hb : ab ≠ b) (hbg : some ab ≠ g)
    (hss : ss.length ≤ 1000000000000000) (h : WrAt w b g bs) (hl : bs.length + (flat ss).length ≤ 1000000000000) :
    Calls Tryd.prog 30 #[.pointer (some ⟨b, 0, none⟩), .slice (some ⟨ab, aoff, none⟩) ss.length c] w fun e w' => e = .returned (.tuple #[]) ∧ ∃ g', WrAt w' b g' (bs ++ flat ss) ∧ WrStep b g g' w w' := by
  obtain ⟨ao, c, hblk, hown, hg⟩ := id h
  obtain ⟨c0, c1, f0, f1⟩ := cell_of_two hblk
  obtain ⟨i0, hi, hz0, hz1, hz2⟩ := info_parts Tryd.info5
  have HC : Hid (∀ i s, ss[i]? = some s → w.cell? ⟨ab, aoff + i, none⟩ = some (.string s)) := hc
  clear hc
  go_enter Tryd.func30, Tryd.ntmps30
  go_wp2_with (go_at_call 28; refine (there_calls c0).mono ?_; rintro e w' ⟨rfl, rfl⟩)
  go_loopw [11] (fun iv wr => ∃ (k : Nat) (cur : List UInt8) (g1 : Option Nat), iv = .int .i64 k ∧ k ≤ ss.length ∧ WrAt wr b g1 cur ∧ Hid (cur = bs ++ flat (ss.take k)) ∧ WrStep b g g1 w wr)
    (fun iv _ => ss.length - (intOf iv).toNat)
  case atStart => exact ⟨0, bs, g, rfl, by omega, h, by show _ = _; simp [flat], WrStep.refl _ _ _⟩
  case round =>
    obtain ⟨k, cur, g1, rfl, hk, hwr, hd, hst⟩ := hrel
    by_cases hlt : k < ss.length
    · obtain ⟨ao1, c1', hblk1, hown1, hg1⟩ := id hwr
      obtain ⟨d0, d1, e0, e1⟩ := cell_of_two hblk1
      have hlen : cur.length + ss[k].size ≤ 1000000000000 := by
        have h1 := flat_take_succ ss k hlt
        have h2 := flat_take_le ss (k + 1)
        rw [h1, List.length_append, bytes_length] at h2
        rw [hd.out, List.length_append]; omega
      have hcx : wr.cell? ⟨ab, aoff + k, none⟩ = some (.string ss[k]) := by
        rw [hst.1.cell (p := ⟨ab, aoff + k, none⟩) hab (by rintro (e | e); exact hb e; exact hbg e)]
        exact HC.out k _ (List.getElem?_eq_getElem hlt)
      obtain ⟨s, hs⟩ : ∃ s, s = ss[k] := ⟨_, rfl⟩
      have HS : Hid (s = ss[k]) := hs
      rw [← hs] at hlen hcx
      clear hs
      go_wp2_with (at_builtin; go_must (refine wpList_append_str _ (by rfl) _ _ _ _ (by rfl) 5 i0 Tryd.underlying56 Tryd.underlying9 hi hz0 hz1 hz2 _ _ _ (by rfl) hown1 s (by rfl) ?_ ?_))
      · omega
      · intro ao2 cap w1 hown2 hgrow hat
        obtain ⟨q0, q1, q2, q3⟩ := wr_cells hblk1 hown1 (Fr.refl _ wr) hgrow
        obtain ⟨g', R1, R2⟩ := wr_text s hblk1 hown1 hown2 hgrow hat
        subst hg1
        clear hown2 hgrow hat d0 d1 e0 e1 hcx
        go_wp2
        go_roundw
        case rel => exact ⟨k + 1, cur ++ s.data.toList, g', by go_num, by omega, R1, by show _ = _; rw [flat_take_succ ss k hlt, hd.out, HS.out, List.append_assoc], hst.trans R2⟩
        case measure => simp [intOf]; omega
    · go_wp2
      go_end0
      have hke : k = ss.length := by omega
      subst hke
      refine ⟨rfl, g1, ?_, hst⟩
      have e := hd.out
      rw [List.take_length] at e
      rw [← e]; exact hwr
end Go.Proofs.YtbdlebjhmhmnnaaDoor
