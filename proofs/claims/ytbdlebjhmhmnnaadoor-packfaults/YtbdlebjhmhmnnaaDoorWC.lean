/-
  Walks: Each over texts, Join.
-/
import Derived.Test.YtbdlebjhmhmnnaaDoorW4
namespace Go.Proofs.YtbdlebjhmhmnnaaDoor
open Go.RowKit

/-- The texts of a list, each with its length, one behind the other. -/
def textsB (ss : List ByteArray) : List UInt8 := (ss.map textB).flatten
theorem textsB_nil : textsB [] = [] := rfl
theorem textsB_take_succ (ss : List ByteArray) (k : Nat) (h : k < ss.length) : textsB (ss.take (k + 1)) = textsB (ss.take k) ++ textB ss[k] := by
  unfold textsB; rw [List.take_succ_eq_append_getElem h, List.map_append, List.flatten_append]; simp
theorem textsB_take_le (ss : List ByteArray) (k : Nat) : (textsB (ss.take k)).length ≤ (textsB ss).length := by
  have : (textsB ss).length = (textsB (ss.take k)).length + (textsB (ss.drop k)).length := by
    rw [← List.length_append]; unfold textsB; rw [← List.flatten_append, ← List.map_append, List.take_append_drop]
  omega
theorem textB_length (s : ByteArray) : s.size ≤ (textB s).length := by unfold textB; rw [List.length_append, bytes_length]; omega

/-- The bytes of a list of texts. -/
def joinB (ss : List ByteArray) : List UInt8 := freeB ss.length ++ textsB ss

theorem eql_func (W : World) : (binOp .eql 72 (.func (.func 14) #[] #[]) .nilFunc).run Tryd.prog W = .ok (.bool false) W := by kernel_rfl

set_option maxRecDepth 100000 in
set_option maxHeartbeats 1000000 in
theorem each_text {w : World} {b : Nat} {g : Option Nat} {bs : List UInt8} (ss : List ByteArray) (ab aoff c : Nat) (hc : ∀ i s, ss[i]? = some s → w.cell? ⟨ab, aoff + i, none⟩ = some (.string s)) (hab : ab < w.heap.size) (hb : ab ≠ b) (hbg : some ab ≠ g)
    (hss : ss.length ≤ 100000000000) (h : WrAt w b g bs) (hl : bs.length + (textsB ss).length ≤ 900000000000) :
    Calls Tryd.prog 42 #[.pointer (some ⟨b, 0, none⟩), .slice (some ⟨ab, aoff, none⟩) ss.length c, .func (.func 14) #[] #[]] w fun e w' => e = .returned (.tuple #[]) ∧ ∃ g', WrAt w' b g' (bs ++ joinB ss) ∧ WrStep b g g' w w' := by
  obtain ⟨ao, c, hblk, hown, hg⟩ := id h
  obtain ⟨c0, c1, f0, f1⟩ := cell_of_two hblk
  have HC : Hid (∀ i s, ss[i]? = some s → w.cell? ⟨ab, aoff + i, none⟩ = some (.string s)) := hc
  clear hc
  have hef := eql_func
  go_enter Tryd.func42, Tryd.ntmps42
  go_wp2_with (go_at_call 28; refine (there_calls c0).mono ?_; rintro e w' ⟨rfl, rfl⟩)
  refine (wfree_calls ss.length (by omega) h (by omega)).mono ?_
  rintro e w1 ⟨rfl, g1, h1, st1⟩
  have hfl := freeB_length ss.length
  go_wp2_with fail
  go_loopw [20] (fun iv wr => ∃ (k : Nat) (cur : List UInt8) (g2 : Option Nat), iv = .int .i64 k ∧ k ≤ ss.length ∧ WrAt wr b g2 cur ∧ Hid (cur = bs ++ freeB ss.length ++ textsB (ss.take k)) ∧ WrStep b g g2 w wr)
    (fun iv _ => ss.length - (intOf iv).toNat)
  case atStart => exact ⟨0, bs ++ freeB ss.length, g1, rfl, by omega, h1, by show _ = _; simp [textsB], st1⟩
  case round =>
    obtain ⟨k, cur, g2, rfl, hk, hwr, hd, hst⟩ := hrel
    by_cases hlt : k < ss.length
    · have hlen : cur.length + ss[k].size ≤ 999999999000 := by
        have h1 := textsB_take_succ ss k hlt
        have h2 := textsB_take_le ss (k + 1)
        have h3 := textB_length ss[k]
        rw [h1, List.length_append] at h2
        rw [hd.out, List.length_append, List.length_append]; omega
      have hcx : wr.cell? ⟨ab, aoff + k, none⟩ = some (.string ss[k]) := by
        rw [hst.1.cell (p := ⟨ab, aoff + k, none⟩) hab (by rintro (e | e); exact hb e; exact hbg e)]
        exact HC.out k _ (List.getElem?_eq_getElem hlt)
      obtain ⟨s, hs⟩ : ∃ s, s = ss[k] := ⟨_, rfl⟩
      have HS : Hid (s = ss[k]) := hs
      rw [← hs] at hlen hcx
      clear hs
      go_wp2_with fail
      refine (wtext_calls s hwr hlen).mono ?_
      rintro e w2 ⟨rfl, g3, h3, st3⟩
      go_wp2_with fail
      go_roundw
      case rel => exact ⟨k + 1, cur ++ textB s, g3, by go_num, by omega, h3, by show _ = _; rw [textsB_take_succ ss k hlt, hd.out, HS.out, List.append_assoc], hst.trans st3⟩
      case measure => simp [intOf]; omega
    · go_wp2_with fail
      go_end0
      have hke : k = ss.length := by omega
      subst hke
      refine ⟨rfl, g2, ?_, hst⟩
      have e := hd.out
      rw [List.take_length, List.append_assoc] at e
      unfold joinB
      rw [← e]; exact hwr

set_option maxRecDepth 100000 in
set_option maxHeartbeats 1000000 in
theorem each_text_none {w : World} {b : Nat} {g : Option Nat} {bs : List UInt8} (ad : Option Addr) (c : Nat) (h : WrAt w b g bs) (hl : bs.length ≤ 900000000000) :
    Calls Tryd.prog 42 #[.pointer (some ⟨b, 0, none⟩), .slice ad 0 c, .func (.func 14) #[] #[]] w fun e w' => e = .returned (.tuple #[]) ∧ ∃ g', WrAt w' b g' (bs ++ joinB []) ∧ WrStep b g g' w w' := by
  obtain ⟨ao, c, hblk, hown, hg⟩ := id h
  obtain ⟨c0, c1, f0, f1⟩ := cell_of_two hblk
  have hef := eql_func
  go_enter Tryd.func42, Tryd.ntmps42
  go_wp2_with (go_at_call 28; refine (there_calls c0).mono ?_; rintro e w' ⟨rfl, rfl⟩)
  refine (wfree_calls 0 (by omega) h (by omega)).mono ?_
  rintro e w1 ⟨rfl, g1, h1, st1⟩
  go_wp2_with fail
  go_rounds 1
  go_end0
  refine ⟨rfl, g1, ?_, st1⟩
  simpa [joinB, textsB] using h1

/-- Join of texts that lie somewhere. -/
theorem wr_new (w : World) : WrAt (w.alloc (.cells #[.bool true, .slice none 0 0] 58)) w.heap.size none [] :=
  ⟨none, 0, heap_alloc_new w _, World.ownsRow_nil _ _ _ _, rfl⟩

set_option maxRecDepth 100000 in
set_option maxHeartbeats 1000000 in
theorem join_calls {w : World} (ss : List ByteArray) (ab aoff c : Nat) (hc : ∀ i s, ss[i]? = some s → w.cell? ⟨ab, aoff + i, none⟩ = some (.string s)) (hab : ab < w.heap.size) (hss : ss.length ≤ 100000000000) (hl : (textsB ss).length ≤ 900000000000) :
    Calls Tryd.prog 23 #[.slice (some ⟨ab, aoff, none⟩) ss.length c] w fun e w' => e = .returned (.string ⟨(joinB ss).toArray⟩) ∧ Fr (fun _ => False) w w' := by
  have HC : Hid (∀ i s, ss[i]? = some s → (w.alloc (.cells #[.bool true, .slice none 0 0] 58)).cell? ⟨ab, aoff + i, none⟩ = some (.string s)) := by
    intro i s hi
    rw [((Fr.refl (fun _ => False) w).alloc _).cell (p := ⟨ab, aoff + i, none⟩) hab (fun f => f)]
    exact hc i s hi
  clear hc
  go_enter Tryd.func23, Tryd.ntmps23
  go_wp2_with fail
  refine (new_calls w).mono ?_
  rintro e w1 ⟨rfl, rfl⟩
  go_wp2_with fail
  refine (each_text ss ab aoff c HC.out (by simp; omega) (by omega) (by simp) hss (wr_new w) (by simpa using hl)).mono ?_
  rintro e w2 ⟨rfl, g2, h2, st2⟩
  go_wp2_with fail
  refine (wstring_calls h2).mono ?_
  rintro e w3 ⟨rfl, rfl⟩
  go_wp2_with fail
  go_ret
  refine ⟨by simp, ((Fr.refl _ w).alloc _).trans st2.1 ?_⟩
  rintro i hi (rfl | e)
  · omega
  · cases e
set_option maxRecDepth 100000 in
set_option maxHeartbeats 1000000 in
theorem join_none {w : World} (ad : Option Addr) (c : Nat) :
    Calls Tryd.prog 23 #[.slice ad 0 c] w fun e w' => e = .returned (.string ⟨(joinB []).toArray⟩) ∧ Fr (fun _ => False) w w' := by
  go_enter Tryd.func23, Tryd.ntmps23
  go_wp2_with fail
  refine (new_calls w).mono ?_
  rintro e w1 ⟨rfl, rfl⟩
  go_wp2_with fail
  refine (each_text_none ad c (wr_new w) (by simp)).mono ?_
  rintro e w2 ⟨rfl, g2, h2, st2⟩
  go_wp2_with fail
  refine (wstring_calls h2).mono ?_
  rintro e w3 ⟨rfl, rfl⟩
  go_wp2_with fail
  go_ret
  refine ⟨by simp, ((Fr.refl _ w).alloc _).trans st2.1 ?_⟩
  rintro i hi (rfl | e)
  · omega
  · cases e
end Go.Proofs.YtbdlebjhmhmnnaaDoor
