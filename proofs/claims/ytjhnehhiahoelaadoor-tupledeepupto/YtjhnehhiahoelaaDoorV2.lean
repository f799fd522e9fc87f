/-
  Walks: layText.
-/
import Derived.Test.YtjhnehhiahoelaaDoorV1
import Derived.Test.YtjhnehhiahoelaaDoorPT
namespace Go.Proofs.YtjhnehhiahoelaaDoor
open Go.RowKit

/-- A text's bytes as they are laid: a 255 behind each 0. -/
def escB : List UInt8 → List UInt8
  | [] => []
  | c :: r => if c = 0 then 0 :: 255 :: escB r else c :: escB r
theorem escB_append (a b : List UInt8) : escB (a ++ b) = escB a ++ escB b := by
  induction a with
  | nil => rfl
  | cons c r ih => by_cases h : c = 0 <;> simp [escB, h, ih]
theorem escB_length_le (a : List UInt8) : (escB a).length ≤ 2 * a.length := by
  induction a with
  | nil => simp [escB]
  | cons c r ih => by_cases h : c = 0 <;> simp [escB, h] <;> omega
theorem escB_take_succ (a : List UInt8) (k : Nat) (h : k < a.length) : escB (a.take (k + 1)) = escB (a.take k) ++ (if a[k] = 0 then [0, 255] else [a[k]]) := by
  rw [List.take_succ_eq_append_getElem h, escB_append]
  by_cases h0 : a[k] = 0 <;> simp [escB, h0]

set_option maxRecDepth 100000 in
set_option maxHeartbeats 4000000 in
theorem layText_calls {w : World} {ao : Option Addr} {c : Nat} {bs : List UInt8} (s : ByteArray) (hs : s.size ≤ 1000000) (hown : Owns w (.slice ao bs.length c) bs) (hl : bs.length ≤ 1000000) :
    Calls Tryd.prog 36 #[.slice ao bs.length c, .string s] w fun e w' => ∃ g cap, e = .returned (.slice (some ⟨g, 0, none⟩) (bs ++ (escB s.data.toList ++ [0, 1])).length cap) ∧ Owns w' (.slice (some ⟨g, 0, none⟩) (bs ++ (escB s.data.toList ++ [0, 1])).length cap) (bs ++ (escB s.data.toList ++ [0, 1])) ∧ BStep (.slice ao bs.length c) (.slice (some ⟨g, 0, none⟩) (bs ++ (escB s.data.toList ++ [0, 1])).length cap) w w' := by
  obtain ⟨i0, hi, hz0, hz1, hz2⟩ := info_parts Tryd.info5
  go_enter Tryd.func36, Tryd.ntmps36
  have hbl := bytes_length s
  have V0 : Hid (Owns w (.slice ao bs.length c) bs) := hown
  clear hown
  go_wp2_with fail
  go_loopw [0, 8] (fun bv iv wr => ∃ (k : Nat) (cur : List UInt8) (ao1 : Option Addr) (cap1 : Nat), iv = .int .i64 k ∧ k ≤ s.size ∧ bv = .slice ao1 cur.length cap1 ∧ Hid (Owns wr (.slice ao1 cur.length cap1) cur) ∧ Hid (cur = bs ++ escB (s.data.toList.take k)) ∧ Hid (BStep (.slice ao bs.length c) (.slice ao1 cur.length cap1) w wr))
    (fun _ iv _ => s.size - (intOf iv).toNat)
  case atStart => exact ⟨0, bs, ao, c, rfl, by omega, rfl, V0, by show _ = _; simp [escB], BStep.refl _ _⟩
  case round =>
    obtain ⟨k, cur, ao1, cap1, rfl, hk, rfl, hown, hcur, hst⟩ := hrel
    have hcl : cur.length ≤ 3000000 := by
      rw [hcur.out, List.length_append]
      have := escB_length_le (s.data.toList.take k)
      rw [List.length_take] at this
      omega
    by_cases hlt : k < s.size
    · have hes := escB_take_succ s.data.toList k (by omega)
      have hx : s.data.toList[k]'(by omega) = s[k] := rfl
      rw [hx] at hes
      have HE : Hid (escB (s.data.toList.take (k + 1)) = escB (s.data.toList.take k) ++ (if s[k] = 0 then [0, 255] else [s[k]])) := hes
      clear hes hx
      have hown' := hown.out
      by_cases h0 : s[k] = 0
      · have h0' : (s[k]).toNat = 0 := by rw [h0]; rfl
        go_wp2_with (at_builtin; go_must (refine wpList_append_lies _ (by rfl) _ _ _ (by rfl) 0 5 i0 (.int .u8 0) 1 1 Tryd.underlying37 hi hz0 hz1 hz2 rfl (by decide) _ _ _ (by rfl) (hown'.alloc _) ⟨wr.heap.size, 0, none⟩ 1 1 _ (by rfl) ?_ (World.news_of_block (heap_alloc_new wr _)) ?_ (by decide) ?_ ?_ (Nat.zero_le _) (wr.heap.size + 1) (by simp) ?_))
        · exact rfl
        · unfold maxLen; omega
        · omega
        · intro g2 cap2 w6 hown6 hgrow hat hlt6
          obtain ⟨o6, b6⟩ := own_push_at (v := .slice ao1 cur.length cap1) (bs := cur) (ns := [0]) ((Fr.refl _ wr).alloc _) (by simp) rfl hown6 hgrow hat
          have B6 : Hid (BStep (.slice ao1 cur.length cap1) (.slice (some ⟨g2, 0, none⟩) (cur ++ [0]).length cap2) wr w6) := b6
          have hl6 : (cur ++ [0]).length = cur.length + 1 := by simp
          rw [hl6] at o6
          clear hown6 hgrow hat hown' b6 hlt6
          go_wp2_with (at_builtin; go_must (refine wpList_append_lies _ (by rfl) _ _ _ (by rfl) 0 5 i0 (.int .u8 0) 1 1 Tryd.underlying37 hi hz0 hz1 hz2 rfl (by decide) _ _ _ (by rfl) (o6.alloc _) ⟨w6.heap.size, 0, none⟩ 1 1 _ (by rfl) ?_ (World.news_of_block (heap_alloc_new w6 _)) ?_ (by decide) ?_ ?_ (Nat.zero_le _) (w6.heap.size + 1) (by simp) ?_))
          · exact rfl
          · unfold maxLen; omega
          · omega
          · intro g3 cap3 w7 hown7 hgrow7 hat7 hlt7
            have hown7' : w7.ownsRow 0 5 1 (.slice (some ⟨g3, 0, none⟩) ((cur ++ [0]).length + 1) cap3) ((cur ++ [0]).length + 1) (bcells (cur ++ [0]) ++ bcells [255]) := by rw [hl6]; exact hown7
            obtain ⟨o7, b7⟩ := own_push_at (v := .slice (some ⟨g2, 0, none⟩) (cur.length + 1) cap2) (bs := cur ++ [0]) (ns := [255]) ((Fr.refl _ w6).alloc _) (by simp) rfl hown7' hgrow7 hat7
            have B6' := B6.out
            rw [hl6] at B6'
            have B7 : Hid (BStep (.slice ao bs.length c) (.slice (some ⟨g3, 0, none⟩) (cur ++ [0] ++ [255]).length cap3) w w7) := BStep.trans hst.out (BStep.trans B6' b7)
            have O7 : Hid (Owns w7 (.slice (some ⟨g3, 0, none⟩) (cur ++ [0] ++ [255]).length cap3) (cur ++ [0] ++ [255])) := o7
            have C7 : Hid (cur ++ [0] ++ [255] = bs ++ escB (s.data.toList.take (k + 1))) := by
              show _ = _
              rw [HE.out, if_pos h0, hcur.out]; simp
            have hl7 : cur.length + 1 + 1 = (cur ++ [0] ++ [255]).length := by simp
            clear hown7 hgrow7 hat7 hown7' o6 o7 b7 B6' B6 hcur hown hst HE hlt7
            go_wp2_with fail
            go_roundw
            case rel => exact ⟨k + 1, cur ++ [0] ++ [255], some ⟨g3, 0, none⟩, cap3, by go_num, by omega, by rw [← hl7], O7, C7, B7⟩
            case measure => simp [intOf]; omega
      · have h0' : ¬ ((s[k]).toNat : Int) = 0 := by
          intro e
          apply h0
          have : (s[k]).toNat = 0 := by omega
          exact UInt8.toNat.inj this
        go_wp2_with (at_builtin; go_must (refine wpList_append_lies _ (by rfl) _ _ _ (by rfl) 0 5 i0 (.int .u8 0) 1 1 Tryd.underlying37 hi hz0 hz1 hz2 rfl (by decide) _ _ _ (by rfl) (hown'.alloc _) ⟨wr.heap.size, 0, none⟩ 1 1 _ (by rfl) ?_ (World.news_of_block (heap_alloc_new wr _)) ?_ (by decide) ?_ ?_ (Nat.zero_le _) (wr.heap.size + 1) (by simp) ?_))
        · exact rfl
        · unfold maxLen; omega
        · omega
        · intro g2 cap2 w6 hown6 hgrow hat hlt6
          obtain ⟨o6, b6⟩ := own_push_at (v := .slice ao1 cur.length cap1) (bs := cur) (ns := [s[k]]) ((Fr.refl _ wr).alloc _) (by simp) rfl hown6 hgrow hat
          have B6 : Hid (BStep (.slice ao bs.length c) (.slice (some ⟨g2, 0, none⟩) (cur ++ [s[k]]).length cap2) w w6) := BStep.trans hst.out b6
          have O6 : Hid (Owns w6 (.slice (some ⟨g2, 0, none⟩) (cur ++ [s[k]]).length cap2) (cur ++ [s[k]])) := o6
          have C6 : Hid (cur ++ [s[k]] = bs ++ escB (s.data.toList.take (k + 1))) := by
            show _ = _
            rw [HE.out, if_neg h0, hcur.out]; simp
          have hl6 : cur.length + 1 = (cur ++ [s[k]]).length := by simp
          clear hown6 hgrow hat hown' o6 b6 hcur hown hst HE hlt6
          go_wp2_with fail
          go_roundw
          case rel => exact ⟨k + 1, cur ++ [s[k]], some ⟨g2, 0, none⟩, cap2, by go_num, by omega, by rw [← hl6], O6, C6, B6⟩
          case measure => simp [intOf]; omega
    · have hke : k = s.size := by omega
      subst hke
      have hown' := hown.out
      go_wp2_with (at_builtin; go_must (refine wpList_append_lies _ (by rfl) _ _ _ (by rfl) 0 5 i0 (.int .u8 0) 1 1 Tryd.underlying37 hi hz0 hz1 hz2 rfl (by decide) _ _ _ (by rfl) (hown'.alloc _) ⟨wr.heap.size, 0, none⟩ 2 2 _ (by rfl) ?_ (World.news_of_block (heap_alloc_new wr _)) ?_ (by decide) ?_ ?_ (Nat.zero_le _) (wr.heap.size + 1) (by simp) ?_))
      · exact ⟨rfl, rfl⟩
      · unfold maxLen; omega
      · omega
      · intro g2 cap2 w6 hown6 hgrow hat hlt6
        obtain ⟨o6, b6⟩ := own_push_at (v := .slice ao1 cur.length cap1) (bs := cur) (ns := [0, 1]) ((Fr.refl _ wr).alloc _) (by simp) rfl hown6 hgrow hat
        have C6 : cur ++ [0, 1] = bs ++ (escB s.data.toList ++ [0, 1]) := by
          rw [hcur.out, List.take_of_length_le (by omega)]; simp
        have hl6 : cur.length + 2 = (cur ++ [0, 1]).length := by simp
        rw [C6] at o6 b6 hl6
        clear hown6 hgrow hat hown'
        go_wp2_with fail
        go_ret
        rw [hl6]
        exact ⟨g2, cap2, rfl, o6, BStep.trans hst.out b6⟩
end Go.Proofs.YtjhnehhiahoelaaDoor
