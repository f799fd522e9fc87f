/-
  Walks: layItem, layRow, by the tree.
-/
import Derived.Test.YtjhnehhiahoelaaDoorV6
namespace Go.Proofs.YtjhnehhiahoelaaDoor
open Go.RowKit

mutual
/-- An item's bytes. -/
def itemB : ItemP → List UInt8
  | .mk kd b i f s l => if kd = 1 then [1] else if kd = 2 then [if b then 3 else 2] else if kd = 3 then intB i else if kd = 4 then floatB f else if kd = 5 then textB s else 40 :: (rowB l ++ [0])
/-- A row's bytes. -/
def rowB : List ItemP → List UInt8
  | [] => []
  | t :: l => itemB t ++ rowB l
end
theorem rowB_append (a b : List ItemP) : rowB (a ++ b) = rowB a ++ rowB b := by
  induction a with
  | nil => simp [rowB]
  | cons t a ih => simp [rowB, ih]
theorem rowB_take_succ (l : List ItemP) (k : Nat) (h : k < l.length) : rowB (l.take (k + 1)) = rowB (l.take k) ++ itemB l[k] := by
  rw [List.take_succ_eq_append_getElem h, rowB_append]; simp [rowB]
theorem rowB_split (l : List ItemP) (k : Nat) (h : k < l.length) : (rowB l).length = (rowB (l.take k)).length + (itemB l[k]).length + (rowB (l.drop (k + 1))).length := by
  have e : l = l.take k ++ (l[k] :: l.drop (k + 1)) := by rw [← List.drop_eq_getElem_cons h, List.take_append_drop]
  have : rowB l = rowB (l.take k) ++ (itemB l[k] ++ rowB (l.drop (k + 1))) := by
    conv => lhs; rw [e, rowB_append, rowB]
  rw [this]; simp; omega
theorem escB_length_ge (a : List UInt8) : a.length ≤ (escB a).length := by
  induction a with
  | nil => simp [escB]
  | cons c r ih => by_cases h : c = 0 <;> simp [escB, h] <;> omega

theorem layItem_calls {w : World} {ao : Option Addr} {c : Nat} {bs : List UInt8} (kd : Nat) (b : Bool) (i : Int) (f : Nat) (s : ByteArray) (l : List ItemP) (la : Option Addr) (lc : Nat)
    (hi0 : -9223372036854775808 ≤ i) (hi1 : i ≤ 9223372036854775807) (hf : f < 18446744073709551616) (hown : Owns w (.slice ao bs.length c) bs) (hl : bs.length + (itemB (.mk kd b i f s l)).length ≤ 999999)
    (HR : Hid (kd = 0 ∨ 6 ≤ kd → ∀ W g c2, Owns W (.slice (some ⟨g, 0, none⟩) (bs.length + 1) c2) (bs ++ [40]) → BStep (.slice ao bs.length c) (.slice (some ⟨g, 0, none⟩) (bs.length + 1) c2) w W → Calls Tryd.prog 11 #[.slice (some ⟨g, 0, none⟩) (bs.length + 1) c2, .slice la l.length lc] W (LayPost (.slice (some ⟨g, 0, none⟩) (bs.length + 1) c2) W (bs ++ 40 :: rowB l)))) :
    Calls Tryd.prog 18 #[.slice ao bs.length c, itemV kd b i f s la l.length lc] w (LayPost (.slice ao bs.length c) w (bs ++ itemB (.mk kd b i f s l))) := by
  by_cases h1 : kd = 1
  · subst h1; simp only [itemB]; exact layItem_n b i f s la _ lc hown (by omega)
  by_cases h2 : kd = 2
  · subst h2
    simp only [itemB]
    cases b
    · exact layItem_f i f s la _ lc hown (by omega)
    · exact layItem_t i f s la _ lc hown (by omega)
  by_cases h3 : kd = 3
  · subst h3; simp only [itemB]; exact layItem_i b i hi0 hi1 f s la _ lc hown (by omega)
  by_cases h4 : kd = 4
  · subst h4; simp only [itemB]; exact layItem_fl b i f hf s la _ lc hown (by omega)
  by_cases h5 : kd = 5
  · subst h5
    have e : itemB (.mk 5 b i f s l) = textB s := by simp [itemB]
    rw [e] at hl ⊢
    have hs : s.size ≤ (textB s).length := by
      have := escB_length_ge s.data.toList
      rw [bytes_length] at this
      simp [textB]; omega
    have h1 : 1 ≤ (textB s).length := by simp [textB]
    exact layItem_tx b i f s (by omega) la _ lc hown (by omega)
  have e : itemB (.mk kd b i f s l) = 40 :: (rowB l ++ [0]) := by rw [itemB, if_neg h1, if_neg h2, if_neg h3, if_neg h4, if_neg h5]
  rw [e] at hl ⊢
  refine layItem_ls kd (by omega) b i f s la _ lc (rowB l) hown (by simp at hl; omega) (HR.out (by omega))

set_option maxRecDepth 100000 in
set_option maxHeartbeats 8000000 in
theorem layRow_calls (N : Nat) : ∀ (l : List ItemP), SizeOf.sizeOf l ≤ N → ∀ {w : World} {B : Nat} {v : Value} {ao : Option Addr} {c : Nat} {bs : List UInt8}, RowIn B w v l → B ≤ w.heap.size → Owns w (.slice ao bs.length c) bs → (∀ k, Value.ownBlock (.slice ao bs.length c) = some k → B ≤ k) → bs.length + (rowB l).length ≤ 999999 →
    Calls Tryd.prog 11 #[.slice ao bs.length c, v] w (LayPost (.slice ao bs.length c) w (bs ++ rowB l)) := by
  induction N with
  | zero =>
    intro l hl
    exfalso
    cases l <;> simp at hl
  | succ N ih =>
    intro l hl w B v ao c bs hrow hB hown hab hlen
    obtain ⟨ad, cp, lb, lo, rfl, hln, hel, hrec⟩ := hrow
    have HREC : Hid (∀ (k : Nat) (t : ItemP), l[k]? = some t → ItemAt B w lb (lo + k * 6) t) := hrec
    have V0 : Hid (Owns w (.slice ao bs.length c) bs) := hown
    clear hrec hown
    go_enter Tryd.func11, Tryd.ntmps11
    go_wp2_with fail
    go_loopw [0, 9] (fun bv iv wr => ∃ (k : Nat) (cur : List UInt8) (ao1 : Option Addr) (c1 : Nat), iv = .int .i64 k ∧ k ≤ l.length ∧ bv = .slice ao1 cur.length c1 ∧ Hid (Owns wr (.slice ao1 cur.length c1) cur) ∧ Hid (cur = bs ++ rowB (l.take k)) ∧ Hid (BStep (.slice ao bs.length c) (.slice ao1 cur.length c1) w wr))
      (fun _ iv _ => l.length - (intOf iv).toNat)
    case atStart => exact ⟨0, bs, ao, c, rfl, by omega, rfl, V0, by show _ = _; simp [rowB], BStep.refl _ _⟩
    case round =>
      obtain ⟨k, cur, ao1, c1, rfl, hk, rfl, hown, hcur, hst⟩ := hrel
      by_cases hgo : k < l.length
      · have hne0 : l ≠ [] := by intro e; rw [e] at hgo; simp at hgo
        obtain ⟨rfl, hlb⟩ := hel hne0
        have hbel : Below B w wr := Fr.below hst.out.1 hB (fun k e => hab k e.symm)
        have hit := (HREC.out k l[k] (List.getElem?_eq_getElem hgo)).keep hlb hbel
        have hmem : l[k] ∈ l := List.getElem_mem hgo
        have hsz := List.sizeOf_lt_of_mem hmem
        have hsp := rowB_split l k hgo
        have htk := rowB_take_succ l k hgo
        have i0 : (0 : Int) ≤ (k : Int) := by omega
        have i1 : (k : Int) < (l.length : Int) := by omega
        generalize hT : l[k] = T at *
        obtain @⟨_, _, kd, b, i, f, s, l2, la, lc, lb2, lo2, c0, c1', c2, c3, c4, c5, hi0, hi1, hs, hln2, hf, _, hl2, hr2⟩ := hit
        rw [ItemP.mk.sizeOf_spec] at hsz
        have hcl : cur.length = bs.length + (rowB (l.take k)).length := by rw [hcur.out, List.length_append]
        have hwB : B ≤ wr.heap.size := Nat.le_trans hB hst.out.1.size
        have hab1 : ∀ k, Value.ownBlock (.slice ao1 cur.length c1) = some k → B ≤ k := by
          intro k hk
          rcases hst.out.2 k hk with h | h
          · exact hab k h
          · omega
        have sx : Same wr (wr.alloc (itemC kd b i f s la l2.length lc)) := (Fr.refl _ wr).alloc _
        have hown' := own_frame hown.out sx (fun _ _ f => f)
        have HI' : Hid (Calls Tryd.prog 18 #[.slice ao1 cur.length c1, itemV kd b i f s la l2.length lc] (wr.alloc (itemC kd b i f s la l2.length lc)) (LayPost (.slice ao1 cur.length c1) (wr.alloc (itemC kd b i f s la l2.length lc)) (cur ++ itemB (.mk kd b i f s l2)))) := by
          refine layItem_calls kd b i f s l2 la lc hi0 hi1 hf hown' (by omega) ?_
          intro hk6 W g c2' hoW hbW
          have hW1 : Below B wr W := (Fr.below sx hwB (fun _ f => f.elim)).trans (Fr.below hbW.1 (by have := sx.size; omega) (fun k e => hab1 k e.symm))
          have hrow2 : RowIn B W (.slice la l2.length lc) l2 := by
            refine ⟨la, lc, lb2, lo2, rfl, hln2, hl2, fun j t hj => (hr2 j t hj).keep (hl2 ?_).2 hW1⟩
            intro e; rw [e] at hj; simp at hj
          have e1 : (cur ++ [40]).length = cur.length + 1 := by simp
          have e2 : itemB (.mk kd b i f s l2) = 40 :: (rowB l2 ++ [0]) := by rw [itemB, if_neg (by omega), if_neg (by omega), if_neg (by omega), if_neg (by omega), if_neg (by omega)]
          have e3 : (itemB (.mk kd b i f s l2)).length = (rowB l2).length + 2 := by rw [e2]; simp
          have := ih l2 (by omega) (w := W) (ao := some ⟨g, 0, none⟩) (c := c2') (bs := cur ++ [40]) hrow2 (by have := hW1.size; omega) (by rw [e1]; exact hoW) (by
            intro k hk
            rcases hbW.2 k (by rw [e1] at hk; exact hk) with h | h
            · exact hab1 k h
            · have := sx.size; omega) (by rw [e1]; omega)
          rw [e1, List.append_assoc] at this
          exact this
        have HC : Hid (cur ++ itemB (.mk kd b i f s l2) = bs ++ rowB (l.take (k + 1))) := by
          show _ = _
          rw [htk, hcur.out, List.append_assoc]
        generalize cur ++ itemB (.mk kd b i f s l2) = nxt at *
        have hsf := store_f64
        clear HREC ih hown' htk hsp hr2 hl2 hown hcur hcl hT hmem
        go_wp2_with fail
        refine HI'.out.mono ?_
        rintro e W4 ⟨ao4, c4, rfl, h4, b4⟩
        have B4 : Hid (BStep (.slice ao bs.length c) (.slice ao4 nxt.length c4) w W4) := BStep.trans hst.out (BStep.same sx b4)
        have O4 : Hid (Owns W4 (.slice ao4 nxt.length c4) nxt) := h4
        clear h4 b4 hst HI'
        go_wp2_with fail
        go_roundw
        case rel => exact ⟨k + 1, nxt, ao4, c4, by go_num, by omega, rfl, O4, HC, B4⟩
        case measure => simp [intOf]; omega
      · obtain rfl : k = l.length := by omega
        have hL : bs ++ rowB l = cur := by rw [hcur.out, List.take_length]
        go_wp2_with fail
        go_ret
        rw [hL]
        exact ⟨ao1, c1, rfl, hown.out, hst.out⟩
end Go.Proofs.YtjhnehhiahoelaaDoor
