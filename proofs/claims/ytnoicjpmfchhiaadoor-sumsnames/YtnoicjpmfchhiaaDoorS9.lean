/-
  Walks: Write.
-/
import Derived.Test.YtnoicjpmfchhiaaDoorS8
namespace Go.Proofs.YtnoicjpmfchhiaaDoor
open Go.RowKit

theorem mixAll_append (n : Nat) : ∀ (s : W8) (m p : List UInt8), m.length ≤ n → mixAll s (m ++ p) = mixAll (mixAll s m) (restB m ++ p) := by
  induction n with
  | zero =>
    intro s m p h
    rw [mixAll_end s m (by omega), rest_end m (by omega)]
  | succ n ih =>
    intro s m p h
    by_cases h64 : 64 ≤ m.length
    · rw [mixAll_step s (m ++ p) (by rw [List.length_append]; omega), mixAll_step s m h64, rest_step m h64, List.take_append_of_le_length h64, List.drop_append_of_le_length h64]
      exact ih _ _ _ (by rw [List.length_drop]; omega)
    · rw [mixAll_end s m h64, rest_end m h64]
theorem restB_length (m : List UInt8) : (restB m).length = m.length % 64 := by
  unfold restB; rw [List.length_drop]; omega
theorem restB_append (m p : List UInt8) : restB (restB m ++ p) = restB (m ++ p) := by
  unfold restB
  rw [List.length_append, List.length_append, List.length_drop]
  have e : m.length - m.length / 64 * 64 = m.length % 64 := by omega
  rw [e]
  rw [show (m.length + p.length) / 64 * 64 = m.length / 64 * 64 + (m.length % 64 + p.length) / 64 * 64 from by omega, ← List.drop_drop, List.drop_append_of_le_length (l₁ := m) (by omega)]

/-- A Hash to which the bytes m were written. -/
def HashOf (w : World) (b : Nat) (m : List UInt8) : Prop := ∃ rest, HashAt w b (mixAll hTab m) rest m.length ∧ rest.take (m.length % 64) = restB m
theorem HashOf.same {w w' : World} {b : Nat} {m : List UInt8} (h : HashOf w b m) (s : Same w w') : HashOf w' b m := by
  obtain ⟨rest, h1, h2⟩ := h
  exact ⟨rest, h1.same s, h2⟩
theorem HashOf.lt {w : World} {b : Nat} {m : List UInt8} (h : HashOf w b m) : b < w.heap.size := by
  obtain ⟨rest, h1, _⟩ := h
  exact lt_of_heap h1.1
theorem hashC_rest (q : W8) (rest R : List UInt8) (n : Nat) (hr : rest.length = 64) (hR : R.length ≤ 64) : splice (hashC q rest n) 9 (bcells R) = hashC q (R ++ rest.drop R.length) n := by
  have e : (hashC q rest n) = ([.bool true] ++ w8c q) ++ (bcells rest ++ [.int .i64 n]) := rfl
  have e2 : (hashC q (R ++ rest.drop R.length) n) = ([.bool true] ++ w8c q) ++ (bcells (R ++ rest.drop R.length) ++ [.int .i64 n]) := rfl
  have l9 : ([.bool true] ++ w8c q : List Value).length = 9 := rfl
  unfold splice
  rw [e, e2, List.take_append_of_le_length (by omega), List.take_of_length_le (by omega), List.drop_append, l9, List.drop_of_length_le (by omega), List.nil_append, bcells_length, Nat.add_sub_cancel_left, List.drop_append_of_le_length (by rw [bcells_length]; omega)]
  simp [bcells, List.map_drop]
theorem hashC_size (q : W8) (rest : List UInt8) (n m : Nat) (hr : rest.length = 64) : (hashC q rest n).set 73 (.int .i64 m) = hashC q rest m := by
  have e : (hashC q rest n) = ([.bool true] ++ w8c q ++ bcells rest) ++ [.int .i64 n] := by simp [hashC]
  have e2 : (hashC q rest m) = ([.bool true] ++ w8c q ++ bcells rest) ++ [.int .i64 m] := by simp [hashC]
  have l : ([.bool true] ++ w8c q ++ bcells rest : List Value).length = 73 := by simp [w8c, bcells, hr]
  rw [e, e2, List.set_append_right _ _ (by omega), l]
  rfl
/-- Texts, one behind the other. -/
def flat (ss : List ByteArray) : List UInt8 := (ss.map fun s => s.data.toList).flatten
theorem slice_rest_all (W : World) (b : Nat) : (Instr.sliceAt 63 (.pointer (some ⟨b, 9, none⟩)) none none none).run Tryd.prog W = .ok (.slice (some ⟨b, 9, none⟩) 64 64) W := by
  rw [run_sliceAt_array_all W 63 ⟨b, 9, none⟩ Tryd.aund64, Tryd.aelem64, Tryd.szU8, Tryd.alen64]
  simp [slicedAt, Addr.add]

theorem app_same {wr W2 W3 : World} {ao : Option Addr} {n c : Nat} (bst : BStep (.slice none 0 0) (.slice ao n c) wr W2) (hg : W2.grownBy W3 (Value.ownBlock (.slice ao n c))) : Same wr W3 := by
  have s2 : Same wr W2 := bst.1.mono (fun k _ e => by simp [Value.ownBlock] at e)
  refine s2.grown hg ?_
  intro k hk hlt
  rcases bst.2 k hk with h | h
  · simp [Value.ownBlock] at h
  · omega
theorem owns_bat {w : World} {ao : Option Addr} {c : Nat} {bs : List UInt8} (h : Owns w (.slice ao bs.length c) bs) (b : Nat) (hb : ∀ k, Value.ownBlock (.slice ao bs.length c) = some k → k ≠ b) : ∃ bb, BAt w bb 0 ao c bs ∧ bb ≠ b := by
  rcases h.2 with ⟨hv, h0⟩ | ⟨g, cap, cur, hv, _, hg, hnc, hcm, hcs, htake⟩
  · have hbs : bs = [] := List.eq_nil_of_length_eq_zero h0
    subst hbs
    exact ⟨b + 1, ⟨by simp, fun e => absurd rfl e, fun j x hx => by simp at hx⟩, by omega⟩
  · injection hv with e1 e2 e3
    subst e1
    subst e3
    refine ⟨g, ⟨hnc, fun _ => ⟨rfl, lt_of_heap hg⟩, fun j x hx => ?_⟩, hb g rfl⟩
    have := h.cells (g := g) rfl j (.int .u8 x.toNat) (by simp [bcells, hx])
    rw [Addr.add_mid] at this
    exact this
theorem BAt.src {w : World} {b o : Nat} {ad : Option Addr} {cap : Nat} {bs : List UInt8} (h : BAt w b o ad cap bs) (hp : 0 < (bcells bs).length) : ∃ a, ad = some a ∧ ∀ j v, (bcells bs)[j]? = some v → w.cell? (a.add j) = some v := by
  have hne : bs ≠ [] := by intro e; rw [e] at hp; simp [bcells] at hp
  refine ⟨_, (h.place hne).1, ?_⟩
  intro j v hv
  simp only [bcells, List.getElem?_map, Option.map_eq_some_iff] at hv
  obtain ⟨x, hx, rfl⟩ := hv
  rw [Addr.add_mid]
  exact h.cells j x hx
theorem owns_cap {w : World} {ao : Option Addr} {c : Nat} {bs : List UInt8} (h : Owns w (.slice ao bs.length c) bs) : c ≤ 9223372036854775807 := by
  rcases h.2 with ⟨hv, h0⟩ | ⟨g, cap, cur, hv, _, hg, hnc, hcm, hcs, htake⟩
  · injection hv with e1 e2 e3
    omega
  · injection hv with e1 e2 e3
    subst e3
    unfold maxLen at hcm
    omega

set_option maxRecDepth 100000 in
set_option maxHeartbeats 1000000 in
theorem write_calls {w : World} {b : Nat} {m : List UInt8} (h : HashOf w b m) (ss : List ByteArray) (pa : Option Addr) (pb po pc : Nat) (hp : ss ≠ [] → pa = some ⟨pb, po, none⟩) (hpb : pb ≠ b) (hpl : ss ≠ [] → pb < w.heap.size) (hps : ∀ j s, ss[j]? = some s → w.cell? ⟨pb, po + j, none⟩ = some (.string s)) (hl : m.length + (flat ss).length ≤ 70368744177664) (hsl : ss.length ≤ 70368744177664) :
    Calls Tryd.prog 28 #[.pointer (some ⟨b, 0, none⟩), .slice pa ss.length pc] w fun e w' => e = .returned (.tuple #[]) ∧ HashOf w' b (m ++ flat ss) ∧ Fr (fun k => k = b) w w' := by
  obtain ⟨rest, hA, _⟩ := h
  have hmade := hA.made
  have HH : Hid (HashOf w b m) := ⟨rest, hA, by assumption⟩
  have hblt := lt_of_heap hA.1
  clear hA
  go_enter Tryd.func28, Tryd.ntmps28
  go_wp2_with fail
  refine (there_hash hmade).mono ?_
  rintro e W1 ⟨rfl, hW1⟩
  rw [hW1]
  clear hW1
  go_wp2_with fail
  go_loopg [12] ss.length (fun g iv wr => ∃ k : Nat, iv = .int .i64 k ∧ k ≤ ss.length ∧ g = ss.length - k ∧ Hid (HashOf wr b (m ++ flat (ss.take k))) ∧ Fr (fun k => k = b) w wr)
  case atStart => exact ⟨0, rfl, by omega, rfl, by simpa [flat] using HH, Fr.refl _ _⟩
  case round =>
    obtain ⟨k, rfl, hk, rfl, HK, hf⟩ := hrel
    by_cases hgo : k < ss.length
    · obtain ⟨s, hs⟩ : ∃ s, ss[k]? = some s := ⟨_, List.getElem?_eq_getElem hgo⟩
      have hne : ss ≠ [] := by intro e; rw [e] at hgo; simp at hgo
      obtain rfl := hp hne
      have hcs : wr.cell? ⟨pb, po + k, none⟩ = some (.string s) := by
        rw [hf.cell (p := ⟨pb, po + k, none⟩) (hpl hne) hpb]; exact hps k s hs
      obtain ⟨M, hM⟩ : ∃ M, M = m ++ flat (ss.take k) := ⟨_, rfl⟩
      have hM2 : m ++ flat (ss.take (k + 1)) = M ++ s.data.toList := by
        rw [hM, List.take_add_one, hs]
        simp [flat]
      have hMl : M.length + s.size ≤ 70368744177664 := by
        have e : flat ss = flat (ss.take (k + 1)) ++ flat (ss.drop (k + 1)) := by
          unfold flat; rw [← List.flatten_append, ← List.map_append, List.take_append_drop]
        have e2 := congrArg List.length hM2
        have e3 := congrArg List.length e
        simp only [List.length_append, Array.length_toList] at e2 e3
        have : s.data.size = s.size := rfl
        omega
      rw [← hM] at HK
      obtain ⟨rest, hA, hrest⟩ := HK.out
      have hbr := lt_of_heap hA.1
      have HM2 : Hid (m ++ flat (ss.take (k + 1)) = M ++ s.data.toList) := hM2
      have HA : Hid (HashAt wr b (mixAll hTab M) rest M.length ∧ rest.take (M.length % 64) = restB M) := ⟨hA, hrest⟩
      have HW : Hid (Calls Tryd.prog 31 #[.pointer (some ⟨b, 0, none⟩)] wr fun e w' => ∃ ao c, e = .returned (.slice ao (restB M).length c) ∧ Owns w' (.slice ao (restB M).length c) (restB M) ∧ BStep (.slice none 0 0) (.slice ao (restB M).length c) wr w') := by
        have := waiting_calls hA (by omega)
        rw [hrest] at this
        exact this
      have hrl : (restB M).length < 64 := by rw [restB_length]; omega
      clear hM hM2 hA hrest HK hps hp hpl hs
      obtain ⟨RB, hRB⟩ : ∃ R, R = restB M := ⟨_, rfl⟩
      have HRB : Hid (RB = restB M) := hRB
      rw [← hRB] at HW hrl
      clear hRB
      obtain ⟨i0, hi, hz0, hz1, hz2⟩ := info_parts Tryd.info5
      go_wp2_with fail
      refine HW.out.mono ?_
      rintro e W2 ⟨ao, c, rfl, hown, bst⟩
      have hub : ∀ kk, Value.ownBlock (.slice ao RB.length c) = some kk → wr.heap.size ≤ kk := by
        intro kk hkk
        rcases bst.2 kk hkk with h | h
        · simp [Value.ownBlock] at h
        · exact h
      have HS3 : Hid (∀ W3, W2.grownBy W3 (Value.ownBlock (.slice ao RB.length c)) → Same wr W3) := fun W3 hg => app_same bst hg
      have HUB : Hid (∀ kk, Value.ownBlock (.slice ao RB.length c) = some kk → wr.heap.size ≤ kk) := hub
      have hsz2 : wr.heap.size ≤ W2.heap.size := bst.1.size
      clear hub bst
      go_wp2_with (at_builtin; go_must (refine wpList_append_str _ (by rfl) _ _ 52 9 (by rfl) 5 i0 Tryd.underlying52 Tryd.underlying9 hi hz0 hz1 hz2 _ _ _ (by rfl) hown s (by rfl) (by omega) ?_; intro ao3 c3 W3 hown3 hgrow3 hat3; have s3 := HS3.out W3 hgrow3; have hA3 := (HA.out.1).same s3; have c73 := hA3.size; have z73 := frozen_of_row W3 b 73 _ _ hA3.1; have H3 : Hid ((HashAt W3 b (mixAll hTab M) rest M.length) ∧ (W3.ownsRow 0 5 1 (.slice ao3 (RB.length + s.size) c3) (RB.length + s.size) (bcells RB ++ Lib.strCells s)) ∧ (∀ k, (Value.slice ao3 (RB.length + s.size) c3).ownBlock = some k → Value.ownBlock (.slice ao RB.length c) = some k ∨ W2.heap.size ≤ k)) := ⟨hA3, hown3, hat3⟩; clear hA3 hown3 hat3 hgrow3 hown))
      obtain ⟨hA3, hown3, hat3⟩ := H3.out
      have s03 : Fr (fun k => k = b) w W3 := hf.trans s3 (fun _ _ f => f.elim)
      have hA4 : HashAt (W3.setCell ⟨b, 73, none⟩ (.int .i64 ((M.length : Int) + (s.size : Int)))) b (mixAll hTab M) rest (M.length + s.size) := by
        refine ⟨?_, hA3.2⟩
        rw [heap_setCell_same W3 b 73 _ _ _ hA3.1, ← hashC_size (mixAll hTab M) rest M.length (M.length + s.size) hA3.2]
        simp
      have f34 : Fr (fun k => k = b) W3 (W3.setCell ⟨b, 73, none⟩ (.int .i64 ((M.length : Int) + (s.size : Int)))) := Fr.setCell (S := fun k => k = b) (Fr.refl _ W3) (p := ⟨b, 73, none⟩) (fun _ => rfl) _
      have hownb : ∀ kk, Value.ownBlock (.slice ao3 (RB.length + s.size) c3) = some kk → kk ≠ b := by
        intro kk hkk
        rcases hat3 kk hkk with h | h
        · have := HUB.out kk h; omega
        · omega
      obtain ⟨bs, hbs⟩ : ∃ bs, bs = RB ++ s.data.toList := ⟨_, rfl⟩
      have hbl : bs.length = RB.length + s.size := by rw [hbs, List.length_append]; rfl
      have ho3 : Owns W3 (.slice ao3 bs.length c3) bs := by
        show World.ownsRow _ _ _ _ _ _ _
        rw [hbl, hbs, bcells_append]
        exact hown3
      rw [← hbl] at hownb
      obtain ⟨bb, hB3, hbb⟩ := owns_bat ho3 b hownb
      have hcap3 := owns_cap ho3
      generalize (W3.setCell ⟨b, 73, none⟩ (.int .i64 ((M.length : Int) + (s.size : Int)))) = W4 at *
      have HMB : Hid (∀ W, Same W4 W → Calls Tryd.prog 32 #[.pointer (some ⟨b, 1, none⟩), .slice ao3 (RB.length + s.size) c3] W fun e w' => ∃ ad' cap' bo', e = .returned (.slice ad' (restB bs).length cap') ∧ BAt w' bb bo' ad' cap' (restB bs) ∧ w'.heap[b]? = some (.cells (hashC (mixAll (mixAll hTab M) bs) rest (M.length + s.size)).toArray 65 (0, 0)) ∧ Fr (fun k => k = b) W w') := by
        intro W sW
        rw [← hbl]
        exact mixBlocks_calls (pre := [.bool true]) (post := bcells rest ++ [.int .i64 ((M.length + s.size : Nat) : Int)]) (hA4.same sW).1 ((hB3.frame f34 hbb).frame sW (fun f => f)) hbb (by omega) hcap3
      have hrl2 : (restB bs).length < 64 := by rw [restB_length]; omega
      have hsla := fun W => slice_rest_all W b
      have hmm : Hid (mixAll (mixAll hTab M) bs = mixAll hTab (M ++ s.data.toList) ∧ restB bs = restB (M ++ s.data.toList) ∧ bs.length % 64 = (M.length + s.size) % 64) := by
        refine ⟨?_, ?_, ?_⟩
        · rw [hbs, HRB.out, ← mixAll_append M.length _ _ _ (Nat.le_refl _)]
        · rw [hbs, HRB.out, restB_append]
        · rw [hbl, HRB.out, restB_length]; omega
      have hnone : ∀ u ∈ bcells (restB bs), u.oneCell' = true := by intro v hv; simp only [bcells, List.mem_map] at hv; obtain ⟨c, _, rfl⟩ := hv; rfl
      have hhl : (hashC (mixAll (mixAll hTab M) bs) rest (M.length + s.size)).length = 74 := by simp [hashC, w8c, bcells, hA4.2]
      have hrest64 := hA4.2
      have hsz1 : (Tryd.prog.info? 5).map (·.size) = some 1 := by rw [hi]; simp [hz1]
      obtain ⟨RR, hRR⟩ : ∃ R, R = restB bs := ⟨_, rfl⟩
      rw [← hRR] at HMB hrl2 hmm hnone
      have hmin : (bcells RR).length = Nat.min RR.length 64 := by rw [bcells_length, show Nat.min RR.length 64 = min RR.length 64 from rfl]; omega
      have hfit : 9 + (bcells RR).length ≤ (hashC (mixAll (mixAll hTab M) bs) rest (M.length + s.size)).length := by rw [hhl, bcells_length]; omega
      have HB4 : Hid (HashAt W4 b (mixAll hTab M) rest (M.length + s.size)) := hA4
      clear hA4 hA3 hown3 hat3 H3 hbs ho3 hB3 hownb hRR hcs c73 z73
      go_region_held3 (fun _ => True) (trivial) (first | (refine step_copy_fr (by rfl) _ _ 52 52 (by rfl) 5 Tryd.underlying52 hsz1 _ _ _ _ _ _ (by rfl) (by rfl) b 9 _ 65 h6 (bcells RR) hmin (fun hp => ⟨rfl, hB6.src hp⟩) hfit hnone ?_; intro W7 h7 f7) | (go_at_call 32; refine (HMB.out _ ((Fr.refl _ W4).drew)).mono ?_; rintro e W6 ⟨ad6, cap6, bo6, rfl, hB6, h6, f6⟩))
      go_wp2_with fail
      obtain ⟨e1, e2, e3⟩ := hmm.out
      have hlen : (M ++ s.data.toList).length = M.length + s.size := by rw [List.length_append]; rfl
      have hRl : RR.length = (M ++ s.data.toList).length % 64 := by rw [e2, restB_length]
      have h8 := h7.out
      rw [hashC_rest _ _ _ _ hrest64 (by omega), e1] at h8
      have hof : HashOf W7 b (M ++ s.data.toList) := by
        refine ⟨RR ++ rest.drop RR.length, ⟨by rw [hlen]; exact h8, by simp [hrest64]; omega⟩, ?_⟩
        rw [← hRl, List.take_left', e2]
        rfl
      have fw : Fr (fun k => k = b) w W7 := (((s03.trans f34 (fun _ _ e => e)).trans ((Fr.refl (fun k => k = b) W4).drew) (fun _ _ e => e)).trans f6 (fun _ _ e => e)).trans f7 (fun _ _ e => e)
      have hm2 := HM2.out
      go_roundg (ss.length - (k + 1))
      case measure => omega
      case rel => exact ⟨k + 1, by go_num, by omega, rfl, by rw [hm2]; exact hof, fw⟩
    · obtain rfl : k = ss.length := by omega
      rw [List.take_length] at HK
      go_wp2_with fail
      go_end0
      exact ⟨rfl, HK.out, hf⟩
end Go.Proofs.YtnoicjpmfchhiaaDoor
