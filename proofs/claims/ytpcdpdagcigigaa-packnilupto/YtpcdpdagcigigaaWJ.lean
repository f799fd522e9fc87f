/-
  Walks: a text's bytes laid one by one, and lists of these.
-/
import Derived.Test.YtpcdpdagcigigaaWI
namespace Go.Proofs.Ytpcdpdagcigigaa
open Go.RowKit

set_option maxRecDepth 100000 in
set_option maxHeartbeats 1000000 in
theorem bytesOf_calls (w : World) (s : ByteArray) (hs : s.size ≤ 100000000000) :
    Calls Try.prog 78 #[.string s] w fun e w' => ∃ ao cap, e = .returned (.slice ao s.size cap) ∧ w'.ownsRow 0 5 1 (.slice ao s.size cap) s.size (bcells s.data.toList) ∧ (∀ k, ao.map (·.block) = some k → w.heap.size ≤ k) ∧ Fr (fun _ => False) w w' := by
  obtain ⟨i0, hi, hz0, hz1, hz2⟩ := info_parts Try.info5
  go_enter Try.func78, Try.ntmps78
  go_wp2_with fail
  go_loopw [3, 4] (fun lv iv wr => ∃ (k : Nat) (ao : Option Addr) (cap : Nat), iv = .int .i64 k ∧ k ≤ s.size ∧ lv = .slice ao k cap ∧ wr.ownsRow 0 5 1 (.slice ao k cap) k (bcells (s.data.toList.take k)) ∧ (∀ k, ao.map (·.block) = some k → w.heap.size ≤ k) ∧ Fr (fun _ => False) w wr)
    (fun _ iv _ => s.size - (intOf iv).toNat)
  case atStart => exact ⟨0, none, 0, rfl, by omega, rfl, World.ownsRow_nil _ _ _ _, by simp, Fr.refl _ _⟩
  case round =>
    obtain ⟨k, ao, cap, rfl, hk, rfl, hown, hfre, hst⟩ := hrel
    have HW : Hid (Value.ownBlock (.slice ao k cap) = ao.map (·.block)) := by show _ = _; cases ao <;> rfl
    by_cases hlt : k < s.size
    · have htk : s.data.toList.take (k + 1) = s.data.toList.take k ++ [s[k]] := by
        rw [List.take_succ_eq_append_getElem (by rw [bytes_length]; exact hlt)]; rfl
      have HT : Hid (s.data.toList.take (k + 1) = s.data.toList.take k ++ [s[k]]) := htk
      clear htk
      go_wp2_with (at_builtin; go_must (refine wpList_append_lies _ (by rfl) _ _ _ (by rfl) 0 5 i0 (.int .u8 0) 1 1 Try.underlying81 hi hz0 hz1 hz2 rfl (by decide) _ _ _ (by rfl) (hown.alloc _) ⟨wr.heap.size, 0, none⟩ 1 1 _ (by rfl) ?_ (World.news_of_block (heap_alloc_new wr _)) ?_ (by decide) ?_ ?_ (Nat.zero_le _) (wr.heap.size + 1) (by simp) ?_))
      · exact rfl
      · unfold maxLen; omega
      · omega
      · intro g2 cap2 w6 hown6 hgrow hat hlt6
        have st6 : Fr (fun _ => False) w w6 := (Fr.alloc hst _).grown hgrow (fun k hk hlt => by have := hfre k (by rw [← HW.out]; exact hk); omega)
        have hf6 : ∀ k, (some (⟨g2, 0, none⟩ : Addr)).map (·.block) = some k → w.heap.size ≤ k := by
          intro k hk
          have : g2 = k := by simpa using hk
          subst this
          rcases hat with h' | h'
          · exact hfre g2 (by rw [← HW.out]; exact h')
          · have := hst.size; omega
        have hown7 : w6.ownsRow 0 5 1 (.slice (some ⟨g2, 0, none⟩) (k + 1) cap2) (k + 1) (bcells (s.data.toList.take (k + 1))) := by
          rw [HT.out, bcells_append]; simpa [bcells] using hown6
        clear hown6 hgrow hat hown hst hfre
        go_wp2
        go_roundw
        case rel => exact ⟨k + 1, some ⟨g2, 0, none⟩, cap2, by go_num, by omega, rfl, hown7, hf6, st6⟩
        case measure => simp [intOf]; omega
    · have hke : k = s.size := by omega
      subst hke
      go_wp2
      go_ret
      refine ⟨ao, cap, rfl, ?_, hfre, hst⟩
      rwa [List.take_of_length_le (by rw [bytes_length]; omega)] at hown

theorem laidAll_bytes (l : List UInt8) : laidAll byteB l = l := by
  induction l with
  | nil => rfl
  | cons c l ih => have : laidAll byteB (c :: l) = [c] ++ laidAll byteB l := by simp [laidAll, byteB]
                   rw [this, ih]; rfl

set_option maxRecDepth 100000 in
set_option maxHeartbeats 1000000 in
theorem fn_layBytes {w : World} {b : Nat} {g : Option Nat} {bs : List UInt8} (s : ByteArray) (_ho : True) (h : WrAt w b g bs) (hl : bs.length + (textB s).length ≤ 800000000000) (hs : s.size ≤ 100000000000) :
    Calls Try.prog 46 #[.pointer (some ⟨b, 0, none⟩), .string s] w fun e w' => e = .returned (.tuple #[]) ∧ ∃ g', WrAt w' b g' (bs ++ textB s) ∧ WrStep b g g' w w' := by
  have h1 := textB_length s
  have hbl := bytes_length s
  go_enter Try.func46, Try.ntmps46
  go_wp2_with fail
  refine (bytesOf_calls w s hs).mono ?_
  rintro e w1 ⟨ao, cap, rfl, hown, hfre, st1⟩
  have hw1 := h.same st1
  have hlw := h.lt
  by_cases h0 : s.size = 0
  · have hl0 : s.data.toList = [] := List.eq_nil_of_length_eq_zero (by omega)
    have HE : Hid (textB s = freeB 0 ++ laidAll byteB []) := by show _ = _; unfold textB; rw [h0, hl0]; rfl
    rw [h0]
    go_wp2_with fail
    refine (each_layByte_none ao cap hw1 (by omega)).mono ?_
    rintro e w2 ⟨rfl, g2, h2, st2⟩
    go_wp2_with fail
    go_end0
    rw [HE.out]
    exact ⟨rfl, g2, h2, WrStep.same st1 st2⟩
  · obtain ⟨k, cap', hv, _, hklt⟩ := hown.form (by omega)
    injection hv with e1 e2 e3
    subst e1
    subst e3
    clear e2
    have hcell := hown.cells (g := k) rfl
    have HE : Hid (textB s = freeB s.data.toList.length ++ laidAll byteB s.data.toList) := by show _ = _; unfold textB; rw [laidAll_bytes, hbl]
    have hkf := hfre k rfl
    have hE := each_layByte s.data.toList (fun _ _ => trivial) k 0 cap (by
      intro i x hi
      have := hcell i (.int .u8 (x.toNat : Int)) (by simp only [bcells, List.getElem?_map, hi, Option.map_some])
      rw [Addr.add_lit] at this
      exact this) hklt (by omega) (by intro e; have := hlw.2 k e.symm; omega) (by omega) hw1 (by rw [laidAll_bytes]; omega)
    rw [hbl] at hE
    go_wp2_with fail
    refine hE.mono ?_
    clear hE
    rintro e w2 ⟨rfl, g2, h2, st2⟩
    go_wp2_with fail
    go_end0
    rw [HE.out, hbl]
    exact ⟨rfl, g2, h2, WrStep.same st1 st2⟩

theorem eql_layBytes (W : World) : (binOp .eql 79 (.func (.func 46) #[] #[]) .nilFunc).run Try.prog W = .ok (.bool false) W := by kernel_rfl

set_option maxRecDepth 100000 in
set_option maxHeartbeats 1000000 in
theorem each_layBytes {w : World} {b : Nat} {g : Option Nat} {bs : List UInt8} (l : List ByteArray) (hok : ∀ x ∈ l, (fun _ => True) x) (ab aoff c : Nat) (hc : ∀ i x, l[i]? = some x → w.cell? ⟨ab, aoff + i, none⟩ = some ((fun s => Value.string s) x)) (hab : ab < w.heap.size) (hb : ab ≠ b) (hbg : some ab ≠ g)
    (hss : l.length ≤ 100000000000) (h : WrAt w b g bs) (hl : bs.length + (laidAll (textB) l).length ≤ 700000000000) (hsm : ∀ x ∈ l, x.size ≤ 100000000000) :
    Calls Try.prog 44 #[.pointer (some ⟨b, 0, none⟩), .slice (some ⟨ab, aoff, none⟩) l.length c, .func (.func 46) #[] #[]] w fun e w' => e = .returned (.tuple #[]) ∧ ∃ g', WrAt w' b g' (bs ++ (freeB l.length ++ laidAll (textB) l)) ∧ WrStep b g g' w w' := by
  obtain ⟨ao, c, hblk, hown, hg⟩ := id h
  obtain ⟨c0, c1, f0, f1⟩ := cell_of_two hblk
  have HC : Hid (∀ i x, l[i]? = some x → w.cell? ⟨ab, aoff + i, none⟩ = some ((fun s => Value.string s) x)) := hc
  have HK : Hid (∀ x ∈ l, (fun _ => True) x) := hok
  have HM : Hid (∀ x ∈ l, x.size ≤ 100000000000) := hsm
  clear hc hok hsm
  have hef := eql_layBytes
  go_enter Try.func44, Try.ntmps44
  go_wp2_with (go_at_call 47; refine (there_calls c0).mono ?_; rintro e w' ⟨rfl, rfl⟩)
  refine (wfree_calls l.length (by omega) h (by omega)).mono ?_
  rintro e w1 ⟨rfl, g1, h1, st1⟩
  have hfl := freeB_length l.length
  go_wp2_with fail
  go_loopw [20] (fun iv wr => ∃ (k : Nat) (cur : List UInt8) (g2 : Option Nat), iv = .int .i64 k ∧ k ≤ l.length ∧ WrAt wr b g2 cur ∧ Hid (cur = bs ++ freeB l.length ++ laidAll (textB) (l.take k)) ∧ WrStep b g g2 w wr)
    (fun iv _ => l.length - (intOf iv).toNat)
  case atStart => exact ⟨0, bs ++ freeB l.length, g1, rfl, by omega, h1, by show _ = _; simp [laidAll], st1⟩
  case round =>
    obtain ⟨k, cur, g2, rfl, hk, hwr, hd, hst⟩ := hrel
    by_cases hlt : k < l.length
    · have hlen : cur.length + ((textB) l[k]).length ≤ 800000000000 := by
        have h1 := laidAll_take_succ (textB) l k hlt
        have h2 := laidAll_take_le (textB) l (k + 1)
        rw [h1, List.length_append] at h2
        rw [hd.out, List.length_append, List.length_append]; omega
      have hcx : wr.cell? ⟨ab, aoff + k, none⟩ = some ((fun s => Value.string s) l[k]) := by
        rw [hst.1.cell (p := ⟨ab, aoff + k, none⟩) hab (by rintro (e | e); exact hb e; exact hbg e)]
        exact HC.out k _ (List.getElem?_eq_getElem hlt)
      obtain ⟨x, hx⟩ : ∃ x, x = l[k] := ⟨_, rfl⟩
      have HX : Hid (x = l[k]) := hx
      have hok : (fun _ => True) x := by rw [hx]; exact HK.out l[k] (List.getElem_mem hlt)
      have hsx : x.size ≤ 100000000000 := by rw [hx]; exact HM.out l[k] (List.getElem_mem hlt)
      rw [← hx] at hlen hcx
      clear hx
      go_wp2_with fail
      refine (fn_layBytes x hok hwr hlen hsx).mono ?_
      rintro e w2 ⟨rfl, g3, h3, st3⟩
      go_wp2_with fail
      go_roundw
      case rel => exact ⟨k + 1, cur ++ (textB) x, g3, by go_num, by omega, h3, by show _ = _; rw [laidAll_take_succ (textB) l k hlt, hd.out, HX.out, List.append_assoc], hst.trans st3⟩
      case measure => simp [intOf]; omega
    · go_wp2_with fail
      go_end0
      have hke : k = l.length := by omega
      subst hke
      refine ⟨rfl, g2, ?_, hst⟩
      have e := hd.out
      rw [List.take_length, List.append_assoc] at e
      rw [← e]; exact hwr

set_option maxRecDepth 100000 in
set_option maxHeartbeats 1000000 in
theorem each_layBytes_none {w : World} {b : Nat} {g : Option Nat} {bs : List UInt8} (ad : Option Addr) (c : Nat) (h : WrAt w b g bs) (hl : bs.length ≤ 900000000000) :
    Calls Try.prog 44 #[.pointer (some ⟨b, 0, none⟩), .slice ad 0 c, .func (.func 46) #[] #[]] w fun e w' => e = .returned (.tuple #[]) ∧ ∃ g', WrAt w' b g' (bs ++ (freeB 0 ++ laidAll (textB) [])) ∧ WrStep b g g' w w' := by
  obtain ⟨ao, c, hblk, hown, hg⟩ := id h
  obtain ⟨c0, c1, f0, f1⟩ := cell_of_two hblk
  have hef := eql_layBytes
  go_enter Try.func44, Try.ntmps44
  go_wp2_with (go_at_call 47; refine (there_calls c0).mono ?_; rintro e w' ⟨rfl, rfl⟩)
  refine (wfree_calls 0 (by omega) h (by omega)).mono ?_
  rintro e w1 ⟨rfl, g1, h1, st1⟩
  go_wp2_with fail
  go_rounds 1
  go_end0
  refine ⟨rfl, g1, ?_, st1⟩
  simpa [laidAll] using h1
end Go.Proofs.Ytpcdpdagcigigaa
