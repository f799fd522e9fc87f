/- A branch's kids read: List over kids. -/
import Derived.Test.YtjlbkagkmcelgaaNH
namespace Go.Proofs.Ytjlbkagkmcelgaa
open Go.RowKit

def kcellsL (l : List Kid) : List Value := l.flatMap kcells
theorem kcellsL_append (a b : List Kid) : kcellsL (a ++ b) = kcellsL a ++ kcellsL b := by simp [kcellsL]
theorem Try.infKid : (Try.prog.info? 37).map (fun i => (i.zero, i.size, i.bytes)) = some (some (kidV zeroKid), 33, 36) := by kernel_rfl
/-- Kids with the separators ahead of them: (separators, kids, place, fault). -/
def rKids (rd : Nat → Nat → Kid × Nat × Nat) (rt : Nat → Nat → ByteArray × Nat × Nat) : Nat → Nat → Nat → List ByteArray → List Kid → List ByteArray × List Kid × Nat × Nat
  | 0, p, c, sl, ks => (sl, ks, p, c)
  | n + 1, p, c, sl, ks => if c = 0 then (if ks.length = 0 then rKids rd rt n (rd p c).2.1 (rd p c).2.2 sl (ks ++ [(rd p c).1]) else rKids rd rt n (rd (rt p c).2.1 (rt p c).2.2).2.1 (rd (rt p c).2.1 (rt p c).2.2).2.2 (sl ++ [(rt p c).1]) (ks ++ [(rd (rt p c).2.1 (rt p c).2.2).1])) else (sl, ks, p, c)
def rListK (rd : Nat → Nat → Kid × Nat × Nat) (rt : Nat → Nat → ByteArray × Nat × Nat) (s : ByteArray) (p c most : Nat) : List ByteArray × List Kid × Nat × Nat :=
  let R := rKids rd rt (rCount s p c most).1 (rCount s p c most).2.1 (rCount s p c most).2.2 [] []
  (R.1, if R.2.2.2 = 0 then R.2.1 else [], R.2.2)
theorem kid_fold (l : List Value) (h : l.length = 33) : List.foldl (fun (cs : Array Value) (x : Value × Nat) => cs.setIfInBounds x.snd x.fst) #[.int .u32 0, .int .u8 0, .int .u8 0, .int .u8 0, .int .u8 0, .int .u8 0, .int .u8 0, .int .u8 0, .int .u8 0, .int .u8 0, .int .u8 0, .int .u8 0, .int .u8 0, .int .u8 0, .int .u8 0, .int .u8 0, .int .u8 0, .int .u8 0, .int .u8 0, .int .u8 0, .int .u8 0, .int .u8 0, .int .u8 0, .int .u8 0, .int .u8 0, .int .u8 0, .int .u8 0, .int .u8 0, .int .u8 0, .int .u8 0, .int .u8 0, .int .u8 0, .int .u8 0] l.zipIdx = l.toArray := by
  have h2 := fold_put 0 l 0 [] (kcells zeroKid) [] rfl (by rw [h]; rfl)
  simp only [List.nil_append, List.append_nil, Nat.zero_add] at h2
  exact h2
theorem eql_rdK_page (W : World) (fb nb ab xb : Nat) : (binOp .eql 71 (.func (.func 77) #[] #[.pointer (some ⟨fb, 0, none⟩), .pointer (some ⟨nb, 0, none⟩), .pointer (some ⟨ab, 0, none⟩), .pointer (some ⟨xb, 0, none⟩)]) .nilFunc).run Try.prog W = .ok (.bool false) W := by kernel_rfl
set_option maxRecDepth 100000 in
set_option maxHeartbeats 4000000 in
theorem listKid_page {pg q : Int} (hpg : pg = 1024 ∨ pg = 2048 ∨ pg = 4096 ∨ pg = 8192) {w W : World} {b : Nat} {s : ByteArray} {p c fb nb xb ab : Nat} (h : RK w W b s p c fb nb true [] none 0) (hsz : s.size ≤ 1000000000) (m : Nat) (bd : Int) (hm : (m : Int) = max bd 0) (hm1 : m ≤ 9223372036854775807)
    (hx : w.cell? ⟨xb, 1, none⟩ = some (.func (.func 40) #[] #[])) (ha0 : w.cell? ⟨ab, 0, none⟩ = some (.int .i64 pg)) (ha : w.cell? ⟨ab, 1, none⟩ = some (.int .i64 q)) :
    Calls Try.prog 76 #[.pointer (some ⟨b, 0, none⟩), .int .i64 bd, .func (.func 77) #[] #[.pointer (some ⟨fb, 0, none⟩), .pointer (some ⟨nb, 0, none⟩), .pointer (some ⟨ab, 0, none⟩), .pointer (some ⟨xb, 0, none⟩)]] W fun e w' => ∃ ka ck ao cap f, e = .returned (.slice ka (rListK (rdKid q s) (fun p c => rText s p c (pg / 16)) s p c m).2.1.length ck) ∧ w'.ownsRow 0 37 33 (.slice ka (rListK (rdKid q s) (fun p c => rText s p c (pg / 16)) s p c m).2.1.length ck) (rListK (rdKid q s) (fun p c => rText s p c (pg / 16)) s p c m).2.1.length (kcellsL (rListK (rdKid q s) (fun p c => rText s p c (pg / 16)) s p c m).2.1) ∧ (∀ k, ka.map (·.block) = some k → w.heap.size ≤ k ∧ ¬ RKf b fb nb ao k) ∧ RK w w' b s (rListK (rdKid q s) (fun p c => rText s p c (pg / 16)) s p c m).2.2.1 (rListK (rdKid q s) (fun p c => rText s p c (pg / 16)) s p c m).2.2.2 fb nb f (rListK (rdKid q s) (fun p c => rText s p c (pg / 16)) s p c m).1 ao cap := by
  have hp := h.rd.2.1
  obtain ⟨i0, hi, hz0, hz1, hz2⟩ := info_parts Try.infKid
  have hef := fun W => eql_rdK_page W fb nb ab xb
  have HC : Hid (∀ W, Calls Try.prog 85 #[.int .i64 bd] W fun e w' => e = .returned (.int .i64 m) ∧ W = w') := fun W => by
    have := counted_calls W bd; rw [← hm] at this; exact this
  clear hm
  have HF0 := rfree_calls h.rd m (by omega)
  have hl := (rFree_lt s p c m)
  have hpl := rFree_place s p c m hp
  obtain ⟨n, p', c', hr⟩ : ∃ n p' c', rFree s p c m = (n, p', c') := ⟨_, _, _, rfl⟩
  have hcode := rFree_code s p c m
  have hxx : rCount s p c m = if s.size - p' < n then (0, p, 12) else (n, p', c') := by unfold rCount; rw [hr]
  rw [hr] at HF0 hl hpl hcode
  simp only at hl hpl hcode
  have HF : Hid (Calls Try.prog 84 #[.pointer (some ⟨b, 0, none⟩), .int .u64 m] W fun e w' => e = .returned (.int .u64 n) ∧ RdAt w' b s p' c' ∧ RdStep b W w') := HF0
  clear HF0 hr
  obtain ⟨Rf, hRf⟩ : ∃ Rf, Rf = rListK (rdKid q s) (fun p c => rText s p c (pg / 16)) s p c m := ⟨_, rfl⟩
  rw [← hRf]
  have HRf : Hid (Rf = rListK (rdKid q s) (fun p c => rText s p c (pg / 16)) s p c m) := hRf
  have hrd := h.rd
  clear hRf
  by_cases hlt : s.size - p' < n
  · rw [if_pos hlt] at hxx
    have hy : Hid (Rf = ([], [], p, 12)) := by show _ = _; rw [HRf.out]; unfold rListK; rw [hxx]; simp [rKids]
    clear hxx HRf
    go_enter Try.func76, Try.ntmps76
    go_wp2_with (first | (go_at_call 83; refine (at_calls hrd).mono ?_; rintro e w' ⟨rfl, rfl⟩) | (go_at_call 85; refine (HC.out _).mono ?_; rintro e w' ⟨rfl, rfl⟩))
    refine HF.out.mono ?_
    rintro e w1 ⟨rfl, h1, st1⟩
    have k1 := h.rstep h1 st1
    go_wp2_with fail
    refine (left_calls h1).mono ?_
    rintro e w2 ⟨rfl, st2⟩
    have k2 := k1.same st2
    have hlt' : (s.size : Int) - (p' : Int) < (n : Int) := by omega
    go_wp2_with fail
    refine (fail_calls (h1.same st2) p 12 hp).mono ?_
    rintro e w3 ⟨rfl, h3, st3⟩
    have k3 := k2.rstep h3 st3
    go_wp2_with fail
    refine (reads_calls h3).mono ?_
    rintro e w4 ⟨rfl, rfl⟩
    go_wp2_with fail
    go_ret
    rw [hy.out]
    exact ⟨none, 0, none, 0, true, rfl, World.ownsRow_nil _ _ _ _, by simp, k3⟩
  · rw [if_neg hlt] at hxx
    obtain ⟨R, hR⟩ : ∃ R, R = rKids (rdKid q s) (fun p c => rText s p c (pg / 16)) n p' c' [] [] := ⟨_, rfl⟩
    have HR2 : Hid (Rf = (R.1, if R.2.2.2 = 0 then R.2.1 else [], R.2.2)) := by show _ = _; rw [HRf.out]; unfold rListK; rw [hxx, ← hR]
    have HR : Hid (rKids (rdKid q s) (fun p c => rText s p c (pg / 16)) n p' c' [] [] = R) := hR.symm
    clear hxx hR HRf
    go_enter Try.func76, Try.ntmps76
    go_wp2_with (first | (go_at_call 83; refine (at_calls hrd).mono ?_; rintro e w' ⟨rfl, rfl⟩) | (go_at_call 85; refine (HC.out _).mono ?_; rintro e w' ⟨rfl, rfl⟩))
    refine HF.out.mono ?_
    rintro e w1 ⟨rfl, h1, st1⟩
    have k1 := h.rstep h1 st1
    go_wp2_with fail
    refine (left_calls h1).mono ?_
    rintro e w2 ⟨rfl, st2⟩
    have h2 := h1.same st2
    have k2 := k1.same st2
    have hlt' : (n : Int) ≤ (s.size : Int) - (p' : Int) := by omega
    clear h1 st1 st2 k1
    go_wp2_with fail
    refine (reads_calls h2).mono ?_
    rintro e w4 ⟨rfl, rfl⟩
    by_cases hc0 : c' = 0
    · subst hc0
      go_wp2_with fail
      go_loopw [8, 9] (fun nv lv wr => ∃ (n1 p1 c1 : Nat) (sl : List ByteArray) (acc : List Kid) (ka ao : Option Addr) (ck cap : Nat), nv = .int .u64 n1 ∧ lv = .slice ka acc.length ck ∧ acc.length + n1 ≤ s.size ∧ sl.length ≤ acc.length ∧ Hid (RK w wr b s p1 c1 fb nb (decide (acc.length = 0)) sl ao cap) ∧ Hid (wr.ownsRow 0 37 33 (.slice ka acc.length ck) acc.length (kcellsL acc)) ∧ Hid (∀ k, ka.map (·.block) = some k → w.heap.size ≤ k ∧ ¬ RKf b fb nb ao k) ∧ Hid (rKids (rdKid q s) (fun p c => rText s p c (pg / 16)) n1 p1 c1 sl acc = R))
        (fun nv _ _ => (intOf nv).toNat)
      case atStart => exact ⟨n, p', 0, [], [], none, none, 0, 0, rfl, rfl, by simp; omega, by simp, k2, World.ownsRow_nil _ _ _ _, by (intro k hk; simp at hk), HR⟩
      case round =>
        clear h2 k2
        obtain ⟨n1, p1, c1, sl, acc, ka, ao, ck, cap, rfl, rfl, hle, hsl, HK, HOW, HFR, hd⟩ := hrel
        have h2 := HK.out.rd
        by_cases hn1 : n1 = 0
        · subst hn1
          have hRe : Hid (R = (sl, acc, p1, c1)) := by show _ = _; rw [← hd.out]; rfl
          clear hd
          go_wp2_with fail
          refine (reads_calls h2).mono ?_
          rintro e w4 ⟨rfl, rfl⟩
          by_cases hc1 : c1 = 0
          · subst hc1
            go_wp2_with fail
            go_ret
            have e : Rf = (sl, acc, p1, 0) := by rw [HR2.out, hRe.out]; rfl
            rw [e]
            exact ⟨ka, ck, ao, cap, _, rfl, HOW.out, HFR.out, HK.out⟩
          · have hcb : (c1 == 0) = false := by simpa using hc1
            go_wp2_with fail
            go_ret
            have e : Rf = (sl, [], p1, c1) := by rw [HR2.out, hRe.out]; simp [hc1]
            rw [e]
            exact ⟨none, 0, ao, cap, _, rfl, World.ownsRow_nil _ _ _ _, by simp, HK.out⟩
        · obtain ⟨n2, rfl⟩ : ∃ n2, n1 = n2 + 1 := ⟨n1 - 1, by omega⟩
          have hpos : 0 < n2 + 1 := by omega
          clear hn1
          by_cases hc1 : c1 = 0
          · subst hc1
            obtain ⟨x, sl2, p3, c3, hox, hd2, hsl2, HS0⟩ : ∃ x sl2 p3 c3, KidOk x ∧ rKids (rdKid q s) (fun p c => rText s p c (pg / 16)) n2 p3 c3 sl2 (acc ++ [x]) = R ∧ sl2.length ≤ acc.length + 1 ∧ Calls Try.prog 77 #[.pointer (some ⟨b, 0, none⟩), .pointer (some ⟨fb, 0, none⟩), .pointer (some ⟨nb, 0, none⟩), .pointer (some ⟨ab, 0, none⟩), .pointer (some ⟨xb, 0, none⟩)] wr fun e w' => e = .returned (kidV x) ∧ ∃ ao2 cap2, RK w w' b s p3 c3 fb nb false sl2 ao2 cap2 ∧ Fr (RKf b fb nb ao) wr w' ∧ ∀ k, ao2.map (·.block) = some k → ao.map (·.block) = some k ∨ wr.heap.size ≤ k := by
              have hK := HK.out
              have hdd := hd.out
              rw [rKids, if_pos rfl] at hdd
              by_cases hz : acc.length = 0
              · rw [if_pos hz] at hdd
                rw [decide_eq_true hz] at hK
                refine ⟨_, _, _, _, rdKid_ok q s p1 0, hdd, by omega, (kidOne_page q hK hx ha).mono fun e w' ⟨he, h3, st⟩ => ⟨he, ao, cap, h3, st, fun k hk => Or.inl hk⟩⟩
              · rw [if_neg hz] at hdd
                rw [decide_eq_false hz] at hK
                refine ⟨_, _, _, _, rdKid_ok q s _ _, hdd, by simp; omega, kidTwo_page hpg q hK (by omega) hx ha0 ha rfl⟩
            have HS : Hid (Calls Try.prog 77 #[.pointer (some ⟨b, 0, none⟩), .pointer (some ⟨fb, 0, none⟩), .pointer (some ⟨nb, 0, none⟩), .pointer (some ⟨ab, 0, none⟩), .pointer (some ⟨xb, 0, none⟩)] wr fun e w' => e = .returned (kidV x) ∧ ∃ ao2 cap2, RK w w' b s p3 c3 fb nb false sl2 ao2 cap2 ∧ Fr (RKf b fb nb ao) wr w' ∧ ∀ k, ao2.map (·.block) = some k → ao.map (·.block) = some k ∨ wr.heap.size ≤ k) := HS0
            have HD2 : Hid (rKids (rdKid q s) (fun p c => rText s p c (pg / 16)) n2 p3 c3 sl2 (acc ++ [x]) = R) := hd2
            have HKL : Hid (∀ k, ka.map (·.block) = some k → k < wr.heap.size) := fun k hk => own_lt2 HOW.out (by rw [own_blk]; exact hk)
            have hbw : w.heap.size ≤ wr.heap.size := HK.out.base.size
            have hkx : (kcells x).length = 33 := kcells_length hox.d
            have hk1 : ∀ u ∈ kcells x, u.oneCell' = true := by
              intro u hu
              simp only [kcells, List.mem_cons, bcells, List.mem_map] at hu
              rcases hu with rfl | ⟨y, _, rfl⟩ <;> rfl
            clear HS0 hd hd2 HK
            go_wp2_with (go_at_call 88; refine (reads_calls h2).mono ?_; rintro e w' ⟨rfl, rfl⟩)
            refine HS.out.mono ?_
            rintro e w5 ⟨rfl, ao2, cap2, h5, st5, hat5⟩
            have hown5 : w5.ownsRow 0 37 33 (.slice ka acc.length ck) acc.length (kcellsL acc) := own_frame2 HOW.out st5 (fun k hk e => (HFR.out k (by rw [← own_blk]; exact hk)).2 e)
            have HFR2 : Hid (∀ k, ka.map (·.block) = some k → w.heap.size ≤ k ∧ ¬ RKf b fb nb ao2 k) := fun k hk => ⟨(HFR.out k hk).1, by
              have h0 := (HFR.out k hk).2
              rintro (e | e | e | e)
              · exact h0 (Or.inl e)
              · exact h0 (Or.inr (Or.inl e))
              · exact h0 (Or.inr (Or.inr (Or.inl e)))
              · rcases hat5 k e.symm with e2 | e2
                · exact h0 (Or.inr (Or.inr (Or.inr e2.symm)))
                · have := HKL.out k hk; omega⟩
            have HFB2 : Hid (∀ k, ao2.map (·.block) = some k → k < w5.heap.size) := fun k hk => own_lt2 h5.own (by rw [own_blk]; exact hk)
            have hsz5 := st5.size
            clear h2 st5 HS hat5 HFR HOW
            unfold kidV
            have hfold := kid_fold (kcells x) hkx
            have HAPP : Hid (kcellsL (acc ++ [x]) = kcellsL acc ++ kcells x) := by show _ = _; rw [kcellsL_append]; simp [kcellsL]
            have HNW : Hid (∀ j u, (kcells x)[j]? = some u → (w5.alloc (.cells (kcells x).toArray 37)).cell? ((⟨w5.heap.size, 0, none⟩ : Addr).add j) = some u) := fun j u hu => by
              rw [Addr.add_mid, Nat.zero_add, cell_of_row _ _ _ _ _ _ (heap_alloc_new w5 _), List.getElem?_toArray]
              exact hu
            generalize kcells x = KL at *
            go_wp2_with (at_builtin; go_must (refine wpList_append_lies _ (by rfl) _ _ _ (by rfl) 0 37 i0 (kidV zeroKid) 33 36 Try.underlying24 hi hz0 hz1 hz2 rfl (by decide) _ _ _ (by rfl) (hown5.alloc _) ⟨w5.heap.size, 0, none⟩ 1 1 KL (by rfl) ?_ HNW.out hk1 (by decide) ?_ ?_ (Nat.zero_le _) (w5.heap.size + 1) (by simp) ?_))
            · omega
            · unfold maxLen; omega
            · omega
            · intro g2 ck2 w6 hown6 hgrow hat hlt6
              rw [own_blk] at hgrow hat
              have hbw2 := h5.base.size
              have h6 : RK w w6 b s p3 c3 fb nb false sl2 ao2 cap2 := (h5.same ((Fr.refl _ w5).alloc _)).frame (S := fun k => some k = ka.map (·.block)) (Fr.grown (Fr.refl _ _) hgrow (fun k hk _ => hk.symm)) (fun k hk => HFR2.out k hk.symm)
              have HF6 : Hid (∀ k, (some (⟨g2, 0, none⟩ : Addr)).map (·.block) = some k → w.heap.size ≤ k ∧ ¬ RKf b fb nb ao2 k) := by
                intro k hk
                have : g2 = k := by simpa using hk
                subst this
                rcases hat with h' | h'
                · exact HFR2.out g2 h'
                · refine ⟨by omega, ?_⟩
                  have l1 := h5.rd.lt
                  have l2 := lt_of_heap h5.ff
                  have l3 := lt_of_heap h5.nf
                  rintro (e | e | e | e)
                  · omega
                  · omega
                  · omega
                  · have := HFB2.out g2 e.symm; omega
              have HO6 : Hid (w6.ownsRow 0 37 33 (.slice (some ⟨g2, 0, none⟩) (acc ++ [x]).length ck2) (acc ++ [x]).length (kcellsL (acc ++ [x]))) := by
                show World.ownsRow _ _ _ _ _ _ _
                rw [HAPP.out]; simpa using hown6
              have H6 : Hid (RK w w6 b s p3 c3 fb nb (decide ((acc ++ [x]).length = 0)) sl2 ao2 cap2) := by
                show RK _ _ _ _ _ _ _ _ _ _ _ _
                rw [decide_eq_false (by simp)]; exact h6
              clear hown6 hgrow hat hown5 h5 h6 HFR2 HFB2 HNW HAPP
              go_wp2
              go_roundw
              case rel => exact ⟨n2, p3, c3, sl2, acc ++ [x], some ⟨g2, 0, none⟩, ao2, ck2, cap2, by go_num, by simp, by simp; omega, by simp; omega, H6, HO6, HF6, HD2⟩
              case measure => simp [intOf]
          · have hcb : (c1 == 0) = false := by simpa using hc1
            have hRe : Hid (R = (sl, acc, p1, c1)) := by show _ = _; rw [← hd.out, rKids, if_neg hc1]
            clear hd
            go_wp2_with (go_at_call 88; refine (reads_calls h2).mono ?_; rintro e w' ⟨rfl, rfl⟩)
            go_ret
            have e : Rf = (sl, [], p1, c1) := by rw [HR2.out, hRe.out]; simp [hc1]
            rw [e]
            exact ⟨none, 0, ao, cap, _, rfl, World.ownsRow_nil _ _ _ _, by simp, HK.out⟩
    · have hn0 : n = 0 := hcode hc0
      have hcb : (c' == 0) = false := by simpa using hc0
      have hRe : Hid (Rf = ([], [], p', c')) := by
        show _ = _
        have : R = ([], [], p', c') := by rw [← HR.out, hn0]; rfl
        rw [HR2.out, this]; simp [hc0]
      go_wp2_with fail
      go_ret
      rw [hRe.out]
      exact ⟨none, 0, none, 0, true, rfl, World.ownsRow_nil _ _ _ _, by simp, k2⟩
end Go.Proofs.Ytjlbkagkmcelgaa
