/-
  Walks: lists of lists of bytes.
-/
import Derived.Test.YtcbbjicoedeioaaWM
namespace Go.Proofs.Ytcbbjicoedeioaa
open Go.RowKit

abbrev vByte : Nat → Value := fun n => .int .u8 (n : Int)
def rdBytes (s : ByteArray) (p c : Nat) : List Nat × Nat × Nat := rListG (rdByte s) s p c 1099511627776

/-- Slices of bytes, each in a row of its own from block B on. -/
def Rows5 (B : Nat) (w : World) (av : List Value) (acc : List (List Nat)) : Prop :=
  av.length = acc.length ∧ ∀ (i : Nat) (v : Value), av[i]? = some v → ∃ (l : List Nat) (ao : Option Addr) (cap : Nat), acc[i]? = some l ∧ v = .slice ao l.length cap ∧ w.ownsRow 0 5 1 v l.length (vals vByte l) ∧ (∀ k, ao.map (·.block) = some k → B ≤ k)
theorem Rows5.nil (B : Nat) (w : World) : Rows5 B w [] [] := ⟨rfl, by intro i v h; simp at h⟩
theorem Rows5.rd {B : Nat} {w w' : World} {av : List Value} {acc : List (List Nat)} {b : Nat} (h : Rows5 B w av acc) (st : RdStep b w w') (hb : b < B) : Rows5 B w' av acc := by
  refine ⟨h.1, fun i v hv => ?_⟩
  obtain ⟨l, ao, cap, h1, h2, h3, h4⟩ := h.2 i v hv
  refine ⟨l, ao, cap, h1, h2, own_frame h3 st ?_, h4⟩
  intro k hk e
  have := h4 k (by rw [← hk, h2]; cases ao <;> rfl)
  omega
theorem Rows5.push {B : Nat} {w w' : World} {av : List Value} {acc : List (List Nat)} {ai ao : Option Addr} {ci n cap : Nat} {t : List Nat} {o : Obj} {xs : List Value} (h : Rows5 B w av acc) (hin : w.ownsRow 0 5 1 (.slice ai t.length ci) t.length (vals vByte t))
    (hfi : ∀ k, ai.map (·.block) = some k → B ≤ k) (hown : w.ownsRow 0 67 1 (.slice ao n cap) n xs) (hg : (w.alloc o).grownBy w' (Value.ownBlock (.slice ao n cap))) : Rows5 B w' (av ++ [.slice ai t.length ci]) (acc ++ [t]) := by
  have keep : ∀ {v : Value} {m : Nat} {ys : List Value}, w.ownsRow 0 5 1 v m ys → w'.ownsRow 0 5 1 v m ys := by
    intro v m ys hv
    refine own_frame (S := fun k => some k = Value.ownBlock (.slice ao n cap)) hv (((Fr.refl _ w).alloc o).grown hg (fun k hk _ => hk.symm)) ?_
    intro k hk e
    rcases hown.2 with ⟨hv0, _⟩ | ⟨g, c2, cur, hv1, _, hg1, _⟩
    · rw [hv0] at e; simp [Value.ownBlock] at e
    · have : k = g := by rw [hv1] at e; simpa [Value.ownBlock] using e
      subst this
      exact own_ne hv hg1 (by decide) hk
  refine ⟨by simp [h.1], fun i v hv => ?_⟩
  by_cases hi : i < av.length
  · rw [List.getElem?_append_left hi] at hv
    obtain ⟨l, ao1, cap1, h1, h2, h3, h4⟩ := h.2 i v hv
    exact ⟨l, ao1, cap1, by rw [List.getElem?_append_left (by rw [← h.1]; exact hi)]; exact h1, h2, keep h3, h4⟩
  · rw [List.getElem?_append_right (by omega)] at hv
    have hi0 : i - av.length = 0 := by
      have := (List.getElem?_eq_some_iff.1 hv).1
      simp at this; omega
    rw [hi0] at hv
    simp at hv
    subst hv
    refine ⟨t, ai, ci, ?_, rfl, keep hin, hfi⟩
    rw [List.getElem?_append_right (by rw [← h.1]; omega), ← h.1, hi0]; rfl

theorem fn_RBytes {w : World} {b : Nat} {s : ByteArray} {p c : Nat} (h : RdAt w b s p c) (hsz : s.size ≤ 1000000000000) :
    Calls Try.prog 85 #[.pointer (some ⟨b, 0, none⟩)] w fun e w' => ∃ ai ci, e = .returned (.slice ai (rdBytes s p c).1.length ci) ∧ w'.ownsRow 0 5 1 (.slice ai (rdBytes s p c).1.length ci) (rdBytes s p c).1.length (vals vByte (rdBytes s p c).1) ∧ (∀ k, ai.map (·.block) = some k → w.heap.size ≤ k) ∧ RdAt w' b s (rdBytes s p c).2.1 (rdBytes s p c).2.2 ∧ RdStep b w w' := by
  have HT : Hid (Calls Try.prog 102 #[.pointer (some ⟨b, 0, none⟩), .int .i64 1099511627776, .func (.func 103) #[] #[]] w fun e w' => ∃ ai ci, e = .returned (.slice ai (rdBytes s p c).1.length ci) ∧ w'.ownsRow 0 5 1 (.slice ai (rdBytes s p c).1.length ci) (rdBytes s p c).1.length (vals vByte (rdBytes s p c).1) ∧ (∀ k, ai.map (·.block) = some k → w.heap.size ≤ k) ∧ RdAt w' b s (rdBytes s p c).2.1 (rdBytes s p c).2.2 ∧ RdStep b w w') := list_RByte h hsz 1099511627776 (by decide)
  go_enter Try.func85, Try.ntmps85
  go_wp2_with fail
  refine HT.out.mono ?_
  rintro e w1 ⟨ai, ci, rfl, h1, h2, h3, st1⟩
  go_wp2_with fail
  go_ret
  exact ⟨ai, ci, rfl, h1, h2, h3, st1⟩
theorem Try.infRBytes : (Try.prog.info? 67).map (fun i => (i.zero, i.size, i.bytes)) = some (some (.slice none 0 0), 1, 24) := by kernel_rfl
theorem eql_rdRBytes (W : World) : (binOp .eql 122 (.func (.func 85) #[] #[]) .nilFunc).run Try.prog W = .ok (.bool false) W := by kernel_rfl

set_option maxRecDepth 100000 in
set_option maxHeartbeats 2000000 in
theorem list_RBytes {w : World} {b : Nat} {s : ByteArray} {p c : Nat} (h : RdAt w b s p c) (hsz : s.size ≤ 1000000000000) (m : Nat) (hm : m ≤ 9223372036854775807) :
    Calls Try.prog 84 #[.pointer (some ⟨b, 0, none⟩), .int .i64 m, .func (.func 85) #[] #[]] w fun e w' => ∃ ao cap av, e = .returned (.slice ao (rListG (rdBytes s) s p c m).1.length cap) ∧
      w'.ownsRow 0 67 1 (.slice ao (rListG (rdBytes s) s p c m).1.length cap) (rListG (rdBytes s) s p c m).1.length av ∧ Rows5 w.heap.size w' av (rListG (rdBytes s) s p c m).1 ∧ (∀ k, ao.map (·.block) = some k → w.heap.size ≤ k) ∧ RdAt w' b s (rListG (rdBytes s) s p c m).2.1 (rListG (rdBytes s) s p c m).2.2 ∧ RdStep b w w' := by
  have hp := h.2.1
  have hbw := h.lt
  obtain ⟨i0, hi, hz0, hz1, hz2⟩ := info_parts Try.infRBytes
  have hef := eql_rdRBytes
  have HC : Hid (∀ W, Calls Try.prog 63 #[.int .i64 m] W fun e w' => e = .returned (.int .i64 m) ∧ W = w') := fun W => by
    have := counted_calls W m; rw [show max (m : Int) 0 = (m : Int) from by omega] at this; exact this
  have HF0 := rfree_calls h m (by omega)
  have hl := (rFree_lt s p c m)
  have hpl := rFree_place s p c m hp
  obtain ⟨n, p', c', hr⟩ : ∃ n p' c', rFree s p c m = (n, p', c') := ⟨_, _, _, rfl⟩
  have hcode := rFree_code s p c m
  have hx : rCount s p c m = if s.size - p' < n then (0, p, 12) else (n, p', c') := by unfold rCount; rw [hr]
  rw [hr] at HF0 hl hpl hcode
  simp only at hl hpl hcode
  have HF : Hid (Calls Try.prog 18 #[.pointer (some ⟨b, 0, none⟩), .int .u64 m] w fun e w' => e = .returned (.int .u64 n) ∧ RdAt w' b s p' c' ∧ RdStep b w w') := HF0
  clear HF0 hr
  by_cases hlt : s.size - p' < n
  · rw [if_pos hlt] at hx
    have hy : rListG (rdBytes s) s p c m = ([], p, 12) := by unfold rListG; rw [hx]; simp [rMany]
    rw [hy]
    clear hx hy
    go_enter Try.func84, Try.ntmps84
    go_wp2_with (first | (go_at_call 24; refine (at_calls h).mono ?_; rintro e w' ⟨rfl, rfl⟩) | (go_at_call 63; refine (HC.out _).mono ?_; rintro e w' ⟨rfl, rfl⟩))
    refine HF.out.mono ?_
    rintro e w1 ⟨rfl, h1, st1⟩
    go_wp2_with fail
    refine (left_calls h1).mono ?_
    rintro e w2 ⟨rfl, st2⟩
    have hlt' : (s.size : Int) - (p' : Int) < (n : Int) := by omega
    go_wp2_with fail
    refine (fail_calls (h1.same st2) p 12 hp).mono ?_
    rintro e w3 ⟨rfl, h3, st3⟩
    go_wp2_with fail
    refine (reads_calls h3).mono ?_
    rintro e w4 ⟨rfl, rfl⟩
    go_wp2_with fail
    go_ret
    exact ⟨none, 0, [], rfl, World.ownsRow_nil _ _ _ _, Rows5.nil _ _, by simp, h3, (st1.trans (Same.rd st2 b)).trans st3⟩
  · rw [if_neg hlt] at hx
    obtain ⟨R, hR⟩ : ∃ R, R = rMany (rdBytes s) n p' c' [] := ⟨_, rfl⟩
    have hy : rListG (rdBytes s) s p c m = if R.2.2 = 0 then R else ([], R.2) := by unfold rListG; rw [hx, ← hR]
    obtain ⟨Rf, hRf⟩ : ∃ Rf, Rf = if R.2.2 = 0 then R else ([], R.2) := ⟨_, rfl⟩
    rw [hy, ← hRf]
    have HRf : Hid (Rf = if R.2.2 = 0 then R else ([], R.2)) := hRf
    have HR : Hid (rMany (rdBytes s) n p' c' [] = R) := hR.symm
    clear hx hy hR hRf
    go_enter Try.func84, Try.ntmps84
    go_wp2_with (first | (go_at_call 24; refine (at_calls h).mono ?_; rintro e w' ⟨rfl, rfl⟩) | (go_at_call 63; refine (HC.out _).mono ?_; rintro e w' ⟨rfl, rfl⟩))
    refine HF.out.mono ?_
    rintro e w1 ⟨rfl, h1, st1⟩
    go_wp2_with fail
    refine (left_calls h1).mono ?_
    rintro e w2 ⟨rfl, st2⟩
    have h2 := h1.same st2
    have st12 : RdStep b w w2 := st1.trans (Same.rd st2 b)
    have hlt' : (n : Int) ≤ (s.size : Int) - (p' : Int) := by omega
    clear h1 st1 st2
    go_wp2_with fail
    refine (reads_calls h2).mono ?_
    rintro e w4 ⟨rfl, rfl⟩
    by_cases hc0 : c' = 0
    · subst hc0
      go_wp2_with fail
      go_loopw [8, 9] (fun nv lv wr => ∃ (n1 p1 c1 : Nat) (acc : List (List Nat)) (av : List Value) (ao : Option Addr) (cap : Nat), nv = .int .u64 n1 ∧ lv = .slice ao acc.length cap ∧ acc.length + n1 ≤ s.size ∧ RdAt wr b s p1 c1 ∧ wr.ownsRow 0 67 1 (.slice ao acc.length cap) acc.length av ∧ Rows5 w.heap.size wr av acc ∧ (∀ k, ao.map (·.block) = some k → w.heap.size ≤ k) ∧ Hid (rMany (rdBytes s) n1 p1 c1 acc = R) ∧ RdStep b w wr)
        (fun nv _ _ => (intOf nv).toNat)
      case atStart => exact ⟨n, p', 0, [], [], none, 0, rfl, rfl, by simp; omega, h2, World.ownsRow_nil _ _ _ _, Rows5.nil _ _, by simp, HR, st12⟩
      case round =>
        clear h2 st12
        obtain ⟨n1, p1, c1, acc, av, ao, cap, rfl, rfl, hle, h2, hown, hr5, hfre, hd, hst⟩ := hrel
        have HW : Hid (Value.ownBlock (.slice ao acc.length cap) = ao.map (·.block)) := by show _ = _; cases ao <;> rfl
        by_cases hn1 : n1 = 0
        · subst hn1
          have hRe : Hid (R = (acc, p1, c1)) := by show _ = _; rw [← hd.out]; rfl
          clear hd
          go_wp2_with fail
          refine (reads_calls h2).mono ?_
          rintro e w4 ⟨rfl, rfl⟩
          by_cases hc1 : c1 = 0
          · subst hc1
            go_wp2_with fail
            go_ret
            have e : Rf = (acc, p1, 0) := by rw [HRf.out, hRe.out]; rfl
            rw [e]
            exact ⟨ao, cap, av, rfl, hown, hr5, hfre, h2, hst⟩
          · have hcb : (c1 == 0) = false := by simpa using hc1
            go_wp2_with fail
            go_ret
            have e : Rf = ([], p1, c1) := by rw [HRf.out, hRe.out]; simp [hc1]
            rw [e]
            exact ⟨none, 0, [], rfl, World.ownsRow_nil _ _ _ _, Rows5.nil _ _, by simp, h2, hst⟩
        · obtain ⟨n2, rfl⟩ : ∃ n2, n1 = n2 + 1 := ⟨n1 - 1, by omega⟩
          have hpos : 0 < n2 + 1 := by omega
          clear hn1
          by_cases hc1 : c1 = 0
          · subst hc1
            have hd2 : Hid (rMany (rdBytes s) n2 (rdBytes s p1 0).2.1 (rdBytes s p1 0).2.2 (acc ++ [(rdBytes s p1 0).1]) = R) := by
              have := hd.out; rw [rMany, if_pos rfl] at this; exact this
            have HS0 := fn_RBytes h2 hsz
            obtain ⟨t, p3, c3, ht⟩ : ∃ t p3 c3, rdBytes s p1 0 = (t, p3, c3) := ⟨_, _, _, rfl⟩
            rw [ht] at hd2 HS0
            have HS : Hid (Calls Try.prog 85 #[.pointer (some ⟨b, 0, none⟩)] wr fun e w' => ∃ ai ci, e = .returned (.slice ai t.length ci) ∧ w'.ownsRow 0 5 1 (.slice ai t.length ci) t.length (vals vByte t) ∧ (∀ k, ai.map (·.block) = some k → wr.heap.size ≤ k) ∧ RdAt w' b s p3 c3 ∧ RdStep b wr w') := HS0
            clear HS0 ht hd
            go_wp2_with (go_at_call 65; refine (reads_calls h2).mono ?_; rintro e w' ⟨rfl, rfl⟩)
            refine HS.out.mono ?_
            rintro e w5 ⟨ai, ci, rfl, hin5, hfi5, h5, st5⟩
            have hown5 : w5.ownsRow 0 67 1 (.slice ao acc.length cap) acc.length av := own_frame hown st5 (by
              intro k hk e; have := hfre k (by rw [← HW.out]; exact hk); omega)
            have hst5 := hst.trans st5
            have hr55 : Rows5 w.heap.size w5 av acc := hr5.rd st5 hbw
            have hwz : w.heap.size ≤ wr.heap.size := hst.size
            clear hown h2 st5 hst HS hr5
            go_wp2_with (at_builtin; go_must (refine wpList_append_lies _ (by rfl) _ _ _ (by rfl) 0 67 i0 (.slice none 0 0) 1 24 Try.underlying120 hi hz0 hz1 hz2 rfl (by decide) _ _ _ (by rfl) (hown5.alloc _) ⟨w5.heap.size, 0, none⟩ 1 1 _ (by rfl) ?_ (World.news_of_block (heap_alloc_new w5 _)) ?_ (by decide) ?_ ?_ (Nat.zero_le _) (w5.heap.size + 1) (by simp) ?_))
            · exact rfl
            · unfold maxLen; omega
            · omega
            · intro g2 cap2 w6 hown6 hgrow hat hlt6
              have hnb : some b ≠ Value.ownBlock (.slice ao acc.length cap) := by
                intro e; have := hfre b (by rw [← HW.out]; exact e.symm); omega
              have st6 : RdStep b w w6 := (Fr.alloc hst5 _).grown hgrow (fun k hk hlt => by have := hfre k (by rw [← HW.out]; exact hk); omega)
              have h6 : RdAt w6 b s p3 c3 := h5.frame (S := fun k => some k = Value.ownBlock (.slice ao acc.length cap)) (((Fr.refl _ w5).alloc _).grown hgrow (fun k hk _ => hk.symm)) hnb
              have hf6 : ∀ k, (some (⟨g2, 0, none⟩ : Addr)).map (·.block) = some k → w.heap.size ≤ k := by
                intro k hk
                have : g2 = k := by simpa using hk
                subst this
                rcases hat with h' | h'
                · exact hfre g2 (by rw [← HW.out]; exact h')
                · have := hst5.size; omega
              have hown7 : w6.ownsRow 0 67 1 (.slice (some ⟨g2, 0, none⟩) (acc ++ [t]).length cap2) (acc ++ [t]).length (av ++ [.slice ai t.length ci]) := by
                simpa using hown6
              have hr7 : Rows5 w.heap.size w6 (av ++ [.slice ai t.length ci]) (acc ++ [t]) := Rows5.push hr55 hin5 (fun k hk => by have := hfi5 k hk; omega) hown5 hgrow
              clear hown6 hgrow hat hown5 h5 hst5 hfre hnb hr55 hin5 hfi5
              go_wp2
              go_roundw
              case rel => exact ⟨n2, p3, c3, acc ++ [t], av ++ [.slice ai t.length ci], some ⟨g2, 0, none⟩, cap2, by go_num, by simp, by simp; omega, h6, hown7, hr7, hf6, hd2, st6⟩
              case measure => simp [intOf]
          · have hcb : (c1 == 0) = false := by simpa using hc1
            have hRe : Hid (R = (acc, p1, c1)) := by show _ = _; rw [← hd.out, rMany, if_neg hc1]
            clear hd
            go_wp2_with (go_at_call 65; refine (reads_calls h2).mono ?_; rintro e w' ⟨rfl, rfl⟩)
            go_ret
            have e : Rf = ([], p1, c1) := by rw [HRf.out, hRe.out]; simp [hc1]
            rw [e]
            exact ⟨none, 0, [], rfl, World.ownsRow_nil _ _ _ _, Rows5.nil _ _, by simp, h2, hst⟩
    · have hn0 : n = 0 := hcode hc0
      have hcb : (c' == 0) = false := by simpa using hc0
      have hRe : Hid (Rf = ([], p', c')) := by
        show _ = _
        have : R = ([], p', c') := by rw [← HR.out, hn0]; rfl
        rw [HRf.out, this]; simp [hc0]
      go_wp2_with fail
      go_ret
      rw [hRe.out]
      exact ⟨none, 0, [], rfl, World.ownsRow_nil _ _ _ _, Rows5.nil _ _, by simp, h2, st12⟩
end Go.Proofs.Ytcbbjicoedeioaa
