/-
  Walks: List over texts, Split.
-/
import Derived.Test.YtbdlebjhmhmnnaaDoorWB
import Derived.Test.YtbdlebjhmhmnnaaDoorR1
import Derived.Deep.AppendLies
namespace Go.Proofs.YtbdlebjhmhmnnaaDoor
open Go.RowKit

theorem Tryd.info9 : (Tryd.prog.info? 9).map (fun i => (i.zero, i.size, i.bytes)) = some (some (.string ⟨#[]⟩), 1, 16) := by kernel_rfl
theorem eql_func_r (W : World) : (binOp .eql 70 (.func (.func 41) #[] #[]) .nilFunc).run Tryd.prog W = .ok (.bool false) W := by kernel_rfl

theorem split1_calls {w : World} {b : Nat} {s : ByteArray} {p c : Nat} (h : RdAt w b s p c) :
    Calls Tryd.prog 41 #[.pointer (some ⟨b, 0, none⟩)] w fun e w' => e = .returned (.string (rText s p c 9223372036854775807).1) ∧ RdAt w' b s (rText s p c 9223372036854775807).2.1 (rText s p c 9223372036854775807).2.2 ∧ RdStep b w w' := by
  have HT : Hid (Calls Tryd.prog 20 #[.pointer (some ⟨b, 0, none⟩), .int .i64 9223372036854775807] w fun e w' => e = .returned (.string (rText s p c 9223372036854775807).1) ∧ RdAt w' b s (rText s p c 9223372036854775807).2.1 (rText s p c 9223372036854775807).2.2 ∧ RdStep b w w') := rtext_calls h 9223372036854775807 (by decide)
  go_enter Tryd.func41, Tryd.ntmps41
  go_wp2_with fail
  refine HT.out.mono ?_
  rintro e w1 ⟨rfl, h1, st1⟩
  go_wp2_with fail
  go_ret
  exact ⟨rfl, h1, st1⟩

set_option maxRecDepth 100000 in
set_option maxHeartbeats 2000000 in
theorem list_split {w : World} {b : Nat} {s : ByteArray} {p c : Nat} (h : RdAt w b s p c) (hsz : s.size ≤ 1000000000000) (m : Nat) (hm : m ≤ 9223372036854775807) :
    Calls Tryd.prog 40 #[.pointer (some ⟨b, 0, none⟩), .int .i64 m, .func (.func 41) #[] #[]] w fun e w' => ∃ ao cap, e = .returned (.slice ao (rListT s p c m 9223372036854775807).1.length cap) ∧
      w'.ownsRow 0 9 1 (.slice ao (rListT s p c m 9223372036854775807).1.length cap) (rListT s p c m 9223372036854775807).1.length (strs (rListT s p c m 9223372036854775807).1) ∧ (∀ k, ao.map (·.block) = some k → w.heap.size ≤ k) ∧ RdAt w' b s (rListT s p c m 9223372036854775807).2.1 (rListT s p c m 9223372036854775807).2.2 ∧ RdStep b w w' := by
  have hp := h.2.1
  have hbw := h.lt
  obtain ⟨i0, hi, hz0, hz1, hz2⟩ := info_parts Tryd.info9
  have hef := eql_func_r
  have HC : Hid (∀ W, Calls Tryd.prog 36 #[.int .i64 m] W fun e w' => e = .returned (.int .i64 m) ∧ W = w') := fun W => by
    have := counted_calls W m; rw [show max (m : Int) 0 = (m : Int) from by omega] at this; exact this
  have HF0 := rfree_calls h m (by omega)
  have hl := (rFree_lt s p c m)
  have hpl := rFree_place s p c m hp
  obtain ⟨n, p', c', hr⟩ : ∃ n p' c', rFree s p c m = (n, p', c') := ⟨_, _, _, rfl⟩
  have hcode := rFree_code s p c m
  have hx : rCount s p c m = if s.size - p' < n then (0, p, 12) else (n, p', c') := by unfold rCount; rw [hr]
  rw [hr] at HF0 hl hpl hcode
  simp only at hl hpl hcode
  have HF : Hid (Calls Tryd.prog 18 #[.pointer (some ⟨b, 0, none⟩), .int .u64 m] w fun e w' => e = .returned (.int .u64 n) ∧ RdAt w' b s p' c' ∧ RdStep b w w') := HF0
  clear HF0 hr
  by_cases hlt : s.size - p' < n
  · rw [if_pos hlt] at hx
    have hy : rListT s p c m 9223372036854775807 = ([], p, 12) := by unfold rListT; rw [hx]; simp [rTexts]
    rw [hy]
    clear hx hy
    go_enter Tryd.func40, Tryd.ntmps40
    go_wp2_with (first | (go_at_call 35; refine (at_calls h).mono ?_; rintro e w' ⟨rfl, rfl⟩) | (go_at_call 36; refine (HC.out _).mono ?_; rintro e w' ⟨rfl, rfl⟩))
    refine HF.out.mono ?_
    rintro e w1 ⟨rfl, h1, st1⟩
    go_wp2_with fail
    refine (left_calls h1).mono ?_
    rintro e w2 ⟨rfl, st2⟩
    have hlt' : (s.size : Int) - (p' : Int) < (n : Int) := by omega
    go_wp2_with fail
    refine (fail_calls (h1.same st2) p 12 hp).mono ?_
    rintro e w3 ⟨rfl, h3, st3⟩
    go_wp2_with fail
    refine (reads_calls h3).mono ?_
    rintro e w4 ⟨rfl, rfl⟩
    go_wp2_with fail
    go_ret
    exact ⟨none, 0, rfl, World.ownsRow_nil _ _ _ _, by simp, h3, (st1.trans (Same.rd st2 b)).trans st3⟩
  · rw [if_neg hlt] at hx
    obtain ⟨R, hR⟩ : ∃ R, R = rTexts s 9223372036854775807 n p' c' [] := ⟨_, rfl⟩
    have hy : rListT s p c m 9223372036854775807 = if R.2.2 = 0 then R else ([], R.2) := by unfold rListT; rw [hx, ← hR]
    obtain ⟨Rf, hRf⟩ : ∃ Rf, Rf = if R.2.2 = 0 then R else ([], R.2) := ⟨_, rfl⟩
    rw [hy, ← hRf]
    have HRf : Hid (Rf = if R.2.2 = 0 then R else ([], R.2)) := hRf
    have HR : Hid (rTexts s 9223372036854775807 n p' c' [] = R) := hR.symm
    clear hx hy hR hRf
    go_enter Tryd.func40, Tryd.ntmps40
    go_wp2_with (first | (go_at_call 35; refine (at_calls h).mono ?_; rintro e w' ⟨rfl, rfl⟩) | (go_at_call 36; refine (HC.out _).mono ?_; rintro e w' ⟨rfl, rfl⟩))
    refine HF.out.mono ?_
    rintro e w1 ⟨rfl, h1, st1⟩
    go_wp2_with fail
    refine (left_calls h1).mono ?_
    rintro e w2 ⟨rfl, st2⟩
    have h2 := h1.same st2
    have st12 : RdStep b w w2 := st1.trans (Same.rd st2 b)
    have hlt' : (n : Int) ≤ (s.size : Int) - (p' : Int) := by omega
    clear h1 st1 st2
    go_wp2_with fail
    refine (reads_calls h2).mono ?_
    rintro e w4 ⟨rfl, rfl⟩
    by_cases hc0 : c' = 0
    · subst hc0
      go_wp2_with fail
      go_loopw [8, 9] (fun nv lv wr => ∃ (n1 p1 c1 : Nat) (acc : List ByteArray) (ao : Option Addr) (cap : Nat), nv = .int .u64 n1 ∧ lv = .slice ao acc.length cap ∧ acc.length + n1 ≤ s.size ∧ RdAt wr b s p1 c1 ∧ wr.ownsRow 0 9 1 (.slice ao acc.length cap) acc.length (strs acc) ∧ (∀ k, ao.map (·.block) = some k → w.heap.size ≤ k) ∧ Hid (rTexts s 9223372036854775807 n1 p1 c1 acc = R) ∧ RdStep b w wr)
        (fun nv _ _ => (intOf nv).toNat)
      case atStart => exact ⟨n, p', 0, [], none, 0, rfl, rfl, by simp; omega, h2, World.ownsRow_nil _ _ _ _, by simp, HR, st12⟩
      case round =>
        clear h2 st12
        obtain ⟨n1, p1, c1, acc, ao, cap, rfl, rfl, hle, h2, hown, hfre, hd, hst⟩ := hrel
        have HW : Hid (Value.ownBlock (.slice ao acc.length cap) = ao.map (·.block)) := by show _ = _; cases ao <;> rfl
        by_cases hn1 : n1 = 0
        · subst hn1
          have hRe : Hid (R = (acc, p1, c1)) := by show _ = _; rw [← hd.out]; rfl
          clear hd
          go_wp2_with fail
          refine (reads_calls h2).mono ?_
          rintro e w4 ⟨rfl, rfl⟩
          by_cases hc1 : c1 = 0
          · subst hc1
            go_wp2_with fail
            go_ret
            have e : Rf = (acc, p1, 0) := by rw [HRf.out, hRe.out]; rfl
            rw [e]
            exact ⟨ao, cap, rfl, hown, hfre, h2, hst⟩
          · have hcb : (c1 == 0) = false := by simpa using hc1
            go_wp2_with fail
            go_ret
            have e : Rf = ([], p1, c1) := by rw [HRf.out, hRe.out]; simp [hc1]
            rw [e]
            exact ⟨none, 0, rfl, World.ownsRow_nil _ _ _ _, by simp, h2, hst⟩
        · obtain ⟨n2, rfl⟩ : ∃ n2, n1 = n2 + 1 := ⟨n1 - 1, by omega⟩
          have hpos : 0 < n2 + 1 := by omega
          clear hn1
          by_cases hc1 : c1 = 0
          · subst hc1
            have hd2 : Hid (rTexts s 9223372036854775807 n2 (rText s p1 0 9223372036854775807).2.1 (rText s p1 0 9223372036854775807).2.2 (acc ++ [(rText s p1 0 9223372036854775807).1]) = R) := by
              have := hd.out; rw [rTexts, if_pos rfl] at this; exact this
            have HS0 := split1_calls h2
            obtain ⟨t, p3, c3, ht⟩ : ∃ t p3 c3, rText s p1 0 9223372036854775807 = (t, p3, c3) := ⟨_, _, _, rfl⟩
            rw [ht] at hd2 HS0
            have HS : Hid (Calls Tryd.prog 41 #[.pointer (some ⟨b, 0, none⟩)] wr fun e w' => e = .returned (.string t) ∧ RdAt w' b s p3 c3 ∧ RdStep b wr w') := HS0
            clear HS0 ht hd
            go_wp2_with (go_at_call 32; refine (reads_calls h2).mono ?_; rintro e w' ⟨rfl, rfl⟩)
            refine HS.out.mono ?_
            rintro e w5 ⟨rfl, h5, st5⟩
            have hown5 : w5.ownsRow 0 9 1 (.slice ao acc.length cap) acc.length (strs acc) := own_frame hown st5 (by
              intro k hk e; have := hfre k (by rw [← HW.out]; exact hk); omega)
            have hst5 := hst.trans st5
            clear hown h2 st5 hst HS
            go_wp2_with (at_builtin; go_must (refine wpList_append_lies _ (by rfl) _ _ _ (by rfl) 0 9 i0 (.string ⟨#[]⟩) 1 16 Tryd.underlying47 hi hz0 hz1 hz2 rfl (by decide) _ _ _ (by rfl) (hown5.alloc _) ⟨w5.heap.size, 0, none⟩ 1 1 _ (by rfl) ?_ (World.news_of_block (heap_alloc_new w5 _)) ?_ (by decide) ?_ ?_ (Nat.zero_le _) (w5.heap.size + 1) (by simp) ?_))
            · exact rfl
            · unfold maxLen; omega
            · omega
            · intro g2 cap2 w6 hown6 hgrow hat hlt6
              have hnb : some b ≠ Value.ownBlock (.slice ao acc.length cap) := by
                intro e; have := hfre b (by rw [← HW.out]; exact e.symm); omega
              have st6 : RdStep b w w6 := (Fr.alloc hst5 _).grown hgrow (fun k hk hlt => by have := hfre k (by rw [← HW.out]; exact hk); omega)
              have h6 : RdAt w6 b s p3 c3 := h5.frame (S := fun k => some k = Value.ownBlock (.slice ao acc.length cap)) (((Fr.refl _ w5).alloc _).grown hgrow (fun k hk _ => hk.symm)) hnb
              have hf6 : ∀ k, (some (⟨g2, 0, none⟩ : Addr)).map (·.block) = some k → w.heap.size ≤ k := by
                intro k hk
                have : g2 = k := by simpa using hk
                subst this
                rcases hat with h' | h'
                · exact hfre g2 (by rw [← HW.out]; exact h')
                · have := hst5.size; omega
              have hown7 : w6.ownsRow 0 9 1 (.slice (some ⟨g2, 0, none⟩) (acc ++ [t]).length cap2) (acc ++ [t]).length (strs (acc ++ [t])) := by
                rw [strs_append]; simpa [strs] using hown6
              clear hown6 hgrow hat hown5 h5 hst5 hfre hnb
              go_wp2
              go_roundw
              case rel => exact ⟨n2, p3, c3, acc ++ [t], some ⟨g2, 0, none⟩, cap2, by go_num, by simp, by simp; omega, h6, hown7, hf6, hd2, st6⟩
              case measure => simp [intOf]
          · have hcb : (c1 == 0) = false := by simpa using hc1
            have hRe : Hid (R = (acc, p1, c1)) := by show _ = _; rw [← hd.out, rTexts, if_neg hc1]
            clear hd
            go_wp2_with (go_at_call 32; refine (reads_calls h2).mono ?_; rintro e w' ⟨rfl, rfl⟩)
            go_ret
            have e : Rf = ([], p1, c1) := by rw [HRf.out, hRe.out]; simp [hc1]
            rw [e]
            exact ⟨none, 0, rfl, World.ownsRow_nil _ _ _ _, by simp, h2, hst⟩
    · have hn0 : n = 0 := hcode hc0
      have hcb : (c' == 0) = false := by simpa using hc0
      have hRe : Hid (Rf = ([], p', c')) := by
        show _ = _
        have : R = ([], p', c') := by rw [← HR.out, hn0]; rfl
        rw [HRf.out, this]; simp [hc0]
      go_wp2_with fail
      go_ret
      rw [hRe.out]
      exact ⟨none, 0, rfl, World.ownsRow_nil _ _ _ _, by simp, h2, st12⟩
end Go.Proofs.YtbdlebjhmhmnnaaDoor
