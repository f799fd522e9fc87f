/-
  Walks: same, may.
-/
import Derived.Test.YtpkpklbambmbeaaDoorSI
namespace Go.Proofs.YtpkpklbambmbeaaDoor
open Go.RowKit

set_option maxRecDepth 100000 in
set_option maxHeartbeats 1000000 in
theorem same_calls {w : World} {pa qa : Option Addr} {pb po pc qb qo qc : Nat} {ss tt : List ByteArray} (h : SAt w pa pb po ss) (k : SAt w qa qb qo tt) (hl : ss.length ≤ 4194304) :
    Calls Tryd.prog 9 #[.slice pa ss.length pc, .slice qa tt.length qc] w fun e w' => e = .returned (.bool (decide (ss = tt))) ∧ Same w w' := by
  have HS : Hid (SAt w pa pb po ss) := h
  have HT : Hid (SAt w qa qb qo tt) := k
  clear h k
  by_cases hlen : ss.length = tt.length
  · obtain ⟨n, hn⟩ : ∃ n, n = ss.length := ⟨_, rfl⟩
    have hn2 : n = tt.length := by omega
    rw [← hn, ← hn2]
    rw [← hn] at hl
    have HN : Hid (n = ss.length ∧ n = tt.length) := ⟨hn, hn2⟩
    clear hn hn2 hlen
    go_enter Tryd.func9, Tryd.ntmps9
    go_wp2_with fail
    go_loopg [5] n (fun gg iv wr => ∃ k : Nat, iv = .int .i64 k ∧ k ≤ n ∧ gg = n - k ∧ Hid (ss.take k = tt.take k) ∧ Same w wr)
    case atStart => exact ⟨0, rfl, by omega, rfl, rfl, Fr.refl _ _⟩
    case round =>
      obtain ⟨k, rfl, hk, rfl, HK, sr⟩ := hrel
      obtain ⟨hn1, hn2⟩ := HN.out
      by_cases hgo : k < n
      · obtain ⟨s, hs⟩ : ∃ s, ss[k]? = some s := ⟨_, List.getElem?_eq_getElem (by omega)⟩
        obtain ⟨t, ht⟩ : ∃ t, tt[k]? = some t := ⟨_, List.getElem?_eq_getElem (by omega)⟩
        have hne : ss ≠ [] := by intro e; rw [e] at hs; simp at hs
        have hne2 : tt ≠ [] := by intro e; rw [e] at ht; simp at ht
        obtain ⟨rfl, _⟩ := HS.out.place hne
        obtain ⟨rfl, _⟩ := HT.out.place hne2
        have c1 := sr.keep (HS.out.cells k s hs)
        have c2 := sr.keep (HT.out.cells k t ht)
        have hgi : (k : Int) < (n : Int) := by omega
        by_cases hst : s = t
        · subst hst
          have HK2 : Hid (ss.take (k + 1) = tt.take (k + 1)) := by
            show _ = _
            rw [List.take_add_one, List.take_add_one, hs, ht, HK.out]
          clear hs ht hne hne2 hn1 hn2
          go_wp2_with fail
          go_region
          go_wp2_with fail
          go_roundg (n - (k + 1))
          case measure => omega
          case rel => exact ⟨k + 1, by go_num, by omega, rfl, HK2, sr.drew⟩
        · have HNO : Hid (decide (ss = tt) = false) := by
            show _ = _
            simp
            intro e
            rw [e, ht] at hs
            simp at hs
            exact hst hs.symm
          have hq : (s.toList == t.toList) = false := by
            rw [ByteArray.toList_eq, ByteArray.toList_eq, beq_eq_false_iff_ne]
            exact fun e => hst (by cases s; cases t; simpa using e)
          clear hs ht hne hne2 hn1 hn2
          go_wp2_with fail
          go_region
          go_wp2_with fail
          go_ret
          exact ⟨by rw [HNO.out]; rfl, sr.drew⟩
      · have HYES : Hid (decide (ss = tt) = true) := by
          show _ = _
          have hkn : k = n := by omega
          simp
          have := HK.out
          rw [hkn, List.take_of_length_le (by omega), List.take_of_length_le (by omega)] at this
          exact this
        have hgi : ¬ (k : Int) < (n : Int) := by omega
        clear hn1 hn2 HK
        go_wp2_with fail
        go_ret
        exact ⟨by rw [HYES.out]; rfl, sr⟩
  · have hno : decide (ss = tt) = false := by
      simp
      intro e
      exact hlen (by rw [e])
    rw [hno]
    have hli : ¬ (ss.length : Int) = (tt.length : Int) := by omega
    generalize ss.length = n at *
    generalize tt.length = m at *
    clear hno
    go_enter Tryd.func9, Tryd.ntmps9
    go_wp2_with fail
    go_ret
    exact ⟨rfl, Fr.refl _ _⟩
end Go.Proofs.YtpkpklbambmbeaaDoor
