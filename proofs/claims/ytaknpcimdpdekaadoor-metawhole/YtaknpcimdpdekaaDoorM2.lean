/- framed, placed, numbered, rooted, Check. -/
import Derived.Test.YtaknpcimdpdekaaDoorM1
import Derived.Handy
import Derived.Deep.RegionHeld3
namespace Go.Proofs.YtaknpcimdpdekaaDoor
open Go.RowKit

set_option maxRecDepth 100000 in
theorem framed_calls (p q : Int) (w : World) : Calls Tryd.prog 17 #[frameV p q] w fun e w' => e = .returned (.bool (frameP p q)) ∧ Same w w' := by
  have sx : ∀ o : Obj, Same w (w.alloc o) := fun o => (Fr.refl _ w).alloc _
  by_cases hp : p = 1024 ∨ p = 2048 ∨ p = 4096 ∨ p = 8192
  · have e : frameP p q = (decide (1 ≤ q) && decide (q ≤ 32)) := by
      rcases hp with rfl | rfl | rfl | rfl <;> simp [frameP]
    rw [e]
    clear e
    by_cases h1 : 1 ≤ q
    · by_cases h2 : q ≤ 32
      · rw [decide_eq_true h1, decide_eq_true h2]
        rcases hp with rfl | rfl | rfl | rfl
        all_goals
          go_enter Tryd.func17, Tryd.ntmps17
          go_wp2
          go_ret
          exact ⟨rfl, sx _⟩
      · rw [decide_eq_true h1, decide_eq_false h2]
        rcases hp with rfl | rfl | rfl | rfl
        all_goals
          go_enter Tryd.func17, Tryd.ntmps17
          go_wp2
          go_ret
          exact ⟨rfl, sx _⟩
    · rw [decide_eq_false h1]
      rcases hp with rfl | rfl | rfl | rfl
      all_goals
        go_enter Tryd.func17, Tryd.ntmps17
        go_wp2
        go_ret
        exact ⟨rfl, sx _⟩
  · have e : frameP p q = false := by
      rw [frameP]
      have h1 : (p == 1024) = false := by rw [beq_eq_false_iff_ne]; omega
      have h2 : (p == 2048) = false := by rw [beq_eq_false_iff_ne]; omega
      have h3 : (p == 4096) = false := by rw [beq_eq_false_iff_ne]; omega
      have h4 : (p == 8192) = false := by rw [beq_eq_false_iff_ne]; omega
      rw [h1, h2, h3, h4]; rfl
    have h1 : ¬ p = 1024 := by omega
    have h2 : ¬ p = 2048 := by omega
    have h3 : ¬ p = 4096 := by omega
    have h4 : ¬ p = 8192 := by omega
    rw [e]
    clear e hp
    go_enter Tryd.func17, Tryd.ntmps17
    go_wp2
    go_ret
    exact ⟨rfl, sx _⟩

set_option maxRecDepth 100000 in
theorem placed_calls (n pg : Nat) (w : World) : Calls Tryd.prog 54 #[.int .u32 n, .int .u32 pg] w fun e w' => e = .returned (.bool (placedP n pg)) ∧ w = w' := by
  have hc : (n = 0 ∧ placedP n pg = true) ∨ (¬ n = 0 ∧ n < 2 ∧ placedP n pg = false) ∨ (¬ n = 0 ∧ ¬ n < 2 ∧ n < pg ∧ placedP n pg = true) ∨ (¬ n = 0 ∧ ¬ n < 2 ∧ ¬ n < pg ∧ placedP n pg = false) := by
    simp only [placedP, decide_eq_true_eq, decide_eq_false_iff_not]; omega
  generalize placedP n pg = E at *
  rcases hc with ⟨rfl, rfl⟩ | ⟨h0, h1, rfl⟩ | ⟨h0, h1, h2, rfl⟩ | ⟨h0, h1, h2, rfl⟩
  · go_enter Tryd.func54, Tryd.ntmps54
    go_wp2_with fail
    go_ret
    exact ⟨rfl, rfl⟩
  · have g0 : ((n : Int) == 0) = false := by rw [beq_eq_false_iff_ne]; omega
    have g1 : ¬ (2 : Int) ≤ (n : Int) := by omega
    clear h0 h1
    go_enter Tryd.func54, Tryd.ntmps54
    go_wp2_with fail
    go_ret
    exact ⟨rfl, rfl⟩
  · have g0 : ((n : Int) == 0) = false := by rw [beq_eq_false_iff_ne]; omega
    have g1 : (2 : Int) ≤ (n : Int) := by omega
    have g2 : (n : Int) < (pg : Int) := by omega
    clear h0 h1 h2
    go_enter Tryd.func54, Tryd.ntmps54
    go_wp2_with fail
    go_ret
    exact ⟨rfl, rfl⟩
  · have g0 : ((n : Int) == 0) = false := by rw [beq_eq_false_iff_ne]; omega
    have g1 : (2 : Int) ≤ (n : Int) := by omega
    have g2 : ¬ (n : Int) < (pg : Int) := by omega
    clear h0 h1 h2
    go_enter Tryd.func54, Tryd.ntmps54
    go_wp2_with fail
    go_ret
    exact ⟨rfl, rfl⟩

set_option maxRecDepth 100000 in
set_option maxHeartbeats 1000000 in
theorem numbered_calls (m : Rec) (hm : m.d.length = 32) (w : World) : Calls Tryd.prog 30 #[metaV m] w fun e w' => e = .returned (.bool (numP m)) ∧ Same w w' := by
  have sx : Same w (w.alloc (.cells m.arr 34)) := (Fr.refl _ w).alloc _
  have hA : MAt (w.alloc (.cells m.arr 34)) w.heap.size m := heap_alloc_new w _
  obtain ⟨c0, c1, _, _, c36, c37⟩ := hA.cells hm
  have HP1 : Hid (∀ W, Calls Tryd.prog 54 #[.int .u32 m.rp, .int .u32 m.pg] W fun e w' => e = .returned (.bool (placedP m.rp m.pg)) ∧ W = w') := placed_calls m.rp m.pg
  have HP2 : Hid (∀ W, Calls Tryd.prog 54 #[.int .u32 m.li, .int .u32 m.pg] W fun e w' => e = .returned (.bool (placedP m.li m.pg)) ∧ W = w') := placed_calls m.li m.pg
  have hN : numP m = (decide (1 ≤ m.v) && decide (m.v ≤ 1099511627776) && decide (2 ≤ m.pg) && decide (m.pg ≤ 65536) && decide (m.rp ≠ m.li ∨ m.li = 0) && placedP m.rp m.pg && placedP m.li m.pg) := rfl
  have hap : decide (m.rp ≠ m.li ∨ m.li = 0) = (!((m.rp : Int) == (m.li : Int)) || ((m.li : Int) == 0)) := by
    rw [Bool.eq_iff_iff, decide_eq_true_eq, Bool.or_eq_true, Bool.not_eq_true', beq_eq_false_iff_ne, beq_iff_eq]; omega
  rw [hN, hap]
  unfold metaV
  generalize m.arr = A at *
  generalize placedP m.rp m.pg = b1 at *
  generalize placedP m.li m.pg = b2 at *
  generalize m.v = v at *
  generalize m.rp = rp at *
  generalize m.li = li at *
  generalize m.pg = pg at *
  clear hN hA hap hm
  obtain ⟨X, hX⟩ : ∃ X : Int, X = (v : Int) := ⟨_, rfl⟩
  obtain ⟨G, hG⟩ : ∃ G : Int, G = (pg : Int) := ⟨_, rfl⟩
  have hc : (v < 1 ∧ (decide (1 ≤ v) && decide (v ≤ 1099511627776) && decide (2 ≤ pg) && decide (pg ≤ 65536)) = false) ∨ (¬ v < 1 ∧ 1099511627776 < v ∧ (decide (1 ≤ v) && decide (v ≤ 1099511627776) && decide (2 ≤ pg) && decide (pg ≤ 65536)) = false) ∨ (¬ v < 1 ∧ ¬ 1099511627776 < v ∧ pg < 2 ∧ (decide (1 ≤ v) && decide (v ≤ 1099511627776) && decide (2 ≤ pg) && decide (pg ≤ 65536)) = false) ∨ (¬ v < 1 ∧ ¬ 1099511627776 < v ∧ ¬ pg < 2 ∧ 65536 < pg ∧ (decide (1 ≤ v) && decide (v ≤ 1099511627776) && decide (2 ≤ pg) && decide (pg ≤ 65536)) = false) ∨ (¬ v < 1 ∧ ¬ 1099511627776 < v ∧ ¬ pg < 2 ∧ ¬ 65536 < pg ∧ (decide (1 ≤ v) && decide (v ≤ 1099511627776) && decide (2 ≤ pg) && decide (pg ≤ 65536)) = true) := by
    simp only [Bool.and_eq_true, Bool.and_eq_false_iff, decide_eq_true_eq, decide_eq_false_iff_not]; omega
  generalize (decide (1 ≤ v) && decide (v ≤ 1099511627776) && decide (2 ≤ pg) && decide (pg ≤ 65536)) = E at *
  rw [← hX] at c0
  rw [← hG] at c37 HP1 HP2
  rcases hc with ⟨h1, rfl⟩ | ⟨h1, h2, rfl⟩ | ⟨h1, h2, h3, rfl⟩ | ⟨h1, h2, h3, h4, rfl⟩ | ⟨h1, h2, h3, h4, rfl⟩
  · have g1 : X < 1 := by omega
    clear hX hG h1
    go_enter Tryd.func30, Tryd.ntmps30
    go_wp2_with fail
    go_ret
    exact ⟨rfl, sx⟩
  · have g1 : ¬ X < 1 := by omega
    have g2 : (1099511627776 : Int) < X := by omega
    clear hX hG h1 h2
    go_enter Tryd.func30, Tryd.ntmps30
    go_wp2_with fail
    go_ret
    exact ⟨rfl, sx⟩
  · have g1 : ¬ X < 1 := by omega
    have g2 : ¬ (1099511627776 : Int) < X := by omega
    have g3 : G < 2 := by omega
    clear hX hG h1 h2 h3
    go_enter Tryd.func30, Tryd.ntmps30
    go_wp2_with fail
    go_ret
    exact ⟨rfl, sx⟩
  · have g1 : ¬ X < 1 := by omega
    have g2 : ¬ (1099511627776 : Int) < X := by omega
    have g3 : ¬ G < 2 := by omega
    have g4 : (65536 : Int) < G := by omega
    clear hX hG h1 h2 h3 h4
    go_enter Tryd.func30, Tryd.ntmps30
    go_wp2_with fail
    go_ret
    exact ⟨rfl, sx⟩
  · have g1 : ¬ X < 1 := by omega
    have g2 : ¬ (1099511627776 : Int) < X := by omega
    have g3 : ¬ G < 2 := by omega
    have g4 : ¬ (65536 : Int) < G := by omega
    clear hX hG h1 h2 h3 h4
    obtain ⟨eb, heb⟩ : ∃ eb, ((rp : Int) == (li : Int)) = eb := ⟨_, rfl⟩
    obtain ⟨zb, hzb⟩ : ∃ zb, ((li : Int) == 0) = zb := ⟨_, rfl⟩
    rw [heb, hzb]
    have hnb : ((rp : Int) != (li : Int)) = !eb := by rw [← heb]; rfl
    clear heb
    cases eb
    · cases b1
      · go_enter Tryd.func30, Tryd.ntmps30
        go_wp2_with fail
        refine (HP1.out _).mono ?_
        rintro e W1 ⟨rfl, rfl⟩
        go_wp2_with fail
        go_ret
        exact ⟨by simp, sx⟩
      · go_enter Tryd.func30, Tryd.ntmps30
        go_wp2_with fail
        refine (HP1.out _).mono ?_
        rintro e W1 ⟨rfl, rfl⟩
        go_wp2_with fail
        refine (HP2.out _).mono ?_
        rintro e W1 ⟨rfl, rfl⟩
        go_wp2_with fail
        go_ret
        exact ⟨by simp, sx⟩
    · cases zb
      · go_enter Tryd.func30, Tryd.ntmps30
        go_wp2_with fail
        go_ret
        exact ⟨by simp, sx⟩
      · cases b1
        · go_enter Tryd.func30, Tryd.ntmps30
          go_wp2_with fail
          refine (HP1.out _).mono ?_
          rintro e W1 ⟨rfl, rfl⟩
          go_wp2_with fail
          go_ret
          exact ⟨by simp, sx⟩
        · go_enter Tryd.func30, Tryd.ntmps30
          go_wp2_with fail
          refine (HP1.out _).mono ?_
          rintro e W1 ⟨rfl, rfl⟩
          go_wp2_with fail
          refine (HP2.out _).mono ?_
          rintro e W1 ⟨rfl, rfl⟩
          go_wp2_with fail
          go_ret
          exact ⟨by simp, sx⟩
end Go.Proofs.YtaknpcimdpdekaaDoor
