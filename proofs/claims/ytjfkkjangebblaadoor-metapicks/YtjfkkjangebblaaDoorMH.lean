/- The document's Check. -/
import Derived.Test.YtjfkkjangebblaaDoorMG
namespace Go.Proofs.YtjfkkjangebblaaDoor
open Go.RowKit

theorem fits_iff {q : Nat} {D : List UInt8} (h1 : 1 ≤ q) (h2 : q ≤ 32) (hD : D.length = 32) : fitsP (q : Int) D = true ↔ ∀ j, q ≤ j → j < 32 → D[j]? = some 0 := by
  have e : cutR (q : Int) D = cutD q D := by unfold cutR; rw [if_pos (by omega)]; rfl
  unfold fitsP
  rw [decide_eq_true (show 1 ≤ (q : Int) ∧ (q : Int) ≤ 32 by omega), Bool.true_and, decide_eq_true_eq, e]
  unfold cutD
  constructor
  · intro h j hj1 hj2
    rw [← h, List.getElem?_append_right (by rw [List.length_take]; omega), List.getElem?_replicate, List.length_take, if_pos (by omega)]
  · intro h
    apply List.ext_getElem?
    intro j
    by_cases hj : j < q
    · rw [List.getElem?_append_left (by rw [List.length_take]; omega), List.getElem?_take, if_pos hj]
    · rw [List.getElem?_append_right (by rw [List.length_take]; omega), List.getElem?_replicate, List.length_take]
      by_cases hj2 : j < 32
      · rw [if_pos (by omega), h j (by omega) hj2]
      · rw [if_neg (by omega), List.getElem?_eq_none (by omega)]

set_option maxRecDepth 100000 in
theorem rframe_calls (p q : Int) (w : World) : Calls Tryd.prog 25 #[frameV p q] w fun e w' => e = .returned (.bool (frameP p q)) ∧ Same w w' := by
  have sx : ∀ o : Obj, Same w (w.alloc o) := fun o => (Fr.refl _ w).alloc _
  by_cases hp : p = 1024 ∨ p = 2048 ∨ p = 4096 ∨ p = 8192
  · have e : frameP p q = (decide (1 ≤ q) && decide (q ≤ 32)) := by
      rcases hp with rfl | rfl | rfl | rfl <;> simp [frameP]
    rw [e]
    clear e
    by_cases h1 : 1 ≤ q
    · by_cases h2 : q ≤ 32
      · rw [decide_eq_true h1, decide_eq_true h2]
        rcases hp with rfl | rfl | rfl | rfl
        all_goals
          go_enter Tryd.func25, Tryd.ntmps25
          go_wp2
          go_ret
          exact ⟨rfl, sx _⟩
      · rw [decide_eq_true h1, decide_eq_false h2]
        rcases hp with rfl | rfl | rfl | rfl
        all_goals
          go_enter Tryd.func25, Tryd.ntmps25
          go_wp2
          go_ret
          exact ⟨rfl, sx _⟩
    · rw [decide_eq_false h1]
      rcases hp with rfl | rfl | rfl | rfl
      all_goals
        go_enter Tryd.func25, Tryd.ntmps25
        go_wp2
        go_ret
        exact ⟨rfl, sx _⟩
  · have h1 : (p == 1024) = false := by rw [beq_eq_false_iff_ne]; omega
    have h2 : (p == 2048) = false := by rw [beq_eq_false_iff_ne]; omega
    have h3 : (p == 4096) = false := by rw [beq_eq_false_iff_ne]; omega
    have h4 : (p == 8192) = false := by rw [beq_eq_false_iff_ne]; omega
    have e : frameP p q = false := by rw [frameP, h1, h2, h3, h4]; rfl
    rw [e]
    clear e hp
    go_enter Tryd.func25, Tryd.ntmps25
    go_wp2
    go_ret
    exact ⟨rfl, sx _⟩

set_option maxRecDepth 100000 in
theorem rplace_calls (n pg : Nat) (w : World) : Calls Tryd.prog 70 #[.int .u32 n, .int .u32 pg] w fun e w' => e = .returned (.bool (placedP n pg)) ∧ w = w' := by
  have hc : (n = 0 ∧ placedP n pg = true) ∨ (¬ n = 0 ∧ n < 2 ∧ placedP n pg = false) ∨ (¬ n = 0 ∧ ¬ n < 2 ∧ n < pg ∧ placedP n pg = true) ∨ (¬ n = 0 ∧ ¬ n < 2 ∧ ¬ n < pg ∧ placedP n pg = false) := by
    simp only [placedP, decide_eq_true_eq, decide_eq_false_iff_not]; omega
  generalize placedP n pg = E at *
  rcases hc with ⟨rfl, rfl⟩ | ⟨h0, h1, rfl⟩ | ⟨h0, h1, h2, rfl⟩ | ⟨h0, h1, h2, rfl⟩
  · go_enter Tryd.func70, Tryd.ntmps70
    go_wp2_with fail
    go_ret
    exact ⟨rfl, rfl⟩
  · have g0 : ((n : Int) == 0) = false := by rw [beq_eq_false_iff_ne]; omega
    have g1 : ¬ (2 : Int) ≤ (n : Int) := by omega
    clear h0 h1
    go_enter Tryd.func70, Tryd.ntmps70
    go_wp2_with fail
    go_ret
    exact ⟨rfl, rfl⟩
  · have g0 : ((n : Int) == 0) = false := by rw [beq_eq_false_iff_ne]; omega
    have g1 : (2 : Int) ≤ (n : Int) := by omega
    have g2 : (n : Int) < (pg : Int) := by omega
    clear h0 h1 h2
    go_enter Tryd.func70, Tryd.ntmps70
    go_wp2_with fail
    go_ret
    exact ⟨rfl, rfl⟩
  · have g0 : ((n : Int) == 0) = false := by rw [beq_eq_false_iff_ne]; omega
    have g1 : (2 : Int) ≤ (n : Int) := by omega
    have g2 : ¬ (n : Int) < (pg : Int) := by omega
    clear h0 h1 h2
    go_enter Tryd.func70, Tryd.ntmps70
    go_wp2_with fail
    go_ret
    exact ⟨rfl, rfl⟩

/-- May, over letters: its tests in their order. -/
def rootL (q : Nat) (v rp c rv : Nat) (D : List UInt8) : Bool := fitsP q D && (if rp = 0 then decide (c = 0 ∧ rv = 0) else decide (0 < c ∧ 1 ≤ rv ∧ rv ≤ v))
set_option maxRecDepth 100000 in
set_option maxHeartbeats 2000000 in
theorem rmay_num {p q : Int} {A : Array Value} {v rp li pg : Nat} {b1 b2 : Bool} (w : World) (hbad : ¬ (1 ≤ v ∧ v ≤ 1099511627776 ∧ 2 ≤ pg ∧ pg ≤ 65536 ∧ b1 = true ∧ b2 = true ∧ (rp ≠ li ∨ li = 0)))
    (c0 : ((w.alloc (.cells #[.int .i64 p, .int .i64 q] 23)).alloc (.cells A 34)).cell? ⟨w.heap.size + 1, 0, none⟩ = some (.int .u64 v)) (c1 : ((w.alloc (.cells #[.int .i64 p, .int .i64 q] 23)).alloc (.cells A 34)).cell? ⟨w.heap.size + 1, 1, none⟩ = some (.int .u32 rp)) (c36 : ((w.alloc (.cells #[.int .i64 p, .int .i64 q] 23)).alloc (.cells A 34)).cell? ⟨w.heap.size + 1, 36, none⟩ = some (.int .u32 li)) (c37 : ((w.alloc (.cells #[.int .i64 p, .int .i64 q] 23)).alloc (.cells A 34)).cell? ⟨w.heap.size + 1, 37, none⟩ = some (.int .u32 pg))
    (HP1 : Hid (∀ W, Calls Tryd.prog 70 #[.int .u32 rp, .int .u32 pg] W fun e w' => e = .returned (.bool b1) ∧ W = w'))
    (HP2 : Hid (∀ W, Calls Tryd.prog 70 #[.int .u32 li, .int .u32 pg] W fun e w' => e = .returned (.bool b2) ∧ W = w')) :
    Calls Tryd.prog 39 #[frameV p q, .agg A] w fun e w' => e = .returned (.bool false) ∧ Same w w' := by
  have c1 := c1
  have c36 := c36
  have sx : Same w ((w.alloc (.cells #[.int .i64 p, .int .i64 q] 23)).alloc (.cells A 34)) := ((Fr.refl _ w).alloc _).alloc _
  obtain ⟨X, hX⟩ : ∃ X : Int, X = (v : Int) := ⟨_, rfl⟩
  obtain ⟨G, hG⟩ : ∃ G : Int, G = (pg : Int) := ⟨_, rfl⟩
  have hc : (v < 1) ∨ (¬ v < 1 ∧ 1099511627776 < v) ∨ (¬ v < 1 ∧ ¬ 1099511627776 < v ∧ pg < 2) ∨ (¬ v < 1 ∧ ¬ 1099511627776 < v ∧ ¬ pg < 2 ∧ 65536 < pg) ∨ (¬ v < 1 ∧ ¬ 1099511627776 < v ∧ ¬ pg < 2 ∧ ¬ 65536 < pg ∧ b1 = false) ∨ (¬ v < 1 ∧ ¬ 1099511627776 < v ∧ ¬ pg < 2 ∧ ¬ 65536 < pg ∧ b1 = true ∧ b2 = false) ∨ (¬ v < 1 ∧ ¬ 1099511627776 < v ∧ ¬ pg < 2 ∧ ¬ 65536 < pg ∧ b1 = true ∧ b2 = true ∧ rp = li ∧ ¬ li = 0) := by
    cases b1 <;> cases b2 <;> simp at hbad ⊢ <;> omega
  clear hbad
  rw [← hX] at c0
  rw [← hG] at c37 HP1 HP2
  rcases hc with h1 | ⟨h1, h2⟩ | ⟨h1, h2, h3⟩ | ⟨h1, h2, h3, h4⟩ | ⟨h1, h2, h3, h4, rfl⟩ | ⟨h1, h2, h3, h4, rfl, rfl⟩ | ⟨h1, h2, h3, h4, rfl, rfl, rfl, h7⟩
  · have g1 : X < 1 := by omega
    clear hX hG h1
    go_enter Tryd.func39, Tryd.ntmps39
    go_wp2_with fail
    go_ret
    exact ⟨rfl, sx⟩
  · have g1 : ¬ X < 1 := by omega
    have g2 : (1099511627776 : Int) < X := by omega
    clear hX hG h1 h2
    go_enter Tryd.func39, Tryd.ntmps39
    go_wp2_with fail
    go_ret
    exact ⟨rfl, sx⟩
  · have g1 : ¬ X < 1 := by omega
    have g2 : ¬ (1099511627776 : Int) < X := by omega
    have g3 : G < 2 := by omega
    clear hX hG h1 h2 h3
    go_enter Tryd.func39, Tryd.ntmps39
    go_wp2_with fail
    go_ret
    exact ⟨rfl, sx⟩
  all_goals
    have g1 : ¬ X < 1 := by omega
    have g2 : ¬ (1099511627776 : Int) < X := by omega
    have g3 : ¬ G < 2 := by omega
  · have g4 : (65536 : Int) < G := by omega
    clear hX hG h1 h2 h3 h4
    go_enter Tryd.func39, Tryd.ntmps39
    go_wp2_with fail
    go_ret
    exact ⟨rfl, sx⟩
  · have g4 : ¬ (65536 : Int) < G := by omega
    clear hX hG h1 h2 h3 h4
    go_enter Tryd.func39, Tryd.ntmps39
    go_wp2_with fail
    refine (HP1.out _).mono ?_
    rintro e W1 ⟨rfl, rfl⟩
    go_wp2_with fail
    go_ret
    exact ⟨rfl, sx⟩
  · have g4 : ¬ (65536 : Int) < G := by omega
    clear hX hG h1 h2 h3 h4
    go_enter Tryd.func39, Tryd.ntmps39
    go_wp2_with fail
    refine (HP1.out _).mono ?_
    rintro e W1 ⟨rfl, rfl⟩
    go_wp2_with fail
    refine (HP2.out _).mono ?_
    rintro e W1 ⟨rfl, rfl⟩
    go_wp2_with fail
    go_ret
    exact ⟨rfl, sx⟩
  · have g4 : ¬ (65536 : Int) < G := by omega
    have g7 : ((rp : Int) != 0) = true := by simpa using h7
    clear hX hG h1 h2 h3 h4 h7
    go_enter Tryd.func39, Tryd.ntmps39
    go_wp2_with fail
    refine (HP1.out _).mono ?_
    rintro e W1 ⟨rfl, rfl⟩
    go_wp2_with fail
    refine (HP2.out _).mono ?_
    rintro e W1 ⟨rfl, rfl⟩
    go_wp2_with fail
    go_ret
    exact ⟨rfl, sx⟩

set_option maxRecDepth 100000 in
set_option maxHeartbeats 2000000 in
theorem rmay_root {p : Int} {q : Nat} {A : Array Value} {v rp li pg c rv : Nat} {D : List UInt8} (w : World) (hD : D.length = 32) (hq1 : 1 ≤ q) (hq2 : q ≤ 32) (a1 : 1 ≤ v) (a2 : v ≤ 1099511627776) (a3 : 2 ≤ pg) (a4 : pg ≤ 65536) (a5 : rp ≠ li ∨ li = 0)
    (d0 : ((w.alloc (.cells #[.int .i64 p, .int .i64 q] 23)).alloc (.cells A 34)).cell? ⟨w.heap.size + 1, 0, none⟩ = some (.int .u64 v)) (d1 : ((w.alloc (.cells #[.int .i64 p, .int .i64 q] 23)).alloc (.cells A 34)).cell? ⟨w.heap.size + 1, 1, none⟩ = some (.int .u32 rp)) (d36 : ((w.alloc (.cells #[.int .i64 p, .int .i64 q] 23)).alloc (.cells A 34)).cell? ⟨w.heap.size + 1, 36, none⟩ = some (.int .u32 li)) (d37 : ((w.alloc (.cells #[.int .i64 p, .int .i64 q] 23)).alloc (.cells A 34)).cell? ⟨w.heap.size + 1, 37, none⟩ = some (.int .u32 pg))
    (d34 : ((w.alloc (.cells #[.int .i64 p, .int .i64 q] 23)).alloc (.cells A 34)).cell? ⟨w.heap.size + 1, 34, none⟩ = some (.int .u64 c)) (d35 : ((w.alloc (.cells #[.int .i64 p, .int .i64 q] 23)).alloc (.cells A 34)).cell? ⟨w.heap.size + 1, 35, none⟩ = some (.int .u64 rv)) (dS : Hid (((w.alloc (.cells #[.int .i64 p, .int .i64 q] 23)).alloc (.cells A 34)).rangeAt (w.heap.size + 1) 2 (bcells D)))
    (HP1 : Hid (∀ W, Calls Tryd.prog 70 #[.int .u32 rp, .int .u32 pg] W fun e w' => e = .returned (.bool true) ∧ W = w'))
    (HP2 : Hid (∀ W, Calls Tryd.prog 70 #[.int .u32 li, .int .u32 pg] W fun e w' => e = .returned (.bool true) ∧ W = w')) :
    Calls Tryd.prog 39 #[frameV p q, .agg A] w fun e w' => e = .returned (.bool (rootL q v rp c rv D)) ∧ Same w w' := by
  have sx : Same w ((w.alloc (.cells #[.int .i64 p, .int .i64 q] 23)).alloc (.cells A 34)) := ((Fr.refl _ w).alloc _).alloc _
  have c1f : ((w.alloc (.cells #[.int .i64 p, .int .i64 q] 23)).alloc (.cells A 34)).cell? ⟨w.heap.size, 1, none⟩ = some (.int .i64 q) := by simp
  obtain ⟨X, hX⟩ : ∃ X : Int, X = (v : Int) := ⟨_, rfl⟩
  obtain ⟨G, hG⟩ : ∃ G : Int, G = (pg : Int) := ⟨_, rfl⟩
  rw [← hX] at d0
  rw [← hG] at d37 HP1 HP2
  have g1 : ¬ X < 1 := by omega
  have g2 : ¬ (1099511627776 : Int) < X := by omega
  have g3 : ¬ G < 2 := by omega
  have g4 : ¬ (65536 : Int) < G := by omega
  have HV : Hid (rootL q v rp c rv D = (fitsP q D && (if rp = 0 then decide (c = 0 ∧ rv = 0) else decide (0 < c ∧ 1 ≤ rv ∧ rv ≤ v)))) := rfl
  have HFI : Hid (fitsP (q : Int) D = true ↔ ∀ j, q ≤ j → j < 32 → D[j]? = some 0) := fits_iff hq1 hq2 hD
  have HX : Hid (X = (v : Int)) := hX
  obtain ⟨eb, heb⟩ : ∃ eb, ((rp : Int) == (li : Int)) = eb := ⟨_, rfl⟩
  have hzn : eb = true → ((li : Int) != 0) = false := by
    intro h
    rw [h, beq_iff_eq] at heb
    rcases a5 with h5 | h5
    · omega
    · subst h5; rfl
  clear hX hG a1 a2 a3 a4 a5
  cases eb
  all_goals (try (have hzn := hzn rfl))
  all_goals
    go_enter Tryd.func39, Tryd.ntmps39
    go_wp2_with fail
    refine (HP1.out _).mono ?_
    rintro e W1 ⟨rfl, rfl⟩
    go_wp2_with fail
    refine (HP2.out _).mono ?_
    rintro e W1 ⟨rfl, rfl⟩
    go_wp2_with fail
    go_loop [5] (fun i => ∃ k : Nat, i = .int .i64 k ∧ q ≤ k ∧ k ≤ 32 ∧ Hid (∀ j, q ≤ j → j < k → D[j]? = some 0)) (fun i => 32 - (intOf i).toNat)
    case atStart => exact ⟨q, rfl, Nat.le_refl _, hq2, fun j h1 h2 => by omega⟩
    case round =>
      obtain ⟨k, rfl, hk1, hk2, HK⟩ := hrel
      by_cases hgo : k < 32
      · obtain ⟨x, hx⟩ : ∃ x, D[k]? = some x := ⟨_, List.getElem?_eq_getElem (by omega)⟩
        have cx := dS.out k (.int .u8 x.toNat) (by rw [bcells, List.getElem?_map, hx]; rfl)
        have b1 : (k : Int) < 32 := by omega
        have b0 : (0 : Int) ≤ (k : Int) := by omega
        by_cases hx0 : x = 0
        · have hn : ((x.toNat : Int) != 0) = false := by rw [hx0]; rfl
          have HK2 : Hid (∀ j, q ≤ j → j < k + 1 → D[j]? = some 0) := fun j h1 h2 => by
            by_cases e : j = k
            · rw [e, hx, hx0]
            · exact HK.out j h1 (by omega)
          clear hx HK hx0
          go_wp2_with fail
          go_round
          case rel => exact ⟨k + 1, by go_num, by omega, by omega, HK2⟩
          case measure => simp [intOf]; omega
        · have hxn : ¬ x.toNat = 0 := fun e => hx0 (UInt8.toNat_inj.1 (by rw [e]; rfl))
          have hn : ((x.toNat : Int) != 0) = true := by simpa using hxn
          have hf : fitsP (q : Int) D = false := by
            rw [Bool.eq_false_iff]
            intro e
            have := HFI.out.1 e k hk1 hgo
            rw [hx] at this
            exact hx0 (Option.some.inj this)
          have hr : rootL q v rp c rv D = false := by rw [HV.out, hf]; rfl
          clear hx HK hx0 hxn hf
          go_wp2_with fail
          go_ret
          first | exact ⟨by rw [hr]; rfl, sx⟩ | exact ⟨rfl, sx⟩
      · obtain rfl : k = 32 := by omega
        have hf : fitsP (q : Int) D = true := HFI.out.2 (fun j h1 h2 => HK.out j h1 h2)
        have hr : rootL q v rp c rv D = (if rp = 0 then decide (c = 0 ∧ rv = 0) else decide (0 < c ∧ 1 ≤ rv ∧ rv ≤ v)) := by rw [HV.out, hf]; rfl
        clear hf HK
        by_cases h0 : rp = 0
        · rw [if_pos h0] at hr
          have k0 : ((rp : Int) == 0) = true := by rw [beq_iff_eq]; omega
          by_cases hc : c = 0
          · have kc : ((c : Int) == 0) = true := by rw [beq_iff_eq]; omega
            by_cases hv : rv = 0
            · have kv : ((rv : Int) == 0) = true := by rw [beq_iff_eq]; omega
              rw [decide_eq_true ⟨hc, hv⟩] at hr
              clear h0 hc hv
              go_wp2_with fail
              go_ret
              first | exact ⟨by rw [hr]; rfl, sx⟩ | exact ⟨rfl, sx⟩
            · have kv : ((rv : Int) == 0) = false := by rw [beq_eq_false_iff_ne]; omega
              rw [decide_eq_false (fun h => hv h.2)] at hr
              clear h0 hc hv
              go_wp2_with fail
              go_ret
              first | exact ⟨by rw [hr]; rfl, sx⟩ | exact ⟨rfl, sx⟩
          · have kc : ((c : Int) == 0) = false := by rw [beq_eq_false_iff_ne]; omega
            rw [decide_eq_false (fun h => hc h.1)] at hr
            clear h0 hc
            go_wp2_with fail
            go_ret
            first | exact ⟨by rw [hr]; rfl, sx⟩ | exact ⟨rfl, sx⟩
        · rw [if_neg h0] at hr
          have k0 : ((rp : Int) == 0) = false := by rw [beq_eq_false_iff_ne]; omega
          clear h0
          by_cases hc : 0 < c
          · have kc : (0 : Int) < (c : Int) := by omega
            by_cases hv : 1 ≤ rv
            · have kv : (1 : Int) ≤ (rv : Int) := by omega
              by_cases hw : rv ≤ v
              · have kw : (rv : Int) ≤ X := by rw [HX.out]; omega
                rw [decide_eq_true ⟨hc, hv, hw⟩] at hr
                clear hc hv hw
                go_wp2_with fail
                go_ret
                first | exact ⟨by rw [hr]; rfl, sx⟩ | exact ⟨rfl, sx⟩
              · have kw : ¬ (rv : Int) ≤ X := by rw [HX.out]; omega
                rw [decide_eq_false (fun h => hw h.2.2)] at hr
                clear hc hv hw
                go_wp2_with fail
                go_ret
                first | exact ⟨by rw [hr]; rfl, sx⟩ | exact ⟨rfl, sx⟩
            · have kv : ¬ (1 : Int) ≤ (rv : Int) := by omega
              rw [decide_eq_false (fun h => hv h.2.1)] at hr
              clear hc hv
              go_wp2_with fail
              go_ret
              first | exact ⟨by rw [hr]; rfl, sx⟩ | exact ⟨rfl, sx⟩
          · have kc : ¬ (0 : Int) < (c : Int) := by omega
            rw [decide_eq_false (fun h => hc h.1)] at hr
            clear hc
            go_wp2_with fail
            go_ret
            first | exact ⟨by rw [hr]; rfl, sx⟩ | exact ⟨rfl, sx⟩

theorem rmay_calls {p q : Int} (hf : frameP p q = true) (m : Rec) (hm : RecOk m) (w : World) : Calls Tryd.prog 39 #[frameV p q, metaV m] w fun e w' => e = .returned (.bool (numP m && rootP q m)) ∧ Same w w' := by
  obtain ⟨_, hq1, hq2⟩ := frameP_cases hf
  obtain ⟨n, rfl⟩ : ∃ n : Nat, q = (n : Int) := ⟨q.toNat, by omega⟩
  have hA : MAt ((w.alloc (.cells #[.int .i64 p, .int .i64 n] 23)).alloc (.cells m.arr 34)) (w.heap.size + 1) m := heap_alloc2_new w _ _
  obtain ⟨c0, c1, c34, c35, c36, c37⟩ := hA.cells hm.d
  have HP1 := rplace_calls m.rp m.pg
  have HP2 := rplace_calls m.li m.pg
  by_cases h : 1 ≤ m.v ∧ m.v ≤ 1099511627776 ∧ 2 ≤ m.pg ∧ m.pg ≤ 65536 ∧ placedP m.rp m.pg = true ∧ placedP m.li m.pg = true ∧ (m.rp ≠ m.li ∨ m.li = 0)
  · obtain ⟨a1, a2, a3, a4, a5, a6, a7⟩ := h
    have hN : numP m = true := by unfold numP; rw [decide_eq_true a1, decide_eq_true a2, decide_eq_true a3, decide_eq_true a4, a5, a6, decide_eq_true a7]; rfl
    rw [hN, Bool.true_and]
    rw [a5] at HP1
    rw [a6] at HP2
    exact rmay_root w hm.d (by omega) (by omega) a1 a2 a3 a4 a7 c0 c1 c36 c37 c34 c35 hA.sum HP1 HP2
  · have hN : numP m = false := by
      rw [Bool.eq_false_iff]
      intro e
      apply h
      unfold numP at e
      simp only [Bool.and_eq_true, decide_eq_true_eq] at e
      obtain ⟨⟨⟨⟨⟨⟨e1, e2⟩, e3⟩, e4⟩, e5⟩, e6⟩, e7⟩ := e
      exact ⟨e1, e2, e3, e4, e6, e7, e5⟩
    rw [hN, Bool.false_and]
    exact rmay_num w h c0 c1 c36 c37 HP1 HP2

set_option maxRecDepth 100000 in
set_option maxHeartbeats 1000000 in
theorem rcheck_core {p q : Int} {A : Array Value} {b1 b2 : Bool} (w : World) (hAs : A.size = 38)
    (HF : Hid (∀ W, Calls Tryd.prog 25 #[frameV p q] W fun e w' => e = .returned (.bool b1) ∧ Same W w'))
    (HM : Hid (b1 = true → ∀ W, Calls Tryd.prog 39 #[frameV p q, .agg A] W fun e w' => e = .returned (.bool b2) ∧ Same W w')) :
    Calls Tryd.prog 21 #[frameV p q, .agg A] w fun e w' => e = .returned (.int .i64 (if (b1 && b2) = true then 0 else 2)) ∧ Same w w' := by
  have hs : (Tryd.prog.info? 34).map (·.size) = some A.size := by rw [Tryd.infoM, hAs]
  have sx : Same w ((w.alloc (.cells #[.int .i64 p, .int .i64 q] 23)).alloc (.cells A 34)) := ((Fr.refl _ w).alloc _).alloc _
  have hA : ((w.alloc (.cells #[.int .i64 p, .int .i64 q] 23)).alloc (.cells A 34)).heap[w.heap.size + 1]? = some (.cells A 34 (0, 0)) := heap_alloc2_new w _ _
  have c0 : ((w.alloc (.cells #[.int .i64 p, .int .i64 q] 23)).alloc (.cells A 34)).cell? ⟨w.heap.size, 0, none⟩ = some (.int .i64 p) := by simp
  have c1 : ((w.alloc (.cells #[.int .i64 p, .int .i64 q] 23)).alloc (.cells A 34)).cell? ⟨w.heap.size, 1, none⟩ = some (.int .i64 q) := by simp
  cases b1
  · go_enter Tryd.func21, Tryd.ntmps21
    go_wp2_with fail
    refine (HF.out _).mono ?_
    rintro e W1 ⟨rfl, s1⟩
    go_wp2_with fail
    go_ret
    exact ⟨rfl, sx.trans s1⟩
  · have HM2 : Hid (∀ W, Calls Tryd.prog 39 #[frameV p q, .agg A] W fun e w' => e = .returned (.bool b2) ∧ Same W w') := HM.out rfl
    go_enter Tryd.func21, Tryd.ntmps21
    go_wp2_with fail
    generalize ((w.alloc (.cells #[.int .i64 p, .int .i64 q] 23)).alloc (.cells A 34)) = V at *
    refine (HF.out _).mono ?_
    rintro e W1 ⟨rfl, s1⟩
    have hA1 := (s1.block _ (lt_of_heap hA) (fun f => f)).trans hA
    have c0 := s1.keep c0
    have c1 := s1.keep c1
    have t1 := sx.trans s1
    clear s1 sx hA
    cases b2
    all_goals
      go_wp2_with (first | (refine wpList_load_want (by rfl) 34 _ (by rfl) (w.heap.size + 1) (by rfl) 34 A (0, 0) _ hA1 Tryd.underlying34 rfl hs ?_))
      refine (HM2.out _).mono ?_
      rintro e W2 ⟨rfl, s2⟩
      go_wp2_with fail
      go_ret
      exact ⟨rfl, t1.trans s2⟩
theorem rcheck_calls (p q : Int) (m : Rec) (hm : RecOk m) (w : World) : Calls Tryd.prog 21 #[frameV p q, metaV m] w fun e w' => e = .returned (.int .i64 (chkM p q m)) ∧ Same w w' := by
  have h := rcheck_core (A := m.arr) (b2 := numP m && rootP q m) w (arr_size m hm.d) (rframe_calls p q) (fun hb W => rmay_calls hb m hm W)
  have e : (if (frameP p q && (numP m && rootP q m)) = true then (0 : Int) else 2) = chkM p q m := by unfold chkM mayM; rw [Bool.and_assoc]
  rw [e] at h
  exact h

end Go.Proofs.YtjfkkjangebblaaDoor
