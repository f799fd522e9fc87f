/- The document's step of a bit, and its More. -/
import Derived.Test.YtjfkkjangebblaaDoorSGC
import Derived.Deep.LoopGhost
import Derived.Test.YtjfkkjangebblaaDoorMP
import Derived.Deep.RegionLaw
import Derived.Deep.DrawnRows
import Derived.Laws.OwnMore
import Derived.Test.YtjfkkjangebblaaDoorM3
import Derived.Deep.RegionHeld3
import Derived.Test.YtjfkkjangebblaaDoorMH
namespace Go.Proofs.YtjfkkjangebblaaDoor
open Go.RowKit

set_option maxRecDepth 100000 in
set_option maxHeartbeats 400000 in
theorem bit_calls (w : World) (r b : UInt32) : Calls Tryd.prog 85 #[.int .u32 r.toNat, .int .u32 b.toNat] w fun e w' => e = .returned (.int .u32 (bitS r b).toNat) ∧ w' = w := by
  have e1 : bits .and .u32 (r.toNat : Int) (1 : Int) = ((r &&& 1).toNat : Int) := a32 r 1
  obtain ⟨y, hy⟩ : ∃ y, y = r >>> 1 := ⟨_, rfl⟩
  obtain ⟨z, hz⟩ : ∃ z, z = y ^^^ 0xedb88320 := ⟨_, rfl⟩
  have e2 : (r.toNat : Int) / (2 : Int) = (y.toNat : Int) := by rw [hy]; exact r32 r 1 (by decide)
  have e3 : bits .xor .u32 (y.toNat : Int) (3988292384 : Int) = (z.toNat : Int) := by rw [hz]; exact x32 y 0xedb88320
  unfold bitS
  rw [← hy, ← hz]
  clear hy hz
  obtain ⟨l, hl⟩ : ∃ l, l = r &&& 1 := ⟨_, rfl⟩
  rw [← hl] at e1 ⊢
  clear hl
  by_cases h : l = b
  · rw [if_pos h]
    subst h
    go_enter Tryd.func85, Tryd.ntmps85
    go_wp2
    all_goals go_ret
    all_goals exact ⟨rfl, rfl⟩
  · rw [if_neg h]
    have h0 : ¬ (l.toNat : Int) = (b.toNat : Int) := by
      intro e
      apply h
      apply UInt32.toNat_inj.1
      omega
    go_enter Tryd.func85, Tryd.ntmps85
    go_wp2
    all_goals go_ret
    all_goals exact ⟨rfl, rfl⟩


set_option maxRecDepth 100000 in
set_option maxHeartbeats 2000000 in
theorem rmore_calls (w : World) (sum : UInt32) (s : ByteArray) (hs : s.size ≤ 281474976710656) :
    Calls Tryd.prog 71 #[.int .u32 sum.toNat, .string s] w fun e w' => e = .returned (.int .u32 (moreP sum s.data.toList).toNat) ∧ w' = w := by
  go_enter Tryd.func71, Tryd.ntmps71
  go_wp2_with fail
  go_loop [5, 6] (fun r i => ∃ k : Nat, k ≤ s.size ∧ i = .int .i64 k ∧ r = .int .u32 ((s.data.toList.take k).foldl byteS (~~~ sum)).toNat) (fun _ i => s.size - (intOf i).toNat)
  case atStart => exact ⟨0, Nat.zero_le _, rfl, by rw [n32]; rfl⟩
  case round =>
    obtain ⟨k, hk, rfl, rfl⟩ := hrel
    by_cases hlt : k < s.size
    · obtain ⟨r, hr⟩ : ∃ r, r = (s.data.toList.take k).foldl byteS (~~~ sum) := ⟨_, rfl⟩
      rw [← hr]
      have HR : Hid (r = (s.data.toList.take k).foldl byteS (~~~ sum)) := hr
      clear hr
      obtain ⟨c, hc⟩ : ∃ c, c = (s[k]).toUInt32 := ⟨_, rfl⟩
      have ec : ((s[k]).toNat : Int) % 4294967296 = (c.toNat : Int) := by
        have := (s[k]).toNat_lt
        rw [hc, UInt8.toNat_toUInt32, Int.emod_eq_of_lt (by omega) (by omega)]
      obtain ⟨c0, hc0⟩ : ∃ z, z = c >>> UInt32.ofNat 0 := ⟨_, rfl⟩
      obtain ⟨b0, hb0⟩ : ∃ z, z = c0 &&& 1 := ⟨_, rfl⟩
      have eb0 : bits .and .u32 (c.toNat : Int) (1 : Int) = (b0.toNat : Int) := by rw [hb0, hc0, show c >>> UInt32.ofNat 0 = c from by simp]; exact a32 c 1
      obtain ⟨c1, hc1⟩ : ∃ z, z = c >>> UInt32.ofNat 1 := ⟨_, rfl⟩
      obtain ⟨b1, hb1⟩ : ∃ z, z = c1 &&& 1 := ⟨_, rfl⟩
      have ed1 : (c.toNat : Int) / (2 : Int) = (c1.toNat : Int) := by rw [hc1]; exact r32 c 1 (by decide)
      have eb1 : bits .and .u32 (c1.toNat : Int) (1 : Int) = (b1.toNat : Int) := by rw [hb1]; exact a32 c1 1
      obtain ⟨c2, hc2⟩ : ∃ z, z = c >>> UInt32.ofNat 2 := ⟨_, rfl⟩
      obtain ⟨b2, hb2⟩ : ∃ z, z = c2 &&& 1 := ⟨_, rfl⟩
      have ed2 : (c.toNat : Int) / (4 : Int) = (c2.toNat : Int) := by rw [hc2]; exact r32 c 2 (by decide)
      have eb2 : bits .and .u32 (c2.toNat : Int) (1 : Int) = (b2.toNat : Int) := by rw [hb2]; exact a32 c2 1
      obtain ⟨c3, hc3⟩ : ∃ z, z = c >>> UInt32.ofNat 3 := ⟨_, rfl⟩
      obtain ⟨b3, hb3⟩ : ∃ z, z = c3 &&& 1 := ⟨_, rfl⟩
      have ed3 : (c.toNat : Int) / (8 : Int) = (c3.toNat : Int) := by rw [hc3]; exact r32 c 3 (by decide)
      have eb3 : bits .and .u32 (c3.toNat : Int) (1 : Int) = (b3.toNat : Int) := by rw [hb3]; exact a32 c3 1
      obtain ⟨c4, hc4⟩ : ∃ z, z = c >>> UInt32.ofNat 4 := ⟨_, rfl⟩
      obtain ⟨b4, hb4⟩ : ∃ z, z = c4 &&& 1 := ⟨_, rfl⟩
      have ed4 : (c.toNat : Int) / (16 : Int) = (c4.toNat : Int) := by rw [hc4]; exact r32 c 4 (by decide)
      have eb4 : bits .and .u32 (c4.toNat : Int) (1 : Int) = (b4.toNat : Int) := by rw [hb4]; exact a32 c4 1
      obtain ⟨c5, hc5⟩ : ∃ z, z = c >>> UInt32.ofNat 5 := ⟨_, rfl⟩
      obtain ⟨b5, hb5⟩ : ∃ z, z = c5 &&& 1 := ⟨_, rfl⟩
      have ed5 : (c.toNat : Int) / (32 : Int) = (c5.toNat : Int) := by rw [hc5]; exact r32 c 5 (by decide)
      have eb5 : bits .and .u32 (c5.toNat : Int) (1 : Int) = (b5.toNat : Int) := by rw [hb5]; exact a32 c5 1
      obtain ⟨c6, hc6⟩ : ∃ z, z = c >>> UInt32.ofNat 6 := ⟨_, rfl⟩
      obtain ⟨b6, hb6⟩ : ∃ z, z = c6 &&& 1 := ⟨_, rfl⟩
      have ed6 : (c.toNat : Int) / (64 : Int) = (c6.toNat : Int) := by rw [hc6]; exact r32 c 6 (by decide)
      have eb6 : bits .and .u32 (c6.toNat : Int) (1 : Int) = (b6.toNat : Int) := by rw [hb6]; exact a32 c6 1
      obtain ⟨c7, hc7⟩ : ∃ z, z = c >>> UInt32.ofNat 7 := ⟨_, rfl⟩
      obtain ⟨b7, hb7⟩ : ∃ z, z = c7 &&& 1 := ⟨_, rfl⟩
      have ed7 : (c.toNat : Int) / (128 : Int) = (c7.toNat : Int) := by rw [hc7]; exact r32 c 7 (by decide)
      have eb7 : bits .and .u32 (c7.toNat : Int) (1 : Int) = (b7.toNat : Int) := by rw [hb7]; exact a32 c7 1
      obtain ⟨x0, hx0⟩ : ∃ z, z = bitS r b0 := ⟨_, rfl⟩
      have H0 : Hid (∀ W, Calls Tryd.prog 85 #[.int .u32 r.toNat, .int .u32 b0.toNat] W fun e w' => e = .returned (.int .u32 x0.toNat) ∧ w' = W) := by rw [hx0]; exact fun W => bit_calls W r b0
      obtain ⟨x1, hx1⟩ : ∃ z, z = bitS x0 b1 := ⟨_, rfl⟩
      have H1 : Hid (∀ W, Calls Tryd.prog 85 #[.int .u32 x0.toNat, .int .u32 b1.toNat] W fun e w' => e = .returned (.int .u32 x1.toNat) ∧ w' = W) := by rw [hx1]; exact fun W => bit_calls W x0 b1
      obtain ⟨x2, hx2⟩ : ∃ z, z = bitS x1 b2 := ⟨_, rfl⟩
      have H2 : Hid (∀ W, Calls Tryd.prog 85 #[.int .u32 x1.toNat, .int .u32 b2.toNat] W fun e w' => e = .returned (.int .u32 x2.toNat) ∧ w' = W) := by rw [hx2]; exact fun W => bit_calls W x1 b2
      obtain ⟨x3, hx3⟩ : ∃ z, z = bitS x2 b3 := ⟨_, rfl⟩
      have H3 : Hid (∀ W, Calls Tryd.prog 85 #[.int .u32 x2.toNat, .int .u32 b3.toNat] W fun e w' => e = .returned (.int .u32 x3.toNat) ∧ w' = W) := by rw [hx3]; exact fun W => bit_calls W x2 b3
      obtain ⟨x4, hx4⟩ : ∃ z, z = bitS x3 b4 := ⟨_, rfl⟩
      have H4 : Hid (∀ W, Calls Tryd.prog 85 #[.int .u32 x3.toNat, .int .u32 b4.toNat] W fun e w' => e = .returned (.int .u32 x4.toNat) ∧ w' = W) := by rw [hx4]; exact fun W => bit_calls W x3 b4
      obtain ⟨x5, hx5⟩ : ∃ z, z = bitS x4 b5 := ⟨_, rfl⟩
      have H5 : Hid (∀ W, Calls Tryd.prog 85 #[.int .u32 x4.toNat, .int .u32 b5.toNat] W fun e w' => e = .returned (.int .u32 x5.toNat) ∧ w' = W) := by rw [hx5]; exact fun W => bit_calls W x4 b5
      obtain ⟨x6, hx6⟩ : ∃ z, z = bitS x5 b6 := ⟨_, rfl⟩
      have H6 : Hid (∀ W, Calls Tryd.prog 85 #[.int .u32 x5.toNat, .int .u32 b6.toNat] W fun e w' => e = .returned (.int .u32 x6.toNat) ∧ w' = W) := by rw [hx6]; exact fun W => bit_calls W x5 b6
      obtain ⟨x7, hx7⟩ : ∃ z, z = bitS x6 b7 := ⟨_, rfl⟩
      have H7 : Hid (∀ W, Calls Tryd.prog 85 #[.int .u32 x6.toNat, .int .u32 b7.toNat] W fun e w' => e = .returned (.int .u32 x7.toNat) ∧ w' = W) := by rw [hx7]; exact fun W => bit_calls W x6 b7
      have HX : Hid (x7 = byteS r s[k]) := by
        show _ = _
        rw [← bits8, ← hc]
        simp only [bitsN, hx7, hb7, hc7, hx6, hb6, hc6, hx5, hb5, hc5, hx4, hb4, hc4, hx3, hb3, hc3, hx2, hb2, hc2, hx1, hb1, hc1, hx0, hb0, hc0]
      clear hc hc0 hb0 hx0 hc1 hb1 hx1 hc2 hb2 hx2 hc3 hb3 hx3 hc4 hb4 hx4 hc5 hb5 hx5 hc6 hb6 hx6 hc7 hb7 hx7
      go_wp2_with fail
      refine wp_loop_rounds 9 ?_
      rw [rounds_succ]
      go_wp2_with fail
      refine (H0.out _).mono ?_
      rintro e W0 ⟨rfl, hW0⟩
      rw [hW0]
      clear hW0
      go_wp2_with fail
      rw [rounds_succ]
      go_wp2_with fail
      refine (H1.out _).mono ?_
      rintro e W1 ⟨rfl, hW1⟩
      rw [hW1]
      clear hW1
      go_wp2_with fail
      rw [rounds_succ]
      go_wp2_with fail
      refine (H2.out _).mono ?_
      rintro e W2 ⟨rfl, hW2⟩
      rw [hW2]
      clear hW2
      go_wp2_with fail
      rw [rounds_succ]
      go_wp2_with fail
      refine (H3.out _).mono ?_
      rintro e W3 ⟨rfl, hW3⟩
      rw [hW3]
      clear hW3
      go_wp2_with fail
      rw [rounds_succ]
      go_wp2_with fail
      refine (H4.out _).mono ?_
      rintro e W4 ⟨rfl, hW4⟩
      rw [hW4]
      clear hW4
      go_wp2_with fail
      rw [rounds_succ]
      go_wp2_with fail
      refine (H5.out _).mono ?_
      rintro e W5 ⟨rfl, hW5⟩
      rw [hW5]
      clear hW5
      go_wp2_with fail
      rw [rounds_succ]
      go_wp2_with fail
      refine (H6.out _).mono ?_
      rintro e W6 ⟨rfl, hW6⟩
      rw [hW6]
      clear hW6
      go_wp2_with fail
      rw [rounds_succ]
      go_wp2_with fail
      refine (H7.out _).mono ?_
      rintro e W7 ⟨rfl, hW7⟩
      rw [hW7]
      clear hW7
      go_wp2_with fail
      rw [rounds_succ]
      go_wp2_with fail
      go_round
      case rel =>
        refine ⟨k + 1, by omega, by go_num, ?_⟩
        rw [HX.out, HR.out, List.take_succ_eq_append_getElem (by simpa using hlt), List.foldl_append]
        rfl
      case measure => simp [intOf]; omega
    · obtain rfl : k = s.size := by omega
      go_wp2_with fail
      go_ret
      refine ⟨?_, rfl⟩
      rw [n32, show s.size = s.data.toList.length from by simp, List.take_length]
      rfl

set_option maxRecDepth 100000 in
theorem rcrc_calls (w : World) (s : ByteArray) (hs : s.size ≤ 281474976710656) : Calls Tryd.prog 42 #[.string s] w fun e w' => e = .returned (.int .u32 (moreP 0 s.data.toList).toNat) ∧ w' = w := by
  have HM : Hid (Calls Tryd.prog 71 #[.int .u32 0, .string s] w fun e w' => e = .returned (.int .u32 (moreP 0 s.data.toList).toNat) ∧ w' = w) := rmore_calls w 0 s hs
  go_enter Tryd.func42, Tryd.ntmps42
  go_wp2_with fail
  refine HM.out.mono ?_
  rintro e W1 ⟨rfl, hW1⟩
  rw [hW1]
  clear hW1
  go_wp2_with fail
  go_ret
  exact ⟨rfl, rfl⟩

theorem own_mono0 {w : World} {B n : Nat} {e : TypeId} {v : Value} {xs : List Value} (h : w.ownsRow B e 1 v n xs) : w.ownsRow 0 e 1 v n xs :=
  ⟨h.1, h.2.imp id (fun ⟨g, c, cur, a, _, r⟩ => ⟨g, c, cur, a, Nat.zero_le _, r⟩)⟩
theorem own_set {w : World} {B g cap n i : Nat} {e : TypeId} {xs : List Value} (h : w.ownsRow B e 1 (.slice (some ⟨g, 0, none⟩) n cap) n xs) (v : Value) :
    (w.setCell ⟨g, i, none⟩ v).ownsRow B e 1 (.slice (some ⟨g, 0, none⟩) n cap) n (xs.set i v) := by
  obtain ⟨hl, hn | ⟨g2, c2, cur, hv, hb, hh, hnc, hcm, hcs, htk⟩⟩ := h
  · exact absurd hn.1 (by simp)
  · injection hv with e1 _ e3
    injection e1 with e1
    injection e1 with e1
    subst e1 e3
    refine ⟨by rw [List.length_set]; exact hl, Or.inr ⟨g, cap, cur.setIfInBounds i v, rfl, hb, heap_setCell_same w g i cur e v hh, hnc, hcm, by rw [Array.size_setIfInBounds]; exact hcs, ?_⟩⟩
    rw [Array.toList_setIfInBounds, List.take_set, htk]
theorem own_frozen {w : World} {B g cap n i : Nat} {e : TypeId} {xs : List Value} (h : w.ownsRow B e 1 (.slice (some ⟨g, 0, none⟩) n cap) n xs) : w.frozen? ⟨g, i, none⟩ = false := by
  obtain ⟨hl, hn | ⟨g2, c2, cur, hv, hb, hh, hnc, hcm, hcs, htk⟩⟩ := h
  · exact absurd hn.1 (by simp)
  · injection hv with e1 _ e3
    injection e1 with e1
    injection e1 with e1
    subst e1 e3
    exact frozen_of_row w g i _ _ hh
theorem made_zero (n : Nat) : (madeCells (Value.cells (.int .u8 0)) (n * 1)).toList = bcells (List.replicate n 0) := by
  apply List.ext_getElem?
  intro i
  by_cases h : i < n
  · simp [madeCells, bcells, h, Value.cells, Nat.mod_one]
  · simp [madeCells, bcells, h, Value.cells]
set_option maxRecDepth 100000 in
theorem noughts_calls (n : Nat) (hn : n ≤ 1000000) (w : World) :
    Calls Tryd.prog 23 #[.int .i64 n] w fun e w' => e = .returned (.string (noughtS n)) ∧ Same w w' := by
  obtain ⟨i0, hi, hz0, hz1, hz2⟩ := info_parts Tryd.info5
  obtain ⟨W1, hmk, hown, hg⟩ := run_make_full (P := Tryd.prog) w 0 80 5 i0 (.int .u8 0) 1 Tryd.underlying80 hi hz0 hz1 .i64 .i64 n (by rw [hz2]; omega) (by unfold maxLen; omega) (Nat.zero_le _)
  rw [made_zero] at hown
  have hcv := owns_string (P := Tryd.prog) (w := W1) (v := .slice (some ⟨w.heap.size, 0, none⟩) n n) (bs := List.replicate n 0) (by show World.ownsRow _ _ _ _ _ _ _; rw [List.length_replicate]; exact hown) 80 9 Tryd.underlying80 Tryd.underlying5 Tryd.underlying9
  have s1 : Same w W1 := Fr.grown (Fr.refl _ w) hg (fun k hk => by cases hk)
  clear hown hg
  go_enter Tryd.func23, Tryd.ntmps23
  go_wp2_with fail
  go_ret
  exact ⟨rfl, s1⟩

theorem set_mid {a : List UInt8} {x y : UInt8} {b : List UInt8} {k : Nat} (h : a.length = k) : (bcells (a ++ x :: b)).set k (.int .u8 y.toNat) = bcells (a ++ y :: b) := by
  subst h
  simp [bcells]
set_option maxRecDepth 100000 in
set_option maxHeartbeats 1000000 in
theorem number_calls (n many : Nat) (hn : n < 18446744073709551616) (hm : many ≤ 8) (w : World) :
    Calls Tryd.prog 40 #[.int .u64 n, .int .i64 many] w fun e w' => e = .returned (.string ⟨(fixB many n).toArray⟩) ∧ Same w w' := by
  obtain ⟨i0, hi, hz0, hz1, hz2⟩ := info_parts Tryd.info5
  obtain ⟨W1, hmk, hown, hg⟩ := run_make_full (P := Tryd.prog) w w.heap.size 80 5 i0 (.int .u8 0) 1 Tryd.underlying80 hi hz0 hz1 .i64 .i64 many (by rw [hz2]; omega) (by unfold maxLen; omega) (Nat.le_refl _)
  rw [made_zero] at hown
  have s1 : Same w W1 := Fr.grown (Fr.refl _ w) hg (fun k hk => by cases hk)
  have HMW : Hid (many ≤ 8) := hm
  have hw1 : IntKind.i64.wrap ((many : Int) - 1) = (many : Int) - 1 := by rw [IntKind.wrap_i64]; omega
  have HO1 : Hid (W1.ownsRow w.heap.size 5 1 (.slice (some ⟨w.heap.size, 0, none⟩) many many) many (bcells (List.replicate many 0))) := hown
  clear hown hg
  go_enter Tryd.func40, Tryd.ntmps40
  go_wp2_with fail
  go_loopg [0, 6] many (fun g nv iv wr => ∃ (k X : Nat), nv = .int .u64 X ∧ iv = .int .i64 ((k : Int) - 1) ∧ k ≤ many ∧ g = k ∧ Hid (X = n / 256 ^ (many - k)) ∧ Hid (wr.ownsRow w.heap.size 5 1 (.slice (some ⟨w.heap.size, 0, none⟩) many many) many (bcells (List.replicate k 0 ++ fixB (many - k) n))) ∧ Same w wr)
  case atStart => exact ⟨many, n, rfl, rfl, by omega, rfl, by show _ = _; simp, by show World.ownsRow _ _ _ _ _ _ _; rw [Nat.sub_self]; simpa [fixB] using HO1.out, s1⟩
  case round =>
    obtain ⟨k, X, rfl, rfl, hk, hg, HX, HO, sr⟩ := hrel
    by_cases hpos : 0 < k
    · obtain ⟨k, rfl⟩ : ∃ k', k = k' + 1 := ⟨k - 1, by omega⟩
      obtain ⟨x, hx⟩ : ∃ x : UInt8, x = UInt8.ofNat (X % 256) := ⟨_, rfl⟩
      have hxv : (X : Int) % 256 = (x.toNat : Int) := by rw [hx]; simp
      obtain ⟨Y, hY⟩ : ∃ Y : Nat, Y = X / 256 := ⟨_, rfl⟩
      have hyv : (X : Int) / 256 = (Y : Int) := by omega
      have hYb : Y < 18446744073709551616 := by
        have h1 : X ≤ n := by rw [HX.out]; exact Nat.div_le_self _ _
        omega
      have hyw : IntKind.u64.wrap (Y : Int) = (Y : Int) := by rw [IntKind.wrap_u64]; omega
      have HY : Hid (Y = n / 256 ^ (many - k)) := by
        show _ = _
        rw [hY, HX.out, Nat.div_div_eq_div_mul, ← Nat.pow_succ]; congr 2; omega
      have hfx : fixB (many - k) (n : Int) = x :: fixB (many - (k + 1)) (n : Int) := by
        rw [show many - k = (many - (k + 1)) + 1 from by omega, fixB_low', hx, HX.out]
      have HO2 : Hid ((wr.setCell ⟨w.heap.size, k, none⟩ (.int .u8 x.toNat)).ownsRow w.heap.size 5 1 (.slice (some ⟨w.heap.size, 0, none⟩) many many) many (bcells (List.replicate k 0 ++ fixB (many - k) n))) := by
        show World.ownsRow _ _ _ _ _ _ _
        have h := own_set (i := k) HO.out (.int .u8 x.toNat)
        rw [List.replicate_succ', List.append_assoc, List.singleton_append, set_mid (by simp), ← hfx] at h
        exact h
      have hfz : wr.frozen? ⟨w.heap.size, k, none⟩ = false := own_frozen HO.out
      have hc : wr.cell? ⟨w.heap.size, k, none⟩ = some (.int .u8 0) := by
        have := HO.out.cells (g := w.heap.size) rfl k (.int .u8 0) (by rw [bcells, List.getElem?_map, List.getElem?_append_left (by simp), List.getElem?_replicate, if_pos (by omega)]; rfl)
        rw [Addr.add_mid] at this
        simpa using this
      have s2 : Same w (wr.setCell ⟨w.heap.size, k, none⟩ (.int .u8 x.toNat)) := sr.setCell (p := ⟨w.heap.size, k, none⟩) (fun h => absurd h (by simp)) _
      clear hx hY hfx HX HO hw1
      rw [show ((((k + 1 : Nat) : Int)) - 1) = (k : Int) from by omega]
      go_wp2_with fail
      go_roundg k
      case measure => omega
      case rel => exact ⟨k, Y, rfl, by go_num, by omega, rfl, HY, HO2, s2⟩
    · obtain rfl : k = 0 := by omega
      have HO3 : Hid (wr.ownsRow 0 5 1 (.slice (some ⟨w.heap.size, 0, none⟩) many many) many (bcells (fixB many n))) := by
        have := own_mono0 HO.out
        show World.ownsRow _ _ _ _ _ _ _
        simpa using this
      have hcv := owns_string (P := Tryd.prog) (w := wr) (v := .slice (some ⟨w.heap.size, 0, none⟩) many many) (bs := fixB many n) (by show World.ownsRow _ _ _ _ _ _ _; rw [fixB_length]; exact HO3.out) 80 9 Tryd.underlying80 Tryd.underlying5 Tryd.underlying9
      clear HX HO HO3 hw1
      go_wp2_with fail
      go_ret
      exact ⟨rfl, sr⟩

set_option maxRecDepth 100000 in
set_option maxHeartbeats 1000000 in
theorem rlog_calls {p : Int} (hp : p = 1024 ∨ p = 2048 ∨ p = 4096 ∨ p = 8192) (w : World) :
    Calls Tryd.prog 41 #[.int .i64 p] w fun e w' => e = .returned (.int .i64 (logP p)) ∧ w' = w := by
  rcases hp with rfl | rfl | rfl | rfl
  · go_enter Tryd.func41, Tryd.ntmps41
    go_wp2_with fail
    go_rounds 11
    go_ret
    exact ⟨rfl, rfl⟩
  · go_enter Tryd.func41, Tryd.ntmps41
    go_wp2_with fail
    go_rounds 12
    go_ret
    exact ⟨rfl, rfl⟩
  · go_enter Tryd.func41, Tryd.ntmps41
    go_wp2_with fail
    go_rounds 13
    go_ret
    exact ⟨rfl, rfl⟩
  · go_enter Tryd.func41, Tryd.ntmps41
    go_wp2_with fail
    go_rounds 14
    go_ret
    exact ⟨rfl, rfl⟩

theorem beN_take (l : List UInt8) (k : Nat) (x : UInt8) (h : l[k]? = some x) : beN (l.take (k + 1)) = 256 * beN (l.take k) + x.toNat := by
  have hl := (List.getElem?_eq_some_iff.1 h).1
  have e : l.take (k + 1) = l.take k ++ [x] := by
    rw [List.take_add_one, h]; rfl
  rw [e, beN, List.foldl_append]
  show beN (l.take k) * 256 + x.toNat = _
  omega
set_option maxRecDepth 100000 in
set_option maxHeartbeats 1000000 in
theorem whole_calls (s : ByteArray) (hs : s.size ≤ 8) (w : World) :
    Calls Tryd.prog 77 #[.string s] w fun e w' => e = .returned (.int .u64 (beN s.data.toList)) ∧ w' = w := by
  have hl := bytes_length s
  have HS : Hid (s.size ≤ 8) := hs
  go_enter Tryd.func77, Tryd.ntmps77
  go_wp2_with fail
  go_loopg [3, 4] s.size (fun g nv iv wr => ∃ (k X : Nat), nv = .int .u64 X ∧ iv = .int .i64 (k : Int) ∧ k ≤ s.size ∧ g = s.size - k ∧ Hid (X = beN (s.data.toList.take k)) ∧ wr = w)
  case atStart => exact ⟨0, 0, rfl, rfl, by omega, by omega, rfl, rfl⟩
  case round =>
    obtain ⟨k, X, rfl, rfl, hk, hg, HX, rfl⟩ := hrel
    by_cases hgo : k < s.size
    · obtain ⟨x, hx⟩ : ∃ x : UInt8, x = s[k]'hgo := ⟨_, rfl⟩
      have hx' : s.data.toList[k]? = some x := by
        rw [List.getElem?_eq_getElem (by rw [hl]; exact hgo), hx]; rfl
      have hlt := beN_lt (s.data.toList.take k)
      have hlen : (s.data.toList.take k).length = k := by rw [List.length_take, hl]; omega
      rw [hlen, ← HX.out] at hlt
      have hXb : X < 72057594037927936 := by
        have : 256 ^ k ≤ 256 ^ 7 := Nat.pow_le_pow_right (by decide) (by omega)
        omega
      have hxb := UInt8.toNat_lt x
      obtain ⟨Y, hY⟩ : ∃ Y : Nat, Y = 256 * X + x.toNat := ⟨_, rfl⟩
      have HY : Hid (Y = beN (s.data.toList.take (k + 1))) := by show _ = _; rw [beN_take _ _ _ hx', ← HX.out, hY]
      have hyv : 256 * (X : Int) + (x.toNat : Int) = (Y : Int) := by omega
      have hYb : Y < 18446744073709551616 := by omega
      have e1 : IntKind.u64.wrap ((s[k]'hgo).toNat : Int) = (x.toNat : Int) := by rw [IntKind.wrap_u64, hx]; have := UInt8.toNat_lt (s[k]'hgo); omega
      have e2 : IntKind.u64.wrap (256 * (X : Int) + (x.toNat : Int)) = (Y : Int) := by rw [IntKind.wrap_u64]; omega
      clear hY hlt hlen hx' HX hx hyv
      go_wp2_with fail
      go_roundg (s.size - (k + 1))
      case measure => omega
      case rel => exact ⟨k + 1, Y, rfl, by go_num, by omega, rfl, HY, rfl⟩
    · obtain rfl : k = s.size := by omega
      have hX : X = beN s.data.toList := by rw [HX.out, List.take_of_length_le (by omega)]
      subst hX
      clear HX
      go_wp2_with fail
      go_ret
      exact ⟨rfl, rfl⟩

theorem add_run {P : Program} {a b c : ByteArray} (h : a ++ b = c) (hs : a.size + b.size ≤ 1099511627776) (W : World) : (Op.stringOp .add a b).run P W = .ok (.string c) W := by
  have hm : IntKind.i64.max = 9223372036854775807 := by decide
  have hc : ¬ (((a.size + b.size : Nat) : Int) > IntKind.i64.max) := by omega
  simp only [Op.stringOp, if_neg hc, h]; rfl
theorem size_list (l : List UInt8) : (ByteArray.mk l.toArray).size = l.length := by
  rw [← bytes_length, List.toList_toArray]
theorem append_list (a b : List UInt8) : (ByteArray.mk a.toArray) ++ (ByteArray.mk b.toArray) = ⟨(a ++ b).toArray⟩ := by
  apply ByteArray.ext; simp
theorem add_lists {P : Program} (a b : List UInt8) (h : a.length + b.length ≤ 1099511627776) (W : World) : (Op.stringOp .add ⟨a.toArray⟩ ⟨b.toArray⟩).run P W = .ok (.string ⟨(a ++ b).toArray⟩) W :=
  add_run (append_list a b) (by rw [size_list, size_list]; exact h) W
/-- A text of one byte out of a slice that was just built. -/
theorem conv_one (w : World) (x : UInt8) : (convert 80 9 (.slice (some ⟨w.heap.size, 0, none⟩) 1 1)).run Tryd.prog (w.alloc (.cells #[.int .u8 x.toNat] 5)) = .ok (.string ⟨#[x]⟩) (w.alloc (.cells #[.int .u8 x.toNat] 5)) :=
  owns_string (P := Tryd.prog) (bs := [x]) (by
    show World.ownsRow _ _ _ _ _ _ _
    exact World.ownsRow_lit w #[.int .u8 x.toNat] 1 (Nat.zero_le _) (by decide) rfl) 80 9 Tryd.underlying80 Tryd.underlying5 Tryd.underlying9

set_option maxRecDepth 100000 in
set_option maxHeartbeats 4000000 in
theorem bytes_core {p : Int} {q lg : Nat} {A : Array Value} {v c rv rp li pg : Nat} {D : List UInt8} {M1 G1 G2 Z2 B1 B2 B3 N1 N2 N3 N4 N5 N6 C1 C2 C3 C4 C5 E0 R4 OUT : ByteArray} {CR : Nat} (w : World) (hD : D.length = 32) (hcr : CR < 4294967296)
    (hq : q < 256) (hlg : lg < 256) (hrp : rp < 4294967296) (hli : li < 4294967296) (hpg : pg < 4294967296)
    (HS : Hid (∀ W, Same ((w.alloc (.cells #[.int .i64 p, .int .i64 q] 23)).alloc (.cells A 34)) W → W.cell? ⟨w.heap.size, 0, none⟩ = some (.int .i64 p) ∧ W.cell? ⟨w.heap.size, 1, none⟩ = some (.int .i64 q) ∧ W.cell? ⟨w.heap.size + 1, 0, none⟩ = some (.int .u64 v) ∧ W.cell? ⟨w.heap.size + 1, 34, none⟩ = some (.int .u64 c) ∧ W.cell? ⟨w.heap.size + 1, 35, none⟩ = some (.int .u64 rv) ∧ W.cell? ⟨w.heap.size + 1, 1, none⟩ = some (.int .u32 rp) ∧ W.cell? ⟨w.heap.size + 1, 36, none⟩ = some (.int .u32 li) ∧ W.cell? ⟨w.heap.size + 1, 37, none⟩ = some (.int .u32 pg)))
    (HD : Hid (∀ W, Same ((w.alloc (.cells #[.int .i64 p, .int .i64 q] 23)).alloc (.cells A 34)) W → W.rangeAt (w.heap.size + 1) 2 (bcells D)))
    (HNM : Hid (∀ W, Calls Tryd.prog 40 #[.int .u64 1752657201, .int .i64 4] W fun e w' => e = .returned (.string M1) ∧ Same W w'))
    (HLG : Hid (∀ W, Calls Tryd.prog 41 #[.int .i64 p] W fun e w' => e = .returned (.int .i64 lg) ∧ w' = W))
    (HN1 : Hid (∀ W, Calls Tryd.prog 40 #[.int .u64 lg, .int .i64 1] W fun e w' => e = .returned (.string G1) ∧ Same W w'))
    (HN2 : Hid (∀ W, Calls Tryd.prog 40 #[.int .u64 q, .int .i64 1] W fun e w' => e = .returned (.string G2) ∧ Same W w'))
    (HZ2 : Hid (∀ W, Calls Tryd.prog 23 #[.int .i64 2] W fun e w' => e = .returned (.string Z2) ∧ Same W w'))
    (b1 : ∀ W : World, (Op.stringOp .add M1 G1).run Tryd.prog W = .ok (.string B1) W) (b2 : ∀ W : World, (Op.stringOp .add B1 G2).run Tryd.prog W = .ok (.string B2) W) (b3 : ∀ W : World, (Op.stringOp .add B2 Z2).run Tryd.prog W = .ok (.string B3) W)
    (HV : Hid (∀ W, Calls Tryd.prog 40 #[.int .u64 v, .int .i64 8] W fun e w' => e = .returned (.string N1) ∧ Same W w'))
    (HC : Hid (∀ W, Calls Tryd.prog 40 #[.int .u64 c, .int .i64 8] W fun e w' => e = .returned (.string N2) ∧ Same W w'))
    (HRV : Hid (∀ W, Calls Tryd.prog 40 #[.int .u64 rv, .int .i64 8] W fun e w' => e = .returned (.string N3) ∧ Same W w'))
    (HRP : Hid (∀ W, Calls Tryd.prog 40 #[.int .u64 rp, .int .i64 4] W fun e w' => e = .returned (.string N4) ∧ Same W w'))
    (HLI : Hid (∀ W, Calls Tryd.prog 40 #[.int .u64 li, .int .i64 4] W fun e w' => e = .returned (.string N5) ∧ Same W w'))
    (HPG : Hid (∀ W, Calls Tryd.prog 40 #[.int .u64 pg, .int .i64 4] W fun e w' => e = .returned (.string N6) ∧ Same W w'))
    (c1 : ∀ W : World, (Op.stringOp .add N1 N2).run Tryd.prog W = .ok (.string C1) W) (c2 : ∀ W : World, (Op.stringOp .add C1 N3).run Tryd.prog W = .ok (.string C2) W) (c3 : ∀ W : World, (Op.stringOp .add C2 N4).run Tryd.prog W = .ok (.string C3) W) (c4 : ∀ W : World, (Op.stringOp .add C3 N5).run Tryd.prog W = .ok (.string C4) W) (c5 : ∀ W : World, (Op.stringOp .add C4 N6).run Tryd.prog W = .ok (.string C5) W) (c6 : ∀ W : World, (Op.stringOp .add B3 C5).run Tryd.prog W = .ok (.string E0) W) (hE0 : E0.size = 44)
    (HCR : Hid (∀ W, Calls Tryd.prog 42 #[.string (E0 ++ ⟨D.toArray⟩)] W fun e w' => e = .returned (.int .u32 CR) ∧ w' = W))
    (HN9 : Hid (∀ W, Calls Tryd.prog 40 #[.int .u64 CR, .int .i64 4] W fun e w' => e = .returned (.string R4) ∧ Same W w'))
    (HOUT : Hid (∀ W : World, (Op.stringOp .add (E0 ++ ⟨D.toArray⟩) R4).run Tryd.prog W = .ok (.string OUT) W)) :
    Calls Tryd.prog 22 #[frameV p q, .agg A] w fun e w' => e = .returned (.string OUT) ∧ Same w w' := by
  obtain ⟨V, hV⟩ : ∃ V, V = ((w.alloc (.cells #[.int .i64 p, .int .i64 q] 23)).alloc (.cells A 34)) := ⟨_, rfl⟩
  rw [← hV] at HS HD
  have sx : Same w V := by rw [hV]; exact ((Fr.refl _ w).alloc _).alloc _
  have u1 : IntKind.u64.wrap (lg : Int) = (lg : Int) := by rw [IntKind.wrap_u64]; omega
  have u2 : IntKind.u64.wrap (q : Int) = (q : Int) := by rw [IntKind.wrap_u64]; omega
  have u3 : IntKind.u64.wrap (rp : Int) = (rp : Int) := by rw [IntKind.wrap_u64]; omega
  have u4 : IntKind.u64.wrap (li : Int) = (li : Int) := by rw [IntKind.wrap_u64]; omega
  have u5 : IntKind.u64.wrap (pg : Int) = (pg : Int) := by rw [IntKind.wrap_u64]; omega
  have u6 : IntKind.u64.wrap (CR : Int) = (CR : Int) := by rw [IntKind.wrap_u64]; omega
  obtain ⟨k0, k1, k2, k3, k4, k5, k6, k7⟩ := HS.out V (Fr.refl _ V)
  have d0 : Same V V.drew := Fr.drew (Fr.refl _ V)
  have HDl : Hid (D.length = 32) := hD
  have HE0 : Hid (E0.size = 44) := hE0
  clear hcr hq hlg hrp hli hpg hD hE0
  go_enter Tryd.func22, Tryd.ntmps22
  go_wp2_with fail
  rw [← hV]
  clear hV
  go_region_held3 (fun w' => w'.cell? ⟨w.heap.size, 0, none⟩ = some (.int .i64 p) ∧ w'.cell? ⟨w.heap.size, 1, none⟩ = some (.int .i64 q) ∧ w'.cell? ⟨w.heap.size + 1, 0, none⟩ = some (.int .u64 v) ∧ w'.cell? ⟨w.heap.size + 1, 34, none⟩ = some (.int .u64 c) ∧ w'.cell? ⟨w.heap.size + 1, 35, none⟩ = some (.int .u64 rv) ∧ w'.cell? ⟨w.heap.size + 1, 1, none⟩ = some (.int .u32 rp) ∧ w'.cell? ⟨w.heap.size + 1, 36, none⟩ = some (.int .u32 li) ∧ w'.cell? ⟨w.heap.size + 1, 37, none⟩ = some (.int .u32 pg)) (first | exact HS.out _ t4 | exact HS.out _ t3 | exact HS.out _ t2 | exact HS.out _ t1 | exact HS.out _ d0)
    (first | (have hh := t3; go_at_call 23; refine (HZ2.out _).mono ?_; rintro e W4 ⟨rfl, hs⟩; have t4 := t3.trans hs; clear hs) | (have hh := t2; go_at_call 40; refine (HN2.out _).mono ?_; rintro e W3 ⟨rfl, hs⟩; have t3 := t2.trans hs; clear hs) | (have hh := t1; go_at_call 40; refine (HN1.out _).mono ?_; rintro e W2 ⟨rfl, hs⟩; have t2 := t1.trans hs; clear hs) | (go_at_call 41; refine (HLG.out _).mono ?_; rintro e W5 ⟨rfl, rfl⟩) | (go_at_call 40; refine (HNM.out _).mono ?_; rintro e W1 ⟨rfl, hs⟩; have t1 := d0.trans hs; clear hs))
  clear b1 b2 b3 HNM HLG HN1 HN2 HZ2 t1 t2 t3 k0 k1 k2 k3 k4 k5 k6 k7 d0 u1 u2
  obtain ⟨k0, k1, k2, k3, k4, k5, k6, k7⟩ := HS.out W4 t4
  have d4 : Same V W4.drew := Fr.drew t4
  go_wp2_with fail
  go_region_held3 (fun w' => w'.cell? ⟨w.heap.size, 0, none⟩ = some (.int .i64 p) ∧ w'.cell? ⟨w.heap.size, 1, none⟩ = some (.int .i64 q) ∧ w'.cell? ⟨w.heap.size + 1, 0, none⟩ = some (.int .u64 v) ∧ w'.cell? ⟨w.heap.size + 1, 34, none⟩ = some (.int .u64 c) ∧ w'.cell? ⟨w.heap.size + 1, 35, none⟩ = some (.int .u64 rv) ∧ w'.cell? ⟨w.heap.size + 1, 1, none⟩ = some (.int .u32 rp) ∧ w'.cell? ⟨w.heap.size + 1, 36, none⟩ = some (.int .u32 li) ∧ w'.cell? ⟨w.heap.size + 1, 37, none⟩ = some (.int .u32 pg)) (first | exact HS.out _ t10 | exact HS.out _ t9 | exact HS.out _ t8 | exact HS.out _ t7 | exact HS.out _ t6 | exact HS.out _ t5 | exact HS.out _ d4)
    (first | (have hh := t9; go_at_call 40; refine (HPG.out _).mono ?_; rintro e W10 ⟨rfl, hs⟩; have t10 := t9.trans hs; clear hs) | (have hh := t8; go_at_call 40; refine (HLI.out _).mono ?_; rintro e W9 ⟨rfl, hs⟩; have t9 := t8.trans hs; clear hs) | (have hh := t7; go_at_call 40; refine (HRP.out _).mono ?_; rintro e W8 ⟨rfl, hs⟩; have t8 := t7.trans hs; clear hs) | (have hh := t6; go_at_call 40; refine (HRV.out _).mono ?_; rintro e W7 ⟨rfl, hs⟩; have t7 := t6.trans hs; clear hs) | (have hh := t5; go_at_call 40; refine (HC.out _).mono ?_; rintro e W6 ⟨rfl, hs⟩; have t6 := t5.trans hs; clear hs) | (go_at_call 40; refine (HV.out _).mono ?_; rintro e W5 ⟨rfl, hs⟩; have t5 := d4.trans hs; clear hs))
  clear c1 c2 c3 c4 c5 c6 HV HC HRV HRP HLI HPG t4 t5 t6 t7 t8 t9 k0 k1 k2 k3 k4 k5 k6 k7 d4 u3 u4 u5
  go_wp2_with fail
  go_loopg [5, 6] 32 (fun g sv iv wr => ∃ (k : Nat) (X : ByteArray), sv = .string X ∧ iv = .int .i64 (k : Int) ∧ k ≤ 32 ∧ g = 32 - k ∧ Hid (X = E0 ++ ⟨(D.take k).toArray⟩) ∧ Same V wr)
  case atStart => exact ⟨0, E0, rfl, rfl, by omega, rfl, by show _ = _; apply ByteArray.ext; simp, t10⟩
  case round =>
    obtain ⟨k, X, rfl, rfl, hk, hg, HX, sr⟩ := hrel
    by_cases hgo : k < 32
    · obtain ⟨x, hx⟩ : ∃ x, D[k]? = some x := ⟨_, List.getElem?_eq_getElem (by rw [HDl.out]; exact hgo)⟩
      have cx := HD.out _ sr k (.int .u8 x.toNat) (by rw [bcells, List.getElem?_map, hx]; rfl)
      have b1 : (k : Int) < 32 := by omega
      have b0 : (0 : Int) ≤ (k : Int) := by omega
      have hcv := conv_one wr x
      obtain ⟨Y, hY⟩ : ∃ Y : ByteArray, Y = X ++ ⟨#[x]⟩ := ⟨_, rfl⟩
      have hXs : X.size = 44 + k := by
        rw [HX.out, ByteArray.size_append, HE0.out, size_list (D.take k), List.length_take, HDl.out]; omega
      have g1 : ∀ W : World, (Op.stringOp .add X ⟨#[x]⟩).run Tryd.prog W = .ok (.string Y) W := add_run hY.symm (by rw [hXs, show (ByteArray.mk #[x]).size = 1 from rfl]; omega)
      have HY : Hid (Y = E0 ++ ⟨(D.take (k + 1)).toArray⟩) := by
        show _ = _
        rw [hY, HX.out, List.take_add_one, hx]
        apply bytes_ext
        simp
      have s2 := sr.alloc (.cells #[.int .u8 x.toNat] 5)
      clear hx hY HX hXs
      go_wp2_with fail
      go_roundg (32 - (k + 1))
      case measure => omega
      case rel => exact ⟨k + 1, Y, rfl, by go_num, by omega, rfl, HY, s2⟩
    · obtain rfl : k = 32 := by omega
      have hX : X = E0 ++ ⟨D.toArray⟩ := by rw [HX.out, List.take_of_length_le (by rw [HDl.out]; omega)]
      rw [← hX] at HCR HOUT
      have g1 := HOUT.out
      clear HX hX
      go_wp2_with fail
      refine (HCR.out _).mono ?_
      rintro e W8 ⟨rfl, hW8⟩
      rw [hW8]
      clear hW8
      go_wp2_with fail
      refine (HN9.out _).mono ?_
      rintro e W9 ⟨rfl, s9⟩
      go_wp2_with fail
      go_ret
      exact ⟨rfl, (sx.trans sr).trans s9⟩

theorem fixB_mark : fixB 4 (1752657201 : Nat) = [104, 119, 109, 49] := by decide +kernel
theorem bytes_calls {p q : Int} (hf : frameP p q = true) (m : Rec) (hm : RecOk m) (w : World) :
    Calls Tryd.prog 22 #[frameV p q, metaV m] w fun e w' => e = .returned (.string (formS p q m)) ∧ Same w w' := by
  obtain ⟨hp4, hq1, hq2⟩ := frameP_cases hf
  obtain ⟨qn, rfl⟩ := Int.eq_ofNat_of_zero_le (show 0 ≤ q by omega)
  have hlg : logP p < 256 := by rcases hp4 with rfl | rfl | rfl | rfl <;> decide
  have hV : MAt ((w.alloc (.cells #[.int .i64 p, .int .i64 (qn : Int)] 23)).alloc (.cells m.arr 34)) (w.heap.size + 1) m := heap_alloc2_new w _ _
  have zz : ∀ l : List UInt8, (ByteArray.mk l.toArray).size = l.length := size_list
  have he : (⟨(fixB 4 ((1752657201 : Nat) : Int) ++ fixB 1 (logP p) ++ fixB 1 qn ++ List.replicate 2 0 ++ (fixB 8 m.v ++ fixB 8 m.c ++ fixB 8 m.rv ++ fixB 4 m.rp ++ fixB 4 m.li ++ fixB 4 m.pg)).toArray⟩ : ByteArray) ++ ⟨m.d.toArray⟩ = ⟨(recB (logP p) qn m).toArray⟩ := by
    rw [append_list, fixB_mark]
    unfold recB
    simp [fixB]
  refine bytes_core (lg := logP p) (D := m.d) (v := m.v) (c := m.c) (rv := m.rv) (rp := m.rp) (li := m.li) (pg := m.pg) w hm.d (CR := (crcP [⟨(recB (logP p) qn m).toArray⟩]).toNat) (UInt32.toNat_lt _) (by omega) hlg hm.rp hm.li hm.pg ?_ ?_
    (number_calls 1752657201 4 (by omega) (by omega)) (rlog_calls hp4) (number_calls (logP p) 1 (by omega) (by omega)) (number_calls qn 1 (by omega) (by omega)) (noughts_calls 2 (by omega)) (add_lists _ _ (by simp [fixB_length])) (add_lists _ _ (by simp [fixB_length])) (add_lists _ _ (by simp [fixB_length]))
    (number_calls m.v 8 hm.v (by omega)) (number_calls m.c 8 hm.c (by omega)) (number_calls m.rv 8 hm.rv (by omega)) (number_calls m.rp 4 (by have := hm.rp; omega) (by omega)) (number_calls m.li 4 (by have := hm.li; omega) (by omega)) (number_calls m.pg 4 (by have := hm.pg; omega) (by omega))
    (add_lists _ _ (by simp [fixB_length])) (add_lists _ _ (by simp [fixB_length])) (add_lists _ _ (by simp [fixB_length])) (add_lists _ _ (by simp [fixB_length])) (add_lists _ _ (by simp [fixB_length])) (add_lists _ _ (by simp [fixB_length])) (by rw [size_list]; simp [fixB_length]) ?_ (number_calls _ 4 (by have := UInt32.toNat_lt (crcP [⟨(recB (logP p) qn m).toArray⟩]); omega) (by omega)) ?_
  · intro W h
    obtain ⟨x0, x1, x2, x3, x4, x5⟩ := hV.cells hm.d
    exact ⟨h.keep (by simp), h.keep (by simp), h.keep x0, h.keep x2, h.keep x3, h.keep x1, h.keep x4, h.keep x5⟩
  · intro W h
    exact (hV.same h).sum
  · intro W
    rw [he]
    have := rcrc_calls W ⟨(recB (logP p) qn m).toArray⟩ (by rw [size_list, recB_length _ _ m hm.d]; omega)
    simpa [crcP] using this
  · intro W
    rw [he]
    exact add_lists _ _ (by rw [recB_length _ _ m hm.d, fixB_length]; omega) W

set_option maxRecDepth 100000 in
set_option maxHeartbeats 2000000 in
theorem rencode_bad {p q : Int} {A : Array Value} {E : Int} (w : World) (hAs : A.size = 38) (hE : (E != 0) = true)
    (HC : Hid (∀ W, Calls Tryd.prog 21 #[frameV p q, .agg A] W fun e w' => e = .returned (.int .i64 E) ∧ Same W w')) :
    Calls Tryd.prog 10 #[frameV p q, .agg A] w fun e w' => e = .returned (.tuple #[.string ⟨#[]⟩, .int .i64 E]) ∧ Same w w' := by
  have hE := hE
  have hs : (Tryd.prog.info? 34).map (·.size) = some A.size := by rw [Tryd.infoM, hAs]
  have sx : Same w ((w.alloc (.cells #[.int .i64 p, .int .i64 q] 23)).alloc (.cells A 34)) := ((Fr.refl _ w).alloc _).alloc _
  have hA : ((w.alloc (.cells #[.int .i64 p, .int .i64 q] 23)).alloc (.cells A 34)).heap[w.heap.size + 1]? = some (.cells A 34 (0, 0)) := heap_alloc2_new w _ _
  go_enter Tryd.func10, Tryd.ntmps10
  go_wp2_with (first | (refine wpList_load_want (by rfl) 34 _ (by rfl) (w.heap.size + 1) (by rfl) 34 A (0, 0) _ hA Tryd.underlying34 rfl hs ?_))
  refine (HC.out _).mono ?_
  rintro e W1 ⟨rfl, s1⟩
  go_wp2_with fail
  go_ret2
  exact ⟨rfl, sx.trans s1⟩

set_option maxRecDepth 100000 in
set_option maxHeartbeats 2000000 in
theorem rencode_good {p q : Int} {A : Array Value} {n : Nat} {FS NS OUT : ByteArray} (w : World) (hAs : A.size = 38) (hn : p = ((n + 80 : Nat) : Int)) (hn2 : n ≤ 100000)
    (HC : Hid (∀ W, Calls Tryd.prog 21 #[frameV p q, .agg A] W fun e w' => e = .returned (.int .i64 0) ∧ Same W w'))
    (HB : Hid (∀ W, Calls Tryd.prog 22 #[frameV p q, .agg A] W fun e w' => e = .returned (.string FS) ∧ Same W w'))
    (HN : Hid (∀ W, Calls Tryd.prog 23 #[.int .i64 n] W fun e w' => e = .returned (.string NS) ∧ Same W w'))
    (g1 : ∀ W : World, (Op.stringOp .add FS NS).run Tryd.prog W = .ok (.string OUT) W) :
    Calls Tryd.prog 10 #[frameV p q, .agg A] w fun e w' => e = .returned (.tuple #[.string OUT, .int .i64 0]) ∧ Same w w' := by
  have g1 := g1
  have hs : (Tryd.prog.info? 34).map (·.size) = some A.size := by rw [Tryd.infoM, hAs]
  have hsub : IntKind.i64.wrap (n : Int) = (n : Int) := by rw [IntKind.wrap_i64]; omega
  have hsub2 : p - 80 = (n : Int) := by omega
  have sx : Same w ((w.alloc (.cells #[.int .i64 p, .int .i64 q] 23)).alloc (.cells A 34)) := ((Fr.refl _ w).alloc _).alloc _
  have hA : ((w.alloc (.cells #[.int .i64 p, .int .i64 q] 23)).alloc (.cells A 34)).heap[w.heap.size + 1]? = some (.cells A 34 (0, 0)) := heap_alloc2_new w _ _
  have c0 : ((w.alloc (.cells #[.int .i64 p, .int .i64 q] 23)).alloc (.cells A 34)).cell? ⟨w.heap.size, 0, none⟩ = some (.int .i64 p) := by simp
  have c1 : ((w.alloc (.cells #[.int .i64 p, .int .i64 q] 23)).alloc (.cells A 34)).cell? ⟨w.heap.size, 1, none⟩ = some (.int .i64 q) := by simp
  clear hn hn2
  go_enter Tryd.func10, Tryd.ntmps10
  go_wp2_with (first | (refine wpList_load_want (by rfl) 34 _ (by rfl) (w.heap.size + 1) (by rfl) 34 A (0, 0) _ hA Tryd.underlying34 rfl hs ?_))
  refine (HC.out _).mono ?_
  rintro e W1 ⟨rfl, s1⟩
  have hA1 := (s1.block _ (lt_of_heap hA) (fun f => f)).trans hA
  have c0 := s1.keep c0
  have c1 := s1.keep c1
  have t1 := sx.trans s1
  clear s1 sx hA
  go_wp2_with fail
  refine wp_region_held_drew (S := fun W => W.heap[w.heap.size + 1]? = some (.cells A 34 (0, 0)) ∧ W.cell? ⟨w.heap.size, 0, none⟩ = some (.int .i64 p) ∧ W.cell? ⟨w.heap.size, 1, none⟩ = some (.int .i64 q)) (by kernel_rfl) (⟨hA1, c0, c1⟩) (fun hHeld => ?_)
  refine wpAnyH_take (i := 0) (oi := { dst := some 13, op := Op.load 23 (Operand.tmp 2), type := 23, pos := "ref.go:99", after := #[], guard := none }) (v := .agg #[.int .i64 p, .int .i64 q]) rfl (by kernel_rfl) (by kernel_rfl) (by kernel_rfl) (fun _ _ _ h => h) (Or.inl ⟨by rfl, fun w hSw => by (obtain ⟨_, y1, y2⟩ := hSw; go_simp)⟩) (by assumption) ?_
  try simp only [Act.put, List.setIfInBounds_toArray, List.set_cons_zero, List.set_cons_succ]
  refine wpAnyH_take (i := 1) (oi := { dst := some 14, op := Op.load 34 (Operand.tmp 3), type := 34, pos := "ref.go:99", after := #[], guard := none }) (v := .agg A) rfl (by kernel_rfl) (by kernel_rfl) (by kernel_rfl) (fun _ _ _ h => h) (yieldsIf_load_row (by rfl) 34 _ rfl (w.heap.size + 1) rfl 34 A (0, 0) _ (fun _ h => h.1) Tryd.underlying34 rfl hs) (by assumption) ?_
  try simp only [Act.put, List.setIfInBounds_toArray, List.set_cons_zero, List.set_cons_succ]
  refine wpAnyH_take (i := 3) (oi := { dst := some 16, op := Op.fieldAddr 23 (Operand.tmp 2) 0, type := 0, pos := "ref.go:99", after := #[], guard := none }) (v := .pointer (some ⟨w.heap.size, 0, none⟩)) rfl (by kernel_rfl) (by kernel_rfl) (by kernel_rfl) (fun _ _ _ h => h) (Or.inl ⟨by rfl, fun w hSw => by (obtain ⟨_, y1, y2⟩ := hSw; go_simp)⟩) (by assumption) ?_
  try simp only [Act.put, List.setIfInBounds_toArray, List.set_cons_zero, List.set_cons_succ]
  refine wpAnyH_take (i := 4) (oi := { dst := some 17, op := Op.load 3 (Operand.tmp 16), type := 3, pos := "ref.go:99", after := #[{ on := 3, ground := Ground.data }], guard := none }) (v := .int .i64 p) rfl (by kernel_rfl) (by kernel_rfl) (by kernel_rfl) (fun _ _ _ h => h) (Or.inl ⟨by rfl, fun w hSw => by (obtain ⟨_, y1, y2⟩ := hSw; go_simp)⟩) (by assumption) ?_
  try simp only [Act.put, List.setIfInBounds_toArray, List.set_cons_zero, List.set_cons_succ]
  refine wpAnyH_take (i := 5) (oi := { dst := some 18, op := Op.binOp BinOp.sub 3 (Operand.tmp 17) (Operand.const (Value.int IntKind.i64 80)) 3, type := 3, pos := "ref.go:99", after := #[{ on := 4, ground := Ground.data }], guard := none }) (v := .int .i64 n) rfl (by kernel_rfl) (by kernel_rfl) (by kernel_rfl) (fun _ _ _ h => h) (Or.inl ⟨by rfl, fun w hSw => by (obtain ⟨_, y1, y2⟩ := hSw; go_simp)⟩) (by assumption) ?_
  try simp only [Act.put, List.setIfInBounds_toArray, List.set_cons_zero, List.set_cons_succ]
  refine wpAnyH_ready (rs := [2]) (by kernel_rfl) (by simp) ?_
  refine AllReadyH.cons (o := { dst := some 15, op := Op.call { callee := Callee.value (Operand.func 22), args := #[Operand.tmp 13, Operand.tmp 14], argTypes := #[23, 34] }, type := 9, pos := "ref.go:99", after := #[{ on := 0, ground := Ground.data }, { on := 1, ground := Ground.data }], guard := none }) rfl (fun K hK => ?_) AllReadyH.nil
  go_simp
  go_at_call 22
  refine (HB.out _).mono ?_
  rintro e W2 ⟨rfl, s2⟩
  try go_wp2_with fail
  have s2 : Same W1 W2 := Same.trans (Fr.drew (Fr.refl _ _)) s2
  have hA2 := (s2.block _ (lt_of_heap hA1) (fun f => f)).trans hA1
  have c0 := s2.keep c0
  have c1 := s2.keep c1
  have t2 := t1.trans s2
  refine hK.out _ _ (⟨hA2, c0, c1⟩) (fun hHeld => ?_)
  clear hK K
  try simp only [Act.put, List.setIfInBounds_toArray, List.set_cons_zero, List.set_cons_succ]
  refine wpAnyH_ready (rs := [6]) (by kernel_rfl) (by simp) ?_
  refine AllReadyH.cons (o := { dst := some 19, op := Op.call { callee := Callee.value (Operand.func 23), args := #[Operand.tmp 18], argTypes := #[3] }, type := 9, pos := "ref.go:99", after := #[{ on := 5, ground := Ground.data }, { on := 2, ground := Ground.chain }], guard := none }) rfl (fun K hK => ?_) AllReadyH.nil
  go_simp
  go_at_call 23
  refine (HN.out _).mono ?_
  rintro e W3 ⟨rfl, s3⟩
  try go_wp2_with fail
  have hA3 := (s3.block _ (lt_of_heap hA2) (fun f => f)).trans hA2
  have c0 := s3.keep c0
  have c1 := s3.keep c1
  have t3 := t2.trans s3
  refine hK.out _ _ (⟨hA3, c0, c1⟩) (fun hHeld => ?_)
  clear hK K
  try simp only [Act.put, List.setIfInBounds_toArray, List.set_cons_zero, List.set_cons_succ]
  refine wpAnyH_take (i := 7) (oi := { dst := some 20, op := Op.binOp BinOp.add 9 (Operand.tmp 15) (Operand.tmp 19) 9, type := 9, pos := "ref.go:99", after := #[{ on := 2, ground := Ground.data }, { on := 6, ground := Ground.data }], guard := none }) (v := .string OUT) rfl (by kernel_rfl) (by kernel_rfl) (by kernel_rfl) (fun _ _ _ h => h) (Or.inl ⟨by rfl, fun w hSw => by (obtain ⟨_, y1, y2⟩ := hSw; go_simp)⟩) (by assumption) ?_
  try simp only [Act.put, List.setIfInBounds_toArray, List.set_cons_zero, List.set_cons_succ]
  refine wpAnyH_take (i := 8) (oi := { dst := some 4, op := Op.assign (Operand.tmp 20), type := 9, pos := "ref.go:99", after := #[{ on := 7, ground := Ground.data }, { on := 6, ground := Ground.chain }, { on := 0, ground := Ground.phase }, { on := 1, ground := Ground.phase }, { on := 2, ground := Ground.phase }, { on := 3, ground := Ground.phase }, { on := 4, ground := Ground.phase }, { on := 5, ground := Ground.phase }, { on := 6, ground := Ground.phase }, { on := 7, ground := Ground.phase }], guard := none }) (v := .string OUT) rfl (by kernel_rfl) (by kernel_rfl) (by kernel_rfl) (fun _ _ _ h => h) (Or.inl ⟨by rfl, fun w hSw => by (obtain ⟨_, y1, y2⟩ := hSw; go_simp)⟩) (by assumption) ?_
  try simp only [Act.put, List.setIfInBounds_toArray, List.set_cons_zero, List.set_cons_succ]
  refine wpAnyH_take (i := 9) (oi := { dst := some 5, op := Op.assign (Operand.const (Value.int IntKind.i64 0)), type := 3, pos := "ref.go:99", after := #[{ on := 8, ground := Ground.chain }, { on := 0, ground := Ground.phase }, { on := 1, ground := Ground.phase }, { on := 2, ground := Ground.phase }, { on := 3, ground := Ground.phase }, { on := 4, ground := Ground.phase }, { on := 5, ground := Ground.phase }, { on := 6, ground := Ground.phase }, { on := 7, ground := Ground.phase }, { on := 8, ground := Ground.phase }], guard := none }) (v := .int .i64 0) rfl (by kernel_rfl) (by kernel_rfl) (by kernel_rfl) (fun _ _ _ h => h) (Or.inl ⟨by rfl, fun w hSw => by (obtain ⟨_, y1, y2⟩ := hSw; go_simp)⟩) (by assumption) ?_
  try simp only [Act.put, List.setIfInBounds_toArray, List.set_cons_zero, List.set_cons_succ]
  refine wpAnyH_done (by kernel_rfl) ?_ _
  go_wp2_with fail
  go_ret2
  exact ⟨rfl, t3⟩

theorem rencode_calls (p q : Int) (m : Rec) (hm : RecOk m) (w : World) :
    Calls Tryd.prog 10 #[frameV p q, metaV m] w fun e w' => e = .returned (.tuple #[.string (encS p q m), .int .i64 (chkM p q m)]) ∧ Same w w' := by
  have HC := rcheck_calls p q m hm
  by_cases h : mayM p q m = true
  · obtain ⟨hf, _, _⟩ := mayM_parts h
    obtain ⟨hp4, _, _⟩ := frameP_cases hf
    have hfs := formS_size p q m hm.d
    have hes : encS p q m = formS p q m ++ noughtS (p.toNat - 80) := by unfold encS; rw [if_pos h, fillS, hfs]
    rw [chkM_ok h] at HC ⊢
    rw [hes]
    exact rencode_good (n := p.toNat - 80) w (arr_size m hm.d) (by omega) (by omega) HC (bytes_calls hf m hm) (noughts_calls _ (by omega)) (add_run rfl (by rw [hfs, noughtS_size]; omega))
  · have h' : mayM p q m = false := by simpa using h
    have hes : encS p q m = ⟨#[]⟩ := by unfold encS; rw [if_neg h]
    rw [chkM_bad h'] at HC ⊢
    rw [hes]
    exact rencode_bad w (arr_size m hm.d) (by decide) HC
end Go.Proofs.YtjfkkjangebblaaDoor
