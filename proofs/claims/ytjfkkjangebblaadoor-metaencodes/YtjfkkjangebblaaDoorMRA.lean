/- The document's number, noughts, whole, log, CRC. -/
import Derived.Test.YtjfkkjangebblaaDoorMRX
import Derived.Test.YtjfkkjangebblaaDoorMP
import Derived.Deep.RegionLaw
import Derived.Deep.DrawnRows
import Derived.Laws.OwnMore
namespace Go.Proofs.YtjfkkjangebblaaDoor
open Go.RowKit

set_option maxRecDepth 100000 in
theorem rcrc_calls (w : World) (s : ByteArray) (hs : s.size ≤ 281474976710656) : Calls Tryd.prog 42 #[.string s] w fun e w' => e = .returned (.int .u32 (moreP 0 s.data.toList).toNat) ∧ w' = w := by
  have HM : Hid (Calls Tryd.prog 71 #[.int .u32 0, .string s] w fun e w' => e = .returned (.int .u32 (moreP 0 s.data.toList).toNat) ∧ w' = w) := rmore_calls w 0 s hs
  go_enter Tryd.func42, Tryd.ntmps42
  go_wp2_with fail
  refine HM.out.mono ?_
  rintro e W1 ⟨rfl, hW1⟩
  rw [hW1]
  clear hW1
  go_wp2_with fail
  go_ret
  exact ⟨rfl, rfl⟩

theorem own_mono0 {w : World} {B n : Nat} {e : TypeId} {v : Value} {xs : List Value} (h : w.ownsRow B e 1 v n xs) : w.ownsRow 0 e 1 v n xs :=
  ⟨h.1, h.2.imp id (fun ⟨g, c, cur, a, _, r⟩ => ⟨g, c, cur, a, Nat.zero_le _, r⟩)⟩
theorem own_set {w : World} {B g cap n i : Nat} {e : TypeId} {xs : List Value} (h : w.ownsRow B e 1 (.slice (some ⟨g, 0, none⟩) n cap) n xs) (v : Value) :
    (w.setCell ⟨g, i, none⟩ v).ownsRow B e 1 (.slice (some ⟨g, 0, none⟩) n cap) n (xs.set i v) := by
  obtain ⟨hl, hn | ⟨g2, c2, cur, hv, hb, hh, hnc, hcm, hcs, htk⟩⟩ := h
  · exact absurd hn.1 (by simp)
  · injection hv with e1 _ e3
    injection e1 with e1
    injection e1 with e1
    subst e1 e3
    refine ⟨by rw [List.length_set]; exact hl, Or.inr ⟨g, cap, cur.setIfInBounds i v, rfl, hb, heap_setCell_same w g i cur e v hh, hnc, hcm, by rw [Array.size_setIfInBounds]; exact hcs, ?_⟩⟩
    rw [Array.toList_setIfInBounds, List.take_set, htk]
theorem own_frozen {w : World} {B g cap n i : Nat} {e : TypeId} {xs : List Value} (h : w.ownsRow B e 1 (.slice (some ⟨g, 0, none⟩) n cap) n xs) : w.frozen? ⟨g, i, none⟩ = false := by
  obtain ⟨hl, hn | ⟨g2, c2, cur, hv, hb, hh, hnc, hcm, hcs, htk⟩⟩ := h
  · exact absurd hn.1 (by simp)
  · injection hv with e1 _ e3
    injection e1 with e1
    injection e1 with e1
    subst e1 e3
    exact frozen_of_row w g i _ _ hh
theorem made_zero (n : Nat) : (madeCells (Value.cells (.int .u8 0)) (n * 1)).toList = bcells (List.replicate n 0) := by
  apply List.ext_getElem?
  intro i
  by_cases h : i < n
  · simp [madeCells, bcells, h, Value.cells, Nat.mod_one]
  · simp [madeCells, bcells, h, Value.cells]
set_option maxRecDepth 100000 in
theorem noughts_calls (n : Nat) (hn : n ≤ 1000000) (w : World) :
    Calls Tryd.prog 23 #[.int .i64 n] w fun e w' => e = .returned (.string (noughtS n)) ∧ Same w w' := by
  obtain ⟨i0, hi, hz0, hz1, hz2⟩ := info_parts Tryd.info5
  obtain ⟨W1, hmk, hown, hg⟩ := run_make_full (P := Tryd.prog) w 0 80 5 i0 (.int .u8 0) 1 Tryd.underlying80 hi hz0 hz1 .i64 .i64 n (by rw [hz2]; omega) (by unfold maxLen; omega) (Nat.zero_le _)
  rw [made_zero] at hown
  have hcv := owns_string (P := Tryd.prog) (w := W1) (v := .slice (some ⟨w.heap.size, 0, none⟩) n n) (bs := List.replicate n 0) (by show World.ownsRow _ _ _ _ _ _ _; rw [List.length_replicate]; exact hown) 80 9 Tryd.underlying80 Tryd.underlying5 Tryd.underlying9
  have s1 : Same w W1 := Fr.grown (Fr.refl _ w) hg (fun k hk => by cases hk)
  clear hown hg
  go_enter Tryd.func23, Tryd.ntmps23
  go_wp2_with fail
  go_ret
  exact ⟨rfl, s1⟩

theorem set_mid {a : List UInt8} {x y : UInt8} {b : List UInt8} {k : Nat} (h : a.length = k) : (bcells (a ++ x :: b)).set k (.int .u8 y.toNat) = bcells (a ++ y :: b) := by
  subst h
  simp [bcells]
set_option maxRecDepth 100000 in
set_option maxHeartbeats 1000000 in
theorem number_calls (n many : Nat) (hn : n < 18446744073709551616) (hm : many ≤ 8) (w : World) :
    Calls Tryd.prog 40 #[.int .u64 n, .int .i64 many] w fun e w' => e = .returned (.string ⟨(fixB many n).toArray⟩) ∧ Same w w' := by
  obtain ⟨i0, hi, hz0, hz1, hz2⟩ := info_parts Tryd.info5
  obtain ⟨W1, hmk, hown, hg⟩ := run_make_full (P := Tryd.prog) w w.heap.size 80 5 i0 (.int .u8 0) 1 Tryd.underlying80 hi hz0 hz1 .i64 .i64 many (by rw [hz2]; omega) (by unfold maxLen; omega) (Nat.le_refl _)
  rw [made_zero] at hown
  have s1 : Same w W1 := Fr.grown (Fr.refl _ w) hg (fun k hk => by cases hk)
  have HMW : Hid (many ≤ 8) := hm
  have hw1 : IntKind.i64.wrap ((many : Int) - 1) = (many : Int) - 1 := by rw [IntKind.wrap_i64]; omega
  have HO1 : Hid (W1.ownsRow w.heap.size 5 1 (.slice (some ⟨w.heap.size, 0, none⟩) many many) many (bcells (List.replicate many 0))) := hown
  clear hown hg
  go_enter Tryd.func40, Tryd.ntmps40
  go_wp2_with fail
  go_loopg [0, 6] many (fun g nv iv wr => ∃ (k X : Nat), nv = .int .u64 X ∧ iv = .int .i64 ((k : Int) - 1) ∧ k ≤ many ∧ g = k ∧ Hid (X = n / 256 ^ (many - k)) ∧ Hid (wr.ownsRow w.heap.size 5 1 (.slice (some ⟨w.heap.size, 0, none⟩) many many) many (bcells (List.replicate k 0 ++ fixB (many - k) n))) ∧ Same w wr)
  case atStart => exact ⟨many, n, rfl, rfl, by omega, rfl, by show _ = _; simp, by show World.ownsRow _ _ _ _ _ _ _; rw [Nat.sub_self]; simpa [fixB] using HO1.out, s1⟩
  case round =>
    obtain ⟨k, X, rfl, rfl, hk, hg, HX, HO, sr⟩ := hrel
    by_cases hpos : 0 < k
    · obtain ⟨k, rfl⟩ : ∃ k', k = k' + 1 := ⟨k - 1, by omega⟩
      obtain ⟨x, hx⟩ : ∃ x : UInt8, x = UInt8.ofNat (X % 256) := ⟨_, rfl⟩
      have hxv : (X : Int) % 256 = (x.toNat : Int) := by rw [hx]; simp
      obtain ⟨Y, hY⟩ : ∃ Y : Nat, Y = X / 256 := ⟨_, rfl⟩
      have hyv : (X : Int) / 256 = (Y : Int) := by omega
      have hYb : Y < 18446744073709551616 := by
        have h1 : X ≤ n := by rw [HX.out]; exact Nat.div_le_self _ _
        omega
      have hyw : IntKind.u64.wrap (Y : Int) = (Y : Int) := by rw [IntKind.wrap_u64]; omega
      have HY : Hid (Y = n / 256 ^ (many - k)) := by
        show _ = _
        rw [hY, HX.out, Nat.div_div_eq_div_mul, ← Nat.pow_succ]; congr 2; omega
      have hfx : fixB (many - k) (n : Int) = x :: fixB (many - (k + 1)) (n : Int) := by
        rw [show many - k = (many - (k + 1)) + 1 from by omega, fixB_low', hx, HX.out]
      have HO2 : Hid ((wr.setCell ⟨w.heap.size, k, none⟩ (.int .u8 x.toNat)).ownsRow w.heap.size 5 1 (.slice (some ⟨w.heap.size, 0, none⟩) many many) many (bcells (List.replicate k 0 ++ fixB (many - k) n))) := by
        show World.ownsRow _ _ _ _ _ _ _
        have h := own_set (i := k) HO.out (.int .u8 x.toNat)
        rw [List.replicate_succ', List.append_assoc, List.singleton_append, set_mid (by simp), ← hfx] at h
        exact h
      have hfz : wr.frozen? ⟨w.heap.size, k, none⟩ = false := own_frozen HO.out
      have hc : wr.cell? ⟨w.heap.size, k, none⟩ = some (.int .u8 0) := by
        have := HO.out.cells (g := w.heap.size) rfl k (.int .u8 0) (by rw [bcells, List.getElem?_map, List.getElem?_append_left (by simp), List.getElem?_replicate, if_pos (by omega)]; rfl)
        rw [Addr.add_mid] at this
        simpa using this
      have s2 : Same w (wr.setCell ⟨w.heap.size, k, none⟩ (.int .u8 x.toNat)) := sr.setCell (p := ⟨w.heap.size, k, none⟩) (fun h => absurd h (by simp)) _
      clear hx hY hfx HX HO hw1
      rw [show ((((k + 1 : Nat) : Int)) - 1) = (k : Int) from by omega]
      go_wp2_with fail
      go_roundg k
      case measure => omega
      case rel => exact ⟨k, Y, rfl, by go_num, by omega, rfl, HY, HO2, s2⟩
    · obtain rfl : k = 0 := by omega
      have HO3 : Hid (wr.ownsRow 0 5 1 (.slice (some ⟨w.heap.size, 0, none⟩) many many) many (bcells (fixB many n))) := by
        have := own_mono0 HO.out
        show World.ownsRow _ _ _ _ _ _ _
        simpa using this
      have hcv := owns_string (P := Tryd.prog) (w := wr) (v := .slice (some ⟨w.heap.size, 0, none⟩) many many) (bs := fixB many n) (by show World.ownsRow _ _ _ _ _ _ _; rw [fixB_length]; exact HO3.out) 80 9 Tryd.underlying80 Tryd.underlying5 Tryd.underlying9
      clear HX HO HO3 hw1
      go_wp2_with fail
      go_ret
      exact ⟨rfl, sr⟩

set_option maxRecDepth 100000 in
set_option maxHeartbeats 1000000 in
theorem rlog_calls {p : Int} (hp : p = 1024 ∨ p = 2048 ∨ p = 4096 ∨ p = 8192) (w : World) :
    Calls Tryd.prog 41 #[.int .i64 p] w fun e w' => e = .returned (.int .i64 (logP p)) ∧ w' = w := by
  rcases hp with rfl | rfl | rfl | rfl
  · go_enter Tryd.func41, Tryd.ntmps41
    go_wp2_with fail
    go_rounds 11
    go_ret
    exact ⟨rfl, rfl⟩
  · go_enter Tryd.func41, Tryd.ntmps41
    go_wp2_with fail
    go_rounds 12
    go_ret
    exact ⟨rfl, rfl⟩
  · go_enter Tryd.func41, Tryd.ntmps41
    go_wp2_with fail
    go_rounds 13
    go_ret
    exact ⟨rfl, rfl⟩
  · go_enter Tryd.func41, Tryd.ntmps41
    go_wp2_with fail
    go_rounds 14
    go_ret
    exact ⟨rfl, rfl⟩

theorem beN_take (l : List UInt8) (k : Nat) (x : UInt8) (h : l[k]? = some x) : beN (l.take (k + 1)) = 256 * beN (l.take k) + x.toNat := by
  have hl := (List.getElem?_eq_some_iff.1 h).1
  have e : l.take (k + 1) = l.take k ++ [x] := by
    rw [List.take_add_one, h]; rfl
  rw [e, beN, List.foldl_append]
  show beN (l.take k) * 256 + x.toNat = _
  omega
set_option maxRecDepth 100000 in
set_option maxHeartbeats 1000000 in
theorem whole_calls (s : ByteArray) (hs : s.size ≤ 8) (w : World) :
    Calls Tryd.prog 77 #[.string s] w fun e w' => e = .returned (.int .u64 (beN s.data.toList)) ∧ w' = w := by
  have hl := bytes_length s
  have HS : Hid (s.size ≤ 8) := hs
  go_enter Tryd.func77, Tryd.ntmps77
  go_wp2_with fail
  go_loopg [3, 4] s.size (fun g nv iv wr => ∃ (k X : Nat), nv = .int .u64 X ∧ iv = .int .i64 (k : Int) ∧ k ≤ s.size ∧ g = s.size - k ∧ Hid (X = beN (s.data.toList.take k)) ∧ wr = w)
  case atStart => exact ⟨0, 0, rfl, rfl, by omega, by omega, rfl, rfl⟩
  case round =>
    obtain ⟨k, X, rfl, rfl, hk, hg, HX, rfl⟩ := hrel
    by_cases hgo : k < s.size
    · obtain ⟨x, hx⟩ : ∃ x : UInt8, x = s[k]'hgo := ⟨_, rfl⟩
      have hx' : s.data.toList[k]? = some x := by
        rw [List.getElem?_eq_getElem (by rw [hl]; exact hgo), hx]; rfl
      have hlt := beN_lt (s.data.toList.take k)
      have hlen : (s.data.toList.take k).length = k := by rw [List.length_take, hl]; omega
      rw [hlen, ← HX.out] at hlt
      have hXb : X < 72057594037927936 := by
        have : 256 ^ k ≤ 256 ^ 7 := Nat.pow_le_pow_right (by decide) (by omega)
        omega
      have hxb := UInt8.toNat_lt x
      obtain ⟨Y, hY⟩ : ∃ Y : Nat, Y = 256 * X + x.toNat := ⟨_, rfl⟩
      have HY : Hid (Y = beN (s.data.toList.take (k + 1))) := by show _ = _; rw [beN_take _ _ _ hx', ← HX.out, hY]
      have hyv : 256 * (X : Int) + (x.toNat : Int) = (Y : Int) := by omega
      have hYb : Y < 18446744073709551616 := by omega
      have e1 : IntKind.u64.wrap ((s[k]'hgo).toNat : Int) = (x.toNat : Int) := by rw [IntKind.wrap_u64, hx]; have := UInt8.toNat_lt (s[k]'hgo); omega
      have e2 : IntKind.u64.wrap (256 * (X : Int) + (x.toNat : Int)) = (Y : Int) := by rw [IntKind.wrap_u64]; omega
      clear hY hlt hlen hx' HX hx hyv
      go_wp2_with fail
      go_roundg (s.size - (k + 1))
      case measure => omega
      case rel => exact ⟨k + 1, Y, rfl, by go_num, by omega, rfl, HY, rfl⟩
    · obtain rfl : k = s.size := by omega
      have hX : X = beN s.data.toList := by rw [HX.out, List.take_of_length_le (by omega)]
      subst hX
      clear HX
      go_wp2_with fail
      go_ret
      exact ⟨rfl, rfl⟩
end Go.Proofs.YtjfkkjangebblaaDoor
