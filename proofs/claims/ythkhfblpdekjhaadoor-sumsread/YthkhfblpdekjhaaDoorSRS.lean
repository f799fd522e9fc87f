/-
  Walks: Read.
-/
import Derived.Test.YthkhfblpdekjhaaDoorSRW
namespace Go.Proofs.YthkhfblpdekjhaaDoor
open Go.RowKit

theorem str_at {s : ByteArray} {i : Nat} (hi : i < s.size) : ∃ c : UInt8, s.data.toList[i]? = some c ∧ s.data[i]? = some c := by
  have h : i < s.data.toList.length := by rw [bytes_length]; exact hi
  refine ⟨s.data.toList[i], List.getElem?_eq_getElem h, ?_⟩
  rw [← Array.getElem?_toList, List.getElem?_eq_getElem h]

set_option maxRecDepth 100000 in
set_option maxHeartbeats 1000000 in
theorem read_calls (w : World) (wd : Int) (s : ByteArray) (hs : s.size ≤ 9223372036854775807) : Calls Tryd.prog 28 #[.int .i64 wd, .string s] w fun e w' => e = .returned (.tuple #[.agg (bcells (readR wd s.data.toList)).toArray, .int .i64 (readE wd s.data.toList)]) ∧ Same w w' := by
  have HM : Hid (∀ W, Calls Tryd.prog 40 #[.int .i64 wd] W fun e w' => e = .returned (.bool (decide (1 ≤ wd ∧ wd ≤ 32))) ∧ w' = W) := fun W => may_calls W wd
  have HD : Hid (∀ (W : World) (c : UInt8), Calls Tryd.prog 44 #[.int .u8 c.toNat] W fun e w' => e = .returned (.tuple #[.int .u8 (digV c.toNat : Nat), .bool (digO c.toNat)]) ∧ w' = W) := fun W c => digit_calls W c.toNat (by have := c.toBitVec.isLt; exact this)
  have hl : (readR wd s.data.toList).length = 32 := by
    unfold readR; split
    · exact readK_length _ _
    · simp
  have hRD : Hid (readD wd s.data.toList → readR wd s.data.toList = readK s.data.toList s.size ∧ readE wd s.data.toList = 0) := by
    intro h
    unfold readR readE; rw [if_pos h, if_pos h.1, if_pos h, bytes_length]; exact ⟨rfl, rfl⟩
  have hRB : Hid (1 ≤ wd ∧ wd ≤ 32 → ¬ readD wd s.data.toList → readR wd s.data.toList = List.replicate 32 0 ∧ readE wd s.data.toList = 21) := by
    intro h k
    unfold readR readE; rw [if_neg k, if_pos h, if_neg k]; exact ⟨rfl, rfl⟩
  have hRA : Hid (¬ (1 ≤ wd ∧ wd ≤ 32) → readR wd s.data.toList = List.replicate 32 0 ∧ readE wd s.data.toList = 2) := by
    intro h
    unfold readR readE; rw [if_neg (fun k => h k.1), if_neg h]; exact ⟨rfl, rfl⟩
  have hdef : Hid (readD wd s.data.toList ↔ (1 ≤ wd ∧ wd ≤ 32) ∧ (s.size : Int) = 2 * wd ∧ allHx s.data.toList s.size) := by
    show _ ↔ _
    unfold readD; rw [bytes_length]
  obtain ⟨R, hR⟩ : ∃ R, R = (bcells (readR wd s.data.toList)).toArray := ⟨_, rfl⟩
  have hRs : R.size = 32 := by rw [hR]; simp [bcells, hl]
  have hRsz : (Tryd.prog.info? 36).map (·.size) = some R.size := by rw [Tryd.ainfoD, hRs]
  have hRone : R.all (·.oneCell') = true := by rw [hR]; exact bcells_one _
  have HRES : Hid (∀ (tmps : Array Value) (W : World), W.heap[w.heap.size]? = some (.cells R 36 (0, 0)) → tmps.getD 4 undef = .pointer (some ⟨w.heap.size, 0, none⟩) → (results Tryd.f28 tmps).run Tryd.prog W = .ok (.tuple #[.agg R, tmps.getD 5 undef]) W) := fun tmps W h hp => results_row_tmp (p := 4) (u := 5) (ty := 36) (by kernel_rfl) tmps _ w.heap.size 36 _ (0, 0) _ hp h Tryd.underlying36 rfl hRsz
  have HR : Hid (R = (bcells (readR wd s.data.toList)).toArray) := hR
  rw [← hR]
  generalize readR wd s.data.toList = rr at *
  generalize readE wd s.data.toList = re at *
  clear hR hl
  by_cases h1 : 1 ≤ wd ∧ wd ≤ 32
  · rw [decide_eq_true h1] at HM
    by_cases h2 : (s.size : Int) = 2 * wd
    · obtain ⟨n, hn⟩ : ∃ n, n = s.size := ⟨_, rfl⟩
      have hzz := readK_zero s.data.toList
      have H2 : Hid ((s.size : Int) = 2 * wd) := h2
      have hn64 : s.size ≤ 64 := by omega
      have h2r : 2 * wd = (s.size : Int) := h2.symm
      have hw2 : IntKind.i64.wrap (2 * wd) = (s.size : Int) := by rw [IntKind.wrap_i64]; omega
      clear h2 hn n
      go_enter Tryd.func28, Tryd.ntmps28
      go_wp2_with fail
      refine (HM.out _).mono ?_
      rintro e W1 ⟨rfl, hW1⟩
      rw [hW1]
      clear hW1 W1
      go_wp2_with fail
      obtain ⟨W1, hW1⟩ : ∃ W1, W1 = (w.alloc (.cells (bcells (List.replicate 32 0)).toArray 36)).alloc (.cells (bcells (List.replicate 32 0)).toArray 36) := ⟨_, rfl⟩
      have hz : (bcells (List.replicate 32 0)).toArray = #[.int .u8 0, .int .u8 0, .int .u8 0, .int .u8 0, .int .u8 0, .int .u8 0, .int .u8 0, .int .u8 0, .int .u8 0, .int .u8 0, .int .u8 0, .int .u8 0, .int .u8 0, .int .u8 0, .int .u8 0, .int .u8 0, .int .u8 0, .int .u8 0, .int .u8 0, .int .u8 0, .int .u8 0, .int .u8 0, .int .u8 0, .int .u8 0, .int .u8 0, .int .u8 0, .int .u8 0, .int .u8 0, .int .u8 0, .int .u8 0, .int .u8 0, .int .u8 0] := rfl
      rw [← hz, ← hW1]
      have s1 : Same w W1 := by rw [hW1]; exact ((Fr.refl _ w).alloc _).alloc _
      have RZ : Hid (W1.heap[w.heap.size]? = some (.cells (bcells (List.replicate 32 0)).toArray 36 (0, 0))) := by
        show _ = _
        rw [hW1, heap_alloc_old _ _ (by simp)]; exact heap_alloc_new w _
      have RD : Hid (W1.heap[w.heap.size + 1]? = some (.cells (bcells (readK s.data.toList 0)).toArray 36 (0, 0))) := by
        show _ = _
        rw [hW1, hzz]; exact heap_alloc2_new w _ _
      clear hW1 hz hzz hw2 h2r
      go_loopg [22] s.size (fun gg iv wq => ∃ k : Nat, iv = .int .i64 k ∧ k ≤ s.size ∧ gg = s.size - k ∧ Hid (allHx s.data.toList k) ∧ Hid (wq.heap[w.heap.size]? = some (.cells (bcells (List.replicate 32 0)).toArray 36 (0, 0))) ∧ Hid (wq.heap[w.heap.size + 1]? = some (.cells (bcells (readK s.data.toList k)).toArray 36 (0, 0))) ∧ Same w wq)
      case atStart => exact ⟨0, rfl, by omega, by omega, fun i hi => absurd hi (by omega), RZ, RD, s1⟩
      case round =>
        clear RZ RD s1
        obtain ⟨k, rfl, hk, rfl, HX, RZ, RD, s1⟩ := hrel
        by_cases hgo : k < s.size
        · obtain ⟨c, hc⟩ : ∃ c : UInt8, c = s[k] := ⟨_, rfl⟩
          have hc' : ∀ h : k < s.size, s[k]'h = c := fun _ => hc.symm
          have HC : Hid (s.data.toList[k]? = some c) := by
            show _ = _
            rw [hc, List.getElem?_eq_getElem (by rw [bytes_length]; exact hgo)]
            rfl
          clear hc
          have HDc := HD.out
          by_cases ho : digO c.toNat = true
          · obtain ⟨v, hv⟩ : ∃ v : UInt8, v.toNat = digV c.toNat := ⟨UInt8.ofNat (digV c.toNat), by
              have : digV c.toNat < 256 := by unfold digV; split; omega; split <;> omega
              rw [UInt8.toNat_ofNat']; omega⟩
            have HDk : Hid (∀ W, Calls Tryd.prog 44 #[.int .u8 (c.toNat : Int)] W fun e w' => e = .returned (.tuple #[.int .u8 (v.toNat : Int), .bool true]) ∧ w' = W) := by
              intro W
              have h := HDc W c
              rw [ho, ← hv] at h
              exact h
            have HV : Hid (nib s.data.toList k = v.toNat) := by
              show _ = _
              rw [nib, chN_of HC.out, ← digV_eq, hv]
            have hv16 := nib_lt s.data.toList k
            rw [HV.out] at hv16
            have hold := readV_old_lt s.data.toList k
            obtain ⟨old, hol⟩ : ∃ o : UInt8, o = UInt8.ofNat (readV s.data.toList k (k / 2)) := ⟨_, rfl⟩
            have hon : old.toNat = readV s.data.toList k (k / 2) := by rw [hol, UInt8.toNat_ofNat']; omega
            obtain ⟨y, hy⟩ : ∃ y : UInt8, y = UInt8.ofNat (16 * old.toNat) := ⟨_, rfl⟩
            have hyn : y.toNat = 16 * old.toNat := by rw [hy, UInt8.toNat_ofNat']; omega
            obtain ⟨z, hz⟩ : ∃ z : UInt8, z = y ||| v := ⟨_, rfl⟩
            have hzn : z.toNat = 16 * old.toNat + v.toNat := by
              rw [hz, UInt8.toNat_or, hyn]
              exact (Nat.two_pow_add_eq_or_of_lt (i := 4) hv16 old.toNat).symm
            have HZ : Hid ((readK s.data.toList k).set (k / 2) z = readK s.data.toList (k + 1)) := by
              show _ = _
              rw [← readK_set, HV.out, ← hon, ← hzn]
              congr 1
              simp
            have ey : (old.toNat : Int) * 16 = (y.toNat : Int) := by omega
            have ey2 : (old.toNat : Int) * 16 % 256 = (y.toNat : Int) := by omega
            have ey3 : (y.toNat : Int) % 256 = (y.toNat : Int) := by omega
            have wy : IntKind.u8.wrap (y.toNat : Int) = (y.toNat : Int) := by rw [IntKind.wrap_u8]; omega
            have oz : bits .or .u8 (y.toNat : Int) (v.toNat : Int) = (z.toNat : Int) := by rw [hz]; exact o8 y v
            have hk2 : k / 2 < 32 := by omega
            have kd : wr.cell? ⟨w.heap.size + 1, k / 2, none⟩ = some (.int .u8 (old.toNat : Int)) := by
              rw [cell_of_row _ _ _ _ _ _ RD.out, List.getElem?_toArray, bcells, List.getElem?_map, readK_get _ _ _ hk2, hol]
              rfl
            have kf := frozen_of_row wr (w.heap.size + 1) (k / 2) _ _ RD.out
            have RD' : Hid (((wr.setCell ⟨w.heap.size + 1, k / 2, none⟩ (.int .u8 y.toNat)).setCell ⟨w.heap.size + 1, k / 2, none⟩ (.int .u8 z.toNat)).heap[w.heap.size + 1]? = some (.cells (bcells (readK s.data.toList (k + 1))).toArray 36 (0, 0))) := by
              show _ = _
              rw [brow_set (brow_set RD.out y), List.set_set, HZ.out]
            have RZ' : Hid (((wr.setCell ⟨w.heap.size + 1, k / 2, none⟩ (.int .u8 y.toNat)).setCell ⟨w.heap.size + 1, k / 2, none⟩ (.int .u8 z.toNat)).heap[w.heap.size]? = some (.cells (bcells (List.replicate 32 0)).toArray 36 (0, 0))) := by
              show _ = _
              exact ((Below.heap_setCell _ ⟨w.heap.size + 1, k / 2, none⟩ (.int .u8 z.toNat) w.heap.size (by simp)).trans (Below.heap_setCell wr ⟨w.heap.size + 1, k / 2, none⟩ (.int .u8 y.toNat) w.heap.size (by simp))).trans RZ.out
            have s2 : Same w ((wr.setCell ⟨w.heap.size + 1, k / 2, none⟩ (.int .u8 y.toNat)).setCell ⟨w.heap.size + 1, k / 2, none⟩ (.int .u8 z.toNat)) := (s1.setCell (p := ⟨w.heap.size + 1, k / 2, none⟩) (fun h => by simp only at h; omega) _).setCell (p := ⟨w.heap.size + 1, k / 2, none⟩) (fun h => by simp only at h; omega) _
            have HX' : Hid (allHx s.data.toList (k + 1)) := by
              intro i hi
              by_cases hik : i < k
              · exact HX.out i hik
              · obtain rfl : i = k := by omega
                rw [chN_of HC.out, ← digO_eq]
                exact ho
            have hk2i : (k : Int) / 2 < 32 := by omega
            clear HDc hv hol hon hy hyn hz hzn HZ RD RZ HX HV hold hv16 hk2
            go_wp2_with fail
            refine (HDk.out _).mono ?_
            rintro e W2 ⟨rfl, hW2⟩
            rw [hW2]
            clear hW2 W2
            go_wp2_with fail
            go_roundg (s.size - (k + 1))
            case measure => omega
            case rel => exact ⟨k + 1, by go_num, by omega, rfl, HX', RZ', RD', s2⟩
          · rw [Bool.not_eq_true] at ho
            have HDk : Hid (∀ W, Calls Tryd.prog 44 #[.int .u8 (c.toNat : Int)] W fun e w' => e = .returned (.tuple #[.int .u8 (digV c.toNat : Nat), .bool false]) ∧ w' = W) := by
              intro W
              have h := HDc W c
              rw [ho] at h
              exact h
            have hnot : ¬ readD wd s.data.toList := by
              intro h
              have h3 := (hdef.out.1 h).2.2 k hgo
              rw [chN_of HC.out, ← digO_eq, ho] at h3
              cases h3
            obtain ⟨e1, e2⟩ := hRB.out h1 hnot
            have HE : Hid (re = 21) := e2
            rw [e1] at HR
            have hzv : ∀ W, (zeroValue 36).run Tryd.prog W = .ok (.agg R) W := by rw [HR.out]; exact fun W => by kernel_rfl
            have rz := RZ.out
            have hZ : (bcells (List.replicate 32 0)).toArray.size = 32 := rfl
            generalize (bcells (List.replicate 32 0)).toArray = Z at *
            clear e1 e2 HDc RD RZ HX hnot
            generalize digV c.toNat = dv at *
            go_wp2_with fail
            refine (HDk.out _).mono ?_
            rintro e W2 ⟨rfl, hW2⟩
            rw [hW2]
            clear hW2 W2
            go_wp2_with (first | (refine wpList_store_whole (by rfl) 36 _ _ (by rfl) w.heap.size R Z 36 (by rfl) (by rfl) rz (by rw [hRs, hZ]) hRsz hRone ?_; intro W5 r5 f5))
            exact bodyPost_ret (HRES.out _ _ r5 rfl) rfl ⟨by rw [HE.out] <;> rfl, Fr.trans s1 f5 (fun i hi e => by omega)⟩
        · obtain rfl : k = s.size := by omega
          have hyes := hdef.out.2 ⟨h1, H2.out, HX.out⟩
          obtain ⟨e1, e2⟩ := hRD.out hyes
          have HE : Hid (re = 0) := e2
          rw [e1] at HR
          have rd := RD.out
          rw [← HR.out] at rd
          have rz := RZ.out
          have hZ : (bcells (List.replicate 32 0)).toArray.size = 32 := rfl
          generalize (bcells (List.replicate 32 0)).toArray = Z at *
          clear e1 e2 RD RZ HX hyes HD HM
          go_wp2_with (first | (refine wpList_load_row (by rfl) 36 _ (by rfl) (w.heap.size + 1) (by rfl) 36 R (0, 0) _ rd Tryd.underlying36 rfl hRsz ?_) | (refine wpList_store_whole (by rfl) 36 _ _ (by rfl) w.heap.size R Z 36 (by rfl) (by rfl) rz (by rw [hRs, hZ]) hRsz hRone ?_; intro W5 r5 f5))
          exact bodyPost_ret (HRES.out _ _ r5 rfl) rfl ⟨by rw [HE.out] <;> rfl, Fr.trans s1 f5 (fun i hi e => by omega)⟩
    · have hnot : ¬ readD wd s.data.toList := fun h => h2 (hdef.out.1 h).2.1
      obtain ⟨e1, e2⟩ := hRB.out h1 hnot
      rw [e2]
      rw [e1] at HR
      have hzv : ∀ W, (zeroValue 36).run Tryd.prog W = .ok (.agg R) W := by rw [HR.out]; exact fun W => by kernel_rfl
      obtain ⟨tw, htw⟩ : ∃ t, t = 2 * wd := ⟨_, rfl⟩
      have hw2 : IntKind.i64.wrap (2 * wd) = tw := by rw [IntKind.wrap_i64]; omega
      have h2' : ¬ (s.size : Int) = tw := by rw [htw]; exact h2
      clear e1 e2 hRA hRB hRD hdef hnot h2 htw
      go_enter Tryd.func28, Tryd.ntmps28
      go_wp2_with fail
      refine (HM.out _).mono ?_
      rintro e W1 ⟨rfl, hW1⟩
      obtain ⟨Z, rz, hZ⟩ : ∃ Z : Array Value, W1.heap[w.heap.size]? = some (.cells Z 36 (0, 0)) ∧ Z.size = 32 := by rw [hW1]; exact ⟨_, heap_alloc_new w _, hRs⟩
      have s1 : Same w W1 := by rw [hW1]; exact (Fr.refl _ w).alloc _
      clear hW1
      go_wp2_with (first | (refine wpList_store_whole (by rfl) 36 _ _ (by rfl) w.heap.size R Z 36 (by rfl) (by rfl) rz (by rw [hRs, hZ]) hRsz hRone ?_; intro W5 r5 f5))
      exact bodyPost_ret (HRES.out _ _ r5 rfl) rfl ⟨rfl, Fr.trans s1 f5 (fun i hi e => by omega)⟩
  · rw [decide_eq_false h1] at HM
    obtain ⟨e1, e2⟩ := hRA.out h1
    rw [e2]
    rw [e1] at HR
    have hzv : ∀ W, (zeroValue 36).run Tryd.prog W = .ok (.agg R) W := by rw [HR.out]; exact fun W => by kernel_rfl
    clear e1 e2 hRA hRB hRD hdef
    go_enter Tryd.func28, Tryd.ntmps28
    go_wp2_with fail
    refine (HM.out _).mono ?_
    rintro e W1 ⟨rfl, hW1⟩
    obtain ⟨Z, rz, hZ⟩ : ∃ Z : Array Value, W1.heap[w.heap.size]? = some (.cells Z 36 (0, 0)) ∧ Z.size = 32 := by rw [hW1]; exact ⟨_, heap_alloc_new w _, hRs⟩
    have s1 : Same w W1 := by rw [hW1]; exact (Fr.refl _ w).alloc _
    clear hW1
    go_wp2_with (first | (refine wpList_store_whole (by rfl) 36 _ _ (by rfl) w.heap.size R Z 36 (by rfl) (by rfl) rz (by rw [hRs, hZ]) hRsz hRone ?_; intro W5 r5 f5))
    exact bodyPost_ret (HRES.out _ _ r5 rfl) rfl ⟨rfl, Fr.trans s1 f5 (fun i hi e => by omega)⟩
end Go.Proofs.YthkhfblpdekjhaaDoor
