/-
  Walks: the document's may, Cut, Of.
-/
import Derived.Test.YthkhfblpdekjhaaDoorSG
namespace Go.Proofs.YthkhfblpdekjhaaDoor
open Go.RowKit

theorem brow_set {w : World} {b k : Nat} {l : List UInt8} {t : TypeId} (h : w.heap[b]? = some (.cells (bcells l).toArray t (0, 0))) (x : UInt8) : (w.setCell ⟨b, k, none⟩ (.int .u8 x.toNat)).heap[b]? = some (.cells (bcells (l.set k x)).toArray t (0, 0)) := by
  rw [heap_setCell_same w b k _ t _ h]
  simp [bcells, List.map_set]

theorem eq_same (D : List UInt8) (hD : D.length = 32) : ∀ W, (Op.equalIn 10000 36 (.agg (bcells D).toArray) (.agg (bcells D).toArray)).run Tryd.prog W = .ok true W := by
  intro W
  rw [eq_digest W D D hD hD]
  simp

theorem rmay_calls (w : World) (wd : Int) : Calls Tryd.prog 41 #[.int .i64 wd] w fun e w' => e = .returned (.bool (decide (1 ≤ wd ∧ wd ≤ 32))) ∧ w' = w := by
  by_cases h1 : 1 ≤ wd
  · by_cases h2 : wd ≤ 32
    · rw [decide_eq_true ⟨h1, h2⟩]
      go_enter Tryd.func41, Tryd.ntmps41
      go_wp2
      go_ret
      exact ⟨rfl, rfl⟩
    · rw [decide_eq_false (by omega)]
      go_enter Tryd.func41, Tryd.ntmps41
      go_wp2
      go_ret
      exact ⟨rfl, rfl⟩
  · rw [decide_eq_false (by omega)]
    go_enter Tryd.func41, Tryd.ntmps41
    go_wp2
    go_ret
    exact ⟨rfl, rfl⟩

theorem cut_set (D : List UInt8) (hD : D.length = 32) (k i : Nat) (hk : k ≤ i) (hi : i < 32) : (D.take k ++ List.replicate (i - k) 0 ++ D.drop i).set i 0 = D.take k ++ List.replicate (i + 1 - k) 0 ++ D.drop (i + 1) := by
  have h1 : (D.take k ++ List.replicate (i - k) 0).length = i := by rw [List.length_append, List.length_take, List.length_replicate]; omega
  rw [List.set_append_right _ _ (by omega), h1, Nat.sub_self, List.drop_eq_getElem_cons (by omega), List.set_cons_zero, show i + 1 - k = (i - k) + 1 from by omega, List.replicate_succ']
  simp
theorem cut_row (D : List UInt8) (hD : D.length = 32) (k i : Nat) (hk : k ≤ i) (hi : i ≤ 32) : (D.take k ++ List.replicate (i - k) 0 ++ D.drop i).length = 32 := by
  rw [List.length_append, List.length_append, List.length_take, List.length_replicate, List.length_drop]; omega

set_option maxRecDepth 100000 in
set_option maxHeartbeats 1000000 in
theorem rcut_calls (w : World) (wd : Int) (D : List UInt8) (hD : D.length = 32) : Calls Tryd.prog 21 #[.int .i64 wd, .agg (bcells D).toArray] w fun e w' => e = .returned (.tuple #[.agg (bcells (cutR wd D)).toArray, .int .i64 (cutE wd)]) ∧ Same w w' := by
  have HM : Hid (∀ W, Calls Tryd.prog 41 #[.int .i64 wd] W fun e w' => e = .returned (.bool (decide (1 ≤ wd ∧ wd ≤ 32))) ∧ w' = W) := fun W => rmay_calls W wd
  have hR32 : (cutR wd D).length = 32 := by
    unfold cutR
    by_cases h : 1 ≤ wd ∧ wd ≤ 32
    · rw [if_pos h]; exact cutD_length _ _ hD
    · rw [if_neg h]; simp
  have hCR : Hid ((1 ≤ wd ∧ wd ≤ 32 → cutR wd D = cutD wd.toNat D ∧ cutE wd = 0) ∧ (¬ (1 ≤ wd ∧ wd ≤ 32) → cutR wd D = List.replicate 32 0 ∧ cutE wd = 2)) := by
    refine ⟨fun h => ?_, fun h => ?_⟩
    · unfold cutR cutE; rw [if_pos h, if_pos h]; exact ⟨rfl, rfl⟩
    · unfold cutR cutE; rw [if_neg h, if_neg h]; exact ⟨rfl, rfl⟩
  obtain ⟨R, hR⟩ : ∃ R, R = (bcells (cutR wd D)).toArray := ⟨_, rfl⟩
  have hRs : R.size = 32 := by rw [hR]; simp [bcells, hR32]
  have hRsz : (Tryd.prog.info? 36).map (·.size) = some R.size := by rw [Tryd.ainfoD, hRs]
  have hRone : R.all (·.oneCell') = true := by rw [hR]; exact bcells_one _
  have HRES : Hid (∀ (tmps : Array Value) (W : World), W.heap[w.heap.size + 1]? = some (.cells R 36 (0, 0)) → tmps.getD 4 undef = .pointer (some ⟨w.heap.size + 1, 0, none⟩) → (results Tryd.f21 tmps).run Tryd.prog W = .ok (.tuple #[.agg R, tmps.getD 5 undef]) W) := fun tmps W h hp => results_row_tmp (p := 4) (u := 5) (ty := 36) (by kernel_rfl) tmps _ (w.heap.size + 1) 36 _ (0, 0) _ hp h Tryd.underlying36 rfl hRsz
  have HR : Hid (R = (bcells (cutR wd D)).toArray) := hR
  rw [← hR]
  obtain ⟨DA, hDA⟩ : ∃ A, A = (bcells D).toArray := ⟨_, rfl⟩
  have hDAr : (w.alloc (.cells DA 36)).heap[w.heap.size]? = some (.cells (bcells D).toArray 36 (0, 0)) := by rw [hDA]; exact heap_alloc_new w _
  rw [← hDA]
  clear hR hDA hR32
  by_cases h1 : 1 ≤ wd ∧ wd ≤ 32
  · rw [decide_eq_true h1] at HM
    obtain ⟨e1, e2⟩ := hCR.out.1 h1
    rw [e2]
    rw [e1] at HR
    obtain ⟨k, hk⟩ : ∃ k : Nat, wd = (k : Int) := ⟨wd.toNat, by omega⟩
    subst hk
    rw [Int.toNat_natCast] at HR
    clear e1 e2 hCR
    go_enter Tryd.func21, Tryd.ntmps21
    go_wp2_with fail
    refine (HM.out _).mono ?_
    rintro e W1 ⟨rfl, hW1⟩
    obtain ⟨Z, rz, hZ⟩ : ∃ Z : Array Value, W1.heap[w.heap.size + 1]? = some (.cells Z 36 (0, 0)) ∧ Z.size = 32 := by rw [hW1]; exact ⟨_, heap_alloc2_new w _ _, rfl⟩
    have rd : W1.heap[w.heap.size]? = some (.cells (bcells D).toArray 36 (0, 0)) := by rw [hW1, Below.heap_alloc _ _ _ (by simp)]; exact hDAr
    have s1 : Same w W1 := by rw [hW1]; exact ((Fr.refl _ w).alloc _).alloc _
    clear hW1 hDAr
    have RD : Hid (W1.heap[w.heap.size]? = some (.cells (bcells (D.take k ++ List.replicate (k - k) 0 ++ D.drop k)).toArray 36 (0, 0))) := by
      show _ = _
      rw [Nat.sub_self]
      simpa using rd
    have RZ : Hid (W1.heap[w.heap.size + 1]? = some (.cells Z 36 (0, 0))) := rz
    clear rd rz
    go_wp2_with fail
    go_loopg [6] (32 - k) (fun gg iv wq => ∃ i : Nat, iv = .int .i64 i ∧ k ≤ i ∧ i ≤ 32 ∧ gg = 32 - i ∧ Hid (wq.heap[w.heap.size]? = some (.cells (bcells (D.take k ++ List.replicate (i - k) 0 ++ D.drop i)).toArray 36 (0, 0))) ∧ Hid (wq.heap[w.heap.size + 1]? = some (.cells Z 36 (0, 0))) ∧ Same w wq)
    case atStart => exact ⟨k, rfl, Nat.le_refl _, by omega, rfl, RD, RZ, s1⟩
    case round =>
      clear RD RZ s1
      obtain ⟨i, rfl, hki, hi, rfl, RD, RZ, s1⟩ := hrel
      by_cases hgo : i < 32
      · have hl := cut_row D hD k i hki hi
        have kd : wr.cell? ⟨w.heap.size, i, none⟩ = some (.int .u8 (((D.take k ++ List.replicate (i - k) 0 ++ D.drop i).getD i 0).toNat : Int)) := by
          rw [cell_of_row _ _ _ _ _ _ RD.out, List.getElem?_toArray, bcells, List.getElem?_map, List.getD_eq_getElem?_getD, List.getElem?_eq_getElem (by rw [hl]; exact hgo)]
          rfl
        have kf := frozen_of_row wr w.heap.size i _ _ RD.out
        have RD' : Hid ((wr.setCell ⟨w.heap.size, i, none⟩ (.int .u8 0)).heap[w.heap.size]? = some (.cells (bcells (D.take k ++ List.replicate (i + 1 - k) 0 ++ D.drop (i + 1))).toArray 36 (0, 0))) := by
          show _ = _
          have := brow_set RD.out (k := i) 0
          rw [cut_set D hD k i hki hgo] at this
          exact this
        have RZ' : Hid ((wr.setCell ⟨w.heap.size, i, none⟩ (.int .u8 0)).heap[w.heap.size + 1]? = some (.cells Z 36 (0, 0))) := by
          show _ = _
          exact (Below.heap_setCell wr ⟨w.heap.size, i, none⟩ (.int .u8 0) (w.heap.size + 1) (by simp)).trans RZ.out
        have s2 : Same w (wr.setCell ⟨w.heap.size, i, none⟩ (.int .u8 0)) := s1.setCell (p := ⟨w.heap.size, i, none⟩) (fun h => by simp only at h; omega) _
        clear RD RZ hl
        generalize (D.take k ++ List.replicate (i - k) 0 ++ D.drop i).getD i 0 = old at *
        go_wp2_with fail
        go_roundg (32 - (i + 1))
        case measure => omega
        case rel => exact ⟨i + 1, by go_num, by omega, by omega, rfl, RD', RZ', s2⟩
      · obtain rfl : i = 32 := by omega
        have r2 : wr.heap[w.heap.size]? = some (.cells R 36 (0, 0)) := by
          rw [RD.out, HR.out]
          unfold cutD
          rw [List.drop_of_length_le (by omega), List.append_nil]
        have rz2 := RZ.out
        clear RD RZ
        go_wp2_with (first | (refine wpList_load_row (by rfl) 36 _ (by rfl) w.heap.size (by rfl) 36 R (0, 0) _ r2 Tryd.underlying36 rfl hRsz ?_) | (refine wpList_store_whole (by rfl) 36 _ _ (by rfl) (w.heap.size + 1) R Z 36 (by rfl) (by rfl) rz2 (by rw [hRs, hZ]) hRsz hRone ?_; intro W5 r5 f5))
        exact bodyPost_ret (HRES.out _ _ r5 rfl) rfl ⟨rfl, Fr.trans s1 f5 (fun i hi e => by omega)⟩
  · rw [decide_eq_false h1] at HM
    obtain ⟨e1, e2⟩ := hCR.out.2 h1
    rw [e2]
    rw [e1] at HR
    have hzv : ∀ W, (zeroValue 36).run Tryd.prog W = .ok (.agg R) W := by rw [HR.out]; exact fun W => by kernel_rfl
    clear e1 e2 hCR
    go_enter Tryd.func21, Tryd.ntmps21
    go_wp2_with fail
    refine (HM.out _).mono ?_
    rintro e W1 ⟨rfl, hW1⟩
    obtain ⟨Z, rz, hZ⟩ : ∃ Z : Array Value, W1.heap[w.heap.size + 1]? = some (.cells Z 36 (0, 0)) ∧ Z.size = 32 := by rw [hW1]; exact ⟨_, heap_alloc2_new w _ _, hRs⟩
    have s1 : Same w W1 := by rw [hW1]; exact ((Fr.refl _ w).alloc _).alloc _
    clear hW1 hDAr
    go_wp2_with (first | (refine wpList_store_whole (by rfl) 36 _ _ (by rfl) (w.heap.size + 1) R Z 36 (by rfl) (by rfl) rz (by rw [hRs, hZ]) hRsz hRone ?_; intro W5 r5 f5))
    exact bodyPost_ret (HRES.out _ _ r5 rfl) rfl ⟨rfl, Fr.trans s1 f5 (fun i hi e => by omega)⟩
end Go.Proofs.YthkhfblpdekjhaaDoor
