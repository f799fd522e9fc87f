/-
  Walks: the document's Read; SumsRead.
-/
import Derived.Test.YthkhfblpdekjhaaDoorSRX
import Derived.Test.YthkhfblpdekjhaaDoorSRKC
import Derived.Deep.QuietTactic
import Derived.BigQuiet
namespace Go.Proofs.YthkhfblpdekjhaaDoor
open Go.RowKit

def refKi (wd : Int) (s : List UInt8) (i : Nat) : List UInt8 := (List.range 32).map fun j => if j < i then UInt8.ofNat (refV wd s j) else 0
theorem refKi_length (wd : Int) (s : List UInt8) (i : Nat) : (refKi wd s i).length = 32 := by simp [refKi]
theorem refKi_get (wd : Int) (s : List UInt8) (i j : Nat) (hj : j < 32) : (refKi wd s i)[j]? = some (if j < i then UInt8.ofNat (refV wd s j) else 0) := by
  simp [refKi, List.getElem?_map, List.getElem?_range hj]
theorem refKi_zero (wd : Int) (s : List UInt8) : refKi wd s 0 = List.replicate 32 0 := by
  apply List.ext_getElem?
  intro j
  by_cases hj : j < 32
  · rw [refKi_get wd s 0 j hj, List.getElem?_replicate, if_pos hj, if_neg (by omega)]
  · rw [List.getElem?_eq_none (by rw [refKi_length]; omega), List.getElem?_eq_none (by simp; omega)]
theorem refKi_next (wd : Int) (s : List UInt8) (i : Nat) : (refKi wd s i).set i (UInt8.ofNat (refV wd s i)) = refKi wd s (i + 1) := by
  apply List.ext_getElem?
  intro j
  by_cases hj : j < 32
  · rw [refKi_get _ _ _ _ hj, List.getElem?_set]
    by_cases h : i = j
    · rw [if_pos h, if_pos (by rw [refKi_length]; omega), if_pos (by omega), h]
    · rw [if_neg h, refKi_get _ _ _ _ hj]
      by_cases h2 : j < i
      · rw [if_pos h2, if_pos (by omega)]
      · rw [if_neg h2, if_neg (by omega)]
  · rw [List.getElem?_eq_none (by simp [refKi_length]; omega), List.getElem?_eq_none (by rw [refKi_length]; omega)]
theorem refKi_same (wd : Int) (s : List UInt8) (i : Nat) : (refKi wd s i).set i 0 = refKi wd s i := by
  apply List.ext_getElem?
  intro j
  by_cases hj : j < 32
  · rw [List.getElem?_set]
    by_cases h : i = j
    · rw [if_pos h, if_pos (by rw [refKi_length]; omega), refKi_get _ _ _ _ hj, if_neg (by omega)]
    · rw [if_neg h]
  · rw [List.getElem?_eq_none (by simp [refKi_length]; omega), List.getElem?_eq_none (by rw [refKi_length]; omega)]
theorem refKi_all (wd : Int) (s : List UInt8) (i : Nat) (h : ¬ ((i : Int) < wd ∧ 2 * i + 1 < s.length)) : refKi wd s i = refK wd s := by
  apply List.ext_getElem?
  intro j
  by_cases hj : j < 32
  · rw [refKi_get _ _ _ _ hj, refK_get _ _ _ hj]
    by_cases h2 : j < i
    · rw [if_pos h2]
    · rw [if_neg h2]
      unfold refV
      rw [if_neg (by omega)]
      rfl
  · rw [List.getElem?_eq_none (by rw [refKi_length]; omega), List.getElem?_eq_none (by rw [refK_length]; omega)]
theorem refKi_fits (wd : Int) (s : List UInt8) (hw : 1 ≤ wd ∧ wd ≤ 32) : fitsP wd (refK wd s) = true := by
  unfold fitsP
  rw [Bool.and_eq_true, decide_eq_true_eq, decide_eq_true_eq]
  refine ⟨hw, ?_⟩
  unfold cutR cutD
  rw [if_pos hw]
  apply List.ext_getElem?
  intro j
  by_cases hj : j < 32
  · by_cases h2 : j < wd.toNat
    · rw [List.getElem?_append_left (by rw [List.length_take, refK_length]; omega), List.getElem?_take, if_pos h2]
    · rw [List.getElem?_append_right (by rw [List.length_take]; omega), List.getElem?_replicate, if_pos (by rw [List.length_take, refK_length]; omega), refK_get _ _ _ hj]
      unfold refV
      rw [if_neg (by omega)]
      rfl
  · rw [List.getElem?_eq_none (by rw [List.length_append, List.length_take, List.length_replicate, refK_length]; omega), List.getElem?_eq_none (by rw [refK_length]; omega)]

set_option maxRecDepth 100000 in
set_option maxHeartbeats 2000000 in
theorem rread_calls (w : World) (wd : Int) (s : ByteArray) (hs : s.size ≤ 9223372036854775807) : Calls Tryd.prog 29 #[.int .i64 wd, .string s] w fun e w' => e = .returned (.tuple #[.agg (bcells (readR wd s.data.toList)).toArray, .int .i64 (readE wd s.data.toList)]) ∧ Same w w' := by
  have HM : Hid (∀ W, Calls Tryd.prog 41 #[.int .i64 wd] W fun e w' => e = .returned (.bool (decide (1 ≤ wd ∧ wd ≤ 32))) ∧ w' = W) := fun W => rmay_calls W wd
  have HG : Hid (∀ W (n : Nat), n < 16 → Calls Tryd.prog 43 #[.int .u8 n] W fun e w' => e = .returned (.int .u8 (hxN n : Nat)) ∧ w' = W) := fun W n h => rdigit_calls W n h
  have hl := readR_length wd s.data.toList
  obtain ⟨R, hR⟩ : ∃ R, R = (bcells (readR wd s.data.toList)).toArray := ⟨_, rfl⟩
  have hRs : R.size = 32 := by rw [hR]; simp [bcells, hl]
  have hRsz : (Tryd.prog.info? 36).map (·.size) = some R.size := by rw [Tryd.ainfoD, hRs]
  have hRone : R.all (·.oneCell') = true := by rw [hR]; exact bcells_one _
  have HRES : Hid (∀ (tmps : Array Value) (W : World), W.heap[w.heap.size]? = some (.cells R 36 (0, 0)) → tmps.getD 4 undef = .pointer (some ⟨w.heap.size, 0, none⟩) → (results Tryd.f29 tmps).run Tryd.prog W = .ok (.tuple #[.agg R, tmps.getD 5 undef]) W) := fun tmps W h hp => results_row_tmp (p := 4) (u := 5) (ty := 36) (by kernel_rfl) tmps _ w.heap.size 36 _ (0, 0) _ hp h Tryd.underlying36 rfl hRsz
  have HR : Hid (R = (bcells (readR wd s.data.toList)).toArray) := hR
  rw [← hR]
  by_cases h1 : 1 ≤ wd ∧ wd ≤ 32
  · rw [decide_eq_true h1] at HM
    have l32 := refK_length wd s.data.toList
    have HSH : Hid (∀ W, Calls Tryd.prog 27 #[.int .i64 wd, .agg (bcells (refK wd s.data.toList)).toArray] W fun e w' => e = .returned (.tuple #[.string ⟨(showP ((refK wd s.data.toList).take wd.toNat)).toArray⟩, .int .i64 0]) ∧ Same W w') := by
      intro W
      have h := rshow_calls W wd _ l32
      unfold showS showE at h
      rw [if_pos (refKi_fits wd _ h1), if_pos (refKi_fits wd _ h1)] at h
      exact h
    have HYes : Hid (readD wd s.data.toList → R = (bcells (refK wd s.data.toList)).toArray ∧ readE wd s.data.toList = 0 ∧ (⟨(showP ((refK wd s.data.toList).take wd.toNat)).toArray⟩ : ByteArray) = s) := by
      intro h
      refine ⟨?_, ?_, ?_⟩
      · rw [HR.out]; unfold readR; rw [if_pos h, ref_read wd _ h]
      · unfold readE; rw [if_pos h1, if_pos h]
      · have := (ref_show wd h1 s.data.toList).2 h
        rw [this]
    have HNo : Hid (¬ readD wd s.data.toList → R = (bcells (List.replicate 32 0)).toArray ∧ readE wd s.data.toList = 21 ∧ ¬ (⟨(showP ((refK wd s.data.toList).take wd.toNat)).toArray⟩ : ByteArray) = s) := by
      intro h
      refine ⟨?_, ?_, ?_⟩
      · rw [HR.out]; unfold readR; rw [if_neg h]
      · unfold readE; rw [if_pos h1, if_neg h]
      · intro e
        apply h
        apply (ref_show wd h1 s.data.toList).1
        exact congrArg (fun b : ByteArray => b.data.toList) e
    generalize readE wd s.data.toList = re at *
    obtain ⟨w0, hw0⟩ : ∃ k : Nat, wd = (k : Int) := ⟨wd.toNat, by omega⟩
    have hw32 : w0 ≤ 32 := by omega
    have hw1 : 1 ≤ w0 := by omega
    have hzz := refKi_zero wd s.data.toList
    clear hR hl HR
    subst hw0
    go_enter Tryd.func29, Tryd.ntmps29
    go_wp2_with fail
    refine (HM.out _).mono ?_
    rintro e W1 ⟨rfl, hW1⟩
    rw [hW1]
    clear hW1 W1
    go_wp2_with fail
    obtain ⟨W1, hW1⟩ : ∃ W1, W1 = (w.alloc (.cells (bcells (List.replicate 32 0)).toArray 36)).alloc (.cells (bcells (List.replicate 32 0)).toArray 36) := ⟨_, rfl⟩
    have hz : (bcells (List.replicate 32 0)).toArray = #[.int .u8 0, .int .u8 0, .int .u8 0, .int .u8 0, .int .u8 0, .int .u8 0, .int .u8 0, .int .u8 0, .int .u8 0, .int .u8 0, .int .u8 0, .int .u8 0, .int .u8 0, .int .u8 0, .int .u8 0, .int .u8 0, .int .u8 0, .int .u8 0, .int .u8 0, .int .u8 0, .int .u8 0, .int .u8 0, .int .u8 0, .int .u8 0, .int .u8 0, .int .u8 0, .int .u8 0, .int .u8 0, .int .u8 0, .int .u8 0, .int .u8 0, .int .u8 0] := rfl
    rw [← hz, ← hW1]
    have s1 : Same w W1 := by rw [hW1]; exact ((Fr.refl _ w).alloc _).alloc _
    have RZ : Hid (W1.heap[w.heap.size]? = some (.cells (bcells (List.replicate 32 0)).toArray 36 (0, 0))) := by
      show _ = _
      rw [hW1, heap_alloc_old _ _ (by simp)]; exact heap_alloc_new w _
    have RD : Hid (W1.heap[w.heap.size + 1]? = some (.cells (bcells (refKi w0 s.data.toList 0)).toArray 36 (0, 0))) := by
      show _ = _
      rw [hW1, hzz]; exact heap_alloc2_new w _ _
    clear hW1 hz hzz
    go_loopg [7] w0 (fun gg iv wq => ∃ i : Nat, iv = .int .i64 i ∧ i ≤ w0 ∧ gg = w0 - i ∧ Hid (wq.heap[w.heap.size]? = some (.cells (bcells (List.replicate 32 0)).toArray 36 (0, 0))) ∧ Hid (wq.heap[w.heap.size + 1]? = some (.cells (bcells (refKi w0 s.data.toList i)).toArray 36 (0, 0))) ∧ Same w wq)
    case atStart => exact ⟨0, rfl, by omega, by omega, RZ, RD, s1⟩
    case round =>
      clear RZ RD s1
      obtain ⟨i, rfl, hi, rfl, RZ, RD, s1⟩ := hrel
      obtain ⟨p2, hp2⟩ : ∃ p, p = 2 * i := ⟨_, rfl⟩
      obtain ⟨p3, hp3⟩ : ∃ p, p = 2 * i + 1 := ⟨_, rfl⟩
      have iw2 : IntKind.i64.wrap (2 * (i : Int)) = (p2 : Int) := by rw [IntKind.wrap_i64]; omega
      have im2 : 2 * (i : Int) = (p2 : Int) := by omega
      have iw3 : IntKind.i64.wrap ((p2 : Int) + 1) = (p3 : Int) := by rw [IntKind.wrap_i64]; omega
      have im3 : (p2 : Int) + 1 = (p3 : Int) := by omega
      have wp2 : IntKind.i64.wrap (p2 : Int) = (p2 : Int) := by rw [IntKind.wrap_i64]; omega
      have wp3 : IntKind.i64.wrap (p3 : Int) = (p3 : Int) := by rw [IntKind.wrap_i64]; omega
      by_cases hgo : i < w0 ∧ p3 < s.size
      · obtain ⟨hiw, hp3s⟩ := hgo
        have hp2s : p2 < s.size := by omega
        have hiwI : (i : Int) < (w0 : Int) := by omega
        have hp3I : (p3 : Int) < (s.size : Int) := by omega
        have hp2I : (p2 : Int) < (s.size : Int) := by omega
        have hp20 : (0 : Int) ≤ (p2 : Int) := by omega
        have hp30 : (0 : Int) ≤ (p3 : Int) := by omega
        obtain ⟨ca, hca⟩ : ∃ c : UInt8, c = s[p2] := ⟨_, rfl⟩
        obtain ⟨cb, hcb⟩ : ∃ c : UInt8, c = s[p3] := ⟨_, rfl⟩
        have ga : ∀ h : p2 < s.size, s[p2]'h = ca := fun _ => hca.symm
        have gb : ∀ h : p3 < s.size, s[p3]'h = cb := fun _ => hcb.symm
        have HV : Hid (refV w0 s.data.toList i = valR ca.toNat cb.toNat 256) := by
          show _ = _
          have ea : s.data.toList[p2]? = some ca := by rw [hca, List.getElem?_eq_getElem (by rw [bytes_length]; exact hp2s)]; rfl
          have eb : s.data.toList[p3]? = some cb := by rw [hcb, List.getElem?_eq_getElem (by rw [bytes_length]; exact hp3s)]; rfl
          unfold refV
          rw [bytes_length, if_pos ⟨by omega, by omega⟩, ← hp3, ← hp2, chN_of ea, chN_of eb]
        have HP : Hid (p2 = 2 * i ∧ p3 = 2 * i + 1) := ⟨hp2, hp3⟩
        clear hca hcb hp2 hp3
        go_wp2_with fail
        generalize wr = W9 at *
        have R0 : Hid (W9.heap[w.heap.size + 1]? = some (.cells (bcells ((refKi w0 s.data.toList i).set i (UInt8.ofNat (valR ca.toNat cb.toNat 0)))).toArray 36 (0, 0))) := by
          show _ = _
          have e : UInt8.ofNat (valR ca.toNat cb.toNat 0) = 0 := rfl
          rw [e, refKi_same]
          exact RD.out
        go_loopg [8] 256 (fun gg kv wq => ∃ k : Nat, kv = .int .i64 k ∧ k ≤ 256 ∧ gg = 256 - k ∧ Hid (wq.heap[w.heap.size]? = some (.cells (bcells (List.replicate 32 0)).toArray 36 (0, 0))) ∧ Hid (wq.heap[w.heap.size + 1]? = some (.cells (bcells ((refKi w0 s.data.toList i).set i (UInt8.ofNat (valR ca.toNat cb.toNat k)))).toArray 36 (0, 0))) ∧ Same w wq)
        case atStart => exact ⟨0, rfl, by omega, by omega, RZ, R0, s1⟩
        case round =>
          clear RZ RD R0 s1
          obtain ⟨k, rfl, hk, rfl, RZ, RD, s1⟩ := hrel
          by_cases hgk : k < 256
          · obtain ⟨p, hp⟩ : ∃ p, p = k / 16 := ⟨_, rfl⟩
            obtain ⟨q, hq⟩ : ∃ q, q = k % 16 := ⟨_, rfl⟩
            have k1 : (k : Int) % 256 = (k : Int) := by omega
            have k2 : IntKind.u8.wrap (k : Int) = (k : Int) := by rw [IntKind.wrap_u8]; omega
            have a1 : (k : Int) / 16 = (p : Int) := by omega
            have a1' : (k : Int).tdiv 16 = (p : Int) := by rw [Int.tdiv_eq_ediv_of_nonneg (by omega)]; exact a1
            have a2 : (k : Int) % 16 = (q : Int) := by omega
            have a2' : (k : Int).tmod 16 = (q : Int) := by rw [Int.tmod_eq_emod_of_nonneg (by omega)]; exact a2
            have b1 : IntKind.u8.wrap (p : Int) = (p : Int) := by rw [IntKind.wrap_u8]; omega
            have b2 : IntKind.u8.wrap (q : Int) = (q : Int) := by rw [IntKind.wrap_u8]; omega
            have G1 : Hid (∀ W, Calls Tryd.prog 43 #[.int .u8 (p : Int)] W fun e w' => e = .returned (.int .u8 (hxN p : Nat)) ∧ w' = W) := fun W => HG.out W p (by omega)
            have G2 : Hid (∀ W, Calls Tryd.prog 43 #[.int .u8 (q : Int)] W fun e w' => e = .returned (.int .u8 (hxN q : Nat)) ∧ w' = W) := fun W => HG.out W q (by omega)
            have HH : Hid (hitK ca.toNat cb.toNat k ↔ hxN p = ca.toNat ∧ hxN q = cb.toNat) := by
              show _ ↔ _
              unfold hitK; rw [← hp, ← hq]
            have hk0 : (0 : Int) ≤ (k : Int) := by omega
            clear hp hq
            by_cases e1 : hxN p = ca.toNat
            · rw [e1] at G1 HH
              by_cases e2 : hxN q = cb.toNat
              · rw [e2] at G2 HH
                have hval : valR ca.toNat cb.toNat (k + 1) = k := by rw [valR, if_pos (HH.out.2 ⟨rfl, rfl⟩)]
                have hik : i < 32 := by omega
                have kd : ∃ v, wr.cell? ⟨w.heap.size + 1, i, none⟩ = some v := by
                  rw [cell_of_row _ _ _ _ _ _ RD.out]
                  exact ⟨_, Array.getElem?_eq_getElem (by simp [bcells, refKi_length]; exact hik)⟩
                obtain ⟨vold, kd⟩ := kd
                have kf := frozen_of_row wr (w.heap.size + 1) i _ _ RD.out
                have ek : ((UInt8.ofNat k).toNat : Int) = (k : Int) := by rw [UInt8.toNat_ofNat']; omega
                have RD' : ∀ W : World, W.heap = wr.heap → Hid ((W.setCell ⟨w.heap.size + 1, i, none⟩ (.int .u8 (k : Int))).heap[w.heap.size + 1]? = some (.cells (bcells ((refKi w0 s.data.toList i).set i (UInt8.ofNat (valR ca.toNat cb.toNat (k + 1))))).toArray 36 (0, 0))) := by
                  intro W hW
                  show _ = _
                  have r := RD.out
                  rw [← hW] at r
                  have := brow_set r (k := i) (UInt8.ofNat k)
                  rw [ek, List.set_set] at this
                  rw [this, hval]
                have RZ' : ∀ W : World, W.heap = wr.heap → Hid ((W.setCell ⟨w.heap.size + 1, i, none⟩ (.int .u8 (k : Int))).heap[w.heap.size]? = some (.cells (bcells (List.replicate 32 0)).toArray 36 (0, 0))) := by
                  intro W hW
                  show _ = _
                  have r := RZ.out
                  rw [← hW] at r
                  exact (Below.heap_setCell W ⟨w.heap.size + 1, i, none⟩ (.int .u8 (k : Int)) w.heap.size (by simp)).trans r
                have s2 : ∀ W : World, Same w W → Same w (W.setCell ⟨w.heap.size + 1, i, none⟩ (.int .u8 (k : Int))) := fun W sW => sW.setCell (p := ⟨w.heap.size + 1, i, none⟩) (fun h => by simp only at h; omega) _
                have hiI : (i : Int) < 32 := by omega
                clear RD RZ hval ek HH e1 e2 HG hik
                go_wp2_with fail
                go_region_held3 (fun _ => True) (trivial) (first | (go_at_call 43; with_reducible refine (G1.out _).mono ?_; rintro e V1 ⟨rfl, rfl⟩) | (go_at_call 43; with_reducible refine (G2.out _).mono ?_; rintro e V1 ⟨rfl, rfl⟩))
                all_goals
                  go_wp2_with fail
                  go_roundg (256 - (k + 1))
                  case measure => omega
                  case rel => exact ⟨k + 1, by go_num, by omega, rfl, RZ' _ rfl, RD' _ rfl, s2 _ (Fr.drew s1)⟩
              · have hne : ¬ ((hxN q : Nat) : Int) = (cb.toNat : Int) := by omega
                have hval : valR ca.toNat cb.toNat (k + 1) = valR ca.toNat cb.toNat k := by rw [valR, if_neg (fun h => e2 (HH.out.1 h).2)]
                rw [← hval] at RD
                generalize hxN q = hq at *
                clear hval HH e1 e2 HG
                go_wp2_with fail
                go_region_held3 (fun _ => True) (trivial) (first | (go_at_call 43; with_reducible refine (G1.out _).mono ?_; rintro e V1 ⟨rfl, rfl⟩) | (go_at_call 43; with_reducible refine (G2.out _).mono ?_; rintro e V1 ⟨rfl, rfl⟩))
                all_goals
                  go_wp2_with fail
                  go_roundg (256 - (k + 1))
                  case measure => omega
                  case rel => exact ⟨k + 1, by go_num, by omega, rfl, RZ, RD, Fr.drew s1⟩
            · have hne : ¬ ((hxN p : Nat) : Int) = (ca.toNat : Int) := by omega
              have hval : valR ca.toNat cb.toNat (k + 1) = valR ca.toNat cb.toNat k := by rw [valR, if_neg (fun h => e1 (HH.out.1 h).1)]
              rw [← hval] at RD
              generalize hxN p = hpp at *
              clear hval HH e1 HG
              go_wp2_with fail
              have hne1 : decide ((hpp : Int) = (ca.toNat : Int)) = false := decide_eq_false hne
              have hne2 : ((hpp : Int) == (ca.toNat : Int)) = false := by rw [beq_eq_false_iff_ne]; exact hne
              go_quiet (first | (with_reducible exact Calls.quiet_of_same (G1.out _)) | (with_reducible exact Calls.quiet_of_same (G2.out _)))
              all_goals
                go_wp2_with fail
                go_roundg (256 - (k + 1))
                case measure => omega
                case rel => exact ⟨k + 1, by go_num, by omega, rfl, RZ, RD, Fr.drewN s1 _⟩
          · obtain rfl : k = 256 := by omega
            have RD2 : Hid (wr.heap[w.heap.size + 1]? = some (.cells (bcells (refKi w0 s.data.toList (i + 1))).toArray 36 (0, 0))) := by
              show _ = _
              rw [← refKi_next, HV.out]
              exact RD.out
            clear RD
            go_wp2_with fail
            go_roundg (w0 - (i + 1))
            case measure => omega
            case rel => exact ⟨i + 1, by go_num, by omega, rfl, RZ, RD2, s1⟩
      · have hall : refKi w0 s.data.toList i = refK w0 s.data.toList := refKi_all _ _ _ (fun h => hgo ⟨by omega, by rw [hp3, ← bytes_length]; exact h.2⟩)
        have rd := RD.out
        rw [hall] at rd
        have rz := RZ.out
        have hYs : (bcells (refK w0 s.data.toList)).toArray.size = 32 := by simp [bcells, l32]
        have hZ : (bcells (List.replicate 32 0)).toArray.size = 32 := rfl
        have hzv0 : ∀ W, (zeroValue 36).run Tryd.prog W = .ok (.agg (bcells (List.replicate 32 0)).toArray) W := fun W => by kernel_rfl
        generalize (bcells (refK w0 s.data.toList)).toArray = Y at *
        generalize (bcells (List.replicate 32 0)).toArray = Z at *
        generalize (⟨(showP ((refK w0 s.data.toList).take ((w0 : Int)).toNat)).toArray⟩ : ByteArray) = sx at *
        have hYsz : (Tryd.prog.info? 36).map (·.size) = some Y.size := by rw [Tryd.ainfoD, hYs]
        clear RD RZ hall HG HM l32
        by_cases hyes : readD w0 s.data.toList
        · obtain ⟨e1, e2, e3⟩ := HYes.out hyes
          have HE : Hid (re = 0) := e2
          subst e1
          subst e3
          clear e2 HYes HNo hyes
          by_cases hiw : i < w0
          · have hnp : ¬ (p3 : Int) < (sx.size : Int) := by omega
            have hiI : (i : Int) < (w0 : Int) := by omega
            clear hgo hp2 hp3
            go_wp2_with (first | (refine wpList_load_row (by rfl) 36 _ (by rfl) (w.heap.size + 1) (by rfl) 36 R (0, 0) _ rd Tryd.underlying36 rfl hYsz ?_))
            refine (HSH.out _).mono ?_
            rintro e W3 ⟨rfl, s3⟩
            have rd3 := (s3.block _ (lt_of_heap rd) (fun f => f)).trans rd
            have rz3 := (s3.block _ (lt_of_heap rz) (fun f => f)).trans rz
            clear rd rz
            go_wp2_with (first | (refine wpList_load_row (by rfl) 36 _ (by rfl) (w.heap.size + 1) (by rfl) 36 R (0, 0) _ rd3 Tryd.underlying36 rfl hYsz ?_) | (refine wpList_store_whole (by rfl) 36 _ _ (by rfl) w.heap.size R _ 36 (by rfl) (by rfl) rz3 (by omega) hRsz hRone ?_; intro W5 r5 f5))
            exact bodyPost_ret (HRES.out _ _ r5 rfl) rfl ⟨by rw [HE.out] <;> rfl, Fr.trans (s1.trans s3) f5 (fun i hi e => by omega)⟩
          · have hiI : ¬ (i : Int) < (w0 : Int) := by omega
            clear hgo hp2 hp3
            go_wp2_with (first | (refine wpList_load_row (by rfl) 36 _ (by rfl) (w.heap.size + 1) (by rfl) 36 R (0, 0) _ rd Tryd.underlying36 rfl hYsz ?_))
            refine (HSH.out _).mono ?_
            rintro e W3 ⟨rfl, s3⟩
            have rd3 := (s3.block _ (lt_of_heap rd) (fun f => f)).trans rd
            have rz3 := (s3.block _ (lt_of_heap rz) (fun f => f)).trans rz
            clear rd rz
            go_wp2_with (first | (refine wpList_load_row (by rfl) 36 _ (by rfl) (w.heap.size + 1) (by rfl) 36 R (0, 0) _ rd3 Tryd.underlying36 rfl hYsz ?_) | (refine wpList_store_whole (by rfl) 36 _ _ (by rfl) w.heap.size R _ 36 (by rfl) (by rfl) rz3 (by omega) hRsz hRone ?_; intro W5 r5 f5))
            exact bodyPost_ret (HRES.out _ _ r5 rfl) rfl ⟨by rw [HE.out] <;> rfl, Fr.trans (s1.trans s3) f5 (fun i hi e => by omega)⟩
        · obtain ⟨e1, e2, e3⟩ := HNo.out hyes
          have HE : Hid (re = 21) := e2
          have hbq := beqB_ne e3
          subst e1
          clear e2 e3 HYes HNo hyes
          by_cases hiw : i < w0
          · have hnp : ¬ (p3 : Int) < (s.size : Int) := by omega
            have hiI : (i : Int) < (w0 : Int) := by omega
            clear hgo hp2 hp3
            go_wp2_with (first | (refine wpList_load_row (by rfl) 36 _ (by rfl) (w.heap.size + 1) (by rfl) 36 Y (0, 0) _ rd Tryd.underlying36 rfl hYsz ?_))
            refine (HSH.out _).mono ?_
            rintro e W3 ⟨rfl, s3⟩
            have rd3 := (s3.block _ (lt_of_heap rd) (fun f => f)).trans rd
            have rz3 := (s3.block _ (lt_of_heap rz) (fun f => f)).trans rz
            clear rd rz
            go_wp2_with (first | (refine wpList_store_whole (by rfl) 36 _ _ (by rfl) w.heap.size R _ 36 (by rfl) (by rfl) rz3 (by omega) hRsz hRone ?_; intro W5 r5 f5))
            exact bodyPost_ret (HRES.out _ _ r5 rfl) rfl ⟨by rw [HE.out] <;> rfl, Fr.trans (s1.trans s3) f5 (fun i hi e => by omega)⟩
          · have hiI : ¬ (i : Int) < (w0 : Int) := by omega
            clear hgo hp2 hp3
            go_wp2_with (first | (refine wpList_load_row (by rfl) 36 _ (by rfl) (w.heap.size + 1) (by rfl) 36 Y (0, 0) _ rd Tryd.underlying36 rfl hYsz ?_))
            refine (HSH.out _).mono ?_
            rintro e W3 ⟨rfl, s3⟩
            have rd3 := (s3.block _ (lt_of_heap rd) (fun f => f)).trans rd
            have rz3 := (s3.block _ (lt_of_heap rz) (fun f => f)).trans rz
            clear rd rz
            go_wp2_with (first | (refine wpList_store_whole (by rfl) 36 _ _ (by rfl) w.heap.size R _ 36 (by rfl) (by rfl) rz3 (by omega) hRsz hRone ?_; intro W5 r5 f5))
            exact bodyPost_ret (HRES.out _ _ r5 rfl) rfl ⟨by rw [HE.out] <;> rfl, Fr.trans (s1.trans s3) f5 (fun i hi e => by omega)⟩
  · rw [decide_eq_false h1] at HM
    have e1 : readR wd s.data.toList = List.replicate 32 0 := by unfold readR; rw [if_neg (fun k => h1 k.1)]
    have e2 : readE wd s.data.toList = 2 := by unfold readE; rw [if_neg h1]
    rw [e2]
    rw [e1] at HR
    have hzv : ∀ W, (zeroValue 36).run Tryd.prog W = .ok (.agg R) W := by rw [HR.out]; exact fun W => by kernel_rfl
    clear e1 e2 hR hl
    go_enter Tryd.func29, Tryd.ntmps29
    go_wp2_with fail
    refine (HM.out _).mono ?_
    rintro e W1 ⟨rfl, hW1⟩
    obtain ⟨Z, rz, hZ⟩ : ∃ Z : Array Value, W1.heap[w.heap.size]? = some (.cells Z 36 (0, 0)) ∧ Z.size = 32 := by rw [hW1]; exact ⟨_, heap_alloc_new w _, hRs⟩
    have s1 : Same w W1 := by rw [hW1]; exact (Fr.refl _ w).alloc _
    clear hW1
    go_wp2_with (first | (refine wpList_store_whole (by rfl) 36 _ _ (by rfl) w.heap.size R Z 36 (by rfl) (by rfl) rz (by omega) hRsz hRone ?_; intro W5 r5 f5))
    exact bodyPost_ret (HRES.out _ _ r5 rfl) rfl ⟨rfl, Fr.trans s1 f5 (fun i hi e => by omega)⟩
set_option maxRecDepth 100000 in
set_option maxHeartbeats 1000000 in
theorem sread_walk (w : World) (ht : TabAt w) (wd : Int) (s : ByteArray) (hs : s.size ≤ 9223372036854775807) : Calls Tryd.prog 7 #[.int .i64 wd, .string s] w fun e w' => e = .returned (.bool true) ∧ Same w w' := by
  have HD : Hid (∀ W, Calls Tryd.prog 28 #[.int .i64 wd, .string s] W fun e w' => e = .returned (.tuple #[.agg (bcells (readR wd s.data.toList)).toArray, .int .i64 (readE wd s.data.toList)]) ∧ Same W w') := fun W => read_calls W wd s hs
  have HR : Hid (∀ W, Calls Tryd.prog 29 #[.int .i64 wd, .string s] W fun e w' => e = .returned (.tuple #[.agg (bcells (readR wd s.data.toList)).toArray, .int .i64 (readE wd s.data.toList)]) ∧ Same W w') := fun W => rread_calls W wd s hs
  have HA : Hid (∀ W, Same w W → Calls Tryd.prog 18 #[] W fun e w' => e = .returned (.bool true) ∧ Same W w') := fun W s => awake_calls W (ht.same s)
  have l32 := readR_length wd s.data.toList
  have hEq := eq_same (readR wd s.data.toList) l32
  have hXs : (bcells (readR wd s.data.toList)).toArray.size = 32 := by simp [bcells, l32]
  have hXone := bcells_one (readR wd s.data.toList)
  generalize (bcells (readR wd s.data.toList)).toArray = X at *
  generalize readE wd s.data.toList = ce at *
  have hXsz : (Tryd.prog.info? 36).map (·.size) = some X.size := by rw [Tryd.ainfoD, hXs]
  clear ht l32
  go_enter Tryd.func7, Tryd.ntmps7
  go_wp2_with fail
  refine (HD.out _).mono ?_
  rintro e W1 ⟨rfl, s1⟩
  go_wp2_with (first | (refine wpList_store_whole (by rfl) 36 _ _ (by rfl) W1.heap.size X _ 36 (by rfl) (by rfl) (heap_alloc_new W1 _) (by rw [hXs]; rfl) hXsz hXone ?_; intro W2 r2 f2; have s2 : Same W1 W2 := Fr.trans ((Fr.refl _ W1).alloc _) f2 (fun i hi e => by omega); clear f2))
  refine (HR.out W2).mono ?_
  rintro e W3 ⟨rfl, s3⟩
  have r3 : W3.heap[W1.heap.size]? = some (.cells X 36 (0, 0)) := by rw [s3.block _ (lt_of_heap r2) (fun f => f)]; exact r2
  clear r2
  go_wp2_with (first | (refine wpList_store_whole (by rfl) 36 _ _ (by rfl) W3.heap.size X _ 36 (by rfl) (by rfl) (heap_alloc_new W3 _) (by rw [hXs]; rfl) hXsz hXone ?_; intro W4 r4 f4; have s4 : Same W3 W4 := Fr.trans ((Fr.refl _ W3).alloc _) f4 (fun i hi e => by omega); clear f4) | (refine wpList_load_want (by rfl) 36 _ (by rfl) W1.heap.size (by rfl) 36 X (0, 0) _ ((s4.block _ (lt_of_heap r3) (fun f => f)).trans r3) Tryd.underlying36 rfl hXsz ?_) | (refine wpList_load_want (by rfl) 36 _ (by rfl) W3.heap.size (by rfl) 36 X (0, 0) _ r4 Tryd.underlying36 rfl hXsz ?_))
  have s04 := s1.trans (s2.trans (s3.trans s4))
  have HA4 := HA.out W4 s04
  refine HA4.mono ?_
  rintro e W6 ⟨rfl, s6⟩
  go_wp2_with fail
  go_ret
  exact ⟨rfl, s04.trans s6⟩
end Go.Proofs.YthkhfblpdekjhaaDoor
