/-
  Walks: padded.
-/
import Derived.Test.YthkhfblpdekjhaaDoorSRB
namespace Go.Proofs.YthkhfblpdekjhaaDoor
open Go.RowKit

theorem str_brow (w : World) (s : ByteArray) (hs : s.size ≤ 140737488355328) :
    ∃ cs cap fr, (convert 9 42 (.string s)).run Tryd.prog w = .ok (.slice (some ⟨w.heap.size, 0, none⟩) s.size cap) (w.drew.alloc (.cells cs 5 fr)) ∧ fr = (cs.size, cs.size + 1) ∧ s.size ≤ cap ∧ cap ≤ maxLen ∧ cs.size = cap ∧ cs.toList.take s.size = bcells s.data.toList := by
  have hge := grownCap_ge w s.size 0 5
  have hle := grownCap_le_maxLen w s.size 0 5 (by unfold maxLen; omega)
  refine ⟨_, _, _, run_bytes_of_string w 9 42 5 s Tryd.underlying9 Tryd.underlying42 Tryd.underlying5, rfl, hge, hle, ?_, ?_⟩
  · unfold bytesRow
    have : s.data.size = s.size := rfl
    simp; omega
  · unfold bytesRow
    rw [Array.toList_append, List.take_left' (by simp)]
    simp [bcells]
theorem BRow.drew {w : World} {base g n cap : Nat} {xs : List UInt8} (h : BRow w base g n cap xs) : BRow w.drew base g n cap xs := h
/-- The k-th byte of how many bits n bytes have. -/
def lenB (n k : Nat) : UInt8 := UInt8.ofNat (n * 8 / 2 ^ (8 * (7 - k)))
theorem by4_val (x : Nat) : by4 (UInt32.ofNat x) = [UInt8.ofNat (x / 16777216), UInt8.ofNat (x / 65536), UInt8.ofNat (x / 256), UInt8.ofNat x] := by
  have e24 : ((UInt32.ofNat x) >>> 24).toUInt8 = UInt8.ofNat (x / 16777216) := by
    apply UInt8.toNat_inj.1
    rw [UInt32.toNat_toUInt8, UInt32.toNat_shiftRight, UInt32.toNat_ofNat', UInt8.toNat_ofNat']
    show (x % 2 ^ 32) >>> 24 % 2 ^ 8 = _
    rw [Nat.shiftRight_eq_div_pow]; omega
  have e16 : ((UInt32.ofNat x) >>> 16).toUInt8 = UInt8.ofNat (x / 65536) := by
    apply UInt8.toNat_inj.1
    rw [UInt32.toNat_toUInt8, UInt32.toNat_shiftRight, UInt32.toNat_ofNat', UInt8.toNat_ofNat']
    show (x % 2 ^ 32) >>> 16 % 2 ^ 8 = _
    rw [Nat.shiftRight_eq_div_pow]; omega
  have e8 : ((UInt32.ofNat x) >>> 8).toUInt8 = UInt8.ofNat (x / 256) := by
    apply UInt8.toNat_inj.1
    rw [UInt32.toNat_toUInt8, UInt32.toNat_shiftRight, UInt32.toNat_ofNat', UInt8.toNat_ofNat']
    show (x % 2 ^ 32) >>> 8 % 2 ^ 8 = _
    rw [Nat.shiftRight_eq_div_pow]; omega
  have e0 : (UInt32.ofNat x).toUInt8 = UInt8.ofNat x := by
    apply UInt8.toNat_inj.1
    rw [UInt32.toNat_toUInt8, UInt32.toNat_ofNat', UInt8.toNat_ofNat']
    omega
  unfold by4
  rw [e24, e16, e8, e0]
theorem len_bytes (n : Nat) : by4 (UInt32.ofNat (n * 8 / 4294967296)) ++ by4 (UInt32.ofNat (n * 8)) = (List.range 8).map (lenB n) := by
  rw [by4_val, by4_val]
  have e : (List.range 8).map (lenB n) = [lenB n 0, lenB n 1, lenB n 2, lenB n 3, lenB n 4, lenB n 5, lenB n 6, lenB n 7] := rfl
  rw [e]
  unfold lenB
  simp only [Nat.div_div_eq_div_mul]
  simp
theorem lenB_val (n k : Nat) : ((n : Int) * 8) / 2 ^ (8 * (7 - k)) % 256 = ((lenB n k).toNat : Int) := by
  unfold lenB
  rw [UInt8.toNat_ofNat']
  have : ((n : Int) * 8) / 2 ^ (8 * (7 - k)) = ((n * 8 / 2 ^ (8 * (7 - k)) : Nat) : Int) := by simp
  rw [this]
  omega
def padL (n : Nat) : Nat := (119 - n % 64) % 64
theorem padN_eq (n : Nat) : padN n = [128] ++ List.replicate (padL n) 0 ++ (List.range 8).map (lenB n) := by
  unfold padN padL
  rw [len_bytes]; simp

set_option maxRecDepth 100000 in
set_option maxHeartbeats 1000000 in
theorem padded_calls (w : World) (s : ByteArray) (hs : s.size ≤ 1099511627776) :
    Calls Tryd.prog 48 #[.string s] w fun e w' => ∃ g n cap, e = .returned (.slice (some ⟨g, 0, none⟩) n cap) ∧ BRow w' w.heap.size g n cap (s.data.toList ++ padN s.size) ∧ Same w w' := by
  obtain ⟨cs, cap, fr, hcv, hfr, hsc, hcm, hcs, htk⟩ := str_brow w s (by omega)
  have R0 : BRow (w.alloc (.cells cs 5 fr)).drew w.heap.size w.heap.size s.size cap s.data.toList :=
    ⟨Nat.le_refl _, by rw [bytes_length], cs, fr, heap_alloc_new w _, by rw [hfr]; exact Or.inr (Nat.le_refl _), hsc, hcm, hcs, htk⟩
  have s0 : Same w (w.alloc (.cells cs 5 fr)).drew := ((Fr.refl _ w).alloc _).drew
  have HR0 : Hid (BRow (w.alloc (.cells cs 5 fr)).drew w.heap.size w.heap.size s.size cap s.data.toList ∧ Same w (w.alloc (.cells cs 5 fr)).drew) := ⟨R0, s0⟩
  clear R0 s0 hsc hcm hcs htk hfr
  go_enter Tryd.func48, Tryd.ntmps48
  go_wp2_with (at_builtin; go_must (refine wpList_append_one _ (by rfl) _ _ (by rfl) w.heap.size w.heap.size s.size cap s.data.toList (by rfl) (HR0.out.1.alloc _).drew ⟨w.heap.size + 1, 0, none⟩ 1 128 (by rfl) (by simp) (by omega) (by simp; omega) ?_; intro g1 cap1 W1 R1 G1))
  have s1 : Same w W1 := by
    refine Fr.grown (HR0.out.2.alloc _) G1 ?_
    intro k hk hlt
    injection hk with hk
    omega
  have HR1 : Hid (BRow W1 w.heap.size g1 (s.size + 1) cap1 (s.data.toList ++ [128] ++ List.replicate 0 0)) := by
    show BRow _ _ _ _ _ _
    simpa using R1
  clear R1 G1 HR0 hcv
  go_loopg [3] (padL s.size) (fun g v wr => ∃ (j g1 cap1 nn : Nat), v = .slice (some ⟨g1, 0, none⟩) nn cap1 ∧ nn = s.size + 1 + j ∧ j ≤ padL s.size ∧ g = padL s.size - j ∧ Hid (BRow wr w.heap.size g1 nn cap1 (s.data.toList ++ [128] ++ List.replicate j 0)) ∧ Same w wr)
  case atStart => exact ⟨0, g1, cap1, s.size + 1, rfl, rfl, by omega, rfl, HR1, s1⟩
  case round =>
    obtain ⟨j, g2, cap2, nn, rfl, hnn, hj, rfl, HR, sr⟩ := hrel
    have hpl : padL s.size = (119 - s.size % 64) % 64 := rfl
    by_cases hgo : j < padL s.size
    · have hne : ¬ ((nn : Int) % 64) = 56 := by omega
      have hnb : nn ≤ 1099511628000 := by omega
      have hsz := sr.size
      go_wp2_with (at_builtin; go_must (refine wpList_append_one _ (by rfl) _ _ (by rfl) w.heap.size g2 nn cap2 (s.data.toList ++ [128] ++ List.replicate j 0) (by rfl) (HR.out.alloc _) ⟨wr.heap.size, 0, none⟩ 1 0 (by rfl) (by simp) (by omega) (by simp; omega) ?_; intro g3 cap3 W3 R3 G3))
      have s3 : Same w W3 := by
        refine Fr.grown (sr.alloc _) G3 ?_
        intro k hk hlt
        injection hk with hk
        have := HR.out.1
        omega
      have HR3 : Hid (BRow W3 w.heap.size g3 (s.size + 1 + (j + 1)) cap3 (s.data.toList ++ [128] ++ List.replicate (j + 1) 0)) := by
        show BRow _ _ _ _ _ _
        rw [List.replicate_succ', ← List.append_assoc, ← Nat.add_assoc, ← hnn]
        exact R3
      clear R3 G3
      go_roundg (padL s.size - (j + 1))
      case measure => omega
      case rel => exact ⟨j + 1, g3, cap3, s.size + 1 + (j + 1), rfl, rfl, by omega, rfl, HR3, s3⟩
    · obtain rfl : j = padL s.size := by omega
      have he : ((nn : Int) % 64) = 56 := by omega
      have hnb : nn ≤ 1099511628000 := by omega
      clear hj hgo hpl
      subst hnn
      have heb : (((s.size : Int) + 1 + (padL s.size : Int)) % 64 != 56) = false := by
        rw [bne_eq_false_iff_eq]; omega
      go_wp2_with fail
      clear heb
      have HR4 : Hid (BRow wr w.heap.size g2 (s.size + 1 + padL s.size + 0) cap2 (s.data.toList ++ [128] ++ List.replicate (padL s.size) 0 ++ (List.range 0).map (lenB s.size))) := by
        show BRow _ _ _ _ _ _
        simpa using HR.out
      obtain ⟨N, hN⟩ : ∃ N, N = s.size + 1 + padL s.size := ⟨_, rfl⟩
      rw [← hN] at HR4 hnb
      have HN : Hid (N = s.size + 1 + padL s.size) := hN
      clear hN HR he
      go_loopg [3, 5] 8 (fun g v iv wr => ∃ (q k g1 cap1 nn : Nat), v = .slice (some ⟨g1, 0, none⟩) nn cap1 ∧ iv = .int .i64 ((q : Int) - 1) ∧ nn = N + k ∧ q + k = 8 ∧ g = q ∧ Hid (BRow wr w.heap.size g1 (N + k) cap1 (s.data.toList ++ [128] ++ List.replicate (padL s.size) 0 ++ (List.range k).map (lenB s.size))) ∧ Same w wr)
      case atStart => exact ⟨8, 0, g2, cap2, _, rfl, rfl, HN.out.symm, rfl, rfl, HR4, sr⟩
      case round =>
        obtain ⟨q, k, g5, cap5, nn, rfl, rfl, rfl, hqk, hgq, HR, sr⟩ := hrel
        cases q with
        | zero =>
          have hk : k = 8 := by omega
          subst hk
          have HF : Hid (BRow wr w.heap.size g5 (N + 8) cap5 (s.data.toList ++ padN s.size)) := by
            show BRow _ _ _ _ _ _
            rw [padN_eq, ← List.append_assoc, ← List.append_assoc]
            exact HR.out
          clear HR HR4
          go_wp2_with fail
          go_ret
          exact ⟨g5, N + 8, cap5, rfl, HF.out, sr⟩
        | succ q =>
          have eq : (((q + 1 : Nat) : Int) - 1) = (q : Int) := by omega
          rw [eq]
          clear eq
          have hk : k = 7 - q := by omega
          have e1 : ((s.size : Int) * 8) / 2 ^ (8 * q) % 256 = ((lenB s.size k).toNat : Int) := by
            have := lenB_val s.size k
            rw [hk, show 7 - (7 - q) = q from by omega] at this
            rw [hk]; exact this
          have hq8 : q < 8 := by omega
          have HKQ : Hid (k = 7 - q) := hk
          have hsz := sr.size
          obtain ⟨b, hb⟩ : ∃ b, b = lenB s.size k := ⟨_, rfl⟩
          rw [← hb] at e1
          have HB : Hid (b = lenB s.size k) := hb
          clear hk hb HR4
          have hkb : k ≤ 8 := by omega
          go_wp2_with (at_builtin; go_must (refine wpList_append_one _ (by rfl) _ _ (by rfl) w.heap.size g5 (N + k) cap5 _ (by rfl) (HR.out.alloc _) ⟨wr.heap.size, 0, none⟩ 1 b (by rfl) (by simp) (by omega) (by simp; omega) ?_; intro g3 cap3 W3 R3 G3))
          have s3 : Same w W3 := by
            refine Fr.grown (sr.alloc _) G3 ?_
            intro k hk hlt
            injection hk with hk
            have := HR.out.1
            omega
          have HR3 : Hid (BRow W3 w.heap.size g3 (N + (k + 1)) cap3 (s.data.toList ++ [128] ++ List.replicate (padL s.size) 0 ++ (List.range (k + 1)).map (lenB s.size))) := by
            show BRow _ _ _ _ _ _
            rw [List.range_succ, List.map_append, ← List.append_assoc]
            rw [HB.out] at R3
            exact R3
          clear R3 G3
          go_roundg q
          case measure => omega
          case rel => exact ⟨q, k + 1, g3, cap3, _, rfl, by go_num, rfl, by omega, rfl, HR3, s3⟩
end Go.Proofs.YthkhfblpdekjhaaDoor
