/- The document's Read. -/
import Derived.Test.YtajpgopgohadeaaDoorH1
namespace Go.Proofs.YtajpgopgohadeaaDoor
open Go.RowKit

/-- What follows a region, kept from every tactic's eyes. -/
structure ContBox (P : Prop) : Prop where
  out : P
theorem cont_of {P G : Prop} (f : ContBox P → G) (p : P) : G := f ⟨p⟩
/-- What told answers of a text. -/
def ToldIs (t : ByteArray) (N : Nat) : Prop := beN t.data.toList = N ∧ t.size ≤ 8
theorem told_is {t : ByteArray} {N : Nat} (h : ToldIs t N) (W : World) : Calls Tryd.prog 55 #[.string t] W fun e w' => e = .returned (.int .u64 N) ∧ W = w' := by
  rw [← h.1]; exact told_calls t h.2 W
theorem read_or {p q : Int} {s : ByteArray} (hf : frameP p q = true) (hz : (s.size : Int) = p) (hw : wholeB s = true) :
    (readE p q s = 53 ∧ readV p q s = noPage) ∨ (readE p q s = 0 ∧ readV p q s = pageV (beAt s 5 1) (beAt s 8 4) (beAt s 16 8) (bodyAt s)) := by
  rcases read_cases p q s with ⟨h, _⟩ | ⟨_, h, _⟩ | ⟨_, _, h, _⟩ | ⟨_, _, _, _, hE, hV⟩ | ⟨_, _, _, _, _, hE, hV⟩ | ⟨_, _, _, _, _, hE, hV⟩
  · rw [hf] at h; cases h
  · exact absurd hz h
  · rw [hw] at h; cases h
  · exact Or.inl ⟨hE, hV⟩
  · exact Or.inl ⟨hE, hV⟩
  · exact Or.inr ⟨hE, hV⟩
theorem page_inj {a b c a' b' c' : Nat} {d d' : ByteArray} (h : pageV a b c d = pageV a' b' c' d') : a = a' ∧ b = b' ∧ c = c' ∧ d = d' := by
  simp only [pageV, Value.agg.injEq, Array.mk.injEq, List.cons.injEq, Value.int.injEq, Value.string.injEq, and_true, true_and] at h
  obtain ⟨h1, h2, h3, h4⟩ := h
  exact ⟨by omega, by omega, by omega, h4⟩
theorem rr_big {p q : Int} {s : ByteArray} (hf : frameP p q = true) (hz : (s.size : Int) = p) (hw : wholeB s = true) (hn : p - 32 < (beAt s 6 2 : Int)) : readE p q s = 53 ∧ readV p q s = noPage := by
  rcases read_or hf hz hw with h | ⟨hE, hV⟩
  · exact h
  · exfalso
    obtain ⟨kd, no, vs, b, hv, hc, hs, _⟩ := form_read hE
    obtain ⟨_, k1, k2, n1, n2, v1, v2, hb⟩ := chk_zero hc
    have hp := frame_lo hf
    have := (form_places hs (by omega) (by omega) (by omega) (by omega)).2.1
    omega
theorem rr_body {p : Int} {s : ByteArray} (hz : (s.size : Int) = p) (hn : (beAt s 6 2 : Int) ≤ p - 32) : bodyAt s = s.extract 32 (32 + beAt s 6 2) := by
  unfold bodyAt
  rw [rRaw_ok s 32 (beAt s 6 2) (by omega)]
theorem rr_form {p q : Int} {s : ByteArray} (hf : frameP p q = true) (hz : (s.size : Int) = p) (hw : wholeB s = true) (hc : chkE p q (beAt s 5 1) (beAt s 8 4) (beAt s 16 8) (bodyAt s).size = 0) :
    (¬ (⟨(formB p (beAt s 5 1) (beAt s 8 4) (beAt s 16 8) (bodyAt s)).toArray⟩ : ByteArray) = s ∧ readE p q s = 53 ∧ readV p q s = noPage) ∨
    ((⟨(formB p (beAt s 5 1) (beAt s 8 4) (beAt s 16 8) (bodyAt s)).toArray⟩ : ByteArray) = s ∧ readE p q s = 0 ∧ readV p q s = pageV (beAt s 5 1) (beAt s 8 4) (beAt s 16 8) (bodyAt s)) := by
  rcases read_or hf hz hw with ⟨hE, hV⟩ | ⟨hE, hV⟩
  · refine Or.inl ⟨fun h => ?_, hE, hV⟩
    have := (read_form (q := q) hc (s := s) (by rw [← h]; simp [h])).1
    rw [hE] at this
    exact absurd this (by decide)
  · refine Or.inr ⟨?_, hE, hV⟩
    obtain ⟨kd, no, vs, b, hv, hc2, hs, _⟩ := form_read hE
    rw [hV] at hv
    obtain ⟨rfl, rfl, rfl, rfl⟩ := page_inj hv
    apply bytes_ext
    rw [hs]
theorem rr_bad {p q : Int} {s : ByteArray} (hf : frameP p q = true) (hz : (s.size : Int) = p) (hw : wholeB s = true) (hc : ¬ chkE p q (beAt s 5 1) (beAt s 8 4) (beAt s 16 8) (bodyAt s).size = 0) : readE p q s = 53 ∧ readV p q s = noPage := by
  rcases read_or hf hz hw with h | ⟨hE, hV⟩
  · exact h
  · exfalso
    obtain ⟨kd, no, vs, b, hv, hc2, hs, _⟩ := form_read hE
    rw [hV] at hv
    obtain ⟨rfl, rfl, rfl, rfl⟩ := page_inj hv
    exact hc hc2

set_option maxRecDepth 100000 in
set_option maxHeartbeats 8000000 in
theorem rread_calls (p q : Int) (s : ByteArray) (w : World) :
    Calls Tryd.prog 33 #[frameV p q, .string s] w fun e w' => e = .returned (.tuple #[readV p q s, .int .i64 (readE p q s)]) ∧ Same w w' := by
  have HM := rmay_calls p q
  have HRES : Hid (∀ (tmps : Array Value) (W : World) (cs : Array Value) (g : Nat), W.heap[g]? = some (.cells cs 41 (0, 0)) → cs.size = 4 → tmps.getD 4 undef = .pointer (some ⟨g, 0, none⟩) → (results Tryd.f33 tmps).run Tryd.prog W = .ok (.tuple #[.agg cs, tmps.getD 5 undef]) W) := fun tmps W cs g h h4 hp => results_row_tmp (p := 4) (u := 5) (ty := 41) (by kernel_rfl) tmps _ g 41 _ (0, 0) _ hp h Tryd.underlying41 rfl (by rw [h4]; kernel_rfl)
  obtain ⟨V, hVV⟩ : ∃ V, V = ((w.alloc (.cells #[.int .i64 p, .int .i64 q] 23)).alloc (.cells #[.int .u8 0, .int .u32 0, .int .u64 0, .string ⟨#[]⟩] 41)) := ⟨_, rfl⟩
  have sx : Same w V := by rw [hVV]; exact ((Fr.refl _ w).alloc _).alloc _
  have c0 : V.cell? ⟨w.heap.size, 0, none⟩ = some (.int .i64 p) := by rw [hVV]; simp
  have c1 : V.cell? ⟨w.heap.size, 1, none⟩ = some (.int .i64 q) := by rw [hVV]; simp
  have RV : V.heap[w.heap.size + 1]? = some (.cells #[.int .u8 0, .int .u32 0, .int .u64 0, .string ⟨#[]⟩] 41 (0, 0)) := by rw [hVV]; exact heap_alloc2_new w _ _
  have HRW : Hid (∀ W, Same V W → W.heap[w.heap.size + 1]? = some (.cells #[.int .u8 0, .int .u32 0, .int .u64 0, .string ⟨#[]⟩] 41 (0, 0))) := fun W h => (h.block _ (lt_of_heap RV) (fun f => f)).trans RV
  clear RV
  by_cases hf : frameP p q = true
  rotate_left
  · have hf' : frameP p q = false := by simpa using hf
    have hE : readE p q s = 2 := by unfold readE; rw [if_pos hf']
    have hV : readV p q s = noPage := by unfold readV; rw [hE]; rfl
    rw [hE, hV]
    rw [hf'] at HM
    clear hE hV hf hf'
    go_enter Tryd.func33, Tryd.ntmps33
    go_wp2_with fail
    rw [← hVV]
    clear hVV
    refine (HM _).mono ?_
    rintro e W1 ⟨rfl, s1⟩
    have RW := HRW.out _ s1
    have TT := sx.trans s1
    obtain ⟨j0, j1, j2, j3, g0, g1, g2, g3⟩ := row4_cells RW
    go_wp2_with fail
    obtain ⟨X, hX⟩ : ∃ X, X = ((((W1.setCell ⟨w.heap.size + 1, 0, none⟩ (.int .u8 0)).setCell ⟨w.heap.size + 1, 1, none⟩ (.int .u32 0)).setCell ⟨w.heap.size + 1, 2, none⟩ (.int .u64 0)).setCell ⟨w.heap.size + 1, 3, none⟩ (.string ⟨#[]⟩)) := ⟨_, rfl⟩
    have RX : X.heap[w.heap.size + 1]? = some (.cells #[.int .u8 0, .int .u32 0, .int .u64 0, .string ⟨#[]⟩] 41 (0, 0)) := by rw [hX]; exact row4_put RW
    have SX : Same w X := by rw [hX]; exact (((TT.setCell (p := ⟨w.heap.size + 1, 0, none⟩) (fun h => absurd h (by simp)) _).setCell (p := ⟨w.heap.size + 1, 1, none⟩) (fun h => absurd h (by simp)) _).setCell (p := ⟨w.heap.size + 1, 2, none⟩) (fun h => absurd h (by simp)) _).setCell (p := ⟨w.heap.size + 1, 3, none⟩) (fun h => absurd h (by simp)) _
    rw [← hX]
    clear hX
    exact bodyPost_ret (HRES.out _ _ _ _ RX rfl rfl) rfl ⟨rfl, SX⟩
  have HMT : Hid (∀ W, Calls Tryd.prog 6 #[frameV p q] W fun e w' => e = .returned (.bool true) ∧ Same W w') := fun W => by rw [← hf]; exact HM W
  by_cases hz : (s.size : Int) = p
  rotate_left
  · have hE : readE p q s = 51 := by unfold readE; rw [hf, if_neg (by decide), if_pos hz]
    have hV : readV p q s = noPage := by unfold readV; rw [hE]; rfl
    rw [hE, hV]
    rw [hf] at HM
    clear hE hV hf
    go_enter Tryd.func33, Tryd.ntmps33
    go_wp2_with fail
    rw [← hVV]
    clear hVV
    refine (HM _).mono ?_
    rintro e W1 ⟨rfl, s1⟩
    have b0 := s1.keep c0
    have b1 := s1.keep c1
    have RW := HRW.out _ s1
    have TT := sx.trans s1
    obtain ⟨j0, j1, j2, j3, g0, g1, g2, g3⟩ := row4_cells RW
    go_wp2_with fail
    obtain ⟨X, hX⟩ : ∃ X, X = ((((W1.setCell ⟨w.heap.size + 1, 0, none⟩ (.int .u8 0)).setCell ⟨w.heap.size + 1, 1, none⟩ (.int .u32 0)).setCell ⟨w.heap.size + 1, 2, none⟩ (.int .u64 0)).setCell ⟨w.heap.size + 1, 3, none⟩ (.string ⟨#[]⟩)) := ⟨_, rfl⟩
    have RX : X.heap[w.heap.size + 1]? = some (.cells #[.int .u8 0, .int .u32 0, .int .u64 0, .string ⟨#[]⟩] 41 (0, 0)) := by rw [hX]; exact row4_put RW
    have SX : Same w X := by rw [hX]; exact (((TT.setCell (p := ⟨w.heap.size + 1, 0, none⟩) (fun h => absurd h (by simp)) _).setCell (p := ⟨w.heap.size + 1, 1, none⟩) (fun h => absurd h (by simp)) _).setCell (p := ⟨w.heap.size + 1, 2, none⟩) (fun h => absurd h (by simp)) _).setCell (p := ⟨w.heap.size + 1, 3, none⟩) (fun h => absurd h (by simp)) _
    rw [← hX]
    clear hX
    exact bodyPost_ret (HRES.out _ _ _ _ RX rfl rfl) rfl ⟨rfl, SX⟩
  have hp := frame_lo hf
  have hs32 : 32 ≤ s.size := by omega
  have hs8 : s.size ≤ 8192 := by omega
  -- the sum
  obtain ⟨N, hN⟩ : ∃ N, N = beAt s 28 4 := ⟨_, rfl⟩
  have HT28 : Hid (∀ W, Calls Tryd.prog 55 #[.string (s.extract 28 32)] W fun e w' => e = .returned (.int .u64 N) ∧ W = w') := fun W => by
    have := told_calls (s.extract 28 32) (by rw [ByteArray.size_extract]; omega) W
    rw [hN]; exact this
  obtain ⟨X, hX⟩ : ∃ X : ByteArray, X = s.extract 0 28 ++ s.extract 32 s.size := ⟨_, rfl⟩
  have g8 : ∀ W : World, (Op.stringOp .add (s.extract 0 28) (s.extract 32 s.size)).run Tryd.prog W = .ok (.string X) W := add_run hX.symm (by rw [ByteArray.size_extract, ByteArray.size_extract]; omega)
  obtain ⟨C, hC⟩ : ∃ C : UInt32, C = crcP [s.extract 0 28, s.extract 32 s.size] := ⟨_, rfl⟩
  have HCR : Hid (∀ W, Calls Tryd.prog 56 #[.string X] W fun e w' => e = .returned (.int .u32 C.toNat) ∧ w' = W) := fun W => by
    rw [hC, crc_both, ← hX]
    exact rcrc_calls W X (by rw [hX, ByteArray.size_append, ByteArray.size_extract, ByteArray.size_extract]; omega)
  have hCl : C.toNat < 4294967296 := C.toBitVec.isLt
  have u4 : IntKind.u64.wrap (C.toNat : Int) = (C.toNat : Int) := by rw [IntKind.wrap_u64]; omega
  have hwd : wholeB s = decide (N = C.toNat) := by rw [hN, hC]; rfl
  have hcmp : ((N : Int) != (C.toNat : Int)) = !(wholeB s) := by
    rw [hwd, Bool.eq_iff_iff, bne_iff_ne]
    simp only [Bool.not_eq_true', decide_eq_false_iff_not]
    omega
  have a28 : (28 : Int) ≤ (s.size : Int) := by omega
  have a32 : (32 : Int) ≤ (s.size : Int) := by omega
  have hzn : (s.size : Int) = p := hz
  clear hN hX hC hCl hwd
  by_cases hw : wholeB s = true
  rotate_left
  · have hw' : wholeB s = false := by simpa using hw
    have hE : readE p q s = 52 := by unfold readE; rw [hf, if_neg (by decide), if_neg (by simpa using hz), if_pos hw']
    have hV : readV p q s = noPage := by unfold readV; rw [hE]; rfl
    rw [hE, hV]
    rw [hw'] at hcmp
    rw [hf] at HM
    clear hE hV hw hw' hf hz
    go_enter Tryd.func33, Tryd.ntmps33
    go_wp2_with fail
    rw [← hVV]
    clear hVV
    refine (HM _).mono ?_
    rintro e W1 ⟨rfl, s1⟩
    have b0 := s1.keep c0
    have b1 := s1.keep c1
    have RW := HRW.out _ s1
    have TT := sx.trans s1
    obtain ⟨j0, j1, j2, j3, g0, g1, g2, g3⟩ := row4_cells RW
    go_wp2_with fail
    clear hzn
    go_region_held3 (fun _ => True) (trivial)
      (first | (go_at_call 55; refine (HT28.out _).mono ?_; rintro e W2 ⟨rfl, rfl⟩) | (go_at_call 56; refine (HCR.out _).mono ?_; rintro e W2 ⟨rfl, rfl⟩))
    go_wp2_with fail
    obtain ⟨X9, hX⟩ : ∃ X, X = ((((W1.setCell ⟨w.heap.size + 1, 0, none⟩ (.int .u8 0)).setCell ⟨w.heap.size + 1, 1, none⟩ (.int .u32 0)).setCell ⟨w.heap.size + 1, 2, none⟩ (.int .u64 0)).setCell ⟨w.heap.size + 1, 3, none⟩ (.string ⟨#[]⟩)) := ⟨_, rfl⟩
    have RX : X9.heap[w.heap.size + 1]? = some (.cells #[.int .u8 0, .int .u32 0, .int .u64 0, .string ⟨#[]⟩] 41 (0, 0)) := by rw [hX]; exact row4_put RW
    have SX : Same w X9 := by rw [hX]; exact (((TT.setCell (p := ⟨w.heap.size + 1, 0, none⟩) (fun h => absurd h (by simp)) _).setCell (p := ⟨w.heap.size + 1, 1, none⟩) (fun h => absurd h (by simp)) _).setCell (p := ⟨w.heap.size + 1, 2, none⟩) (fun h => absurd h (by simp)) _).setCell (p := ⟨w.heap.size + 1, 3, none⟩) (fun h => absurd h (by simp)) _
    rw [← hX]
    clear hX
    exact bodyPost_ret (HRES.out _ _ _ _ RX rfl rfl) rfl ⟨rfl, Fr.drew SX⟩
  rw [hw] at hcmp
  rw [hf] at HM
  obtain ⟨n, hn⟩ : ∃ n, n = beAt s 6 2 := ⟨_, rfl⟩
  have ln := beAt_lt s 6 2 (by omega)
  rw [← hn] at ln
  have HT6 : Hid (∀ W, Calls Tryd.prog 55 #[.string (s.extract 6 8)] W fun e w' => e = .returned (.int .u64 n) ∧ W = w') := fun W => by
    have := told_calls (s.extract 6 8) (by rw [ByteArray.size_extract]; omega) W
    rw [hn]; exact this
  have a6 : (8 : Int) ≤ (s.size : Int) := by omega
  have wn : IntKind.i64.wrap (n : Int) = (n : Int) := by rw [IntKind.wrap_i64]; omega
  have wp : IntKind.i64.wrap (p - 32) = p - 32 := by rw [IntKind.wrap_i64]; omega
  by_cases hbig : p - 32 < (n : Int)
  · obtain ⟨hE, hV⟩ := rr_big hf hz hw (by rw [← hn]; exact hbig)
    rw [hE, hV]
    clear hE hV hw hf hz hn
    go_enter Tryd.func33, Tryd.ntmps33
    go_wp2_with fail
    rw [← hVV]
    clear hVV
    refine (HM _).mono ?_
    rintro e W1 ⟨rfl, s1⟩
    have b0 := s1.keep c0
    have b1 := s1.keep c1
    have RW := HRW.out _ s1
    have TT := sx.trans s1
    obtain ⟨j0, j1, j2, j3, g0, g1, g2, g3⟩ := row4_cells RW
    go_wp2_with fail
    clear hzn
    go_region_held3 (fun _ => True) (trivial)
      (first | (go_at_call 55; refine (HT28.out _).mono ?_; rintro e W2 ⟨rfl, rfl⟩) | (go_at_call 56; refine (HCR.out _).mono ?_; rintro e W2 ⟨rfl, rfl⟩))
    go_wp2_with fail
    refine (HT6.out _).mono ?_
    rintro e W2 ⟨rfl, rfl⟩
    go_wp2_with fail
    obtain ⟨X9, hX⟩ : ∃ X, X = ((((W1.setCell ⟨w.heap.size + 1, 0, none⟩ (.int .u8 0)).setCell ⟨w.heap.size + 1, 1, none⟩ (.int .u32 0)).setCell ⟨w.heap.size + 1, 2, none⟩ (.int .u64 0)).setCell ⟨w.heap.size + 1, 3, none⟩ (.string ⟨#[]⟩)) := ⟨_, rfl⟩
    have RX : X9.heap[w.heap.size + 1]? = some (.cells #[.int .u8 0, .int .u32 0, .int .u64 0, .string ⟨#[]⟩] 41 (0, 0)) := by rw [hX]; exact row4_put RW
    have SX : Same w X9 := by rw [hX]; exact (((TT.setCell (p := ⟨w.heap.size + 1, 0, none⟩) (fun h => absurd h (by simp)) _).setCell (p := ⟨w.heap.size + 1, 1, none⟩) (fun h => absurd h (by simp)) _).setCell (p := ⟨w.heap.size + 1, 2, none⟩) (fun h => absurd h (by simp)) _).setCell (p := ⟨w.heap.size + 1, 3, none⟩) (fun h => absurd h (by simp)) _
    rw [← hX]
    clear hX
    exact bodyPost_ret (HRES.out _ _ _ _ RX rfl rfl) rfl ⟨rfl, Fr.drew SX⟩
  obtain ⟨NO, hNO⟩ : ∃ N, N = beAt s 8 4 := ⟨_, rfl⟩
  obtain ⟨VS, hVS⟩ : ∃ N, N = beAt s 16 8 := ⟨_, rfl⟩
  have lNO := beAt_lt s 8 4 (by omega)
  rw [← hNO] at lNO
  obtain ⟨T8, hT8⟩ : ∃ T, T = s.extract 8 12 := ⟨_, rfl⟩
  obtain ⟨T16, hT16⟩ : ∃ T, T = s.extract 16 24 := ⟨_, rfl⟩
  have TI8 : ToldIs T8 NO := ⟨by rw [hNO, hT8]; rfl, by rw [hT8, ByteArray.size_extract]; omega⟩
  have TI16 : ToldIs T16 VS := ⟨by rw [hVS, hT16]; rfl, by rw [hT16, ByteArray.size_extract]; omega⟩
  have hx8 := hT8.symm
  have hx16 := hT16.symm
  clear hT8 hT16
  have wNO : IntKind.u32.wrap (NO : Int) = (NO : Int) := by rw [IntKind.wrap_u32]; omega
  obtain ⟨cb, hcb⟩ : ∃ cb : UInt8, cb = s[5]'(by omega) := ⟨_, rfl⟩
  have h5 : ∀ h, s[5]'h = cb := fun _ => hcb.symm
  have hKD : beAt s 5 1 = cb.toNat := by
    have e : (s.data.toList.drop 5).take 1 = [cb] := by
      have hl : 5 < s.data.toList.length := by rw [bytes_length]; omega
      rw [List.drop_eq_getElem_cons hl, hcb]
      rfl
    rw [beAt_list, e]
    simp [beN]
  obtain ⟨m, hm⟩ : ∃ m, m = 32 + n := ⟨_, rfl⟩
  have wm : IntKind.i64.wrap (32 + (n : Int)) = (m : Int) := by rw [IntKind.wrap_i64]; omega
  have am1 : (32 : Int) ≤ (m : Int) := by omega
  have am2 : (m : Int) ≤ (s.size : Int) := by omega
  obtain ⟨BD, hBD⟩ : ∃ B, B = s.extract 32 m := ⟨_, rfl⟩
  have hBA : bodyAt s = BD := by rw [hBD, hm, hn]; exact rr_body hz (by rw [← hn]; omega)
  have a12 : (12 : Int) ≤ (s.size : Int) := by omega
  have a24 : (24 : Int) ≤ (s.size : Int) := by omega
  have a5 : (5 : Int) < (s.size : Int) := by omega
  have a5n : 5 < s.size := by omega
  have hBDs := hBD.symm
  have hbig' : ¬ p - 32 < (n : Int) := hbig
  have fin : ∃ (t : ByteArray) (E : Int), (∀ W, Calls Tryd.prog 57 #[frameV p q, pageV cb.toNat NO VS BD] W fun e w' => e = .returned (.tuple #[.string t, .int .i64 E]) ∧ Same W w') ∧
      ((¬ E = 0 ∧ readE p q s = 53 ∧ readV p q s = noPage) ∨ (E = 0 ∧ (t.toList == s.toList) = false ∧ readE p q s = 53 ∧ readV p q s = noPage) ∨ (E = 0 ∧ (t.toList == s.toList) = true ∧ readE p q s = 0 ∧ readV p q s = pageV cb.toNat NO VS BD)) := by
    by_cases hc : chkE p q (beAt s 5 1) (beAt s 8 4) (beAt s 16 8) (bodyAt s).size = 0
    · refine ⟨⟨(formB p (beAt s 5 1) (beAt s 8 4) (beAt s 16 8) (bodyAt s)).toArray⟩, 0, fun W => ?_, ?_⟩
      · have := rwrite_good hc W
        rw [hKD, ← hNO, ← hVS, hBA] at this ⊢
        exact this
      · rcases rr_form hf hz hw hc with ⟨ht, hE, hV⟩ | ⟨ht, hE, hV⟩
        · refine Or.inr (Or.inl ⟨rfl, ?_, hE, hV⟩)
          rw [beq_eq_false_iff_ne, ByteArray.toList_eq, ByteArray.toList_eq]
          intro h
          exact ht (bytes_ext h)
        · refine Or.inr (Or.inr ⟨rfl, ?_, hE, ?_⟩)
          · rw [ht]; simp
          · rw [hV, hKD, ← hNO, ← hVS, hBA]
    · obtain ⟨hE, hV⟩ := rr_bad hf hz hw hc
      refine ⟨⟨#[]⟩, _, fun W => ?_, Or.inl ⟨hc, hE, hV⟩⟩
      have := rwrite_bad (E := chkE p q (beAt s 5 1) (beAt s 8 4) (beAt s 16 8) (bodyAt s).size) rfl hc W
      rw [hKD, ← hNO, ← hVS, hBA] at this ⊢
      exact this
  obtain ⟨t, E, HW, hdis⟩ := fin
  have HWW : Hid (∀ W, Calls Tryd.prog 57 #[frameV p q, pageV cb.toNat NO VS BD] W fun e w' => e = .returned (.tuple #[.string t, .int .i64 E]) ∧ Same W w') := HW
  have HD : Hid ((¬ E = 0 ∧ readE p q s = 53 ∧ readV p q s = noPage) ∨ (E = 0 ∧ (t.toList == s.toList) = false ∧ readE p q s = 53 ∧ readV p q s = noPage) ∨ (E = 0 ∧ (t.toList == s.toList) = true ∧ readE p q s = 0 ∧ readV p q s = pageV cb.toNat NO VS BD)) := hdis
  clear hw hf hz hn hNO hVS hcb hKD hm hBD hBA lNO ln hp HW hdis
  go_enter Tryd.func33, Tryd.ntmps33
  go_wp2_with fail
  rw [← hVV]
  clear hVV
  refine (HM _).mono ?_
  rintro e W1 ⟨rfl, s1⟩
  have b0 := s1.keep c0
  have b1 := s1.keep c1
  have RW := HRW.out _ s1
  have TT := sx.trans s1
  obtain ⟨j0, j1, j2, j3, g0, g1, g2, g3⟩ := row4_cells RW
  go_wp2_with fail
  clear hzn
  go_region_held3 (fun _ => True) (trivial)
    (first | (go_at_call 55; refine (HT28.out _).mono ?_; rintro e W2 ⟨rfl, rfl⟩) | (go_at_call 56; refine (HCR.out _).mono ?_; rintro e W2 ⟨rfl, rfl⟩))
  go_wp2_with fail
  refine (HT6.out _).mono ?_
  rintro e W2 ⟨rfl, rfl⟩
  go_wp2_with fail
  apply cont_of
  · intro hcont
    go_region_held3 (fun _ => True) (trivial)
      (first | (go_at_call 55; refine (told_is (by first | exact TI8 | exact TI16) _).mono ?_; rintro e W2 ⟨rfl, rfl⟩))
    all_goals exact hcont.out
  · have sA : Same W1 (W1.alloc (.cells #[.int .u8 cb.toNat, .int .u32 NO, .int .u64 VS, .string BD] 41)) := (Fr.refl _ W1).alloc _
    have e0 := sA.keep b0
    have e1 := sA.keep b1
    have d0 : (W1.alloc (.cells #[.int .u8 cb.toNat, .int .u32 NO, .int .u64 VS, .string BD] 41)).cell? ⟨W1.heap.size, 0, none⟩ = some (.int .u8 cb.toNat) := by simp
    have d1 : (W1.alloc (.cells #[.int .u8 cb.toNat, .int .u32 NO, .int .u64 VS, .string BD] 41)).cell? ⟨W1.heap.size, 1, none⟩ = some (.int .u32 NO) := by simp
    have d2 : (W1.alloc (.cells #[.int .u8 cb.toNat, .int .u32 NO, .int .u64 VS, .string BD] 41)).cell? ⟨W1.heap.size, 2, none⟩ = some (.int .u64 VS) := by simp
    have d3 : (W1.alloc (.cells #[.int .u8 cb.toNat, .int .u32 NO, .int .u64 VS, .string BD] 41)).cell? ⟨W1.heap.size, 3, none⟩ = some (.string BD) := by simp
    have sB : Same W1 (W1.alloc (.cells #[.int .u8 cb.toNat, .int .u32 NO, .int .u64 VS, .string BD] 41)).drew.drew := Fr.drew (Fr.drew sA)
    go_wp2_with fail
    refine (HWW.out _).mono ?_
    rintro e W5 ⟨rfl, s5⟩
    have t5 : Same V W5 := (s1.trans sB).trans s5
    have f0 := Same.keep (w := (W1.alloc (.cells #[.int .u8 cb.toNat, .int .u32 NO, .int .u64 VS, .string BD] 41)).drew.drew) s5 d0
    have f1 := Same.keep (w := (W1.alloc (.cells #[.int .u8 cb.toNat, .int .u32 NO, .int .u64 VS, .string BD] 41)).drew.drew) s5 d1
    have f2 := Same.keep (w := (W1.alloc (.cells #[.int .u8 cb.toNat, .int .u32 NO, .int .u64 VS, .string BD] 41)).drew.drew) s5 d2
    have f3 := Same.keep (w := (W1.alloc (.cells #[.int .u8 cb.toNat, .int .u32 NO, .int .u64 VS, .string BD] 41)).drew.drew) s5 d3
    have RW5 := HRW.out _ t5
    have TT5 := sx.trans t5
    obtain ⟨k0, k1, k2, k3, l0, l1, l2, l3⟩ := row4_cells RW5
    clear e0 e1 d0 d1 d2 d3 j0 j1 j2 j3 g0 g1 g2 g3 b0 b1
    rcases HD.out with ⟨hE0, hE, hV⟩ | ⟨rfl, hts, hE, hV⟩ | ⟨rfl, hts, hE, hV⟩
    · go_wp2_with fail
      obtain ⟨X9, hX⟩ : ∃ X, X = ((((W5.setCell ⟨w.heap.size + 1, 0, none⟩ (.int .u8 0)).setCell ⟨w.heap.size + 1, 1, none⟩ (.int .u32 0)).setCell ⟨w.heap.size + 1, 2, none⟩ (.int .u64 0)).setCell ⟨w.heap.size + 1, 3, none⟩ (.string ⟨#[]⟩)) := ⟨_, rfl⟩
      have RX : X9.heap[w.heap.size + 1]? = some (.cells #[.int .u8 0, .int .u32 0, .int .u64 0, .string ⟨#[]⟩] 41 (0, 0)) := by rw [hX]; exact row4_put RW5
      have SX : Same w X9 := by rw [hX]; exact (((TT5.setCell (p := ⟨w.heap.size + 1, 0, none⟩) (fun h => absurd h (by simp)) _).setCell (p := ⟨w.heap.size + 1, 1, none⟩) (fun h => absurd h (by simp)) _).setCell (p := ⟨w.heap.size + 1, 2, none⟩) (fun h => absurd h (by simp)) _).setCell (p := ⟨w.heap.size + 1, 3, none⟩) (fun h => absurd h (by simp)) _
      rw [← hX]
      clear hX
      exact bodyPost_ret (HRES.out _ _ _ _ RX rfl rfl) rfl ⟨by rw [hE, hV]; rfl, SX⟩
    · go_wp2_with fail
      obtain ⟨X9, hX⟩ : ∃ X, X = ((((W5.setCell ⟨w.heap.size + 1, 0, none⟩ (.int .u8 0)).setCell ⟨w.heap.size + 1, 1, none⟩ (.int .u32 0)).setCell ⟨w.heap.size + 1, 2, none⟩ (.int .u64 0)).setCell ⟨w.heap.size + 1, 3, none⟩ (.string ⟨#[]⟩)) := ⟨_, rfl⟩
      have RX : X9.heap[w.heap.size + 1]? = some (.cells #[.int .u8 0, .int .u32 0, .int .u64 0, .string ⟨#[]⟩] 41 (0, 0)) := by rw [hX]; exact row4_put RW5
      have SX : Same w X9 := by rw [hX]; exact (((TT5.setCell (p := ⟨w.heap.size + 1, 0, none⟩) (fun h => absurd h (by simp)) _).setCell (p := ⟨w.heap.size + 1, 1, none⟩) (fun h => absurd h (by simp)) _).setCell (p := ⟨w.heap.size + 1, 2, none⟩) (fun h => absurd h (by simp)) _).setCell (p := ⟨w.heap.size + 1, 3, none⟩) (fun h => absurd h (by simp)) _
      rw [← hX]
      clear hX
      exact bodyPost_ret (HRES.out _ _ _ _ RX rfl rfl) rfl ⟨by rw [hE, hV]; rfl, SX⟩
    · go_wp2_with fail
      obtain ⟨X9, hX⟩ : ∃ X, X = ((((W5.setCell ⟨w.heap.size + 1, 0, none⟩ (.int .u8 cb.toNat)).setCell ⟨w.heap.size + 1, 1, none⟩ (.int .u32 NO)).setCell ⟨w.heap.size + 1, 2, none⟩ (.int .u64 VS)).setCell ⟨w.heap.size + 1, 3, none⟩ (.string BD)) := ⟨_, rfl⟩
      have RX : X9.heap[w.heap.size + 1]? = some (.cells #[.int .u8 cb.toNat, .int .u32 NO, .int .u64 VS, .string BD] 41 (0, 0)) := by rw [hX]; exact row4_put RW5
      have SX : Same w X9 := by rw [hX]; exact (((TT5.setCell (p := ⟨w.heap.size + 1, 0, none⟩) (fun h => absurd h (by simp)) _).setCell (p := ⟨w.heap.size + 1, 1, none⟩) (fun h => absurd h (by simp)) _).setCell (p := ⟨w.heap.size + 1, 2, none⟩) (fun h => absurd h (by simp)) _).setCell (p := ⟨w.heap.size + 1, 3, none⟩) (fun h => absurd h (by simp)) _
      rw [← hX]
      clear hX
      exact bodyPost_ret (HRES.out _ _ _ _ RX rfl rfl) rfl ⟨by rw [hE, hV]; rfl, SX⟩
end Go.Proofs.YtajpgopgohadeaaDoor
