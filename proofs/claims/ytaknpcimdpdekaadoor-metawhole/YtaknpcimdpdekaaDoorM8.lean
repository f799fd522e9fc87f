/- Decode. -/
import Derived.Test.YtaknpcimdpdekaaDoorM7
namespace Go.Proofs.YtaknpcimdpdekaaDoor
open Go.RowKit

set_option maxRecDepth 100000 in
theorem sector_calls {p q : Int} (hp : 0 ≤ p) (hp2 : p ≤ 1000000) (w : World) : Calls Tryd.prog 18 #[frameV p q] w fun e w' => e = .returned (.int .i64 ((p.toNat / 8 : Nat) : Int)) ∧ Same w w' := by
  obtain ⟨n, rfl⟩ := Int.eq_ofNat_of_zero_le hp
  have hw : wrap64 ((n : Int) / 8) = ((n / 8 : Nat) : Int) := by rw [wrap64]; omega
  rw [show (n : Int).toNat = n from rfl]
  clear hp hp2
  go_enter Tryd.func18, Tryd.ntmps18
  go_wp2
  go_ret
  refine ⟨?_, (Fr.refl _ _).alloc _⟩
  first | rfl | (show Ending.returned (.int .i64 (wrap64 ((n : Int) / 8))) = _; rw [hw])

theorem zeroRec_lit : (#[.int .u64 0, .int .u32 0, .int .u8 0, .int .u8 0, .int .u8 0, .int .u8 0, .int .u8 0, .int .u8 0, .int .u8 0, .int .u8 0, .int .u8 0, .int .u8 0, .int .u8 0, .int .u8 0, .int .u8 0, .int .u8 0, .int .u8 0, .int .u8 0, .int .u8 0, .int .u8 0, .int .u8 0, .int .u8 0, .int .u8 0, .int .u8 0, .int .u8 0, .int .u8 0, .int .u8 0, .int .u8 0, .int .u8 0, .int .u8 0, .int .u8 0, .int .u8 0, .int .u8 0, .int .u8 0, .int .u64 0, .int .u64 0, .int .u32 0, .int .u32 0] : Array Value) = zeroRec.arr := rfl
theorem results_cell_tmp2 {P : Program} {fn : Func} {p u v : Tmp} {ty : TypeId} (h : fn.results = #[.cell p ty, .tmp u, .tmp v]) (tmps : Array Value) (w : World) (g : Nat) (t : TypeId) (cs : Array Value) (fr : Nat × Nat) (d : TypeDesc)
    (hp : tmps.getD p undef = .pointer (some ⟨g, 0, none⟩)) (hg : w.heap[g]? = some (.cells cs t fr))
    (hu : P.underlying ty = some d) (hd : (match d with | .struct _ | .array _ _ => true | _ => false) = true) (hi : (P.info? ty).map (·.size) = some cs.size) :
    (results fn tmps).run P w = .ok (.tuple #[.agg cs, tmps.getD u undef, tmps.getD v undef]) w := by
  have hp' : tmps[p]?.getD undef = .pointer (some ⟨g, 0, none⟩) := by simpa using hp
  simp [results, h, hp', asAddr, run_loadVar_row w g t ty cs fr d hg hu hd hi]

set_option maxRecDepth 100000 in
set_option maxHeartbeats 2000000 in
theorem decode_bad {p q : Int} {page : ByteArray} (h : decB p q page = false) (w : World) :
    Calls Tryd.prog 8 #[frameV p q, .string page] w fun e w' => e = .returned (.tuple #[metaV zeroRec, .int .u8 0, .int .i64 2]) ∧ Same w w' := by
  have sx : Same w ((w.alloc (.cells #[.int .i64 p, .int .i64 q] 23)).alloc (.cells zeroRec.arr 34)) := ((Fr.refl _ w).alloc _).alloc _
  have c0 : ((w.alloc (.cells #[.int .i64 p, .int .i64 q] 23)).alloc (.cells zeroRec.arr 34)).cell? ⟨w.heap.size, 0, none⟩ = some (.int .i64 p) := by simp
  have c1 : ((w.alloc (.cells #[.int .i64 p, .int .i64 q] 23)).alloc (.cells zeroRec.arr 34)).cell? ⟨w.heap.size, 1, none⟩ = some (.int .i64 q) := by simp
  have hA : MAt ((w.alloc (.cells #[.int .i64 p, .int .i64 q] 23)).alloc (.cells zeroRec.arr 34)) (w.heap.size + 1) zeroRec := heap_alloc2_new w _ _
  have HF : Hid (∀ W, Calls Tryd.prog 17 #[frameV p q] W fun e w' => e = .returned (.bool (frameP p q)) ∧ Same W w') := framed_calls p q
  have hzl := zeroRec_lit
  have hsz : (Tryd.prog.info? 34).map (·.size) = some zeroRec.arr.size := by rw [Tryd.infoM]; rfl
  have hone := arr_one zeroRec
  have hzs : zeroRec.arr.size = 38 := rfl
  have hzv := Tryd.zeroM
  unfold metaV MAt at *
  have HRES : Hid (∀ (tmps : Array Value) (W : World), W.heap[w.heap.size + 1]? = some (.cells zeroRec.arr 34 (0, 0)) → tmps.getD 4 undef = .pointer (some ⟨w.heap.size + 1, 0, none⟩) → (results Tryd.f8 tmps).run Tryd.prog W = .ok (.tuple #[.agg zeroRec.arr, tmps.getD 5 undef, tmps.getD 6 undef]) W) := fun tmps W h hp => results_cell_tmp2 (p := 4) (u := 5) (v := 6) (ty := 34) (by kernel_rfl) tmps W (w.heap.size + 1) 34 _ (0, 0) _ hp h Tryd.underlying34 rfl hsz
  generalize zeroRec.arr = ZA at *
  unfold decB at h
  by_cases hf : frameP p q = true
  · rw [hf] at h HF
    rw [Bool.true_and, decide_eq_false_iff_not] at h
    have hn : ((page.size : Int) != p) = true := by simpa using h
    clear hf h
    go_enter Tryd.func8, Tryd.ntmps8
    go_wp2_with fail
    refine (HF.out _).mono ?_
    rintro e W1 ⟨rfl, s1⟩
    have c0 := s1.keep c0
    have t1 := sx.trans s1
    have hA1 := (s1.block _ (lt_of_heap hA) (fun f => f)).trans hA
    clear s1 sx hA
    go_wp2_with (first | (refine wpList_store_whole (by rfl) 34 _ _ (by rfl) (w.heap.size + 1) ZA ZA 34 (by rfl) (by rfl) hA1 rfl hsz hone ?_; intro W5 r5 f5))
    exact bodyPost_ret (HRES.out _ _ r5 rfl) rfl ⟨rfl, Fr.trans t1 f5 (fun i hi e => by omega)⟩
  · have hf' : frameP p q = false := by simpa using hf
    rw [hf'] at HF
    clear hf h hf'
    go_enter Tryd.func8, Tryd.ntmps8
    go_wp2_with fail
    refine (HF.out _).mono ?_
    rintro e W1 ⟨rfl, s1⟩
    have t1 := sx.trans s1
    have hA1 := (s1.block _ (lt_of_heap hA) (fun f => f)).trans hA
    clear s1 sx hA
    go_wp2_with (first | (refine wpList_store_whole (by rfl) 34 _ _ (by rfl) (w.heap.size + 1) ZA ZA 34 (by rfl) (by rfl) hA1 rfl hsz hone ?_; intro W5 r5 f5))
    exact bodyPost_ret (HRES.out _ _ r5 rfl) rfl ⟨rfl, Fr.trans t1 f5 (fun i hi e => by omega)⟩

set_option maxRecDepth 100000 in
set_option maxHeartbeats 2000000 in
theorem decode_0 {p q : Int} {page : ByteArray} (h : decB p q page = true) (h0 : sectS p page = noughtS (sectS p page).size) (w : World) (ht : TabAt w) (hz : TzAt w) :
    Calls Tryd.prog 8 #[frameV p q, .string page] w fun e w' => e = .returned (.tuple #[metaV zeroRec, .int .u8 0, .int .i64 0]) ∧ Same w w' := by
  obtain ⟨hf, hpz⟩ := decB_parts h
  obtain ⟨hp4, hq1, hq2⟩ := frameP_cases hf
  have hss := sectS_size h
  have hlo := sect_lo hf
  obtain ⟨S, hS⟩ : ∃ S, S = sectS p page := ⟨_, rfl⟩
  rw [← hS] at hss h0
  have sx : Same w ((w.alloc (.cells #[.int .i64 p, .int .i64 q] 23)).alloc (.cells zeroRec.arr 34)) := ((Fr.refl _ w).alloc _).alloc _
  have c0 : ((w.alloc (.cells #[.int .i64 p, .int .i64 q] 23)).alloc (.cells zeroRec.arr 34)).cell? ⟨w.heap.size, 0, none⟩ = some (.int .i64 p) := by simp
  have c1 : ((w.alloc (.cells #[.int .i64 p, .int .i64 q] 23)).alloc (.cells zeroRec.arr 34)).cell? ⟨w.heap.size, 1, none⟩ = some (.int .i64 q) := by simp
  have hA : MAt ((w.alloc (.cells #[.int .i64 p, .int .i64 q] 23)).alloc (.cells zeroRec.arr 34)) (w.heap.size + 1) zeroRec := heap_alloc2_new w _ _
  have HF : Hid (∀ W, Calls Tryd.prog 17 #[frameV p q] W fun e w' => e = .returned (.bool true) ∧ Same W w') := fun W => by have := framed_calls p q W; rw [hf] at this; exact this
  have HSC : Hid (∀ W, Calls Tryd.prog 18 #[frameV p q] W fun e w' => e = .returned (.int .i64 ((p.toNat / 8 : Nat) : Int)) ∧ Same W w') := fun W => sector_calls (by omega) (by omega) W
  obtain ⟨n, hn⟩ : ∃ n, n = p.toNat / 8 := ⟨_, rfl⟩
  rw [← hn] at HSC hss hlo
  have hex : page.extract 0 n = S := by rw [hS, hn]; rfl
  have hn1 : (n : Int) ≤ (page.size : Int) := by omega
  have hn0 : (0 : Int) ≤ (n : Int) := by omega
  have hpn : ((page.size : Int) != p) = false := by simpa using hpz
  have HL : Hid (∀ W, Calls Tryd.prog 19 #[.string ⟨#[]⟩, .int .i64 S.size] W fun e w' => e = .returned (.string (noughtS S.size)) ∧ Same W w') := fun W => by
    have := filled_calls ⟨#[]⟩ S.size (Nat.zero_le _) (by omega) W
    rw [show fillS ⟨#[]⟩ S.size = noughtS S.size from by rw [fillS]; exact ByteArray.empty_append] at this
    exact this
  have HP : Hid (∀ W, Same w W → Calls Tryd.prog 20 #[.string S] W fun e w' => e = .returned (.tuple #[frameV (pAt S) (qAt S), metaV (recAt S), .bool (laidM S)]) ∧ Same W w') := fun W h => parse_calls S (by omega) (by omega) W (ht.same h) (hz.same h)
  rw [hss] at HL
  have hok := recAt_ok S (by omega)
  have hzl := zeroRec_lit
  have hsz : (Tryd.prog.info? 34).map (·.size) = some zeroRec.arr.size := by rw [Tryd.infoM]; rfl
  have hone := arr_one zeroRec
  have hzs : zeroRec.arr.size = 38 := rfl
  have hzv := Tryd.zeroM
  unfold metaV MAt at *
  have HRES : Hid (∀ (tmps : Array Value) (W : World) (A : Array Value), A.size = 38 → W.heap[w.heap.size + 1]? = some (.cells A 34 (0, 0)) → tmps.getD 4 undef = .pointer (some ⟨w.heap.size + 1, 0, none⟩) → (results Tryd.f8 tmps).run Tryd.prog W = .ok (.tuple #[.agg A, tmps.getD 5 undef, tmps.getD 6 undef]) W) := fun tmps W A hs h hp => results_cell_tmp2 (p := 4) (u := 5) (v := 6) (ty := 34) (by kernel_rfl) tmps W (w.heap.size + 1) 34 _ (0, 0) _ hp h Tryd.underlying34 rfl (by rw [Tryd.infoM, hs])
  have hbeq : (S.toList == (noughtS S.size).toList) = decide (S = noughtS S.size) := by
    rw [Bool.eq_iff_iff, beq_iff_eq, decide_eq_true_eq, ByteArray.toList_eq, ByteArray.toList_eq]
    exact ⟨bytes_ext, fun h => congrArg (fun x => x.data.toList) h⟩
  have hRA := arr_one (recAt S)
  have hRs := arr_size (recAt S) hok.d
  have hRz : (Tryd.prog.info? 34).map (·.size) = some (recAt S).arr.size := by rw [Tryd.infoM, hRs]
  rw [hss] at hbeq h0
  generalize noughtS n = NS at *
  generalize laidM S = LA at *
  have HT : Hid (TabAt w) := ht
  clear ht hz hok hpz hp4 hq1 hq2 hlo hS hn h hf
  rw [decide_eq_true h0] at hbeq
  clear h0
  generalize (recAt S).arr = RR at *
  generalize pAt S = PA at *
  generalize qAt S = QA at *
  generalize zeroRec.arr = ZA at *
  go_enter Tryd.func8, Tryd.ntmps8
  go_wp2_with fail
  refine (HF.out _).mono ?_
  rintro e W1 ⟨rfl, s1⟩
  have c0 := s1.keep c0
  have c1 := s1.keep c1
  have t1 := sx.trans s1
  have hA1 := (s1.block _ (lt_of_heap hA) (fun f => f)).trans hA
  clear s1 sx hA
  go_wp2_with fail
  refine (HSC.out _).mono ?_
  rintro e W2 ⟨rfl, s2⟩
  have c0 := s2.keep c0
  have c1 := s2.keep c1
  have t2 := t1.trans s2
  have hA2 := (s2.block _ (lt_of_heap hA1) (fun f => f)).trans hA1
  clear s2 t1 hA1
  go_wp2_with fail
  refine (HL.out _).mono ?_
  rintro e W3 ⟨rfl, s3⟩
  have c0 := s3.keep c0
  have c1 := s3.keep c1
  have t3 := t2.trans s3
  have hA3 := (s3.block _ (lt_of_heap hA2) (fun f => f)).trans hA2
  clear s3 t2 hA2
  go_wp2_with (first | (refine wpList_store_whole (by rfl) 34 _ _ (by rfl) (w.heap.size + 1) ZA ZA 34 (by rfl) (by rfl) hA3 rfl hsz hone ?_; intro W5 r5 f5))
  exact bodyPost_ret (HRES.out _ _ _ hzs r5 rfl) rfl ⟨rfl, Fr.trans t3 f5 (fun i hi e => by omega)⟩

set_option maxRecDepth 100000 in
set_option maxHeartbeats 2000000 in
theorem decode_1 {p q : Int} {page : ByteArray} (h : decB p q page = true) (h0 : ¬ sectS p page = noughtS (sectS p page).size) (hl : laidM (sectS p page) = false) (w : World) (ht : TabAt w) (hz : TzAt w) :
    Calls Tryd.prog 8 #[frameV p q, .string page] w fun e w' => e = .returned (.tuple #[metaV zeroRec, .int .u8 3, .int .i64 0]) ∧ Same w w' := by
  obtain ⟨hf, hpz⟩ := decB_parts h
  obtain ⟨hp4, hq1, hq2⟩ := frameP_cases hf
  have hss := sectS_size h
  have hlo := sect_lo hf
  obtain ⟨S, hS⟩ : ∃ S, S = sectS p page := ⟨_, rfl⟩
  rw [← hS] at hss h0 hl
  have sx : Same w ((w.alloc (.cells #[.int .i64 p, .int .i64 q] 23)).alloc (.cells zeroRec.arr 34)) := ((Fr.refl _ w).alloc _).alloc _
  have c0 : ((w.alloc (.cells #[.int .i64 p, .int .i64 q] 23)).alloc (.cells zeroRec.arr 34)).cell? ⟨w.heap.size, 0, none⟩ = some (.int .i64 p) := by simp
  have c1 : ((w.alloc (.cells #[.int .i64 p, .int .i64 q] 23)).alloc (.cells zeroRec.arr 34)).cell? ⟨w.heap.size, 1, none⟩ = some (.int .i64 q) := by simp
  have hA : MAt ((w.alloc (.cells #[.int .i64 p, .int .i64 q] 23)).alloc (.cells zeroRec.arr 34)) (w.heap.size + 1) zeroRec := heap_alloc2_new w _ _
  have HF : Hid (∀ W, Calls Tryd.prog 17 #[frameV p q] W fun e w' => e = .returned (.bool true) ∧ Same W w') := fun W => by have := framed_calls p q W; rw [hf] at this; exact this
  have HSC : Hid (∀ W, Calls Tryd.prog 18 #[frameV p q] W fun e w' => e = .returned (.int .i64 ((p.toNat / 8 : Nat) : Int)) ∧ Same W w') := fun W => sector_calls (by omega) (by omega) W
  obtain ⟨n, hn⟩ : ∃ n, n = p.toNat / 8 := ⟨_, rfl⟩
  rw [← hn] at HSC hss hlo
  have hex : page.extract 0 n = S := by rw [hS, hn]; rfl
  have hn1 : (n : Int) ≤ (page.size : Int) := by omega
  have hn0 : (0 : Int) ≤ (n : Int) := by omega
  have hpn : ((page.size : Int) != p) = false := by simpa using hpz
  have HL : Hid (∀ W, Calls Tryd.prog 19 #[.string ⟨#[]⟩, .int .i64 S.size] W fun e w' => e = .returned (.string (noughtS S.size)) ∧ Same W w') := fun W => by
    have := filled_calls ⟨#[]⟩ S.size (Nat.zero_le _) (by omega) W
    rw [show fillS ⟨#[]⟩ S.size = noughtS S.size from by rw [fillS]; exact ByteArray.empty_append] at this
    exact this
  have HP : Hid (∀ W, Same w W → Calls Tryd.prog 20 #[.string S] W fun e w' => e = .returned (.tuple #[frameV (pAt S) (qAt S), metaV (recAt S), .bool (laidM S)]) ∧ Same W w') := fun W h => parse_calls S (by omega) (by omega) W (ht.same h) (hz.same h)
  rw [hss] at HL
  have hok := recAt_ok S (by omega)
  have hzl := zeroRec_lit
  have hsz : (Tryd.prog.info? 34).map (·.size) = some zeroRec.arr.size := by rw [Tryd.infoM]; rfl
  have hone := arr_one zeroRec
  have hzs : zeroRec.arr.size = 38 := rfl
  have hzv := Tryd.zeroM
  unfold metaV MAt at *
  have HRES : Hid (∀ (tmps : Array Value) (W : World) (A : Array Value), A.size = 38 → W.heap[w.heap.size + 1]? = some (.cells A 34 (0, 0)) → tmps.getD 4 undef = .pointer (some ⟨w.heap.size + 1, 0, none⟩) → (results Tryd.f8 tmps).run Tryd.prog W = .ok (.tuple #[.agg A, tmps.getD 5 undef, tmps.getD 6 undef]) W) := fun tmps W A hs h hp => results_cell_tmp2 (p := 4) (u := 5) (v := 6) (ty := 34) (by kernel_rfl) tmps W (w.heap.size + 1) 34 _ (0, 0) _ hp h Tryd.underlying34 rfl (by rw [Tryd.infoM, hs])
  have hbeq : (S.toList == (noughtS S.size).toList) = decide (S = noughtS S.size) := by
    rw [Bool.eq_iff_iff, beq_iff_eq, decide_eq_true_eq, ByteArray.toList_eq, ByteArray.toList_eq]
    exact ⟨bytes_ext, fun h => congrArg (fun x => x.data.toList) h⟩
  have hRA := arr_one (recAt S)
  have hRs := arr_size (recAt S) hok.d
  have hRz : (Tryd.prog.info? 34).map (·.size) = some (recAt S).arr.size := by rw [Tryd.infoM, hRs]
  rw [hss] at hbeq h0
  generalize noughtS n = NS at *
  generalize laidM S = LA at *
  subst hl
  have HT : Hid (TabAt w) := ht
  clear ht hz hok hpz hp4 hq1 hq2 hlo hS hn h hf
  rw [decide_eq_false h0] at hbeq
  clear h0
  generalize (recAt S).arr = RR at *
  generalize pAt S = PA at *
  generalize qAt S = QA at *
  generalize zeroRec.arr = ZA at *
  go_enter Tryd.func8, Tryd.ntmps8
  go_wp2_with fail
  refine (HF.out _).mono ?_
  rintro e W1 ⟨rfl, s1⟩
  have c0 := s1.keep c0
  have c1 := s1.keep c1
  have t1 := sx.trans s1
  have hA1 := (s1.block _ (lt_of_heap hA) (fun f => f)).trans hA
  clear s1 sx hA
  go_wp2_with fail
  refine (HSC.out _).mono ?_
  rintro e W2 ⟨rfl, s2⟩
  have c0 := s2.keep c0
  have c1 := s2.keep c1
  have t2 := t1.trans s2
  have hA2 := (s2.block _ (lt_of_heap hA1) (fun f => f)).trans hA1
  clear s2 t1 hA1
  go_wp2_with fail
  refine (HL.out _).mono ?_
  rintro e W3 ⟨rfl, s3⟩
  have c0 := s3.keep c0
  have c1 := s3.keep c1
  have t3 := t2.trans s3
  have hA3 := (s3.block _ (lt_of_heap hA2) (fun f => f)).trans hA2
  clear s3 t2 hA2
  go_wp2_with fail
  refine (HP.out _ t3).mono ?_
  rintro e W4 ⟨rfl, s4⟩
  have c0 := s4.keep c0
  have c1 := s4.keep c1
  have t4 := t3.trans s4
  have hA4 := (s4.block _ (lt_of_heap hA3) (fun f => f)).trans hA3
  clear s4 t3 hA3
  go_wp2_with (first | (refine wpList_store_whole (by rfl) 34 _ _ (by rfl) (W4.heap.size + 1) RR ZA 34 (by rfl) (by rfl) (heap_alloc2_new W4 _ _) (by rw [hzs, hRs]) hRz hRA ?_; intro W6 r6 f6; have o0 : W6.cell? ⟨W4.heap.size, 0, none⟩ = some (.int .i64 PA) := (f6.cell (p := ⟨W4.heap.size, 0, none⟩) (by simp; omega) (by simp)).trans (by simp); have o1 : W6.cell? ⟨W4.heap.size, 1, none⟩ = some (.int .i64 QA) := (f6.cell (p := ⟨W4.heap.size, 1, none⟩) (by simp; omega) (by simp)).trans (by simp); have s6 : Same W4 W6 := Fr.trans (((Fr.refl _ W4).alloc _).alloc _) f6 (fun i hi e => by omega); have c0 := s6.keep c0; have c1 := s6.keep c1; have t6 := t4.trans s6; have hA6 := (s6.block _ (lt_of_heap hA4) (fun f => f)).trans hA4) | (refine wpList_store_whole (by rfl) 34 _ _ (by rfl) (w.heap.size + 1) ZA ZA 34 (by rfl) (by rfl) hA6 rfl hsz hone ?_; intro W5 r5 f5))
  exact bodyPost_ret (HRES.out _ _ _ hzs r5 rfl) rfl ⟨rfl, Fr.trans t6 f5 (fun i hi e => by omega)⟩

set_option maxRecDepth 100000 in
set_option maxHeartbeats 2000000 in
/-- Decode where the frame that was read is unlike in its page (over letters: what was read is not opened). -/
theorem decode_2a_core {p q PA QA : Int} {page S NS : ByteArray} {n : Nat} {RR : Array Value} (w : World)
    (HF : Hid (∀ W, Calls Tryd.prog 17 #[frameV p q] W fun e w' => e = .returned (.bool true) ∧ Same W w'))
    (HSC : Hid (∀ W, Calls Tryd.prog 18 #[frameV p q] W fun e w' => e = .returned (.int .i64 n) ∧ Same W w'))
    (hss : S.size = n) (hex : page.extract 0 n = S) (hn1 : (n : Int) ≤ (page.size : Int)) (hn0 : (0 : Int) ≤ (n : Int)) (hpn : ((page.size : Int) != p) = false)
    (HL : Hid (∀ W, Calls Tryd.prog 19 #[.string ⟨#[]⟩, .int .i64 n] W fun e w' => e = .returned (.string NS) ∧ Same W w'))
    (HP : Hid (∀ W, Same w W → Calls Tryd.prog 20 #[.string S] W fun e w' => e = .returned (.tuple #[frameV PA QA, .agg RR, .bool true]) ∧ Same W w'))
    (hbeq : (S.toList == NS.toList) = false) (hEF : (PA == p) = false) (hRA : RR.all (·.oneCell') = true) (hRs : RR.size = 38) :
    Calls Tryd.prog 8 #[frameV p q, .string page] w fun e w' => e = .returned (.tuple #[metaV zeroRec, .int .u8 2, .int .i64 0]) ∧ Same w w' := by
  have sx : Same w ((w.alloc (.cells #[.int .i64 p, .int .i64 q] 23)).alloc (.cells zeroRec.arr 34)) := ((Fr.refl _ w).alloc _).alloc _
  have c0 : ((w.alloc (.cells #[.int .i64 p, .int .i64 q] 23)).alloc (.cells zeroRec.arr 34)).cell? ⟨w.heap.size, 0, none⟩ = some (.int .i64 p) := by simp
  have c1 : ((w.alloc (.cells #[.int .i64 p, .int .i64 q] 23)).alloc (.cells zeroRec.arr 34)).cell? ⟨w.heap.size, 1, none⟩ = some (.int .i64 q) := by simp
  have hA : MAt ((w.alloc (.cells #[.int .i64 p, .int .i64 q] 23)).alloc (.cells zeroRec.arr 34)) (w.heap.size + 1) zeroRec := heap_alloc2_new w _ _
  have hzl := zeroRec_lit
  have hsz : (Tryd.prog.info? 34).map (·.size) = some zeroRec.arr.size := by rw [Tryd.infoM]; rfl
  have hone := arr_one zeroRec
  have hzs : zeroRec.arr.size = 38 := rfl
  have hzv := Tryd.zeroM
  unfold metaV MAt at *
  have HRES : Hid (∀ (tmps : Array Value) (W : World) (A : Array Value), A.size = 38 → W.heap[w.heap.size + 1]? = some (.cells A 34 (0, 0)) → tmps.getD 4 undef = .pointer (some ⟨w.heap.size + 1, 0, none⟩) → (results Tryd.f8 tmps).run Tryd.prog W = .ok (.tuple #[.agg A, tmps.getD 5 undef, tmps.getD 6 undef]) W) := fun tmps W A hs h hp => results_cell_tmp2 (p := 4) (u := 5) (v := 6) (ty := 34) (by kernel_rfl) tmps W (w.heap.size + 1) 34 _ (0, 0) _ hp h Tryd.underlying34 rfl (by rw [Tryd.infoM, hs])
  have hRz : (Tryd.prog.info? 34).map (·.size) = some RR.size := by rw [Tryd.infoM, hRs]
  generalize zeroRec.arr = ZA at *
  go_enter Tryd.func8, Tryd.ntmps8
  go_wp2_with fail
  refine (HF.out _).mono ?_
  rintro e W1 ⟨rfl, s1⟩
  have c0 := s1.keep c0
  have c1 := s1.keep c1
  have t1 := sx.trans s1
  have hA1 := (s1.block _ (lt_of_heap hA) (fun f => f)).trans hA
  clear s1 sx hA
  go_wp2_with fail
  refine (HSC.out _).mono ?_
  rintro e W2 ⟨rfl, s2⟩
  have c0 := s2.keep c0
  have c1 := s2.keep c1
  have t2 := t1.trans s2
  have hA2 := (s2.block _ (lt_of_heap hA1) (fun f => f)).trans hA1
  clear s2 t1 hA1
  go_wp2_with fail
  refine (HL.out _).mono ?_
  rintro e W3 ⟨rfl, s3⟩
  have c0 := s3.keep c0
  have c1 := s3.keep c1
  have t3 := t2.trans s3
  have hA3 := (s3.block _ (lt_of_heap hA2) (fun f => f)).trans hA2
  clear s3 t2 hA2
  go_wp2_with fail
  refine (HP.out _ t3).mono ?_
  rintro e W4 ⟨rfl, s4⟩
  have c0 := s4.keep c0
  have c1 := s4.keep c1
  have t4 := t3.trans s4
  have hA4 := (s4.block _ (lt_of_heap hA3) (fun f => f)).trans hA3
  clear s4 t3 hA3
  go_wp2_with (first | (refine wpList_store_whole (by rfl) 34 _ _ (by rfl) (W4.heap.size + 1) RR ZA 34 (by rfl) (by rfl) (heap_alloc2_new W4 _ _) (by rw [hzs, hRs]) hRz hRA ?_; intro W6 r6 f6; have o0 : W6.cell? ⟨W4.heap.size, 0, none⟩ = some (.int .i64 PA) := (f6.cell (p := ⟨W4.heap.size, 0, none⟩) (by simp; omega) (by simp)).trans (by simp); have o1 : W6.cell? ⟨W4.heap.size, 1, none⟩ = some (.int .i64 QA) := (f6.cell (p := ⟨W4.heap.size, 1, none⟩) (by simp; omega) (by simp)).trans (by simp); have s6 : Same W4 W6 := Fr.trans (((Fr.refl _ W4).alloc _).alloc _) f6 (fun i hi e => by omega); have c0 := s6.keep c0; have c1 := s6.keep c1; have t6 := t4.trans s6; have hA6 := (s6.block _ (lt_of_heap hA4) (fun f => f)).trans hA4) | (refine wpList_store_whole (by rfl) 34 _ _ (by rfl) (w.heap.size + 1) ZA ZA 34 (by rfl) (by rfl) hA6 rfl hsz hone ?_; intro W5 r5 f5))
  exact bodyPost_ret (HRES.out _ _ _ hzs r5 rfl) rfl ⟨rfl, Fr.trans t6 f5 (fun i hi e => by omega)⟩

set_option maxRecDepth 100000 in
theorem decode_2a {p q : Int} {page : ByteArray} (h : decB p q page = true) (h0 : ¬ sectS p page = noughtS (sectS p page).size) (hl : laidM (sectS p page) = true) (hpq : ¬ pAt (sectS p page) = p) (w : World) (ht : TabAt w) (hz : TzAt w) :
    Calls Tryd.prog 8 #[frameV p q, .string page] w fun e w' => e = .returned (.tuple #[metaV zeroRec, .int .u8 2, .int .i64 0]) ∧ Same w w' := by
  obtain ⟨hf, hpz⟩ := decB_parts h
  obtain ⟨hp4, hq1, hq2⟩ := frameP_cases hf
  have hss := sectS_size h
  have hlo := sect_lo hf
  obtain ⟨S, hS⟩ : ∃ S, S = sectS p page := ⟨_, rfl⟩
  rw [← hS] at hss h0 hl hpq
  have HF : Hid (∀ W, Calls Tryd.prog 17 #[frameV p q] W fun e w' => e = .returned (.bool true) ∧ Same W w') := fun W => by have := framed_calls p q W; rw [hf] at this; exact this
  have HSC : Hid (∀ W, Calls Tryd.prog 18 #[frameV p q] W fun e w' => e = .returned (.int .i64 ((p.toNat / 8 : Nat) : Int)) ∧ Same W w') := fun W => sector_calls (by omega) (by omega) W
  obtain ⟨n, hn⟩ : ∃ n, n = p.toNat / 8 := ⟨_, rfl⟩
  rw [← hn] at HSC hss hlo
  have hex : page.extract 0 n = S := by rw [hS, hn]; rfl
  have hn1 : (n : Int) ≤ (page.size : Int) := by omega
  have hn0 : (0 : Int) ≤ (n : Int) := by omega
  have hpn : ((page.size : Int) != p) = false := by simpa using hpz
  have HL : Hid (∀ W, Calls Tryd.prog 19 #[.string ⟨#[]⟩, .int .i64 S.size] W fun e w' => e = .returned (.string (noughtS S.size)) ∧ Same W w') := fun W => by
    have := filled_calls ⟨#[]⟩ S.size (Nat.zero_le _) (by omega) W
    rw [show fillS ⟨#[]⟩ S.size = noughtS S.size from by rw [fillS]; exact ByteArray.empty_append] at this
    exact this
  have HP : Hid (∀ W, Same w W → Calls Tryd.prog 20 #[.string S] W fun e w' => e = .returned (.tuple #[frameV (pAt S) (qAt S), metaV (recAt S), .bool (laidM S)]) ∧ Same W w') := fun W h => parse_calls S (by omega) (by omega) W (ht.same h) (hz.same h)
  rw [hss] at HL
  have hok := recAt_ok S (by omega)
  have hbeq : (S.toList == (noughtS n).toList) = false := by
    rw [beq_eq_false_iff_ne, ByteArray.toList_eq, ByteArray.toList_eq]
    intro e
    apply h0
    rw [hss]
    exact bytes_ext e
  rw [hl] at HP
  exact decode_2a_core w HF HSC hss hex hn1 hn0 hpn HL HP hbeq (by rw [beq_eq_false_iff_ne]; exact hpq) (arr_one (recAt S)) (arr_size (recAt S) hok.d)

set_option maxRecDepth 100000 in
set_option maxHeartbeats 2000000 in
theorem decode_2b {p q : Int} {page : ByteArray} (h : decB p q page = true) (h0 : ¬ sectS p page = noughtS (sectS p page).size) (hl : laidM (sectS p page) = true) (hpq : pAt (sectS p page) = p ∧ ¬ qAt (sectS p page) = q) (w : World) (ht : TabAt w) (hz : TzAt w) :
    Calls Tryd.prog 8 #[frameV p q, .string page] w fun e w' => e = .returned (.tuple #[metaV zeroRec, .int .u8 2, .int .i64 0]) ∧ Same w w' := by
  obtain ⟨hf, hpz⟩ := decB_parts h
  obtain ⟨hp4, hq1, hq2⟩ := frameP_cases hf
  have hss := sectS_size h
  have hlo := sect_lo hf
  obtain ⟨S, hS⟩ : ∃ S, S = sectS p page := ⟨_, rfl⟩
  rw [← hS] at hss h0 hl hpq
  have sx : Same w ((w.alloc (.cells #[.int .i64 p, .int .i64 q] 23)).alloc (.cells zeroRec.arr 34)) := ((Fr.refl _ w).alloc _).alloc _
  have c0 : ((w.alloc (.cells #[.int .i64 p, .int .i64 q] 23)).alloc (.cells zeroRec.arr 34)).cell? ⟨w.heap.size, 0, none⟩ = some (.int .i64 p) := by simp
  have c1 : ((w.alloc (.cells #[.int .i64 p, .int .i64 q] 23)).alloc (.cells zeroRec.arr 34)).cell? ⟨w.heap.size, 1, none⟩ = some (.int .i64 q) := by simp
  have hA : MAt ((w.alloc (.cells #[.int .i64 p, .int .i64 q] 23)).alloc (.cells zeroRec.arr 34)) (w.heap.size + 1) zeroRec := heap_alloc2_new w _ _
  have HF : Hid (∀ W, Calls Tryd.prog 17 #[frameV p q] W fun e w' => e = .returned (.bool true) ∧ Same W w') := fun W => by have := framed_calls p q W; rw [hf] at this; exact this
  have HSC : Hid (∀ W, Calls Tryd.prog 18 #[frameV p q] W fun e w' => e = .returned (.int .i64 ((p.toNat / 8 : Nat) : Int)) ∧ Same W w') := fun W => sector_calls (by omega) (by omega) W
  obtain ⟨n, hn⟩ : ∃ n, n = p.toNat / 8 := ⟨_, rfl⟩
  rw [← hn] at HSC hss hlo
  have hex : page.extract 0 n = S := by rw [hS, hn]; rfl
  have hn1 : (n : Int) ≤ (page.size : Int) := by omega
  have hn0 : (0 : Int) ≤ (n : Int) := by omega
  have hpn : ((page.size : Int) != p) = false := by simpa using hpz
  have HL : Hid (∀ W, Calls Tryd.prog 19 #[.string ⟨#[]⟩, .int .i64 S.size] W fun e w' => e = .returned (.string (noughtS S.size)) ∧ Same W w') := fun W => by
    have := filled_calls ⟨#[]⟩ S.size (Nat.zero_le _) (by omega) W
    rw [show fillS ⟨#[]⟩ S.size = noughtS S.size from by rw [fillS]; exact ByteArray.empty_append] at this
    exact this
  have HP : Hid (∀ W, Same w W → Calls Tryd.prog 20 #[.string S] W fun e w' => e = .returned (.tuple #[frameV (pAt S) (qAt S), metaV (recAt S), .bool (laidM S)]) ∧ Same W w') := fun W h => parse_calls S (by omega) (by omega) W (ht.same h) (hz.same h)
  rw [hss] at HL
  have hok := recAt_ok S (by omega)
  have hzl := zeroRec_lit
  have hsz : (Tryd.prog.info? 34).map (·.size) = some zeroRec.arr.size := by rw [Tryd.infoM]; rfl
  have hone := arr_one zeroRec
  have hzs : zeroRec.arr.size = 38 := rfl
  have hzv := Tryd.zeroM
  unfold metaV MAt at *
  have HRES : Hid (∀ (tmps : Array Value) (W : World) (A : Array Value), A.size = 38 → W.heap[w.heap.size + 1]? = some (.cells A 34 (0, 0)) → tmps.getD 4 undef = .pointer (some ⟨w.heap.size + 1, 0, none⟩) → (results Tryd.f8 tmps).run Tryd.prog W = .ok (.tuple #[.agg A, tmps.getD 5 undef, tmps.getD 6 undef]) W) := fun tmps W A hs h hp => results_cell_tmp2 (p := 4) (u := 5) (v := 6) (ty := 34) (by kernel_rfl) tmps W (w.heap.size + 1) 34 _ (0, 0) _ hp h Tryd.underlying34 rfl (by rw [Tryd.infoM, hs])
  have hbeq : (S.toList == (noughtS S.size).toList) = decide (S = noughtS S.size) := by
    rw [Bool.eq_iff_iff, beq_iff_eq, decide_eq_true_eq, ByteArray.toList_eq, ByteArray.toList_eq]
    exact ⟨bytes_ext, fun h => congrArg (fun x => x.data.toList) h⟩
  have hRA := arr_one (recAt S)
  have hRs := arr_size (recAt S) hok.d
  have hRz : (Tryd.prog.info? 34).map (·.size) = some (recAt S).arr.size := by rw [Tryd.infoM, hRs]
  rw [hss] at hbeq h0
  generalize noughtS n = NS at *
  generalize laidM S = LA at *
  subst hl
  have HT : Hid (TabAt w) := ht
  clear ht hz hok hpz hp4 hq1 hq2 hlo hS hn h hf
  rw [decide_eq_false h0] at hbeq
  obtain ⟨e1, e2⟩ := hpq
  have hEF : (qAt S == q) = false := by rw [beq_eq_false_iff_ne]; exact e2
  clear h0 e2
  generalize (recAt S).arr = RR at *
  rw [e1] at HP
  clear e1
  generalize qAt S = QA at *
  generalize zeroRec.arr = ZA at *
  go_enter Tryd.func8, Tryd.ntmps8
  go_wp2_with fail
  refine (HF.out _).mono ?_
  rintro e W1 ⟨rfl, s1⟩
  have c0 := s1.keep c0
  have c1 := s1.keep c1
  have t1 := sx.trans s1
  have hA1 := (s1.block _ (lt_of_heap hA) (fun f => f)).trans hA
  clear s1 sx hA
  go_wp2_with fail
  refine (HSC.out _).mono ?_
  rintro e W2 ⟨rfl, s2⟩
  have c0 := s2.keep c0
  have c1 := s2.keep c1
  have t2 := t1.trans s2
  have hA2 := (s2.block _ (lt_of_heap hA1) (fun f => f)).trans hA1
  clear s2 t1 hA1
  go_wp2_with fail
  refine (HL.out _).mono ?_
  rintro e W3 ⟨rfl, s3⟩
  have c0 := s3.keep c0
  have c1 := s3.keep c1
  have t3 := t2.trans s3
  have hA3 := (s3.block _ (lt_of_heap hA2) (fun f => f)).trans hA2
  clear s3 t2 hA2
  go_wp2_with fail
  refine (HP.out _ t3).mono ?_
  rintro e W4 ⟨rfl, s4⟩
  have c0 := s4.keep c0
  have c1 := s4.keep c1
  have t4 := t3.trans s4
  have hA4 := (s4.block _ (lt_of_heap hA3) (fun f => f)).trans hA3
  clear s4 t3 hA3
  go_wp2_with (first | (refine wpList_store_whole (by rfl) 34 _ _ (by rfl) (W4.heap.size + 1) RR ZA 34 (by rfl) (by rfl) (heap_alloc2_new W4 _ _) (by rw [hzs, hRs]) hRz hRA ?_; intro W6 r6 f6; have o0 : W6.cell? ⟨W4.heap.size, 0, none⟩ = some (.int .i64 p) := (f6.cell (p := ⟨W4.heap.size, 0, none⟩) (by simp; omega) (by simp)).trans (by simp); have o1 : W6.cell? ⟨W4.heap.size, 1, none⟩ = some (.int .i64 QA) := (f6.cell (p := ⟨W4.heap.size, 1, none⟩) (by simp; omega) (by simp)).trans (by simp); have s6 : Same W4 W6 := Fr.trans (((Fr.refl _ W4).alloc _).alloc _) f6 (fun i hi e => by omega); have c0 := s6.keep c0; have c1 := s6.keep c1; have t6 := t4.trans s6; have hA6 := (s6.block _ (lt_of_heap hA4) (fun f => f)).trans hA4) | (refine wpList_store_whole (by rfl) 34 _ _ (by rfl) (w.heap.size + 1) ZA ZA 34 (by rfl) (by rfl) hA6 rfl hsz hone ?_; intro W5 r5 f5))
  exact bodyPost_ret (HRES.out _ _ _ hzs r5 rfl) rfl ⟨rfl, Fr.trans t6 f5 (fun i hi e => by omega)⟩

set_option maxRecDepth 100000 in
set_option maxHeartbeats 2000000 in
theorem decode_3 {p q : Int} {page : ByteArray} (h : decB p q page = true) (h0 : ¬ sectS p page = noughtS (sectS p page).size) (hl : laidM (sectS p page) = true) (hpq : (pAt (sectS p page) = p ∧ qAt (sectS p page) = q)) (w : World) (ht : TabAt w) (hz : TzAt w) :
    Calls Tryd.prog 8 #[frameV p q, .string page] w fun e w' => e = .returned (.tuple #[metaV (recAt (sectS p page)), .int .u8 1, .int .i64 0]) ∧ Same w w' := by
  obtain ⟨hf, hpz⟩ := decB_parts h
  obtain ⟨hp4, hq1, hq2⟩ := frameP_cases hf
  have hss := sectS_size h
  have hlo := sect_lo hf
  obtain ⟨S, hS⟩ : ∃ S, S = sectS p page := ⟨_, rfl⟩
  rw [← hS] at hss h0 hl hpq ⊢
  have sx : Same w ((w.alloc (.cells #[.int .i64 p, .int .i64 q] 23)).alloc (.cells zeroRec.arr 34)) := ((Fr.refl _ w).alloc _).alloc _
  have c0 : ((w.alloc (.cells #[.int .i64 p, .int .i64 q] 23)).alloc (.cells zeroRec.arr 34)).cell? ⟨w.heap.size, 0, none⟩ = some (.int .i64 p) := by simp
  have c1 : ((w.alloc (.cells #[.int .i64 p, .int .i64 q] 23)).alloc (.cells zeroRec.arr 34)).cell? ⟨w.heap.size, 1, none⟩ = some (.int .i64 q) := by simp
  have hA : MAt ((w.alloc (.cells #[.int .i64 p, .int .i64 q] 23)).alloc (.cells zeroRec.arr 34)) (w.heap.size + 1) zeroRec := heap_alloc2_new w _ _
  have HF : Hid (∀ W, Calls Tryd.prog 17 #[frameV p q] W fun e w' => e = .returned (.bool true) ∧ Same W w') := fun W => by have := framed_calls p q W; rw [hf] at this; exact this
  have HSC : Hid (∀ W, Calls Tryd.prog 18 #[frameV p q] W fun e w' => e = .returned (.int .i64 ((p.toNat / 8 : Nat) : Int)) ∧ Same W w') := fun W => sector_calls (by omega) (by omega) W
  obtain ⟨n, hn⟩ : ∃ n, n = p.toNat / 8 := ⟨_, rfl⟩
  rw [← hn] at HSC hss hlo
  have hex : page.extract 0 n = S := by rw [hS, hn]; rfl
  have hn1 : (n : Int) ≤ (page.size : Int) := by omega
  have hn0 : (0 : Int) ≤ (n : Int) := by omega
  have hpn : ((page.size : Int) != p) = false := by simpa using hpz
  have HL : Hid (∀ W, Calls Tryd.prog 19 #[.string ⟨#[]⟩, .int .i64 S.size] W fun e w' => e = .returned (.string (noughtS S.size)) ∧ Same W w') := fun W => by
    have := filled_calls ⟨#[]⟩ S.size (Nat.zero_le _) (by omega) W
    rw [show fillS ⟨#[]⟩ S.size = noughtS S.size from by rw [fillS]; exact ByteArray.empty_append] at this
    exact this
  have HP : Hid (∀ W, Same w W → Calls Tryd.prog 20 #[.string S] W fun e w' => e = .returned (.tuple #[frameV (pAt S) (qAt S), metaV (recAt S), .bool (laidM S)]) ∧ Same W w') := fun W h => parse_calls S (by omega) (by omega) W (ht.same h) (hz.same h)
  rw [hss] at HL
  have hok := recAt_ok S (by omega)
  have hzl := zeroRec_lit
  have hsz : (Tryd.prog.info? 34).map (·.size) = some zeroRec.arr.size := by rw [Tryd.infoM]; rfl
  have hone := arr_one zeroRec
  have hzs : zeroRec.arr.size = 38 := rfl
  have hzv := Tryd.zeroM
  unfold metaV MAt at *
  have HRES : Hid (∀ (tmps : Array Value) (W : World) (A : Array Value), A.size = 38 → W.heap[w.heap.size + 1]? = some (.cells A 34 (0, 0)) → tmps.getD 4 undef = .pointer (some ⟨w.heap.size + 1, 0, none⟩) → (results Tryd.f8 tmps).run Tryd.prog W = .ok (.tuple #[.agg A, tmps.getD 5 undef, tmps.getD 6 undef]) W) := fun tmps W A hs h hp => results_cell_tmp2 (p := 4) (u := 5) (v := 6) (ty := 34) (by kernel_rfl) tmps W (w.heap.size + 1) 34 _ (0, 0) _ hp h Tryd.underlying34 rfl (by rw [Tryd.infoM, hs])
  have hbeq : (S.toList == (noughtS S.size).toList) = decide (S = noughtS S.size) := by
    rw [Bool.eq_iff_iff, beq_iff_eq, decide_eq_true_eq, ByteArray.toList_eq, ByteArray.toList_eq]
    exact ⟨bytes_ext, fun h => congrArg (fun x => x.data.toList) h⟩
  have hRA := arr_one (recAt S)
  have hRs := arr_size (recAt S) hok.d
  have hRz : (Tryd.prog.info? 34).map (·.size) = some (recAt S).arr.size := by rw [Tryd.infoM, hRs]
  rw [hss] at hbeq h0
  generalize noughtS n = NS at *
  generalize laidM S = LA at *
  subst hl
  have HT : Hid (TabAt w) := ht
  clear ht hz hok hpz hp4 hq1 hq2 hlo hS hn h hf
  rw [decide_eq_false h0] at hbeq
  obtain ⟨e1, e2⟩ := hpq
  clear h0
  generalize (recAt S).arr = RR at *
  rw [e1, e2] at HP
  clear e1 e2
  generalize zeroRec.arr = ZA at *
  go_enter Tryd.func8, Tryd.ntmps8
  go_wp2_with fail
  refine (HF.out _).mono ?_
  rintro e W1 ⟨rfl, s1⟩
  have c0 := s1.keep c0
  have c1 := s1.keep c1
  have t1 := sx.trans s1
  have hA1 := (s1.block _ (lt_of_heap hA) (fun f => f)).trans hA
  clear s1 sx hA
  go_wp2_with fail
  refine (HSC.out _).mono ?_
  rintro e W2 ⟨rfl, s2⟩
  have c0 := s2.keep c0
  have c1 := s2.keep c1
  have t2 := t1.trans s2
  have hA2 := (s2.block _ (lt_of_heap hA1) (fun f => f)).trans hA1
  clear s2 t1 hA1
  go_wp2_with fail
  refine (HL.out _).mono ?_
  rintro e W3 ⟨rfl, s3⟩
  have c0 := s3.keep c0
  have c1 := s3.keep c1
  have t3 := t2.trans s3
  have hA3 := (s3.block _ (lt_of_heap hA2) (fun f => f)).trans hA2
  clear s3 t2 hA2
  go_wp2_with fail
  refine (HP.out _ t3).mono ?_
  rintro e W4 ⟨rfl, s4⟩
  have c0 := s4.keep c0
  have c1 := s4.keep c1
  have t4 := t3.trans s4
  have hA4 := (s4.block _ (lt_of_heap hA3) (fun f => f)).trans hA3
  clear s4 t3 hA3
  go_wp2_with (first | (refine wpList_store_whole (by rfl) 34 _ _ (by rfl) (W4.heap.size + 1) RR ZA 34 (by rfl) (by rfl) (heap_alloc2_new W4 _ _) (by rw [hzs, hRs]) hRz hRA ?_; intro W6 r6 f6; have o0 : W6.cell? ⟨W4.heap.size, 0, none⟩ = some (.int .i64 p) := (f6.cell (p := ⟨W4.heap.size, 0, none⟩) (by simp; omega) (by simp)).trans (by simp); have o1 : W6.cell? ⟨W4.heap.size, 1, none⟩ = some (.int .i64 q) := (f6.cell (p := ⟨W4.heap.size, 1, none⟩) (by simp; omega) (by simp)).trans (by simp); have s6 : Same W4 W6 := Fr.trans (((Fr.refl _ W4).alloc _).alloc _) f6 (fun i hi e => by omega); have c0 := s6.keep c0; have c1 := s6.keep c1; have t6 := t4.trans s6; have hA6 := (s6.block _ (lt_of_heap hA4) (fun f => f)).trans hA4) | (refine wpList_load_row (by rfl) 34 _ (by rfl) (W4.heap.size + 1) (by rfl) 34 RR (0, 0) _ r6 Tryd.underlying34 rfl hRz ?_) | (refine wpList_store_whole (by rfl) 34 _ _ (by rfl) (w.heap.size + 1) RR ZA 34 (by rfl) (by rfl) hA6 (by rw [hzs, hRs]) hRz hRA ?_; intro W5 r5 f5))
  exact bodyPost_ret (HRES.out _ _ _ hRs r5 rfl) rfl ⟨rfl, Fr.trans t6 f5 (fun i hi e => by omega)⟩

theorem decode_good {p q : Int} {page : ByteArray} (h : decB p q page = true) (w : World) (ht : TabAt w) (hz : TzAt w) :
    Calls Tryd.prog 8 #[frameV p q, .string page] w fun e w' => e = .returned (.tuple #[metaV (slotR p q (sectS p page)), .int .u8 (slotK p q (sectS p page)), .int .i64 0]) ∧ Same w w' := by
  rcases slotK_cases p q (sectS p page) with ⟨h0, e1, e2⟩ | ⟨h0, hl, e1, e2⟩ | ⟨h0, hl, hpq, e1, e2⟩ | ⟨h0, hl, hpq, e1, e2⟩
  · rw [e1, e2]; exact decode_0 h h0 w ht hz
  · rw [e1, e2]; exact decode_1 h h0 hl w ht hz
  · rw [e1, e2]
    by_cases hp : pAt (sectS p page) = p
    · exact decode_2b h h0 hl ⟨hp, fun hq => hpq ⟨hp, hq⟩⟩ w ht hz
    · exact decode_2a h h0 hl hp w ht hz
  · rw [e1, e2]; exact decode_3 h h0 hl hpq w ht hz

theorem decode_calls (p q : Int) (page : ByteArray) (w : World) (ht : TabAt w) (hz : TzAt w) :
    Calls Tryd.prog 8 #[frameV p q, .string page] w fun e w' => e = .returned (.tuple #[metaV (decR p q page), .int .u8 (decK p q page), .int .i64 (decE p q page)]) ∧ Same w w' := by
  by_cases h : decB p q page = true
  · have := decode_good h w ht hz
    unfold decR decK decE
    rw [if_pos h, if_pos h, if_pos h]
    exact this
  · have h' : decB p q page = false := by simpa using h
    have := decode_bad h' w
    unfold decR decK decE
    rw [if_neg h, if_neg h, if_neg h]
    exact this
end Go.Proofs.YtaknpcimdpdekaaDoor
