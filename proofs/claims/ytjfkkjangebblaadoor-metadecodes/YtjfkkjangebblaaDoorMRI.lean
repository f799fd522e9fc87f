/- The document's Decode; MetaDecodes. -/
import Derived.Test.YtjfkkjangebblaaDoorMR2
namespace Go.Proofs.YtjfkkjangebblaaDoor
open Go.RowKit

set_option maxRecDepth 100000 in
set_option maxHeartbeats 2000000 in
theorem rdecode_frame {p q : Int} {page : ByteArray} {ZA : Array Value} (w : World) (hzl : (#[.int .u64 0, .int .u32 0, .int .u8 0, .int .u8 0, .int .u8 0, .int .u8 0, .int .u8 0, .int .u8 0, .int .u8 0, .int .u8 0, .int .u8 0, .int .u8 0, .int .u8 0, .int .u8 0, .int .u8 0, .int .u8 0, .int .u8 0, .int .u8 0, .int .u8 0, .int .u8 0, .int .u8 0, .int .u8 0, .int .u8 0, .int .u8 0, .int .u8 0, .int .u8 0, .int .u8 0, .int .u8 0, .int .u8 0, .int .u8 0, .int .u8 0, .int .u8 0, .int .u8 0, .int .u8 0, .int .u64 0, .int .u64 0, .int .u32 0, .int .u32 0] : Array Value) = ZA) (hzs : ZA.size = 38) (hzo : ZA.all (·.oneCell') = true)
    (HF : Hid (∀ W, Calls Tryd.prog 25 #[frameV p q] W fun e w' => e = .returned (.bool false) ∧ Same W w')) :
    Calls Tryd.prog 12 #[frameV p q, .string page] w fun e w' => e = .returned (.tuple #[.agg ZA, .int .i64 0, .int .i64 2]) ∧ Same w w' := by
  have hzl := hzl
  have hzz : (Tryd.prog.info? 34).map (·.size) = some ZA.size := by rw [Tryd.infoM, hzs]
  have sx : Same w ((w.alloc (.cells #[.int .i64 p, .int .i64 q] 23)).alloc (.cells ZA 34)) := ((Fr.refl _ w).alloc _).alloc _
  have rz : ((w.alloc (.cells #[.int .i64 p, .int .i64 q] 23)).alloc (.cells ZA 34)).heap[w.heap.size + 1]? = some (.cells ZA 34 (0, 0)) := heap_alloc2_new w _ _
  have c0 : ((w.alloc (.cells #[.int .i64 p, .int .i64 q] 23)).alloc (.cells ZA 34)).cell? ⟨w.heap.size, 0, none⟩ = some (.int .i64 p) := by simp
  have c1 : ((w.alloc (.cells #[.int .i64 p, .int .i64 q] 23)).alloc (.cells ZA 34)).cell? ⟨w.heap.size, 1, none⟩ = some (.int .i64 q) := by simp
  have HRES : Hid (∀ (tmps : Array Value) (W : World) (cs : Array Value), W.heap[w.heap.size + 1]? = some (.cells cs 34 (0, 0)) → cs.size = 38 → tmps.getD 4 undef = .pointer (some ⟨w.heap.size + 1, 0, none⟩) → (results Tryd.f12 tmps).run Tryd.prog W = .ok (.tuple #[.agg cs, tmps.getD 5 undef, tmps.getD 6 undef]) W) := fun tmps W cs h h4 hp => results_cell_tmp2 (p := 4) (u := 5) (v := 6) (ty := 34) (by kernel_rfl) tmps W (w.heap.size + 1) 34 _ (0, 0) _ hp h Tryd.underlying34 rfl (by rw [h4]; exact Tryd.infoM)
  go_enter Tryd.func12, Tryd.ntmps12
  go_wp2_with fail
  generalize ((w.alloc (.cells #[.int .i64 p, .int .i64 q] 23)).alloc (.cells ZA 34)) = V at *
  refine (HF.out _).mono ?_
  rintro e W1 ⟨rfl, s1⟩
  have c0 := s1.keep c0
  have c1 := s1.keep c1
  have rz := (s1.block _ (lt_of_heap rz) (fun f => f)).trans rz
  have t1 := sx.trans s1
  clear s1 sx
  go_wp2_with (refine wpList_store_whole (by rfl) 34 _ _ (by rfl) (w.heap.size + 1) ZA ZA 34 (by rfl) (by rfl) rz rfl hzz hzo ?_; intro WE rE fE)
  exact bodyPost_ret (HRES.out _ _ _ rE hzs rfl) rfl ⟨rfl, Fr.trans t1 fE (fun i hi e => by omega)⟩

set_option maxRecDepth 100000 in
set_option maxHeartbeats 2000000 in
theorem rdecode_size {p q : Int} {page : ByteArray} {ZA : Array Value} (w : World) (hzl : (#[.int .u64 0, .int .u32 0, .int .u8 0, .int .u8 0, .int .u8 0, .int .u8 0, .int .u8 0, .int .u8 0, .int .u8 0, .int .u8 0, .int .u8 0, .int .u8 0, .int .u8 0, .int .u8 0, .int .u8 0, .int .u8 0, .int .u8 0, .int .u8 0, .int .u8 0, .int .u8 0, .int .u8 0, .int .u8 0, .int .u8 0, .int .u8 0, .int .u8 0, .int .u8 0, .int .u8 0, .int .u8 0, .int .u8 0, .int .u8 0, .int .u8 0, .int .u8 0, .int .u8 0, .int .u8 0, .int .u64 0, .int .u64 0, .int .u32 0, .int .u32 0] : Array Value) = ZA) (hzs : ZA.size = 38) (hzo : ZA.all (·.oneCell') = true)
    (HF : Hid (∀ W, Calls Tryd.prog 25 #[frameV p q] W fun e w' => e = .returned (.bool true) ∧ Same W w')) (hne : ((page.size : Int) != p) = true) :
    Calls Tryd.prog 12 #[frameV p q, .string page] w fun e w' => e = .returned (.tuple #[.agg ZA, .int .i64 0, .int .i64 2]) ∧ Same w w' := by
  have hne := hne
  have hzl := hzl
  have hzz : (Tryd.prog.info? 34).map (·.size) = some ZA.size := by rw [Tryd.infoM, hzs]
  have sx : Same w ((w.alloc (.cells #[.int .i64 p, .int .i64 q] 23)).alloc (.cells ZA 34)) := ((Fr.refl _ w).alloc _).alloc _
  have rz : ((w.alloc (.cells #[.int .i64 p, .int .i64 q] 23)).alloc (.cells ZA 34)).heap[w.heap.size + 1]? = some (.cells ZA 34 (0, 0)) := heap_alloc2_new w _ _
  have c0 : ((w.alloc (.cells #[.int .i64 p, .int .i64 q] 23)).alloc (.cells ZA 34)).cell? ⟨w.heap.size, 0, none⟩ = some (.int .i64 p) := by simp
  have c1 : ((w.alloc (.cells #[.int .i64 p, .int .i64 q] 23)).alloc (.cells ZA 34)).cell? ⟨w.heap.size, 1, none⟩ = some (.int .i64 q) := by simp
  have HRES : Hid (∀ (tmps : Array Value) (W : World) (cs : Array Value), W.heap[w.heap.size + 1]? = some (.cells cs 34 (0, 0)) → cs.size = 38 → tmps.getD 4 undef = .pointer (some ⟨w.heap.size + 1, 0, none⟩) → (results Tryd.f12 tmps).run Tryd.prog W = .ok (.tuple #[.agg cs, tmps.getD 5 undef, tmps.getD 6 undef]) W) := fun tmps W cs h h4 hp => results_cell_tmp2 (p := 4) (u := 5) (v := 6) (ty := 34) (by kernel_rfl) tmps W (w.heap.size + 1) 34 _ (0, 0) _ hp h Tryd.underlying34 rfl (by rw [h4]; exact Tryd.infoM)
  go_enter Tryd.func12, Tryd.ntmps12
  go_wp2_with fail
  generalize ((w.alloc (.cells #[.int .i64 p, .int .i64 q] 23)).alloc (.cells ZA 34)) = V at *
  refine (HF.out _).mono ?_
  rintro e W1 ⟨rfl, s1⟩
  have c0 := s1.keep c0
  have c1 := s1.keep c1
  have rz := (s1.block _ (lt_of_heap rz) (fun f => f)).trans rz
  have t1 := sx.trans s1
  clear s1 sx
  go_wp2_with (refine wpList_store_whole (by rfl) 34 _ _ (by rfl) (w.heap.size + 1) ZA ZA 34 (by rfl) (by rfl) rz rfl hzz hzo ?_; intro WE rE fE)
  exact bodyPost_ret (HRES.out _ _ _ rE hzs rfl) rfl ⟨rfl, Fr.trans t1 fE (fun i hi e => by omega)⟩

set_option maxRecDepth 100000 in
set_option maxHeartbeats 2000000 in
theorem rdecode_slot {p q : Int} {page : ByteArray} {ZA : Array Value} (w : World) (hzl : (#[.int .u64 0, .int .u32 0, .int .u8 0, .int .u8 0, .int .u8 0, .int .u8 0, .int .u8 0, .int .u8 0, .int .u8 0, .int .u8 0, .int .u8 0, .int .u8 0, .int .u8 0, .int .u8 0, .int .u8 0, .int .u8 0, .int .u8 0, .int .u8 0, .int .u8 0, .int .u8 0, .int .u8 0, .int .u8 0, .int .u8 0, .int .u8 0, .int .u8 0, .int .u8 0, .int .u8 0, .int .u8 0, .int .u8 0, .int .u8 0, .int .u8 0, .int .u8 0, .int .u8 0, .int .u8 0, .int .u64 0, .int .u64 0, .int .u32 0, .int .u32 0] : Array Value) = ZA) (hzs : ZA.size = 38)
    (HF : Hid (∀ W, Calls Tryd.prog 25 #[frameV p q] W fun e w' => e = .returned (.bool true) ∧ Same W w')) (hne : ((page.size : Int) != p) = false) {R : Array Value} {K : Int} (hRs : R.size = 38) (hRo : R.all (·.oneCell') = true)
    (HS : Hid (∀ W, Calls Tryd.prog 26 #[frameV p q, .string page] W fun e w' => e = .returned (.tuple #[.agg R, .int .i64 K]) ∧ Same W w')) :
    Calls Tryd.prog 12 #[frameV p q, .string page] w fun e w' => e = .returned (.tuple #[.agg R, .int .i64 K, .int .i64 0]) ∧ Same w w' := by
  have hne := hne
  have hRz : (Tryd.prog.info? 34).map (·.size) = some R.size := by rw [Tryd.infoM, hRs]
  have hzl := hzl
  have hzz : (Tryd.prog.info? 34).map (·.size) = some ZA.size := by rw [Tryd.infoM, hzs]
  have sx : Same w ((w.alloc (.cells #[.int .i64 p, .int .i64 q] 23)).alloc (.cells ZA 34)) := ((Fr.refl _ w).alloc _).alloc _
  have rz : ((w.alloc (.cells #[.int .i64 p, .int .i64 q] 23)).alloc (.cells ZA 34)).heap[w.heap.size + 1]? = some (.cells ZA 34 (0, 0)) := heap_alloc2_new w _ _
  have c0 : ((w.alloc (.cells #[.int .i64 p, .int .i64 q] 23)).alloc (.cells ZA 34)).cell? ⟨w.heap.size, 0, none⟩ = some (.int .i64 p) := by simp
  have c1 : ((w.alloc (.cells #[.int .i64 p, .int .i64 q] 23)).alloc (.cells ZA 34)).cell? ⟨w.heap.size, 1, none⟩ = some (.int .i64 q) := by simp
  have HRES : Hid (∀ (tmps : Array Value) (W : World) (cs : Array Value), W.heap[w.heap.size + 1]? = some (.cells cs 34 (0, 0)) → cs.size = 38 → tmps.getD 4 undef = .pointer (some ⟨w.heap.size + 1, 0, none⟩) → (results Tryd.f12 tmps).run Tryd.prog W = .ok (.tuple #[.agg cs, tmps.getD 5 undef, tmps.getD 6 undef]) W) := fun tmps W cs h h4 hp => results_cell_tmp2 (p := 4) (u := 5) (v := 6) (ty := 34) (by kernel_rfl) tmps W (w.heap.size + 1) 34 _ (0, 0) _ hp h Tryd.underlying34 rfl (by rw [h4]; exact Tryd.infoM)
  go_enter Tryd.func12, Tryd.ntmps12
  go_wp2_with fail
  generalize ((w.alloc (.cells #[.int .i64 p, .int .i64 q] 23)).alloc (.cells ZA 34)) = V at *
  refine (HF.out _).mono ?_
  rintro e W1 ⟨rfl, s1⟩
  have c0 := s1.keep c0
  have c1 := s1.keep c1
  have rz := (s1.block _ (lt_of_heap rz) (fun f => f)).trans rz
  have t1 := sx.trans s1
  clear s1 sx
  go_wp2_with fail
  refine (HS.out _).mono ?_
  rintro e W2 ⟨rfl, s2⟩
  have c0 := s2.keep c0
  have c1 := s2.keep c1
  have rz := (s2.block _ (lt_of_heap rz) (fun f => f)).trans rz
  have t2 := t1.trans s2
  clear s2 t1
  have hl2 : w.heap.size + 1 < W2.heap.size := lt_of_heap rz
  go_wp2_with (first | (refine wpList_store_whole (by rfl) 34 _ _ (by rfl) W2.heap.size R ZA 34 (by rfl) (by rfl) (heap_alloc_new W2 _) (by rw [hzs, hRs]) hRz hRo ?_; intro W3 r3 f3; have s3 : Same W2 W3 := Fr.trans ((Fr.refl _ W2).alloc _) f3 (fun i hi e => by omega); have rz := (s3.block _ (lt_of_heap rz) (fun f => f)).trans rz; have t3 := t2.trans s3) | (refine wpList_load_want (by rfl) 34 _ (by rfl) W2.heap.size (by rfl) 34 R (0, 0) _ r3 Tryd.underlying34 rfl hRz ?_) | (refine wpList_store_whole (by rfl) 34 _ _ (by rfl) (w.heap.size + 1) R ZA 34 (by rfl) (by rfl) rz (by rw [hzs, hRs]) hRz hRo ?_; intro WE rE fE))
  exact bodyPost_ret (HRES.out _ _ _ rE hRs rfl) rfl ⟨rfl, Fr.trans t3 fE (fun i hi e => by omega)⟩

theorem rdecode_calls (p q : Int) (page : ByteArray) (w : World) :
    Calls Tryd.prog 12 #[frameV p q, .string page] w fun e w' => e = .returned (.tuple #[metaV (decR p q page), .int .i64 (decK p q page), .int .i64 (decE p q page)]) ∧ Same w w' := by
  have HF := rframe_calls p q
  by_cases hb : decB p q page = true
  · obtain ⟨hf, hz⟩ := decB_parts hb
    rw [hf] at HF
    have e1 : decR p q page = slotR p q (sectS p page) := by unfold decR; rw [if_pos hb]
    have e2 : decK p q page = slotK p q (sectS p page) := by unfold decK; rw [if_pos hb]
    have e3 : decE p q page = 0 := by unfold decE; rw [if_pos hb]
    rw [e1, e2, e3]
    have hk := decR_ok p q page
    rw [e1] at hk
    exact rdecode_slot w zeroRec_lit rfl HF (by rw [hz]; simp) (arr_size _ hk.d) (arr_one _) (slot_calls hf page hz)
  · have e1 : decR p q page = zeroRec := by unfold decR; rw [if_neg hb]
    have e2 : decK p q page = 0 := by unfold decK; rw [if_neg hb]
    have e3 : decE p q page = 2 := by unfold decE; rw [if_neg hb]
    rw [e1, e2, e3]
    by_cases hf : frameP p q = true
    · rw [hf] at HF
      have hz : ¬ (page.size : Int) = p := by
        intro e
        unfold decB at hb
        rw [hf, Bool.true_and, decide_eq_true_eq] at hb
        exact hb e
      exact rdecode_size w zeroRec_lit rfl (arr_one _) HF (by rw [bne_iff_ne]; exact hz)
    · rw [Bool.not_eq_true] at hf
      rw [hf] at HF
      exact rdecode_frame w zeroRec_lit rfl (arr_one _) HF

set_option maxRecDepth 100000 in
set_option maxHeartbeats 2000000 in
theorem mdecodes_core {p q : Int} {page : ByteArray} {ZA R : Array Value} {K : Nat} {E : Int} (w : World) (hzl : (#[.int .u64 0, .int .u32 0, .int .u8 0, .int .u8 0, .int .u8 0, .int .u8 0, .int .u8 0, .int .u8 0, .int .u8 0, .int .u8 0, .int .u8 0, .int .u8 0, .int .u8 0, .int .u8 0, .int .u8 0, .int .u8 0, .int .u8 0, .int .u8 0, .int .u8 0, .int .u8 0, .int .u8 0, .int .u8 0, .int .u8 0, .int .u8 0, .int .u8 0, .int .u8 0, .int .u8 0, .int .u8 0, .int .u8 0, .int .u8 0, .int .u8 0, .int .u8 0, .int .u8 0, .int .u8 0, .int .u64 0, .int .u64 0, .int .u32 0, .int .u32 0] : Array Value) = ZA) (hzs : ZA.size = 38) (hRs : R.size = 38) (hRo : R.all (·.oneCell') = true) (hK : K < 256)
    (hEq : ∀ W : World, (Op.equalIn 10000 34 (.agg R) (.agg R)).run Tryd.prog W = .ok true W)
    (HA : Hid (∀ W, Same w W → Calls Tryd.prog 7 #[] W fun e w' => e = .returned (.bool true) ∧ Same W w'))
    (HR : Hid (∀ W, Calls Tryd.prog 12 #[frameV p q, .string page] W fun e w' => e = .returned (.tuple #[.agg R, .int .i64 K, .int .i64 E]) ∧ Same W w'))
    (HD : Hid (∀ W, Same w W → Calls Tryd.prog 8 #[frameV p q, .string page] W fun e w' => e = .returned (.tuple #[.agg R, .int .u8 K, .int .i64 E]) ∧ Same W w')) :
    Calls Tryd.prog 5 #[frameV p q, .string page] w fun e w' => e = .returned (.bool true) ∧ Same w w' := by
  have hzl := hzl
  have hEq := hEq
  have hRz : (Tryd.prog.info? 34).map (·.size) = some R.size := by rw [Tryd.infoM, hRs]
  have hKw : IntKind.i64.wrap (K : Int) = (K : Int) := by rw [IntKind.wrap_i64]; omega
  have hEE : (E == E) = true := by simp
  have hKK : ((K : Int) == (K : Int)) = true := by simp
  have sx : Same w (w.alloc (.cells #[.int .i64 p, .int .i64 q] 23)) := (Fr.refl _ w).alloc _
  have c0 : (w.alloc (.cells #[.int .i64 p, .int .i64 q] 23)).cell? ⟨w.heap.size, 0, none⟩ = some (.int .i64 p) := by simp
  have c1 : (w.alloc (.cells #[.int .i64 p, .int .i64 q] 23)).cell? ⟨w.heap.size, 1, none⟩ = some (.int .i64 q) := by simp
  clear hK
  go_enter Tryd.func5, Tryd.ntmps5
  go_wp2_with fail
  generalize (w.alloc (.cells #[.int .i64 p, .int .i64 q] 23)) = V at *
  refine (HR.out _).mono ?_
  rintro e W1 ⟨rfl, s1⟩
  have c0 := s1.keep c0
  have c1 := s1.keep c1
  have t1 := sx.trans s1
  clear s1 sx
  go_wp2_with (refine wpList_store_whole (by rfl) 34 _ _ (by rfl) W1.heap.size R ZA 34 (by rfl) (by rfl) (heap_alloc_new W1 _) (by rw [hzs, hRs]) hRz hRo ?_; intro W2 r2 f2; have s2 : Same W1 W2 := Fr.trans ((Fr.refl _ W1).alloc _) f2 (fun i hi e => by omega); have c0 := s2.keep c0; have c1 := s2.keep c1; have t2 := t1.trans s2)
  clear f2 s2 t1
  refine (HD.out _ t2).mono ?_
  rintro e W3 ⟨rfl, s3⟩
  have r2 := (s3.block _ (lt_of_heap r2) (fun f => f)).trans r2
  have t3 := t2.trans s3
  clear s3 t2 c0 c1
  go_wp2_with (first | (refine wpList_store_whole (by rfl) 34 _ _ (by rfl) W3.heap.size R ZA 34 (by rfl) (by rfl) (heap_alloc_new W3 _) (by rw [hzs, hRs]) hRz hRo ?_; intro W4 r4 f4; have s4 : Same W3 W4 := Fr.trans ((Fr.refl _ W3).alloc _) f4 (fun i hi e => by omega); have r2 := (s4.block _ (lt_of_heap r2) (fun f => f)).trans r2; have t4 := t3.trans s4) | (refine wpList_load_want (by rfl) 34 _ (by rfl) W3.heap.size (by rfl) 34 R (0, 0) _ r4 Tryd.underlying34 rfl hRz ?_) | (refine wpList_load_want (by rfl) 34 _ (by rfl) W1.heap.size (by rfl) 34 R (0, 0) _ r2 Tryd.underlying34 rfl hRz ?_))
  refine (HA.out _ t4).mono ?_
  rintro e W5 ⟨rfl, s5⟩
  go_wp2_with fail
  go_ret
  exact ⟨rfl, t4.trans s5⟩

theorem decK_lt (p q : Int) (page : ByteArray) : decK p q page < 256 := by
  unfold decK
  split
  · unfold slotK; split; omega; split; omega; split <;> omega
  · omega
theorem mdecodes_walk (w : World) (ht : TabAt w) (hz : TzAt w) (p q : Int) (page : ByteArray) :
    Calls Tryd.prog 5 #[frameV p q, .string page] w fun e w' => e = .returned (.bool true) ∧ Same w w' := by
  have hk := decR_ok p q page
  have hEq := fun W => eq_rec W (decR p q page) (decR p q page) hk.d hk.d
  rw [recEq_self] at hEq
  exact mdecodes_core w zeroRec_lit rfl (arr_size _ hk.d) (arr_one _) (decK_lt p q page) hEq (fun W h => awake_calls W (ht.same h) (hz.same h)) (rdecode_calls p q page) (fun W h => decode_calls p q page W (ht.same h) (hz.same h))
end Go.Proofs.YtjfkkjangebblaaDoor
