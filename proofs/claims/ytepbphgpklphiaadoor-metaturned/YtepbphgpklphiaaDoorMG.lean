/- Walks: MetaNames, MetaBack. -/
import Derived.Test.YtepbphgpklphiaaDoorMF
namespace Go.Proofs.YtepbphgpklphiaaDoor
open Go.RowKit

set_option maxRecDepth 100000 in
set_option maxHeartbeats 2000000 in
theorem mnames_walk (w : World) (ht : TabAt w) (hz : TzAt w) :
    Calls Tryd.prog 3 #[] w fun e w' => e = .returned (.bool true) ∧ Same w w' := by
  have HA : Hid (∀ W, Same w W → Calls Tryd.prog 9 #[] W fun e w' => e = .returned (.bool true) ∧ Same W w') := fun W h => awake_calls W (ht.same h) (hz.same h)
  clear ht hz
  go_enter Tryd.func3, Tryd.ntmps3
  go_wp2_with fail
  refine (HA.out _ (Fr.refl _ _)).mono ?_
  rintro e W1 ⟨rfl, s1⟩
  go_wp2_with fail
  go_ret
  exact ⟨rfl, s1⟩

set_option maxRecDepth 100000 in
set_option maxHeartbeats 2000000 in
theorem mback_bad {p q : Int} {MA : Array Value} (w : World) (hMs : MA.size = 38)
    (HA : Hid (∀ W, Same w W → Calls Tryd.prog 9 #[] W fun e w' => e = .returned (.bool true) ∧ Same W w'))
    (HE : Hid (∀ W, Same w W → Calls Tryd.prog 10 #[frameV p q, .agg MA] W fun e w' => e = .returned (.tuple #[.string ⟨#[]⟩, .int .i64 2]) ∧ Same W w'))
    (HC : Hid (∀ W, Calls Tryd.prog 11 #[frameV p q, .agg MA] W fun e w' => e = .returned (.int .i64 2) ∧ Same W w')) :
    Calls Tryd.prog 4 #[frameV p q, .agg MA] w fun e w' => e = .returned (.bool true) ∧ Same w w' := by
  have hMz : (Tryd.prog.info? 32).map (·.size) = some MA.size := by rw [Tryd.infoM, hMs]
  have sx : Same w ((w.alloc (.cells #[.int .i64 p, .int .i64 q] 24)).alloc (.cells MA 32)) := ((Fr.refl _ w).alloc _).alloc _
  have c0 : ((w.alloc (.cells #[.int .i64 p, .int .i64 q] 24)).alloc (.cells MA 32)).cell? ⟨w.heap.size, 0, none⟩ = some (.int .i64 p) := by simp
  have c1 : ((w.alloc (.cells #[.int .i64 p, .int .i64 q] 24)).alloc (.cells MA 32)).cell? ⟨w.heap.size, 1, none⟩ = some (.int .i64 q) := by simp
  have r0 : ((w.alloc (.cells #[.int .i64 p, .int .i64 q] 24)).alloc (.cells MA 32)).heap[w.heap.size + 1]? = some (.cells MA 32 (0, 0)) := heap_alloc2_new w _ _
  go_enter Tryd.func4, Tryd.ntmps4
  go_wp2_with fail
  refine (HA.out _ sx).mono ?_
  rintro e W1 ⟨rfl, s1⟩
  have c0 := s1.keep c0
  have c1 := s1.keep c1
  have r1 := (s1.block _ (lt_of_heap r0) (fun f => f)).trans r0
  have t1 := sx.trans s1
  clear s1 sx r0
  go_wp2_with (first | (refine wpList_load_want (by rfl) 32 _ (by rfl) (w.heap.size + 1) (by rfl) 32 MA (0, 0) _ r1 Tryd.underlying32 rfl hMz ?_))
  refine (HE.out _ t1).mono ?_
  rintro e W2 ⟨rfl, s2⟩
  have c0 := s2.keep c0
  have c1 := s2.keep c1
  have r2 := (s2.block _ (lt_of_heap r1) (fun f => f)).trans r1
  have t2 := t1.trans s2
  clear s2 t1 r1
  go_wp2_with (first | (refine wpList_load_want (by rfl) 32 _ (by rfl) (w.heap.size + 1) (by rfl) 32 MA (0, 0) _ r2 Tryd.underlying32 rfl hMz ?_))
--S1
  refine (HC.out _).mono ?_
  rintro e W3 ⟨rfl, s3⟩
  go_wp2_with fail
  go_ret
  exact ⟨rfl, t2.trans s3⟩

set_option maxRecDepth 100000 in
set_option maxHeartbeats 2000000 in
theorem mback_good {p q : Int} {MA ZA : Array Value} {PS : ByteArray} (w : World) (hMs : MA.size = 38) (hMo : MA.all (·.oneCell') = true) (hzl : (#[.int .u64 0, .int .u32 0, .int .u8 0, .int .u8 0, .int .u8 0, .int .u8 0, .int .u8 0, .int .u8 0, .int .u8 0, .int .u8 0, .int .u8 0, .int .u8 0, .int .u8 0, .int .u8 0, .int .u8 0, .int .u8 0, .int .u8 0, .int .u8 0, .int .u8 0, .int .u8 0, .int .u8 0, .int .u8 0, .int .u8 0, .int .u8 0, .int .u8 0, .int .u8 0, .int .u8 0, .int .u8 0, .int .u8 0, .int .u8 0, .int .u8 0, .int .u8 0, .int .u8 0, .int .u8 0, .int .u64 0, .int .u64 0, .int .u32 0, .int .u32 0] : Array Value) = ZA) (hzs : ZA.size = 38)
    (hEq : ∀ W : World, (Op.equalIn 10000 32 (.agg MA) (.agg MA)).run Tryd.prog W = .ok true W) (hsz : (PS.size : Int) = p)
    (HA : Hid (∀ W, Same w W → Calls Tryd.prog 9 #[] W fun e w' => e = .returned (.bool true) ∧ Same W w'))
    (HE : Hid (∀ W, Same w W → Calls Tryd.prog 10 #[frameV p q, .agg MA] W fun e w' => e = .returned (.tuple #[.string PS, .int .i64 0]) ∧ Same W w'))
    (HD : Hid (∀ W, Same w W → Calls Tryd.prog 12 #[frameV p q, .string PS] W fun e w' => e = .returned (.tuple #[.agg MA, .int .u8 1, .int .i64 0]) ∧ Same W w'))
    (HC : Hid (∀ W, Calls Tryd.prog 11 #[frameV p q, .agg MA] W fun e w' => e = .returned (.int .i64 0) ∧ Same W w')) :
    Calls Tryd.prog 4 #[frameV p q, .agg MA] w fun e w' => e = .returned (.bool true) ∧ Same w w' := by
  have hzl := hzl
  have hEq := hEq
  have hMz : (Tryd.prog.info? 32).map (·.size) = some MA.size := by rw [Tryd.infoM, hMs]
  have sx : Same w ((w.alloc (.cells #[.int .i64 p, .int .i64 q] 24)).alloc (.cells MA 32)) := ((Fr.refl _ w).alloc _).alloc _
  have c0 : ((w.alloc (.cells #[.int .i64 p, .int .i64 q] 24)).alloc (.cells MA 32)).cell? ⟨w.heap.size, 0, none⟩ = some (.int .i64 p) := by simp
  have c1 : ((w.alloc (.cells #[.int .i64 p, .int .i64 q] 24)).alloc (.cells MA 32)).cell? ⟨w.heap.size, 1, none⟩ = some (.int .i64 q) := by simp
  have r0 : ((w.alloc (.cells #[.int .i64 p, .int .i64 q] 24)).alloc (.cells MA 32)).heap[w.heap.size + 1]? = some (.cells MA 32 (0, 0)) := heap_alloc2_new w _ _
  have hpq : ((PS.size : Int) == p) = true := by rw [beq_iff_eq]; exact hsz
  clear hsz
  go_enter Tryd.func4, Tryd.ntmps4
  go_wp2_with fail
  refine (HA.out _ sx).mono ?_
  rintro e W1 ⟨rfl, s1⟩
  have c0 := s1.keep c0
  have c1 := s1.keep c1
  have r1 := (s1.block _ (lt_of_heap r0) (fun f => f)).trans r0
  have t1 := sx.trans s1
  clear s1 sx r0
  go_wp2_with (first | (refine wpList_load_want (by rfl) 32 _ (by rfl) (w.heap.size + 1) (by rfl) 32 MA (0, 0) _ r1 Tryd.underlying32 rfl hMz ?_))
  refine (HE.out _ t1).mono ?_
  rintro e W2 ⟨rfl, s2⟩
  have c0 := s2.keep c0
  have c1 := s2.keep c1
  have r2 := (s2.block _ (lt_of_heap r1) (fun f => f)).trans r1
  have t2 := t1.trans s2
  clear s2 t1 r1
  go_wp2_with fail
  refine (HD.out _ t2).mono ?_
  rintro e W3 ⟨rfl, s3⟩
  have c0 := s3.keep c0
  have c1 := s3.keep c1
  have r3 := (s3.block _ (lt_of_heap r2) (fun f => f)).trans r2
  have t3 := t2.trans s3
  clear s3 t2 r2
  go_wp2_with (first | (refine wpList_store_whole (by rfl) 32 _ _ (by rfl) W3.heap.size MA ZA 32 (by rfl) (by rfl) (heap_alloc_new W3 _) (by rw [hzs, hMs]) hMz hMo ?_; intro W4 r4 f4; have s4 : Same W3 W4 := Fr.trans ((Fr.refl _ W3).alloc _) f4 (fun i hi e => by omega); have c0 := s4.keep c0; have c1 := s4.keep c1; have t4 := t3.trans s4; have q4 := (s4.block _ (lt_of_heap r3) (fun f => f)).trans r3) | (refine wpList_load_want (by rfl) 32 _ (by rfl) (w.heap.size + 1) (by rfl) 32 MA (0, 0) _ q4 Tryd.underlying32 rfl hMz ?_) | (refine wpList_load_want (by rfl) 32 _ (by rfl) W3.heap.size (by rfl) 32 MA (0, 0) _ r4 Tryd.underlying32 rfl hMz ?_))
--S2
  refine (HC.out _).mono ?_
  rintro e W5 ⟨rfl, s5⟩
  go_wp2_with fail
  go_ret
  exact ⟨rfl, t4.trans s5⟩

theorem mback_walk (w : World) (ht : TabAt w) (hz : TzAt w) (p q : Int) (m : Rec) (hm : RecOk m) :
    Calls Tryd.prog 4 #[frameV p q, metaV m] w fun e w' => e = .returned (.bool true) ∧ Same w w' := by
  have HA := fun W (h : Same w W) => awake_calls W (ht.same h) (hz.same h)
  have HE := fun W (h : Same w W) => encode_calls p q m hm W (ht.same h) (hz.same h)
  have HC := check_calls p q m hm.d
  by_cases h : mayM p q m = true
  · rw [chkM_ok h] at HE HC
    have hD := fun W (h : Same w W) => decode_calls p q (encS p q m) W (ht.same h) (hz.same h)
    obtain ⟨h1, h2, h3⟩ := dec_enc hm h
    rw [h3, h2, show decE p q (encS p q m) = 0 from by (unfold decE; rw [if_pos h1])] at hD
    have hEq := fun W => eq_rec W m m hm.d hm.d
    rw [recEq_self] at hEq
    exact mback_good w (arr_size m hm.d) (arr_one m) zeroRec_lit rfl hEq (encS_size hm h) HA HE hD HC
  · have h' : mayM p q m = false := by simpa using h
    rw [chkM_bad h', show encS p q m = ⟨#[]⟩ from by (unfold encS; rw [if_neg h])] at HE
    rw [chkM_bad h'] at HC
    exact mback_bad w (arr_size m hm.d) HA HE HC
end Go.Proofs.YtepbphgpklphiaaDoor
