/- awake. -/
import Derived.Test.YtaknpcimdpdekaaDoorME
namespace Go.Proofs.YtaknpcimdpdekaaDoor
open Go.RowKit

def plS : ByteArray := encS 1024 4 plR
theorem plS_size : (plS.size : Int) = 1024 := encS_size plR_ok plR_may
theorem plS_head : plS.extract 0 8 = ⟨#[104, 119, 109, 49, 10, 4, 0, 0]⟩ := by
  apply bytes_ext
  have e : plS.data.toList = formM 10 4 plR ++ List.replicate (1024 - (formS 1024 4 plR).size) 0 := by
    unfold plS encS
    rw [if_pos plR_may, fillS_list, formS_list]
    rfl
  rw [show (8 : Nat) = 0 + 8 from rfl, extract_list, List.drop_zero, e, formM, List.append_assoc]
  rfl
theorem plS_pick : pickT 1024 4 3 plS plS = (plR, 1, 0) := by
  obtain ⟨h1, h2, h3⟩ := dec_enc plR_ok plR_may
  have hc : cntR plR 3 = plR := by unfold cntR; rw [if_neg (by decide)]
  have hn : newR plR plR = plR := by unfold newR; rw [if_neg (by decide)]
  have hN : newN plR plR = 1 := by unfold newN; rw [if_neg (by decide)]
  unfold plS pickT
  rw [h1, h3, hc, hn, hN, if_neg (by decide), if_neg (by decide), if_neg (by simp), if_neg (by simp), if_pos (by decide)]

set_option maxRecDepth 100000 in
set_option maxHeartbeats 2000000 in
theorem awake_core {MA ZA : Array Value} {PS : ByteArray} (w : World) (hMs : MA.size = 38) (hMo : MA.all (·.oneCell') = true) (hzl : (#[.int .u64 0, .int .u32 0, .int .u8 0, .int .u8 0, .int .u8 0, .int .u8 0, .int .u8 0, .int .u8 0, .int .u8 0, .int .u8 0, .int .u8 0, .int .u8 0, .int .u8 0, .int .u8 0, .int .u8 0, .int .u8 0, .int .u8 0, .int .u8 0, .int .u8 0, .int .u8 0, .int .u8 0, .int .u8 0, .int .u8 0, .int .u8 0, .int .u8 0, .int .u8 0, .int .u8 0, .int .u8 0, .int .u8 0, .int .u8 0, .int .u8 0, .int .u8 0, .int .u8 0, .int .u8 0, .int .u64 0, .int .u64 0, .int .u32 0, .int .u32 0] : Array Value) = ZA) (hzv : ∀ W : World, (zeroValue 34).run Tryd.prog W = .ok (.agg ZA) W) (hzs : ZA.size = 38)
    (hEq : ∀ W : World, (Op.equalIn 10000 34 (.agg MA) (.agg MA)).run Tryd.prog W = .ok true W)
    (PC : Hid (∀ W, Calls Tryd.prog 15 #[] W fun e w' => e = .returned (.tuple #[frameV 1024 4, .agg MA]) ∧ Same W w'))
    (HE : Hid (∀ W, Same w W → Calls Tryd.prog 11 #[frameV 1024 4, .agg MA] W fun e w' => e = .returned (.tuple #[.string PS, .int .i64 0]) ∧ Same W w'))
    (HC : Hid (∀ W, Calls Tryd.prog 16 #[frameV 1024 4, .agg ZA] W fun e w' => e = .returned (.int .i64 2) ∧ Same W w'))
    (HD : Hid (∀ W, Same w W → Calls Tryd.prog 8 #[frameV 1024 4, .string PS] W fun e w' => e = .returned (.tuple #[.agg MA, .int .u8 1, .int .i64 0]) ∧ Same W w'))
    (HP : Hid (∀ W, Same w W → Calls Tryd.prog 14 #[frameV 1024 4, .string PS, .string PS, .int .i64 3] W fun e w' => e = .returned (.tuple #[.agg MA, .int .u32 1, .int .i64 0]) ∧ Same W w'))
    (hsz : (PS.size : Int) = 1024) (h8 : PS.extract 0 8 = ⟨#[104, 119, 109, 49, 10, 4, 0, 0]⟩) :
    Calls Tryd.prog 7 #[] w fun e w' => e = .returned (.bool true) ∧ Same w w' := by
  have hzl := hzl
  have hzv := hzv
  have hEq := hEq
  have h8 := h8
  have hMz : (Tryd.prog.info? 34).map (·.size) = some MA.size := by rw [Tryd.infoM, hMs]
  go_enter Tryd.func7, Tryd.ntmps7
  go_wp2_with fail
  refine (PC.out _).mono ?_
  rintro e W1 ⟨rfl, s1⟩
  go_wp2_with (first | (refine wpList_store_whole (by rfl) 34 _ _ (by rfl) (W1.heap.size + 1) MA ZA 34 (by rfl) (by rfl) (heap_alloc2_new W1 _ _) (by rw [hzs, hMs]) hMz hMo ?_; intro W2 r2 f2; have c0 : W2.cell? ⟨W1.heap.size, 0, none⟩ = some (.int .i64 1024) := (f2.cell (p := ⟨W1.heap.size, 0, none⟩) (by simp; omega) (by simp)).trans (by simp); have c1 : W2.cell? ⟨W1.heap.size, 1, none⟩ = some (.int .i64 4) := (f2.cell (p := ⟨W1.heap.size, 1, none⟩) (by simp; omega) (by simp)).trans (by simp); have t2 : Same w W2 := Same.trans s1 (Fr.trans (((Fr.refl _ W1).alloc _).alloc _) f2 (fun i hi e => by omega))) | (refine wpList_load_want (by rfl) 34 _ (by rfl) (W1.heap.size + 1) (by rfl) 34 MA (0, 0) _ r2 Tryd.underlying34 rfl hMz ?_))
  clear f2 s1
  refine (HE.out _ t2).mono ?_
  rintro e W3 ⟨rfl, s3⟩
  have c0 := s3.keep c0
  have c1 := s3.keep c1
  have t3 := t2.trans s3
  have r3 := (s3.block _ (lt_of_heap r2) (fun f => f)).trans r2
  clear s3 t2 r2
  go_wp2_with fail
  refine (HC.out _).mono ?_
  rintro e W4 ⟨rfl, s4⟩
  have c0 := s4.keep c0
  have c1 := s4.keep c1
  have t4 := t3.trans s4
  have r4 := (s4.block _ (lt_of_heap r3) (fun f => f)).trans r3
  clear s4 t3 r3
  go_wp2_with fail
  refine (HD.out _ t4).mono ?_
  rintro e W5 ⟨rfl, s5⟩
  have c0 := s5.keep c0
  have c1 := s5.keep c1
  have t5 := t4.trans s5
  have r5 := (s5.block _ (lt_of_heap r4) (fun f => f)).trans r4
  clear s5 t4 r4
  go_wp2_with (first | (refine wpList_store_whole (by rfl) 34 _ _ (by rfl) W5.heap.size MA ZA 34 (by rfl) (by rfl) (heap_alloc_new W5 _) (by rw [hzs, hMs]) hMz hMo ?_; intro W6 r6 f6; have s6 : Same W5 W6 := Fr.trans ((Fr.refl _ W5).alloc _) f6 (fun i hi e => by omega); have c0 := s6.keep c0; have c1 := s6.keep c1; have t6 := t5.trans s6; have q6 := (s6.block _ (lt_of_heap r5) (fun f => f)).trans r5))
  clear f6 s6 t5 r5
  refine (HP.out _ t6).mono ?_
  rintro e W7 ⟨rfl, s7⟩
  have t7 := t6.trans s7
  have r7 := (s7.block _ (lt_of_heap r6) (fun f => f)).trans r6
  have q7 := (s7.block _ (lt_of_heap q6) (fun f => f)).trans q6
  clear s7 t6 r6 q6
  go_wp2_with (first | (refine wpList_store_whole (by rfl) 34 _ _ (by rfl) W7.heap.size MA ZA 34 (by rfl) (by rfl) (heap_alloc_new W7 _) (by rw [hzs, hMs]) hMz hMo ?_; intro W8 r8 f8; have s8 : Same W7 W8 := Fr.trans ((Fr.refl _ W7).alloc _) f8 (fun i hi e => by omega); have t8 := t7.trans s8; have q8 := (s8.block _ (lt_of_heap q7) (fun f => f)).trans q7; have n8 := (s8.block _ (lt_of_heap r7) (fun f => f)).trans r7) | (refine wpList_load_want (by rfl) 34 _ (by rfl) (W1.heap.size + 1) (by rfl) 34 MA (0, 0) _ q8 Tryd.underlying34 rfl hMz ?_) | (refine wpList_load_want (by rfl) 34 _ (by rfl) W5.heap.size (by rfl) 34 MA (0, 0) _ n8 Tryd.underlying34 rfl hMz ?_) | (refine wpList_load_want (by rfl) 34 _ (by rfl) W7.heap.size (by rfl) 34 MA (0, 0) _ r8 Tryd.underlying34 rfl hMz ?_))
  go_ret
  exact ⟨rfl, t8⟩

theorem awake_calls (w : World) (ht : TabAt w) (hz : TzAt w) : Calls Tryd.prog 7 #[] w fun e w' => e = .returned (.bool true) ∧ Same w w' := by
  have hE := fun W (h : Same w W) => encode_calls 1024 4 plR plR_ok W (ht.same h) (hz.same h)
  rw [chkM_ok plR_may] at hE
  have hD := fun W (h : Same w W) => decode_calls 1024 4 plS W (ht.same h) (hz.same h)
  obtain ⟨h1, h2, h3⟩ := dec_enc plR_ok plR_may
  rw [show decR 1024 4 plS = plR from h3, show decK 1024 4 plS = 1 from h2, show decE 1024 4 plS = 0 from by (unfold decE plS; rw [if_pos h1])] at hD
  have hP := fun W (h : Same w W) => pick_calls 1024 4 3 plS plS (by decide) W (ht.same h) (hz.same h)
  rw [plS_pick] at hP
  have hC := check_calls 1024 4 zeroRec rfl
  rw [show chkM 1024 4 zeroRec = 2 from by decide] at hC
  have hEq := fun W => eq_rec W plR plR rfl rfl
  rw [recEq_self] at hEq
  exact awake_core w (arr_size plR rfl) (arr_one plR) zeroRec_lit Tryd.zeroM rfl hEq plain_calls hE hC hD hP plS_size plS_head
end Go.Proofs.YtaknpcimdpdekaaDoor
