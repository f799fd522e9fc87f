/- empty, counting, newer. -/
import Derived.Test.YtaknpcimdpdekaaDoorM8
namespace Go.Proofs.YtaknpcimdpdekaaDoor
open Go.RowKit

def cntR (m : Rec) (pages : Int) : Rec := if pages < (m.pg : Int) then zeroRec else m
def newR (z o : Rec) : Rec := if z.v < o.v then o else z
def newN (z o : Rec) : Nat := if z.v < o.v then 0 else 1
theorem cntR_ok {m : Rec} (h : RecOk m) (pages : Int) : RecOk (cntR m pages) := by
  unfold cntR
  by_cases hp : pages < (m.pg : Int)
  · rw [if_pos hp]; exact zeroRec_ok
  · rw [if_neg hp]; exact h
theorem newR_ok {z o : Rec} (hz : RecOk z) (ho : RecOk o) : RecOk (newR z o) := by
  unfold newR
  by_cases hp : z.v < o.v
  · rw [if_pos hp]; exact ho
  · rw [if_neg hp]; exact hz
theorem empty_lit : zeroRec.arr.setIfInBounds 37 (.int .u32 2) = emptyRec.arr := rfl

set_option maxRecDepth 100000 in
theorem empty_calls (w : World) : Calls Tryd.prog 27 #[] w fun e w' => e = .returned (metaV emptyRec) ∧ Same w w' := by
  have hel := empty_lit
  have hzl := zeroRec_lit
  have hzs : zeroRec.arr.size = 38 := rfl
  have hes : emptyRec.arr.size = 38 := rfl
  have hE1 := arr_one emptyRec
  have hEz : (Tryd.prog.info? 34).map (·.size) = some emptyRec.arr.size := by rw [Tryd.infoM]; rfl
  have HRES : Hid (∀ (tmps : Array Value) (W : World), W.heap[w.heap.size]? = some (.cells emptyRec.arr 34 (0, 0)) → tmps.getD 0 undef = .pointer (some ⟨w.heap.size, 0, none⟩) → (results Tryd.f27 tmps).run Tryd.prog W = .ok (.agg emptyRec.arr) W) := fun tmps W h hp => results_cell_row (p := 0) (ty := 34) (by kernel_rfl) tmps _ w.heap.size 34 _ (0, 0) _ hp h Tryd.underlying34 rfl hEz
  unfold metaV
  generalize zeroRec.arr = ZA at *
  generalize emptyRec.arr = EA at *
  go_enter Tryd.func27, Tryd.ntmps27
  go_wp2_with (first | (refine wpList_store_whole (by rfl) 34 _ _ (by rfl) w.heap.size EA _ 34 (by rfl) (by rfl) (heap_alloc_new w _) (by rw [hzs, hes]) hEz hE1 ?_; intro W5 r5 f5))
  exact bodyPost_ret (HRES.out _ _ r5 rfl) rfl ⟨rfl, Fr.trans ((Fr.refl _ w).alloc _) f5 (fun i hi e => by omega)⟩

set_option maxRecDepth 100000 in
set_option maxHeartbeats 1000000 in
theorem mcounting_calls (m : Rec) (hm : RecOk m) (pages : Int) (hp : -9223372036854775808 ≤ pages ∧ pages ≤ 9223372036854775807) (w : World) : Calls Tryd.prog 29 #[metaV m, .int .i64 pages] w fun e w' => e = .returned (metaV (cntR m pages)) ∧ Same w w' := by
  have hA : MAt ((w.alloc (.cells m.arr 34)).alloc (.cells zeroRec.arr 34)) w.heap.size m := heap_alloc2_old w _ _
  have hR : MAt ((w.alloc (.cells m.arr 34)).alloc (.cells zeroRec.arr 34)) (w.heap.size + 1) zeroRec := heap_alloc2_new w _ _
  obtain ⟨_, _, _, _, _, c37⟩ := hA.cells hm.d
  have sx : Same w ((w.alloc (.cells m.arr 34)).alloc (.cells zeroRec.arr 34)) := ((Fr.refl _ w).alloc _).alloc _
  have hw1 : wrap64 (m.pg : Int) = (m.pg : Int) := by have := hm.pg; rw [wrap64]; omega
  have hw2 : wrap64 pages = pages := by rw [wrap64]; omega
  have hv1 : IntKind.i64.wrap (m.pg : Int) = (m.pg : Int) := by have := hm.pg; rw [IntKind.wrap_i64]; omega
  have hv2 : IntKind.i64.wrap pages = pages := by rw [IntKind.wrap_i64]; omega
  have hzl := zeroRec_lit
  have hzs : zeroRec.arr.size = 38 := rfl
  have hms := arr_size m hm.d
  have hz1 := arr_one zeroRec
  have hm1 := arr_one m
  have hzz : (Tryd.prog.info? 34).map (·.size) = some zeroRec.arr.size := by rw [Tryd.infoM]; rfl
  have hmz : (Tryd.prog.info? 34).map (·.size) = some m.arr.size := by rw [Tryd.infoM, hms]
  have hzv := Tryd.zeroM
  have HRES : Hid (∀ (tmps : Array Value) (W : World) (A : Array Value), A.size = 38 → W.heap[w.heap.size + 1]? = some (.cells A 34 (0, 0)) → tmps.getD 4 undef = .pointer (some ⟨w.heap.size + 1, 0, none⟩) → (results Tryd.f29 tmps).run Tryd.prog W = .ok (.agg A) W) := fun tmps W A hs h hp => results_cell_row (p := 4) (ty := 34) (by kernel_rfl) tmps _ (w.heap.size + 1) 34 _ (0, 0) _ hp h Tryd.underlying34 rfl (by rw [Tryd.infoM, hs])
  have hC : cntR m pages = if pages < (m.pg : Int) then zeroRec else m := rfl
  rw [hC]
  clear hC hm hp
  unfold metaV MAt at *
  by_cases h : pages < (m.pg : Int)
  · rw [if_pos h]
    generalize m.pg = pg at *
    generalize zeroRec.arr = ZA at *
    generalize m.arr = A at *
    go_enter Tryd.func29, Tryd.ntmps29
    go_wp2_with (first | (refine wpList_store_whole (by rfl) 34 _ _ (by rfl) (w.heap.size + 1) ZA ZA 34 (by rfl) (by rfl) hR rfl hzz hz1 ?_; intro W5 r5 f5))
    exact bodyPost_ret (HRES.out _ _ _ hzs r5 rfl) rfl ⟨rfl, Fr.trans sx f5 (fun i hi e => by omega)⟩
  · rw [if_neg h]
    generalize m.pg = pg at *
    generalize zeroRec.arr = ZA at *
    generalize m.arr = A at *
    go_enter Tryd.func29, Tryd.ntmps29
    go_wp2_with (first | (refine wpList_load_row (by rfl) 34 _ (by rfl) w.heap.size (by rfl) 34 A (0, 0) _ hA Tryd.underlying34 rfl hmz ?_) | (refine wpList_store_whole (by rfl) 34 _ _ (by rfl) (w.heap.size + 1) A ZA 34 (by rfl) (by rfl) hR (by rw [hzs, hms]) hmz hm1 ?_; intro W5 r5 f5))
    exact bodyPost_ret (HRES.out _ _ _ hms r5 rfl) rfl ⟨rfl, Fr.trans sx f5 (fun i hi e => by omega)⟩

set_option maxRecDepth 100000 in
set_option maxHeartbeats 1000000 in
theorem newer_calls (z o : Rec) (hz : RecOk z) (ho : RecOk o) (w : World) : Calls Tryd.prog 28 #[metaV z, metaV o] w fun e w' => e = .returned (.tuple #[metaV (newR z o), .int .u32 (newN z o)]) ∧ Same w w' := by
  have hA : MAt (((w.alloc (.cells z.arr 34)).alloc (.cells o.arr 34)).alloc (.cells zeroRec.arr 34)) w.heap.size z := by rw [MAt, Below.heap_alloc _ _ _ (by simp; omega)]; exact heap_alloc2_old w _ _
  have hB : MAt (((w.alloc (.cells z.arr 34)).alloc (.cells o.arr 34)).alloc (.cells zeroRec.arr 34)) (w.heap.size + 1) o := by rw [MAt, Below.heap_alloc _ _ _ (by simp)]; exact heap_alloc2_new w _ _
  have hR : MAt (((w.alloc (.cells z.arr 34)).alloc (.cells o.arr 34)).alloc (.cells zeroRec.arr 34)) (w.heap.size + 1 + 1) zeroRec := by have := heap_alloc2_new (w.alloc (.cells z.arr 34)) (.cells o.arr 34) (.cells zeroRec.arr 34); rw [show (w.alloc (.cells z.arr 34)).heap.size = w.heap.size + 1 from by simp] at this; exact this
  have ca := (hA.cells hz.d).1
  have cb := (hB.cells ho.d).1
  have sx : Same w (((w.alloc (.cells z.arr 34)).alloc (.cells o.arr 34)).alloc (.cells zeroRec.arr 34)) := (((Fr.refl _ w).alloc _).alloc _).alloc _
  have hzl := zeroRec_lit
  have hzs : zeroRec.arr.size = 38 := rfl
  have hs1 := arr_size z hz.d
  have hs2 := arr_size o ho.d
  have ho1 := arr_one z
  have ho2 := arr_one o
  have hz1 : (Tryd.prog.info? 34).map (·.size) = some z.arr.size := by rw [Tryd.infoM, hs1]
  have hz2 : (Tryd.prog.info? 34).map (·.size) = some o.arr.size := by rw [Tryd.infoM, hs2]
  have hzv := Tryd.zeroM
  have HRES : Hid (∀ (tmps : Array Value) (W : World) (A : Array Value), A.size = 38 → W.heap[w.heap.size + 1 + 1]? = some (.cells A 34 (0, 0)) → tmps.getD 4 undef = .pointer (some ⟨w.heap.size + 1 + 1, 0, none⟩) → (results Tryd.f28 tmps).run Tryd.prog W = .ok (.tuple #[.agg A, tmps.getD 5 undef]) W) := fun tmps W A hs h hp => results_row_tmp (p := 4) (u := 5) (ty := 34) (by kernel_rfl) tmps _ (w.heap.size + 1 + 1) 34 _ (0, 0) _ hp h Tryd.underlying34 rfl (by rw [Tryd.infoM, hs])
  have hC : newR z o = if z.v < o.v then o else z := rfl
  have hD : newN z o = if z.v < o.v then 0 else 1 := rfl
  rw [hC, hD]
  clear hC hD hz ho
  unfold metaV MAt at *
  by_cases h : z.v < o.v
  · rw [if_pos h, if_pos h]
    have hi : ((z.v : Int)) < (o.v : Int) := by omega
    clear h
    generalize z.v = zv at *
    generalize o.v = ov at *
    generalize zeroRec.arr = ZA at *
    generalize z.arr = A at *
    generalize o.arr = B at *
    go_enter Tryd.func28, Tryd.ntmps28
    go_wp2_with (first | (refine wpList_load_row (by rfl) 34 _ (by rfl) (w.heap.size + 1) (by rfl) 34 B (0, 0) _ hB Tryd.underlying34 rfl hz2 ?_) | (refine wpList_store_whole (by rfl) 34 _ _ (by rfl) (w.heap.size + 1 + 1) B ZA 34 (by rfl) (by rfl) hR (by rw [hzs, hs2]) hz2 ho2 ?_; intro W5 r5 f5))
    exact bodyPost_ret (HRES.out _ _ _ hs2 r5 rfl) rfl ⟨rfl, Fr.trans sx f5 (fun i hi e => by omega)⟩
  · rw [if_neg h, if_neg h]
    have hi : ¬ ((z.v : Int)) < (o.v : Int) := by omega
    clear h
    generalize z.v = zv at *
    generalize o.v = ov at *
    generalize zeroRec.arr = ZA at *
    generalize z.arr = A at *
    generalize o.arr = B at *
    go_enter Tryd.func28, Tryd.ntmps28
    go_wp2_with (first | (refine wpList_load_row (by rfl) 34 _ (by rfl) w.heap.size (by rfl) 34 A (0, 0) _ hA Tryd.underlying34 rfl hz1 ?_) | (refine wpList_store_whole (by rfl) 34 _ _ (by rfl) (w.heap.size + 1 + 1) A ZA 34 (by rfl) (by rfl) hR (by rw [hzs, hs1]) hz1 ho1 ?_; intro W5 r5 f5))
    exact bodyPost_ret (HRES.out _ _ _ hs1 r5 rfl) rfl ⟨rfl, Fr.trans sx f5 (fun i hi e => by omega)⟩
end Go.Proofs.YtaknpcimdpdekaaDoor
