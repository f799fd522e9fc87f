/- plain, awake. -/
import Derived.Test.YtaknpcimdpdekaaDoorMB
import Derived.Test.YtaknpcimdpdekaaDoorMD
namespace Go.Proofs.YtaknpcimdpdekaaDoor
open Go.RowKit

theorem results_cell2 {P : Program} {fn : Func} {p q : Tmp} {ty uy : TypeId} (h : fn.results = #[.cell p ty, .cell q uy]) (tmps : Array Value) (w : World) (g k : Nat) (t u : TypeId) (cs ds : Array Value) (fr fs : Nat × Nat) (d e : TypeDesc)
    (hp : tmps.getD p undef = .pointer (some ⟨g, 0, none⟩)) (hg : w.heap[g]? = some (.cells cs t fr))
    (hu : P.underlying ty = some d) (hd : (match d with | .struct _ | .array _ _ => true | _ => false) = true) (hi : (P.info? ty).map (·.size) = some cs.size)
    (hq : tmps.getD q undef = .pointer (some ⟨k, 0, none⟩)) (hk : w.heap[k]? = some (.cells ds u fs))
    (hv : P.underlying uy = some e) (he : (match e with | .struct _ | .array _ _ => true | _ => false) = true) (hj : (P.info? uy).map (·.size) = some ds.size) :
    (results fn tmps).run P w = .ok (.tuple #[.agg cs, .agg ds]) w := by
  have hp' : tmps[p]?.getD undef = .pointer (some ⟨g, 0, none⟩) := by simpa using hp
  have hq' : tmps[q]?.getD undef = .pointer (some ⟨k, 0, none⟩) := by simpa using hq
  simp [results, h, hp', hq', asAddr, run_loadVar_row w g t ty cs fr d hg hu hd hi, run_loadVar_row w k u uy ds fs e hk hv he hj]

def plD : List UInt8 := [1, 2, 3, 4, 0, 0, 0, 0, 0, 0, 0, 0, 0, 0, 0, 0, 0, 0, 0, 0, 0, 0, 0, 0, 0, 0, 0, 0, 0, 0, 0, 0]
def plR : Rec := ⟨1, 2, plD, 5, 1, 0, 3⟩
theorem plR_ok : RecOk plR := ⟨by decide, by decide, by decide, by decide, by decide, by decide, by decide⟩
theorem plR_may : mayM 1024 4 plR = true := by decide

def plX : Rec := ⟨1, 0, zeroD32, 0, 0, 0, 3⟩
theorem plX_lit : (zeroRec.arr.setIfInBounds 0 (.int .u64 1)).setIfInBounds 37 (.int .u32 3) = plX.arr := rfl
theorem plD_lit : (#[Value.int .u8 1, Value.int .u8 2, Value.int .u8 3, Value.int .u8 4, Value.int .u8 0, Value.int .u8 0, Value.int .u8 0, Value.int .u8 0, Value.int .u8 0, Value.int .u8 0, Value.int .u8 0, Value.int .u8 0, Value.int .u8 0, Value.int .u8 0, Value.int .u8 0, Value.int .u8 0, Value.int .u8 0, Value.int .u8 0, Value.int .u8 0, Value.int .u8 0, Value.int .u8 0, Value.int .u8 0, Value.int .u8 0, Value.int .u8 0, Value.int .u8 0, Value.int .u8 0, Value.int .u8 0, Value.int .u8 0, Value.int .u8 0, Value.int .u8 0, Value.int .u8 0, Value.int .u8 0] : Array Value) = (bcells plD).toArray := rfl
def plF : Rec := ⟨0, 2, plD, 5, 0, 0, 0⟩
theorem plF_laid : List.foldl (fun (cs : Array Value) (x : Value × Nat) => cs.setIfInBounds (1 + x.snd) x.fst) #[Value.int .u32 2, Value.int .u8 0, Value.int .u8 0, Value.int .u8 0, Value.int .u8 0, Value.int .u8 0, Value.int .u8 0, Value.int .u8 0, Value.int .u8 0, Value.int .u8 0, Value.int .u8 0, Value.int .u8 0, Value.int .u8 0, Value.int .u8 0, Value.int .u8 0, Value.int .u8 0, Value.int .u8 0, Value.int .u8 0, Value.int .u8 0, Value.int .u8 0, Value.int .u8 0, Value.int .u8 0, Value.int .u8 0, Value.int .u8 0, Value.int .u8 0, Value.int .u8 0, Value.int .u8 0, Value.int .u8 0, Value.int .u8 0, Value.int .u8 0, Value.int .u8 0, Value.int .u8 0, Value.int .u8 0, Value.int .u64 5, Value.int .u64 0] (bcells plD).zipIdx = plF.root.toArray := by
  have h := fold_put 1 (bcells plD) 0 [Value.int .u32 2] (bcells (List.replicate 32 0)) [Value.int .u64 5, Value.int .u64 0] rfl rfl
  exact h
theorem plRt_lit : plF.root.toArray.setIfInBounds 34 (.int .u64 1) = plR.root.toArray := rfl
theorem root_store {W : World} {b : Nat} (h : MAt W b plX) : MAt (W.setCells b 1 plR.root) b plR :=
  setCells_list b 34 plR.root W [.int .u64 1] plX.root [.int .u32 0, .int .u32 3] rfl h
/-- What 'plain' holds: the two results' rows and its own record's. -/
def PLt (w : World) (ZA PA : Array Value) (W : World) : Prop := W.heap[w.heap.size]? = some (.cells #[.int .i64 0, .int .i64 0] 23 (0, 0)) ∧ W.heap[w.heap.size + 1]? = some (.cells ZA 34 (0, 0)) ∧ W.heap[w.heap.size + 1 + 1]? = some (.cells PA 34 (0, 0)) ∧ Same w W
theorem PLt.drew {w W : World} {ZA PA : Array Value} (h : PLt w ZA PA W) : PLt w ZA PA W.drew := ⟨h.1, h.2.1, h.2.2.1, Fr.drew h.2.2.2⟩

set_option maxRecDepth 100000 in
set_option maxHeartbeats 1000000 in
theorem plain_core {ZA XA FA RA : Array Value} {DL : List Value} (w : World) (hzl : (#[.int .u64 0, .int .u32 0, .int .u8 0, .int .u8 0, .int .u8 0, .int .u8 0, .int .u8 0, .int .u8 0, .int .u8 0, .int .u8 0, .int .u8 0, .int .u8 0, .int .u8 0, .int .u8 0, .int .u8 0, .int .u8 0, .int .u8 0, .int .u8 0, .int .u8 0, .int .u8 0, .int .u8 0, .int .u8 0, .int .u8 0, .int .u8 0, .int .u8 0, .int .u8 0, .int .u8 0, .int .u8 0, .int .u8 0, .int .u8 0, .int .u8 0, .int .u8 0, .int .u8 0, .int .u8 0, .int .u64 0, .int .u64 0, .int .u32 0, .int .u32 0] : Array Value) = ZA) (hX : (ZA.setIfInBounds 0 (.int .u64 1)).setIfInBounds 37 (.int .u32 3) = XA) (hD : (#[Value.int .u8 1, Value.int .u8 2, Value.int .u8 3, Value.int .u8 4, Value.int .u8 0, Value.int .u8 0, Value.int .u8 0, Value.int .u8 0, Value.int .u8 0, Value.int .u8 0, Value.int .u8 0, Value.int .u8 0, Value.int .u8 0, Value.int .u8 0, Value.int .u8 0, Value.int .u8 0, Value.int .u8 0, Value.int .u8 0, Value.int .u8 0, Value.int .u8 0, Value.int .u8 0, Value.int .u8 0, Value.int .u8 0, Value.int .u8 0, Value.int .u8 0, Value.int .u8 0, Value.int .u8 0, Value.int .u8 0, Value.int .u8 0, Value.int .u8 0, Value.int .u8 0, Value.int .u8 0] : Array Value) = DL.toArray)
    (hF : List.foldl (fun (cs : Array Value) (x : Value × Nat) => cs.setIfInBounds (1 + x.snd) x.fst) #[Value.int .u32 2, Value.int .u8 0, Value.int .u8 0, Value.int .u8 0, Value.int .u8 0, Value.int .u8 0, Value.int .u8 0, Value.int .u8 0, Value.int .u8 0, Value.int .u8 0, Value.int .u8 0, Value.int .u8 0, Value.int .u8 0, Value.int .u8 0, Value.int .u8 0, Value.int .u8 0, Value.int .u8 0, Value.int .u8 0, Value.int .u8 0, Value.int .u8 0, Value.int .u8 0, Value.int .u8 0, Value.int .u8 0, Value.int .u8 0, Value.int .u8 0, Value.int .u8 0, Value.int .u8 0, Value.int .u8 0, Value.int .u8 0, Value.int .u8 0, Value.int .u8 0, Value.int .u8 0, Value.int .u8 0, Value.int .u64 5, Value.int .u64 0] DL.zipIdx = FA) (hRt : FA.setIfInBounds 34 (.int .u64 1) = RA) (hFs : FA.size = 35) (hzn : ¬ ZA = #[]) (hzs : ZA.size = 38) (hXs : XA.size = 38) (hDs : DL.length = 32) (hRs : RA.size = 35) {PA : Array Value} (hPs : PA.size = 38) (hXo : XA.all (·.oneCell') = true) (hRo : RA.all (·.oneCell') = true) (hPo : PA.all (·.oneCell') = true)
    (hst : Hid (∀ (W : World) (b : Nat), W.heap[b]? = some (.cells XA 34 (0, 0)) → (W.setCells b 1 RA.toList).heap[b]? = some (.cells PA 34 (0, 0)))) :
    Calls Tryd.prog 15 #[] w fun e w' => e = .returned (.tuple #[frameV 1024 4, .agg PA]) ∧ Same w w' := by
  have hzl := hzl
  have hX := hX
  have hD := hD
  have hF := hF
  have hFs := hFs
  have hzn := hzn
  have hRt := hRt
  have hDs := hDs
  have hzs := hzs
  have hRs := hRs
  have hXz : (Tryd.prog.info? 34).map (·.size) = some XA.size := by rw [Tryd.infoM, hXs]
  have hPz : (Tryd.prog.info? 34).map (·.size) = some PA.size := by rw [Tryd.infoM, hPs]
  have hRz : (Tryd.prog.info? 32).map (·.size) = some RA.size := by rw [Tryd.infoR, hRs]
  have r3 : (((w.alloc (.cells #[.int .i64 0, .int .i64 0] 23)).alloc (.cells ZA 34)).alloc (.cells ZA 34)).heap[w.heap.size + 1 + 1]? = some (.cells ZA 34 (0, 0)) := by
    have := heap_alloc2_new (w.alloc (.cells #[.int .i64 0, .int .i64 0] 23)) (.cells ZA 34) (.cells ZA 34)
    rw [show (w.alloc (.cells #[.int .i64 0, .int .i64 0] 23)).heap.size = w.heap.size + 1 from by simp] at this
    exact this
  have r1 : (((w.alloc (.cells #[.int .i64 0, .int .i64 0] 23)).alloc (.cells ZA 34)).alloc (.cells ZA 34)).heap[w.heap.size]? = some (.cells #[.int .i64 0, .int .i64 0] 23 (0, 0)) := by rw [Below.heap_alloc _ _ _ (by simp; omega)]; exact heap_alloc2_old w _ _
  have r2 : (((w.alloc (.cells #[.int .i64 0, .int .i64 0] 23)).alloc (.cells ZA 34)).alloc (.cells ZA 34)).heap[w.heap.size + 1]? = some (.cells ZA 34 (0, 0)) := by rw [Below.heap_alloc _ _ _ (by simp)]; exact heap_alloc2_new w _ _
  have sx : Same w (((w.alloc (.cells #[.int .i64 0, .int .i64 0] 23)).alloc (.cells ZA 34)).alloc (.cells ZA 34)) := (((Fr.refl _ w).alloc _).alloc _).alloc _
  go_enter Tryd.func15, Tryd.ntmps15
  go_wp2_with (first | (refine wpList_store_whole (by rfl) 34 _ _ (by rfl) (w.heap.size + 1 + 1) XA ZA 34 (by rfl) (by rfl) r3 (by rw [hzs, hXs]) hXz hXo ?_; intro W4 r4 f4; have q1 := (f4.block _ (lt_of_heap r1) (by omega)).trans r1; have q2 := (f4.block _ (lt_of_heap r2) (by omega)).trans r2; have s4 : Same w W4 := Fr.trans sx f4 (fun i hi e => by omega); have hth : W4.there (w.heap.size + 1 + 1) 1 RA.size := (by intro j hj; exact ⟨by (rw [cell_of_row _ _ _ _ _ _ r4, Array.getElem?_eq_getElem (by omega)]; rfl), frozen_of_row W4 (w.heap.size + 1 + 1) (1 + j) _ _ r4⟩); have f5 : Fr (fun k => k = w.heap.size + 1 + 1) W4 (W4.setCells (w.heap.size + 1 + 1) 1 RA.toList) := Fr.setCells (S := fun k => k = w.heap.size + 1 + 1) (fun _ => rfl) _ 1 W4 (Fr.refl _ W4); have P5 : PLt w ZA PA (W4.setCells (w.heap.size + 1 + 1) 1 RA.toList) := ⟨(f5.block _ (lt_of_heap q1) (by omega)).trans q1, (f5.block _ (lt_of_heap q2) (by omega)).trans q2, hst.out W4 _ r4, Fr.trans s4 f5 (fun i hi e => by omega)⟩) | (refine wpList_store_so (PLt w ZA PA) (by rfl) 32 _ _ (by rfl) (w.heap.size + 1 + 1) 1 RA (by rfl) (by rfl) hth hRz hRo P5 ?_; intro W6 P6))
  refine wp_region_held_drew (S := fun W => W.heap[w.heap.size + 1 + 1]? = some (.cells PA 34 (0, 0))) (by kernel_rfl) (P6.2.2.1) (fun hHeld => ?_)
  refine wpAnyH_take (i := 0) (oi := { dst := some 7, op := Op.build 23 #[(0, Operand.const (Value.int IntKind.i64 1024)), (1, Operand.const (Value.int IntKind.i64 4))], type := 23, pos := "law.go:14", after := #[], guard := none }) (v := .agg #[.int .i64 1024, .int .i64 4]) rfl (by kernel_rfl) (by kernel_rfl) (by kernel_rfl) (fun _ _ _ h => h) (Or.inl ⟨by rfl, fun w hSw => by go_simp⟩) (by assumption) ?_
  try simp only [Act.put, List.setIfInBounds_toArray, List.set_cons_zero, List.set_cons_succ]
  refine wpAnyH_take (i := 1) (oi := { dst := some 8, op := Op.load 34 (Operand.tmp 2), type := 34, pos := "law.go:14", after := #[{ on := 2, ground := Ground.gcOnly Departure.lateStores }], guard := none }) (v := .agg PA) rfl (by kernel_rfl) (by kernel_rfl) (by kernel_rfl) (fun _ _ _ h => h) (yieldsIf_load_row (by rfl) 34 _ rfl (w.heap.size + 1 + 1) rfl 34 PA (0, 0) _ (fun _ h => h) Tryd.underlying34 rfl hPz) (by assumption) ?_
  try simp only [Act.put, List.setIfInBounds_toArray, List.set_cons_zero, List.set_cons_succ]
  have c0 := cell_of_two P6.1
  obtain ⟨fc0, fc1, ff0, ff1⟩ := c0
  refine wpAnyH_ready (rs := [2]) (by kernel_rfl) (by simp) ?_
  refine AllReadyH.cons (o := { dst := none, op := Op.store 23 (Operand.tmp 0) (Operand.tmp 7), type := 0, pos := "law.go:14", after := #[{ on := 0, ground := Ground.data }, { on := 0, ground := Ground.phase }, { on := 1, ground := Ground.textOnly Departure.lateStores }], guard := none }) rfl (fun K hK => ?_) AllReadyH.nil
  go_simp
  have f7 : Fr (fun k => k = w.heap.size) W6 ((W6.setCell ⟨w.heap.size, 0, none⟩ (.int .i64 1024)).setCell ⟨w.heap.size, 1, none⟩ (.int .i64 4)).drew := Fr.drew (((Fr.refl (fun k => k = w.heap.size) W6).setCell (p := ⟨w.heap.size, 0, none⟩) (fun _ => rfl) _).setCell (p := ⟨w.heap.size, 1, none⟩) (fun _ => rfl) _)
  have g0 : ((W6.setCell ⟨w.heap.size, 0, none⟩ (.int .i64 1024)).setCell ⟨w.heap.size, 1, none⟩ (.int .i64 4)).drew.heap[w.heap.size]? = some (.cells #[.int .i64 1024, .int .i64 4] 23 (0, 0)) := by have := heap_setCell_same _ w.heap.size 1 _ _ (.int .i64 4) (heap_setCell_same W6 w.heap.size 0 _ _ (.int .i64 1024) P6.1); simp only [List.setIfInBounds_toArray, List.set_cons_zero, List.set_cons_succ] at this; exact this
  have g1 := (f7.block (w.heap.size + 1) (lt_of_heap P6.2.1) (by omega)).trans P6.2.1
  have g2 := (f7.block (w.heap.size + 1 + 1) (lt_of_heap P6.2.2.1) (by omega)).trans P6.2.2.1
  have s7 := Fr.trans P6.2.2.2 f7 (fun i hi e => by omega)
  generalize ((W6.setCell ⟨w.heap.size, 0, none⟩ (.int .i64 1024)).setCell ⟨w.heap.size, 1, none⟩ (.int .i64 4)).drew = W7 at *
  refine hK.out _ _ g2 (fun hHeld => ?_)
  clear hK K
  try simp only [Act.put, List.setIfInBounds_toArray, List.set_cons_zero, List.set_cons_succ]
  refine wpAnyH_ready (rs := [3]) (by kernel_rfl) (by simp) ?_
  refine AllReadyH.cons (o := { dst := none, op := Op.store 34 (Operand.tmp 1) (Operand.tmp 8), type := 0, pos := "law.go:14", after := #[{ on := 1, ground := Ground.data }, { on := 2, ground := Ground.chain }, { on := 0, ground := Ground.phase }, { on := 1, ground := Ground.phase }, { on := 2, ground := Ground.phase }], guard := none }) rfl (fun K hK => ?_) AllReadyH.nil
  rw [if_pos (by rfl)]
  refine wp_store_mid 34 _ _ rfl (w.heap.size + 1) 0 PA rfl rfl (there_row g1 (by rw [hzs, hPs])) hPz hPo ?_
  have f8 : Fr (fun k => k = w.heap.size + 1) W7 (W7.setCells (w.heap.size + 1) 0 PA.toList) := Fr.setCells (S := fun k => k = w.heap.size + 1) (fun _ => rfl) _ 0 W7 (Fr.refl _ W7)
  have e1 := row_put (M := PA) g1 (by rw [hzs, hPs])
  have e0 := (f8.block w.heap.size (lt_of_heap g0) (by omega)).trans g0
  have e2 := (f8.block (w.heap.size + 1 + 1) (lt_of_heap g2) (by omega)).trans g2
  have s8 := Fr.trans s7 f8 (fun i hi e => by omega)
  generalize W7.setCells (w.heap.size + 1) 0 PA.toList = W8 at *
  refine hK.out _ _ e2 (fun hHeld => ?_)
  clear hK K
  try simp only [Act.put]
  refine wpAnyH_done (by kernel_rfl) ?_ _
  go_wp2_with fail
  exact bodyPost_ret (results_cell2 (p := 0) (q := 1) (ty := 23) (uy := 34) (by kernel_rfl) _ _ w.heap.size (w.heap.size + 1) 23 34 _ _ (0, 0) (0, 0) _ _ rfl e0 Tryd.underlying23 rfl (by kernel_rfl) rfl e1 Tryd.underlying34 rfl hPz) rfl ⟨rfl, s8⟩
theorem plain_calls (w : World) : Calls Tryd.prog 15 #[] w fun e w' => e = .returned (.tuple #[frameV 1024 4, metaV plR]) ∧ Same w w' :=
  plain_core w zeroRec_lit plX_lit plD_lit plF_laid plRt_lit rfl (by intro h; have := congrArg Array.size h; revert this; decide) rfl rfl rfl rfl rfl (arr_one plX) (all_oneCell_toArray (root_one plR)) (arr_one plR) (fun W b h => root_store h)

end Go.Proofs.YtaknpcimdpdekaaDoor
