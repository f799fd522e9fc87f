/- Pick. -/
import Derived.Test.YtaknpcimdpdekaaDoorM9
namespace Go.Proofs.YtaknpcimdpdekaaDoor
open Go.RowKit

theorem yieldsIf_load_row {P : Program} {ops : Array Oper} {S : World → Prop} {op : Oper} {a : Act} (hw : Region.wanted op (yielded ops a.tmps) = true) (ty : TypeId) (x : Operand) (ho : op.op = .load ty x)
    (g : Nat) (hx : a.eval x = .pointer (some ⟨g, 0, none⟩)) (t : TypeId) (cs : Array Value) (fr : Nat × Nat) (d : TypeDesc) (hS : ∀ w, S w → w.heap[g]? = some (.cells cs t fr))
    (hu : P.underlying ty = some d) (hd : (match d with | .struct _ | .array _ _ => true | _ => false) = true) (hi : (P.info? ty).map (·.size) = some cs.size) : YieldsIf P ops S op (.agg cs) a :=
  .inl ⟨hw, fun w hw' => by
    unfold execOp
    simp only [ho, hx, Instr.loadAt, Instr.sureAddr, Sem.run_bind, Sem.run_pure, Result.andThen_ok, run_loadVar_row w g t ty cs fr d (hS w hw') hu hd hi]⟩
/-- Two rows, and what w had. -/
def PAB (w : World) (b c : Nat) (A B : Array Value) (W : World) : Prop := W.heap[b]? = some (.cells A 34 (0, 0)) ∧ W.heap[c]? = some (.cells B 34 (0, 0)) ∧ Same w W
theorem PAB.same {w W W' : World} {b c : Nat} {A B : Array Value} (h : PAB w b c A B W) (s : Same W W') : PAB w b c A B W' := ⟨(s.block _ (lt_of_heap h.1) (fun f => f)).trans h.1, (s.block _ (lt_of_heap h.2.1) (fun f => f)).trans h.2.1, h.2.2.trans s⟩
theorem PAB.put {w W : World} {b c : Nat} {A B : Array Value} (h : PAB w b c A B W) (hb : ¬ b = w.heap.size + 1) (hc : ¬ c = w.heap.size + 1) (vs : List Value) : PAB w b c A B (W.setCells (w.heap.size + 1) 0 vs) := by
  have f : Fr (fun k => k = w.heap.size + 1) W (W.setCells (w.heap.size + 1) 0 vs) := Fr.setCells (S := fun k => k = w.heap.size + 1) (fun _ => rfl) _ 0 W (Fr.refl _ W)
  exact ⟨(f.block _ (lt_of_heap h.1) hb).trans h.1, (f.block _ (lt_of_heap h.2.1) hc).trans h.2.1, Fr.trans h.2.2 f (fun i hi e => by omega)⟩
theorem row_put {W : World} {b : Nat} {old M : Array Value} {t : TypeId} (h : W.heap[b]? = some (.cells old t (0, 0))) (hs : old.size = M.size) : (W.setCells b 0 M.toList).heap[b]? = some (.cells M t (0, 0)) := by
  have := setCells_whole M.toList old h (by rw [hs, Array.length_toList]) (by rw [Array.length_toList]; exact there_row h hs.symm)
  rw [Array.toArray_toList] at this
  exact this

set_option maxRecDepth 100000 in
set_option maxHeartbeats 2000000 in
theorem pick_bad {p q pages : Int} {z o : ByteArray} (w : World) {ZA : Array Value} (hzl : (#[.int .u64 0, .int .u32 0, .int .u8 0, .int .u8 0, .int .u8 0, .int .u8 0, .int .u8 0, .int .u8 0, .int .u8 0, .int .u8 0, .int .u8 0, .int .u8 0, .int .u8 0, .int .u8 0, .int .u8 0, .int .u8 0, .int .u8 0, .int .u8 0, .int .u8 0, .int .u8 0, .int .u8 0, .int .u8 0, .int .u8 0, .int .u8 0, .int .u8 0, .int .u8 0, .int .u8 0, .int .u8 0, .int .u8 0, .int .u8 0, .int .u8 0, .int .u8 0, .int .u8 0, .int .u8 0, .int .u64 0, .int .u64 0, .int .u32 0, .int .u32 0] : Array Value) = ZA) (hzs : ZA.size = 38) (hone : ZA.all (·.oneCell') = true) (hzv : ∀ W : World, (zeroValue 34).run Tryd.prog W = .ok (.agg ZA) W)
    (HF : Hid (∀ W, Calls Tryd.prog 17 #[frameV p q] W fun e w' => e = .returned (.bool false) ∧ Same W w')) :
    Calls Tryd.prog 14 #[frameV p q, .string z, .string o, .int .i64 pages] w fun e w' => e = .returned (.tuple #[.agg ZA, .int .u32 0, .int .i64 2]) ∧ Same w w' := by
  have hzl := hzl
  have hone := hone
  have hzv := hzv
  have sx : Same w ((w.alloc (.cells #[.int .i64 p, .int .i64 q] 23)).alloc (.cells ZA 34)) := ((Fr.refl _ w).alloc _).alloc _
  have c0 : ((w.alloc (.cells #[.int .i64 p, .int .i64 q] 23)).alloc (.cells ZA 34)).cell? ⟨w.heap.size, 0, none⟩ = some (.int .i64 p) := by simp
  have c1 : ((w.alloc (.cells #[.int .i64 p, .int .i64 q] 23)).alloc (.cells ZA 34)).cell? ⟨w.heap.size, 1, none⟩ = some (.int .i64 q) := by simp
  have hA : ((w.alloc (.cells #[.int .i64 p, .int .i64 q] 23)).alloc (.cells ZA 34)).heap[w.heap.size + 1]? = some (.cells ZA 34 (0, 0)) := heap_alloc2_new w _ _
  have hsz : (Tryd.prog.info? 34).map (·.size) = some ZA.size := by rw [Tryd.infoM, hzs]
  have HRES : Hid (∀ (tmps : Array Value) (W : World) (A : Array Value), A.size = 38 → W.heap[w.heap.size + 1]? = some (.cells A 34 (0, 0)) → tmps.getD 8 undef = .pointer (some ⟨w.heap.size + 1, 0, none⟩) → (results Tryd.f14 tmps).run Tryd.prog W = .ok (.tuple #[.agg A, tmps.getD 9 undef, tmps.getD 10 undef]) W) := fun tmps W A hs h hp => results_cell_tmp2 (p := 8) (u := 9) (v := 10) (ty := 34) (by kernel_rfl) tmps W (w.heap.size + 1) 34 _ (0, 0) _ hp h Tryd.underlying34 rfl (by rw [Tryd.infoM, hs])
  go_enter Tryd.func14, Tryd.ntmps14
  go_wp2_with fail
  refine (HF.out _).mono ?_
  rintro e W1 ⟨rfl, s1⟩
  have t1 := sx.trans s1
  have hA1 := (s1.block _ (lt_of_heap hA) (fun f => f)).trans hA
  clear s1 sx hA
  go_wp2_with (first | (refine wpList_store_whole (by rfl) 34 _ _ (by rfl) (w.heap.size + 1) ZA ZA 34 (by rfl) (by rfl) hA1 rfl hsz hone ?_; intro W5 r5 f5))
  exact bodyPost_ret (HRES.out _ _ _ hzs r5 rfl) rfl ⟨rfl, Fr.trans t1 f5 (fun i hi e => by omega)⟩

set_option maxRecDepth 100000 in
set_option maxHeartbeats 2000000 in
theorem pick_few {p q pages : Int} {z o : ByteArray} {EA : Array Value} (w : World) {ZA : Array Value} (hzl : (#[.int .u64 0, .int .u32 0, .int .u8 0, .int .u8 0, .int .u8 0, .int .u8 0, .int .u8 0, .int .u8 0, .int .u8 0, .int .u8 0, .int .u8 0, .int .u8 0, .int .u8 0, .int .u8 0, .int .u8 0, .int .u8 0, .int .u8 0, .int .u8 0, .int .u8 0, .int .u8 0, .int .u8 0, .int .u8 0, .int .u8 0, .int .u8 0, .int .u8 0, .int .u8 0, .int .u8 0, .int .u8 0, .int .u8 0, .int .u8 0, .int .u8 0, .int .u8 0, .int .u8 0, .int .u8 0, .int .u64 0, .int .u64 0, .int .u32 0, .int .u32 0] : Array Value) = ZA) (hzs : ZA.size = 38) (hone : ZA.all (·.oneCell') = true) (hzv : ∀ W : World, (zeroValue 34).run Tryd.prog W = .ok (.agg ZA) W) (hes : EA.size = 38) (heo : EA.all (·.oneCell') = true)
    (HF : Hid (∀ W, Calls Tryd.prog 17 #[frameV p q] W fun e w' => e = .returned (.bool true) ∧ Same W w')) (hpg : pages < 2)
    (HE : Hid (∀ W, Calls Tryd.prog 27 #[] W fun e w' => e = .returned (.agg EA) ∧ Same W w')) :
    Calls Tryd.prog 14 #[frameV p q, .string z, .string o, .int .i64 pages] w fun e w' => e = .returned (.tuple #[.agg EA, .int .u32 0, .int .i64 0]) ∧ Same w w' := by
  have hzl := hzl
  have hone := hone
  have hzv := hzv
  have sx : Same w ((w.alloc (.cells #[.int .i64 p, .int .i64 q] 23)).alloc (.cells ZA 34)) := ((Fr.refl _ w).alloc _).alloc _
  have c0 : ((w.alloc (.cells #[.int .i64 p, .int .i64 q] 23)).alloc (.cells ZA 34)).cell? ⟨w.heap.size, 0, none⟩ = some (.int .i64 p) := by simp
  have c1 : ((w.alloc (.cells #[.int .i64 p, .int .i64 q] 23)).alloc (.cells ZA 34)).cell? ⟨w.heap.size, 1, none⟩ = some (.int .i64 q) := by simp
  have hA : ((w.alloc (.cells #[.int .i64 p, .int .i64 q] 23)).alloc (.cells ZA 34)).heap[w.heap.size + 1]? = some (.cells ZA 34 (0, 0)) := heap_alloc2_new w _ _
  have hsz : (Tryd.prog.info? 34).map (·.size) = some ZA.size := by rw [Tryd.infoM, hzs]
  have HRES : Hid (∀ (tmps : Array Value) (W : World) (A : Array Value), A.size = 38 → W.heap[w.heap.size + 1]? = some (.cells A 34 (0, 0)) → tmps.getD 8 undef = .pointer (some ⟨w.heap.size + 1, 0, none⟩) → (results Tryd.f14 tmps).run Tryd.prog W = .ok (.tuple #[.agg A, tmps.getD 9 undef, tmps.getD 10 undef]) W) := fun tmps W A hs h hp => results_cell_tmp2 (p := 8) (u := 9) (v := 10) (ty := 34) (by kernel_rfl) tmps W (w.heap.size + 1) 34 _ (0, 0) _ hp h Tryd.underlying34 rfl (by rw [Tryd.infoM, hs])
  have hez : (Tryd.prog.info? 34).map (·.size) = some EA.size := by rw [Tryd.infoM, hes]
  go_enter Tryd.func14, Tryd.ntmps14
  go_wp2_with fail
  refine (HF.out _).mono ?_
  rintro e W1 ⟨rfl, s1⟩
  have t1 := sx.trans s1
  have hA1 := (s1.block _ (lt_of_heap hA) (fun f => f)).trans hA
  clear s1 sx hA
  go_wp2_with fail
  refine (HE.out _).mono ?_
  rintro e W2 ⟨rfl, s2⟩
  have t2 := t1.trans s2
  have hA2 := (s2.block _ (lt_of_heap hA1) (fun f => f)).trans hA1
  clear s2 t1 hA1
  go_wp2_with (first | (refine wpList_store_whole (by rfl) 34 _ _ (by rfl) (w.heap.size + 1) EA ZA 34 (by rfl) (by rfl) hA2 (by rw [hzs, hes]) hez heo ?_; intro W5 r5 f5))
  exact bodyPost_ret (HRES.out _ _ _ hes r5 rfl) rfl ⟨rfl, Fr.trans t2 f5 (fun i hi e => by omega)⟩

set_option maxRecDepth 100000 in
set_option maxHeartbeats 2000000 in
theorem pick_zero {p q pages : Int} {z o : ByteArray} (w : World) {ZA : Array Value} (hzl : (#[.int .u64 0, .int .u32 0, .int .u8 0, .int .u8 0, .int .u8 0, .int .u8 0, .int .u8 0, .int .u8 0, .int .u8 0, .int .u8 0, .int .u8 0, .int .u8 0, .int .u8 0, .int .u8 0, .int .u8 0, .int .u8 0, .int .u8 0, .int .u8 0, .int .u8 0, .int .u8 0, .int .u8 0, .int .u8 0, .int .u8 0, .int .u8 0, .int .u8 0, .int .u8 0, .int .u8 0, .int .u8 0, .int .u8 0, .int .u8 0, .int .u8 0, .int .u8 0, .int .u8 0, .int .u8 0, .int .u64 0, .int .u64 0, .int .u32 0, .int .u32 0] : Array Value) = ZA) (hzs : ZA.size = 38) (hone : ZA.all (·.oneCell') = true) (hzv : ∀ W : World, (zeroValue 34).run Tryd.prog W = .ok (.agg ZA) W) {Kz : Nat} {E : Int} (hE : (E != 0) = true)
    (HF : Hid (∀ W, Calls Tryd.prog 17 #[frameV p q] W fun e w' => e = .returned (.bool true) ∧ Same W w')) (hpg : ¬ pages < 2)
    (HZ : Hid (∀ W, Same w W → Calls Tryd.prog 8 #[frameV p q, .string z] W fun e w' => e = .returned (.tuple #[.agg ZA, .int .u8 Kz, .int .i64 E]) ∧ Same W w')) :
    Calls Tryd.prog 14 #[frameV p q, .string z, .string o, .int .i64 pages] w fun e w' => e = .returned (.tuple #[.agg ZA, .int .u32 0, .int .i64 E]) ∧ Same w w' := by
  have hE := hE
  have hzl := hzl
  have hone := hone
  have hzv := hzv
  have sx : Same w ((w.alloc (.cells #[.int .i64 p, .int .i64 q] 23)).alloc (.cells ZA 34)) := ((Fr.refl _ w).alloc _).alloc _
  have c0 : ((w.alloc (.cells #[.int .i64 p, .int .i64 q] 23)).alloc (.cells ZA 34)).cell? ⟨w.heap.size, 0, none⟩ = some (.int .i64 p) := by simp
  have c1 : ((w.alloc (.cells #[.int .i64 p, .int .i64 q] 23)).alloc (.cells ZA 34)).cell? ⟨w.heap.size, 1, none⟩ = some (.int .i64 q) := by simp
  have hA : ((w.alloc (.cells #[.int .i64 p, .int .i64 q] 23)).alloc (.cells ZA 34)).heap[w.heap.size + 1]? = some (.cells ZA 34 (0, 0)) := heap_alloc2_new w _ _
  have hsz : (Tryd.prog.info? 34).map (·.size) = some ZA.size := by rw [Tryd.infoM, hzs]
  have HRES : Hid (∀ (tmps : Array Value) (W : World) (A : Array Value), A.size = 38 → W.heap[w.heap.size + 1]? = some (.cells A 34 (0, 0)) → tmps.getD 8 undef = .pointer (some ⟨w.heap.size + 1, 0, none⟩) → (results Tryd.f14 tmps).run Tryd.prog W = .ok (.tuple #[.agg A, tmps.getD 9 undef, tmps.getD 10 undef]) W) := fun tmps W A hs h hp => results_cell_tmp2 (p := 8) (u := 9) (v := 10) (ty := 34) (by kernel_rfl) tmps W (w.heap.size + 1) 34 _ (0, 0) _ hp h Tryd.underlying34 rfl (by rw [Tryd.infoM, hs])
  go_enter Tryd.func14, Tryd.ntmps14
  go_wp2_with fail
  refine (HF.out _).mono ?_
  rintro e W1 ⟨rfl, s1⟩
  have c0 := s1.keep c0
  have c1 := s1.keep c1
  have t1 := sx.trans s1
  have hA1 := (s1.block _ (lt_of_heap hA) (fun f => f)).trans hA
  clear s1 sx hA
  go_wp2_with fail
  refine (HZ.out _ t1).mono ?_
  rintro e W2 ⟨rfl, s2⟩
  have c0 := s2.keep c0
  have c1 := s2.keep c1
  have t2 := t1.trans s2
  have hA2 := (s2.block _ (lt_of_heap hA1) (fun f => f)).trans hA1
  clear s2 t1 hA1
  go_wp2_with (first | (refine wpList_store_whole (by rfl) 34 _ _ (by rfl) W2.heap.size ZA _ 34 (by rfl) (by rfl) (heap_alloc_new W2 _) rfl hsz hone ?_; intro W3 r3 f3; have s3 : Same W2 W3 := Fr.trans ((Fr.refl _ W2).alloc _) f3 (fun i hi e => by omega); have c0 := s3.keep c0; have c1 := s3.keep c1; have t3 := t2.trans s3; have hA3 := (s3.block _ (lt_of_heap hA2) (fun f => f)).trans hA2) | (refine wpList_store_whole (by rfl) 34 _ _ (by rfl) (w.heap.size + 1) ZA ZA 34 (by rfl) (by rfl) hA3 rfl hsz hone ?_; intro W5 r5 f5))
  exact bodyPost_ret (HRES.out _ _ _ hzs r5 rfl) rfl ⟨rfl, Fr.trans t3 f5 (fun i hi e => by omega)⟩

set_option maxRecDepth 100000 in
set_option maxHeartbeats 2000000 in
theorem pick_one {p q pages : Int} {z o : ByteArray} (w : World) {ZA : Array Value} (hzl : (#[.int .u64 0, .int .u32 0, .int .u8 0, .int .u8 0, .int .u8 0, .int .u8 0, .int .u8 0, .int .u8 0, .int .u8 0, .int .u8 0, .int .u8 0, .int .u8 0, .int .u8 0, .int .u8 0, .int .u8 0, .int .u8 0, .int .u8 0, .int .u8 0, .int .u8 0, .int .u8 0, .int .u8 0, .int .u8 0, .int .u8 0, .int .u8 0, .int .u8 0, .int .u8 0, .int .u8 0, .int .u8 0, .int .u8 0, .int .u8 0, .int .u8 0, .int .u8 0, .int .u8 0, .int .u8 0, .int .u64 0, .int .u64 0, .int .u32 0, .int .u32 0] : Array Value) = ZA) (hzs : ZA.size = 38) (hone : ZA.all (·.oneCell') = true) (hzv : ∀ W : World, (zeroValue 34).run Tryd.prog W = .ok (.agg ZA) W) {A : Array Value} (hAs : A.size = 38) (hAo : A.all (·.oneCell') = true) {Kz Ko : Nat} {E : Int} (hE : (E != 0) = true)
    (HF : Hid (∀ W, Calls Tryd.prog 17 #[frameV p q] W fun e w' => e = .returned (.bool true) ∧ Same W w')) (hpg : ¬ pages < 2)
    (HZ : Hid (∀ W, Same w W → Calls Tryd.prog 8 #[frameV p q, .string z] W fun e w' => e = .returned (.tuple #[.agg A, .int .u8 Kz, .int .i64 0]) ∧ Same W w'))
    (HO : Hid (∀ W, Same w W → Calls Tryd.prog 8 #[frameV p q, .string o] W fun e w' => e = .returned (.tuple #[.agg ZA, .int .u8 Ko, .int .i64 E]) ∧ Same W w')) :
    Calls Tryd.prog 14 #[frameV p q, .string z, .string o, .int .i64 pages] w fun e w' => e = .returned (.tuple #[.agg ZA, .int .u32 0, .int .i64 E]) ∧ Same w w' := by
  have hE := hE
  have hzl := hzl
  have hone := hone
  have hzv := hzv
  have sx : Same w ((w.alloc (.cells #[.int .i64 p, .int .i64 q] 23)).alloc (.cells ZA 34)) := ((Fr.refl _ w).alloc _).alloc _
  have c0 : ((w.alloc (.cells #[.int .i64 p, .int .i64 q] 23)).alloc (.cells ZA 34)).cell? ⟨w.heap.size, 0, none⟩ = some (.int .i64 p) := by simp
  have c1 : ((w.alloc (.cells #[.int .i64 p, .int .i64 q] 23)).alloc (.cells ZA 34)).cell? ⟨w.heap.size, 1, none⟩ = some (.int .i64 q) := by simp
  have hA : ((w.alloc (.cells #[.int .i64 p, .int .i64 q] 23)).alloc (.cells ZA 34)).heap[w.heap.size + 1]? = some (.cells ZA 34 (0, 0)) := heap_alloc2_new w _ _
  have hsz : (Tryd.prog.info? 34).map (·.size) = some ZA.size := by rw [Tryd.infoM, hzs]
  have HRES : Hid (∀ (tmps : Array Value) (W : World) (A : Array Value), A.size = 38 → W.heap[w.heap.size + 1]? = some (.cells A 34 (0, 0)) → tmps.getD 8 undef = .pointer (some ⟨w.heap.size + 1, 0, none⟩) → (results Tryd.f14 tmps).run Tryd.prog W = .ok (.tuple #[.agg A, tmps.getD 9 undef, tmps.getD 10 undef]) W) := fun tmps W A hs h hp => results_cell_tmp2 (p := 8) (u := 9) (v := 10) (ty := 34) (by kernel_rfl) tmps W (w.heap.size + 1) 34 _ (0, 0) _ hp h Tryd.underlying34 rfl (by rw [Tryd.infoM, hs])
  have hAz : (Tryd.prog.info? 34).map (·.size) = some A.size := by rw [Tryd.infoM, hAs]
  go_enter Tryd.func14, Tryd.ntmps14
  go_wp2_with fail
  refine (HF.out _).mono ?_
  rintro e W1 ⟨rfl, s1⟩
  have c0 := s1.keep c0
  have c1 := s1.keep c1
  have t1 := sx.trans s1
  have hA1 := (s1.block _ (lt_of_heap hA) (fun f => f)).trans hA
  clear s1 sx hA
  go_wp2_with fail
  refine (HZ.out _ t1).mono ?_
  rintro e W2 ⟨rfl, s2⟩
  have c0 := s2.keep c0
  have c1 := s2.keep c1
  have t2 := t1.trans s2
  have hA2 := (s2.block _ (lt_of_heap hA1) (fun f => f)).trans hA1
  clear s2 t1 hA1
  go_wp2_with (first | (refine wpList_store_whole (by rfl) 34 _ _ (by rfl) W2.heap.size A _ 34 (by rfl) (by rfl) (heap_alloc_new W2 _) (by rw [hzs, hAs]) hAz hAo ?_; intro W3 r3 f3; have s3 : Same W2 W3 := Fr.trans ((Fr.refl _ W2).alloc _) f3 (fun i hi e => by omega); have c0 := s3.keep c0; have c1 := s3.keep c1; have t3 := t2.trans s3; have hA3 := (s3.block _ (lt_of_heap hA2) (fun f => f)).trans hA2))
  refine (HO.out _ t3).mono ?_
  rintro e W4 ⟨rfl, s4⟩
  have c0 := s4.keep c0
  have c1 := s4.keep c1
  have t4 := t3.trans s4
  have hA4 := (s4.block _ (lt_of_heap hA3) (fun f => f)).trans hA3
  clear s4
  go_wp2_with (first | (refine wpList_store_whole (by rfl) 34 _ _ (by rfl) W4.heap.size ZA _ 34 (by rfl) (by rfl) (heap_alloc_new W4 _) rfl hsz hone ?_; intro W6 r6 f6; have s6 : Same W4 W6 := Fr.trans ((Fr.refl _ W4).alloc _) f6 (fun i hi e => by omega); have c0 := s6.keep c0; have c1 := s6.keep c1; have t6 := t4.trans s6; have hA6 := (s6.block _ (lt_of_heap hA4) (fun f => f)).trans hA4) | (refine wpList_store_whole (by rfl) 34 _ _ (by rfl) (w.heap.size + 1) ZA ZA 34 (by rfl) (by rfl) hA6 rfl hsz hone ?_; intro W5 r5 f5))
  exact bodyPost_ret (HRES.out _ _ _ hzs r5 rfl) rfl ⟨rfl, Fr.trans t6 f5 (fun i hi e => by omega)⟩

set_option maxRecDepth 100000 in
set_option maxHeartbeats 2000000 in
theorem pick_core {p q pages : Int} {z o : ByteArray} (w : World) {ZA : Array Value} (hzl : (#[.int .u64 0, .int .u32 0, .int .u8 0, .int .u8 0, .int .u8 0, .int .u8 0, .int .u8 0, .int .u8 0, .int .u8 0, .int .u8 0, .int .u8 0, .int .u8 0, .int .u8 0, .int .u8 0, .int .u8 0, .int .u8 0, .int .u8 0, .int .u8 0, .int .u8 0, .int .u8 0, .int .u8 0, .int .u8 0, .int .u8 0, .int .u8 0, .int .u8 0, .int .u8 0, .int .u8 0, .int .u8 0, .int .u8 0, .int .u8 0, .int .u8 0, .int .u8 0, .int .u8 0, .int .u8 0, .int .u64 0, .int .u64 0, .int .u32 0, .int .u32 0] : Array Value) = ZA) (hzs : ZA.size = 38) (hone : ZA.all (·.oneCell') = true) (hzv : ∀ W : World, (zeroValue 34).run Tryd.prog W = .ok (.agg ZA) W) {A : Array Value} (hAs : A.size = 38) (hAo : A.all (·.oneCell') = true) {B : Array Value} (hBs : B.size = 38) (hBo : B.all (·.oneCell') = true) {CA CB MA : Array Value} {N : Nat} (hMs : MA.size = 38) (hMo : MA.all (·.oneCell') = true) {eqb : Bool} (hEq : ∀ W : World, (Op.equalIn 10000 34 (.agg MA) (.agg ZA)).run Tryd.prog W = .ok eqb W) {Kz Ko : Nat}
    (HF : Hid (∀ W, Calls Tryd.prog 17 #[frameV p q] W fun e w' => e = .returned (.bool true) ∧ Same W w')) (hpg : ¬ pages < 2)
    (HZ : Hid (∀ W, Same w W → Calls Tryd.prog 8 #[frameV p q, .string z] W fun e w' => e = .returned (.tuple #[.agg A, .int .u8 Kz, .int .i64 0]) ∧ Same W w'))
    (HO : Hid (∀ W, Same w W → Calls Tryd.prog 8 #[frameV p q, .string o] W fun e w' => e = .returned (.tuple #[.agg B, .int .u8 Ko, .int .i64 0]) ∧ Same W w'))
    (HC1 : Hid (∀ W, Calls Tryd.prog 29 #[.agg A, .int .i64 pages] W fun e w' => e = .returned (.agg CA) ∧ Same W w'))
    (HC2 : Hid (∀ W, Calls Tryd.prog 29 #[.agg B, .int .i64 pages] W fun e w' => e = .returned (.agg CB) ∧ Same W w'))
    (HN : Hid (∀ W, Calls Tryd.prog 28 #[.agg CA, .agg CB] W fun e w' => e = .returned (.tuple #[.agg MA, .int .u32 N]) ∧ Same W w')) (hb : eqb = false) :
    Calls Tryd.prog 14 #[frameV p q, .string z, .string o, .int .i64 pages] w fun e w' => e = .returned (.tuple #[.agg MA, .int .u32 N, .int .i64 0]) ∧ Same w w' := by
  subst hb
  have hEq := hEq
  have hzl := hzl
  have hone := hone
  have hzv := hzv
  have sx : Same w ((w.alloc (.cells #[.int .i64 p, .int .i64 q] 23)).alloc (.cells ZA 34)) := ((Fr.refl _ w).alloc _).alloc _
  have c0 : ((w.alloc (.cells #[.int .i64 p, .int .i64 q] 23)).alloc (.cells ZA 34)).cell? ⟨w.heap.size, 0, none⟩ = some (.int .i64 p) := by simp
  have c1 : ((w.alloc (.cells #[.int .i64 p, .int .i64 q] 23)).alloc (.cells ZA 34)).cell? ⟨w.heap.size, 1, none⟩ = some (.int .i64 q) := by simp
  have hA : ((w.alloc (.cells #[.int .i64 p, .int .i64 q] 23)).alloc (.cells ZA 34)).heap[w.heap.size + 1]? = some (.cells ZA 34 (0, 0)) := heap_alloc2_new w _ _
  have hsz : (Tryd.prog.info? 34).map (·.size) = some ZA.size := by rw [Tryd.infoM, hzs]
  have HRES : Hid (∀ (tmps : Array Value) (W : World) (A : Array Value), A.size = 38 → W.heap[w.heap.size + 1]? = some (.cells A 34 (0, 0)) → tmps.getD 8 undef = .pointer (some ⟨w.heap.size + 1, 0, none⟩) → (results Tryd.f14 tmps).run Tryd.prog W = .ok (.tuple #[.agg A, tmps.getD 9 undef, tmps.getD 10 undef]) W) := fun tmps W A hs h hp => results_cell_tmp2 (p := 8) (u := 9) (v := 10) (ty := 34) (by kernel_rfl) tmps W (w.heap.size + 1) 34 _ (0, 0) _ hp h Tryd.underlying34 rfl (by rw [Tryd.infoM, hs])
  have hAz : (Tryd.prog.info? 34).map (·.size) = some A.size := by rw [Tryd.infoM, hAs]
  have hBz : (Tryd.prog.info? 34).map (·.size) = some B.size := by rw [Tryd.infoM, hBs]
  have hMz : (Tryd.prog.info? 34).map (·.size) = some MA.size := by rw [Tryd.infoM, hMs]
  go_enter Tryd.func14, Tryd.ntmps14
  go_wp2_with fail
  refine (HF.out _).mono ?_
  rintro e W1 ⟨rfl, s1⟩
  have c0 := s1.keep c0
  have c1 := s1.keep c1
  have t1 := sx.trans s1
  have hA1 := (s1.block _ (lt_of_heap hA) (fun f => f)).trans hA
  clear s1 sx hA
  go_wp2_with fail
  refine (HZ.out _ t1).mono ?_
  rintro e W2 ⟨rfl, s2⟩
  have c0 := s2.keep c0
  have c1 := s2.keep c1
  have t2 := t1.trans s2
  have hA2 := (s2.block _ (lt_of_heap hA1) (fun f => f)).trans hA1
  clear s2 t1 hA1
  go_wp2_with (first | (refine wpList_store_whole (by rfl) 34 _ _ (by rfl) W2.heap.size A _ 34 (by rfl) (by rfl) (heap_alloc_new W2 _) (by rw [hzs, hAs]) hAz hAo ?_; intro W3 r3 f3; have s3 : Same W2 W3 := Fr.trans ((Fr.refl _ W2).alloc _) f3 (fun i hi e => by omega); have c0 := s3.keep c0; have c1 := s3.keep c1; have t3 := t2.trans s3; have hA3 := (s3.block _ (lt_of_heap hA2) (fun f => f)).trans hA2))
  refine (HO.out _ t3).mono ?_
  rintro e W4 ⟨rfl, s4⟩
  have c0 := s4.keep c0
  have c1 := s4.keep c1
  have t4 := t3.trans s4
  have hA4 := (s4.block _ (lt_of_heap hA3) (fun f => f)).trans hA3
  have r4 := (s4.block _ (lt_of_heap r3) (fun f => f)).trans r3
  clear s4 f3 s3
  go_wp2_with (first | (refine wpList_store_whole (by rfl) 34 _ _ (by rfl) W4.heap.size B _ 34 (by rfl) (by rfl) (heap_alloc_new W4 _) (by rw [hzs, hBs]) hBz hBo ?_; intro W6 r6 f6; have s6 : Same W4 W6 := Fr.trans ((Fr.refl _ W4).alloc _) f6 (fun i hi e => by omega); have c0 := s6.keep c0; have c1 := s6.keep c1; have t6 := t4.trans s6; have hA6 := (s6.block _ (lt_of_heap hA4) (fun f => f)).trans hA4; have q6 := (s6.block _ (lt_of_heap r4) (fun f => f)).trans r4) | (refine wpList_load_row (by rfl) 34 _ (by rfl) W2.heap.size (by rfl) 34 A (0, 0) _ q6 Tryd.underlying34 rfl hAz ?_))
  have P6 : PAB w W2.heap.size W4.heap.size A B W6 := ⟨q6, r6, t6⟩
  have hne2 : ¬ W2.heap.size = w.heap.size + 1 := by have := lt_of_heap hA2; omega
  have hne4 : ¬ W4.heap.size = w.heap.size + 1 := by have := lt_of_heap hA4; omega
  clear c0 c1 r4 q6 r6 f6 s6
  refine wp_region_held_drew (S := PAB w W2.heap.size W4.heap.size A B) (by kernel_rfl) (P6.same (Fr.drew (Fr.refl _ _))) (fun hHeld => ?_)
  refine wpAnyH_take (i := 0) (oi := { dst := some 45, op := Op.load 34 (Operand.tmp 11), type := 34, pos := "pick.go:24", after := #[], guard := none }) (v := .agg A) rfl (by kernel_rfl) (by kernel_rfl) (by kernel_rfl) (fun _ _ _ h => h) (yieldsIf_load_row (by rfl) 34 _ rfl (W2.heap.size) rfl 34 A (0, 0) _ (fun _ h => h.1) Tryd.underlying34 rfl hAz) (by assumption) ?_
  try simp only [Act.put, List.setIfInBounds_toArray, List.set_cons_zero, List.set_cons_succ]
  refine wpAnyH_take (i := 1) (oi := { dst := some 46, op := Op.move (Operand.tmp 3), type := 3, pos := "pick.go:24", after := #[], guard := none }) (v := .int .i64 pages) rfl (by kernel_rfl) (by kernel_rfl) (by kernel_rfl) (fun _ _ _ h => h) (Or.inl ⟨by rfl, fun w hSw => by go_simp⟩) (by assumption) ?_
  try simp only [Act.put, List.setIfInBounds_toArray, List.set_cons_zero, List.set_cons_succ]
  refine wpAnyH_take (i := 3) (oi := { dst := some 48, op := Op.load 34 (Operand.tmp 13), type := 34, pos := "pick.go:24", after := #[], guard := none }) (v := .agg B) rfl (by kernel_rfl) (by kernel_rfl) (by kernel_rfl) (fun _ _ _ h => h) (yieldsIf_load_row (by rfl) 34 _ rfl (W4.heap.size) rfl 34 B (0, 0) _ (fun _ h => h.2.1) Tryd.underlying34 rfl hBz) (by assumption) ?_
  try simp only [Act.put, List.setIfInBounds_toArray, List.set_cons_zero, List.set_cons_succ]
  refine wpAnyH_take (i := 4) (oi := { dst := some 49, op := Op.move (Operand.tmp 3), type := 3, pos := "pick.go:24", after := #[], guard := none }) (v := .int .i64 pages) rfl (by kernel_rfl) (by kernel_rfl) (by kernel_rfl) (fun _ _ _ h => h) (Or.inl ⟨by rfl, fun w hSw => by go_simp⟩) (by assumption) ?_
  try simp only [Act.put, List.setIfInBounds_toArray, List.set_cons_zero, List.set_cons_succ]
  refine wpAnyH_ready (rs := [2]) (by kernel_rfl) (by simp) ?_
  refine AllReadyH.cons (o := { dst := some 47, op := Op.call { callee := Callee.value (Operand.func 29), args := #[Operand.tmp 45, Operand.tmp 46], argTypes := #[34, 3] }, type := 34, pos := "pick.go:24", after := #[{ on := 0, ground := Ground.data }, { on := 1, ground := Ground.data }], guard := none }) rfl (fun K hK => ?_) AllReadyH.nil
  go_simp
  go_at_call 29
  refine (HC1.out _).mono ?_
  rintro e W7 ⟨rfl, s7⟩
  try go_wp2_with fail
  have P7 := (P6.same (Fr.drew (Fr.refl _ _))).same s7
  refine hK.out _ _ (P7) (fun hHeld => ?_)
  clear hK K
  try simp only [Act.put, List.setIfInBounds_toArray, List.set_cons_zero, List.set_cons_succ]
  refine wpAnyH_ready (rs := [5]) (by kernel_rfl) (by simp) ?_
  refine AllReadyH.cons (o := { dst := some 50, op := Op.call { callee := Callee.value (Operand.func 29), args := #[Operand.tmp 48, Operand.tmp 49], argTypes := #[34, 3] }, type := 34, pos := "pick.go:24", after := #[{ on := 3, ground := Ground.data }, { on := 4, ground := Ground.data }, { on := 2, ground := Ground.chain }], guard := none }) rfl (fun K hK => ?_) AllReadyH.nil
  go_simp
  go_at_call 29
  refine (HC2.out _).mono ?_
  rintro e W8 ⟨rfl, s8⟩
  try go_wp2_with fail
  have P8 := P7.same s8
  refine hK.out _ _ (P8) (fun hHeld => ?_)
  clear hK K
  try simp only [Act.put, List.setIfInBounds_toArray, List.set_cons_zero, List.set_cons_succ]
  refine wpAnyH_ready (rs := [6]) (by kernel_rfl) (by simp) ?_
  refine AllReadyH.cons (o := { dst := some 51, op := Op.call { callee := Callee.value (Operand.func 28), args := #[Operand.tmp 47, Operand.tmp 50], argTypes := #[34, 34] }, type := 68, pos := "pick.go:24", after := #[{ on := 2, ground := Ground.data }, { on := 5, ground := Ground.data }, { on := 5, ground := Ground.chain }], guard := none }) rfl (fun K hK => ?_) AllReadyH.nil
  go_simp
  go_at_call 28
  refine (HN.out _).mono ?_
  rintro e W9 ⟨rfl, s9⟩
  try go_wp2_with fail
  have P9 := P8.same s9
  have s69 : Same W6 W9 := Same.trans (Fr.drew (Fr.refl _ W6)) (s7.trans (s8.trans s9))
  have hA9 := (s69.block _ (lt_of_heap hA6) (fun f => f)).trans hA6
  refine hK.out _ _ (P9) (fun hHeld => ?_)
  clear hK K
  try simp only [Act.put, List.setIfInBounds_toArray, List.set_cons_zero, List.set_cons_succ]
  refine wpAnyH_take (i := 7) (oi := { dst := some 44, op := Op.move (Operand.tmp 51), type := 68, pos := "pick.go:24", after := #[{ on := 6, ground := Ground.data }], guard := none }) (v := .tuple #[.agg MA, .int .u32 N]) rfl (by kernel_rfl) (by kernel_rfl) (by kernel_rfl) (fun _ _ _ h => h) (Or.inl ⟨by rfl, fun w hSw => by go_simp⟩) (by assumption) ?_
  try simp only [Act.put, List.setIfInBounds_toArray, List.set_cons_zero, List.set_cons_succ]
  refine wpAnyH_take (i := 8) (oi := { dst := some 52, op := Op.extract (Operand.tmp 44) 0, type := 34, pos := "pick.go:24", after := #[{ on := 7, ground := Ground.data }], guard := none }) (v := .agg MA) rfl (by kernel_rfl) (by kernel_rfl) (by kernel_rfl) (fun _ _ _ h => h) (Or.inl ⟨by rfl, fun w hSw => by go_simp⟩) (by assumption) ?_
  try simp only [Act.put, List.setIfInBounds_toArray, List.set_cons_zero, List.set_cons_succ]
  refine wpAnyH_take (i := 9) (oi := { dst := some 53, op := Op.extract (Operand.tmp 44) 1, type := 28, pos := "pick.go:24", after := #[{ on := 7, ground := Ground.data }, { on := 10, ground := Ground.gcOnly Departure.lateStores }], guard := none }) (v := .int .u32 N) rfl (by kernel_rfl) (by kernel_rfl) (by kernel_rfl) (fun _ _ _ h => h) (Or.inl ⟨by rfl, fun w hSw => by go_simp⟩) (by assumption) ?_
  try simp only [Act.put, List.setIfInBounds_toArray, List.set_cons_zero, List.set_cons_succ]
  refine wpAnyH_ready (rs := [10]) (by kernel_rfl) (by simp) ?_
  refine AllReadyH.cons (o := { dst := none, op := Op.store 34 (Operand.tmp 8) (Operand.tmp 52), type := 0, pos := "pick.go:24", after := #[{ on := 8, ground := Ground.data }, { on := 6, ground := Ground.chain }, { on := 0, ground := Ground.phase }, { on := 1, ground := Ground.phase }, { on := 2, ground := Ground.phase }, { on := 3, ground := Ground.phase }, { on := 4, ground := Ground.phase }, { on := 5, ground := Ground.phase }, { on := 6, ground := Ground.phase }, { on := 7, ground := Ground.phase }, { on := 8, ground := Ground.phase }, { on := 9, ground := Ground.textOnly Departure.lateStores }], guard := none }) rfl (fun K hK => ?_) AllReadyH.nil
  rw [if_pos (by rfl)]
  refine wp_store_mid 34 _ _ rfl (w.heap.size + 1) 0 MA rfl rfl (there_row hA9 (by rw [hzs, hMs])) hMz hMo ?_
  have P10 := P9.put hne2 hne4 MA.toList
  have hA10 := row_put (M := MA) hA9 (by rw [hzs, hMs])
  refine hK.out _ _ P10 (fun hHeld => ?_)
  clear hK K
  try simp only [Act.put]
  refine wpAnyH_take (i := 11) (oi := { dst := some 9, op := Op.assign (Operand.tmp 53), type := 28, pos := "pick.go:24", after := #[{ on := 9, ground := Ground.data }, { on := 10, ground := Ground.chain }, { on := 0, ground := Ground.phase }, { on := 1, ground := Ground.phase }, { on := 2, ground := Ground.phase }, { on := 3, ground := Ground.phase }, { on := 4, ground := Ground.phase }, { on := 5, ground := Ground.phase }, { on := 6, ground := Ground.phase }, { on := 7, ground := Ground.phase }, { on := 8, ground := Ground.phase }, { on := 9, ground := Ground.phase }, { on := 10, ground := Ground.phase }], guard := none }) (v := .int .u32 N) rfl (by kernel_rfl) (by kernel_rfl) (by kernel_rfl) (fun _ _ _ h => h) (Or.inl ⟨by rfl, fun w hSw => by go_simp⟩) (by assumption) ?_
  try simp only [Act.put, List.setIfInBounds_toArray, List.set_cons_zero, List.set_cons_succ]
  refine wpAnyH_done (by kernel_rfl) ?_ _
  clear s7 s8 s9 s69 P7 P8 P9 P6 hA9 hA6
  generalize W9.setCells (w.heap.size + 1) 0 MA.toList = W10 at *
  go_wp2_with (first | (refine wpList_load_row (by rfl) 34 _ (by rfl) (w.heap.size + 1) (by rfl) 34 MA (0, 0) _ hA10 Tryd.underlying34 rfl hMz ?_) | (refine wpList_store_whole (by rfl) 34 _ _ (by rfl) (w.heap.size + 1) MA MA 34 (by rfl) (by rfl) hA10 rfl hMz hMo ?_; intro W5 r5 f5))
  exact bodyPost_ret (HRES.out _ _ _ hMs r5 rfl) rfl ⟨rfl, Fr.trans P10.2.2 f5 (fun i hi e => by omega)⟩

set_option maxRecDepth 100000 in
set_option maxHeartbeats 2000000 in
theorem pick_foreign {p q pages : Int} {z o : ByteArray} (w : World) {ZA : Array Value} (hzl : (#[.int .u64 0, .int .u32 0, .int .u8 0, .int .u8 0, .int .u8 0, .int .u8 0, .int .u8 0, .int .u8 0, .int .u8 0, .int .u8 0, .int .u8 0, .int .u8 0, .int .u8 0, .int .u8 0, .int .u8 0, .int .u8 0, .int .u8 0, .int .u8 0, .int .u8 0, .int .u8 0, .int .u8 0, .int .u8 0, .int .u8 0, .int .u8 0, .int .u8 0, .int .u8 0, .int .u8 0, .int .u8 0, .int .u8 0, .int .u8 0, .int .u8 0, .int .u8 0, .int .u8 0, .int .u8 0, .int .u64 0, .int .u64 0, .int .u32 0, .int .u32 0] : Array Value) = ZA) (hzs : ZA.size = 38) (hone : ZA.all (·.oneCell') = true) (hzv : ∀ W : World, (zeroValue 34).run Tryd.prog W = .ok (.agg ZA) W) {A : Array Value} (hAs : A.size = 38) (hAo : A.all (·.oneCell') = true) {B : Array Value} (hBs : B.size = 38) (hBo : B.all (·.oneCell') = true) {CA CB MA : Array Value} {N : Nat} (hMs : MA.size = 38) (hMo : MA.all (·.oneCell') = true) {eqb : Bool} (hEq : ∀ W : World, (Op.equalIn 10000 34 (.agg MA) (.agg ZA)).run Tryd.prog W = .ok eqb W) {Kz Ko : Nat}
    (HF : Hid (∀ W, Calls Tryd.prog 17 #[frameV p q] W fun e w' => e = .returned (.bool true) ∧ Same W w')) (hpg : ¬ pages < 2)
    (HZ : Hid (∀ W, Same w W → Calls Tryd.prog 8 #[frameV p q, .string z] W fun e w' => e = .returned (.tuple #[.agg A, .int .u8 Kz, .int .i64 0]) ∧ Same W w'))
    (HO : Hid (∀ W, Same w W → Calls Tryd.prog 8 #[frameV p q, .string o] W fun e w' => e = .returned (.tuple #[.agg B, .int .u8 Ko, .int .i64 0]) ∧ Same W w'))
    (HC1 : Hid (∀ W, Calls Tryd.prog 29 #[.agg A, .int .i64 pages] W fun e w' => e = .returned (.agg CA) ∧ Same W w'))
    (HC2 : Hid (∀ W, Calls Tryd.prog 29 #[.agg B, .int .i64 pages] W fun e w' => e = .returned (.agg CB) ∧ Same W w'))
    (HN : Hid (∀ W, Calls Tryd.prog 28 #[.agg CA, .agg CB] W fun e w' => e = .returned (.tuple #[.agg MA, .int .u32 N]) ∧ Same W w')) (hb : eqb = true) (hk : ((Kz : Int) == 2) = true ∨ (((Kz : Int) == 2) = false ∧ ((Ko : Int) == 2) = true)) :
    Calls Tryd.prog 14 #[frameV p q, .string z, .string o, .int .i64 pages] w fun e w' => e = .returned (.tuple #[.agg ZA, .int .u32 0, .int .i64 60]) ∧ Same w w' := by
  subst hb
  have hEq := hEq
  have hzl := hzl
  have hone := hone
  have hzv := hzv
  have sx : Same w ((w.alloc (.cells #[.int .i64 p, .int .i64 q] 23)).alloc (.cells ZA 34)) := ((Fr.refl _ w).alloc _).alloc _
  have c0 : ((w.alloc (.cells #[.int .i64 p, .int .i64 q] 23)).alloc (.cells ZA 34)).cell? ⟨w.heap.size, 0, none⟩ = some (.int .i64 p) := by simp
  have c1 : ((w.alloc (.cells #[.int .i64 p, .int .i64 q] 23)).alloc (.cells ZA 34)).cell? ⟨w.heap.size, 1, none⟩ = some (.int .i64 q) := by simp
  have hA : ((w.alloc (.cells #[.int .i64 p, .int .i64 q] 23)).alloc (.cells ZA 34)).heap[w.heap.size + 1]? = some (.cells ZA 34 (0, 0)) := heap_alloc2_new w _ _
  have hsz : (Tryd.prog.info? 34).map (·.size) = some ZA.size := by rw [Tryd.infoM, hzs]
  have HRES : Hid (∀ (tmps : Array Value) (W : World) (A : Array Value), A.size = 38 → W.heap[w.heap.size + 1]? = some (.cells A 34 (0, 0)) → tmps.getD 8 undef = .pointer (some ⟨w.heap.size + 1, 0, none⟩) → (results Tryd.f14 tmps).run Tryd.prog W = .ok (.tuple #[.agg A, tmps.getD 9 undef, tmps.getD 10 undef]) W) := fun tmps W A hs h hp => results_cell_tmp2 (p := 8) (u := 9) (v := 10) (ty := 34) (by kernel_rfl) tmps W (w.heap.size + 1) 34 _ (0, 0) _ hp h Tryd.underlying34 rfl (by rw [Tryd.infoM, hs])
  have hAz : (Tryd.prog.info? 34).map (·.size) = some A.size := by rw [Tryd.infoM, hAs]
  have hBz : (Tryd.prog.info? 34).map (·.size) = some B.size := by rw [Tryd.infoM, hBs]
  have hMz : (Tryd.prog.info? 34).map (·.size) = some MA.size := by rw [Tryd.infoM, hMs]
  go_enter Tryd.func14, Tryd.ntmps14
  go_wp2_with fail
  refine (HF.out _).mono ?_
  rintro e W1 ⟨rfl, s1⟩
  have c0 := s1.keep c0
  have c1 := s1.keep c1
  have t1 := sx.trans s1
  have hA1 := (s1.block _ (lt_of_heap hA) (fun f => f)).trans hA
  clear s1 sx hA
  go_wp2_with fail
  refine (HZ.out _ t1).mono ?_
  rintro e W2 ⟨rfl, s2⟩
  have c0 := s2.keep c0
  have c1 := s2.keep c1
  have t2 := t1.trans s2
  have hA2 := (s2.block _ (lt_of_heap hA1) (fun f => f)).trans hA1
  clear s2 t1 hA1
  go_wp2_with (first | (refine wpList_store_whole (by rfl) 34 _ _ (by rfl) W2.heap.size A _ 34 (by rfl) (by rfl) (heap_alloc_new W2 _) (by rw [hzs, hAs]) hAz hAo ?_; intro W3 r3 f3; have s3 : Same W2 W3 := Fr.trans ((Fr.refl _ W2).alloc _) f3 (fun i hi e => by omega); have c0 := s3.keep c0; have c1 := s3.keep c1; have t3 := t2.trans s3; have hA3 := (s3.block _ (lt_of_heap hA2) (fun f => f)).trans hA2))
  refine (HO.out _ t3).mono ?_
  rintro e W4 ⟨rfl, s4⟩
  have c0 := s4.keep c0
  have c1 := s4.keep c1
  have t4 := t3.trans s4
  have hA4 := (s4.block _ (lt_of_heap hA3) (fun f => f)).trans hA3
  have r4 := (s4.block _ (lt_of_heap r3) (fun f => f)).trans r3
  clear s4 f3 s3
  go_wp2_with (first | (refine wpList_store_whole (by rfl) 34 _ _ (by rfl) W4.heap.size B _ 34 (by rfl) (by rfl) (heap_alloc_new W4 _) (by rw [hzs, hBs]) hBz hBo ?_; intro W6 r6 f6; have s6 : Same W4 W6 := Fr.trans ((Fr.refl _ W4).alloc _) f6 (fun i hi e => by omega); have c0 := s6.keep c0; have c1 := s6.keep c1; have t6 := t4.trans s6; have hA6 := (s6.block _ (lt_of_heap hA4) (fun f => f)).trans hA4; have q6 := (s6.block _ (lt_of_heap r4) (fun f => f)).trans r4) | (refine wpList_load_row (by rfl) 34 _ (by rfl) W2.heap.size (by rfl) 34 A (0, 0) _ q6 Tryd.underlying34 rfl hAz ?_))
  have P6 : PAB w W2.heap.size W4.heap.size A B W6 := ⟨q6, r6, t6⟩
  have hne2 : ¬ W2.heap.size = w.heap.size + 1 := by have := lt_of_heap hA2; omega
  have hne4 : ¬ W4.heap.size = w.heap.size + 1 := by have := lt_of_heap hA4; omega
  clear c0 c1 r4 q6 r6 f6 s6
  refine wp_region_held_drew (S := PAB w W2.heap.size W4.heap.size A B) (by kernel_rfl) (P6.same (Fr.drew (Fr.refl _ _))) (fun hHeld => ?_)
  refine wpAnyH_take (i := 0) (oi := { dst := some 45, op := Op.load 34 (Operand.tmp 11), type := 34, pos := "pick.go:24", after := #[], guard := none }) (v := .agg A) rfl (by kernel_rfl) (by kernel_rfl) (by kernel_rfl) (fun _ _ _ h => h) (yieldsIf_load_row (by rfl) 34 _ rfl (W2.heap.size) rfl 34 A (0, 0) _ (fun _ h => h.1) Tryd.underlying34 rfl hAz) (by assumption) ?_
  try simp only [Act.put, List.setIfInBounds_toArray, List.set_cons_zero, List.set_cons_succ]
  refine wpAnyH_take (i := 1) (oi := { dst := some 46, op := Op.move (Operand.tmp 3), type := 3, pos := "pick.go:24", after := #[], guard := none }) (v := .int .i64 pages) rfl (by kernel_rfl) (by kernel_rfl) (by kernel_rfl) (fun _ _ _ h => h) (Or.inl ⟨by rfl, fun w hSw => by go_simp⟩) (by assumption) ?_
  try simp only [Act.put, List.setIfInBounds_toArray, List.set_cons_zero, List.set_cons_succ]
  refine wpAnyH_take (i := 3) (oi := { dst := some 48, op := Op.load 34 (Operand.tmp 13), type := 34, pos := "pick.go:24", after := #[], guard := none }) (v := .agg B) rfl (by kernel_rfl) (by kernel_rfl) (by kernel_rfl) (fun _ _ _ h => h) (yieldsIf_load_row (by rfl) 34 _ rfl (W4.heap.size) rfl 34 B (0, 0) _ (fun _ h => h.2.1) Tryd.underlying34 rfl hBz) (by assumption) ?_
  try simp only [Act.put, List.setIfInBounds_toArray, List.set_cons_zero, List.set_cons_succ]
  refine wpAnyH_take (i := 4) (oi := { dst := some 49, op := Op.move (Operand.tmp 3), type := 3, pos := "pick.go:24", after := #[], guard := none }) (v := .int .i64 pages) rfl (by kernel_rfl) (by kernel_rfl) (by kernel_rfl) (fun _ _ _ h => h) (Or.inl ⟨by rfl, fun w hSw => by go_simp⟩) (by assumption) ?_
  try simp only [Act.put, List.setIfInBounds_toArray, List.set_cons_zero, List.set_cons_succ]
  refine wpAnyH_ready (rs := [2]) (by kernel_rfl) (by simp) ?_
  refine AllReadyH.cons (o := { dst := some 47, op := Op.call { callee := Callee.value (Operand.func 29), args := #[Operand.tmp 45, Operand.tmp 46], argTypes := #[34, 3] }, type := 34, pos := "pick.go:24", after := #[{ on := 0, ground := Ground.data }, { on := 1, ground := Ground.data }], guard := none }) rfl (fun K hK => ?_) AllReadyH.nil
  go_simp
  go_at_call 29
  refine (HC1.out _).mono ?_
  rintro e W7 ⟨rfl, s7⟩
  try go_wp2_with fail
  have P7 := (P6.same (Fr.drew (Fr.refl _ _))).same s7
  refine hK.out _ _ (P7) (fun hHeld => ?_)
  clear hK K
  try simp only [Act.put, List.setIfInBounds_toArray, List.set_cons_zero, List.set_cons_succ]
  refine wpAnyH_ready (rs := [5]) (by kernel_rfl) (by simp) ?_
  refine AllReadyH.cons (o := { dst := some 50, op := Op.call { callee := Callee.value (Operand.func 29), args := #[Operand.tmp 48, Operand.tmp 49], argTypes := #[34, 3] }, type := 34, pos := "pick.go:24", after := #[{ on := 3, ground := Ground.data }, { on := 4, ground := Ground.data }, { on := 2, ground := Ground.chain }], guard := none }) rfl (fun K hK => ?_) AllReadyH.nil
  go_simp
  go_at_call 29
  refine (HC2.out _).mono ?_
  rintro e W8 ⟨rfl, s8⟩
  try go_wp2_with fail
  have P8 := P7.same s8
  refine hK.out _ _ (P8) (fun hHeld => ?_)
  clear hK K
  try simp only [Act.put, List.setIfInBounds_toArray, List.set_cons_zero, List.set_cons_succ]
  refine wpAnyH_ready (rs := [6]) (by kernel_rfl) (by simp) ?_
  refine AllReadyH.cons (o := { dst := some 51, op := Op.call { callee := Callee.value (Operand.func 28), args := #[Operand.tmp 47, Operand.tmp 50], argTypes := #[34, 34] }, type := 68, pos := "pick.go:24", after := #[{ on := 2, ground := Ground.data }, { on := 5, ground := Ground.data }, { on := 5, ground := Ground.chain }], guard := none }) rfl (fun K hK => ?_) AllReadyH.nil
  go_simp
  go_at_call 28
  refine (HN.out _).mono ?_
  rintro e W9 ⟨rfl, s9⟩
  try go_wp2_with fail
  have P9 := P8.same s9
  have s69 : Same W6 W9 := Same.trans (Fr.drew (Fr.refl _ W6)) (s7.trans (s8.trans s9))
  have hA9 := (s69.block _ (lt_of_heap hA6) (fun f => f)).trans hA6
  refine hK.out _ _ (P9) (fun hHeld => ?_)
  clear hK K
  try simp only [Act.put, List.setIfInBounds_toArray, List.set_cons_zero, List.set_cons_succ]
  refine wpAnyH_take (i := 7) (oi := { dst := some 44, op := Op.move (Operand.tmp 51), type := 68, pos := "pick.go:24", after := #[{ on := 6, ground := Ground.data }], guard := none }) (v := .tuple #[.agg MA, .int .u32 N]) rfl (by kernel_rfl) (by kernel_rfl) (by kernel_rfl) (fun _ _ _ h => h) (Or.inl ⟨by rfl, fun w hSw => by go_simp⟩) (by assumption) ?_
  try simp only [Act.put, List.setIfInBounds_toArray, List.set_cons_zero, List.set_cons_succ]
  refine wpAnyH_take (i := 8) (oi := { dst := some 52, op := Op.extract (Operand.tmp 44) 0, type := 34, pos := "pick.go:24", after := #[{ on := 7, ground := Ground.data }], guard := none }) (v := .agg MA) rfl (by kernel_rfl) (by kernel_rfl) (by kernel_rfl) (fun _ _ _ h => h) (Or.inl ⟨by rfl, fun w hSw => by go_simp⟩) (by assumption) ?_
  try simp only [Act.put, List.setIfInBounds_toArray, List.set_cons_zero, List.set_cons_succ]
  refine wpAnyH_take (i := 9) (oi := { dst := some 53, op := Op.extract (Operand.tmp 44) 1, type := 28, pos := "pick.go:24", after := #[{ on := 7, ground := Ground.data }, { on := 10, ground := Ground.gcOnly Departure.lateStores }], guard := none }) (v := .int .u32 N) rfl (by kernel_rfl) (by kernel_rfl) (by kernel_rfl) (fun _ _ _ h => h) (Or.inl ⟨by rfl, fun w hSw => by go_simp⟩) (by assumption) ?_
  try simp only [Act.put, List.setIfInBounds_toArray, List.set_cons_zero, List.set_cons_succ]
  refine wpAnyH_ready (rs := [10]) (by kernel_rfl) (by simp) ?_
  refine AllReadyH.cons (o := { dst := none, op := Op.store 34 (Operand.tmp 8) (Operand.tmp 52), type := 0, pos := "pick.go:24", after := #[{ on := 8, ground := Ground.data }, { on := 6, ground := Ground.chain }, { on := 0, ground := Ground.phase }, { on := 1, ground := Ground.phase }, { on := 2, ground := Ground.phase }, { on := 3, ground := Ground.phase }, { on := 4, ground := Ground.phase }, { on := 5, ground := Ground.phase }, { on := 6, ground := Ground.phase }, { on := 7, ground := Ground.phase }, { on := 8, ground := Ground.phase }, { on := 9, ground := Ground.textOnly Departure.lateStores }], guard := none }) rfl (fun K hK => ?_) AllReadyH.nil
  rw [if_pos (by rfl)]
  refine wp_store_mid 34 _ _ rfl (w.heap.size + 1) 0 MA rfl rfl (there_row hA9 (by rw [hzs, hMs])) hMz hMo ?_
  have P10 := P9.put hne2 hne4 MA.toList
  have hA10 := row_put (M := MA) hA9 (by rw [hzs, hMs])
  refine hK.out _ _ P10 (fun hHeld => ?_)
  clear hK K
  try simp only [Act.put]
  refine wpAnyH_take (i := 11) (oi := { dst := some 9, op := Op.assign (Operand.tmp 53), type := 28, pos := "pick.go:24", after := #[{ on := 9, ground := Ground.data }, { on := 10, ground := Ground.chain }, { on := 0, ground := Ground.phase }, { on := 1, ground := Ground.phase }, { on := 2, ground := Ground.phase }, { on := 3, ground := Ground.phase }, { on := 4, ground := Ground.phase }, { on := 5, ground := Ground.phase }, { on := 6, ground := Ground.phase }, { on := 7, ground := Ground.phase }, { on := 8, ground := Ground.phase }, { on := 9, ground := Ground.phase }, { on := 10, ground := Ground.phase }], guard := none }) (v := .int .u32 N) rfl (by kernel_rfl) (by kernel_rfl) (by kernel_rfl) (fun _ _ _ h => h) (Or.inl ⟨by rfl, fun w hSw => by go_simp⟩) (by assumption) ?_
  try simp only [Act.put, List.setIfInBounds_toArray, List.set_cons_zero, List.set_cons_succ]
  refine wpAnyH_done (by kernel_rfl) ?_ _
  clear s7 s8 s9 s69 P7 P8 P9 P6 hA9 hA6
  generalize W9.setCells (w.heap.size + 1) 0 MA.toList = W10 at *
  rcases hk with k1 | ⟨k1, k2⟩
  · go_wp2_with (first | (refine wpList_load_row (by rfl) 34 _ (by rfl) (w.heap.size + 1) (by rfl) 34 MA (0, 0) _ hA10 Tryd.underlying34 rfl hMz ?_) | (refine wpList_store_whole (by rfl) 34 _ _ (by rfl) (w.heap.size + 1) ZA MA 34 (by rfl) (by rfl) hA10 (by rw [hzs, hMs]) hsz hone ?_; intro W5 r5 f5))
    exact bodyPost_ret (HRES.out _ _ _ hzs r5 rfl) rfl ⟨rfl, Fr.trans P10.2.2 f5 (fun i hi e => by omega)⟩
  · go_wp2_with (first | (refine wpList_load_row (by rfl) 34 _ (by rfl) (w.heap.size + 1) (by rfl) 34 MA (0, 0) _ hA10 Tryd.underlying34 rfl hMz ?_) | (refine wpList_store_whole (by rfl) 34 _ _ (by rfl) (w.heap.size + 1) ZA MA 34 (by rfl) (by rfl) hA10 (by rw [hzs, hMs]) hsz hone ?_; intro W5 r5 f5))
    exact bodyPost_ret (HRES.out _ _ _ hzs r5 rfl) rfl ⟨rfl, Fr.trans P10.2.2 f5 (fun i hi e => by omega)⟩

set_option maxRecDepth 100000 in
set_option maxHeartbeats 2000000 in
theorem pick_blank {p q pages : Int} {z o : ByteArray} (w : World) {ZA : Array Value} (hzl : (#[.int .u64 0, .int .u32 0, .int .u8 0, .int .u8 0, .int .u8 0, .int .u8 0, .int .u8 0, .int .u8 0, .int .u8 0, .int .u8 0, .int .u8 0, .int .u8 0, .int .u8 0, .int .u8 0, .int .u8 0, .int .u8 0, .int .u8 0, .int .u8 0, .int .u8 0, .int .u8 0, .int .u8 0, .int .u8 0, .int .u8 0, .int .u8 0, .int .u8 0, .int .u8 0, .int .u8 0, .int .u8 0, .int .u8 0, .int .u8 0, .int .u8 0, .int .u8 0, .int .u8 0, .int .u8 0, .int .u64 0, .int .u64 0, .int .u32 0, .int .u32 0] : Array Value) = ZA) (hzs : ZA.size = 38) (hone : ZA.all (·.oneCell') = true) (hzv : ∀ W : World, (zeroValue 34).run Tryd.prog W = .ok (.agg ZA) W) {A : Array Value} (hAs : A.size = 38) (hAo : A.all (·.oneCell') = true) {B : Array Value} (hBs : B.size = 38) (hBo : B.all (·.oneCell') = true) {CA CB MA : Array Value} {N : Nat} (hMs : MA.size = 38) (hMo : MA.all (·.oneCell') = true) {eqb : Bool} (hEq : ∀ W : World, (Op.equalIn 10000 34 (.agg MA) (.agg ZA)).run Tryd.prog W = .ok eqb W) {Kz Ko : Nat}
    (HF : Hid (∀ W, Calls Tryd.prog 17 #[frameV p q] W fun e w' => e = .returned (.bool true) ∧ Same W w')) (hpg : ¬ pages < 2)
    (HZ : Hid (∀ W, Same w W → Calls Tryd.prog 8 #[frameV p q, .string z] W fun e w' => e = .returned (.tuple #[.agg A, .int .u8 Kz, .int .i64 0]) ∧ Same W w'))
    (HO : Hid (∀ W, Same w W → Calls Tryd.prog 8 #[frameV p q, .string o] W fun e w' => e = .returned (.tuple #[.agg B, .int .u8 Ko, .int .i64 0]) ∧ Same W w'))
    (HC1 : Hid (∀ W, Calls Tryd.prog 29 #[.agg A, .int .i64 pages] W fun e w' => e = .returned (.agg CA) ∧ Same W w'))
    (HC2 : Hid (∀ W, Calls Tryd.prog 29 #[.agg B, .int .i64 pages] W fun e w' => e = .returned (.agg CB) ∧ Same W w'))
    (HN : Hid (∀ W, Calls Tryd.prog 28 #[.agg CA, .agg CB] W fun e w' => e = .returned (.tuple #[.agg MA, .int .u32 N]) ∧ Same W w')) (hb : eqb = true) {EA : Array Value} (hes : EA.size = 38) (heo : EA.all (·.oneCell') = true) (HE : Hid (∀ W, Calls Tryd.prog 27 #[] W fun e w' => e = .returned (.agg EA) ∧ Same W w')) (k1 : ((Kz : Int) == 2) = false) (k2 : ((Ko : Int) == 2) = false) (k3 : ((Kz : Int) == 0) = true) (k4 : ((Ko : Int) == 0) = true) :
    Calls Tryd.prog 14 #[frameV p q, .string z, .string o, .int .i64 pages] w fun e w' => e = .returned (.tuple #[.agg EA, .int .u32 0, .int .i64 0]) ∧ Same w w' := by
  subst hb
  have k1 := k1
  have k2 := k2
  have k3 := k3
  have k4 := k4
  have hez : (Tryd.prog.info? 34).map (·.size) = some EA.size := by rw [Tryd.infoM, hes]
  have hEq := hEq
  have hzl := hzl
  have hone := hone
  have hzv := hzv
  have sx : Same w ((w.alloc (.cells #[.int .i64 p, .int .i64 q] 23)).alloc (.cells ZA 34)) := ((Fr.refl _ w).alloc _).alloc _
  have c0 : ((w.alloc (.cells #[.int .i64 p, .int .i64 q] 23)).alloc (.cells ZA 34)).cell? ⟨w.heap.size, 0, none⟩ = some (.int .i64 p) := by simp
  have c1 : ((w.alloc (.cells #[.int .i64 p, .int .i64 q] 23)).alloc (.cells ZA 34)).cell? ⟨w.heap.size, 1, none⟩ = some (.int .i64 q) := by simp
  have hA : ((w.alloc (.cells #[.int .i64 p, .int .i64 q] 23)).alloc (.cells ZA 34)).heap[w.heap.size + 1]? = some (.cells ZA 34 (0, 0)) := heap_alloc2_new w _ _
  have hsz : (Tryd.prog.info? 34).map (·.size) = some ZA.size := by rw [Tryd.infoM, hzs]
  have HRES : Hid (∀ (tmps : Array Value) (W : World) (A : Array Value), A.size = 38 → W.heap[w.heap.size + 1]? = some (.cells A 34 (0, 0)) → tmps.getD 8 undef = .pointer (some ⟨w.heap.size + 1, 0, none⟩) → (results Tryd.f14 tmps).run Tryd.prog W = .ok (.tuple #[.agg A, tmps.getD 9 undef, tmps.getD 10 undef]) W) := fun tmps W A hs h hp => results_cell_tmp2 (p := 8) (u := 9) (v := 10) (ty := 34) (by kernel_rfl) tmps W (w.heap.size + 1) 34 _ (0, 0) _ hp h Tryd.underlying34 rfl (by rw [Tryd.infoM, hs])
  have hAz : (Tryd.prog.info? 34).map (·.size) = some A.size := by rw [Tryd.infoM, hAs]
  have hBz : (Tryd.prog.info? 34).map (·.size) = some B.size := by rw [Tryd.infoM, hBs]
  have hMz : (Tryd.prog.info? 34).map (·.size) = some MA.size := by rw [Tryd.infoM, hMs]
  go_enter Tryd.func14, Tryd.ntmps14
  go_wp2_with fail
  refine (HF.out _).mono ?_
  rintro e W1 ⟨rfl, s1⟩
  have c0 := s1.keep c0
  have c1 := s1.keep c1
  have t1 := sx.trans s1
  have hA1 := (s1.block _ (lt_of_heap hA) (fun f => f)).trans hA
  clear s1 sx hA
  go_wp2_with fail
  refine (HZ.out _ t1).mono ?_
  rintro e W2 ⟨rfl, s2⟩
  have c0 := s2.keep c0
  have c1 := s2.keep c1
  have t2 := t1.trans s2
  have hA2 := (s2.block _ (lt_of_heap hA1) (fun f => f)).trans hA1
  clear s2 t1 hA1
  go_wp2_with (first | (refine wpList_store_whole (by rfl) 34 _ _ (by rfl) W2.heap.size A _ 34 (by rfl) (by rfl) (heap_alloc_new W2 _) (by rw [hzs, hAs]) hAz hAo ?_; intro W3 r3 f3; have s3 : Same W2 W3 := Fr.trans ((Fr.refl _ W2).alloc _) f3 (fun i hi e => by omega); have c0 := s3.keep c0; have c1 := s3.keep c1; have t3 := t2.trans s3; have hA3 := (s3.block _ (lt_of_heap hA2) (fun f => f)).trans hA2))
  refine (HO.out _ t3).mono ?_
  rintro e W4 ⟨rfl, s4⟩
  have c0 := s4.keep c0
  have c1 := s4.keep c1
  have t4 := t3.trans s4
  have hA4 := (s4.block _ (lt_of_heap hA3) (fun f => f)).trans hA3
  have r4 := (s4.block _ (lt_of_heap r3) (fun f => f)).trans r3
  clear s4 f3 s3
  go_wp2_with (first | (refine wpList_store_whole (by rfl) 34 _ _ (by rfl) W4.heap.size B _ 34 (by rfl) (by rfl) (heap_alloc_new W4 _) (by rw [hzs, hBs]) hBz hBo ?_; intro W6 r6 f6; have s6 : Same W4 W6 := Fr.trans ((Fr.refl _ W4).alloc _) f6 (fun i hi e => by omega); have c0 := s6.keep c0; have c1 := s6.keep c1; have t6 := t4.trans s6; have hA6 := (s6.block _ (lt_of_heap hA4) (fun f => f)).trans hA4; have q6 := (s6.block _ (lt_of_heap r4) (fun f => f)).trans r4) | (refine wpList_load_row (by rfl) 34 _ (by rfl) W2.heap.size (by rfl) 34 A (0, 0) _ q6 Tryd.underlying34 rfl hAz ?_))
  have P6 : PAB w W2.heap.size W4.heap.size A B W6 := ⟨q6, r6, t6⟩
  have hne2 : ¬ W2.heap.size = w.heap.size + 1 := by have := lt_of_heap hA2; omega
  have hne4 : ¬ W4.heap.size = w.heap.size + 1 := by have := lt_of_heap hA4; omega
  clear c0 c1 r4 q6 r6 f6 s6
  refine wp_region_held_drew (S := PAB w W2.heap.size W4.heap.size A B) (by kernel_rfl) (P6.same (Fr.drew (Fr.refl _ _))) (fun hHeld => ?_)
  refine wpAnyH_take (i := 0) (oi := { dst := some 45, op := Op.load 34 (Operand.tmp 11), type := 34, pos := "pick.go:24", after := #[], guard := none }) (v := .agg A) rfl (by kernel_rfl) (by kernel_rfl) (by kernel_rfl) (fun _ _ _ h => h) (yieldsIf_load_row (by rfl) 34 _ rfl (W2.heap.size) rfl 34 A (0, 0) _ (fun _ h => h.1) Tryd.underlying34 rfl hAz) (by assumption) ?_
  try simp only [Act.put, List.setIfInBounds_toArray, List.set_cons_zero, List.set_cons_succ]
  refine wpAnyH_take (i := 1) (oi := { dst := some 46, op := Op.move (Operand.tmp 3), type := 3, pos := "pick.go:24", after := #[], guard := none }) (v := .int .i64 pages) rfl (by kernel_rfl) (by kernel_rfl) (by kernel_rfl) (fun _ _ _ h => h) (Or.inl ⟨by rfl, fun w hSw => by go_simp⟩) (by assumption) ?_
  try simp only [Act.put, List.setIfInBounds_toArray, List.set_cons_zero, List.set_cons_succ]
  refine wpAnyH_take (i := 3) (oi := { dst := some 48, op := Op.load 34 (Operand.tmp 13), type := 34, pos := "pick.go:24", after := #[], guard := none }) (v := .agg B) rfl (by kernel_rfl) (by kernel_rfl) (by kernel_rfl) (fun _ _ _ h => h) (yieldsIf_load_row (by rfl) 34 _ rfl (W4.heap.size) rfl 34 B (0, 0) _ (fun _ h => h.2.1) Tryd.underlying34 rfl hBz) (by assumption) ?_
  try simp only [Act.put, List.setIfInBounds_toArray, List.set_cons_zero, List.set_cons_succ]
  refine wpAnyH_take (i := 4) (oi := { dst := some 49, op := Op.move (Operand.tmp 3), type := 3, pos := "pick.go:24", after := #[], guard := none }) (v := .int .i64 pages) rfl (by kernel_rfl) (by kernel_rfl) (by kernel_rfl) (fun _ _ _ h => h) (Or.inl ⟨by rfl, fun w hSw => by go_simp⟩) (by assumption) ?_
  try simp only [Act.put, List.setIfInBounds_toArray, List.set_cons_zero, List.set_cons_succ]
  refine wpAnyH_ready (rs := [2]) (by kernel_rfl) (by simp) ?_
  refine AllReadyH.cons (o := { dst := some 47, op := Op.call { callee := Callee.value (Operand.func 29), args := #[Operand.tmp 45, Operand.tmp 46], argTypes := #[34, 3] }, type := 34, pos := "pick.go:24", after := #[{ on := 0, ground := Ground.data }, { on := 1, ground := Ground.data }], guard := none }) rfl (fun K hK => ?_) AllReadyH.nil
  go_simp
  go_at_call 29
  refine (HC1.out _).mono ?_
  rintro e W7 ⟨rfl, s7⟩
  try go_wp2_with fail
  have P7 := (P6.same (Fr.drew (Fr.refl _ _))).same s7
  refine hK.out _ _ (P7) (fun hHeld => ?_)
  clear hK K
  try simp only [Act.put, List.setIfInBounds_toArray, List.set_cons_zero, List.set_cons_succ]
  refine wpAnyH_ready (rs := [5]) (by kernel_rfl) (by simp) ?_
  refine AllReadyH.cons (o := { dst := some 50, op := Op.call { callee := Callee.value (Operand.func 29), args := #[Operand.tmp 48, Operand.tmp 49], argTypes := #[34, 3] }, type := 34, pos := "pick.go:24", after := #[{ on := 3, ground := Ground.data }, { on := 4, ground := Ground.data }, { on := 2, ground := Ground.chain }], guard := none }) rfl (fun K hK => ?_) AllReadyH.nil
  go_simp
  go_at_call 29
  refine (HC2.out _).mono ?_
  rintro e W8 ⟨rfl, s8⟩
  try go_wp2_with fail
  have P8 := P7.same s8
  refine hK.out _ _ (P8) (fun hHeld => ?_)
  clear hK K
  try simp only [Act.put, List.setIfInBounds_toArray, List.set_cons_zero, List.set_cons_succ]
  refine wpAnyH_ready (rs := [6]) (by kernel_rfl) (by simp) ?_
  refine AllReadyH.cons (o := { dst := some 51, op := Op.call { callee := Callee.value (Operand.func 28), args := #[Operand.tmp 47, Operand.tmp 50], argTypes := #[34, 34] }, type := 68, pos := "pick.go:24", after := #[{ on := 2, ground := Ground.data }, { on := 5, ground := Ground.data }, { on := 5, ground := Ground.chain }], guard := none }) rfl (fun K hK => ?_) AllReadyH.nil
  go_simp
  go_at_call 28
  refine (HN.out _).mono ?_
  rintro e W9 ⟨rfl, s9⟩
  try go_wp2_with fail
  have P9 := P8.same s9
  have s69 : Same W6 W9 := Same.trans (Fr.drew (Fr.refl _ W6)) (s7.trans (s8.trans s9))
  have hA9 := (s69.block _ (lt_of_heap hA6) (fun f => f)).trans hA6
  refine hK.out _ _ (P9) (fun hHeld => ?_)
  clear hK K
  try simp only [Act.put, List.setIfInBounds_toArray, List.set_cons_zero, List.set_cons_succ]
  refine wpAnyH_take (i := 7) (oi := { dst := some 44, op := Op.move (Operand.tmp 51), type := 68, pos := "pick.go:24", after := #[{ on := 6, ground := Ground.data }], guard := none }) (v := .tuple #[.agg MA, .int .u32 N]) rfl (by kernel_rfl) (by kernel_rfl) (by kernel_rfl) (fun _ _ _ h => h) (Or.inl ⟨by rfl, fun w hSw => by go_simp⟩) (by assumption) ?_
  try simp only [Act.put, List.setIfInBounds_toArray, List.set_cons_zero, List.set_cons_succ]
  refine wpAnyH_take (i := 8) (oi := { dst := some 52, op := Op.extract (Operand.tmp 44) 0, type := 34, pos := "pick.go:24", after := #[{ on := 7, ground := Ground.data }], guard := none }) (v := .agg MA) rfl (by kernel_rfl) (by kernel_rfl) (by kernel_rfl) (fun _ _ _ h => h) (Or.inl ⟨by rfl, fun w hSw => by go_simp⟩) (by assumption) ?_
  try simp only [Act.put, List.setIfInBounds_toArray, List.set_cons_zero, List.set_cons_succ]
  refine wpAnyH_take (i := 9) (oi := { dst := some 53, op := Op.extract (Operand.tmp 44) 1, type := 28, pos := "pick.go:24", after := #[{ on := 7, ground := Ground.data }, { on := 10, ground := Ground.gcOnly Departure.lateStores }], guard := none }) (v := .int .u32 N) rfl (by kernel_rfl) (by kernel_rfl) (by kernel_rfl) (fun _ _ _ h => h) (Or.inl ⟨by rfl, fun w hSw => by go_simp⟩) (by assumption) ?_
  try simp only [Act.put, List.setIfInBounds_toArray, List.set_cons_zero, List.set_cons_succ]
  refine wpAnyH_ready (rs := [10]) (by kernel_rfl) (by simp) ?_
  refine AllReadyH.cons (o := { dst := none, op := Op.store 34 (Operand.tmp 8) (Operand.tmp 52), type := 0, pos := "pick.go:24", after := #[{ on := 8, ground := Ground.data }, { on := 6, ground := Ground.chain }, { on := 0, ground := Ground.phase }, { on := 1, ground := Ground.phase }, { on := 2, ground := Ground.phase }, { on := 3, ground := Ground.phase }, { on := 4, ground := Ground.phase }, { on := 5, ground := Ground.phase }, { on := 6, ground := Ground.phase }, { on := 7, ground := Ground.phase }, { on := 8, ground := Ground.phase }, { on := 9, ground := Ground.textOnly Departure.lateStores }], guard := none }) rfl (fun K hK => ?_) AllReadyH.nil
  rw [if_pos (by rfl)]
  refine wp_store_mid 34 _ _ rfl (w.heap.size + 1) 0 MA rfl rfl (there_row hA9 (by rw [hzs, hMs])) hMz hMo ?_
  have P10 := P9.put hne2 hne4 MA.toList
  have hA10 := row_put (M := MA) hA9 (by rw [hzs, hMs])
  refine hK.out _ _ P10 (fun hHeld => ?_)
  clear hK K
  try simp only [Act.put]
  refine wpAnyH_take (i := 11) (oi := { dst := some 9, op := Op.assign (Operand.tmp 53), type := 28, pos := "pick.go:24", after := #[{ on := 9, ground := Ground.data }, { on := 10, ground := Ground.chain }, { on := 0, ground := Ground.phase }, { on := 1, ground := Ground.phase }, { on := 2, ground := Ground.phase }, { on := 3, ground := Ground.phase }, { on := 4, ground := Ground.phase }, { on := 5, ground := Ground.phase }, { on := 6, ground := Ground.phase }, { on := 7, ground := Ground.phase }, { on := 8, ground := Ground.phase }, { on := 9, ground := Ground.phase }, { on := 10, ground := Ground.phase }], guard := none }) (v := .int .u32 N) rfl (by kernel_rfl) (by kernel_rfl) (by kernel_rfl) (fun _ _ _ h => h) (Or.inl ⟨by rfl, fun w hSw => by go_simp⟩) (by assumption) ?_
  try simp only [Act.put, List.setIfInBounds_toArray, List.set_cons_zero, List.set_cons_succ]
  refine wpAnyH_done (by kernel_rfl) ?_ _
  clear s7 s8 s9 s69 P7 P8 P9 P6 hA9 hA6
  generalize W9.setCells (w.heap.size + 1) 0 MA.toList = W10 at *
  go_wp2_with (first | (refine wpList_load_row (by rfl) 34 _ (by rfl) (w.heap.size + 1) (by rfl) 34 MA (0, 0) _ hA10 Tryd.underlying34 rfl hMz ?_))
  refine (HE.out _).mono ?_
  rintro e W11 ⟨rfl, s11⟩
  have hA11 := (s11.block _ (lt_of_heap hA10) (fun f => f)).trans hA10
  have t11 := P10.2.2.trans s11
  clear s11 hA10 P10
  go_wp2_with (first | (refine wpList_store_whole (by rfl) 34 _ _ (by rfl) (w.heap.size + 1) EA MA 34 (by rfl) (by rfl) hA11 (by rw [hes, hMs]) hez heo ?_; intro W5 r5 f5))
  exact bodyPost_ret (HRES.out _ _ _ hes r5 rfl) rfl ⟨rfl, Fr.trans t11 f5 (fun i hi e => by omega)⟩

set_option maxRecDepth 100000 in
set_option maxHeartbeats 2000000 in
theorem pick_none {p q pages : Int} {z o : ByteArray} (w : World) {ZA : Array Value} (hzl : (#[.int .u64 0, .int .u32 0, .int .u8 0, .int .u8 0, .int .u8 0, .int .u8 0, .int .u8 0, .int .u8 0, .int .u8 0, .int .u8 0, .int .u8 0, .int .u8 0, .int .u8 0, .int .u8 0, .int .u8 0, .int .u8 0, .int .u8 0, .int .u8 0, .int .u8 0, .int .u8 0, .int .u8 0, .int .u8 0, .int .u8 0, .int .u8 0, .int .u8 0, .int .u8 0, .int .u8 0, .int .u8 0, .int .u8 0, .int .u8 0, .int .u8 0, .int .u8 0, .int .u8 0, .int .u8 0, .int .u64 0, .int .u64 0, .int .u32 0, .int .u32 0] : Array Value) = ZA) (hzs : ZA.size = 38) (hone : ZA.all (·.oneCell') = true) (hzv : ∀ W : World, (zeroValue 34).run Tryd.prog W = .ok (.agg ZA) W) {A : Array Value} (hAs : A.size = 38) (hAo : A.all (·.oneCell') = true) {B : Array Value} (hBs : B.size = 38) (hBo : B.all (·.oneCell') = true) {CA CB MA : Array Value} {N : Nat} (hMs : MA.size = 38) (hMo : MA.all (·.oneCell') = true) {eqb : Bool} (hEq : ∀ W : World, (Op.equalIn 10000 34 (.agg MA) (.agg ZA)).run Tryd.prog W = .ok eqb W) {Kz Ko : Nat}
    (HF : Hid (∀ W, Calls Tryd.prog 17 #[frameV p q] W fun e w' => e = .returned (.bool true) ∧ Same W w')) (hpg : ¬ pages < 2)
    (HZ : Hid (∀ W, Same w W → Calls Tryd.prog 8 #[frameV p q, .string z] W fun e w' => e = .returned (.tuple #[.agg A, .int .u8 Kz, .int .i64 0]) ∧ Same W w'))
    (HO : Hid (∀ W, Same w W → Calls Tryd.prog 8 #[frameV p q, .string o] W fun e w' => e = .returned (.tuple #[.agg B, .int .u8 Ko, .int .i64 0]) ∧ Same W w'))
    (HC1 : Hid (∀ W, Calls Tryd.prog 29 #[.agg A, .int .i64 pages] W fun e w' => e = .returned (.agg CA) ∧ Same W w'))
    (HC2 : Hid (∀ W, Calls Tryd.prog 29 #[.agg B, .int .i64 pages] W fun e w' => e = .returned (.agg CB) ∧ Same W w'))
    (HN : Hid (∀ W, Calls Tryd.prog 28 #[.agg CA, .agg CB] W fun e w' => e = .returned (.tuple #[.agg MA, .int .u32 N]) ∧ Same W w')) (hb : eqb = true) (k1 : ((Kz : Int) == 2) = false) (k2 : ((Ko : Int) == 2) = false) (hk : ((Kz : Int) == 0) = false ∨ (((Kz : Int) == 0) = true ∧ ((Ko : Int) == 0) = false)) :
    Calls Tryd.prog 14 #[frameV p q, .string z, .string o, .int .i64 pages] w fun e w' => e = .returned (.tuple #[.agg ZA, .int .u32 0, .int .i64 61]) ∧ Same w w' := by
  subst hb
  have k1 := k1
  have k2 := k2
  have hEq := hEq
  have hzl := hzl
  have hone := hone
  have hzv := hzv
  have sx : Same w ((w.alloc (.cells #[.int .i64 p, .int .i64 q] 23)).alloc (.cells ZA 34)) := ((Fr.refl _ w).alloc _).alloc _
  have c0 : ((w.alloc (.cells #[.int .i64 p, .int .i64 q] 23)).alloc (.cells ZA 34)).cell? ⟨w.heap.size, 0, none⟩ = some (.int .i64 p) := by simp
  have c1 : ((w.alloc (.cells #[.int .i64 p, .int .i64 q] 23)).alloc (.cells ZA 34)).cell? ⟨w.heap.size, 1, none⟩ = some (.int .i64 q) := by simp
  have hA : ((w.alloc (.cells #[.int .i64 p, .int .i64 q] 23)).alloc (.cells ZA 34)).heap[w.heap.size + 1]? = some (.cells ZA 34 (0, 0)) := heap_alloc2_new w _ _
  have hsz : (Tryd.prog.info? 34).map (·.size) = some ZA.size := by rw [Tryd.infoM, hzs]
  have HRES : Hid (∀ (tmps : Array Value) (W : World) (A : Array Value), A.size = 38 → W.heap[w.heap.size + 1]? = some (.cells A 34 (0, 0)) → tmps.getD 8 undef = .pointer (some ⟨w.heap.size + 1, 0, none⟩) → (results Tryd.f14 tmps).run Tryd.prog W = .ok (.tuple #[.agg A, tmps.getD 9 undef, tmps.getD 10 undef]) W) := fun tmps W A hs h hp => results_cell_tmp2 (p := 8) (u := 9) (v := 10) (ty := 34) (by kernel_rfl) tmps W (w.heap.size + 1) 34 _ (0, 0) _ hp h Tryd.underlying34 rfl (by rw [Tryd.infoM, hs])
  have hAz : (Tryd.prog.info? 34).map (·.size) = some A.size := by rw [Tryd.infoM, hAs]
  have hBz : (Tryd.prog.info? 34).map (·.size) = some B.size := by rw [Tryd.infoM, hBs]
  have hMz : (Tryd.prog.info? 34).map (·.size) = some MA.size := by rw [Tryd.infoM, hMs]
  go_enter Tryd.func14, Tryd.ntmps14
  go_wp2_with fail
  refine (HF.out _).mono ?_
  rintro e W1 ⟨rfl, s1⟩
  have c0 := s1.keep c0
  have c1 := s1.keep c1
  have t1 := sx.trans s1
  have hA1 := (s1.block _ (lt_of_heap hA) (fun f => f)).trans hA
  clear s1 sx hA
  go_wp2_with fail
  refine (HZ.out _ t1).mono ?_
  rintro e W2 ⟨rfl, s2⟩
  have c0 := s2.keep c0
  have c1 := s2.keep c1
  have t2 := t1.trans s2
  have hA2 := (s2.block _ (lt_of_heap hA1) (fun f => f)).trans hA1
  clear s2 t1 hA1
  go_wp2_with (first | (refine wpList_store_whole (by rfl) 34 _ _ (by rfl) W2.heap.size A _ 34 (by rfl) (by rfl) (heap_alloc_new W2 _) (by rw [hzs, hAs]) hAz hAo ?_; intro W3 r3 f3; have s3 : Same W2 W3 := Fr.trans ((Fr.refl _ W2).alloc _) f3 (fun i hi e => by omega); have c0 := s3.keep c0; have c1 := s3.keep c1; have t3 := t2.trans s3; have hA3 := (s3.block _ (lt_of_heap hA2) (fun f => f)).trans hA2))
  refine (HO.out _ t3).mono ?_
  rintro e W4 ⟨rfl, s4⟩
  have c0 := s4.keep c0
  have c1 := s4.keep c1
  have t4 := t3.trans s4
  have hA4 := (s4.block _ (lt_of_heap hA3) (fun f => f)).trans hA3
  have r4 := (s4.block _ (lt_of_heap r3) (fun f => f)).trans r3
  clear s4 f3 s3
  go_wp2_with (first | (refine wpList_store_whole (by rfl) 34 _ _ (by rfl) W4.heap.size B _ 34 (by rfl) (by rfl) (heap_alloc_new W4 _) (by rw [hzs, hBs]) hBz hBo ?_; intro W6 r6 f6; have s6 : Same W4 W6 := Fr.trans ((Fr.refl _ W4).alloc _) f6 (fun i hi e => by omega); have c0 := s6.keep c0; have c1 := s6.keep c1; have t6 := t4.trans s6; have hA6 := (s6.block _ (lt_of_heap hA4) (fun f => f)).trans hA4; have q6 := (s6.block _ (lt_of_heap r4) (fun f => f)).trans r4) | (refine wpList_load_row (by rfl) 34 _ (by rfl) W2.heap.size (by rfl) 34 A (0, 0) _ q6 Tryd.underlying34 rfl hAz ?_))
  have P6 : PAB w W2.heap.size W4.heap.size A B W6 := ⟨q6, r6, t6⟩
  have hne2 : ¬ W2.heap.size = w.heap.size + 1 := by have := lt_of_heap hA2; omega
  have hne4 : ¬ W4.heap.size = w.heap.size + 1 := by have := lt_of_heap hA4; omega
  clear c0 c1 r4 q6 r6 f6 s6
  refine wp_region_held_drew (S := PAB w W2.heap.size W4.heap.size A B) (by kernel_rfl) (P6.same (Fr.drew (Fr.refl _ _))) (fun hHeld => ?_)
  refine wpAnyH_take (i := 0) (oi := { dst := some 45, op := Op.load 34 (Operand.tmp 11), type := 34, pos := "pick.go:24", after := #[], guard := none }) (v := .agg A) rfl (by kernel_rfl) (by kernel_rfl) (by kernel_rfl) (fun _ _ _ h => h) (yieldsIf_load_row (by rfl) 34 _ rfl (W2.heap.size) rfl 34 A (0, 0) _ (fun _ h => h.1) Tryd.underlying34 rfl hAz) (by assumption) ?_
  try simp only [Act.put, List.setIfInBounds_toArray, List.set_cons_zero, List.set_cons_succ]
  refine wpAnyH_take (i := 1) (oi := { dst := some 46, op := Op.move (Operand.tmp 3), type := 3, pos := "pick.go:24", after := #[], guard := none }) (v := .int .i64 pages) rfl (by kernel_rfl) (by kernel_rfl) (by kernel_rfl) (fun _ _ _ h => h) (Or.inl ⟨by rfl, fun w hSw => by go_simp⟩) (by assumption) ?_
  try simp only [Act.put, List.setIfInBounds_toArray, List.set_cons_zero, List.set_cons_succ]
  refine wpAnyH_take (i := 3) (oi := { dst := some 48, op := Op.load 34 (Operand.tmp 13), type := 34, pos := "pick.go:24", after := #[], guard := none }) (v := .agg B) rfl (by kernel_rfl) (by kernel_rfl) (by kernel_rfl) (fun _ _ _ h => h) (yieldsIf_load_row (by rfl) 34 _ rfl (W4.heap.size) rfl 34 B (0, 0) _ (fun _ h => h.2.1) Tryd.underlying34 rfl hBz) (by assumption) ?_
  try simp only [Act.put, List.setIfInBounds_toArray, List.set_cons_zero, List.set_cons_succ]
  refine wpAnyH_take (i := 4) (oi := { dst := some 49, op := Op.move (Operand.tmp 3), type := 3, pos := "pick.go:24", after := #[], guard := none }) (v := .int .i64 pages) rfl (by kernel_rfl) (by kernel_rfl) (by kernel_rfl) (fun _ _ _ h => h) (Or.inl ⟨by rfl, fun w hSw => by go_simp⟩) (by assumption) ?_
  try simp only [Act.put, List.setIfInBounds_toArray, List.set_cons_zero, List.set_cons_succ]
  refine wpAnyH_ready (rs := [2]) (by kernel_rfl) (by simp) ?_
  refine AllReadyH.cons (o := { dst := some 47, op := Op.call { callee := Callee.value (Operand.func 29), args := #[Operand.tmp 45, Operand.tmp 46], argTypes := #[34, 3] }, type := 34, pos := "pick.go:24", after := #[{ on := 0, ground := Ground.data }, { on := 1, ground := Ground.data }], guard := none }) rfl (fun K hK => ?_) AllReadyH.nil
  go_simp
  go_at_call 29
  refine (HC1.out _).mono ?_
  rintro e W7 ⟨rfl, s7⟩
  try go_wp2_with fail
  have P7 := (P6.same (Fr.drew (Fr.refl _ _))).same s7
  refine hK.out _ _ (P7) (fun hHeld => ?_)
  clear hK K
  try simp only [Act.put, List.setIfInBounds_toArray, List.set_cons_zero, List.set_cons_succ]
  refine wpAnyH_ready (rs := [5]) (by kernel_rfl) (by simp) ?_
  refine AllReadyH.cons (o := { dst := some 50, op := Op.call { callee := Callee.value (Operand.func 29), args := #[Operand.tmp 48, Operand.tmp 49], argTypes := #[34, 3] }, type := 34, pos := "pick.go:24", after := #[{ on := 3, ground := Ground.data }, { on := 4, ground := Ground.data }, { on := 2, ground := Ground.chain }], guard := none }) rfl (fun K hK => ?_) AllReadyH.nil
  go_simp
  go_at_call 29
  refine (HC2.out _).mono ?_
  rintro e W8 ⟨rfl, s8⟩
  try go_wp2_with fail
  have P8 := P7.same s8
  refine hK.out _ _ (P8) (fun hHeld => ?_)
  clear hK K
  try simp only [Act.put, List.setIfInBounds_toArray, List.set_cons_zero, List.set_cons_succ]
  refine wpAnyH_ready (rs := [6]) (by kernel_rfl) (by simp) ?_
  refine AllReadyH.cons (o := { dst := some 51, op := Op.call { callee := Callee.value (Operand.func 28), args := #[Operand.tmp 47, Operand.tmp 50], argTypes := #[34, 34] }, type := 68, pos := "pick.go:24", after := #[{ on := 2, ground := Ground.data }, { on := 5, ground := Ground.data }, { on := 5, ground := Ground.chain }], guard := none }) rfl (fun K hK => ?_) AllReadyH.nil
  go_simp
  go_at_call 28
  refine (HN.out _).mono ?_
  rintro e W9 ⟨rfl, s9⟩
  try go_wp2_with fail
  have P9 := P8.same s9
  have s69 : Same W6 W9 := Same.trans (Fr.drew (Fr.refl _ W6)) (s7.trans (s8.trans s9))
  have hA9 := (s69.block _ (lt_of_heap hA6) (fun f => f)).trans hA6
  refine hK.out _ _ (P9) (fun hHeld => ?_)
  clear hK K
  try simp only [Act.put, List.setIfInBounds_toArray, List.set_cons_zero, List.set_cons_succ]
  refine wpAnyH_take (i := 7) (oi := { dst := some 44, op := Op.move (Operand.tmp 51), type := 68, pos := "pick.go:24", after := #[{ on := 6, ground := Ground.data }], guard := none }) (v := .tuple #[.agg MA, .int .u32 N]) rfl (by kernel_rfl) (by kernel_rfl) (by kernel_rfl) (fun _ _ _ h => h) (Or.inl ⟨by rfl, fun w hSw => by go_simp⟩) (by assumption) ?_
  try simp only [Act.put, List.setIfInBounds_toArray, List.set_cons_zero, List.set_cons_succ]
  refine wpAnyH_take (i := 8) (oi := { dst := some 52, op := Op.extract (Operand.tmp 44) 0, type := 34, pos := "pick.go:24", after := #[{ on := 7, ground := Ground.data }], guard := none }) (v := .agg MA) rfl (by kernel_rfl) (by kernel_rfl) (by kernel_rfl) (fun _ _ _ h => h) (Or.inl ⟨by rfl, fun w hSw => by go_simp⟩) (by assumption) ?_
  try simp only [Act.put, List.setIfInBounds_toArray, List.set_cons_zero, List.set_cons_succ]
  refine wpAnyH_take (i := 9) (oi := { dst := some 53, op := Op.extract (Operand.tmp 44) 1, type := 28, pos := "pick.go:24", after := #[{ on := 7, ground := Ground.data }, { on := 10, ground := Ground.gcOnly Departure.lateStores }], guard := none }) (v := .int .u32 N) rfl (by kernel_rfl) (by kernel_rfl) (by kernel_rfl) (fun _ _ _ h => h) (Or.inl ⟨by rfl, fun w hSw => by go_simp⟩) (by assumption) ?_
  try simp only [Act.put, List.setIfInBounds_toArray, List.set_cons_zero, List.set_cons_succ]
  refine wpAnyH_ready (rs := [10]) (by kernel_rfl) (by simp) ?_
  refine AllReadyH.cons (o := { dst := none, op := Op.store 34 (Operand.tmp 8) (Operand.tmp 52), type := 0, pos := "pick.go:24", after := #[{ on := 8, ground := Ground.data }, { on := 6, ground := Ground.chain }, { on := 0, ground := Ground.phase }, { on := 1, ground := Ground.phase }, { on := 2, ground := Ground.phase }, { on := 3, ground := Ground.phase }, { on := 4, ground := Ground.phase }, { on := 5, ground := Ground.phase }, { on := 6, ground := Ground.phase }, { on := 7, ground := Ground.phase }, { on := 8, ground := Ground.phase }, { on := 9, ground := Ground.textOnly Departure.lateStores }], guard := none }) rfl (fun K hK => ?_) AllReadyH.nil
  rw [if_pos (by rfl)]
  refine wp_store_mid 34 _ _ rfl (w.heap.size + 1) 0 MA rfl rfl (there_row hA9 (by rw [hzs, hMs])) hMz hMo ?_
  have P10 := P9.put hne2 hne4 MA.toList
  have hA10 := row_put (M := MA) hA9 (by rw [hzs, hMs])
  refine hK.out _ _ P10 (fun hHeld => ?_)
  clear hK K
  try simp only [Act.put]
  refine wpAnyH_take (i := 11) (oi := { dst := some 9, op := Op.assign (Operand.tmp 53), type := 28, pos := "pick.go:24", after := #[{ on := 9, ground := Ground.data }, { on := 10, ground := Ground.chain }, { on := 0, ground := Ground.phase }, { on := 1, ground := Ground.phase }, { on := 2, ground := Ground.phase }, { on := 3, ground := Ground.phase }, { on := 4, ground := Ground.phase }, { on := 5, ground := Ground.phase }, { on := 6, ground := Ground.phase }, { on := 7, ground := Ground.phase }, { on := 8, ground := Ground.phase }, { on := 9, ground := Ground.phase }, { on := 10, ground := Ground.phase }], guard := none }) (v := .int .u32 N) rfl (by kernel_rfl) (by kernel_rfl) (by kernel_rfl) (fun _ _ _ h => h) (Or.inl ⟨by rfl, fun w hSw => by go_simp⟩) (by assumption) ?_
  try simp only [Act.put, List.setIfInBounds_toArray, List.set_cons_zero, List.set_cons_succ]
  refine wpAnyH_done (by kernel_rfl) ?_ _
  clear s7 s8 s9 s69 P7 P8 P9 P6 hA9 hA6
  generalize W9.setCells (w.heap.size + 1) 0 MA.toList = W10 at *
  rcases hk with k3 | ⟨k3, k4⟩
  · go_wp2_with (first | (refine wpList_load_row (by rfl) 34 _ (by rfl) (w.heap.size + 1) (by rfl) 34 MA (0, 0) _ hA10 Tryd.underlying34 rfl hMz ?_) | (refine wpList_store_whole (by rfl) 34 _ _ (by rfl) (w.heap.size + 1) ZA MA 34 (by rfl) (by rfl) hA10 (by rw [hzs, hMs]) hsz hone ?_; intro W5 r5 f5))
    exact bodyPost_ret (HRES.out _ _ _ hzs r5 rfl) rfl ⟨rfl, Fr.trans P10.2.2 f5 (fun i hi e => by omega)⟩
  · go_wp2_with (first | (refine wpList_load_row (by rfl) 34 _ (by rfl) (w.heap.size + 1) (by rfl) 34 MA (0, 0) _ hA10 Tryd.underlying34 rfl hMz ?_) | (refine wpList_store_whole (by rfl) 34 _ _ (by rfl) (w.heap.size + 1) ZA MA 34 (by rfl) (by rfl) hA10 (by rw [hzs, hMs]) hsz hone ?_; intro W5 r5 f5))
    exact bodyPost_ret (HRES.out _ _ _ hzs r5 rfl) rfl ⟨rfl, Fr.trans P10.2.2 f5 (fun i hi e => by omega)⟩

end Go.Proofs.YtaknpcimdpdekaaDoor
