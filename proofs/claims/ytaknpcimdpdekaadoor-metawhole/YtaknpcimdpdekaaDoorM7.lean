/- parse. -/
import Derived.Test.YtaknpcimdpdekaaDoorM6
namespace Go.Proofs.YtaknpcimdpdekaaDoor
open Go.RowKit

theorem wpList_store_so {P : Program} {ops : Array Oper} {rest : List Oper} {op : Oper} {a : Act} {w : World} {Q : Exit → Act → World → Prop} (Φ : World → Prop) (hgd : op.guard = none) (ty : TypeId) (x y : Operand) (ho : op.op = .store ty x y)
    (b o : Nat) (cells : Array Value) (hx : a.eval x = .pointer (some ⟨b, o, none⟩)) (hy : a.eval y = .agg cells)
    (ht : w.there b o cells.size) (hi : (P.info? ty).map (·.size) = some cells.size) (h1 : cells.all (·.oneCell') = true) (hΦ : Φ (w.setCells b o cells.toList))
    (h : ∀ w', Φ w' → wpList P ops Q rest (a.put op.dst undef) w') : wpList P ops Q (op :: rest) a w :=
  wpList_store_mid hgd ty x y ho b o cells hx hy ht hi h1 (h _ hΦ)
theorem results_cell2_tmp {P : Program} {fn : Func} {p q u : Tmp} {ty uy : TypeId} (h : fn.results = #[.cell p ty, .cell q uy, .tmp u]) (tmps : Array Value) (w : World) (g k : Nat) (t tu : TypeId) (cs ds : Array Value) (fr fs : Nat × Nat) (d e : TypeDesc)
    (hp : tmps.getD p undef = .pointer (some ⟨g, 0, none⟩)) (hg : w.heap[g]? = some (.cells cs t fr))
    (hu : P.underlying ty = some d) (hd : (match d with | .struct _ | .array _ _ => true | _ => false) = true) (hi : (P.info? ty).map (·.size) = some cs.size)
    (hq : tmps.getD q undef = .pointer (some ⟨k, 0, none⟩)) (hk : w.heap[k]? = some (.cells ds tu fs))
    (hv : P.underlying uy = some e) (he : (match e with | .struct _ | .array _ _ => true | _ => false) = true) (hj : (P.info? uy).map (·.size) = some ds.size) :
    (results fn tmps).run P w = .ok (.tuple #[.agg cs, .agg ds, tmps.getD u undef]) w := by
  have hp' : tmps[p]?.getD undef = .pointer (some ⟨g, 0, none⟩) := by simpa using hp
  have hq' : tmps[q]?.getD undef = .pointer (some ⟨k, 0, none⟩) := by simpa using hq
  simp [results, h, hp', hq', asAddr, run_loadVar_row w g t ty cs fr d hg hu hd hi, run_loadVar_row w k tu uy ds fs e hk hv he hj]
/-- What parse's last stretch holds. -/
def FM (w : World) (PA QA : Int) (RA : Rec) (W : World) : Prop := W.heap[w.heap.size]? = some (.cells #[.int .i64 PA, .int .i64 QA] 23 (0, 0)) ∧ MAt W (w.heap.size + 1) RA ∧ Same w W
theorem FM.same {w W W' : World} {PA QA : Int} {RA : Rec} (h : FM w PA QA RA W) (s : Same W W') : FM w PA QA RA W' := ⟨(s.block _ (lt_of_heap h.1) (fun f => f)).trans h.1, h.2.1.same s, h.2.2.trans s⟩
theorem FM.putF {w W : World} {PA QA : Int} {RA : Rec} (h : FM w PA QA RA W) : FM w PA QA RA ((W.setCell ⟨w.heap.size, 0, none⟩ (.int .i64 PA)).setCell ⟨w.heap.size, 1, none⟩ (.int .i64 QA)) := by
  obtain ⟨h1, h2, h3⟩ := h
  have f : Fr (fun k => k = w.heap.size) W ((W.setCell ⟨w.heap.size, 0, none⟩ (.int .i64 PA)).setCell ⟨w.heap.size, 1, none⟩ (.int .i64 QA)) := ((Fr.refl (fun k => k = w.heap.size) W).setCell (p := ⟨w.heap.size, 0, none⟩) (fun _ => rfl) _).setCell (p := ⟨w.heap.size, 1, none⟩) (fun _ => rfl) _
  refine ⟨?_, by rw [MAt, f.block _ (lt_of_heap h2) (fun e => by omega)]; exact h2, Fr.trans h3 f (fun i hi e => by omega)⟩
  have := heap_setCell_same _ w.heap.size 1 _ _ (.int .i64 QA) (heap_setCell_same W w.heap.size 0 _ _ (.int .i64 PA) h1)
  simpa using this
theorem FM.putM {w W : World} {PA QA : Int} {RA : Rec} (h : FM w PA QA RA W) : FM w PA QA RA (W.setCells (w.heap.size + 1) 0 RA.arr.toList) := by
  obtain ⟨h1, h2, h3⟩ := h
  have f : Fr (fun k => k = w.heap.size + 1) W (W.setCells (w.heap.size + 1) 0 RA.arr.toList) := Fr.setCells (S := fun k => k = w.heap.size + 1) (fun _ => rfl) _ 0 W (Fr.refl _ W)
  refine ⟨by rw [f.block _ (lt_of_heap h1) (fun e => by omega)]; exact h1, ?_, Fr.trans h3 f (fun i hi e => by omega)⟩
  have hth : W.there (w.heap.size + 1) 0 RA.arr.toList.length := by rw [Array.length_toList]; exact there_row h2 rfl
  have := setCells_whole RA.arr.toList RA.arr h2 (by rw [Array.length_toList]) hth
  rw [Array.toArray_toList] at this
  exact this
theorem Tryd.zeroM (W : World) : (zeroValue 34).run Tryd.prog W = .ok (.agg zeroRec.arr) W := by kernel_rfl
set_option maxRecDepth 100000 in
set_option maxHeartbeats 2000000 in
theorem parse_calls (s : ByteArray) (hs : 80 ≤ s.size) (hl : s.size ≤ 100000) (w : World) (ht : TabAt w) (hz : TzAt w) :
    Calls Tryd.prog 20 #[.string s] w fun e w' => e = .returned (.tuple #[frameV (pAt s) (qAt s), metaV (recAt s), .bool (laidM s)]) ∧ Same w w' := by
  have T1 : Hid (∀ (W : World) (b : Nat) (fp fq : Int) (m : Rec), PSt w W b s 0 fp fq m → Calls Tryd.prog 34 #[.pointer (some ⟨b, 0, none⟩), .int .i64 4] W fun e w' => e = .returned (.string (s.extract 0 4)) ∧ PSt w w' b s 4 fp fq m) := fun W b fp fq m h => pst_raw 4 (by omega) (by omega) h
  have T2 : Hid (∀ (W : World) (b : Nat) (fp fq : Int) (m : Rec), PSt w W b s 4 fp fq m → Calls Tryd.prog 35 #[.pointer (some ⟨b, 0, none⟩)] W fun e w' => e = .returned (.int .u8 (beAt s 4 1)) ∧ PSt w w' b s 5 fp fq m) := fun W b fp fq m h => pst_u8 (by omega) h
  have T3 : Hid (∀ (W : World) (b : Nat) (fp fq : Int) (m : Rec), PSt w W b s 5 fp fq m → Calls Tryd.prog 35 #[.pointer (some ⟨b, 0, none⟩)] W fun e w' => e = .returned (.int .u8 (beAt s 5 1)) ∧ PSt w w' b s 6 fp fq m) := fun W b fp fq m h => pst_u8 (by omega) h
  have T4 : Hid (∀ (W : World) (b : Nat) (fp fq : Int) (m : Rec), PSt w W b s 6 fp fq m → Calls Tryd.prog 34 #[.pointer (some ⟨b, 0, none⟩), .int .i64 2] W fun e w' => e = .returned (.string (s.extract 6 8)) ∧ PSt w w' b s 8 fp fq m) := fun W b fp fq m h => pst_raw 2 (by omega) (by omega) h
  have T5 : Hid (∀ (W : World) (b : Nat) (fp fq : Int) (m : Rec), PSt w W b s 8 fp fq m → Calls Tryd.prog 36 #[.pointer (some ⟨b, 0, none⟩)] W fun e w' => e = .returned (.int .u64 (beAt s 8 8)) ∧ PSt w w' b s 16 fp fq m) := fun W b fp fq m h => pst_u64 (by omega) h
  have T6 : Hid (∀ (W : World) (b : Nat) (fp fq : Int) (m : Rec), PSt w W b s 16 fp fq m → Calls Tryd.prog 36 #[.pointer (some ⟨b, 0, none⟩)] W fun e w' => e = .returned (.int .u64 (beAt s 16 8)) ∧ PSt w w' b s 24 fp fq m) := fun W b fp fq m h => pst_u64 (by omega) h
  have T7 : Hid (∀ (W : World) (b : Nat) (fp fq : Int) (m : Rec), PSt w W b s 24 fp fq m → Calls Tryd.prog 36 #[.pointer (some ⟨b, 0, none⟩)] W fun e w' => e = .returned (.int .u64 (beAt s 24 8)) ∧ PSt w w' b s 32 fp fq m) := fun W b fp fq m h => pst_u64 (by omega) h
  have T8 : Hid (∀ (W : World) (b : Nat) (fp fq : Int) (m : Rec), PSt w W b s 32 fp fq m → Calls Tryd.prog 37 #[.pointer (some ⟨b, 0, none⟩)] W fun e w' => e = .returned (.int .u32 (beAt s 32 4)) ∧ PSt w w' b s 36 fp fq m) := fun W b fp fq m h => pst_u32 (by omega) h
  have T9 : Hid (∀ (W : World) (b : Nat) (fp fq : Int) (m : Rec), PSt w W b s 36 fp fq m → Calls Tryd.prog 37 #[.pointer (some ⟨b, 0, none⟩)] W fun e w' => e = .returned (.int .u32 (beAt s 36 4)) ∧ PSt w w' b s 40 fp fq m) := fun W b fp fq m h => pst_u32 (by omega) h
  have T10 : Hid (∀ (W : World) (b : Nat) (fp fq : Int) (m : Rec), PSt w W b s 40 fp fq m → Calls Tryd.prog 37 #[.pointer (some ⟨b, 0, none⟩)] W fun e w' => e = .returned (.int .u32 (beAt s 40 4)) ∧ PSt w w' b s 44 fp fq m) := fun W b fp fq m h => pst_u32 (by omega) h
  have T11 : Hid (∀ (W : World) (b : Nat) (fp fq : Int) (m : Rec), PSt w W b s 44 fp fq m → Calls Tryd.prog 38 #[.pointer (some ⟨b, 0, none⟩), .int .i64 32] W fun e w' => e = .returned (.agg (bcells (s.extract 44 76).data.toList).toArray) ∧ PSt w w' b s 76 fp fq m) := fun W b fp fq m h => pst_digest (by omega) h
  have hok := recAt_ok s hs
  have hD32 : (s.extract 44 76).data.toList.length = 32 := hok.d
  have HO : Hid (∀ W : World, W = (((w.alloc (.cells #[.int .i64 0, .int .i64 0] 23)).alloc (.cells zeroRec.arr 34)).alloc (.cells #[.bool true, .string s, .int .i64 0, .int .i64 0] 110)) → PSt w W (w.heap.size + 2) s 0 0 0 zeroRec) := fun W h => by rw [h]; exact pst_open w s (by omega)
  have HR : Hid (recAt s = ⟨beAt s 8 8, beAt s 32 4, (s.extract 44 76).data.toList, beAt s 16 8, beAt s 24 8, beAt s 36 4, beAt s 40 4⟩) := rfl
  have HQ : Hid (qAt s = (beAt s 5 1 : Int)) := rfl
  have HPA : Hid (pAt s = shP (beAt s 4 1)) := rfl
  have HOK : Hid (RecOk (recAt s)) := hok
  have HLA : Hid (laidM s = (mayM (pAt s) (qAt s) (recAt s) && decide (s = fillS (formS (pAt s) (qAt s) (recAt s)) s.size))) := rfl
  obtain ⟨RA, hRA⟩ : ∃ RA, RA = recAt s := ⟨_, rfl⟩
  obtain ⟨PA, hPA⟩ : ∃ PA, PA = pAt s := ⟨_, rfl⟩
  obtain ⟨QA, hQA⟩ : ∃ QA, QA = qAt s := ⟨_, rfl⟩
  obtain ⟨LA, hLA⟩ : ∃ LA, LA = laidM s := ⟨_, rfl⟩
  rw [← hRA, ← hPA, ← hQA, ← hLA] at HLA
  rw [← hRA] at HOK HR ⊢
  rw [← hPA] at HPA ⊢
  rw [← hQA] at HQ ⊢
  rw [← hLA]
  have lb := beAt_lt s 5 1 (by omega)
  generalize beAt s 4 1 = n4 at *
  generalize beAt s 5 1 = n5 at *
  generalize beAt s 8 8 = n8 at *
  generalize beAt s 16 8 = n16 at *
  generalize beAt s 24 8 = n24 at *
  generalize beAt s 32 4 = n32 at *
  generalize beAt s 36 4 = n36 at *
  generalize beAt s 40 4 = n40 at *
  generalize (s.extract 44 76).data.toList = DD at *
  have hsh : wrap64 (2 ^ min n4 64) = PA := HPA.out.symm
  have hq5 : IntKind.i64.wrap (n5 : Int) = (n5 : Int) := by rw [IntKind.wrap_i64]; omega
  clear hRA hPA hQA hLA hok
  have hZ := Tryd.zeroM
  go_enter Tryd.func20, Tryd.ntmps20
  go_wp2_with fail
  refine (open_calls _ s).mono ?_
  rintro e W0 ⟨rfl, hW0⟩
  have K0 : PSt w W0 (w.heap.size + 2) s 0 0 0 zeroRec := HO.out W0 (by rw [hW0])
  clear hW0
  go_wp2_with fail
  obtain ⟨rb, hrb⟩ : ∃ rb, rb = w.heap.size + 1 + 1 := ⟨_, rfl⟩
  rw [← hrb] at K0 ⊢
  clear hrb
  refine (T1.out _ _ _ _ _ K0).mono ?_
  rintro e W1 ⟨rfl, K1⟩
  clear K0
  go_wp2_with fail
  refine (T2.out _ _ _ _ _ K1).mono ?_
  rintro e W2 ⟨rfl, K2⟩
  clear K1
  obtain ⟨fc0, fc1, ff0, ff1⟩ := K2.fcells
  go_wp2_with fail
  have K2s := K2.putF.1 PA
  clear K2 fc0 fc1 ff0 ff1
  refine (T3.out _ _ _ _ _ K2s).mono ?_
  rintro e W3 ⟨rfl, K3⟩
  clear K2s
  obtain ⟨fc0, fc1, ff0, ff1⟩ := K3.fcells
  go_wp2_with fail
  have K3s := K3.putF.2 (n5 : Int)
  clear K3 fc0 fc1 ff0 ff1
  refine (T4.out _ _ _ _ _ K3s).mono ?_
  rintro e W4 ⟨rfl, K4⟩
  clear K3s
  go_wp2_with fail
  refine (T5.out _ _ _ _ _ K4).mono ?_
  rintro e W5 ⟨rfl, K5⟩
  clear K4
  obtain ⟨mc0, mc1, mc34, mc35, mc36, mc37⟩ := K5.2.2.2.1.cells rfl
  have mf := frozen_of_row W5 (w.heap.size + 1) 0 _ _ K5.2.2.2.1
  go_wp2_with fail
  have K5s := K5.put 0 _ ((K5.2.2.2.1.sets rfl).1 n8)
  clear K5 mc0 mc1 mc34 mc35 mc36 mc37 mf
  refine (T6.out _ _ _ _ _ K5s).mono ?_
  rintro e W6 ⟨rfl, K6⟩
  clear K5s
  obtain ⟨mc0, mc1, mc34, mc35, mc36, mc37⟩ := K6.2.2.2.1.cells rfl
  have mf := frozen_of_row W6 (w.heap.size + 1) 34 _ _ K6.2.2.2.1
  go_wp2_with fail
  have K6s := K6.put 34 _ ((K6.2.2.2.1.sets rfl).2.2.1 n16)
  clear K6 mc0 mc1 mc34 mc35 mc36 mc37 mf
  refine (T7.out _ _ _ _ _ K6s).mono ?_
  rintro e W7 ⟨rfl, K7⟩
  clear K6s
  obtain ⟨mc0, mc1, mc34, mc35, mc36, mc37⟩ := K7.2.2.2.1.cells rfl
  have mf := frozen_of_row W7 (w.heap.size + 1) 35 _ _ K7.2.2.2.1
  go_wp2_with fail
  have K7s := K7.put 35 _ ((K7.2.2.2.1.sets rfl).2.2.2.1 n24)
  clear K7 mc0 mc1 mc34 mc35 mc36 mc37 mf
  refine (T8.out _ _ _ _ _ K7s).mono ?_
  rintro e W8 ⟨rfl, K8⟩
  clear K7s
  obtain ⟨mc0, mc1, mc34, mc35, mc36, mc37⟩ := K8.2.2.2.1.cells rfl
  have mf := frozen_of_row W8 (w.heap.size + 1) 1 _ _ K8.2.2.2.1
  go_wp2_with fail
  have K8s := K8.put 1 _ ((K8.2.2.2.1.sets rfl).2.1 n32)
  clear K8 mc0 mc1 mc34 mc35 mc36 mc37 mf
  refine (T9.out _ _ _ _ _ K8s).mono ?_
  rintro e W9 ⟨rfl, K9⟩
  clear K8s
  obtain ⟨mc0, mc1, mc34, mc35, mc36, mc37⟩ := K9.2.2.2.1.cells rfl
  have mf := frozen_of_row W9 (w.heap.size + 1) 36 _ _ K9.2.2.2.1
  go_wp2_with fail
  have K9s := K9.put 36 _ ((K9.2.2.2.1.sets rfl).2.2.2.2.1 n36)
  clear K9 mc0 mc1 mc34 mc35 mc36 mc37 mf
  refine (T10.out _ _ _ _ _ K9s).mono ?_
  rintro e W10 ⟨rfl, K10⟩
  clear K9s
  obtain ⟨mc0, mc1, mc34, mc35, mc36, mc37⟩ := K10.2.2.2.1.cells rfl
  have mf := frozen_of_row W10 (w.heap.size + 1) 37 _ _ K10.2.2.2.1
  go_wp2_with fail
  have K10s := K10.put 37 _ ((K10.2.2.2.1.sets rfl).2.2.2.2.2 n40)
  clear K10 mc0 mc1 mc34 mc35 mc36 mc37 mf
  refine (T11.out _ _ _ _ _ K10s).mono ?_
  rintro e W11 ⟨rfl, K11⟩
  clear K10s
  have hth := K11.2.2.2.1.there_sum rfl
  have hDsz : (Tryd.prog.info? 30).map (·.size) = some (bcells DD).toArray.size := by rw [Tryd.ainfoD]; simp [bcells, hD32]
  have hDs : (bcells DD).toArray.size = 32 := by simp [bcells, hD32]
  have hDone := bcells_one DD
  rw [← hDs] at hth
  have K11s := K11.putD rfl DD hD32
  have hre : ({ v := n8, rp := n32, d := DD, c := n16, rv := n24, li := n36, pg := n40 } : Rec) = RA := HR.out.symm
  have K12' : PSt w (W11.setCells (w.heap.size + 1) 2 (bcells DD)) rb s 76 PA QA RA := by rw [← hre, HQ.out]; exact K11s
  clear K11s K11 hre
  have hsM : (Tryd.prog.info? 34).map (·.size) = some RA.arr.size := by rw [Tryd.infoM, arr_size RA HOK.out.d]
  have HC : Hid (∀ W, Calls Tryd.prog 16 #[frameV PA QA, metaV RA] W fun e w' => e = .returned (.int .i64 (chkM PA QA RA)) ∧ Same W w') := check_calls PA QA RA HOK.out.d
  clear T1 T2 T3 T4 T5 T6 T7 T8 T9 T10 T11 HO HR HPA hsh hq5 hD32
  go_wp2_with (first | (refine wpList_store_so (fun W => PSt w W rb s 76 PA QA RA) (by rfl) 30 _ _ (by rfl) (w.heap.size + 1) 2 (bcells DD).toArray (by rfl) (by rfl) hth hDsz hDone K12' ?_; intro W12 K12; obtain ⟨fc0, fc1, ff0, ff1⟩ := PSt.fcells K12; have hA12 := K12.2.2.2.1; have s12 := K12.2.2.2.2) | (refine wpList_load_row (by rfl) 34 _ (by rfl) (w.heap.size + 1) (by rfl) 34 RA.arr (0, 0) _ hA12 Tryd.underlying34 rfl hsM ?_))
  refine (HC.out _).mono ?_
  rintro e W13 ⟨rfl, s13⟩
  have F13 : FM w PA QA RA W13 := FM.same ⟨K12.2.2.1, hA12, s12⟩ s13
  have hsL : (Tryd.prog.info? 34).map (·.size) = some RA.cells.length := by rw [Tryd.infoM, cells_length RA HOK.out.d]
  have hAone := arr_one RA
  have HRES : Hid (∀ (tmps : Array Value) (W : World), FM w PA QA RA W → tmps.getD 2 undef = .pointer (some ⟨w.heap.size, 0, none⟩) → tmps.getD 3 undef = .pointer (some ⟨w.heap.size + 1, 0, none⟩) → (results Tryd.f20 tmps).run Tryd.prog W = .ok (.tuple #[frameV PA QA, metaV RA, tmps.getD 4 undef]) W) := fun tmps W h hp hq => results_cell2_tmp (p := 2) (q := 3) (u := 4) (ty := 23) (uy := 34) (by kernel_rfl) tmps W w.heap.size (w.heap.size + 1) 23 34 _ _ (0, 0) (0, 0) _ _ hp h.1 Tryd.underlying23 rfl (by kernel_rfl) hq h.2.1 Tryd.underlying34 rfl hsM
  clear fc0 fc1 ff0 ff1 hA12 s12 s13 K12
  obtain ⟨fc0, fc1, ff0, ff1⟩ := cell_of_two F13.1
  have hA13 := F13.2.1
  by_cases hmay : mayM PA QA RA = true
  · have hf := (mayM_parts hmay).1
    have HFO : Hid (∀ W, Same w W → Calls Tryd.prog 24 #[frameV PA QA, metaV RA] W fun e w' => e = .returned (.string (formS PA QA RA)) ∧ Same W w') := fun W h => form_calls hf RA HOK.out W (ht.same h) (hz.same h)
    have hfs := formS_size PA QA RA HOK.out.d
    have HL : Hid (∀ W, Calls Tryd.prog 19 #[.string (formS PA QA RA), .int .i64 s.size] W fun e w' => e = .returned (.string (fillS (formS PA QA RA) s.size)) ∧ Same W w') := fun W => filled_calls (formS PA QA RA) s.size (by omega) (by omega) W
    rw [chkM_ok hmay]
    have hLA : LA = (s.toList == (fillS (formS PA QA RA) s.size).toList) := by
      rw [HLA.out, hmay, Bool.true_and, Bool.eq_iff_iff, decide_eq_true_eq, beq_iff_eq, ByteArray.toList_eq, ByteArray.toList_eq]
      exact ⟨fun h => congrArg (fun x => x.data.toList) h, bytes_ext⟩
    have hEq : (s.toList == (fillS (formS PA QA RA) s.size).toList) = LA := hLA.symm
    generalize fillS (formS PA QA RA) s.size = FS at *
    generalize formS PA QA RA = F at *
    clear hLA HLA hfs hf hmay hs hl
    have t13 := F13.2.2
    go_wp2_with (first | (refine wpList_load_want (by rfl) 34 _ (by rfl) (w.heap.size + 1) (by rfl) 34 RA.arr (0, 0) _ hA13 Tryd.underlying34 rfl hsM ?_))
    refine (HFO.out _ t13).mono ?_
    rintro e W14 ⟨rfl, s14⟩
    go_wp2_with fail
    refine (HL.out _).mono ?_
    rintro e W15 ⟨rfl, s15⟩
    have F15 := (F13.same s14).same s15
    clear fc0 fc1 ff0 ff1 hA13 F13 s14 s15 t13
    go_wp2_with fail
    generalize W15 = W13 at *
    have F13 := F15
    refine wp_region_held_drew (S := FM w PA QA RA) (by kernel_rfl) (F13.same (Fr.drew (Fr.refl _ _))) (fun hHeld => ?_)
    refine wpAnyH_take (i := 0) (oi := { dst := some 59, op := Op.load 23 (Operand.tmp 2), type := 23, pos := "form.go:50", after := #[], guard := none }) (v := .agg #[.int .i64 PA, .int .i64 QA]) rfl (by kernel_rfl) (by kernel_rfl) (by kernel_rfl) (fun _ _ _ h => h) (Or.inl ⟨by rfl, fun w hSw => by (obtain ⟨a0, a1, _, _⟩ := cell_of_two hSw.1; go_simp)⟩) (by assumption) ?_
    try simp only [Act.put, List.setIfInBounds_toArray, List.set_cons_zero, List.set_cons_succ]
    refine wpAnyH_take (i := 1) (oi := { dst := some 60, op := Op.load 34 (Operand.tmp 3), type := 34, pos := "form.go:50", after := #[{ on := 3, ground := Ground.gcOnly Departure.lateStores }], guard := none }) (v := .agg (RA.cells).toArray) rfl (by kernel_rfl) (by kernel_rfl) (by kernel_rfl) (fun _ _ _ h => h) (yieldsIf_load_mid (by rfl) 34 _ rfl (w.heap.size + 1) 0 rfl (RA.cells) _ (fun w hSw => range_of_row hSw.2.1) Tryd.underlying34 rfl hsL) (by assumption) ?_
    try simp only [Act.put, List.setIfInBounds_toArray, List.set_cons_zero, List.set_cons_succ]
    refine wpAnyH_take (i := 2) (oi := { dst := some 61, op := Op.move (Operand.tmp 4), type := 4, pos := "form.go:50", after := #[{ on := 4, ground := Ground.gcOnly Departure.lateStores }], guard := none }) (v := .bool LA) rfl (by kernel_rfl) (by kernel_rfl) (by kernel_rfl) (fun _ _ _ h => h) (Or.inl ⟨by rfl, fun w hSw => by go_simp⟩) (by assumption) ?_
    try simp only [Act.put, List.setIfInBounds_toArray, List.set_cons_zero, List.set_cons_succ]
    refine wpAnyH_ready (rs := [3]) (by kernel_rfl) (by simp) ?_
    refine AllReadyH.cons (o := { dst := none, op := Op.store 23 (Operand.tmp 2) (Operand.tmp 59), type := 0, pos := "form.go:50", after := #[{ on := 0, ground := Ground.data }, { on := 0, ground := Ground.phase }, { on := 1, ground := Ground.textOnly Departure.lateStores }, { on := 2, ground := Ground.textOnly Departure.lateStores }], guard := none }) rfl (fun K hK => ?_) AllReadyH.nil
    obtain ⟨fc0, fc1, ff0, ff1⟩ := cell_of_two F13.1
    go_simp
    refine hK.out _ _ ((F13.same (Fr.drew (Fr.refl _ _))).putF) (fun hHeld => ?_)
    clear hK K
    try simp only [Act.put, List.setIfInBounds_toArray, List.set_cons_zero, List.set_cons_succ]
    refine wpAnyH_ready (rs := [4]) (by kernel_rfl) (by simp) ?_
    refine AllReadyH.cons (o := { dst := none, op := Op.store 34 (Operand.tmp 3) (Operand.tmp 60), type := 0, pos := "form.go:50", after := #[{ on := 1, ground := Ground.data }, { on := 3, ground := Ground.chain }, { on := 0, ground := Ground.phase }, { on := 1, ground := Ground.phase }, { on := 2, ground := Ground.textOnly Departure.lateStores }, { on := 3, ground := Ground.phase }], guard := none }) rfl (fun K hK => ?_) AllReadyH.nil
    rw [if_pos (by rfl)]
    refine wp_store_mid 34 _ _ rfl (w.heap.size + 1) 0 RA.arr rfl rfl (there_row (FM.putF (F13.same (Fr.drew (Fr.refl _ _)))).2.1 rfl) hsM hAone ?_
    refine hK.out _ _ (FM.putM (FM.putF (F13.same (Fr.drew (Fr.refl _ _))))) (fun hHeld => ?_)
    clear hK K
    try simp only [Act.put]
    refine wpAnyH_take (i := 5) (oi := { dst := some 4, op := Op.assign (Operand.tmp 61), type := 4, pos := "form.go:50", after := #[{ on := 2, ground := Ground.data }, { on := 4, ground := Ground.chain }, { on := 0, ground := Ground.phase }, { on := 1, ground := Ground.phase }, { on := 2, ground := Ground.phase }, { on := 3, ground := Ground.phase }, { on := 4, ground := Ground.phase }], guard := none }) (v := .bool LA) rfl (by kernel_rfl) (by kernel_rfl) (by kernel_rfl) (fun _ _ _ h => h) (Or.inl ⟨by rfl, fun w hSw => by go_simp⟩) (by assumption) ?_
    try simp only [Act.put, List.setIfInBounds_toArray, List.set_cons_zero, List.set_cons_succ]
    refine wpAnyH_done (by kernel_rfl) ?_ _
    have F16 := FM.putM (FM.putF (F13.same (Fr.drew (Fr.refl _ _))))
    go_wp2_with fail
    exact bodyPost_ret (HRES.out _ _ F16 rfl rfl) rfl ⟨rfl, F16.2.2⟩
  · have hmf : mayM PA QA RA = false := by simpa using hmay
    rw [chkM_bad hmf]
    have hLA : LA = false := by rw [HLA.out, hmf]; rfl
    subst hLA
    clear HLA hmf hmay
    go_wp2_with fail
    refine wp_region_held_drew (S := FM w PA QA RA) (by kernel_rfl) (F13.same (Fr.drew (Fr.refl _ _))) (fun hHeld => ?_)
    refine wpAnyH_take (i := 0) (oi := { dst := some 59, op := Op.load 23 (Operand.tmp 2), type := 23, pos := "form.go:50", after := #[], guard := none }) (v := .agg #[.int .i64 PA, .int .i64 QA]) rfl (by kernel_rfl) (by kernel_rfl) (by kernel_rfl) (fun _ _ _ h => h) (Or.inl ⟨by rfl, fun w hSw => by (obtain ⟨a0, a1, _, _⟩ := cell_of_two hSw.1; go_simp)⟩) (by assumption) ?_
    try simp only [Act.put, List.setIfInBounds_toArray, List.set_cons_zero, List.set_cons_succ]
    refine wpAnyH_take (i := 1) (oi := { dst := some 60, op := Op.load 34 (Operand.tmp 3), type := 34, pos := "form.go:50", after := #[{ on := 3, ground := Ground.gcOnly Departure.lateStores }], guard := none }) (v := .agg (RA.cells).toArray) rfl (by kernel_rfl) (by kernel_rfl) (by kernel_rfl) (fun _ _ _ h => h) (yieldsIf_load_mid (by rfl) 34 _ rfl (w.heap.size + 1) 0 rfl (RA.cells) _ (fun w hSw => range_of_row hSw.2.1) Tryd.underlying34 rfl hsL) (by assumption) ?_
    try simp only [Act.put, List.setIfInBounds_toArray, List.set_cons_zero, List.set_cons_succ]
    refine wpAnyH_take (i := 2) (oi := { dst := some 61, op := Op.move (Operand.tmp 4), type := 4, pos := "form.go:50", after := #[{ on := 4, ground := Ground.gcOnly Departure.lateStores }], guard := none }) (v := .bool false) rfl (by kernel_rfl) (by kernel_rfl) (by kernel_rfl) (fun _ _ _ h => h) (Or.inl ⟨by rfl, fun w hSw => by go_simp⟩) (by assumption) ?_
    try simp only [Act.put, List.setIfInBounds_toArray, List.set_cons_zero, List.set_cons_succ]
    refine wpAnyH_ready (rs := [3]) (by kernel_rfl) (by simp) ?_
    refine AllReadyH.cons (o := { dst := none, op := Op.store 23 (Operand.tmp 2) (Operand.tmp 59), type := 0, pos := "form.go:50", after := #[{ on := 0, ground := Ground.data }, { on := 0, ground := Ground.phase }, { on := 1, ground := Ground.textOnly Departure.lateStores }, { on := 2, ground := Ground.textOnly Departure.lateStores }], guard := none }) rfl (fun K hK => ?_) AllReadyH.nil
    obtain ⟨fc0, fc1, ff0, ff1⟩ := cell_of_two F13.1
    go_simp
    refine hK.out _ _ ((F13.same (Fr.drew (Fr.refl _ _))).putF) (fun hHeld => ?_)
    clear hK K
    try simp only [Act.put, List.setIfInBounds_toArray, List.set_cons_zero, List.set_cons_succ]
    refine wpAnyH_ready (rs := [4]) (by kernel_rfl) (by simp) ?_
    refine AllReadyH.cons (o := { dst := none, op := Op.store 34 (Operand.tmp 3) (Operand.tmp 60), type := 0, pos := "form.go:50", after := #[{ on := 1, ground := Ground.data }, { on := 3, ground := Ground.chain }, { on := 0, ground := Ground.phase }, { on := 1, ground := Ground.phase }, { on := 2, ground := Ground.textOnly Departure.lateStores }, { on := 3, ground := Ground.phase }], guard := none }) rfl (fun K hK => ?_) AllReadyH.nil
    rw [if_pos (by rfl)]
    refine wp_store_mid 34 _ _ rfl (w.heap.size + 1) 0 RA.arr rfl rfl (there_row (FM.putF (F13.same (Fr.drew (Fr.refl _ _)))).2.1 rfl) hsM hAone ?_
    refine hK.out _ _ (FM.putM (FM.putF (F13.same (Fr.drew (Fr.refl _ _))))) (fun hHeld => ?_)
    clear hK K
    try simp only [Act.put]
    refine wpAnyH_take (i := 5) (oi := { dst := some 4, op := Op.assign (Operand.tmp 61), type := 4, pos := "form.go:50", after := #[{ on := 2, ground := Ground.data }, { on := 4, ground := Ground.chain }, { on := 0, ground := Ground.phase }, { on := 1, ground := Ground.phase }, { on := 2, ground := Ground.phase }, { on := 3, ground := Ground.phase }, { on := 4, ground := Ground.phase }], guard := none }) (v := .bool false) rfl (by kernel_rfl) (by kernel_rfl) (by kernel_rfl) (fun _ _ _ h => h) (Or.inl ⟨by rfl, fun w hSw => by go_simp⟩) (by assumption) ?_
    try simp only [Act.put, List.setIfInBounds_toArray, List.set_cons_zero, List.set_cons_succ]
    refine wpAnyH_done (by kernel_rfl) ?_ _
    have F16 := FM.putM (FM.putF (F13.same (Fr.drew (Fr.refl _ _))))
    go_wp2_with fail
    exact bodyPost_ret (HRES.out _ _ F16 rfl rfl) rfl ⟨rfl, F16.2.2⟩
end Go.Proofs.YtaknpcimdpdekaaDoor
