/- The document's Pick, way by way. -/
import Derived.Test.YtjfkkjangebblaaDoorMR2
namespace Go.Proofs.YtjfkkjangebblaaDoor
open Go.RowKit

set_option maxRecDepth 100000 in
set_option maxHeartbeats 2000000 in
theorem rpick_frame {p q pages : Int} {z o : ByteArray} {ZA : Array Value} (w : World) (hzl : (#[.int .u64 0, .int .u32 0, .int .u8 0, .int .u8 0, .int .u8 0, .int .u8 0, .int .u8 0, .int .u8 0, .int .u8 0, .int .u8 0, .int .u8 0, .int .u8 0, .int .u8 0, .int .u8 0, .int .u8 0, .int .u8 0, .int .u8 0, .int .u8 0, .int .u8 0, .int .u8 0, .int .u8 0, .int .u8 0, .int .u8 0, .int .u8 0, .int .u8 0, .int .u8 0, .int .u8 0, .int .u8 0, .int .u8 0, .int .u8 0, .int .u8 0, .int .u8 0, .int .u8 0, .int .u8 0, .int .u64 0, .int .u64 0, .int .u32 0, .int .u32 0] : Array Value) = ZA) (hzs : ZA.size = 38) (hzo : ZA.all (·.oneCell') = true)
    (HF : Hid (∀ W, Calls Tryd.prog 25 #[frameV p q] W fun e w' => e = .returned (.bool false) ∧ Same W w')) :
    Calls Tryd.prog 13 #[frameV p q, .string z, .string o, .int .i64 pages] w fun e w' => e = .returned (.tuple #[.agg ZA, .int .u32 0, .int .i64 2]) ∧ Same w w' := by
  have hzl := hzl
  have hzz : (Tryd.prog.info? 34).map (·.size) = some ZA.size := by rw [Tryd.infoM, hzs]
  have sx : Same w ((w.alloc (.cells #[.int .i64 p, .int .i64 q] 23)).alloc (.cells ZA 34)) := ((Fr.refl _ w).alloc _).alloc _
  have rz : ((w.alloc (.cells #[.int .i64 p, .int .i64 q] 23)).alloc (.cells ZA 34)).heap[w.heap.size + 1]? = some (.cells ZA 34 (0, 0)) := heap_alloc2_new w _ _
  have c0 : ((w.alloc (.cells #[.int .i64 p, .int .i64 q] 23)).alloc (.cells ZA 34)).cell? ⟨w.heap.size, 0, none⟩ = some (.int .i64 p) := by simp
  have c1 : ((w.alloc (.cells #[.int .i64 p, .int .i64 q] 23)).alloc (.cells ZA 34)).cell? ⟨w.heap.size, 1, none⟩ = some (.int .i64 q) := by simp
  have HRES : Hid (∀ (tmps : Array Value) (W : World) (cs : Array Value), W.heap[w.heap.size + 1]? = some (.cells cs 34 (0, 0)) → cs.size = 38 → tmps.getD 8 undef = .pointer (some ⟨w.heap.size + 1, 0, none⟩) → (results Tryd.f13 tmps).run Tryd.prog W = .ok (.tuple #[.agg cs, tmps.getD 9 undef, tmps.getD 10 undef]) W) := fun tmps W cs h h4 hp => results_cell_tmp2 (p := 8) (u := 9) (v := 10) (ty := 34) (by kernel_rfl) tmps W (w.heap.size + 1) 34 _ (0, 0) _ hp h Tryd.underlying34 rfl (by rw [h4]; exact Tryd.infoM)
  go_enter Tryd.func13, Tryd.ntmps13
  go_wp2_with fail
  generalize ((w.alloc (.cells #[.int .i64 p, .int .i64 q] 23)).alloc (.cells ZA 34)) = V at *
  refine (HF.out _).mono ?_
  rintro e W1 ⟨rfl, s1⟩
  have c0 := s1.keep c0
  have c1 := s1.keep c1
  have rz := (s1.block _ (lt_of_heap rz) (fun f => f)).trans rz
  have t1 := sx.trans s1
  clear s1 sx
  go_wp2_with (refine wpList_store_whole (by rfl) 34 _ _ (by rfl) (w.heap.size + 1) ZA ZA 34 (by rfl) (by rfl) rz rfl hzz hzo ?_; intro WE rE fE)
  exact bodyPost_ret (HRES.out _ _ _ rE hzs rfl) rfl ⟨rfl, Fr.trans t1 fE (fun i hi e => by omega)⟩

set_option maxRecDepth 100000 in
set_option maxHeartbeats 2000000 in
theorem rpick_few {p q pages : Int} {z o : ByteArray} {ZA : Array Value} (w : World) (hzl : (#[.int .u64 0, .int .u32 0, .int .u8 0, .int .u8 0, .int .u8 0, .int .u8 0, .int .u8 0, .int .u8 0, .int .u8 0, .int .u8 0, .int .u8 0, .int .u8 0, .int .u8 0, .int .u8 0, .int .u8 0, .int .u8 0, .int .u8 0, .int .u8 0, .int .u8 0, .int .u8 0, .int .u8 0, .int .u8 0, .int .u8 0, .int .u8 0, .int .u8 0, .int .u8 0, .int .u8 0, .int .u8 0, .int .u8 0, .int .u8 0, .int .u8 0, .int .u8 0, .int .u8 0, .int .u8 0, .int .u64 0, .int .u64 0, .int .u32 0, .int .u32 0] : Array Value) = ZA) (hzs : ZA.size = 38)
    (HF : Hid (∀ W, Calls Tryd.prog 25 #[frameV p q] W fun e w' => e = .returned (.bool true) ∧ Same W w')) (hpg : pages < 2) {EA : Array Value} (hE : ZA.setIfInBounds 37 (.int .u32 2) = EA) (hzn : ¬ ZA = #[]) (hEs : EA.size = 38) (hEo : EA.all (·.oneCell') = true) :
    Calls Tryd.prog 13 #[frameV p q, .string z, .string o, .int .i64 pages] w fun e w' => e = .returned (.tuple #[.agg EA, .int .u32 0, .int .i64 0]) ∧ Same w w' := by
  have hpg := hpg
  have hE := hE
  have hzn := hzn
  have hEz : (Tryd.prog.info? 34).map (·.size) = some EA.size := by rw [Tryd.infoM, hEs]
  have hzl := hzl
  have hzz : (Tryd.prog.info? 34).map (·.size) = some ZA.size := by rw [Tryd.infoM, hzs]
  have sx : Same w ((w.alloc (.cells #[.int .i64 p, .int .i64 q] 23)).alloc (.cells ZA 34)) := ((Fr.refl _ w).alloc _).alloc _
  have rz : ((w.alloc (.cells #[.int .i64 p, .int .i64 q] 23)).alloc (.cells ZA 34)).heap[w.heap.size + 1]? = some (.cells ZA 34 (0, 0)) := heap_alloc2_new w _ _
  have c0 : ((w.alloc (.cells #[.int .i64 p, .int .i64 q] 23)).alloc (.cells ZA 34)).cell? ⟨w.heap.size, 0, none⟩ = some (.int .i64 p) := by simp
  have c1 : ((w.alloc (.cells #[.int .i64 p, .int .i64 q] 23)).alloc (.cells ZA 34)).cell? ⟨w.heap.size, 1, none⟩ = some (.int .i64 q) := by simp
  have HRES : Hid (∀ (tmps : Array Value) (W : World) (cs : Array Value), W.heap[w.heap.size + 1]? = some (.cells cs 34 (0, 0)) → cs.size = 38 → tmps.getD 8 undef = .pointer (some ⟨w.heap.size + 1, 0, none⟩) → (results Tryd.f13 tmps).run Tryd.prog W = .ok (.tuple #[.agg cs, tmps.getD 9 undef, tmps.getD 10 undef]) W) := fun tmps W cs h h4 hp => results_cell_tmp2 (p := 8) (u := 9) (v := 10) (ty := 34) (by kernel_rfl) tmps W (w.heap.size + 1) 34 _ (0, 0) _ hp h Tryd.underlying34 rfl (by rw [h4]; exact Tryd.infoM)
  go_enter Tryd.func13, Tryd.ntmps13
  go_wp2_with fail
  generalize ((w.alloc (.cells #[.int .i64 p, .int .i64 q] 23)).alloc (.cells ZA 34)) = V at *
  refine (HF.out _).mono ?_
  rintro e W1 ⟨rfl, s1⟩
  have c0 := s1.keep c0
  have c1 := s1.keep c1
  have rz := (s1.block _ (lt_of_heap rz) (fun f => f)).trans rz
  have t1 := sx.trans s1
  clear s1 sx
  go_wp2_with (refine wpList_store_whole (by rfl) 34 _ _ (by rfl) (w.heap.size + 1) EA ZA 34 (by rfl) (by rfl) rz (by rw [hzs, hEs]) hEz hEo ?_; intro WE rE fE)
  exact bodyPost_ret (HRES.out _ _ _ rE hEs rfl) rfl ⟨rfl, Fr.trans t1 fE (fun i hi e => by omega)⟩

set_option maxRecDepth 100000 in
set_option maxHeartbeats 2000000 in
theorem rpick_sizes {p q pages : Int} {z o : ByteArray} {ZA : Array Value} (w : World) (hzl : (#[.int .u64 0, .int .u32 0, .int .u8 0, .int .u8 0, .int .u8 0, .int .u8 0, .int .u8 0, .int .u8 0, .int .u8 0, .int .u8 0, .int .u8 0, .int .u8 0, .int .u8 0, .int .u8 0, .int .u8 0, .int .u8 0, .int .u8 0, .int .u8 0, .int .u8 0, .int .u8 0, .int .u8 0, .int .u8 0, .int .u8 0, .int .u8 0, .int .u8 0, .int .u8 0, .int .u8 0, .int .u8 0, .int .u8 0, .int .u8 0, .int .u8 0, .int .u8 0, .int .u8 0, .int .u8 0, .int .u64 0, .int .u64 0, .int .u32 0, .int .u32 0] : Array Value) = ZA) (hzs : ZA.size = 38) (hzo : ZA.all (·.oneCell') = true)
    (HF : Hid (∀ W, Calls Tryd.prog 25 #[frameV p q] W fun e w' => e = .returned (.bool true) ∧ Same W w')) (hpg : ¬ pages < 2) (hne : ((z.size : Int) != p) = true ∨ (((z.size : Int) != p) = false ∧ ((o.size : Int) != p) = true)) :
    Calls Tryd.prog 13 #[frameV p q, .string z, .string o, .int .i64 pages] w fun e w' => e = .returned (.tuple #[.agg ZA, .int .u32 0, .int .i64 2]) ∧ Same w w' := by
  have hpg := hpg
  have hzl := hzl
  have hzz : (Tryd.prog.info? 34).map (·.size) = some ZA.size := by rw [Tryd.infoM, hzs]
  have sx : Same w ((w.alloc (.cells #[.int .i64 p, .int .i64 q] 23)).alloc (.cells ZA 34)) := ((Fr.refl _ w).alloc _).alloc _
  have rz : ((w.alloc (.cells #[.int .i64 p, .int .i64 q] 23)).alloc (.cells ZA 34)).heap[w.heap.size + 1]? = some (.cells ZA 34 (0, 0)) := heap_alloc2_new w _ _
  have c0 : ((w.alloc (.cells #[.int .i64 p, .int .i64 q] 23)).alloc (.cells ZA 34)).cell? ⟨w.heap.size, 0, none⟩ = some (.int .i64 p) := by simp
  have c1 : ((w.alloc (.cells #[.int .i64 p, .int .i64 q] 23)).alloc (.cells ZA 34)).cell? ⟨w.heap.size, 1, none⟩ = some (.int .i64 q) := by simp
  have HRES : Hid (∀ (tmps : Array Value) (W : World) (cs : Array Value), W.heap[w.heap.size + 1]? = some (.cells cs 34 (0, 0)) → cs.size = 38 → tmps.getD 8 undef = .pointer (some ⟨w.heap.size + 1, 0, none⟩) → (results Tryd.f13 tmps).run Tryd.prog W = .ok (.tuple #[.agg cs, tmps.getD 9 undef, tmps.getD 10 undef]) W) := fun tmps W cs h h4 hp => results_cell_tmp2 (p := 8) (u := 9) (v := 10) (ty := 34) (by kernel_rfl) tmps W (w.heap.size + 1) 34 _ (0, 0) _ hp h Tryd.underlying34 rfl (by rw [h4]; exact Tryd.infoM)
  rcases hne with h1 | ⟨h1, h2⟩
  all_goals
    go_enter Tryd.func13, Tryd.ntmps13
    go_wp2_with fail
    generalize ((w.alloc (.cells #[.int .i64 p, .int .i64 q] 23)).alloc (.cells ZA 34)) = V at *
    refine (HF.out _).mono ?_
    rintro e W1 ⟨rfl, s1⟩
    have c0 := s1.keep c0
    have c1 := s1.keep c1
    have rz := (s1.block _ (lt_of_heap rz) (fun f => f)).trans rz
    have t1 := sx.trans s1
    clear s1 sx
    go_wp2_with (refine wpList_store_whole (by rfl) 34 _ _ (by rfl) (w.heap.size + 1) ZA ZA 34 (by rfl) (by rfl) rz rfl hzz hzo ?_; intro WE rE fE)
    exact bodyPost_ret (HRES.out _ _ _ rE hzs rfl) rfl ⟨rfl, Fr.trans t1 fE (fun i hi e => by omega)⟩

set_option maxRecDepth 100000 in
set_option maxHeartbeats 2000000 in
theorem rpick_first {p q pages : Int} {z o : ByteArray} {ZA : Array Value} {A B : Array Value} {J K : Int} {av ag bv bg : Nat} (w : World) (hzl : (#[.int .u64 0, .int .u32 0, .int .u8 0, .int .u8 0, .int .u8 0, .int .u8 0, .int .u8 0, .int .u8 0, .int .u8 0, .int .u8 0, .int .u8 0, .int .u8 0, .int .u8 0, .int .u8 0, .int .u8 0, .int .u8 0, .int .u8 0, .int .u8 0, .int .u8 0, .int .u8 0, .int .u8 0, .int .u8 0, .int .u8 0, .int .u8 0, .int .u8 0, .int .u8 0, .int .u8 0, .int .u8 0, .int .u8 0, .int .u8 0, .int .u8 0, .int .u8 0, .int .u8 0, .int .u8 0, .int .u64 0, .int .u64 0, .int .u32 0, .int .u32 0] : Array Value) = ZA) (hzs : ZA.size = 38)
    (HF : Hid (∀ W, Calls Tryd.prog 25 #[frameV p q] W fun e w' => e = .returned (.bool true) ∧ Same W w')) (hpg : ¬ pages < 2) (hne1 : ((z.size : Int) != p) = false) (hne2 : ((o.size : Int) != p) = false) (hAs : A.size = 38) (hAo : A.all (·.oneCell') = true) (hBs : B.size = 38) (hBo : B.all (·.oneCell') = true) (hag : ag < 4294967296) (hbg : bg < 4294967296)
    (HZ : Hid (∀ W, Calls Tryd.prog 26 #[frameV p q, .string z] W fun e w' => e = .returned (.tuple #[.agg A, .int .i64 J]) ∧ Same W w'))
    (HO : Hid (∀ W, Calls Tryd.prog 26 #[frameV p q, .string o] W fun e w' => e = .returned (.tuple #[.agg B, .int .i64 K]) ∧ Same W w'))
    (HCA : Hid (∀ (W : World) (g : Nat), W.heap[g]? = some (.cells A 34 (0, 0)) → W.cell? ⟨g, 0, none⟩ = some (.int .u64 av) ∧ W.cell? ⟨g, 37, none⟩ = some (.int .u32 ag)))
    (HCB : Hid (∀ (W : World) (g : Nat), W.heap[g]? = some (.cells B 34 (0, 0)) → W.cell? ⟨g, 0, none⟩ = some (.int .u64 bv) ∧ W.cell? ⟨g, 37, none⟩ = some (.int .u32 bg)))
    (hway : ((J == 1) = true ∧ (ag : Int) ≤ pages ∧ (K == 1) = false) ∨ ((J == 1) = true ∧ (ag : Int) ≤ pages ∧ (K == 1) = true ∧ ¬ (bg : Int) ≤ pages) ∨ ((J == 1) = true ∧ (ag : Int) ≤ pages ∧ (K == 1) = true ∧ (bg : Int) ≤ pages ∧ (bv : Int) ≤ (av : Int))) :
    Calls Tryd.prog 13 #[frameV p q, .string z, .string o, .int .i64 pages] w fun e w' => e = .returned (.tuple #[.agg A, .int .u32 1, .int .i64 0]) ∧ Same w w' := by
  have hpg := hpg
  have hne1 := hne1
  have hne2 := hne2
  have hAz : (Tryd.prog.info? 34).map (·.size) = some A.size := by rw [Tryd.infoM, hAs]
  have hBz : (Tryd.prog.info? 34).map (·.size) = some B.size := by rw [Tryd.infoM, hBs]
  have ua : IntKind.i64.wrap (ag : Int) = (ag : Int) := by rw [IntKind.wrap_i64]; omega
  have ub : IntKind.i64.wrap (bg : Int) = (bg : Int) := by rw [IntKind.wrap_i64]; omega
  clear hag hbg
  have hzl := hzl
  have hzz : (Tryd.prog.info? 34).map (·.size) = some ZA.size := by rw [Tryd.infoM, hzs]
  have sx : Same w ((w.alloc (.cells #[.int .i64 p, .int .i64 q] 23)).alloc (.cells ZA 34)) := ((Fr.refl _ w).alloc _).alloc _
  have rz : ((w.alloc (.cells #[.int .i64 p, .int .i64 q] 23)).alloc (.cells ZA 34)).heap[w.heap.size + 1]? = some (.cells ZA 34 (0, 0)) := heap_alloc2_new w _ _
  have c0 : ((w.alloc (.cells #[.int .i64 p, .int .i64 q] 23)).alloc (.cells ZA 34)).cell? ⟨w.heap.size, 0, none⟩ = some (.int .i64 p) := by simp
  have c1 : ((w.alloc (.cells #[.int .i64 p, .int .i64 q] 23)).alloc (.cells ZA 34)).cell? ⟨w.heap.size, 1, none⟩ = some (.int .i64 q) := by simp
  have HRES : Hid (∀ (tmps : Array Value) (W : World) (cs : Array Value), W.heap[w.heap.size + 1]? = some (.cells cs 34 (0, 0)) → cs.size = 38 → tmps.getD 8 undef = .pointer (some ⟨w.heap.size + 1, 0, none⟩) → (results Tryd.f13 tmps).run Tryd.prog W = .ok (.tuple #[.agg cs, tmps.getD 9 undef, tmps.getD 10 undef]) W) := fun tmps W cs h h4 hp => results_cell_tmp2 (p := 8) (u := 9) (v := 10) (ty := 34) (by kernel_rfl) tmps W (w.heap.size + 1) 34 _ (0, 0) _ hp h Tryd.underlying34 rfl (by rw [h4]; exact Tryd.infoM)
  rcases hway with ⟨h1, h2, h3⟩ | ⟨h1, h2, h3, h4⟩ | ⟨h1, h2, h3, h4, h5⟩
  all_goals
    go_enter Tryd.func13, Tryd.ntmps13
    go_wp2_with fail
    generalize ((w.alloc (.cells #[.int .i64 p, .int .i64 q] 23)).alloc (.cells ZA 34)) = V at *
    refine (HF.out _).mono ?_
    rintro e W1 ⟨rfl, s1⟩
    have c0 := s1.keep c0
    have c1 := s1.keep c1
    have rz := (s1.block _ (lt_of_heap rz) (fun f => f)).trans rz
    have t1 := sx.trans s1
    clear s1 sx
    go_wp2_with fail
    refine (HZ.out _).mono ?_
    rintro e W2 ⟨rfl, s2⟩
    have c0 := s2.keep c0
    have c1 := s2.keep c1
    have rz := (s2.block _ (lt_of_heap rz) (fun f => f)).trans rz
    have t2 := t1.trans s2
    clear s2 t1
    have hl2 : w.heap.size + 1 < W2.heap.size := lt_of_heap rz
    go_wp2_with (refine wpList_store_whole (by rfl) 34 _ _ (by rfl) W2.heap.size A ZA 34 (by rfl) (by rfl) (heap_alloc_new W2 _) (by rw [hzs, hAs]) hAz hAo ?_; intro W3 r3 f3; have s3 : Same W2 W3 := Fr.trans ((Fr.refl _ W2).alloc _) f3 (fun i hi e => by omega); have c0 := s3.keep c0; have c1 := s3.keep c1; have rz := (s3.block _ (lt_of_heap rz) (fun f => f)).trans rz; have t3 := t2.trans s3)
    clear f3 s3 t2
    refine (HO.out _).mono ?_
    rintro e W4 ⟨rfl, s4⟩
    have c0 := s4.keep c0
    have c1 := s4.keep c1
    have rz := (s4.block _ (lt_of_heap rz) (fun f => f)).trans rz
    have r3 := (s4.block _ (lt_of_heap r3) (fun f => f)).trans r3
    have t4 := t3.trans s4
    clear s4 t3
    have hl4 : W2.heap.size < W4.heap.size := lt_of_heap r3
    have hl5 : w.heap.size + 1 < W4.heap.size := lt_of_heap rz
    go_wp2_with (first | (refine wpList_store_whole (by rfl) 34 _ _ (by rfl) W4.heap.size B ZA 34 (by rfl) (by rfl) (heap_alloc_new W4 _) (by rw [hzs, hBs]) hBz hBo ?_; intro W5 r5 f5; have s5 : Same W4 W5 := Fr.trans ((Fr.refl _ W4).alloc _) f5 (fun i hi e => by omega); have rz := (s5.block _ (lt_of_heap rz) (fun f => f)).trans rz; have r3 := (s5.block _ (lt_of_heap r3) (fun f => f)).trans r3; have t5 := t4.trans s5; have xa := HCA.out _ _ r3; have xb := HCB.out _ _ r5; have a0 := xa.1; have a37 := xa.2; have b0 := xb.1; have b37 := xb.2; clear xa xb f5 s5) | (refine wpList_load_want (by rfl) 34 _ (by rfl) W2.heap.size (by rfl) 34 A (0, 0) _ r3 Tryd.underlying34 rfl hAz ?_) | (refine wpList_store_whole (by rfl) 34 _ _ (by rfl) (w.heap.size + 1) A ZA 34 (by rfl) (by rfl) rz (by rw [hzs, hAs]) hAz hAo ?_; intro WE rE fE))
    exact bodyPost_ret (HRES.out _ _ _ rE hAs rfl) rfl ⟨rfl, Fr.trans t5 fE (fun i hi e => by omega)⟩

end Go.Proofs.YtjfkkjangebblaaDoor
