/- Walks: MetaGoes. -/
import Derived.Test.YtepbphgpklphiaaDoorMI
import Derived.Test.YtepbphgpklphiaaDoorMK
namespace Go.Proofs.YtepbphgpklphiaaDoor
open Go.RowKit

theorem wpList_load_mid_want {P : Program} {ops : Array Oper} {rest : List Oper} {op : Oper} {a : Act} {w : World} {Q : Exit → Act → World → Prop} (hw : Region.wanted op (yielded ops a.tmps) = true) (ty : TypeId) (x : Operand) (ho : op.op = .load ty x)
    (b o : Nat) (hx : a.eval x = .pointer (some ⟨b, o, none⟩)) (cs : List Value) (d : TypeDesc) (hc : w.rangeAt b o cs)
    (hu : P.underlying ty = some d) (hd : d.isRow = true) (hi : (P.info? ty).map (·.size) = some cs.length)
    (h : wpList P ops Q rest (a.put op.dst (.agg cs.toArray)) w) : wpList P ops Q (op :: rest) a w :=
  BigFrame.wpList_want hw fun _ hK => wp_load_mid ty x ho b o hx cs d hc hu hd hi (hK _ _ h)

set_option maxRecDepth 100000 in
set_option maxHeartbeats 2000000 in
theorem mgoes_skip {p q : Int} {z o PG : ByteArray} {ZA TA OA NA : Array Value} {OV NV NP NX came : Nat} {pages E G : Int} (w : World) (hzl : (#[.int .u64 0, .int .u32 0, .int .u8 0, .int .u8 0, .int .u8 0, .int .u8 0, .int .u8 0, .int .u8 0, .int .u8 0, .int .u8 0, .int .u8 0, .int .u8 0, .int .u8 0, .int .u8 0, .int .u8 0, .int .u8 0, .int .u8 0, .int .u8 0, .int .u8 0, .int .u8 0, .int .u8 0, .int .u8 0, .int .u8 0, .int .u8 0, .int .u8 0, .int .u8 0, .int .u8 0, .int .u8 0, .int .u8 0, .int .u8 0, .int .u8 0, .int .u8 0, .int .u8 0, .int .u8 0, .int .u64 0, .int .u64 0, .int .u32 0, .int .u32 0] : Array Value) = ZA) (hzs : ZA.size = 38) (hOs : OA.size = 38) (hOo : OA.all (·.oneCell') = true) (hNs : NA.size = 38) (hOV : OA[0]? = some (.int .u64 OV)) (hT0 : TA[0]? = some (.int .u64 NV)) (hT37 : TA[37]? = some (.int .u32 NP)) (hT38 : TA[38]? = some (.int .u8 came)) (hT39 : TA[39]? = some (.int .i64 pages)) (hTN : Hid (∀ (j : Nat) (v : Value), NA[j]? = some v → TA[j]? = some v)) (hNP : NP < 4294967296)
    (hbad : (E != 0) = true ∨ ((E != 0) = false ∧ (G != 0) = true) ∨ ((E != 0) = false ∧ (G != 0) = false ∧ pages < 2) ∨ ((E != 0) = false ∧ (G != 0) = false ∧ ¬ pages < 2 ∧ (NV : Int) ≤ (OV : Int)) ∨ ((E != 0) = false ∧ (G != 0) = false ∧ ¬ pages < 2 ∧ ¬ (NV : Int) ≤ (OV : Int) ∧ pages < (NP : Int)))
    (HA : Hid (∀ W, Same w W → Calls Tryd.prog 9 #[] W fun e w' => e = .returned (.bool true) ∧ Same W w'))
    (HK : Hid (∀ W, Same w W → Calls Tryd.prog 14 #[frameV p q, .string z, .string o, .int .i64 pages] W fun e w' => e = .returned (.tuple #[.agg OA, .int .u32 NX, .int .i64 E]) ∧ Same W w'))
    (HE : Hid (∀ W, Same w W → Calls Tryd.prog 10 #[frameV p q, .agg NA] W fun e w' => e = .returned (.tuple #[.string PG, .int .i64 G]) ∧ Same W w')) :
    Calls Tryd.prog 7 #[frameV p q, .agg #[.string z, .string o], .agg TA] w fun e w' => e = .returned (.bool true) ∧ Same w w' := by
  have hzl := hzl
  have sx : Same w (((w.alloc (.cells #[.int .i64 p, .int .i64 q] 24)).alloc (.cells #[.string z, .string o] 44)).alloc (.cells TA 48)) := (((Fr.refl _ w).alloc _).alloc _).alloc _
  have r0 : (((w.alloc (.cells #[.int .i64 p, .int .i64 q] 24)).alloc (.cells #[.string z, .string o] 44)).alloc (.cells TA 48)).heap[w.heap.size + 1 + 1]? = some (.cells TA 48 (0, 0)) := by
    have := heap_alloc2_new (w.alloc (.cells #[.int .i64 p, .int .i64 q] 24)) (.cells #[.string z, .string o] 44) (.cells TA 48)
    rw [show (w.alloc (.cells #[.int .i64 p, .int .i64 q] 24)).heap.size = w.heap.size + 1 from by simp] at this
    exact this
  have r1 : (((w.alloc (.cells #[.int .i64 p, .int .i64 q] 24)).alloc (.cells #[.string z, .string o] 44)).alloc (.cells TA 48)).heap[w.heap.size]? = some (.cells #[.int .i64 p, .int .i64 q] 24 (0, 0)) := by rw [Below.heap_alloc _ _ _ (by simp; omega)]; exact heap_alloc2_old w _ _
  have r2 : (((w.alloc (.cells #[.int .i64 p, .int .i64 q] 24)).alloc (.cells #[.string z, .string o] 44)).alloc (.cells TA 48)).heap[w.heap.size + 1]? = some (.cells #[.string z, .string o] 44 (0, 0)) := by rw [Below.heap_alloc _ _ _ (by simp)]; exact heap_alloc2_new w _ _
  have c0 : (((w.alloc (.cells #[.int .i64 p, .int .i64 q] 24)).alloc (.cells #[.string z, .string o] 44)).alloc (.cells TA 48)).cell? ⟨w.heap.size, 0, none⟩ = some (.int .i64 p) := (cell_of_two r1).1
  have c1 : (((w.alloc (.cells #[.int .i64 p, .int .i64 q] 24)).alloc (.cells #[.string z, .string o] 44)).alloc (.cells TA 48)).cell? ⟨w.heap.size, 1, none⟩ = some (.int .i64 q) := (cell_of_two r1).2.1
  have z0 : (((w.alloc (.cells #[.int .i64 p, .int .i64 q] 24)).alloc (.cells #[.string z, .string o] 44)).alloc (.cells TA 48)).cell? ⟨w.heap.size + 1, 0, none⟩ = some (.string z) := (cell_of_two r2).1
  have z1 : (((w.alloc (.cells #[.int .i64 p, .int .i64 q] 24)).alloc (.cells #[.string z, .string o] 44)).alloc (.cells TA 48)).cell? ⟨w.heap.size + 1, 1, none⟩ = some (.string o) := (cell_of_two r2).2.1
  have n0 : (((w.alloc (.cells #[.int .i64 p, .int .i64 q] 24)).alloc (.cells #[.string z, .string o] 44)).alloc (.cells TA 48)).cell? ⟨w.heap.size + 1 + 1, 0, none⟩ = some (.int .u64 NV) := by rw [cell_of_row _ _ _ _ _ _ r0]; exact hT0
  have n37 : (((w.alloc (.cells #[.int .i64 p, .int .i64 q] 24)).alloc (.cells #[.string z, .string o] 44)).alloc (.cells TA 48)).cell? ⟨w.heap.size + 1 + 1, 37, none⟩ = some (.int .u32 NP) := by rw [cell_of_row _ _ _ _ _ _ r0]; exact hT37
  have n38 : (((w.alloc (.cells #[.int .i64 p, .int .i64 q] 24)).alloc (.cells #[.string z, .string o] 44)).alloc (.cells TA 48)).cell? ⟨w.heap.size + 1 + 1, 38, none⟩ = some (.int .u8 came) := by rw [cell_of_row _ _ _ _ _ _ r0]; exact hT38
  have n39 : (((w.alloc (.cells #[.int .i64 p, .int .i64 q] 24)).alloc (.cells #[.string z, .string o] 44)).alloc (.cells TA 48)).cell? ⟨w.heap.size + 1 + 1, 39, none⟩ = some (.int .i64 pages) := by rw [cell_of_row _ _ _ _ _ _ r0]; exact hT39
  have rN : (((w.alloc (.cells #[.int .i64 p, .int .i64 q] 24)).alloc (.cells #[.string z, .string o] 44)).alloc (.cells TA 48)).rangeAt (w.heap.size + 1 + 1) 0 NA.toList := by
    intro j v hv
    rw [Nat.zero_add, cell_of_row _ _ _ _ _ _ r0]
    exact hTN.out j v (by simpa using hv)
  have hOz : (Tryd.prog.info? 32).map (·.size) = some OA.size := by rw [Tryd.infoM, hOs]
  have hNz : (Tryd.prog.info? 32).map (·.size) = some NA.size := by rw [Tryd.infoM, hNs]
  have hNl : (Tryd.prog.info? 32).map (·.size) = some NA.toList.length := by rw [Tryd.infoM, Array.length_toList, hNs]
  have hwp : wrap64 (NP : Int) = (NP : Int) := by rw [wrap64]; omega
  clear r0 r1 hT0 hT37 hT38 hT39
  rcases hbad with hE | ⟨hE, hG⟩ | ⟨hE, hG, h3⟩ | ⟨hE, hG, h3, h4⟩ | ⟨hE, hG, h3, h4, h5⟩
  · go_enter Tryd.func7, Tryd.ntmps7
    go_wp2_with fail
    refine (HA.out _ sx).mono ?_
    rintro e W1 ⟨rfl, s1⟩
    have c0 := s1.keep c0
    have c1 := s1.keep c1
    have z0 := s1.keep z0
    have z1 := s1.keep z1
    have n0 := s1.keep n0
    have n37 := s1.keep n37
    have n38 := s1.keep n38
    have n39 := s1.keep n39
    have rN := range_same rN s1
    have t1 := sx.trans s1
    have r2 := (s1.block _ (lt_of_heap r2) (fun f => f)).trans r2
    clear s1 sx
    go_wp2_with fail
    refine (HK.out _ t1).mono ?_
    rintro e W2 ⟨rfl, s2⟩
    have c0 := s2.keep c0
    have c1 := s2.keep c1
    have z0 := s2.keep z0
    have z1 := s2.keep z1
    have n0 := s2.keep n0
    have n37 := s2.keep n37
    have n38 := s2.keep n38
    have n39 := s2.keep n39
    have rN := range_same rN s2
    have t2 := t1.trans s2
    have r2 := (s2.block _ (lt_of_heap r2) (fun f => f)).trans r2
    have hnb : w.heap.size + 1 < W2.heap.size := World.block_lt_of_cell? _ _ z0
    clear s2 t1
    go_wp2_with (first | (refine wpList_store_whole (by rfl) 32 _ _ (by rfl) W2.heap.size OA ZA 32 (by rfl) (by rfl) (heap_alloc_new W2 _) (by rw [hzs, hOs]) hOz hOo ?_; intro W3 r3 f3; have s3 : Same W2 W3 := Fr.trans ((Fr.refl _ W2).alloc _) f3 (fun i hi e => by omega); have c0 := s3.keep c0; have c1 := s3.keep c1; have z0 := s3.keep z0; have z1 := s3.keep z1; have n0 := s3.keep n0; have n37 := s3.keep n37; have n38 := s3.keep n38; have n39 := s3.keep n39; have rN := range_same rN s3; have t3 := t2.trans s3; have r2 := (s3.block _ (lt_of_heap r2) (fun f => f)).trans r2) | (refine wpList_load_mid (by rfl) 32 _ (by rfl) (w.heap.size + 1 + 1) 0 (by rfl) NA.toList _ rN Tryd.underlying32 rfl hNl ?_; rw [Array.toArray_toList]))
    clear f3 s3 t2
    have o0 : W3.cell? ⟨W2.heap.size, 0, none⟩ = some (.int .u64 OV) := by rw [cell_of_row _ _ _ _ _ _ r3]; exact hOV
    refine (HE.out _ t3).mono ?_
    rintro e W4 ⟨rfl, s4⟩
    have c0 := s4.keep c0
    have c1 := s4.keep c1
    have z0 := s4.keep z0
    have z1 := s4.keep z1
    have n0 := s4.keep n0
    have n37 := s4.keep n37
    have n38 := s4.keep n38
    have n39 := s4.keep n39
    have rN := range_same rN s4
    have t4 := t3.trans s4
    have r2 := (s4.block _ (lt_of_heap r2) (fun f => f)).trans r2
    have r4 := (s4.block _ (lt_of_heap r3) (fun f => f)).trans r3
    have o0 := s4.keep o0
    clear s4 t3 r3
    go_wp2_with fail
    go_ret
    exact ⟨rfl, t4⟩
  · go_enter Tryd.func7, Tryd.ntmps7
    go_wp2_with fail
    refine (HA.out _ sx).mono ?_
    rintro e W1 ⟨rfl, s1⟩
    have c0 := s1.keep c0
    have c1 := s1.keep c1
    have z0 := s1.keep z0
    have z1 := s1.keep z1
    have n0 := s1.keep n0
    have n37 := s1.keep n37
    have n38 := s1.keep n38
    have n39 := s1.keep n39
    have rN := range_same rN s1
    have t1 := sx.trans s1
    have r2 := (s1.block _ (lt_of_heap r2) (fun f => f)).trans r2
    clear s1 sx
    go_wp2_with fail
    refine (HK.out _ t1).mono ?_
    rintro e W2 ⟨rfl, s2⟩
    have c0 := s2.keep c0
    have c1 := s2.keep c1
    have z0 := s2.keep z0
    have z1 := s2.keep z1
    have n0 := s2.keep n0
    have n37 := s2.keep n37
    have n38 := s2.keep n38
    have n39 := s2.keep n39
    have rN := range_same rN s2
    have t2 := t1.trans s2
    have r2 := (s2.block _ (lt_of_heap r2) (fun f => f)).trans r2
    have hnb : w.heap.size + 1 < W2.heap.size := World.block_lt_of_cell? _ _ z0
    clear s2 t1
    go_wp2_with (first | (refine wpList_store_whole (by rfl) 32 _ _ (by rfl) W2.heap.size OA ZA 32 (by rfl) (by rfl) (heap_alloc_new W2 _) (by rw [hzs, hOs]) hOz hOo ?_; intro W3 r3 f3; have s3 : Same W2 W3 := Fr.trans ((Fr.refl _ W2).alloc _) f3 (fun i hi e => by omega); have c0 := s3.keep c0; have c1 := s3.keep c1; have z0 := s3.keep z0; have z1 := s3.keep z1; have n0 := s3.keep n0; have n37 := s3.keep n37; have n38 := s3.keep n38; have n39 := s3.keep n39; have rN := range_same rN s3; have t3 := t2.trans s3; have r2 := (s3.block _ (lt_of_heap r2) (fun f => f)).trans r2) | (refine wpList_load_mid (by rfl) 32 _ (by rfl) (w.heap.size + 1 + 1) 0 (by rfl) NA.toList _ rN Tryd.underlying32 rfl hNl ?_; rw [Array.toArray_toList]))
    clear f3 s3 t2
    have o0 : W3.cell? ⟨W2.heap.size, 0, none⟩ = some (.int .u64 OV) := by rw [cell_of_row _ _ _ _ _ _ r3]; exact hOV
    refine (HE.out _ t3).mono ?_
    rintro e W4 ⟨rfl, s4⟩
    have c0 := s4.keep c0
    have c1 := s4.keep c1
    have z0 := s4.keep z0
    have z1 := s4.keep z1
    have n0 := s4.keep n0
    have n37 := s4.keep n37
    have n38 := s4.keep n38
    have n39 := s4.keep n39
    have rN := range_same rN s4
    have t4 := t3.trans s4
    have r2 := (s4.block _ (lt_of_heap r2) (fun f => f)).trans r2
    have r4 := (s4.block _ (lt_of_heap r3) (fun f => f)).trans r3
    have o0 := s4.keep o0
    clear s4 t3 r3
    go_wp2_with fail
    go_ret
    exact ⟨rfl, t4⟩
  · go_enter Tryd.func7, Tryd.ntmps7
    go_wp2_with fail
    refine (HA.out _ sx).mono ?_
    rintro e W1 ⟨rfl, s1⟩
    have c0 := s1.keep c0
    have c1 := s1.keep c1
    have z0 := s1.keep z0
    have z1 := s1.keep z1
    have n0 := s1.keep n0
    have n37 := s1.keep n37
    have n38 := s1.keep n38
    have n39 := s1.keep n39
    have rN := range_same rN s1
    have t1 := sx.trans s1
    have r2 := (s1.block _ (lt_of_heap r2) (fun f => f)).trans r2
    clear s1 sx
    go_wp2_with fail
    refine (HK.out _ t1).mono ?_
    rintro e W2 ⟨rfl, s2⟩
    have c0 := s2.keep c0
    have c1 := s2.keep c1
    have z0 := s2.keep z0
    have z1 := s2.keep z1
    have n0 := s2.keep n0
    have n37 := s2.keep n37
    have n38 := s2.keep n38
    have n39 := s2.keep n39
    have rN := range_same rN s2
    have t2 := t1.trans s2
    have r2 := (s2.block _ (lt_of_heap r2) (fun f => f)).trans r2
    have hnb : w.heap.size + 1 < W2.heap.size := World.block_lt_of_cell? _ _ z0
    clear s2 t1
    go_wp2_with (first | (refine wpList_store_whole (by rfl) 32 _ _ (by rfl) W2.heap.size OA ZA 32 (by rfl) (by rfl) (heap_alloc_new W2 _) (by rw [hzs, hOs]) hOz hOo ?_; intro W3 r3 f3; have s3 : Same W2 W3 := Fr.trans ((Fr.refl _ W2).alloc _) f3 (fun i hi e => by omega); have c0 := s3.keep c0; have c1 := s3.keep c1; have z0 := s3.keep z0; have z1 := s3.keep z1; have n0 := s3.keep n0; have n37 := s3.keep n37; have n38 := s3.keep n38; have n39 := s3.keep n39; have rN := range_same rN s3; have t3 := t2.trans s3; have r2 := (s3.block _ (lt_of_heap r2) (fun f => f)).trans r2) | (refine wpList_load_mid (by rfl) 32 _ (by rfl) (w.heap.size + 1 + 1) 0 (by rfl) NA.toList _ rN Tryd.underlying32 rfl hNl ?_; rw [Array.toArray_toList]))
    clear f3 s3 t2
    have o0 : W3.cell? ⟨W2.heap.size, 0, none⟩ = some (.int .u64 OV) := by rw [cell_of_row _ _ _ _ _ _ r3]; exact hOV
    refine (HE.out _ t3).mono ?_
    rintro e W4 ⟨rfl, s4⟩
    have c0 := s4.keep c0
    have c1 := s4.keep c1
    have z0 := s4.keep z0
    have z1 := s4.keep z1
    have n0 := s4.keep n0
    have n37 := s4.keep n37
    have n38 := s4.keep n38
    have n39 := s4.keep n39
    have rN := range_same rN s4
    have t4 := t3.trans s4
    have r2 := (s4.block _ (lt_of_heap r2) (fun f => f)).trans r2
    have r4 := (s4.block _ (lt_of_heap r3) (fun f => f)).trans r3
    have o0 := s4.keep o0
    clear s4 t3 r3
    go_wp2_with fail
    go_ret
    exact ⟨rfl, t4⟩
  · go_enter Tryd.func7, Tryd.ntmps7
    go_wp2_with fail
    refine (HA.out _ sx).mono ?_
    rintro e W1 ⟨rfl, s1⟩
    have c0 := s1.keep c0
    have c1 := s1.keep c1
    have z0 := s1.keep z0
    have z1 := s1.keep z1
    have n0 := s1.keep n0
    have n37 := s1.keep n37
    have n38 := s1.keep n38
    have n39 := s1.keep n39
    have rN := range_same rN s1
    have t1 := sx.trans s1
    have r2 := (s1.block _ (lt_of_heap r2) (fun f => f)).trans r2
    clear s1 sx
    go_wp2_with fail
    refine (HK.out _ t1).mono ?_
    rintro e W2 ⟨rfl, s2⟩
    have c0 := s2.keep c0
    have c1 := s2.keep c1
    have z0 := s2.keep z0
    have z1 := s2.keep z1
    have n0 := s2.keep n0
    have n37 := s2.keep n37
    have n38 := s2.keep n38
    have n39 := s2.keep n39
    have rN := range_same rN s2
    have t2 := t1.trans s2
    have r2 := (s2.block _ (lt_of_heap r2) (fun f => f)).trans r2
    have hnb : w.heap.size + 1 < W2.heap.size := World.block_lt_of_cell? _ _ z0
    clear s2 t1
    go_wp2_with (first | (refine wpList_store_whole (by rfl) 32 _ _ (by rfl) W2.heap.size OA ZA 32 (by rfl) (by rfl) (heap_alloc_new W2 _) (by rw [hzs, hOs]) hOz hOo ?_; intro W3 r3 f3; have s3 : Same W2 W3 := Fr.trans ((Fr.refl _ W2).alloc _) f3 (fun i hi e => by omega); have c0 := s3.keep c0; have c1 := s3.keep c1; have z0 := s3.keep z0; have z1 := s3.keep z1; have n0 := s3.keep n0; have n37 := s3.keep n37; have n38 := s3.keep n38; have n39 := s3.keep n39; have rN := range_same rN s3; have t3 := t2.trans s3; have r2 := (s3.block _ (lt_of_heap r2) (fun f => f)).trans r2) | (refine wpList_load_mid (by rfl) 32 _ (by rfl) (w.heap.size + 1 + 1) 0 (by rfl) NA.toList _ rN Tryd.underlying32 rfl hNl ?_; rw [Array.toArray_toList]))
    clear f3 s3 t2
    have o0 : W3.cell? ⟨W2.heap.size, 0, none⟩ = some (.int .u64 OV) := by rw [cell_of_row _ _ _ _ _ _ r3]; exact hOV
    refine (HE.out _ t3).mono ?_
    rintro e W4 ⟨rfl, s4⟩
    have c0 := s4.keep c0
    have c1 := s4.keep c1
    have z0 := s4.keep z0
    have z1 := s4.keep z1
    have n0 := s4.keep n0
    have n37 := s4.keep n37
    have n38 := s4.keep n38
    have n39 := s4.keep n39
    have rN := range_same rN s4
    have t4 := t3.trans s4
    have r2 := (s4.block _ (lt_of_heap r2) (fun f => f)).trans r2
    have r4 := (s4.block _ (lt_of_heap r3) (fun f => f)).trans r3
    have o0 := s4.keep o0
    clear s4 t3 r3
    go_wp2_with fail
    go_ret
    exact ⟨rfl, t4⟩
  · go_enter Tryd.func7, Tryd.ntmps7
    go_wp2_with fail
    refine (HA.out _ sx).mono ?_
    rintro e W1 ⟨rfl, s1⟩
    have c0 := s1.keep c0
    have c1 := s1.keep c1
    have z0 := s1.keep z0
    have z1 := s1.keep z1
    have n0 := s1.keep n0
    have n37 := s1.keep n37
    have n38 := s1.keep n38
    have n39 := s1.keep n39
    have rN := range_same rN s1
    have t1 := sx.trans s1
    have r2 := (s1.block _ (lt_of_heap r2) (fun f => f)).trans r2
    clear s1 sx
    go_wp2_with fail
    refine (HK.out _ t1).mono ?_
    rintro e W2 ⟨rfl, s2⟩
    have c0 := s2.keep c0
    have c1 := s2.keep c1
    have z0 := s2.keep z0
    have z1 := s2.keep z1
    have n0 := s2.keep n0
    have n37 := s2.keep n37
    have n38 := s2.keep n38
    have n39 := s2.keep n39
    have rN := range_same rN s2
    have t2 := t1.trans s2
    have r2 := (s2.block _ (lt_of_heap r2) (fun f => f)).trans r2
    have hnb : w.heap.size + 1 < W2.heap.size := World.block_lt_of_cell? _ _ z0
    clear s2 t1
    go_wp2_with (first | (refine wpList_store_whole (by rfl) 32 _ _ (by rfl) W2.heap.size OA ZA 32 (by rfl) (by rfl) (heap_alloc_new W2 _) (by rw [hzs, hOs]) hOz hOo ?_; intro W3 r3 f3; have s3 : Same W2 W3 := Fr.trans ((Fr.refl _ W2).alloc _) f3 (fun i hi e => by omega); have c0 := s3.keep c0; have c1 := s3.keep c1; have z0 := s3.keep z0; have z1 := s3.keep z1; have n0 := s3.keep n0; have n37 := s3.keep n37; have n38 := s3.keep n38; have n39 := s3.keep n39; have rN := range_same rN s3; have t3 := t2.trans s3; have r2 := (s3.block _ (lt_of_heap r2) (fun f => f)).trans r2) | (refine wpList_load_mid (by rfl) 32 _ (by rfl) (w.heap.size + 1 + 1) 0 (by rfl) NA.toList _ rN Tryd.underlying32 rfl hNl ?_; rw [Array.toArray_toList]))
    clear f3 s3 t2
    have o0 : W3.cell? ⟨W2.heap.size, 0, none⟩ = some (.int .u64 OV) := by rw [cell_of_row _ _ _ _ _ _ r3]; exact hOV
    refine (HE.out _ t3).mono ?_
    rintro e W4 ⟨rfl, s4⟩
    have c0 := s4.keep c0
    have c1 := s4.keep c1
    have z0 := s4.keep z0
    have z1 := s4.keep z1
    have n0 := s4.keep n0
    have n37 := s4.keep n37
    have n38 := s4.keep n38
    have n39 := s4.keep n39
    have rN := range_same rN s4
    have t4 := t3.trans s4
    have r2 := (s4.block _ (lt_of_heap r2) (fun f => f)).trans r2
    have r4 := (s4.block _ (lt_of_heap r3) (fun f => f)).trans r3
    have o0 := s4.keep o0
    clear s4 t3 r3
    go_wp2_with fail
    go_ret
    exact ⟨rfl, t4⟩

set_option maxRecDepth 100000 in
set_option maxHeartbeats 2000000 in
theorem mgoes_0t {p q : Int} {z o PG : ByteArray} {ZA TA OA NA : Array Value} {OV NV NP came : Nat} {pages : Int} (w : World) (hzl : (#[.int .u64 0, .int .u32 0, .int .u8 0, .int .u8 0, .int .u8 0, .int .u8 0, .int .u8 0, .int .u8 0, .int .u8 0, .int .u8 0, .int .u8 0, .int .u8 0, .int .u8 0, .int .u8 0, .int .u8 0, .int .u8 0, .int .u8 0, .int .u8 0, .int .u8 0, .int .u8 0, .int .u8 0, .int .u8 0, .int .u8 0, .int .u8 0, .int .u8 0, .int .u8 0, .int .u8 0, .int .u8 0, .int .u8 0, .int .u8 0, .int .u8 0, .int .u8 0, .int .u8 0, .int .u8 0, .int .u64 0, .int .u64 0, .int .u32 0, .int .u32 0] : Array Value) = ZA) (hzs : ZA.size = 38) (hOs : OA.size = 38) (hOo : OA.all (·.oneCell') = true) (hNs : NA.size = 38) (hOV : OA[0]? = some (.int .u64 OV)) (hT0 : TA[0]? = some (.int .u64 NV)) (hT37 : TA[37]? = some (.int .u32 NP)) (hT38 : TA[38]? = some (.int .u8 came)) (hT39 : TA[39]? = some (.int .i64 pages)) (hTN : Hid (∀ (j : Nat) (v : Value), NA[j]? = some v → TA[j]? = some v)) {Φ : ByteArray → Prop} (hNP : NP < 4294967296) (hNo : NA.all (·.oneCell') = true) (h3 : ¬ pages < 2) (h4 : ¬ (NV : Int) ≤ (OV : Int)) (h5 : ¬ pages < (NP : Int)) (hbit : (bits BinOp.and IntKind.u8 (came : Int) 1 == 1) = true)
    (hEq : ∀ W : World, (Op.equalIn 10000 32 (.agg NA) (.agg NA)).run Tryd.prog W = .ok true W)
    (HA : Hid (∀ W, Same w W → Calls Tryd.prog 9 #[] W fun e w' => e = .returned (.bool true) ∧ Same W w'))
    (HK : Hid (∀ W, Same w W → Calls Tryd.prog 14 #[frameV p q, .string z, .string o, .int .i64 pages] W fun e w' => e = .returned (.tuple #[.agg OA, .int .u32 0, .int .i64 0]) ∧ Same W w'))
    (HE : Hid (∀ W, Same w W → Calls Tryd.prog 10 #[frameV p q, .agg NA] W fun e w' => e = .returned (.tuple #[.string PG, .int .i64 0]) ∧ Same W w'))
    (HM : Hid (∀ W, Calls Tryd.prog 13 #[frameV p q, .string z, .string PG, .int .u8 came] W fun e w' => (∃ s, e = .returned (.string s) ∧ Φ s) ∧ Same W w'))
    (HQ : Hid (∀ s, Φ s → ∀ W, Same w W → Calls Tryd.prog 14 #[frameV p q, .string s, .string o, .int .i64 pages] W fun e w' => e = .returned (.tuple #[.agg NA, .int .u32 1, .int .i64 0]) ∧ Same W w')) :
    Calls Tryd.prog 7 #[frameV p q, .agg #[.string z, .string o], .agg TA] w fun e w' => e = .returned (.bool true) ∧ Same w w' := by
  have hbit := hbit
  have hEq := hEq
  have h3 := h3
  have h4 := h4
  have h5 := h5
  have hNo := hNo
  have hzl := hzl
  have sx : Same w (((w.alloc (.cells #[.int .i64 p, .int .i64 q] 24)).alloc (.cells #[.string z, .string o] 44)).alloc (.cells TA 48)) := (((Fr.refl _ w).alloc _).alloc _).alloc _
  have r0 : (((w.alloc (.cells #[.int .i64 p, .int .i64 q] 24)).alloc (.cells #[.string z, .string o] 44)).alloc (.cells TA 48)).heap[w.heap.size + 1 + 1]? = some (.cells TA 48 (0, 0)) := by
    have := heap_alloc2_new (w.alloc (.cells #[.int .i64 p, .int .i64 q] 24)) (.cells #[.string z, .string o] 44) (.cells TA 48)
    rw [show (w.alloc (.cells #[.int .i64 p, .int .i64 q] 24)).heap.size = w.heap.size + 1 from by simp] at this
    exact this
  have r1 : (((w.alloc (.cells #[.int .i64 p, .int .i64 q] 24)).alloc (.cells #[.string z, .string o] 44)).alloc (.cells TA 48)).heap[w.heap.size]? = some (.cells #[.int .i64 p, .int .i64 q] 24 (0, 0)) := by rw [Below.heap_alloc _ _ _ (by simp; omega)]; exact heap_alloc2_old w _ _
  have r2 : (((w.alloc (.cells #[.int .i64 p, .int .i64 q] 24)).alloc (.cells #[.string z, .string o] 44)).alloc (.cells TA 48)).heap[w.heap.size + 1]? = some (.cells #[.string z, .string o] 44 (0, 0)) := by rw [Below.heap_alloc _ _ _ (by simp)]; exact heap_alloc2_new w _ _
  have c0 : (((w.alloc (.cells #[.int .i64 p, .int .i64 q] 24)).alloc (.cells #[.string z, .string o] 44)).alloc (.cells TA 48)).cell? ⟨w.heap.size, 0, none⟩ = some (.int .i64 p) := (cell_of_two r1).1
  have c1 : (((w.alloc (.cells #[.int .i64 p, .int .i64 q] 24)).alloc (.cells #[.string z, .string o] 44)).alloc (.cells TA 48)).cell? ⟨w.heap.size, 1, none⟩ = some (.int .i64 q) := (cell_of_two r1).2.1
  have z0 : (((w.alloc (.cells #[.int .i64 p, .int .i64 q] 24)).alloc (.cells #[.string z, .string o] 44)).alloc (.cells TA 48)).cell? ⟨w.heap.size + 1, 0, none⟩ = some (.string z) := (cell_of_two r2).1
  have z1 : (((w.alloc (.cells #[.int .i64 p, .int .i64 q] 24)).alloc (.cells #[.string z, .string o] 44)).alloc (.cells TA 48)).cell? ⟨w.heap.size + 1, 1, none⟩ = some (.string o) := (cell_of_two r2).2.1
  have n0 : (((w.alloc (.cells #[.int .i64 p, .int .i64 q] 24)).alloc (.cells #[.string z, .string o] 44)).alloc (.cells TA 48)).cell? ⟨w.heap.size + 1 + 1, 0, none⟩ = some (.int .u64 NV) := by rw [cell_of_row _ _ _ _ _ _ r0]; exact hT0
  have n37 : (((w.alloc (.cells #[.int .i64 p, .int .i64 q] 24)).alloc (.cells #[.string z, .string o] 44)).alloc (.cells TA 48)).cell? ⟨w.heap.size + 1 + 1, 37, none⟩ = some (.int .u32 NP) := by rw [cell_of_row _ _ _ _ _ _ r0]; exact hT37
  have n38 : (((w.alloc (.cells #[.int .i64 p, .int .i64 q] 24)).alloc (.cells #[.string z, .string o] 44)).alloc (.cells TA 48)).cell? ⟨w.heap.size + 1 + 1, 38, none⟩ = some (.int .u8 came) := by rw [cell_of_row _ _ _ _ _ _ r0]; exact hT38
  have n39 : (((w.alloc (.cells #[.int .i64 p, .int .i64 q] 24)).alloc (.cells #[.string z, .string o] 44)).alloc (.cells TA 48)).cell? ⟨w.heap.size + 1 + 1, 39, none⟩ = some (.int .i64 pages) := by rw [cell_of_row _ _ _ _ _ _ r0]; exact hT39
  have rN : (((w.alloc (.cells #[.int .i64 p, .int .i64 q] 24)).alloc (.cells #[.string z, .string o] 44)).alloc (.cells TA 48)).rangeAt (w.heap.size + 1 + 1) 0 NA.toList := by
    intro j v hv
    rw [Nat.zero_add, cell_of_row _ _ _ _ _ _ r0]
    exact hTN.out j v (by simpa using hv)
  have hOz : (Tryd.prog.info? 32).map (·.size) = some OA.size := by rw [Tryd.infoM, hOs]
  have hNz : (Tryd.prog.info? 32).map (·.size) = some NA.size := by rw [Tryd.infoM, hNs]
  have hNl : (Tryd.prog.info? 32).map (·.size) = some NA.toList.length := by rw [Tryd.infoM, Array.length_toList, hNs]
  have hwp : wrap64 (NP : Int) = (NP : Int) := by rw [wrap64]; omega
  clear r0 r1 hT0 hT37 hT38 hT39
  go_enter Tryd.func7, Tryd.ntmps7
  go_wp2_with fail
  refine (HA.out _ sx).mono ?_
  rintro e W1 ⟨rfl, s1⟩
  have c0 := s1.keep c0
  have c1 := s1.keep c1
  have z0 := s1.keep z0
  have z1 := s1.keep z1
  have n0 := s1.keep n0
  have n37 := s1.keep n37
  have n38 := s1.keep n38
  have n39 := s1.keep n39
  have rN := range_same rN s1
  have t1 := sx.trans s1
  have r2 := (s1.block _ (lt_of_heap r2) (fun f => f)).trans r2
  clear s1 sx
  go_wp2_with fail
  refine (HK.out _ t1).mono ?_
  rintro e W2 ⟨rfl, s2⟩
  have c0 := s2.keep c0
  have c1 := s2.keep c1
  have z0 := s2.keep z0
  have z1 := s2.keep z1
  have n0 := s2.keep n0
  have n37 := s2.keep n37
  have n38 := s2.keep n38
  have n39 := s2.keep n39
  have rN := range_same rN s2
  have t2 := t1.trans s2
  have r2 := (s2.block _ (lt_of_heap r2) (fun f => f)).trans r2
  have hnb : w.heap.size + 1 < W2.heap.size := World.block_lt_of_cell? _ _ z0
  clear s2 t1
  go_wp2_with (first | (refine wpList_store_whole (by rfl) 32 _ _ (by rfl) W2.heap.size OA ZA 32 (by rfl) (by rfl) (heap_alloc_new W2 _) (by rw [hzs, hOs]) hOz hOo ?_; intro W3 r3 f3; have s3 : Same W2 W3 := Fr.trans ((Fr.refl _ W2).alloc _) f3 (fun i hi e => by omega); have c0 := s3.keep c0; have c1 := s3.keep c1; have z0 := s3.keep z0; have z1 := s3.keep z1; have n0 := s3.keep n0; have n37 := s3.keep n37; have n38 := s3.keep n38; have n39 := s3.keep n39; have rN := range_same rN s3; have t3 := t2.trans s3; have r2 := (s3.block _ (lt_of_heap r2) (fun f => f)).trans r2) | (refine wpList_load_mid (by rfl) 32 _ (by rfl) (w.heap.size + 1 + 1) 0 (by rfl) NA.toList _ rN Tryd.underlying32 rfl hNl ?_; rw [Array.toArray_toList]))
  clear f3 s3 t2
  have o0 : W3.cell? ⟨W2.heap.size, 0, none⟩ = some (.int .u64 OV) := by rw [cell_of_row _ _ _ _ _ _ r3]; exact hOV
  refine (HE.out _ t3).mono ?_
  rintro e W4 ⟨rfl, s4⟩
  have c0 := s4.keep c0
  have c1 := s4.keep c1
  have z0 := s4.keep z0
  have z1 := s4.keep z1
  have n0 := s4.keep n0
  have n37 := s4.keep n37
  have n38 := s4.keep n38
  have n39 := s4.keep n39
  have rN := range_same rN s4
  have t4 := t3.trans s4
  have r2 := (s4.block _ (lt_of_heap r2) (fun f => f)).trans r2
  have r4 := (s4.block _ (lt_of_heap r3) (fun f => f)).trans r3
  have o0 := s4.keep o0
  clear s4 t3 r3
  have fz := cell_of_two r2
  have ff0 := fz.2.2.1
  have ff1 := fz.2.2.2
  clear fz
  go_wp2_with fail
  refine (HM.out _).mono ?_
  rintro e W5 ⟨⟨X, rfl, hX⟩, s5⟩
  clear ff0 ff1
  have c0 := s5.keep c0
  have c1 := s5.keep c1
  have z0 := s5.keep z0
  have z1 := s5.keep z1
  have n0 := s5.keep n0
  have n37 := s5.keep n37
  have n38 := s5.keep n38
  have n39 := s5.keep n39
  have rN := range_same rN s5
  have t5 := t4.trans s5
  have r2 := (s5.block _ (lt_of_heap r2) (fun f => f)).trans r2
  have r5 := (s5.block _ (lt_of_heap r4) (fun f => f)).trans r4
  have o0 := s5.keep o0
  clear s5 t4 r4
  have fz := cell_of_two r2
  have ff0 := fz.2.2.1
  have ff1 := fz.2.2.2
  clear fz
  have f6 : Fr (fun k => k = w.heap.size + 1) W5 (W5.setCell ⟨w.heap.size + 1, 0, none⟩ (.string X)) := (Fr.refl (fun k => k = w.heap.size + 1) W5).setCell (p := ⟨w.heap.size + 1, 0, none⟩) (fun _ => rfl) _
  have r6' := heap_setCell_same W5 (w.heap.size + 1) 0 _ _ (.string X) r2
  simp only [List.setIfInBounds_toArray, List.set_cons_zero] at r6'
  have x0 := (cell_of_two r6').1
  have x1 := (cell_of_two r6').2.1
  have t6 : Same w (W5.setCell ⟨w.heap.size + 1, 0, none⟩ (.string X)) := Fr.trans t5 f6 (fun i hi e => by omega)
  have c06 := (f6.cell (p := ⟨w.heap.size, 0, none⟩) (World.block_lt_of_cell? _ _ c0) (by simp)).trans c0
  have c16 := (f6.cell (p := ⟨w.heap.size, 1, none⟩) (World.block_lt_of_cell? _ _ c1) (by simp)).trans c1
  have n06 := (f6.cell (p := ⟨w.heap.size + 1 + 1, 0, none⟩) (World.block_lt_of_cell? _ _ n0) (by simp)).trans n0
  have n376 := (f6.cell (p := ⟨w.heap.size + 1 + 1, 37, none⟩) (World.block_lt_of_cell? _ _ n37) (by simp)).trans n37
  have n386 := (f6.cell (p := ⟨w.heap.size + 1 + 1, 38, none⟩) (World.block_lt_of_cell? _ _ n38) (by simp)).trans n38
  have n396 := (f6.cell (p := ⟨w.heap.size + 1 + 1, 39, none⟩) (World.block_lt_of_cell? _ _ n39) (by simp)).trans n39
  have rN6 : (W5.setCell ⟨w.heap.size + 1, 0, none⟩ (.string X)).rangeAt (w.heap.size + 1 + 1) 0 NA.toList := fun j v hv => (f6.cell (p := ⟨w.heap.size + 1 + 1, 0 + j, none⟩) (World.block_lt_of_cell? _ _ (rN j v hv)) (by simp)).trans (rN j v hv)
  have q6 := (f6.block W2.heap.size (lt_of_heap r5) (by omega)).trans r5
  clear f6
  go_wp2_with fail
  refine (HQ.out X hX _ t6).mono ?_
  rintro e W7 ⟨rfl, s7⟩
  have t7 := t6.trans s7
  have rN7 := range_same rN6 s7
  have q7 := (s7.block _ (lt_of_heap q6) (fun f => f)).trans q6
  have m38 := s7.keep n386
  clear s7 t6 rN6 q6
  go_wp2_with (first | (refine wpList_store_whole (by rfl) 32 _ _ (by rfl) W7.heap.size NA ZA 32 (by rfl) (by rfl) (heap_alloc_new W7 _) (by rw [hzs, hNs]) hNz hNo ?_; intro W8 r8 f8; have s8 : Same W7 W8 := Fr.trans ((Fr.refl _ W7).alloc _) f8 (fun i hi e => by omega); have t8 := t7.trans s8; have rN8 := range_same rN7 s8; have q8 := (s8.block _ (lt_of_heap q7) (fun f => f)).trans q7; have m38 := s8.keep m38) | (refine wpList_load_want (by rfl) 32 _ (by rfl) W7.heap.size (by rfl) 32 NA (0, 0) _ r8 Tryd.underlying32 rfl hNz ?_) | (refine wpList_load_mid_want (by rfl) 32 _ (by rfl) (w.heap.size + 1 + 1) 0 (by rfl) NA.toList _ rN8 Tryd.underlying32 rfl hNl ?_; rw [Array.toArray_toList]) | (refine wpList_load_want (by rfl) 32 _ (by rfl) W2.heap.size (by rfl) 32 OA (0, 0) _ q8 Tryd.underlying32 rfl hOz ?_))
  go_ret
  exact ⟨rfl, t8⟩

set_option maxRecDepth 100000 in
set_option maxHeartbeats 2000000 in
theorem mgoes_0f {p q : Int} {z o PG : ByteArray} {ZA TA OA NA : Array Value} {OV NV NP came : Nat} {pages : Int} (w : World) (hzl : (#[.int .u64 0, .int .u32 0, .int .u8 0, .int .u8 0, .int .u8 0, .int .u8 0, .int .u8 0, .int .u8 0, .int .u8 0, .int .u8 0, .int .u8 0, .int .u8 0, .int .u8 0, .int .u8 0, .int .u8 0, .int .u8 0, .int .u8 0, .int .u8 0, .int .u8 0, .int .u8 0, .int .u8 0, .int .u8 0, .int .u8 0, .int .u8 0, .int .u8 0, .int .u8 0, .int .u8 0, .int .u8 0, .int .u8 0, .int .u8 0, .int .u8 0, .int .u8 0, .int .u8 0, .int .u8 0, .int .u64 0, .int .u64 0, .int .u32 0, .int .u32 0] : Array Value) = ZA) (hzs : ZA.size = 38) (hOs : OA.size = 38) (hOo : OA.all (·.oneCell') = true) (hNs : NA.size = 38) (hOV : OA[0]? = some (.int .u64 OV)) (hT0 : TA[0]? = some (.int .u64 NV)) (hT37 : TA[37]? = some (.int .u32 NP)) (hT38 : TA[38]? = some (.int .u8 came)) (hT39 : TA[39]? = some (.int .i64 pages)) (hTN : Hid (∀ (j : Nat) (v : Value), NA[j]? = some v → TA[j]? = some v)) {Φ : ByteArray → Prop} (hNP : NP < 4294967296) (hNo : NA.all (·.oneCell') = true) (h3 : ¬ pages < 2) (h4 : ¬ (NV : Int) ≤ (OV : Int)) (h5 : ¬ pages < (NP : Int)) (hbit : (bits BinOp.and IntKind.u8 (came : Int) 1 == 1) = false)
    (hEq : ∀ W : World, (Op.equalIn 10000 32 (.agg OA) (.agg OA)).run Tryd.prog W = .ok true W)
    (HA : Hid (∀ W, Same w W → Calls Tryd.prog 9 #[] W fun e w' => e = .returned (.bool true) ∧ Same W w'))
    (HK : Hid (∀ W, Same w W → Calls Tryd.prog 14 #[frameV p q, .string z, .string o, .int .i64 pages] W fun e w' => e = .returned (.tuple #[.agg OA, .int .u32 0, .int .i64 0]) ∧ Same W w'))
    (HE : Hid (∀ W, Same w W → Calls Tryd.prog 10 #[frameV p q, .agg NA] W fun e w' => e = .returned (.tuple #[.string PG, .int .i64 0]) ∧ Same W w'))
    (HM : Hid (∀ W, Calls Tryd.prog 13 #[frameV p q, .string z, .string PG, .int .u8 came] W fun e w' => (∃ s, e = .returned (.string s) ∧ Φ s) ∧ Same W w'))
    (HQ : Hid (∀ s, Φ s → ∀ W, Same w W → Calls Tryd.prog 14 #[frameV p q, .string s, .string o, .int .i64 pages] W fun e w' => e = .returned (.tuple #[.agg OA, .int .u32 0, .int .i64 0]) ∧ Same W w')) :
    Calls Tryd.prog 7 #[frameV p q, .agg #[.string z, .string o], .agg TA] w fun e w' => e = .returned (.bool true) ∧ Same w w' := by
  have hbit := hbit
  have hEq := hEq
  have h3 := h3
  have h4 := h4
  have h5 := h5
  have hNo := hNo
  have hzl := hzl
  have sx : Same w (((w.alloc (.cells #[.int .i64 p, .int .i64 q] 24)).alloc (.cells #[.string z, .string o] 44)).alloc (.cells TA 48)) := (((Fr.refl _ w).alloc _).alloc _).alloc _
  have r0 : (((w.alloc (.cells #[.int .i64 p, .int .i64 q] 24)).alloc (.cells #[.string z, .string o] 44)).alloc (.cells TA 48)).heap[w.heap.size + 1 + 1]? = some (.cells TA 48 (0, 0)) := by
    have := heap_alloc2_new (w.alloc (.cells #[.int .i64 p, .int .i64 q] 24)) (.cells #[.string z, .string o] 44) (.cells TA 48)
    rw [show (w.alloc (.cells #[.int .i64 p, .int .i64 q] 24)).heap.size = w.heap.size + 1 from by simp] at this
    exact this
  have r1 : (((w.alloc (.cells #[.int .i64 p, .int .i64 q] 24)).alloc (.cells #[.string z, .string o] 44)).alloc (.cells TA 48)).heap[w.heap.size]? = some (.cells #[.int .i64 p, .int .i64 q] 24 (0, 0)) := by rw [Below.heap_alloc _ _ _ (by simp; omega)]; exact heap_alloc2_old w _ _
  have r2 : (((w.alloc (.cells #[.int .i64 p, .int .i64 q] 24)).alloc (.cells #[.string z, .string o] 44)).alloc (.cells TA 48)).heap[w.heap.size + 1]? = some (.cells #[.string z, .string o] 44 (0, 0)) := by rw [Below.heap_alloc _ _ _ (by simp)]; exact heap_alloc2_new w _ _
  have c0 : (((w.alloc (.cells #[.int .i64 p, .int .i64 q] 24)).alloc (.cells #[.string z, .string o] 44)).alloc (.cells TA 48)).cell? ⟨w.heap.size, 0, none⟩ = some (.int .i64 p) := (cell_of_two r1).1
  have c1 : (((w.alloc (.cells #[.int .i64 p, .int .i64 q] 24)).alloc (.cells #[.string z, .string o] 44)).alloc (.cells TA 48)).cell? ⟨w.heap.size, 1, none⟩ = some (.int .i64 q) := (cell_of_two r1).2.1
  have z0 : (((w.alloc (.cells #[.int .i64 p, .int .i64 q] 24)).alloc (.cells #[.string z, .string o] 44)).alloc (.cells TA 48)).cell? ⟨w.heap.size + 1, 0, none⟩ = some (.string z) := (cell_of_two r2).1
  have z1 : (((w.alloc (.cells #[.int .i64 p, .int .i64 q] 24)).alloc (.cells #[.string z, .string o] 44)).alloc (.cells TA 48)).cell? ⟨w.heap.size + 1, 1, none⟩ = some (.string o) := (cell_of_two r2).2.1
  have n0 : (((w.alloc (.cells #[.int .i64 p, .int .i64 q] 24)).alloc (.cells #[.string z, .string o] 44)).alloc (.cells TA 48)).cell? ⟨w.heap.size + 1 + 1, 0, none⟩ = some (.int .u64 NV) := by rw [cell_of_row _ _ _ _ _ _ r0]; exact hT0
  have n37 : (((w.alloc (.cells #[.int .i64 p, .int .i64 q] 24)).alloc (.cells #[.string z, .string o] 44)).alloc (.cells TA 48)).cell? ⟨w.heap.size + 1 + 1, 37, none⟩ = some (.int .u32 NP) := by rw [cell_of_row _ _ _ _ _ _ r0]; exact hT37
  have n38 : (((w.alloc (.cells #[.int .i64 p, .int .i64 q] 24)).alloc (.cells #[.string z, .string o] 44)).alloc (.cells TA 48)).cell? ⟨w.heap.size + 1 + 1, 38, none⟩ = some (.int .u8 came) := by rw [cell_of_row _ _ _ _ _ _ r0]; exact hT38
  have n39 : (((w.alloc (.cells #[.int .i64 p, .int .i64 q] 24)).alloc (.cells #[.string z, .string o] 44)).alloc (.cells TA 48)).cell? ⟨w.heap.size + 1 + 1, 39, none⟩ = some (.int .i64 pages) := by rw [cell_of_row _ _ _ _ _ _ r0]; exact hT39
  have rN : (((w.alloc (.cells #[.int .i64 p, .int .i64 q] 24)).alloc (.cells #[.string z, .string o] 44)).alloc (.cells TA 48)).rangeAt (w.heap.size + 1 + 1) 0 NA.toList := by
    intro j v hv
    rw [Nat.zero_add, cell_of_row _ _ _ _ _ _ r0]
    exact hTN.out j v (by simpa using hv)
  have hOz : (Tryd.prog.info? 32).map (·.size) = some OA.size := by rw [Tryd.infoM, hOs]
  have hNz : (Tryd.prog.info? 32).map (·.size) = some NA.size := by rw [Tryd.infoM, hNs]
  have hNl : (Tryd.prog.info? 32).map (·.size) = some NA.toList.length := by rw [Tryd.infoM, Array.length_toList, hNs]
  have hwp : wrap64 (NP : Int) = (NP : Int) := by rw [wrap64]; omega
  clear r0 r1 hT0 hT37 hT38 hT39
  go_enter Tryd.func7, Tryd.ntmps7
  go_wp2_with fail
  refine (HA.out _ sx).mono ?_
  rintro e W1 ⟨rfl, s1⟩
  have c0 := s1.keep c0
  have c1 := s1.keep c1
  have z0 := s1.keep z0
  have z1 := s1.keep z1
  have n0 := s1.keep n0
  have n37 := s1.keep n37
  have n38 := s1.keep n38
  have n39 := s1.keep n39
  have rN := range_same rN s1
  have t1 := sx.trans s1
  have r2 := (s1.block _ (lt_of_heap r2) (fun f => f)).trans r2
  clear s1 sx
  go_wp2_with fail
  refine (HK.out _ t1).mono ?_
  rintro e W2 ⟨rfl, s2⟩
  have c0 := s2.keep c0
  have c1 := s2.keep c1
  have z0 := s2.keep z0
  have z1 := s2.keep z1
  have n0 := s2.keep n0
  have n37 := s2.keep n37
  have n38 := s2.keep n38
  have n39 := s2.keep n39
  have rN := range_same rN s2
  have t2 := t1.trans s2
  have r2 := (s2.block _ (lt_of_heap r2) (fun f => f)).trans r2
  have hnb : w.heap.size + 1 < W2.heap.size := World.block_lt_of_cell? _ _ z0
  clear s2 t1
  go_wp2_with (first | (refine wpList_store_whole (by rfl) 32 _ _ (by rfl) W2.heap.size OA ZA 32 (by rfl) (by rfl) (heap_alloc_new W2 _) (by rw [hzs, hOs]) hOz hOo ?_; intro W3 r3 f3; have s3 : Same W2 W3 := Fr.trans ((Fr.refl _ W2).alloc _) f3 (fun i hi e => by omega); have c0 := s3.keep c0; have c1 := s3.keep c1; have z0 := s3.keep z0; have z1 := s3.keep z1; have n0 := s3.keep n0; have n37 := s3.keep n37; have n38 := s3.keep n38; have n39 := s3.keep n39; have rN := range_same rN s3; have t3 := t2.trans s3; have r2 := (s3.block _ (lt_of_heap r2) (fun f => f)).trans r2) | (refine wpList_load_mid (by rfl) 32 _ (by rfl) (w.heap.size + 1 + 1) 0 (by rfl) NA.toList _ rN Tryd.underlying32 rfl hNl ?_; rw [Array.toArray_toList]))
  clear f3 s3 t2
  have o0 : W3.cell? ⟨W2.heap.size, 0, none⟩ = some (.int .u64 OV) := by rw [cell_of_row _ _ _ _ _ _ r3]; exact hOV
  refine (HE.out _ t3).mono ?_
  rintro e W4 ⟨rfl, s4⟩
  have c0 := s4.keep c0
  have c1 := s4.keep c1
  have z0 := s4.keep z0
  have z1 := s4.keep z1
  have n0 := s4.keep n0
  have n37 := s4.keep n37
  have n38 := s4.keep n38
  have n39 := s4.keep n39
  have rN := range_same rN s4
  have t4 := t3.trans s4
  have r2 := (s4.block _ (lt_of_heap r2) (fun f => f)).trans r2
  have r4 := (s4.block _ (lt_of_heap r3) (fun f => f)).trans r3
  have o0 := s4.keep o0
  clear s4 t3 r3
  have fz := cell_of_two r2
  have ff0 := fz.2.2.1
  have ff1 := fz.2.2.2
  clear fz
  go_wp2_with fail
  refine (HM.out _).mono ?_
  rintro e W5 ⟨⟨X, rfl, hX⟩, s5⟩
  clear ff0 ff1
  have c0 := s5.keep c0
  have c1 := s5.keep c1
  have z0 := s5.keep z0
  have z1 := s5.keep z1
  have n0 := s5.keep n0
  have n37 := s5.keep n37
  have n38 := s5.keep n38
  have n39 := s5.keep n39
  have rN := range_same rN s5
  have t5 := t4.trans s5
  have r2 := (s5.block _ (lt_of_heap r2) (fun f => f)).trans r2
  have r5 := (s5.block _ (lt_of_heap r4) (fun f => f)).trans r4
  have o0 := s5.keep o0
  clear s5 t4 r4
  have fz := cell_of_two r2
  have ff0 := fz.2.2.1
  have ff1 := fz.2.2.2
  clear fz
  have f6 : Fr (fun k => k = w.heap.size + 1) W5 (W5.setCell ⟨w.heap.size + 1, 0, none⟩ (.string X)) := (Fr.refl (fun k => k = w.heap.size + 1) W5).setCell (p := ⟨w.heap.size + 1, 0, none⟩) (fun _ => rfl) _
  have r6' := heap_setCell_same W5 (w.heap.size + 1) 0 _ _ (.string X) r2
  simp only [List.setIfInBounds_toArray, List.set_cons_zero] at r6'
  have x0 := (cell_of_two r6').1
  have x1 := (cell_of_two r6').2.1
  have t6 : Same w (W5.setCell ⟨w.heap.size + 1, 0, none⟩ (.string X)) := Fr.trans t5 f6 (fun i hi e => by omega)
  have c06 := (f6.cell (p := ⟨w.heap.size, 0, none⟩) (World.block_lt_of_cell? _ _ c0) (by simp)).trans c0
  have c16 := (f6.cell (p := ⟨w.heap.size, 1, none⟩) (World.block_lt_of_cell? _ _ c1) (by simp)).trans c1
  have n06 := (f6.cell (p := ⟨w.heap.size + 1 + 1, 0, none⟩) (World.block_lt_of_cell? _ _ n0) (by simp)).trans n0
  have n376 := (f6.cell (p := ⟨w.heap.size + 1 + 1, 37, none⟩) (World.block_lt_of_cell? _ _ n37) (by simp)).trans n37
  have n386 := (f6.cell (p := ⟨w.heap.size + 1 + 1, 38, none⟩) (World.block_lt_of_cell? _ _ n38) (by simp)).trans n38
  have n396 := (f6.cell (p := ⟨w.heap.size + 1 + 1, 39, none⟩) (World.block_lt_of_cell? _ _ n39) (by simp)).trans n39
  have rN6 : (W5.setCell ⟨w.heap.size + 1, 0, none⟩ (.string X)).rangeAt (w.heap.size + 1 + 1) 0 NA.toList := fun j v hv => (f6.cell (p := ⟨w.heap.size + 1 + 1, 0 + j, none⟩) (World.block_lt_of_cell? _ _ (rN j v hv)) (by simp)).trans (rN j v hv)
  have q6 := (f6.block W2.heap.size (lt_of_heap r5) (by omega)).trans r5
  clear f6
  go_wp2_with fail
  refine (HQ.out X hX _ t6).mono ?_
  rintro e W7 ⟨rfl, s7⟩
  have t7 := t6.trans s7
  have rN7 := range_same rN6 s7
  have q7 := (s7.block _ (lt_of_heap q6) (fun f => f)).trans q6
  have m38 := s7.keep n386
  clear s7 t6 rN6 q6
  go_wp2_with (first | (refine wpList_store_whole (by rfl) 32 _ _ (by rfl) W7.heap.size OA ZA 32 (by rfl) (by rfl) (heap_alloc_new W7 _) (by rw [hzs, hOs]) hOz hOo ?_; intro W8 r8 f8; have s8 : Same W7 W8 := Fr.trans ((Fr.refl _ W7).alloc _) f8 (fun i hi e => by omega); have t8 := t7.trans s8; have rN8 := range_same rN7 s8; have q8 := (s8.block _ (lt_of_heap q7) (fun f => f)).trans q7; have m38 := s8.keep m38) | (refine wpList_load_want (by rfl) 32 _ (by rfl) W7.heap.size (by rfl) 32 OA (0, 0) _ r8 Tryd.underlying32 rfl hOz ?_) | (refine wpList_load_mid_want (by rfl) 32 _ (by rfl) (w.heap.size + 1 + 1) 0 (by rfl) NA.toList _ rN8 Tryd.underlying32 rfl hNl ?_; rw [Array.toArray_toList]) | (refine wpList_load_want (by rfl) 32 _ (by rfl) W2.heap.size (by rfl) 32 OA (0, 0) _ q8 Tryd.underlying32 rfl hOz ?_))
  go_ret
  exact ⟨rfl, t8⟩

set_option maxRecDepth 100000 in
set_option maxHeartbeats 2000000 in
theorem mgoes_1t {p q : Int} {z o PG : ByteArray} {ZA TA OA NA : Array Value} {OV NV NP came : Nat} {pages : Int} (w : World) (hzl : (#[.int .u64 0, .int .u32 0, .int .u8 0, .int .u8 0, .int .u8 0, .int .u8 0, .int .u8 0, .int .u8 0, .int .u8 0, .int .u8 0, .int .u8 0, .int .u8 0, .int .u8 0, .int .u8 0, .int .u8 0, .int .u8 0, .int .u8 0, .int .u8 0, .int .u8 0, .int .u8 0, .int .u8 0, .int .u8 0, .int .u8 0, .int .u8 0, .int .u8 0, .int .u8 0, .int .u8 0, .int .u8 0, .int .u8 0, .int .u8 0, .int .u8 0, .int .u8 0, .int .u8 0, .int .u8 0, .int .u64 0, .int .u64 0, .int .u32 0, .int .u32 0] : Array Value) = ZA) (hzs : ZA.size = 38) (hOs : OA.size = 38) (hOo : OA.all (·.oneCell') = true) (hNs : NA.size = 38) (hOV : OA[0]? = some (.int .u64 OV)) (hT0 : TA[0]? = some (.int .u64 NV)) (hT37 : TA[37]? = some (.int .u32 NP)) (hT38 : TA[38]? = some (.int .u8 came)) (hT39 : TA[39]? = some (.int .i64 pages)) (hTN : Hid (∀ (j : Nat) (v : Value), NA[j]? = some v → TA[j]? = some v)) {Φ : ByteArray → Prop} (hNP : NP < 4294967296) (hNo : NA.all (·.oneCell') = true) (h3 : ¬ pages < 2) (h4 : ¬ (NV : Int) ≤ (OV : Int)) (h5 : ¬ pages < (NP : Int)) (hbit : (bits BinOp.and IntKind.u8 (came : Int) 1 == 1) = true)
    (hEq : ∀ W : World, (Op.equalIn 10000 32 (.agg NA) (.agg NA)).run Tryd.prog W = .ok true W)
    (HA : Hid (∀ W, Same w W → Calls Tryd.prog 9 #[] W fun e w' => e = .returned (.bool true) ∧ Same W w'))
    (HK : Hid (∀ W, Same w W → Calls Tryd.prog 14 #[frameV p q, .string z, .string o, .int .i64 pages] W fun e w' => e = .returned (.tuple #[.agg OA, .int .u32 1, .int .i64 0]) ∧ Same W w'))
    (HE : Hid (∀ W, Same w W → Calls Tryd.prog 10 #[frameV p q, .agg NA] W fun e w' => e = .returned (.tuple #[.string PG, .int .i64 0]) ∧ Same W w'))
    (HM : Hid (∀ W, Calls Tryd.prog 13 #[frameV p q, .string o, .string PG, .int .u8 came] W fun e w' => (∃ s, e = .returned (.string s) ∧ Φ s) ∧ Same W w'))
    (HQ : Hid (∀ s, Φ s → ∀ W, Same w W → Calls Tryd.prog 14 #[frameV p q, .string z, .string s, .int .i64 pages] W fun e w' => e = .returned (.tuple #[.agg NA, .int .u32 0, .int .i64 0]) ∧ Same W w')) :
    Calls Tryd.prog 7 #[frameV p q, .agg #[.string z, .string o], .agg TA] w fun e w' => e = .returned (.bool true) ∧ Same w w' := by
  have hbit := hbit
  have hEq := hEq
  have h3 := h3
  have h4 := h4
  have h5 := h5
  have hNo := hNo
  have hzl := hzl
  have sx : Same w (((w.alloc (.cells #[.int .i64 p, .int .i64 q] 24)).alloc (.cells #[.string z, .string o] 44)).alloc (.cells TA 48)) := (((Fr.refl _ w).alloc _).alloc _).alloc _
  have r0 : (((w.alloc (.cells #[.int .i64 p, .int .i64 q] 24)).alloc (.cells #[.string z, .string o] 44)).alloc (.cells TA 48)).heap[w.heap.size + 1 + 1]? = some (.cells TA 48 (0, 0)) := by
    have := heap_alloc2_new (w.alloc (.cells #[.int .i64 p, .int .i64 q] 24)) (.cells #[.string z, .string o] 44) (.cells TA 48)
    rw [show (w.alloc (.cells #[.int .i64 p, .int .i64 q] 24)).heap.size = w.heap.size + 1 from by simp] at this
    exact this
  have r1 : (((w.alloc (.cells #[.int .i64 p, .int .i64 q] 24)).alloc (.cells #[.string z, .string o] 44)).alloc (.cells TA 48)).heap[w.heap.size]? = some (.cells #[.int .i64 p, .int .i64 q] 24 (0, 0)) := by rw [Below.heap_alloc _ _ _ (by simp; omega)]; exact heap_alloc2_old w _ _
  have r2 : (((w.alloc (.cells #[.int .i64 p, .int .i64 q] 24)).alloc (.cells #[.string z, .string o] 44)).alloc (.cells TA 48)).heap[w.heap.size + 1]? = some (.cells #[.string z, .string o] 44 (0, 0)) := by rw [Below.heap_alloc _ _ _ (by simp)]; exact heap_alloc2_new w _ _
  have c0 : (((w.alloc (.cells #[.int .i64 p, .int .i64 q] 24)).alloc (.cells #[.string z, .string o] 44)).alloc (.cells TA 48)).cell? ⟨w.heap.size, 0, none⟩ = some (.int .i64 p) := (cell_of_two r1).1
  have c1 : (((w.alloc (.cells #[.int .i64 p, .int .i64 q] 24)).alloc (.cells #[.string z, .string o] 44)).alloc (.cells TA 48)).cell? ⟨w.heap.size, 1, none⟩ = some (.int .i64 q) := (cell_of_two r1).2.1
  have z0 : (((w.alloc (.cells #[.int .i64 p, .int .i64 q] 24)).alloc (.cells #[.string z, .string o] 44)).alloc (.cells TA 48)).cell? ⟨w.heap.size + 1, 0, none⟩ = some (.string z) := (cell_of_two r2).1
  have z1 : (((w.alloc (.cells #[.int .i64 p, .int .i64 q] 24)).alloc (.cells #[.string z, .string o] 44)).alloc (.cells TA 48)).cell? ⟨w.heap.size + 1, 1, none⟩ = some (.string o) := (cell_of_two r2).2.1
  have n0 : (((w.alloc (.cells #[.int .i64 p, .int .i64 q] 24)).alloc (.cells #[.string z, .string o] 44)).alloc (.cells TA 48)).cell? ⟨w.heap.size + 1 + 1, 0, none⟩ = some (.int .u64 NV) := by rw [cell_of_row _ _ _ _ _ _ r0]; exact hT0
  have n37 : (((w.alloc (.cells #[.int .i64 p, .int .i64 q] 24)).alloc (.cells #[.string z, .string o] 44)).alloc (.cells TA 48)).cell? ⟨w.heap.size + 1 + 1, 37, none⟩ = some (.int .u32 NP) := by rw [cell_of_row _ _ _ _ _ _ r0]; exact hT37
  have n38 : (((w.alloc (.cells #[.int .i64 p, .int .i64 q] 24)).alloc (.cells #[.string z, .string o] 44)).alloc (.cells TA 48)).cell? ⟨w.heap.size + 1 + 1, 38, none⟩ = some (.int .u8 came) := by rw [cell_of_row _ _ _ _ _ _ r0]; exact hT38
  have n39 : (((w.alloc (.cells #[.int .i64 p, .int .i64 q] 24)).alloc (.cells #[.string z, .string o] 44)).alloc (.cells TA 48)).cell? ⟨w.heap.size + 1 + 1, 39, none⟩ = some (.int .i64 pages) := by rw [cell_of_row _ _ _ _ _ _ r0]; exact hT39
  have rN : (((w.alloc (.cells #[.int .i64 p, .int .i64 q] 24)).alloc (.cells #[.string z, .string o] 44)).alloc (.cells TA 48)).rangeAt (w.heap.size + 1 + 1) 0 NA.toList := by
    intro j v hv
    rw [Nat.zero_add, cell_of_row _ _ _ _ _ _ r0]
    exact hTN.out j v (by simpa using hv)
  have hOz : (Tryd.prog.info? 32).map (·.size) = some OA.size := by rw [Tryd.infoM, hOs]
  have hNz : (Tryd.prog.info? 32).map (·.size) = some NA.size := by rw [Tryd.infoM, hNs]
  have hNl : (Tryd.prog.info? 32).map (·.size) = some NA.toList.length := by rw [Tryd.infoM, Array.length_toList, hNs]
  have hwp : wrap64 (NP : Int) = (NP : Int) := by rw [wrap64]; omega
  clear r0 r1 hT0 hT37 hT38 hT39
  go_enter Tryd.func7, Tryd.ntmps7
  go_wp2_with fail
  refine (HA.out _ sx).mono ?_
  rintro e W1 ⟨rfl, s1⟩
  have c0 := s1.keep c0
  have c1 := s1.keep c1
  have z0 := s1.keep z0
  have z1 := s1.keep z1
  have n0 := s1.keep n0
  have n37 := s1.keep n37
  have n38 := s1.keep n38
  have n39 := s1.keep n39
  have rN := range_same rN s1
  have t1 := sx.trans s1
  have r2 := (s1.block _ (lt_of_heap r2) (fun f => f)).trans r2
  clear s1 sx
  go_wp2_with fail
  refine (HK.out _ t1).mono ?_
  rintro e W2 ⟨rfl, s2⟩
  have c0 := s2.keep c0
  have c1 := s2.keep c1
  have z0 := s2.keep z0
  have z1 := s2.keep z1
  have n0 := s2.keep n0
  have n37 := s2.keep n37
  have n38 := s2.keep n38
  have n39 := s2.keep n39
  have rN := range_same rN s2
  have t2 := t1.trans s2
  have r2 := (s2.block _ (lt_of_heap r2) (fun f => f)).trans r2
  have hnb : w.heap.size + 1 < W2.heap.size := World.block_lt_of_cell? _ _ z0
  clear s2 t1
  go_wp2_with (first | (refine wpList_store_whole (by rfl) 32 _ _ (by rfl) W2.heap.size OA ZA 32 (by rfl) (by rfl) (heap_alloc_new W2 _) (by rw [hzs, hOs]) hOz hOo ?_; intro W3 r3 f3; have s3 : Same W2 W3 := Fr.trans ((Fr.refl _ W2).alloc _) f3 (fun i hi e => by omega); have c0 := s3.keep c0; have c1 := s3.keep c1; have z0 := s3.keep z0; have z1 := s3.keep z1; have n0 := s3.keep n0; have n37 := s3.keep n37; have n38 := s3.keep n38; have n39 := s3.keep n39; have rN := range_same rN s3; have t3 := t2.trans s3; have r2 := (s3.block _ (lt_of_heap r2) (fun f => f)).trans r2) | (refine wpList_load_mid (by rfl) 32 _ (by rfl) (w.heap.size + 1 + 1) 0 (by rfl) NA.toList _ rN Tryd.underlying32 rfl hNl ?_; rw [Array.toArray_toList]))
  clear f3 s3 t2
  have o0 : W3.cell? ⟨W2.heap.size, 0, none⟩ = some (.int .u64 OV) := by rw [cell_of_row _ _ _ _ _ _ r3]; exact hOV
  refine (HE.out _ t3).mono ?_
  rintro e W4 ⟨rfl, s4⟩
  have c0 := s4.keep c0
  have c1 := s4.keep c1
  have z0 := s4.keep z0
  have z1 := s4.keep z1
  have n0 := s4.keep n0
  have n37 := s4.keep n37
  have n38 := s4.keep n38
  have n39 := s4.keep n39
  have rN := range_same rN s4
  have t4 := t3.trans s4
  have r2 := (s4.block _ (lt_of_heap r2) (fun f => f)).trans r2
  have r4 := (s4.block _ (lt_of_heap r3) (fun f => f)).trans r3
  have o0 := s4.keep o0
  clear s4 t3 r3
  have fz := cell_of_two r2
  have ff0 := fz.2.2.1
  have ff1 := fz.2.2.2
  clear fz
  go_wp2_with fail
  refine (HM.out _).mono ?_
  rintro e W5 ⟨⟨X, rfl, hX⟩, s5⟩
  clear ff0 ff1
  have c0 := s5.keep c0
  have c1 := s5.keep c1
  have z0 := s5.keep z0
  have z1 := s5.keep z1
  have n0 := s5.keep n0
  have n37 := s5.keep n37
  have n38 := s5.keep n38
  have n39 := s5.keep n39
  have rN := range_same rN s5
  have t5 := t4.trans s5
  have r2 := (s5.block _ (lt_of_heap r2) (fun f => f)).trans r2
  have r5 := (s5.block _ (lt_of_heap r4) (fun f => f)).trans r4
  have o0 := s5.keep o0
  clear s5 t4 r4
  have fz := cell_of_two r2
  have ff0 := fz.2.2.1
  have ff1 := fz.2.2.2
  clear fz
  have f6 : Fr (fun k => k = w.heap.size + 1) W5 (W5.setCell ⟨w.heap.size + 1, 1, none⟩ (.string X)) := (Fr.refl (fun k => k = w.heap.size + 1) W5).setCell (p := ⟨w.heap.size + 1, 1, none⟩) (fun _ => rfl) _
  have r6' := heap_setCell_same W5 (w.heap.size + 1) 1 _ _ (.string X) r2
  simp only [List.setIfInBounds_toArray, List.set_cons_succ, List.set_cons_zero] at r6'
  have x0 := (cell_of_two r6').1
  have x1 := (cell_of_two r6').2.1
  have t6 : Same w (W5.setCell ⟨w.heap.size + 1, 1, none⟩ (.string X)) := Fr.trans t5 f6 (fun i hi e => by omega)
  have c06 := (f6.cell (p := ⟨w.heap.size, 0, none⟩) (World.block_lt_of_cell? _ _ c0) (by simp)).trans c0
  have c16 := (f6.cell (p := ⟨w.heap.size, 1, none⟩) (World.block_lt_of_cell? _ _ c1) (by simp)).trans c1
  have n06 := (f6.cell (p := ⟨w.heap.size + 1 + 1, 0, none⟩) (World.block_lt_of_cell? _ _ n0) (by simp)).trans n0
  have n376 := (f6.cell (p := ⟨w.heap.size + 1 + 1, 37, none⟩) (World.block_lt_of_cell? _ _ n37) (by simp)).trans n37
  have n386 := (f6.cell (p := ⟨w.heap.size + 1 + 1, 38, none⟩) (World.block_lt_of_cell? _ _ n38) (by simp)).trans n38
  have n396 := (f6.cell (p := ⟨w.heap.size + 1 + 1, 39, none⟩) (World.block_lt_of_cell? _ _ n39) (by simp)).trans n39
  have rN6 : (W5.setCell ⟨w.heap.size + 1, 1, none⟩ (.string X)).rangeAt (w.heap.size + 1 + 1) 0 NA.toList := fun j v hv => (f6.cell (p := ⟨w.heap.size + 1 + 1, 0 + j, none⟩) (World.block_lt_of_cell? _ _ (rN j v hv)) (by simp)).trans (rN j v hv)
  have q6 := (f6.block W2.heap.size (lt_of_heap r5) (by omega)).trans r5
  clear f6
  go_wp2_with fail
  refine (HQ.out X hX _ t6).mono ?_
  rintro e W7 ⟨rfl, s7⟩
  have t7 := t6.trans s7
  have rN7 := range_same rN6 s7
  have q7 := (s7.block _ (lt_of_heap q6) (fun f => f)).trans q6
  have m38 := s7.keep n386
  clear s7 t6 rN6 q6
  go_wp2_with (first | (refine wpList_store_whole (by rfl) 32 _ _ (by rfl) W7.heap.size NA ZA 32 (by rfl) (by rfl) (heap_alloc_new W7 _) (by rw [hzs, hNs]) hNz hNo ?_; intro W8 r8 f8; have s8 : Same W7 W8 := Fr.trans ((Fr.refl _ W7).alloc _) f8 (fun i hi e => by omega); have t8 := t7.trans s8; have rN8 := range_same rN7 s8; have q8 := (s8.block _ (lt_of_heap q7) (fun f => f)).trans q7; have m38 := s8.keep m38) | (refine wpList_load_want (by rfl) 32 _ (by rfl) W7.heap.size (by rfl) 32 NA (0, 0) _ r8 Tryd.underlying32 rfl hNz ?_) | (refine wpList_load_mid_want (by rfl) 32 _ (by rfl) (w.heap.size + 1 + 1) 0 (by rfl) NA.toList _ rN8 Tryd.underlying32 rfl hNl ?_; rw [Array.toArray_toList]) | (refine wpList_load_want (by rfl) 32 _ (by rfl) W2.heap.size (by rfl) 32 OA (0, 0) _ q8 Tryd.underlying32 rfl hOz ?_))
  go_ret
  exact ⟨rfl, t8⟩

set_option maxRecDepth 100000 in
set_option maxHeartbeats 2000000 in
theorem mgoes_1f {p q : Int} {z o PG : ByteArray} {ZA TA OA NA : Array Value} {OV NV NP came : Nat} {pages : Int} (w : World) (hzl : (#[.int .u64 0, .int .u32 0, .int .u8 0, .int .u8 0, .int .u8 0, .int .u8 0, .int .u8 0, .int .u8 0, .int .u8 0, .int .u8 0, .int .u8 0, .int .u8 0, .int .u8 0, .int .u8 0, .int .u8 0, .int .u8 0, .int .u8 0, .int .u8 0, .int .u8 0, .int .u8 0, .int .u8 0, .int .u8 0, .int .u8 0, .int .u8 0, .int .u8 0, .int .u8 0, .int .u8 0, .int .u8 0, .int .u8 0, .int .u8 0, .int .u8 0, .int .u8 0, .int .u8 0, .int .u8 0, .int .u64 0, .int .u64 0, .int .u32 0, .int .u32 0] : Array Value) = ZA) (hzs : ZA.size = 38) (hOs : OA.size = 38) (hOo : OA.all (·.oneCell') = true) (hNs : NA.size = 38) (hOV : OA[0]? = some (.int .u64 OV)) (hT0 : TA[0]? = some (.int .u64 NV)) (hT37 : TA[37]? = some (.int .u32 NP)) (hT38 : TA[38]? = some (.int .u8 came)) (hT39 : TA[39]? = some (.int .i64 pages)) (hTN : Hid (∀ (j : Nat) (v : Value), NA[j]? = some v → TA[j]? = some v)) {Φ : ByteArray → Prop} (hNP : NP < 4294967296) (hNo : NA.all (·.oneCell') = true) (h3 : ¬ pages < 2) (h4 : ¬ (NV : Int) ≤ (OV : Int)) (h5 : ¬ pages < (NP : Int)) (hbit : (bits BinOp.and IntKind.u8 (came : Int) 1 == 1) = false)
    (hEq : ∀ W : World, (Op.equalIn 10000 32 (.agg OA) (.agg OA)).run Tryd.prog W = .ok true W)
    (HA : Hid (∀ W, Same w W → Calls Tryd.prog 9 #[] W fun e w' => e = .returned (.bool true) ∧ Same W w'))
    (HK : Hid (∀ W, Same w W → Calls Tryd.prog 14 #[frameV p q, .string z, .string o, .int .i64 pages] W fun e w' => e = .returned (.tuple #[.agg OA, .int .u32 1, .int .i64 0]) ∧ Same W w'))
    (HE : Hid (∀ W, Same w W → Calls Tryd.prog 10 #[frameV p q, .agg NA] W fun e w' => e = .returned (.tuple #[.string PG, .int .i64 0]) ∧ Same W w'))
    (HM : Hid (∀ W, Calls Tryd.prog 13 #[frameV p q, .string o, .string PG, .int .u8 came] W fun e w' => (∃ s, e = .returned (.string s) ∧ Φ s) ∧ Same W w'))
    (HQ : Hid (∀ s, Φ s → ∀ W, Same w W → Calls Tryd.prog 14 #[frameV p q, .string z, .string s, .int .i64 pages] W fun e w' => e = .returned (.tuple #[.agg OA, .int .u32 1, .int .i64 0]) ∧ Same W w')) :
    Calls Tryd.prog 7 #[frameV p q, .agg #[.string z, .string o], .agg TA] w fun e w' => e = .returned (.bool true) ∧ Same w w' := by
  have hbit := hbit
  have hEq := hEq
  have h3 := h3
  have h4 := h4
  have h5 := h5
  have hNo := hNo
  have hzl := hzl
  have sx : Same w (((w.alloc (.cells #[.int .i64 p, .int .i64 q] 24)).alloc (.cells #[.string z, .string o] 44)).alloc (.cells TA 48)) := (((Fr.refl _ w).alloc _).alloc _).alloc _
  have r0 : (((w.alloc (.cells #[.int .i64 p, .int .i64 q] 24)).alloc (.cells #[.string z, .string o] 44)).alloc (.cells TA 48)).heap[w.heap.size + 1 + 1]? = some (.cells TA 48 (0, 0)) := by
    have := heap_alloc2_new (w.alloc (.cells #[.int .i64 p, .int .i64 q] 24)) (.cells #[.string z, .string o] 44) (.cells TA 48)
    rw [show (w.alloc (.cells #[.int .i64 p, .int .i64 q] 24)).heap.size = w.heap.size + 1 from by simp] at this
    exact this
  have r1 : (((w.alloc (.cells #[.int .i64 p, .int .i64 q] 24)).alloc (.cells #[.string z, .string o] 44)).alloc (.cells TA 48)).heap[w.heap.size]? = some (.cells #[.int .i64 p, .int .i64 q] 24 (0, 0)) := by rw [Below.heap_alloc _ _ _ (by simp; omega)]; exact heap_alloc2_old w _ _
  have r2 : (((w.alloc (.cells #[.int .i64 p, .int .i64 q] 24)).alloc (.cells #[.string z, .string o] 44)).alloc (.cells TA 48)).heap[w.heap.size + 1]? = some (.cells #[.string z, .string o] 44 (0, 0)) := by rw [Below.heap_alloc _ _ _ (by simp)]; exact heap_alloc2_new w _ _
  have c0 : (((w.alloc (.cells #[.int .i64 p, .int .i64 q] 24)).alloc (.cells #[.string z, .string o] 44)).alloc (.cells TA 48)).cell? ⟨w.heap.size, 0, none⟩ = some (.int .i64 p) := (cell_of_two r1).1
  have c1 : (((w.alloc (.cells #[.int .i64 p, .int .i64 q] 24)).alloc (.cells #[.string z, .string o] 44)).alloc (.cells TA 48)).cell? ⟨w.heap.size, 1, none⟩ = some (.int .i64 q) := (cell_of_two r1).2.1
  have z0 : (((w.alloc (.cells #[.int .i64 p, .int .i64 q] 24)).alloc (.cells #[.string z, .string o] 44)).alloc (.cells TA 48)).cell? ⟨w.heap.size + 1, 0, none⟩ = some (.string z) := (cell_of_two r2).1
  have z1 : (((w.alloc (.cells #[.int .i64 p, .int .i64 q] 24)).alloc (.cells #[.string z, .string o] 44)).alloc (.cells TA 48)).cell? ⟨w.heap.size + 1, 1, none⟩ = some (.string o) := (cell_of_two r2).2.1
  have n0 : (((w.alloc (.cells #[.int .i64 p, .int .i64 q] 24)).alloc (.cells #[.string z, .string o] 44)).alloc (.cells TA 48)).cell? ⟨w.heap.size + 1 + 1, 0, none⟩ = some (.int .u64 NV) := by rw [cell_of_row _ _ _ _ _ _ r0]; exact hT0
  have n37 : (((w.alloc (.cells #[.int .i64 p, .int .i64 q] 24)).alloc (.cells #[.string z, .string o] 44)).alloc (.cells TA 48)).cell? ⟨w.heap.size + 1 + 1, 37, none⟩ = some (.int .u32 NP) := by rw [cell_of_row _ _ _ _ _ _ r0]; exact hT37
  have n38 : (((w.alloc (.cells #[.int .i64 p, .int .i64 q] 24)).alloc (.cells #[.string z, .string o] 44)).alloc (.cells TA 48)).cell? ⟨w.heap.size + 1 + 1, 38, none⟩ = some (.int .u8 came) := by rw [cell_of_row _ _ _ _ _ _ r0]; exact hT38
  have n39 : (((w.alloc (.cells #[.int .i64 p, .int .i64 q] 24)).alloc (.cells #[.string z, .string o] 44)).alloc (.cells TA 48)).cell? ⟨w.heap.size + 1 + 1, 39, none⟩ = some (.int .i64 pages) := by rw [cell_of_row _ _ _ _ _ _ r0]; exact hT39
  have rN : (((w.alloc (.cells #[.int .i64 p, .int .i64 q] 24)).alloc (.cells #[.string z, .string o] 44)).alloc (.cells TA 48)).rangeAt (w.heap.size + 1 + 1) 0 NA.toList := by
    intro j v hv
    rw [Nat.zero_add, cell_of_row _ _ _ _ _ _ r0]
    exact hTN.out j v (by simpa using hv)
  have hOz : (Tryd.prog.info? 32).map (·.size) = some OA.size := by rw [Tryd.infoM, hOs]
  have hNz : (Tryd.prog.info? 32).map (·.size) = some NA.size := by rw [Tryd.infoM, hNs]
  have hNl : (Tryd.prog.info? 32).map (·.size) = some NA.toList.length := by rw [Tryd.infoM, Array.length_toList, hNs]
  have hwp : wrap64 (NP : Int) = (NP : Int) := by rw [wrap64]; omega
  clear r0 r1 hT0 hT37 hT38 hT39
  go_enter Tryd.func7, Tryd.ntmps7
  go_wp2_with fail
  refine (HA.out _ sx).mono ?_
  rintro e W1 ⟨rfl, s1⟩
  have c0 := s1.keep c0
  have c1 := s1.keep c1
  have z0 := s1.keep z0
  have z1 := s1.keep z1
  have n0 := s1.keep n0
  have n37 := s1.keep n37
  have n38 := s1.keep n38
  have n39 := s1.keep n39
  have rN := range_same rN s1
  have t1 := sx.trans s1
  have r2 := (s1.block _ (lt_of_heap r2) (fun f => f)).trans r2
  clear s1 sx
  go_wp2_with fail
  refine (HK.out _ t1).mono ?_
  rintro e W2 ⟨rfl, s2⟩
  have c0 := s2.keep c0
  have c1 := s2.keep c1
  have z0 := s2.keep z0
  have z1 := s2.keep z1
  have n0 := s2.keep n0
  have n37 := s2.keep n37
  have n38 := s2.keep n38
  have n39 := s2.keep n39
  have rN := range_same rN s2
  have t2 := t1.trans s2
  have r2 := (s2.block _ (lt_of_heap r2) (fun f => f)).trans r2
  have hnb : w.heap.size + 1 < W2.heap.size := World.block_lt_of_cell? _ _ z0
  clear s2 t1
  go_wp2_with (first | (refine wpList_store_whole (by rfl) 32 _ _ (by rfl) W2.heap.size OA ZA 32 (by rfl) (by rfl) (heap_alloc_new W2 _) (by rw [hzs, hOs]) hOz hOo ?_; intro W3 r3 f3; have s3 : Same W2 W3 := Fr.trans ((Fr.refl _ W2).alloc _) f3 (fun i hi e => by omega); have c0 := s3.keep c0; have c1 := s3.keep c1; have z0 := s3.keep z0; have z1 := s3.keep z1; have n0 := s3.keep n0; have n37 := s3.keep n37; have n38 := s3.keep n38; have n39 := s3.keep n39; have rN := range_same rN s3; have t3 := t2.trans s3; have r2 := (s3.block _ (lt_of_heap r2) (fun f => f)).trans r2) | (refine wpList_load_mid (by rfl) 32 _ (by rfl) (w.heap.size + 1 + 1) 0 (by rfl) NA.toList _ rN Tryd.underlying32 rfl hNl ?_; rw [Array.toArray_toList]))
  clear f3 s3 t2
  have o0 : W3.cell? ⟨W2.heap.size, 0, none⟩ = some (.int .u64 OV) := by rw [cell_of_row _ _ _ _ _ _ r3]; exact hOV
  refine (HE.out _ t3).mono ?_
  rintro e W4 ⟨rfl, s4⟩
  have c0 := s4.keep c0
  have c1 := s4.keep c1
  have z0 := s4.keep z0
  have z1 := s4.keep z1
  have n0 := s4.keep n0
  have n37 := s4.keep n37
  have n38 := s4.keep n38
  have n39 := s4.keep n39
  have rN := range_same rN s4
  have t4 := t3.trans s4
  have r2 := (s4.block _ (lt_of_heap r2) (fun f => f)).trans r2
  have r4 := (s4.block _ (lt_of_heap r3) (fun f => f)).trans r3
  have o0 := s4.keep o0
  clear s4 t3 r3
  have fz := cell_of_two r2
  have ff0 := fz.2.2.1
  have ff1 := fz.2.2.2
  clear fz
  go_wp2_with fail
  refine (HM.out _).mono ?_
  rintro e W5 ⟨⟨X, rfl, hX⟩, s5⟩
  clear ff0 ff1
  have c0 := s5.keep c0
  have c1 := s5.keep c1
  have z0 := s5.keep z0
  have z1 := s5.keep z1
  have n0 := s5.keep n0
  have n37 := s5.keep n37
  have n38 := s5.keep n38
  have n39 := s5.keep n39
  have rN := range_same rN s5
  have t5 := t4.trans s5
  have r2 := (s5.block _ (lt_of_heap r2) (fun f => f)).trans r2
  have r5 := (s5.block _ (lt_of_heap r4) (fun f => f)).trans r4
  have o0 := s5.keep o0
  clear s5 t4 r4
  have fz := cell_of_two r2
  have ff0 := fz.2.2.1
  have ff1 := fz.2.2.2
  clear fz
  have f6 : Fr (fun k => k = w.heap.size + 1) W5 (W5.setCell ⟨w.heap.size + 1, 1, none⟩ (.string X)) := (Fr.refl (fun k => k = w.heap.size + 1) W5).setCell (p := ⟨w.heap.size + 1, 1, none⟩) (fun _ => rfl) _
  have r6' := heap_setCell_same W5 (w.heap.size + 1) 1 _ _ (.string X) r2
  simp only [List.setIfInBounds_toArray, List.set_cons_succ, List.set_cons_zero] at r6'
  have x0 := (cell_of_two r6').1
  have x1 := (cell_of_two r6').2.1
  have t6 : Same w (W5.setCell ⟨w.heap.size + 1, 1, none⟩ (.string X)) := Fr.trans t5 f6 (fun i hi e => by omega)
  have c06 := (f6.cell (p := ⟨w.heap.size, 0, none⟩) (World.block_lt_of_cell? _ _ c0) (by simp)).trans c0
  have c16 := (f6.cell (p := ⟨w.heap.size, 1, none⟩) (World.block_lt_of_cell? _ _ c1) (by simp)).trans c1
  have n06 := (f6.cell (p := ⟨w.heap.size + 1 + 1, 0, none⟩) (World.block_lt_of_cell? _ _ n0) (by simp)).trans n0
  have n376 := (f6.cell (p := ⟨w.heap.size + 1 + 1, 37, none⟩) (World.block_lt_of_cell? _ _ n37) (by simp)).trans n37
  have n386 := (f6.cell (p := ⟨w.heap.size + 1 + 1, 38, none⟩) (World.block_lt_of_cell? _ _ n38) (by simp)).trans n38
  have n396 := (f6.cell (p := ⟨w.heap.size + 1 + 1, 39, none⟩) (World.block_lt_of_cell? _ _ n39) (by simp)).trans n39
  have rN6 : (W5.setCell ⟨w.heap.size + 1, 1, none⟩ (.string X)).rangeAt (w.heap.size + 1 + 1) 0 NA.toList := fun j v hv => (f6.cell (p := ⟨w.heap.size + 1 + 1, 0 + j, none⟩) (World.block_lt_of_cell? _ _ (rN j v hv)) (by simp)).trans (rN j v hv)
  have q6 := (f6.block W2.heap.size (lt_of_heap r5) (by omega)).trans r5
  clear f6
  go_wp2_with fail
  refine (HQ.out X hX _ t6).mono ?_
  rintro e W7 ⟨rfl, s7⟩
  have t7 := t6.trans s7
  have rN7 := range_same rN6 s7
  have q7 := (s7.block _ (lt_of_heap q6) (fun f => f)).trans q6
  have m38 := s7.keep n386
  clear s7 t6 rN6 q6
  go_wp2_with (first | (refine wpList_store_whole (by rfl) 32 _ _ (by rfl) W7.heap.size OA ZA 32 (by rfl) (by rfl) (heap_alloc_new W7 _) (by rw [hzs, hOs]) hOz hOo ?_; intro W8 r8 f8; have s8 : Same W7 W8 := Fr.trans ((Fr.refl _ W7).alloc _) f8 (fun i hi e => by omega); have t8 := t7.trans s8; have rN8 := range_same rN7 s8; have q8 := (s8.block _ (lt_of_heap q7) (fun f => f)).trans q7; have m38 := s8.keep m38) | (refine wpList_load_want (by rfl) 32 _ (by rfl) W7.heap.size (by rfl) 32 OA (0, 0) _ r8 Tryd.underlying32 rfl hOz ?_) | (refine wpList_load_mid_want (by rfl) 32 _ (by rfl) (w.heap.size + 1 + 1) 0 (by rfl) NA.toList _ rN8 Tryd.underlying32 rfl hNl ?_; rw [Array.toArray_toList]) | (refine wpList_load_want (by rfl) 32 _ (by rfl) W2.heap.size (by rfl) 32 OA (0, 0) _ q8 Tryd.underlying32 rfl hOz ?_))
  go_ret
  exact ⟨rfl, t8⟩

/-- What is told of a page hangs on its length and its first sector alone. -/
theorem dec_sect {p q : Int} {x y : ByteArray} (hx : decB p q x = true) (hz : y.size = x.size) (hs : sectS p y = sectS p x) : decB p q y = true ∧ decK p q y = decK p q x ∧ decR p q y = decR p q x := by
  have hy : decB p q y = true := by unfold decB at hx ⊢; rw [hz]; exact hx
  refine ⟨hy, ?_, ?_⟩
  · unfold decK; rw [if_pos hy, if_pos hx, hs]
  · unfold decR; rw [if_pos hy, if_pos hx, hs]


theorem pickT_ok (p q pages : Int) (z o : ByteArray) : RecOk (pickT p q pages z o).1 := by
  unfold pickT
  split
  · exact zeroRec_ok
  split
  · exact emptyRec_ok
  split
  · exact zeroRec_ok
  split
  · exact zeroRec_ok
  split
  · exact newR_ok (cntR_ok (decR_ok p q z) pages) (cntR_ok (decR_ok p q o) pages)
  split
  · exact zeroRec_ok
  split
  · exact emptyRec_ok
  · exact zeroRec_ok
theorem mix_sect {p : Int} {n : Nat} {a b s : ByteArray} {bit : Bool} (hp : p = ((8 * n : Nat) : Int)) (h : MixAt n 8 a b bit s) : s.size = 8 * n ∧ sectS p s = sectS p (if bit = true then b else a) := by
  refine ⟨h.1, ?_⟩
  have e : p.toNat / 8 = n := by omega
  unfold sectS
  rw [e]
  exact h.2 (by omega)
abbrev mturnV (m : Rec) (came : Nat) (pages : Int) : Value := .agg (m.arr ++ #[.int .u8 came, .int .i64 pages])

theorem mgoes_walk (w : World) (ht : TabAt w) (hz : TzAt w) (p q : Int) (z o : ByteArray) (m : Rec) (came : Nat) (pages : Int) (hm : RecOk m) (hc : came < 256) (hp : -9223372036854775808 ≤ pages ∧ pages ≤ 9223372036854775807) :
    Calls Tryd.prog 7 #[frameV p q, .agg #[.string z, .string o], mturnV m came pages] w fun e w' => e = .returned (.bool true) ∧ Same w w' := by
  have HA := fun W (h : Same w W) => awake_calls W (ht.same h) (hz.same h)
  have HK := fun W (h : Same w W) => pick_calls p q pages z o hp W (ht.same h) (hz.same h)
  have HE := fun W (h : Same w W) => encode_calls p q m hm W (ht.same h) (hz.same h)
  have hms := arr_size m hm.d
  have hok := pickT_ok p q pages z o
  have hTj : ∀ j, j < 38 → (m.arr ++ #[.int .u8 came, .int .i64 pages])[j]? = m.arr[j]? := fun j hj => Array.getElem?_append_left (by omega)
  have hT0 : (m.arr ++ #[.int .u8 came, .int .i64 pages])[0]? = some (.int .u64 m.v) := by rw [hTj 0 (by omega)]; rfl
  have hT37 : (m.arr ++ #[.int .u8 came, .int .i64 pages])[37]? = some (.int .u32 m.pg) := by rw [hTj 37 (by omega)]; exact arr_tail m hm.d 3
  have hT38 : (m.arr ++ #[.int .u8 came, .int .i64 pages])[38]? = some (.int .u8 came) := by rw [Array.getElem?_append_right (by omega), hms]; rfl
  have hT39 : (m.arr ++ #[.int .u8 came, .int .i64 pages])[39]? = some (.int .i64 pages) := by rw [Array.getElem?_append_right (by omega), hms]; rfl
  have hTN : Hid (∀ (j : Nat) (v : Value), m.arr[j]? = some v → (m.arr ++ #[.int .u8 came, .int .i64 pages])[j]? = some v) := fun j v hv => by
    have hj : j < m.arr.size := by
      rcases Nat.lt_or_ge j m.arr.size with h | h
      · exact h
      · rw [Array.getElem?_eq_none h] at hv; cases hv
    rw [hTj j (by omega)]; exact hv
  obtain ⟨old, next, E, hT⟩ : ∃ old next E, pickT p q pages z o = (old, next, E) := ⟨_, _, _, rfl⟩
  rw [hT] at HK hok
  simp only at HK hok
  have hOV : old.arr[0]? = some (.int .u64 old.v) := rfl
  have hos := arr_size old hok.d
  by_cases hgo : E = 0 ∧ chkM p q m = 0 ∧ ¬ pages < 2 ∧ old.v < m.v ∧ ¬ pages < (m.pg : Int)
  · obtain ⟨rfl, h2, h3, h4, h5⟩ := hgo
    have hmay : mayM p q m = true := by
      rw [← Bool.not_eq_false]
      intro e
      rw [chkM_bad e] at h2
      exact absurd h2 (by decide)
    rw [h2] at HE
    obtain ⟨hf, hdz, hdo, hnx⟩ := pick_says h3 hT
    obtain ⟨hp4, _, _⟩ := frameP_cases hf
    obtain ⟨d1, d2, d3⟩ := dec_enc hm hmay
    obtain ⟨n, hn⟩ : ∃ n : Nat, p = ((8 * n : Nat) : Int) := ⟨p.toNat / 8, by omega⟩
    have hzs : z.size = 8 * n := by have := (decB_parts hdz).2; omega
    have hos2 : o.size = 8 * n := by have := (decB_parts hdo).2; omega
    have hes : (encS p q m).size = 8 * n := by have := encS_size hm hmay; omega
    have hbit : (bits BinOp.and IntKind.u8 (came : Int) 1 == 1) = decide (came % 2 = 1) := by
      have h1 := and_one ⟨came, hc⟩
      simp only at h1
      rw [h1, Bool.eq_iff_iff, beq_iff_eq, decide_eq_true_eq]
      omega
    have h4' : ¬ (m.v : Int) ≤ (old.v : Int) := by omega
    have HMz : ∀ W, Calls Tryd.prog 13 #[frameV p q, .string z, .string (encS p q m), .int .u8 came] W fun e w' => (∃ s, e = .returned (.string s) ∧ MixAt n 8 z (encS p q m) (decide (came % 2 = 1)) s) ∧ Same W w' := fun W => by
      have := mixed_core (q := q) hc (by omega) (by omega) hzs hes W
      rw [← hn] at this
      exact this
    have HMo : ∀ W, Calls Tryd.prog 13 #[frameV p q, .string o, .string (encS p q m), .int .u8 came] W fun e w' => (∃ s, e = .returned (.string s) ∧ MixAt n 8 o (encS p q m) (decide (came % 2 = 1)) s) ∧ Same W w' := fun W => by
      have := mixed_core (q := q) hc (by omega) (by omega) hos2 hes W
      rw [← hn] at this
      exact this
    have hEN := fun W => eq_rec W m m hm.d hm.d
    rw [recEq_self] at hEN
    have hEO := fun W => eq_rec W old old hok.d hok.d
    rw [recEq_self] at hEO
    by_cases hb : came % 2 = 1
    · rw [decide_eq_true hb] at hbit HMz HMo
      have hnew : ∀ s a, MixAt n 8 a (encS p q m) true s → decB p q s = true ∧ decR p q s = m := fun s a h => by
        obtain ⟨g1, g2⟩ := mix_sect hn h
        rw [if_pos rfl] at g2
        obtain ⟨k1, _, k3⟩ := dec_sect d1 (by rw [g1, hes]) g2
        exact ⟨k1, by rw [k3, d3]⟩
      rcases hnx with ⟨rfl, _⟩ | ⟨rfl, _⟩
      · exact mgoes_0t w zeroRec_lit rfl hos (arr_one old) hms hOV hT0 hT37 hT38 hT39 hTN hm.pg (arr_one m) h3 h4' h5 hbit hEN HA HK HE HMz (fun s hs W h => by
          obtain ⟨k1, k3⟩ := hnew s z hs
          have := pick_calls p q pages s o hp W (ht.same h) (hz.same h)
          rw [(pick_new h3 hT h4 h5 k1 k3).1 rfl] at this
          exact this)
      · exact mgoes_1t w zeroRec_lit rfl hos (arr_one old) hms hOV hT0 hT37 hT38 hT39 hTN hm.pg (arr_one m) h3 h4' h5 hbit hEN HA HK HE HMo (fun s hs W h => by
          obtain ⟨k1, k3⟩ := hnew s o hs
          have := pick_calls p q pages z s hp W (ht.same h) (hz.same h)
          rw [(pick_new h3 hT h4 h5 k1 k3).2 rfl] at this
          exact this)
    · rw [decide_eq_false hb] at hbit HMz HMo
      rcases hnx with ⟨rfl, _⟩ | ⟨rfl, _⟩
      · exact mgoes_0f w zeroRec_lit rfl hos (arr_one old) hms hOV hT0 hT37 hT38 hT39 hTN hm.pg (arr_one m) h3 h4' h5 hbit hEO HA HK HE HMz (fun s hs W h => by
          obtain ⟨g1, g2⟩ := mix_sect hn hs
          rw [if_neg (by simp)] at g2
          obtain ⟨k1, k2, k3⟩ := dec_sect hdz (by rw [g1, hzs]) g2
          have := pick_calls p q pages s o hp W (ht.same h) (hz.same h)
          rw [pick_same (z := z) (o := o) (by rw [k1, hdz]) k2 k3 rfl rfl rfl, hT] at this
          exact this)
      · exact mgoes_1f w zeroRec_lit rfl hos (arr_one old) hms hOV hT0 hT37 hT38 hT39 hTN hm.pg (arr_one m) h3 h4' h5 hbit hEO HA HK HE HMo (fun s hs W h => by
          obtain ⟨g1, g2⟩ := mix_sect hn hs
          rw [if_neg (by simp)] at g2
          obtain ⟨k1, k2, k3⟩ := dec_sect hdo (by rw [g1, hos2]) g2
          have := pick_calls p q pages z s hp W (ht.same h) (hz.same h)
          rw [pick_same (z := z) (o := o) rfl rfl rfl (by rw [k1, hdo]) k2 k3, hT] at this
          exact this)
  · refine mgoes_skip w zeroRec_lit rfl hos (arr_one old) hms hOV hT0 hT37 hT38 hT39 hTN hm.pg ?_ HA HK HE
    by_cases h1 : E = 0
    · have e1 : (E != 0) = false := by rw [h1]; rfl
      right
      by_cases h2 : chkM p q m = 0
      · have e2 : (chkM p q m != 0) = false := by rw [h2]; rfl
        right
        by_cases h3 : pages < 2
        · exact Or.inl ⟨e1, e2, h3⟩
        · right
          by_cases h4 : old.v < m.v
          · right
            refine ⟨e1, e2, h3, by omega, ?_⟩
            by_cases h5 : pages < (m.pg : Int)
            · exact h5
            · exact absurd ⟨h1, h2, h3, h4, h5⟩ hgo
          · exact Or.inl ⟨e1, e2, h3, by omega⟩
      · exact Or.inl ⟨e1, by simpa using h2⟩
    · exact Or.inl (by simpa using h1)
end Go.Proofs.YtepbphgpklphiaaDoor
