/- lives. -/
import Derived.Test.YtjlbkagkmcelgaaNP0
namespace Go.Proofs.Ytjlbkagkmcelgaa
open Go.RowKit

theorem wp_eql_agg {P : Program} {o : Oper} {a : Act} {w : World} {K : Act → World → Prop} {Q : Exit → Act → World → Prop} (ty ty2 : TypeId) (x y : Operand) (ho : o.op = .binOp .eql ty x y ty2) (X Y : Array Value) (hx : a.eval x = .agg X) (hy : a.eval y = .agg Y)
    (hgt : P.eqGuardType P.depth ty = false) (e : Bool) (hE : ∀ W : World, (Op.equalIn 10000 ty (.agg X) (.agg Y)).run P W = .ok e W) (h : K (a.put o.dst (.bool e)) w) : o.wp P a w K Q := by
  unfold Oper.wp execOp
  have hg : (eqGuard .eql ty x y (.agg X) (.agg Y)).run P w = .ok () w := by
    simp [eqGuard, hgt]
  have hb : (binOp .eql ty (.agg X) (.agg Y)).run P w = .ok (.bool e) w := by
    have := hE w
    simp only [binOp, Op.equal, Op.maxDepth, Sem.run_bind, this, Result.andThen_ok, Sem.run_pure]
  simp only [ho, hx, hy, Sem.run_bind, hg, hb, Result.andThen_ok, Sem.run_pure]
  exact h
theorem wpList_eql_agg {P : Program} {ops : Array Oper} {rest : List Oper} {o : Oper} {a : Act} {w : World} {Q : Exit → Act → World → Prop} (ty ty2 : TypeId) (x y : Operand) (ho : o.op = .binOp .eql ty x y ty2) (X Y : Array Value) (hx : a.eval x = .agg X) (hy : a.eval y = .agg Y)
    (hgt : P.eqGuardType P.depth ty = false) (e : Bool) (hE : ∀ W : World, (Op.equalIn 10000 ty (.agg X) (.agg Y)).run P W = .ok e W) (hw : Region.wanted o (yielded ops a.tmps) = true)
    (h : wpList P ops Q rest (a.put o.dst (.bool e)) w) : wpList P ops Q (o :: rest) a w :=
  BigFrame.wpList_want hw fun _ hK => wp_eql_agg ty ty2 x y ho X Y hx hy hgt e hE (hK _ _ h)
theorem wpList_load_midw {P : Program} {ops : Array Oper} {rest : List Oper} {op : Oper} {a : Act} {w : World} {Q : Exit → Act → World → Prop} (ty : TypeId) (x : Operand) (ho : op.op = .load ty x)
    (b o : Nat) (hx : a.eval x = .pointer (some ⟨b, o, none⟩)) (cs : List Value) (d : TypeDesc) (hc : w.rangeAt b o cs)
    (hu : P.underlying ty = some d) (hd : d.isRow = true) (hi : (P.info? ty).map (·.size) = some cs.length) (hw : Region.wanted op (yielded ops a.tmps) = true)
    (h : wpList P ops Q rest (a.put op.dst (.agg cs.toArray)) w) : wpList P ops Q (op :: rest) a w :=
  BigFrame.wpList_want hw fun _ hK => wp_load_mid ty x ho b o hx cs d hc hu hd hi (hK _ _ h)

theorem heap6 (w : World) (a b c d e f : Obj) : (((((((w.alloc a).alloc b).alloc c).alloc d).alloc e).alloc f).heap[w.heap.size]? = some a) ∧ (((((((w.alloc a).alloc b).alloc c).alloc d).alloc e).alloc f).heap[w.heap.size + 1]? = some b) ∧ (((((((w.alloc a).alloc b).alloc c).alloc d).alloc e).alloc f).heap[w.heap.size + 1 + 1]? = some c) ∧
    (((((((w.alloc a).alloc b).alloc c).alloc d).alloc e).alloc f).heap[w.heap.size + 1 + 1 + 1]? = some d) ∧ (((((((w.alloc a).alloc b).alloc c).alloc d).alloc e).alloc f).heap[w.heap.size + 1 + 1 + 1 + 1]? = some e) ∧ (((((((w.alloc a).alloc b).alloc c).alloc d).alloc e).alloc f).heap[w.heap.size + 1 + 1 + 1 + 1 + 1]? = some f) := by
  have h1 := heap3 w a b c
  have h2 := heap3 (((w.alloc a).alloc b).alloc c) d e f
  rw [show (((w.alloc a).alloc b).alloc c).heap.size = w.heap.size + 1 + 1 + 1 from by simp] at h2
  refine ⟨?_, ?_, ?_, h2.1, h2.2.1, h2.2.2⟩
  · rw [Below.heap_alloc _ _ _ (by simp <;> omega), Below.heap_alloc _ _ _ (by simp <;> omega), Below.heap_alloc _ _ _ (by simp <;> omega)]; exact h1.1
  · rw [Below.heap_alloc _ _ _ (by simp <;> omega), Below.heap_alloc _ _ _ (by simp <;> omega), Below.heap_alloc _ _ _ (by simp <;> omega)]; exact h1.2.1
  · rw [Below.heap_alloc _ _ _ (by simp <;> omega), Below.heap_alloc _ _ _ (by simp <;> omega), Below.heap_alloc _ _ _ (by simp <;> omega)]; exact h1.2.2

set_option maxRecDepth 100000 in
set_option maxHeartbeats 1000000 in
theorem lives_calls (w : World) : Calls Try.prog 11 #[] w fun e w' => e = .returned (.bool true) ∧ Same w w' := by
  obtain ⟨V, hV⟩ : ∃ V, V = ((((((w.alloc (.cells #[.int .i64 1024, .int .i64 2] 48)).alloc (.cells #[.string ⟨#[97]⟩, .string ⟨#[120]⟩, .string ⟨#[98]⟩, .string ⟨#[]⟩] 33)).alloc (.cells #[.slice (some ⟨w.heap.size + 1, 0, none⟩) 2 2, .slice none 0 0, .slice none 0 0] 26)).alloc (.cells #[.string ⟨#[109]⟩] 9)).alloc (.cells #[.int .u32 5, .int .u8 10, .int .u8 11, .int .u8 0, .int .u8 0, .int .u8 0, .int .u8 0, .int .u8 0, .int .u8 0, .int .u8 0, .int .u8 0, .int .u8 0, .int .u8 0, .int .u8 0, .int .u8 0, .int .u8 0, .int .u8 0, .int .u8 0, .int .u8 0, .int .u8 0, .int .u8 0, .int .u8 0, .int .u8 0, .int .u8 0, .int .u8 0, .int .u8 0, .int .u8 0, .int .u8 0, .int .u8 0, .int .u8 0, .int .u8 0, .int .u8 0, .int .u8 0, .int .u32 9, .int .u8 12, .int .u8 13, .int .u8 0, .int .u8 0, .int .u8 0, .int .u8 0, .int .u8 0, .int .u8 0, .int .u8 0, .int .u8 0, .int .u8 0, .int .u8 0, .int .u8 0, .int .u8 0, .int .u8 0, .int .u8 0, .int .u8 0, .int .u8 0, .int .u8 0, .int .u8 0, .int .u8 0, .int .u8 0, .int .u8 0, .int .u8 0, .int .u8 0, .int .u8 0, .int .u8 0, .int .u8 0, .int .u8 0, .int .u8 0, .int .u8 0, .int .u8 0] 37)).alloc (.cells #[.slice none 0 0, .slice (some ⟨w.heap.size + 1 + 1 + 1, 0, none⟩) 1 1, .slice (some ⟨w.heap.size + 1 + 1 + 1 + 1, 0, none⟩) 2 2] 26)) := ⟨_, rfl⟩
  have sx : Same w V := by rw [hV]; exact ((((((Fr.refl _ w).alloc _).alloc _).alloc _).alloc _).alloc _).alloc _
  have H6 := heap6 w (.cells #[.int .i64 1024, .int .i64 2] 48) (.cells #[.string ⟨#[97]⟩, .string ⟨#[120]⟩, .string ⟨#[98]⟩, .string ⟨#[]⟩] 33) (.cells #[.slice (some ⟨w.heap.size + 1, 0, none⟩) 2 2, .slice none 0 0, .slice none 0 0] 26) (.cells #[.string ⟨#[109]⟩] 9) (.cells #[.int .u32 5, .int .u8 10, .int .u8 11, .int .u8 0, .int .u8 0, .int .u8 0, .int .u8 0, .int .u8 0, .int .u8 0, .int .u8 0, .int .u8 0, .int .u8 0, .int .u8 0, .int .u8 0, .int .u8 0, .int .u8 0, .int .u8 0, .int .u8 0, .int .u8 0, .int .u8 0, .int .u8 0, .int .u8 0, .int .u8 0, .int .u8 0, .int .u8 0, .int .u8 0, .int .u8 0, .int .u8 0, .int .u8 0, .int .u8 0, .int .u8 0, .int .u8 0, .int .u8 0, .int .u32 9, .int .u8 12, .int .u8 13, .int .u8 0, .int .u8 0, .int .u8 0, .int .u8 0, .int .u8 0, .int .u8 0, .int .u8 0, .int .u8 0, .int .u8 0, .int .u8 0, .int .u8 0, .int .u8 0, .int .u8 0, .int .u8 0, .int .u8 0, .int .u8 0, .int .u8 0, .int .u8 0, .int .u8 0, .int .u8 0, .int .u8 0, .int .u8 0, .int .u8 0, .int .u8 0, .int .u8 0, .int .u8 0, .int .u8 0, .int .u8 0, .int .u8 0, .int .u8 0] 37) (.cells #[.slice none 0 0, .slice (some ⟨w.heap.size + 1 + 1 + 1, 0, none⟩) 1 1, .slice (some ⟨w.heap.size + 1 + 1 + 1 + 1, 0, none⟩) 2 2] 26)
  rw [← hV] at H6
  obtain ⟨h0, h1, h2, h3, h4, h5⟩ := H6
  have a0 : V.cell? ⟨w.heap.size, 0, none⟩ = some (.int .i64 1024) := by rw [cell_of_row _ _ _ _ _ _ h0]; rfl
  have a1 : V.cell? ⟨w.heap.size, 1, none⟩ = some (.int .i64 2) := by rw [cell_of_row _ _ _ _ _ _ h0]; rfl
  have l0 : V.cell? ⟨w.heap.size + 1 + 1, 0, none⟩ = some (.slice (some ⟨w.heap.size + 1, 0, none⟩) 2 2) := by rw [cell_of_row _ _ _ _ _ _ h2]; rfl
  have l1 : V.cell? ⟨w.heap.size + 1 + 1, 1, none⟩ = some (.slice none 0 0) := by rw [cell_of_row _ _ _ _ _ _ h2]; rfl
  have l2 : V.cell? ⟨w.heap.size + 1 + 1, 2, none⟩ = some (.slice none 0 0) := by rw [cell_of_row _ _ _ _ _ _ h2]; rfl
  have b0 : V.cell? ⟨w.heap.size + 1 + 1 + 1 + 1 + 1, 0, none⟩ = some (.slice none 0 0) := by rw [cell_of_row _ _ _ _ _ _ h5]; rfl
  have b1 : V.cell? ⟨w.heap.size + 1 + 1 + 1 + 1 + 1, 1, none⟩ = some (.slice (some ⟨w.heap.size + 1 + 1 + 1, 0, none⟩) 1 1) := by rw [cell_of_row _ _ _ _ _ _ h5]; rfl
  have b2 : V.cell? ⟨w.heap.size + 1 + 1 + 1 + 1 + 1, 2, none⟩ = some (.slice (some ⟨w.heap.size + 1 + 1 + 1 + 1, 0, none⟩) 2 2) := by rw [cell_of_row _ _ _ _ _ _ h5]; rfl
  have HL : Hid (NdOk V ⟨some ⟨w.heap.size + 1, 0, none⟩, w.heap.size + 1, 0, 2, none, 0, 0, 0, none, 0, 0, 0⟩ 2 lvL) := lvL_ok (by rw [cell_of_row _ _ _ _ _ _ h1]; rfl) (by rw [cell_of_row _ _ _ _ _ _ h1]; rfl) (by rw [cell_of_row _ _ _ _ _ _ h1]; rfl) (by rw [cell_of_row _ _ _ _ _ _ h1]; rfl)
  have hkk : V.rangeAt (w.heap.size + 1 + 1 + 1 + 1) 0 (kcells ⟨5, [10, 11, 0, 0, 0, 0, 0, 0, 0, 0, 0, 0, 0, 0, 0, 0, 0, 0, 0, 0, 0, 0, 0, 0, 0, 0, 0, 0, 0, 0, 0, 0]⟩ ++ kcells ⟨9, [12, 13, 0, 0, 0, 0, 0, 0, 0, 0, 0, 0, 0, 0, 0, 0, 0, 0, 0, 0, 0, 0, 0, 0, 0, 0, 0, 0, 0, 0, 0, 0]⟩) := by
    intro j v hj
    rw [Nat.zero_add, cell_of_row _ _ _ _ _ _ h4, ← hj, ← List.getElem?_toArray]
    exact congrArg (fun (l : Array Value) => l[j]?) (by rfl)
  have HB : Hid (NdOk V ⟨none, 0, 0, 0, some ⟨w.heap.size + 1 + 1 + 1, 0, none⟩, w.heap.size + 1 + 1 + 1, 0, 1, some ⟨w.heap.size + 1 + 1 + 1 + 1, 0, none⟩, w.heap.size + 1 + 1 + 1 + 1, 0, 2⟩ 2 lvB) := lvB_ok (by decide) (by decide) (by rw [cell_of_row _ _ _ _ _ _ h3]; rfl) (fun j v hj => hkk j v (by
      rw [List.getElem?_append_left (List.getElem?_eq_some_iff.1 hj).1]; exact hj)) (fun j v hj => by
      have := hkk (33 + j) v (by rw [List.getElem?_append_right (by rw [show (kcells ⟨5, [10, 11, 0, 0, 0, 0, 0, 0, 0, 0, 0, 0, 0, 0, 0, 0, 0, 0, 0, 0, 0, 0, 0, 0, 0, 0, 0, 0, 0, 0, 0, 0]⟩).length = 33 from rfl]; omega), show (kcells ⟨5, [10, 11, 0, 0, 0, 0, 0, 0, 0, 0, 0, 0, 0, 0, 0, 0, 0, 0, 0, 0, 0, 0, 0, 0, 0, 0, 0, 0, 0, 0, 0, 0]⟩).length = 33 from rfl, Nat.add_sub_cancel_left]; exact hj)
      simpa using this)
  clear h0 h1 h2 h3 h4 h5 hkk
  go_enter Try.func11, Try.ntmps11
  go_wp2_with fail
  rw [← hV]
  clear hV
  refine (pack_calls (p := 1024) _ HL.out).mono ?_
  rw [lv1, lv2]
  rintro e W1 ⟨rfl, s1⟩
  have a0 := s1.keep a0
  have a1 := s1.keep a1
  have l0 := s1.keep l0
  have l1 := s1.keep l1
  have l2 := s1.keep l2
  have b0 := s1.keep b0
  have b1 := s1.keep b1
  have b2 := s1.keep b2
  have HL : Hid (NdOk W1 _ 2 lvL) := HL.out.same s1
  have HB : Hid (NdOk W1 _ 2 lvB) := HB.out.same s1
  have t1 := sx.trans s1
  clear s1 sx
  go_wp2_with fail
  refine (pack_calls (p := 1024) _ HB.out).mono ?_
  rw [lv3, lv4]
  rintro e W2 ⟨rfl, s2⟩
  have a0 := s2.keep a0
  have a1 := s2.keep a1
  have l0 := s2.keep l0
  have l1 := s2.keep l1
  have l2 := s2.keep l2
  have b0 := s2.keep b0
  have b1 := s2.keep b1
  have b2 := s2.keep b2
  have HL : Hid (NdOk W2 _ 2 lvL) := HL.out.same s2
  have HB : Hid (NdOk W2 _ 2 lvB) := HB.out.same s2
  have t1 := t1.trans s2
  clear s2
  go_wp2_with fail
  refine (plain_calls (p := 1024) _ HB.out).mono ?_
  rw [lv5, lv6]
  rintro e W3 ⟨rfl, s2⟩
  have a0 := s2.keep a0
  have a1 := s2.keep a1
  have l0 := s2.keep l0
  have l1 := s2.keep l1
  have l2 := s2.keep l2
  have HL : Hid (NdOk W3 _ 2 lvL) := HL.out.same s2
  have t1 := t1.trans s2
  clear s2 HB
  go_wp2_with fail
  refine (Unpack_calls (p := 1024) (q := 2) _ (by decide)).mono ?_
  rw [lv7, lv8]
  rintro e W4 ⟨r, rfl, HN, s2⟩
  have a0 := s2.keep a0
  have a1 := s2.keep a1
  have l0 := s2.keep l0
  have l1 := s2.keep l1
  have l2 := s2.keep l2
  have HL : Hid (NdOk W4 _ 2 lvL) := HL.out.same s2
  have t1 := t1.trans s2
  clear s2
  obtain ⟨pa, pb, po, cp, sa, sb, so, cs, ka, kb, ko, ck⟩ := r
  obtain ⟨rfl, hkb⟩ : ka = some ⟨kb, ko, none⟩ ∧ kb < W4.heap.size := HN.at_.hk.place (by simp [lvB])
  have k0 := HN.at_.hk.cells 0 _ rfl
  have k1 := HN.at_.hk.cells 1 _ rfl
  simp only [Nat.zero_mul, Nat.one_mul, Nat.add_zero] at k0 k1
  have kp : W4.cell? ⟨kb, ko + 33, none⟩ = some (.int .u32 9) := k1 0 _ rfl
  have kd : W4.rangeAt kb (ko + 1) (bcells [10, 11, 0, 0, 0, 0, 0, 0, 0, 0, 0, 0, 0, 0, 0, 0, 0, 0, 0, 0, 0, 0, 0, 0, 0, 0, 0, 0, 0, 0, 0, 0]) := fun j v hj => by
    have := k0 (j + 1) v (by rw [← hj]; rfl)
    rwa [show ko + 1 + j = ko + (j + 1) from by omega]
  clear k0 k1
  obtain ⟨BD, hBD⟩ : ∃ BD, BD = bcells [10, 11, 0, 0, 0, 0, 0, 0, 0, 0, 0, 0, 0, 0, 0, 0, 0, 0, 0, 0, 0, 0, 0, 0, 0, 0, 0, 0, 0, 0, 0, 0] := ⟨_, rfl⟩
  have HEQ : Hid (∀ W : World, (Op.equalIn 10000 35 (.agg BD.toArray) (.agg #[.int .u8 10, .int .u8 11, .int .u8 0, .int .u8 0, .int .u8 0, .int .u8 0, .int .u8 0, .int .u8 0, .int .u8 0, .int .u8 0, .int .u8 0, .int .u8 0, .int .u8 0, .int .u8 0, .int .u8 0, .int .u8 0, .int .u8 0, .int .u8 0, .int .u8 0, .int .u8 0, .int .u8 0, .int .u8 0, .int .u8 0, .int .u8 0, .int .u8 0, .int .u8 0, .int .u8 0, .int .u8 0, .int .u8 0, .int .u8 0, .int .u8 0, .int .u8 0])).run Try.prog W = .ok true W) := fun W => by
    rw [hBD]; exact (eq_digest W [10, 11, 0, 0, 0, 0, 0, 0, 0, 0, 0, 0, 0, 0, 0, 0, 0, 0, 0, 0, 0, 0, 0, 0, 0, 0, 0, 0, 0, 0, 0, 0] [10, 11, 0, 0, 0, 0, 0, 0, 0, 0, 0, 0, 0, 0, 0, 0, 0, 0, 0, 0, 0, 0, 0, 0, 0, 0, 0, 0, 0, 0, 0, 0] rfl rfl).trans (by simp)
  rw [← hBD] at kd
  have hBl : BD.length = 32 := by rw [hBD]; rfl
  clear hBD
  have HKD : Hid (W4.rangeAt kb (ko + 1) BD) := kd
  clear kd
  clear HN
  rw [show ndV (⟨pa, pb, po, cp, sa, sb, so, cs, some ⟨kb, ko, none⟩, kb, ko, ck⟩ : Nr) lvB = Value.agg #[.slice pa 0 cp, .slice sa 1 cs, .slice (some ⟨kb, ko, none⟩) 2 ck] from rfl]
  have a0x : ∀ o, (W4.alloc o).cell? ⟨w.heap.size, 0, none⟩ = some (.int .i64 1024) := fun o => (World.cell?_alloc_lt _ _ _ (World.block_lt_of_cell? W4 _ a0)).trans a0
  have a1x : ∀ o, (W4.alloc o).cell? ⟨w.heap.size, 1, none⟩ = some (.int .i64 2) := fun o => (World.cell?_alloc_lt _ _ _ (World.block_lt_of_cell? W4 _ a1)).trans a1
  have l0x : ∀ o, (W4.alloc o).cell? ⟨w.heap.size + 1 + 1, 0, none⟩ = some (.slice (some ⟨w.heap.size + 1, 0, none⟩) 2 2) := fun o => (World.cell?_alloc_lt _ _ _ (World.block_lt_of_cell? W4 _ l0)).trans l0
  have l1x : ∀ o, (W4.alloc o).cell? ⟨w.heap.size + 1 + 1, 1, none⟩ = some (.slice none 0 0) := fun o => (World.cell?_alloc_lt _ _ _ (World.block_lt_of_cell? W4 _ l1)).trans l1
  have l2x : ∀ o, (W4.alloc o).cell? ⟨w.heap.size + 1 + 1, 2, none⟩ = some (.slice none 0 0) := fun o => (World.cell?_alloc_lt _ _ _ (World.block_lt_of_cell? W4 _ l2)).trans l2
  go_wp2_with (first | (refine wpList_load_midw 35 _ (by rfl) kb (ko + 1) (by rfl) BD _ (fun j v hj => (World.cell?_alloc_lt _ _ _ hkb).trans (HKD.out j v hj)) Try.underlying35 rfl (by rw [hBl]; kernel_rfl) (by kernel_rfl) ?_) | (refine wpList_eql_agg 35 _ _ _ (by rfl) BD.toArray #[.int .u8 10, .int .u8 11, .int .u8 0, .int .u8 0, .int .u8 0, .int .u8 0, .int .u8 0, .int .u8 0, .int .u8 0, .int .u8 0, .int .u8 0, .int .u8 0, .int .u8 0, .int .u8 0, .int .u8 0, .int .u8 0, .int .u8 0, .int .u8 0, .int .u8 0, .int .u8 0, .int .u8 0, .int .u8 0, .int .u8 0, .int .u8 0, .int .u8 0, .int .u8 0, .int .u8 0, .int .u8 0, .int .u8 0, .int .u8 0, .int .u8 0, .int .u8 0] (by rfl) (by rfl) (by kernel_rfl) true HEQ.out (by kernel_rfl) ?_))
  refine (size_calls (p := 1024) _ (HL.out.same ((Fr.refl _ W4).alloc _))).mono ?_
  rw [lv9]
  rintro e W5 ⟨rfl, s5⟩
  go_wp2_with fail
  go_ret
  exact ⟨rfl, t1.trans (Same.trans ((Fr.refl _ W4).alloc _) s5)⟩
end Go.Proofs.Ytjlbkagkmcelgaa
