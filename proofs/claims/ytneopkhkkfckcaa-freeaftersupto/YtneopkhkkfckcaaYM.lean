/- free: the document's After. -/
import Derived.Test.YtneopkhkkfckcaaYL
namespace Go.Proofs.Ytneopkhkkfckcaa
open Go.RowKit Go.Maps

def oYM0 : Oper := { dst := some 1, op := Op.box 55 (Operand.tmp 0), type := 0, pos := "ref.go:289", after := #[], guard := none }
def oYM1 : Oper := { dst := some 2, op := Op.alloc 55, type := 0, pos := "ref.go:289", after := #[], guard := none }
def oYM2 : Oper := { dst := some 5, op := Op.fieldAddr 55 (Operand.tmp 1) 1, type := 0, pos := "ref.go:291", after := #[], guard := none }
def oYM3 : Oper := { dst := some 6, op := Op.load 23 (Operand.tmp 5), type := 23, pos := "ref.go:291", after := #[{ on := 1, ground := Ground.data }], guard := none }
def oYM4 : Oper := { dst := some 7, op := Op.call { callee := Callee.builtin Builtin.append, args := #[Operand.tmp 4, Operand.tmp 6], argTypes := #[23, 23] }, type := 23, pos := "ref.go:291", after := #[{ on := 0, ground := Ground.data }, { on := 2, ground := Ground.data }], guard := none }
def oYM5 : Oper := { dst := some 8, op := Op.fieldAddr 55 (Operand.tmp 1) 0, type := 0, pos := "ref.go:292", after := #[], guard := none }
def oYM6 : Oper := { dst := some 9, op := Op.load 24 (Operand.tmp 8), type := 24, pos := "ref.go:292", after := #[{ on := 0, ground := Ground.data }], guard := none }
def oYM7 : Oper := { dst := some 11, op := Op.build 55 #[(0, Operand.tmp 9), (1, Operand.tmp 10)], type := 55, pos := "ref.go:292", after := #[{ on := 1, ground := Ground.data }, { on := 2, ground := Ground.data }], guard := none }
def oYM8 : Oper := { dst := some 3, op := Op.box 26 (Operand.tmp 1), type := 0, pos := "ref.go:275", after := #[], guard := none }
def oYM9 : Oper := { dst := some 9, op := Op.fieldAddr 26 (Operand.tmp 3) 1, type := 0, pos := "ref.go:277", after := #[], guard := none }
def oYM10 : Oper := { dst := some 10, op := Op.load 22 (Operand.tmp 9), type := 22, pos := "ref.go:277", after := #[{ on := 1, ground := Ground.data }], guard := none }
def oYM11 : Oper := { dst := some 11, op := Op.call { callee := Callee.builtin Builtin.len, args := #[Operand.tmp 10], argTypes := #[22] }, type := 3, pos := "ref.go:277", after := #[{ on := 2, ground := Ground.data }], guard := none }
def oYM12 : Oper := { dst := some 12, op := Op.binOp BinOp.lss 3 (Operand.tmp 8) (Operand.tmp 11) 3, type := 4, pos := "ref.go:277", after := #[{ on := 0, ground := Ground.data }, { on := 3, ground := Ground.data }], guard := none }
def oYM13 : Oper := { dst := some 14, op := Op.binOp BinOp.add 3 (Operand.tmp 13) (Operand.const (Value.int IntKind.i64 1)) 3, type := 3, pos := "ref.go:277", after := #[{ on := 0, ground := Ground.data }], guard := none }
def oYM14 : Oper := { dst := some 16, op := Op.fieldAddr 26 (Operand.tmp 3) 1, type := 0, pos := "ref.go:278", after := #[], guard := none }
def oYM15 : Oper := { dst := some 17, op := Op.load 22 (Operand.tmp 16), type := 22, pos := "ref.go:278", after := #[{ on := 1, ground := Ground.data }], guard := none }
def oYM16 : Oper := { dst := some 19, op := Op.indexAddr 22 (Operand.tmp 17) (Operand.tmp 18), type := 0, pos := "ref.go:278", after := #[{ on := 2, ground := Ground.data }, { on := 3, ground := Ground.data }], guard := none }
def oYM17 : Oper := { dst := some 20, op := Op.load 55 (Operand.tmp 19), type := 55, pos := "ref.go:278", after := #[{ on := 4, ground := Ground.data }], guard := none }
def oYM18 : Oper := { dst := some 21, op := Op.call { callee := Callee.value (Operand.func 18), args := #[Operand.tmp 20], argTypes := #[55] }, type := 55, pos := "ref.go:278", after := #[{ on := 5, ground := Ground.data }], guard := none }
def oYM19 : Oper := { dst := some 22, op := Op.buildSlice 22 1 #[(0, Operand.tmp 21)], type := 22, pos := "ref.go:278", after := #[{ on := 6, ground := Ground.data }], guard := none }
def oYM20 : Oper := { dst := some 23, op := Op.call { callee := Callee.builtin Builtin.append, args := #[Operand.tmp 15, Operand.tmp 22], argTypes := #[22, 22] }, type := 22, pos := "ref.go:278", after := #[{ on := 0, ground := Ground.data }, { on := 7, ground := Ground.data }, { on := 6, ground := Ground.chain }], guard := none }
def oYM21 : Oper := { dst := some 26, op := Op.call { callee := Callee.builtin Builtin.len, args := #[Operand.tmp 25], argTypes := #[22] }, type := 3, pos := "ref.go:280", after := #[{ on := 1, ground := Ground.data }], guard := none }
def oYM22 : Oper := { dst := some 27, op := Op.binOp BinOp.lss 3 (Operand.tmp 24) (Operand.tmp 26) 3, type := 4, pos := "ref.go:280", after := #[{ on := 0, ground := Ground.data }, { on := 2, ground := Ground.data }], guard := none }
def oYM23 : Oper := { dst := some 29, op := Op.binOp BinOp.add 3 (Operand.tmp 28) (Operand.const (Value.int IntKind.i64 1)) 3, type := 3, pos := "ref.go:280", after := #[{ on := 0, ground := Ground.data }], guard := none }
def oYM24 : Oper := { dst := some 31, op := Op.fieldAddr 26 (Operand.tmp 3) 2, type := 0, pos := "ref.go:281", after := #[], guard := none }
def oYM25 : Oper := { dst := some 32, op := Op.load 3 (Operand.tmp 31), type := 3, pos := "ref.go:281", after := #[{ on := 1, ground := Ground.data }], guard := none }
def oYM26 : Oper := { dst := some 33, op := Op.binOp BinOp.geq 3 (Operand.tmp 30) (Operand.tmp 32) 3, type := 4, pos := "ref.go:281", after := #[{ on := 0, ground := Ground.data }, { on := 2, ground := Ground.data }], guard := none }
def oYM27 : Oper := { dst := some 37, op := Op.indexAddr 22 (Operand.tmp 35) (Operand.tmp 36), type := 0, pos := "ref.go:282", after := #[{ on := 1, ground := Ground.data }, { on := 2, ground := Ground.data }], guard := none }
def oYM28 : Oper := { dst := some 38, op := Op.load 55 (Operand.tmp 37), type := 55, pos := "ref.go:282", after := #[{ on := 3, ground := Ground.data }], guard := none }
def oYM29 : Oper := { dst := some 39, op := Op.call { callee := Callee.value (Operand.func 18), args := #[Operand.tmp 38], argTypes := #[55] }, type := 55, pos := "ref.go:282", after := #[{ on := 4, ground := Ground.data }], guard := none }
def oYM30 : Oper := { dst := some 40, op := Op.buildSlice 22 1 #[(0, Operand.tmp 39)], type := 22, pos := "ref.go:282", after := #[{ on := 5, ground := Ground.data }], guard := none }
def oYM31 : Oper := { dst := some 41, op := Op.call { callee := Callee.builtin Builtin.append, args := #[Operand.tmp 34, Operand.tmp 40], argTypes := #[22, 22] }, type := 22, pos := "ref.go:282", after := #[{ on := 0, ground := Ground.data }, { on := 6, ground := Ground.data }, { on := 5, ground := Ground.chain }], guard := none }
def rTW0 : Array Oper := #[oYM0,
  oYM1]
def rTW1 : Array Oper := #[{ dst := some 3, op := Op.assign (Operand.const (Value.slice none 0 0)), type := 23, pos := "ref.go:290", after := #[], guard := none }]
def rTW2 : Array Oper := #[{ dst := some 4, op := Op.move (Operand.tmp 3), type := 23, pos := "ref.go:291", after := #[], guard := none },
  oYM2,
  oYM3,
  oYM4,
  { dst := some 3, op := Op.assign (Operand.tmp 7), type := 23, pos := "ref.go:291", after := #[{ on := 3, ground := Ground.data }, { on := 3, ground := Ground.chain }, { on := 0, ground := Ground.phase }, { on := 1, ground := Ground.phase }, { on := 2, ground := Ground.phase }, { on := 3, ground := Ground.phase }], guard := none }]
def rTW3 : Array Oper := #[oYM5,
  oYM6,
  { dst := some 10, op := Op.move (Operand.tmp 3), type := 23, pos := "ref.go:292", after := #[], guard := none },
  oYM7,
  { dst := none, op := Op.store 55 (Operand.tmp 2) (Operand.tmp 11), type := 0, pos := "ref.go:292", after := #[{ on := 3, ground := Ground.data }, { on := 0, ground := Ground.phase }, { on := 1, ground := Ground.phase }, { on := 2, ground := Ground.phase }, { on := 3, ground := Ground.phase }], guard := none }]
def cTW : Code := (Code.seq (Code.region 0 rTW0 false) (Code.seq (Code.region 1 rTW1 false) (Code.seq (Code.region 2 rTW2 false) (Code.seq (Code.region 3 rTW3 false) Code.ret))))
def rDA0 : Array Oper := #[oYM8,
  { dst := some 4, op := Op.assign (Operand.const (Value.slice none 0 0)), type := 22, pos := "ref.go:275", after := #[], guard := none }]
def rDA1 : Array Oper := #[{ dst := some 5, op := Op.assign (Operand.const (Value.slice none 0 0)), type := 22, pos := "ref.go:276", after := #[], guard := none }]
def rDA2 : Array Oper := #[{ dst := some 6, op := Op.assign (Operand.const (Value.int IntKind.i64 0)), type := 3, pos := "ref.go:277", after := #[], guard := none }]
def rDA3 : Array Oper := #[{ dst := some 8, op := Op.move (Operand.tmp 6), type := 3, pos := "ref.go:277", after := #[], guard := none },
  oYM9,
  oYM10,
  oYM11,
  oYM12]
def rDA4 : Array Oper := #[{ dst := some 13, op := Op.move (Operand.tmp 6), type := 3, pos := "ref.go:277", after := #[], guard := none },
  oYM13,
  { dst := some 6, op := Op.assign (Operand.tmp 14), type := 3, pos := "ref.go:277", after := #[{ on := 1, ground := Ground.data }, { on := 0, ground := Ground.phase }, { on := 1, ground := Ground.phase }], guard := none }]
def rDA5 : Array Oper := #[{ dst := some 15, op := Op.move (Operand.tmp 5), type := 22, pos := "ref.go:278", after := #[], guard := none },
  oYM14,
  oYM15,
  { dst := some 18, op := Op.move (Operand.tmp 6), type := 3, pos := "ref.go:278", after := #[], guard := none },
  oYM16,
  oYM17,
  oYM18,
  oYM19,
  oYM20,
  { dst := some 5, op := Op.assign (Operand.tmp 23), type := 22, pos := "ref.go:278", after := #[{ on := 8, ground := Ground.data }, { on := 8, ground := Ground.chain }, { on := 0, ground := Ground.phase }, { on := 1, ground := Ground.phase }, { on := 2, ground := Ground.phase }, { on := 3, ground := Ground.phase }, { on := 4, ground := Ground.phase }, { on := 5, ground := Ground.phase }, { on := 6, ground := Ground.phase }, { on := 7, ground := Ground.phase }, { on := 8, ground := Ground.phase }], guard := none }]
def rDA6 : Array Oper := #[{ dst := some 7, op := Op.assign (Operand.const (Value.int IntKind.i64 0)), type := 3, pos := "ref.go:280", after := #[], guard := none }]
def rDA7 : Array Oper := #[{ dst := some 24, op := Op.move (Operand.tmp 7), type := 3, pos := "ref.go:280", after := #[], guard := none },
  { dst := some 25, op := Op.move (Operand.tmp 0), type := 22, pos := "ref.go:280", after := #[], guard := none },
  oYM21,
  oYM22]
def rDA8 : Array Oper := #[{ dst := some 28, op := Op.move (Operand.tmp 7), type := 3, pos := "ref.go:280", after := #[], guard := none },
  oYM23,
  { dst := some 7, op := Op.assign (Operand.tmp 29), type := 3, pos := "ref.go:280", after := #[{ on := 1, ground := Ground.data }, { on := 0, ground := Ground.phase }, { on := 1, ground := Ground.phase }], guard := none }]
def rDA9 : Array Oper := #[{ dst := some 30, op := Op.move (Operand.tmp 7), type := 3, pos := "ref.go:281", after := #[], guard := none },
  oYM24,
  oYM25,
  oYM26]
def rDA10 : Array Oper := #[{ dst := some 34, op := Op.move (Operand.tmp 5), type := 22, pos := "ref.go:282", after := #[], guard := none },
  { dst := some 35, op := Op.move (Operand.tmp 0), type := 22, pos := "ref.go:282", after := #[], guard := none },
  { dst := some 36, op := Op.move (Operand.tmp 7), type := 3, pos := "ref.go:282", after := #[], guard := none },
  oYM27,
  oYM28,
  oYM29,
  oYM30,
  oYM31,
  { dst := some 5, op := Op.assign (Operand.tmp 41), type := 22, pos := "ref.go:282", after := #[{ on := 7, ground := Ground.data }, { on := 7, ground := Ground.chain }, { on := 0, ground := Ground.phase }, { on := 1, ground := Ground.phase }, { on := 2, ground := Ground.phase }, { on := 3, ground := Ground.phase }, { on := 4, ground := Ground.phase }, { on := 5, ground := Ground.phase }, { on := 6, ground := Ground.phase }, { on := 7, ground := Ground.phase }], guard := none }]
def rDA11 : Array Oper := #[{ dst := some 42, op := Op.move (Operand.tmp 5), type := 22, pos := "ref.go:285", after := #[], guard := none },
  { dst := some 4, op := Op.assign (Operand.tmp 42), type := 22, pos := "ref.go:285", after := #[{ on := 0, ground := Ground.data }, { on := 0, ground := Ground.phase }], guard := none }]
def cDA1 : Code := (Code.seq (Code.seq (Code.region 3 rDA3 false) (Code.cond (Operand.tmp 12) Code.skip (Code.exit 0))) (Code.seq (Code.block 1 (Code.region 5 rDA5 false)) (Code.region 4 rDA4 false)))
def cDA2 : Code := (Code.seq (Code.seq (Code.region 7 rDA7 false) (Code.cond (Operand.tmp 27) Code.skip (Code.exit 2))) (Code.seq (Code.block 3 (Code.seq (Code.region 9 rDA9 false) (Code.cond (Operand.tmp 33) (Code.region 10 rDA10 false) Code.skip))) (Code.region 8 rDA8 false)))
def cDA : Code := (Code.seq (Code.region 0 rDA0 false) (Code.seq (Code.region 1 rDA1 false) (Code.seq (Code.seq (Code.region 2 rDA2 false) (Code.block 0 (Code.loop cDA1))) (Code.seq (Code.seq (Code.region 6 rDA6 false) (Code.block 2 (Code.loop cDA2))) (Code.seq (Code.region 11 rDA11 false) Code.ret)))))
set_option maxRecDepth 100000 in
set_option maxHeartbeats 1000000 in
theorem twin_calls {x : Bt} (w : World) (hin : NIn w x.na x.nb x.no x.nc x.ns) (hl : x.ns.length ≤ 1048576) :
    Calls Try.prog 18 #[.agg #[.int .u32 (x.pg : Int), .slice x.na x.ns.length x.nc]] w fun e w' => ∃ a1 k1, e = .returned (.agg #[.int .u32 (x.pg : Int), .slice a1 x.ns.length k1]) ∧ w'.ownsRow w.heap.size 24 1 (.slice a1 x.ns.length k1) x.ns.length (ncells x.ns) ∧ Same w w' := by
  refine calls_abs (c := cTW) Try.func18 (by kernel_rfl) 12 rfl (by simp) (fun a0 hsz hd ha => ?_)
  have fa0_0 := Fe.refl a0
  unfold cTW
  refine wp_seq ?_
  refine wp_region_list ?_
  unfold rTW0
  have r_a0_1 : (execOp a0.eval oYM0).run Try.prog (w) = .ok (.value (.pointer (some ⟨w.heap.size, 0, none⟩))) (w.alloc (.cells #[.int .u32 (x.pg : Int), .slice x.na x.ns.length x.nc] 55)) := by
    unfold oYM0
    have e0 := (show a0.eval (.tmp 0) = .agg #[.int .u32 (x.pg : Int), .slice x.na x.ns.length x.nc] from ((fa0_0.at_ 0).trans (ha 0 _ rfl)))
    clear fa0_0 ha
    generalize a0.eval = ρ at *
    go_simp
  refine fa0_0.stepW 1 (.pointer (some ⟨w.heap.size, 0, none⟩)) rfl (lb_ hsz) (wanted_none rfl) r_a0_1 (fun a0_1 fa0_1 => ?_)
  clear r_a0_1
  clear fa0_0
  have r_a0_2 : (execOp a0_1.eval oYM1).run Try.prog (w.alloc (.cells #[.int .u32 (x.pg : Int), .slice x.na x.ns.length x.nc] 55)) = .ok (.value (.pointer (some ⟨w.heap.size + 1, 0, none⟩))) ((w.alloc (.cells #[.int .u32 (x.pg : Int), .slice x.na x.ns.length x.nc] 55)).alloc (.cells #[.int .u32 0, .slice none 0 0] 55)) := by
    unfold oYM1
    clear fa0_1 ha
    generalize a0_1.eval = ρ at *
    go_simp
  refine fa0_1.stepW 2 (.pointer (some ⟨w.heap.size + 1, 0, none⟩)) rfl (lb_ hsz) (wanted_none rfl) r_a0_2 (fun a0_2 fa0_2 => ?_)
  clear r_a0_2
  clear fa0_1
  refine wpList_nil ?_
  obtain ⟨V, hV⟩ : ∃ V, V = (w.alloc (.cells #[.int .u32 (x.pg : Int), .slice x.na x.ns.length x.nc] 55)).alloc (.cells #[.int .u32 0, .slice none 0 0] 55) := ⟨_, rfl⟩
  rw [← hV]
  have sV : Same w V := by rw [hV]; exact ((Fr.refl _ w).alloc _).alloc _
  have r0 : V.heap[w.heap.size]? = some (.cells #[.int .u32 (x.pg : Int), .slice x.na x.ns.length x.nc] 55 (0, 0)) := by rw [hV]; exact (((Fr.refl (fun _ => False) (w.alloc (.cells #[.int .u32 (x.pg : Int), .slice x.na x.ns.length x.nc] 55))).alloc _).block _ (by simp) (fun f => f)).trans (heap_alloc_new w _)
  have r1 : V.heap[w.heap.size + 1]? = some (.cells #[.int .u32 0, .slice none 0 0] 55 (0, 0)) := by
    rw [hV]
    have := heap_alloc_new (w.alloc (.cells #[.int .u32 (x.pg : Int), .slice x.na x.ns.length x.nc] 55)) (.cells #[.int .u32 0, .slice none 0 0] 55)
    simpa using this
  have c0 : V.cell? ⟨w.heap.size, 0, none⟩ = some (.int .u32 (x.pg : Int)) := (cell_of_row _ _ _ _ _ _ r0).trans rfl
  have c1 : V.cell? ⟨w.heap.size, 1, none⟩ = some (.slice x.na x.ns.length x.nc) := (cell_of_row _ _ _ _ _ _ r0).trans rfl
  obtain ⟨v1, W1, hr1, o1, g1⟩ := run_partNums V 23 (own_nil (base := w.heap.size)) (x := ⟨x.na, x.ns.length, x.nc, ncells x.ns⟩) ((hin.same sV).part) (by simp only; omega) sV.size
  obtain ⟨a1, k1, rfl⟩ := own_shape o1
  have s1 : Same V W1 := Fr.grown (Fr.refl _ _) g1 (fun k e _ => by cases e)
  simp only [Nat.zero_add, List.nil_append] at o1 hr1
  have d0 := s1.keep c0
  have d1 := s1.keep c1
  have q1 := (s1.block _ (lt_of_heap r1) (fun f => f)).trans r1
  change Code.wp _ _ _ _ _
  refine wp_seq ?_
  refine wp_region_list ?_
  unfold rTW1
  refine fa0_2.move 3 (.slice none 0 0) _ (Or.inr rfl) rfl (lb_ hsz) (wanted_none rfl) rfl (fun a0_3 fa0_3 => ?_)
  clear fa0_2
  refine wpList_nil ?_
  change Code.wp _ _ _ _ _
  refine wp_seq ?_
  refine wp_region_list ?_
  unfold rTW2
  refine fa0_3.move 4 (.slice none 0 0) _ (Or.inl rfl) rfl (lb_ hsz) (wanted_none rfl) (fa0_3.at_ 3) (fun a0_4 fa0_4 => ?_)
  clear fa0_3
  have r_a0_5 : (execOp a0_4.eval oYM2).run Try.prog (V) = .ok (.value (.pointer (some ⟨w.heap.size, 1, none⟩))) (V) := by
    unfold oYM2
    have e1 := (show a0_4.eval (.tmp 1) = .pointer (some ⟨w.heap.size, 0, none⟩) from (fa0_4.at_ 1))
    clear fa0_4 ha
    generalize a0_4.eval = ρ at *
    go_simp
  refine fa0_4.step 5 (.pointer (some ⟨w.heap.size, 1, none⟩)) rfl (lb_ hsz) (wanted_none rfl) r_a0_5 (fun a0_5 fa0_5 => ?_)
  clear r_a0_5
  clear fa0_4
  have r_a0_6 : (execOp a0_5.eval oYM3).run Try.prog (V) = .ok (.value (.slice x.na x.ns.length x.nc)) (V) := by
    unfold oYM3
    have e5 := (show a0_5.eval (.tmp 5) = .pointer (some ⟨w.heap.size, 1, none⟩) from (fa0_5.at_ 5))
    clear fa0_5 ha
    generalize a0_5.eval = ρ at *
    go_simp
  refine fa0_5.step 6 (.slice x.na x.ns.length x.nc) rfl (lb_ hsz) (wanted_none rfl) r_a0_6 (fun a0_6 fa0_6 => ?_)
  clear r_a0_6
  clear fa0_5
  have r_a0_7 : (execOp a0_6.eval oYM4).run Try.prog (V) = .ok (.value (.slice a1 x.ns.length k1)) (W1) := by
    unfold oYM4
    refine exec_append rfl ?_
    rw [(show a0_6.eval (.tmp 4) = .slice none 0 0 from (fa0_6.at_ 4)), (show a0_6.eval (.tmp 6) = .slice x.na x.ns.length x.nc from (fa0_6.at_ 6))]
    exact hr1
  refine fa0_6.stepW 7 (.slice a1 x.ns.length k1) rfl (lb_ hsz) (wanted_none rfl) r_a0_7 (fun a0_7 fa0_7 => ?_)
  clear r_a0_7
  clear fa0_6
  refine fa0_7.move 3 (.slice a1 x.ns.length k1) _ (Or.inr rfl) rfl (lb_ hsz) (wanted_none rfl) (fa0_7.at_ 7) (fun a0_8 fa0_8 => ?_)
  clear fa0_7
  refine wpList_nil ?_
  change Code.wp _ _ _ _ _
  refine wp_seq ?_
  refine wp_region_list ?_
  unfold rTW3
  have r_a0_9 : (execOp a0_8.eval oYM5).run Try.prog (W1) = .ok (.value (.pointer (some ⟨w.heap.size, 0, none⟩))) (W1) := by
    unfold oYM5
    have e1 := (show a0_8.eval (.tmp 1) = .pointer (some ⟨w.heap.size, 0, none⟩) from (fa0_8.at_ 1))
    clear fa0_8 ha
    generalize a0_8.eval = ρ at *
    go_simp
  refine fa0_8.step 8 (.pointer (some ⟨w.heap.size, 0, none⟩)) rfl (lb_ hsz) (wanted_none rfl) r_a0_9 (fun a0_9 fa0_9 => ?_)
  clear r_a0_9
  clear fa0_8
  have r_a0_10 : (execOp a0_9.eval oYM6).run Try.prog (W1) = .ok (.value (.int .u32 (x.pg : Int))) (W1) := by
    unfold oYM6
    have e8 := (show a0_9.eval (.tmp 8) = .pointer (some ⟨w.heap.size, 0, none⟩) from (fa0_9.at_ 8))
    clear fa0_9 ha
    generalize a0_9.eval = ρ at *
    go_simp
  refine fa0_9.step 9 (.int .u32 (x.pg : Int)) rfl (lb_ hsz) (wanted_none rfl) r_a0_10 (fun a0_10 fa0_10 => ?_)
  clear r_a0_10
  clear fa0_9
  refine fa0_10.move 10 (.slice a1 x.ns.length k1) _ (Or.inl rfl) rfl (lb_ hsz) (wanted_none rfl) (fa0_10.at_ 3) (fun a0_11 fa0_11 => ?_)
  clear fa0_10
  have r_a0_12 : (execOp a0_11.eval oYM7).run Try.prog (W1) = .ok (.value (.agg #[.int .u32 (x.pg : Int), .slice a1 x.ns.length k1])) (W1) := by
    unfold oYM7
    have e9 := (show a0_11.eval (.tmp 9) = .int .u32 (x.pg : Int) from (fa0_11.at_ 9))
    have e10 := (show a0_11.eval (.tmp 10) = .slice a1 x.ns.length k1 from (fa0_11.at_ 10))
    clear fa0_11 ha
    generalize a0_11.eval = ρ at *
    go_simp
  refine fa0_11.step 11 (.agg #[.int .u32 (x.pg : Int), .slice a1 x.ns.length k1]) rfl (lb_ hsz) (wanted_none rfl) r_a0_12 (fun a0_12 fa0_12 => ?_)
  clear r_a0_12
  clear fa0_11
  refine wpList_store_whole rfl 55 _ _ rfl (w.heap.size + 1) #[.int .u32 (x.pg : Int), .slice a1 x.ns.length k1] #[.int .u32 0, .slice none 0 0] 55 (show a0_12.eval (.tmp 2) = .pointer (some ⟨w.heap.size + 1, 0, none⟩) from (fa0_12.at_ 2)) (show a0_12.eval (.tmp 11) = .agg #[.int .u32 (x.pg : Int), .slice a1 x.ns.length k1] from (fa0_12.at_ 11)) q1 rfl (by kernel_rfl) (by kernel_rfl) (fun W2 rW2 fW2 => ?_)
  change wpList _ _ _ _ a0_12 W2
  refine wpList_nil ?_
  change Code.wp _ _ _ _ _
  refine wp_ret ?_
  refine bodyPost_ret (results_row_one rfl _ _ _ _ _ _ _ (show a0_12.eval (.tmp 2) = .pointer (some ⟨w.heap.size + 1, 0, none⟩) from (fa0_12.at_ 2)) rW2 Try.underlying55 rfl (by kernel_rfl)) (fa0_12.defers.trans hd) ?_
  exact ⟨a1, k1, rfl, own_frameB o1 fW2 (fun k hk e => own_neT (own_base o1 (Nat.zero_le _)) q1 (by decide) k hk e), Fr.trans (sV.trans s1) fW2 (fun k hk e => by omega)⟩
/-- While a chain is told anew: A what was told, N where it lies. -/
structure DAw (w W : World) (pb : Obj) (A : List Bt) (ao : Option Addr) (cc : Nat) (N : List Bt) : Prop where
  same : Same w W
  box : W.heap[w.heap.size]? = some pb
  row : W.ownsRow (w.heap.size + 1) 55 2 (.slice ao N.length cc) N.length (btCs N)
  key : N.map Bt.key = A.map Bt.key
  new_ : ∀ x ∈ N, NewX w W x
theorem DAw.next {w W W2 W3 : World} {pb : Obj} {A N : List Bt} {ao a1 a3 : Option Addr} {cc c3 k1 : Nat} {x : Bt} (h : DAw w W pb A ao cc N) (s : Same W W2) (o1 : W2.ownsRow W.heap.size 24 1 (.slice a1 x.ns.length k1) x.ns.length (ncells x.ns))
    (g3 : W2.grownBy W3 (Value.slice ao N.length cc).ownBlock) (o3 : W3.ownsRow (w.heap.size + 1) 55 2 (.slice a3 (N.length + 1) c3) (N.length + 1) (btCs N ++ [.int .u32 (x.pg : Int), .slice a1 x.ns.length k1])) :
    ∃ N', DAw w W3 pb (A ++ [x]) a3 c3 N' ∧ N'.length = N.length + 1 := by
  have f : Fr (fun b => (Value.slice ao N.length cc).ownBlock = some b) W2 W3 := Fr.grown (Fr.refl _ _) g3 (fun b e _ => e)
  have hrow2 := own_frameB h.row s (fun _ _ f => f)
  have hbk : ∀ b, (Value.slice ao N.length cc).ownBlock = some b → w.heap.size + 1 ≤ b ∧ ∃ cs, W2.heap[b]? = some (.cells cs 55 (0, 0)) := fun b hb => ⟨own_blk h.row b hb, own_cellsB hrow2 hb⟩
  have nety : ∀ (a : Option Addr) (n c B : Nat) (xs : List Value), W2.ownsRow B 24 1 (.slice a n c) n xs → ∀ k, (Value.slice a n c).ownBlock = some k → ¬ (Value.slice ao N.length cc).ownBlock = some k := fun a n c B xs ho k hk e => by
    obtain ⟨_, cs, hcs⟩ := hbk k e
    exact own_neT (own_base ho (Nat.zero_le _)) hcs (by decide) k hk rfl
  have nrne : ∀ (a : Option Addr) (n c B nb : Nat) (ns : List Nat), W2.ownsRow B 24 1 (.slice a n c) n (ncells ns) → NRow W2 a nb 0 ns → ns ≠ [] → ¬ (Value.slice ao N.length cc).ownBlock = some nb := fun a n c B nb ns ho hn he => nety a n c B _ ho nb (by rw [blk_of, (hn.place he).1]; rfl)
  obtain ⟨nb, hnb⟩ := own_nrow o1 rfl
  refine ⟨N ++ [⟨x.pg, a1, nb, 0, k1, x.ns⟩], ⟨Fr.trans (h.same.trans s) f (fun b hb e => by have := (hbk b e).1; omega), ?_, ?_, by rw [List.map_append, List.map_append, h.key]; rfl, fun y hy => ?_⟩, by simp⟩
  · have hb2 := (s.block _ (lt_of_heap h.box) (fun f => f)).trans h.box
    exact (f.block _ (lt_of_heap hb2) (fun e => by have := (hbk _ e).1; omega)).trans hb2
  · rw [List.length_append, List.length_singleton, btCs_app]
    exact o3
  · rcases List.mem_append.1 hy with h1 | h1
    · have hn1 := (h.new_ y h1).fr s (fun _ _ f => f) (fun _ f => f)
      exact hn1.fr f (nety _ _ _ _ _ hn1.own) (nrne _ _ _ _ _ _ hn1.own hn1.row)
    · rw [List.mem_singleton] at h1
      subst h1
      exact ⟨rfl, own_frameB (own_base o1 h.same.size) f (nety _ _ _ _ _ o1), hnb.fr f (nrne _ _ _ _ _ _ o1 hnb)⟩
structure ID2 (hz : Nat) (pa : Option Addr) (n cp : Nat) (a : Act) : Prop where
  size : a.tmps.size = 43
  defers : a.defers = []
  s0 : a.eval (.tmp 0) = .slice pa n cp
  s3 : a.eval (.tmp 3) = .pointer (some ⟨hz, 0, none⟩)
theorem ID2.keep {hz : Nat} {pa : Option Addr} {n cp : Nat} {a0 a : Act} {env : List (Nat × Value)} (h : ID2 hz pa n cp a0) (f : Fe a0 env a) (h0 : look env 0 (a0.eval (.tmp 0)) = a0.eval (.tmp 0)) (h3 : look env 3 (a0.eval (.tmp 3)) = a0.eval (.tmp 3)) : ID2 hz pa n cp a :=
  ⟨f.size.trans h.size, f.defers.trans h.defers, ((f.at_ 0).trans h0).trans h.s0, ((f.at_ 3).trans h3).trans h.s3⟩
set_option maxRecDepth 100000 in
set_option maxHeartbeats 1000000 in
theorem da1R {n cp lb lo ln lc i cc : Nat} {pa ao : Option Addr} {tr : Value} {op pgs : Int} {A N : List Bt} {x : Bt} {Q : Exit → Act → World → Prop} (a0 : Act) (w wr : World) (I0 : ID2 w.heap.size pa n cp a0) (h6 : a0.eval (.tmp 6) = .int .i64 (i : Int)) (h5 : a0.eval (.tmp 5) = .slice ao N.length cc)
    (hc : DAw w wr (.cells #[tr, .slice (some ⟨lb, lo, none⟩) ln lc, .int .i64 op, .int .u32 pgs] 26 (0, 0)) A ao cc N) (hi : i < ln) (hln : ln ≤ 2000000) (hN : N.length ≤ 4000000) (hcel : wr.cell? ⟨lb, lo + i * 2, none⟩ = some (.int .u32 (x.pg : Int)) ∧ wr.cell? ⟨lb, lo + i * 2 + 1, none⟩ = some (.slice x.na x.ns.length x.nc)) (hin : NIn wr x.na x.nb x.no x.nc x.ns) (hxl : x.ns.length ≤ 1048576)
    (hQ : ∀ a W a3 c3 N3, ID2 w.heap.size pa n cp a → a.eval (.tmp 6) = .int .i64 ((i : Int) + 1) → a.eval (.tmp 5) = .slice a3 N3.length c3 → DAw w W (.cells #[tr, .slice (some ⟨lb, lo, none⟩) ln lc, .int .i64 op, .int .u32 pgs] 26 (0, 0)) (A ++ [x]) a3 c3 N3 → Q .normal a W) : cDA1.wp Try.prog Q a0 wr := by
  have hii : (i : Int) < (ln : Int) := by omega
  have w7 : IntKind.i64.wrap ((i : Int) + 1) = (i : Int) + 1 := by rw [IntKind.wrap_i64]; omega
  obtain ⟨e1, e2⟩ := hcel
  have fa0_0 := Fe.refl a0
  have c1 : wr.cell? ⟨w.heap.size, 1, none⟩ = some (.slice (some ⟨lb, lo, none⟩) ln lc) := (cell_of_row _ _ _ _ _ _ hc.box).trans rfl
  unfold cDA1
  refine wp_seq (wp_seq ?_)
  refine wp_region_list ?_
  unfold rDA3
  refine fa0_0.move 8 (.int .i64 (i : Int)) _ (Or.inl rfl) rfl (lb_ I0.size) (wanted_none rfl) ((fa0_0.at_ 6).trans h6) (fun a0_1 fa0_1 => ?_)
  clear fa0_0
  have r_a0_2 : (execOp a0_1.eval oYM9).run Try.prog (wr) = .ok (.value (.pointer (some ⟨w.heap.size, 1, none⟩))) (wr) := by
    unfold oYM9
    have e3 := (show a0_1.eval (.tmp 3) = .pointer (some ⟨w.heap.size, 0, none⟩) from ((fa0_1.at_ 3).trans I0.s3))
    clear fa0_1 hQ h5 h6
    generalize a0_1.eval = ρ at *
    go_simp
  refine fa0_1.step 9 (.pointer (some ⟨w.heap.size, 1, none⟩)) rfl (lb_ I0.size) (wanted_none rfl) r_a0_2 (fun a0_2 fa0_2 => ?_)
  clear r_a0_2
  clear fa0_1
  have r_a0_3 : (execOp a0_2.eval oYM10).run Try.prog (wr) = .ok (.value (.slice (some ⟨lb, lo, none⟩) ln lc)) (wr) := by
    unfold oYM10
    have e9 := (show a0_2.eval (.tmp 9) = .pointer (some ⟨w.heap.size, 1, none⟩) from (fa0_2.at_ 9))
    clear fa0_2 hQ h5 h6
    generalize a0_2.eval = ρ at *
    go_simp
  refine fa0_2.step 10 (.slice (some ⟨lb, lo, none⟩) ln lc) rfl (lb_ I0.size) (wanted_none rfl) r_a0_3 (fun a0_3 fa0_3 => ?_)
  clear r_a0_3
  clear fa0_2
  have r_a0_4 : (execOp a0_3.eval oYM11).run Try.prog (wr) = .ok (.value (.int .i64 (ln : Int))) (wr) := by
    unfold oYM11
    have e10 := (show a0_3.eval (.tmp 10) = .slice (some ⟨lb, lo, none⟩) ln lc from (fa0_3.at_ 10))
    clear fa0_3 hQ h5 h6
    generalize a0_3.eval = ρ at *
    go_simp
  refine fa0_3.step 11 (.int .i64 (ln : Int)) rfl (lb_ I0.size) (wanted_none rfl) r_a0_4 (fun a0_4 fa0_4 => ?_)
  clear r_a0_4
  clear fa0_3
  have r_a0_5 : (execOp a0_4.eval oYM12).run Try.prog (wr) = .ok (.value (.bool true)) (wr) := by
    unfold oYM12
    have e8 := (show a0_4.eval (.tmp 8) = .int .i64 (i : Int) from (fa0_4.at_ 8))
    have e11 := (show a0_4.eval (.tmp 11) = .int .i64 (ln : Int) from (fa0_4.at_ 11))
    clear fa0_4 hQ h5 h6
    generalize a0_4.eval = ρ at *
    go_simp
  refine fa0_4.step 12 (.bool true) rfl (lb_ I0.size) (wanted_none rfl) r_a0_5 (fun a0_5 fa0_5 => ?_)
  clear r_a0_5
  clear fa0_4
  refine wpList_nil ?_
  change Code.wp _ _ _ _ _
  refine wp_cond_true (show a0_5.eval (.tmp 12) = .bool true from (fa0_5.at_ 12)) (wp_skip ?_)
  change Code.wp _ _ _ _ _
  refine wp_seq (wp_block ?_)
  refine wp_region_list ?_
  unfold rDA5
  refine fa0_5.move 15 (.slice ao N.length cc) _ (Or.inl rfl) rfl (lb_ I0.size) (wanted_none rfl) ((fa0_5.at_ 5).trans h5) (fun a0_6 fa0_6 => ?_)
  clear fa0_5
  have r_a0_7 : (execOp a0_6.eval oYM14).run Try.prog (wr) = .ok (.value (.pointer (some ⟨w.heap.size, 1, none⟩))) (wr) := by
    unfold oYM14
    have e3 := (show a0_6.eval (.tmp 3) = .pointer (some ⟨w.heap.size, 0, none⟩) from ((fa0_6.at_ 3).trans I0.s3))
    clear fa0_6 hQ h5 h6
    generalize a0_6.eval = ρ at *
    go_simp
  refine fa0_6.step 16 (.pointer (some ⟨w.heap.size, 1, none⟩)) rfl (lb_ I0.size) (wanted_none rfl) r_a0_7 (fun a0_7 fa0_7 => ?_)
  clear r_a0_7
  clear fa0_6
  have r_a0_8 : (execOp a0_7.eval oYM15).run Try.prog (wr) = .ok (.value (.slice (some ⟨lb, lo, none⟩) ln lc)) (wr) := by
    unfold oYM15
    have e16 := (show a0_7.eval (.tmp 16) = .pointer (some ⟨w.heap.size, 1, none⟩) from (fa0_7.at_ 16))
    clear fa0_7 hQ h5 h6
    generalize a0_7.eval = ρ at *
    go_simp
  refine fa0_7.step 17 (.slice (some ⟨lb, lo, none⟩) ln lc) rfl (lb_ I0.size) (wanted_none rfl) r_a0_8 (fun a0_8 fa0_8 => ?_)
  clear r_a0_8
  clear fa0_7
  refine fa0_8.move 18 (.int .i64 (i : Int)) _ (Or.inl rfl) rfl (lb_ I0.size) (wanted_none rfl) ((fa0_8.at_ 6).trans h6) (fun a0_9 fa0_9 => ?_)
  clear fa0_8
  have r_a0_10 : (execOp a0_9.eval oYM16).run Try.prog (wr) = .ok (.value (.pointer (some ⟨lb, lo + i * 2, none⟩))) (wr) := by
    unfold oYM16
    have e17 := (show a0_9.eval (.tmp 17) = .slice (some ⟨lb, lo, none⟩) ln lc from (fa0_9.at_ 17))
    have e18 := (show a0_9.eval (.tmp 18) = .int .i64 (i : Int) from (fa0_9.at_ 18))
    clear fa0_9 hQ h5 h6
    generalize a0_9.eval = ρ at *
    go_simp
  refine fa0_9.step 19 (.pointer (some ⟨lb, lo + i * 2, none⟩)) rfl (lb_ I0.size) (wanted_none rfl) r_a0_10 (fun a0_10 fa0_10 => ?_)
  clear r_a0_10
  clear fa0_9
  have r_a0_11 : (execOp a0_10.eval oYM17).run Try.prog (wr) = .ok (.value (.agg #[.int .u32 (x.pg : Int), .slice x.na x.ns.length x.nc])) (wr) := by
    unfold oYM17
    have e19 := (show a0_10.eval (.tmp 19) = .pointer (some ⟨lb, lo + i * 2, none⟩) from (fa0_10.at_ 19))
    clear fa0_10 hQ h5 h6
    generalize a0_10.eval = ρ at *
    go_simp
  refine fa0_10.step 20 (.agg #[.int .u32 (x.pg : Int), .slice x.na x.ns.length x.nc]) rfl (lb_ I0.size) (wanted_none rfl) r_a0_11 (fun a0_11 fa0_11 => ?_)
  clear r_a0_11
  clear fa0_10
  have r_a0_12 : (execOp a0_11.eval oYM18).run Try.prog (wr) = .ok (.enter 18 #[.agg #[.int .u32 (x.pg : Int), .slice x.na x.ns.length x.nc]]) (wr) := by
    unfold oYM18
    have kf : ∀ f, a0_11.eval (.func f) = .func (.func f) #[] #[] := fun _ => rfl
    have e20 := (show a0_11.eval (.tmp 20) = .agg #[.int .u32 (x.pg : Int), .slice x.na x.ns.length x.nc] from (fa0_11.at_ 20))
    clear fa0_11 hQ h5 h6
    generalize a0_11.eval = ρ at *
    go_simp
  refine fa0_11.call 21 rfl (lb_ I0.size) (wanted_none rfl) r_a0_12 (twin_calls wr hin hxl) (fun e W1 hR => ?_)
  obtain ⟨a1, k1, rfl, o1, s1⟩ := hR
  clear r_a0_12
  refine ⟨_, rfl, fun a0_12 fa0_12 => ?_⟩
  clear fa0_11
  have r_a0_13 : (execOp a0_12.eval oYM19).run Try.prog (W1) = .ok (.value (.slice (some ⟨W1.heap.size, 0, none⟩) 1 1)) (W1.alloc (.cells #[.int .u32 (x.pg : Int), .slice a1 x.ns.length k1] 55)) := by
    unfold oYM19
    have e21 := (show a0_12.eval (.tmp 21) = .agg #[.int .u32 (x.pg : Int), .slice a1 x.ns.length k1] from (fa0_12.at_ 21))
    clear fa0_12 hQ h5 h6
    generalize a0_12.eval = ρ at *
    go_simp
  refine fa0_12.stepW 22 (.slice (some ⟨W1.heap.size, 0, none⟩) 1 1) rfl (lb_ I0.size) (wanted_none rfl) r_a0_13 (fun a0_13 fa0_13 => ?_)
  clear r_a0_13
  obtain ⟨W2, hW2⟩ : ∃ W2, W2 = W1.alloc (.cells #[.int .u32 (x.pg : Int), .slice a1 x.ns.length k1] 55) := ⟨_, rfl⟩
  rw [← hW2]
  have s2 : Same wr W2 := by rw [hW2]; exact s1.trans ((Fr.refl _ W1).alloc _)
  have hh2 : W2.heap[W1.heap.size]? = some (.cells #[.int .u32 (x.pg : Int), .slice a1 x.ns.length k1] 55 (0, 0)) := by rw [hW2]; exact heap_alloc_new W1 _
  have ow : W2.ownsRow (w.heap.size + 1) 55 2 (.slice ao N.length cc) N.length (btCs N) := own_frameB hc.row s2 (fun _ _ f => f)
  obtain ⟨v3, W3, hr3, o3, g3⟩ := run_partBts W2 22 ow (part_two _ _ hh2 rfl rfl) (by show N.length + 1 ≤ _; omega) (by have := lt_of_heap hc.box; have := s2.size; omega)
  obtain ⟨a3, c3, rfl⟩ := own_shape o3
  have o2 : W2.ownsRow wr.heap.size 24 1 (.slice a1 x.ns.length k1) x.ns.length (ncells x.ns) := by rw [hW2]; exact own_frameB o1 ((Fr.refl (fun _ => False) W1).alloc _) (fun _ _ f => f)
  obtain ⟨N3, hc3, hl3⟩ := hc.next s2 o2 g3 o3
  clear fa0_12
  have r_a0_14 : (execOp a0_13.eval oYM20).run Try.prog (W2) = .ok (.value (.slice a3 (N.length + 1) c3)) (W3) := by
    unfold oYM20
    refine exec_append rfl ?_
    rw [(show a0_13.eval (.tmp 15) = .slice ao N.length cc from (fa0_13.at_ 15)), (show a0_13.eval (.tmp 22) = .slice (some ⟨W1.heap.size, 0, none⟩) 1 1 from (fa0_13.at_ 22))]
    exact hr3
  refine fa0_13.stepW 23 (.slice a3 (N.length + 1) c3) rfl (lb_ I0.size) (wanted_none rfl) r_a0_14 (fun a0_14 fa0_14 => ?_)
  clear r_a0_14
  clear fa0_13
  refine fa0_14.move 5 (.slice a3 (N.length + 1) c3) _ (Or.inr rfl) rfl (lb_ I0.size) (wanted_none rfl) (fa0_14.at_ 23) (fun a0_15 fa0_15 => ?_)
  clear fa0_14
  refine wpList_nil ?_
  change Code.wp _ _ _ _ _
  refine wp_region_list ?_
  unfold rDA4
  refine fa0_15.move 13 (.int .i64 (i : Int)) _ (Or.inl rfl) rfl (lb_ I0.size) (wanted_none rfl) ((fa0_15.at_ 6).trans h6) (fun a0_16 fa0_16 => ?_)
  clear fa0_15
  have r_a0_17 : (execOp a0_16.eval oYM13).run Try.prog (W3) = .ok (.value (.int .i64 ((i : Int) + 1))) (W3) := by
    unfold oYM13
    have kc : ∀ v, a0_16.eval (.const v) = v := fun _ => rfl
    have e13 := (show a0_16.eval (.tmp 13) = .int .i64 (i : Int) from (fa0_16.at_ 13))
    clear fa0_16 hQ h5 h6
    generalize a0_16.eval = ρ at *
    go_simp
  refine fa0_16.step 14 (.int .i64 ((i : Int) + 1)) rfl (lb_ I0.size) (wanted_none rfl) r_a0_17 (fun a0_17 fa0_17 => ?_)
  clear r_a0_17
  clear fa0_16
  refine fa0_17.move 6 (.int .i64 ((i : Int) + 1)) _ (Or.inr rfl) rfl (lb_ I0.size) (wanted_none rfl) (fa0_17.at_ 14) (fun a0_18 fa0_18 => ?_)
  clear fa0_17
  refine wpList_nil ?_
  exact hQ a0_18 W3 a3 c3 N3 (I0.keep fa0_18 rfl rfl) (show a0_18.eval (.tmp 6) = .int .i64 ((i : Int) + 1) from (fa0_18.at_ 6)) (by rw [hl3]; exact (show a0_18.eval (.tmp 5) = .slice a3 (N.length + 1) c3 from (fa0_18.at_ 5))) hc3
set_option maxRecDepth 100000 in
theorem da1E {n cp ln lc i cc : Nat} {pa ao la : Option Addr} {tr : Value} {op pgs : Int} {A N : List Bt} {Q : Exit → Act → World → Prop} (a0 : Act) (w wr : World) (I0 : ID2 w.heap.size pa n cp a0) (h6 : a0.eval (.tmp 6) = .int .i64 (i : Int)) (h5 : a0.eval (.tmp 5) = .slice ao N.length cc)
    (hc : DAw w wr (.cells #[tr, .slice la ln lc, .int .i64 op, .int .u32 pgs] 26 (0, 0)) A ao cc N) (hi : ln ≤ i) (hQ : ∀ a, ID2 w.heap.size pa n cp a → a.eval (.tmp 5) = .slice ao N.length cc → Q (.exit 0) a wr) : cDA1.wp Try.prog Q a0 wr := by
  have hii : ¬ (i : Int) < (ln : Int) := by omega
  have hid : decide ((i : Int) < (ln : Int)) = false := decide_eq_false hii
  clear hi
  have fa0_0 := Fe.refl a0
  have c1 : wr.cell? ⟨w.heap.size, 1, none⟩ = some (.slice la ln lc) := (cell_of_row _ _ _ _ _ _ hc.box).trans rfl
  unfold cDA1
  refine wp_seq (wp_seq ?_)
  refine wp_region_list ?_
  unfold rDA3
  refine fa0_0.move 8 (.int .i64 (i : Int)) _ (Or.inl rfl) rfl (lb_ I0.size) (wanted_none rfl) ((fa0_0.at_ 6).trans h6) (fun a0_1 fa0_1 => ?_)
  clear fa0_0
  have r_a0_2 : (execOp a0_1.eval oYM9).run Try.prog (wr) = .ok (.value (.pointer (some ⟨w.heap.size, 1, none⟩))) (wr) := by
    unfold oYM9
    have e3 := (show a0_1.eval (.tmp 3) = .pointer (some ⟨w.heap.size, 0, none⟩) from ((fa0_1.at_ 3).trans I0.s3))
    clear fa0_1 hQ h5 h6
    generalize a0_1.eval = ρ at *
    go_simp
  refine fa0_1.step 9 (.pointer (some ⟨w.heap.size, 1, none⟩)) rfl (lb_ I0.size) (wanted_none rfl) r_a0_2 (fun a0_2 fa0_2 => ?_)
  clear r_a0_2
  clear fa0_1
  have r_a0_3 : (execOp a0_2.eval oYM10).run Try.prog (wr) = .ok (.value (.slice la ln lc)) (wr) := by
    unfold oYM10
    have e9 := (show a0_2.eval (.tmp 9) = .pointer (some ⟨w.heap.size, 1, none⟩) from (fa0_2.at_ 9))
    clear fa0_2 hQ h5 h6
    generalize a0_2.eval = ρ at *
    go_simp
  refine fa0_2.step 10 (.slice la ln lc) rfl (lb_ I0.size) (wanted_none rfl) r_a0_3 (fun a0_3 fa0_3 => ?_)
  clear r_a0_3
  clear fa0_2
  have r_a0_4 : (execOp a0_3.eval oYM11).run Try.prog (wr) = .ok (.value (.int .i64 (ln : Int))) (wr) := by
    unfold oYM11
    have e10 := (show a0_3.eval (.tmp 10) = .slice la ln lc from (fa0_3.at_ 10))
    clear fa0_3 hQ h5 h6
    generalize a0_3.eval = ρ at *
    go_simp
  refine fa0_3.step 11 (.int .i64 (ln : Int)) rfl (lb_ I0.size) (wanted_none rfl) r_a0_4 (fun a0_4 fa0_4 => ?_)
  clear r_a0_4
  clear fa0_3
  have r_a0_5 : (execOp a0_4.eval oYM12).run Try.prog (wr) = .ok (.value (.bool false)) (wr) := by
    unfold oYM12
    have e8 := (show a0_4.eval (.tmp 8) = .int .i64 (i : Int) from (fa0_4.at_ 8))
    have e11 := (show a0_4.eval (.tmp 11) = .int .i64 (ln : Int) from (fa0_4.at_ 11))
    clear fa0_4 hQ h5 h6
    generalize a0_4.eval = ρ at *
    go_simp
  refine fa0_4.step 12 (.bool false) rfl (lb_ I0.size) (wanted_none rfl) r_a0_5 (fun a0_5 fa0_5 => ?_)
  clear r_a0_5
  clear fa0_4
  refine wpList_nil ?_
  change Code.wp _ _ _ _ _
  refine wp_cond_false (show a0_5.eval (.tmp 12) = .bool false from (fa0_5.at_ 12)) (wp_exit ?_)
  exact hQ a0_5 (I0.keep fa0_5 rfl rfl) (show a0_5.eval (.tmp 5) = .slice ao N.length cc from ((fa0_5.at_ 5).trans h5))
theorem da1L {n cp lb lo ln lc : Nat} {pa la : Option Addr} {tr : Value} {op pgs : Int} {ML : List Bt} {Q : Exit → Act → World → Prop} (a0 : Act) (w wr : World) (I0 : ID2 w.heap.size pa n cp a0) (h6 : a0.eval (.tmp 6) = .int .i64 ((0 : Nat) : Int)) (h5 : a0.eval (.tmp 5) = .slice none 0 0)
    (hc : DAw w wr (.cells #[tr, .slice la ln lc, .int .i64 op, .int .u32 pgs] 26 (0, 0)) [] none 0 []) (hb : BiRow w la lb lo ML) (hln : ln = ML.length) (hwt : wt ML ≤ 1048576)
    (hQ : ∀ a W a3 c3 N, ID2 w.heap.size pa n cp a → a.eval (.tmp 5) = .slice a3 N.length c3 → DAw w W (.cells #[tr, .slice la ln lc, .int .i64 op, .int .u32 pgs] 26 (0, 0)) ML a3 c3 N → Q (.exit 0) a W) : (Code.loop cDA1).wp Try.prog Q a0 wr := by
  have hl2 : ln ≤ 1048576 := by rw [hln]; exact Nat.le_trans (wt_len ML) hwt
  refine wp_loop (fun a W => ID2 w.heap.size pa n cp a ∧ ∃ (i : Nat) (ao : Option Addr) (cc : Nat) (N : List Bt), i ≤ ln ∧ a.eval (.tmp 6) = .int .i64 (i : Int) ∧ a.eval (.tmp 5) = .slice ao N.length cc ∧ DAw w W (.cells #[tr, .slice la ln lc, .int .i64 op, .int .u32 pgs] 26 (0, 0)) (ML.take i) ao cc N) (fun a _ => ln - kOf a 6) ⟨I0, 0, none, 0, [], Nat.zero_le _, h6, h5, hc⟩ ?_
  rintro a W ⟨I1, i, ao, cc, N, hi, g6, g5, hc1⟩
  have hNl : N.length ≤ i := by have := congrArg List.length hc1.key; simp only [List.length_map, List.length_take] at this; omega
  by_cases hgo : i < ln
  · obtain ⟨x, hx⟩ : ∃ x, ML[i]? = some x := ⟨_, List.getElem?_eq_getElem (by rw [← hln]; exact hgo)⟩
    have hm := List.mem_of_getElem? hx
    have hxl : x.ns.length ≤ 1048576 := by have := wt_mem hm; omega
    have hb1 := hb.same hc1.same
    obtain ⟨hpa, _⟩ := hb.row.place (by intro e; rw [e] at hx; simp at hx)
    subst hpa
    obtain ⟨e1, e2, _⟩ := hb1.row.cells i x hx
    refine da1R a w W I1 g6 g5 hc1 hgo (by omega) (by omega) ⟨e1, e2⟩ (hb1.nin x hm) hxl (fun a' W3 a3 c3 N3 i3 h1 h2 h3 => ?_)
    have h4 : a'.eval (.tmp 6) = .int .i64 ((i + 1 : Nat) : Int) := h1
    refine ⟨⟨i3, i + 1, a3, c3, N3, hgo, h4, h2, ?_⟩, ?_⟩
    · rw [List.take_add_one, hx]; exact h3
    · show ln - kOf a' 6 < ln - kOf a 6
      rw [kOf_eq h4, kOf_eq g6]
      omega
  · obtain rfl : i = ln := by omega
    refine da1E a w W I1 g6 g5 hc1 (Nat.le_refl _) (fun a' i2 h2 => hQ a' W ao cc N i2 h2 ?_)
    rw [hln, List.take_length] at hc1
    rw [hln]
    exact hc1
set_option maxRecDepth 100000 in
set_option maxHeartbeats 1000000 in
theorem da2R {n cp pb po ln lc i cc : Nat} {la ao : Option Addr} {tr : Value} {op pgs : Int} {A N : List Bt} {x : Bt} {Q : Exit → Act → World → Prop} (a0 : Act) (w wr : World) (I0 : ID2 w.heap.size (some ⟨pb, po, none⟩) n cp a0) (h7 : a0.eval (.tmp 7) = .int .i64 (i : Int)) (h5 : a0.eval (.tmp 5) = .slice ao N.length cc)
    (hc : DAw w wr (.cells #[tr, .slice la ln lc, .int .i64 op, .int .u32 pgs] 26 (0, 0)) A ao cc N) (hi : i < n) (hn : n ≤ 2000000) (hN : N.length ≤ 4000000) (hop : op ≤ (i : Int)) (hcel : wr.cell? ⟨pb, po + i * 2, none⟩ = some (.int .u32 (x.pg : Int)) ∧ wr.cell? ⟨pb, po + i * 2 + 1, none⟩ = some (.slice x.na x.ns.length x.nc)) (hin : NIn wr x.na x.nb x.no x.nc x.ns) (hxl : x.ns.length ≤ 1048576)
    (hQ : ∀ a W a3 c3 N3, ID2 w.heap.size (some ⟨pb, po, none⟩) n cp a → a.eval (.tmp 7) = .int .i64 ((i : Int) + 1) → a.eval (.tmp 5) = .slice a3 N3.length c3 → DAw w W (.cells #[tr, .slice la ln lc, .int .i64 op, .int .u32 pgs] 26 (0, 0)) (A ++ [x]) a3 c3 N3 → Q .normal a W) : cDA2.wp Try.prog Q a0 wr := by
  have hii : (i : Int) < (n : Int) := by omega
  have w7 : IntKind.i64.wrap ((i : Int) + 1) = (i : Int) + 1 := by rw [IntKind.wrap_i64]; omega
  obtain ⟨e1, e2⟩ := hcel
  have fa0_0 := Fe.refl a0
  have c2 : wr.cell? ⟨w.heap.size, 2, none⟩ = some (.int .i64 op) := (cell_of_row _ _ _ _ _ _ hc.box).trans rfl
  unfold cDA2
  refine wp_seq (wp_seq ?_)
  refine wp_region_list ?_
  unfold rDA7
  refine fa0_0.move 24 (.int .i64 (i : Int)) _ (Or.inl rfl) rfl (lb_ I0.size) (wanted_none rfl) ((fa0_0.at_ 7).trans h7) (fun a0_1 fa0_1 => ?_)
  clear fa0_0
  refine fa0_1.move 25 (.slice (some ⟨pb, po, none⟩) n cp) _ (Or.inl rfl) rfl (lb_ I0.size) (wanted_none rfl) ((fa0_1.at_ 0).trans I0.s0) (fun a0_2 fa0_2 => ?_)
  clear fa0_1
  have r_a0_3 : (execOp a0_2.eval oYM21).run Try.prog (wr) = .ok (.value (.int .i64 (n : Int))) (wr) := by
    unfold oYM21
    have e25 := (show a0_2.eval (.tmp 25) = .slice (some ⟨pb, po, none⟩) n cp from (fa0_2.at_ 25))
    clear fa0_2 hQ h5 h7
    generalize a0_2.eval = ρ at *
    go_simp
  refine fa0_2.step 26 (.int .i64 (n : Int)) rfl (lb_ I0.size) (wanted_none rfl) r_a0_3 (fun a0_3 fa0_3 => ?_)
  clear r_a0_3
  clear fa0_2
  have r_a0_4 : (execOp a0_3.eval oYM22).run Try.prog (wr) = .ok (.value (.bool true)) (wr) := by
    unfold oYM22
    have e24 := (show a0_3.eval (.tmp 24) = .int .i64 (i : Int) from (fa0_3.at_ 24))
    have e26 := (show a0_3.eval (.tmp 26) = .int .i64 (n : Int) from (fa0_3.at_ 26))
    clear fa0_3 hQ h5 h7
    generalize a0_3.eval = ρ at *
    go_simp
  refine fa0_3.step 27 (.bool true) rfl (lb_ I0.size) (wanted_none rfl) r_a0_4 (fun a0_4 fa0_4 => ?_)
  clear r_a0_4
  clear fa0_3
  refine wpList_nil ?_
  change Code.wp _ _ _ _ _
  refine wp_cond_true (show a0_4.eval (.tmp 27) = .bool true from (fa0_4.at_ 27)) (wp_skip ?_)
  change Code.wp _ _ _ _ _
  refine wp_seq (wp_block (wp_seq ?_))
  refine wp_region_list ?_
  unfold rDA9
  refine fa0_4.move 30 (.int .i64 (i : Int)) _ (Or.inl rfl) rfl (lb_ I0.size) (wanted_none rfl) ((fa0_4.at_ 7).trans h7) (fun a0_5 fa0_5 => ?_)
  clear fa0_4
  have r_a0_6 : (execOp a0_5.eval oYM24).run Try.prog (wr) = .ok (.value (.pointer (some ⟨w.heap.size, 2, none⟩))) (wr) := by
    unfold oYM24
    have e3 := (show a0_5.eval (.tmp 3) = .pointer (some ⟨w.heap.size, 0, none⟩) from ((fa0_5.at_ 3).trans I0.s3))
    clear fa0_5 hQ h5 h7
    generalize a0_5.eval = ρ at *
    go_simp
  refine fa0_5.step 31 (.pointer (some ⟨w.heap.size, 2, none⟩)) rfl (lb_ I0.size) (wanted_none rfl) r_a0_6 (fun a0_6 fa0_6 => ?_)
  clear r_a0_6
  clear fa0_5
  have r_a0_7 : (execOp a0_6.eval oYM25).run Try.prog (wr) = .ok (.value (.int .i64 op)) (wr) := by
    unfold oYM25
    have e31 := (show a0_6.eval (.tmp 31) = .pointer (some ⟨w.heap.size, 2, none⟩) from (fa0_6.at_ 31))
    clear fa0_6 hQ h5 h7
    generalize a0_6.eval = ρ at *
    go_simp
  refine fa0_6.step 32 (.int .i64 op) rfl (lb_ I0.size) (wanted_none rfl) r_a0_7 (fun a0_7 fa0_7 => ?_)
  clear r_a0_7
  clear fa0_6
  have r_a0_8 : (execOp a0_7.eval oYM26).run Try.prog (wr) = .ok (.value (.bool true)) (wr) := by
    unfold oYM26
    have e30 := (show a0_7.eval (.tmp 30) = .int .i64 (i : Int) from (fa0_7.at_ 30))
    have e32 := (show a0_7.eval (.tmp 32) = .int .i64 op from (fa0_7.at_ 32))
    clear fa0_7 hQ h5 h7
    generalize a0_7.eval = ρ at *
    go_simp
  refine fa0_7.step 33 (.bool true) rfl (lb_ I0.size) (wanted_none rfl) r_a0_8 (fun a0_8 fa0_8 => ?_)
  clear r_a0_8
  clear fa0_7
  refine wpList_nil ?_
  change Code.wp _ _ _ _ _
  refine wp_cond_true (show a0_8.eval (.tmp 33) = .bool true from (fa0_8.at_ 33)) ?_
  refine wp_region_list ?_
  unfold rDA10
  refine fa0_8.move 34 (.slice ao N.length cc) _ (Or.inl rfl) rfl (lb_ I0.size) (wanted_none rfl) ((fa0_8.at_ 5).trans h5) (fun a0_9 fa0_9 => ?_)
  clear fa0_8
  refine fa0_9.move 35 (.slice (some ⟨pb, po, none⟩) n cp) _ (Or.inl rfl) rfl (lb_ I0.size) (wanted_none rfl) ((fa0_9.at_ 0).trans I0.s0) (fun a0_10 fa0_10 => ?_)
  clear fa0_9
  refine fa0_10.move 36 (.int .i64 (i : Int)) _ (Or.inl rfl) rfl (lb_ I0.size) (wanted_none rfl) ((fa0_10.at_ 7).trans h7) (fun a0_11 fa0_11 => ?_)
  clear fa0_10
  have r_a0_12 : (execOp a0_11.eval oYM27).run Try.prog (wr) = .ok (.value (.pointer (some ⟨pb, po + i * 2, none⟩))) (wr) := by
    unfold oYM27
    have e35 := (show a0_11.eval (.tmp 35) = .slice (some ⟨pb, po, none⟩) n cp from (fa0_11.at_ 35))
    have e36 := (show a0_11.eval (.tmp 36) = .int .i64 (i : Int) from (fa0_11.at_ 36))
    clear fa0_11 hQ h5 h7
    generalize a0_11.eval = ρ at *
    go_simp
  refine fa0_11.step 37 (.pointer (some ⟨pb, po + i * 2, none⟩)) rfl (lb_ I0.size) (wanted_none rfl) r_a0_12 (fun a0_12 fa0_12 => ?_)
  clear r_a0_12
  clear fa0_11
  have r_a0_13 : (execOp a0_12.eval oYM28).run Try.prog (wr) = .ok (.value (.agg #[.int .u32 (x.pg : Int), .slice x.na x.ns.length x.nc])) (wr) := by
    unfold oYM28
    have e37 := (show a0_12.eval (.tmp 37) = .pointer (some ⟨pb, po + i * 2, none⟩) from (fa0_12.at_ 37))
    clear fa0_12 hQ h5 h7
    generalize a0_12.eval = ρ at *
    go_simp
  refine fa0_12.step 38 (.agg #[.int .u32 (x.pg : Int), .slice x.na x.ns.length x.nc]) rfl (lb_ I0.size) (wanted_none rfl) r_a0_13 (fun a0_13 fa0_13 => ?_)
  clear r_a0_13
  clear fa0_12
  have r_a0_14 : (execOp a0_13.eval oYM29).run Try.prog (wr) = .ok (.enter 18 #[.agg #[.int .u32 (x.pg : Int), .slice x.na x.ns.length x.nc]]) (wr) := by
    unfold oYM29
    have kf : ∀ f, a0_13.eval (.func f) = .func (.func f) #[] #[] := fun _ => rfl
    have e38 := (show a0_13.eval (.tmp 38) = .agg #[.int .u32 (x.pg : Int), .slice x.na x.ns.length x.nc] from (fa0_13.at_ 38))
    clear fa0_13 hQ h5 h7
    generalize a0_13.eval = ρ at *
    go_simp
  refine fa0_13.call 39 rfl (lb_ I0.size) (wanted_none rfl) r_a0_14 (twin_calls wr hin hxl) (fun e W1 hR => ?_)
  obtain ⟨a1, k1, rfl, o1, s1⟩ := hR
  clear r_a0_14
  refine ⟨_, rfl, fun a0_14 fa0_14 => ?_⟩
  clear fa0_13
  have r_a0_15 : (execOp a0_14.eval oYM30).run Try.prog (W1) = .ok (.value (.slice (some ⟨W1.heap.size, 0, none⟩) 1 1)) (W1.alloc (.cells #[.int .u32 (x.pg : Int), .slice a1 x.ns.length k1] 55)) := by
    unfold oYM30
    have e39 := (show a0_14.eval (.tmp 39) = .agg #[.int .u32 (x.pg : Int), .slice a1 x.ns.length k1] from (fa0_14.at_ 39))
    clear fa0_14 hQ h5 h7
    generalize a0_14.eval = ρ at *
    go_simp
  refine fa0_14.stepW 40 (.slice (some ⟨W1.heap.size, 0, none⟩) 1 1) rfl (lb_ I0.size) (wanted_none rfl) r_a0_15 (fun a0_15 fa0_15 => ?_)
  clear r_a0_15
  obtain ⟨W2, hW2⟩ : ∃ W2, W2 = W1.alloc (.cells #[.int .u32 (x.pg : Int), .slice a1 x.ns.length k1] 55) := ⟨_, rfl⟩
  rw [← hW2]
  have s2 : Same wr W2 := by rw [hW2]; exact s1.trans ((Fr.refl _ W1).alloc _)
  have hh2 : W2.heap[W1.heap.size]? = some (.cells #[.int .u32 (x.pg : Int), .slice a1 x.ns.length k1] 55 (0, 0)) := by rw [hW2]; exact heap_alloc_new W1 _
  have ow : W2.ownsRow (w.heap.size + 1) 55 2 (.slice ao N.length cc) N.length (btCs N) := own_frameB hc.row s2 (fun _ _ f => f)
  obtain ⟨v3, W3, hr3, o3, g3⟩ := run_partBts W2 22 ow (part_two _ _ hh2 rfl rfl) (by show N.length + 1 ≤ _; omega) (by have := lt_of_heap hc.box; have := s2.size; omega)
  obtain ⟨a3, c3, rfl⟩ := own_shape o3
  have o2 : W2.ownsRow wr.heap.size 24 1 (.slice a1 x.ns.length k1) x.ns.length (ncells x.ns) := by rw [hW2]; exact own_frameB o1 ((Fr.refl (fun _ => False) W1).alloc _) (fun _ _ f => f)
  obtain ⟨N3, hc3, hl3⟩ := hc.next s2 o2 g3 o3
  clear fa0_14
  have r_a0_16 : (execOp a0_15.eval oYM31).run Try.prog (W2) = .ok (.value (.slice a3 (N.length + 1) c3)) (W3) := by
    unfold oYM31
    refine exec_append rfl ?_
    rw [(show a0_15.eval (.tmp 34) = .slice ao N.length cc from (fa0_15.at_ 34)), (show a0_15.eval (.tmp 40) = .slice (some ⟨W1.heap.size, 0, none⟩) 1 1 from (fa0_15.at_ 40))]
    exact hr3
  refine fa0_15.stepW 41 (.slice a3 (N.length + 1) c3) rfl (lb_ I0.size) (wanted_none rfl) r_a0_16 (fun a0_16 fa0_16 => ?_)
  clear r_a0_16
  clear fa0_15
  refine fa0_16.move 5 (.slice a3 (N.length + 1) c3) _ (Or.inr rfl) rfl (lb_ I0.size) (wanted_none rfl) (fa0_16.at_ 41) (fun a0_17 fa0_17 => ?_)
  clear fa0_16
  refine wpList_nil ?_
  change Code.wp _ _ _ _ _
  refine wp_region_list ?_
  unfold rDA8
  refine fa0_17.move 28 (.int .i64 (i : Int)) _ (Or.inl rfl) rfl (lb_ I0.size) (wanted_none rfl) ((fa0_17.at_ 7).trans h7) (fun a0_18 fa0_18 => ?_)
  clear fa0_17
  have r_a0_19 : (execOp a0_18.eval oYM23).run Try.prog (W3) = .ok (.value (.int .i64 ((i : Int) + 1))) (W3) := by
    unfold oYM23
    have kc : ∀ v, a0_18.eval (.const v) = v := fun _ => rfl
    have e28 := (show a0_18.eval (.tmp 28) = .int .i64 (i : Int) from (fa0_18.at_ 28))
    clear fa0_18 hQ h5 h7
    generalize a0_18.eval = ρ at *
    go_simp
  refine fa0_18.step 29 (.int .i64 ((i : Int) + 1)) rfl (lb_ I0.size) (wanted_none rfl) r_a0_19 (fun a0_19 fa0_19 => ?_)
  clear r_a0_19
  clear fa0_18
  refine fa0_19.move 7 (.int .i64 ((i : Int) + 1)) _ (Or.inr rfl) rfl (lb_ I0.size) (wanted_none rfl) (fa0_19.at_ 29) (fun a0_20 fa0_20 => ?_)
  clear fa0_19
  refine wpList_nil ?_
  exact hQ a0_20 W3 a3 c3 N3 (I0.keep fa0_20 rfl rfl) (show a0_20.eval (.tmp 7) = .int .i64 ((i : Int) + 1) from (fa0_20.at_ 7)) (by rw [hl3]; exact (show a0_20.eval (.tmp 5) = .slice a3 (N.length + 1) c3 from (fa0_20.at_ 5))) hc3
set_option maxRecDepth 100000 in
set_option maxHeartbeats 1000000 in
theorem da2S {n cp pb po ln lc i cc : Nat} {la ao : Option Addr} {tr : Value} {op pgs : Int} {A N : List Bt} {Q : Exit → Act → World → Prop} (a0 : Act) (w wr : World) (I0 : ID2 w.heap.size (some ⟨pb, po, none⟩) n cp a0) (h7 : a0.eval (.tmp 7) = .int .i64 (i : Int)) (h5 : a0.eval (.tmp 5) = .slice ao N.length cc)
    (hc : DAw w wr (.cells #[tr, .slice la ln lc, .int .i64 op, .int .u32 pgs] 26 (0, 0)) A ao cc N) (hi : i < n) (hn : n ≤ 2000000)  (hop : (i : Int) < op) 
    (hQ : ∀ a, ID2 w.heap.size (some ⟨pb, po, none⟩) n cp a → a.eval (.tmp 7) = .int .i64 ((i : Int) + 1) → a.eval (.tmp 5) = .slice ao N.length cc → Q .normal a wr) : cDA2.wp Try.prog Q a0 wr := by
  have hii : (i : Int) < (n : Int) := by omega
  have w7 : IntKind.i64.wrap ((i : Int) + 1) = (i : Int) + 1 := by rw [IntKind.wrap_i64]; omega
  have hod : decide (op ≤ (i : Int)) = false := decide_eq_false (by omega)
  have fa0_0 := Fe.refl a0
  have c2 : wr.cell? ⟨w.heap.size, 2, none⟩ = some (.int .i64 op) := (cell_of_row _ _ _ _ _ _ hc.box).trans rfl
  unfold cDA2
  refine wp_seq (wp_seq ?_)
  refine wp_region_list ?_
  unfold rDA7
  refine fa0_0.move 24 (.int .i64 (i : Int)) _ (Or.inl rfl) rfl (lb_ I0.size) (wanted_none rfl) ((fa0_0.at_ 7).trans h7) (fun a0_1 fa0_1 => ?_)
  clear fa0_0
  refine fa0_1.move 25 (.slice (some ⟨pb, po, none⟩) n cp) _ (Or.inl rfl) rfl (lb_ I0.size) (wanted_none rfl) ((fa0_1.at_ 0).trans I0.s0) (fun a0_2 fa0_2 => ?_)
  clear fa0_1
  have r_a0_3 : (execOp a0_2.eval oYM21).run Try.prog (wr) = .ok (.value (.int .i64 (n : Int))) (wr) := by
    unfold oYM21
    have e25 := (show a0_2.eval (.tmp 25) = .slice (some ⟨pb, po, none⟩) n cp from (fa0_2.at_ 25))
    clear fa0_2 hQ h5 h7
    generalize a0_2.eval = ρ at *
    go_simp
  refine fa0_2.step 26 (.int .i64 (n : Int)) rfl (lb_ I0.size) (wanted_none rfl) r_a0_3 (fun a0_3 fa0_3 => ?_)
  clear r_a0_3
  clear fa0_2
  have r_a0_4 : (execOp a0_3.eval oYM22).run Try.prog (wr) = .ok (.value (.bool true)) (wr) := by
    unfold oYM22
    have e24 := (show a0_3.eval (.tmp 24) = .int .i64 (i : Int) from (fa0_3.at_ 24))
    have e26 := (show a0_3.eval (.tmp 26) = .int .i64 (n : Int) from (fa0_3.at_ 26))
    clear fa0_3 hQ h5 h7
    generalize a0_3.eval = ρ at *
    go_simp
  refine fa0_3.step 27 (.bool true) rfl (lb_ I0.size) (wanted_none rfl) r_a0_4 (fun a0_4 fa0_4 => ?_)
  clear r_a0_4
  clear fa0_3
  refine wpList_nil ?_
  change Code.wp _ _ _ _ _
  refine wp_cond_true (show a0_4.eval (.tmp 27) = .bool true from (fa0_4.at_ 27)) (wp_skip ?_)
  change Code.wp _ _ _ _ _
  refine wp_seq (wp_block (wp_seq ?_))
  refine wp_region_list ?_
  unfold rDA9
  refine fa0_4.move 30 (.int .i64 (i : Int)) _ (Or.inl rfl) rfl (lb_ I0.size) (wanted_none rfl) ((fa0_4.at_ 7).trans h7) (fun a0_5 fa0_5 => ?_)
  clear fa0_4
  have r_a0_6 : (execOp a0_5.eval oYM24).run Try.prog (wr) = .ok (.value (.pointer (some ⟨w.heap.size, 2, none⟩))) (wr) := by
    unfold oYM24
    have e3 := (show a0_5.eval (.tmp 3) = .pointer (some ⟨w.heap.size, 0, none⟩) from ((fa0_5.at_ 3).trans I0.s3))
    clear fa0_5 hQ h5 h7
    generalize a0_5.eval = ρ at *
    go_simp
  refine fa0_5.step 31 (.pointer (some ⟨w.heap.size, 2, none⟩)) rfl (lb_ I0.size) (wanted_none rfl) r_a0_6 (fun a0_6 fa0_6 => ?_)
  clear r_a0_6
  clear fa0_5
  have r_a0_7 : (execOp a0_6.eval oYM25).run Try.prog (wr) = .ok (.value (.int .i64 op)) (wr) := by
    unfold oYM25
    have e31 := (show a0_6.eval (.tmp 31) = .pointer (some ⟨w.heap.size, 2, none⟩) from (fa0_6.at_ 31))
    clear fa0_6 hQ h5 h7
    generalize a0_6.eval = ρ at *
    go_simp
  refine fa0_6.step 32 (.int .i64 op) rfl (lb_ I0.size) (wanted_none rfl) r_a0_7 (fun a0_7 fa0_7 => ?_)
  clear r_a0_7
  clear fa0_6
  have r_a0_8 : (execOp a0_7.eval oYM26).run Try.prog (wr) = .ok (.value (.bool false)) (wr) := by
    unfold oYM26
    have e30 := (show a0_7.eval (.tmp 30) = .int .i64 (i : Int) from (fa0_7.at_ 30))
    have e32 := (show a0_7.eval (.tmp 32) = .int .i64 op from (fa0_7.at_ 32))
    clear fa0_7 hQ h5 h7
    generalize a0_7.eval = ρ at *
    go_simp
  refine fa0_7.step 33 (.bool false) rfl (lb_ I0.size) (wanted_none rfl) r_a0_8 (fun a0_8 fa0_8 => ?_)
  clear r_a0_8
  clear fa0_7
  refine wpList_nil ?_
  change Code.wp _ _ _ _ _
  refine wp_cond_false (show a0_8.eval (.tmp 33) = .bool false from (fa0_8.at_ 33)) (wp_skip ?_)
  change Code.wp _ _ _ _ _
  refine wp_region_list ?_
  unfold rDA8
  refine fa0_8.move 28 (.int .i64 (i : Int)) _ (Or.inl rfl) rfl (lb_ I0.size) (wanted_none rfl) ((fa0_8.at_ 7).trans h7) (fun a0_9 fa0_9 => ?_)
  clear fa0_8
  have r_a0_10 : (execOp a0_9.eval oYM23).run Try.prog (wr) = .ok (.value (.int .i64 ((i : Int) + 1))) (wr) := by
    unfold oYM23
    have kc : ∀ v, a0_9.eval (.const v) = v := fun _ => rfl
    have e28 := (show a0_9.eval (.tmp 28) = .int .i64 (i : Int) from (fa0_9.at_ 28))
    clear fa0_9 hQ h5 h7
    generalize a0_9.eval = ρ at *
    go_simp
  refine fa0_9.step 29 (.int .i64 ((i : Int) + 1)) rfl (lb_ I0.size) (wanted_none rfl) r_a0_10 (fun a0_10 fa0_10 => ?_)
  clear r_a0_10
  clear fa0_9
  refine fa0_10.move 7 (.int .i64 ((i : Int) + 1)) _ (Or.inr rfl) rfl (lb_ I0.size) (wanted_none rfl) (fa0_10.at_ 29) (fun a0_11 fa0_11 => ?_)
  clear fa0_10
  refine wpList_nil ?_
  exact hQ a0_11 (I0.keep fa0_11 rfl rfl) (show a0_11.eval (.tmp 7) = .int .i64 ((i : Int) + 1) from (fa0_11.at_ 7)) (show a0_11.eval (.tmp 5) = .slice ao N.length cc from ((fa0_11.at_ 5).trans h5))
set_option maxRecDepth 100000 in
theorem da2E {hz n cp i cc nl : Nat} {pa ao : Option Addr} {Q : Exit → Act → World → Prop} (a0 : Act) (wr : World) (I0 : ID2 hz pa n cp a0) (h7 : a0.eval (.tmp 7) = .int .i64 (i : Int)) (h5 : a0.eval (.tmp 5) = .slice ao nl cc) (hi : n ≤ i)
    (hQ : ∀ a, ID2 hz pa n cp a → a.eval (.tmp 5) = .slice ao nl cc → Q (.exit 2) a wr) : cDA2.wp Try.prog Q a0 wr := by
  have hii : ¬ (i : Int) < (n : Int) := by omega
  have hid : decide ((i : Int) < (n : Int)) = false := decide_eq_false hii
  clear hi
  have fa0_0 := Fe.refl a0
  unfold cDA2
  refine wp_seq (wp_seq ?_)
  refine wp_region_list ?_
  unfold rDA7
  refine fa0_0.move 24 (.int .i64 (i : Int)) _ (Or.inl rfl) rfl (lb_ I0.size) (wanted_none rfl) ((fa0_0.at_ 7).trans h7) (fun a0_1 fa0_1 => ?_)
  clear fa0_0
  refine fa0_1.move 25 (.slice pa n cp) _ (Or.inl rfl) rfl (lb_ I0.size) (wanted_none rfl) ((fa0_1.at_ 0).trans I0.s0) (fun a0_2 fa0_2 => ?_)
  clear fa0_1
  have r_a0_3 : (execOp a0_2.eval oYM21).run Try.prog (wr) = .ok (.value (.int .i64 (n : Int))) (wr) := by
    unfold oYM21
    have e25 := (show a0_2.eval (.tmp 25) = .slice pa n cp from (fa0_2.at_ 25))
    clear fa0_2 hQ h5 h7
    generalize a0_2.eval = ρ at *
    go_simp
  refine fa0_2.step 26 (.int .i64 (n : Int)) rfl (lb_ I0.size) (wanted_none rfl) r_a0_3 (fun a0_3 fa0_3 => ?_)
  clear r_a0_3
  clear fa0_2
  have r_a0_4 : (execOp a0_3.eval oYM22).run Try.prog (wr) = .ok (.value (.bool false)) (wr) := by
    unfold oYM22
    have e24 := (show a0_3.eval (.tmp 24) = .int .i64 (i : Int) from (fa0_3.at_ 24))
    have e26 := (show a0_3.eval (.tmp 26) = .int .i64 (n : Int) from (fa0_3.at_ 26))
    clear fa0_3 hQ h5 h7
    generalize a0_3.eval = ρ at *
    go_simp
  refine fa0_3.step 27 (.bool false) rfl (lb_ I0.size) (wanted_none rfl) r_a0_4 (fun a0_4 fa0_4 => ?_)
  clear r_a0_4
  clear fa0_3
  refine wpList_nil ?_
  change Code.wp _ _ _ _ _
  refine wp_cond_false (show a0_4.eval (.tmp 27) = .bool false from (fa0_4.at_ 27)) (wp_exit ?_)
  exact hQ a0_4 (I0.keep fa0_4 rfl rfl) (show a0_4.eval (.tmp 5) = .slice ao nl cc from ((fa0_4.at_ 5).trans h5))
theorem take_drop_next {M : List Bt} {i k : Nat} {x : Bt} (hx : M[i]? = some x) (hk : k ≤ i) : (M.take (i + 1)).drop k = (M.take i).drop k ++ [x] := by
  have hl := (List.getElem?_eq_some_iff.1 hx).1
  rw [List.take_add_one, hx, List.drop_append_of_le_length (by rw [List.length_take]; omega)]
  rfl
theorem take_drop_none {M : List Bt} {i k : Nat} (hk : i ≤ k) : (M.take i).drop k = [] := List.drop_eq_nil_of_le (by rw [List.length_take]; omega)
theorem da2L {n cp pb po ln lc k cc : Nat} {pa la ao : Option Addr} {tr : Value} {op pgs : Int} {M ML N : List Bt} {Q : Exit → Act → World → Prop} (a0 : Act) (w wr : World) (I0 : ID2 w.heap.size pa n cp a0) (h7 : a0.eval (.tmp 7) = .int .i64 ((0 : Nat) : Int)) (h5 : a0.eval (.tmp 5) = .slice ao N.length cc)
    (hc : DAw w wr (.cells #[tr, .slice la ln lc, .int .i64 op, .int .u32 pgs] 26 (0, 0)) ML ao cc N) (hb : BiRow w pa pb po M) (hn : n = M.length) (hwt : wt M ≤ 1048576) (hML : ML.length ≤ 1048576) (hk : (k : Int) = min (max op 0) (n : Int))
    (hQ : ∀ a W a3 c3 N, ID2 w.heap.size pa n cp a → a.eval (.tmp 5) = .slice a3 N.length c3 → DAw w W (.cells #[tr, .slice la ln lc, .int .i64 op, .int .u32 pgs] 26 (0, 0)) (ML ++ M.drop k) a3 c3 N → Q (.exit 2) a W) : (Code.loop cDA2).wp Try.prog Q a0 wr := by
  have hl2 : n ≤ 1048576 := by rw [hn]; exact Nat.le_trans (wt_len M) hwt
  refine wp_loop (fun a W => ID2 w.heap.size pa n cp a ∧ ∃ (i : Nat) (ao : Option Addr) (cc : Nat) (N : List Bt), i ≤ n ∧ a.eval (.tmp 7) = .int .i64 (i : Int) ∧ a.eval (.tmp 5) = .slice ao N.length cc ∧ DAw w W (.cells #[tr, .slice la ln lc, .int .i64 op, .int .u32 pgs] 26 (0, 0)) (ML ++ (M.take i).drop k) ao cc N) (fun a _ => n - kOf a 7) ⟨I0, 0, ao, cc, N, Nat.zero_le _, h7, h5, by rw [List.take_zero, List.drop_nil, List.append_nil]; exact hc⟩ ?_
  rintro a W ⟨I1, i, ao, cc, N, hi, g7, g5, hc1⟩
  have hNl : N.length ≤ ML.length + i := by have := congrArg List.length hc1.key; simp only [List.length_map, List.length_append, List.length_drop, List.length_take] at this; omega
  by_cases hgo : i < n
  · obtain ⟨x, hx⟩ : ∃ x, M[i]? = some x := ⟨_, List.getElem?_eq_getElem (by rw [← hn]; exact hgo)⟩
    have hm := List.mem_of_getElem? hx
    have hxl : x.ns.length ≤ 1048576 := by have := wt_mem hm; omega
    have hb1 := hb.same hc1.same
    obtain ⟨hpa, _⟩ := hb.row.place (by intro e; rw [e] at hx; simp at hx)
    subst hpa
    obtain ⟨e1, e2, _⟩ := hb1.row.cells i x hx
    by_cases hop : op ≤ (i : Int)
    · refine da2R a w W I1 g7 g5 hc1 hgo (by omega) (by omega) hop ⟨e1, e2⟩ (hb1.nin x hm) hxl (fun a' W3 a3 c3 N3 i3 h1 h2 h3 => ?_)
      have h4 : a'.eval (.tmp 7) = .int .i64 ((i + 1 : Nat) : Int) := h1
      refine ⟨⟨i3, i + 1, a3, c3, N3, hgo, h4, h2, ?_⟩, ?_⟩
      · rw [take_drop_next hx (by omega), ← List.append_assoc]; exact h3
      · show n - kOf a' 7 < n - kOf a 7
        rw [kOf_eq h4, kOf_eq g7]
        omega
    · refine da2S a w W I1 g7 g5 hc1 hgo (by omega) (by omega) (fun a' i3 h1 h2 => ?_)
      have h4 : a'.eval (.tmp 7) = .int .i64 ((i + 1 : Nat) : Int) := h1
      refine ⟨⟨i3, i + 1, ao, cc, N, hgo, h4, h2, ?_⟩, ?_⟩
      · rw [take_drop_none (by omega)]
        rw [take_drop_none (by omega)] at hc1
        exact hc1
      · show n - kOf a' 7 < n - kOf a 7
        rw [kOf_eq h4, kOf_eq g7]
        omega
  · obtain rfl : i = n := by omega
    refine da2E a W I1 g7 g5 (Nat.le_refl _) (fun a' i2 h2 => hQ a' W ao cc N i2 h2 ?_)
    rw [hn, List.take_length] at hc1
    exact hc1
/-- A chain that the document's After answered. -/
structure WntAt (w W : World) (ao : Option Addr) (cc : Nat) (N : List Bt) : Prop where
  row : W.ownsRow w.heap.size 55 2 (.slice ao N.length cc) N.length (btCs N)
  new_ : ∀ x ∈ N, NewX w W x
set_option maxRecDepth 100000 in
set_option maxHeartbeats 1000000 in
theorem dafter_calls {n cp pb po lb lo ln lc k : Nat} {pa la : Option Addr} {tr : Value} {op pgs : Int} {M ML : List Bt} (w : World) (hM : BiRow w pa pb po M) (hML : BiRow w la lb lo ML) (hn : n = M.length) (hln : ln = ML.length) (hk : (k : Int) = min (max op 0) (n : Int)) (hwt : wt M + wt ML ≤ 1048576) :
    Calls Try.prog 5 #[.slice pa n cp, .agg #[tr, .slice la ln lc, .int .i64 op, .int .u32 pgs]] w fun e w' => ∃ ao cc N, e = .returned (.slice ao N.length cc) ∧ WntAt w w' ao cc N ∧ N.map Bt.key = (ML ++ M.drop k).map Bt.key ∧ Same w w' := by
  refine calls_abs (c := cDA) Try.func5 (by kernel_rfl) 43 rfl (by simp) (fun a0 hsz hd ha => ?_)
  have fa0_0 := Fe.refl a0
  unfold cDA
  refine wp_seq ?_
  refine wp_region_list ?_
  unfold rDA0
  have r_a0_1 : (execOp a0.eval oYM8).run Try.prog (w) = .ok (.value (.pointer (some ⟨w.heap.size, 0, none⟩))) (w.alloc (.cells #[tr, .slice la ln lc, .int .i64 op, .int .u32 pgs] 26)) := by
    unfold oYM8
    have e1 := (show a0.eval (.tmp 1) = .agg #[tr, .slice la ln lc, .int .i64 op, .int .u32 pgs] from ((fa0_0.at_ 1).trans (ha 1 _ rfl)))
    clear fa0_0 ha
    generalize a0.eval = ρ at *
    go_simp
  refine fa0_0.stepW 3 (.pointer (some ⟨w.heap.size, 0, none⟩)) rfl (lb_ hsz) (wanted_none rfl) r_a0_1 (fun a0_1 fa0_1 => ?_)
  clear r_a0_1
  clear fa0_0
  refine fa0_1.move 4 (.slice none 0 0) _ (Or.inr rfl) rfl (lb_ hsz) (wanted_none rfl) rfl (fun a0_2 fa0_2 => ?_)
  clear fa0_1
  refine wpList_nil ?_
  obtain ⟨V, hV⟩ : ∃ V, V = w.alloc (.cells #[tr, .slice la ln lc, .int .i64 op, .int .u32 pgs] 26) := ⟨_, rfl⟩
  rw [← hV]
  have hc0 : DAw w V (.cells #[tr, .slice la ln lc, .int .i64 op, .int .u32 pgs] 26 (0, 0)) [] none 0 [] := ⟨by rw [hV]; exact (Fr.refl _ w).alloc _, by rw [hV]; exact heap_alloc_new w _, own_nil, rfl, fun x hx => (by cases hx)⟩
  change Code.wp _ _ _ _ _
  refine wp_seq ?_
  refine wp_region_list ?_
  unfold rDA1
  refine fa0_2.move 5 (.slice none 0 0) _ (Or.inr rfl) rfl (lb_ hsz) (wanted_none rfl) rfl (fun a0_3 fa0_3 => ?_)
  clear fa0_2
  refine wpList_nil ?_
  change Code.wp _ _ _ _ _
  refine wp_seq (wp_seq ?_)
  refine wp_region_list ?_
  unfold rDA2
  refine fa0_3.move 6 (.int .i64 ((0 : Nat) : Int)) _ (Or.inr rfl) rfl (lb_ hsz) (wanted_none rfl) rfl (fun a0_4 fa0_4 => ?_)
  clear fa0_3
  refine wpList_nil ?_
  change Code.wp _ _ _ _ _
  refine wp_block ?_
  refine da1L a0_4 w V ⟨fa0_4.size.trans hsz, fa0_4.defers.trans hd, (show a0_4.eval (.tmp 0) = .slice pa n cp from ((fa0_4.at_ 0).trans (ha 0 _ rfl))), (show a0_4.eval (.tmp 3) = .pointer (some ⟨w.heap.size, 0, none⟩) from (fa0_4.at_ 3))⟩ (show a0_4.eval (.tmp 6) = .int .i64 ((0 : Nat) : Int) from (fa0_4.at_ 6)) (show a0_4.eval (.tmp 5) = .slice none 0 0 from (fa0_4.at_ 5)) hc0 hML hln (by omega) (fun b W a3 c3 N i1 b5 hc => ?_)
  change Code.wp _ _ _ _ _
  refine wp_seq (wp_seq ?_)
  have fb_0 := Fe.refl b
  refine wp_region_list ?_
  unfold rDA6
  refine fb_0.move 7 (.int .i64 ((0 : Nat) : Int)) _ (Or.inr rfl) rfl (lb_ i1.size) (wanted_none rfl) rfl (fun b_1 fb_1 => ?_)
  clear fb_0
  refine wpList_nil ?_
  change Code.wp _ _ _ _ _
  refine wp_block ?_
  refine da2L b_1 w W (i1.keep fb_1 rfl rfl) (show b_1.eval (.tmp 7) = .int .i64 ((0 : Nat) : Int) from (fb_1.at_ 7)) (show b_1.eval (.tmp 5) = .slice a3 N.length c3 from ((fb_1.at_ 5).trans b5)) hc hM hn (by omega) (Nat.le_trans (wt_len ML) (by omega)) hk (fun d W4 a4 c4 N4 i2 d5 hc4 => ?_)
  change Code.wp _ _ _ _ _
  refine wp_seq ?_
  have fd_0 := Fe.refl d
  refine wp_region_list ?_
  unfold rDA11
  refine fd_0.move 42 (.slice a4 N4.length c4) _ (Or.inl rfl) rfl (lb_ i2.size) (wanted_none rfl) ((fd_0.at_ 5).trans d5) (fun d_1 fd_1 => ?_)
  clear fd_0
  refine fd_1.move 4 (.slice a4 N4.length c4) _ (Or.inr rfl) rfl (lb_ i2.size) (wanted_none rfl) (fd_1.at_ 42) (fun d_2 fd_2 => ?_)
  clear fd_1
  refine wpList_nil ?_
  change Code.wp _ _ _ _ _
  refine wp_ret ?_
  exact ret_abs rfl (fd_2.defers.trans i2.defers) (show d_2.eval (.tmp 4) = .slice a4 N4.length c4 from (fd_2.at_ 4)) ⟨a4, c4, N4, rfl, ⟨own_base hc4.row (Nat.le_succ _), hc4.new_⟩, hc4.key, hc4.same⟩
end Go.Proofs.Ytneopkhkkfckcaa
