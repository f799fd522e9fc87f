/- apart: lists and chains are marked. -/
import Derived.Test.YtneopkhkkfckcaaZA
namespace Go.Proofs.Ytneopkhkkfckcaa
open Go.RowKit Go.Maps

abbrev fU : Fam := { e := 24, sz := 1, mrk := fun a => [.int .u32 (a : Int)], len := fun _ => rfl, one := fun a v hv => by simp only [List.mem_singleton] at hv; subst hv; rfl, pos := by decide }
abbrev fB : Fam := { e := 55, sz := 2, mrk := fun a => [.int .u32 (a : Int), .slice none 0 0], len := fun _ => rfl, one := fun a v hv => by simp only [List.mem_cons, List.not_mem_nil, or_false] at hv; rcases hv with rfl | rfl <;> rfl, pos := by decide }
theorem exec_storeF {P : Program} {ρ : Operand → Value} {o : Oper} {x y : Operand} {ty : TypeId} {w w' : World} (ho : o.op = .store ty x y) (h : (Instr.storeAt ty (ρ x) (ρ y)).run P w = .ok () w') : (execOp ρ o).run P w = .ok .skip w' := by
  unfold execOp
  simp only [ho, Sem.run_bind, Sem.run_pure, Result.andThen_ok, h]
/-- The frame while lists and chains are marked. -/
structure IX (v0 v1 : Value) (a : Act) : Prop where
  size : a.tmps.size = 262
  defers : a.defers = []
  s0 : a.eval (.tmp 0) = v0
  s1 : a.eval (.tmp 1) = v1
theorem IX.keep {v0 v1 : Value} {a0 a : Act} {env : List (Nat × Value)} (h : IX v0 v1 a0) (f : Fe a0 env a) (h0 : look env 0 (a0.eval (.tmp 0)) = a0.eval (.tmp 0)) (h1 : look env 1 (a0.eval (.tmp 1)) = a0.eval (.tmp 1)) : IX v0 v1 a :=
  ⟨f.size.trans h.size, f.defers.trans h.defers, ((f.at_ 0).trans h0).trans h.s0, ((f.at_ 1).trans h1).trans h.s1⟩
def oZB0 : Oper := { dst := some 23, op := Op.call { callee := Callee.builtin Builtin.len, args := #[Operand.tmp 22], argTypes := #[32] }, type := 3, pos := "memory.go:86", after := #[{ on := 1, ground := Ground.data }], guard := none }
def oZB1 : Oper := { dst := some 24, op := Op.binOp BinOp.lss 3 (Operand.tmp 21) (Operand.tmp 23) 3, type := 4, pos := "memory.go:86", after := #[{ on := 0, ground := Ground.data }, { on := 2, ground := Ground.data }], guard := none }
def oZB2 : Oper := { dst := some 26, op := Op.binOp BinOp.add 3 (Operand.tmp 25) (Operand.const (Value.int IntKind.i64 1)) 3, type := 3, pos := "memory.go:86", after := #[{ on := 0, ground := Ground.data }], guard := none }
def oZB3 : Oper := { dst := some 30, op := Op.indexAddr 32 (Operand.tmp 28) (Operand.tmp 29), type := 0, pos := "memory.go:87", after := #[{ on := 1, ground := Ground.data }, { on := 2, ground := Ground.data }], guard := none }
def oZB4 : Oper := { dst := some 31, op := Op.load 23 (Operand.tmp 30), type := 23, pos := "memory.go:87", after := #[{ on := 3, ground := Ground.data }], guard := none }
def oZB5 : Oper := { dst := some 32, op := Op.call { callee := Callee.builtin Builtin.len, args := #[Operand.tmp 31], argTypes := #[23] }, type := 3, pos := "memory.go:87", after := #[{ on := 4, ground := Ground.data }], guard := none }
def oZB6 : Oper := { dst := some 33, op := Op.binOp BinOp.lss 3 (Operand.tmp 27) (Operand.tmp 32) 3, type := 4, pos := "memory.go:87", after := #[{ on := 0, ground := Ground.data }, { on := 5, ground := Ground.data }], guard := none }
def oZB7 : Oper := { dst := some 35, op := Op.binOp BinOp.add 3 (Operand.tmp 34) (Operand.const (Value.int IntKind.i64 1)) 3, type := 3, pos := "memory.go:87", after := #[{ on := 0, ground := Ground.data }], guard := none }
def oZB8 : Oper := { dst := some 38, op := Op.indexAddr 32 (Operand.tmp 36) (Operand.tmp 37), type := 0, pos := "memory.go:88", after := #[{ on := 0, ground := Ground.data }, { on := 1, ground := Ground.data }], guard := none }
def oZB9 : Oper := { dst := some 39, op := Op.load 23 (Operand.tmp 38), type := 23, pos := "memory.go:88", after := #[{ on := 2, ground := Ground.data }], guard := none }
def oZB10 : Oper := { dst := some 42, op := Op.binOp BinOp.add 3 (Operand.const (Value.int IntKind.i64 100000)) (Operand.tmp 41) 3, type := 3, pos := "memory.go:88", after := #[{ on := 5, ground := Ground.data }], guard := none }
def oZB11 : Oper := { dst := some 43, op := Op.convert 3 24 (Operand.tmp 42), type := 24, pos := "memory.go:88", after := #[{ on := 6, ground := Ground.data }], guard := none }
def oZB12 : Oper := { dst := some 44, op := Op.indexAddr 23 (Operand.tmp 39) (Operand.tmp 40), type := 0, pos := "memory.go:88", after := #[{ on := 3, ground := Ground.data }, { on := 4, ground := Ground.data }, { on := 0, ground := Ground.phase }, { on := 1, ground := Ground.phase }, { on := 2, ground := Ground.phase }, { on := 3, ground := Ground.phase }, { on := 4, ground := Ground.phase }, { on := 5, ground := Ground.phase }, { on := 6, ground := Ground.phase }, { on := 7, ground := Ground.phase }], guard := none }
def oZB13 : Oper := { dst := none, op := Op.store 24 (Operand.tmp 44) (Operand.tmp 43), type := 0, pos := "memory.go:88", after := #[{ on := 8, ground := Ground.data }, { on := 7, ground := Ground.data }, { on := 0, ground := Ground.phase }, { on := 1, ground := Ground.phase }, { on := 2, ground := Ground.phase }, { on := 3, ground := Ground.phase }, { on := 4, ground := Ground.phase }, { on := 5, ground := Ground.phase }, { on := 6, ground := Ground.phase }, { on := 7, ground := Ground.phase }], guard := none }
def oZB14 : Oper := { dst := some 47, op := Op.call { callee := Callee.builtin Builtin.len, args := #[Operand.tmp 46], argTypes := #[34] }, type := 3, pos := "memory.go:91", after := #[{ on := 1, ground := Ground.data }], guard := none }
def oZB15 : Oper := { dst := some 48, op := Op.binOp BinOp.lss 3 (Operand.tmp 45) (Operand.tmp 47) 3, type := 4, pos := "memory.go:91", after := #[{ on := 0, ground := Ground.data }, { on := 2, ground := Ground.data }], guard := none }
def oZB16 : Oper := { dst := some 50, op := Op.binOp BinOp.add 3 (Operand.tmp 49) (Operand.const (Value.int IntKind.i64 1)) 3, type := 3, pos := "memory.go:91", after := #[{ on := 0, ground := Ground.data }], guard := none }
def oZB17 : Oper := { dst := some 54, op := Op.indexAddr 34 (Operand.tmp 52) (Operand.tmp 53), type := 0, pos := "memory.go:92", after := #[{ on := 1, ground := Ground.data }, { on := 2, ground := Ground.data }], guard := none }
def oZB18 : Oper := { dst := some 55, op := Op.load 22 (Operand.tmp 54), type := 22, pos := "memory.go:92", after := #[{ on := 3, ground := Ground.data }], guard := none }
def oZB19 : Oper := { dst := some 56, op := Op.call { callee := Callee.builtin Builtin.len, args := #[Operand.tmp 55], argTypes := #[22] }, type := 3, pos := "memory.go:92", after := #[{ on := 4, ground := Ground.data }], guard := none }
def oZB20 : Oper := { dst := some 57, op := Op.binOp BinOp.lss 3 (Operand.tmp 51) (Operand.tmp 56) 3, type := 4, pos := "memory.go:92", after := #[{ on := 0, ground := Ground.data }, { on := 5, ground := Ground.data }], guard := none }
def oZB21 : Oper := { dst := some 59, op := Op.binOp BinOp.add 3 (Operand.tmp 58) (Operand.const (Value.int IntKind.i64 1)) 3, type := 3, pos := "memory.go:92", after := #[{ on := 0, ground := Ground.data }], guard := none }
def oZB22 : Oper := { dst := some 62, op := Op.indexAddr 34 (Operand.tmp 60) (Operand.tmp 61), type := 0, pos := "memory.go:93", after := #[{ on := 0, ground := Ground.data }, { on := 1, ground := Ground.data }], guard := none }
def oZB23 : Oper := { dst := some 63, op := Op.load 22 (Operand.tmp 62), type := 22, pos := "memory.go:93", after := #[{ on := 2, ground := Ground.data }], guard := none }
def oZB24 : Oper := { dst := some 66, op := Op.binOp BinOp.add 3 (Operand.const (Value.int IntKind.i64 200000)) (Operand.tmp 65) 3, type := 3, pos := "memory.go:93", after := #[{ on := 5, ground := Ground.data }], guard := none }
def oZB25 : Oper := { dst := some 67, op := Op.convert 3 24 (Operand.tmp 66), type := 24, pos := "memory.go:93", after := #[{ on := 6, ground := Ground.data }], guard := none }
def oZB26 : Oper := { dst := some 68, op := Op.build 55 #[(0, Operand.tmp 67)], type := 55, pos := "memory.go:93", after := #[{ on := 7, ground := Ground.data }], guard := none }
def oZB27 : Oper := { dst := some 69, op := Op.indexAddr 22 (Operand.tmp 63) (Operand.tmp 64), type := 0, pos := "memory.go:93", after := #[{ on := 3, ground := Ground.data }, { on := 4, ground := Ground.data }, { on := 0, ground := Ground.phase }, { on := 1, ground := Ground.phase }, { on := 2, ground := Ground.phase }, { on := 3, ground := Ground.phase }, { on := 4, ground := Ground.phase }, { on := 5, ground := Ground.phase }, { on := 6, ground := Ground.phase }, { on := 7, ground := Ground.phase }, { on := 8, ground := Ground.phase }], guard := none }
def oZB28 : Oper := { dst := none, op := Op.store 55 (Operand.tmp 69) (Operand.tmp 68), type := 0, pos := "memory.go:93", after := #[{ on := 9, ground := Ground.data }, { on := 8, ground := Ground.data }, { on := 0, ground := Ground.phase }, { on := 1, ground := Ground.phase }, { on := 2, ground := Ground.phase }, { on := 3, ground := Ground.phase }, { on := 4, ground := Ground.phase }, { on := 5, ground := Ground.phase }, { on := 6, ground := Ground.phase }, { on := 7, ground := Ground.phase }, { on := 8, ground := Ground.phase }], guard := none }
def rAP2 : Array Oper := #[{ dst := some 21, op := Op.move (Operand.tmp 5), type := 3, pos := "memory.go:86", after := #[], guard := none },
  { dst := some 22, op := Op.move (Operand.tmp 0), type := 32, pos := "memory.go:86", after := #[], guard := none },
  oZB0,
  oZB1]
def rAP3 : Array Oper := #[{ dst := some 25, op := Op.move (Operand.tmp 5), type := 3, pos := "memory.go:86", after := #[], guard := none },
  oZB2,
  { dst := some 5, op := Op.assign (Operand.tmp 26), type := 3, pos := "memory.go:86", after := #[{ on := 1, ground := Ground.data }, { on := 0, ground := Ground.phase }, { on := 1, ground := Ground.phase }], guard := none }]
def rAP4 : Array Oper := #[{ dst := some 6, op := Op.assign (Operand.const (Value.int IntKind.i64 0)), type := 3, pos := "memory.go:87", after := #[], guard := none }]
def rAP5 : Array Oper := #[{ dst := some 27, op := Op.move (Operand.tmp 6), type := 3, pos := "memory.go:87", after := #[], guard := none },
  { dst := some 28, op := Op.move (Operand.tmp 0), type := 32, pos := "memory.go:87", after := #[], guard := none },
  { dst := some 29, op := Op.move (Operand.tmp 5), type := 3, pos := "memory.go:87", after := #[], guard := none },
  oZB3,
  oZB4,
  oZB5,
  oZB6]
def rAP6 : Array Oper := #[{ dst := some 34, op := Op.move (Operand.tmp 6), type := 3, pos := "memory.go:87", after := #[], guard := none },
  oZB7,
  { dst := some 6, op := Op.assign (Operand.tmp 35), type := 3, pos := "memory.go:87", after := #[{ on := 1, ground := Ground.data }, { on := 0, ground := Ground.phase }, { on := 1, ground := Ground.phase }], guard := none }]
def rAP7 : Array Oper := #[{ dst := some 36, op := Op.move (Operand.tmp 0), type := 32, pos := "memory.go:88", after := #[], guard := none },
  { dst := some 37, op := Op.move (Operand.tmp 5), type := 3, pos := "memory.go:88", after := #[], guard := none },
  oZB8,
  oZB9,
  { dst := some 40, op := Op.move (Operand.tmp 6), type := 3, pos := "memory.go:88", after := #[], guard := none },
  { dst := some 41, op := Op.move (Operand.tmp 5), type := 3, pos := "memory.go:88", after := #[], guard := none },
  oZB10,
  oZB11,
  oZB12,
  oZB13]
def rAP9 : Array Oper := #[{ dst := some 45, op := Op.move (Operand.tmp 7), type := 3, pos := "memory.go:91", after := #[], guard := none },
  { dst := some 46, op := Op.move (Operand.tmp 1), type := 34, pos := "memory.go:91", after := #[], guard := none },
  oZB14,
  oZB15]
def rAP10 : Array Oper := #[{ dst := some 49, op := Op.move (Operand.tmp 7), type := 3, pos := "memory.go:91", after := #[], guard := none },
  oZB16,
  { dst := some 7, op := Op.assign (Operand.tmp 50), type := 3, pos := "memory.go:91", after := #[{ on := 1, ground := Ground.data }, { on := 0, ground := Ground.phase }, { on := 1, ground := Ground.phase }], guard := none }]
def rAP11 : Array Oper := #[{ dst := some 8, op := Op.assign (Operand.const (Value.int IntKind.i64 0)), type := 3, pos := "memory.go:92", after := #[], guard := none }]
def rAP12 : Array Oper := #[{ dst := some 51, op := Op.move (Operand.tmp 8), type := 3, pos := "memory.go:92", after := #[], guard := none },
  { dst := some 52, op := Op.move (Operand.tmp 1), type := 34, pos := "memory.go:92", after := #[], guard := none },
  { dst := some 53, op := Op.move (Operand.tmp 7), type := 3, pos := "memory.go:92", after := #[], guard := none },
  oZB17,
  oZB18,
  oZB19,
  oZB20]
def rAP13 : Array Oper := #[{ dst := some 58, op := Op.move (Operand.tmp 8), type := 3, pos := "memory.go:92", after := #[], guard := none },
  oZB21,
  { dst := some 8, op := Op.assign (Operand.tmp 59), type := 3, pos := "memory.go:92", after := #[{ on := 1, ground := Ground.data }, { on := 0, ground := Ground.phase }, { on := 1, ground := Ground.phase }], guard := none }]
def rAP14 : Array Oper := #[{ dst := some 60, op := Op.move (Operand.tmp 1), type := 34, pos := "memory.go:93", after := #[], guard := none },
  { dst := some 61, op := Op.move (Operand.tmp 7), type := 3, pos := "memory.go:93", after := #[], guard := none },
  oZB22,
  oZB23,
  { dst := some 64, op := Op.move (Operand.tmp 8), type := 3, pos := "memory.go:93", after := #[], guard := none },
  { dst := some 65, op := Op.move (Operand.tmp 7), type := 3, pos := "memory.go:93", after := #[], guard := none },
  oZB24,
  oZB25,
  oZB26,
  oZB27,
  oZB28]
def cMU2 : Code := (Code.seq (Code.seq (Code.region 5 rAP5 false) (Code.cond (Operand.tmp 33) Code.skip (Code.exit 2))) (Code.seq (Code.block 3 (Code.region 7 rAP7 false)) (Code.region 6 rAP6 false)))
def cMU1 : Code := (Code.seq (Code.seq (Code.region 2 rAP2 false) (Code.cond (Operand.tmp 24) Code.skip (Code.exit 0))) (Code.seq (Code.block 1 (Code.seq (Code.region 4 rAP4 false) (Code.block 2 (Code.loop cMU2)))) (Code.region 3 rAP3 false)))
set_option maxRecDepth 100000 in
set_option maxHeartbeats 1000000 in
theorem mUR {v1 : Value} {lb lo n lc g xn xc i k b : Nat} {Q : Exit → Act → World → Prop} (a0 : Act) (wr : World) (I0 : IX (.slice (some ⟨lb, lo, none⟩) n lc) v1 a0) (h5 : a0.eval (.tmp 5) = .int .i64 (i : Int)) (h6 : a0.eval (.tmp 6) = .int .i64 (k : Int))
    (hi : i < n) (hn : n ≤ 4000000) (hb : b = 100000 + i) (hk : k < xn) (hx : xn ≤ 1099511627000) (c1 : wr.cell? ⟨lb, lo + i, none⟩ = some (.slice (some ⟨g, 0, none⟩) xn xc)) (hth : wr.there g (k * 1) 1)
    (hQ : ∀ a, IX (.slice (some ⟨lb, lo, none⟩) n lc) v1 a → a.eval (.tmp 5) = .int .i64 (i : Int) → a.eval (.tmp 6) = .int .i64 ((k : Int) + 1) → Q .normal a (wr.setCells g (k * 1) [.int .u32 (b : Int)])) : cMU2.wp Try.prog Q a0 wr := by
  have hii : (i : Int) < (n : Int) := by omega
  have hki : (k : Int) < (xn : Int) := by omega
  have w3 : RowKit.wrap64 (100000 + (i : Int)) = (b : Int) := by unfold RowKit.wrap64; omega
  have w4 : IntKind.u32.wrap (b : Int) = (b : Int) := by rw [IntKind.wrap_u32]; omega
  have w5 : IntKind.i64.wrap (100000 + (i : Int)) = (b : Int) := by rw [IntKind.wrap_i64]; omega
  have w7 : IntKind.i64.wrap ((k : Int) + 1) = (k : Int) + 1 := by rw [IntKind.wrap_i64]; omega
  clear hb
  have fa0_0 := Fe.refl a0
  unfold cMU2
  refine wp_seq (wp_seq ?_)
  refine wp_region_list ?_
  unfold rAP5
  refine fa0_0.move 27 (.int .i64 (k : Int)) _ (Or.inl rfl) rfl (lb_ I0.size) (wanted_none rfl) ((fa0_0.at_ 6).trans h6) (fun a0_1 fa0_1 => ?_)
  clear fa0_0
  refine fa0_1.move 28 (.slice (some ⟨lb, lo, none⟩) n lc) _ (Or.inl rfl) rfl (lb_ I0.size) (wanted_none rfl) ((fa0_1.at_ 0).trans I0.s0) (fun a0_2 fa0_2 => ?_)
  clear fa0_1
  refine fa0_2.move 29 (.int .i64 (i : Int)) _ (Or.inl rfl) rfl (lb_ I0.size) (wanted_none rfl) ((fa0_2.at_ 5).trans h5) (fun a0_3 fa0_3 => ?_)
  clear fa0_2
  have r_a0_4 : (execOp a0_3.eval oZB3).run Try.prog (wr) = .ok (.value (.pointer (some ⟨lb, lo + i, none⟩))) (wr) := by
    unfold oZB3
    have e28 := (show a0_3.eval (.tmp 28) = .slice (some ⟨lb, lo, none⟩) n lc from (fa0_3.at_ 28))
    have e29 := (show a0_3.eval (.tmp 29) = .int .i64 (i : Int) from (fa0_3.at_ 29))
    clear fa0_3 hQ h5 h6
    generalize a0_3.eval = ρ at *
    go_simp
  refine fa0_3.step 30 (.pointer (some ⟨lb, lo + i, none⟩)) rfl (lb_ I0.size) (wanted_none rfl) r_a0_4 (fun a0_4 fa0_4 => ?_)
  clear r_a0_4
  clear fa0_3
  have r_a0_5 : (execOp a0_4.eval oZB4).run Try.prog (wr) = .ok (.value (.slice (some ⟨g, 0, none⟩) xn xc)) (wr) := by
    unfold oZB4
    have e30 := (show a0_4.eval (.tmp 30) = .pointer (some ⟨lb, lo + i, none⟩) from (fa0_4.at_ 30))
    clear fa0_4 hQ h5 h6
    generalize a0_4.eval = ρ at *
    go_simp
  refine fa0_4.step 31 (.slice (some ⟨g, 0, none⟩) xn xc) rfl (lb_ I0.size) (wanted_none rfl) r_a0_5 (fun a0_5 fa0_5 => ?_)
  clear r_a0_5
  clear fa0_4
  have r_a0_6 : (execOp a0_5.eval oZB5).run Try.prog (wr) = .ok (.value (.int .i64 (xn : Int))) (wr) := by
    unfold oZB5
    have e31 := (show a0_5.eval (.tmp 31) = .slice (some ⟨g, 0, none⟩) xn xc from (fa0_5.at_ 31))
    clear fa0_5 hQ h5 h6
    generalize a0_5.eval = ρ at *
    go_simp
  refine fa0_5.step 32 (.int .i64 (xn : Int)) rfl (lb_ I0.size) (wanted_none rfl) r_a0_6 (fun a0_6 fa0_6 => ?_)
  clear r_a0_6
  clear fa0_5
  have r_a0_7 : (execOp a0_6.eval oZB6).run Try.prog (wr) = .ok (.value (.bool true)) (wr) := by
    unfold oZB6
    have e27 := (show a0_6.eval (.tmp 27) = .int .i64 (k : Int) from (fa0_6.at_ 27))
    have e32 := (show a0_6.eval (.tmp 32) = .int .i64 (xn : Int) from (fa0_6.at_ 32))
    clear fa0_6 hQ h5 h6
    generalize a0_6.eval = ρ at *
    go_simp
  refine fa0_6.step 33 (.bool true) rfl (lb_ I0.size) (wanted_none rfl) r_a0_7 (fun a0_7 fa0_7 => ?_)
  clear r_a0_7
  clear fa0_6
  refine wpList_nil ?_
  change Code.wp _ _ _ _ _
  refine wp_cond_true (show a0_7.eval (.tmp 33) = .bool true from (fa0_7.at_ 33)) (wp_skip ?_)
  change Code.wp _ _ _ _ _
  refine wp_seq (wp_block ?_)
  obtain ⟨y, c2⟩ := Option.isSome_iff_exists.1 (hth 0 (by decide)).1
  have hfz := (hth 0 (by decide)).2
  rw [Nat.mul_one, Nat.add_zero] at c2 hfz
  refine wp_region_list ?_
  unfold rAP7
  refine fa0_7.move 36 (.slice (some ⟨lb, lo, none⟩) n lc) _ (Or.inl rfl) rfl (lb_ I0.size) (wanted_none rfl) ((fa0_7.at_ 0).trans I0.s0) (fun a0_8 fa0_8 => ?_)
  clear fa0_7
  refine fa0_8.move 37 (.int .i64 (i : Int)) _ (Or.inl rfl) rfl (lb_ I0.size) (wanted_none rfl) ((fa0_8.at_ 5).trans h5) (fun a0_9 fa0_9 => ?_)
  clear fa0_8
  have r_a0_10 : (execOp a0_9.eval oZB8).run Try.prog (wr) = .ok (.value (.pointer (some ⟨lb, lo + i, none⟩))) (wr) := by
    unfold oZB8
    have e36 := (show a0_9.eval (.tmp 36) = .slice (some ⟨lb, lo, none⟩) n lc from (fa0_9.at_ 36))
    have e37 := (show a0_9.eval (.tmp 37) = .int .i64 (i : Int) from (fa0_9.at_ 37))
    clear fa0_9 hQ h5 h6
    generalize a0_9.eval = ρ at *
    go_simp
  refine fa0_9.step 38 (.pointer (some ⟨lb, lo + i, none⟩)) rfl (lb_ I0.size) (wanted_none rfl) r_a0_10 (fun a0_10 fa0_10 => ?_)
  clear r_a0_10
  clear fa0_9
  have r_a0_11 : (execOp a0_10.eval oZB9).run Try.prog (wr) = .ok (.value (.slice (some ⟨g, 0, none⟩) xn xc)) (wr) := by
    unfold oZB9
    have e38 := (show a0_10.eval (.tmp 38) = .pointer (some ⟨lb, lo + i, none⟩) from (fa0_10.at_ 38))
    clear fa0_10 hQ h5 h6
    generalize a0_10.eval = ρ at *
    go_simp
  refine fa0_10.step 39 (.slice (some ⟨g, 0, none⟩) xn xc) rfl (lb_ I0.size) (wanted_none rfl) r_a0_11 (fun a0_11 fa0_11 => ?_)
  clear r_a0_11
  clear fa0_10
  refine fa0_11.move 40 (.int .i64 (k : Int)) _ (Or.inl rfl) rfl (lb_ I0.size) (wanted_none rfl) ((fa0_11.at_ 6).trans h6) (fun a0_12 fa0_12 => ?_)
  clear fa0_11
  refine fa0_12.move 41 (.int .i64 (i : Int)) _ (Or.inl rfl) rfl (lb_ I0.size) (wanted_none rfl) ((fa0_12.at_ 5).trans h5) (fun a0_13 fa0_13 => ?_)
  clear fa0_12
  have r_a0_14 : (execOp a0_13.eval oZB10).run Try.prog (wr) = .ok (.value (.int .i64 (b : Int))) (wr) := by
    unfold oZB10
    have kc : ∀ v, a0_13.eval (.const v) = v := fun _ => rfl
    have e41 := (show a0_13.eval (.tmp 41) = .int .i64 (i : Int) from (fa0_13.at_ 41))
    clear fa0_13 hQ h5 h6
    generalize a0_13.eval = ρ at *
    go_simp
  refine fa0_13.step 42 (.int .i64 (b : Int)) rfl (lb_ I0.size) (wanted_none rfl) r_a0_14 (fun a0_14 fa0_14 => ?_)
  clear r_a0_14
  clear fa0_13
  have r_a0_15 : (execOp a0_14.eval oZB11).run Try.prog (wr) = .ok (.value (.int .u32 (b : Int))) (wr) := by
    unfold oZB11
    have e42 := (show a0_14.eval (.tmp 42) = .int .i64 (b : Int) from (fa0_14.at_ 42))
    clear fa0_14 hQ h5 h6
    generalize a0_14.eval = ρ at *
    go_simp
  refine fa0_14.step 43 (.int .u32 (b : Int)) rfl (lb_ I0.size) (wanted_none rfl) r_a0_15 (fun a0_15 fa0_15 => ?_)
  clear r_a0_15
  clear fa0_14
  have r_a0_16 : (execOp a0_15.eval oZB12).run Try.prog (wr) = .ok (.value (.pointer (some ⟨g, k, none⟩))) (wr) := by
    unfold oZB12
    have e39 := (show a0_15.eval (.tmp 39) = .slice (some ⟨g, 0, none⟩) xn xc from (fa0_15.at_ 39))
    have e40 := (show a0_15.eval (.tmp 40) = .int .i64 (k : Int) from (fa0_15.at_ 40))
    clear fa0_15 hQ h5 h6
    generalize a0_15.eval = ρ at *
    go_simp
  refine fa0_15.step 44 (.pointer (some ⟨g, k, none⟩)) rfl (lb_ I0.size) (wanted_none rfl) r_a0_16 (fun a0_16 fa0_16 => ?_)
  clear r_a0_16
  clear fa0_15
  have r_a0_17 : (execOp a0_16.eval oZB13).run Try.prog (wr) = .ok .skip (wr.setCell ⟨g, k, none⟩ (.int .u32 (b : Int))) := by
    unfold oZB13
    have e44 := (show a0_16.eval (.tmp 44) = .pointer (some ⟨g, k, none⟩) from (fa0_16.at_ 44))
    have e43 := (show a0_16.eval (.tmp 43) = .int .u32 (b : Int) from (fa0_16.at_ 43))
    clear fa0_16 hQ h5 h6
    generalize a0_16.eval = ρ at *
    go_simp
  refine fa0_16.store rfl (wanted_none rfl) r_a0_17 (fun a0_17 fa0_17 => ?_)
  clear r_a0_17
  clear fa0_16
  refine wpList_nil ?_
  change Code.wp _ _ _ _ _
  refine wp_region_list ?_
  unfold rAP6
  refine fa0_17.move 34 (.int .i64 (k : Int)) _ (Or.inl rfl) rfl (lb_ I0.size) (wanted_none rfl) ((fa0_17.at_ 6).trans h6) (fun a0_18 fa0_18 => ?_)
  clear fa0_17
  have r_a0_19 : (execOp a0_18.eval oZB7).run Try.prog (wr.setCell ⟨g, k, none⟩ (.int .u32 (b : Int))) = .ok (.value (.int .i64 ((k : Int) + 1))) (wr.setCell ⟨g, k, none⟩ (.int .u32 (b : Int))) := by
    unfold oZB7
    have kc : ∀ v, a0_18.eval (.const v) = v := fun _ => rfl
    have e34 := (show a0_18.eval (.tmp 34) = .int .i64 (k : Int) from (fa0_18.at_ 34))
    clear fa0_18 hQ h5 h6
    generalize a0_18.eval = ρ at *
    go_simp
  refine fa0_18.step 35 (.int .i64 ((k : Int) + 1)) rfl (lb_ I0.size) (wanted_none rfl) r_a0_19 (fun a0_19 fa0_19 => ?_)
  clear r_a0_19
  clear fa0_18
  refine fa0_19.move 6 (.int .i64 ((k : Int) + 1)) _ (Or.inr rfl) rfl (lb_ I0.size) (wanted_none rfl) (fa0_19.at_ 35) (fun a0_20 fa0_20 => ?_)
  clear fa0_19
  refine wpList_nil ?_
  rw [show wr.setCell ⟨g, k, none⟩ (.int .u32 (b : Int)) = wr.setCells g (k * 1) [.int .u32 (b : Int)] from by rw [Nat.mul_one]; rfl]
  exact hQ a0_20 (I0.keep fa0_20 rfl rfl) (show a0_20.eval (.tmp 5) = .int .i64 (i : Int) from ((fa0_20.at_ 5).trans h5)) (show a0_20.eval (.tmp 6) = .int .i64 ((k : Int) + 1) from (fa0_20.at_ 6))
set_option maxRecDepth 100000 in
theorem mUE {v1 : Value} {lb lo n lc xn xc i : Nat} {xa : Option Addr} {Q : Exit → Act → World → Prop} (a0 : Act) (wr : World) (I0 : IX (.slice (some ⟨lb, lo, none⟩) n lc) v1 a0) (h5 : a0.eval (.tmp 5) = .int .i64 (i : Int)) (h6 : a0.eval (.tmp 6) = .int .i64 (xn : Int))
    (hi : i < n) (c1 : wr.cell? ⟨lb, lo + i, none⟩ = some (.slice xa xn xc))
    (hQ : ∀ a, IX (.slice (some ⟨lb, lo, none⟩) n lc) v1 a → a.eval (.tmp 5) = .int .i64 (i : Int) → Q (.exit 2) a wr) : cMU2.wp Try.prog Q a0 wr := by
  have hii : (i : Int) < (n : Int) := by omega
  have fa0_0 := Fe.refl a0
  unfold cMU2
  refine wp_seq (wp_seq ?_)
  refine wp_region_list ?_
  unfold rAP5
  refine fa0_0.move 27 (.int .i64 (xn : Int)) _ (Or.inl rfl) rfl (lb_ I0.size) (wanted_none rfl) ((fa0_0.at_ 6).trans h6) (fun a0_1 fa0_1 => ?_)
  clear fa0_0
  refine fa0_1.move 28 (.slice (some ⟨lb, lo, none⟩) n lc) _ (Or.inl rfl) rfl (lb_ I0.size) (wanted_none rfl) ((fa0_1.at_ 0).trans I0.s0) (fun a0_2 fa0_2 => ?_)
  clear fa0_1
  refine fa0_2.move 29 (.int .i64 (i : Int)) _ (Or.inl rfl) rfl (lb_ I0.size) (wanted_none rfl) ((fa0_2.at_ 5).trans h5) (fun a0_3 fa0_3 => ?_)
  clear fa0_2
  have r_a0_4 : (execOp a0_3.eval oZB3).run Try.prog (wr) = .ok (.value (.pointer (some ⟨lb, lo + i, none⟩))) (wr) := by
    unfold oZB3
    have e28 := (show a0_3.eval (.tmp 28) = .slice (some ⟨lb, lo, none⟩) n lc from (fa0_3.at_ 28))
    have e29 := (show a0_3.eval (.tmp 29) = .int .i64 (i : Int) from (fa0_3.at_ 29))
    clear fa0_3 hQ h5 h6
    generalize a0_3.eval = ρ at *
    go_simp
  refine fa0_3.step 30 (.pointer (some ⟨lb, lo + i, none⟩)) rfl (lb_ I0.size) (wanted_none rfl) r_a0_4 (fun a0_4 fa0_4 => ?_)
  clear r_a0_4
  clear fa0_3
  have r_a0_5 : (execOp a0_4.eval oZB4).run Try.prog (wr) = .ok (.value (.slice xa xn xc)) (wr) := by
    unfold oZB4
    have e30 := (show a0_4.eval (.tmp 30) = .pointer (some ⟨lb, lo + i, none⟩) from (fa0_4.at_ 30))
    clear fa0_4 hQ h5 h6
    generalize a0_4.eval = ρ at *
    go_simp
  refine fa0_4.step 31 (.slice xa xn xc) rfl (lb_ I0.size) (wanted_none rfl) r_a0_5 (fun a0_5 fa0_5 => ?_)
  clear r_a0_5
  clear fa0_4
  have r_a0_6 : (execOp a0_5.eval oZB5).run Try.prog (wr) = .ok (.value (.int .i64 (xn : Int))) (wr) := by
    unfold oZB5
    have e31 := (show a0_5.eval (.tmp 31) = .slice xa xn xc from (fa0_5.at_ 31))
    clear fa0_5 hQ h5 h6
    generalize a0_5.eval = ρ at *
    go_simp
  refine fa0_5.step 32 (.int .i64 (xn : Int)) rfl (lb_ I0.size) (wanted_none rfl) r_a0_6 (fun a0_6 fa0_6 => ?_)
  clear r_a0_6
  clear fa0_5
  have r_a0_7 : (execOp a0_6.eval oZB6).run Try.prog (wr) = .ok (.value (.bool false)) (wr) := by
    unfold oZB6
    have e27 := (show a0_6.eval (.tmp 27) = .int .i64 (xn : Int) from (fa0_6.at_ 27))
    have e32 := (show a0_6.eval (.tmp 32) = .int .i64 (xn : Int) from (fa0_6.at_ 32))
    clear fa0_6 hQ h5 h6
    generalize a0_6.eval = ρ at *
    go_simp
  refine fa0_6.step 33 (.bool false) rfl (lb_ I0.size) (wanted_none rfl) r_a0_7 (fun a0_7 fa0_7 => ?_)
  clear r_a0_7
  clear fa0_6
  refine wpList_nil ?_
  change Code.wp _ _ _ _ _
  refine wp_cond_false (show a0_7.eval (.tmp 33) = .bool false from (fa0_7.at_ 33)) (wp_exit ?_)
  exact hQ a0_7 (I0.keep fa0_7 rfl rfl) (show a0_7.eval (.tmp 5) = .int .i64 (i : Int) from ((fa0_7.at_ 5).trans h5))
theorem mUL2 {v1 : Value} {lb lo n lc i b : Nat} {x : Sl} {cs : List Value} {Q : Exit → Act → World → Prop} (a0 : Act) (w1 : World) (I0 : IX (.slice (some ⟨lb, lo, none⟩) n lc) v1 a0) (h5 : a0.eval (.tmp 5) = .int .i64 (i : Int)) (h6 : a0.eval (.tmp 6) = .int .i64 ((0 : Nat) : Int))
    (hi : i < n) (hn : n ≤ 4000000) (hb : b = 100000 + i) (hx : x.n ≤ 1099511627000) (hc : ∀ W, Fr (fun j => x.blk = some j) w1 W → W.cell? ⟨lb, lo + i, none⟩ = some x.v) (hr : RX fU w1 x cs)
    (hQ : ∀ a W, IX (.slice (some ⟨lb, lo, none⟩) n lc) v1 a → a.eval (.tmp 5) = .int .i64 (i : Int) → RX fU W x (rp fU x.n b) → Fr (fun j => x.blk = some j) w1 W → Q (.exit 2) a W) : (Code.loop cMU2).wp Try.prog Q a0 w1 := by
  refine wp_loop (fun a W => IX (.slice (some ⟨lb, lo, none⟩) n lc) v1 a ∧ a.eval (.tmp 5) = .int .i64 (i : Int) ∧ ∃ k : Nat, k ≤ x.n ∧ a.eval (.tmp 6) = .int .i64 (k : Int) ∧ MkI fU w1 W x k b) (fun a _ => x.n - kOf a 6) ⟨I0, h5, 0, Nat.zero_le _, h6, MkI.start hr b⟩ ?_
  rintro a W ⟨I1, g5, k, hk, g6, hM⟩
  have c1 := hc W hM.base
  by_cases hgo : k < x.n
  · obtain ⟨cs1, hr1, _⟩ := hM.row
    obtain ⟨xa, xn, xc⟩ := x
    obtain ⟨g, rfl, _⟩ := own_some hr1 (Nat.ne_of_gt (Nat.lt_of_le_of_lt (Nat.zero_le _) hgo))
    refine mUR a W I1 g5 g6 hi hn hb hgo hx c1 (hr1.there rfl hgo) (fun a' i2 k5 k6 => ?_)
    have h4 : a'.eval (.tmp 6) = .int .i64 ((k + 1 : Nat) : Int) := k6
    refine ⟨⟨i2, k5, k + 1, hgo, h4, hM.next rfl hgo⟩, ?_⟩
    show xn - kOf a' 6 < xn - kOf a 6
    rw [kOf_eq h4, kOf_eq g6]
    simp only at hgo
    omega
  · obtain rfl : k = x.n := by omega
    exact mUE a W I1 g5 g6 hi c1 (fun a' i2 k5 => hQ a' W i2 k5 hM.done hM.base)
set_option maxRecDepth 100000 in
theorem mUO {v1 : Value} {lb lo n lc i : Nat} {x : Sl} {cs : List Value} {Q : Exit → Act → World → Prop} (a0 : Act) (wr : World) (I0 : IX (.slice (some ⟨lb, lo, none⟩) n lc) v1 a0) (h5 : a0.eval (.tmp 5) = .int .i64 (i : Int))
    (hi : i < n) (hn : n ≤ 4000000) (hx : x.n ≤ 1099511627000) (hc : ∀ W, Fr (fun j => x.blk = some j) wr W → W.cell? ⟨lb, lo + i, none⟩ = some x.v) (hr : RX fU wr x cs)
    (hQ : ∀ a W, IX (.slice (some ⟨lb, lo, none⟩) n lc) v1 a → a.eval (.tmp 5) = .int .i64 ((i : Int) + 1) → RX fU W x (rp fU x.n (100000 + i)) → Fr (fun j => x.blk = some j) wr W → Q .normal a W) : cMU1.wp Try.prog Q a0 wr := by
  have hii : (i : Int) < (n : Int) := by omega
  have w7 : IntKind.i64.wrap ((i : Int) + 1) = (i : Int) + 1 := by rw [IntKind.wrap_i64]; omega
  have fa0_0 := Fe.refl a0
  unfold cMU1
  refine wp_seq (wp_seq ?_)
  refine wp_region_list ?_
  unfold rAP2
  refine fa0_0.move 21 (.int .i64 (i : Int)) _ (Or.inl rfl) rfl (lb_ I0.size) (wanted_none rfl) ((fa0_0.at_ 5).trans h5) (fun a0_1 fa0_1 => ?_)
  clear fa0_0
  refine fa0_1.move 22 (.slice (some ⟨lb, lo, none⟩) n lc) _ (Or.inl rfl) rfl (lb_ I0.size) (wanted_none rfl) ((fa0_1.at_ 0).trans I0.s0) (fun a0_2 fa0_2 => ?_)
  clear fa0_1
  have r_a0_3 : (execOp a0_2.eval oZB0).run Try.prog (wr) = .ok (.value (.int .i64 (n : Int))) (wr) := by
    unfold oZB0
    have e22 := (show a0_2.eval (.tmp 22) = .slice (some ⟨lb, lo, none⟩) n lc from (fa0_2.at_ 22))
    clear fa0_2 hQ h5
    generalize a0_2.eval = ρ at *
    go_simp
  refine fa0_2.step 23 (.int .i64 (n : Int)) rfl (lb_ I0.size) (wanted_none rfl) r_a0_3 (fun a0_3 fa0_3 => ?_)
  clear r_a0_3
  clear fa0_2
  have r_a0_4 : (execOp a0_3.eval oZB1).run Try.prog (wr) = .ok (.value (.bool true)) (wr) := by
    unfold oZB1
    have e21 := (show a0_3.eval (.tmp 21) = .int .i64 (i : Int) from (fa0_3.at_ 21))
    have e23 := (show a0_3.eval (.tmp 23) = .int .i64 (n : Int) from (fa0_3.at_ 23))
    clear fa0_3 hQ h5
    generalize a0_3.eval = ρ at *
    go_simp
  refine fa0_3.step 24 (.bool true) rfl (lb_ I0.size) (wanted_none rfl) r_a0_4 (fun a0_4 fa0_4 => ?_)
  clear r_a0_4
  clear fa0_3
  refine wpList_nil ?_
  change Code.wp _ _ _ _ _
  refine wp_cond_true (show a0_4.eval (.tmp 24) = .bool true from (fa0_4.at_ 24)) (wp_skip ?_)
  change Code.wp _ _ _ _ _
  refine wp_seq (wp_block (wp_seq ?_))
  refine wp_region_list ?_
  unfold rAP4
  refine fa0_4.move 6 (.int .i64 ((0 : Nat) : Int)) _ (Or.inr rfl) rfl (lb_ I0.size) (wanted_none rfl) rfl (fun a0_5 fa0_5 => ?_)
  clear fa0_4
  refine wpList_nil ?_
  change Code.wp _ _ _ _ _
  refine wp_block ?_
  refine mUL2 (b := 100000 + i) (x := x) a0_5 wr (I0.keep fa0_5 rfl rfl) (show a0_5.eval (.tmp 5) = .int .i64 (i : Int) from ((fa0_5.at_ 5).trans h5)) (show a0_5.eval (.tmp 6) = .int .i64 ((0 : Nat) : Int) from (fa0_5.at_ 6)) hi hn rfl hx hc hr (fun d W2 i2 d5 hr2 f2 => ?_)
  change Code.wp _ _ _ _ _
  have fd_0 := Fe.refl d
  refine wp_region_list ?_
  unfold rAP3
  refine fd_0.move 25 (.int .i64 (i : Int)) _ (Or.inl rfl) rfl (lb_ i2.size) (wanted_none rfl) ((fd_0.at_ 5).trans d5) (fun d_1 fd_1 => ?_)
  clear fd_0
  have r_d_2 : (execOp d_1.eval oZB2).run Try.prog (W2) = .ok (.value (.int .i64 ((i : Int) + 1))) (W2) := by
    unfold oZB2
    have kc : ∀ v, d_1.eval (.const v) = v := fun _ => rfl
    have e25 := (show d_1.eval (.tmp 25) = .int .i64 (i : Int) from (fd_1.at_ 25))
    clear fd_1 hQ d5 h5
    generalize d_1.eval = ρ at *
    go_simp
  refine fd_1.step 26 (.int .i64 ((i : Int) + 1)) rfl (lb_ i2.size) (wanted_none rfl) r_d_2 (fun d_2 fd_2 => ?_)
  clear r_d_2
  clear fd_1
  refine fd_2.move 5 (.int .i64 ((i : Int) + 1)) _ (Or.inr rfl) rfl (lb_ i2.size) (wanted_none rfl) (fd_2.at_ 26) (fun d_3 fd_3 => ?_)
  clear fd_2
  refine wpList_nil ?_
  exact hQ d_3 W2 (i2.keep fd_3 rfl rfl) (show d_3.eval (.tmp 5) = .int .i64 ((i : Int) + 1) from (fd_3.at_ 5)) hr2 f2
set_option maxRecDepth 100000 in
theorem mUX {v1 : Value} {la : Option Addr} {n lc : Nat} {Q : Exit → Act → World → Prop} (a0 : Act) (wr : World) (I0 : IX (.slice la n lc) v1 a0) (h5 : a0.eval (.tmp 5) = .int .i64 (n : Int))
    (hQ : ∀ a, IX (.slice la n lc) v1 a → Q (.exit 0) a wr) : cMU1.wp Try.prog Q a0 wr := by
  have fa0_0 := Fe.refl a0
  unfold cMU1
  refine wp_seq (wp_seq ?_)
  refine wp_region_list ?_
  unfold rAP2
  refine fa0_0.move 21 (.int .i64 (n : Int)) _ (Or.inl rfl) rfl (lb_ I0.size) (wanted_none rfl) ((fa0_0.at_ 5).trans h5) (fun a0_1 fa0_1 => ?_)
  clear fa0_0
  refine fa0_1.move 22 (.slice la n lc) _ (Or.inl rfl) rfl (lb_ I0.size) (wanted_none rfl) ((fa0_1.at_ 0).trans I0.s0) (fun a0_2 fa0_2 => ?_)
  clear fa0_1
  have r_a0_3 : (execOp a0_2.eval oZB0).run Try.prog (wr) = .ok (.value (.int .i64 (n : Int))) (wr) := by
    unfold oZB0
    have e22 := (show a0_2.eval (.tmp 22) = .slice la n lc from (fa0_2.at_ 22))
    clear fa0_2 hQ h5
    generalize a0_2.eval = ρ at *
    go_simp
  refine fa0_2.step 23 (.int .i64 (n : Int)) rfl (lb_ I0.size) (wanted_none rfl) r_a0_3 (fun a0_3 fa0_3 => ?_)
  clear r_a0_3
  clear fa0_2
  have r_a0_4 : (execOp a0_3.eval oZB1).run Try.prog (wr) = .ok (.value (.bool false)) (wr) := by
    unfold oZB1
    have e21 := (show a0_3.eval (.tmp 21) = .int .i64 (n : Int) from (fa0_3.at_ 21))
    have e23 := (show a0_3.eval (.tmp 23) = .int .i64 (n : Int) from (fa0_3.at_ 23))
    clear fa0_3 hQ h5
    generalize a0_3.eval = ρ at *
    go_simp
  refine fa0_3.step 24 (.bool false) rfl (lb_ I0.size) (wanted_none rfl) r_a0_4 (fun a0_4 fa0_4 => ?_)
  clear r_a0_4
  clear fa0_3
  refine wpList_nil ?_
  change Code.wp _ _ _ _ _
  refine wp_cond_false (show a0_4.eval (.tmp 24) = .bool false from (fa0_4.at_ 24)) (wp_exit ?_)
  exact hQ a0_4 (I0.keep fa0_4 rfl rfl)
theorem mUL {v1 : Value} {la : Option Addr} {lb lo n lc : Nat} {L : List Sl} {Q : Exit → Act → World → Prop} (a0 : Act) (w : World) (I0 : IX (.slice la n lc) v1 a0) (h5 : a0.eval (.tmp 5) = .int .i64 ((0 : Nat) : Int))
    (hn : n ≤ 4000000) (hl : n = L.length) (ho : ∀ W, Fr (inB L) w W → OutAt 23 W la lb lo L) (hA : Apt fU w L)
    (hQ : ∀ a W, IX (.slice la n lc) v1 a → Mrk fU W L L.length 100000 → Fr (inB L) w W → Q (.exit 0) a W) : (Code.loop cMU1).wp Try.prog Q a0 w := by
  refine wp_loop (fun a W => IX (.slice la n lc) v1 a ∧ Fr (inB L) w W ∧ ∃ i : Nat, i ≤ n ∧ a.eval (.tmp 5) = .int .i64 (i : Int) ∧ Mrk fU W L i 100000) (fun a _ => n - kOf a 5) ⟨I0, Fr.refl _ w, 0, Nat.zero_le _, h5, Mrk.start hA _⟩ ?_
  rintro a W ⟨I1, f1, i, hi, g5, hM⟩
  by_cases hgo : i < n
  · obtain ⟨x, hx⟩ : ∃ x, L[i]? = some x := ⟨_, List.getElem?_eq_getElem (by omega)⟩
    have hne : L ≠ [] := by intro e; rw [e] at hx; simp at hx
    obtain ⟨rfl, _⟩ := (ho W f1).place hne
    obtain ⟨cs, hr⟩ := hM.apt.rows i x hx
    have fx : ∀ W2, Fr (fun j => x.blk = some j) W W2 → Fr (inB L) w W2 := fun W2 f2 => Fr.trans f1 f2 (fun k _ e => ⟨i, x, hx, e⟩)
    refine mUO a W I1 g5 hgo hn (hM.apt.len x (List.mem_of_getElem? hx)) (fun W2 f2 => (ho W2 (fx W2 f2)).cells i x hx) hr (fun a' W2 i2 k5 hr2 f2 => ?_)
    have h4 : a'.eval (.tmp 5) = .int .i64 ((i + 1 : Nat) : Int) := k5
    refine ⟨⟨i2, fx W2 f2, i + 1, hgo, h4, hM.next hx f2 hr2⟩, ?_⟩
    show n - kOf a' 5 < n - kOf a 5
    rw [kOf_eq h4, kOf_eq g5]
    omega
  · obtain rfl : i = n := by omega
    exact mUX a W I1 g5 (fun a' i2 => hQ a' W i2 (hl ▸ hM) f1)
def cMB2 : Code := (Code.seq (Code.seq (Code.region 12 rAP12 false) (Code.cond (Operand.tmp 57) Code.skip (Code.exit 6))) (Code.seq (Code.block 7 (Code.region 14 rAP14 false)) (Code.region 13 rAP13 false)))
def cMB1 : Code := (Code.seq (Code.seq (Code.region 9 rAP9 false) (Code.cond (Operand.tmp 48) Code.skip (Code.exit 4))) (Code.seq (Code.block 5 (Code.seq (Code.region 11 rAP11 false) (Code.block 6 (Code.loop cMB2)))) (Code.region 10 rAP10 false)))
set_option maxRecDepth 100000 in
set_option maxHeartbeats 1000000 in
theorem mBR {v0 : Value} {lb lo n lc g xn xc i k b : Nat} {Q : Exit → Act → World → Prop} (a0 : Act) (wr : World) (I0 : IX v0 (.slice (some ⟨lb, lo, none⟩) n lc) a0) (h7 : a0.eval (.tmp 7) = .int .i64 (i : Int)) (h8 : a0.eval (.tmp 8) = .int .i64 (k : Int))
    (hi : i < n) (hn : n ≤ 4000000) (hb : b = 200000 + i) (hk : k < xn) (hx : xn ≤ 1099511627000) (c1 : wr.cell? ⟨lb, lo + i, none⟩ = some (.slice (some ⟨g, 0, none⟩) xn xc)) (hth : wr.there g (k * 2) 2)
    (hQ : ∀ a, IX v0 (.slice (some ⟨lb, lo, none⟩) n lc) a → a.eval (.tmp 7) = .int .i64 (i : Int) → a.eval (.tmp 8) = .int .i64 ((k : Int) + 1) → Q .normal a (wr.setCells g (k * 2) [.int .u32 (b : Int), .slice none 0 0])) : cMB2.wp Try.prog Q a0 wr := by
  have hii : (i : Int) < (n : Int) := by omega
  have hki : (k : Int) < (xn : Int) := by omega
  have w3 : RowKit.wrap64 (200000 + (i : Int)) = (b : Int) := by unfold RowKit.wrap64; omega
  have w4 : IntKind.u32.wrap (b : Int) = (b : Int) := by rw [IntKind.wrap_u32]; omega
  have w5 : IntKind.i64.wrap (200000 + (i : Int)) = (b : Int) := by rw [IntKind.wrap_i64]; omega
  have w7 : IntKind.i64.wrap ((k : Int) + 1) = (k : Int) + 1 := by rw [IntKind.wrap_i64]; omega
  clear hb
  have fa0_0 := Fe.refl a0
  unfold cMB2
  refine wp_seq (wp_seq ?_)
  refine wp_region_list ?_
  unfold rAP12
  refine fa0_0.move 51 (.int .i64 (k : Int)) _ (Or.inl rfl) rfl (lb_ I0.size) (wanted_none rfl) ((fa0_0.at_ 8).trans h8) (fun a0_1 fa0_1 => ?_)
  clear fa0_0
  refine fa0_1.move 52 (.slice (some ⟨lb, lo, none⟩) n lc) _ (Or.inl rfl) rfl (lb_ I0.size) (wanted_none rfl) ((fa0_1.at_ 1).trans I0.s1) (fun a0_2 fa0_2 => ?_)
  clear fa0_1
  refine fa0_2.move 53 (.int .i64 (i : Int)) _ (Or.inl rfl) rfl (lb_ I0.size) (wanted_none rfl) ((fa0_2.at_ 7).trans h7) (fun a0_3 fa0_3 => ?_)
  clear fa0_2
  have r_a0_4 : (execOp a0_3.eval oZB17).run Try.prog (wr) = .ok (.value (.pointer (some ⟨lb, lo + i, none⟩))) (wr) := by
    unfold oZB17
    have e52 := (show a0_3.eval (.tmp 52) = .slice (some ⟨lb, lo, none⟩) n lc from (fa0_3.at_ 52))
    have e53 := (show a0_3.eval (.tmp 53) = .int .i64 (i : Int) from (fa0_3.at_ 53))
    clear fa0_3 hQ h7 h8
    generalize a0_3.eval = ρ at *
    go_simp
  refine fa0_3.step 54 (.pointer (some ⟨lb, lo + i, none⟩)) rfl (lb_ I0.size) (wanted_none rfl) r_a0_4 (fun a0_4 fa0_4 => ?_)
  clear r_a0_4
  clear fa0_3
  have r_a0_5 : (execOp a0_4.eval oZB18).run Try.prog (wr) = .ok (.value (.slice (some ⟨g, 0, none⟩) xn xc)) (wr) := by
    unfold oZB18
    have e54 := (show a0_4.eval (.tmp 54) = .pointer (some ⟨lb, lo + i, none⟩) from (fa0_4.at_ 54))
    clear fa0_4 hQ h7 h8
    generalize a0_4.eval = ρ at *
    go_simp
  refine fa0_4.step 55 (.slice (some ⟨g, 0, none⟩) xn xc) rfl (lb_ I0.size) (wanted_none rfl) r_a0_5 (fun a0_5 fa0_5 => ?_)
  clear r_a0_5
  clear fa0_4
  have r_a0_6 : (execOp a0_5.eval oZB19).run Try.prog (wr) = .ok (.value (.int .i64 (xn : Int))) (wr) := by
    unfold oZB19
    have e55 := (show a0_5.eval (.tmp 55) = .slice (some ⟨g, 0, none⟩) xn xc from (fa0_5.at_ 55))
    clear fa0_5 hQ h7 h8
    generalize a0_5.eval = ρ at *
    go_simp
  refine fa0_5.step 56 (.int .i64 (xn : Int)) rfl (lb_ I0.size) (wanted_none rfl) r_a0_6 (fun a0_6 fa0_6 => ?_)
  clear r_a0_6
  clear fa0_5
  have r_a0_7 : (execOp a0_6.eval oZB20).run Try.prog (wr) = .ok (.value (.bool true)) (wr) := by
    unfold oZB20
    have e51 := (show a0_6.eval (.tmp 51) = .int .i64 (k : Int) from (fa0_6.at_ 51))
    have e56 := (show a0_6.eval (.tmp 56) = .int .i64 (xn : Int) from (fa0_6.at_ 56))
    clear fa0_6 hQ h7 h8
    generalize a0_6.eval = ρ at *
    go_simp
  refine fa0_6.step 57 (.bool true) rfl (lb_ I0.size) (wanted_none rfl) r_a0_7 (fun a0_7 fa0_7 => ?_)
  clear r_a0_7
  clear fa0_6
  refine wpList_nil ?_
  change Code.wp _ _ _ _ _
  refine wp_cond_true (show a0_7.eval (.tmp 57) = .bool true from (fa0_7.at_ 57)) (wp_skip ?_)
  change Code.wp _ _ _ _ _
  refine wp_seq (wp_block ?_)
  obtain ⟨W2, hW2⟩ : ∃ W2, W2 = wr.setCells g (k * 2) [.int .u32 (b : Int), .slice none 0 0] := ⟨_, rfl⟩
  refine wp_region_list ?_
  unfold rAP14
  refine fa0_7.move 60 (.slice (some ⟨lb, lo, none⟩) n lc) _ (Or.inl rfl) rfl (lb_ I0.size) (wanted_none rfl) ((fa0_7.at_ 1).trans I0.s1) (fun a0_8 fa0_8 => ?_)
  clear fa0_7
  refine fa0_8.move 61 (.int .i64 (i : Int)) _ (Or.inl rfl) rfl (lb_ I0.size) (wanted_none rfl) ((fa0_8.at_ 7).trans h7) (fun a0_9 fa0_9 => ?_)
  clear fa0_8
  have r_a0_10 : (execOp a0_9.eval oZB22).run Try.prog (wr) = .ok (.value (.pointer (some ⟨lb, lo + i, none⟩))) (wr) := by
    unfold oZB22
    have e60 := (show a0_9.eval (.tmp 60) = .slice (some ⟨lb, lo, none⟩) n lc from (fa0_9.at_ 60))
    have e61 := (show a0_9.eval (.tmp 61) = .int .i64 (i : Int) from (fa0_9.at_ 61))
    clear fa0_9 hQ h7 h8
    generalize a0_9.eval = ρ at *
    go_simp
  refine fa0_9.step 62 (.pointer (some ⟨lb, lo + i, none⟩)) rfl (lb_ I0.size) (wanted_none rfl) r_a0_10 (fun a0_10 fa0_10 => ?_)
  clear r_a0_10
  clear fa0_9
  have r_a0_11 : (execOp a0_10.eval oZB23).run Try.prog (wr) = .ok (.value (.slice (some ⟨g, 0, none⟩) xn xc)) (wr) := by
    unfold oZB23
    have e62 := (show a0_10.eval (.tmp 62) = .pointer (some ⟨lb, lo + i, none⟩) from (fa0_10.at_ 62))
    clear fa0_10 hQ h7 h8
    generalize a0_10.eval = ρ at *
    go_simp
  refine fa0_10.step 63 (.slice (some ⟨g, 0, none⟩) xn xc) rfl (lb_ I0.size) (wanted_none rfl) r_a0_11 (fun a0_11 fa0_11 => ?_)
  clear r_a0_11
  clear fa0_10
  refine fa0_11.move 64 (.int .i64 (k : Int)) _ (Or.inl rfl) rfl (lb_ I0.size) (wanted_none rfl) ((fa0_11.at_ 8).trans h8) (fun a0_12 fa0_12 => ?_)
  clear fa0_11
  refine fa0_12.move 65 (.int .i64 (i : Int)) _ (Or.inl rfl) rfl (lb_ I0.size) (wanted_none rfl) ((fa0_12.at_ 7).trans h7) (fun a0_13 fa0_13 => ?_)
  clear fa0_12
  have r_a0_14 : (execOp a0_13.eval oZB24).run Try.prog (wr) = .ok (.value (.int .i64 (b : Int))) (wr) := by
    unfold oZB24
    have kc : ∀ v, a0_13.eval (.const v) = v := fun _ => rfl
    have e65 := (show a0_13.eval (.tmp 65) = .int .i64 (i : Int) from (fa0_13.at_ 65))
    clear fa0_13 hQ h7 h8
    generalize a0_13.eval = ρ at *
    go_simp
  refine fa0_13.step 66 (.int .i64 (b : Int)) rfl (lb_ I0.size) (wanted_none rfl) r_a0_14 (fun a0_14 fa0_14 => ?_)
  clear r_a0_14
  clear fa0_13
  have r_a0_15 : (execOp a0_14.eval oZB25).run Try.prog (wr) = .ok (.value (.int .u32 (b : Int))) (wr) := by
    unfold oZB25
    have e66 := (show a0_14.eval (.tmp 66) = .int .i64 (b : Int) from (fa0_14.at_ 66))
    clear fa0_14 hQ h7 h8
    generalize a0_14.eval = ρ at *
    go_simp
  refine fa0_14.step 67 (.int .u32 (b : Int)) rfl (lb_ I0.size) (wanted_none rfl) r_a0_15 (fun a0_15 fa0_15 => ?_)
  clear r_a0_15
  clear fa0_14
  have r_a0_16 : (execOp a0_15.eval oZB26).run Try.prog (wr) = .ok (.value (.agg #[.int .u32 (b : Int), .slice none 0 0])) (wr) := by
    unfold oZB26
    have e67 := (show a0_15.eval (.tmp 67) = .int .u32 (b : Int) from (fa0_15.at_ 67))
    clear fa0_15 hQ h7 h8
    generalize a0_15.eval = ρ at *
    go_simp
  refine fa0_15.step 68 (.agg #[.int .u32 (b : Int), .slice none 0 0]) rfl (lb_ I0.size) (wanted_none rfl) r_a0_16 (fun a0_16 fa0_16 => ?_)
  clear r_a0_16
  clear fa0_15
  have r_a0_17 : (execOp a0_16.eval oZB27).run Try.prog (wr) = .ok (.value (.pointer (some ⟨g, k * 2, none⟩))) (wr) := by
    unfold oZB27
    have e63 := (show a0_16.eval (.tmp 63) = .slice (some ⟨g, 0, none⟩) xn xc from (fa0_16.at_ 63))
    have e64 := (show a0_16.eval (.tmp 64) = .int .i64 (k : Int) from (fa0_16.at_ 64))
    clear fa0_16 hQ h7 h8
    generalize a0_16.eval = ρ at *
    go_simp
  refine fa0_16.step 69 (.pointer (some ⟨g, k * 2, none⟩)) rfl (lb_ I0.size) (wanted_none rfl) r_a0_17 (fun a0_17 fa0_17 => ?_)
  clear r_a0_17
  clear fa0_16
  have r_a0_18 : (execOp a0_17.eval oZB28).run Try.prog (wr) = .ok .skip (W2) := by
    unfold oZB28
    refine exec_storeF rfl ?_
    rw [(show a0_17.eval (.tmp 69) = .pointer (some ⟨g, k * 2, none⟩) from (fa0_17.at_ 69)), (show a0_17.eval (.tmp 68) = .agg #[.int .u32 (b : Int), .slice none 0 0] from (fa0_17.at_ 68)), hW2]
    exact run_storeAt_mid wr g (k * 2) 55 #[.int .u32 (b : Int), .slice none 0 0] hth (by kernel_rfl) (all_oneCell_toArray (fB.one b))
  refine fa0_17.store rfl (wanted_none rfl) r_a0_18 (fun a0_18 fa0_18 => ?_)
  clear r_a0_18
  clear fa0_17
  refine wpList_nil ?_
  change Code.wp _ _ _ _ _
  refine wp_region_list ?_
  unfold rAP13
  refine fa0_18.move 58 (.int .i64 (k : Int)) _ (Or.inl rfl) rfl (lb_ I0.size) (wanted_none rfl) ((fa0_18.at_ 8).trans h8) (fun a0_19 fa0_19 => ?_)
  clear fa0_18
  have r_a0_20 : (execOp a0_19.eval oZB21).run Try.prog (W2) = .ok (.value (.int .i64 ((k : Int) + 1))) (W2) := by
    unfold oZB21
    have kc : ∀ v, a0_19.eval (.const v) = v := fun _ => rfl
    have e58 := (show a0_19.eval (.tmp 58) = .int .i64 (k : Int) from (fa0_19.at_ 58))
    clear fa0_19 hQ h7 h8
    generalize a0_19.eval = ρ at *
    go_simp
  refine fa0_19.step 59 (.int .i64 ((k : Int) + 1)) rfl (lb_ I0.size) (wanted_none rfl) r_a0_20 (fun a0_20 fa0_20 => ?_)
  clear r_a0_20
  clear fa0_19
  refine fa0_20.move 8 (.int .i64 ((k : Int) + 1)) _ (Or.inr rfl) rfl (lb_ I0.size) (wanted_none rfl) (fa0_20.at_ 59) (fun a0_21 fa0_21 => ?_)
  clear fa0_20
  refine wpList_nil ?_
  subst hW2
  exact hQ a0_21 (I0.keep fa0_21 rfl rfl) (show a0_21.eval (.tmp 7) = .int .i64 (i : Int) from ((fa0_21.at_ 7).trans h7)) (show a0_21.eval (.tmp 8) = .int .i64 ((k : Int) + 1) from (fa0_21.at_ 8))
set_option maxRecDepth 100000 in
theorem mBE {v0 : Value} {lb lo n lc xn xc i : Nat} {xa : Option Addr} {Q : Exit → Act → World → Prop} (a0 : Act) (wr : World) (I0 : IX v0 (.slice (some ⟨lb, lo, none⟩) n lc) a0) (h7 : a0.eval (.tmp 7) = .int .i64 (i : Int)) (h8 : a0.eval (.tmp 8) = .int .i64 (xn : Int))
    (hi : i < n) (c1 : wr.cell? ⟨lb, lo + i, none⟩ = some (.slice xa xn xc))
    (hQ : ∀ a, IX v0 (.slice (some ⟨lb, lo, none⟩) n lc) a → a.eval (.tmp 7) = .int .i64 (i : Int) → Q (.exit 6) a wr) : cMB2.wp Try.prog Q a0 wr := by
  have hii : (i : Int) < (n : Int) := by omega
  have fa0_0 := Fe.refl a0
  unfold cMB2
  refine wp_seq (wp_seq ?_)
  refine wp_region_list ?_
  unfold rAP12
  refine fa0_0.move 51 (.int .i64 (xn : Int)) _ (Or.inl rfl) rfl (lb_ I0.size) (wanted_none rfl) ((fa0_0.at_ 8).trans h8) (fun a0_1 fa0_1 => ?_)
  clear fa0_0
  refine fa0_1.move 52 (.slice (some ⟨lb, lo, none⟩) n lc) _ (Or.inl rfl) rfl (lb_ I0.size) (wanted_none rfl) ((fa0_1.at_ 1).trans I0.s1) (fun a0_2 fa0_2 => ?_)
  clear fa0_1
  refine fa0_2.move 53 (.int .i64 (i : Int)) _ (Or.inl rfl) rfl (lb_ I0.size) (wanted_none rfl) ((fa0_2.at_ 7).trans h7) (fun a0_3 fa0_3 => ?_)
  clear fa0_2
  have r_a0_4 : (execOp a0_3.eval oZB17).run Try.prog (wr) = .ok (.value (.pointer (some ⟨lb, lo + i, none⟩))) (wr) := by
    unfold oZB17
    have e52 := (show a0_3.eval (.tmp 52) = .slice (some ⟨lb, lo, none⟩) n lc from (fa0_3.at_ 52))
    have e53 := (show a0_3.eval (.tmp 53) = .int .i64 (i : Int) from (fa0_3.at_ 53))
    clear fa0_3 hQ h7 h8
    generalize a0_3.eval = ρ at *
    go_simp
  refine fa0_3.step 54 (.pointer (some ⟨lb, lo + i, none⟩)) rfl (lb_ I0.size) (wanted_none rfl) r_a0_4 (fun a0_4 fa0_4 => ?_)
  clear r_a0_4
  clear fa0_3
  have r_a0_5 : (execOp a0_4.eval oZB18).run Try.prog (wr) = .ok (.value (.slice xa xn xc)) (wr) := by
    unfold oZB18
    have e54 := (show a0_4.eval (.tmp 54) = .pointer (some ⟨lb, lo + i, none⟩) from (fa0_4.at_ 54))
    clear fa0_4 hQ h7 h8
    generalize a0_4.eval = ρ at *
    go_simp
  refine fa0_4.step 55 (.slice xa xn xc) rfl (lb_ I0.size) (wanted_none rfl) r_a0_5 (fun a0_5 fa0_5 => ?_)
  clear r_a0_5
  clear fa0_4
  have r_a0_6 : (execOp a0_5.eval oZB19).run Try.prog (wr) = .ok (.value (.int .i64 (xn : Int))) (wr) := by
    unfold oZB19
    have e55 := (show a0_5.eval (.tmp 55) = .slice xa xn xc from (fa0_5.at_ 55))
    clear fa0_5 hQ h7 h8
    generalize a0_5.eval = ρ at *
    go_simp
  refine fa0_5.step 56 (.int .i64 (xn : Int)) rfl (lb_ I0.size) (wanted_none rfl) r_a0_6 (fun a0_6 fa0_6 => ?_)
  clear r_a0_6
  clear fa0_5
  have r_a0_7 : (execOp a0_6.eval oZB20).run Try.prog (wr) = .ok (.value (.bool false)) (wr) := by
    unfold oZB20
    have e51 := (show a0_6.eval (.tmp 51) = .int .i64 (xn : Int) from (fa0_6.at_ 51))
    have e56 := (show a0_6.eval (.tmp 56) = .int .i64 (xn : Int) from (fa0_6.at_ 56))
    clear fa0_6 hQ h7 h8
    generalize a0_6.eval = ρ at *
    go_simp
  refine fa0_6.step 57 (.bool false) rfl (lb_ I0.size) (wanted_none rfl) r_a0_7 (fun a0_7 fa0_7 => ?_)
  clear r_a0_7
  clear fa0_6
  refine wpList_nil ?_
  change Code.wp _ _ _ _ _
  refine wp_cond_false (show a0_7.eval (.tmp 57) = .bool false from (fa0_7.at_ 57)) (wp_exit ?_)
  exact hQ a0_7 (I0.keep fa0_7 rfl rfl) (show a0_7.eval (.tmp 7) = .int .i64 (i : Int) from ((fa0_7.at_ 7).trans h7))
theorem mBL2 {v0 : Value} {lb lo n lc i b : Nat} {x : Sl} {cs : List Value} {Q : Exit → Act → World → Prop} (a0 : Act) (w1 : World) (I0 : IX v0 (.slice (some ⟨lb, lo, none⟩) n lc) a0) (h5 : a0.eval (.tmp 7) = .int .i64 (i : Int)) (h6 : a0.eval (.tmp 8) = .int .i64 ((0 : Nat) : Int))
    (hi : i < n) (hn : n ≤ 4000000) (hb : b = 200000 + i) (hx : x.n ≤ 1099511627000) (hc : ∀ W, Fr (fun j => x.blk = some j) w1 W → W.cell? ⟨lb, lo + i, none⟩ = some x.v) (hr : RX fB w1 x cs)
    (hQ : ∀ a W, IX v0 (.slice (some ⟨lb, lo, none⟩) n lc) a → a.eval (.tmp 7) = .int .i64 (i : Int) → RX fB W x (rp fB x.n b) → Fr (fun j => x.blk = some j) w1 W → Q (.exit 6) a W) : (Code.loop cMB2).wp Try.prog Q a0 w1 := by
  refine wp_loop (fun a W => IX v0 (.slice (some ⟨lb, lo, none⟩) n lc) a ∧ a.eval (.tmp 7) = .int .i64 (i : Int) ∧ ∃ k : Nat, k ≤ x.n ∧ a.eval (.tmp 8) = .int .i64 (k : Int) ∧ MkI fB w1 W x k b) (fun a _ => x.n - kOf a 8) ⟨I0, h5, 0, Nat.zero_le _, h6, MkI.start hr b⟩ ?_
  rintro a W ⟨I1, g5, k, hk, g6, hM⟩
  have c1 := hc W hM.base
  by_cases hgo : k < x.n
  · obtain ⟨cs1, hr1, _⟩ := hM.row
    obtain ⟨xa, xn, xc⟩ := x
    obtain ⟨g, rfl, _⟩ := own_some hr1 (Nat.ne_of_gt (Nat.lt_of_le_of_lt (Nat.zero_le _) hgo))
    refine mBR a W I1 g5 g6 hi hn hb hgo hx c1 (hr1.there rfl hgo) (fun a' i2 k5 k6 => ?_)
    have h4 : a'.eval (.tmp 8) = .int .i64 ((k + 1 : Nat) : Int) := k6
    refine ⟨⟨i2, k5, k + 1, hgo, h4, hM.next rfl hgo⟩, ?_⟩
    show xn - kOf a' 8 < xn - kOf a 8
    rw [kOf_eq h4, kOf_eq g6]
    simp only at hgo
    omega
  · obtain rfl : k = x.n := by omega
    exact mBE a W I1 g5 g6 hi c1 (fun a' i2 k5 => hQ a' W i2 k5 hM.done hM.base)
set_option maxRecDepth 100000 in
theorem mBO {v0 : Value} {lb lo n lc i : Nat} {x : Sl} {cs : List Value} {Q : Exit → Act → World → Prop} (a0 : Act) (wr : World) (I0 : IX v0 (.slice (some ⟨lb, lo, none⟩) n lc) a0) (h7 : a0.eval (.tmp 7) = .int .i64 (i : Int))
    (hi : i < n) (hn : n ≤ 4000000) (hx : x.n ≤ 1099511627000) (hc : ∀ W, Fr (fun j => x.blk = some j) wr W → W.cell? ⟨lb, lo + i, none⟩ = some x.v) (hr : RX fB wr x cs)
    (hQ : ∀ a W, IX v0 (.slice (some ⟨lb, lo, none⟩) n lc) a → a.eval (.tmp 7) = .int .i64 ((i : Int) + 1) → RX fB W x (rp fB x.n (200000 + i)) → Fr (fun j => x.blk = some j) wr W → Q .normal a W) : cMB1.wp Try.prog Q a0 wr := by
  have hii : (i : Int) < (n : Int) := by omega
  have w7 : IntKind.i64.wrap ((i : Int) + 1) = (i : Int) + 1 := by rw [IntKind.wrap_i64]; omega
  have fa0_0 := Fe.refl a0
  unfold cMB1
  refine wp_seq (wp_seq ?_)
  refine wp_region_list ?_
  unfold rAP9
  refine fa0_0.move 45 (.int .i64 (i : Int)) _ (Or.inl rfl) rfl (lb_ I0.size) (wanted_none rfl) ((fa0_0.at_ 7).trans h7) (fun a0_1 fa0_1 => ?_)
  clear fa0_0
  refine fa0_1.move 46 (.slice (some ⟨lb, lo, none⟩) n lc) _ (Or.inl rfl) rfl (lb_ I0.size) (wanted_none rfl) ((fa0_1.at_ 1).trans I0.s1) (fun a0_2 fa0_2 => ?_)
  clear fa0_1
  have r_a0_3 : (execOp a0_2.eval oZB14).run Try.prog (wr) = .ok (.value (.int .i64 (n : Int))) (wr) := by
    unfold oZB14
    have e46 := (show a0_2.eval (.tmp 46) = .slice (some ⟨lb, lo, none⟩) n lc from (fa0_2.at_ 46))
    clear fa0_2 hQ h7
    generalize a0_2.eval = ρ at *
    go_simp
  refine fa0_2.step 47 (.int .i64 (n : Int)) rfl (lb_ I0.size) (wanted_none rfl) r_a0_3 (fun a0_3 fa0_3 => ?_)
  clear r_a0_3
  clear fa0_2
  have r_a0_4 : (execOp a0_3.eval oZB15).run Try.prog (wr) = .ok (.value (.bool true)) (wr) := by
    unfold oZB15
    have e45 := (show a0_3.eval (.tmp 45) = .int .i64 (i : Int) from (fa0_3.at_ 45))
    have e47 := (show a0_3.eval (.tmp 47) = .int .i64 (n : Int) from (fa0_3.at_ 47))
    clear fa0_3 hQ h7
    generalize a0_3.eval = ρ at *
    go_simp
  refine fa0_3.step 48 (.bool true) rfl (lb_ I0.size) (wanted_none rfl) r_a0_4 (fun a0_4 fa0_4 => ?_)
  clear r_a0_4
  clear fa0_3
  refine wpList_nil ?_
  change Code.wp _ _ _ _ _
  refine wp_cond_true (show a0_4.eval (.tmp 48) = .bool true from (fa0_4.at_ 48)) (wp_skip ?_)
  change Code.wp _ _ _ _ _
  refine wp_seq (wp_block (wp_seq ?_))
  refine wp_region_list ?_
  unfold rAP11
  refine fa0_4.move 8 (.int .i64 ((0 : Nat) : Int)) _ (Or.inr rfl) rfl (lb_ I0.size) (wanted_none rfl) rfl (fun a0_5 fa0_5 => ?_)
  clear fa0_4
  refine wpList_nil ?_
  change Code.wp _ _ _ _ _
  refine wp_block ?_
  refine mBL2 (b := 200000 + i) (x := x) a0_5 wr (I0.keep fa0_5 rfl rfl) (show a0_5.eval (.tmp 7) = .int .i64 (i : Int) from ((fa0_5.at_ 7).trans h7)) (show a0_5.eval (.tmp 8) = .int .i64 ((0 : Nat) : Int) from (fa0_5.at_ 8)) hi hn rfl hx hc hr (fun d W2 i2 d5 hr2 f2 => ?_)
  change Code.wp _ _ _ _ _
  have fd_0 := Fe.refl d
  refine wp_region_list ?_
  unfold rAP10
  refine fd_0.move 49 (.int .i64 (i : Int)) _ (Or.inl rfl) rfl (lb_ i2.size) (wanted_none rfl) ((fd_0.at_ 7).trans d5) (fun d_1 fd_1 => ?_)
  clear fd_0
  have r_d_2 : (execOp d_1.eval oZB16).run Try.prog (W2) = .ok (.value (.int .i64 ((i : Int) + 1))) (W2) := by
    unfold oZB16
    have kc : ∀ v, d_1.eval (.const v) = v := fun _ => rfl
    have e49 := (show d_1.eval (.tmp 49) = .int .i64 (i : Int) from (fd_1.at_ 49))
    clear fd_1 hQ d5 h7
    generalize d_1.eval = ρ at *
    go_simp
  refine fd_1.step 50 (.int .i64 ((i : Int) + 1)) rfl (lb_ i2.size) (wanted_none rfl) r_d_2 (fun d_2 fd_2 => ?_)
  clear r_d_2
  clear fd_1
  refine fd_2.move 7 (.int .i64 ((i : Int) + 1)) _ (Or.inr rfl) rfl (lb_ i2.size) (wanted_none rfl) (fd_2.at_ 50) (fun d_3 fd_3 => ?_)
  clear fd_2
  refine wpList_nil ?_
  exact hQ d_3 W2 (i2.keep fd_3 rfl rfl) (show d_3.eval (.tmp 7) = .int .i64 ((i : Int) + 1) from (fd_3.at_ 7)) hr2 f2
set_option maxRecDepth 100000 in
theorem mBX {v0 : Value} {la : Option Addr} {n lc : Nat} {Q : Exit → Act → World → Prop} (a0 : Act) (wr : World) (I0 : IX v0 (.slice la n lc) a0) (h7 : a0.eval (.tmp 7) = .int .i64 (n : Int))
    (hQ : ∀ a, IX v0 (.slice la n lc) a → Q (.exit 4) a wr) : cMB1.wp Try.prog Q a0 wr := by
  have fa0_0 := Fe.refl a0
  unfold cMB1
  refine wp_seq (wp_seq ?_)
  refine wp_region_list ?_
  unfold rAP9
  refine fa0_0.move 45 (.int .i64 (n : Int)) _ (Or.inl rfl) rfl (lb_ I0.size) (wanted_none rfl) ((fa0_0.at_ 7).trans h7) (fun a0_1 fa0_1 => ?_)
  clear fa0_0
  refine fa0_1.move 46 (.slice la n lc) _ (Or.inl rfl) rfl (lb_ I0.size) (wanted_none rfl) ((fa0_1.at_ 1).trans I0.s1) (fun a0_2 fa0_2 => ?_)
  clear fa0_1
  have r_a0_3 : (execOp a0_2.eval oZB14).run Try.prog (wr) = .ok (.value (.int .i64 (n : Int))) (wr) := by
    unfold oZB14
    have e46 := (show a0_2.eval (.tmp 46) = .slice la n lc from (fa0_2.at_ 46))
    clear fa0_2 hQ h7
    generalize a0_2.eval = ρ at *
    go_simp
  refine fa0_2.step 47 (.int .i64 (n : Int)) rfl (lb_ I0.size) (wanted_none rfl) r_a0_3 (fun a0_3 fa0_3 => ?_)
  clear r_a0_3
  clear fa0_2
  have r_a0_4 : (execOp a0_3.eval oZB15).run Try.prog (wr) = .ok (.value (.bool false)) (wr) := by
    unfold oZB15
    have e45 := (show a0_3.eval (.tmp 45) = .int .i64 (n : Int) from (fa0_3.at_ 45))
    have e47 := (show a0_3.eval (.tmp 47) = .int .i64 (n : Int) from (fa0_3.at_ 47))
    clear fa0_3 hQ h7
    generalize a0_3.eval = ρ at *
    go_simp
  refine fa0_3.step 48 (.bool false) rfl (lb_ I0.size) (wanted_none rfl) r_a0_4 (fun a0_4 fa0_4 => ?_)
  clear r_a0_4
  clear fa0_3
  refine wpList_nil ?_
  change Code.wp _ _ _ _ _
  refine wp_cond_false (show a0_4.eval (.tmp 48) = .bool false from (fa0_4.at_ 48)) (wp_exit ?_)
  exact hQ a0_4 (I0.keep fa0_4 rfl rfl)
theorem mBL {v0 : Value} {la : Option Addr} {lb lo n lc : Nat} {L : List Sl} {Q : Exit → Act → World → Prop} (a0 : Act) (w : World) (I0 : IX v0 (.slice la n lc) a0) (h5 : a0.eval (.tmp 7) = .int .i64 ((0 : Nat) : Int))
    (hn : n ≤ 4000000) (hl : n = L.length) (ho : ∀ W, Fr (inB L) w W → OutAt 22 W la lb lo L) (hA : Apt fB w L)
    (hQ : ∀ a W, IX v0 (.slice la n lc) a → Mrk fB W L L.length 200000 → Fr (inB L) w W → Q (.exit 4) a W) : (Code.loop cMB1).wp Try.prog Q a0 w := by
  refine wp_loop (fun a W => IX v0 (.slice la n lc) a ∧ Fr (inB L) w W ∧ ∃ i : Nat, i ≤ n ∧ a.eval (.tmp 7) = .int .i64 (i : Int) ∧ Mrk fB W L i 200000) (fun a _ => n - kOf a 7) ⟨I0, Fr.refl _ w, 0, Nat.zero_le _, h5, Mrk.start hA _⟩ ?_
  rintro a W ⟨I1, f1, i, hi, g5, hM⟩
  by_cases hgo : i < n
  · obtain ⟨x, hx⟩ : ∃ x, L[i]? = some x := ⟨_, List.getElem?_eq_getElem (by omega)⟩
    have hne : L ≠ [] := by intro e; rw [e] at hx; simp at hx
    obtain ⟨rfl, _⟩ := (ho W f1).place hne
    obtain ⟨cs, hr⟩ := hM.apt.rows i x hx
    have fx : ∀ W2, Fr (fun j => x.blk = some j) W W2 → Fr (inB L) w W2 := fun W2 f2 => Fr.trans f1 f2 (fun k _ e => ⟨i, x, hx, e⟩)
    refine mBO a W I1 g5 hgo hn (hM.apt.len x (List.mem_of_getElem? hx)) (fun W2 f2 => (ho W2 (fx W2 f2)).cells i x hx) hr (fun a' W2 i2 k5 hr2 f2 => ?_)
    have h4 : a'.eval (.tmp 7) = .int .i64 ((i + 1 : Nat) : Int) := k5
    refine ⟨⟨i2, fx W2 f2, i + 1, hgo, h4, hM.next hx f2 hr2⟩, ?_⟩
    show n - kOf a' 7 < n - kOf a 7
    rw [kOf_eq h4, kOf_eq g5]
    omega
  · obtain rfl : i = n := by omega
    exact mBX a W I1 g5 (fun a' i2 => hQ a' W i2 (hl ▸ hM) f1)
end Go.Proofs.Ytneopkhkkfckcaa
