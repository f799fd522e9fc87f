/- apart: lists and chains are marked. -/
import Derived.Test.YtajbifblbmlffaaYKJ
namespace Go.Proofs.Ytajbifblbmlffaa
open Go.RowKit Go.Maps

abbrev fU : Fam := { e := 28, sz := 1, mrk := fun a => [.int .u32 (a : Int)], len := fun _ => rfl, one := fun a v hv => by simp only [List.mem_singleton] at hv; subst hv; rfl, pos := by decide }
abbrev fB : Fam := { e := 53, sz := 2, mrk := fun a => [.int .u32 (a : Int), .slice none 0 0], len := fun _ => rfl, one := fun a v hv => by simp only [List.mem_cons, List.not_mem_nil, or_false] at hv; rcases hv with rfl | rfl <;> rfl, pos := by decide }
theorem exec_storeF {P : Program} {ρ : Operand → Value} {o : Oper} {x y : Operand} {ty : TypeId} {w w' : World} (ho : o.op = .store ty x y) (h : (Instr.storeAt ty (ρ x) (ρ y)).run P w = .ok () w') : (execOp ρ o).run P w = .ok .skip w' := by
  unfold execOp
  simp only [ho, Sem.run_bind, Sem.run_pure, Result.andThen_ok, h]
/-- The frame while lists and chains are marked. -/
structure IX (v0 v1 : Value) (a : Act) : Prop where
  size : a.tmps.size = 262
  defers : a.defers = []
  s0 : a.eval (.tmp 0) = v0
  s1 : a.eval (.tmp 1) = v1
theorem IX.keep {v0 v1 : Value} {a0 a : Act} {env : List (Nat × Value)} (h : IX v0 v1 a0) (f : Fe a0 env a) (h0 : look env 0 (a0.eval (.tmp 0)) = a0.eval (.tmp 0)) (h1 : look env 1 (a0.eval (.tmp 1)) = a0.eval (.tmp 1)) : IX v0 v1 a :=
  ⟨f.size.trans h.size, f.defers.trans h.defers, ((f.at_ 0).trans h0).trans h.s0, ((f.at_ 1).trans h1).trans h.s1⟩
def oZB0 : Oper := { dst := some 23, op := .call { callee := .builtin .len, args := #[.tmp 22], argTypes := #[40] }, type := 3, pos := "memory.go:86", after := #[{ on := 1, ground := .data }], guard := none }
def oZB1 : Oper := { dst := some 24, op := .binOp .lss 3 (.tmp 21) (.tmp 23) 3, type := 4, pos := "memory.go:86", after := #[{ on := 0, ground := .data }, { on := 2, ground := .data }], guard := none }
def oZB2 : Oper := { dst := some 26, op := .binOp .add 3 (.tmp 25) (.const (.int .i64 1)) 3, type := 3, pos := "memory.go:86", after := #[{ on := 0, ground := .data }], guard := none }
def oZB3 : Oper := { dst := some 30, op := .indexAddr 40 (.tmp 28) (.tmp 29), type := 0, pos := "memory.go:87", after := #[{ on := 1, ground := .data }, { on := 2, ground := .data }], guard := none }
def oZB4 : Oper := { dst := some 31, op := .load 51 (.tmp 30), type := 51, pos := "memory.go:87", after := #[{ on := 3, ground := .data }], guard := none }
def oZB5 : Oper := { dst := some 32, op := .call { callee := .builtin .len, args := #[.tmp 31], argTypes := #[51] }, type := 3, pos := "memory.go:87", after := #[{ on := 4, ground := .data }], guard := none }
def oZB6 : Oper := { dst := some 33, op := .binOp .lss 3 (.tmp 27) (.tmp 32) 3, type := 4, pos := "memory.go:87", after := #[{ on := 0, ground := .data }, { on := 5, ground := .data }], guard := none }
def oZB7 : Oper := { dst := some 35, op := .binOp .add 3 (.tmp 34) (.const (.int .i64 1)) 3, type := 3, pos := "memory.go:87", after := #[{ on := 0, ground := .data }], guard := none }
def oZB8 : Oper := { dst := some 38, op := .indexAddr 40 (.tmp 36) (.tmp 37), type := 0, pos := "memory.go:88", after := #[{ on := 0, ground := .data }, { on := 1, ground := .data }], guard := none }
def oZB9 : Oper := { dst := some 39, op := .load 51 (.tmp 38), type := 51, pos := "memory.go:88", after := #[{ on := 2, ground := .data }], guard := none }
def oZB10 : Oper := { dst := some 42, op := .binOp .add 3 (.const (.int .i64 100000)) (.tmp 41) 3, type := 3, pos := "memory.go:88", after := #[{ on := 5, ground := .data }], guard := none }
def oZB11 : Oper := { dst := some 43, op := .convert 3 28 (.tmp 42), type := 28, pos := "memory.go:88", after := #[{ on := 6, ground := .data }], guard := none }
def oZB12 : Oper := { dst := some 44, op := .indexAddr 51 (.tmp 39) (.tmp 40), type := 0, pos := "memory.go:88", after := #[{ on := 3, ground := .data }, { on := 4, ground := .data }, { on := 0, ground := .phase }, { on := 1, ground := .phase }, { on := 2, ground := .phase }, { on := 3, ground := .phase }, { on := 4, ground := .phase }, { on := 5, ground := .phase }, { on := 6, ground := .phase }, { on := 7, ground := .phase }], guard := none }
def oZB13 : Oper := { dst := none, op := .store 28 (.tmp 44) (.tmp 43), type := 0, pos := "memory.go:88", after := #[{ on := 8, ground := .data }, { on := 7, ground := .data }, { on := 0, ground := .phase }, { on := 1, ground := .phase }, { on := 2, ground := .phase }, { on := 3, ground := .phase }, { on := 4, ground := .phase }, { on := 5, ground := .phase }, { on := 6, ground := .phase }, { on := 7, ground := .phase }], guard := none }
def oZB14 : Oper := { dst := some 47, op := .call { callee := .builtin .len, args := #[.tmp 46], argTypes := #[42] }, type := 3, pos := "memory.go:91", after := #[{ on := 1, ground := .data }], guard := none }
def oZB15 : Oper := { dst := some 48, op := .binOp .lss 3 (.tmp 45) (.tmp 47) 3, type := 4, pos := "memory.go:91", after := #[{ on := 0, ground := .data }, { on := 2, ground := .data }], guard := none }
def oZB16 : Oper := { dst := some 50, op := .binOp .add 3 (.tmp 49) (.const (.int .i64 1)) 3, type := 3, pos := "memory.go:91", after := #[{ on := 0, ground := .data }], guard := none }
def oZB17 : Oper := { dst := some 54, op := .indexAddr 42 (.tmp 52) (.tmp 53), type := 0, pos := "memory.go:92", after := #[{ on := 1, ground := .data }, { on := 2, ground := .data }], guard := none }
def oZB18 : Oper := { dst := some 55, op := .load 30 (.tmp 54), type := 30, pos := "memory.go:92", after := #[{ on := 3, ground := .data }], guard := none }
def oZB19 : Oper := { dst := some 56, op := .call { callee := .builtin .len, args := #[.tmp 55], argTypes := #[30] }, type := 3, pos := "memory.go:92", after := #[{ on := 4, ground := .data }], guard := none }
def oZB20 : Oper := { dst := some 57, op := .binOp .lss 3 (.tmp 51) (.tmp 56) 3, type := 4, pos := "memory.go:92", after := #[{ on := 0, ground := .data }, { on := 5, ground := .data }], guard := none }
def oZB21 : Oper := { dst := some 59, op := .binOp .add 3 (.tmp 58) (.const (.int .i64 1)) 3, type := 3, pos := "memory.go:92", after := #[{ on := 0, ground := .data }], guard := none }
def oZB22 : Oper := { dst := some 62, op := .indexAddr 42 (.tmp 60) (.tmp 61), type := 0, pos := "memory.go:93", after := #[{ on := 0, ground := .data }, { on := 1, ground := .data }], guard := none }
def oZB23 : Oper := { dst := some 63, op := .load 30 (.tmp 62), type := 30, pos := "memory.go:93", after := #[{ on := 2, ground := .data }], guard := none }
def oZB24 : Oper := { dst := some 66, op := .binOp .add 3 (.const (.int .i64 200000)) (.tmp 65) 3, type := 3, pos := "memory.go:93", after := #[{ on := 5, ground := .data }], guard := none }
def oZB25 : Oper := { dst := some 67, op := .convert 3 28 (.tmp 66), type := 28, pos := "memory.go:93", after := #[{ on := 6, ground := .data }], guard := none }
def oZB26 : Oper := { dst := some 68, op := .build 53 #[(0, .tmp 67)], type := 53, pos := "memory.go:93", after := #[{ on := 7, ground := .data }], guard := none }
def oZB27 : Oper := { dst := some 69, op := .indexAddr 30 (.tmp 63) (.tmp 64), type := 0, pos := "memory.go:93", after := #[{ on := 3, ground := .data }, { on := 4, ground := .data }, { on := 0, ground := .phase }, { on := 1, ground := .phase }, { on := 2, ground := .phase }, { on := 3, ground := .phase }, { on := 4, ground := .phase }, { on := 5, ground := .phase }, { on := 6, ground := .phase }, { on := 7, ground := .phase }, { on := 8, ground := .phase }], guard := none }
def oZB28 : Oper := { dst := none, op := .store 53 (.tmp 69) (.tmp 68), type := 0, pos := "memory.go:93", after := #[{ on := 9, ground := .data }, { on := 8, ground := .data }, { on := 0, ground := .phase }, { on := 1, ground := .phase }, { on := 2, ground := .phase }, { on := 3, ground := .phase }, { on := 4, ground := .phase }, { on := 5, ground := .phase }, { on := 6, ground := .phase }, { on := 7, ground := .phase }, { on := 8, ground := .phase }], guard := none }
def rAP2 : Array Oper := #[{ dst := some 21, op := .move (.tmp 5), type := 3, pos := "memory.go:86", after := #[], guard := none },
  { dst := some 22, op := .move (.tmp 0), type := 40, pos := "memory.go:86", after := #[], guard := none },
  oZB0,
  oZB1]
def rAP3 : Array Oper := #[{ dst := some 25, op := .move (.tmp 5), type := 3, pos := "memory.go:86", after := #[], guard := none },
  oZB2,
  { dst := some 5, op := .assign (.tmp 26), type := 3, pos := "memory.go:86", after := #[{ on := 1, ground := .data }, { on := 0, ground := .phase }, { on := 1, ground := .phase }], guard := none }]
def rAP4 : Array Oper := #[{ dst := some 6, op := .assign (.const (.int .i64 0)), type := 3, pos := "memory.go:87", after := #[], guard := none }]
def rAP5 : Array Oper := #[{ dst := some 27, op := .move (.tmp 6), type := 3, pos := "memory.go:87", after := #[], guard := none },
  { dst := some 28, op := .move (.tmp 0), type := 40, pos := "memory.go:87", after := #[], guard := none },
  { dst := some 29, op := .move (.tmp 5), type := 3, pos := "memory.go:87", after := #[], guard := none },
  oZB3,
  oZB4,
  oZB5,
  oZB6]
def rAP6 : Array Oper := #[{ dst := some 34, op := .move (.tmp 6), type := 3, pos := "memory.go:87", after := #[], guard := none },
  oZB7,
  { dst := some 6, op := .assign (.tmp 35), type := 3, pos := "memory.go:87", after := #[{ on := 1, ground := .data }, { on := 0, ground := .phase }, { on := 1, ground := .phase }], guard := none }]
def rAP7 : Array Oper := #[{ dst := some 36, op := .move (.tmp 0), type := 40, pos := "memory.go:88", after := #[], guard := none },
  { dst := some 37, op := .move (.tmp 5), type := 3, pos := "memory.go:88", after := #[], guard := none },
  oZB8,
  oZB9,
  { dst := some 40, op := .move (.tmp 6), type := 3, pos := "memory.go:88", after := #[], guard := none },
  { dst := some 41, op := .move (.tmp 5), type := 3, pos := "memory.go:88", after := #[], guard := none },
  oZB10,
  oZB11,
  oZB12,
  oZB13]
def rAP9 : Array Oper := #[{ dst := some 45, op := .move (.tmp 7), type := 3, pos := "memory.go:91", after := #[], guard := none },
  { dst := some 46, op := .move (.tmp 1), type := 42, pos := "memory.go:91", after := #[], guard := none },
  oZB14,
  oZB15]
def rAP10 : Array Oper := #[{ dst := some 49, op := .move (.tmp 7), type := 3, pos := "memory.go:91", after := #[], guard := none },
  oZB16,
  { dst := some 7, op := .assign (.tmp 50), type := 3, pos := "memory.go:91", after := #[{ on := 1, ground := .data }, { on := 0, ground := .phase }, { on := 1, ground := .phase }], guard := none }]
def rAP11 : Array Oper := #[{ dst := some 8, op := .assign (.const (.int .i64 0)), type := 3, pos := "memory.go:92", after := #[], guard := none }]
def rAP12 : Array Oper := #[{ dst := some 51, op := .move (.tmp 8), type := 3, pos := "memory.go:92", after := #[], guard := none },
  { dst := some 52, op := .move (.tmp 1), type := 42, pos := "memory.go:92", after := #[], guard := none },
  { dst := some 53, op := .move (.tmp 7), type := 3, pos := "memory.go:92", after := #[], guard := none },
  oZB17,
  oZB18,
  oZB19,
  oZB20]
def rAP13 : Array Oper := #[{ dst := some 58, op := .move (.tmp 8), type := 3, pos := "memory.go:92", after := #[], guard := none },
  oZB21,
  { dst := some 8, op := .assign (.tmp 59), type := 3, pos := "memory.go:92", after := #[{ on := 1, ground := .data }, { on := 0, ground := .phase }, { on := 1, ground := .phase }], guard := none }]
def rAP14 : Array Oper := #[{ dst := some 60, op := .move (.tmp 1), type := 42, pos := "memory.go:93", after := #[], guard := none },
  { dst := some 61, op := .move (.tmp 7), type := 3, pos := "memory.go:93", after := #[], guard := none },
  oZB22,
  oZB23,
  { dst := some 64, op := .move (.tmp 8), type := 3, pos := "memory.go:93", after := #[], guard := none },
  { dst := some 65, op := .move (.tmp 7), type := 3, pos := "memory.go:93", after := #[], guard := none },
  oZB24,
  oZB25,
  oZB26,
  oZB27,
  oZB28]
def cMU2 : Code := (.seq (.seq (.region 5 rAP5 false) (.cond (.tmp 33) .skip (.exit 2))) (.seq (.block 3 (.region 7 rAP7 false)) (.region 6 rAP6 false)))
def cMU1 : Code := (.seq (.seq (.region 2 rAP2 false) (.cond (.tmp 24) .skip (.exit 0))) (.seq (.block 1 (.seq (.region 4 rAP4 false) (.block 2 (.loop cMU2)))) (.region 3 rAP3 false)))
set_option maxRecDepth 100000 in
set_option maxHeartbeats 1000000 in
theorem mUR {v1 : Value} {lb lo n lc g xn xc i k b : Nat} {Q : Exit → Act → World → Prop} (a0 : Act) (wr : World) (I0 : IX (.slice (some ⟨lb, lo, none⟩) n lc) v1 a0) (h5 : a0.eval (.tmp 5) = .int .i64 (i : Int)) (h6 : a0.eval (.tmp 6) = .int .i64 (k : Int))
    (hi : i < n) (hn : n ≤ 4000000) (hb : b = 100000 + i) (hk : k < xn) (hx : xn ≤ 1099511627000) (c1 : wr.cell? ⟨lb, lo + i, none⟩ = some (.slice (some ⟨g, 0, none⟩) xn xc)) (hth : wr.there g (k * 1) 1)
    (hQ : ∀ a, IX (.slice (some ⟨lb, lo, none⟩) n lc) v1 a → a.eval (.tmp 5) = .int .i64 (i : Int) → a.eval (.tmp 6) = .int .i64 ((k : Int) + 1) → Q .normal a (wr.setCells g (k * 1) [.int .u32 (b : Int)])) : cMU2.wp Try.prog Q a0 wr := by
  have hii : (i : Int) < (n : Int) := by omega
  have hki : (k : Int) < (xn : Int) := by omega
  have w3 : RowKit.wrap64 (100000 + (i : Int)) = (b : Int) := by unfold RowKit.wrap64; omega
  have w4 : IntKind.u32.wrap (b : Int) = (b : Int) := by rw [IntKind.wrap_u32]; omega
  have w5 : IntKind.i64.wrap (100000 + (i : Int)) = (b : Int) := by rw [IntKind.wrap_i64]; omega
  have w7 : IntKind.i64.wrap ((k : Int) + 1) = (k : Int) + 1 := by rw [IntKind.wrap_i64]; omega
  clear hb
  have g_0 := Fe.refl a0
  unfold cMU2
  refine wp_seq (wp_seq ?_)
  refine wp_region_list ?_
  unfold rAP5
  refine g_0.move 27 (.int .i64 (k : Int)) _ (Or.inl rfl) rfl (lb_ I0.size) (wn rfl) ((g_0.at_ 6).trans h6) (fun x_1 g_1 => ?_)
  clear g_0
  refine g_1.move 28 (.slice (some ⟨lb, lo, none⟩) n lc) _ (Or.inl rfl) rfl (lb_ I0.size) (wn rfl) ((g_1.at_ 0).trans I0.s0) (fun x_2 g_2 => ?_)
  clear g_1
  refine g_2.move 29 (.int .i64 (i : Int)) _ (Or.inl rfl) rfl (lb_ I0.size) (wn rfl) ((g_2.at_ 5).trans h5) (fun x_3 g_3 => ?_)
  clear g_2
  have r_4 : (execOp x_3.eval oZB3).run Try.prog (wr) = .ok (.value (.pointer (some ⟨lb, lo + i, none⟩))) (wr) := by
    unfold oZB3
    have e28 : x_3.eval (.tmp 28) = .slice (some ⟨lb, lo, none⟩) n lc := g_3.at_ 28
    have e29 : x_3.eval (.tmp 29) = .int .i64 (i : Int) := g_3.at_ 29
    clear g_3 hQ h5 h6
    generalize x_3.eval = ρ at *
    go_simp
  refine g_3.step 30 _ rfl (lb_ I0.size) (wn rfl) r_4 (fun x_4 g_4 => ?_)
  clear r_4 g_3
  have r_5 : (execOp x_4.eval oZB4).run Try.prog (wr) = .ok (.value (.slice (some ⟨g, 0, none⟩) xn xc)) (wr) := by
    unfold oZB4
    have e30 : x_4.eval (.tmp 30) = .pointer (some ⟨lb, lo + i, none⟩) := g_4.at_ 30
    clear g_4 hQ h5 h6
    generalize x_4.eval = ρ at *
    go_simp
  refine g_4.step 31 _ rfl (lb_ I0.size) (wn rfl) r_5 (fun x_5 g_5 => ?_)
  clear r_5 g_4
  have r_6 : (execOp x_5.eval oZB5).run Try.prog (wr) = .ok (.value (.int .i64 (xn : Int))) (wr) := by
    unfold oZB5
    have e31 : x_5.eval (.tmp 31) = .slice (some ⟨g, 0, none⟩) xn xc := g_5.at_ 31
    clear g_5 hQ h5 h6
    generalize x_5.eval = ρ at *
    go_simp
  refine g_5.step 32 _ rfl (lb_ I0.size) (wn rfl) r_6 (fun x_6 g_6 => ?_)
  clear r_6 g_5
  have r_7 : (execOp x_6.eval oZB6).run Try.prog (wr) = .ok (.value (.bool true)) (wr) := by
    unfold oZB6
    have e27 : x_6.eval (.tmp 27) = .int .i64 (k : Int) := g_6.at_ 27
    have e32 : x_6.eval (.tmp 32) = .int .i64 (xn : Int) := g_6.at_ 32
    clear g_6 hQ h5 h6
    generalize x_6.eval = ρ at *
    go_simp
  refine g_6.step 33 _ rfl (lb_ I0.size) (wn rfl) r_7 (fun x_7 g_7 => ?_)
  clear r_7 g_6
  refine wpList_nil ?_
  change Code.wp _ _ _ _ _
  refine wp_cond_true (show x_7.eval (.tmp 33) = .bool true from (g_7.at_ 33)) (wp_skip ?_)
  change Code.wp _ _ _ _ _
  refine wp_seq (wp_block ?_)
  obtain ⟨y, c2⟩ := Option.isSome_iff_exists.1 (hth 0 (by decide)).1
  have hfz := (hth 0 (by decide)).2
  rw [Nat.mul_one, Nat.add_zero] at c2 hfz
  refine wp_region_list ?_
  unfold rAP7
  refine g_7.move 36 (.slice (some ⟨lb, lo, none⟩) n lc) _ (Or.inl rfl) rfl (lb_ I0.size) (wn rfl) ((g_7.at_ 0).trans I0.s0) (fun x_8 g_8 => ?_)
  clear g_7
  refine g_8.move 37 (.int .i64 (i : Int)) _ (Or.inl rfl) rfl (lb_ I0.size) (wn rfl) ((g_8.at_ 5).trans h5) (fun x_9 g_9 => ?_)
  clear g_8
  have r_10 : (execOp x_9.eval oZB8).run Try.prog (wr) = .ok (.value (.pointer (some ⟨lb, lo + i, none⟩))) (wr) := by
    unfold oZB8
    have e36 : x_9.eval (.tmp 36) = .slice (some ⟨lb, lo, none⟩) n lc := g_9.at_ 36
    have e37 : x_9.eval (.tmp 37) = .int .i64 (i : Int) := g_9.at_ 37
    clear g_9 hQ h5 h6
    generalize x_9.eval = ρ at *
    go_simp
  refine g_9.step 38 _ rfl (lb_ I0.size) (wn rfl) r_10 (fun x_10 g_10 => ?_)
  clear r_10 g_9
  have r_11 : (execOp x_10.eval oZB9).run Try.prog (wr) = .ok (.value (.slice (some ⟨g, 0, none⟩) xn xc)) (wr) := by
    unfold oZB9
    have e38 : x_10.eval (.tmp 38) = .pointer (some ⟨lb, lo + i, none⟩) := g_10.at_ 38
    clear g_10 hQ h5 h6
    generalize x_10.eval = ρ at *
    go_simp
  refine g_10.step 39 _ rfl (lb_ I0.size) (wn rfl) r_11 (fun x_11 g_11 => ?_)
  clear r_11 g_10
  refine g_11.move 40 (.int .i64 (k : Int)) _ (Or.inl rfl) rfl (lb_ I0.size) (wn rfl) ((g_11.at_ 6).trans h6) (fun x_12 g_12 => ?_)
  clear g_11
  refine g_12.move 41 (.int .i64 (i : Int)) _ (Or.inl rfl) rfl (lb_ I0.size) (wn rfl) ((g_12.at_ 5).trans h5) (fun x_13 g_13 => ?_)
  clear g_12
  have r_14 : (execOp x_13.eval oZB10).run Try.prog (wr) = .ok (.value (.int .i64 (b : Int))) (wr) := by
    unfold oZB10
    have kc : ∀ v, x_13.eval (.const v) = v := fun _ => rfl
    have e41 : x_13.eval (.tmp 41) = .int .i64 (i : Int) := g_13.at_ 41
    clear g_13 hQ h5 h6
    generalize x_13.eval = ρ at *
    go_simp
  refine g_13.step 42 _ rfl (lb_ I0.size) (wn rfl) r_14 (fun x_14 g_14 => ?_)
  clear r_14 g_13
  have r_15 : (execOp x_14.eval oZB11).run Try.prog (wr) = .ok (.value (.int .u32 (b : Int))) (wr) := by
    unfold oZB11
    have e42 : x_14.eval (.tmp 42) = .int .i64 (b : Int) := g_14.at_ 42
    clear g_14 hQ h5 h6
    generalize x_14.eval = ρ at *
    go_simp
  refine g_14.step 43 _ rfl (lb_ I0.size) (wn rfl) r_15 (fun x_15 g_15 => ?_)
  clear r_15 g_14
  have r_16 : (execOp x_15.eval oZB12).run Try.prog (wr) = .ok (.value (.pointer (some ⟨g, k, none⟩))) (wr) := by
    unfold oZB12
    have e39 : x_15.eval (.tmp 39) = .slice (some ⟨g, 0, none⟩) xn xc := g_15.at_ 39
    have e40 : x_15.eval (.tmp 40) = .int .i64 (k : Int) := g_15.at_ 40
    clear g_15 hQ h5 h6
    generalize x_15.eval = ρ at *
    go_simp
  refine g_15.step 44 _ rfl (lb_ I0.size) (wn rfl) r_16 (fun x_16 g_16 => ?_)
  clear r_16 g_15
  have r_17 : (execOp x_16.eval oZB13).run Try.prog (wr) = .ok .skip (wr.setCell ⟨g, k, none⟩ (.int .u32 (b : Int))) := by
    unfold oZB13
    have e44 : x_16.eval (.tmp 44) = .pointer (some ⟨g, k, none⟩) := g_16.at_ 44
    have e43 : x_16.eval (.tmp 43) = .int .u32 (b : Int) := g_16.at_ 43
    clear g_16 hQ h5 h6
    generalize x_16.eval = ρ at *
    go_simp
  refine g_16.store rfl (wn rfl) r_17 (fun x_17 g_17 => ?_)
  clear r_17 g_16
  refine wpList_nil ?_
  change Code.wp _ _ _ _ _
  refine wp_region_list ?_
  unfold rAP6
  refine g_17.move 34 (.int .i64 (k : Int)) _ (Or.inl rfl) rfl (lb_ I0.size) (wn rfl) ((g_17.at_ 6).trans h6) (fun x_18 g_18 => ?_)
  clear g_17
  have r_19 : (execOp x_18.eval oZB7).run Try.prog (wr.setCell ⟨g, k, none⟩ (.int .u32 (b : Int))) = .ok (.value (.int .i64 ((k : Int) + 1))) (wr.setCell ⟨g, k, none⟩ (.int .u32 (b : Int))) := by
    unfold oZB7
    have kc : ∀ v, x_18.eval (.const v) = v := fun _ => rfl
    have e34 : x_18.eval (.tmp 34) = .int .i64 (k : Int) := g_18.at_ 34
    clear g_18 hQ h5 h6
    generalize x_18.eval = ρ at *
    go_simp
  refine g_18.step 35 _ rfl (lb_ I0.size) (wn rfl) r_19 (fun x_19 g_19 => ?_)
  clear r_19 g_18
  refine g_19.move 6 (.int .i64 ((k : Int) + 1)) _ (Or.inr rfl) rfl (lb_ I0.size) (wn rfl) (g_19.at_ 35) (fun x_20 g_20 => ?_)
  clear g_19
  refine wpList_nil ?_
  rw [show wr.setCell ⟨g, k, none⟩ (.int .u32 (b : Int)) = wr.setCells g (k * 1) [.int .u32 (b : Int)] from by rw [Nat.mul_one]; rfl]
  exact hQ x_20 (I0.keep g_20 rfl rfl) (show x_20.eval (.tmp 5) = .int .i64 (i : Int) from ((g_20.at_ 5).trans h5)) (show x_20.eval (.tmp 6) = .int .i64 ((k : Int) + 1) from (g_20.at_ 6))
set_option maxRecDepth 100000 in
theorem mUE {v1 : Value} {lb lo n lc xn xc i : Nat} {xa : Option Addr} {Q : Exit → Act → World → Prop} (a0 : Act) (wr : World) (I0 : IX (.slice (some ⟨lb, lo, none⟩) n lc) v1 a0) (h5 : a0.eval (.tmp 5) = .int .i64 (i : Int)) (h6 : a0.eval (.tmp 6) = .int .i64 (xn : Int))
    (hi : i < n) (c1 : wr.cell? ⟨lb, lo + i, none⟩ = some (.slice xa xn xc))
    (hQ : ∀ a, IX (.slice (some ⟨lb, lo, none⟩) n lc) v1 a → a.eval (.tmp 5) = .int .i64 (i : Int) → Q (.exit 2) a wr) : cMU2.wp Try.prog Q a0 wr := by
  have hii : (i : Int) < (n : Int) := by omega
  have g_0 := Fe.refl a0
  unfold cMU2
  refine wp_seq (wp_seq ?_)
  refine wp_region_list ?_
  unfold rAP5
  refine g_0.move 27 (.int .i64 (xn : Int)) _ (Or.inl rfl) rfl (lb_ I0.size) (wn rfl) ((g_0.at_ 6).trans h6) (fun x_1 g_1 => ?_)
  clear g_0
  refine g_1.move 28 (.slice (some ⟨lb, lo, none⟩) n lc) _ (Or.inl rfl) rfl (lb_ I0.size) (wn rfl) ((g_1.at_ 0).trans I0.s0) (fun x_2 g_2 => ?_)
  clear g_1
  refine g_2.move 29 (.int .i64 (i : Int)) _ (Or.inl rfl) rfl (lb_ I0.size) (wn rfl) ((g_2.at_ 5).trans h5) (fun x_3 g_3 => ?_)
  clear g_2
  have r_4 : (execOp x_3.eval oZB3).run Try.prog (wr) = .ok (.value (.pointer (some ⟨lb, lo + i, none⟩))) (wr) := by
    unfold oZB3
    have e28 : x_3.eval (.tmp 28) = .slice (some ⟨lb, lo, none⟩) n lc := g_3.at_ 28
    have e29 : x_3.eval (.tmp 29) = .int .i64 (i : Int) := g_3.at_ 29
    clear g_3 hQ h5 h6
    generalize x_3.eval = ρ at *
    go_simp
  refine g_3.step 30 _ rfl (lb_ I0.size) (wn rfl) r_4 (fun x_4 g_4 => ?_)
  clear r_4 g_3
  have r_5 : (execOp x_4.eval oZB4).run Try.prog (wr) = .ok (.value (.slice xa xn xc)) (wr) := by
    unfold oZB4
    have e30 : x_4.eval (.tmp 30) = .pointer (some ⟨lb, lo + i, none⟩) := g_4.at_ 30
    clear g_4 hQ h5 h6
    generalize x_4.eval = ρ at *
    go_simp
  refine g_4.step 31 _ rfl (lb_ I0.size) (wn rfl) r_5 (fun x_5 g_5 => ?_)
  clear r_5 g_4
  have r_6 : (execOp x_5.eval oZB5).run Try.prog (wr) = .ok (.value (.int .i64 (xn : Int))) (wr) := by
    unfold oZB5
    have e31 : x_5.eval (.tmp 31) = .slice xa xn xc := g_5.at_ 31
    clear g_5 hQ h5 h6
    generalize x_5.eval = ρ at *
    go_simp
  refine g_5.step 32 _ rfl (lb_ I0.size) (wn rfl) r_6 (fun x_6 g_6 => ?_)
  clear r_6 g_5
  have r_7 : (execOp x_6.eval oZB6).run Try.prog (wr) = .ok (.value (.bool false)) (wr) := by
    unfold oZB6
    have e27 : x_6.eval (.tmp 27) = .int .i64 (xn : Int) := g_6.at_ 27
    have e32 : x_6.eval (.tmp 32) = .int .i64 (xn : Int) := g_6.at_ 32
    clear g_6 hQ h5 h6
    generalize x_6.eval = ρ at *
    go_simp
  refine g_6.step 33 _ rfl (lb_ I0.size) (wn rfl) r_7 (fun x_7 g_7 => ?_)
  clear r_7 g_6
  refine wpList_nil ?_
  change Code.wp _ _ _ _ _
  refine wp_cond_false (show x_7.eval (.tmp 33) = .bool false from (g_7.at_ 33)) (wp_exit ?_)
  exact hQ x_7 (I0.keep g_7 rfl rfl) (show x_7.eval (.tmp 5) = .int .i64 (i : Int) from ((g_7.at_ 5).trans h5))
theorem mUL2 {v1 : Value} {lb lo n lc i b : Nat} {x : Sl} {cs : List Value} {Q : Exit → Act → World → Prop} (a0 : Act) (w1 : World) (I0 : IX (.slice (some ⟨lb, lo, none⟩) n lc) v1 a0) (h5 : a0.eval (.tmp 5) = .int .i64 (i : Int)) (h6 : a0.eval (.tmp 6) = .int .i64 ((0 : Nat) : Int))
    (hi : i < n) (hn : n ≤ 4000000) (hb : b = 100000 + i) (hx : x.n ≤ 1099511627000) (hc : ∀ W, Fr (fun j => x.blk = some j) w1 W → W.cell? ⟨lb, lo + i, none⟩ = some x.v) (hr : RX fU w1 x cs)
    (hQ : ∀ a W, IX (.slice (some ⟨lb, lo, none⟩) n lc) v1 a → a.eval (.tmp 5) = .int .i64 (i : Int) → RX fU W x (rp fU x.n b) → Fr (fun j => x.blk = some j) w1 W → Q (.exit 2) a W) : (Code.loop cMU2).wp Try.prog Q a0 w1 := by
  refine wp_loop (fun a W => IX (.slice (some ⟨lb, lo, none⟩) n lc) v1 a ∧ a.eval (.tmp 5) = .int .i64 (i : Int) ∧ ∃ k : Nat, k ≤ x.n ∧ a.eval (.tmp 6) = .int .i64 (k : Int) ∧ MkI fU w1 W x k b) (fun a _ => x.n - kOf a 6) ⟨I0, h5, 0, Nat.zero_le _, h6, MkI.start hr b⟩ ?_
  rintro a W ⟨I1, g5, k, hk, g6, hM⟩
  have c1 := hc W hM.base
  by_cases hgo : k < x.n
  · obtain ⟨cs1, hr1, _⟩ := hM.row
    obtain ⟨xa, xn, xc⟩ := x
    obtain ⟨g, rfl, _⟩ := own_some hr1 (Nat.ne_of_gt (Nat.lt_of_le_of_lt (Nat.zero_le _) hgo))
    refine mUR a W I1 g5 g6 hi hn hb hgo hx c1 (hr1.there rfl hgo) (fun a' i2 k5 k6 => ?_)
    have h4 : a'.eval (.tmp 6) = .int .i64 ((k + 1 : Nat) : Int) := k6
    refine ⟨⟨i2, k5, k + 1, hgo, h4, hM.next rfl hgo⟩, ?_⟩
    show xn - kOf a' 6 < xn - kOf a 6
    rw [kOf_eq h4, kOf_eq g6]
    simp only at hgo
    omega
  · obtain rfl : k = x.n := by omega
    exact mUE a W I1 g5 g6 hi c1 (fun a' i2 k5 => hQ a' W i2 k5 hM.done hM.base)
set_option maxRecDepth 100000 in
theorem mUO {v1 : Value} {lb lo n lc i : Nat} {x : Sl} {cs : List Value} {Q : Exit → Act → World → Prop} (a0 : Act) (wr : World) (I0 : IX (.slice (some ⟨lb, lo, none⟩) n lc) v1 a0) (h5 : a0.eval (.tmp 5) = .int .i64 (i : Int))
    (hi : i < n) (hn : n ≤ 4000000) (hx : x.n ≤ 1099511627000) (hc : ∀ W, Fr (fun j => x.blk = some j) wr W → W.cell? ⟨lb, lo + i, none⟩ = some x.v) (hr : RX fU wr x cs)
    (hQ : ∀ a W, IX (.slice (some ⟨lb, lo, none⟩) n lc) v1 a → a.eval (.tmp 5) = .int .i64 ((i : Int) + 1) → RX fU W x (rp fU x.n (100000 + i)) → Fr (fun j => x.blk = some j) wr W → Q .normal a W) : cMU1.wp Try.prog Q a0 wr := by
  have hii : (i : Int) < (n : Int) := by omega
  have w7 : IntKind.i64.wrap ((i : Int) + 1) = (i : Int) + 1 := by rw [IntKind.wrap_i64]; omega
  have g_0 := Fe.refl a0
  unfold cMU1
  refine wp_seq (wp_seq ?_)
  refine wp_region_list ?_
  unfold rAP2
  refine g_0.move 21 (.int .i64 (i : Int)) _ (Or.inl rfl) rfl (lb_ I0.size) (wn rfl) ((g_0.at_ 5).trans h5) (fun x_1 g_1 => ?_)
  clear g_0
  refine g_1.move 22 (.slice (some ⟨lb, lo, none⟩) n lc) _ (Or.inl rfl) rfl (lb_ I0.size) (wn rfl) ((g_1.at_ 0).trans I0.s0) (fun x_2 g_2 => ?_)
  clear g_1
  have r_3 : (execOp x_2.eval oZB0).run Try.prog (wr) = .ok (.value (.int .i64 (n : Int))) (wr) := by
    unfold oZB0
    have e22 : x_2.eval (.tmp 22) = .slice (some ⟨lb, lo, none⟩) n lc := g_2.at_ 22
    clear g_2 hQ h5
    generalize x_2.eval = ρ at *
    go_simp
  refine g_2.step 23 _ rfl (lb_ I0.size) (wn rfl) r_3 (fun x_3 g_3 => ?_)
  clear r_3 g_2
  have r_4 : (execOp x_3.eval oZB1).run Try.prog (wr) = .ok (.value (.bool true)) (wr) := by
    unfold oZB1
    have e21 : x_3.eval (.tmp 21) = .int .i64 (i : Int) := g_3.at_ 21
    have e23 : x_3.eval (.tmp 23) = .int .i64 (n : Int) := g_3.at_ 23
    clear g_3 hQ h5
    generalize x_3.eval = ρ at *
    go_simp
  refine g_3.step 24 _ rfl (lb_ I0.size) (wn rfl) r_4 (fun x_4 g_4 => ?_)
  clear r_4 g_3
  refine wpList_nil ?_
  change Code.wp _ _ _ _ _
  refine wp_cond_true (show x_4.eval (.tmp 24) = .bool true from (g_4.at_ 24)) (wp_skip ?_)
  change Code.wp _ _ _ _ _
  refine wp_seq (wp_block (wp_seq ?_))
  refine wp_region_list ?_
  unfold rAP4
  refine g_4.move 6 (.int .i64 ((0 : Nat) : Int)) _ (Or.inr rfl) rfl (lb_ I0.size) (wn rfl) rfl (fun x_5 g_5 => ?_)
  clear g_4
  refine wpList_nil ?_
  change Code.wp _ _ _ _ _
  refine wp_block ?_
  refine mUL2 (b := 100000 + i) (x := x) x_5 wr (I0.keep g_5 rfl rfl) (show x_5.eval (.tmp 5) = .int .i64 (i : Int) from ((g_5.at_ 5).trans h5)) (show x_5.eval (.tmp 6) = .int .i64 ((0 : Nat) : Int) from (g_5.at_ 6)) hi hn rfl hx hc hr (fun d W2 i2 d5 hr2 f2 => ?_)
  change Code.wp _ _ _ _ _
  have fd_0 := Fe.refl d
  refine wp_region_list ?_
  unfold rAP3
  refine fd_0.move 25 (.int .i64 (i : Int)) _ (Or.inl rfl) rfl (lb_ i2.size) (wn rfl) ((fd_0.at_ 5).trans d5) (fun d_1 fd_1 => ?_)
  clear fd_0
  have r_d_2 : (execOp d_1.eval oZB2).run Try.prog (W2) = .ok (.value (.int .i64 ((i : Int) + 1))) (W2) := by
    unfold oZB2
    have kc : ∀ v, d_1.eval (.const v) = v := fun _ => rfl
    have e25 : d_1.eval (.tmp 25) = .int .i64 (i : Int) := fd_1.at_ 25
    clear fd_1 hQ d5 h5
    generalize d_1.eval = ρ at *
    go_simp
  refine fd_1.step 26 _ rfl (lb_ i2.size) (wn rfl) r_d_2 (fun d_2 fd_2 => ?_)
  clear r_d_2 fd_1
  refine fd_2.move 5 (.int .i64 ((i : Int) + 1)) _ (Or.inr rfl) rfl (lb_ i2.size) (wn rfl) (fd_2.at_ 26) (fun d_3 fd_3 => ?_)
  clear fd_2
  refine wpList_nil ?_
  exact hQ d_3 W2 (i2.keep fd_3 rfl rfl) (show d_3.eval (.tmp 5) = .int .i64 ((i : Int) + 1) from (fd_3.at_ 5)) hr2 f2
set_option maxRecDepth 100000 in
theorem mUX {v1 : Value} {la : Option Addr} {n lc : Nat} {Q : Exit → Act → World → Prop} (a0 : Act) (wr : World) (I0 : IX (.slice la n lc) v1 a0) (h5 : a0.eval (.tmp 5) = .int .i64 (n : Int))
    (hQ : ∀ a, IX (.slice la n lc) v1 a → Q (.exit 0) a wr) : cMU1.wp Try.prog Q a0 wr := by
  have g_0 := Fe.refl a0
  unfold cMU1
  refine wp_seq (wp_seq ?_)
  refine wp_region_list ?_
  unfold rAP2
  refine g_0.move 21 (.int .i64 (n : Int)) _ (Or.inl rfl) rfl (lb_ I0.size) (wn rfl) ((g_0.at_ 5).trans h5) (fun x_1 g_1 => ?_)
  clear g_0
  refine g_1.move 22 (.slice la n lc) _ (Or.inl rfl) rfl (lb_ I0.size) (wn rfl) ((g_1.at_ 0).trans I0.s0) (fun x_2 g_2 => ?_)
  clear g_1
  have r_3 : (execOp x_2.eval oZB0).run Try.prog (wr) = .ok (.value (.int .i64 (n : Int))) (wr) := by
    unfold oZB0
    have e22 : x_2.eval (.tmp 22) = .slice la n lc := g_2.at_ 22
    clear g_2 hQ h5
    generalize x_2.eval = ρ at *
    go_simp
  refine g_2.step 23 _ rfl (lb_ I0.size) (wn rfl) r_3 (fun x_3 g_3 => ?_)
  clear r_3 g_2
  have r_4 : (execOp x_3.eval oZB1).run Try.prog (wr) = .ok (.value (.bool false)) (wr) := by
    unfold oZB1
    have e21 : x_3.eval (.tmp 21) = .int .i64 (n : Int) := g_3.at_ 21
    have e23 : x_3.eval (.tmp 23) = .int .i64 (n : Int) := g_3.at_ 23
    clear g_3 hQ h5
    generalize x_3.eval = ρ at *
    go_simp
  refine g_3.step 24 _ rfl (lb_ I0.size) (wn rfl) r_4 (fun x_4 g_4 => ?_)
  clear r_4 g_3
  refine wpList_nil ?_
  change Code.wp _ _ _ _ _
  refine wp_cond_false (show x_4.eval (.tmp 24) = .bool false from (g_4.at_ 24)) (wp_exit ?_)
  exact hQ x_4 (I0.keep g_4 rfl rfl)
theorem mUL {v1 : Value} {la : Option Addr} {lb lo n lc : Nat} {L : List Sl} {Q : Exit → Act → World → Prop} (a0 : Act) (w : World) (I0 : IX (.slice la n lc) v1 a0) (h5 : a0.eval (.tmp 5) = .int .i64 ((0 : Nat) : Int))
    (hn : n ≤ 4000000) (hl : n = L.length) (ho : ∀ W, Fr (inB L) w W → OutAt 51 W la lb lo L) (hA : Apt fU w L)
    (hQ : ∀ a W, IX (.slice la n lc) v1 a → Mrk fU W L L.length 100000 → Fr (inB L) w W → Q (.exit 0) a W) : (Code.loop cMU1).wp Try.prog Q a0 w := by
  refine wp_loop (fun a W => IX (.slice la n lc) v1 a ∧ Fr (inB L) w W ∧ ∃ i : Nat, i ≤ n ∧ a.eval (.tmp 5) = .int .i64 (i : Int) ∧ Mrk fU W L i 100000) (fun a _ => n - kOf a 5) ⟨I0, Fr.refl _ w, 0, Nat.zero_le _, h5, Mrk.start hA _⟩ ?_
  rintro a W ⟨I1, f1, i, hi, g5, hM⟩
  by_cases hgo : i < n
  · obtain ⟨x, hx⟩ : ∃ x, L[i]? = some x := ⟨_, List.getElem?_eq_getElem (by omega)⟩
    have hne : L ≠ [] := by intro e; rw [e] at hx; simp at hx
    obtain ⟨rfl, _⟩ := (ho W f1).place hne
    obtain ⟨cs, hr⟩ := hM.apt.rows i x hx
    have fx : ∀ W2, Fr (fun j => x.blk = some j) W W2 → Fr (inB L) w W2 := fun W2 f2 => Fr.trans f1 f2 (fun k _ e => ⟨i, x, hx, e⟩)
    refine mUO a W I1 g5 hgo hn (hM.apt.len x (List.mem_of_getElem? hx)) (fun W2 f2 => (ho W2 (fx W2 f2)).cells i x hx) hr (fun a' W2 i2 k5 hr2 f2 => ?_)
    have h4 : a'.eval (.tmp 5) = .int .i64 ((i + 1 : Nat) : Int) := k5
    refine ⟨⟨i2, fx W2 f2, i + 1, hgo, h4, hM.next hx f2 hr2⟩, ?_⟩
    show n - kOf a' 5 < n - kOf a 5
    rw [kOf_eq h4, kOf_eq g5]
    omega
  · obtain rfl : i = n := by omega
    exact mUX a W I1 g5 (fun a' i2 => hQ a' W i2 (hl ▸ hM) f1)
def cMB2 : Code := (.seq (.seq (.region 12 rAP12 false) (.cond (.tmp 57) .skip (.exit 6))) (.seq (.block 7 (.region 14 rAP14 false)) (.region 13 rAP13 false)))
def cMB1 : Code := (.seq (.seq (.region 9 rAP9 false) (.cond (.tmp 48) .skip (.exit 4))) (.seq (.block 5 (.seq (.region 11 rAP11 false) (.block 6 (.loop cMB2)))) (.region 10 rAP10 false)))
set_option maxRecDepth 100000 in
set_option maxHeartbeats 1000000 in
theorem mBR {v0 : Value} {lb lo n lc g xn xc i k b : Nat} {Q : Exit → Act → World → Prop} (a0 : Act) (wr : World) (I0 : IX v0 (.slice (some ⟨lb, lo, none⟩) n lc) a0) (h7 : a0.eval (.tmp 7) = .int .i64 (i : Int)) (h8 : a0.eval (.tmp 8) = .int .i64 (k : Int))
    (hi : i < n) (hn : n ≤ 4000000) (hb : b = 200000 + i) (hk : k < xn) (hx : xn ≤ 1099511627000) (c1 : wr.cell? ⟨lb, lo + i, none⟩ = some (.slice (some ⟨g, 0, none⟩) xn xc)) (hth : wr.there g (k * 2) 2)
    (hQ : ∀ a, IX v0 (.slice (some ⟨lb, lo, none⟩) n lc) a → a.eval (.tmp 7) = .int .i64 (i : Int) → a.eval (.tmp 8) = .int .i64 ((k : Int) + 1) → Q .normal a (wr.setCells g (k * 2) [.int .u32 (b : Int), .slice none 0 0])) : cMB2.wp Try.prog Q a0 wr := by
  have hii : (i : Int) < (n : Int) := by omega
  have hki : (k : Int) < (xn : Int) := by omega
  have w3 : RowKit.wrap64 (200000 + (i : Int)) = (b : Int) := by unfold RowKit.wrap64; omega
  have w4 : IntKind.u32.wrap (b : Int) = (b : Int) := by rw [IntKind.wrap_u32]; omega
  have w5 : IntKind.i64.wrap (200000 + (i : Int)) = (b : Int) := by rw [IntKind.wrap_i64]; omega
  have w7 : IntKind.i64.wrap ((k : Int) + 1) = (k : Int) + 1 := by rw [IntKind.wrap_i64]; omega
  clear hb
  have g_0 := Fe.refl a0
  unfold cMB2
  refine wp_seq (wp_seq ?_)
  refine wp_region_list ?_
  unfold rAP12
  refine g_0.move 51 (.int .i64 (k : Int)) _ (Or.inl rfl) rfl (lb_ I0.size) (wn rfl) ((g_0.at_ 8).trans h8) (fun x_1 g_1 => ?_)
  clear g_0
  refine g_1.move 52 (.slice (some ⟨lb, lo, none⟩) n lc) _ (Or.inl rfl) rfl (lb_ I0.size) (wn rfl) ((g_1.at_ 1).trans I0.s1) (fun x_2 g_2 => ?_)
  clear g_1
  refine g_2.move 53 (.int .i64 (i : Int)) _ (Or.inl rfl) rfl (lb_ I0.size) (wn rfl) ((g_2.at_ 7).trans h7) (fun x_3 g_3 => ?_)
  clear g_2
  have r_4 : (execOp x_3.eval oZB17).run Try.prog (wr) = .ok (.value (.pointer (some ⟨lb, lo + i, none⟩))) (wr) := by
    unfold oZB17
    have e52 : x_3.eval (.tmp 52) = .slice (some ⟨lb, lo, none⟩) n lc := g_3.at_ 52
    have e53 : x_3.eval (.tmp 53) = .int .i64 (i : Int) := g_3.at_ 53
    clear g_3 hQ h7 h8
    generalize x_3.eval = ρ at *
    go_simp
  refine g_3.step 54 _ rfl (lb_ I0.size) (wn rfl) r_4 (fun x_4 g_4 => ?_)
  clear r_4 g_3
  have r_5 : (execOp x_4.eval oZB18).run Try.prog (wr) = .ok (.value (.slice (some ⟨g, 0, none⟩) xn xc)) (wr) := by
    unfold oZB18
    have e54 : x_4.eval (.tmp 54) = .pointer (some ⟨lb, lo + i, none⟩) := g_4.at_ 54
    clear g_4 hQ h7 h8
    generalize x_4.eval = ρ at *
    go_simp
  refine g_4.step 55 _ rfl (lb_ I0.size) (wn rfl) r_5 (fun x_5 g_5 => ?_)
  clear r_5 g_4
  have r_6 : (execOp x_5.eval oZB19).run Try.prog (wr) = .ok (.value (.int .i64 (xn : Int))) (wr) := by
    unfold oZB19
    have e55 : x_5.eval (.tmp 55) = .slice (some ⟨g, 0, none⟩) xn xc := g_5.at_ 55
    clear g_5 hQ h7 h8
    generalize x_5.eval = ρ at *
    go_simp
  refine g_5.step 56 _ rfl (lb_ I0.size) (wn rfl) r_6 (fun x_6 g_6 => ?_)
  clear r_6 g_5
  have r_7 : (execOp x_6.eval oZB20).run Try.prog (wr) = .ok (.value (.bool true)) (wr) := by
    unfold oZB20
    have e51 : x_6.eval (.tmp 51) = .int .i64 (k : Int) := g_6.at_ 51
    have e56 : x_6.eval (.tmp 56) = .int .i64 (xn : Int) := g_6.at_ 56
    clear g_6 hQ h7 h8
    generalize x_6.eval = ρ at *
    go_simp
  refine g_6.step 57 _ rfl (lb_ I0.size) (wn rfl) r_7 (fun x_7 g_7 => ?_)
  clear r_7 g_6
  refine wpList_nil ?_
  change Code.wp _ _ _ _ _
  refine wp_cond_true (show x_7.eval (.tmp 57) = .bool true from (g_7.at_ 57)) (wp_skip ?_)
  change Code.wp _ _ _ _ _
  refine wp_seq (wp_block ?_)
  obtain ⟨W2, hW2⟩ : ∃ W2, W2 = wr.setCells g (k * 2) [.int .u32 (b : Int), .slice none 0 0] := ⟨_, rfl⟩
  refine wp_region_list ?_
  unfold rAP14
  refine g_7.move 60 (.slice (some ⟨lb, lo, none⟩) n lc) _ (Or.inl rfl) rfl (lb_ I0.size) (wn rfl) ((g_7.at_ 1).trans I0.s1) (fun x_8 g_8 => ?_)
  clear g_7
  refine g_8.move 61 (.int .i64 (i : Int)) _ (Or.inl rfl) rfl (lb_ I0.size) (wn rfl) ((g_8.at_ 7).trans h7) (fun x_9 g_9 => ?_)
  clear g_8
  have r_10 : (execOp x_9.eval oZB22).run Try.prog (wr) = .ok (.value (.pointer (some ⟨lb, lo + i, none⟩))) (wr) := by
    unfold oZB22
    have e60 : x_9.eval (.tmp 60) = .slice (some ⟨lb, lo, none⟩) n lc := g_9.at_ 60
    have e61 : x_9.eval (.tmp 61) = .int .i64 (i : Int) := g_9.at_ 61
    clear g_9 hQ h7 h8
    generalize x_9.eval = ρ at *
    go_simp
  refine g_9.step 62 _ rfl (lb_ I0.size) (wn rfl) r_10 (fun x_10 g_10 => ?_)
  clear r_10 g_9
  have r_11 : (execOp x_10.eval oZB23).run Try.prog (wr) = .ok (.value (.slice (some ⟨g, 0, none⟩) xn xc)) (wr) := by
    unfold oZB23
    have e62 : x_10.eval (.tmp 62) = .pointer (some ⟨lb, lo + i, none⟩) := g_10.at_ 62
    clear g_10 hQ h7 h8
    generalize x_10.eval = ρ at *
    go_simp
  refine g_10.step 63 _ rfl (lb_ I0.size) (wn rfl) r_11 (fun x_11 g_11 => ?_)
  clear r_11 g_10
  refine g_11.move 64 (.int .i64 (k : Int)) _ (Or.inl rfl) rfl (lb_ I0.size) (wn rfl) ((g_11.at_ 8).trans h8) (fun x_12 g_12 => ?_)
  clear g_11
  refine g_12.move 65 (.int .i64 (i : Int)) _ (Or.inl rfl) rfl (lb_ I0.size) (wn rfl) ((g_12.at_ 7).trans h7) (fun x_13 g_13 => ?_)
  clear g_12
  have r_14 : (execOp x_13.eval oZB24).run Try.prog (wr) = .ok (.value (.int .i64 (b : Int))) (wr) := by
    unfold oZB24
    have kc : ∀ v, x_13.eval (.const v) = v := fun _ => rfl
    have e65 : x_13.eval (.tmp 65) = .int .i64 (i : Int) := g_13.at_ 65
    clear g_13 hQ h7 h8
    generalize x_13.eval = ρ at *
    go_simp
  refine g_13.step 66 _ rfl (lb_ I0.size) (wn rfl) r_14 (fun x_14 g_14 => ?_)
  clear r_14 g_13
  have r_15 : (execOp x_14.eval oZB25).run Try.prog (wr) = .ok (.value (.int .u32 (b : Int))) (wr) := by
    unfold oZB25
    have e66 : x_14.eval (.tmp 66) = .int .i64 (b : Int) := g_14.at_ 66
    clear g_14 hQ h7 h8
    generalize x_14.eval = ρ at *
    go_simp
  refine g_14.step 67 _ rfl (lb_ I0.size) (wn rfl) r_15 (fun x_15 g_15 => ?_)
  clear r_15 g_14
  have r_16 : (execOp x_15.eval oZB26).run Try.prog (wr) = .ok (.value (.agg #[.int .u32 (b : Int), .slice none 0 0])) (wr) := by
    unfold oZB26
    have e67 : x_15.eval (.tmp 67) = .int .u32 (b : Int) := g_15.at_ 67
    clear g_15 hQ h7 h8
    generalize x_15.eval = ρ at *
    go_simp
  refine g_15.step 68 _ rfl (lb_ I0.size) (wn rfl) r_16 (fun x_16 g_16 => ?_)
  clear r_16 g_15
  have r_17 : (execOp x_16.eval oZB27).run Try.prog (wr) = .ok (.value (.pointer (some ⟨g, k * 2, none⟩))) (wr) := by
    unfold oZB27
    have e63 : x_16.eval (.tmp 63) = .slice (some ⟨g, 0, none⟩) xn xc := g_16.at_ 63
    have e64 : x_16.eval (.tmp 64) = .int .i64 (k : Int) := g_16.at_ 64
    clear g_16 hQ h7 h8
    generalize x_16.eval = ρ at *
    go_simp
  refine g_16.step 69 _ rfl (lb_ I0.size) (wn rfl) r_17 (fun x_17 g_17 => ?_)
  clear r_17 g_16
  have r_18 : (execOp x_17.eval oZB28).run Try.prog (wr) = .ok .skip (W2) := by
    unfold oZB28
    refine exec_storeF rfl ?_
    rw [(show x_17.eval (.tmp 69) = .pointer (some ⟨g, k * 2, none⟩) from (g_17.at_ 69)), (show x_17.eval (.tmp 68) = .agg #[.int .u32 (b : Int), .slice none 0 0] from (g_17.at_ 68)), hW2]
    exact run_storeAt_mid wr g (k * 2) 53 #[.int .u32 (b : Int), .slice none 0 0] hth (by kernel_rfl) (all_oneCell_toArray (fB.one b))
  refine g_17.store rfl (wn rfl) r_18 (fun x_18 g_18 => ?_)
  clear r_18 g_17
  refine wpList_nil ?_
  change Code.wp _ _ _ _ _
  refine wp_region_list ?_
  unfold rAP13
  refine g_18.move 58 (.int .i64 (k : Int)) _ (Or.inl rfl) rfl (lb_ I0.size) (wn rfl) ((g_18.at_ 8).trans h8) (fun x_19 g_19 => ?_)
  clear g_18
  have r_20 : (execOp x_19.eval oZB21).run Try.prog (W2) = .ok (.value (.int .i64 ((k : Int) + 1))) (W2) := by
    unfold oZB21
    have kc : ∀ v, x_19.eval (.const v) = v := fun _ => rfl
    have e58 : x_19.eval (.tmp 58) = .int .i64 (k : Int) := g_19.at_ 58
    clear g_19 hQ h7 h8
    generalize x_19.eval = ρ at *
    go_simp
  refine g_19.step 59 _ rfl (lb_ I0.size) (wn rfl) r_20 (fun x_20 g_20 => ?_)
  clear r_20 g_19
  refine g_20.move 8 (.int .i64 ((k : Int) + 1)) _ (Or.inr rfl) rfl (lb_ I0.size) (wn rfl) (g_20.at_ 59) (fun x_21 g_21 => ?_)
  clear g_20
  refine wpList_nil ?_
  subst hW2
  exact hQ x_21 (I0.keep g_21 rfl rfl) (show x_21.eval (.tmp 7) = .int .i64 (i : Int) from ((g_21.at_ 7).trans h7)) (show x_21.eval (.tmp 8) = .int .i64 ((k : Int) + 1) from (g_21.at_ 8))
set_option maxRecDepth 100000 in
theorem mBE {v0 : Value} {lb lo n lc xn xc i : Nat} {xa : Option Addr} {Q : Exit → Act → World → Prop} (a0 : Act) (wr : World) (I0 : IX v0 (.slice (some ⟨lb, lo, none⟩) n lc) a0) (h7 : a0.eval (.tmp 7) = .int .i64 (i : Int)) (h8 : a0.eval (.tmp 8) = .int .i64 (xn : Int))
    (hi : i < n) (c1 : wr.cell? ⟨lb, lo + i, none⟩ = some (.slice xa xn xc))
    (hQ : ∀ a, IX v0 (.slice (some ⟨lb, lo, none⟩) n lc) a → a.eval (.tmp 7) = .int .i64 (i : Int) → Q (.exit 6) a wr) : cMB2.wp Try.prog Q a0 wr := by
  have hii : (i : Int) < (n : Int) := by omega
  have g_0 := Fe.refl a0
  unfold cMB2
  refine wp_seq (wp_seq ?_)
  refine wp_region_list ?_
  unfold rAP12
  refine g_0.move 51 (.int .i64 (xn : Int)) _ (Or.inl rfl) rfl (lb_ I0.size) (wn rfl) ((g_0.at_ 8).trans h8) (fun x_1 g_1 => ?_)
  clear g_0
  refine g_1.move 52 (.slice (some ⟨lb, lo, none⟩) n lc) _ (Or.inl rfl) rfl (lb_ I0.size) (wn rfl) ((g_1.at_ 1).trans I0.s1) (fun x_2 g_2 => ?_)
  clear g_1
  refine g_2.move 53 (.int .i64 (i : Int)) _ (Or.inl rfl) rfl (lb_ I0.size) (wn rfl) ((g_2.at_ 7).trans h7) (fun x_3 g_3 => ?_)
  clear g_2
  have r_4 : (execOp x_3.eval oZB17).run Try.prog (wr) = .ok (.value (.pointer (some ⟨lb, lo + i, none⟩))) (wr) := by
    unfold oZB17
    have e52 : x_3.eval (.tmp 52) = .slice (some ⟨lb, lo, none⟩) n lc := g_3.at_ 52
    have e53 : x_3.eval (.tmp 53) = .int .i64 (i : Int) := g_3.at_ 53
    clear g_3 hQ h7 h8
    generalize x_3.eval = ρ at *
    go_simp
  refine g_3.step 54 _ rfl (lb_ I0.size) (wn rfl) r_4 (fun x_4 g_4 => ?_)
  clear r_4 g_3
  have r_5 : (execOp x_4.eval oZB18).run Try.prog (wr) = .ok (.value (.slice xa xn xc)) (wr) := by
    unfold oZB18
    have e54 : x_4.eval (.tmp 54) = .pointer (some ⟨lb, lo + i, none⟩) := g_4.at_ 54
    clear g_4 hQ h7 h8
    generalize x_4.eval = ρ at *
    go_simp
  refine g_4.step 55 _ rfl (lb_ I0.size) (wn rfl) r_5 (fun x_5 g_5 => ?_)
  clear r_5 g_4
  have r_6 : (execOp x_5.eval oZB19).run Try.prog (wr) = .ok (.value (.int .i64 (xn : Int))) (wr) := by
    unfold oZB19
    have e55 : x_5.eval (.tmp 55) = .slice xa xn xc := g_5.at_ 55
    clear g_5 hQ h7 h8
    generalize x_5.eval = ρ at *
    go_simp
  refine g_5.step 56 _ rfl (lb_ I0.size) (wn rfl) r_6 (fun x_6 g_6 => ?_)
  clear r_6 g_5
  have r_7 : (execOp x_6.eval oZB20).run Try.prog (wr) = .ok (.value (.bool false)) (wr) := by
    unfold oZB20
    have e51 : x_6.eval (.tmp 51) = .int .i64 (xn : Int) := g_6.at_ 51
    have e56 : x_6.eval (.tmp 56) = .int .i64 (xn : Int) := g_6.at_ 56
    clear g_6 hQ h7 h8
    generalize x_6.eval = ρ at *
    go_simp
  refine g_6.step 57 _ rfl (lb_ I0.size) (wn rfl) r_7 (fun x_7 g_7 => ?_)
  clear r_7 g_6
  refine wpList_nil ?_
  change Code.wp _ _ _ _ _
  refine wp_cond_false (show x_7.eval (.tmp 57) = .bool false from (g_7.at_ 57)) (wp_exit ?_)
  exact hQ x_7 (I0.keep g_7 rfl rfl) (show x_7.eval (.tmp 7) = .int .i64 (i : Int) from ((g_7.at_ 7).trans h7))
theorem mBL2 {v0 : Value} {lb lo n lc i b : Nat} {x : Sl} {cs : List Value} {Q : Exit → Act → World → Prop} (a0 : Act) (w1 : World) (I0 : IX v0 (.slice (some ⟨lb, lo, none⟩) n lc) a0) (h5 : a0.eval (.tmp 7) = .int .i64 (i : Int)) (h6 : a0.eval (.tmp 8) = .int .i64 ((0 : Nat) : Int))
    (hi : i < n) (hn : n ≤ 4000000) (hb : b = 200000 + i) (hx : x.n ≤ 1099511627000) (hc : ∀ W, Fr (fun j => x.blk = some j) w1 W → W.cell? ⟨lb, lo + i, none⟩ = some x.v) (hr : RX fB w1 x cs)
    (hQ : ∀ a W, IX v0 (.slice (some ⟨lb, lo, none⟩) n lc) a → a.eval (.tmp 7) = .int .i64 (i : Int) → RX fB W x (rp fB x.n b) → Fr (fun j => x.blk = some j) w1 W → Q (.exit 6) a W) : (Code.loop cMB2).wp Try.prog Q a0 w1 := by
  refine wp_loop (fun a W => IX v0 (.slice (some ⟨lb, lo, none⟩) n lc) a ∧ a.eval (.tmp 7) = .int .i64 (i : Int) ∧ ∃ k : Nat, k ≤ x.n ∧ a.eval (.tmp 8) = .int .i64 (k : Int) ∧ MkI fB w1 W x k b) (fun a _ => x.n - kOf a 8) ⟨I0, h5, 0, Nat.zero_le _, h6, MkI.start hr b⟩ ?_
  rintro a W ⟨I1, g5, k, hk, g6, hM⟩
  have c1 := hc W hM.base
  by_cases hgo : k < x.n
  · obtain ⟨cs1, hr1, _⟩ := hM.row
    obtain ⟨xa, xn, xc⟩ := x
    obtain ⟨g, rfl, _⟩ := own_some hr1 (Nat.ne_of_gt (Nat.lt_of_le_of_lt (Nat.zero_le _) hgo))
    refine mBR a W I1 g5 g6 hi hn hb hgo hx c1 (hr1.there rfl hgo) (fun a' i2 k5 k6 => ?_)
    have h4 : a'.eval (.tmp 8) = .int .i64 ((k + 1 : Nat) : Int) := k6
    refine ⟨⟨i2, k5, k + 1, hgo, h4, hM.next rfl hgo⟩, ?_⟩
    show xn - kOf a' 8 < xn - kOf a 8
    rw [kOf_eq h4, kOf_eq g6]
    simp only at hgo
    omega
  · obtain rfl : k = x.n := by omega
    exact mBE a W I1 g5 g6 hi c1 (fun a' i2 k5 => hQ a' W i2 k5 hM.done hM.base)
set_option maxRecDepth 100000 in
theorem mBO {v0 : Value} {lb lo n lc i : Nat} {x : Sl} {cs : List Value} {Q : Exit → Act → World → Prop} (a0 : Act) (wr : World) (I0 : IX v0 (.slice (some ⟨lb, lo, none⟩) n lc) a0) (h7 : a0.eval (.tmp 7) = .int .i64 (i : Int))
    (hi : i < n) (hn : n ≤ 4000000) (hx : x.n ≤ 1099511627000) (hc : ∀ W, Fr (fun j => x.blk = some j) wr W → W.cell? ⟨lb, lo + i, none⟩ = some x.v) (hr : RX fB wr x cs)
    (hQ : ∀ a W, IX v0 (.slice (some ⟨lb, lo, none⟩) n lc) a → a.eval (.tmp 7) = .int .i64 ((i : Int) + 1) → RX fB W x (rp fB x.n (200000 + i)) → Fr (fun j => x.blk = some j) wr W → Q .normal a W) : cMB1.wp Try.prog Q a0 wr := by
  have hii : (i : Int) < (n : Int) := by omega
  have w7 : IntKind.i64.wrap ((i : Int) + 1) = (i : Int) + 1 := by rw [IntKind.wrap_i64]; omega
  have g_0 := Fe.refl a0
  unfold cMB1
  refine wp_seq (wp_seq ?_)
  refine wp_region_list ?_
  unfold rAP9
  refine g_0.move 45 (.int .i64 (i : Int)) _ (Or.inl rfl) rfl (lb_ I0.size) (wn rfl) ((g_0.at_ 7).trans h7) (fun x_1 g_1 => ?_)
  clear g_0
  refine g_1.move 46 (.slice (some ⟨lb, lo, none⟩) n lc) _ (Or.inl rfl) rfl (lb_ I0.size) (wn rfl) ((g_1.at_ 1).trans I0.s1) (fun x_2 g_2 => ?_)
  clear g_1
  have r_3 : (execOp x_2.eval oZB14).run Try.prog (wr) = .ok (.value (.int .i64 (n : Int))) (wr) := by
    unfold oZB14
    have e46 : x_2.eval (.tmp 46) = .slice (some ⟨lb, lo, none⟩) n lc := g_2.at_ 46
    clear g_2 hQ h7
    generalize x_2.eval = ρ at *
    go_simp
  refine g_2.step 47 _ rfl (lb_ I0.size) (wn rfl) r_3 (fun x_3 g_3 => ?_)
  clear r_3 g_2
  have r_4 : (execOp x_3.eval oZB15).run Try.prog (wr) = .ok (.value (.bool true)) (wr) := by
    unfold oZB15
    have e45 : x_3.eval (.tmp 45) = .int .i64 (i : Int) := g_3.at_ 45
    have e47 : x_3.eval (.tmp 47) = .int .i64 (n : Int) := g_3.at_ 47
    clear g_3 hQ h7
    generalize x_3.eval = ρ at *
    go_simp
  refine g_3.step 48 _ rfl (lb_ I0.size) (wn rfl) r_4 (fun x_4 g_4 => ?_)
  clear r_4 g_3
  refine wpList_nil ?_
  change Code.wp _ _ _ _ _
  refine wp_cond_true (show x_4.eval (.tmp 48) = .bool true from (g_4.at_ 48)) (wp_skip ?_)
  change Code.wp _ _ _ _ _
  refine wp_seq (wp_block (wp_seq ?_))
  refine wp_region_list ?_
  unfold rAP11
  refine g_4.move 8 (.int .i64 ((0 : Nat) : Int)) _ (Or.inr rfl) rfl (lb_ I0.size) (wn rfl) rfl (fun x_5 g_5 => ?_)
  clear g_4
  refine wpList_nil ?_
  change Code.wp _ _ _ _ _
  refine wp_block ?_
  refine mBL2 (b := 200000 + i) (x := x) x_5 wr (I0.keep g_5 rfl rfl) (show x_5.eval (.tmp 7) = .int .i64 (i : Int) from ((g_5.at_ 7).trans h7)) (show x_5.eval (.tmp 8) = .int .i64 ((0 : Nat) : Int) from (g_5.at_ 8)) hi hn rfl hx hc hr (fun d W2 i2 d5 hr2 f2 => ?_)
  change Code.wp _ _ _ _ _
  have fd_0 := Fe.refl d
  refine wp_region_list ?_
  unfold rAP10
  refine fd_0.move 49 (.int .i64 (i : Int)) _ (Or.inl rfl) rfl (lb_ i2.size) (wn rfl) ((fd_0.at_ 7).trans d5) (fun d_1 fd_1 => ?_)
  clear fd_0
  have r_d_2 : (execOp d_1.eval oZB16).run Try.prog (W2) = .ok (.value (.int .i64 ((i : Int) + 1))) (W2) := by
    unfold oZB16
    have kc : ∀ v, d_1.eval (.const v) = v := fun _ => rfl
    have e49 : d_1.eval (.tmp 49) = .int .i64 (i : Int) := fd_1.at_ 49
    clear fd_1 hQ d5 h7
    generalize d_1.eval = ρ at *
    go_simp
  refine fd_1.step 50 _ rfl (lb_ i2.size) (wn rfl) r_d_2 (fun d_2 fd_2 => ?_)
  clear r_d_2 fd_1
  refine fd_2.move 7 (.int .i64 ((i : Int) + 1)) _ (Or.inr rfl) rfl (lb_ i2.size) (wn rfl) (fd_2.at_ 50) (fun d_3 fd_3 => ?_)
  clear fd_2
  refine wpList_nil ?_
  exact hQ d_3 W2 (i2.keep fd_3 rfl rfl) (show d_3.eval (.tmp 7) = .int .i64 ((i : Int) + 1) from (fd_3.at_ 7)) hr2 f2
set_option maxRecDepth 100000 in
theorem mBX {v0 : Value} {la : Option Addr} {n lc : Nat} {Q : Exit → Act → World → Prop} (a0 : Act) (wr : World) (I0 : IX v0 (.slice la n lc) a0) (h7 : a0.eval (.tmp 7) = .int .i64 (n : Int))
    (hQ : ∀ a, IX v0 (.slice la n lc) a → Q (.exit 4) a wr) : cMB1.wp Try.prog Q a0 wr := by
  have g_0 := Fe.refl a0
  unfold cMB1
  refine wp_seq (wp_seq ?_)
  refine wp_region_list ?_
  unfold rAP9
  refine g_0.move 45 (.int .i64 (n : Int)) _ (Or.inl rfl) rfl (lb_ I0.size) (wn rfl) ((g_0.at_ 7).trans h7) (fun x_1 g_1 => ?_)
  clear g_0
  refine g_1.move 46 (.slice la n lc) _ (Or.inl rfl) rfl (lb_ I0.size) (wn rfl) ((g_1.at_ 1).trans I0.s1) (fun x_2 g_2 => ?_)
  clear g_1
  have r_3 : (execOp x_2.eval oZB14).run Try.prog (wr) = .ok (.value (.int .i64 (n : Int))) (wr) := by
    unfold oZB14
    have e46 : x_2.eval (.tmp 46) = .slice la n lc := g_2.at_ 46
    clear g_2 hQ h7
    generalize x_2.eval = ρ at *
    go_simp
  refine g_2.step 47 _ rfl (lb_ I0.size) (wn rfl) r_3 (fun x_3 g_3 => ?_)
  clear r_3 g_2
  have r_4 : (execOp x_3.eval oZB15).run Try.prog (wr) = .ok (.value (.bool false)) (wr) := by
    unfold oZB15
    have e45 : x_3.eval (.tmp 45) = .int .i64 (n : Int) := g_3.at_ 45
    have e47 : x_3.eval (.tmp 47) = .int .i64 (n : Int) := g_3.at_ 47
    clear g_3 hQ h7
    generalize x_3.eval = ρ at *
    go_simp
  refine g_3.step 48 _ rfl (lb_ I0.size) (wn rfl) r_4 (fun x_4 g_4 => ?_)
  clear r_4 g_3
  refine wpList_nil ?_
  change Code.wp _ _ _ _ _
  refine wp_cond_false (show x_4.eval (.tmp 48) = .bool false from (g_4.at_ 48)) (wp_exit ?_)
  exact hQ x_4 (I0.keep g_4 rfl rfl)
theorem mBL {v0 : Value} {la : Option Addr} {lb lo n lc : Nat} {L : List Sl} {Q : Exit → Act → World → Prop} (a0 : Act) (w : World) (I0 : IX v0 (.slice la n lc) a0) (h5 : a0.eval (.tmp 7) = .int .i64 ((0 : Nat) : Int))
    (hn : n ≤ 4000000) (hl : n = L.length) (ho : ∀ W, Fr (inB L) w W → OutAt 30 W la lb lo L) (hA : Apt fB w L)
    (hQ : ∀ a W, IX v0 (.slice la n lc) a → Mrk fB W L L.length 200000 → Fr (inB L) w W → Q (.exit 4) a W) : (Code.loop cMB1).wp Try.prog Q a0 w := by
  refine wp_loop (fun a W => IX v0 (.slice la n lc) a ∧ Fr (inB L) w W ∧ ∃ i : Nat, i ≤ n ∧ a.eval (.tmp 7) = .int .i64 (i : Int) ∧ Mrk fB W L i 200000) (fun a _ => n - kOf a 7) ⟨I0, Fr.refl _ w, 0, Nat.zero_le _, h5, Mrk.start hA _⟩ ?_
  rintro a W ⟨I1, f1, i, hi, g5, hM⟩
  by_cases hgo : i < n
  · obtain ⟨x, hx⟩ : ∃ x, L[i]? = some x := ⟨_, List.getElem?_eq_getElem (by omega)⟩
    have hne : L ≠ [] := by intro e; rw [e] at hx; simp at hx
    obtain ⟨rfl, _⟩ := (ho W f1).place hne
    obtain ⟨cs, hr⟩ := hM.apt.rows i x hx
    have fx : ∀ W2, Fr (fun j => x.blk = some j) W W2 → Fr (inB L) w W2 := fun W2 f2 => Fr.trans f1 f2 (fun k _ e => ⟨i, x, hx, e⟩)
    refine mBO a W I1 g5 hgo hn (hM.apt.len x (List.mem_of_getElem? hx)) (fun W2 f2 => (ho W2 (fx W2 f2)).cells i x hx) hr (fun a' W2 i2 k5 hr2 f2 => ?_)
    have h4 : a'.eval (.tmp 7) = .int .i64 ((i + 1 : Nat) : Int) := k5
    refine ⟨⟨i2, fx W2 f2, i + 1, hgo, h4, hM.next hx f2 hr2⟩, ?_⟩
    show n - kOf a' 7 < n - kOf a 7
    rw [kOf_eq h4, kOf_eq g5]
    omega
  · obtain rfl : i = n := by omega
    exact mBX a W I1 g5 (fun a' i2 => hQ a' W i2 (hl ▸ hM) f1)
end Go.Proofs.Ytajbifblbmlffaa
