/- free: Find, a book's Page, batchOn. -/
import Derived.Test.YtajbifblbmlffaaQA
import Derived.Test.YtajbifblbmlffaaYS
namespace Go.Proofs.Ytajbifblbmlffaa
open Go.RowKit Go.Maps

def pgdC (x : Pgd) : List Value := [.int .u8 (x.kind : Int), .int .u32 (x.no : Int), .int .u64 (x.ver : Int), .string x.body]
/-- Pages in a row. -/
structure PdRow (W : World) (pa : Option Addr) (pb po : Nat) (P : List Pgd) : Prop where
  place : P ≠ [] → pa = some ⟨pb, po, none⟩ ∧ pb < W.heap.size
  cells : ∀ (k : Nat) (x : Pgd), P[k]? = some x → W.cell? ⟨pb, po + k * 4, none⟩ = some (.int .u8 (x.kind : Int)) ∧ W.cell? ⟨pb, po + k * 4 + 1, none⟩ = some (.int .u32 (x.no : Int)) ∧ W.cell? ⟨pb, po + k * 4 + 2, none⟩ = some (.int .u64 (x.ver : Int)) ∧ W.cell? ⟨pb, po + k * 4 + 3, none⟩ = some (.string x.body)
theorem PdRow.same {W W' : World} {pa : Option Addr} {pb po : Nat} {P : List Pgd} (h : PdRow W pa pb po P) (s : Same W W') : PdRow W' pa pb po P :=
  ⟨fun e => ⟨(h.place e).1, Nat.lt_of_lt_of_le (h.place e).2 s.size⟩, fun k x hx => by obtain ⟨h1, h2, h3, h4⟩ := h.cells k x hx; exact ⟨s.keep h1, s.keep h2, s.keep h3, s.keep h4⟩⟩
theorem exec_storeQ {P : Program} {ρ : Operand → Value} {o : Oper} {x y : Operand} {ty : TypeId} {w w' : World} (ho : o.op = .store ty x y) (h : (Instr.storeAt ty (ρ x) (ρ y)).run P w = .ok () w') : (execOp ρ o).run P w = .ok .skip w' := by
  unfold execOp
  simp only [ho, Sem.run_bind, Sem.run_pure, Result.andThen_ok, h]
theorem store_box {W : World} {g : Nat} {cells old : Array Value} {t : TypeId} (hb : W.heap[g]? = some (.cells old t (0, 0))) (hl : old.size = cells.size) : ∃ W2, W2 = W.setCells g 0 cells.toList ∧ W2.heap[g]? = some (.cells cells t (0, 0)) ∧ Fr (fun k => k = g) W W2 ∧ W.there g 0 cells.size := by
  have hth : W.there g 0 cells.size := there_row hb hl.symm
  have hrow := setCells_whole cells.toList old hb (by rw [hl, Array.length_toList]) (by rw [Array.length_toList]; exact hth)
  rw [Array.toArray_toList] at hrow
  exact ⟨_, rfl, hrow, Fr.setCells (S := fun k => k = g) (fun _ => rfl) _ 0 W (Fr.refl _ W), hth⟩
theorem ret_cell1 {P : Program} {fn : Func} {R : Ending → World → Prop} {a : Act} {w : World} {p u : Tmp} {ty : TypeId} {g : Nat} {t : TypeId} {cs : Array Value} {fr : Nat × Nat} {d : TypeDesc} {v : Value} (h : fn.results = #[.cell p ty, .tmp u]) (hd : a.defers = []) (hp : a.eval (.tmp p) = .pointer (some ⟨g, 0, none⟩)) (hg : w.heap[g]? = some (.cells cs t fr))
    (hu : P.underlying ty = some d) (hd2 : (match d with | .struct _ | .array _ _ => true | _ => false) = true) (hi : (P.info? ty).map (·.size) = some cs.size) (hv : a.eval (.tmp u) = v) (hR : R (.returned (.tuple #[.agg cs, v])) w) : bodyPost P fn R .ret a w :=
  bodyPost_ret (results_row_tmp1 h _ w g t cs fr d hp hg hu hd2 hi) hd (by rw [show a.tmps.getD u undef = v from hv]; exact hR)
theorem ret_cell2 {P : Program} {fn : Func} {R : Ending → World → Prop} {a : Act} {w : World} {p u u2 : Tmp} {ty : TypeId} {g : Nat} {t : TypeId} {cs : Array Value} {fr : Nat × Nat} {d : TypeDesc} {v v2 : Value} (h : fn.results = #[.cell p ty, .tmp u, .tmp u2]) (hd : a.defers = []) (hp : a.eval (.tmp p) = .pointer (some ⟨g, 0, none⟩)) (hg : w.heap[g]? = some (.cells cs t fr))
    (hu : P.underlying ty = some d) (hd2 : (match d with | .struct _ | .array _ _ => true | _ => false) = true) (hi : (P.info? ty).map (·.size) = some cs.size) (hv : a.eval (.tmp u) = v) (hv2 : a.eval (.tmp u2) = v2) (hR : R (.returned (.tuple #[.agg cs, v, v2])) w) : bodyPost P fn R .ret a w :=
  bodyPost_ret (results_row_tmp2 h _ w g t cs fr d hp hg hu hd2 hi) hd (by rw [show a.tmps.getD u undef = v from hv, show a.tmps.getD u2 undef = v2 from hv2]; exact hR)
theorem ret_two {P : Program} {fn : Func} {R : Ending → World → Prop} {a : Act} {w : World} {t u : Tmp} {v x : Value} (h : fn.results = #[.tmp t, .tmp u]) (hd : a.defers = []) (hv : a.eval (.tmp t) = v) (hx : a.eval (.tmp u) = x) (hR : R (.returned (.tuple #[v, x])) w) : bodyPost P fn R .ret a w :=
  bodyPost_ret (results_tmp2 h _ _ _) hd (by rw [show a.tmps.getD t undef = v from hv, show a.tmps.getD u undef = x from hx]; exact hR)
def oQB0 : Oper := { dst := some 4, op := .alloc 76, type := 0, pos := "ref.go:338", after := #[], guard := none }
def oQB1 : Oper := { dst := some 9, op := .call { callee := .builtin .len, args := #[.tmp 8], argTypes := #[24] }, type := 3, pos := "ref.go:339", after := #[{ on := 1, ground := .data }], guard := none }
def oQB2 : Oper := { dst := some 10, op := .binOp .lss 3 (.tmp 7) (.tmp 9) 3, type := 4, pos := "ref.go:339", after := #[{ on := 0, ground := .data }, { on := 2, ground := .data }], guard := none }
def oQB3 : Oper := { dst := some 12, op := .binOp .add 3 (.tmp 11) (.const (.int .i64 1)) 3, type := 3, pos := "ref.go:339", after := #[{ on := 0, ground := .data }], guard := none }
def oQB4 : Oper := { dst := some 15, op := .indexAddr 24 (.tmp 13) (.tmp 14), type := 0, pos := "ref.go:340", after := #[{ on := 0, ground := .data }, { on := 1, ground := .data }], guard := none }
def oQB5 : Oper := { dst := some 16, op := .fieldAddr 76 (.tmp 15) 1, type := 0, pos := "ref.go:340", after := #[{ on := 2, ground := .data }], guard := none }
def oQB6 : Oper := { dst := some 17, op := .load 28 (.tmp 16), type := 28, pos := "ref.go:340", after := #[{ on := 3, ground := .data }], guard := none }
def oQB7 : Oper := { dst := some 19, op := .binOp .eql 28 (.tmp 17) (.tmp 18) 28, type := 4, pos := "ref.go:340", after := #[{ on := 4, ground := .data }, { on := 5, ground := .data }], guard := none }
def oQB8 : Oper := { dst := some 22, op := .indexAddr 24 (.tmp 20) (.tmp 21), type := 0, pos := "ref.go:341", after := #[{ on := 0, ground := .data }, { on := 1, ground := .data }], guard := none }
def oQB9 : Oper := { dst := some 23, op := .load 76 (.tmp 22), type := 76, pos := "ref.go:341", after := #[{ on := 2, ground := .data }], guard := none }
def oQB10 : Oper := { dst := none, op := .store 76 (.tmp 4) (.tmp 23), type := 0, pos := "ref.go:341", after := #[{ on := 3, ground := .data }, { on := 0, ground := .phase }, { on := 1, ground := .phase }, { on := 2, ground := .phase }, { on := 3, ground := .phase }], guard := none }
def oQB11 : Oper := { dst := some 24, op := .build 76 #[], type := 76, pos := "ref.go:344", after := #[], guard := none }
def oQB12 : Oper := { dst := none, op := .store 76 (.tmp 4) (.tmp 24), type := 0, pos := "ref.go:344", after := #[{ on := 0, ground := .data }, { on := 0, ground := .phase }], guard := none }
def rFD0 : Array Oper := #[oQB0,
  { dst := some 5, op := .assign (.const (.bool false)), type := 4, pos := "ref.go:338", after := #[], guard := none }]
def rFD1 : Array Oper := #[{ dst := some 6, op := .assign (.const (.int .i64 0)), type := 3, pos := "ref.go:339", after := #[], guard := none }]
def rFD2 : Array Oper := #[{ dst := some 7, op := .move (.tmp 6), type := 3, pos := "ref.go:339", after := #[], guard := none },
  { dst := some 8, op := .move (.tmp 0), type := 24, pos := "ref.go:339", after := #[], guard := none },
  oQB1,
  oQB2]
def rFD3 : Array Oper := #[{ dst := some 11, op := .move (.tmp 6), type := 3, pos := "ref.go:339", after := #[], guard := none },
  oQB3,
  { dst := some 6, op := .assign (.tmp 12), type := 3, pos := "ref.go:339", after := #[{ on := 1, ground := .data }, { on := 0, ground := .phase }, { on := 1, ground := .phase }], guard := none }]
def rFD4 : Array Oper := #[{ dst := some 13, op := .move (.tmp 0), type := 24, pos := "ref.go:340", after := #[], guard := none },
  { dst := some 14, op := .move (.tmp 6), type := 3, pos := "ref.go:340", after := #[], guard := none },
  oQB4,
  oQB5,
  oQB6,
  { dst := some 18, op := .move (.tmp 1), type := 28, pos := "ref.go:340", after := #[], guard := none },
  oQB7]
def rFD5 : Array Oper := #[{ dst := some 20, op := .move (.tmp 0), type := 24, pos := "ref.go:341", after := #[], guard := none },
  { dst := some 21, op := .move (.tmp 6), type := 3, pos := "ref.go:341", after := #[], guard := none },
  oQB8,
  oQB9,
  oQB10,
  { dst := some 5, op := .assign (.const (.bool true)), type := 4, pos := "ref.go:341", after := #[{ on := 4, ground := .chain }, { on := 0, ground := .phase }, { on := 1, ground := .phase }, { on := 2, ground := .phase }, { on := 3, ground := .phase }, { on := 4, ground := .phase }], guard := none }]
def rFD6 : Array Oper := #[oQB11,
  oQB12,
  { dst := some 5, op := .assign (.const (.bool false)), type := 4, pos := "ref.go:344", after := #[{ on := 1, ground := .chain }, { on := 0, ground := .phase }, { on := 1, ground := .phase }], guard := none }]
def cFD1 : Code := (.seq (.seq (.region 2 rFD2 false) (.cond (.tmp 10) .skip (.exit 0))) (.seq (.block 1 (.seq (.region 4 rFD4 false) (.cond (.tmp 19) (.seq (.region 5 rFD5 false) .ret) .skip))) (.region 3 rFD3 false)))
def cFD : Code := (.seq (.region 0 rFD0 false) (.seq (.seq (.region 1 rFD1 false) (.block 0 (.loop cFD1))) (.seq (.region 6 rFD6 false) .ret)))
structure IFD (v0 : Value) (no bx : Nat) (a : Act) : Prop where
  size : a.tmps.size = 25
  defers : a.defers = []
  s0 : a.eval (.tmp 0) = v0
  s1 : a.eval (.tmp 1) = .int .u32 (no : Int)
  s4 : a.eval (.tmp 4) = .pointer (some ⟨bx, 0, none⟩)
theorem IFD.keep {v0 : Value} {no bx : Nat} {a0 a : Act} {env : List (Nat × Value)} (h : IFD v0 no bx a0) (f : Fe a0 env a) (h0 : look env 0 (a0.eval (.tmp 0)) = a0.eval (.tmp 0)) (h1 : look env 1 (a0.eval (.tmp 1)) = a0.eval (.tmp 1)) (h4 : look env 4 (a0.eval (.tmp 4)) = a0.eval (.tmp 4)) : IFD v0 no bx a :=
  ⟨f.size.trans h.size, f.defers.trans h.defers, ((f.at_ 0).trans h0).trans h.s0, ((f.at_ 1).trans h1).trans h.s1, ((f.at_ 4).trans h4).trans h.s4⟩
set_option maxRecDepth 100000 in
theorem fdR {pb po n cp no bx i kd vr : Nat} {bd : ByteArray}  {Q : Exit → Act → World → Prop} (a0 : Act) (wr : World) (I0 : IFD (.slice (some ⟨pb, po, none⟩) n cp) no bx a0) (h6 : a0.eval (.tmp 6) = .int .i64 (i : Int)) (hin : i < n)
    (c0 : wr.cell? ⟨pb, po + i * 4, none⟩ = some (.int .u8 (kd : Int))) (c1 : wr.cell? ⟨pb, po + i * 4 + 1, none⟩ = some (.int .u32 (no : Int))) (c2 : wr.cell? ⟨pb, po + i * 4 + 2, none⟩ = some (.int .u64 (vr : Int))) (c3 : wr.cell? ⟨pb, po + i * 4 + 3, none⟩ = some (.string bd)) (hb : wr.heap[bx]? = some (.cells #[.int .u8 0, .int .u32 0, .int .u64 0, .string ⟨#[]⟩] 76 (0, 0)))
    (hQ : ∀ a W, a.defers = [] → a.eval (.tmp 4) = .pointer (some ⟨bx, 0, none⟩) → a.eval (.tmp 5) = .bool true → W.heap[bx]? = some (.cells #[.int .u8 (kd : Int), .int .u32 (no : Int), .int .u64 (vr : Int), .string bd] 76 (0, 0)) → Fr (fun k => k = bx) wr W → Q .ret a W) : cFD1.wp Try.prog Q a0 wr := by
  have hii : (i : Int) < (n : Int) := by omega
  have g_0 := Fe.refl a0
  unfold cFD1
  refine wp_seq (wp_seq ?_)
  refine wp_region_list ?_
  unfold rFD2
  refine g_0.move 7 (.int .i64 (i : Int)) _ (Or.inl rfl) rfl (lb_ I0.size) (wn rfl) ((g_0.at_ 6).trans h6) (fun x_1 g_1 => ?_)
  clear g_0
  refine g_1.move 8 (.slice (some ⟨pb, po, none⟩) n cp) _ (Or.inl rfl) rfl (lb_ I0.size) (wn rfl) ((g_1.at_ 0).trans I0.s0) (fun x_2 g_2 => ?_)
  clear g_1
  have r_3 : (execOp x_2.eval oQB1).run Try.prog (wr) = .ok (.value (.int .i64 (n : Int))) (wr) := by
    unfold oQB1
    have e8 : x_2.eval (.tmp 8) = .slice (some ⟨pb, po, none⟩) n cp := g_2.at_ 8
    clear g_2 hQ h6
    generalize x_2.eval = ρ at *
    go_simp
  refine g_2.step 9 _ rfl (lb_ I0.size) (wn rfl) r_3 (fun x_3 g_3 => ?_)
  clear r_3 g_2
  have r_4 : (execOp x_3.eval oQB2).run Try.prog (wr) = .ok (.value (.bool true)) (wr) := by
    unfold oQB2
    have e7 : x_3.eval (.tmp 7) = .int .i64 (i : Int) := g_3.at_ 7
    have e9 : x_3.eval (.tmp 9) = .int .i64 (n : Int) := g_3.at_ 9
    clear g_3 hQ h6
    generalize x_3.eval = ρ at *
    go_simp
  refine g_3.step 10 _ rfl (lb_ I0.size) (wn rfl) r_4 (fun x_4 g_4 => ?_)
  clear r_4 g_3
  refine wpList_nil ?_
  change Code.wp _ _ _ _ _
  refine wp_cond_true (show x_4.eval (.tmp 10) = .bool true from (g_4.at_ 10)) (wp_skip ?_)
  change Code.wp _ _ _ _ _
  refine wp_seq (wp_block (wp_seq ?_))
  refine wp_region_list ?_
  unfold rFD4
  refine g_4.move 13 (.slice (some ⟨pb, po, none⟩) n cp) _ (Or.inl rfl) rfl (lb_ I0.size) (wn rfl) ((g_4.at_ 0).trans I0.s0) (fun x_5 g_5 => ?_)
  clear g_4
  refine g_5.move 14 (.int .i64 (i : Int)) _ (Or.inl rfl) rfl (lb_ I0.size) (wn rfl) ((g_5.at_ 6).trans h6) (fun x_6 g_6 => ?_)
  clear g_5
  have r_7 : (execOp x_6.eval oQB4).run Try.prog (wr) = .ok (.value (.pointer (some ⟨pb, po + i * 4, none⟩))) (wr) := by
    unfold oQB4
    have e13 : x_6.eval (.tmp 13) = .slice (some ⟨pb, po, none⟩) n cp := g_6.at_ 13
    have e14 : x_6.eval (.tmp 14) = .int .i64 (i : Int) := g_6.at_ 14
    clear g_6 hQ h6
    generalize x_6.eval = ρ at *
    go_simp
  refine g_6.step 15 _ rfl (lb_ I0.size) (wn rfl) r_7 (fun x_7 g_7 => ?_)
  clear r_7 g_6
  have r_8 : (execOp x_7.eval oQB5).run Try.prog (wr) = .ok (.value (.pointer (some ⟨pb, po + i * 4 + 1, none⟩))) (wr) := by
    unfold oQB5
    have e15 : x_7.eval (.tmp 15) = .pointer (some ⟨pb, po + i * 4, none⟩) := g_7.at_ 15
    clear g_7 hQ h6
    generalize x_7.eval = ρ at *
    go_simp
  refine g_7.step 16 _ rfl (lb_ I0.size) (wn rfl) r_8 (fun x_8 g_8 => ?_)
  clear r_8 g_7
  have r_9 : (execOp x_8.eval oQB6).run Try.prog (wr) = .ok (.value (.int .u32 (no : Int))) (wr) := by
    unfold oQB6
    have e16 : x_8.eval (.tmp 16) = .pointer (some ⟨pb, po + i * 4 + 1, none⟩) := g_8.at_ 16
    clear g_8 hQ h6
    generalize x_8.eval = ρ at *
    go_simp
  refine g_8.step 17 _ rfl (lb_ I0.size) (wn rfl) r_9 (fun x_9 g_9 => ?_)
  clear r_9 g_8
  refine g_9.move 18 (.int .u32 (no : Int)) _ (Or.inl rfl) rfl (lb_ I0.size) (wn rfl) ((g_9.at_ 1).trans I0.s1) (fun x_10 g_10 => ?_)
  clear g_9
  have r_11 : (execOp x_10.eval oQB7).run Try.prog (wr) = .ok (.value (.bool true)) (wr) := by
    unfold oQB7
    have e17 : x_10.eval (.tmp 17) = .int .u32 (no : Int) := g_10.at_ 17
    have e18 : x_10.eval (.tmp 18) = .int .u32 (no : Int) := g_10.at_ 18
    clear g_10 hQ h6
    generalize x_10.eval = ρ at *
    go_simp
  refine g_10.step 19 _ rfl (lb_ I0.size) (wn rfl) r_11 (fun x_11 g_11 => ?_)
  clear r_11 g_10
  refine wpList_nil ?_
  change Code.wp _ _ _ _ _
  refine wp_cond_true (show x_11.eval (.tmp 19) = .bool true from (g_11.at_ 19)) (wp_seq ?_)
  obtain ⟨W2, hW2, r2, f2, th2⟩ := store_box (cells := #[.int .u8 (kd : Int), .int .u32 (no : Int), .int .u64 (vr : Int), .string bd]) hb rfl
  refine wp_region_list ?_
  unfold rFD5
  refine g_11.move 20 (.slice (some ⟨pb, po, none⟩) n cp) _ (Or.inl rfl) rfl (lb_ I0.size) (wn rfl) ((g_11.at_ 0).trans I0.s0) (fun x_12 g_12 => ?_)
  clear g_11
  refine g_12.move 21 (.int .i64 (i : Int)) _ (Or.inl rfl) rfl (lb_ I0.size) (wn rfl) ((g_12.at_ 6).trans h6) (fun x_13 g_13 => ?_)
  clear g_12
  have r_14 : (execOp x_13.eval oQB8).run Try.prog (wr) = .ok (.value (.pointer (some ⟨pb, po + i * 4, none⟩))) (wr) := by
    unfold oQB8
    have e20 : x_13.eval (.tmp 20) = .slice (some ⟨pb, po, none⟩) n cp := g_13.at_ 20
    have e21 : x_13.eval (.tmp 21) = .int .i64 (i : Int) := g_13.at_ 21
    clear g_13 hQ h6
    generalize x_13.eval = ρ at *
    go_simp
  refine g_13.step 22 _ rfl (lb_ I0.size) (wn rfl) r_14 (fun x_14 g_14 => ?_)
  clear r_14 g_13
  have r_15 : (execOp x_14.eval oQB9).run Try.prog (wr) = .ok (.value (.agg #[.int .u8 (kd : Int), .int .u32 (no : Int), .int .u64 (vr : Int), .string bd])) (wr) := by
    unfold oQB9
    have e22 : x_14.eval (.tmp 22) = .pointer (some ⟨pb, po + i * 4, none⟩) := g_14.at_ 22
    clear g_14 hQ h6
    generalize x_14.eval = ρ at *
    go_simp
  refine g_14.step 23 _ rfl (lb_ I0.size) (wn rfl) r_15 (fun x_15 g_15 => ?_)
  clear r_15 g_14
  have r_16 : (execOp x_15.eval oQB10).run Try.prog (wr) = .ok .skip (W2) := by
    unfold oQB10
    refine exec_storeQ rfl ?_
    rw [(show x_15.eval (.tmp 4) = .pointer (some ⟨bx, 0, none⟩) from ((g_15.at_ 4).trans I0.s4)), (show x_15.eval (.tmp 23) = .agg #[.int .u8 (kd : Int), .int .u32 (no : Int), .int .u64 (vr : Int), .string bd] from (g_15.at_ 23)), hW2]
    exact run_storeAt_mid _ bx 0 76 #[.int .u8 (kd : Int), .int .u32 (no : Int), .int .u64 (vr : Int), .string bd] th2 (by kernel_rfl) (by kernel_rfl)
  refine g_15.store rfl (wn rfl) r_16 (fun x_16 g_16 => ?_)
  clear r_16 g_15
  refine g_16.move 5 (.bool true) _ (Or.inr rfl) rfl (lb_ I0.size) (wn rfl) rfl (fun x_17 g_17 => ?_)
  clear g_16
  refine wpList_nil ?_
  change Code.wp _ _ _ _ _
  refine wp_ret ?_
  exact hQ x_17 W2 (g_17.defers.trans I0.defers) (show x_17.eval (.tmp 4) = .pointer (some ⟨bx, 0, none⟩) from ((g_17.at_ 4).trans I0.s4)) (show x_17.eval (.tmp 5) = .bool true from (g_17.at_ 5)) r2 f2
set_option maxRecDepth 100000 in
theorem fdN {pb po n cp no bx i xn : Nat} {Q : Exit → Act → World → Prop} (a0 : Act) (wr : World) (I0 : IFD (.slice (some ⟨pb, po, none⟩) n cp) no bx a0) (h6 : a0.eval (.tmp 6) = .int .i64 (i : Int)) (hin : i < n) (hn : n ≤ 4000000)
    (c1 : wr.cell? ⟨pb, po + i * 4 + 1, none⟩ = some (.int .u32 (xn : Int))) (hne : xn ≠ no)
    (hQ : ∀ a, IFD (.slice (some ⟨pb, po, none⟩) n cp) no bx a → a.eval (.tmp 6) = .int .i64 ((i : Int) + 1) → Q .normal a wr) : cFD1.wp Try.prog Q a0 wr := by
  have hii : (i : Int) < (n : Int) := by omega
  have hni : ¬ (xn : Int) = (no : Int) := by omega
  have hnd : ((xn : Int) == (no : Int)) = false := by simpa using hni
  have w7 : IntKind.i64.wrap ((i : Int) + 1) = (i : Int) + 1 := by rw [IntKind.wrap_i64]; omega
  clear hne
  have g_0 := Fe.refl a0
  unfold cFD1
  refine wp_seq (wp_seq ?_)
  refine wp_region_list ?_
  unfold rFD2
  refine g_0.move 7 (.int .i64 (i : Int)) _ (Or.inl rfl) rfl (lb_ I0.size) (wn rfl) ((g_0.at_ 6).trans h6) (fun x_1 g_1 => ?_)
  clear g_0
  refine g_1.move 8 (.slice (some ⟨pb, po, none⟩) n cp) _ (Or.inl rfl) rfl (lb_ I0.size) (wn rfl) ((g_1.at_ 0).trans I0.s0) (fun x_2 g_2 => ?_)
  clear g_1
  have r_3 : (execOp x_2.eval oQB1).run Try.prog (wr) = .ok (.value (.int .i64 (n : Int))) (wr) := by
    unfold oQB1
    have e8 : x_2.eval (.tmp 8) = .slice (some ⟨pb, po, none⟩) n cp := g_2.at_ 8
    clear g_2 hQ h6
    generalize x_2.eval = ρ at *
    go_simp
  refine g_2.step 9 _ rfl (lb_ I0.size) (wn rfl) r_3 (fun x_3 g_3 => ?_)
  clear r_3 g_2
  have r_4 : (execOp x_3.eval oQB2).run Try.prog (wr) = .ok (.value (.bool true)) (wr) := by
    unfold oQB2
    have e7 : x_3.eval (.tmp 7) = .int .i64 (i : Int) := g_3.at_ 7
    have e9 : x_3.eval (.tmp 9) = .int .i64 (n : Int) := g_3.at_ 9
    clear g_3 hQ h6
    generalize x_3.eval = ρ at *
    go_simp
  refine g_3.step 10 _ rfl (lb_ I0.size) (wn rfl) r_4 (fun x_4 g_4 => ?_)
  clear r_4 g_3
  refine wpList_nil ?_
  change Code.wp _ _ _ _ _
  refine wp_cond_true (show x_4.eval (.tmp 10) = .bool true from (g_4.at_ 10)) (wp_skip ?_)
  change Code.wp _ _ _ _ _
  refine wp_seq (wp_block (wp_seq ?_))
  refine wp_region_list ?_
  unfold rFD4
  refine g_4.move 13 (.slice (some ⟨pb, po, none⟩) n cp) _ (Or.inl rfl) rfl (lb_ I0.size) (wn rfl) ((g_4.at_ 0).trans I0.s0) (fun x_5 g_5 => ?_)
  clear g_4
  refine g_5.move 14 (.int .i64 (i : Int)) _ (Or.inl rfl) rfl (lb_ I0.size) (wn rfl) ((g_5.at_ 6).trans h6) (fun x_6 g_6 => ?_)
  clear g_5
  have r_7 : (execOp x_6.eval oQB4).run Try.prog (wr) = .ok (.value (.pointer (some ⟨pb, po + i * 4, none⟩))) (wr) := by
    unfold oQB4
    have e13 : x_6.eval (.tmp 13) = .slice (some ⟨pb, po, none⟩) n cp := g_6.at_ 13
    have e14 : x_6.eval (.tmp 14) = .int .i64 (i : Int) := g_6.at_ 14
    clear g_6 hQ h6
    generalize x_6.eval = ρ at *
    go_simp
  refine g_6.step 15 _ rfl (lb_ I0.size) (wn rfl) r_7 (fun x_7 g_7 => ?_)
  clear r_7 g_6
  have r_8 : (execOp x_7.eval oQB5).run Try.prog (wr) = .ok (.value (.pointer (some ⟨pb, po + i * 4 + 1, none⟩))) (wr) := by
    unfold oQB5
    have e15 : x_7.eval (.tmp 15) = .pointer (some ⟨pb, po + i * 4, none⟩) := g_7.at_ 15
    clear g_7 hQ h6
    generalize x_7.eval = ρ at *
    go_simp
  refine g_7.step 16 _ rfl (lb_ I0.size) (wn rfl) r_8 (fun x_8 g_8 => ?_)
  clear r_8 g_7
  have r_9 : (execOp x_8.eval oQB6).run Try.prog (wr) = .ok (.value (.int .u32 (xn : Int))) (wr) := by
    unfold oQB6
    have e16 : x_8.eval (.tmp 16) = .pointer (some ⟨pb, po + i * 4 + 1, none⟩) := g_8.at_ 16
    clear g_8 hQ h6
    generalize x_8.eval = ρ at *
    go_simp
  refine g_8.step 17 _ rfl (lb_ I0.size) (wn rfl) r_9 (fun x_9 g_9 => ?_)
  clear r_9 g_8
  refine g_9.move 18 (.int .u32 (no : Int)) _ (Or.inl rfl) rfl (lb_ I0.size) (wn rfl) ((g_9.at_ 1).trans I0.s1) (fun x_10 g_10 => ?_)
  clear g_9
  have r_11 : (execOp x_10.eval oQB7).run Try.prog (wr) = .ok (.value (.bool false)) (wr) := by
    unfold oQB7
    have e17 : x_10.eval (.tmp 17) = .int .u32 (xn : Int) := g_10.at_ 17
    have e18 : x_10.eval (.tmp 18) = .int .u32 (no : Int) := g_10.at_ 18
    clear g_10 hQ h6
    generalize x_10.eval = ρ at *
    go_simp
  refine g_10.step 19 _ rfl (lb_ I0.size) (wn rfl) r_11 (fun x_11 g_11 => ?_)
  clear r_11 g_10
  refine wpList_nil ?_
  change Code.wp _ _ _ _ _
  refine wp_cond_false (show x_11.eval (.tmp 19) = .bool false from (g_11.at_ 19)) (wp_skip ?_)
  change Code.wp _ _ _ _ _
  refine wp_region_list ?_
  unfold rFD3
  refine g_11.move 11 (.int .i64 (i : Int)) _ (Or.inl rfl) rfl (lb_ I0.size) (wn rfl) ((g_11.at_ 6).trans h6) (fun x_12 g_12 => ?_)
  clear g_11
  have r_13 : (execOp x_12.eval oQB3).run Try.prog (wr) = .ok (.value (.int .i64 ((i : Int) + 1))) (wr) := by
    unfold oQB3
    have kc : ∀ v, x_12.eval (.const v) = v := fun _ => rfl
    have e11 : x_12.eval (.tmp 11) = .int .i64 (i : Int) := g_12.at_ 11
    clear g_12 hQ h6
    generalize x_12.eval = ρ at *
    go_simp
  refine g_12.step 12 _ rfl (lb_ I0.size) (wn rfl) r_13 (fun x_13 g_13 => ?_)
  clear r_13 g_12
  refine g_13.move 6 (.int .i64 ((i : Int) + 1)) _ (Or.inr rfl) rfl (lb_ I0.size) (wn rfl) (g_13.at_ 12) (fun x_14 g_14 => ?_)
  clear g_13
  refine wpList_nil ?_
  exact hQ x_14 (I0.keep g_14 rfl rfl rfl) (show x_14.eval (.tmp 6) = .int .i64 ((i : Int) + 1) from (g_14.at_ 6))
set_option maxRecDepth 100000 in
theorem fdE {n cp no bx : Nat} {pa : Option Addr} {Q : Exit → Act → World → Prop} (a0 : Act) (wr : World) (I0 : IFD (.slice pa n cp) no bx a0) (h6 : a0.eval (.tmp 6) = .int .i64 (n : Int)) (hQ : ∀ a, IFD (.slice pa n cp) no bx a → Q (.exit 0) a wr) : cFD1.wp Try.prog Q a0 wr := by
  have g_0 := Fe.refl a0
  unfold cFD1
  refine wp_seq (wp_seq ?_)
  refine wp_region_list ?_
  unfold rFD2
  refine g_0.move 7 (.int .i64 (n : Int)) _ (Or.inl rfl) rfl (lb_ I0.size) (wn rfl) ((g_0.at_ 6).trans h6) (fun x_1 g_1 => ?_)
  clear g_0
  refine g_1.move 8 (.slice pa n cp) _ (Or.inl rfl) rfl (lb_ I0.size) (wn rfl) ((g_1.at_ 0).trans I0.s0) (fun x_2 g_2 => ?_)
  clear g_1
  have r_3 : (execOp x_2.eval oQB1).run Try.prog (wr) = .ok (.value (.int .i64 (n : Int))) (wr) := by
    unfold oQB1
    have e8 : x_2.eval (.tmp 8) = .slice pa n cp := g_2.at_ 8
    clear g_2 hQ h6
    generalize x_2.eval = ρ at *
    go_simp
  refine g_2.step 9 _ rfl (lb_ I0.size) (wn rfl) r_3 (fun x_3 g_3 => ?_)
  clear r_3 g_2
  have r_4 : (execOp x_3.eval oQB2).run Try.prog (wr) = .ok (.value (.bool false)) (wr) := by
    unfold oQB2
    have e7 : x_3.eval (.tmp 7) = .int .i64 (n : Int) := g_3.at_ 7
    have e9 : x_3.eval (.tmp 9) = .int .i64 (n : Int) := g_3.at_ 9
    clear g_3 hQ h6
    generalize x_3.eval = ρ at *
    go_simp
  refine g_3.step 10 _ rfl (lb_ I0.size) (wn rfl) r_4 (fun x_4 g_4 => ?_)
  clear r_4 g_3
  refine wpList_nil ?_
  change Code.wp _ _ _ _ _
  refine wp_cond_false (show x_4.eval (.tmp 10) = .bool false from (g_4.at_ 10)) (wp_exit ?_)
  exact hQ x_4 (I0.keep g_4 rfl rfl rfl)
/-- What Find answers. -/
def findV (P : List Pgd) (no : Nat) : Value := match findP P no with
  | some x => .tuple #[.agg #[.int .u8 (x.kind : Int), .int .u32 (x.no : Int), .int .u64 (x.ver : Int), .string x.body], .bool true]
  | none => .tuple #[.agg #[.int .u8 0, .int .u32 0, .int .u64 0, .string ⟨#[]⟩], .bool false]
theorem find_at {P : List Pgd} {no i : Nat} {x : Pgd} (hx : P[i]? = some x) (hno : x.no = no) (hb : ∀ (j : Nat) (y : Pgd), j < i → P[j]? = some y → y.no ≠ no) : findP P no = some x := by
  unfold findP
  rw [List.find?_eq_some_iff_append]
  have hi := (List.getElem?_eq_some_iff.1 hx).1
  refine ⟨by simpa using hno, P.take i, P.drop (i + 1), ?_, fun y hy => ?_⟩
  · have e : P[i] = x := (List.getElem?_eq_some_iff.1 hx).2
    rw [← e]
    simp
  · obtain ⟨j, hj⟩ := List.mem_iff_getElem?.1 hy
    rw [List.getElem?_take] at hj
    split at hj
    · rename_i hji
      simpa using hb j y hji hj
    · cases hj
theorem find_no {P : List Pgd} {no : Nat} (hb : ∀ (j : Nat) (y : Pgd), P[j]? = some y → y.no ≠ no) : findP P no = none := by
  unfold findP
  rw [List.find?_eq_none]
  intro y hy
  obtain ⟨j, hj⟩ := List.mem_iff_getElem?.1 hy
  simpa using hb j y hj
theorem fdL {n cp no bx pb po : Nat} {pa : Option Addr} {P : List Pgd} {Q : Exit → Act → World → Prop} (a0 : Act) (wr : World) (I0 : IFD (.slice pa n cp) no bx a0) (h6 : a0.eval (.tmp 6) = .int .i64 ((0 : Nat) : Int)) (hr : PdRow wr pa pb po P) (hn : n = P.length) (hnb : n ≤ 4000000) (hb : wr.heap[bx]? = some (.cells #[.int .u8 0, .int .u32 0, .int .u64 0, .string ⟨#[]⟩] 76 (0, 0)))
    (hQ : ∀ a, IFD (.slice pa n cp) no bx a → findP P no = none → Q (.exit 0) a wr)
    (hR : ∀ a W x, findP P no = some x → a.defers = [] → a.eval (.tmp 4) = .pointer (some ⟨bx, 0, none⟩) → a.eval (.tmp 5) = .bool true → W.heap[bx]? = some (.cells #[.int .u8 (x.kind : Int), .int .u32 (x.no : Int), .int .u64 (x.ver : Int), .string x.body] 76 (0, 0)) → Fr (fun k => k = bx) wr W → Q .ret a W) : (Code.loop cFD1).wp Try.prog Q a0 wr := by
  refine wp_loop (fun a W => W = wr ∧ IFD (.slice pa n cp) no bx a ∧ ∃ i : Nat, i ≤ n ∧ a.eval (.tmp 6) = .int .i64 (i : Int) ∧ ∀ (j : Nat) (y : Pgd), j < i → P[j]? = some y → y.no ≠ no) (fun a _ => n - kOf a 6) ⟨rfl, I0, 0, Nat.zero_le _, h6, fun j y hj => absurd hj (Nat.not_lt_zero _)⟩ ?_
  rintro a W ⟨rfl, I1, i, hi, g6, hp⟩
  by_cases hgo : i < n
  · obtain ⟨x, hx⟩ : ∃ x, P[i]? = some x := ⟨_, List.getElem?_eq_getElem (by omega)⟩
    obtain ⟨rfl, _⟩ := hr.place (by intro e; rw [e] at hx; simp at hx)
    obtain ⟨c0, c1, c2, c3⟩ := hr.cells i x hx
    by_cases hno : x.no = no
    · have e := find_at hx hno hp
      rw [hno] at c1
      refine fdR a W I1 g6 hgo c0 c1 c2 c3 hb (fun a' W2 hd2 h4 h5 r2 f2 => ?_)
      rw [← hno] at r2
      exact hR a' W2 x e hd2 h4 h5 r2 f2
    · refine fdN a W I1 g6 hgo hnb c1 hno (fun a' i2 k6 => ?_)
      have h4 : a'.eval (.tmp 6) = .int .i64 ((i + 1 : Nat) : Int) := k6
      refine ⟨⟨rfl, i2, i + 1, hgo, h4, fun j y hj hy => ?_⟩, ?_⟩
      · by_cases e : j = i
        · subst e; rw [hx] at hy; cases hy; exact hno
        · exact hp j y (by omega) hy
      · show n - kOf a' 6 < n - kOf a 6
        rw [kOf_eq h4, kOf_eq g6]
        omega
  · obtain rfl : i = n := by omega
    exact fdE a W I1 g6 (fun a' i2 => hQ a' i2 (find_no (fun j y hy => hp j y (by have := (List.getElem?_eq_some_iff.1 hy).1; omega) hy)))
set_option maxRecDepth 100000 in
theorem find_calls {pa : Option Addr} {pb po n cp no : Nat} {P : List Pgd} (w : World) (hr : PdRow w pa pb po P) (hn : n = P.length) (hnb : n ≤ 4000000) :
    Calls Try.prog 23 #[.slice pa n cp, .int .u32 (no : Int)] w fun e w' => e = .returned (findV P no) ∧ Same w w' := by
  refine calls_abs (c := cFD) Try.func23 (by kernel_rfl) 25 rfl (by simp) (fun a0 hsz hd ha => ?_)
  have g_0 := Fe.refl a0
  unfold cFD
  refine wp_seq ?_
  refine wp_region_list ?_
  unfold rFD0
  have r_1 : (execOp a0.eval oQB0).run Try.prog (w) = .ok (.value (.pointer (some ⟨w.heap.size, 0, none⟩))) (w.alloc (.cells #[.int .u8 0, .int .u32 0, .int .u64 0, .string ⟨#[]⟩] 76)) := by
    unfold oQB0
    clear g_0 ha hn
    generalize a0.eval = ρ at *
    go_simp
  refine g_0.stepW 4 (.pointer (some ⟨w.heap.size, 0, none⟩)) rfl (lb_ hsz) (wn rfl) r_1 (fun x_1 g_1 => ?_)
  clear r_1 g_0
  refine g_1.move 5 (.bool false) _ (Or.inr rfl) rfl (lb_ hsz) (wn rfl) rfl (fun x_2 g_2 => ?_)
  clear g_1
  refine wpList_nil ?_
  obtain ⟨V, hV⟩ : ∃ V, V = w.alloc (.cells #[.int .u8 0, .int .u32 0, .int .u64 0, .string ⟨#[]⟩] 76) := ⟨_, rfl⟩
  rw [← hV]
  have sV : Same w V := by rw [hV]; exact (Fr.refl _ w).alloc _
  have rV : V.heap[w.heap.size]? = some (.cells #[.int .u8 0, .int .u32 0, .int .u64 0, .string ⟨#[]⟩] 76 (0, 0)) := by rw [hV]; exact heap_alloc_new w _
  clear hV
  change Code.wp _ _ _ _ _
  refine wp_seq (wp_seq ?_)
  refine wp_region_list ?_
  unfold rFD1
  refine g_2.move 6 (.int .i64 ((0 : Nat) : Int)) _ (Or.inr rfl) rfl (lb_ hsz) (wn rfl) rfl (fun x_3 g_3 => ?_)
  clear g_2
  refine wpList_nil ?_
  change Code.wp _ _ _ _ _
  refine wp_block ?_
  have I0 : IFD (.slice pa n cp) no w.heap.size x_3 := ⟨g_3.size.trans hsz, g_3.defers.trans hd, (show x_3.eval (.tmp 0) = .slice pa n cp from ((g_3.at_ 0).trans (ha 0 _ rfl))), (show x_3.eval (.tmp 1) = .int .u32 (no : Int) from ((g_3.at_ 1).trans (ha 1 _ rfl))), (show x_3.eval (.tmp 4) = .pointer (some ⟨w.heap.size, 0, none⟩) from (g_3.at_ 4))⟩
  refine fdL x_3 V I0 (show x_3.eval (.tmp 6) = .int .i64 ((0 : Nat) : Int) from (g_3.at_ 6)) (hr.same sV) hn hnb rV (fun b i2 e => ?_) (fun b W2 x e hdb h4 h5 r2 f2 => ?_)
  · have fb_0 := Fe.refl b
    change Code.wp _ _ _ _ _
    refine wp_seq ?_
    obtain ⟨W2, hW2, r2, f2, th2⟩ := store_box (cells := #[.int .u8 0, .int .u32 0, .int .u64 0, .string ⟨#[]⟩]) rV rfl
    refine wp_region_list ?_
    unfold rFD6
    have r_b_1 : (execOp b.eval oQB11).run Try.prog (V) = .ok (.value (.agg #[.int .u8 0, .int .u32 0, .int .u64 0, .string ⟨#[]⟩])) (V) := by
      unfold oQB11
      clear fb_0 
      generalize b.eval = ρ at *
      go_simp
    refine fb_0.step 24 _ rfl (lb_ i2.size) (wn rfl) r_b_1 (fun b_1 fb_1 => ?_)
    clear r_b_1 fb_0
    have r_b_2 : (execOp b_1.eval oQB12).run Try.prog (V) = .ok .skip (W2) := by
      unfold oQB12
      refine exec_storeQ rfl ?_
      rw [(show b_1.eval (.tmp 4) = .pointer (some ⟨w.heap.size, 0, none⟩) from ((fb_1.at_ 4).trans i2.s4)), (show b_1.eval (.tmp 24) = .agg #[.int .u8 0, .int .u32 0, .int .u64 0, .string ⟨#[]⟩] from (fb_1.at_ 24)), hW2]
      exact run_storeAt_mid _ w.heap.size 0 76 #[.int .u8 0, .int .u32 0, .int .u64 0, .string ⟨#[]⟩] th2 (by kernel_rfl) (by kernel_rfl)
    refine fb_1.store rfl (wn rfl) r_b_2 (fun b_2 fb_2 => ?_)
    clear r_b_2 fb_1
    refine fb_2.move 5 (.bool false) _ (Or.inr rfl) rfl (lb_ i2.size) (wn rfl) rfl (fun b_3 fb_3 => ?_)
    clear fb_2
    refine wpList_nil ?_
    change Code.wp _ _ _ _ _
    refine wp_ret ?_
    refine ret_cell1 rfl (fb_3.defers.trans i2.defers) (show b_3.eval (.tmp 4) = .pointer (some ⟨w.heap.size, 0, none⟩) from ((fb_3.at_ 4).trans i2.s4)) r2 Try.underlying76 rfl (by kernel_rfl) (show b_3.eval (.tmp 5) = .bool false from (fb_3.at_ 5)) ⟨?_, Fr.trans sV f2 (fun k hk e => by omega)⟩
    unfold findV
    rw [e]
  · refine ret_cell1 (P := Try.prog) (fn := Try.f23) (R := fun e w' => e = .returned (findV P no) ∧ Same w w') rfl hdb h4 r2 Try.underlying76 rfl (by kernel_rfl) h5 ⟨?_, Fr.trans sV f2 (fun k hk e => by omega)⟩
    unfold findV
    rw [e]
end Go.Proofs.Ytajbifblbmlffaa
