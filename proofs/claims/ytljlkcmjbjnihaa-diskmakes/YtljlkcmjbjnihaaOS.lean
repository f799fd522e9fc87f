/- The law's alike, seen, play. -/
import Derived.Test.YtljlkcmjbjnihaaOR
import Derived.Test.YtljlkcmjbjnihaaOP
namespace Go.Proofs.Ytljlkcmjbjnihaa
open Go.RowKit

def rOS0 : Array Oper := #[{ dst := some 4, op := Op.assign (Operand.const (Value.bool false)), type := 4, pos := "outright.go:57", after := #[], guard := none }]
def rOS1 : Array Oper := #[{ dst := some 6, op := Op.move (Operand.tmp 0), type := 22, pos := "outright.go:58", after := #[], guard := none },
  { dst := some 7, op := Op.call { callee := Callee.builtin Builtin.len, args := #[Operand.tmp 6], argTypes := #[22] }, type := 3, pos := "outright.go:58", after := #[{ on := 0, ground := Ground.data }], guard := none },
  { dst := some 8, op := Op.move (Operand.tmp 1), type := 22, pos := "outright.go:58", after := #[], guard := none },
  { dst := some 9, op := Op.call { callee := Callee.builtin Builtin.len, args := #[Operand.tmp 8], argTypes := #[22] }, type := 3, pos := "outright.go:58", after := #[{ on := 2, ground := Ground.data }], guard := none },
  { dst := some 10, op := Op.binOp BinOp.neq 3 (Operand.tmp 7) (Operand.tmp 9) 3, type := 4, pos := "outright.go:58", after := #[{ on := 1, ground := Ground.data }, { on := 3, ground := Ground.data }], guard := none }]
def rOS2 : Array Oper := #[{ dst := some 4, op := Op.assign (Operand.const (Value.bool false)), type := 4, pos := "outright.go:59", after := #[], guard := none }]
def rOS3 : Array Oper := #[{ dst := some 5, op := Op.assign (Operand.const (Value.int IntKind.i64 0)), type := 3, pos := "outright.go:61", after := #[], guard := none }]
def rOS4 : Array Oper := #[{ dst := some 11, op := Op.move (Operand.tmp 5), type := 3, pos := "outright.go:61", after := #[], guard := none },
  { dst := some 12, op := Op.move (Operand.tmp 0), type := 22, pos := "outright.go:61", after := #[], guard := none },
  { dst := some 13, op := Op.call { callee := Callee.builtin Builtin.len, args := #[Operand.tmp 12], argTypes := #[22] }, type := 3, pos := "outright.go:61", after := #[{ on := 1, ground := Ground.data }], guard := none },
  { dst := some 14, op := Op.binOp BinOp.lss 3 (Operand.tmp 11) (Operand.tmp 13) 3, type := 4, pos := "outright.go:61", after := #[{ on := 0, ground := Ground.data }, { on := 2, ground := Ground.data }], guard := none }]
def rOS5 : Array Oper := #[{ dst := some 15, op := Op.move (Operand.tmp 5), type := 3, pos := "outright.go:61", after := #[], guard := none },
  { dst := some 16, op := Op.binOp BinOp.add 3 (Operand.tmp 15) (Operand.const (Value.int IntKind.i64 1)) 3, type := 3, pos := "outright.go:61", after := #[{ on := 0, ground := Ground.data }], guard := none },
  { dst := some 5, op := Op.assign (Operand.tmp 16), type := 3, pos := "outright.go:61", after := #[{ on := 1, ground := Ground.data }, { on := 0, ground := Ground.phase }, { on := 1, ground := Ground.phase }], guard := none }]
def rOS6 : Array Oper := #[{ dst := some 17, op := Op.move (Operand.tmp 0), type := 22, pos := "outright.go:62", after := #[], guard := none },
  { dst := some 18, op := Op.move (Operand.tmp 5), type := 3, pos := "outright.go:62", after := #[], guard := none },
  { dst := some 19, op := Op.indexAddr 22 (Operand.tmp 17) (Operand.tmp 18), type := 0, pos := "outright.go:62", after := #[{ on := 0, ground := Ground.data }, { on := 1, ground := Ground.data }], guard := none },
  { dst := some 20, op := Op.load 9 (Operand.tmp 19), type := 9, pos := "outright.go:62", after := #[{ on := 2, ground := Ground.data }], guard := none },
  { dst := some 21, op := Op.move (Operand.tmp 1), type := 22, pos := "outright.go:62", after := #[], guard := none },
  { dst := some 22, op := Op.move (Operand.tmp 5), type := 3, pos := "outright.go:62", after := #[], guard := none },
  { dst := some 23, op := Op.indexAddr 22 (Operand.tmp 21) (Operand.tmp 22), type := 0, pos := "outright.go:62", after := #[{ on := 4, ground := Ground.data }, { on := 5, ground := Ground.data }], guard := none },
  { dst := some 24, op := Op.load 9 (Operand.tmp 23), type := 9, pos := "outright.go:62", after := #[{ on := 6, ground := Ground.data }], guard := none },
  { dst := some 25, op := Op.binOp BinOp.neq 9 (Operand.tmp 20) (Operand.tmp 24) 9, type := 4, pos := "outright.go:62", after := #[{ on := 3, ground := Ground.data }, { on := 7, ground := Ground.data }], guard := none }]
def rOS7 : Array Oper := #[{ dst := some 4, op := Op.assign (Operand.const (Value.bool false)), type := 4, pos := "outright.go:63", after := #[], guard := none }]
def rOS8 : Array Oper := #[{ dst := some 4, op := Op.assign (Operand.const (Value.bool true)), type := 4, pos := "outright.go:66", after := #[], guard := none }]
def cOS1 : Code := (Code.seq (Code.seq (Code.region 4 rOS4 false) (Code.cond (Operand.tmp 14) Code.skip (Code.exit 0))) (Code.seq (Code.block 1 (Code.seq (Code.region 6 rOS6 true) (Code.cond (Operand.tmp 25) (Code.seq (Code.region 7 rOS7 false) Code.ret) Code.skip))) (Code.region 5 rOS5 false)))
def cOS : Code := (Code.seq (Code.region 0 rOS0 false) (Code.seq (Code.seq (Code.region 1 rOS1 false) (Code.cond (Operand.tmp 10) (Code.seq (Code.region 2 rOS2 false) Code.ret) Code.skip)) (Code.seq (Code.seq (Code.region 3 rOS3 false) (Code.block 0 (Code.loop cOS1))) (Code.seq (Code.region 8 rOS8 false) Code.ret))))
structure IOS (v0 v1 : Value) (a : Act) : Prop where
  size : a.tmps.size = 26
  defers : a.defers = []
  s0 : a.eval (.tmp 0) = v0
  s1 : a.eval (.tmp 1) = v1
theorem IOS.keep {v0 v1 : Value} {a0 a : Act} {env : List (Nat × Value)} (h : IOS v0 v1 a0) (f : Fe a0 env a) (h0 : look env 0 (a0.eval (.tmp 0)) = a0.eval (.tmp 0)) (h1 : look env 1 (a0.eval (.tmp 1)) = a0.eval (.tmp 1)) : IOS v0 v1 a :=
  ⟨f.size.trans h.size, f.defers.trans h.defers, ((f.at_ 0).trans h0).trans h.s0, ((f.at_ 1).trans h1).trans h.s1⟩
theorem osE {n i xc yc : Nat} {xa ya : Option Addr} {Q : Exit → Act → World → Prop} (a0 : Act) (wr : World) (I0 : IOS (.slice xa n xc) (.slice ya n yc) a0) (h5 : a0.eval (.tmp 5) = .int .i64 (i : Int)) (hi : n ≤ i) (hQ : ∀ a, IOS (.slice xa n xc) (.slice ya n yc) a → Q (.exit 0) a wr) : cOS1.wp Try.prog Q a0 wr := by
  have hii : ¬ (i : Int) < (n : Int) := by omega
  have hid : decide ((i : Int) < (n : Int)) = false := decide_eq_false hii
  clear hi
  have fa0_0 := Fe.refl a0
  unfold cOS1
  refine wp_seq (wp_seq ?_)
  refine wp_region_list ?_
  unfold rOS4
  refine fa0_0.move 11 (.int .i64 (i : Int)) _ (Or.inl rfl) rfl (lb_ I0.size) (wanted_none rfl) ((fa0_0.at_ 5).trans h5) (fun a0_1 fa0_1 => ?_)
  clear fa0_0
  refine fa0_1.move 12 (.slice xa n xc) _ (Or.inl rfl) rfl (lb_ I0.size) (wanted_none rfl) ((fa0_1.at_ 0).trans I0.s0) (fun a0_2 fa0_2 => ?_)
  clear fa0_1
  have r_a0_3 : (execOp a0_2.eval { dst := some 13, op := Op.call { callee := Callee.builtin Builtin.len, args := #[Operand.tmp 12], argTypes := #[22] }, type := 3, pos := "outright.go:61", after := #[{ on := 1, ground := Ground.data }], guard := none }).run Try.prog (wr) = .ok (.value (.int .i64 (n : Int))) (wr) := by
    have e12 := (show a0_2.eval (.tmp 12) = .slice xa n xc from (fa0_2.at_ 12))
    clear fa0_2 hQ h5
    generalize a0_2.eval = ρ at *
    go_simp
  refine fa0_2.step 13 (.int .i64 (n : Int)) rfl (lb_ I0.size) (wanted_none rfl) r_a0_3 (fun a0_3 fa0_3 => ?_)
  clear r_a0_3
  clear fa0_2
  have r_a0_4 : (execOp a0_3.eval { dst := some 14, op := Op.binOp BinOp.lss 3 (Operand.tmp 11) (Operand.tmp 13) 3, type := 4, pos := "outright.go:61", after := #[{ on := 0, ground := Ground.data }, { on := 2, ground := Ground.data }], guard := none }).run Try.prog (wr) = .ok (.value (.bool false)) (wr) := by
    have e11 := (show a0_3.eval (.tmp 11) = .int .i64 (i : Int) from (fa0_3.at_ 11))
    have e13 := (show a0_3.eval (.tmp 13) = .int .i64 (n : Int) from (fa0_3.at_ 13))
    clear fa0_3 hQ h5
    generalize a0_3.eval = ρ at *
    go_simp
  refine fa0_3.step 14 (.bool false) rfl (lb_ I0.size) (wanted_none rfl) r_a0_4 (fun a0_4 fa0_4 => ?_)
  clear r_a0_4
  clear fa0_3
  refine wpList_nil ?_
  change Code.wp _ _ _ _ _
  refine wp_cond_false (show a0_4.eval (.tmp 14) = .bool false from (fa0_4.at_ 14)) (wp_exit ?_)
  exact hQ a0_4 (I0.keep fa0_4 rfl rfl)
set_option maxRecDepth 100000 in
set_option maxHeartbeats 1000000 in
theorem osR {n i xc yc gx gy : Nat} {s : ByteArray} {Q : Exit → Act → World → Prop} (hQp : ∀ c (a : Act) d v w, Q (.panic c) (a.put d v) w → Q (.panic c) a w) (a0 : Act) (wr : World) (I0 : IOS (.slice (some ⟨gx, 0, none⟩) n xc) (.slice (some ⟨gy, 0, none⟩) n yc) a0) (h5 : a0.eval (.tmp 5) = .int .i64 (i : Int)) (hi : i < n) (hn : n ≤ 1048576) (cx : wr.cell? ⟨gx, i, none⟩ = some (.string s)) (cy : wr.cell? ⟨gy, i, none⟩ = some (.string s))
    (hQ : ∀ a W, IOS (.slice (some ⟨gx, 0, none⟩) n xc) (.slice (some ⟨gy, 0, none⟩) n yc) a → a.eval (.tmp 5) = .int .i64 ((i : Int) + 1) → Same wr W → Q .normal a W) : cOS1.wp Try.prog Q a0 wr := by
  have hii : (i : Int) < (n : Int) := by omega
  have w1 : IntKind.i64.wrap ((i : Int) + 1) = (i : Int) + 1 := by rw [IntKind.wrap_i64]; omega
  have fa0_0 := Fe.refl a0
  unfold cOS1
  refine wp_seq (wp_seq ?_)
  refine wp_region_list ?_
  unfold rOS4
  refine fa0_0.move 11 (.int .i64 (i : Int)) _ (Or.inl rfl) rfl (lb_ I0.size) (wanted_none rfl) ((fa0_0.at_ 5).trans h5) (fun a0_1 fa0_1 => ?_)
  clear fa0_0
  refine fa0_1.move 12 (.slice (some ⟨gx, 0, none⟩) n xc) _ (Or.inl rfl) rfl (lb_ I0.size) (wanted_none rfl) ((fa0_1.at_ 0).trans I0.s0) (fun a0_2 fa0_2 => ?_)
  clear fa0_1
  have r_a0_3 : (execOp a0_2.eval { dst := some 13, op := Op.call { callee := Callee.builtin Builtin.len, args := #[Operand.tmp 12], argTypes := #[22] }, type := 3, pos := "outright.go:61", after := #[{ on := 1, ground := Ground.data }], guard := none }).run Try.prog (wr) = .ok (.value (.int .i64 (n : Int))) (wr) := by
    have e12 := (show a0_2.eval (.tmp 12) = .slice (some ⟨gx, 0, none⟩) n xc from (fa0_2.at_ 12))
    clear fa0_2 hQ h5
    generalize a0_2.eval = ρ at *
    go_simp
  refine fa0_2.step 13 (.int .i64 (n : Int)) rfl (lb_ I0.size) (wanted_none rfl) r_a0_3 (fun a0_3 fa0_3 => ?_)
  clear r_a0_3
  clear fa0_2
  have r_a0_4 : (execOp a0_3.eval { dst := some 14, op := Op.binOp BinOp.lss 3 (Operand.tmp 11) (Operand.tmp 13) 3, type := 4, pos := "outright.go:61", after := #[{ on := 0, ground := Ground.data }, { on := 2, ground := Ground.data }], guard := none }).run Try.prog (wr) = .ok (.value (.bool true)) (wr) := by
    have e11 := (show a0_3.eval (.tmp 11) = .int .i64 (i : Int) from (fa0_3.at_ 11))
    have e13 := (show a0_3.eval (.tmp 13) = .int .i64 (n : Int) from (fa0_3.at_ 13))
    clear fa0_3 hQ h5
    generalize a0_3.eval = ρ at *
    go_simp
  refine fa0_3.step 14 (.bool true) rfl (lb_ I0.size) (wanted_none rfl) r_a0_4 (fun a0_4 fa0_4 => ?_)
  clear r_a0_4
  clear fa0_3
  refine wpList_nil ?_
  change Code.wp _ _ _ _ _
  refine wp_cond_true (show a0_4.eval (.tmp 14) = .bool true from (fa0_4.at_ 14)) (wp_skip ?_)
  change Code.wp _ _ _ _ _
  refine wp_seq (wp_block (wp_seq ?_))
  have dd : Same wr wr.drew := (Fr.refl (fun _ => False) wr).drew
  refine wp_region_held_drew (ops := rOS6) (S := fun Z => Same wr Z) (by kernel_rfl) (dd) (fun hS4 => ?_)
  refine fa0_4.takeMove 0 17 (.slice (some ⟨gx, 0, none⟩) n xc) _ (Or.inl rfl) rfl (by kernel_rfl) (by kernel_rfl) (by kernel_rfl) (fun _ _ _ h => hQp _ _ _ _ _ h) rfl (lb_ I0.size) (wanted_none rfl) ((fa0_4.at_ 0).trans I0.s0) hS4 (fun a0_5 fa0_5 => ?_)
  clear fa0_4
  refine fa0_5.takeMove 1 18 (.int .i64 (i : Int)) _ (Or.inl rfl) rfl (by kernel_rfl) (by kernel_rfl) (by kernel_rfl) (fun _ _ _ h => hQp _ _ _ _ _ h) rfl (lb_ I0.size) (wanted_none rfl) ((fa0_5.at_ 5).trans h5) hS4 (fun a0_6 fa0_6 => ?_)
  clear fa0_5
  have r_a0_7 : ∀ Z, (fun Z => Same wr Z) Z → (execOp a0_6.eval { dst := some 19, op := Op.indexAddr 22 (Operand.tmp 17) (Operand.tmp 18), type := 0, pos := "outright.go:62", after := #[{ on := 0, ground := Ground.data }, { on := 1, ground := Ground.data }], guard := none }).run Try.prog Z = .ok (.value (.pointer (some ⟨gx, i, none⟩))) Z := fun Z hZ => by
    have e17 := (show a0_6.eval (.tmp 17) = .slice (some ⟨gx, 0, none⟩) n xc from (fa0_6.at_ 17))
    have e18 := (show a0_6.eval (.tmp 18) = .int .i64 (i : Int) from (fa0_6.at_ 18))
    clear fa0_6 hQ h5
    generalize a0_6.eval = ρ at *
    go_simp
  refine fa0_6.take 2 19 (.pointer (some ⟨gx, i, none⟩)) rfl (by kernel_rfl) (by kernel_rfl) (by kernel_rfl) (fun _ _ _ h => hQp _ _ _ _ _ h) rfl (lb_ I0.size) (wanted_none rfl) r_a0_7 hS4 (fun a0_7 fa0_7 => ?_)
  clear r_a0_7
  clear fa0_6
  have r_a0_8 : ∀ Z, (fun Z => Same wr Z) Z → (execOp a0_7.eval { dst := some 20, op := Op.load 9 (Operand.tmp 19), type := 9, pos := "outright.go:62", after := #[{ on := 2, ground := Ground.data }], guard := none }).run Try.prog Z = .ok (.value (.string s)) Z := fun Z hZ => by
    have z1 := hZ.keep cx
    have z2 := hZ.keep cy
    have e19 := (show a0_7.eval (.tmp 19) = .pointer (some ⟨gx, i, none⟩) from (fa0_7.at_ 19))
    clear fa0_7 hQ h5
    generalize a0_7.eval = ρ at *
    go_simp
  refine fa0_7.take 3 20 (.string s) rfl (by kernel_rfl) (by kernel_rfl) (by kernel_rfl) (fun _ _ _ h => hQp _ _ _ _ _ h) rfl (lb_ I0.size) (wanted_none rfl) r_a0_8 hS4 (fun a0_8 fa0_8 => ?_)
  clear r_a0_8
  clear fa0_7
  refine fa0_8.takeMove 4 21 (.slice (some ⟨gy, 0, none⟩) n yc) _ (Or.inl rfl) rfl (by kernel_rfl) (by kernel_rfl) (by kernel_rfl) (fun _ _ _ h => hQp _ _ _ _ _ h) rfl (lb_ I0.size) (wanted_none rfl) ((fa0_8.at_ 1).trans I0.s1) hS4 (fun a0_9 fa0_9 => ?_)
  clear fa0_8
  refine fa0_9.takeMove 5 22 (.int .i64 (i : Int)) _ (Or.inl rfl) rfl (by kernel_rfl) (by kernel_rfl) (by kernel_rfl) (fun _ _ _ h => hQp _ _ _ _ _ h) rfl (lb_ I0.size) (wanted_none rfl) ((fa0_9.at_ 5).trans h5) hS4 (fun a0_10 fa0_10 => ?_)
  clear fa0_9
  have r_a0_11 : ∀ Z, (fun Z => Same wr Z) Z → (execOp a0_10.eval { dst := some 23, op := Op.indexAddr 22 (Operand.tmp 21) (Operand.tmp 22), type := 0, pos := "outright.go:62", after := #[{ on := 4, ground := Ground.data }, { on := 5, ground := Ground.data }], guard := none }).run Try.prog Z = .ok (.value (.pointer (some ⟨gy, i, none⟩))) Z := fun Z hZ => by
    have e21 := (show a0_10.eval (.tmp 21) = .slice (some ⟨gy, 0, none⟩) n yc from (fa0_10.at_ 21))
    have e22 := (show a0_10.eval (.tmp 22) = .int .i64 (i : Int) from (fa0_10.at_ 22))
    clear fa0_10 hQ h5
    generalize a0_10.eval = ρ at *
    go_simp
  refine fa0_10.take 6 23 (.pointer (some ⟨gy, i, none⟩)) rfl (by kernel_rfl) (by kernel_rfl) (by kernel_rfl) (fun _ _ _ h => hQp _ _ _ _ _ h) rfl (lb_ I0.size) (wanted_none rfl) r_a0_11 hS4 (fun a0_11 fa0_11 => ?_)
  clear r_a0_11
  clear fa0_10
  have r_a0_12 : ∀ Z, (fun Z => Same wr Z) Z → (execOp a0_11.eval { dst := some 24, op := Op.load 9 (Operand.tmp 23), type := 9, pos := "outright.go:62", after := #[{ on := 6, ground := Ground.data }], guard := none }).run Try.prog Z = .ok (.value (.string s)) Z := fun Z hZ => by
    have z1 := hZ.keep cx
    have z2 := hZ.keep cy
    have e23 := (show a0_11.eval (.tmp 23) = .pointer (some ⟨gy, i, none⟩) from (fa0_11.at_ 23))
    clear fa0_11 hQ h5
    generalize a0_11.eval = ρ at *
    go_simp
  refine fa0_11.take 7 24 (.string s) rfl (by kernel_rfl) (by kernel_rfl) (by kernel_rfl) (fun _ _ _ h => hQp _ _ _ _ _ h) rfl (lb_ I0.size) (wanted_none rfl) r_a0_12 hS4 (fun a0_12 fa0_12 => ?_)
  clear r_a0_12
  clear fa0_11
  have r_a0_13 : ∀ Z, (fun Z => Same wr Z) Z → (execOp a0_12.eval { dst := some 25, op := Op.binOp BinOp.neq 9 (Operand.tmp 20) (Operand.tmp 24) 9, type := 4, pos := "outright.go:62", after := #[{ on := 3, ground := Ground.data }, { on := 7, ground := Ground.data }], guard := none }).run Try.prog Z = .ok (.value (.bool false)) Z := fun Z hZ => by
    have e20 := (show a0_12.eval (.tmp 20) = .string s from (fa0_12.at_ 20))
    have e24 := (show a0_12.eval (.tmp 24) = .string s from (fa0_12.at_ 24))
    clear fa0_12 hQ h5
    generalize a0_12.eval = ρ at *
    go_simp
  refine fa0_12.take 8 25 (.bool false) rfl (by kernel_rfl) (by kernel_rfl) (by kernel_rfl) (fun _ _ _ h => hQp _ _ _ _ _ h) rfl (lb_ I0.size) (wanted_none rfl) r_a0_13 hS4 (fun a0_13 fa0_13 => ?_)
  clear r_a0_13
  clear fa0_12
  refine wpAnyH_done (by kernel_rfl) ?_ _
  change Code.wp _ _ _ _ _
  refine wp_cond_false (show a0_13.eval (.tmp 25) = .bool false from (fa0_13.at_ 25)) (wp_skip ?_)
  change Code.wp _ _ _ _ _
  refine wp_region_list ?_
  unfold rOS5
  refine fa0_13.move 15 (.int .i64 (i : Int)) _ (Or.inl rfl) rfl (lb_ I0.size) (wanted_none rfl) ((fa0_13.at_ 5).trans h5) (fun a0_14 fa0_14 => ?_)
  clear fa0_13
  have r_a0_15 : (execOp a0_14.eval { dst := some 16, op := Op.binOp BinOp.add 3 (Operand.tmp 15) (Operand.const (Value.int IntKind.i64 1)) 3, type := 3, pos := "outright.go:61", after := #[{ on := 0, ground := Ground.data }], guard := none }).run Try.prog (wr.drew) = .ok (.value (.int .i64 ((i : Int) + 1))) (wr.drew) := by
    have kc : ∀ v, a0_14.eval (.const v) = v := fun _ => rfl
    have e15 := (show a0_14.eval (.tmp 15) = .int .i64 (i : Int) from (fa0_14.at_ 15))
    clear fa0_14 hQ h5
    generalize a0_14.eval = ρ at *
    go_simp
  refine fa0_14.step 16 (.int .i64 ((i : Int) + 1)) rfl (lb_ I0.size) (wanted_none rfl) r_a0_15 (fun a0_15 fa0_15 => ?_)
  clear r_a0_15
  clear fa0_14
  refine fa0_15.move 5 (.int .i64 ((i : Int) + 1)) _ (Or.inr rfl) rfl (lb_ I0.size) (wanted_none rfl) (fa0_15.at_ 16) (fun a0_16 fa0_16 => ?_)
  clear fa0_15
  refine wpList_nil ?_
  exact hQ a0_16 wr.drew (I0.keep fa0_16 rfl rfl) (show a0_16.eval (.tmp 5) = .int .i64 ((i : Int) + 1) from (fa0_16.at_ 5)) dd
theorem osL {xc yc B1 B2 : Nat} {xa ya : Option Addr} {L : List ByteArray} {Q : Exit → Act → World → Prop} (hQp : ∀ c (a : Act) d v w, Q (.panic c) (a.put d v) w → Q (.panic c) a w) (a0 : Act) (w : World) (I0 : IOS (.slice xa L.length xc) (.slice ya L.length yc) a0) (h5 : a0.eval (.tmp 5) = .int .i64 ((0 : Nat) : Int)) (hl : L.length ≤ 1048576) (hx : w.ownsRow B1 9 1 (.slice xa L.length xc) L.length (scells L)) (hy : w.ownsRow B2 9 1 (.slice ya L.length yc) L.length (scells L))
    (hQ : ∀ a W, IOS (.slice xa L.length xc) (.slice ya L.length yc) a → Same w W → Q (.exit 0) a W) : (Code.loop cOS1).wp Try.prog Q a0 w := by
  refine wp_loop (fun a W => IOS (.slice xa L.length xc) (.slice ya L.length yc) a ∧ ∃ i : Nat, i ≤ L.length ∧ a.eval (.tmp 5) = .int .i64 (i : Int) ∧ Same w W) (fun a _ => L.length - kOf a 5) ⟨I0, 0, Nat.zero_le _, h5, Fr.refl _ _⟩ ?_
  rintro a W ⟨I1, i, hi, g5, s1⟩
  by_cases hgo : i < L.length
  · obtain ⟨s, hs⟩ : ∃ s, L[i]? = some s := ⟨_, List.getElem?_eq_getElem hgo⟩
    have hsc : (scells L)[i]? = some (.string s) := by unfold scells; rw [List.getElem?_map, hs]; rfl
    have x1 := own_base (own_frameB hx s1 (fun _ _ f => f)) (Nat.zero_le _)
    have y1 := own_base (own_frameB hy s1 (fun _ _ f => f)) (Nat.zero_le _)
    obtain ⟨gx, rfl, _⟩ := own_some x1 (by omega)
    obtain ⟨gy, rfl, _⟩ := own_some y1 (by omega)
    refine osR (Q := Exit.then _ Q) hQp a W I1 g5 hgo hl (own_cell x1 hsc) (own_cell y1 hsc) (fun a' W3 i3 h1 s3 => ?_)
    have h4 : a'.eval (.tmp 5) = .int .i64 ((i + 1 : Nat) : Int) := h1
    refine ⟨⟨i3, i + 1, hgo, h4, s1.trans s3⟩, ?_⟩
    show L.length - kOf a' 5 < L.length - kOf a 5
    rw [kOf_eq h4, kOf_eq g5]
    omega
  · obtain rfl : L.length = i := by omega
    exact osE a W I1 g5 (Nat.le_refl _) (fun a' i2 => hQ a' W i2 s1)
def rOT0 : Array Oper := #[{ dst := some 2, op := Op.assign (Operand.const (Value.slice none 0 0)), type := 22, pos := "outright.go:43", after := #[], guard := none }]
def rOT1 : Array Oper := #[{ dst := some 3, op := Op.assign (Operand.const (Value.slice none 0 0)), type := 22, pos := "outright.go:44", after := #[], guard := none }]
def rOT2 : Array Oper := #[{ dst := some 8, op := Op.move (Operand.tmp 0), type := 27, pos := "outright.go:45", after := #[], guard := none },
  { dst := some 9, op := Op.call { callee := Callee.value (Operand.func 18), args := #[Operand.tmp 8], argTypes := #[27] }, type := 3, pos := "outright.go:45", after := #[{ on := 0, ground := Ground.data }], guard := none },
  { dst := some 4, op := Op.assign (Operand.tmp 9), type := 3, pos := "outright.go:45", after := #[{ on := 1, ground := Ground.data }, { on := 1, ground := Ground.chain }, { on := 0, ground := Ground.phase }, { on := 1, ground := Ground.phase }], guard := none }]
def rOT3 : Array Oper := #[{ dst := some 5, op := Op.assign (Operand.const (Value.int IntKind.i64 0)), type := 3, pos := "outright.go:46", after := #[], guard := none }]
def rOT4 : Array Oper := #[{ dst := some 10, op := Op.move (Operand.tmp 5), type := 3, pos := "outright.go:46", after := #[], guard := none },
  { dst := some 11, op := Op.move (Operand.tmp 4), type := 3, pos := "outright.go:46", after := #[], guard := none },
  { dst := some 12, op := Op.binOp BinOp.lss 3 (Operand.tmp 10) (Operand.tmp 11) 3, type := 4, pos := "outright.go:46", after := #[{ on := 0, ground := Ground.data }, { on := 1, ground := Ground.data }], guard := none }]
def rOT5 : Array Oper := #[{ dst := some 13, op := Op.move (Operand.tmp 5), type := 3, pos := "outright.go:46", after := #[], guard := none },
  { dst := some 14, op := Op.binOp BinOp.add 3 (Operand.tmp 13) (Operand.const (Value.int IntKind.i64 1)) 3, type := 3, pos := "outright.go:46", after := #[{ on := 0, ground := Ground.data }], guard := none },
  { dst := some 5, op := Op.assign (Operand.tmp 14), type := 3, pos := "outright.go:46", after := #[{ on := 1, ground := Ground.data }, { on := 0, ground := Ground.phase }, { on := 1, ground := Ground.phase }], guard := none }]
def rOT6 : Array Oper := #[{ dst := some 16, op := Op.move (Operand.tmp 0), type := 27, pos := "outright.go:47", after := #[], guard := none },
  { dst := some 17, op := Op.move (Operand.tmp 5), type := 3, pos := "outright.go:47", after := #[], guard := none },
  { dst := some 18, op := Op.convert 3 59 (Operand.tmp 17), type := 59, pos := "outright.go:47", after := #[{ on := 1, ground := Ground.data }], guard := none },
  { dst := some 19, op := Op.call { callee := Callee.value (Operand.func 30), args := #[Operand.tmp 16, Operand.tmp 18], argTypes := #[27, 59] }, type := 61, pos := "outright.go:47", after := #[{ on := 0, ground := Ground.data }, { on := 2, ground := Ground.data }], guard := none },
  { dst := some 15, op := Op.move (Operand.tmp 19), type := 61, pos := "outright.go:47", after := #[{ on := 3, ground := Ground.data }], guard := none },
  { dst := some 20, op := Op.extract (Operand.tmp 15) 0, type := 9, pos := "outright.go:47", after := #[{ on := 4, ground := Ground.data }], guard := none },
  { dst := some 21, op := Op.extract (Operand.tmp 15) 1, type := 24, pos := "outright.go:47", after := #[{ on := 4, ground := Ground.data }, { on := 7, ground := Ground.gcOnly Go.Departure.lateStores }], guard := none },
  { dst := some 6, op := Op.assign (Operand.tmp 20), type := 9, pos := "outright.go:47", after := #[{ on := 5, ground := Ground.data }, { on := 3, ground := Ground.chain }, { on := 0, ground := Ground.phase }, { on := 1, ground := Ground.phase }, { on := 2, ground := Ground.phase }, { on := 3, ground := Ground.phase }, { on := 4, ground := Ground.phase }, { on := 5, ground := Ground.phase }, { on := 6, ground := Ground.textOnly Go.Departure.lateStores }], guard := none },
  { dst := some 7, op := Op.assign (Operand.tmp 21), type := 24, pos := "outright.go:47", after := #[{ on := 6, ground := Ground.data }, { on := 7, ground := Ground.chain }, { on := 0, ground := Ground.phase }, { on := 1, ground := Ground.phase }, { on := 2, ground := Ground.phase }, { on := 3, ground := Ground.phase }, { on := 4, ground := Ground.phase }, { on := 5, ground := Ground.phase }, { on := 6, ground := Ground.phase }, { on := 7, ground := Ground.phase }], guard := none }]
def rOT7 : Array Oper := #[{ dst := some 22, op := Op.move (Operand.tmp 7), type := 24, pos := "outright.go:48", after := #[], guard := none },
  { dst := some 23, op := Op.binOp BinOp.neq 24 (Operand.tmp 22) (Operand.const (Value.int IntKind.i64 0)) 24, type := 4, pos := "outright.go:48", after := #[{ on := 0, ground := Ground.data }], guard := none }]
def rOT8 : Array Oper := #[{ dst := some 2, op := Op.assign (Operand.const (Value.slice none 0 0)), type := 22, pos := "outright.go:49", after := #[], guard := none }]
def rOT9 : Array Oper := #[{ dst := some 24, op := Op.move (Operand.tmp 3), type := 22, pos := "outright.go:51", after := #[], guard := none },
  { dst := some 25, op := Op.move (Operand.tmp 6), type := 9, pos := "outright.go:51", after := #[], guard := none },
  { dst := some 26, op := Op.buildSlice 22 1 #[(0, Operand.tmp 25)], type := 22, pos := "outright.go:51", after := #[{ on := 1, ground := Ground.data }], guard := none },
  { dst := some 27, op := Op.call { callee := Callee.builtin Builtin.append, args := #[Operand.tmp 24, Operand.tmp 26], argTypes := #[22, 22] }, type := 22, pos := "outright.go:51", after := #[{ on := 0, ground := Ground.data }, { on := 2, ground := Ground.data }], guard := none },
  { dst := some 3, op := Op.assign (Operand.tmp 27), type := 22, pos := "outright.go:51", after := #[{ on := 3, ground := Ground.data }, { on := 3, ground := Ground.chain }, { on := 0, ground := Ground.phase }, { on := 1, ground := Ground.phase }, { on := 2, ground := Ground.phase }, { on := 3, ground := Ground.phase }], guard := none }]
def rOT10 : Array Oper := #[{ dst := some 28, op := Op.move (Operand.tmp 3), type := 22, pos := "outright.go:53", after := #[], guard := none },
  { dst := some 2, op := Op.assign (Operand.tmp 28), type := 22, pos := "outright.go:53", after := #[{ on := 0, ground := Ground.data }, { on := 0, ground := Ground.phase }], guard := none }]
def cOT1 : Code := (Code.seq (Code.seq (Code.region 4 rOT4 false) (Code.cond (Operand.tmp 12) Code.skip (Code.exit 0))) (Code.seq (Code.block 1 (Code.seq (Code.region 6 rOT6 false) (Code.seq (Code.seq (Code.region 7 rOT7 false) (Code.cond (Operand.tmp 23) (Code.seq (Code.region 8 rOT8 false) Code.ret) Code.skip)) (Code.region 9 rOT9 false)))) (Code.region 5 rOT5 false)))
def cOT : Code := (Code.seq (Code.region 0 rOT0 false) (Code.seq (Code.region 1 rOT1 false) (Code.seq (Code.region 2 rOT2 false) (Code.seq (Code.seq (Code.region 3 rOT3 false) (Code.block 0 (Code.loop cOT1))) (Code.seq (Code.region 10 rOT10 false) Code.ret)))))
structure IOT (b n : Nat) (a : Act) : Prop where
  size : a.tmps.size = 29
  defers : a.defers = []
  s0 : a.eval (.tmp 0) = .pointer (some ⟨b, 0, none⟩)
  s4 : a.eval (.tmp 4) = .int .i64 (n : Int)
theorem IOT.keep {b n : Nat} {a0 a : Act} {env : List (Nat × Value)} (h : IOT b n a0) (f : Fe a0 env a) (h0 : look env 0 (a0.eval (.tmp 0)) = a0.eval (.tmp 0)) (h4 : look env 4 (a0.eval (.tmp 4)) = a0.eval (.tmp 4)) : IOT b n a :=
  ⟨f.size.trans h.size, f.defers.trans h.defers, ((f.at_ 0).trans h0).trans h.s0, ((f.at_ 4).trans h4).trans h.s4⟩
theorem otE {b n i : Nat} {vo : Value} {Q : Exit → Act → World → Prop} (a0 : Act) (wr : World) (I0 : IOT b n a0) (h5 : a0.eval (.tmp 5) = .int .i64 (i : Int)) (h3 : a0.eval (.tmp 3) = vo) (hi : n ≤ i) (hQ : ∀ a, IOT b n a → a.eval (.tmp 3) = vo → Q (.exit 0) a wr) : cOT1.wp Try.prog Q a0 wr := by
  have hii : ¬ (i : Int) < (n : Int) := by omega
  have hid : decide ((i : Int) < (n : Int)) = false := decide_eq_false hii
  clear hi
  have fa0_0 := Fe.refl a0
  unfold cOT1
  refine wp_seq (wp_seq ?_)
  refine wp_region_list ?_
  unfold rOT4
  refine fa0_0.move 10 (.int .i64 (i : Int)) _ (Or.inl rfl) rfl (lb_ I0.size) (wanted_none rfl) ((fa0_0.at_ 5).trans h5) (fun a0_1 fa0_1 => ?_)
  clear fa0_0
  refine fa0_1.move 11 (.int .i64 (n : Int)) _ (Or.inl rfl) rfl (lb_ I0.size) (wanted_none rfl) ((fa0_1.at_ 4).trans I0.s4) (fun a0_2 fa0_2 => ?_)
  clear fa0_1
  have r_a0_3 : (execOp a0_2.eval { dst := some 12, op := Op.binOp BinOp.lss 3 (Operand.tmp 10) (Operand.tmp 11) 3, type := 4, pos := "outright.go:46", after := #[{ on := 0, ground := Ground.data }, { on := 1, ground := Ground.data }], guard := none }).run Try.prog (wr) = .ok (.value (.bool false)) (wr) := by
    have e10 := (show a0_2.eval (.tmp 10) = .int .i64 (i : Int) from (fa0_2.at_ 10))
    have e11 := (show a0_2.eval (.tmp 11) = .int .i64 (n : Int) from (fa0_2.at_ 11))
    clear fa0_2 hQ h5 h3
    generalize a0_2.eval = ρ at *
    go_simp
  refine fa0_2.step 12 (.bool false) rfl (lb_ I0.size) (wanted_none rfl) r_a0_3 (fun a0_3 fa0_3 => ?_)
  clear r_a0_3
  clear fa0_2
  refine wpList_nil ?_
  change Code.wp _ _ _ _ _
  refine wp_cond_false (show a0_3.eval (.tmp 12) = .bool false from (fa0_3.at_ 12)) (wp_exit ?_)
  exact hQ a0_3 (I0.keep fa0_3 rfl rfl) (show a0_3.eval (.tmp 3) = vo from ((fa0_3.at_ 3).trans h3))
set_option maxRecDepth 100000 in
set_option maxHeartbeats 1000000 in
theorem otR {b n i cc : Nat} {ao : Option Addr} {L : List ByteArray} {s : ByteArray} {Q : Exit → Act → World → Prop} (a0 : Act) (wr : World) (I0 : IOT b n a0) (h5 : a0.eval (.tmp 5) = .int .i64 (i : Int)) (h3 : a0.eval (.tmp 3) = .slice ao i cc) (hi : i < n) (hn : n ≤ 1048576) (hx : L[i]? = some s) (ho : wr.ownsRow 0 9 1 (.slice ao i cc) i (scells (L.take i)))
    (hR : Calls Try.prog 30 #[.pointer (some ⟨b, 0, none⟩), .int .u32 (i : Int)] wr fun e w' => e = .returned (.tuple #[.string s, .int .i64 0]) ∧ w' = wr)
    (hQ : ∀ a W g c, IOT b n a → a.eval (.tmp 5) = .int .i64 ((i : Int) + 1) → a.eval (.tmp 3) = .slice (some ⟨g, 0, none⟩) (i + 1) c → W.ownsRow 0 9 1 (.slice (some ⟨g, 0, none⟩) (i + 1) c) (i + 1) (scells (L.take (i + 1))) → Fr (fun k => (Value.slice ao i cc).ownBlock = some k) wr W → ((Value.slice ao i cc).ownBlock = some g ∨ wr.heap.size ≤ g) → Q .normal a W) : cOT1.wp Try.prog Q a0 wr := by
  have hii : (i : Int) < (n : Int) := by omega
  have w1 : IntKind.i64.wrap ((i : Int) + 1) = (i : Int) + 1 := by rw [IntKind.wrap_i64]; omega
  have w2 : IntKind.u32.wrap (i : Int) = (i : Int) := by simp [IntKind.wrap, IntKind.bits, IntKind.signed]; omega
  have fa0_0 := Fe.refl a0
  unfold cOT1
  refine wp_seq (wp_seq ?_)
  refine wp_region_list ?_
  unfold rOT4
  refine fa0_0.move 10 (.int .i64 (i : Int)) _ (Or.inl rfl) rfl (lb_ I0.size) (wanted_none rfl) ((fa0_0.at_ 5).trans h5) (fun a0_1 fa0_1 => ?_)
  clear fa0_0
  refine fa0_1.move 11 (.int .i64 (n : Int)) _ (Or.inl rfl) rfl (lb_ I0.size) (wanted_none rfl) ((fa0_1.at_ 4).trans I0.s4) (fun a0_2 fa0_2 => ?_)
  clear fa0_1
  have r_a0_3 : (execOp a0_2.eval { dst := some 12, op := Op.binOp BinOp.lss 3 (Operand.tmp 10) (Operand.tmp 11) 3, type := 4, pos := "outright.go:46", after := #[{ on := 0, ground := Ground.data }, { on := 1, ground := Ground.data }], guard := none }).run Try.prog (wr) = .ok (.value (.bool true)) (wr) := by
    have e10 := (show a0_2.eval (.tmp 10) = .int .i64 (i : Int) from (fa0_2.at_ 10))
    have e11 := (show a0_2.eval (.tmp 11) = .int .i64 (n : Int) from (fa0_2.at_ 11))
    clear fa0_2 hQ h5 h3 ho
    generalize a0_2.eval = ρ at *
    go_simp
  refine fa0_2.step 12 (.bool true) rfl (lb_ I0.size) (wanted_none rfl) r_a0_3 (fun a0_3 fa0_3 => ?_)
  clear r_a0_3
  clear fa0_2
  refine wpList_nil ?_
  change Code.wp _ _ _ _ _
  refine wp_cond_true (show a0_3.eval (.tmp 12) = .bool true from (fa0_3.at_ 12)) (wp_skip ?_)
  change Code.wp _ _ _ _ _
  refine wp_seq (wp_block (wp_seq ?_))
  refine wp_region_list ?_
  unfold rOT6
  refine fa0_3.move 16 (.pointer (some ⟨b, 0, none⟩)) _ (Or.inl rfl) rfl (lb_ I0.size) (wanted_none rfl) ((fa0_3.at_ 0).trans I0.s0) (fun a0_4 fa0_4 => ?_)
  clear fa0_3
  refine fa0_4.move 17 (.int .i64 (i : Int)) _ (Or.inl rfl) rfl (lb_ I0.size) (wanted_none rfl) ((fa0_4.at_ 5).trans h5) (fun a0_5 fa0_5 => ?_)
  clear fa0_4
  have r_a0_6 : (execOp a0_5.eval { dst := some 18, op := Op.convert 3 59 (Operand.tmp 17), type := 59, pos := "outright.go:47", after := #[{ on := 1, ground := Ground.data }], guard := none }).run Try.prog (wr) = .ok (.value (.int .u32 (i : Int))) (wr) := by
    have e17 := (show a0_5.eval (.tmp 17) = .int .i64 (i : Int) from (fa0_5.at_ 17))
    clear fa0_5 hQ h5 h3 ho
    generalize a0_5.eval = ρ at *
    go_simp
  refine fa0_5.step 18 (.int .u32 (i : Int)) rfl (lb_ I0.size) (wanted_none rfl) r_a0_6 (fun a0_6 fa0_6 => ?_)
  clear r_a0_6
  clear fa0_5
  have r_a0_7 : (execOp a0_6.eval { dst := some 19, op := Op.call { callee := Callee.value (Operand.func 30), args := #[Operand.tmp 16, Operand.tmp 18], argTypes := #[27, 59] }, type := 61, pos := "outright.go:47", after := #[{ on := 0, ground := Ground.data }, { on := 2, ground := Ground.data }], guard := none }).run Try.prog (wr) = .ok (.enter 30 #[.pointer (some ⟨b, 0, none⟩), .int .u32 (i : Int)]) (wr) := by
    have kf : ∀ f, a0_6.eval (.func f) = .func (.func f) #[] #[] := fun _ => rfl
    have e16 := (show a0_6.eval (.tmp 16) = .pointer (some ⟨b, 0, none⟩) from (fa0_6.at_ 16))
    have e18 := (show a0_6.eval (.tmp 18) = .int .u32 (i : Int) from (fa0_6.at_ 18))
    clear fa0_6 hQ h5 h3 ho
    generalize a0_6.eval = ρ at *
    go_simp
  refine fa0_6.call 19 rfl (lb_ I0.size) (wanted_none rfl) r_a0_7 (hR) (fun e w1 hR => ?_)
  obtain ⟨rfl, hw1⟩ := hR
  clear r_a0_7
  have hw1 := hw1.symm
  subst hw1
  refine ⟨_, rfl, fun a0_7 fa0_7 => ?_⟩
  clear fa0_6
  refine fa0_7.move 15 (.tuple #[.string s, .int .i64 0]) _ (Or.inl rfl) rfl (lb_ I0.size) (wanted_none rfl) (fa0_7.at_ 19) (fun a0_8 fa0_8 => ?_)
  clear fa0_7
  have r_a0_9 : (execOp a0_8.eval { dst := some 20, op := Op.extract (Operand.tmp 15) 0, type := 9, pos := "outright.go:47", after := #[{ on := 4, ground := Ground.data }], guard := none }).run Try.prog (wr) = .ok (.value (.string s)) (wr) := by
    have e15 := (show a0_8.eval (.tmp 15) = .tuple #[.string s, .int .i64 0] from (fa0_8.at_ 15))
    clear fa0_8 hQ h5 h3 ho
    generalize a0_8.eval = ρ at *
    go_simp
  refine fa0_8.step 20 (.string s) rfl (lb_ I0.size) (wanted_none rfl) r_a0_9 (fun a0_9 fa0_9 => ?_)
  clear r_a0_9
  clear fa0_8
  have r_a0_10 : (execOp a0_9.eval { dst := some 21, op := Op.extract (Operand.tmp 15) 1, type := 24, pos := "outright.go:47", after := #[{ on := 4, ground := Ground.data }, { on := 7, ground := Ground.gcOnly Go.Departure.lateStores }], guard := none }).run Try.prog (wr) = .ok (.value (.int .i64 0)) (wr) := by
    have e15 := (show a0_9.eval (.tmp 15) = .tuple #[.string s, .int .i64 0] from (fa0_9.at_ 15))
    clear fa0_9 hQ h5 h3 ho
    generalize a0_9.eval = ρ at *
    go_simp
  refine fa0_9.step 21 (.int .i64 0) rfl (lb_ I0.size) (wanted_none rfl) r_a0_10 (fun a0_10 fa0_10 => ?_)
  clear r_a0_10
  clear fa0_9
  refine fa0_10.move 6 (.string s) _ (Or.inr rfl) rfl (lb_ I0.size) (wanted_none rfl) (fa0_10.at_ 20) (fun a0_11 fa0_11 => ?_)
  clear fa0_10
  refine fa0_11.move 7 (.int .i64 0) _ (Or.inr rfl) rfl (lb_ I0.size) (wanted_none rfl) (fa0_11.at_ 21) (fun a0_12 fa0_12 => ?_)
  clear fa0_11
  refine wpList_nil ?_
  change Code.wp _ _ _ _ _
  refine wp_seq (wp_seq ?_)
  refine wp_region_list ?_
  unfold rOT7
  refine fa0_12.move 22 (.int .i64 0) _ (Or.inl rfl) rfl (lb_ I0.size) (wanted_none rfl) (fa0_12.at_ 7) (fun a0_13 fa0_13 => ?_)
  clear fa0_12
  have r_a0_14 : (execOp a0_13.eval { dst := some 23, op := Op.binOp BinOp.neq 24 (Operand.tmp 22) (Operand.const (Value.int IntKind.i64 0)) 24, type := 4, pos := "outright.go:48", after := #[{ on := 0, ground := Ground.data }], guard := none }).run Try.prog (wr) = .ok (.value (.bool false)) (wr) := by
    have kc : ∀ v, a0_13.eval (.const v) = v := fun _ => rfl
    have e22 := (show a0_13.eval (.tmp 22) = .int .i64 0 from (fa0_13.at_ 22))
    clear fa0_13 hQ h5 h3 ho
    generalize a0_13.eval = ρ at *
    go_simp
  refine fa0_13.step 23 (.bool false) rfl (lb_ I0.size) (wanted_none rfl) r_a0_14 (fun a0_14 fa0_14 => ?_)
  clear r_a0_14
  clear fa0_13
  refine wpList_nil ?_
  change Code.wp _ _ _ _ _
  refine wp_cond_false (show a0_14.eval (.tmp 23) = .bool false from (fa0_14.at_ 23)) (wp_skip ?_)
  change Code.wp _ _ _ _ _
  refine wp_region_list ?_
  unfold rOT9
  refine fa0_14.move 24 (.slice ao i cc) _ (Or.inl rfl) rfl (lb_ I0.size) (wanted_none rfl) ((fa0_14.at_ 3).trans h3) (fun a0_15 fa0_15 => ?_)
  clear fa0_14
  refine fa0_15.move 25 (.string s) _ (Or.inl rfl) rfl (lb_ I0.size) (wanted_none rfl) (fa0_15.at_ 6) (fun a0_16 fa0_16 => ?_)
  clear fa0_15
  have r_a0_17 : (execOp a0_16.eval { dst := some 26, op := Op.buildSlice 22 1 #[(0, Operand.tmp 25)], type := 22, pos := "outright.go:51", after := #[{ on := 1, ground := Ground.data }], guard := none }).run Try.prog (wr) = .ok (.value (.slice (some ⟨wr.heap.size, 0, none⟩) 1 1)) (World.alloc wr (.cells #[.string s] 9)) := by
    have e25 := (show a0_16.eval (.tmp 25) = .string s from (fa0_16.at_ 25))
    clear fa0_16 hQ h5 h3 ho
    generalize a0_16.eval = ρ at *
    go_simp
  refine fa0_16.stepW 26 (.slice (some ⟨wr.heap.size, 0, none⟩) 1 1) rfl (lb_ I0.size) (wanted_none rfl) r_a0_17 (fun a0_17 fa0_17 => ?_)
  clear r_a0_17
  have s2 : Same wr (World.alloc wr (.cells #[.string s] 9)) := (Fr.refl _ wr).alloc _
  have r2 : (World.alloc wr (.cells #[.string s] 9)).heap[wr.heap.size]? = some (.cells #[.string s] 9 (0, 0)) := heap_alloc_new wr _
  generalize World.alloc wr (.cells #[.string s] 9) = V at *
  obtain ⟨g3, c3, V3, hr3, o3, f3, l3⟩ := appStrs (m := 1) (c := 1) (ad := ⟨wr.heap.size, 0, none⟩) (news := [.string s]) V 22 (own_frameB ho s2 (fun _ _ f => f)) rfl (fun j u hj => by rw [WideShapes.add_plain, Nat.zero_add]; exact (cell_of_row _ _ _ _ _ _ r2).trans (by rw [← hj, ← List.getElem?_toArray])) (fun u hu => by rw [List.mem_singleton] at hu; rw [hu]; rfl) (by decide) (by omega)
  clear fa0_16
  have r_a0_18 : (execOp a0_17.eval { dst := some 27, op := Op.call { callee := Callee.builtin Builtin.append, args := #[Operand.tmp 24, Operand.tmp 26], argTypes := #[22, 22] }, type := 22, pos := "outright.go:51", after := #[{ on := 0, ground := Ground.data }, { on := 2, ground := Ground.data }], guard := none }).run Try.prog (V) = .ok (.value (.slice (some ⟨g3, 0, none⟩) (i + 1) c3)) (V3) := by
    refine exec_append rfl ?_
    rw [(show a0_17.eval (.tmp 24) = .slice ao i cc from (fa0_17.at_ 24)), (show a0_17.eval (.tmp 26) = .slice (some ⟨wr.heap.size, 0, none⟩) 1 1 from (fa0_17.at_ 26))]
    exact hr3
  refine fa0_17.stepW 27 (.slice (some ⟨g3, 0, none⟩) (i + 1) c3) rfl (lb_ I0.size) (wanted_none rfl) r_a0_18 (fun a0_18 fa0_18 => ?_)
  clear r_a0_18
  clear fa0_17
  refine fa0_18.move 3 (.slice (some ⟨g3, 0, none⟩) (i + 1) c3) _ (Or.inr rfl) rfl (lb_ I0.size) (wanted_none rfl) (fa0_18.at_ 27) (fun a0_19 fa0_19 => ?_)
  clear fa0_18
  refine wpList_nil ?_
  change Code.wp _ _ _ _ _
  refine wp_region_list ?_
  unfold rOT5
  refine fa0_19.move 13 (.int .i64 (i : Int)) _ (Or.inl rfl) rfl (lb_ I0.size) (wanted_none rfl) ((fa0_19.at_ 5).trans h5) (fun a0_20 fa0_20 => ?_)
  clear fa0_19
  have r_a0_21 : (execOp a0_20.eval { dst := some 14, op := Op.binOp BinOp.add 3 (Operand.tmp 13) (Operand.const (Value.int IntKind.i64 1)) 3, type := 3, pos := "outright.go:46", after := #[{ on := 0, ground := Ground.data }], guard := none }).run Try.prog (V3) = .ok (.value (.int .i64 ((i : Int) + 1))) (V3) := by
    have kc : ∀ v, a0_20.eval (.const v) = v := fun _ => rfl
    have e13 := (show a0_20.eval (.tmp 13) = .int .i64 (i : Int) from (fa0_20.at_ 13))
    clear fa0_20 hQ h5 h3 ho
    generalize a0_20.eval = ρ at *
    go_simp
  refine fa0_20.step 14 (.int .i64 ((i : Int) + 1)) rfl (lb_ I0.size) (wanted_none rfl) r_a0_21 (fun a0_21 fa0_21 => ?_)
  clear r_a0_21
  clear fa0_20
  refine fa0_21.move 5 (.int .i64 ((i : Int) + 1)) _ (Or.inr rfl) rfl (lb_ I0.size) (wanted_none rfl) (fa0_21.at_ 14) (fun a0_22 fa0_22 => ?_)
  clear fa0_21
  refine wpList_nil ?_
  have f23 : Fr (fun k => (Value.slice ao i cc).ownBlock = some k) wr V3 := Fr.trans (s2.mono (fun _ _ f => f.elim)) f3 (fun _ _ e => e)
  exact hQ a0_22 V3 g3 c3 (I0.keep fa0_22 rfl rfl) (show a0_22.eval (.tmp 5) = .int .i64 ((i : Int) + 1) from (fa0_22.at_ 5)) (show a0_22.eval (.tmp 3) = .slice (some ⟨g3, 0, none⟩) (i + 1) c3 from (fa0_22.at_ 3)) (by rw [List.take_add_one, hx, Option.toList_some, scells_app]; exact o3) f23 (l3.imp id (fun e => by have := s2.size; omega))
theorem otL {b : Nat} {D : Dk} {S : Nat → Prop} {Q : Exit → Act → World → Prop} (a0 : Act) (w : World) (I0 : IOT b D.P.length a0) (h5 : a0.eval (.tmp 5) = .int .i64 ((0 : Nat) : Int)) (h3 : a0.eval (.tmp 3) = .slice none 0 0) (h : DkAt w b D S) (hp : 0 < D.page) (hoff : D.off = false) (hl : D.P.length ≤ 1048576)
    (hQ : ∀ a W ao cc, IOT b D.P.length a → a.eval (.tmp 3) = .slice ao D.P.length cc → W.ownsRow w.heap.size 9 1 (.slice ao D.P.length cc) D.P.length (scells D.P) → Same w W → Q (.exit 0) a W) : (Code.loop cOT1).wp Try.prog Q a0 w := by
  refine wp_loop (fun a W => IOT b D.P.length a ∧ ∃ (i : Nat) (ao : Option Addr) (cc : Nat), i ≤ D.P.length ∧ a.eval (.tmp 5) = .int .i64 (i : Int) ∧ a.eval (.tmp 3) = .slice ao i cc ∧ W.ownsRow w.heap.size 9 1 (.slice ao i cc) i (scells (D.P.take i)) ∧ Same w W) (fun a _ => D.P.length - kOf a 5) ⟨I0, 0, none, 0, Nat.zero_le _, h5, h3, own_nil, Fr.refl _ _⟩ ?_
  rintro a W ⟨I1, i, ao, cc, hi, g5, g3, ho, s1⟩
  by_cases hgo : i < D.P.length
  · obtain ⟨x, hx⟩ : ∃ x, D.P[i]? = some x := ⟨_, List.getElem?_eq_getElem hgo⟩
    have hR := dread_calls (no := i) W (h.same s1) hp (by omega) hl
    have e1 : drS D i = x := by unfold drS; rw [hoff, hx]; rfl
    have e2 : drE D i = 0 := by unfold drE; rw [hoff, if_neg (by decide), if_pos hgo]
    rw [e1, e2] at hR
    refine otR a W I1 g5 g3 hgo hl hx (own_base ho (Nat.zero_le _)) hR (fun a' W3 g c i3 h1 h2 o3 f3 l3 => ?_)
    have blk : ∀ k, (Value.slice ao i cc).ownBlock = some k → w.heap.size ≤ k := fun k hk => by
      cases ao with
      | none => cases hk
      | some z => have := (own_ge ho).1; simp [Value.ownBlock] at hk; omega
    have s3 : Same w W3 := Fr.trans s1 f3 (fun k hk e => by have := blk k e; omega)
    have h4 : a'.eval (.tmp 5) = .int .i64 ((i + 1 : Nat) : Int) := h1
    have hge : w.heap.size ≤ g := by
      rcases l3 with e | e
      · exact blk g e
      · exact Nat.le_trans s1.size e
    refine ⟨⟨i3, i + 1, some ⟨g, 0, none⟩, c, hgo, h4, h2, own_rebase o3 hge, s3⟩, ?_⟩
    show D.P.length - kOf a' 5 < D.P.length - kOf a 5
    rw [kOf_eq h4, kOf_eq g5]
    omega
  · obtain rfl : D.P.length = i := by omega
    rw [List.take_length] at ho
    exact otE a W I1 g5 g3 (Nat.le_refl _) (fun a' i2 h2 => hQ a' W ao cc i2 h2 ho s1)
end Go.Proofs.Ytljlkcmjbjnihaa
