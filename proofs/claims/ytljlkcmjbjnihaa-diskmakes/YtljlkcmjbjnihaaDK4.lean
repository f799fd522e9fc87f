/- The document's Same of like lists; tells. -/
import Derived.Test.YtljlkcmjbjnihaaDK3
namespace Go.Proofs.Ytljlkcmjbjnihaa
open Go.RowKit

def rDT0 : Array Oper := #[{ dst := some 4, op := Op.assign (Operand.const (Value.bool false)), type := 4, pos := "ref.go:320", after := #[], guard := none }]
def rDT1 : Array Oper := #[{ dst := some 6, op := Op.move (Operand.tmp 0), type := 22, pos := "ref.go:321", after := #[], guard := none },
  { dst := some 7, op := Op.call { callee := Callee.builtin Builtin.len, args := #[Operand.tmp 6], argTypes := #[22] }, type := 3, pos := "ref.go:321", after := #[{ on := 0, ground := Ground.data }], guard := none },
  { dst := some 8, op := Op.move (Operand.tmp 1), type := 22, pos := "ref.go:321", after := #[], guard := none },
  { dst := some 9, op := Op.call { callee := Callee.builtin Builtin.len, args := #[Operand.tmp 8], argTypes := #[22] }, type := 3, pos := "ref.go:321", after := #[{ on := 2, ground := Ground.data }], guard := none },
  { dst := some 10, op := Op.binOp BinOp.neq 3 (Operand.tmp 7) (Operand.tmp 9) 3, type := 4, pos := "ref.go:321", after := #[{ on := 1, ground := Ground.data }, { on := 3, ground := Ground.data }], guard := none }]
def rDT2 : Array Oper := #[{ dst := some 4, op := Op.assign (Operand.const (Value.bool false)), type := 4, pos := "ref.go:322", after := #[], guard := none }]
def rDT3 : Array Oper := #[{ dst := some 5, op := Op.assign (Operand.const (Value.int IntKind.i64 0)), type := 3, pos := "ref.go:324", after := #[], guard := none }]
def rDT4 : Array Oper := #[{ dst := some 11, op := Op.move (Operand.tmp 5), type := 3, pos := "ref.go:324", after := #[], guard := none },
  { dst := some 12, op := Op.move (Operand.tmp 0), type := 22, pos := "ref.go:324", after := #[], guard := none },
  { dst := some 13, op := Op.call { callee := Callee.builtin Builtin.len, args := #[Operand.tmp 12], argTypes := #[22] }, type := 3, pos := "ref.go:324", after := #[{ on := 1, ground := Ground.data }], guard := none },
  { dst := some 14, op := Op.binOp BinOp.lss 3 (Operand.tmp 11) (Operand.tmp 13) 3, type := 4, pos := "ref.go:324", after := #[{ on := 0, ground := Ground.data }, { on := 2, ground := Ground.data }], guard := none }]
def rDT5 : Array Oper := #[{ dst := some 15, op := Op.move (Operand.tmp 5), type := 3, pos := "ref.go:324", after := #[], guard := none },
  { dst := some 16, op := Op.binOp BinOp.add 3 (Operand.tmp 15) (Operand.const (Value.int IntKind.i64 1)) 3, type := 3, pos := "ref.go:324", after := #[{ on := 0, ground := Ground.data }], guard := none },
  { dst := some 5, op := Op.assign (Operand.tmp 16), type := 3, pos := "ref.go:324", after := #[{ on := 1, ground := Ground.data }, { on := 0, ground := Ground.phase }, { on := 1, ground := Ground.phase }], guard := none }]
def rDT6 : Array Oper := #[{ dst := some 17, op := Op.move (Operand.tmp 0), type := 22, pos := "ref.go:325", after := #[], guard := none },
  { dst := some 18, op := Op.move (Operand.tmp 5), type := 3, pos := "ref.go:325", after := #[], guard := none },
  { dst := some 19, op := Op.indexAddr 22 (Operand.tmp 17) (Operand.tmp 18), type := 0, pos := "ref.go:325", after := #[{ on := 0, ground := Ground.data }, { on := 1, ground := Ground.data }], guard := none },
  { dst := some 20, op := Op.load 9 (Operand.tmp 19), type := 9, pos := "ref.go:325", after := #[{ on := 2, ground := Ground.data }], guard := none },
  { dst := some 21, op := Op.move (Operand.tmp 1), type := 22, pos := "ref.go:325", after := #[], guard := none },
  { dst := some 22, op := Op.move (Operand.tmp 5), type := 3, pos := "ref.go:325", after := #[], guard := none },
  { dst := some 23, op := Op.indexAddr 22 (Operand.tmp 21) (Operand.tmp 22), type := 0, pos := "ref.go:325", after := #[{ on := 4, ground := Ground.data }, { on := 5, ground := Ground.data }], guard := none },
  { dst := some 24, op := Op.load 9 (Operand.tmp 23), type := 9, pos := "ref.go:325", after := #[{ on := 6, ground := Ground.data }], guard := none },
  { dst := some 25, op := Op.binOp BinOp.neq 9 (Operand.tmp 20) (Operand.tmp 24) 9, type := 4, pos := "ref.go:325", after := #[{ on := 3, ground := Ground.data }, { on := 7, ground := Ground.data }], guard := none }]
def rDT7 : Array Oper := #[{ dst := some 4, op := Op.assign (Operand.const (Value.bool false)), type := 4, pos := "ref.go:326", after := #[], guard := none }]
def rDT8 : Array Oper := #[{ dst := some 4, op := Op.assign (Operand.const (Value.bool true)), type := 4, pos := "ref.go:329", after := #[], guard := none }]
def cDT1 : Code := (Code.seq (Code.seq (Code.region 4 rDT4 false) (Code.cond (Operand.tmp 14) Code.skip (Code.exit 0))) (Code.seq (Code.block 1 (Code.seq (Code.region 6 rDT6 true) (Code.cond (Operand.tmp 25) (Code.seq (Code.region 7 rDT7 false) Code.ret) Code.skip))) (Code.region 5 rDT5 false)))
def cDT : Code := (Code.seq (Code.region 0 rDT0 false) (Code.seq (Code.seq (Code.region 1 rDT1 false) (Code.cond (Operand.tmp 10) (Code.seq (Code.region 2 rDT2 false) Code.ret) Code.skip)) (Code.seq (Code.seq (Code.region 3 rDT3 false) (Code.block 0 (Code.loop cDT1))) (Code.seq (Code.region 8 rDT8 false) Code.ret))))
theorem dtE {n i xc yc : Nat} {xa ya : Option Addr} {Q : Exit → Act → World → Prop} (a0 : Act) (wr : World) (I0 : IOS (.slice xa n xc) (.slice ya n yc) a0) (h5 : a0.eval (.tmp 5) = .int .i64 (i : Int)) (hi : n ≤ i) (hQ : ∀ a, IOS (.slice xa n xc) (.slice ya n yc) a → Q (.exit 0) a wr) : cDT1.wp Try.prog Q a0 wr := by
  have hii : ¬ (i : Int) < (n : Int) := by omega
  have hid : decide ((i : Int) < (n : Int)) = false := decide_eq_false hii
  clear hi
  have fa0_0 := Fe.refl a0
  unfold cDT1
  refine wp_seq (wp_seq ?_)
  refine wp_region_list ?_
  unfold rDT4
  refine fa0_0.move 11 (.int .i64 (i : Int)) _ (Or.inl rfl) rfl (lb_ I0.size) (wanted_none rfl) ((fa0_0.at_ 5).trans h5) (fun a0_1 fa0_1 => ?_)
  clear fa0_0
  refine fa0_1.move 12 (.slice xa n xc) _ (Or.inl rfl) rfl (lb_ I0.size) (wanted_none rfl) ((fa0_1.at_ 0).trans I0.s0) (fun a0_2 fa0_2 => ?_)
  clear fa0_1
  have r_a0_3 : (execOp a0_2.eval { dst := some 13, op := Op.call { callee := Callee.builtin Builtin.len, args := #[Operand.tmp 12], argTypes := #[22] }, type := 3, pos := "ref.go:324", after := #[{ on := 1, ground := Ground.data }], guard := none }).run Try.prog (wr) = .ok (.value (.int .i64 (n : Int))) (wr) := by
    have e12 := (show a0_2.eval (.tmp 12) = .slice xa n xc from (fa0_2.at_ 12))
    clear fa0_2 hQ h5
    generalize a0_2.eval = ρ at *
    go_simp
  refine fa0_2.step 13 (.int .i64 (n : Int)) rfl (lb_ I0.size) (wanted_none rfl) r_a0_3 (fun a0_3 fa0_3 => ?_)
  clear r_a0_3
  clear fa0_2
  have r_a0_4 : (execOp a0_3.eval { dst := some 14, op := Op.binOp BinOp.lss 3 (Operand.tmp 11) (Operand.tmp 13) 3, type := 4, pos := "ref.go:324", after := #[{ on := 0, ground := Ground.data }, { on := 2, ground := Ground.data }], guard := none }).run Try.prog (wr) = .ok (.value (.bool false)) (wr) := by
    have e11 := (show a0_3.eval (.tmp 11) = .int .i64 (i : Int) from (fa0_3.at_ 11))
    have e13 := (show a0_3.eval (.tmp 13) = .int .i64 (n : Int) from (fa0_3.at_ 13))
    clear fa0_3 hQ h5
    generalize a0_3.eval = ρ at *
    go_simp
  refine fa0_3.step 14 (.bool false) rfl (lb_ I0.size) (wanted_none rfl) r_a0_4 (fun a0_4 fa0_4 => ?_)
  clear r_a0_4
  clear fa0_3
  refine wpList_nil ?_
  change Code.wp _ _ _ _ _
  refine wp_cond_false (show a0_4.eval (.tmp 14) = .bool false from (fa0_4.at_ 14)) (wp_exit ?_)
  exact hQ a0_4 (I0.keep fa0_4 rfl rfl)
set_option maxRecDepth 100000 in
set_option maxHeartbeats 1000000 in
theorem dtR {n i xc yc gx gy xo yo : Nat} {s : ByteArray} {Q : Exit → Act → World → Prop} (hQp : ∀ c (a : Act) d v w, Q (.panic c) (a.put d v) w → Q (.panic c) a w) (a0 : Act) (wr : World) (I0 : IOS (.slice (some ⟨gx, xo, none⟩) n xc) (.slice (some ⟨gy, yo, none⟩) n yc) a0) (h5 : a0.eval (.tmp 5) = .int .i64 (i : Int)) (hi : i < n) (hn : n ≤ 1048576) (cx : wr.cell? ⟨gx, xo + i, none⟩ = some (.string s)) (cy : wr.cell? ⟨gy, yo + i, none⟩ = some (.string s))
    (hQ : ∀ a W, IOS (.slice (some ⟨gx, xo, none⟩) n xc) (.slice (some ⟨gy, yo, none⟩) n yc) a → a.eval (.tmp 5) = .int .i64 ((i : Int) + 1) → Same wr W → Q .normal a W) : cDT1.wp Try.prog Q a0 wr := by
  have hii : (i : Int) < (n : Int) := by omega
  have w1 : IntKind.i64.wrap ((i : Int) + 1) = (i : Int) + 1 := by rw [IntKind.wrap_i64]; omega
  have fa0_0 := Fe.refl a0
  unfold cDT1
  refine wp_seq (wp_seq ?_)
  refine wp_region_list ?_
  unfold rDT4
  refine fa0_0.move 11 (.int .i64 (i : Int)) _ (Or.inl rfl) rfl (lb_ I0.size) (wanted_none rfl) ((fa0_0.at_ 5).trans h5) (fun a0_1 fa0_1 => ?_)
  clear fa0_0
  refine fa0_1.move 12 (.slice (some ⟨gx, xo, none⟩) n xc) _ (Or.inl rfl) rfl (lb_ I0.size) (wanted_none rfl) ((fa0_1.at_ 0).trans I0.s0) (fun a0_2 fa0_2 => ?_)
  clear fa0_1
  have r_a0_3 : (execOp a0_2.eval { dst := some 13, op := Op.call { callee := Callee.builtin Builtin.len, args := #[Operand.tmp 12], argTypes := #[22] }, type := 3, pos := "ref.go:324", after := #[{ on := 1, ground := Ground.data }], guard := none }).run Try.prog (wr) = .ok (.value (.int .i64 (n : Int))) (wr) := by
    have e12 := (show a0_2.eval (.tmp 12) = .slice (some ⟨gx, xo, none⟩) n xc from (fa0_2.at_ 12))
    clear fa0_2 hQ h5
    generalize a0_2.eval = ρ at *
    go_simp
  refine fa0_2.step 13 (.int .i64 (n : Int)) rfl (lb_ I0.size) (wanted_none rfl) r_a0_3 (fun a0_3 fa0_3 => ?_)
  clear r_a0_3
  clear fa0_2
  have r_a0_4 : (execOp a0_3.eval { dst := some 14, op := Op.binOp BinOp.lss 3 (Operand.tmp 11) (Operand.tmp 13) 3, type := 4, pos := "ref.go:324", after := #[{ on := 0, ground := Ground.data }, { on := 2, ground := Ground.data }], guard := none }).run Try.prog (wr) = .ok (.value (.bool true)) (wr) := by
    have e11 := (show a0_3.eval (.tmp 11) = .int .i64 (i : Int) from (fa0_3.at_ 11))
    have e13 := (show a0_3.eval (.tmp 13) = .int .i64 (n : Int) from (fa0_3.at_ 13))
    clear fa0_3 hQ h5
    generalize a0_3.eval = ρ at *
    go_simp
  refine fa0_3.step 14 (.bool true) rfl (lb_ I0.size) (wanted_none rfl) r_a0_4 (fun a0_4 fa0_4 => ?_)
  clear r_a0_4
  clear fa0_3
  refine wpList_nil ?_
  change Code.wp _ _ _ _ _
  refine wp_cond_true (show a0_4.eval (.tmp 14) = .bool true from (fa0_4.at_ 14)) (wp_skip ?_)
  change Code.wp _ _ _ _ _
  refine wp_seq (wp_block (wp_seq ?_))
  have dd : Same wr wr.drew := (Fr.refl (fun _ => False) wr).drew
  refine wp_region_held_drew (ops := rDT6) (S := fun Z => Same wr Z) (by kernel_rfl) (dd) (fun hS4 => ?_)
  refine fa0_4.takeMove 0 17 (.slice (some ⟨gx, xo, none⟩) n xc) _ (Or.inl rfl) rfl (by kernel_rfl) (by kernel_rfl) (by kernel_rfl) (fun _ _ _ h => hQp _ _ _ _ _ h) rfl (lb_ I0.size) (wanted_none rfl) ((fa0_4.at_ 0).trans I0.s0) hS4 (fun a0_5 fa0_5 => ?_)
  clear fa0_4
  refine fa0_5.takeMove 1 18 (.int .i64 (i : Int)) _ (Or.inl rfl) rfl (by kernel_rfl) (by kernel_rfl) (by kernel_rfl) (fun _ _ _ h => hQp _ _ _ _ _ h) rfl (lb_ I0.size) (wanted_none rfl) ((fa0_5.at_ 5).trans h5) hS4 (fun a0_6 fa0_6 => ?_)
  clear fa0_5
  have r_a0_7 : ∀ Z, (fun Z => Same wr Z) Z → (execOp a0_6.eval { dst := some 19, op := Op.indexAddr 22 (Operand.tmp 17) (Operand.tmp 18), type := 0, pos := "ref.go:325", after := #[{ on := 0, ground := Ground.data }, { on := 1, ground := Ground.data }], guard := none }).run Try.prog Z = .ok (.value (.pointer (some ⟨gx, xo + i, none⟩))) Z := fun Z hZ => by
    have e17 := (show a0_6.eval (.tmp 17) = .slice (some ⟨gx, xo, none⟩) n xc from (fa0_6.at_ 17))
    have e18 := (show a0_6.eval (.tmp 18) = .int .i64 (i : Int) from (fa0_6.at_ 18))
    clear fa0_6 hQ h5
    generalize a0_6.eval = ρ at *
    go_simp
  refine fa0_6.take 2 19 (.pointer (some ⟨gx, xo + i, none⟩)) rfl (by kernel_rfl) (by kernel_rfl) (by kernel_rfl) (fun _ _ _ h => hQp _ _ _ _ _ h) rfl (lb_ I0.size) (wanted_none rfl) r_a0_7 hS4 (fun a0_7 fa0_7 => ?_)
  clear r_a0_7
  clear fa0_6
  have r_a0_8 : ∀ Z, (fun Z => Same wr Z) Z → (execOp a0_7.eval { dst := some 20, op := Op.load 9 (Operand.tmp 19), type := 9, pos := "ref.go:325", after := #[{ on := 2, ground := Ground.data }], guard := none }).run Try.prog Z = .ok (.value (.string s)) Z := fun Z hZ => by
    have z1 := hZ.keep cx
    have z2 := hZ.keep cy
    have e19 := (show a0_7.eval (.tmp 19) = .pointer (some ⟨gx, xo + i, none⟩) from (fa0_7.at_ 19))
    clear fa0_7 hQ h5
    generalize a0_7.eval = ρ at *
    go_simp
  refine fa0_7.take 3 20 (.string s) rfl (by kernel_rfl) (by kernel_rfl) (by kernel_rfl) (fun _ _ _ h => hQp _ _ _ _ _ h) rfl (lb_ I0.size) (wanted_none rfl) r_a0_8 hS4 (fun a0_8 fa0_8 => ?_)
  clear r_a0_8
  clear fa0_7
  refine fa0_8.takeMove 4 21 (.slice (some ⟨gy, yo, none⟩) n yc) _ (Or.inl rfl) rfl (by kernel_rfl) (by kernel_rfl) (by kernel_rfl) (fun _ _ _ h => hQp _ _ _ _ _ h) rfl (lb_ I0.size) (wanted_none rfl) ((fa0_8.at_ 1).trans I0.s1) hS4 (fun a0_9 fa0_9 => ?_)
  clear fa0_8
  refine fa0_9.takeMove 5 22 (.int .i64 (i : Int)) _ (Or.inl rfl) rfl (by kernel_rfl) (by kernel_rfl) (by kernel_rfl) (fun _ _ _ h => hQp _ _ _ _ _ h) rfl (lb_ I0.size) (wanted_none rfl) ((fa0_9.at_ 5).trans h5) hS4 (fun a0_10 fa0_10 => ?_)
  clear fa0_9
  have r_a0_11 : ∀ Z, (fun Z => Same wr Z) Z → (execOp a0_10.eval { dst := some 23, op := Op.indexAddr 22 (Operand.tmp 21) (Operand.tmp 22), type := 0, pos := "ref.go:325", after := #[{ on := 4, ground := Ground.data }, { on := 5, ground := Ground.data }], guard := none }).run Try.prog Z = .ok (.value (.pointer (some ⟨gy, yo + i, none⟩))) Z := fun Z hZ => by
    have e21 := (show a0_10.eval (.tmp 21) = .slice (some ⟨gy, yo, none⟩) n yc from (fa0_10.at_ 21))
    have e22 := (show a0_10.eval (.tmp 22) = .int .i64 (i : Int) from (fa0_10.at_ 22))
    clear fa0_10 hQ h5
    generalize a0_10.eval = ρ at *
    go_simp
  refine fa0_10.take 6 23 (.pointer (some ⟨gy, yo + i, none⟩)) rfl (by kernel_rfl) (by kernel_rfl) (by kernel_rfl) (fun _ _ _ h => hQp _ _ _ _ _ h) rfl (lb_ I0.size) (wanted_none rfl) r_a0_11 hS4 (fun a0_11 fa0_11 => ?_)
  clear r_a0_11
  clear fa0_10
  have r_a0_12 : ∀ Z, (fun Z => Same wr Z) Z → (execOp a0_11.eval { dst := some 24, op := Op.load 9 (Operand.tmp 23), type := 9, pos := "ref.go:325", after := #[{ on := 6, ground := Ground.data }], guard := none }).run Try.prog Z = .ok (.value (.string s)) Z := fun Z hZ => by
    have z1 := hZ.keep cx
    have z2 := hZ.keep cy
    have e23 := (show a0_11.eval (.tmp 23) = .pointer (some ⟨gy, yo + i, none⟩) from (fa0_11.at_ 23))
    clear fa0_11 hQ h5
    generalize a0_11.eval = ρ at *
    go_simp
  refine fa0_11.take 7 24 (.string s) rfl (by kernel_rfl) (by kernel_rfl) (by kernel_rfl) (fun _ _ _ h => hQp _ _ _ _ _ h) rfl (lb_ I0.size) (wanted_none rfl) r_a0_12 hS4 (fun a0_12 fa0_12 => ?_)
  clear r_a0_12
  clear fa0_11
  have r_a0_13 : ∀ Z, (fun Z => Same wr Z) Z → (execOp a0_12.eval { dst := some 25, op := Op.binOp BinOp.neq 9 (Operand.tmp 20) (Operand.tmp 24) 9, type := 4, pos := "ref.go:325", after := #[{ on := 3, ground := Ground.data }, { on := 7, ground := Ground.data }], guard := none }).run Try.prog Z = .ok (.value (.bool false)) Z := fun Z hZ => by
    have e20 := (show a0_12.eval (.tmp 20) = .string s from (fa0_12.at_ 20))
    have e24 := (show a0_12.eval (.tmp 24) = .string s from (fa0_12.at_ 24))
    clear fa0_12 hQ h5
    generalize a0_12.eval = ρ at *
    go_simp
  refine fa0_12.take 8 25 (.bool false) rfl (by kernel_rfl) (by kernel_rfl) (by kernel_rfl) (fun _ _ _ h => hQp _ _ _ _ _ h) rfl (lb_ I0.size) (wanted_none rfl) r_a0_13 hS4 (fun a0_13 fa0_13 => ?_)
  clear r_a0_13
  clear fa0_12
  refine wpAnyH_done (by kernel_rfl) ?_ _
  change Code.wp _ _ _ _ _
  refine wp_cond_false (show a0_13.eval (.tmp 25) = .bool false from (fa0_13.at_ 25)) (wp_skip ?_)
  change Code.wp _ _ _ _ _
  refine wp_region_list ?_
  unfold rDT5
  refine fa0_13.move 15 (.int .i64 (i : Int)) _ (Or.inl rfl) rfl (lb_ I0.size) (wanted_none rfl) ((fa0_13.at_ 5).trans h5) (fun a0_14 fa0_14 => ?_)
  clear fa0_13
  have r_a0_15 : (execOp a0_14.eval { dst := some 16, op := Op.binOp BinOp.add 3 (Operand.tmp 15) (Operand.const (Value.int IntKind.i64 1)) 3, type := 3, pos := "ref.go:324", after := #[{ on := 0, ground := Ground.data }], guard := none }).run Try.prog (wr.drew) = .ok (.value (.int .i64 ((i : Int) + 1))) (wr.drew) := by
    have kc : ∀ v, a0_14.eval (.const v) = v := fun _ => rfl
    have e15 := (show a0_14.eval (.tmp 15) = .int .i64 (i : Int) from (fa0_14.at_ 15))
    clear fa0_14 hQ h5
    generalize a0_14.eval = ρ at *
    go_simp
  refine fa0_14.step 16 (.int .i64 ((i : Int) + 1)) rfl (lb_ I0.size) (wanted_none rfl) r_a0_15 (fun a0_15 fa0_15 => ?_)
  clear r_a0_15
  clear fa0_14
  refine fa0_15.move 5 (.int .i64 ((i : Int) + 1)) _ (Or.inr rfl) rfl (lb_ I0.size) (wanted_none rfl) (fa0_15.at_ 16) (fun a0_16 fa0_16 => ?_)
  clear fa0_15
  refine wpList_nil ?_
  exact hQ a0_16 wr.drew (I0.keep fa0_16 rfl rfl) (show a0_16.eval (.tmp 5) = .int .i64 ((i : Int) + 1) from (fa0_16.at_ 5)) dd
theorem dtL {xc yc xb xo yb yo : Nat} {xa ya : Option Addr} {L : List ByteArray} {Q : Exit → Act → World → Prop} (hQp : ∀ c (a : Act) d v w, Q (.panic c) (a.put d v) w → Q (.panic c) a w) (a0 : Act) (w : World) (I0 : IOS (.slice xa L.length xc) (.slice ya L.length yc) a0) (h5 : a0.eval (.tmp 5) = .int .i64 ((0 : Nat) : Int)) (hl : L.length ≤ 1048576) (hx : TRow w xa xb xo L) (hy : TRow w ya yb yo L)
    (hQ : ∀ a W, IOS (.slice xa L.length xc) (.slice ya L.length yc) a → Same w W → Q (.exit 0) a W) : (Code.loop cDT1).wp Try.prog Q a0 w := by
  refine wp_loop (fun a W => IOS (.slice xa L.length xc) (.slice ya L.length yc) a ∧ ∃ i : Nat, i ≤ L.length ∧ a.eval (.tmp 5) = .int .i64 (i : Int) ∧ Same w W) (fun a _ => L.length - kOf a 5) ⟨I0, 0, Nat.zero_le _, h5, Fr.refl _ _⟩ ?_
  rintro a W ⟨I1, i, hi, g5, s1⟩
  by_cases hgo : i < L.length
  · obtain ⟨s, hs⟩ : ∃ s, L[i]? = some s := ⟨_, List.getElem?_eq_getElem hgo⟩
    have hne : L ≠ [] := fun e => by rw [e] at hgo; cases hgo
    obtain ⟨rfl, _⟩ := hx.place hne
    obtain ⟨rfl, _⟩ := hy.place hne
    refine dtR (Q := Exit.then _ Q) hQp a W I1 g5 hgo hl (s1.keep (hx.cells i s hs)) (s1.keep (hy.cells i s hs)) (fun a' W3 i3 h1 s3 => ?_)
    have h4 : a'.eval (.tmp 5) = .int .i64 ((i + 1 : Nat) : Int) := h1
    refine ⟨⟨i3, i + 1, hgo, h4, s1.trans s3⟩, ?_⟩
    show L.length - kOf a' 5 < L.length - kOf a 5
    rw [kOf_eq h4, kOf_eq g5]
    omega
  · obtain rfl : L.length = i := by omega
    exact dtE a W I1 g5 (Nat.le_refl _) (fun a' i2 => hQ a' W i2 s1)
set_option maxRecDepth 100000 in
theorem rsame_true {xc yc xb xo yb yo : Nat} {xa ya : Option Addr} {L : List ByteArray} (w : World) (hl : L.length ≤ 1048576) (hx : TRow w xa xb xo L) (hy : TRow w ya yb yo L) :
    Calls Try.prog 8 #[.slice xa L.length xc, .slice ya L.length yc] w fun e w' => e = .returned (.bool true) ∧ Same w w' := by
  refine calls_abs (c := cDT) Try.func8 (by kernel_rfl) 26 rfl (by simp) (fun a0 hsz hd ha => ?_)
  have fa0_0 := Fe.refl a0
  unfold cDT
  refine wp_seq ?_
  refine wp_region_list ?_
  unfold rDT0
  refine fa0_0.move 4 (.bool false) _ (Or.inr rfl) rfl (lb_ hsz) (wanted_none rfl) rfl (fun a0_1 fa0_1 => ?_)
  clear fa0_0
  refine wpList_nil ?_
  change Code.wp _ _ _ _ _
  refine wp_seq (wp_seq ?_)
  refine wp_region_list ?_
  unfold rDT1
  refine fa0_1.move 6 (.slice xa L.length xc) _ (Or.inl rfl) rfl (lb_ hsz) (wanted_none rfl) ((fa0_1.at_ 0).trans (ha 0 _ rfl)) (fun a0_2 fa0_2 => ?_)
  clear fa0_1
  have r_a0_3 : (execOp a0_2.eval { dst := some 7, op := Op.call { callee := Callee.builtin Builtin.len, args := #[Operand.tmp 6], argTypes := #[22] }, type := 3, pos := "ref.go:321", after := #[{ on := 0, ground := Ground.data }], guard := none }).run Try.prog (w) = .ok (.value (.int .i64 (L.length : Int))) (w) := by
    have e6 := (show a0_2.eval (.tmp 6) = .slice xa L.length xc from (fa0_2.at_ 6))
    clear fa0_2 ha hx hy
    generalize a0_2.eval = ρ at *
    go_simp
  refine fa0_2.step 7 (.int .i64 (L.length : Int)) rfl (lb_ hsz) (wanted_none rfl) r_a0_3 (fun a0_3 fa0_3 => ?_)
  clear r_a0_3
  clear fa0_2
  refine fa0_3.move 8 (.slice ya L.length yc) _ (Or.inl rfl) rfl (lb_ hsz) (wanted_none rfl) ((fa0_3.at_ 1).trans (ha 1 _ rfl)) (fun a0_4 fa0_4 => ?_)
  clear fa0_3
  have r_a0_5 : (execOp a0_4.eval { dst := some 9, op := Op.call { callee := Callee.builtin Builtin.len, args := #[Operand.tmp 8], argTypes := #[22] }, type := 3, pos := "ref.go:321", after := #[{ on := 2, ground := Ground.data }], guard := none }).run Try.prog (w) = .ok (.value (.int .i64 (L.length : Int))) (w) := by
    have e8 := (show a0_4.eval (.tmp 8) = .slice ya L.length yc from (fa0_4.at_ 8))
    clear fa0_4 ha hx hy
    generalize a0_4.eval = ρ at *
    go_simp
  refine fa0_4.step 9 (.int .i64 (L.length : Int)) rfl (lb_ hsz) (wanted_none rfl) r_a0_5 (fun a0_5 fa0_5 => ?_)
  clear r_a0_5
  clear fa0_4
  have r_a0_6 : (execOp a0_5.eval { dst := some 10, op := Op.binOp BinOp.neq 3 (Operand.tmp 7) (Operand.tmp 9) 3, type := 4, pos := "ref.go:321", after := #[{ on := 1, ground := Ground.data }, { on := 3, ground := Ground.data }], guard := none }).run Try.prog (w) = .ok (.value (.bool false)) (w) := by
    have e7 := (show a0_5.eval (.tmp 7) = .int .i64 (L.length : Int) from (fa0_5.at_ 7))
    have e9 := (show a0_5.eval (.tmp 9) = .int .i64 (L.length : Int) from (fa0_5.at_ 9))
    clear fa0_5 ha hx hy
    generalize a0_5.eval = ρ at *
    go_simp
  refine fa0_5.step 10 (.bool false) rfl (lb_ hsz) (wanted_none rfl) r_a0_6 (fun a0_6 fa0_6 => ?_)
  clear r_a0_6
  clear fa0_5
  refine wpList_nil ?_
  change Code.wp _ _ _ _ _
  refine wp_cond_false (show a0_6.eval (.tmp 10) = .bool false from (fa0_6.at_ 10)) (wp_skip ?_)
  change Code.wp _ _ _ _ _
  refine wp_seq (wp_seq ?_)
  refine wp_region_list ?_
  unfold rDT3
  refine fa0_6.move 5 (.int .i64 ((0 : Nat) : Int)) _ (Or.inr rfl) rfl (lb_ hsz) (wanted_none rfl) rfl (fun a0_7 fa0_7 => ?_)
  clear fa0_6
  refine wpList_nil ?_
  change Code.wp _ _ _ _ _
  refine wp_block ?_
  refine dtL (L := L) (by intro c a d v w h; cases d <;> exact h) a0_7 w ⟨fa0_7.size.trans hsz, fa0_7.defers.trans hd, (show a0_7.eval (.tmp 0) = .slice xa L.length xc from ((fa0_7.at_ 0).trans (ha 0 _ rfl))), (show a0_7.eval (.tmp 1) = .slice ya L.length yc from ((fa0_7.at_ 1).trans (ha 1 _ rfl)))⟩ (show a0_7.eval (.tmp 5) = .int .i64 ((0 : Nat) : Int) from (fa0_7.at_ 5)) hl hx hy (fun b1 W i1 s1 => ?_)
  change Code.wp _ _ _ _ _
  refine wp_seq ?_
  have fb1_0 := Fe.refl b1
  refine wp_region_list ?_
  unfold rDT8
  refine fb1_0.move 4 (.bool true) _ (Or.inr rfl) rfl (lb_ i1.size) (wanted_none rfl) rfl (fun b1_1 fb1_1 => ?_)
  clear fb1_0
  refine wpList_nil ?_
  change Code.wp _ _ _ _ _
  refine wp_ret ?_
  exact ret_abs rfl (fb1_1.defers.trans i1.defers) (show b1_1.eval (.tmp 4) = .bool true from (fb1_1.at_ 4)) ⟨rfl, s1⟩
def rDU0 : Array Oper := #[{ dst := some 4, op := Op.assign (Operand.const (Value.bool false)), type := 4, pos := "law.go:148", after := #[], guard := none }]
def rDU1 : Array Oper := #[{ dst := some 6, op := Op.move (Operand.tmp 0), type := 27, pos := "law.go:149", after := #[], guard := none },
  { dst := some 7, op := Op.call { callee := Callee.value (Operand.func 16), args := #[Operand.tmp 6], argTypes := #[27] }, type := 3, pos := "law.go:149", after := #[{ on := 0, ground := Ground.data }], guard := none },
  { dst := some 8, op := Op.move (Operand.tmp 1), type := 23, pos := "law.go:149", after := #[], guard := none },
  { dst := some 9, op := Op.nilCheck (Operand.tmp 8), type := 0, pos := "law.go:149", after := #[{ on := 2, ground := Ground.data }], guard := none },
  { dst := some 10, op := Op.fieldAddr 42 (Operand.tmp 9) 0, type := 0, pos := "law.go:149", after := #[{ on := 3, ground := Ground.data }], guard := none },
  { dst := some 11, op := Op.load 3 (Operand.tmp 10), type := 3, pos := "law.go:149", after := #[{ on := 4, ground := Ground.data }], guard := none },
  { dst := some 12, op := Op.binOp BinOp.eql 3 (Operand.tmp 7) (Operand.tmp 11) 3, type := 4, pos := "law.go:149", after := #[{ on := 1, ground := Ground.data }, { on := 5, ground := Ground.data }], guard := none },
  { dst := some 13, op := Op.move (Operand.tmp 12), type := 4, pos := "law.go:149", after := #[{ on := 6, ground := Ground.data }, { on := 1, ground := Ground.chain }], guard := none },
  { dst := some 14, op := Op.move (Operand.tmp 0), type := 27, pos := "law.go:149", after := #[{ on := 7, ground := Ground.guard }], guard := some (7, true) },
  { dst := some 15, op := Op.call { callee := Callee.value (Operand.func 17), args := #[Operand.tmp 14], argTypes := #[27] }, type := 3, pos := "law.go:149", after := #[{ on := 8, ground := Ground.data }, { on := 7, ground := Ground.chain }, { on := 7, ground := Ground.guard }], guard := some (7, true) },
  { dst := some 16, op := Op.move (Operand.tmp 1), type := 23, pos := "law.go:149", after := #[{ on := 7, ground := Ground.guard }], guard := some (7, true) },
  { dst := some 17, op := Op.nilCheck (Operand.tmp 16), type := 0, pos := "law.go:149", after := #[{ on := 10, ground := Ground.data }, { on := 7, ground := Ground.guard }], guard := some (7, true) },
  { dst := some 18, op := Op.fieldAddr 42 (Operand.tmp 17) 1, type := 0, pos := "law.go:149", after := #[{ on := 11, ground := Ground.data }, { on := 7, ground := Ground.guard }], guard := some (7, true) },
  { dst := some 19, op := Op.load 3 (Operand.tmp 18), type := 3, pos := "law.go:149", after := #[{ on := 12, ground := Ground.data }, { on := 7, ground := Ground.guard }], guard := some (7, true) },
  { dst := some 20, op := Op.binOp BinOp.eql 3 (Operand.tmp 15) (Operand.tmp 19) 3, type := 4, pos := "law.go:149", after := #[{ on := 9, ground := Ground.data }, { on := 13, ground := Ground.data }, { on := 7, ground := Ground.guard }], guard := some (7, true) },
  { dst := some 21, op := Op.pick (Operand.tmp 13) (Operand.tmp 20) (Operand.const (Value.bool false)), type := 4, pos := "law.go:149", after := #[{ on := 7, ground := Ground.data }, { on := 14, ground := Ground.data }], guard := none },
  { dst := some 22, op := Op.move (Operand.tmp 21), type := 4, pos := "law.go:149", after := #[{ on := 15, ground := Ground.data }, { on := 9, ground := Ground.chain }], guard := none },
  { dst := some 23, op := Op.move (Operand.tmp 0), type := 27, pos := "law.go:149", after := #[{ on := 16, ground := Ground.guard }], guard := some (16, true) },
  { dst := some 24, op := Op.call { callee := Callee.value (Operand.func 18), args := #[Operand.tmp 23], argTypes := #[27] }, type := 3, pos := "law.go:149", after := #[{ on := 17, ground := Ground.data }, { on := 16, ground := Ground.chain }, { on := 16, ground := Ground.guard }], guard := some (16, true) },
  { dst := some 25, op := Op.move (Operand.tmp 1), type := 23, pos := "law.go:149", after := #[{ on := 16, ground := Ground.guard }], guard := some (16, true) },
  { dst := some 26, op := Op.call { callee := Callee.value (Operand.func 19), args := #[Operand.tmp 25], argTypes := #[23] }, type := 3, pos := "law.go:149", after := #[{ on := 19, ground := Ground.data }, { on := 18, ground := Ground.chain }, { on := 16, ground := Ground.guard }], guard := some (16, true) },
  { dst := some 27, op := Op.binOp BinOp.eql 3 (Operand.tmp 24) (Operand.tmp 26) 3, type := 4, pos := "law.go:149", after := #[{ on := 18, ground := Ground.data }, { on := 20, ground := Ground.data }, { on := 16, ground := Ground.guard }], guard := some (16, true) },
  { dst := some 28, op := Op.pick (Operand.tmp 22) (Operand.tmp 27) (Operand.const (Value.bool false)), type := 4, pos := "law.go:149", after := #[{ on := 16, ground := Ground.data }, { on := 21, ground := Ground.data }], guard := none },
  { dst := some 29, op := Op.move (Operand.tmp 28), type := 4, pos := "law.go:149", after := #[{ on := 22, ground := Ground.data }, { on := 20, ground := Ground.chain }], guard := none },
  { dst := some 30, op := Op.move (Operand.tmp 0), type := 27, pos := "law.go:149", after := #[{ on := 23, ground := Ground.guard }], guard := some (23, true) },
  { dst := some 31, op := Op.call { callee := Callee.value (Operand.func 20), args := #[Operand.tmp 30], argTypes := #[27] }, type := 3, pos := "law.go:149", after := #[{ on := 24, ground := Ground.data }, { on := 23, ground := Ground.chain }, { on := 23, ground := Ground.guard }], guard := some (23, true) },
  { dst := some 32, op := Op.move (Operand.tmp 1), type := 23, pos := "law.go:149", after := #[{ on := 23, ground := Ground.guard }], guard := some (23, true) },
  { dst := some 33, op := Op.nilCheck (Operand.tmp 32), type := 0, pos := "law.go:149", after := #[{ on := 26, ground := Ground.data }, { on := 23, ground := Ground.guard }], guard := some (23, true) },
  { dst := some 34, op := Op.fieldAddr 42 (Operand.tmp 33) 4, type := 0, pos := "law.go:149", after := #[{ on := 27, ground := Ground.data }, { on := 23, ground := Ground.guard }], guard := some (23, true) },
  { dst := some 35, op := Op.load 38 (Operand.tmp 34), type := 38, pos := "law.go:149", after := #[{ on := 28, ground := Ground.data }, { on := 23, ground := Ground.guard }], guard := some (23, true) },
  { dst := some 36, op := Op.call { callee := Callee.builtin Builtin.len, args := #[Operand.tmp 35], argTypes := #[38] }, type := 3, pos := "law.go:149", after := #[{ on := 29, ground := Ground.data }, { on := 23, ground := Ground.guard }], guard := some (23, true) },
  { dst := some 37, op := Op.binOp BinOp.eql 3 (Operand.tmp 31) (Operand.tmp 36) 3, type := 4, pos := "law.go:149", after := #[{ on := 25, ground := Ground.data }, { on := 30, ground := Ground.data }, { on := 23, ground := Ground.guard }], guard := some (23, true) },
  { dst := some 38, op := Op.pick (Operand.tmp 29) (Operand.tmp 37) (Operand.const (Value.bool false)), type := 4, pos := "law.go:149", after := #[{ on := 23, ground := Ground.data }, { on := 31, ground := Ground.data }], guard := none },
  { dst := some 5, op := Op.assign (Operand.tmp 38), type := 4, pos := "law.go:149", after := #[{ on := 32, ground := Ground.data }, { on := 25, ground := Ground.chain }, { on := 0, ground := Ground.phase }, { on := 1, ground := Ground.phase }, { on := 2, ground := Ground.phase }, { on := 3, ground := Ground.phase }, { on := 4, ground := Ground.phase }, { on := 5, ground := Ground.phase }, { on := 6, ground := Ground.phase }, { on := 7, ground := Ground.phase }, { on := 8, ground := Ground.phase }, { on := 9, ground := Ground.phase }, { on := 10, ground := Ground.phase }, { on := 11, ground := Ground.phase }, { on := 12, ground := Ground.phase }, { on := 13, ground := Ground.phase }, { on := 14, ground := Ground.phase }, { on := 15, ground := Ground.phase }, { on := 16, ground := Ground.phase }, { on := 17, ground := Ground.phase }, { on := 18, ground := Ground.phase }, { on := 19, ground := Ground.phase }, { on := 20, ground := Ground.phase }, { on := 21, ground := Ground.phase }, { on := 22, ground := Ground.phase }, { on := 23, ground := Ground.phase }, { on := 24, ground := Ground.phase }, { on := 25, ground := Ground.phase }, { on := 26, ground := Ground.phase }, { on := 27, ground := Ground.phase }, { on := 28, ground := Ground.phase }, { on := 29, ground := Ground.phase }, { on := 30, ground := Ground.phase }, { on := 31, ground := Ground.phase }, { on := 32, ground := Ground.phase }], guard := none }]
def rDU2 : Array Oper := #[{ dst := some 39, op := Op.move (Operand.tmp 5), type := 4, pos := "law.go:150", after := #[], guard := none },
  { dst := some 40, op := Op.move (Operand.tmp 39), type := 4, pos := "law.go:150", after := #[{ on := 0, ground := Ground.data }], guard := none },
  { dst := some 41, op := Op.move (Operand.tmp 0), type := 27, pos := "law.go:150", after := #[{ on := 1, ground := Ground.guard }], guard := some (1, true) },
  { dst := some 42, op := Op.call { callee := Callee.value (Operand.func 21), args := #[Operand.tmp 41], argTypes := #[27] }, type := 4, pos := "law.go:150", after := #[{ on := 2, ground := Ground.data }, { on := 1, ground := Ground.chain }, { on := 1, ground := Ground.guard }], guard := some (1, true) },
  { dst := some 43, op := Op.move (Operand.tmp 1), type := 23, pos := "law.go:150", after := #[{ on := 1, ground := Ground.guard }], guard := some (1, true) },
  { dst := some 44, op := Op.nilCheck (Operand.tmp 43), type := 0, pos := "law.go:150", after := #[{ on := 4, ground := Ground.data }, { on := 1, ground := Ground.guard }], guard := some (1, true) },
  { dst := some 45, op := Op.fieldAddr 42 (Operand.tmp 44) 5, type := 0, pos := "law.go:150", after := #[{ on := 5, ground := Ground.data }, { on := 1, ground := Ground.guard }], guard := some (1, true) },
  { dst := some 46, op := Op.load 4 (Operand.tmp 45), type := 4, pos := "law.go:150", after := #[{ on := 6, ground := Ground.data }, { on := 1, ground := Ground.guard }], guard := some (1, true) },
  { dst := some 47, op := Op.binOp BinOp.eql 4 (Operand.tmp 42) (Operand.tmp 46) 4, type := 4, pos := "law.go:150", after := #[{ on := 3, ground := Ground.data }, { on := 7, ground := Ground.data }, { on := 1, ground := Ground.guard }], guard := some (1, true) },
  { dst := some 48, op := Op.pick (Operand.tmp 40) (Operand.tmp 47) (Operand.const (Value.bool false)), type := 4, pos := "law.go:150", after := #[{ on := 1, ground := Ground.data }, { on := 8, ground := Ground.data }], guard := none },
  { dst := some 49, op := Op.move (Operand.tmp 48), type := 4, pos := "law.go:150", after := #[{ on := 9, ground := Ground.data }, { on := 3, ground := Ground.chain }], guard := none },
  { dst := some 50, op := Op.move (Operand.tmp 0), type := 27, pos := "law.go:150", after := #[{ on := 10, ground := Ground.guard }], guard := some (10, true) },
  { dst := some 51, op := Op.call { callee := Callee.value (Operand.func 22), args := #[Operand.tmp 50], argTypes := #[27] }, type := 3, pos := "law.go:150", after := #[{ on := 11, ground := Ground.data }, { on := 10, ground := Ground.chain }, { on := 10, ground := Ground.guard }], guard := some (10, true) },
  { dst := some 52, op := Op.move (Operand.tmp 1), type := 23, pos := "law.go:150", after := #[{ on := 10, ground := Ground.guard }], guard := some (10, true) },
  { dst := some 53, op := Op.nilCheck (Operand.tmp 52), type := 0, pos := "law.go:150", after := #[{ on := 13, ground := Ground.data }, { on := 10, ground := Ground.guard }], guard := some (10, true) },
  { dst := some 54, op := Op.fieldAddr 42 (Operand.tmp 53) 6, type := 0, pos := "law.go:150", after := #[{ on := 14, ground := Ground.data }, { on := 10, ground := Ground.guard }], guard := some (10, true) },
  { dst := some 55, op := Op.load 3 (Operand.tmp 54), type := 3, pos := "law.go:150", after := #[{ on := 15, ground := Ground.data }, { on := 10, ground := Ground.guard }], guard := some (10, true) },
  { dst := some 56, op := Op.binOp BinOp.eql 3 (Operand.tmp 51) (Operand.tmp 55) 3, type := 4, pos := "law.go:150", after := #[{ on := 12, ground := Ground.data }, { on := 16, ground := Ground.data }, { on := 10, ground := Ground.guard }], guard := some (10, true) },
  { dst := some 57, op := Op.pick (Operand.tmp 49) (Operand.tmp 56) (Operand.const (Value.bool false)), type := 4, pos := "law.go:150", after := #[{ on := 10, ground := Ground.data }, { on := 17, ground := Ground.data }], guard := none },
  { dst := some 58, op := Op.move (Operand.tmp 57), type := 4, pos := "law.go:150", after := #[{ on := 18, ground := Ground.data }, { on := 12, ground := Ground.chain }], guard := none },
  { dst := some 59, op := Op.move (Operand.tmp 0), type := 27, pos := "law.go:150", after := #[{ on := 19, ground := Ground.guard }], guard := some (19, true) },
  { dst := some 60, op := Op.call { callee := Callee.value (Operand.func 23), args := #[Operand.tmp 59], argTypes := #[27] }, type := 3, pos := "law.go:150", after := #[{ on := 20, ground := Ground.data }, { on := 19, ground := Ground.chain }, { on := 19, ground := Ground.guard }], guard := some (19, true) },
  { dst := some 61, op := Op.move (Operand.tmp 1), type := 23, pos := "law.go:150", after := #[{ on := 19, ground := Ground.guard }], guard := some (19, true) },
  { dst := some 62, op := Op.nilCheck (Operand.tmp 61), type := 0, pos := "law.go:150", after := #[{ on := 22, ground := Ground.data }, { on := 19, ground := Ground.guard }], guard := some (19, true) },
  { dst := some 63, op := Op.fieldAddr 42 (Operand.tmp 62) 7, type := 0, pos := "law.go:150", after := #[{ on := 23, ground := Ground.data }, { on := 19, ground := Ground.guard }], guard := some (19, true) },
  { dst := some 64, op := Op.load 3 (Operand.tmp 63), type := 3, pos := "law.go:150", after := #[{ on := 24, ground := Ground.data }, { on := 19, ground := Ground.guard }], guard := some (19, true) },
  { dst := some 65, op := Op.binOp BinOp.eql 3 (Operand.tmp 60) (Operand.tmp 64) 3, type := 4, pos := "law.go:150", after := #[{ on := 21, ground := Ground.data }, { on := 25, ground := Ground.data }, { on := 19, ground := Ground.guard }], guard := some (19, true) },
  { dst := some 66, op := Op.pick (Operand.tmp 58) (Operand.tmp 65) (Operand.const (Value.bool false)), type := 4, pos := "law.go:150", after := #[{ on := 19, ground := Ground.data }, { on := 26, ground := Ground.data }], guard := none },
  { dst := some 67, op := Op.move (Operand.tmp 66), type := 4, pos := "law.go:150", after := #[{ on := 27, ground := Ground.data }, { on := 21, ground := Ground.chain }], guard := none },
  { dst := some 68, op := Op.move (Operand.tmp 0), type := 27, pos := "law.go:150", after := #[{ on := 28, ground := Ground.guard }], guard := some (28, true) },
  { dst := some 69, op := Op.call { callee := Callee.value (Operand.func 24), args := #[Operand.tmp 68], argTypes := #[27] }, type := 40, pos := "law.go:150", after := #[{ on := 29, ground := Ground.data }, { on := 28, ground := Ground.chain }, { on := 28, ground := Ground.guard }], guard := some (28, true) },
  { dst := some 70, op := Op.move (Operand.tmp 1), type := 23, pos := "law.go:150", after := #[{ on := 28, ground := Ground.guard }], guard := some (28, true) },
  { dst := some 71, op := Op.nilCheck (Operand.tmp 70), type := 0, pos := "law.go:150", after := #[{ on := 31, ground := Ground.data }, { on := 28, ground := Ground.guard }], guard := some (28, true) },
  { dst := some 72, op := Op.fieldAddr 42 (Operand.tmp 71) 8, type := 0, pos := "law.go:150", after := #[{ on := 32, ground := Ground.data }, { on := 28, ground := Ground.guard }], guard := some (28, true) },
  { dst := some 73, op := Op.load 40 (Operand.tmp 72), type := 40, pos := "law.go:150", after := #[{ on := 33, ground := Ground.data }, { on := 28, ground := Ground.guard }], guard := some (28, true) },
  { dst := some 74, op := Op.binOp BinOp.eql 40 (Operand.tmp 69) (Operand.tmp 73) 40, type := 4, pos := "law.go:150", after := #[{ on := 30, ground := Ground.data }, { on := 34, ground := Ground.data }, { on := 28, ground := Ground.guard }], guard := some (28, true) },
  { dst := some 75, op := Op.pick (Operand.tmp 67) (Operand.tmp 74) (Operand.const (Value.bool false)), type := 4, pos := "law.go:150", after := #[{ on := 28, ground := Ground.data }, { on := 35, ground := Ground.data }], guard := none },
  { dst := some 4, op := Op.assign (Operand.tmp 75), type := 4, pos := "law.go:150", after := #[{ on := 36, ground := Ground.data }, { on := 30, ground := Ground.chain }, { on := 0, ground := Ground.phase }, { on := 1, ground := Ground.phase }, { on := 2, ground := Ground.phase }, { on := 3, ground := Ground.phase }, { on := 4, ground := Ground.phase }, { on := 5, ground := Ground.phase }, { on := 6, ground := Ground.phase }, { on := 7, ground := Ground.phase }, { on := 8, ground := Ground.phase }, { on := 9, ground := Ground.phase }, { on := 10, ground := Ground.phase }, { on := 11, ground := Ground.phase }, { on := 12, ground := Ground.phase }, { on := 13, ground := Ground.phase }, { on := 14, ground := Ground.phase }, { on := 15, ground := Ground.phase }, { on := 16, ground := Ground.phase }, { on := 17, ground := Ground.phase }, { on := 18, ground := Ground.phase }, { on := 19, ground := Ground.phase }, { on := 20, ground := Ground.phase }, { on := 21, ground := Ground.phase }, { on := 22, ground := Ground.phase }, { on := 23, ground := Ground.phase }, { on := 24, ground := Ground.phase }, { on := 25, ground := Ground.phase }, { on := 26, ground := Ground.phase }, { on := 27, ground := Ground.phase }, { on := 28, ground := Ground.phase }, { on := 29, ground := Ground.phase }, { on := 30, ground := Ground.phase }, { on := 31, ground := Ground.phase }, { on := 32, ground := Ground.phase }, { on := 33, ground := Ground.phase }, { on := 34, ground := Ground.phase }, { on := 35, ground := Ground.phase }, { on := 36, ground := Ground.phase }], guard := none }]
def cDU : Code := (Code.seq (Code.region 0 rDU0 false) (Code.seq (Code.region 1 rDU1 true) (Code.seq (Code.region 2 rDU2 true) Code.ret)))
set_option maxRecDepth 100000 in
set_option maxHeartbeats 1000000 in
theorem tells_true {b c pn mn : Nat} {L : List ByteArray} {S : Nat → Prop} (w : World) (hD : DkAt w b (dkOf pn mn L) S) (hp : 0 < pn) (hR : RdAt w c (pn : Int) (mn : Int) L) :
    Calls Try.prog 7 #[.pointer (some ⟨b, 0, none⟩), .pointer (some ⟨c, 0, none⟩)] w fun e w' => e = .returned (.bool true) ∧ Same w w' := by
  have hP : ∀ W, Same w W → Calls Try.prog 16 #[.pointer (some ⟨b, 0, none⟩)] W fun e w' => e = .returned (.int .i64 (pn : Int)) ∧ w' = W := fun W s => dPage_calls W (hD.same s) hp
  have hM : ∀ W, Same w W → Calls Try.prog 17 #[.pointer (some ⟨b, 0, none⟩)] W fun e w' => e = .returned (.int .i64 (mn : Int)) ∧ w' = W := fun W s => dMost_calls W (hD.same s) hp
  have hS : ∀ W, Same w W → Calls Try.prog 18 #[.pointer (some ⟨b, 0, none⟩)] W fun e w' => e = .returned (.int .i64 (L.length : Int)) ∧ w' = W := fun W s => dsize_calls W (hD.same s) hp
  have hA : ∀ W, Same w W → Calls Try.prog 20 #[.pointer (some ⟨b, 0, none⟩)] W fun e w' => e = .returned (.int .i64 ((0 : Nat) : Int)) ∧ w' = W := fun W s => darmed_calls W (hD.same s) hp
  have hO : ∀ W, Same w W → Calls Try.prog 21 #[.pointer (some ⟨b, 0, none⟩)] W fun e w' => e = .returned (.bool true) ∧ w' = W := fun W s => don_calls W (hD.same s) hp
  have hL : ∀ W, Same w W → Calls Try.prog 22 #[.pointer (some ⟨b, 0, none⟩)] W fun e w' => e = .returned (.int .i64 ((0 : Nat) : Int)) ∧ w' = W := fun W s => dlife_calls W (hD.same s) hp
  have hT : ∀ W, Same w W → Calls Try.prog 23 #[.pointer (some ⟨b, 0, none⟩)] W fun e w' => e = .returned (.int .i64 ((0 : Nat) : Int)) ∧ w' = W := fun W s => dtaken_calls W (hD.same s) hp
  have hAc : ∀ W, Same w W → Calls Try.prog 24 #[.pointer (some ⟨b, 0, none⟩)] W fun e w' => e = .returned (.agg #[.int .i64 0, .int .i64 0, .int .i64 0]) ∧ Same W w' := fun W s => dacts_calls W (hD.same s) hp
  obtain ⟨da, dc, rw, _⟩ := hR
  have r2 : w.cell? ⟨c, 2, none⟩ = some (.slice da L.length dc) := (cell_of_row _ _ _ _ _ _ rw).trans rfl
  have r3 : w.cell? ⟨c, 3, none⟩ = some (.slice none 0 0) := (cell_of_row _ _ _ _ _ _ rw).trans rfl
  refine calls_abs (c := cDU) Try.func7 (by kernel_rfl) 76 rfl (by simp) (fun a0 hsz hd ha => ?_)
  have fa0_0 := Fe.refl a0
  have dd : Same w w.drew := (Fr.refl (fun _ => False) w).drew
  unfold cDU
  refine wp_seq ?_
  refine wp_region_list ?_
  unfold rDU0
  refine fa0_0.move 4 (.bool false) _ (Or.inr rfl) rfl (lb_ hsz) (wanted_none rfl) rfl (fun a0_1 fa0_1 => ?_)
  clear fa0_0
  refine wpList_nil ?_
  change Code.wp _ _ _ _ _
  refine wp_seq ?_
  refine wp_region_held_drew (ops := rDU1) (S := fun Z => Same w Z) (by kernel_rfl) (dd) (fun hS1 => ?_)
  refine fa0_1.takeMove 0 6 (.pointer (some ⟨b, 0, none⟩)) _ (Or.inl rfl) rfl (by kernel_rfl) (by kernel_rfl) (by kernel_rfl) (fun _ _ _ h => h) rfl (lb_ hsz) (wanted_none rfl) ((fa0_1.at_ 0).trans (ha 0 _ rfl)) hS1 (fun a0_2 fa0_2 => ?_)
  clear fa0_1
  have r_a0_3 : ∀ Z, (fun Z => Same w Z) Z → (execOp a0_2.eval { dst := some 7, op := Op.call { callee := Callee.value (Operand.func 16), args := #[Operand.tmp 6], argTypes := #[27] }, type := 3, pos := "law.go:149", after := #[{ on := 0, ground := Ground.data }], guard := none }).run Try.prog Z = .ok (.enter 16 #[.pointer (some ⟨b, 0, none⟩)]) Z := fun Z hZ => by
    have kf : ∀ f, a0_2.eval (.func f) = .func (.func f) #[] #[] := fun _ => rfl
    have e6 := (show a0_2.eval (.tmp 6) = .pointer (some ⟨b, 0, none⟩) from (fa0_2.at_ 6))
    clear fa0_2 ha hD hP hM hS hA hO hL hT r2 r3 rw
    generalize a0_2.eval = ρ at *
    go_simp
  refine fa0_2.takeCall 1 7 (.int .i64 (pn : Int)) _ _ rfl (by kernel_rfl) (by kernel_rfl) (by kernel_rfl) (fun _ _ _ h => h) rfl (lb_ hsz) (wanted_none rfl) r_a0_3 (fun W hW => hP W hW) hS1 (fun a0_3 fa0_3 => ?_)
  clear r_a0_3
  clear fa0_2
  refine fa0_3.takeMove 2 8 (.pointer (some ⟨c, 0, none⟩)) _ (Or.inl rfl) rfl (by kernel_rfl) (by kernel_rfl) (by kernel_rfl) (fun _ _ _ h => h) rfl (lb_ hsz) (wanted_none rfl) ((fa0_3.at_ 1).trans (ha 1 _ rfl)) hS1 (fun a0_4 fa0_4 => ?_)
  clear fa0_3
  have r_a0_5 : ∀ Z, (fun Z => Same w Z) Z → (execOp a0_4.eval { dst := some 9, op := Op.nilCheck (Operand.tmp 8), type := 0, pos := "law.go:149", after := #[{ on := 2, ground := Ground.data }], guard := none }).run Try.prog Z = .ok (.value (.pointer (some ⟨c, 0, none⟩))) Z := fun Z hZ => by
    have e8 := (show a0_4.eval (.tmp 8) = .pointer (some ⟨c, 0, none⟩) from (fa0_4.at_ 8))
    clear fa0_4 ha hD hP hM hS hA hO hL hT r2 r3 rw
    generalize a0_4.eval = ρ at *
    go_simp
  refine fa0_4.take 3 9 (.pointer (some ⟨c, 0, none⟩)) rfl (by kernel_rfl) (by kernel_rfl) (by kernel_rfl) (fun _ _ _ h => h) rfl (lb_ hsz) (wanted_none rfl) r_a0_5 hS1 (fun a0_5 fa0_5 => ?_)
  clear r_a0_5
  clear fa0_4
  have r_a0_6 : ∀ Z, (fun Z => Same w Z) Z → (execOp a0_5.eval { dst := some 10, op := Op.fieldAddr 42 (Operand.tmp 9) 0, type := 0, pos := "law.go:149", after := #[{ on := 3, ground := Ground.data }], guard := none }).run Try.prog Z = .ok (.value (.pointer (some ⟨c, 0, none⟩))) Z := fun Z hZ => by
    have e9 := (show a0_5.eval (.tmp 9) = .pointer (some ⟨c, 0, none⟩) from (fa0_5.at_ 9))
    clear fa0_5 ha hD hP hM hS hA hO hL hT r2 r3 rw
    generalize a0_5.eval = ρ at *
    go_simp
  refine fa0_5.take 4 10 (.pointer (some ⟨c, 0, none⟩)) rfl (by kernel_rfl) (by kernel_rfl) (by kernel_rfl) (fun _ _ _ h => h) rfl (lb_ hsz) (wanted_none rfl) r_a0_6 hS1 (fun a0_6 fa0_6 => ?_)
  clear r_a0_6
  clear fa0_5
  have r_a0_7 : ∀ Z, (fun Z => Same w Z) Z → (execOp a0_6.eval { dst := some 11, op := Op.load 3 (Operand.tmp 10), type := 3, pos := "law.go:149", after := #[{ on := 4, ground := Ground.data }], guard := none }).run Try.prog Z = .ok (.value (.int .i64 (pn : Int))) Z := fun Z hZ => by
    have zr := heap_fr rw hZ (fun f => f)
    have z0 : Z.cell? ⟨c, 0, none⟩ = some (.int .i64 (pn : Int)) := (cell_of_row _ _ _ _ _ _ zr).trans rfl
    have z1 : Z.cell? ⟨c, 1, none⟩ = some (.int .i64 (mn : Int)) := (cell_of_row _ _ _ _ _ _ zr).trans rfl
    have z4 : Z.cell? ⟨c, 4, none⟩ = some (.slice none 0 0) := (cell_of_row _ _ _ _ _ _ zr).trans rfl
    clear zr hZ
    have e10 := (show a0_6.eval (.tmp 10) = .pointer (some ⟨c, 0, none⟩) from (fa0_6.at_ 10))
    clear fa0_6 ha hD hP hM hS hA hO hL hT r2 r3 rw
    generalize a0_6.eval = ρ at *
    go_simp
  refine fa0_6.take 5 11 (.int .i64 (pn : Int)) rfl (by kernel_rfl) (by kernel_rfl) (by kernel_rfl) (fun _ _ _ h => h) rfl (lb_ hsz) (wanted_none rfl) r_a0_7 hS1 (fun a0_7 fa0_7 => ?_)
  clear r_a0_7
  clear fa0_6
  have r_a0_8 : ∀ Z, (fun Z => Same w Z) Z → (execOp a0_7.eval { dst := some 12, op := Op.binOp BinOp.eql 3 (Operand.tmp 7) (Operand.tmp 11) 3, type := 4, pos := "law.go:149", after := #[{ on := 1, ground := Ground.data }, { on := 5, ground := Ground.data }], guard := none }).run Try.prog Z = .ok (.value (.bool true)) Z := fun Z hZ => by
    have e7 := (show a0_7.eval (.tmp 7) = .int .i64 (pn : Int) from (fa0_7.at_ 7))
    have e11 := (show a0_7.eval (.tmp 11) = .int .i64 (pn : Int) from (fa0_7.at_ 11))
    clear fa0_7 ha hD hP hM hS hA hO hL hT r2 r3 rw
    generalize a0_7.eval = ρ at *
    go_simp
  refine fa0_7.take 6 12 (.bool true) rfl (by kernel_rfl) (by kernel_rfl) (by kernel_rfl) (fun _ _ _ h => h) rfl (lb_ hsz) (wanted_none rfl) r_a0_8 hS1 (fun a0_8 fa0_8 => ?_)
  clear r_a0_8
  clear fa0_7
  refine fa0_8.takeMove 7 13 (.bool true) _ (Or.inl rfl) rfl (by kernel_rfl) (by kernel_rfl) (by kernel_rfl) (fun _ _ _ h => h) rfl (lb_ hsz) (wanted_none rfl) (fa0_8.at_ 12) hS1 (fun a0_9 fa0_9 => ?_)
  clear fa0_8
  refine fa0_9.takeMove 8 14 (.pointer (some ⟨b, 0, none⟩)) _ (Or.inl rfl) rfl (by kernel_rfl) (by kernel_rfl) (by kernel_rfl) (fun _ _ _ h => h) rfl (lb_ hsz) ((wanted_at (t := 13) (c := true) (b := true) rfl rfl rfl (lb_ (fa0_9.size.trans hsz)) (fa0_9.at_ 13)).trans (by rfl)) ((fa0_9.at_ 0).trans (ha 0 _ rfl)) hS1 (fun a0_10 fa0_10 => ?_)
  clear fa0_9
  have r_a0_11 : ∀ Z, (fun Z => Same w Z) Z → (execOp a0_10.eval { dst := some 15, op := Op.call { callee := Callee.value (Operand.func 17), args := #[Operand.tmp 14], argTypes := #[27] }, type := 3, pos := "law.go:149", after := #[{ on := 8, ground := Ground.data }, { on := 7, ground := Ground.chain }, { on := 7, ground := Ground.guard }], guard := some (7, true) }).run Try.prog Z = .ok (.enter 17 #[.pointer (some ⟨b, 0, none⟩)]) Z := fun Z hZ => by
    have kf : ∀ f, a0_10.eval (.func f) = .func (.func f) #[] #[] := fun _ => rfl
    have e14 := (show a0_10.eval (.tmp 14) = .pointer (some ⟨b, 0, none⟩) from (fa0_10.at_ 14))
    clear fa0_10 ha hD hP hM hS hA hO hL hT r2 r3 rw
    generalize a0_10.eval = ρ at *
    go_simp
  refine fa0_10.takeCall 9 15 (.int .i64 (mn : Int)) _ _ rfl (by kernel_rfl) (by kernel_rfl) (by kernel_rfl) (fun _ _ _ h => h) rfl (lb_ hsz) ((wanted_at (t := 13) (c := true) (b := true) rfl rfl rfl (lb_ (fa0_10.size.trans hsz)) (fa0_10.at_ 13)).trans (by rfl)) r_a0_11 (fun W hW => hM W hW) hS1 (fun a0_11 fa0_11 => ?_)
  clear r_a0_11
  clear fa0_10
  refine fa0_11.takeMove 10 16 (.pointer (some ⟨c, 0, none⟩)) _ (Or.inl rfl) rfl (by kernel_rfl) (by kernel_rfl) (by kernel_rfl) (fun _ _ _ h => h) rfl (lb_ hsz) ((wanted_at (t := 13) (c := true) (b := true) rfl rfl rfl (lb_ (fa0_11.size.trans hsz)) (fa0_11.at_ 13)).trans (by rfl)) ((fa0_11.at_ 1).trans (ha 1 _ rfl)) hS1 (fun a0_12 fa0_12 => ?_)
  clear fa0_11
  have r_a0_13 : ∀ Z, (fun Z => Same w Z) Z → (execOp a0_12.eval { dst := some 17, op := Op.nilCheck (Operand.tmp 16), type := 0, pos := "law.go:149", after := #[{ on := 10, ground := Ground.data }, { on := 7, ground := Ground.guard }], guard := some (7, true) }).run Try.prog Z = .ok (.value (.pointer (some ⟨c, 0, none⟩))) Z := fun Z hZ => by
    have e16 := (show a0_12.eval (.tmp 16) = .pointer (some ⟨c, 0, none⟩) from (fa0_12.at_ 16))
    clear fa0_12 ha hD hP hM hS hA hO hL hT r2 r3 rw
    generalize a0_12.eval = ρ at *
    go_simp
  refine fa0_12.take 11 17 (.pointer (some ⟨c, 0, none⟩)) rfl (by kernel_rfl) (by kernel_rfl) (by kernel_rfl) (fun _ _ _ h => h) rfl (lb_ hsz) ((wanted_at (t := 13) (c := true) (b := true) rfl rfl rfl (lb_ (fa0_12.size.trans hsz)) (fa0_12.at_ 13)).trans (by rfl)) r_a0_13 hS1 (fun a0_13 fa0_13 => ?_)
  clear r_a0_13
  clear fa0_12
  have r_a0_14 : ∀ Z, (fun Z => Same w Z) Z → (execOp a0_13.eval { dst := some 18, op := Op.fieldAddr 42 (Operand.tmp 17) 1, type := 0, pos := "law.go:149", after := #[{ on := 11, ground := Ground.data }, { on := 7, ground := Ground.guard }], guard := some (7, true) }).run Try.prog Z = .ok (.value (.pointer (some ⟨c, 1, none⟩))) Z := fun Z hZ => by
    have e17 := (show a0_13.eval (.tmp 17) = .pointer (some ⟨c, 0, none⟩) from (fa0_13.at_ 17))
    clear fa0_13 ha hD hP hM hS hA hO hL hT r2 r3 rw
    generalize a0_13.eval = ρ at *
    go_simp
  refine fa0_13.take 12 18 (.pointer (some ⟨c, 1, none⟩)) rfl (by kernel_rfl) (by kernel_rfl) (by kernel_rfl) (fun _ _ _ h => h) rfl (lb_ hsz) ((wanted_at (t := 13) (c := true) (b := true) rfl rfl rfl (lb_ (fa0_13.size.trans hsz)) (fa0_13.at_ 13)).trans (by rfl)) r_a0_14 hS1 (fun a0_14 fa0_14 => ?_)
  clear r_a0_14
  clear fa0_13
  have r_a0_15 : ∀ Z, (fun Z => Same w Z) Z → (execOp a0_14.eval { dst := some 19, op := Op.load 3 (Operand.tmp 18), type := 3, pos := "law.go:149", after := #[{ on := 12, ground := Ground.data }, { on := 7, ground := Ground.guard }], guard := some (7, true) }).run Try.prog Z = .ok (.value (.int .i64 (mn : Int))) Z := fun Z hZ => by
    have zr := heap_fr rw hZ (fun f => f)
    have z0 : Z.cell? ⟨c, 0, none⟩ = some (.int .i64 (pn : Int)) := (cell_of_row _ _ _ _ _ _ zr).trans rfl
    have z1 : Z.cell? ⟨c, 1, none⟩ = some (.int .i64 (mn : Int)) := (cell_of_row _ _ _ _ _ _ zr).trans rfl
    have z4 : Z.cell? ⟨c, 4, none⟩ = some (.slice none 0 0) := (cell_of_row _ _ _ _ _ _ zr).trans rfl
    clear zr hZ
    have e18 := (show a0_14.eval (.tmp 18) = .pointer (some ⟨c, 1, none⟩) from (fa0_14.at_ 18))
    clear fa0_14 ha hD hP hM hS hA hO hL hT r2 r3 rw
    generalize a0_14.eval = ρ at *
    go_simp
  refine fa0_14.take 13 19 (.int .i64 (mn : Int)) rfl (by kernel_rfl) (by kernel_rfl) (by kernel_rfl) (fun _ _ _ h => h) rfl (lb_ hsz) ((wanted_at (t := 13) (c := true) (b := true) rfl rfl rfl (lb_ (fa0_14.size.trans hsz)) (fa0_14.at_ 13)).trans (by rfl)) r_a0_15 hS1 (fun a0_15 fa0_15 => ?_)
  clear r_a0_15
  clear fa0_14
  have r_a0_16 : ∀ Z, (fun Z => Same w Z) Z → (execOp a0_15.eval { dst := some 20, op := Op.binOp BinOp.eql 3 (Operand.tmp 15) (Operand.tmp 19) 3, type := 4, pos := "law.go:149", after := #[{ on := 9, ground := Ground.data }, { on := 13, ground := Ground.data }, { on := 7, ground := Ground.guard }], guard := some (7, true) }).run Try.prog Z = .ok (.value (.bool true)) Z := fun Z hZ => by
    have e15 := (show a0_15.eval (.tmp 15) = .int .i64 (mn : Int) from (fa0_15.at_ 15))
    have e19 := (show a0_15.eval (.tmp 19) = .int .i64 (mn : Int) from (fa0_15.at_ 19))
    clear fa0_15 ha hD hP hM hS hA hO hL hT r2 r3 rw
    generalize a0_15.eval = ρ at *
    go_simp
  refine fa0_15.take 14 20 (.bool true) rfl (by kernel_rfl) (by kernel_rfl) (by kernel_rfl) (fun _ _ _ h => h) rfl (lb_ hsz) ((wanted_at (t := 13) (c := true) (b := true) rfl rfl rfl (lb_ (fa0_15.size.trans hsz)) (fa0_15.at_ 13)).trans (by rfl)) r_a0_16 hS1 (fun a0_16 fa0_16 => ?_)
  clear r_a0_16
  clear fa0_15
  have r_a0_17 : ∀ Z, (fun Z => Same w Z) Z → (execOp a0_16.eval { dst := some 21, op := Op.pick (Operand.tmp 13) (Operand.tmp 20) (Operand.const (Value.bool false)), type := 4, pos := "law.go:149", after := #[{ on := 7, ground := Ground.data }, { on := 14, ground := Ground.data }], guard := none }).run Try.prog Z = .ok (.value (.bool true)) Z := fun Z hZ => by
    have kc : ∀ v, a0_16.eval (.const v) = v := fun _ => rfl
    have e13 := (show a0_16.eval (.tmp 13) = .bool true from (fa0_16.at_ 13))
    have e20 := (show a0_16.eval (.tmp 20) = .bool true from (fa0_16.at_ 20))
    clear fa0_16 ha hD hP hM hS hA hO hL hT r2 r3 rw
    generalize a0_16.eval = ρ at *
    go_simp
  refine fa0_16.take 15 21 (.bool true) rfl (by kernel_rfl) (by kernel_rfl) (by kernel_rfl) (fun _ _ _ h => h) rfl (lb_ hsz) (wanted_none rfl) r_a0_17 hS1 (fun a0_17 fa0_17 => ?_)
  clear r_a0_17
  clear fa0_16
  refine fa0_17.takeMove 16 22 (.bool true) _ (Or.inl rfl) rfl (by kernel_rfl) (by kernel_rfl) (by kernel_rfl) (fun _ _ _ h => h) rfl (lb_ hsz) (wanted_none rfl) (fa0_17.at_ 21) hS1 (fun a0_18 fa0_18 => ?_)
  clear fa0_17
  refine fa0_18.takeMove 17 23 (.pointer (some ⟨b, 0, none⟩)) _ (Or.inl rfl) rfl (by kernel_rfl) (by kernel_rfl) (by kernel_rfl) (fun _ _ _ h => h) rfl (lb_ hsz) ((wanted_at (t := 22) (c := true) (b := true) rfl rfl rfl (lb_ (fa0_18.size.trans hsz)) (fa0_18.at_ 22)).trans (by rfl)) ((fa0_18.at_ 0).trans (ha 0 _ rfl)) hS1 (fun a0_19 fa0_19 => ?_)
  clear fa0_18
  have r_a0_20 : ∀ Z, (fun Z => Same w Z) Z → (execOp a0_19.eval { dst := some 24, op := Op.call { callee := Callee.value (Operand.func 18), args := #[Operand.tmp 23], argTypes := #[27] }, type := 3, pos := "law.go:149", after := #[{ on := 17, ground := Ground.data }, { on := 16, ground := Ground.chain }, { on := 16, ground := Ground.guard }], guard := some (16, true) }).run Try.prog Z = .ok (.enter 18 #[.pointer (some ⟨b, 0, none⟩)]) Z := fun Z hZ => by
    have kf : ∀ f, a0_19.eval (.func f) = .func (.func f) #[] #[] := fun _ => rfl
    have e23 := (show a0_19.eval (.tmp 23) = .pointer (some ⟨b, 0, none⟩) from (fa0_19.at_ 23))
    clear fa0_19 ha hD hP hM hS hA hO hL hT r2 r3 rw
    generalize a0_19.eval = ρ at *
    go_simp
  refine fa0_19.takeCall 18 24 (.int .i64 (L.length : Int)) _ _ rfl (by kernel_rfl) (by kernel_rfl) (by kernel_rfl) (fun _ _ _ h => h) rfl (lb_ hsz) ((wanted_at (t := 22) (c := true) (b := true) rfl rfl rfl (lb_ (fa0_19.size.trans hsz)) (fa0_19.at_ 22)).trans (by rfl)) r_a0_20 (fun W hW => hS W hW) hS1 (fun a0_20 fa0_20 => ?_)
  clear r_a0_20
  clear fa0_19
  refine fa0_20.takeMove 19 25 (.pointer (some ⟨c, 0, none⟩)) _ (Or.inl rfl) rfl (by kernel_rfl) (by kernel_rfl) (by kernel_rfl) (fun _ _ _ h => h) rfl (lb_ hsz) ((wanted_at (t := 22) (c := true) (b := true) rfl rfl rfl (lb_ (fa0_20.size.trans hsz)) (fa0_20.at_ 22)).trans (by rfl)) ((fa0_20.at_ 1).trans (ha 1 _ rfl)) hS1 (fun a0_21 fa0_21 => ?_)
  clear fa0_20
  have r_a0_22 : ∀ Z, (fun Z => Same w Z) Z → (execOp a0_21.eval { dst := some 26, op := Op.call { callee := Callee.value (Operand.func 19), args := #[Operand.tmp 25], argTypes := #[23] }, type := 3, pos := "law.go:149", after := #[{ on := 19, ground := Ground.data }, { on := 18, ground := Ground.chain }, { on := 16, ground := Ground.guard }], guard := some (16, true) }).run Try.prog Z = .ok (.enter 19 #[.pointer (some ⟨c, 0, none⟩)]) Z := fun Z hZ => by
    have kf : ∀ f, a0_21.eval (.func f) = .func (.func f) #[] #[] := fun _ => rfl
    have e25 := (show a0_21.eval (.tmp 25) = .pointer (some ⟨c, 0, none⟩) from (fa0_21.at_ 25))
    clear fa0_21 ha hD hP hM hS hA hO hL hT r2 r3 rw
    generalize a0_21.eval = ρ at *
    go_simp
  refine fa0_21.takeCall 20 26 (.int .i64 (L.length : Int)) _ _ rfl (by kernel_rfl) (by kernel_rfl) (by kernel_rfl) (fun _ _ _ h => h) rfl (lb_ hsz) ((wanted_at (t := 22) (c := true) (b := true) rfl rfl rfl (lb_ (fa0_21.size.trans hsz)) (fa0_21.at_ 22)).trans (by rfl)) r_a0_22 (fun W hW => rsize_calls W (hW.keep r2) (hW.keep r3)) hS1 (fun a0_22 fa0_22 => ?_)
  clear r_a0_22
  clear fa0_21
  have r_a0_23 : ∀ Z, (fun Z => Same w Z) Z → (execOp a0_22.eval { dst := some 27, op := Op.binOp BinOp.eql 3 (Operand.tmp 24) (Operand.tmp 26) 3, type := 4, pos := "law.go:149", after := #[{ on := 18, ground := Ground.data }, { on := 20, ground := Ground.data }, { on := 16, ground := Ground.guard }], guard := some (16, true) }).run Try.prog Z = .ok (.value (.bool true)) Z := fun Z hZ => by
    have e24 := (show a0_22.eval (.tmp 24) = .int .i64 (L.length : Int) from (fa0_22.at_ 24))
    have e26 := (show a0_22.eval (.tmp 26) = .int .i64 (L.length : Int) from (fa0_22.at_ 26))
    clear fa0_22 ha hD hP hM hS hA hO hL hT r2 r3 rw
    generalize a0_22.eval = ρ at *
    go_simp
  refine fa0_22.take 21 27 (.bool true) rfl (by kernel_rfl) (by kernel_rfl) (by kernel_rfl) (fun _ _ _ h => h) rfl (lb_ hsz) ((wanted_at (t := 22) (c := true) (b := true) rfl rfl rfl (lb_ (fa0_22.size.trans hsz)) (fa0_22.at_ 22)).trans (by rfl)) r_a0_23 hS1 (fun a0_23 fa0_23 => ?_)
  clear r_a0_23
  clear fa0_22
  have r_a0_24 : ∀ Z, (fun Z => Same w Z) Z → (execOp a0_23.eval { dst := some 28, op := Op.pick (Operand.tmp 22) (Operand.tmp 27) (Operand.const (Value.bool false)), type := 4, pos := "law.go:149", after := #[{ on := 16, ground := Ground.data }, { on := 21, ground := Ground.data }], guard := none }).run Try.prog Z = .ok (.value (.bool true)) Z := fun Z hZ => by
    have kc : ∀ v, a0_23.eval (.const v) = v := fun _ => rfl
    have e22 := (show a0_23.eval (.tmp 22) = .bool true from (fa0_23.at_ 22))
    have e27 := (show a0_23.eval (.tmp 27) = .bool true from (fa0_23.at_ 27))
    clear fa0_23 ha hD hP hM hS hA hO hL hT r2 r3 rw
    generalize a0_23.eval = ρ at *
    go_simp
  refine fa0_23.take 22 28 (.bool true) rfl (by kernel_rfl) (by kernel_rfl) (by kernel_rfl) (fun _ _ _ h => h) rfl (lb_ hsz) (wanted_none rfl) r_a0_24 hS1 (fun a0_24 fa0_24 => ?_)
  clear r_a0_24
  clear fa0_23
  refine fa0_24.takeMove 23 29 (.bool true) _ (Or.inl rfl) rfl (by kernel_rfl) (by kernel_rfl) (by kernel_rfl) (fun _ _ _ h => h) rfl (lb_ hsz) (wanted_none rfl) (fa0_24.at_ 28) hS1 (fun a0_25 fa0_25 => ?_)
  clear fa0_24
  refine fa0_25.takeMove 24 30 (.pointer (some ⟨b, 0, none⟩)) _ (Or.inl rfl) rfl (by kernel_rfl) (by kernel_rfl) (by kernel_rfl) (fun _ _ _ h => h) rfl (lb_ hsz) ((wanted_at (t := 29) (c := true) (b := true) rfl rfl rfl (lb_ (fa0_25.size.trans hsz)) (fa0_25.at_ 29)).trans (by rfl)) ((fa0_25.at_ 0).trans (ha 0 _ rfl)) hS1 (fun a0_26 fa0_26 => ?_)
  clear fa0_25
  have r_a0_27 : ∀ Z, (fun Z => Same w Z) Z → (execOp a0_26.eval { dst := some 31, op := Op.call { callee := Callee.value (Operand.func 20), args := #[Operand.tmp 30], argTypes := #[27] }, type := 3, pos := "law.go:149", after := #[{ on := 24, ground := Ground.data }, { on := 23, ground := Ground.chain }, { on := 23, ground := Ground.guard }], guard := some (23, true) }).run Try.prog Z = .ok (.enter 20 #[.pointer (some ⟨b, 0, none⟩)]) Z := fun Z hZ => by
    have kf : ∀ f, a0_26.eval (.func f) = .func (.func f) #[] #[] := fun _ => rfl
    have e30 := (show a0_26.eval (.tmp 30) = .pointer (some ⟨b, 0, none⟩) from (fa0_26.at_ 30))
    clear fa0_26 ha hD hP hM hS hA hO hL hT r2 r3 rw
    generalize a0_26.eval = ρ at *
    go_simp
  refine fa0_26.takeCall 25 31 (.int .i64 ((0 : Nat) : Int)) _ _ rfl (by kernel_rfl) (by kernel_rfl) (by kernel_rfl) (fun _ _ _ h => h) rfl (lb_ hsz) ((wanted_at (t := 29) (c := true) (b := true) rfl rfl rfl (lb_ (fa0_26.size.trans hsz)) (fa0_26.at_ 29)).trans (by rfl)) r_a0_27 (fun W hW => hA W hW) hS1 (fun a0_27 fa0_27 => ?_)
  clear r_a0_27
  clear fa0_26
  refine fa0_27.takeMove 26 32 (.pointer (some ⟨c, 0, none⟩)) _ (Or.inl rfl) rfl (by kernel_rfl) (by kernel_rfl) (by kernel_rfl) (fun _ _ _ h => h) rfl (lb_ hsz) ((wanted_at (t := 29) (c := true) (b := true) rfl rfl rfl (lb_ (fa0_27.size.trans hsz)) (fa0_27.at_ 29)).trans (by rfl)) ((fa0_27.at_ 1).trans (ha 1 _ rfl)) hS1 (fun a0_28 fa0_28 => ?_)
  clear fa0_27
  have r_a0_29 : ∀ Z, (fun Z => Same w Z) Z → (execOp a0_28.eval { dst := some 33, op := Op.nilCheck (Operand.tmp 32), type := 0, pos := "law.go:149", after := #[{ on := 26, ground := Ground.data }, { on := 23, ground := Ground.guard }], guard := some (23, true) }).run Try.prog Z = .ok (.value (.pointer (some ⟨c, 0, none⟩))) Z := fun Z hZ => by
    have e32 := (show a0_28.eval (.tmp 32) = .pointer (some ⟨c, 0, none⟩) from (fa0_28.at_ 32))
    clear fa0_28 ha hD hP hM hS hA hO hL hT r2 r3 rw
    generalize a0_28.eval = ρ at *
    go_simp
  refine fa0_28.take 27 33 (.pointer (some ⟨c, 0, none⟩)) rfl (by kernel_rfl) (by kernel_rfl) (by kernel_rfl) (fun _ _ _ h => h) rfl (lb_ hsz) ((wanted_at (t := 29) (c := true) (b := true) rfl rfl rfl (lb_ (fa0_28.size.trans hsz)) (fa0_28.at_ 29)).trans (by rfl)) r_a0_29 hS1 (fun a0_29 fa0_29 => ?_)
  clear r_a0_29
  clear fa0_28
  have r_a0_30 : ∀ Z, (fun Z => Same w Z) Z → (execOp a0_29.eval { dst := some 34, op := Op.fieldAddr 42 (Operand.tmp 33) 4, type := 0, pos := "law.go:149", after := #[{ on := 27, ground := Ground.data }, { on := 23, ground := Ground.guard }], guard := some (23, true) }).run Try.prog Z = .ok (.value (.pointer (some ⟨c, 4, none⟩))) Z := fun Z hZ => by
    have e33 := (show a0_29.eval (.tmp 33) = .pointer (some ⟨c, 0, none⟩) from (fa0_29.at_ 33))
    clear fa0_29 ha hD hP hM hS hA hO hL hT r2 r3 rw
    generalize a0_29.eval = ρ at *
    go_simp
  refine fa0_29.take 28 34 (.pointer (some ⟨c, 4, none⟩)) rfl (by kernel_rfl) (by kernel_rfl) (by kernel_rfl) (fun _ _ _ h => h) rfl (lb_ hsz) ((wanted_at (t := 29) (c := true) (b := true) rfl rfl rfl (lb_ (fa0_29.size.trans hsz)) (fa0_29.at_ 29)).trans (by rfl)) r_a0_30 hS1 (fun a0_30 fa0_30 => ?_)
  clear r_a0_30
  clear fa0_29
  have r_a0_31 : ∀ Z, (fun Z => Same w Z) Z → (execOp a0_30.eval { dst := some 35, op := Op.load 38 (Operand.tmp 34), type := 38, pos := "law.go:149", after := #[{ on := 28, ground := Ground.data }, { on := 23, ground := Ground.guard }], guard := some (23, true) }).run Try.prog Z = .ok (.value (.slice none 0 0)) Z := fun Z hZ => by
    have zr := heap_fr rw hZ (fun f => f)
    have z0 : Z.cell? ⟨c, 0, none⟩ = some (.int .i64 (pn : Int)) := (cell_of_row _ _ _ _ _ _ zr).trans rfl
    have z1 : Z.cell? ⟨c, 1, none⟩ = some (.int .i64 (mn : Int)) := (cell_of_row _ _ _ _ _ _ zr).trans rfl
    have z4 : Z.cell? ⟨c, 4, none⟩ = some (.slice none 0 0) := (cell_of_row _ _ _ _ _ _ zr).trans rfl
    clear zr hZ
    have e34 := (show a0_30.eval (.tmp 34) = .pointer (some ⟨c, 4, none⟩) from (fa0_30.at_ 34))
    clear fa0_30 ha hD hP hM hS hA hO hL hT r2 r3 rw
    generalize a0_30.eval = ρ at *
    go_simp
  refine fa0_30.take 29 35 (.slice none 0 0) rfl (by kernel_rfl) (by kernel_rfl) (by kernel_rfl) (fun _ _ _ h => h) rfl (lb_ hsz) ((wanted_at (t := 29) (c := true) (b := true) rfl rfl rfl (lb_ (fa0_30.size.trans hsz)) (fa0_30.at_ 29)).trans (by rfl)) r_a0_31 hS1 (fun a0_31 fa0_31 => ?_)
  clear r_a0_31
  clear fa0_30
  have r_a0_32 : ∀ Z, (fun Z => Same w Z) Z → (execOp a0_31.eval { dst := some 36, op := Op.call { callee := Callee.builtin Builtin.len, args := #[Operand.tmp 35], argTypes := #[38] }, type := 3, pos := "law.go:149", after := #[{ on := 29, ground := Ground.data }, { on := 23, ground := Ground.guard }], guard := some (23, true) }).run Try.prog Z = .ok (.value (.int .i64 0)) Z := fun Z hZ => by
    have e35 := (show a0_31.eval (.tmp 35) = .slice none 0 0 from (fa0_31.at_ 35))
    clear fa0_31 ha hD hP hM hS hA hO hL hT r2 r3 rw
    generalize a0_31.eval = ρ at *
    go_simp
  refine fa0_31.take 30 36 (.int .i64 0) rfl (by kernel_rfl) (by kernel_rfl) (by kernel_rfl) (fun _ _ _ h => h) rfl (lb_ hsz) ((wanted_at (t := 29) (c := true) (b := true) rfl rfl rfl (lb_ (fa0_31.size.trans hsz)) (fa0_31.at_ 29)).trans (by rfl)) r_a0_32 hS1 (fun a0_32 fa0_32 => ?_)
  clear r_a0_32
  clear fa0_31
  have r_a0_33 : ∀ Z, (fun Z => Same w Z) Z → (execOp a0_32.eval { dst := some 37, op := Op.binOp BinOp.eql 3 (Operand.tmp 31) (Operand.tmp 36) 3, type := 4, pos := "law.go:149", after := #[{ on := 25, ground := Ground.data }, { on := 30, ground := Ground.data }, { on := 23, ground := Ground.guard }], guard := some (23, true) }).run Try.prog Z = .ok (.value (.bool true)) Z := fun Z hZ => by
    have e31 := (show a0_32.eval (.tmp 31) = .int .i64 ((0 : Nat) : Int) from (fa0_32.at_ 31))
    have e36 := (show a0_32.eval (.tmp 36) = .int .i64 0 from (fa0_32.at_ 36))
    clear fa0_32 ha hD hP hM hS hA hO hL hT r2 r3 rw
    generalize a0_32.eval = ρ at *
    go_simp
  refine fa0_32.take 31 37 (.bool true) rfl (by kernel_rfl) (by kernel_rfl) (by kernel_rfl) (fun _ _ _ h => h) rfl (lb_ hsz) ((wanted_at (t := 29) (c := true) (b := true) rfl rfl rfl (lb_ (fa0_32.size.trans hsz)) (fa0_32.at_ 29)).trans (by rfl)) r_a0_33 hS1 (fun a0_33 fa0_33 => ?_)
  clear r_a0_33
  clear fa0_32
  have r_a0_34 : ∀ Z, (fun Z => Same w Z) Z → (execOp a0_33.eval { dst := some 38, op := Op.pick (Operand.tmp 29) (Operand.tmp 37) (Operand.const (Value.bool false)), type := 4, pos := "law.go:149", after := #[{ on := 23, ground := Ground.data }, { on := 31, ground := Ground.data }], guard := none }).run Try.prog Z = .ok (.value (.bool true)) Z := fun Z hZ => by
    have kc : ∀ v, a0_33.eval (.const v) = v := fun _ => rfl
    have e29 := (show a0_33.eval (.tmp 29) = .bool true from (fa0_33.at_ 29))
    have e37 := (show a0_33.eval (.tmp 37) = .bool true from (fa0_33.at_ 37))
    clear fa0_33 ha hD hP hM hS hA hO hL hT r2 r3 rw
    generalize a0_33.eval = ρ at *
    go_simp
  refine fa0_33.take 32 38 (.bool true) rfl (by kernel_rfl) (by kernel_rfl) (by kernel_rfl) (fun _ _ _ h => h) rfl (lb_ hsz) (wanted_none rfl) r_a0_34 hS1 (fun a0_34 fa0_34 => ?_)
  clear r_a0_34
  clear fa0_33
  refine fa0_34.takeMove 33 5 (.bool true) _ (Or.inr rfl) rfl (by kernel_rfl) (by kernel_rfl) (by kernel_rfl) (fun _ _ _ h => h) rfl (lb_ hsz) (wanted_none rfl) (fa0_34.at_ 38) hS1 (fun a0_35 fa0_35 => ?_)
  clear fa0_34
  refine wpAnyH_done (by kernel_rfl) ?_ _
  change Code.wp _ _ _ _ _
  refine wp_seq ?_
  have d2 : Same w w.drew.drew := dd.trans (Fr.refl (fun _ => False) w.drew).drew
  refine wp_region_held_drew (ops := rDU2) (S := fun Z => Same w Z) (by kernel_rfl) (d2) (fun hS35 => ?_)
  refine fa0_35.takeMove 0 39 (.bool true) _ (Or.inl rfl) rfl (by kernel_rfl) (by kernel_rfl) (by kernel_rfl) (fun _ _ _ h => h) rfl (lb_ hsz) (wanted_none rfl) (fa0_35.at_ 5) hS35 (fun a0_36 fa0_36 => ?_)
  clear fa0_35
  refine fa0_36.takeMove 1 40 (.bool true) _ (Or.inl rfl) rfl (by kernel_rfl) (by kernel_rfl) (by kernel_rfl) (fun _ _ _ h => h) rfl (lb_ hsz) (wanted_none rfl) (fa0_36.at_ 39) hS35 (fun a0_37 fa0_37 => ?_)
  clear fa0_36
  refine fa0_37.takeMove 2 41 (.pointer (some ⟨b, 0, none⟩)) _ (Or.inl rfl) rfl (by kernel_rfl) (by kernel_rfl) (by kernel_rfl) (fun _ _ _ h => h) rfl (lb_ hsz) ((wanted_at (t := 40) (c := true) (b := true) rfl rfl rfl (lb_ (fa0_37.size.trans hsz)) (fa0_37.at_ 40)).trans (by rfl)) ((fa0_37.at_ 0).trans (ha 0 _ rfl)) hS35 (fun a0_38 fa0_38 => ?_)
  clear fa0_37
  have r_a0_39 : ∀ Z, (fun Z => Same w Z) Z → (execOp a0_38.eval { dst := some 42, op := Op.call { callee := Callee.value (Operand.func 21), args := #[Operand.tmp 41], argTypes := #[27] }, type := 4, pos := "law.go:150", after := #[{ on := 2, ground := Ground.data }, { on := 1, ground := Ground.chain }, { on := 1, ground := Ground.guard }], guard := some (1, true) }).run Try.prog Z = .ok (.enter 21 #[.pointer (some ⟨b, 0, none⟩)]) Z := fun Z hZ => by
    have kf : ∀ f, a0_38.eval (.func f) = .func (.func f) #[] #[] := fun _ => rfl
    have e41 := (show a0_38.eval (.tmp 41) = .pointer (some ⟨b, 0, none⟩) from (fa0_38.at_ 41))
    clear fa0_38 ha hD hP hM hS hA hO hL hT r2 r3 rw
    generalize a0_38.eval = ρ at *
    go_simp
  refine fa0_38.takeCall 3 42 (.bool true) _ _ rfl (by kernel_rfl) (by kernel_rfl) (by kernel_rfl) (fun _ _ _ h => h) rfl (lb_ hsz) ((wanted_at (t := 40) (c := true) (b := true) rfl rfl rfl (lb_ (fa0_38.size.trans hsz)) (fa0_38.at_ 40)).trans (by rfl)) r_a0_39 (fun W hW => hO W hW) hS35 (fun a0_39 fa0_39 => ?_)
  clear r_a0_39
  clear fa0_38
  refine fa0_39.takeMove 4 43 (.pointer (some ⟨c, 0, none⟩)) _ (Or.inl rfl) rfl (by kernel_rfl) (by kernel_rfl) (by kernel_rfl) (fun _ _ _ h => h) rfl (lb_ hsz) ((wanted_at (t := 40) (c := true) (b := true) rfl rfl rfl (lb_ (fa0_39.size.trans hsz)) (fa0_39.at_ 40)).trans (by rfl)) ((fa0_39.at_ 1).trans (ha 1 _ rfl)) hS35 (fun a0_40 fa0_40 => ?_)
  clear fa0_39
  have r_a0_41 : ∀ Z, (fun Z => Same w Z) Z → (execOp a0_40.eval { dst := some 44, op := Op.nilCheck (Operand.tmp 43), type := 0, pos := "law.go:150", after := #[{ on := 4, ground := Ground.data }, { on := 1, ground := Ground.guard }], guard := some (1, true) }).run Try.prog Z = .ok (.value (.pointer (some ⟨c, 0, none⟩))) Z := fun Z hZ => by
    have e43 := (show a0_40.eval (.tmp 43) = .pointer (some ⟨c, 0, none⟩) from (fa0_40.at_ 43))
    clear fa0_40 ha hD hP hM hS hA hO hL hT r2 r3 rw
    generalize a0_40.eval = ρ at *
    go_simp
  refine fa0_40.take 5 44 (.pointer (some ⟨c, 0, none⟩)) rfl (by kernel_rfl) (by kernel_rfl) (by kernel_rfl) (fun _ _ _ h => h) rfl (lb_ hsz) ((wanted_at (t := 40) (c := true) (b := true) rfl rfl rfl (lb_ (fa0_40.size.trans hsz)) (fa0_40.at_ 40)).trans (by rfl)) r_a0_41 hS35 (fun a0_41 fa0_41 => ?_)
  clear r_a0_41
  clear fa0_40
  have r_a0_42 : ∀ Z, (fun Z => Same w Z) Z → (execOp a0_41.eval { dst := some 45, op := Op.fieldAddr 42 (Operand.tmp 44) 5, type := 0, pos := "law.go:150", after := #[{ on := 5, ground := Ground.data }, { on := 1, ground := Ground.guard }], guard := some (1, true) }).run Try.prog Z = .ok (.value (.pointer (some ⟨c, 5, none⟩))) Z := fun Z hZ => by
    have e44 := (show a0_41.eval (.tmp 44) = .pointer (some ⟨c, 0, none⟩) from (fa0_41.at_ 44))
    clear fa0_41 ha hD hP hM hS hA hO hL hT r2 r3 rw
    generalize a0_41.eval = ρ at *
    go_simp
  refine fa0_41.take 6 45 (.pointer (some ⟨c, 5, none⟩)) rfl (by kernel_rfl) (by kernel_rfl) (by kernel_rfl) (fun _ _ _ h => h) rfl (lb_ hsz) ((wanted_at (t := 40) (c := true) (b := true) rfl rfl rfl (lb_ (fa0_41.size.trans hsz)) (fa0_41.at_ 40)).trans (by rfl)) r_a0_42 hS35 (fun a0_42 fa0_42 => ?_)
  clear r_a0_42
  clear fa0_41
  have r_a0_43 : ∀ Z, (fun Z => Same w Z) Z → (execOp a0_42.eval { dst := some 46, op := Op.load 4 (Operand.tmp 45), type := 4, pos := "law.go:150", after := #[{ on := 6, ground := Ground.data }, { on := 1, ground := Ground.guard }], guard := some (1, true) }).run Try.prog Z = .ok (.value (.bool true)) Z := fun Z hZ => by
    have zr := heap_fr rw hZ (fun f => f)
    have z5 : Z.cell? ⟨c, 5, none⟩ = some (.bool true) := (cell_of_row _ _ _ _ _ _ zr).trans rfl
    have z6 : Z.cell? ⟨c, 6, none⟩ = some (.int .i64 0) := (cell_of_row _ _ _ _ _ _ zr).trans rfl
    have z7 : Z.cell? ⟨c, 7, none⟩ = some (.int .i64 0) := (cell_of_row _ _ _ _ _ _ zr).trans rfl
    clear zr hZ
    have e45 := (show a0_42.eval (.tmp 45) = .pointer (some ⟨c, 5, none⟩) from (fa0_42.at_ 45))
    clear fa0_42 ha hD hP hM hS hA hO hL hT r2 r3 rw
    generalize a0_42.eval = ρ at *
    go_simp
  refine fa0_42.take 7 46 (.bool true) rfl (by kernel_rfl) (by kernel_rfl) (by kernel_rfl) (fun _ _ _ h => h) rfl (lb_ hsz) ((wanted_at (t := 40) (c := true) (b := true) rfl rfl rfl (lb_ (fa0_42.size.trans hsz)) (fa0_42.at_ 40)).trans (by rfl)) r_a0_43 hS35 (fun a0_43 fa0_43 => ?_)
  clear r_a0_43
  clear fa0_42
  have r_a0_44 : ∀ Z, (fun Z => Same w Z) Z → (execOp a0_43.eval { dst := some 47, op := Op.binOp BinOp.eql 4 (Operand.tmp 42) (Operand.tmp 46) 4, type := 4, pos := "law.go:150", after := #[{ on := 3, ground := Ground.data }, { on := 7, ground := Ground.data }, { on := 1, ground := Ground.guard }], guard := some (1, true) }).run Try.prog Z = .ok (.value (.bool true)) Z := fun Z hZ => by
    have e42 := (show a0_43.eval (.tmp 42) = .bool true from (fa0_43.at_ 42))
    have e46 := (show a0_43.eval (.tmp 46) = .bool true from (fa0_43.at_ 46))
    clear fa0_43 ha hD hP hM hS hA hO hL hT r2 r3 rw
    generalize a0_43.eval = ρ at *
    go_simp
  refine fa0_43.take 8 47 (.bool true) rfl (by kernel_rfl) (by kernel_rfl) (by kernel_rfl) (fun _ _ _ h => h) rfl (lb_ hsz) ((wanted_at (t := 40) (c := true) (b := true) rfl rfl rfl (lb_ (fa0_43.size.trans hsz)) (fa0_43.at_ 40)).trans (by rfl)) r_a0_44 hS35 (fun a0_44 fa0_44 => ?_)
  clear r_a0_44
  clear fa0_43
  have r_a0_45 : ∀ Z, (fun Z => Same w Z) Z → (execOp a0_44.eval { dst := some 48, op := Op.pick (Operand.tmp 40) (Operand.tmp 47) (Operand.const (Value.bool false)), type := 4, pos := "law.go:150", after := #[{ on := 1, ground := Ground.data }, { on := 8, ground := Ground.data }], guard := none }).run Try.prog Z = .ok (.value (.bool true)) Z := fun Z hZ => by
    have kc : ∀ v, a0_44.eval (.const v) = v := fun _ => rfl
    have e40 := (show a0_44.eval (.tmp 40) = .bool true from (fa0_44.at_ 40))
    have e47 := (show a0_44.eval (.tmp 47) = .bool true from (fa0_44.at_ 47))
    clear fa0_44 ha hD hP hM hS hA hO hL hT r2 r3 rw
    generalize a0_44.eval = ρ at *
    go_simp
  refine fa0_44.take 9 48 (.bool true) rfl (by kernel_rfl) (by kernel_rfl) (by kernel_rfl) (fun _ _ _ h => h) rfl (lb_ hsz) (wanted_none rfl) r_a0_45 hS35 (fun a0_45 fa0_45 => ?_)
  clear r_a0_45
  clear fa0_44
  refine fa0_45.takeMove 10 49 (.bool true) _ (Or.inl rfl) rfl (by kernel_rfl) (by kernel_rfl) (by kernel_rfl) (fun _ _ _ h => h) rfl (lb_ hsz) (wanted_none rfl) (fa0_45.at_ 48) hS35 (fun a0_46 fa0_46 => ?_)
  clear fa0_45
  refine fa0_46.takeMove 11 50 (.pointer (some ⟨b, 0, none⟩)) _ (Or.inl rfl) rfl (by kernel_rfl) (by kernel_rfl) (by kernel_rfl) (fun _ _ _ h => h) rfl (lb_ hsz) ((wanted_at (t := 49) (c := true) (b := true) rfl rfl rfl (lb_ (fa0_46.size.trans hsz)) (fa0_46.at_ 49)).trans (by rfl)) ((fa0_46.at_ 0).trans (ha 0 _ rfl)) hS35 (fun a0_47 fa0_47 => ?_)
  clear fa0_46
  have r_a0_48 : ∀ Z, (fun Z => Same w Z) Z → (execOp a0_47.eval { dst := some 51, op := Op.call { callee := Callee.value (Operand.func 22), args := #[Operand.tmp 50], argTypes := #[27] }, type := 3, pos := "law.go:150", after := #[{ on := 11, ground := Ground.data }, { on := 10, ground := Ground.chain }, { on := 10, ground := Ground.guard }], guard := some (10, true) }).run Try.prog Z = .ok (.enter 22 #[.pointer (some ⟨b, 0, none⟩)]) Z := fun Z hZ => by
    have kf : ∀ f, a0_47.eval (.func f) = .func (.func f) #[] #[] := fun _ => rfl
    have e50 := (show a0_47.eval (.tmp 50) = .pointer (some ⟨b, 0, none⟩) from (fa0_47.at_ 50))
    clear fa0_47 ha hD hP hM hS hA hO hL hT r2 r3 rw
    generalize a0_47.eval = ρ at *
    go_simp
  refine fa0_47.takeCall 12 51 (.int .i64 ((0 : Nat) : Int)) _ _ rfl (by kernel_rfl) (by kernel_rfl) (by kernel_rfl) (fun _ _ _ h => h) rfl (lb_ hsz) ((wanted_at (t := 49) (c := true) (b := true) rfl rfl rfl (lb_ (fa0_47.size.trans hsz)) (fa0_47.at_ 49)).trans (by rfl)) r_a0_48 (fun W hW => hL W hW) hS35 (fun a0_48 fa0_48 => ?_)
  clear r_a0_48
  clear fa0_47
  refine fa0_48.takeMove 13 52 (.pointer (some ⟨c, 0, none⟩)) _ (Or.inl rfl) rfl (by kernel_rfl) (by kernel_rfl) (by kernel_rfl) (fun _ _ _ h => h) rfl (lb_ hsz) ((wanted_at (t := 49) (c := true) (b := true) rfl rfl rfl (lb_ (fa0_48.size.trans hsz)) (fa0_48.at_ 49)).trans (by rfl)) ((fa0_48.at_ 1).trans (ha 1 _ rfl)) hS35 (fun a0_49 fa0_49 => ?_)
  clear fa0_48
  have r_a0_50 : ∀ Z, (fun Z => Same w Z) Z → (execOp a0_49.eval { dst := some 53, op := Op.nilCheck (Operand.tmp 52), type := 0, pos := "law.go:150", after := #[{ on := 13, ground := Ground.data }, { on := 10, ground := Ground.guard }], guard := some (10, true) }).run Try.prog Z = .ok (.value (.pointer (some ⟨c, 0, none⟩))) Z := fun Z hZ => by
    have e52 := (show a0_49.eval (.tmp 52) = .pointer (some ⟨c, 0, none⟩) from (fa0_49.at_ 52))
    clear fa0_49 ha hD hP hM hS hA hO hL hT r2 r3 rw
    generalize a0_49.eval = ρ at *
    go_simp
  refine fa0_49.take 14 53 (.pointer (some ⟨c, 0, none⟩)) rfl (by kernel_rfl) (by kernel_rfl) (by kernel_rfl) (fun _ _ _ h => h) rfl (lb_ hsz) ((wanted_at (t := 49) (c := true) (b := true) rfl rfl rfl (lb_ (fa0_49.size.trans hsz)) (fa0_49.at_ 49)).trans (by rfl)) r_a0_50 hS35 (fun a0_50 fa0_50 => ?_)
  clear r_a0_50
  clear fa0_49
  have r_a0_51 : ∀ Z, (fun Z => Same w Z) Z → (execOp a0_50.eval { dst := some 54, op := Op.fieldAddr 42 (Operand.tmp 53) 6, type := 0, pos := "law.go:150", after := #[{ on := 14, ground := Ground.data }, { on := 10, ground := Ground.guard }], guard := some (10, true) }).run Try.prog Z = .ok (.value (.pointer (some ⟨c, 6, none⟩))) Z := fun Z hZ => by
    have e53 := (show a0_50.eval (.tmp 53) = .pointer (some ⟨c, 0, none⟩) from (fa0_50.at_ 53))
    clear fa0_50 ha hD hP hM hS hA hO hL hT r2 r3 rw
    generalize a0_50.eval = ρ at *
    go_simp
  refine fa0_50.take 15 54 (.pointer (some ⟨c, 6, none⟩)) rfl (by kernel_rfl) (by kernel_rfl) (by kernel_rfl) (fun _ _ _ h => h) rfl (lb_ hsz) ((wanted_at (t := 49) (c := true) (b := true) rfl rfl rfl (lb_ (fa0_50.size.trans hsz)) (fa0_50.at_ 49)).trans (by rfl)) r_a0_51 hS35 (fun a0_51 fa0_51 => ?_)
  clear r_a0_51
  clear fa0_50
  have r_a0_52 : ∀ Z, (fun Z => Same w Z) Z → (execOp a0_51.eval { dst := some 55, op := Op.load 3 (Operand.tmp 54), type := 3, pos := "law.go:150", after := #[{ on := 15, ground := Ground.data }, { on := 10, ground := Ground.guard }], guard := some (10, true) }).run Try.prog Z = .ok (.value (.int .i64 0)) Z := fun Z hZ => by
    have zr := heap_fr rw hZ (fun f => f)
    have z5 : Z.cell? ⟨c, 5, none⟩ = some (.bool true) := (cell_of_row _ _ _ _ _ _ zr).trans rfl
    have z6 : Z.cell? ⟨c, 6, none⟩ = some (.int .i64 0) := (cell_of_row _ _ _ _ _ _ zr).trans rfl
    have z7 : Z.cell? ⟨c, 7, none⟩ = some (.int .i64 0) := (cell_of_row _ _ _ _ _ _ zr).trans rfl
    clear zr hZ
    have e54 := (show a0_51.eval (.tmp 54) = .pointer (some ⟨c, 6, none⟩) from (fa0_51.at_ 54))
    clear fa0_51 ha hD hP hM hS hA hO hL hT r2 r3 rw
    generalize a0_51.eval = ρ at *
    go_simp
  refine fa0_51.take 16 55 (.int .i64 0) rfl (by kernel_rfl) (by kernel_rfl) (by kernel_rfl) (fun _ _ _ h => h) rfl (lb_ hsz) ((wanted_at (t := 49) (c := true) (b := true) rfl rfl rfl (lb_ (fa0_51.size.trans hsz)) (fa0_51.at_ 49)).trans (by rfl)) r_a0_52 hS35 (fun a0_52 fa0_52 => ?_)
  clear r_a0_52
  clear fa0_51
  have r_a0_53 : ∀ Z, (fun Z => Same w Z) Z → (execOp a0_52.eval { dst := some 56, op := Op.binOp BinOp.eql 3 (Operand.tmp 51) (Operand.tmp 55) 3, type := 4, pos := "law.go:150", after := #[{ on := 12, ground := Ground.data }, { on := 16, ground := Ground.data }, { on := 10, ground := Ground.guard }], guard := some (10, true) }).run Try.prog Z = .ok (.value (.bool true)) Z := fun Z hZ => by
    have e51 := (show a0_52.eval (.tmp 51) = .int .i64 ((0 : Nat) : Int) from (fa0_52.at_ 51))
    have e55 := (show a0_52.eval (.tmp 55) = .int .i64 0 from (fa0_52.at_ 55))
    clear fa0_52 ha hD hP hM hS hA hO hL hT r2 r3 rw
    generalize a0_52.eval = ρ at *
    go_simp
  refine fa0_52.take 17 56 (.bool true) rfl (by kernel_rfl) (by kernel_rfl) (by kernel_rfl) (fun _ _ _ h => h) rfl (lb_ hsz) ((wanted_at (t := 49) (c := true) (b := true) rfl rfl rfl (lb_ (fa0_52.size.trans hsz)) (fa0_52.at_ 49)).trans (by rfl)) r_a0_53 hS35 (fun a0_53 fa0_53 => ?_)
  clear r_a0_53
  clear fa0_52
  have r_a0_54 : ∀ Z, (fun Z => Same w Z) Z → (execOp a0_53.eval { dst := some 57, op := Op.pick (Operand.tmp 49) (Operand.tmp 56) (Operand.const (Value.bool false)), type := 4, pos := "law.go:150", after := #[{ on := 10, ground := Ground.data }, { on := 17, ground := Ground.data }], guard := none }).run Try.prog Z = .ok (.value (.bool true)) Z := fun Z hZ => by
    have kc : ∀ v, a0_53.eval (.const v) = v := fun _ => rfl
    have e49 := (show a0_53.eval (.tmp 49) = .bool true from (fa0_53.at_ 49))
    have e56 := (show a0_53.eval (.tmp 56) = .bool true from (fa0_53.at_ 56))
    clear fa0_53 ha hD hP hM hS hA hO hL hT r2 r3 rw
    generalize a0_53.eval = ρ at *
    go_simp
  refine fa0_53.take 18 57 (.bool true) rfl (by kernel_rfl) (by kernel_rfl) (by kernel_rfl) (fun _ _ _ h => h) rfl (lb_ hsz) (wanted_none rfl) r_a0_54 hS35 (fun a0_54 fa0_54 => ?_)
  clear r_a0_54
  clear fa0_53
  refine fa0_54.takeMove 19 58 (.bool true) _ (Or.inl rfl) rfl (by kernel_rfl) (by kernel_rfl) (by kernel_rfl) (fun _ _ _ h => h) rfl (lb_ hsz) (wanted_none rfl) (fa0_54.at_ 57) hS35 (fun a0_55 fa0_55 => ?_)
  clear fa0_54
  refine fa0_55.takeMove 20 59 (.pointer (some ⟨b, 0, none⟩)) _ (Or.inl rfl) rfl (by kernel_rfl) (by kernel_rfl) (by kernel_rfl) (fun _ _ _ h => h) rfl (lb_ hsz) ((wanted_at (t := 58) (c := true) (b := true) rfl rfl rfl (lb_ (fa0_55.size.trans hsz)) (fa0_55.at_ 58)).trans (by rfl)) ((fa0_55.at_ 0).trans (ha 0 _ rfl)) hS35 (fun a0_56 fa0_56 => ?_)
  clear fa0_55
  have r_a0_57 : ∀ Z, (fun Z => Same w Z) Z → (execOp a0_56.eval { dst := some 60, op := Op.call { callee := Callee.value (Operand.func 23), args := #[Operand.tmp 59], argTypes := #[27] }, type := 3, pos := "law.go:150", after := #[{ on := 20, ground := Ground.data }, { on := 19, ground := Ground.chain }, { on := 19, ground := Ground.guard }], guard := some (19, true) }).run Try.prog Z = .ok (.enter 23 #[.pointer (some ⟨b, 0, none⟩)]) Z := fun Z hZ => by
    have kf : ∀ f, a0_56.eval (.func f) = .func (.func f) #[] #[] := fun _ => rfl
    have e59 := (show a0_56.eval (.tmp 59) = .pointer (some ⟨b, 0, none⟩) from (fa0_56.at_ 59))
    clear fa0_56 ha hD hP hM hS hA hO hL hT r2 r3 rw
    generalize a0_56.eval = ρ at *
    go_simp
  refine fa0_56.takeCall 21 60 (.int .i64 ((0 : Nat) : Int)) _ _ rfl (by kernel_rfl) (by kernel_rfl) (by kernel_rfl) (fun _ _ _ h => h) rfl (lb_ hsz) ((wanted_at (t := 58) (c := true) (b := true) rfl rfl rfl (lb_ (fa0_56.size.trans hsz)) (fa0_56.at_ 58)).trans (by rfl)) r_a0_57 (fun W hW => hT W hW) hS35 (fun a0_57 fa0_57 => ?_)
  clear r_a0_57
  clear fa0_56
  refine fa0_57.takeMove 22 61 (.pointer (some ⟨c, 0, none⟩)) _ (Or.inl rfl) rfl (by kernel_rfl) (by kernel_rfl) (by kernel_rfl) (fun _ _ _ h => h) rfl (lb_ hsz) ((wanted_at (t := 58) (c := true) (b := true) rfl rfl rfl (lb_ (fa0_57.size.trans hsz)) (fa0_57.at_ 58)).trans (by rfl)) ((fa0_57.at_ 1).trans (ha 1 _ rfl)) hS35 (fun a0_58 fa0_58 => ?_)
  clear fa0_57
  have r_a0_59 : ∀ Z, (fun Z => Same w Z) Z → (execOp a0_58.eval { dst := some 62, op := Op.nilCheck (Operand.tmp 61), type := 0, pos := "law.go:150", after := #[{ on := 22, ground := Ground.data }, { on := 19, ground := Ground.guard }], guard := some (19, true) }).run Try.prog Z = .ok (.value (.pointer (some ⟨c, 0, none⟩))) Z := fun Z hZ => by
    have e61 := (show a0_58.eval (.tmp 61) = .pointer (some ⟨c, 0, none⟩) from (fa0_58.at_ 61))
    clear fa0_58 ha hD hP hM hS hA hO hL hT r2 r3 rw
    generalize a0_58.eval = ρ at *
    go_simp
  refine fa0_58.take 23 62 (.pointer (some ⟨c, 0, none⟩)) rfl (by kernel_rfl) (by kernel_rfl) (by kernel_rfl) (fun _ _ _ h => h) rfl (lb_ hsz) ((wanted_at (t := 58) (c := true) (b := true) rfl rfl rfl (lb_ (fa0_58.size.trans hsz)) (fa0_58.at_ 58)).trans (by rfl)) r_a0_59 hS35 (fun a0_59 fa0_59 => ?_)
  clear r_a0_59
  clear fa0_58
  have r_a0_60 : ∀ Z, (fun Z => Same w Z) Z → (execOp a0_59.eval { dst := some 63, op := Op.fieldAddr 42 (Operand.tmp 62) 7, type := 0, pos := "law.go:150", after := #[{ on := 23, ground := Ground.data }, { on := 19, ground := Ground.guard }], guard := some (19, true) }).run Try.prog Z = .ok (.value (.pointer (some ⟨c, 7, none⟩))) Z := fun Z hZ => by
    have e62 := (show a0_59.eval (.tmp 62) = .pointer (some ⟨c, 0, none⟩) from (fa0_59.at_ 62))
    clear fa0_59 ha hD hP hM hS hA hO hL hT r2 r3 rw
    generalize a0_59.eval = ρ at *
    go_simp
  refine fa0_59.take 24 63 (.pointer (some ⟨c, 7, none⟩)) rfl (by kernel_rfl) (by kernel_rfl) (by kernel_rfl) (fun _ _ _ h => h) rfl (lb_ hsz) ((wanted_at (t := 58) (c := true) (b := true) rfl rfl rfl (lb_ (fa0_59.size.trans hsz)) (fa0_59.at_ 58)).trans (by rfl)) r_a0_60 hS35 (fun a0_60 fa0_60 => ?_)
  clear r_a0_60
  clear fa0_59
  have r_a0_61 : ∀ Z, (fun Z => Same w Z) Z → (execOp a0_60.eval { dst := some 64, op := Op.load 3 (Operand.tmp 63), type := 3, pos := "law.go:150", after := #[{ on := 24, ground := Ground.data }, { on := 19, ground := Ground.guard }], guard := some (19, true) }).run Try.prog Z = .ok (.value (.int .i64 0)) Z := fun Z hZ => by
    have zr := heap_fr rw hZ (fun f => f)
    have z5 : Z.cell? ⟨c, 5, none⟩ = some (.bool true) := (cell_of_row _ _ _ _ _ _ zr).trans rfl
    have z6 : Z.cell? ⟨c, 6, none⟩ = some (.int .i64 0) := (cell_of_row _ _ _ _ _ _ zr).trans rfl
    have z7 : Z.cell? ⟨c, 7, none⟩ = some (.int .i64 0) := (cell_of_row _ _ _ _ _ _ zr).trans rfl
    clear zr hZ
    have e63 := (show a0_60.eval (.tmp 63) = .pointer (some ⟨c, 7, none⟩) from (fa0_60.at_ 63))
    clear fa0_60 ha hD hP hM hS hA hO hL hT r2 r3 rw
    generalize a0_60.eval = ρ at *
    go_simp
  refine fa0_60.take 25 64 (.int .i64 0) rfl (by kernel_rfl) (by kernel_rfl) (by kernel_rfl) (fun _ _ _ h => h) rfl (lb_ hsz) ((wanted_at (t := 58) (c := true) (b := true) rfl rfl rfl (lb_ (fa0_60.size.trans hsz)) (fa0_60.at_ 58)).trans (by rfl)) r_a0_61 hS35 (fun a0_61 fa0_61 => ?_)
  clear r_a0_61
  clear fa0_60
  have r_a0_62 : ∀ Z, (fun Z => Same w Z) Z → (execOp a0_61.eval { dst := some 65, op := Op.binOp BinOp.eql 3 (Operand.tmp 60) (Operand.tmp 64) 3, type := 4, pos := "law.go:150", after := #[{ on := 21, ground := Ground.data }, { on := 25, ground := Ground.data }, { on := 19, ground := Ground.guard }], guard := some (19, true) }).run Try.prog Z = .ok (.value (.bool true)) Z := fun Z hZ => by
    have e60 := (show a0_61.eval (.tmp 60) = .int .i64 ((0 : Nat) : Int) from (fa0_61.at_ 60))
    have e64 := (show a0_61.eval (.tmp 64) = .int .i64 0 from (fa0_61.at_ 64))
    clear fa0_61 ha hD hP hM hS hA hO hL hT r2 r3 rw
    generalize a0_61.eval = ρ at *
    go_simp
  refine fa0_61.take 26 65 (.bool true) rfl (by kernel_rfl) (by kernel_rfl) (by kernel_rfl) (fun _ _ _ h => h) rfl (lb_ hsz) ((wanted_at (t := 58) (c := true) (b := true) rfl rfl rfl (lb_ (fa0_61.size.trans hsz)) (fa0_61.at_ 58)).trans (by rfl)) r_a0_62 hS35 (fun a0_62 fa0_62 => ?_)
  clear r_a0_62
  clear fa0_61
  have r_a0_63 : ∀ Z, (fun Z => Same w Z) Z → (execOp a0_62.eval { dst := some 66, op := Op.pick (Operand.tmp 58) (Operand.tmp 65) (Operand.const (Value.bool false)), type := 4, pos := "law.go:150", after := #[{ on := 19, ground := Ground.data }, { on := 26, ground := Ground.data }], guard := none }).run Try.prog Z = .ok (.value (.bool true)) Z := fun Z hZ => by
    have kc : ∀ v, a0_62.eval (.const v) = v := fun _ => rfl
    have e58 := (show a0_62.eval (.tmp 58) = .bool true from (fa0_62.at_ 58))
    have e65 := (show a0_62.eval (.tmp 65) = .bool true from (fa0_62.at_ 65))
    clear fa0_62 ha hD hP hM hS hA hO hL hT r2 r3 rw
    generalize a0_62.eval = ρ at *
    go_simp
  refine fa0_62.take 27 66 (.bool true) rfl (by kernel_rfl) (by kernel_rfl) (by kernel_rfl) (fun _ _ _ h => h) rfl (lb_ hsz) (wanted_none rfl) r_a0_63 hS35 (fun a0_63 fa0_63 => ?_)
  clear r_a0_63
  clear fa0_62
  refine fa0_63.takeMove 28 67 (.bool true) _ (Or.inl rfl) rfl (by kernel_rfl) (by kernel_rfl) (by kernel_rfl) (fun _ _ _ h => h) rfl (lb_ hsz) (wanted_none rfl) (fa0_63.at_ 66) hS35 (fun a0_64 fa0_64 => ?_)
  clear fa0_63
  refine fa0_64.takeMove 29 68 (.pointer (some ⟨b, 0, none⟩)) _ (Or.inl rfl) rfl (by kernel_rfl) (by kernel_rfl) (by kernel_rfl) (fun _ _ _ h => h) rfl (lb_ hsz) ((wanted_at (t := 67) (c := true) (b := true) rfl rfl rfl (lb_ (fa0_64.size.trans hsz)) (fa0_64.at_ 67)).trans (by rfl)) ((fa0_64.at_ 0).trans (ha 0 _ rfl)) hS35 (fun a0_65 fa0_65 => ?_)
  clear fa0_64
  refine fa0_65.takeMove 31 70 (.pointer (some ⟨c, 0, none⟩)) _ (Or.inl rfl) rfl (by kernel_rfl) (by kernel_rfl) (by kernel_rfl) (fun _ _ _ h => h) rfl (lb_ hsz) ((wanted_at (t := 67) (c := true) (b := true) rfl rfl rfl (lb_ (fa0_65.size.trans hsz)) (fa0_65.at_ 67)).trans (by rfl)) ((fa0_65.at_ 1).trans (ha 1 _ rfl)) hS35 (fun a0_66 fa0_66 => ?_)
  clear fa0_65
  have r_a0_67 : ∀ Z, (fun Z => Same w Z) Z → (execOp a0_66.eval { dst := some 71, op := Op.nilCheck (Operand.tmp 70), type := 0, pos := "law.go:150", after := #[{ on := 31, ground := Ground.data }, { on := 28, ground := Ground.guard }], guard := some (28, true) }).run Try.prog Z = .ok (.value (.pointer (some ⟨c, 0, none⟩))) Z := fun Z hZ => by
    have e70 := (show a0_66.eval (.tmp 70) = .pointer (some ⟨c, 0, none⟩) from (fa0_66.at_ 70))
    clear fa0_66 ha hD hP hM hS hA hO hL hT r2 r3 rw
    generalize a0_66.eval = ρ at *
    go_simp
  refine fa0_66.take 32 71 (.pointer (some ⟨c, 0, none⟩)) rfl (by kernel_rfl) (by kernel_rfl) (by kernel_rfl) (fun _ _ _ h => h) rfl (lb_ hsz) ((wanted_at (t := 67) (c := true) (b := true) rfl rfl rfl (lb_ (fa0_66.size.trans hsz)) (fa0_66.at_ 67)).trans (by rfl)) r_a0_67 hS35 (fun a0_67 fa0_67 => ?_)
  clear r_a0_67
  clear fa0_66
  have r_a0_68 : ∀ Z, (fun Z => Same w Z) Z → (execOp a0_67.eval { dst := some 72, op := Op.fieldAddr 42 (Operand.tmp 71) 8, type := 0, pos := "law.go:150", after := #[{ on := 32, ground := Ground.data }, { on := 28, ground := Ground.guard }], guard := some (28, true) }).run Try.prog Z = .ok (.value (.pointer (some ⟨c, 8, none⟩))) Z := fun Z hZ => by
    have e71 := (show a0_67.eval (.tmp 71) = .pointer (some ⟨c, 0, none⟩) from (fa0_67.at_ 71))
    clear fa0_67 ha hD hP hM hS hA hO hL hT r2 r3 rw
    generalize a0_67.eval = ρ at *
    go_simp
  refine fa0_67.take 33 72 (.pointer (some ⟨c, 8, none⟩)) rfl (by kernel_rfl) (by kernel_rfl) (by kernel_rfl) (fun _ _ _ h => h) rfl (lb_ hsz) ((wanted_at (t := 67) (c := true) (b := true) rfl rfl rfl (lb_ (fa0_67.size.trans hsz)) (fa0_67.at_ 67)).trans (by rfl)) r_a0_68 hS35 (fun a0_68 fa0_68 => ?_)
  clear r_a0_68
  clear fa0_67
  have r_a0_69 : ∀ Z, (fun Z => Same w Z) Z → (execOp a0_68.eval { dst := some 73, op := Op.load 40 (Operand.tmp 72), type := 40, pos := "law.go:150", after := #[{ on := 33, ground := Ground.data }, { on := 28, ground := Ground.guard }], guard := some (28, true) }).run Try.prog Z = .ok (.value (.agg #[.int .i64 0, .int .i64 0, .int .i64 0])) Z := fun Z hZ => by
    have zr := heap_fr rw hZ (fun f => f)
    have e72 := (show a0_68.eval (.tmp 72) = .pointer (some ⟨c, 8, none⟩) from (fa0_68.at_ 72))
    exact exec_load_mid 40 _ rfl c 8 e72 [.int .i64 0, .int .i64 0, .int .i64 0] _ (range_row zr (fun j v hj => by match j, hj with | 0, hj => exact hj | 1, hj => exact hj | 2, hj => exact hj)) Try.underlying40 rfl (by kernel_rfl)
  refine fa0_68.take 34 73 (.agg #[.int .i64 0, .int .i64 0, .int .i64 0]) rfl (by kernel_rfl) (by kernel_rfl) (by kernel_rfl) (fun _ _ _ h => h) rfl (lb_ hsz) ((wanted_at (t := 67) (c := true) (b := true) rfl rfl rfl (lb_ (fa0_68.size.trans hsz)) (fa0_68.at_ 67)).trans (by rfl)) r_a0_69 hS35 (fun a0_69 fa0_69 => ?_)
  clear r_a0_69
  clear fa0_68
  have r_a0_70 : (execOp a0_69.eval { dst := some 69, op := Op.call { callee := Callee.value (Operand.func 24), args := #[Operand.tmp 68], argTypes := #[27] }, type := 40, pos := "law.go:150", after := #[{ on := 29, ground := Ground.data }, { on := 28, ground := Ground.chain }, { on := 28, ground := Ground.guard }], guard := some (28, true) }).run Try.prog (w.drew.drew) = .ok (.enter 24 #[.pointer (some ⟨b, 0, none⟩)]) (w.drew.drew) := by
    have kf : ∀ f, a0_69.eval (.func f) = .func (.func f) #[] #[] := fun _ => rfl
    have e68 := (show a0_69.eval (.tmp 68) = .pointer (some ⟨b, 0, none⟩) from (fa0_69.at_ 68))
    clear fa0_69 ha hD hP hM hS hA hO hL hT r2 r3 rw
    generalize a0_69.eval = ρ at *
    go_simp
  refine fa0_69.oneCall 30 69 (by kernel_rfl) rfl rfl (lb_ hsz) ((wanted_at (t := 67) (c := true) (b := true) rfl rfl rfl (lb_ (fa0_69.size.trans hsz)) (fa0_69.at_ 67)).trans (by rfl)) r_a0_70 (hAc _ d2) (fun e W9 hR => ?_)
  obtain ⟨rfl, s9⟩ := hR
  clear r_a0_70
  have hS70 : (fun Z => Same w Z) W9 := d2.trans s9
  refine ⟨_, rfl, hS70, fun a0_70 fa0_70 => ?_⟩
  clear fa0_69
  have r_a0_71 : ∀ Z, (fun Z => Same w Z) Z → (execOp a0_70.eval { dst := some 74, op := Op.binOp BinOp.eql 40 (Operand.tmp 69) (Operand.tmp 73) 40, type := 4, pos := "law.go:150", after := #[{ on := 30, ground := Ground.data }, { on := 34, ground := Ground.data }, { on := 28, ground := Ground.guard }], guard := some (28, true) }).run Try.prog Z = .ok (.value (.bool true)) Z := fun Z hZ => by
    have e69 := (show a0_70.eval (.tmp 69) = .agg #[.int .i64 0, .int .i64 0, .int .i64 0] from (fa0_70.at_ 69))
    have e73 := (show a0_70.eval (.tmp 73) = .agg #[.int .i64 0, .int .i64 0, .int .i64 0] from (fa0_70.at_ 73))
    clear fa0_70 ha hD hP hM hS hA hO hL hT r2 r3 rw
    generalize a0_70.eval = ρ at *
    go_simp
  refine fa0_70.take 35 74 (.bool true) rfl (by kernel_rfl) (by kernel_rfl) (by kernel_rfl) (fun _ _ _ h => h) rfl (lb_ hsz) ((wanted_at (t := 67) (c := true) (b := true) rfl rfl rfl (lb_ (fa0_70.size.trans hsz)) (fa0_70.at_ 67)).trans (by rfl)) r_a0_71 hS70 (fun a0_71 fa0_71 => ?_)
  clear r_a0_71
  clear fa0_70
  have r_a0_72 : ∀ Z, (fun Z => Same w Z) Z → (execOp a0_71.eval { dst := some 75, op := Op.pick (Operand.tmp 67) (Operand.tmp 74) (Operand.const (Value.bool false)), type := 4, pos := "law.go:150", after := #[{ on := 28, ground := Ground.data }, { on := 35, ground := Ground.data }], guard := none }).run Try.prog Z = .ok (.value (.bool true)) Z := fun Z hZ => by
    have kc : ∀ v, a0_71.eval (.const v) = v := fun _ => rfl
    have e67 := (show a0_71.eval (.tmp 67) = .bool true from (fa0_71.at_ 67))
    have e74 := (show a0_71.eval (.tmp 74) = .bool true from (fa0_71.at_ 74))
    clear fa0_71 ha hD hP hM hS hA hO hL hT r2 r3 rw
    generalize a0_71.eval = ρ at *
    go_simp
  refine fa0_71.take 36 75 (.bool true) rfl (by kernel_rfl) (by kernel_rfl) (by kernel_rfl) (fun _ _ _ h => h) rfl (lb_ hsz) (wanted_none rfl) r_a0_72 hS70 (fun a0_72 fa0_72 => ?_)
  clear r_a0_72
  clear fa0_71
  refine fa0_72.takeMove 37 4 (.bool true) _ (Or.inr rfl) rfl (by kernel_rfl) (by kernel_rfl) (by kernel_rfl) (fun _ _ _ h => h) rfl (lb_ hsz) (wanted_none rfl) (fa0_72.at_ 75) hS70 (fun a0_73 fa0_73 => ?_)
  clear fa0_72
  refine wpAnyH_done (by kernel_rfl) ?_ _
  change Code.wp _ _ _ _ _
  refine wp_ret ?_
  exact ret_abs rfl (fa0_73.defers.trans hd) (show a0_73.eval (.tmp 4) = .bool true from (fa0_73.at_ 4)) ⟨rfl, d2.trans s9⟩
end Go.Proofs.Ytljlkcmjbjnihaa
