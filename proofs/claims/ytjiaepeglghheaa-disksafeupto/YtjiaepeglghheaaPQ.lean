/- DiskSafe: the image's pages and their sectors. -/
import Derived.Test.YtjiaepeglghheaaPP
namespace Go.Proofs.Ytjiaepeglghheaa
open Go.RowKit

def oPQ0 : Oper := { dst := some 244, op := Op.binOp BinOp.lss 3 (Operand.tmp 243) (Operand.const (Value.int IntKind.i64 8)) 3, type := 4, pos := "outright.go:142", after := #[{ on := 0, ground := Ground.data }], guard := none }
def oPQ1 : Oper := { dst := some 208, op := Op.call { callee := Callee.builtin Builtin.len, args := #[Operand.tmp 207], argTypes := #[40] }, type := 3, pos := "outright.go:134", after := #[{ on := 1, ground := Ground.data }], guard := none }
def oPQ2 : Oper := { dst := some 209, op := Op.binOp BinOp.lss 3 (Operand.tmp 206) (Operand.tmp 208) 3, type := 4, pos := "outright.go:134", after := #[{ on := 0, ground := Ground.data }, { on := 2, ground := Ground.data }], guard := none }
def oPQ3 : Oper := { dst := some 215, op := Op.call { callee := Callee.builtin Builtin.len, args := #[Operand.tmp 214], argTypes := #[40] }, type := 3, pos := "outright.go:136", after := #[{ on := 1, ground := Ground.data }], guard := none }
def oPQ4 : Oper := { dst := some 216, op := Op.binOp BinOp.lss 3 (Operand.tmp 213) (Operand.tmp 215) 3, type := 4, pos := "outright.go:136", after := #[{ on := 0, ground := Ground.data }, { on := 2, ground := Ground.data }], guard := none }
def oPQ5 : Oper := { dst := some 219, op := Op.indexAddr 40 (Operand.tmp 217) (Operand.tmp 218), type := 0, pos := "outright.go:137", after := #[{ on := 0, ground := Ground.data }, { on := 1, ground := Ground.data }], guard := none }
def oPQ6 : Oper := { dst := some 220, op := Op.load 9 (Operand.tmp 219), type := 9, pos := "outright.go:137", after := #[{ on := 2, ground := Ground.data }], guard := none }
def oPQ7 : Oper := { dst := some 223, op := Op.indexAddr 40 (Operand.tmp 221) (Operand.tmp 222), type := 0, pos := "outright.go:139", after := #[{ on := 0, ground := Ground.data }, { on := 1, ground := Ground.data }], guard := none }
def oPQ8 : Oper := { dst := some 224, op := Op.load 9 (Operand.tmp 223), type := 9, pos := "outright.go:139", after := #[{ on := 2, ground := Ground.data }], guard := none }
def oPQ9 : Oper := { dst := some 225, op := Op.call { callee := Callee.builtin Builtin.len, args := #[Operand.tmp 224], argTypes := #[9] }, type := 3, pos := "outright.go:139", after := #[{ on := 3, ground := Ground.data }], guard := none }
def oPQ10 : Oper := { dst := some 226, op := Op.binOp BinOp.neq 3 (Operand.tmp 225) (Operand.const (Value.int IntKind.i64 1024)) 3, type := 4, pos := "outright.go:139", after := #[{ on := 4, ground := Ground.data }], guard := none }
def oPQ11 : Oper := { dst := some 230, op := Op.indexAddr 50 (Operand.tmp 228) (Operand.tmp 229), type := 0, pos := "outright.go:139", after := #[{ on := 7, ground := Ground.data }, { on := 8, ground := Ground.data }, { on := 6, ground := Ground.guard }], guard := some (6, false) }
def oPQ12 : Oper := { dst := some 231, op := Op.load 40 (Operand.tmp 230), type := 40, pos := "outright.go:139", after := #[{ on := 9, ground := Ground.data }, { on := 6, ground := Ground.guard }], guard := some (6, false) }
def oPQ13 : Oper := { dst := some 232, op := Op.call { callee := Callee.builtin Builtin.len, args := #[Operand.tmp 231], argTypes := #[40] }, type := 3, pos := "outright.go:139", after := #[{ on := 10, ground := Ground.data }, { on := 6, ground := Ground.guard }], guard := some (6, false) }
def oPQ14 : Oper := { dst := some 233, op := Op.binOp BinOp.eql 3 (Operand.tmp 232) (Operand.const (Value.int IntKind.i64 0)) 3, type := 4, pos := "outright.go:139", after := #[{ on := 11, ground := Ground.data }, { on := 6, ground := Ground.guard }], guard := some (6, false) }
def oPQ15 : Oper := { dst := some 237, op := Op.indexAddr 40 (Operand.tmp 235) (Operand.tmp 236), type := 0, pos := "outright.go:139", after := #[{ on := 14, ground := Ground.data }, { on := 15, ground := Ground.data }, { on := 13, ground := Ground.guard }], guard := some (13, true) }
def oPQ16 : Oper := { dst := some 238, op := Op.load 9 (Operand.tmp 237), type := 9, pos := "outright.go:139", after := #[{ on := 16, ground := Ground.data }, { on := 13, ground := Ground.guard }], guard := some (13, true) }
def oPQ17 : Oper := { dst := some 240, op := Op.binOp BinOp.neq 9 (Operand.tmp 238) (Operand.tmp 239) 9, type := 4, pos := "outright.go:139", after := #[{ on := 17, ground := Ground.data }, { on := 18, ground := Ground.data }, { on := 13, ground := Ground.guard }], guard := some (13, true) }
def oPQ18 : Oper := { dst := some 241, op := Op.pick (Operand.tmp 234) (Operand.tmp 240) (Operand.const (Value.bool false)), type := 4, pos := "outright.go:139", after := #[{ on := 13, ground := Ground.data }, { on := 19, ground := Ground.data }, { on := 6, ground := Ground.guard }], guard := some (6, false) }
def oPQ19 : Oper := { dst := some 242, op := Op.pick (Operand.tmp 227) (Operand.const (Value.bool true)) (Operand.tmp 241), type := 4, pos := "outright.go:139", after := #[{ on := 6, ground := Ground.data }, { on := 20, ground := Ground.data }], guard := none }
def oPQ20 : Oper := { dst := some 211, op := Op.binOp BinOp.add 3 (Operand.tmp 210) (Operand.const (Value.int IntKind.i64 1)) 3, type := 3, pos := "outright.go:134", after := #[{ on := 0, ground := Ground.data }], guard := none }
structure IPQ (v5 v7 v8 v19 v22 v23 v24 : Value) (a : Act) : Prop where
  size : a.tmps.size = 274
  defers : a.defers = []
  s5 : a.eval (.tmp 5) = v5
  s7 : a.eval (.tmp 7) = v7
  s8 : a.eval (.tmp 8) = v8
  s19 : a.eval (.tmp 19) = v19
  s22 : a.eval (.tmp 22) = v22
  s23 : a.eval (.tmp 23) = v23
  s24 : a.eval (.tmp 24) = v24
theorem IPQ.keep {v5 v7 v8 v19 v22 v23 v24 u23 u24 : Value} {a0 a : Act} {env : List (Nat × Value)} (h : IPQ v5 v7 v8 v19 v22 v23 v24 a0) (f : Fe a0 env a) (h5 : look env 5 (a0.eval (.tmp 5)) = a0.eval (.tmp 5)) (h7 : look env 7 (a0.eval (.tmp 7)) = a0.eval (.tmp 7)) (h8 : look env 8 (a0.eval (.tmp 8)) = a0.eval (.tmp 8)) (h19 : look env 19 (a0.eval (.tmp 19)) = a0.eval (.tmp 19)) (h22 : look env 22 (a0.eval (.tmp 22)) = a0.eval (.tmp 22)) (h23 : a.eval (.tmp 23) = u23) (h24 : a.eval (.tmp 24) = u24) : IPQ v5 v7 v8 v19 v22 u23 u24 a :=
  ⟨f.size.trans h.size, f.defers.trans h.defers, ((f.at_ 5).trans h5).trans h.s5, ((f.at_ 7).trans h7).trans h.s7, ((f.at_ 8).trans h8).trans h.s8, ((f.at_ 19).trans h19).trans h.s19, ((f.at_ 22).trans h22).trans h.s22, h23, h24⟩
theorem pq5E {k : Nat} {v5 v7 v8 v19 v22 v23 v24 : Value} {Q : Exit → Act → World → Prop} (a0 : Act) (wr : World) (I0 : IPQ v5 v7 v8 v19 v22 v23 v24 a0) (h25 : a0.eval (.tmp 25) = .int .i64 (k : Int)) (hk : 8 ≤ k) (hQ : ∀ a, IPQ v5 v7 v8 v19 v22 v23 v24 a → Q (.exit 8) a wr) : cPL5.wp Try.prog Q a0 wr := by
  have hii : ¬ (k : Int) < 8 := by omega
  have hid : decide ((k : Int) < 8) = false := decide_eq_false hii
  clear hk
  have fa0_0 := Fe.refl a0
  unfold cPL5
  refine wp_seq (wp_seq ?_)
  refine wp_region_list ?_
  unfold rPL52
  refine fa0_0.move 243 (.int .i64 (k : Int)) _ (Or.inl rfl) rfl (lb_ I0.size) (wanted_none rfl) ((fa0_0.at_ 25).trans h25) (fun a0_1 fa0_1 => ?_)
  clear fa0_0
  have r_a0_2 : (execOp a0_1.eval oPQ0).run Try.prog (wr) = .ok (.value (.bool false)) (wr) := by
    unfold oPQ0
    have kc : ∀ v, a0_1.eval (.const v) = v := fun _ => rfl
    have e243 := (show a0_1.eval (.tmp 243) = .int .i64 (k : Int) from (fa0_1.at_ 243))
    clear fa0_1 hQ h25
    generalize a0_1.eval = ρ at *
    go_simp
  refine fa0_1.step 244 (.bool false) rfl (lb_ I0.size) (wanted_none rfl) r_a0_2 (fun a0_2 fa0_2 => ?_)
  clear r_a0_2
  clear fa0_1
  refine wpList_nil ?_
  change Code.wp _ _ _ _ _
  refine wp_cond_false (show a0_2.eval (.tmp 244) = .bool false from (fa0_2.at_ 244)) (wp_exit ?_)
  exact hQ a0_2 (I0.keep fa0_2 rfl rfl rfl rfl rfl (show a0_2.eval (.tmp 23) = v23 from ((fa0_2.at_ 23).trans I0.s23)) (show a0_2.eval (.tmp 24) = v24 from ((fa0_2.at_ 24).trans I0.s24)))
set_option maxRecDepth 100000 in
set_option maxHeartbeats 1000000 in
theorem pq5R {k p gi ni ic bw ny yc : Nat} {yo : Option Addr} {got old : ByteArray} {v5 v7 v22 : Value} {Q : Exit → Act → World → Prop} (hQp : ∀ c (a : Act) d v w, Q (.panic c) (a.put d v) w → Q (.panic c) a w) (a0 : Act) (wr : World) (I0 : IPQ v5 v7 (.slice (some ⟨bw, 0, none⟩) 8 8) (.slice (some ⟨gi, 0, none⟩) ni ic) v22 (.int .i64 (p : Int)) (.string old) a0) (h25 : a0.eval (.tmp 25) = .int .i64 (k : Int)) (hk : k < 8) (hp : p < ni) (hp8 : p < 8) (cx : wr.cell? ⟨gi, p, none⟩ = some (.string got)) (cy : wr.cell? ⟨bw, p, none⟩ = some (.slice yo ny yc))
    (hO : ∀ Z, Same wr Z → Calls Try.prog 20 #[.int .i64 (k : Int), .string got, .string old, .slice yo ny yc] Z fun e w' => e = .returned (.bool true) ∧ w' = Z)
    (hQ : ∀ a W, IPQ v5 v7 (.slice (some ⟨bw, 0, none⟩) 8 8) (.slice (some ⟨gi, 0, none⟩) ni ic) v22 (.int .i64 (p : Int)) (.string old) a → a.eval (.tmp 25) = .int .i64 ((k : Int) + 1) → Same wr W → Q .normal a W) : cPL5.wp Try.prog Q a0 wr := by
  have hii : (k : Int) < 8 := by omega
  have hpi : (p : Int) < (ni : Int) := by omega
  have hpj : (p : Int) < 8 := by omega
  have w1 : IntKind.i64.wrap ((k : Int) + 1) = (k : Int) + 1 := by rw [IntKind.wrap_i64]; omega
  have fa0_0 := Fe.refl a0
  unfold cPL5
  refine wp_seq (wp_seq ?_)
  refine wp_region_list ?_
  unfold rPL52
  refine fa0_0.move 243 (.int .i64 (k : Int)) _ (Or.inl rfl) rfl (lb_ I0.size) (wanted_none rfl) ((fa0_0.at_ 25).trans h25) (fun a0_1 fa0_1 => ?_)
  clear fa0_0
  have r_a0_2 : (execOp a0_1.eval oPQ0).run Try.prog (wr) = .ok (.value (.bool true)) (wr) := by
    unfold oPQ0
    have kc : ∀ v, a0_1.eval (.const v) = v := fun _ => rfl
    have e243 := (show a0_1.eval (.tmp 243) = .int .i64 (k : Int) from (fa0_1.at_ 243))
    clear fa0_1 hQ h25 hO
    generalize a0_1.eval = ρ at *
    go_simp
  refine fa0_1.step 244 (.bool true) rfl (lb_ I0.size) (wanted_none rfl) r_a0_2 (fun a0_2 fa0_2 => ?_)
  clear r_a0_2
  clear fa0_1
  refine wpList_nil ?_
  change Code.wp _ _ _ _ _
  refine wp_cond_true (show a0_2.eval (.tmp 244) = .bool true from (fa0_2.at_ 244)) (wp_skip ?_)
  change Code.wp _ _ _ _ _
  refine wp_seq (wp_block (wp_seq ?_))
  have dd : Same wr wr.drew := (Fr.refl (fun _ => False) wr).drew
  have hOd := hO wr.drew dd
  refine wp_region_held_drew (ops := rPL54) (S := fun Z => Same wr Z) (by kernel_rfl) (dd) (fun hS2 => ?_)
  refine fa0_2.takeMove 0 247 (.int .i64 (k : Int)) _ (Or.inl rfl) rfl (by kernel_rfl) (by kernel_rfl) (by kernel_rfl) (fun _ _ _ h => hQp _ _ _ _ _ h) rfl (lb_ I0.size) (wanted_none rfl) ((fa0_2.at_ 25).trans h25) hS2 (fun a0_3 fa0_3 => ?_)
  clear fa0_2
  refine fa0_3.takeMove 1 248 (.slice (some ⟨gi, 0, none⟩) ni ic) _ (Or.inl rfl) rfl (by kernel_rfl) (by kernel_rfl) (by kernel_rfl) (fun _ _ _ h => hQp _ _ _ _ _ h) rfl (lb_ I0.size) (wanted_none rfl) ((fa0_3.at_ 19).trans I0.s19) hS2 (fun a0_4 fa0_4 => ?_)
  clear fa0_3
  refine fa0_4.takeMove 2 249 (.int .i64 (p : Int)) _ (Or.inl rfl) rfl (by kernel_rfl) (by kernel_rfl) (by kernel_rfl) (fun _ _ _ h => hQp _ _ _ _ _ h) rfl (lb_ I0.size) (wanted_none rfl) ((fa0_4.at_ 23).trans I0.s23) hS2 (fun a0_5 fa0_5 => ?_)
  clear fa0_4
  have r_a0_6 : ∀ Z, (fun Z => Same wr Z) Z → (execOp a0_5.eval { dst := some 250, op := Op.indexAddr 40 (Operand.tmp 248) (Operand.tmp 249), type := 0, pos := "outright.go:143", after := #[{ on := 1, ground := Ground.data }, { on := 2, ground := Ground.data }], guard := none }).run Try.prog Z = .ok (.value (.pointer (some ⟨gi, p, none⟩))) Z := fun Z hZ => by
    have e248 := (show a0_5.eval (.tmp 248) = .slice (some ⟨gi, 0, none⟩) ni ic from (fa0_5.at_ 248))
    have e249 := (show a0_5.eval (.tmp 249) = .int .i64 (p : Int) from (fa0_5.at_ 249))
    clear fa0_5 hQ h25 hO hOd
    generalize a0_5.eval = ρ at *
    go_simp
  refine fa0_5.take 3 250 (.pointer (some ⟨gi, p, none⟩)) rfl (by kernel_rfl) (by kernel_rfl) (by kernel_rfl) (fun _ _ _ h => hQp _ _ _ _ _ h) rfl (lb_ I0.size) (wanted_none rfl) r_a0_6 hS2 (fun a0_6 fa0_6 => ?_)
  clear r_a0_6
  clear fa0_5
  have r_a0_7 : ∀ Z, (fun Z => Same wr Z) Z → (execOp a0_6.eval { dst := some 251, op := Op.load 9 (Operand.tmp 250), type := 9, pos := "outright.go:143", after := #[{ on := 3, ground := Ground.data }], guard := none }).run Try.prog Z = .ok (.value (.string got)) Z := fun Z hZ => by
    have z1 := hZ.keep cx
    have z2 := hZ.keep cy
    have e250 := (show a0_6.eval (.tmp 250) = .pointer (some ⟨gi, p, none⟩) from (fa0_6.at_ 250))
    clear fa0_6 hQ h25 hO hOd
    generalize a0_6.eval = ρ at *
    go_simp
  refine fa0_6.take 4 251 (.string got) rfl (by kernel_rfl) (by kernel_rfl) (by kernel_rfl) (fun _ _ _ h => hQp _ _ _ _ _ h) rfl (lb_ I0.size) (wanted_none rfl) r_a0_7 hS2 (fun a0_7 fa0_7 => ?_)
  clear r_a0_7
  clear fa0_6
  refine fa0_7.takeMove 5 252 (.string old) _ (Or.inl rfl) rfl (by kernel_rfl) (by kernel_rfl) (by kernel_rfl) (fun _ _ _ h => hQp _ _ _ _ _ h) rfl (lb_ I0.size) (wanted_none rfl) ((fa0_7.at_ 24).trans I0.s24) hS2 (fun a0_8 fa0_8 => ?_)
  clear fa0_7
  refine fa0_8.takeMove 6 253 (.slice (some ⟨bw, 0, none⟩) 8 8) _ (Or.inl rfl) rfl (by kernel_rfl) (by kernel_rfl) (by kernel_rfl) (fun _ _ _ h => hQp _ _ _ _ _ h) rfl (lb_ I0.size) (wanted_none rfl) ((fa0_8.at_ 8).trans I0.s8) hS2 (fun a0_9 fa0_9 => ?_)
  clear fa0_8
  refine fa0_9.takeMove 7 254 (.int .i64 (p : Int)) _ (Or.inl rfl) rfl (by kernel_rfl) (by kernel_rfl) (by kernel_rfl) (fun _ _ _ h => hQp _ _ _ _ _ h) rfl (lb_ I0.size) (wanted_none rfl) ((fa0_9.at_ 23).trans I0.s23) hS2 (fun a0_10 fa0_10 => ?_)
  clear fa0_9
  have r_a0_11 : ∀ Z, (fun Z => Same wr Z) Z → (execOp a0_10.eval { dst := some 255, op := Op.indexAddr 50 (Operand.tmp 253) (Operand.tmp 254), type := 0, pos := "outright.go:143", after := #[{ on := 6, ground := Ground.data }, { on := 7, ground := Ground.data }], guard := none }).run Try.prog Z = .ok (.value (.pointer (some ⟨bw, p, none⟩))) Z := fun Z hZ => by
    have e253 := (show a0_10.eval (.tmp 253) = .slice (some ⟨bw, 0, none⟩) 8 8 from (fa0_10.at_ 253))
    have e254 := (show a0_10.eval (.tmp 254) = .int .i64 (p : Int) from (fa0_10.at_ 254))
    clear fa0_10 hQ h25 hO hOd
    generalize a0_10.eval = ρ at *
    go_simp
  refine fa0_10.take 8 255 (.pointer (some ⟨bw, p, none⟩)) rfl (by kernel_rfl) (by kernel_rfl) (by kernel_rfl) (fun _ _ _ h => hQp _ _ _ _ _ h) rfl (lb_ I0.size) (wanted_none rfl) r_a0_11 hS2 (fun a0_11 fa0_11 => ?_)
  clear r_a0_11
  clear fa0_10
  have r_a0_12 : ∀ Z, (fun Z => Same wr Z) Z → (execOp a0_11.eval { dst := some 256, op := Op.load 40 (Operand.tmp 255), type := 40, pos := "outright.go:143", after := #[{ on := 8, ground := Ground.data }], guard := none }).run Try.prog Z = .ok (.value (.slice yo ny yc)) Z := fun Z hZ => by
    have z1 := hZ.keep cx
    have z2 := hZ.keep cy
    have e255 := (show a0_11.eval (.tmp 255) = .pointer (some ⟨bw, p, none⟩) from (fa0_11.at_ 255))
    clear fa0_11 hQ h25 hO hOd
    generalize a0_11.eval = ρ at *
    go_simp
  refine fa0_11.take 9 256 (.slice yo ny yc) rfl (by kernel_rfl) (by kernel_rfl) (by kernel_rfl) (fun _ _ _ h => hQp _ _ _ _ _ h) rfl (lb_ I0.size) (wanted_none rfl) r_a0_12 hS2 (fun a0_12 fa0_12 => ?_)
  clear r_a0_12
  clear fa0_11
  have r_a0_13 : (execOp a0_12.eval { dst := some 257, op := Op.call { callee := Callee.value (Operand.func 20), args := #[Operand.tmp 247, Operand.tmp 251, Operand.tmp 252, Operand.tmp 256], argTypes := #[3, 9, 9, 40] }, type := 4, pos := "outright.go:143", after := #[{ on := 0, ground := Ground.data }, { on := 4, ground := Ground.data }, { on := 5, ground := Ground.data }, { on := 9, ground := Ground.data }], guard := none }).run Try.prog (wr.drew) = .ok (.enter 20 #[.int .i64 (k : Int), .string got, .string old, .slice yo ny yc]) (wr.drew) := by
    have kf : ∀ f, a0_12.eval (.func f) = .func (.func f) #[] #[] := fun _ => rfl
    have e247 := (show a0_12.eval (.tmp 247) = .int .i64 (k : Int) from (fa0_12.at_ 247))
    have e251 := (show a0_12.eval (.tmp 251) = .string got from (fa0_12.at_ 251))
    have e252 := (show a0_12.eval (.tmp 252) = .string old from (fa0_12.at_ 252))
    have e256 := (show a0_12.eval (.tmp 256) = .slice yo ny yc from (fa0_12.at_ 256))
    clear fa0_12 hQ h25 hO hOd
    generalize a0_12.eval = ρ at *
    go_simp
  refine fa0_12.oneCall 10 257 (by kernel_rfl) rfl rfl (lb_ I0.size) (wanted_none rfl) r_a0_13 (hOd) (fun e w1 hR => ?_)
  obtain ⟨rfl, hw1⟩ := hR
  clear r_a0_13
  have s1 : Same wr w1 := by rw [hw1]; exact dd
  clear hw1
  have hS13 : (fun Z => Same wr Z) w1 := s1
  refine ⟨_, rfl, hS13, fun a0_13 fa0_13 => ?_⟩
  clear fa0_12
  have r_a0_14 : ∀ Z, (fun Z => Same wr Z) Z → (execOp a0_13.eval { dst := some 258, op := Op.unOp UnOp.not 4 (Operand.tmp 257), type := 4, pos := "outright.go:143", after := #[{ on := 10, ground := Ground.data }], guard := none }).run Try.prog Z = .ok (.value (.bool false)) Z := fun Z hZ => by
    have e257 := (show a0_13.eval (.tmp 257) = .bool true from (fa0_13.at_ 257))
    clear fa0_13 hQ h25 hO hOd
    generalize a0_13.eval = ρ at *
    go_simp
  refine fa0_13.take 11 258 (.bool false) rfl (by kernel_rfl) (by kernel_rfl) (by kernel_rfl) (fun _ _ _ h => hQp _ _ _ _ _ h) rfl (lb_ I0.size) (wanted_none rfl) r_a0_14 hS13 (fun a0_14 fa0_14 => ?_)
  clear r_a0_14
  clear fa0_13
  refine wpAnyH_done (by kernel_rfl) ?_ _
  change Code.wp _ _ _ _ _
  refine wp_cond_false (show a0_14.eval (.tmp 258) = .bool false from (fa0_14.at_ 258)) (wp_skip ?_)
  change Code.wp _ _ _ _ _
  refine wp_region_list ?_
  unfold rPL53
  refine fa0_14.move 245 (.int .i64 (k : Int)) _ (Or.inl rfl) rfl (lb_ I0.size) (wanted_none rfl) ((fa0_14.at_ 25).trans h25) (fun a0_15 fa0_15 => ?_)
  clear fa0_14
  have r_a0_16 : (execOp a0_15.eval { dst := some 246, op := Op.binOp BinOp.add 3 (Operand.tmp 245) (Operand.const (Value.int IntKind.i64 1)) 3, type := 3, pos := "outright.go:142", after := #[{ on := 0, ground := Ground.data }], guard := none }).run Try.prog (w1) = .ok (.value (.int .i64 ((k : Int) + 1))) (w1) := by
    have kc : ∀ v, a0_15.eval (.const v) = v := fun _ => rfl
    have e245 := (show a0_15.eval (.tmp 245) = .int .i64 (k : Int) from (fa0_15.at_ 245))
    clear fa0_15 hQ h25 hO
    generalize a0_15.eval = ρ at *
    go_simp
  refine fa0_15.step 246 (.int .i64 ((k : Int) + 1)) rfl (lb_ I0.size) (wanted_none rfl) r_a0_16 (fun a0_16 fa0_16 => ?_)
  clear r_a0_16
  clear fa0_15
  refine fa0_16.move 25 (.int .i64 ((k : Int) + 1)) _ (Or.inr rfl) rfl (lb_ I0.size) (wanted_none rfl) (fa0_16.at_ 246) (fun a0_17 fa0_17 => ?_)
  clear fa0_16
  refine wpList_nil ?_
  exact hQ a0_17 w1 (I0.keep fa0_17 rfl rfl rfl rfl rfl (show a0_17.eval (.tmp 23) = .int .i64 (p : Int) from ((fa0_17.at_ 23).trans I0.s23)) (show a0_17.eval (.tmp 24) = .string old from ((fa0_17.at_ 24).trans I0.s24))) (show a0_17.eval (.tmp 25) = .int .i64 ((k : Int) + 1) from (fa0_17.at_ 25)) s1
theorem pq5L {p gi ni ic bw ny yc : Nat} {yo : Option Addr} {got old : ByteArray} {v5 v7 v22 : Value} {Q : Exit → Act → World → Prop} (hQp : ∀ c (a : Act) d v w, Q (.panic c) (a.put d v) w → Q (.panic c) a w) (a0 : Act) (w : World) (I0 : IPQ v5 v7 (.slice (some ⟨bw, 0, none⟩) 8 8) (.slice (some ⟨gi, 0, none⟩) ni ic) v22 (.int .i64 (p : Int)) (.string old) a0) (h25 : a0.eval (.tmp 25) = .int .i64 ((0 : Nat) : Int)) (hp : p < ni) (hp8 : p < 8) (cx : w.cell? ⟨gi, p, none⟩ = some (.string got)) (cy : w.cell? ⟨bw, p, none⟩ = some (.slice yo ny yc))
    (hO : ∀ k : Nat, k < 8 → ∀ Z, Same w Z → Calls Try.prog 20 #[.int .i64 (k : Int), .string got, .string old, .slice yo ny yc] Z fun e w' => e = .returned (.bool true) ∧ w' = Z)
    (hQ : ∀ a W, IPQ v5 v7 (.slice (some ⟨bw, 0, none⟩) 8 8) (.slice (some ⟨gi, 0, none⟩) ni ic) v22 (.int .i64 (p : Int)) (.string old) a → Same w W → Q (.exit 8) a W) : (Code.loop cPL5).wp Try.prog Q a0 w := by
  refine wp_loop (fun a W => IPQ v5 v7 (.slice (some ⟨bw, 0, none⟩) 8 8) (.slice (some ⟨gi, 0, none⟩) ni ic) v22 (.int .i64 (p : Int)) (.string old) a ∧ ∃ k : Nat, k ≤ 8 ∧ a.eval (.tmp 25) = .int .i64 (k : Int) ∧ Same w W) (fun a _ => 8 - kOf a 25) ⟨I0, 0, by decide, h25, Fr.refl _ _⟩ ?_
  rintro a W ⟨I1, k, hk, g5, s1⟩
  by_cases hgo : k < 8
  · refine pq5R (Q := Exit.then _ Q) hQp a W I1 g5 hgo hp hp8 (s1.keep cx) (s1.keep cy) (fun Z sZ => hO k hgo Z (s1.trans sZ)) (fun a' W3 i3 h1 s3 => ?_)
    have h4 : a'.eval (.tmp 25) = .int .i64 ((k + 1 : Nat) : Int) := h1
    refine ⟨⟨i3, k + 1, hgo, h4, s1.trans s3⟩, ?_⟩
    show 8 - kOf a' 25 < 8 - kOf a 25
    rw [kOf_eq h4, kOf_eq g5]
    omega
  · exact pq5E a W I1 g5 (by omega) (fun a' i2 => hQ a' W i2 s1)
theorem pq4E {p ni ic : Nat} {ia : Option Addr} {v5 v7 v8 v22 v24 : Value} {Q : Exit → Act → World → Prop} (a0 : Act) (wr : World) (I0 : IPQ v5 v7 v8 (.slice ia ni ic) v22 (.int .i64 (p : Int)) v24 a0) (hp : ni ≤ p) (hQ : ∀ a, IPQ v5 v7 v8 (.slice ia ni ic) v22 (.int .i64 (p : Int)) v24 a → Q (.exit 6) a wr) : cPL4.wp Try.prog Q a0 wr := by
  have h23 := I0.s23
  have hii : ¬ (p : Int) < (ni : Int) := by omega
  have hid : decide ((p : Int) < (ni : Int)) = false := decide_eq_false hii
  clear hp
  have fa0_0 := Fe.refl a0
  unfold cPL4
  refine wp_seq (wp_seq ?_)
  refine wp_region_list ?_
  unfold rPL44
  refine fa0_0.move 206 (.int .i64 (p : Int)) _ (Or.inl rfl) rfl (lb_ I0.size) (wanted_none rfl) ((fa0_0.at_ 23).trans h23) (fun a0_1 fa0_1 => ?_)
  clear fa0_0
  refine fa0_1.move 207 (.slice ia ni ic) _ (Or.inl rfl) rfl (lb_ I0.size) (wanted_none rfl) ((fa0_1.at_ 19).trans I0.s19) (fun a0_2 fa0_2 => ?_)
  clear fa0_1
  have r_a0_3 : (execOp a0_2.eval oPQ1).run Try.prog (wr) = .ok (.value (.int .i64 (ni : Int))) (wr) := by
    unfold oPQ1
    have e207 := (show a0_2.eval (.tmp 207) = .slice ia ni ic from (fa0_2.at_ 207))
    clear fa0_2 hQ h23
    generalize a0_2.eval = ρ at *
    go_simp
  refine fa0_2.step 208 (.int .i64 (ni : Int)) rfl (lb_ I0.size) (wanted_none rfl) r_a0_3 (fun a0_3 fa0_3 => ?_)
  clear r_a0_3
  clear fa0_2
  have r_a0_4 : (execOp a0_3.eval oPQ2).run Try.prog (wr) = .ok (.value (.bool false)) (wr) := by
    unfold oPQ2
    have e206 := (show a0_3.eval (.tmp 206) = .int .i64 (p : Int) from (fa0_3.at_ 206))
    have e208 := (show a0_3.eval (.tmp 208) = .int .i64 (ni : Int) from (fa0_3.at_ 208))
    clear fa0_3 hQ h23
    generalize a0_3.eval = ρ at *
    go_simp
  refine fa0_3.step 209 (.bool false) rfl (lb_ I0.size) (wanted_none rfl) r_a0_4 (fun a0_4 fa0_4 => ?_)
  clear r_a0_4
  clear fa0_3
  refine wpList_nil ?_
  change Code.wp _ _ _ _ _
  refine wp_cond_false (show a0_4.eval (.tmp 209) = .bool false from (fa0_4.at_ 209)) (wp_exit ?_)
  exact hQ a0_4 (I0.keep fa0_4 rfl rfl rfl rfl rfl (show a0_4.eval (.tmp 23) = .int .i64 (p : Int) from ((fa0_4.at_ 23).trans h23)) (show a0_4.eval (.tmp 24) = v24 from ((fa0_4.at_ 24).trans I0.s24)))
set_option maxRecDepth 100000 in
set_option maxHeartbeats 2000000 in
theorem pq4oe {p gi ni ic bw yc ns sc gs : Nat} {yo : Option Addr} {old blank : ByteArray} {v5 v24 : Value} {Q : Exit → Act → World → Prop} (hQp : ∀ c (a : Act) d v w, Q (.panic c) (a.put d v) w → Q (.panic c) a w) (a0 : Act) (wr : World) (I0 : IPQ v5 (.slice (some ⟨gs, 0, none⟩) ns sc) (.slice (some ⟨bw, 0, none⟩) 8 8) (.slice (some ⟨gi, 0, none⟩) ni ic) (.string blank) (.int .i64 (p : Int)) v24 a0) (hp : p < ni) (hp8 : p < 8) (cx : wr.cell? ⟨gi, p, none⟩ = some (.string old)) (cy : wr.cell? ⟨bw, p, none⟩ = some (.slice yo 0 yc)) (hg : old.size = 1024) (hps : p < ns) (cz : wr.cell? ⟨gs, p, none⟩ = some (.string old))
    (hO : ∀ k : Nat, k < 8 → ∀ Z, Same wr Z → Calls Try.prog 20 #[.int .i64 (k : Int), .string old, .string old, .slice yo 0 yc] Z fun e w' => e = .returned (.bool true) ∧ w' = Z)
    (hQ : ∀ a W u24, IPQ v5 (.slice (some ⟨gs, 0, none⟩) ns sc) (.slice (some ⟨bw, 0, none⟩) 8 8) (.slice (some ⟨gi, 0, none⟩) ni ic) (.string blank) (.int .i64 ((p : Int) + 1)) (u24) a → Same wr W → Q .normal a W) : cPL4.wp Try.prog Q a0 wr := by
  have hpi : (p : Int) < (ni : Int) := by omega
  have hpj : (p : Int) < 8 := by omega
  have hpn : (p : Int) < (ns : Int) := by omega
  have hgs : (old.size : Int) = 1024 := by omega
  have w1 : IntKind.i64.wrap ((p : Int) + 1) = (p : Int) + 1 := by rw [IntKind.wrap_i64]; omega
  clear hg
  have fa0_0 := Fe.refl a0
  unfold cPL4
  refine wp_seq (wp_seq ?_)
  refine wp_region_list ?_
  unfold rPL44
  refine fa0_0.move 206 (.int .i64 (p : Int)) _ (Or.inl rfl) rfl (lb_ I0.size) (wanted_none rfl) ((fa0_0.at_ 23).trans I0.s23) (fun a0_1 fa0_1 => ?_)
  clear fa0_0
  refine fa0_1.move 207 (.slice (some ⟨gi, 0, none⟩) ni ic) _ (Or.inl rfl) rfl (lb_ I0.size) (wanted_none rfl) ((fa0_1.at_ 19).trans I0.s19) (fun a0_2 fa0_2 => ?_)
  clear fa0_1
  have r_a0_3 : (execOp a0_2.eval oPQ1).run Try.prog (wr) = .ok (.value (.int .i64 (ni : Int))) (wr) := by
    unfold oPQ1
    have e207 := (show a0_2.eval (.tmp 207) = .slice (some ⟨gi, 0, none⟩) ni ic from (fa0_2.at_ 207))
    clear fa0_2 hQ hO
    generalize a0_2.eval = ρ at *
    go_simp
  refine fa0_2.step 208 (.int .i64 (ni : Int)) rfl (lb_ I0.size) (wanted_none rfl) r_a0_3 (fun a0_3 fa0_3 => ?_)
  clear r_a0_3
  clear fa0_2
  have r_a0_4 : (execOp a0_3.eval oPQ2).run Try.prog (wr) = .ok (.value (.bool true)) (wr) := by
    unfold oPQ2
    have e206 := (show a0_3.eval (.tmp 206) = .int .i64 (p : Int) from (fa0_3.at_ 206))
    have e208 := (show a0_3.eval (.tmp 208) = .int .i64 (ni : Int) from (fa0_3.at_ 208))
    clear fa0_3 hQ hO
    generalize a0_3.eval = ρ at *
    go_simp
  refine fa0_3.step 209 (.bool true) rfl (lb_ I0.size) (wanted_none rfl) r_a0_4 (fun a0_4 fa0_4 => ?_)
  clear r_a0_4
  clear fa0_3
  refine wpList_nil ?_
  change Code.wp _ _ _ _ _
  refine wp_cond_true (show a0_4.eval (.tmp 209) = .bool true from (fa0_4.at_ 209)) (wp_skip ?_)
  change Code.wp _ _ _ _ _
  refine wp_seq (wp_block (wp_seq ?_))
  refine wp_region_list ?_
  unfold rPL46
  refine fa0_4.move 212 (.string blank) _ (Or.inl rfl) rfl (lb_ I0.size) (wanted_none rfl) ((fa0_4.at_ 22).trans I0.s22) (fun a0_5 fa0_5 => ?_)
  clear fa0_4
  refine fa0_5.move 24 (.string blank) _ (Or.inr rfl) rfl (lb_ I0.size) (wanted_none rfl) (fa0_5.at_ 212) (fun a0_6 fa0_6 => ?_)
  clear fa0_5
  refine wpList_nil ?_
  change Code.wp _ _ _ _ _
  refine wp_seq (wp_seq ?_)
  refine wp_region_list ?_
  unfold rPL47
  refine fa0_6.move 213 (.int .i64 (p : Int)) _ (Or.inl rfl) rfl (lb_ I0.size) (wanted_none rfl) ((fa0_6.at_ 23).trans I0.s23) (fun a0_7 fa0_7 => ?_)
  clear fa0_6
  refine fa0_7.move 214 (.slice (some ⟨gs, 0, none⟩) ns sc) _ (Or.inl rfl) rfl (lb_ I0.size) (wanted_none rfl) ((fa0_7.at_ 7).trans I0.s7) (fun a0_8 fa0_8 => ?_)
  clear fa0_7
  have r_a0_9 : (execOp a0_8.eval oPQ3).run Try.prog (wr) = .ok (.value (.int .i64 (ns : Int))) (wr) := by
    unfold oPQ3
    have e214 := (show a0_8.eval (.tmp 214) = .slice (some ⟨gs, 0, none⟩) ns sc from (fa0_8.at_ 214))
    clear fa0_8 hQ hO
    generalize a0_8.eval = ρ at *
    go_simp
  refine fa0_8.step 215 (.int .i64 (ns : Int)) rfl (lb_ I0.size) (wanted_none rfl) r_a0_9 (fun a0_9 fa0_9 => ?_)
  clear r_a0_9
  clear fa0_8
  have r_a0_10 : (execOp a0_9.eval oPQ4).run Try.prog (wr) = .ok (.value (.bool true)) (wr) := by
    unfold oPQ4
    have e213 := (show a0_9.eval (.tmp 213) = .int .i64 (p : Int) from (fa0_9.at_ 213))
    have e215 := (show a0_9.eval (.tmp 215) = .int .i64 (ns : Int) from (fa0_9.at_ 215))
    clear fa0_9 hQ hO
    generalize a0_9.eval = ρ at *
    go_simp
  refine fa0_9.step 216 (.bool true) rfl (lb_ I0.size) (wanted_none rfl) r_a0_10 (fun a0_10 fa0_10 => ?_)
  clear r_a0_10
  clear fa0_9
  refine wpList_nil ?_
  change Code.wp _ _ _ _ _
  refine wp_cond_true (show a0_10.eval (.tmp 216) = .bool true from (fa0_10.at_ 216)) ?_
  refine wp_region_list ?_
  unfold rPL48
  refine fa0_10.move 217 (.slice (some ⟨gs, 0, none⟩) ns sc) _ (Or.inl rfl) rfl (lb_ I0.size) (wanted_none rfl) ((fa0_10.at_ 7).trans I0.s7) (fun a0_11 fa0_11 => ?_)
  clear fa0_10
  refine fa0_11.move 218 (.int .i64 (p : Int)) _ (Or.inl rfl) rfl (lb_ I0.size) (wanted_none rfl) ((fa0_11.at_ 23).trans I0.s23) (fun a0_12 fa0_12 => ?_)
  clear fa0_11
  have r_a0_13 : (execOp a0_12.eval oPQ5).run Try.prog (wr) = .ok (.value (.pointer (some ⟨gs, p, none⟩))) (wr) := by
    unfold oPQ5
    have e217 := (show a0_12.eval (.tmp 217) = .slice (some ⟨gs, 0, none⟩) ns sc from (fa0_12.at_ 217))
    have e218 := (show a0_12.eval (.tmp 218) = .int .i64 (p : Int) from (fa0_12.at_ 218))
    clear fa0_12 hQ hO
    generalize a0_12.eval = ρ at *
    go_simp
  refine fa0_12.step 219 (.pointer (some ⟨gs, p, none⟩)) rfl (lb_ I0.size) (wanted_none rfl) r_a0_13 (fun a0_13 fa0_13 => ?_)
  clear r_a0_13
  clear fa0_12
  have r_a0_14 : (execOp a0_13.eval oPQ6).run Try.prog (wr) = .ok (.value (.string old)) (wr) := by
    unfold oPQ6
    have e219 := (show a0_13.eval (.tmp 219) = .pointer (some ⟨gs, p, none⟩) from (fa0_13.at_ 219))
    clear fa0_13 hQ hO
    generalize a0_13.eval = ρ at *
    go_simp
  refine fa0_13.step 220 (.string old) rfl (lb_ I0.size) (wanted_none rfl) r_a0_14 (fun a0_14 fa0_14 => ?_)
  clear r_a0_14
  clear fa0_13
  refine fa0_14.move 24 (.string old) _ (Or.inr rfl) rfl (lb_ I0.size) (wanted_none rfl) (fa0_14.at_ 220) (fun a0_15 fa0_15 => ?_)
  clear fa0_14
  refine wpList_nil ?_
  change Code.wp _ _ _ _ _
  refine wp_seq (wp_seq ?_)
  refine wp_region_list ?_
  unfold rPL49
  refine fa0_15.move 221 (.slice (some ⟨gi, 0, none⟩) ni ic) _ (Or.inl rfl) rfl (lb_ I0.size) (wanted_none rfl) ((fa0_15.at_ 19).trans I0.s19) (fun a0_16 fa0_16 => ?_)
  clear fa0_15
  refine fa0_16.move 222 (.int .i64 (p : Int)) _ (Or.inl rfl) rfl (lb_ I0.size) (wanted_none rfl) ((fa0_16.at_ 23).trans I0.s23) (fun a0_17 fa0_17 => ?_)
  clear fa0_16
  have r_a0_18 : (execOp a0_17.eval oPQ7).run Try.prog (wr) = .ok (.value (.pointer (some ⟨gi, p, none⟩))) (wr) := by
    unfold oPQ7
    have e221 := (show a0_17.eval (.tmp 221) = .slice (some ⟨gi, 0, none⟩) ni ic from (fa0_17.at_ 221))
    have e222 := (show a0_17.eval (.tmp 222) = .int .i64 (p : Int) from (fa0_17.at_ 222))
    clear fa0_17 hQ hO
    generalize a0_17.eval = ρ at *
    go_simp
  refine fa0_17.step 223 (.pointer (some ⟨gi, p, none⟩)) rfl (lb_ I0.size) (wanted_none rfl) r_a0_18 (fun a0_18 fa0_18 => ?_)
  clear r_a0_18
  clear fa0_17
  have r_a0_19 : (execOp a0_18.eval oPQ8).run Try.prog (wr) = .ok (.value (.string old)) (wr) := by
    unfold oPQ8
    have e223 := (show a0_18.eval (.tmp 223) = .pointer (some ⟨gi, p, none⟩) from (fa0_18.at_ 223))
    clear fa0_18 hQ hO
    generalize a0_18.eval = ρ at *
    go_simp
  refine fa0_18.step 224 (.string old) rfl (lb_ I0.size) (wanted_none rfl) r_a0_19 (fun a0_19 fa0_19 => ?_)
  clear r_a0_19
  clear fa0_18
  have r_a0_20 : (execOp a0_19.eval oPQ9).run Try.prog (wr) = .ok (.value (.int .i64 1024)) (wr) := by
    unfold oPQ9
    have e224 := (show a0_19.eval (.tmp 224) = .string old from (fa0_19.at_ 224))
    clear fa0_19 hQ hO
    generalize a0_19.eval = ρ at *
    go_simp
  refine fa0_19.step 225 (.int .i64 1024) rfl (lb_ I0.size) (wanted_none rfl) r_a0_20 (fun a0_20 fa0_20 => ?_)
  clear r_a0_20
  clear fa0_19
  have r_a0_21 : (execOp a0_20.eval oPQ10).run Try.prog (wr) = .ok (.value (.bool false)) (wr) := by
    unfold oPQ10
    have kc : ∀ v, a0_20.eval (.const v) = v := fun _ => rfl
    have e225 := (show a0_20.eval (.tmp 225) = .int .i64 1024 from (fa0_20.at_ 225))
    clear fa0_20 hQ hO
    generalize a0_20.eval = ρ at *
    go_simp
  refine fa0_20.step 226 (.bool false) rfl (lb_ I0.size) (wanted_none rfl) r_a0_21 (fun a0_21 fa0_21 => ?_)
  clear r_a0_21
  clear fa0_20
  refine fa0_21.move 227 (.bool false) _ (Or.inl rfl) rfl (lb_ I0.size) (wanted_none rfl) (fa0_21.at_ 226) (fun a0_22 fa0_22 => ?_)
  clear fa0_21
  refine fa0_22.move 228 (.slice (some ⟨bw, 0, none⟩) 8 8) _ (Or.inl rfl) rfl (lb_ I0.size) ((wanted_at (t := 227) (c := false) (b := false) rfl rfl rfl (lb_ (fa0_22.size.trans I0.size)) (fa0_22.at_ 227)).trans (by rfl)) ((fa0_22.at_ 8).trans I0.s8) (fun a0_23 fa0_23 => ?_)
  clear fa0_22
  refine fa0_23.move 229 (.int .i64 (p : Int)) _ (Or.inl rfl) rfl (lb_ I0.size) ((wanted_at (t := 227) (c := false) (b := false) rfl rfl rfl (lb_ (fa0_23.size.trans I0.size)) (fa0_23.at_ 227)).trans (by rfl)) ((fa0_23.at_ 23).trans I0.s23) (fun a0_24 fa0_24 => ?_)
  clear fa0_23
  have r_a0_25 : (execOp a0_24.eval oPQ11).run Try.prog (wr) = .ok (.value (.pointer (some ⟨bw, p, none⟩))) (wr) := by
    unfold oPQ11
    have e228 := (show a0_24.eval (.tmp 228) = .slice (some ⟨bw, 0, none⟩) 8 8 from (fa0_24.at_ 228))
    have e229 := (show a0_24.eval (.tmp 229) = .int .i64 (p : Int) from (fa0_24.at_ 229))
    clear fa0_24 hQ hO
    generalize a0_24.eval = ρ at *
    go_simp
  refine fa0_24.step 230 (.pointer (some ⟨bw, p, none⟩)) rfl (lb_ I0.size) ((wanted_at (t := 227) (c := false) (b := false) rfl rfl rfl (lb_ (fa0_24.size.trans I0.size)) (fa0_24.at_ 227)).trans (by rfl)) r_a0_25 (fun a0_25 fa0_25 => ?_)
  clear r_a0_25
  clear fa0_24
  have r_a0_26 : (execOp a0_25.eval oPQ12).run Try.prog (wr) = .ok (.value (.slice yo 0 yc)) (wr) := by
    unfold oPQ12
    have e230 := (show a0_25.eval (.tmp 230) = .pointer (some ⟨bw, p, none⟩) from (fa0_25.at_ 230))
    clear fa0_25 hQ hO
    generalize a0_25.eval = ρ at *
    go_simp
  refine fa0_25.step 231 (.slice yo 0 yc) rfl (lb_ I0.size) ((wanted_at (t := 227) (c := false) (b := false) rfl rfl rfl (lb_ (fa0_25.size.trans I0.size)) (fa0_25.at_ 227)).trans (by rfl)) r_a0_26 (fun a0_26 fa0_26 => ?_)
  clear r_a0_26
  clear fa0_25
  have r_a0_27 : (execOp a0_26.eval oPQ13).run Try.prog (wr) = .ok (.value (.int .i64 0)) (wr) := by
    unfold oPQ13
    have e231 := (show a0_26.eval (.tmp 231) = .slice yo 0 yc from (fa0_26.at_ 231))
    clear fa0_26 hQ hO
    generalize a0_26.eval = ρ at *
    go_simp
  refine fa0_26.step 232 (.int .i64 0) rfl (lb_ I0.size) ((wanted_at (t := 227) (c := false) (b := false) rfl rfl rfl (lb_ (fa0_26.size.trans I0.size)) (fa0_26.at_ 227)).trans (by rfl)) r_a0_27 (fun a0_27 fa0_27 => ?_)
  clear r_a0_27
  clear fa0_26
  have r_a0_28 : (execOp a0_27.eval oPQ14).run Try.prog (wr) = .ok (.value (.bool true)) (wr) := by
    unfold oPQ14
    have kc : ∀ v, a0_27.eval (.const v) = v := fun _ => rfl
    have e232 := (show a0_27.eval (.tmp 232) = .int .i64 0 from (fa0_27.at_ 232))
    clear fa0_27 hQ hO
    generalize a0_27.eval = ρ at *
    go_simp
  refine fa0_27.step 233 (.bool true) rfl (lb_ I0.size) ((wanted_at (t := 227) (c := false) (b := false) rfl rfl rfl (lb_ (fa0_27.size.trans I0.size)) (fa0_27.at_ 227)).trans (by rfl)) r_a0_28 (fun a0_28 fa0_28 => ?_)
  clear r_a0_28
  clear fa0_27
  refine fa0_28.move 234 (.bool true) _ (Or.inl rfl) rfl (lb_ I0.size) ((wanted_at (t := 227) (c := false) (b := false) rfl rfl rfl (lb_ (fa0_28.size.trans I0.size)) (fa0_28.at_ 227)).trans (by rfl)) (fa0_28.at_ 233) (fun a0_29 fa0_29 => ?_)
  clear fa0_28
  refine fa0_29.move 235 (.slice (some ⟨gi, 0, none⟩) ni ic) _ (Or.inl rfl) rfl (lb_ I0.size) ((wanted_at (t := 234) (c := true) (b := true) rfl rfl rfl (lb_ (fa0_29.size.trans I0.size)) (fa0_29.at_ 234)).trans (by rfl)) ((fa0_29.at_ 19).trans I0.s19) (fun a0_30 fa0_30 => ?_)
  clear fa0_29
  refine fa0_30.move 236 (.int .i64 (p : Int)) _ (Or.inl rfl) rfl (lb_ I0.size) ((wanted_at (t := 234) (c := true) (b := true) rfl rfl rfl (lb_ (fa0_30.size.trans I0.size)) (fa0_30.at_ 234)).trans (by rfl)) ((fa0_30.at_ 23).trans I0.s23) (fun a0_31 fa0_31 => ?_)
  clear fa0_30
  have r_a0_32 : (execOp a0_31.eval oPQ15).run Try.prog (wr) = .ok (.value (.pointer (some ⟨gi, p, none⟩))) (wr) := by
    unfold oPQ15
    have e235 := (show a0_31.eval (.tmp 235) = .slice (some ⟨gi, 0, none⟩) ni ic from (fa0_31.at_ 235))
    have e236 := (show a0_31.eval (.tmp 236) = .int .i64 (p : Int) from (fa0_31.at_ 236))
    clear fa0_31 hQ hO
    generalize a0_31.eval = ρ at *
    go_simp
  refine fa0_31.step 237 (.pointer (some ⟨gi, p, none⟩)) rfl (lb_ I0.size) ((wanted_at (t := 234) (c := true) (b := true) rfl rfl rfl (lb_ (fa0_31.size.trans I0.size)) (fa0_31.at_ 234)).trans (by rfl)) r_a0_32 (fun a0_32 fa0_32 => ?_)
  clear r_a0_32
  clear fa0_31
  have r_a0_33 : (execOp a0_32.eval oPQ16).run Try.prog (wr) = .ok (.value (.string old)) (wr) := by
    unfold oPQ16
    have e237 := (show a0_32.eval (.tmp 237) = .pointer (some ⟨gi, p, none⟩) from (fa0_32.at_ 237))
    clear fa0_32 hQ hO
    generalize a0_32.eval = ρ at *
    go_simp
  refine fa0_32.step 238 (.string old) rfl (lb_ I0.size) ((wanted_at (t := 234) (c := true) (b := true) rfl rfl rfl (lb_ (fa0_32.size.trans I0.size)) (fa0_32.at_ 234)).trans (by rfl)) r_a0_33 (fun a0_33 fa0_33 => ?_)
  clear r_a0_33
  clear fa0_32
  refine fa0_33.move 239 (.string old) _ (Or.inl rfl) rfl (lb_ I0.size) ((wanted_at (t := 234) (c := true) (b := true) rfl rfl rfl (lb_ (fa0_33.size.trans I0.size)) (fa0_33.at_ 234)).trans (by rfl)) (fa0_33.at_ 24) (fun a0_34 fa0_34 => ?_)
  clear fa0_33
  have r_a0_35 : (execOp a0_34.eval oPQ17).run Try.prog (wr) = .ok (.value (.bool false)) (wr) := by
    unfold oPQ17
    have e238 := (show a0_34.eval (.tmp 238) = .string old from (fa0_34.at_ 238))
    have e239 := (show a0_34.eval (.tmp 239) = .string old from (fa0_34.at_ 239))
    clear fa0_34 hQ hO
    generalize a0_34.eval = ρ at *
    go_simp
  refine fa0_34.step 240 (.bool false) rfl (lb_ I0.size) ((wanted_at (t := 234) (c := true) (b := true) rfl rfl rfl (lb_ (fa0_34.size.trans I0.size)) (fa0_34.at_ 234)).trans (by rfl)) r_a0_35 (fun a0_35 fa0_35 => ?_)
  clear r_a0_35
  clear fa0_34
  have r_a0_36 : (execOp a0_35.eval oPQ18).run Try.prog (wr) = .ok (.value (.bool false)) (wr) := by
    unfold oPQ18
    have kc : ∀ v, a0_35.eval (.const v) = v := fun _ => rfl
    have e234 := (show a0_35.eval (.tmp 234) = .bool true from (fa0_35.at_ 234))
    have e240 := (show a0_35.eval (.tmp 240) = .bool false from (fa0_35.at_ 240))
    clear fa0_35 hQ hO
    generalize a0_35.eval = ρ at *
    go_simp
  refine fa0_35.step 241 (.bool false) rfl (lb_ I0.size) ((wanted_at (t := 227) (c := false) (b := false) rfl rfl rfl (lb_ (fa0_35.size.trans I0.size)) (fa0_35.at_ 227)).trans (by rfl)) r_a0_36 (fun a0_36 fa0_36 => ?_)
  clear r_a0_36
  clear fa0_35
  have r_a0_37 : (execOp a0_36.eval oPQ19).run Try.prog (wr) = .ok (.value (.bool false)) (wr) := by
    unfold oPQ19
    have kc : ∀ v, a0_36.eval (.const v) = v := fun _ => rfl
    have e227 := (show a0_36.eval (.tmp 227) = .bool false from (fa0_36.at_ 227))
    have e241 := (show a0_36.eval (.tmp 241) = .bool false from (fa0_36.at_ 241))
    clear fa0_36 hQ hO
    generalize a0_36.eval = ρ at *
    go_simp
  refine fa0_36.step 242 (.bool false) rfl (lb_ I0.size) (wanted_none rfl) r_a0_37 (fun a0_37 fa0_37 => ?_)
  clear r_a0_37
  clear fa0_36
  refine wpList_nil ?_
  change Code.wp _ _ _ _ _
  refine wp_cond_false (show a0_37.eval (.tmp 242) = .bool false from (fa0_37.at_ 242)) (wp_skip ?_)
  change Code.wp _ _ _ _ _
  refine wp_seq ?_
  refine wp_region_list ?_
  unfold rPL51
  refine fa0_37.move 25 (.int .i64 ((0 : Nat) : Int)) _ (Or.inr rfl) rfl (lb_ I0.size) (wanted_none rfl) rfl (fun a0_38 fa0_38 => ?_)
  clear fa0_37
  refine wpList_nil ?_
  change Code.wp _ _ _ _ _
  refine wp_block ?_
  refine pq5L (Q := Exit.inBlock 8 (Exit.inBlock 7 (Exit.then _ Q))) (yo := yo) (ny := 0) (yc := yc) (got := old) (old := old) (fun _ _ _ _ _ h => hQp _ _ _ _ _ h) a0_38 wr (I0.keep fa0_38 rfl rfl rfl rfl rfl (show a0_38.eval (.tmp 23) = .int .i64 (p : Int) from ((fa0_38.at_ 23).trans I0.s23)) (show a0_38.eval (.tmp 24) = .string old from (fa0_38.at_ 24))) (show a0_38.eval (.tmp 25) = .int .i64 ((0 : Nat) : Int) from (fa0_38.at_ 25)) hp hp8 cx cy hO (fun b1 W1 i1 s1 => ?_)
  change Code.wp _ _ _ _ _
  have fb1_0 := Fe.refl b1
  refine wp_region_list ?_
  unfold rPL45
  refine fb1_0.move 210 (.int .i64 (p : Int)) _ (Or.inl rfl) rfl (lb_ i1.size) (wanted_none rfl) ((fb1_0.at_ 23).trans i1.s23) (fun b1_1 fb1_1 => ?_)
  clear fb1_0
  have r_b1_2 : (execOp b1_1.eval oPQ20).run Try.prog (W1) = .ok (.value (.int .i64 ((p : Int) + 1))) (W1) := by
    unfold oPQ20
    have kc : ∀ v, b1_1.eval (.const v) = v := fun _ => rfl
    have e210 := (show b1_1.eval (.tmp 210) = .int .i64 (p : Int) from (fb1_1.at_ 210))
    clear fb1_1 hQ hO
    generalize b1_1.eval = ρ at *
    go_simp
  refine fb1_1.step 211 (.int .i64 ((p : Int) + 1)) rfl (lb_ i1.size) (wanted_none rfl) r_b1_2 (fun b1_2 fb1_2 => ?_)
  clear r_b1_2
  clear fb1_1
  refine fb1_2.move 23 (.int .i64 ((p : Int) + 1)) _ (Or.inr rfl) rfl (lb_ i1.size) (wanted_none rfl) (fb1_2.at_ 211) (fun b1_3 fb1_3 => ?_)
  clear fb1_2
  refine wpList_nil ?_
  exact hQ b1_3 W1 _ (i1.keep fb1_3 rfl rfl rfl rfl rfl (show b1_3.eval (.tmp 23) = .int .i64 ((p : Int) + 1) from (fb1_3.at_ 23)) (fb1_3.at_ 24 |>.trans i1.s24)) s1
set_option maxRecDepth 100000 in
set_option maxHeartbeats 2000000 in
theorem pq4on {p gi ni ic bw yc ns sc gs ny : Nat} {yo : Option Addr} {got old blank : ByteArray} {v5 v24 : Value} {Q : Exit → Act → World → Prop} (hQp : ∀ c (a : Act) d v w, Q (.panic c) (a.put d v) w → Q (.panic c) a w) (a0 : Act) (wr : World) (I0 : IPQ v5 (.slice (some ⟨gs, 0, none⟩) ns sc) (.slice (some ⟨bw, 0, none⟩) 8 8) (.slice (some ⟨gi, 0, none⟩) ni ic) (.string blank) (.int .i64 (p : Int)) v24 a0) (hp : p < ni) (hp8 : p < 8) (cx : wr.cell? ⟨gi, p, none⟩ = some (.string got)) (cy : wr.cell? ⟨bw, p, none⟩ = some (.slice yo ny yc)) (hg : got.size = 1024) (hps : p < ns) (cz : wr.cell? ⟨gs, p, none⟩ = some (.string old)) (hny : ¬ ny = 0)
    (hO : ∀ k : Nat, k < 8 → ∀ Z, Same wr Z → Calls Try.prog 20 #[.int .i64 (k : Int), .string got, .string old, .slice yo ny yc] Z fun e w' => e = .returned (.bool true) ∧ w' = Z)
    (hQ : ∀ a W u24, IPQ v5 (.slice (some ⟨gs, 0, none⟩) ns sc) (.slice (some ⟨bw, 0, none⟩) 8 8) (.slice (some ⟨gi, 0, none⟩) ni ic) (.string blank) (.int .i64 ((p : Int) + 1)) (u24) a → Same wr W → Q .normal a W) : cPL4.wp Try.prog Q a0 wr := by
  have hpi : (p : Int) < (ni : Int) := by omega
  have hpj : (p : Int) < 8 := by omega
  have hpn : (p : Int) < (ns : Int) := by omega
  have hgs : (got.size : Int) = 1024 := by omega
  have w1 : IntKind.i64.wrap ((p : Int) + 1) = (p : Int) + 1 := by rw [IntKind.wrap_i64]; omega
  clear hg
  have fa0_0 := Fe.refl a0
  unfold cPL4
  refine wp_seq (wp_seq ?_)
  refine wp_region_list ?_
  unfold rPL44
  refine fa0_0.move 206 (.int .i64 (p : Int)) _ (Or.inl rfl) rfl (lb_ I0.size) (wanted_none rfl) ((fa0_0.at_ 23).trans I0.s23) (fun a0_1 fa0_1 => ?_)
  clear fa0_0
  refine fa0_1.move 207 (.slice (some ⟨gi, 0, none⟩) ni ic) _ (Or.inl rfl) rfl (lb_ I0.size) (wanted_none rfl) ((fa0_1.at_ 19).trans I0.s19) (fun a0_2 fa0_2 => ?_)
  clear fa0_1
  have r_a0_3 : (execOp a0_2.eval oPQ1).run Try.prog (wr) = .ok (.value (.int .i64 (ni : Int))) (wr) := by
    unfold oPQ1
    have e207 := (show a0_2.eval (.tmp 207) = .slice (some ⟨gi, 0, none⟩) ni ic from (fa0_2.at_ 207))
    clear fa0_2 hQ hO
    generalize a0_2.eval = ρ at *
    go_simp
  refine fa0_2.step 208 (.int .i64 (ni : Int)) rfl (lb_ I0.size) (wanted_none rfl) r_a0_3 (fun a0_3 fa0_3 => ?_)
  clear r_a0_3
  clear fa0_2
  have r_a0_4 : (execOp a0_3.eval oPQ2).run Try.prog (wr) = .ok (.value (.bool true)) (wr) := by
    unfold oPQ2
    have e206 := (show a0_3.eval (.tmp 206) = .int .i64 (p : Int) from (fa0_3.at_ 206))
    have e208 := (show a0_3.eval (.tmp 208) = .int .i64 (ni : Int) from (fa0_3.at_ 208))
    clear fa0_3 hQ hO
    generalize a0_3.eval = ρ at *
    go_simp
  refine fa0_3.step 209 (.bool true) rfl (lb_ I0.size) (wanted_none rfl) r_a0_4 (fun a0_4 fa0_4 => ?_)
  clear r_a0_4
  clear fa0_3
  refine wpList_nil ?_
  change Code.wp _ _ _ _ _
  refine wp_cond_true (show a0_4.eval (.tmp 209) = .bool true from (fa0_4.at_ 209)) (wp_skip ?_)
  change Code.wp _ _ _ _ _
  refine wp_seq (wp_block (wp_seq ?_))
  refine wp_region_list ?_
  unfold rPL46
  refine fa0_4.move 212 (.string blank) _ (Or.inl rfl) rfl (lb_ I0.size) (wanted_none rfl) ((fa0_4.at_ 22).trans I0.s22) (fun a0_5 fa0_5 => ?_)
  clear fa0_4
  refine fa0_5.move 24 (.string blank) _ (Or.inr rfl) rfl (lb_ I0.size) (wanted_none rfl) (fa0_5.at_ 212) (fun a0_6 fa0_6 => ?_)
  clear fa0_5
  refine wpList_nil ?_
  change Code.wp _ _ _ _ _
  refine wp_seq (wp_seq ?_)
  refine wp_region_list ?_
  unfold rPL47
  refine fa0_6.move 213 (.int .i64 (p : Int)) _ (Or.inl rfl) rfl (lb_ I0.size) (wanted_none rfl) ((fa0_6.at_ 23).trans I0.s23) (fun a0_7 fa0_7 => ?_)
  clear fa0_6
  refine fa0_7.move 214 (.slice (some ⟨gs, 0, none⟩) ns sc) _ (Or.inl rfl) rfl (lb_ I0.size) (wanted_none rfl) ((fa0_7.at_ 7).trans I0.s7) (fun a0_8 fa0_8 => ?_)
  clear fa0_7
  have r_a0_9 : (execOp a0_8.eval oPQ3).run Try.prog (wr) = .ok (.value (.int .i64 (ns : Int))) (wr) := by
    unfold oPQ3
    have e214 := (show a0_8.eval (.tmp 214) = .slice (some ⟨gs, 0, none⟩) ns sc from (fa0_8.at_ 214))
    clear fa0_8 hQ hO
    generalize a0_8.eval = ρ at *
    go_simp
  refine fa0_8.step 215 (.int .i64 (ns : Int)) rfl (lb_ I0.size) (wanted_none rfl) r_a0_9 (fun a0_9 fa0_9 => ?_)
  clear r_a0_9
  clear fa0_8
  have r_a0_10 : (execOp a0_9.eval oPQ4).run Try.prog (wr) = .ok (.value (.bool true)) (wr) := by
    unfold oPQ4
    have e213 := (show a0_9.eval (.tmp 213) = .int .i64 (p : Int) from (fa0_9.at_ 213))
    have e215 := (show a0_9.eval (.tmp 215) = .int .i64 (ns : Int) from (fa0_9.at_ 215))
    clear fa0_9 hQ hO
    generalize a0_9.eval = ρ at *
    go_simp
  refine fa0_9.step 216 (.bool true) rfl (lb_ I0.size) (wanted_none rfl) r_a0_10 (fun a0_10 fa0_10 => ?_)
  clear r_a0_10
  clear fa0_9
  refine wpList_nil ?_
  change Code.wp _ _ _ _ _
  refine wp_cond_true (show a0_10.eval (.tmp 216) = .bool true from (fa0_10.at_ 216)) ?_
  refine wp_region_list ?_
  unfold rPL48
  refine fa0_10.move 217 (.slice (some ⟨gs, 0, none⟩) ns sc) _ (Or.inl rfl) rfl (lb_ I0.size) (wanted_none rfl) ((fa0_10.at_ 7).trans I0.s7) (fun a0_11 fa0_11 => ?_)
  clear fa0_10
  refine fa0_11.move 218 (.int .i64 (p : Int)) _ (Or.inl rfl) rfl (lb_ I0.size) (wanted_none rfl) ((fa0_11.at_ 23).trans I0.s23) (fun a0_12 fa0_12 => ?_)
  clear fa0_11
  have r_a0_13 : (execOp a0_12.eval oPQ5).run Try.prog (wr) = .ok (.value (.pointer (some ⟨gs, p, none⟩))) (wr) := by
    unfold oPQ5
    have e217 := (show a0_12.eval (.tmp 217) = .slice (some ⟨gs, 0, none⟩) ns sc from (fa0_12.at_ 217))
    have e218 := (show a0_12.eval (.tmp 218) = .int .i64 (p : Int) from (fa0_12.at_ 218))
    clear fa0_12 hQ hO
    generalize a0_12.eval = ρ at *
    go_simp
  refine fa0_12.step 219 (.pointer (some ⟨gs, p, none⟩)) rfl (lb_ I0.size) (wanted_none rfl) r_a0_13 (fun a0_13 fa0_13 => ?_)
  clear r_a0_13
  clear fa0_12
  have r_a0_14 : (execOp a0_13.eval oPQ6).run Try.prog (wr) = .ok (.value (.string old)) (wr) := by
    unfold oPQ6
    have e219 := (show a0_13.eval (.tmp 219) = .pointer (some ⟨gs, p, none⟩) from (fa0_13.at_ 219))
    clear fa0_13 hQ hO
    generalize a0_13.eval = ρ at *
    go_simp
  refine fa0_13.step 220 (.string old) rfl (lb_ I0.size) (wanted_none rfl) r_a0_14 (fun a0_14 fa0_14 => ?_)
  clear r_a0_14
  clear fa0_13
  refine fa0_14.move 24 (.string old) _ (Or.inr rfl) rfl (lb_ I0.size) (wanted_none rfl) (fa0_14.at_ 220) (fun a0_15 fa0_15 => ?_)
  clear fa0_14
  refine wpList_nil ?_
  change Code.wp _ _ _ _ _
  refine wp_seq (wp_seq ?_)
  refine wp_region_list ?_
  unfold rPL49
  refine fa0_15.move 221 (.slice (some ⟨gi, 0, none⟩) ni ic) _ (Or.inl rfl) rfl (lb_ I0.size) (wanted_none rfl) ((fa0_15.at_ 19).trans I0.s19) (fun a0_16 fa0_16 => ?_)
  clear fa0_15
  refine fa0_16.move 222 (.int .i64 (p : Int)) _ (Or.inl rfl) rfl (lb_ I0.size) (wanted_none rfl) ((fa0_16.at_ 23).trans I0.s23) (fun a0_17 fa0_17 => ?_)
  clear fa0_16
  have r_a0_18 : (execOp a0_17.eval oPQ7).run Try.prog (wr) = .ok (.value (.pointer (some ⟨gi, p, none⟩))) (wr) := by
    unfold oPQ7
    have e221 := (show a0_17.eval (.tmp 221) = .slice (some ⟨gi, 0, none⟩) ni ic from (fa0_17.at_ 221))
    have e222 := (show a0_17.eval (.tmp 222) = .int .i64 (p : Int) from (fa0_17.at_ 222))
    clear fa0_17 hQ hO
    generalize a0_17.eval = ρ at *
    go_simp
  refine fa0_17.step 223 (.pointer (some ⟨gi, p, none⟩)) rfl (lb_ I0.size) (wanted_none rfl) r_a0_18 (fun a0_18 fa0_18 => ?_)
  clear r_a0_18
  clear fa0_17
  have r_a0_19 : (execOp a0_18.eval oPQ8).run Try.prog (wr) = .ok (.value (.string got)) (wr) := by
    unfold oPQ8
    have e223 := (show a0_18.eval (.tmp 223) = .pointer (some ⟨gi, p, none⟩) from (fa0_18.at_ 223))
    clear fa0_18 hQ hO
    generalize a0_18.eval = ρ at *
    go_simp
  refine fa0_18.step 224 (.string got) rfl (lb_ I0.size) (wanted_none rfl) r_a0_19 (fun a0_19 fa0_19 => ?_)
  clear r_a0_19
  clear fa0_18
  have r_a0_20 : (execOp a0_19.eval oPQ9).run Try.prog (wr) = .ok (.value (.int .i64 1024)) (wr) := by
    unfold oPQ9
    have e224 := (show a0_19.eval (.tmp 224) = .string got from (fa0_19.at_ 224))
    clear fa0_19 hQ hO
    generalize a0_19.eval = ρ at *
    go_simp
  refine fa0_19.step 225 (.int .i64 1024) rfl (lb_ I0.size) (wanted_none rfl) r_a0_20 (fun a0_20 fa0_20 => ?_)
  clear r_a0_20
  clear fa0_19
  have r_a0_21 : (execOp a0_20.eval oPQ10).run Try.prog (wr) = .ok (.value (.bool false)) (wr) := by
    unfold oPQ10
    have kc : ∀ v, a0_20.eval (.const v) = v := fun _ => rfl
    have e225 := (show a0_20.eval (.tmp 225) = .int .i64 1024 from (fa0_20.at_ 225))
    clear fa0_20 hQ hO
    generalize a0_20.eval = ρ at *
    go_simp
  refine fa0_20.step 226 (.bool false) rfl (lb_ I0.size) (wanted_none rfl) r_a0_21 (fun a0_21 fa0_21 => ?_)
  clear r_a0_21
  clear fa0_20
  refine fa0_21.move 227 (.bool false) _ (Or.inl rfl) rfl (lb_ I0.size) (wanted_none rfl) (fa0_21.at_ 226) (fun a0_22 fa0_22 => ?_)
  clear fa0_21
  refine fa0_22.move 228 (.slice (some ⟨bw, 0, none⟩) 8 8) _ (Or.inl rfl) rfl (lb_ I0.size) ((wanted_at (t := 227) (c := false) (b := false) rfl rfl rfl (lb_ (fa0_22.size.trans I0.size)) (fa0_22.at_ 227)).trans (by rfl)) ((fa0_22.at_ 8).trans I0.s8) (fun a0_23 fa0_23 => ?_)
  clear fa0_22
  refine fa0_23.move 229 (.int .i64 (p : Int)) _ (Or.inl rfl) rfl (lb_ I0.size) ((wanted_at (t := 227) (c := false) (b := false) rfl rfl rfl (lb_ (fa0_23.size.trans I0.size)) (fa0_23.at_ 227)).trans (by rfl)) ((fa0_23.at_ 23).trans I0.s23) (fun a0_24 fa0_24 => ?_)
  clear fa0_23
  have r_a0_25 : (execOp a0_24.eval oPQ11).run Try.prog (wr) = .ok (.value (.pointer (some ⟨bw, p, none⟩))) (wr) := by
    unfold oPQ11
    have e228 := (show a0_24.eval (.tmp 228) = .slice (some ⟨bw, 0, none⟩) 8 8 from (fa0_24.at_ 228))
    have e229 := (show a0_24.eval (.tmp 229) = .int .i64 (p : Int) from (fa0_24.at_ 229))
    clear fa0_24 hQ hO
    generalize a0_24.eval = ρ at *
    go_simp
  refine fa0_24.step 230 (.pointer (some ⟨bw, p, none⟩)) rfl (lb_ I0.size) ((wanted_at (t := 227) (c := false) (b := false) rfl rfl rfl (lb_ (fa0_24.size.trans I0.size)) (fa0_24.at_ 227)).trans (by rfl)) r_a0_25 (fun a0_25 fa0_25 => ?_)
  clear r_a0_25
  clear fa0_24
  have r_a0_26 : (execOp a0_25.eval oPQ12).run Try.prog (wr) = .ok (.value (.slice yo ny yc)) (wr) := by
    unfold oPQ12
    have e230 := (show a0_25.eval (.tmp 230) = .pointer (some ⟨bw, p, none⟩) from (fa0_25.at_ 230))
    clear fa0_25 hQ hO
    generalize a0_25.eval = ρ at *
    go_simp
  refine fa0_25.step 231 (.slice yo ny yc) rfl (lb_ I0.size) ((wanted_at (t := 227) (c := false) (b := false) rfl rfl rfl (lb_ (fa0_25.size.trans I0.size)) (fa0_25.at_ 227)).trans (by rfl)) r_a0_26 (fun a0_26 fa0_26 => ?_)
  clear r_a0_26
  clear fa0_25
  have r_a0_27 : (execOp a0_26.eval oPQ13).run Try.prog (wr) = .ok (.value (.int .i64 (ny : Int))) (wr) := by
    unfold oPQ13
    have e231 := (show a0_26.eval (.tmp 231) = .slice yo ny yc from (fa0_26.at_ 231))
    clear fa0_26 hQ hO
    generalize a0_26.eval = ρ at *
    go_simp
  refine fa0_26.step 232 (.int .i64 (ny : Int)) rfl (lb_ I0.size) ((wanted_at (t := 227) (c := false) (b := false) rfl rfl rfl (lb_ (fa0_26.size.trans I0.size)) (fa0_26.at_ 227)).trans (by rfl)) r_a0_27 (fun a0_27 fa0_27 => ?_)
  clear r_a0_27
  clear fa0_26
  have r_a0_28 : (execOp a0_27.eval oPQ14).run Try.prog (wr) = .ok (.value (.bool false)) (wr) := by
    unfold oPQ14
    have kc : ∀ v, a0_27.eval (.const v) = v := fun _ => rfl
    have e232 := (show a0_27.eval (.tmp 232) = .int .i64 (ny : Int) from (fa0_27.at_ 232))
    clear fa0_27 hQ hO
    generalize a0_27.eval = ρ at *
    go_simp
  refine fa0_27.step 233 (.bool false) rfl (lb_ I0.size) ((wanted_at (t := 227) (c := false) (b := false) rfl rfl rfl (lb_ (fa0_27.size.trans I0.size)) (fa0_27.at_ 227)).trans (by rfl)) r_a0_28 (fun a0_28 fa0_28 => ?_)
  clear r_a0_28
  clear fa0_27
  refine fa0_28.move 234 (.bool false) _ (Or.inl rfl) rfl (lb_ I0.size) ((wanted_at (t := 227) (c := false) (b := false) rfl rfl rfl (lb_ (fa0_28.size.trans I0.size)) (fa0_28.at_ 227)).trans (by rfl)) (fa0_28.at_ 233) (fun a0_29 fa0_29 => ?_)
  clear fa0_28
  refine fa0_29.skip 235 rfl (lb_ I0.size) ((wanted_at (t := 234) (c := false) (b := true) rfl rfl rfl (lb_ (fa0_29.size.trans I0.size)) (fa0_29.at_ 234)).trans (by rfl)) (fun a0_30 fa0_30 => ?_)
  clear fa0_29
  refine fa0_30.skip 236 rfl (lb_ I0.size) ((wanted_at (t := 234) (c := false) (b := true) rfl rfl rfl (lb_ (fa0_30.size.trans I0.size)) (fa0_30.at_ 234)).trans (by rfl)) (fun a0_31 fa0_31 => ?_)
  clear fa0_30
  refine fa0_31.skip 237 rfl (lb_ I0.size) ((wanted_at (t := 234) (c := false) (b := true) rfl rfl rfl (lb_ (fa0_31.size.trans I0.size)) (fa0_31.at_ 234)).trans (by rfl)) (fun a0_32 fa0_32 => ?_)
  clear fa0_31
  refine fa0_32.skip 238 rfl (lb_ I0.size) ((wanted_at (t := 234) (c := false) (b := true) rfl rfl rfl (lb_ (fa0_32.size.trans I0.size)) (fa0_32.at_ 234)).trans (by rfl)) (fun a0_33 fa0_33 => ?_)
  clear fa0_32
  refine fa0_33.skip 239 rfl (lb_ I0.size) ((wanted_at (t := 234) (c := false) (b := true) rfl rfl rfl (lb_ (fa0_33.size.trans I0.size)) (fa0_33.at_ 234)).trans (by rfl)) (fun a0_34 fa0_34 => ?_)
  clear fa0_33
  refine fa0_34.skip 240 rfl (lb_ I0.size) ((wanted_at (t := 234) (c := false) (b := true) rfl rfl rfl (lb_ (fa0_34.size.trans I0.size)) (fa0_34.at_ 234)).trans (by rfl)) (fun a0_35 fa0_35 => ?_)
  clear fa0_34
  have r_a0_36 : (execOp a0_35.eval oPQ18).run Try.prog (wr) = .ok (.value (.bool false)) (wr) := by
    unfold oPQ18
    have kc : ∀ v, a0_35.eval (.const v) = v := fun _ => rfl
    have e234 := (show a0_35.eval (.tmp 234) = .bool false from (fa0_35.at_ 234))
    have e240 := (show a0_35.eval (.tmp 240) = undef from (fa0_35.at_ 240))
    clear fa0_35 hQ hO
    generalize a0_35.eval = ρ at *
    go_simp
  refine fa0_35.step 241 (.bool false) rfl (lb_ I0.size) ((wanted_at (t := 227) (c := false) (b := false) rfl rfl rfl (lb_ (fa0_35.size.trans I0.size)) (fa0_35.at_ 227)).trans (by rfl)) r_a0_36 (fun a0_36 fa0_36 => ?_)
  clear r_a0_36
  clear fa0_35
  have r_a0_37 : (execOp a0_36.eval oPQ19).run Try.prog (wr) = .ok (.value (.bool false)) (wr) := by
    unfold oPQ19
    have kc : ∀ v, a0_36.eval (.const v) = v := fun _ => rfl
    have e227 := (show a0_36.eval (.tmp 227) = .bool false from (fa0_36.at_ 227))
    have e241 := (show a0_36.eval (.tmp 241) = .bool false from (fa0_36.at_ 241))
    clear fa0_36 hQ hO
    generalize a0_36.eval = ρ at *
    go_simp
  refine fa0_36.step 242 (.bool false) rfl (lb_ I0.size) (wanted_none rfl) r_a0_37 (fun a0_37 fa0_37 => ?_)
  clear r_a0_37
  clear fa0_36
  refine wpList_nil ?_
  change Code.wp _ _ _ _ _
  refine wp_cond_false (show a0_37.eval (.tmp 242) = .bool false from (fa0_37.at_ 242)) (wp_skip ?_)
  change Code.wp _ _ _ _ _
  refine wp_seq ?_
  refine wp_region_list ?_
  unfold rPL51
  refine fa0_37.move 25 (.int .i64 ((0 : Nat) : Int)) _ (Or.inr rfl) rfl (lb_ I0.size) (wanted_none rfl) rfl (fun a0_38 fa0_38 => ?_)
  clear fa0_37
  refine wpList_nil ?_
  change Code.wp _ _ _ _ _
  refine wp_block ?_
  refine pq5L (Q := Exit.inBlock 8 (Exit.inBlock 7 (Exit.then _ Q))) (yo := yo) (ny := ny) (yc := yc) (got := got) (old := old) (fun _ _ _ _ _ h => hQp _ _ _ _ _ h) a0_38 wr (I0.keep fa0_38 rfl rfl rfl rfl rfl (show a0_38.eval (.tmp 23) = .int .i64 (p : Int) from ((fa0_38.at_ 23).trans I0.s23)) (show a0_38.eval (.tmp 24) = .string old from (fa0_38.at_ 24))) (show a0_38.eval (.tmp 25) = .int .i64 ((0 : Nat) : Int) from (fa0_38.at_ 25)) hp hp8 cx cy hO (fun b1 W1 i1 s1 => ?_)
  change Code.wp _ _ _ _ _
  have fb1_0 := Fe.refl b1
  refine wp_region_list ?_
  unfold rPL45
  refine fb1_0.move 210 (.int .i64 (p : Int)) _ (Or.inl rfl) rfl (lb_ i1.size) (wanted_none rfl) ((fb1_0.at_ 23).trans i1.s23) (fun b1_1 fb1_1 => ?_)
  clear fb1_0
  have r_b1_2 : (execOp b1_1.eval oPQ20).run Try.prog (W1) = .ok (.value (.int .i64 ((p : Int) + 1))) (W1) := by
    unfold oPQ20
    have kc : ∀ v, b1_1.eval (.const v) = v := fun _ => rfl
    have e210 := (show b1_1.eval (.tmp 210) = .int .i64 (p : Int) from (fb1_1.at_ 210))
    clear fb1_1 hQ hO
    generalize b1_1.eval = ρ at *
    go_simp
  refine fb1_1.step 211 (.int .i64 ((p : Int) + 1)) rfl (lb_ i1.size) (wanted_none rfl) r_b1_2 (fun b1_2 fb1_2 => ?_)
  clear r_b1_2
  clear fb1_1
  refine fb1_2.move 23 (.int .i64 ((p : Int) + 1)) _ (Or.inr rfl) rfl (lb_ i1.size) (wanted_none rfl) (fb1_2.at_ 211) (fun b1_3 fb1_3 => ?_)
  clear fb1_2
  refine wpList_nil ?_
  exact hQ b1_3 W1 _ (i1.keep fb1_3 rfl rfl rfl rfl rfl (show b1_3.eval (.tmp 23) = .int .i64 ((p : Int) + 1) from (fb1_3.at_ 23)) (fb1_3.at_ 24 |>.trans i1.s24)) s1
set_option maxRecDepth 100000 in
set_option maxHeartbeats 2000000 in
theorem pq4be {p gi ni ic bw yc ns sc : Nat} {yo sa : Option Addr} {blank : ByteArray} {v5 v24 : Value} {Q : Exit → Act → World → Prop} (hQp : ∀ c (a : Act) d v w, Q (.panic c) (a.put d v) w → Q (.panic c) a w) (a0 : Act) (wr : World) (I0 : IPQ v5 (.slice sa ns sc) (.slice (some ⟨bw, 0, none⟩) 8 8) (.slice (some ⟨gi, 0, none⟩) ni ic) (.string blank) (.int .i64 (p : Int)) v24 a0) (hp : p < ni) (hp8 : p < 8) (cx : wr.cell? ⟨gi, p, none⟩ = some (.string blank)) (cy : wr.cell? ⟨bw, p, none⟩ = some (.slice yo 0 yc)) (hg : blank.size = 1024) (hps : ¬ p < ns)
    (hO : ∀ k : Nat, k < 8 → ∀ Z, Same wr Z → Calls Try.prog 20 #[.int .i64 (k : Int), .string blank, .string blank, .slice yo 0 yc] Z fun e w' => e = .returned (.bool true) ∧ w' = Z)
    (hQ : ∀ a W u24, IPQ v5 (.slice sa ns sc) (.slice (some ⟨bw, 0, none⟩) 8 8) (.slice (some ⟨gi, 0, none⟩) ni ic) (.string blank) (.int .i64 ((p : Int) + 1)) (u24) a → Same wr W → Q .normal a W) : cPL4.wp Try.prog Q a0 wr := by
  have hpi : (p : Int) < (ni : Int) := by omega
  have hpj : (p : Int) < 8 := by omega
  have hpn : ¬ (p : Int) < (ns : Int) := by omega
  have hgs : (blank.size : Int) = 1024 := by omega
  have w1 : IntKind.i64.wrap ((p : Int) + 1) = (p : Int) + 1 := by rw [IntKind.wrap_i64]; omega
  have hid : decide ((p : Int) < (ns : Int)) = false := decide_eq_false hpn
  clear hg
  have fa0_0 := Fe.refl a0
  unfold cPL4
  refine wp_seq (wp_seq ?_)
  refine wp_region_list ?_
  unfold rPL44
  refine fa0_0.move 206 (.int .i64 (p : Int)) _ (Or.inl rfl) rfl (lb_ I0.size) (wanted_none rfl) ((fa0_0.at_ 23).trans I0.s23) (fun a0_1 fa0_1 => ?_)
  clear fa0_0
  refine fa0_1.move 207 (.slice (some ⟨gi, 0, none⟩) ni ic) _ (Or.inl rfl) rfl (lb_ I0.size) (wanted_none rfl) ((fa0_1.at_ 19).trans I0.s19) (fun a0_2 fa0_2 => ?_)
  clear fa0_1
  have r_a0_3 : (execOp a0_2.eval oPQ1).run Try.prog (wr) = .ok (.value (.int .i64 (ni : Int))) (wr) := by
    unfold oPQ1
    have e207 := (show a0_2.eval (.tmp 207) = .slice (some ⟨gi, 0, none⟩) ni ic from (fa0_2.at_ 207))
    clear fa0_2 hQ hO
    generalize a0_2.eval = ρ at *
    go_simp
  refine fa0_2.step 208 (.int .i64 (ni : Int)) rfl (lb_ I0.size) (wanted_none rfl) r_a0_3 (fun a0_3 fa0_3 => ?_)
  clear r_a0_3
  clear fa0_2
  have r_a0_4 : (execOp a0_3.eval oPQ2).run Try.prog (wr) = .ok (.value (.bool true)) (wr) := by
    unfold oPQ2
    have e206 := (show a0_3.eval (.tmp 206) = .int .i64 (p : Int) from (fa0_3.at_ 206))
    have e208 := (show a0_3.eval (.tmp 208) = .int .i64 (ni : Int) from (fa0_3.at_ 208))
    clear fa0_3 hQ hO
    generalize a0_3.eval = ρ at *
    go_simp
  refine fa0_3.step 209 (.bool true) rfl (lb_ I0.size) (wanted_none rfl) r_a0_4 (fun a0_4 fa0_4 => ?_)
  clear r_a0_4
  clear fa0_3
  refine wpList_nil ?_
  change Code.wp _ _ _ _ _
  refine wp_cond_true (show a0_4.eval (.tmp 209) = .bool true from (fa0_4.at_ 209)) (wp_skip ?_)
  change Code.wp _ _ _ _ _
  refine wp_seq (wp_block (wp_seq ?_))
  refine wp_region_list ?_
  unfold rPL46
  refine fa0_4.move 212 (.string blank) _ (Or.inl rfl) rfl (lb_ I0.size) (wanted_none rfl) ((fa0_4.at_ 22).trans I0.s22) (fun a0_5 fa0_5 => ?_)
  clear fa0_4
  refine fa0_5.move 24 (.string blank) _ (Or.inr rfl) rfl (lb_ I0.size) (wanted_none rfl) (fa0_5.at_ 212) (fun a0_6 fa0_6 => ?_)
  clear fa0_5
  refine wpList_nil ?_
  change Code.wp _ _ _ _ _
  refine wp_seq (wp_seq ?_)
  refine wp_region_list ?_
  unfold rPL47
  refine fa0_6.move 213 (.int .i64 (p : Int)) _ (Or.inl rfl) rfl (lb_ I0.size) (wanted_none rfl) ((fa0_6.at_ 23).trans I0.s23) (fun a0_7 fa0_7 => ?_)
  clear fa0_6
  refine fa0_7.move 214 (.slice sa ns sc) _ (Or.inl rfl) rfl (lb_ I0.size) (wanted_none rfl) ((fa0_7.at_ 7).trans I0.s7) (fun a0_8 fa0_8 => ?_)
  clear fa0_7
  have r_a0_9 : (execOp a0_8.eval oPQ3).run Try.prog (wr) = .ok (.value (.int .i64 (ns : Int))) (wr) := by
    unfold oPQ3
    have e214 := (show a0_8.eval (.tmp 214) = .slice sa ns sc from (fa0_8.at_ 214))
    clear fa0_8 hQ hO
    generalize a0_8.eval = ρ at *
    go_simp
  refine fa0_8.step 215 (.int .i64 (ns : Int)) rfl (lb_ I0.size) (wanted_none rfl) r_a0_9 (fun a0_9 fa0_9 => ?_)
  clear r_a0_9
  clear fa0_8
  have r_a0_10 : (execOp a0_9.eval oPQ4).run Try.prog (wr) = .ok (.value (.bool false)) (wr) := by
    unfold oPQ4
    have e213 := (show a0_9.eval (.tmp 213) = .int .i64 (p : Int) from (fa0_9.at_ 213))
    have e215 := (show a0_9.eval (.tmp 215) = .int .i64 (ns : Int) from (fa0_9.at_ 215))
    clear fa0_9 hQ hO
    generalize a0_9.eval = ρ at *
    go_simp
  refine fa0_9.step 216 (.bool false) rfl (lb_ I0.size) (wanted_none rfl) r_a0_10 (fun a0_10 fa0_10 => ?_)
  clear r_a0_10
  clear fa0_9
  refine wpList_nil ?_
  change Code.wp _ _ _ _ _
  refine wp_cond_false (show a0_10.eval (.tmp 216) = .bool false from (fa0_10.at_ 216)) (wp_skip ?_)
  change Code.wp _ _ _ _ _
  refine wp_seq (wp_seq ?_)
  refine wp_region_list ?_
  unfold rPL49
  refine fa0_10.move 221 (.slice (some ⟨gi, 0, none⟩) ni ic) _ (Or.inl rfl) rfl (lb_ I0.size) (wanted_none rfl) ((fa0_10.at_ 19).trans I0.s19) (fun a0_11 fa0_11 => ?_)
  clear fa0_10
  refine fa0_11.move 222 (.int .i64 (p : Int)) _ (Or.inl rfl) rfl (lb_ I0.size) (wanted_none rfl) ((fa0_11.at_ 23).trans I0.s23) (fun a0_12 fa0_12 => ?_)
  clear fa0_11
  have r_a0_13 : (execOp a0_12.eval oPQ7).run Try.prog (wr) = .ok (.value (.pointer (some ⟨gi, p, none⟩))) (wr) := by
    unfold oPQ7
    have e221 := (show a0_12.eval (.tmp 221) = .slice (some ⟨gi, 0, none⟩) ni ic from (fa0_12.at_ 221))
    have e222 := (show a0_12.eval (.tmp 222) = .int .i64 (p : Int) from (fa0_12.at_ 222))
    clear fa0_12 hQ hO
    generalize a0_12.eval = ρ at *
    go_simp
  refine fa0_12.step 223 (.pointer (some ⟨gi, p, none⟩)) rfl (lb_ I0.size) (wanted_none rfl) r_a0_13 (fun a0_13 fa0_13 => ?_)
  clear r_a0_13
  clear fa0_12
  have r_a0_14 : (execOp a0_13.eval oPQ8).run Try.prog (wr) = .ok (.value (.string blank)) (wr) := by
    unfold oPQ8
    have e223 := (show a0_13.eval (.tmp 223) = .pointer (some ⟨gi, p, none⟩) from (fa0_13.at_ 223))
    clear fa0_13 hQ hO
    generalize a0_13.eval = ρ at *
    go_simp
  refine fa0_13.step 224 (.string blank) rfl (lb_ I0.size) (wanted_none rfl) r_a0_14 (fun a0_14 fa0_14 => ?_)
  clear r_a0_14
  clear fa0_13
  have r_a0_15 : (execOp a0_14.eval oPQ9).run Try.prog (wr) = .ok (.value (.int .i64 1024)) (wr) := by
    unfold oPQ9
    have e224 := (show a0_14.eval (.tmp 224) = .string blank from (fa0_14.at_ 224))
    clear fa0_14 hQ hO
    generalize a0_14.eval = ρ at *
    go_simp
  refine fa0_14.step 225 (.int .i64 1024) rfl (lb_ I0.size) (wanted_none rfl) r_a0_15 (fun a0_15 fa0_15 => ?_)
  clear r_a0_15
  clear fa0_14
  have r_a0_16 : (execOp a0_15.eval oPQ10).run Try.prog (wr) = .ok (.value (.bool false)) (wr) := by
    unfold oPQ10
    have kc : ∀ v, a0_15.eval (.const v) = v := fun _ => rfl
    have e225 := (show a0_15.eval (.tmp 225) = .int .i64 1024 from (fa0_15.at_ 225))
    clear fa0_15 hQ hO
    generalize a0_15.eval = ρ at *
    go_simp
  refine fa0_15.step 226 (.bool false) rfl (lb_ I0.size) (wanted_none rfl) r_a0_16 (fun a0_16 fa0_16 => ?_)
  clear r_a0_16
  clear fa0_15
  refine fa0_16.move 227 (.bool false) _ (Or.inl rfl) rfl (lb_ I0.size) (wanted_none rfl) (fa0_16.at_ 226) (fun a0_17 fa0_17 => ?_)
  clear fa0_16
  refine fa0_17.move 228 (.slice (some ⟨bw, 0, none⟩) 8 8) _ (Or.inl rfl) rfl (lb_ I0.size) ((wanted_at (t := 227) (c := false) (b := false) rfl rfl rfl (lb_ (fa0_17.size.trans I0.size)) (fa0_17.at_ 227)).trans (by rfl)) ((fa0_17.at_ 8).trans I0.s8) (fun a0_18 fa0_18 => ?_)
  clear fa0_17
  refine fa0_18.move 229 (.int .i64 (p : Int)) _ (Or.inl rfl) rfl (lb_ I0.size) ((wanted_at (t := 227) (c := false) (b := false) rfl rfl rfl (lb_ (fa0_18.size.trans I0.size)) (fa0_18.at_ 227)).trans (by rfl)) ((fa0_18.at_ 23).trans I0.s23) (fun a0_19 fa0_19 => ?_)
  clear fa0_18
  have r_a0_20 : (execOp a0_19.eval oPQ11).run Try.prog (wr) = .ok (.value (.pointer (some ⟨bw, p, none⟩))) (wr) := by
    unfold oPQ11
    have e228 := (show a0_19.eval (.tmp 228) = .slice (some ⟨bw, 0, none⟩) 8 8 from (fa0_19.at_ 228))
    have e229 := (show a0_19.eval (.tmp 229) = .int .i64 (p : Int) from (fa0_19.at_ 229))
    clear fa0_19 hQ hO
    generalize a0_19.eval = ρ at *
    go_simp
  refine fa0_19.step 230 (.pointer (some ⟨bw, p, none⟩)) rfl (lb_ I0.size) ((wanted_at (t := 227) (c := false) (b := false) rfl rfl rfl (lb_ (fa0_19.size.trans I0.size)) (fa0_19.at_ 227)).trans (by rfl)) r_a0_20 (fun a0_20 fa0_20 => ?_)
  clear r_a0_20
  clear fa0_19
  have r_a0_21 : (execOp a0_20.eval oPQ12).run Try.prog (wr) = .ok (.value (.slice yo 0 yc)) (wr) := by
    unfold oPQ12
    have e230 := (show a0_20.eval (.tmp 230) = .pointer (some ⟨bw, p, none⟩) from (fa0_20.at_ 230))
    clear fa0_20 hQ hO
    generalize a0_20.eval = ρ at *
    go_simp
  refine fa0_20.step 231 (.slice yo 0 yc) rfl (lb_ I0.size) ((wanted_at (t := 227) (c := false) (b := false) rfl rfl rfl (lb_ (fa0_20.size.trans I0.size)) (fa0_20.at_ 227)).trans (by rfl)) r_a0_21 (fun a0_21 fa0_21 => ?_)
  clear r_a0_21
  clear fa0_20
  have r_a0_22 : (execOp a0_21.eval oPQ13).run Try.prog (wr) = .ok (.value (.int .i64 0)) (wr) := by
    unfold oPQ13
    have e231 := (show a0_21.eval (.tmp 231) = .slice yo 0 yc from (fa0_21.at_ 231))
    clear fa0_21 hQ hO
    generalize a0_21.eval = ρ at *
    go_simp
  refine fa0_21.step 232 (.int .i64 0) rfl (lb_ I0.size) ((wanted_at (t := 227) (c := false) (b := false) rfl rfl rfl (lb_ (fa0_21.size.trans I0.size)) (fa0_21.at_ 227)).trans (by rfl)) r_a0_22 (fun a0_22 fa0_22 => ?_)
  clear r_a0_22
  clear fa0_21
  have r_a0_23 : (execOp a0_22.eval oPQ14).run Try.prog (wr) = .ok (.value (.bool true)) (wr) := by
    unfold oPQ14
    have kc : ∀ v, a0_22.eval (.const v) = v := fun _ => rfl
    have e232 := (show a0_22.eval (.tmp 232) = .int .i64 0 from (fa0_22.at_ 232))
    clear fa0_22 hQ hO
    generalize a0_22.eval = ρ at *
    go_simp
  refine fa0_22.step 233 (.bool true) rfl (lb_ I0.size) ((wanted_at (t := 227) (c := false) (b := false) rfl rfl rfl (lb_ (fa0_22.size.trans I0.size)) (fa0_22.at_ 227)).trans (by rfl)) r_a0_23 (fun a0_23 fa0_23 => ?_)
  clear r_a0_23
  clear fa0_22
  refine fa0_23.move 234 (.bool true) _ (Or.inl rfl) rfl (lb_ I0.size) ((wanted_at (t := 227) (c := false) (b := false) rfl rfl rfl (lb_ (fa0_23.size.trans I0.size)) (fa0_23.at_ 227)).trans (by rfl)) (fa0_23.at_ 233) (fun a0_24 fa0_24 => ?_)
  clear fa0_23
  refine fa0_24.move 235 (.slice (some ⟨gi, 0, none⟩) ni ic) _ (Or.inl rfl) rfl (lb_ I0.size) ((wanted_at (t := 234) (c := true) (b := true) rfl rfl rfl (lb_ (fa0_24.size.trans I0.size)) (fa0_24.at_ 234)).trans (by rfl)) ((fa0_24.at_ 19).trans I0.s19) (fun a0_25 fa0_25 => ?_)
  clear fa0_24
  refine fa0_25.move 236 (.int .i64 (p : Int)) _ (Or.inl rfl) rfl (lb_ I0.size) ((wanted_at (t := 234) (c := true) (b := true) rfl rfl rfl (lb_ (fa0_25.size.trans I0.size)) (fa0_25.at_ 234)).trans (by rfl)) ((fa0_25.at_ 23).trans I0.s23) (fun a0_26 fa0_26 => ?_)
  clear fa0_25
  have r_a0_27 : (execOp a0_26.eval oPQ15).run Try.prog (wr) = .ok (.value (.pointer (some ⟨gi, p, none⟩))) (wr) := by
    unfold oPQ15
    have e235 := (show a0_26.eval (.tmp 235) = .slice (some ⟨gi, 0, none⟩) ni ic from (fa0_26.at_ 235))
    have e236 := (show a0_26.eval (.tmp 236) = .int .i64 (p : Int) from (fa0_26.at_ 236))
    clear fa0_26 hQ hO
    generalize a0_26.eval = ρ at *
    go_simp
  refine fa0_26.step 237 (.pointer (some ⟨gi, p, none⟩)) rfl (lb_ I0.size) ((wanted_at (t := 234) (c := true) (b := true) rfl rfl rfl (lb_ (fa0_26.size.trans I0.size)) (fa0_26.at_ 234)).trans (by rfl)) r_a0_27 (fun a0_27 fa0_27 => ?_)
  clear r_a0_27
  clear fa0_26
  have r_a0_28 : (execOp a0_27.eval oPQ16).run Try.prog (wr) = .ok (.value (.string blank)) (wr) := by
    unfold oPQ16
    have e237 := (show a0_27.eval (.tmp 237) = .pointer (some ⟨gi, p, none⟩) from (fa0_27.at_ 237))
    clear fa0_27 hQ hO
    generalize a0_27.eval = ρ at *
    go_simp
  refine fa0_27.step 238 (.string blank) rfl (lb_ I0.size) ((wanted_at (t := 234) (c := true) (b := true) rfl rfl rfl (lb_ (fa0_27.size.trans I0.size)) (fa0_27.at_ 234)).trans (by rfl)) r_a0_28 (fun a0_28 fa0_28 => ?_)
  clear r_a0_28
  clear fa0_27
  refine fa0_28.move 239 (.string blank) _ (Or.inl rfl) rfl (lb_ I0.size) ((wanted_at (t := 234) (c := true) (b := true) rfl rfl rfl (lb_ (fa0_28.size.trans I0.size)) (fa0_28.at_ 234)).trans (by rfl)) (fa0_28.at_ 24) (fun a0_29 fa0_29 => ?_)
  clear fa0_28
  have r_a0_30 : (execOp a0_29.eval oPQ17).run Try.prog (wr) = .ok (.value (.bool false)) (wr) := by
    unfold oPQ17
    have e238 := (show a0_29.eval (.tmp 238) = .string blank from (fa0_29.at_ 238))
    have e239 := (show a0_29.eval (.tmp 239) = .string blank from (fa0_29.at_ 239))
    clear fa0_29 hQ hO
    generalize a0_29.eval = ρ at *
    go_simp
  refine fa0_29.step 240 (.bool false) rfl (lb_ I0.size) ((wanted_at (t := 234) (c := true) (b := true) rfl rfl rfl (lb_ (fa0_29.size.trans I0.size)) (fa0_29.at_ 234)).trans (by rfl)) r_a0_30 (fun a0_30 fa0_30 => ?_)
  clear r_a0_30
  clear fa0_29
  have r_a0_31 : (execOp a0_30.eval oPQ18).run Try.prog (wr) = .ok (.value (.bool false)) (wr) := by
    unfold oPQ18
    have kc : ∀ v, a0_30.eval (.const v) = v := fun _ => rfl
    have e234 := (show a0_30.eval (.tmp 234) = .bool true from (fa0_30.at_ 234))
    have e240 := (show a0_30.eval (.tmp 240) = .bool false from (fa0_30.at_ 240))
    clear fa0_30 hQ hO
    generalize a0_30.eval = ρ at *
    go_simp
  refine fa0_30.step 241 (.bool false) rfl (lb_ I0.size) ((wanted_at (t := 227) (c := false) (b := false) rfl rfl rfl (lb_ (fa0_30.size.trans I0.size)) (fa0_30.at_ 227)).trans (by rfl)) r_a0_31 (fun a0_31 fa0_31 => ?_)
  clear r_a0_31
  clear fa0_30
  have r_a0_32 : (execOp a0_31.eval oPQ19).run Try.prog (wr) = .ok (.value (.bool false)) (wr) := by
    unfold oPQ19
    have kc : ∀ v, a0_31.eval (.const v) = v := fun _ => rfl
    have e227 := (show a0_31.eval (.tmp 227) = .bool false from (fa0_31.at_ 227))
    have e241 := (show a0_31.eval (.tmp 241) = .bool false from (fa0_31.at_ 241))
    clear fa0_31 hQ hO
    generalize a0_31.eval = ρ at *
    go_simp
  refine fa0_31.step 242 (.bool false) rfl (lb_ I0.size) (wanted_none rfl) r_a0_32 (fun a0_32 fa0_32 => ?_)
  clear r_a0_32
  clear fa0_31
  refine wpList_nil ?_
  change Code.wp _ _ _ _ _
  refine wp_cond_false (show a0_32.eval (.tmp 242) = .bool false from (fa0_32.at_ 242)) (wp_skip ?_)
  change Code.wp _ _ _ _ _
  refine wp_seq ?_
  refine wp_region_list ?_
  unfold rPL51
  refine fa0_32.move 25 (.int .i64 ((0 : Nat) : Int)) _ (Or.inr rfl) rfl (lb_ I0.size) (wanted_none rfl) rfl (fun a0_33 fa0_33 => ?_)
  clear fa0_32
  refine wpList_nil ?_
  change Code.wp _ _ _ _ _
  refine wp_block ?_
  refine pq5L (Q := Exit.inBlock 8 (Exit.inBlock 7 (Exit.then _ Q))) (yo := yo) (ny := 0) (yc := yc) (got := blank) (old := blank) (fun _ _ _ _ _ h => hQp _ _ _ _ _ h) a0_33 wr (I0.keep fa0_33 rfl rfl rfl rfl rfl (show a0_33.eval (.tmp 23) = .int .i64 (p : Int) from ((fa0_33.at_ 23).trans I0.s23)) (show a0_33.eval (.tmp 24) = .string blank from (fa0_33.at_ 24))) (show a0_33.eval (.tmp 25) = .int .i64 ((0 : Nat) : Int) from (fa0_33.at_ 25)) hp hp8 cx cy hO (fun b1 W1 i1 s1 => ?_)
  change Code.wp _ _ _ _ _
  have fb1_0 := Fe.refl b1
  refine wp_region_list ?_
  unfold rPL45
  refine fb1_0.move 210 (.int .i64 (p : Int)) _ (Or.inl rfl) rfl (lb_ i1.size) (wanted_none rfl) ((fb1_0.at_ 23).trans i1.s23) (fun b1_1 fb1_1 => ?_)
  clear fb1_0
  have r_b1_2 : (execOp b1_1.eval oPQ20).run Try.prog (W1) = .ok (.value (.int .i64 ((p : Int) + 1))) (W1) := by
    unfold oPQ20
    have kc : ∀ v, b1_1.eval (.const v) = v := fun _ => rfl
    have e210 := (show b1_1.eval (.tmp 210) = .int .i64 (p : Int) from (fb1_1.at_ 210))
    clear fb1_1 hQ hO
    generalize b1_1.eval = ρ at *
    go_simp
  refine fb1_1.step 211 (.int .i64 ((p : Int) + 1)) rfl (lb_ i1.size) (wanted_none rfl) r_b1_2 (fun b1_2 fb1_2 => ?_)
  clear r_b1_2
  clear fb1_1
  refine fb1_2.move 23 (.int .i64 ((p : Int) + 1)) _ (Or.inr rfl) rfl (lb_ i1.size) (wanted_none rfl) (fb1_2.at_ 211) (fun b1_3 fb1_3 => ?_)
  clear fb1_2
  refine wpList_nil ?_
  exact hQ b1_3 W1 _ (i1.keep fb1_3 rfl rfl rfl rfl rfl (show b1_3.eval (.tmp 23) = .int .i64 ((p : Int) + 1) from (fb1_3.at_ 23)) (fb1_3.at_ 24 |>.trans i1.s24)) s1
set_option maxRecDepth 100000 in
set_option maxHeartbeats 2000000 in
theorem pq4bn {p gi ni ic bw yc ns sc ny : Nat} {yo sa : Option Addr} {got blank : ByteArray} {v5 v24 : Value} {Q : Exit → Act → World → Prop} (hQp : ∀ c (a : Act) d v w, Q (.panic c) (a.put d v) w → Q (.panic c) a w) (a0 : Act) (wr : World) (I0 : IPQ v5 (.slice sa ns sc) (.slice (some ⟨bw, 0, none⟩) 8 8) (.slice (some ⟨gi, 0, none⟩) ni ic) (.string blank) (.int .i64 (p : Int)) v24 a0) (hp : p < ni) (hp8 : p < 8) (cx : wr.cell? ⟨gi, p, none⟩ = some (.string got)) (cy : wr.cell? ⟨bw, p, none⟩ = some (.slice yo ny yc)) (hg : got.size = 1024) (hps : ¬ p < ns) (hny : ¬ ny = 0)
    (hO : ∀ k : Nat, k < 8 → ∀ Z, Same wr Z → Calls Try.prog 20 #[.int .i64 (k : Int), .string got, .string blank, .slice yo ny yc] Z fun e w' => e = .returned (.bool true) ∧ w' = Z)
    (hQ : ∀ a W u24, IPQ v5 (.slice sa ns sc) (.slice (some ⟨bw, 0, none⟩) 8 8) (.slice (some ⟨gi, 0, none⟩) ni ic) (.string blank) (.int .i64 ((p : Int) + 1)) (u24) a → Same wr W → Q .normal a W) : cPL4.wp Try.prog Q a0 wr := by
  have hpi : (p : Int) < (ni : Int) := by omega
  have hpj : (p : Int) < 8 := by omega
  have hpn : ¬ (p : Int) < (ns : Int) := by omega
  have hgs : (got.size : Int) = 1024 := by omega
  have w1 : IntKind.i64.wrap ((p : Int) + 1) = (p : Int) + 1 := by rw [IntKind.wrap_i64]; omega
  have hid : decide ((p : Int) < (ns : Int)) = false := decide_eq_false hpn
  clear hg
  have fa0_0 := Fe.refl a0
  unfold cPL4
  refine wp_seq (wp_seq ?_)
  refine wp_region_list ?_
  unfold rPL44
  refine fa0_0.move 206 (.int .i64 (p : Int)) _ (Or.inl rfl) rfl (lb_ I0.size) (wanted_none rfl) ((fa0_0.at_ 23).trans I0.s23) (fun a0_1 fa0_1 => ?_)
  clear fa0_0
  refine fa0_1.move 207 (.slice (some ⟨gi, 0, none⟩) ni ic) _ (Or.inl rfl) rfl (lb_ I0.size) (wanted_none rfl) ((fa0_1.at_ 19).trans I0.s19) (fun a0_2 fa0_2 => ?_)
  clear fa0_1
  have r_a0_3 : (execOp a0_2.eval oPQ1).run Try.prog (wr) = .ok (.value (.int .i64 (ni : Int))) (wr) := by
    unfold oPQ1
    have e207 := (show a0_2.eval (.tmp 207) = .slice (some ⟨gi, 0, none⟩) ni ic from (fa0_2.at_ 207))
    clear fa0_2 hQ hO
    generalize a0_2.eval = ρ at *
    go_simp
  refine fa0_2.step 208 (.int .i64 (ni : Int)) rfl (lb_ I0.size) (wanted_none rfl) r_a0_3 (fun a0_3 fa0_3 => ?_)
  clear r_a0_3
  clear fa0_2
  have r_a0_4 : (execOp a0_3.eval oPQ2).run Try.prog (wr) = .ok (.value (.bool true)) (wr) := by
    unfold oPQ2
    have e206 := (show a0_3.eval (.tmp 206) = .int .i64 (p : Int) from (fa0_3.at_ 206))
    have e208 := (show a0_3.eval (.tmp 208) = .int .i64 (ni : Int) from (fa0_3.at_ 208))
    clear fa0_3 hQ hO
    generalize a0_3.eval = ρ at *
    go_simp
  refine fa0_3.step 209 (.bool true) rfl (lb_ I0.size) (wanted_none rfl) r_a0_4 (fun a0_4 fa0_4 => ?_)
  clear r_a0_4
  clear fa0_3
  refine wpList_nil ?_
  change Code.wp _ _ _ _ _
  refine wp_cond_true (show a0_4.eval (.tmp 209) = .bool true from (fa0_4.at_ 209)) (wp_skip ?_)
  change Code.wp _ _ _ _ _
  refine wp_seq (wp_block (wp_seq ?_))
  refine wp_region_list ?_
  unfold rPL46
  refine fa0_4.move 212 (.string blank) _ (Or.inl rfl) rfl (lb_ I0.size) (wanted_none rfl) ((fa0_4.at_ 22).trans I0.s22) (fun a0_5 fa0_5 => ?_)
  clear fa0_4
  refine fa0_5.move 24 (.string blank) _ (Or.inr rfl) rfl (lb_ I0.size) (wanted_none rfl) (fa0_5.at_ 212) (fun a0_6 fa0_6 => ?_)
  clear fa0_5
  refine wpList_nil ?_
  change Code.wp _ _ _ _ _
  refine wp_seq (wp_seq ?_)
  refine wp_region_list ?_
  unfold rPL47
  refine fa0_6.move 213 (.int .i64 (p : Int)) _ (Or.inl rfl) rfl (lb_ I0.size) (wanted_none rfl) ((fa0_6.at_ 23).trans I0.s23) (fun a0_7 fa0_7 => ?_)
  clear fa0_6
  refine fa0_7.move 214 (.slice sa ns sc) _ (Or.inl rfl) rfl (lb_ I0.size) (wanted_none rfl) ((fa0_7.at_ 7).trans I0.s7) (fun a0_8 fa0_8 => ?_)
  clear fa0_7
  have r_a0_9 : (execOp a0_8.eval oPQ3).run Try.prog (wr) = .ok (.value (.int .i64 (ns : Int))) (wr) := by
    unfold oPQ3
    have e214 := (show a0_8.eval (.tmp 214) = .slice sa ns sc from (fa0_8.at_ 214))
    clear fa0_8 hQ hO
    generalize a0_8.eval = ρ at *
    go_simp
  refine fa0_8.step 215 (.int .i64 (ns : Int)) rfl (lb_ I0.size) (wanted_none rfl) r_a0_9 (fun a0_9 fa0_9 => ?_)
  clear r_a0_9
  clear fa0_8
  have r_a0_10 : (execOp a0_9.eval oPQ4).run Try.prog (wr) = .ok (.value (.bool false)) (wr) := by
    unfold oPQ4
    have e213 := (show a0_9.eval (.tmp 213) = .int .i64 (p : Int) from (fa0_9.at_ 213))
    have e215 := (show a0_9.eval (.tmp 215) = .int .i64 (ns : Int) from (fa0_9.at_ 215))
    clear fa0_9 hQ hO
    generalize a0_9.eval = ρ at *
    go_simp
  refine fa0_9.step 216 (.bool false) rfl (lb_ I0.size) (wanted_none rfl) r_a0_10 (fun a0_10 fa0_10 => ?_)
  clear r_a0_10
  clear fa0_9
  refine wpList_nil ?_
  change Code.wp _ _ _ _ _
  refine wp_cond_false (show a0_10.eval (.tmp 216) = .bool false from (fa0_10.at_ 216)) (wp_skip ?_)
  change Code.wp _ _ _ _ _
  refine wp_seq (wp_seq ?_)
  refine wp_region_list ?_
  unfold rPL49
  refine fa0_10.move 221 (.slice (some ⟨gi, 0, none⟩) ni ic) _ (Or.inl rfl) rfl (lb_ I0.size) (wanted_none rfl) ((fa0_10.at_ 19).trans I0.s19) (fun a0_11 fa0_11 => ?_)
  clear fa0_10
  refine fa0_11.move 222 (.int .i64 (p : Int)) _ (Or.inl rfl) rfl (lb_ I0.size) (wanted_none rfl) ((fa0_11.at_ 23).trans I0.s23) (fun a0_12 fa0_12 => ?_)
  clear fa0_11
  have r_a0_13 : (execOp a0_12.eval oPQ7).run Try.prog (wr) = .ok (.value (.pointer (some ⟨gi, p, none⟩))) (wr) := by
    unfold oPQ7
    have e221 := (show a0_12.eval (.tmp 221) = .slice (some ⟨gi, 0, none⟩) ni ic from (fa0_12.at_ 221))
    have e222 := (show a0_12.eval (.tmp 222) = .int .i64 (p : Int) from (fa0_12.at_ 222))
    clear fa0_12 hQ hO
    generalize a0_12.eval = ρ at *
    go_simp
  refine fa0_12.step 223 (.pointer (some ⟨gi, p, none⟩)) rfl (lb_ I0.size) (wanted_none rfl) r_a0_13 (fun a0_13 fa0_13 => ?_)
  clear r_a0_13
  clear fa0_12
  have r_a0_14 : (execOp a0_13.eval oPQ8).run Try.prog (wr) = .ok (.value (.string got)) (wr) := by
    unfold oPQ8
    have e223 := (show a0_13.eval (.tmp 223) = .pointer (some ⟨gi, p, none⟩) from (fa0_13.at_ 223))
    clear fa0_13 hQ hO
    generalize a0_13.eval = ρ at *
    go_simp
  refine fa0_13.step 224 (.string got) rfl (lb_ I0.size) (wanted_none rfl) r_a0_14 (fun a0_14 fa0_14 => ?_)
  clear r_a0_14
  clear fa0_13
  have r_a0_15 : (execOp a0_14.eval oPQ9).run Try.prog (wr) = .ok (.value (.int .i64 1024)) (wr) := by
    unfold oPQ9
    have e224 := (show a0_14.eval (.tmp 224) = .string got from (fa0_14.at_ 224))
    clear fa0_14 hQ hO
    generalize a0_14.eval = ρ at *
    go_simp
  refine fa0_14.step 225 (.int .i64 1024) rfl (lb_ I0.size) (wanted_none rfl) r_a0_15 (fun a0_15 fa0_15 => ?_)
  clear r_a0_15
  clear fa0_14
  have r_a0_16 : (execOp a0_15.eval oPQ10).run Try.prog (wr) = .ok (.value (.bool false)) (wr) := by
    unfold oPQ10
    have kc : ∀ v, a0_15.eval (.const v) = v := fun _ => rfl
    have e225 := (show a0_15.eval (.tmp 225) = .int .i64 1024 from (fa0_15.at_ 225))
    clear fa0_15 hQ hO
    generalize a0_15.eval = ρ at *
    go_simp
  refine fa0_15.step 226 (.bool false) rfl (lb_ I0.size) (wanted_none rfl) r_a0_16 (fun a0_16 fa0_16 => ?_)
  clear r_a0_16
  clear fa0_15
  refine fa0_16.move 227 (.bool false) _ (Or.inl rfl) rfl (lb_ I0.size) (wanted_none rfl) (fa0_16.at_ 226) (fun a0_17 fa0_17 => ?_)
  clear fa0_16
  refine fa0_17.move 228 (.slice (some ⟨bw, 0, none⟩) 8 8) _ (Or.inl rfl) rfl (lb_ I0.size) ((wanted_at (t := 227) (c := false) (b := false) rfl rfl rfl (lb_ (fa0_17.size.trans I0.size)) (fa0_17.at_ 227)).trans (by rfl)) ((fa0_17.at_ 8).trans I0.s8) (fun a0_18 fa0_18 => ?_)
  clear fa0_17
  refine fa0_18.move 229 (.int .i64 (p : Int)) _ (Or.inl rfl) rfl (lb_ I0.size) ((wanted_at (t := 227) (c := false) (b := false) rfl rfl rfl (lb_ (fa0_18.size.trans I0.size)) (fa0_18.at_ 227)).trans (by rfl)) ((fa0_18.at_ 23).trans I0.s23) (fun a0_19 fa0_19 => ?_)
  clear fa0_18
  have r_a0_20 : (execOp a0_19.eval oPQ11).run Try.prog (wr) = .ok (.value (.pointer (some ⟨bw, p, none⟩))) (wr) := by
    unfold oPQ11
    have e228 := (show a0_19.eval (.tmp 228) = .slice (some ⟨bw, 0, none⟩) 8 8 from (fa0_19.at_ 228))
    have e229 := (show a0_19.eval (.tmp 229) = .int .i64 (p : Int) from (fa0_19.at_ 229))
    clear fa0_19 hQ hO
    generalize a0_19.eval = ρ at *
    go_simp
  refine fa0_19.step 230 (.pointer (some ⟨bw, p, none⟩)) rfl (lb_ I0.size) ((wanted_at (t := 227) (c := false) (b := false) rfl rfl rfl (lb_ (fa0_19.size.trans I0.size)) (fa0_19.at_ 227)).trans (by rfl)) r_a0_20 (fun a0_20 fa0_20 => ?_)
  clear r_a0_20
  clear fa0_19
  have r_a0_21 : (execOp a0_20.eval oPQ12).run Try.prog (wr) = .ok (.value (.slice yo ny yc)) (wr) := by
    unfold oPQ12
    have e230 := (show a0_20.eval (.tmp 230) = .pointer (some ⟨bw, p, none⟩) from (fa0_20.at_ 230))
    clear fa0_20 hQ hO
    generalize a0_20.eval = ρ at *
    go_simp
  refine fa0_20.step 231 (.slice yo ny yc) rfl (lb_ I0.size) ((wanted_at (t := 227) (c := false) (b := false) rfl rfl rfl (lb_ (fa0_20.size.trans I0.size)) (fa0_20.at_ 227)).trans (by rfl)) r_a0_21 (fun a0_21 fa0_21 => ?_)
  clear r_a0_21
  clear fa0_20
  have r_a0_22 : (execOp a0_21.eval oPQ13).run Try.prog (wr) = .ok (.value (.int .i64 (ny : Int))) (wr) := by
    unfold oPQ13
    have e231 := (show a0_21.eval (.tmp 231) = .slice yo ny yc from (fa0_21.at_ 231))
    clear fa0_21 hQ hO
    generalize a0_21.eval = ρ at *
    go_simp
  refine fa0_21.step 232 (.int .i64 (ny : Int)) rfl (lb_ I0.size) ((wanted_at (t := 227) (c := false) (b := false) rfl rfl rfl (lb_ (fa0_21.size.trans I0.size)) (fa0_21.at_ 227)).trans (by rfl)) r_a0_22 (fun a0_22 fa0_22 => ?_)
  clear r_a0_22
  clear fa0_21
  have r_a0_23 : (execOp a0_22.eval oPQ14).run Try.prog (wr) = .ok (.value (.bool false)) (wr) := by
    unfold oPQ14
    have kc : ∀ v, a0_22.eval (.const v) = v := fun _ => rfl
    have e232 := (show a0_22.eval (.tmp 232) = .int .i64 (ny : Int) from (fa0_22.at_ 232))
    clear fa0_22 hQ hO
    generalize a0_22.eval = ρ at *
    go_simp
  refine fa0_22.step 233 (.bool false) rfl (lb_ I0.size) ((wanted_at (t := 227) (c := false) (b := false) rfl rfl rfl (lb_ (fa0_22.size.trans I0.size)) (fa0_22.at_ 227)).trans (by rfl)) r_a0_23 (fun a0_23 fa0_23 => ?_)
  clear r_a0_23
  clear fa0_22
  refine fa0_23.move 234 (.bool false) _ (Or.inl rfl) rfl (lb_ I0.size) ((wanted_at (t := 227) (c := false) (b := false) rfl rfl rfl (lb_ (fa0_23.size.trans I0.size)) (fa0_23.at_ 227)).trans (by rfl)) (fa0_23.at_ 233) (fun a0_24 fa0_24 => ?_)
  clear fa0_23
  refine fa0_24.skip 235 rfl (lb_ I0.size) ((wanted_at (t := 234) (c := false) (b := true) rfl rfl rfl (lb_ (fa0_24.size.trans I0.size)) (fa0_24.at_ 234)).trans (by rfl)) (fun a0_25 fa0_25 => ?_)
  clear fa0_24
  refine fa0_25.skip 236 rfl (lb_ I0.size) ((wanted_at (t := 234) (c := false) (b := true) rfl rfl rfl (lb_ (fa0_25.size.trans I0.size)) (fa0_25.at_ 234)).trans (by rfl)) (fun a0_26 fa0_26 => ?_)
  clear fa0_25
  refine fa0_26.skip 237 rfl (lb_ I0.size) ((wanted_at (t := 234) (c := false) (b := true) rfl rfl rfl (lb_ (fa0_26.size.trans I0.size)) (fa0_26.at_ 234)).trans (by rfl)) (fun a0_27 fa0_27 => ?_)
  clear fa0_26
  refine fa0_27.skip 238 rfl (lb_ I0.size) ((wanted_at (t := 234) (c := false) (b := true) rfl rfl rfl (lb_ (fa0_27.size.trans I0.size)) (fa0_27.at_ 234)).trans (by rfl)) (fun a0_28 fa0_28 => ?_)
  clear fa0_27
  refine fa0_28.skip 239 rfl (lb_ I0.size) ((wanted_at (t := 234) (c := false) (b := true) rfl rfl rfl (lb_ (fa0_28.size.trans I0.size)) (fa0_28.at_ 234)).trans (by rfl)) (fun a0_29 fa0_29 => ?_)
  clear fa0_28
  refine fa0_29.skip 240 rfl (lb_ I0.size) ((wanted_at (t := 234) (c := false) (b := true) rfl rfl rfl (lb_ (fa0_29.size.trans I0.size)) (fa0_29.at_ 234)).trans (by rfl)) (fun a0_30 fa0_30 => ?_)
  clear fa0_29
  have r_a0_31 : (execOp a0_30.eval oPQ18).run Try.prog (wr) = .ok (.value (.bool false)) (wr) := by
    unfold oPQ18
    have kc : ∀ v, a0_30.eval (.const v) = v := fun _ => rfl
    have e234 := (show a0_30.eval (.tmp 234) = .bool false from (fa0_30.at_ 234))
    have e240 := (show a0_30.eval (.tmp 240) = undef from (fa0_30.at_ 240))
    clear fa0_30 hQ hO
    generalize a0_30.eval = ρ at *
    go_simp
  refine fa0_30.step 241 (.bool false) rfl (lb_ I0.size) ((wanted_at (t := 227) (c := false) (b := false) rfl rfl rfl (lb_ (fa0_30.size.trans I0.size)) (fa0_30.at_ 227)).trans (by rfl)) r_a0_31 (fun a0_31 fa0_31 => ?_)
  clear r_a0_31
  clear fa0_30
  have r_a0_32 : (execOp a0_31.eval oPQ19).run Try.prog (wr) = .ok (.value (.bool false)) (wr) := by
    unfold oPQ19
    have kc : ∀ v, a0_31.eval (.const v) = v := fun _ => rfl
    have e227 := (show a0_31.eval (.tmp 227) = .bool false from (fa0_31.at_ 227))
    have e241 := (show a0_31.eval (.tmp 241) = .bool false from (fa0_31.at_ 241))
    clear fa0_31 hQ hO
    generalize a0_31.eval = ρ at *
    go_simp
  refine fa0_31.step 242 (.bool false) rfl (lb_ I0.size) (wanted_none rfl) r_a0_32 (fun a0_32 fa0_32 => ?_)
  clear r_a0_32
  clear fa0_31
  refine wpList_nil ?_
  change Code.wp _ _ _ _ _
  refine wp_cond_false (show a0_32.eval (.tmp 242) = .bool false from (fa0_32.at_ 242)) (wp_skip ?_)
  change Code.wp _ _ _ _ _
  refine wp_seq ?_
  refine wp_region_list ?_
  unfold rPL51
  refine fa0_32.move 25 (.int .i64 ((0 : Nat) : Int)) _ (Or.inr rfl) rfl (lb_ I0.size) (wanted_none rfl) rfl (fun a0_33 fa0_33 => ?_)
  clear fa0_32
  refine wpList_nil ?_
  change Code.wp _ _ _ _ _
  refine wp_block ?_
  refine pq5L (Q := Exit.inBlock 8 (Exit.inBlock 7 (Exit.then _ Q))) (yo := yo) (ny := ny) (yc := yc) (got := got) (old := blank) (fun _ _ _ _ _ h => hQp _ _ _ _ _ h) a0_33 wr (I0.keep fa0_33 rfl rfl rfl rfl rfl (show a0_33.eval (.tmp 23) = .int .i64 (p : Int) from ((fa0_33.at_ 23).trans I0.s23)) (show a0_33.eval (.tmp 24) = .string blank from (fa0_33.at_ 24))) (show a0_33.eval (.tmp 25) = .int .i64 ((0 : Nat) : Int) from (fa0_33.at_ 25)) hp hp8 cx cy hO (fun b1 W1 i1 s1 => ?_)
  change Code.wp _ _ _ _ _
  have fb1_0 := Fe.refl b1
  refine wp_region_list ?_
  unfold rPL45
  refine fb1_0.move 210 (.int .i64 (p : Int)) _ (Or.inl rfl) rfl (lb_ i1.size) (wanted_none rfl) ((fb1_0.at_ 23).trans i1.s23) (fun b1_1 fb1_1 => ?_)
  clear fb1_0
  have r_b1_2 : (execOp b1_1.eval oPQ20).run Try.prog (W1) = .ok (.value (.int .i64 ((p : Int) + 1))) (W1) := by
    unfold oPQ20
    have kc : ∀ v, b1_1.eval (.const v) = v := fun _ => rfl
    have e210 := (show b1_1.eval (.tmp 210) = .int .i64 (p : Int) from (fb1_1.at_ 210))
    clear fb1_1 hQ hO
    generalize b1_1.eval = ρ at *
    go_simp
  refine fb1_1.step 211 (.int .i64 ((p : Int) + 1)) rfl (lb_ i1.size) (wanted_none rfl) r_b1_2 (fun b1_2 fb1_2 => ?_)
  clear r_b1_2
  clear fb1_1
  refine fb1_2.move 23 (.int .i64 ((p : Int) + 1)) _ (Or.inr rfl) rfl (lb_ i1.size) (wanted_none rfl) (fb1_2.at_ 211) (fun b1_3 fb1_3 => ?_)
  clear fb1_2
  refine wpList_nil ?_
  exact hQ b1_3 W1 _ (i1.keep fb1_3 rfl rfl rfl rfl rfl (show b1_3.eval (.tmp 23) = .int .i64 ((p : Int) + 1) from (fb1_3.at_ 23)) (fb1_3.at_ 24 |>.trans i1.s24)) s1
end Go.Proofs.Ytjiaepeglghheaa
