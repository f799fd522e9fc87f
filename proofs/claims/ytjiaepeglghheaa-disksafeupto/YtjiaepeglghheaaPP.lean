/- DiskSafe: how long the image becomes. -/
import Derived.Test.YtjiaepeglghheaaPN
namespace Go.Proofs.Ytjiaepeglghheaa
open Go.RowKit

def oPP0 : Oper := { dst := some 142, op := Op.call { callee := Callee.builtin Builtin.len, args := #[Operand.tmp 141], argTypes := #[46] }, type := 3, pos := "outright.go:122", after := #[{ on := 1, ground := Ground.data }], guard := none }
def oPP1 : Oper := { dst := some 143, op := Op.binOp BinOp.lss 3 (Operand.tmp 140) (Operand.tmp 142) 3, type := 4, pos := "outright.go:122", after := #[{ on := 0, ground := Ground.data }, { on := 2, ground := Ground.data }], guard := none }
def oPP2 : Oper := { dst := some 149, op := Op.pick (Operand.tmp 144) (Operand.tmp 148) (Operand.const (Value.bool false)), type := 4, pos := "outright.go:122", after := #[{ on := 4, ground := Ground.data }, { on := 8, ground := Ground.data }], guard := none }
def oPP3 : Oper := { dst := some 147, op := Op.call { callee := Callee.builtin Builtin.len, args := #[Operand.tmp 146], argTypes := #[33] }, type := 3, pos := "outright.go:122", after := #[{ on := 6, ground := Ground.data }, { on := 4, ground := Ground.guard }], guard := some (4, true) }
def oPP4 : Oper := { dst := some 148, op := Op.binOp BinOp.lss 3 (Operand.tmp 145) (Operand.tmp 147) 3, type := 4, pos := "outright.go:122", after := #[{ on := 5, ground := Ground.data }, { on := 7, ground := Ground.data }, { on := 4, ground := Ground.guard }], guard := some (4, true) }
def oPP5 : Oper := { dst := some 154, op := Op.indexAddr 33 (Operand.tmp 152) (Operand.tmp 153), type := 0, pos := "outright.go:123", after := #[{ on := 0, ground := Ground.data }, { on := 1, ground := Ground.data }], guard := none }
def oPP6 : Oper := { dst := some 155, op := Op.load 38 (Operand.tmp 154), type := 38, pos := "outright.go:123", after := #[{ on := 2, ground := Ground.data }], guard := none }
def oPP7 : Oper := { dst := some 156, op := Op.binOp BinOp.neq 38 (Operand.tmp 155) (Operand.const (Value.int IntKind.u8 0)) 38, type := 4, pos := "outright.go:123", after := #[{ on := 3, ground := Ground.data }], guard := none }
def oPP8 : Oper := { dst := some 164, op := Op.pick (Operand.tmp 157) (Operand.tmp 163) (Operand.const (Value.bool false)), type := 4, pos := "outright.go:123", after := #[{ on := 5, ground := Ground.data }, { on := 11, ground := Ground.data }], guard := none }
def oPP9 : Oper := { dst := some 174, op := Op.indexAddr 33 (Operand.tmp 172) (Operand.tmp 173), type := 0, pos := "outright.go:126", after := #[{ on := 0, ground := Ground.data }, { on := 1, ground := Ground.data }], guard := none }
def oPP10 : Oper := { dst := some 175, op := Op.load 38 (Operand.tmp 174), type := 38, pos := "outright.go:126", after := #[{ on := 2, ground := Ground.data }], guard := none }
def oPP11 : Oper := { dst := some 176, op := Op.binOp BinOp.neq 38 (Operand.tmp 175) (Operand.const (Value.int IntKind.u8 0)) 38, type := 4, pos := "outright.go:126", after := #[{ on := 3, ground := Ground.data }], guard := none }
def oPP12 : Oper := { dst := some 184, op := Op.pick (Operand.tmp 177) (Operand.tmp 183) (Operand.const (Value.bool false)), type := 4, pos := "outright.go:126", after := #[{ on := 5, ground := Ground.data }, { on := 11, ground := Ground.data }], guard := none }
def oPP13 : Oper := { dst := some 151, op := Op.binOp BinOp.add 3 (Operand.tmp 150) (Operand.const (Value.int IntKind.i64 1)) 3, type := 3, pos := "outright.go:122", after := #[{ on := 0, ground := Ground.data }], guard := none }
def oPP14 : Oper := { dst := some 160, op := Op.indexAddr 46 (Operand.tmp 158) (Operand.tmp 159), type := 0, pos := "outright.go:123", after := #[{ on := 6, ground := Ground.data }, { on := 7, ground := Ground.data }, { on := 5, ground := Ground.guard }], guard := some (5, true) }
def oPP15 : Oper := { dst := some 161, op := Op.fieldAddr 54 (Operand.tmp 160) 0, type := 0, pos := "outright.go:123", after := #[{ on := 8, ground := Ground.data }, { on := 5, ground := Ground.guard }], guard := some (5, true) }
def oPP16 : Oper := { dst := some 162, op := Op.load 52 (Operand.tmp 161), type := 52, pos := "outright.go:123", after := #[{ on := 9, ground := Ground.data }, { on := 5, ground := Ground.guard }], guard := some (5, true) }
def oPP17 : Oper := { dst := some 163, op := Op.binOp BinOp.eql 52 (Operand.tmp 162) (Operand.const (Value.int IntKind.u8 2)) 52, type := 4, pos := "outright.go:123", after := #[{ on := 10, ground := Ground.data }, { on := 5, ground := Ground.guard }], guard := some (5, true) }
def oPP18 : Oper := { dst := some 180, op := Op.indexAddr 46 (Operand.tmp 178) (Operand.tmp 179), type := 0, pos := "outright.go:126", after := #[{ on := 6, ground := Ground.data }, { on := 7, ground := Ground.data }, { on := 5, ground := Ground.guard }], guard := some (5, true) }
def oPP19 : Oper := { dst := some 181, op := Op.fieldAddr 54 (Operand.tmp 180) 0, type := 0, pos := "outright.go:126", after := #[{ on := 8, ground := Ground.data }, { on := 5, ground := Ground.guard }], guard := some (5, true) }
def oPP20 : Oper := { dst := some 182, op := Op.load 52 (Operand.tmp 181), type := 52, pos := "outright.go:126", after := #[{ on := 9, ground := Ground.data }, { on := 5, ground := Ground.guard }], guard := some (5, true) }
def oPP21 : Oper := { dst := some 183, op := Op.binOp BinOp.eql 52 (Operand.tmp 182) (Operand.const (Value.int IntKind.u8 1)) 52, type := 4, pos := "outright.go:126", after := #[{ on := 10, ground := Ground.data }, { on := 5, ground := Ground.guard }], guard := some (5, true) }
theorem anCs_at {l : List Wt} {i : Nat} {x : Wt} (h : l[i]? = some x) : ∀ k u, (anC x)[k]? = some u → (anCs l)[i * 3 + k]? = some u := by
  induction l generalizing i with
  | nil => cases h
  | cons y l ih =>
    intro k u hu
    have hk : k < 3 := by have := (List.getElem?_eq_some_iff.1 hu).1; simpa [anC] using this
    cases i with
    | zero =>
      have e : y = x := by simpa using h
      subst e
      show (anC y ++ anCs l)[0 * 3 + k]? = _
      rw [List.getElem?_append_left (by simp [anC]; omega), Nat.zero_mul, Nat.zero_add]; exact hu
    | succ i =>
      have := ih (i := i) (by simpa using h) k u hu
      show (anC y ++ anCs l)[(i + 1) * 3 + k]? = _
      rw [List.getElem?_append_right (by simp [anC]; omega)]
      rw [← this]
      congr 1
      simp [anC]; omega
theorem lenF_zero {f : Nat → Nat} : ∀ (W : List Wt) (k n : Nat), (∀ j, k ≤ j → f j = 0) → lenF f k W n = n
  | [], _, _, _ => rfl
  | x :: W, k, n, h => by
    show lenF f (k + 1) W (if f k = 0 then n else _) = n
    rw [if_pos (h k (Nat.le_refl _))]
    exact lenF_zero W (k + 1) n (fun j hj => h j (by omega))
theorem ppE {n nf i wc fc l : Nat} {wa fa : Option Addr} {v5 v7 v8 v13 v16 v19 : Value} {Q : Exit → Act → World → Prop} (a0 : Act) (wr : World) (I0 : IPN (.slice fa nf fc) v5 v7 v8 v13 (.slice wa n wc) v16 v19 a0) (h20 : a0.eval (.tmp 20) = .int .i64 (l : Int)) (h21 : a0.eval (.tmp 21) = .int .i64 (i : Int)) (hi : n ≤ i) (hQ : ∀ a, IPN (.slice fa nf fc) v5 v7 v8 v13 (.slice wa n wc) v16 v19 a → a.eval (.tmp 20) = .int .i64 (l : Int) → Q (.exit 4) a wr) : cPL3.wp Try.prog Q a0 wr := by
  have hii : ¬ (i : Int) < (n : Int) := by omega
  have hid : decide ((i : Int) < (n : Int)) = false := decide_eq_false hii
  clear hi
  have fa0_0 := Fe.refl a0
  unfold cPL3
  refine wp_seq (wp_seq ?_)
  refine wp_region_list ?_
  unfold rPL34
  refine fa0_0.move 140 (.int .i64 (i : Int)) _ (Or.inl rfl) rfl (lb_ I0.size) (wanted_none rfl) ((fa0_0.at_ 21).trans h21) (fun a0_1 fa0_1 => ?_)
  clear fa0_0
  refine fa0_1.move 141 (.slice wa n wc) _ (Or.inl rfl) rfl (lb_ I0.size) (wanted_none rfl) ((fa0_1.at_ 14).trans I0.s14) (fun a0_2 fa0_2 => ?_)
  clear fa0_1
  have r_a0_3 : (execOp a0_2.eval oPP0).run Try.prog (wr) = .ok (.value (.int .i64 (n : Int))) (wr) := by
    unfold oPP0
    have e141 := (show a0_2.eval (.tmp 141) = .slice wa n wc from (fa0_2.at_ 141))
    clear fa0_2 hQ h20 h21
    generalize a0_2.eval = ρ at *
    go_simp
  refine fa0_2.step 142 (.int .i64 (n : Int)) rfl (lb_ I0.size) (wanted_none rfl) r_a0_3 (fun a0_3 fa0_3 => ?_)
  clear r_a0_3
  clear fa0_2
  have r_a0_4 : (execOp a0_3.eval oPP1).run Try.prog (wr) = .ok (.value (.bool false)) (wr) := by
    unfold oPP1
    have e140 := (show a0_3.eval (.tmp 140) = .int .i64 (i : Int) from (fa0_3.at_ 140))
    have e142 := (show a0_3.eval (.tmp 142) = .int .i64 (n : Int) from (fa0_3.at_ 142))
    clear fa0_3 hQ h20 h21
    generalize a0_3.eval = ρ at *
    go_simp
  refine fa0_3.step 143 (.bool false) rfl (lb_ I0.size) (wanted_none rfl) r_a0_4 (fun a0_4 fa0_4 => ?_)
  clear r_a0_4
  clear fa0_3
  refine fa0_4.move 144 (.bool false) _ (Or.inl rfl) rfl (lb_ I0.size) (wanted_none rfl) (fa0_4.at_ 143) (fun a0_5 fa0_5 => ?_)
  clear fa0_4
  refine fa0_5.skip 145 rfl (lb_ I0.size) ((wanted_at (t := 144) (c := false) (b := true) rfl rfl rfl (lb_ (fa0_5.size.trans I0.size)) (fa0_5.at_ 144)).trans (by rfl)) (fun a0_6 fa0_6 => ?_)
  clear fa0_5
  refine fa0_6.skip 146 rfl (lb_ I0.size) ((wanted_at (t := 144) (c := false) (b := true) rfl rfl rfl (lb_ (fa0_6.size.trans I0.size)) (fa0_6.at_ 144)).trans (by rfl)) (fun a0_7 fa0_7 => ?_)
  clear fa0_6
  refine fa0_7.skip 147 rfl (lb_ I0.size) ((wanted_at (t := 144) (c := false) (b := true) rfl rfl rfl (lb_ (fa0_7.size.trans I0.size)) (fa0_7.at_ 144)).trans (by rfl)) (fun a0_8 fa0_8 => ?_)
  clear fa0_7
  refine fa0_8.skip 148 rfl (lb_ I0.size) ((wanted_at (t := 144) (c := false) (b := true) rfl rfl rfl (lb_ (fa0_8.size.trans I0.size)) (fa0_8.at_ 144)).trans (by rfl)) (fun a0_9 fa0_9 => ?_)
  clear fa0_8
  have r_a0_10 : (execOp a0_9.eval oPP2).run Try.prog (wr) = .ok (.value (.bool false)) (wr) := by
    unfold oPP2
    have kc : ∀ v, a0_9.eval (.const v) = v := fun _ => rfl
    have e144 := (show a0_9.eval (.tmp 144) = .bool false from (fa0_9.at_ 144))
    have e148 := (show a0_9.eval (.tmp 148) = undef from (fa0_9.at_ 148))
    clear fa0_9 hQ h20 h21
    generalize a0_9.eval = ρ at *
    go_simp
  refine fa0_9.step 149 (.bool false) rfl (lb_ I0.size) (wanted_none rfl) r_a0_10 (fun a0_10 fa0_10 => ?_)
  clear r_a0_10
  clear fa0_9
  refine wpList_nil ?_
  change Code.wp _ _ _ _ _
  refine wp_cond_false (show a0_10.eval (.tmp 149) = .bool false from (fa0_10.at_ 149)) (wp_exit ?_)
  exact hQ a0_10 (I0.keep fa0_10 rfl rfl rfl rfl rfl rfl rfl rfl) (show a0_10.eval (.tmp 20) = .int .i64 (l : Int) from ((fa0_10.at_ 20).trans h20))
theorem ppF {n nf i wc fc l : Nat} {wa fa : Option Addr} {v5 v7 v8 v13 v16 v19 : Value} {Q : Exit → Act → World → Prop} (a0 : Act) (wr : World) (I0 : IPN (.slice fa nf fc) v5 v7 v8 v13 (.slice wa n wc) v16 v19 a0) (h20 : a0.eval (.tmp 20) = .int .i64 (l : Int)) (h21 : a0.eval (.tmp 21) = .int .i64 (i : Int)) (hi : i < n) (hj : nf ≤ i) (hQ : ∀ a, IPN (.slice fa nf fc) v5 v7 v8 v13 (.slice wa n wc) v16 v19 a → a.eval (.tmp 20) = .int .i64 (l : Int) → Q (.exit 4) a wr) : cPL3.wp Try.prog Q a0 wr := by
  have hii : (i : Int) < (n : Int) := by omega
  have hji : ¬ (i : Int) < (nf : Int) := by omega
  have hid : decide ((i : Int) < (nf : Int)) = false := decide_eq_false hji
  clear hi hj
  have fa0_0 := Fe.refl a0
  unfold cPL3
  refine wp_seq (wp_seq ?_)
  refine wp_region_list ?_
  unfold rPL34
  refine fa0_0.move 140 (.int .i64 (i : Int)) _ (Or.inl rfl) rfl (lb_ I0.size) (wanted_none rfl) ((fa0_0.at_ 21).trans h21) (fun a0_1 fa0_1 => ?_)
  clear fa0_0
  refine fa0_1.move 141 (.slice wa n wc) _ (Or.inl rfl) rfl (lb_ I0.size) (wanted_none rfl) ((fa0_1.at_ 14).trans I0.s14) (fun a0_2 fa0_2 => ?_)
  clear fa0_1
  have r_a0_3 : (execOp a0_2.eval oPP0).run Try.prog (wr) = .ok (.value (.int .i64 (n : Int))) (wr) := by
    unfold oPP0
    have e141 := (show a0_2.eval (.tmp 141) = .slice wa n wc from (fa0_2.at_ 141))
    clear fa0_2 hQ h20 h21
    generalize a0_2.eval = ρ at *
    go_simp
  refine fa0_2.step 142 (.int .i64 (n : Int)) rfl (lb_ I0.size) (wanted_none rfl) r_a0_3 (fun a0_3 fa0_3 => ?_)
  clear r_a0_3
  clear fa0_2
  have r_a0_4 : (execOp a0_3.eval oPP1).run Try.prog (wr) = .ok (.value (.bool true)) (wr) := by
    unfold oPP1
    have e140 := (show a0_3.eval (.tmp 140) = .int .i64 (i : Int) from (fa0_3.at_ 140))
    have e142 := (show a0_3.eval (.tmp 142) = .int .i64 (n : Int) from (fa0_3.at_ 142))
    clear fa0_3 hQ h20 h21
    generalize a0_3.eval = ρ at *
    go_simp
  refine fa0_3.step 143 (.bool true) rfl (lb_ I0.size) (wanted_none rfl) r_a0_4 (fun a0_4 fa0_4 => ?_)
  clear r_a0_4
  clear fa0_3
  refine fa0_4.move 144 (.bool true) _ (Or.inl rfl) rfl (lb_ I0.size) (wanted_none rfl) (fa0_4.at_ 143) (fun a0_5 fa0_5 => ?_)
  clear fa0_4
  refine fa0_5.move 145 (.int .i64 (i : Int)) _ (Or.inl rfl) rfl (lb_ I0.size) ((wanted_at (t := 144) (c := true) (b := true) rfl rfl rfl (lb_ (fa0_5.size.trans I0.size)) (fa0_5.at_ 144)).trans (by rfl)) ((fa0_5.at_ 21).trans h21) (fun a0_6 fa0_6 => ?_)
  clear fa0_5
  refine fa0_6.move 146 (.slice fa nf fc) _ (Or.inl rfl) rfl (lb_ I0.size) ((wanted_at (t := 144) (c := true) (b := true) rfl rfl rfl (lb_ (fa0_6.size.trans I0.size)) (fa0_6.at_ 144)).trans (by rfl)) ((fa0_6.at_ 1).trans I0.s1) (fun a0_7 fa0_7 => ?_)
  clear fa0_6
  have r_a0_8 : (execOp a0_7.eval oPP3).run Try.prog (wr) = .ok (.value (.int .i64 (nf : Int))) (wr) := by
    unfold oPP3
    have e146 := (show a0_7.eval (.tmp 146) = .slice fa nf fc from (fa0_7.at_ 146))
    clear fa0_7 hQ h20 h21
    generalize a0_7.eval = ρ at *
    go_simp
  refine fa0_7.step 147 (.int .i64 (nf : Int)) rfl (lb_ I0.size) ((wanted_at (t := 144) (c := true) (b := true) rfl rfl rfl (lb_ (fa0_7.size.trans I0.size)) (fa0_7.at_ 144)).trans (by rfl)) r_a0_8 (fun a0_8 fa0_8 => ?_)
  clear r_a0_8
  clear fa0_7
  have r_a0_9 : (execOp a0_8.eval oPP4).run Try.prog (wr) = .ok (.value (.bool false)) (wr) := by
    unfold oPP4
    have e145 := (show a0_8.eval (.tmp 145) = .int .i64 (i : Int) from (fa0_8.at_ 145))
    have e147 := (show a0_8.eval (.tmp 147) = .int .i64 (nf : Int) from (fa0_8.at_ 147))
    clear fa0_8 hQ h20 h21
    generalize a0_8.eval = ρ at *
    go_simp
  refine fa0_8.step 148 (.bool false) rfl (lb_ I0.size) ((wanted_at (t := 144) (c := true) (b := true) rfl rfl rfl (lb_ (fa0_8.size.trans I0.size)) (fa0_8.at_ 144)).trans (by rfl)) r_a0_9 (fun a0_9 fa0_9 => ?_)
  clear r_a0_9
  clear fa0_8
  have r_a0_10 : (execOp a0_9.eval oPP2).run Try.prog (wr) = .ok (.value (.bool false)) (wr) := by
    unfold oPP2
    have kc : ∀ v, a0_9.eval (.const v) = v := fun _ => rfl
    have e144 := (show a0_9.eval (.tmp 144) = .bool true from (fa0_9.at_ 144))
    have e148 := (show a0_9.eval (.tmp 148) = .bool false from (fa0_9.at_ 148))
    clear fa0_9 hQ h20 h21
    generalize a0_9.eval = ρ at *
    go_simp
  refine fa0_9.step 149 (.bool false) rfl (lb_ I0.size) (wanted_none rfl) r_a0_10 (fun a0_10 fa0_10 => ?_)
  clear r_a0_10
  clear fa0_9
  refine wpList_nil ?_
  change Code.wp _ _ _ _ _
  refine wp_cond_false (show a0_10.eval (.tmp 149) = .bool false from (fa0_10.at_ 149)) (wp_exit ?_)
  exact hQ a0_10 (I0.keep fa0_10 rfl rfl rfl rfl rfl rfl rfl rfl) (show a0_10.eval (.tmp 20) = .int .i64 (l : Int) from ((fa0_10.at_ 20).trans h20))
set_option maxRecDepth 100000 in
set_option maxHeartbeats 1000000 in
theorem ppA {n nf i wc fc l gw gf q : Nat} {v5 v7 v8 v13 v16 v19 : Value} {Q : Exit → Act → World → Prop} (a0 : Act) (wr : World) (I0 : IPN (.slice (some ⟨gf, q, none⟩) nf fc) v5 v7 v8 v13 (.slice (some ⟨gw, 0, none⟩) n wc) v16 v19 a0) (h20 : a0.eval (.tmp 20) = .int .i64 (l : Int)) (h21 : a0.eval (.tmp 21) = .int .i64 (i : Int)) (hi : i < n) (hj : i < nf) (hn : n ≤ 1048576) (cf : wr.cell? ⟨gf, q + i, none⟩ = some (.int .u8 0))
    (hQ : ∀ a, IPN (.slice (some ⟨gf, q, none⟩) nf fc) v5 v7 v8 v13 (.slice (some ⟨gw, 0, none⟩) n wc) v16 v19 a → a.eval (.tmp 20) = .int .i64 (l : Int) → a.eval (.tmp 21) = .int .i64 ((i : Int) + 1) → Q .normal a wr) : cPL3.wp Try.prog Q a0 wr := by
  have hii : (i : Int) < (n : Int) := by omega
  have hjj : (i : Int) < (nf : Int) := by omega
  have w1 : IntKind.i64.wrap ((i : Int) + 1) = (i : Int) + 1 := by rw [IntKind.wrap_i64]; omega
  have fa0_0 := Fe.refl a0
  unfold cPL3
  refine wp_seq (wp_seq ?_)
  refine wp_region_list ?_
  unfold rPL34
  refine fa0_0.move 140 (.int .i64 (i : Int)) _ (Or.inl rfl) rfl (lb_ I0.size) (wanted_none rfl) ((fa0_0.at_ 21).trans h21) (fun a0_1 fa0_1 => ?_)
  clear fa0_0
  refine fa0_1.move 141 (.slice (some ⟨gw, 0, none⟩) n wc) _ (Or.inl rfl) rfl (lb_ I0.size) (wanted_none rfl) ((fa0_1.at_ 14).trans I0.s14) (fun a0_2 fa0_2 => ?_)
  clear fa0_1
  have r_a0_3 : (execOp a0_2.eval oPP0).run Try.prog (wr) = .ok (.value (.int .i64 (n : Int))) (wr) := by
    unfold oPP0
    have e141 := (show a0_2.eval (.tmp 141) = .slice (some ⟨gw, 0, none⟩) n wc from (fa0_2.at_ 141))
    clear fa0_2 hQ h20 h21
    generalize a0_2.eval = ρ at *
    go_simp
  refine fa0_2.step 142 (.int .i64 (n : Int)) rfl (lb_ I0.size) (wanted_none rfl) r_a0_3 (fun a0_3 fa0_3 => ?_)
  clear r_a0_3
  clear fa0_2
  have r_a0_4 : (execOp a0_3.eval oPP1).run Try.prog (wr) = .ok (.value (.bool true)) (wr) := by
    unfold oPP1
    have e140 := (show a0_3.eval (.tmp 140) = .int .i64 (i : Int) from (fa0_3.at_ 140))
    have e142 := (show a0_3.eval (.tmp 142) = .int .i64 (n : Int) from (fa0_3.at_ 142))
    clear fa0_3 hQ h20 h21
    generalize a0_3.eval = ρ at *
    go_simp
  refine fa0_3.step 143 (.bool true) rfl (lb_ I0.size) (wanted_none rfl) r_a0_4 (fun a0_4 fa0_4 => ?_)
  clear r_a0_4
  clear fa0_3
  refine fa0_4.move 144 (.bool true) _ (Or.inl rfl) rfl (lb_ I0.size) (wanted_none rfl) (fa0_4.at_ 143) (fun a0_5 fa0_5 => ?_)
  clear fa0_4
  refine fa0_5.move 145 (.int .i64 (i : Int)) _ (Or.inl rfl) rfl (lb_ I0.size) ((wanted_at (t := 144) (c := true) (b := true) rfl rfl rfl (lb_ (fa0_5.size.trans I0.size)) (fa0_5.at_ 144)).trans (by rfl)) ((fa0_5.at_ 21).trans h21) (fun a0_6 fa0_6 => ?_)
  clear fa0_5
  refine fa0_6.move 146 (.slice (some ⟨gf, q, none⟩) nf fc) _ (Or.inl rfl) rfl (lb_ I0.size) ((wanted_at (t := 144) (c := true) (b := true) rfl rfl rfl (lb_ (fa0_6.size.trans I0.size)) (fa0_6.at_ 144)).trans (by rfl)) ((fa0_6.at_ 1).trans I0.s1) (fun a0_7 fa0_7 => ?_)
  clear fa0_6
  have r_a0_8 : (execOp a0_7.eval oPP3).run Try.prog (wr) = .ok (.value (.int .i64 (nf : Int))) (wr) := by
    unfold oPP3
    have e146 := (show a0_7.eval (.tmp 146) = .slice (some ⟨gf, q, none⟩) nf fc from (fa0_7.at_ 146))
    clear fa0_7 hQ h20 h21
    generalize a0_7.eval = ρ at *
    go_simp
  refine fa0_7.step 147 (.int .i64 (nf : Int)) rfl (lb_ I0.size) ((wanted_at (t := 144) (c := true) (b := true) rfl rfl rfl (lb_ (fa0_7.size.trans I0.size)) (fa0_7.at_ 144)).trans (by rfl)) r_a0_8 (fun a0_8 fa0_8 => ?_)
  clear r_a0_8
  clear fa0_7
  have r_a0_9 : (execOp a0_8.eval oPP4).run Try.prog (wr) = .ok (.value (.bool true)) (wr) := by
    unfold oPP4
    have e145 := (show a0_8.eval (.tmp 145) = .int .i64 (i : Int) from (fa0_8.at_ 145))
    have e147 := (show a0_8.eval (.tmp 147) = .int .i64 (nf : Int) from (fa0_8.at_ 147))
    clear fa0_8 hQ h20 h21
    generalize a0_8.eval = ρ at *
    go_simp
  refine fa0_8.step 148 (.bool true) rfl (lb_ I0.size) ((wanted_at (t := 144) (c := true) (b := true) rfl rfl rfl (lb_ (fa0_8.size.trans I0.size)) (fa0_8.at_ 144)).trans (by rfl)) r_a0_9 (fun a0_9 fa0_9 => ?_)
  clear r_a0_9
  clear fa0_8
  have r_a0_10 : (execOp a0_9.eval oPP2).run Try.prog (wr) = .ok (.value (.bool true)) (wr) := by
    unfold oPP2
    have kc : ∀ v, a0_9.eval (.const v) = v := fun _ => rfl
    have e144 := (show a0_9.eval (.tmp 144) = .bool true from (fa0_9.at_ 144))
    have e148 := (show a0_9.eval (.tmp 148) = .bool true from (fa0_9.at_ 148))
    clear fa0_9 hQ h20 h21
    generalize a0_9.eval = ρ at *
    go_simp
  refine fa0_9.step 149 (.bool true) rfl (lb_ I0.size) (wanted_none rfl) r_a0_10 (fun a0_10 fa0_10 => ?_)
  clear r_a0_10
  clear fa0_9
  refine wpList_nil ?_
  change Code.wp _ _ _ _ _
  refine wp_cond_true (show a0_10.eval (.tmp 149) = .bool true from (fa0_10.at_ 149)) (wp_skip ?_)
  change Code.wp _ _ _ _ _
  refine wp_seq (wp_block (wp_seq (wp_seq ?_)))
  refine wp_region_list ?_
  unfold rPL36
  refine fa0_10.move 152 (.slice (some ⟨gf, q, none⟩) nf fc) _ (Or.inl rfl) rfl (lb_ I0.size) (wanted_none rfl) ((fa0_10.at_ 1).trans I0.s1) (fun a0_11 fa0_11 => ?_)
  clear fa0_10
  refine fa0_11.move 153 (.int .i64 (i : Int)) _ (Or.inl rfl) rfl (lb_ I0.size) (wanted_none rfl) ((fa0_11.at_ 21).trans h21) (fun a0_12 fa0_12 => ?_)
  clear fa0_11
  have r_a0_13 : (execOp a0_12.eval oPP5).run Try.prog (wr) = .ok (.value (.pointer (some ⟨gf, q + i, none⟩))) (wr) := by
    unfold oPP5
    have e152 := (show a0_12.eval (.tmp 152) = .slice (some ⟨gf, q, none⟩) nf fc from (fa0_12.at_ 152))
    have e153 := (show a0_12.eval (.tmp 153) = .int .i64 (i : Int) from (fa0_12.at_ 153))
    clear fa0_12 hQ h20 h21
    generalize a0_12.eval = ρ at *
    go_simp
  refine fa0_12.step 154 (.pointer (some ⟨gf, q + i, none⟩)) rfl (lb_ I0.size) (wanted_none rfl) r_a0_13 (fun a0_13 fa0_13 => ?_)
  clear r_a0_13
  clear fa0_12
  have r_a0_14 : (execOp a0_13.eval oPP6).run Try.prog (wr) = .ok (.value (.int .u8 0)) (wr) := by
    unfold oPP6
    have e154 := (show a0_13.eval (.tmp 154) = .pointer (some ⟨gf, q + i, none⟩) from (fa0_13.at_ 154))
    clear fa0_13 hQ h20 h21
    generalize a0_13.eval = ρ at *
    go_simp
  refine fa0_13.step 155 (.int .u8 0) rfl (lb_ I0.size) (wanted_none rfl) r_a0_14 (fun a0_14 fa0_14 => ?_)
  clear r_a0_14
  clear fa0_13
  have r_a0_15 : (execOp a0_14.eval oPP7).run Try.prog (wr) = .ok (.value (.bool false)) (wr) := by
    unfold oPP7
    have kc : ∀ v, a0_14.eval (.const v) = v := fun _ => rfl
    have e155 := (show a0_14.eval (.tmp 155) = .int .u8 0 from (fa0_14.at_ 155))
    clear fa0_14 hQ h20 h21
    generalize a0_14.eval = ρ at *
    go_simp
  refine fa0_14.step 156 (.bool false) rfl (lb_ I0.size) (wanted_none rfl) r_a0_15 (fun a0_15 fa0_15 => ?_)
  clear r_a0_15
  clear fa0_14
  refine fa0_15.move 157 (.bool false) _ (Or.inl rfl) rfl (lb_ I0.size) (wanted_none rfl) (fa0_15.at_ 156) (fun a0_16 fa0_16 => ?_)
  clear fa0_15
  refine fa0_16.skip 158 rfl (lb_ I0.size) ((wanted_at (t := 157) (c := false) (b := true) rfl rfl rfl (lb_ (fa0_16.size.trans I0.size)) (fa0_16.at_ 157)).trans (by rfl)) (fun a0_17 fa0_17 => ?_)
  clear fa0_16
  refine fa0_17.skip 159 rfl (lb_ I0.size) ((wanted_at (t := 157) (c := false) (b := true) rfl rfl rfl (lb_ (fa0_17.size.trans I0.size)) (fa0_17.at_ 157)).trans (by rfl)) (fun a0_18 fa0_18 => ?_)
  clear fa0_17
  refine fa0_18.skip 160 rfl (lb_ I0.size) ((wanted_at (t := 157) (c := false) (b := true) rfl rfl rfl (lb_ (fa0_18.size.trans I0.size)) (fa0_18.at_ 157)).trans (by rfl)) (fun a0_19 fa0_19 => ?_)
  clear fa0_18
  refine fa0_19.skip 161 rfl (lb_ I0.size) ((wanted_at (t := 157) (c := false) (b := true) rfl rfl rfl (lb_ (fa0_19.size.trans I0.size)) (fa0_19.at_ 157)).trans (by rfl)) (fun a0_20 fa0_20 => ?_)
  clear fa0_19
  refine fa0_20.skip 162 rfl (lb_ I0.size) ((wanted_at (t := 157) (c := false) (b := true) rfl rfl rfl (lb_ (fa0_20.size.trans I0.size)) (fa0_20.at_ 157)).trans (by rfl)) (fun a0_21 fa0_21 => ?_)
  clear fa0_20
  refine fa0_21.skip 163 rfl (lb_ I0.size) ((wanted_at (t := 157) (c := false) (b := true) rfl rfl rfl (lb_ (fa0_21.size.trans I0.size)) (fa0_21.at_ 157)).trans (by rfl)) (fun a0_22 fa0_22 => ?_)
  clear fa0_21
  have r_a0_23 : (execOp a0_22.eval oPP8).run Try.prog (wr) = .ok (.value (.bool false)) (wr) := by
    unfold oPP8
    have kc : ∀ v, a0_22.eval (.const v) = v := fun _ => rfl
    have e157 := (show a0_22.eval (.tmp 157) = .bool false from (fa0_22.at_ 157))
    have e163 := (show a0_22.eval (.tmp 163) = undef from (fa0_22.at_ 163))
    clear fa0_22 hQ h20 h21
    generalize a0_22.eval = ρ at *
    go_simp
  refine fa0_22.step 164 (.bool false) rfl (lb_ I0.size) (wanted_none rfl) r_a0_23 (fun a0_23 fa0_23 => ?_)
  clear r_a0_23
  clear fa0_22
  refine wpList_nil ?_
  change Code.wp _ _ _ _ _
  refine wp_cond_false (show a0_23.eval (.tmp 164) = .bool false from (fa0_23.at_ 164)) (wp_skip ?_)
  change Code.wp _ _ _ _ _
  refine wp_seq ?_
  refine wp_region_list ?_
  unfold rPL38
  refine fa0_23.move 172 (.slice (some ⟨gf, q, none⟩) nf fc) _ (Or.inl rfl) rfl (lb_ I0.size) (wanted_none rfl) ((fa0_23.at_ 1).trans I0.s1) (fun a0_24 fa0_24 => ?_)
  clear fa0_23
  refine fa0_24.move 173 (.int .i64 (i : Int)) _ (Or.inl rfl) rfl (lb_ I0.size) (wanted_none rfl) ((fa0_24.at_ 21).trans h21) (fun a0_25 fa0_25 => ?_)
  clear fa0_24
  have r_a0_26 : (execOp a0_25.eval oPP9).run Try.prog (wr) = .ok (.value (.pointer (some ⟨gf, q + i, none⟩))) (wr) := by
    unfold oPP9
    have e172 := (show a0_25.eval (.tmp 172) = .slice (some ⟨gf, q, none⟩) nf fc from (fa0_25.at_ 172))
    have e173 := (show a0_25.eval (.tmp 173) = .int .i64 (i : Int) from (fa0_25.at_ 173))
    clear fa0_25 hQ h20 h21
    generalize a0_25.eval = ρ at *
    go_simp
  refine fa0_25.step 174 (.pointer (some ⟨gf, q + i, none⟩)) rfl (lb_ I0.size) (wanted_none rfl) r_a0_26 (fun a0_26 fa0_26 => ?_)
  clear r_a0_26
  clear fa0_25
  have r_a0_27 : (execOp a0_26.eval oPP10).run Try.prog (wr) = .ok (.value (.int .u8 0)) (wr) := by
    unfold oPP10
    have e174 := (show a0_26.eval (.tmp 174) = .pointer (some ⟨gf, q + i, none⟩) from (fa0_26.at_ 174))
    clear fa0_26 hQ h20 h21
    generalize a0_26.eval = ρ at *
    go_simp
  refine fa0_26.step 175 (.int .u8 0) rfl (lb_ I0.size) (wanted_none rfl) r_a0_27 (fun a0_27 fa0_27 => ?_)
  clear r_a0_27
  clear fa0_26
  have r_a0_28 : (execOp a0_27.eval oPP11).run Try.prog (wr) = .ok (.value (.bool false)) (wr) := by
    unfold oPP11
    have kc : ∀ v, a0_27.eval (.const v) = v := fun _ => rfl
    have e175 := (show a0_27.eval (.tmp 175) = .int .u8 0 from (fa0_27.at_ 175))
    clear fa0_27 hQ h20 h21
    generalize a0_27.eval = ρ at *
    go_simp
  refine fa0_27.step 176 (.bool false) rfl (lb_ I0.size) (wanted_none rfl) r_a0_28 (fun a0_28 fa0_28 => ?_)
  clear r_a0_28
  clear fa0_27
  refine fa0_28.move 177 (.bool false) _ (Or.inl rfl) rfl (lb_ I0.size) (wanted_none rfl) (fa0_28.at_ 176) (fun a0_29 fa0_29 => ?_)
  clear fa0_28
  refine fa0_29.skip 178 rfl (lb_ I0.size) ((wanted_at (t := 177) (c := false) (b := true) rfl rfl rfl (lb_ (fa0_29.size.trans I0.size)) (fa0_29.at_ 177)).trans (by rfl)) (fun a0_30 fa0_30 => ?_)
  clear fa0_29
  refine fa0_30.skip 179 rfl (lb_ I0.size) ((wanted_at (t := 177) (c := false) (b := true) rfl rfl rfl (lb_ (fa0_30.size.trans I0.size)) (fa0_30.at_ 177)).trans (by rfl)) (fun a0_31 fa0_31 => ?_)
  clear fa0_30
  refine fa0_31.skip 180 rfl (lb_ I0.size) ((wanted_at (t := 177) (c := false) (b := true) rfl rfl rfl (lb_ (fa0_31.size.trans I0.size)) (fa0_31.at_ 177)).trans (by rfl)) (fun a0_32 fa0_32 => ?_)
  clear fa0_31
  refine fa0_32.skip 181 rfl (lb_ I0.size) ((wanted_at (t := 177) (c := false) (b := true) rfl rfl rfl (lb_ (fa0_32.size.trans I0.size)) (fa0_32.at_ 177)).trans (by rfl)) (fun a0_33 fa0_33 => ?_)
  clear fa0_32
  refine fa0_33.skip 182 rfl (lb_ I0.size) ((wanted_at (t := 177) (c := false) (b := true) rfl rfl rfl (lb_ (fa0_33.size.trans I0.size)) (fa0_33.at_ 177)).trans (by rfl)) (fun a0_34 fa0_34 => ?_)
  clear fa0_33
  refine fa0_34.skip 183 rfl (lb_ I0.size) ((wanted_at (t := 177) (c := false) (b := true) rfl rfl rfl (lb_ (fa0_34.size.trans I0.size)) (fa0_34.at_ 177)).trans (by rfl)) (fun a0_35 fa0_35 => ?_)
  clear fa0_34
  have r_a0_36 : (execOp a0_35.eval oPP12).run Try.prog (wr) = .ok (.value (.bool false)) (wr) := by
    unfold oPP12
    have kc : ∀ v, a0_35.eval (.const v) = v := fun _ => rfl
    have e177 := (show a0_35.eval (.tmp 177) = .bool false from (fa0_35.at_ 177))
    have e183 := (show a0_35.eval (.tmp 183) = undef from (fa0_35.at_ 183))
    clear fa0_35 hQ h20 h21
    generalize a0_35.eval = ρ at *
    go_simp
  refine fa0_35.step 184 (.bool false) rfl (lb_ I0.size) (wanted_none rfl) r_a0_36 (fun a0_36 fa0_36 => ?_)
  clear r_a0_36
  clear fa0_35
  refine wpList_nil ?_
  change Code.wp _ _ _ _ _
  refine wp_cond_false (show a0_36.eval (.tmp 184) = .bool false from (fa0_36.at_ 184)) (wp_skip ?_)
  change Code.wp _ _ _ _ _
  refine wp_region_list ?_
  unfold rPL35
  refine fa0_36.move 150 (.int .i64 (i : Int)) _ (Or.inl rfl) rfl (lb_ I0.size) (wanted_none rfl) ((fa0_36.at_ 21).trans h21) (fun a0_37 fa0_37 => ?_)
  clear fa0_36
  have r_a0_38 : (execOp a0_37.eval oPP13).run Try.prog (wr) = .ok (.value (.int .i64 ((i : Int) + 1))) (wr) := by
    unfold oPP13
    have kc : ∀ v, a0_37.eval (.const v) = v := fun _ => rfl
    have e150 := (show a0_37.eval (.tmp 150) = .int .i64 (i : Int) from (fa0_37.at_ 150))
    clear fa0_37 hQ h20 h21
    generalize a0_37.eval = ρ at *
    go_simp
  refine fa0_37.step 151 (.int .i64 ((i : Int) + 1)) rfl (lb_ I0.size) (wanted_none rfl) r_a0_38 (fun a0_38 fa0_38 => ?_)
  clear r_a0_38
  clear fa0_37
  refine fa0_38.move 21 (.int .i64 ((i : Int) + 1)) _ (Or.inr rfl) rfl (lb_ I0.size) (wanted_none rfl) (fa0_38.at_ 151) (fun a0_39 fa0_39 => ?_)
  clear fa0_38
  refine wpList_nil ?_
  exact hQ a0_39 (I0.keep fa0_39 rfl rfl rfl rfl rfl rfl rfl rfl) (show a0_39.eval (.tmp 20) = .int .i64 (l : Int) from ((fa0_39.at_ 20).trans h20)) (show a0_39.eval (.tmp 21) = .int .i64 ((i : Int) + 1) from (fa0_39.at_ 21))
set_option maxRecDepth 100000 in
set_option maxHeartbeats 1000000 in
theorem ppG {n nf i wc fc l gw gf q x y : Nat} {v5 v7 v8 v13 v16 v19 : Value} {Q : Exit → Act → World → Prop} (a0 : Act) (wr : World) (I0 : IPN (.slice (some ⟨gf, q, none⟩) nf fc) v5 v7 v8 v13 (.slice (some ⟨gw, 0, none⟩) n wc) v16 v19 a0) (h20 : a0.eval (.tmp 20) = .int .i64 (l : Int)) (h21 : a0.eval (.tmp 21) = .int .i64 (i : Int)) (hi : i < n) (hj : i < nf) (hn : n ≤ 1048576) (cf : wr.cell? ⟨gf, q + i, none⟩ = some (.int .u8 (x : Int))) (hx : ¬ x = 0) (c0 : wr.cell? ⟨gw, i * 3, none⟩ = some (.int .u8 2)) (c2 : wr.cell? ⟨gw, i * 3 + 2, none⟩ = some (.int .i64 (y : Int)))
    (hQ : ∀ a, IPN (.slice (some ⟨gf, q, none⟩) nf fc) v5 v7 v8 v13 (.slice (some ⟨gw, 0, none⟩) n wc) v16 v19 a → a.eval (.tmp 20) = .int .i64 ((max l y : Nat) : Int) → a.eval (.tmp 21) = .int .i64 ((i : Int) + 1) → Q .normal a wr) : cPL3.wp Try.prog Q a0 wr := by
  have hii : (i : Int) < (n : Int) := by omega
  have hjj : (i : Int) < (nf : Int) := by omega
  have w1 : IntKind.i64.wrap ((i : Int) + 1) = (i : Int) + 1 := by rw [IntKind.wrap_i64]; omega
  have fa0_0 := Fe.refl a0
  unfold cPL3
  refine wp_seq (wp_seq ?_)
  refine wp_region_list ?_
  unfold rPL34
  refine fa0_0.move 140 (.int .i64 (i : Int)) _ (Or.inl rfl) rfl (lb_ I0.size) (wanted_none rfl) ((fa0_0.at_ 21).trans h21) (fun a0_1 fa0_1 => ?_)
  clear fa0_0
  refine fa0_1.move 141 (.slice (some ⟨gw, 0, none⟩) n wc) _ (Or.inl rfl) rfl (lb_ I0.size) (wanted_none rfl) ((fa0_1.at_ 14).trans I0.s14) (fun a0_2 fa0_2 => ?_)
  clear fa0_1
  have r_a0_3 : (execOp a0_2.eval oPP0).run Try.prog (wr) = .ok (.value (.int .i64 (n : Int))) (wr) := by
    unfold oPP0
    have e141 := (show a0_2.eval (.tmp 141) = .slice (some ⟨gw, 0, none⟩) n wc from (fa0_2.at_ 141))
    clear fa0_2 hQ h20 h21
    generalize a0_2.eval = ρ at *
    go_simp
  refine fa0_2.step 142 (.int .i64 (n : Int)) rfl (lb_ I0.size) (wanted_none rfl) r_a0_3 (fun a0_3 fa0_3 => ?_)
  clear r_a0_3
  clear fa0_2
  have r_a0_4 : (execOp a0_3.eval oPP1).run Try.prog (wr) = .ok (.value (.bool true)) (wr) := by
    unfold oPP1
    have e140 := (show a0_3.eval (.tmp 140) = .int .i64 (i : Int) from (fa0_3.at_ 140))
    have e142 := (show a0_3.eval (.tmp 142) = .int .i64 (n : Int) from (fa0_3.at_ 142))
    clear fa0_3 hQ h20 h21
    generalize a0_3.eval = ρ at *
    go_simp
  refine fa0_3.step 143 (.bool true) rfl (lb_ I0.size) (wanted_none rfl) r_a0_4 (fun a0_4 fa0_4 => ?_)
  clear r_a0_4
  clear fa0_3
  refine fa0_4.move 144 (.bool true) _ (Or.inl rfl) rfl (lb_ I0.size) (wanted_none rfl) (fa0_4.at_ 143) (fun a0_5 fa0_5 => ?_)
  clear fa0_4
  refine fa0_5.move 145 (.int .i64 (i : Int)) _ (Or.inl rfl) rfl (lb_ I0.size) ((wanted_at (t := 144) (c := true) (b := true) rfl rfl rfl (lb_ (fa0_5.size.trans I0.size)) (fa0_5.at_ 144)).trans (by rfl)) ((fa0_5.at_ 21).trans h21) (fun a0_6 fa0_6 => ?_)
  clear fa0_5
  refine fa0_6.move 146 (.slice (some ⟨gf, q, none⟩) nf fc) _ (Or.inl rfl) rfl (lb_ I0.size) ((wanted_at (t := 144) (c := true) (b := true) rfl rfl rfl (lb_ (fa0_6.size.trans I0.size)) (fa0_6.at_ 144)).trans (by rfl)) ((fa0_6.at_ 1).trans I0.s1) (fun a0_7 fa0_7 => ?_)
  clear fa0_6
  have r_a0_8 : (execOp a0_7.eval oPP3).run Try.prog (wr) = .ok (.value (.int .i64 (nf : Int))) (wr) := by
    unfold oPP3
    have e146 := (show a0_7.eval (.tmp 146) = .slice (some ⟨gf, q, none⟩) nf fc from (fa0_7.at_ 146))
    clear fa0_7 hQ h20 h21
    generalize a0_7.eval = ρ at *
    go_simp
  refine fa0_7.step 147 (.int .i64 (nf : Int)) rfl (lb_ I0.size) ((wanted_at (t := 144) (c := true) (b := true) rfl rfl rfl (lb_ (fa0_7.size.trans I0.size)) (fa0_7.at_ 144)).trans (by rfl)) r_a0_8 (fun a0_8 fa0_8 => ?_)
  clear r_a0_8
  clear fa0_7
  have r_a0_9 : (execOp a0_8.eval oPP4).run Try.prog (wr) = .ok (.value (.bool true)) (wr) := by
    unfold oPP4
    have e145 := (show a0_8.eval (.tmp 145) = .int .i64 (i : Int) from (fa0_8.at_ 145))
    have e147 := (show a0_8.eval (.tmp 147) = .int .i64 (nf : Int) from (fa0_8.at_ 147))
    clear fa0_8 hQ h20 h21
    generalize a0_8.eval = ρ at *
    go_simp
  refine fa0_8.step 148 (.bool true) rfl (lb_ I0.size) ((wanted_at (t := 144) (c := true) (b := true) rfl rfl rfl (lb_ (fa0_8.size.trans I0.size)) (fa0_8.at_ 144)).trans (by rfl)) r_a0_9 (fun a0_9 fa0_9 => ?_)
  clear r_a0_9
  clear fa0_8
  have r_a0_10 : (execOp a0_9.eval oPP2).run Try.prog (wr) = .ok (.value (.bool true)) (wr) := by
    unfold oPP2
    have kc : ∀ v, a0_9.eval (.const v) = v := fun _ => rfl
    have e144 := (show a0_9.eval (.tmp 144) = .bool true from (fa0_9.at_ 144))
    have e148 := (show a0_9.eval (.tmp 148) = .bool true from (fa0_9.at_ 148))
    clear fa0_9 hQ h20 h21
    generalize a0_9.eval = ρ at *
    go_simp
  refine fa0_9.step 149 (.bool true) rfl (lb_ I0.size) (wanted_none rfl) r_a0_10 (fun a0_10 fa0_10 => ?_)
  clear r_a0_10
  clear fa0_9
  refine wpList_nil ?_
  change Code.wp _ _ _ _ _
  refine wp_cond_true (show a0_10.eval (.tmp 149) = .bool true from (fa0_10.at_ 149)) (wp_skip ?_)
  change Code.wp _ _ _ _ _
  refine wp_seq (wp_block (wp_seq (wp_seq ?_)))
  refine wp_region_list ?_
  unfold rPL36
  refine fa0_10.move 152 (.slice (some ⟨gf, q, none⟩) nf fc) _ (Or.inl rfl) rfl (lb_ I0.size) (wanted_none rfl) ((fa0_10.at_ 1).trans I0.s1) (fun a0_11 fa0_11 => ?_)
  clear fa0_10
  refine fa0_11.move 153 (.int .i64 (i : Int)) _ (Or.inl rfl) rfl (lb_ I0.size) (wanted_none rfl) ((fa0_11.at_ 21).trans h21) (fun a0_12 fa0_12 => ?_)
  clear fa0_11
  have r_a0_13 : (execOp a0_12.eval oPP5).run Try.prog (wr) = .ok (.value (.pointer (some ⟨gf, q + i, none⟩))) (wr) := by
    unfold oPP5
    have e152 := (show a0_12.eval (.tmp 152) = .slice (some ⟨gf, q, none⟩) nf fc from (fa0_12.at_ 152))
    have e153 := (show a0_12.eval (.tmp 153) = .int .i64 (i : Int) from (fa0_12.at_ 153))
    clear fa0_12 hQ h20 h21
    generalize a0_12.eval = ρ at *
    go_simp
  refine fa0_12.step 154 (.pointer (some ⟨gf, q + i, none⟩)) rfl (lb_ I0.size) (wanted_none rfl) r_a0_13 (fun a0_13 fa0_13 => ?_)
  clear r_a0_13
  clear fa0_12
  have r_a0_14 : (execOp a0_13.eval oPP6).run Try.prog (wr) = .ok (.value (.int .u8 (x : Int))) (wr) := by
    unfold oPP6
    have e154 := (show a0_13.eval (.tmp 154) = .pointer (some ⟨gf, q + i, none⟩) from (fa0_13.at_ 154))
    clear fa0_13 hQ h20 h21
    generalize a0_13.eval = ρ at *
    go_simp
  refine fa0_13.step 155 (.int .u8 (x : Int)) rfl (lb_ I0.size) (wanted_none rfl) r_a0_14 (fun a0_14 fa0_14 => ?_)
  clear r_a0_14
  clear fa0_13
  have r_a0_15 : (execOp a0_14.eval oPP7).run Try.prog (wr) = .ok (.value (.bool true)) (wr) := by
    unfold oPP7
    have kc : ∀ v, a0_14.eval (.const v) = v := fun _ => rfl
    have e155 := (show a0_14.eval (.tmp 155) = .int .u8 (x : Int) from (fa0_14.at_ 155))
    clear fa0_14 hQ h20 h21
    generalize a0_14.eval = ρ at *
    go_simp
  refine fa0_14.step 156 (.bool true) rfl (lb_ I0.size) (wanted_none rfl) r_a0_15 (fun a0_15 fa0_15 => ?_)
  clear r_a0_15
  clear fa0_14
  refine fa0_15.move 157 (.bool true) _ (Or.inl rfl) rfl (lb_ I0.size) (wanted_none rfl) (fa0_15.at_ 156) (fun a0_16 fa0_16 => ?_)
  clear fa0_15
  refine fa0_16.move 158 (.slice (some ⟨gw, 0, none⟩) n wc) _ (Or.inl rfl) rfl (lb_ I0.size) ((wanted_at (t := 157) (c := true) (b := true) rfl rfl rfl (lb_ (fa0_16.size.trans I0.size)) (fa0_16.at_ 157)).trans (by rfl)) ((fa0_16.at_ 14).trans I0.s14) (fun a0_17 fa0_17 => ?_)
  clear fa0_16
  refine fa0_17.move 159 (.int .i64 (i : Int)) _ (Or.inl rfl) rfl (lb_ I0.size) ((wanted_at (t := 157) (c := true) (b := true) rfl rfl rfl (lb_ (fa0_17.size.trans I0.size)) (fa0_17.at_ 157)).trans (by rfl)) ((fa0_17.at_ 21).trans h21) (fun a0_18 fa0_18 => ?_)
  clear fa0_17
  have r_a0_19 : (execOp a0_18.eval oPP14).run Try.prog (wr) = .ok (.value (.pointer (some ⟨gw, i * 3, none⟩))) (wr) := by
    unfold oPP14
    have e158 := (show a0_18.eval (.tmp 158) = .slice (some ⟨gw, 0, none⟩) n wc from (fa0_18.at_ 158))
    have e159 := (show a0_18.eval (.tmp 159) = .int .i64 (i : Int) from (fa0_18.at_ 159))
    clear fa0_18 hQ h20 h21
    generalize a0_18.eval = ρ at *
    go_simp
  refine fa0_18.step 160 (.pointer (some ⟨gw, i * 3, none⟩)) rfl (lb_ I0.size) ((wanted_at (t := 157) (c := true) (b := true) rfl rfl rfl (lb_ (fa0_18.size.trans I0.size)) (fa0_18.at_ 157)).trans (by rfl)) r_a0_19 (fun a0_19 fa0_19 => ?_)
  clear r_a0_19
  clear fa0_18
  have r_a0_20 : (execOp a0_19.eval oPP15).run Try.prog (wr) = .ok (.value (.pointer (some ⟨gw, i * 3, none⟩))) (wr) := by
    unfold oPP15
    have e160 := (show a0_19.eval (.tmp 160) = .pointer (some ⟨gw, i * 3, none⟩) from (fa0_19.at_ 160))
    clear fa0_19 hQ h20 h21
    generalize a0_19.eval = ρ at *
    go_simp
  refine fa0_19.step 161 (.pointer (some ⟨gw, i * 3, none⟩)) rfl (lb_ I0.size) ((wanted_at (t := 157) (c := true) (b := true) rfl rfl rfl (lb_ (fa0_19.size.trans I0.size)) (fa0_19.at_ 157)).trans (by rfl)) r_a0_20 (fun a0_20 fa0_20 => ?_)
  clear r_a0_20
  clear fa0_19
  have r_a0_21 : (execOp a0_20.eval oPP16).run Try.prog (wr) = .ok (.value (.int .u8 2)) (wr) := by
    unfold oPP16
    have e161 := (show a0_20.eval (.tmp 161) = .pointer (some ⟨gw, i * 3, none⟩) from (fa0_20.at_ 161))
    clear fa0_20 hQ h20 h21
    generalize a0_20.eval = ρ at *
    go_simp
  refine fa0_20.step 162 (.int .u8 2) rfl (lb_ I0.size) ((wanted_at (t := 157) (c := true) (b := true) rfl rfl rfl (lb_ (fa0_20.size.trans I0.size)) (fa0_20.at_ 157)).trans (by rfl)) r_a0_21 (fun a0_21 fa0_21 => ?_)
  clear r_a0_21
  clear fa0_20
  have r_a0_22 : (execOp a0_21.eval oPP17).run Try.prog (wr) = .ok (.value (.bool true)) (wr) := by
    unfold oPP17
    have kc : ∀ v, a0_21.eval (.const v) = v := fun _ => rfl
    have e162 := (show a0_21.eval (.tmp 162) = .int .u8 2 from (fa0_21.at_ 162))
    clear fa0_21 hQ h20 h21
    generalize a0_21.eval = ρ at *
    go_simp
  refine fa0_21.step 163 (.bool true) rfl (lb_ I0.size) ((wanted_at (t := 157) (c := true) (b := true) rfl rfl rfl (lb_ (fa0_21.size.trans I0.size)) (fa0_21.at_ 157)).trans (by rfl)) r_a0_22 (fun a0_22 fa0_22 => ?_)
  clear r_a0_22
  clear fa0_21
  have r_a0_23 : (execOp a0_22.eval oPP8).run Try.prog (wr) = .ok (.value (.bool true)) (wr) := by
    unfold oPP8
    have kc : ∀ v, a0_22.eval (.const v) = v := fun _ => rfl
    have e157 := (show a0_22.eval (.tmp 157) = .bool true from (fa0_22.at_ 157))
    have e163 := (show a0_22.eval (.tmp 163) = .bool true from (fa0_22.at_ 163))
    clear fa0_22 hQ h20 h21
    generalize a0_22.eval = ρ at *
    go_simp
  refine fa0_22.step 164 (.bool true) rfl (lb_ I0.size) (wanted_none rfl) r_a0_23 (fun a0_23 fa0_23 => ?_)
  clear r_a0_23
  clear fa0_22
  refine wpList_nil ?_
  change Code.wp _ _ _ _ _
  refine wp_cond_true (show a0_23.eval (.tmp 164) = .bool true from (fa0_23.at_ 164)) ?_
  refine wp_region_list ?_
  unfold rPL37
  refine fa0_23.move 165 (.int .i64 (l : Int)) _ (Or.inl rfl) rfl (lb_ I0.size) (wanted_none rfl) ((fa0_23.at_ 20).trans h20) (fun a0_24 fa0_24 => ?_)
  clear fa0_23
  refine fa0_24.move 166 (.slice (some ⟨gw, 0, none⟩) n wc) _ (Or.inl rfl) rfl (lb_ I0.size) (wanted_none rfl) ((fa0_24.at_ 14).trans I0.s14) (fun a0_25 fa0_25 => ?_)
  clear fa0_24
  refine fa0_25.move 167 (.int .i64 (i : Int)) _ (Or.inl rfl) rfl (lb_ I0.size) (wanted_none rfl) ((fa0_25.at_ 21).trans h21) (fun a0_26 fa0_26 => ?_)
  clear fa0_25
  have r_a0_27 : (execOp a0_26.eval { dst := some 168, op := Op.indexAddr 46 (Operand.tmp 166) (Operand.tmp 167), type := 0, pos := "outright.go:124", after := #[{ on := 1, ground := Ground.data }, { on := 2, ground := Ground.data }], guard := none }).run Try.prog (wr) = .ok (.value (.pointer (some ⟨gw, i * 3, none⟩))) (wr) := by
    have e166 := (show a0_26.eval (.tmp 166) = .slice (some ⟨gw, 0, none⟩) n wc from (fa0_26.at_ 166))
    have e167 := (show a0_26.eval (.tmp 167) = .int .i64 (i : Int) from (fa0_26.at_ 167))
    clear fa0_26 hQ h20 h21
    generalize a0_26.eval = ρ at *
    go_simp
  refine fa0_26.step 168 (.pointer (some ⟨gw, i * 3, none⟩)) rfl (lb_ I0.size) (wanted_none rfl) r_a0_27 (fun a0_27 fa0_27 => ?_)
  clear r_a0_27
  clear fa0_26
  have r_a0_28 : (execOp a0_27.eval { dst := some 169, op := Op.fieldAddr 54 (Operand.tmp 168) 2, type := 0, pos := "outright.go:124", after := #[{ on := 3, ground := Ground.data }], guard := none }).run Try.prog (wr) = .ok (.value (.pointer (some ⟨gw, i * 3 + 2, none⟩))) (wr) := by
    have e168 := (show a0_27.eval (.tmp 168) = .pointer (some ⟨gw, i * 3, none⟩) from (fa0_27.at_ 168))
    clear fa0_27 hQ h20 h21
    generalize a0_27.eval = ρ at *
    go_simp
  refine fa0_27.step 169 (.pointer (some ⟨gw, i * 3 + 2, none⟩)) rfl (lb_ I0.size) (wanted_none rfl) r_a0_28 (fun a0_28 fa0_28 => ?_)
  clear r_a0_28
  clear fa0_27
  have r_a0_29 : (execOp a0_28.eval { dst := some 170, op := Op.load 3 (Operand.tmp 169), type := 3, pos := "outright.go:124", after := #[{ on := 4, ground := Ground.data }], guard := none }).run Try.prog (wr) = .ok (.value (.int .i64 (y : Int))) (wr) := by
    have e169 := (show a0_28.eval (.tmp 169) = .pointer (some ⟨gw, i * 3 + 2, none⟩) from (fa0_28.at_ 169))
    clear fa0_28 hQ h20 h21
    generalize a0_28.eval = ρ at *
    go_simp
  refine fa0_28.step 170 (.int .i64 (y : Int)) rfl (lb_ I0.size) (wanted_none rfl) r_a0_29 (fun a0_29 fa0_29 => ?_)
  clear r_a0_29
  clear fa0_28
  have r_a0_30 : (execOp a0_29.eval { dst := some 171, op := Op.call { callee := Callee.builtin Builtin.max, args := #[Operand.tmp 165, Operand.tmp 170], argTypes := #[3, 3] }, type := 3, pos := "outright.go:124", after := #[{ on := 0, ground := Ground.data }, { on := 5, ground := Ground.data }], guard := none }).run Try.prog (wr) = .ok (.value (.int .i64 ((max l y : Nat) : Int))) (wr) := by
    have e165 := (show a0_29.eval (.tmp 165) = .int .i64 (l : Int) from (fa0_29.at_ 165))
    have e170 := (show a0_29.eval (.tmp 170) = .int .i64 (y : Int) from (fa0_29.at_ 170))
    clear fa0_29 hQ h20 h21
    generalize a0_29.eval = ρ at *
    go_simp
    omega
  refine fa0_29.step 171 (.int .i64 ((max l y : Nat) : Int)) rfl (lb_ I0.size) (wanted_none rfl) r_a0_30 (fun a0_30 fa0_30 => ?_)
  clear r_a0_30
  clear fa0_29
  refine fa0_30.move 20 (.int .i64 ((max l y : Nat) : Int)) _ (Or.inr rfl) rfl (lb_ I0.size) (wanted_none rfl) (fa0_30.at_ 171) (fun a0_31 fa0_31 => ?_)
  clear fa0_30
  refine wpList_nil ?_
  change Code.wp _ _ _ _ _
  refine wp_seq ?_
  refine wp_region_list ?_
  unfold rPL38
  refine fa0_31.move 172 (.slice (some ⟨gf, q, none⟩) nf fc) _ (Or.inl rfl) rfl (lb_ I0.size) (wanted_none rfl) ((fa0_31.at_ 1).trans I0.s1) (fun a0_32 fa0_32 => ?_)
  clear fa0_31
  refine fa0_32.move 173 (.int .i64 (i : Int)) _ (Or.inl rfl) rfl (lb_ I0.size) (wanted_none rfl) ((fa0_32.at_ 21).trans h21) (fun a0_33 fa0_33 => ?_)
  clear fa0_32
  have r_a0_34 : (execOp a0_33.eval oPP9).run Try.prog (wr) = .ok (.value (.pointer (some ⟨gf, q + i, none⟩))) (wr) := by
    unfold oPP9
    have e172 := (show a0_33.eval (.tmp 172) = .slice (some ⟨gf, q, none⟩) nf fc from (fa0_33.at_ 172))
    have e173 := (show a0_33.eval (.tmp 173) = .int .i64 (i : Int) from (fa0_33.at_ 173))
    clear fa0_33 hQ h20 h21
    generalize a0_33.eval = ρ at *
    go_simp
  refine fa0_33.step 174 (.pointer (some ⟨gf, q + i, none⟩)) rfl (lb_ I0.size) (wanted_none rfl) r_a0_34 (fun a0_34 fa0_34 => ?_)
  clear r_a0_34
  clear fa0_33
  have r_a0_35 : (execOp a0_34.eval oPP10).run Try.prog (wr) = .ok (.value (.int .u8 (x : Int))) (wr) := by
    unfold oPP10
    have e174 := (show a0_34.eval (.tmp 174) = .pointer (some ⟨gf, q + i, none⟩) from (fa0_34.at_ 174))
    clear fa0_34 hQ h20 h21
    generalize a0_34.eval = ρ at *
    go_simp
  refine fa0_34.step 175 (.int .u8 (x : Int)) rfl (lb_ I0.size) (wanted_none rfl) r_a0_35 (fun a0_35 fa0_35 => ?_)
  clear r_a0_35
  clear fa0_34
  have r_a0_36 : (execOp a0_35.eval oPP11).run Try.prog (wr) = .ok (.value (.bool true)) (wr) := by
    unfold oPP11
    have kc : ∀ v, a0_35.eval (.const v) = v := fun _ => rfl
    have e175 := (show a0_35.eval (.tmp 175) = .int .u8 (x : Int) from (fa0_35.at_ 175))
    clear fa0_35 hQ h20 h21
    generalize a0_35.eval = ρ at *
    go_simp
  refine fa0_35.step 176 (.bool true) rfl (lb_ I0.size) (wanted_none rfl) r_a0_36 (fun a0_36 fa0_36 => ?_)
  clear r_a0_36
  clear fa0_35
  refine fa0_36.move 177 (.bool true) _ (Or.inl rfl) rfl (lb_ I0.size) (wanted_none rfl) (fa0_36.at_ 176) (fun a0_37 fa0_37 => ?_)
  clear fa0_36
  refine fa0_37.move 178 (.slice (some ⟨gw, 0, none⟩) n wc) _ (Or.inl rfl) rfl (lb_ I0.size) ((wanted_at (t := 177) (c := true) (b := true) rfl rfl rfl (lb_ (fa0_37.size.trans I0.size)) (fa0_37.at_ 177)).trans (by rfl)) ((fa0_37.at_ 14).trans I0.s14) (fun a0_38 fa0_38 => ?_)
  clear fa0_37
  refine fa0_38.move 179 (.int .i64 (i : Int)) _ (Or.inl rfl) rfl (lb_ I0.size) ((wanted_at (t := 177) (c := true) (b := true) rfl rfl rfl (lb_ (fa0_38.size.trans I0.size)) (fa0_38.at_ 177)).trans (by rfl)) ((fa0_38.at_ 21).trans h21) (fun a0_39 fa0_39 => ?_)
  clear fa0_38
  have r_a0_40 : (execOp a0_39.eval oPP18).run Try.prog (wr) = .ok (.value (.pointer (some ⟨gw, i * 3, none⟩))) (wr) := by
    unfold oPP18
    have e178 := (show a0_39.eval (.tmp 178) = .slice (some ⟨gw, 0, none⟩) n wc from (fa0_39.at_ 178))
    have e179 := (show a0_39.eval (.tmp 179) = .int .i64 (i : Int) from (fa0_39.at_ 179))
    clear fa0_39 hQ h20 h21
    generalize a0_39.eval = ρ at *
    go_simp
  refine fa0_39.step 180 (.pointer (some ⟨gw, i * 3, none⟩)) rfl (lb_ I0.size) ((wanted_at (t := 177) (c := true) (b := true) rfl rfl rfl (lb_ (fa0_39.size.trans I0.size)) (fa0_39.at_ 177)).trans (by rfl)) r_a0_40 (fun a0_40 fa0_40 => ?_)
  clear r_a0_40
  clear fa0_39
  have r_a0_41 : (execOp a0_40.eval oPP19).run Try.prog (wr) = .ok (.value (.pointer (some ⟨gw, i * 3, none⟩))) (wr) := by
    unfold oPP19
    have e180 := (show a0_40.eval (.tmp 180) = .pointer (some ⟨gw, i * 3, none⟩) from (fa0_40.at_ 180))
    clear fa0_40 hQ h20 h21
    generalize a0_40.eval = ρ at *
    go_simp
  refine fa0_40.step 181 (.pointer (some ⟨gw, i * 3, none⟩)) rfl (lb_ I0.size) ((wanted_at (t := 177) (c := true) (b := true) rfl rfl rfl (lb_ (fa0_40.size.trans I0.size)) (fa0_40.at_ 177)).trans (by rfl)) r_a0_41 (fun a0_41 fa0_41 => ?_)
  clear r_a0_41
  clear fa0_40
  have r_a0_42 : (execOp a0_41.eval oPP20).run Try.prog (wr) = .ok (.value (.int .u8 2)) (wr) := by
    unfold oPP20
    have e181 := (show a0_41.eval (.tmp 181) = .pointer (some ⟨gw, i * 3, none⟩) from (fa0_41.at_ 181))
    clear fa0_41 hQ h20 h21
    generalize a0_41.eval = ρ at *
    go_simp
  refine fa0_41.step 182 (.int .u8 2) rfl (lb_ I0.size) ((wanted_at (t := 177) (c := true) (b := true) rfl rfl rfl (lb_ (fa0_41.size.trans I0.size)) (fa0_41.at_ 177)).trans (by rfl)) r_a0_42 (fun a0_42 fa0_42 => ?_)
  clear r_a0_42
  clear fa0_41
  have r_a0_43 : (execOp a0_42.eval oPP21).run Try.prog (wr) = .ok (.value (.bool false)) (wr) := by
    unfold oPP21
    have kc : ∀ v, a0_42.eval (.const v) = v := fun _ => rfl
    have e182 := (show a0_42.eval (.tmp 182) = .int .u8 2 from (fa0_42.at_ 182))
    clear fa0_42 hQ h20 h21
    generalize a0_42.eval = ρ at *
    go_simp
  refine fa0_42.step 183 (.bool false) rfl (lb_ I0.size) ((wanted_at (t := 177) (c := true) (b := true) rfl rfl rfl (lb_ (fa0_42.size.trans I0.size)) (fa0_42.at_ 177)).trans (by rfl)) r_a0_43 (fun a0_43 fa0_43 => ?_)
  clear r_a0_43
  clear fa0_42
  have r_a0_44 : (execOp a0_43.eval oPP12).run Try.prog (wr) = .ok (.value (.bool false)) (wr) := by
    unfold oPP12
    have kc : ∀ v, a0_43.eval (.const v) = v := fun _ => rfl
    have e177 := (show a0_43.eval (.tmp 177) = .bool true from (fa0_43.at_ 177))
    have e183 := (show a0_43.eval (.tmp 183) = .bool false from (fa0_43.at_ 183))
    clear fa0_43 hQ h20 h21
    generalize a0_43.eval = ρ at *
    go_simp
  refine fa0_43.step 184 (.bool false) rfl (lb_ I0.size) (wanted_none rfl) r_a0_44 (fun a0_44 fa0_44 => ?_)
  clear r_a0_44
  clear fa0_43
  refine wpList_nil ?_
  change Code.wp _ _ _ _ _
  refine wp_cond_false (show a0_44.eval (.tmp 184) = .bool false from (fa0_44.at_ 184)) (wp_skip ?_)
  change Code.wp _ _ _ _ _
  refine wp_region_list ?_
  unfold rPL35
  refine fa0_44.move 150 (.int .i64 (i : Int)) _ (Or.inl rfl) rfl (lb_ I0.size) (wanted_none rfl) ((fa0_44.at_ 21).trans h21) (fun a0_45 fa0_45 => ?_)
  clear fa0_44
  have r_a0_46 : (execOp a0_45.eval oPP13).run Try.prog (wr) = .ok (.value (.int .i64 ((i : Int) + 1))) (wr) := by
    unfold oPP13
    have kc : ∀ v, a0_45.eval (.const v) = v := fun _ => rfl
    have e150 := (show a0_45.eval (.tmp 150) = .int .i64 (i : Int) from (fa0_45.at_ 150))
    clear fa0_45 hQ h20 h21
    generalize a0_45.eval = ρ at *
    go_simp
  refine fa0_45.step 151 (.int .i64 ((i : Int) + 1)) rfl (lb_ I0.size) (wanted_none rfl) r_a0_46 (fun a0_46 fa0_46 => ?_)
  clear r_a0_46
  clear fa0_45
  refine fa0_46.move 21 (.int .i64 ((i : Int) + 1)) _ (Or.inr rfl) rfl (lb_ I0.size) (wanted_none rfl) (fa0_46.at_ 151) (fun a0_47 fa0_47 => ?_)
  clear fa0_46
  refine wpList_nil ?_
  exact hQ a0_47 (I0.keep fa0_47 rfl rfl rfl rfl rfl rfl rfl rfl) (show a0_47.eval (.tmp 20) = .int .i64 ((max l y : Nat) : Int) from (fa0_47.at_ 20)) (show a0_47.eval (.tmp 21) = .int .i64 ((i : Int) + 1) from (fa0_47.at_ 21))
set_option maxRecDepth 100000 in
set_option maxHeartbeats 1000000 in
theorem ppW {n nf i wc fc l gw gf q x y : Nat} {v5 v7 v8 v13 v16 v19 : Value} {Q : Exit → Act → World → Prop} (a0 : Act) (wr : World) (I0 : IPN (.slice (some ⟨gf, q, none⟩) nf fc) v5 v7 v8 v13 (.slice (some ⟨gw, 0, none⟩) n wc) v16 v19 a0) (h20 : a0.eval (.tmp 20) = .int .i64 (l : Int)) (h21 : a0.eval (.tmp 21) = .int .i64 (i : Int)) (hi : i < n) (hj : i < nf) (hn : n ≤ 1048576) (cf : wr.cell? ⟨gf, q + i, none⟩ = some (.int .u8 (x : Int))) (hx : ¬ x = 0) (c0 : wr.cell? ⟨gw, i * 3, none⟩ = some (.int .u8 1)) (c1 : wr.cell? ⟨gw, i * 3 + 1, none⟩ = some (.int .u32 (y : Int))) (hy : y < 1048576)
    (hQ : ∀ a, IPN (.slice (some ⟨gf, q, none⟩) nf fc) v5 v7 v8 v13 (.slice (some ⟨gw, 0, none⟩) n wc) v16 v19 a → a.eval (.tmp 20) = .int .i64 ((max l (y + 1) : Nat) : Int) → a.eval (.tmp 21) = .int .i64 ((i : Int) + 1) → Q .normal a wr) : cPL3.wp Try.prog Q a0 wr := by
  have hii : (i : Int) < (n : Int) := by omega
  have hjj : (i : Int) < (nf : Int) := by omega
  have w1 : IntKind.i64.wrap ((i : Int) + 1) = (i : Int) + 1 := by rw [IntKind.wrap_i64]; omega
  have wy : IntKind.i64.wrap (y : Int) = (y : Int) := by rw [IntKind.wrap_i64]; omega
  have wy1 : IntKind.i64.wrap ((y : Int) + 1) = (y : Int) + 1 := by rw [IntKind.wrap_i64]; omega
  clear hy
  have fa0_0 := Fe.refl a0
  unfold cPL3
  refine wp_seq (wp_seq ?_)
  refine wp_region_list ?_
  unfold rPL34
  refine fa0_0.move 140 (.int .i64 (i : Int)) _ (Or.inl rfl) rfl (lb_ I0.size) (wanted_none rfl) ((fa0_0.at_ 21).trans h21) (fun a0_1 fa0_1 => ?_)
  clear fa0_0
  refine fa0_1.move 141 (.slice (some ⟨gw, 0, none⟩) n wc) _ (Or.inl rfl) rfl (lb_ I0.size) (wanted_none rfl) ((fa0_1.at_ 14).trans I0.s14) (fun a0_2 fa0_2 => ?_)
  clear fa0_1
  have r_a0_3 : (execOp a0_2.eval oPP0).run Try.prog (wr) = .ok (.value (.int .i64 (n : Int))) (wr) := by
    unfold oPP0
    have e141 := (show a0_2.eval (.tmp 141) = .slice (some ⟨gw, 0, none⟩) n wc from (fa0_2.at_ 141))
    clear fa0_2 hQ h20 h21
    generalize a0_2.eval = ρ at *
    go_simp
  refine fa0_2.step 142 (.int .i64 (n : Int)) rfl (lb_ I0.size) (wanted_none rfl) r_a0_3 (fun a0_3 fa0_3 => ?_)
  clear r_a0_3
  clear fa0_2
  have r_a0_4 : (execOp a0_3.eval oPP1).run Try.prog (wr) = .ok (.value (.bool true)) (wr) := by
    unfold oPP1
    have e140 := (show a0_3.eval (.tmp 140) = .int .i64 (i : Int) from (fa0_3.at_ 140))
    have e142 := (show a0_3.eval (.tmp 142) = .int .i64 (n : Int) from (fa0_3.at_ 142))
    clear fa0_3 hQ h20 h21
    generalize a0_3.eval = ρ at *
    go_simp
  refine fa0_3.step 143 (.bool true) rfl (lb_ I0.size) (wanted_none rfl) r_a0_4 (fun a0_4 fa0_4 => ?_)
  clear r_a0_4
  clear fa0_3
  refine fa0_4.move 144 (.bool true) _ (Or.inl rfl) rfl (lb_ I0.size) (wanted_none rfl) (fa0_4.at_ 143) (fun a0_5 fa0_5 => ?_)
  clear fa0_4
  refine fa0_5.move 145 (.int .i64 (i : Int)) _ (Or.inl rfl) rfl (lb_ I0.size) ((wanted_at (t := 144) (c := true) (b := true) rfl rfl rfl (lb_ (fa0_5.size.trans I0.size)) (fa0_5.at_ 144)).trans (by rfl)) ((fa0_5.at_ 21).trans h21) (fun a0_6 fa0_6 => ?_)
  clear fa0_5
  refine fa0_6.move 146 (.slice (some ⟨gf, q, none⟩) nf fc) _ (Or.inl rfl) rfl (lb_ I0.size) ((wanted_at (t := 144) (c := true) (b := true) rfl rfl rfl (lb_ (fa0_6.size.trans I0.size)) (fa0_6.at_ 144)).trans (by rfl)) ((fa0_6.at_ 1).trans I0.s1) (fun a0_7 fa0_7 => ?_)
  clear fa0_6
  have r_a0_8 : (execOp a0_7.eval oPP3).run Try.prog (wr) = .ok (.value (.int .i64 (nf : Int))) (wr) := by
    unfold oPP3
    have e146 := (show a0_7.eval (.tmp 146) = .slice (some ⟨gf, q, none⟩) nf fc from (fa0_7.at_ 146))
    clear fa0_7 hQ h20 h21
    generalize a0_7.eval = ρ at *
    go_simp
  refine fa0_7.step 147 (.int .i64 (nf : Int)) rfl (lb_ I0.size) ((wanted_at (t := 144) (c := true) (b := true) rfl rfl rfl (lb_ (fa0_7.size.trans I0.size)) (fa0_7.at_ 144)).trans (by rfl)) r_a0_8 (fun a0_8 fa0_8 => ?_)
  clear r_a0_8
  clear fa0_7
  have r_a0_9 : (execOp a0_8.eval oPP4).run Try.prog (wr) = .ok (.value (.bool true)) (wr) := by
    unfold oPP4
    have e145 := (show a0_8.eval (.tmp 145) = .int .i64 (i : Int) from (fa0_8.at_ 145))
    have e147 := (show a0_8.eval (.tmp 147) = .int .i64 (nf : Int) from (fa0_8.at_ 147))
    clear fa0_8 hQ h20 h21
    generalize a0_8.eval = ρ at *
    go_simp
  refine fa0_8.step 148 (.bool true) rfl (lb_ I0.size) ((wanted_at (t := 144) (c := true) (b := true) rfl rfl rfl (lb_ (fa0_8.size.trans I0.size)) (fa0_8.at_ 144)).trans (by rfl)) r_a0_9 (fun a0_9 fa0_9 => ?_)
  clear r_a0_9
  clear fa0_8
  have r_a0_10 : (execOp a0_9.eval oPP2).run Try.prog (wr) = .ok (.value (.bool true)) (wr) := by
    unfold oPP2
    have kc : ∀ v, a0_9.eval (.const v) = v := fun _ => rfl
    have e144 := (show a0_9.eval (.tmp 144) = .bool true from (fa0_9.at_ 144))
    have e148 := (show a0_9.eval (.tmp 148) = .bool true from (fa0_9.at_ 148))
    clear fa0_9 hQ h20 h21
    generalize a0_9.eval = ρ at *
    go_simp
  refine fa0_9.step 149 (.bool true) rfl (lb_ I0.size) (wanted_none rfl) r_a0_10 (fun a0_10 fa0_10 => ?_)
  clear r_a0_10
  clear fa0_9
  refine wpList_nil ?_
  change Code.wp _ _ _ _ _
  refine wp_cond_true (show a0_10.eval (.tmp 149) = .bool true from (fa0_10.at_ 149)) (wp_skip ?_)
  change Code.wp _ _ _ _ _
  refine wp_seq (wp_block (wp_seq (wp_seq ?_)))
  refine wp_region_list ?_
  unfold rPL36
  refine fa0_10.move 152 (.slice (some ⟨gf, q, none⟩) nf fc) _ (Or.inl rfl) rfl (lb_ I0.size) (wanted_none rfl) ((fa0_10.at_ 1).trans I0.s1) (fun a0_11 fa0_11 => ?_)
  clear fa0_10
  refine fa0_11.move 153 (.int .i64 (i : Int)) _ (Or.inl rfl) rfl (lb_ I0.size) (wanted_none rfl) ((fa0_11.at_ 21).trans h21) (fun a0_12 fa0_12 => ?_)
  clear fa0_11
  have r_a0_13 : (execOp a0_12.eval oPP5).run Try.prog (wr) = .ok (.value (.pointer (some ⟨gf, q + i, none⟩))) (wr) := by
    unfold oPP5
    have e152 := (show a0_12.eval (.tmp 152) = .slice (some ⟨gf, q, none⟩) nf fc from (fa0_12.at_ 152))
    have e153 := (show a0_12.eval (.tmp 153) = .int .i64 (i : Int) from (fa0_12.at_ 153))
    clear fa0_12 hQ h20 h21
    generalize a0_12.eval = ρ at *
    go_simp
  refine fa0_12.step 154 (.pointer (some ⟨gf, q + i, none⟩)) rfl (lb_ I0.size) (wanted_none rfl) r_a0_13 (fun a0_13 fa0_13 => ?_)
  clear r_a0_13
  clear fa0_12
  have r_a0_14 : (execOp a0_13.eval oPP6).run Try.prog (wr) = .ok (.value (.int .u8 (x : Int))) (wr) := by
    unfold oPP6
    have e154 := (show a0_13.eval (.tmp 154) = .pointer (some ⟨gf, q + i, none⟩) from (fa0_13.at_ 154))
    clear fa0_13 hQ h20 h21
    generalize a0_13.eval = ρ at *
    go_simp
  refine fa0_13.step 155 (.int .u8 (x : Int)) rfl (lb_ I0.size) (wanted_none rfl) r_a0_14 (fun a0_14 fa0_14 => ?_)
  clear r_a0_14
  clear fa0_13
  have r_a0_15 : (execOp a0_14.eval oPP7).run Try.prog (wr) = .ok (.value (.bool true)) (wr) := by
    unfold oPP7
    have kc : ∀ v, a0_14.eval (.const v) = v := fun _ => rfl
    have e155 := (show a0_14.eval (.tmp 155) = .int .u8 (x : Int) from (fa0_14.at_ 155))
    clear fa0_14 hQ h20 h21
    generalize a0_14.eval = ρ at *
    go_simp
  refine fa0_14.step 156 (.bool true) rfl (lb_ I0.size) (wanted_none rfl) r_a0_15 (fun a0_15 fa0_15 => ?_)
  clear r_a0_15
  clear fa0_14
  refine fa0_15.move 157 (.bool true) _ (Or.inl rfl) rfl (lb_ I0.size) (wanted_none rfl) (fa0_15.at_ 156) (fun a0_16 fa0_16 => ?_)
  clear fa0_15
  refine fa0_16.move 158 (.slice (some ⟨gw, 0, none⟩) n wc) _ (Or.inl rfl) rfl (lb_ I0.size) ((wanted_at (t := 157) (c := true) (b := true) rfl rfl rfl (lb_ (fa0_16.size.trans I0.size)) (fa0_16.at_ 157)).trans (by rfl)) ((fa0_16.at_ 14).trans I0.s14) (fun a0_17 fa0_17 => ?_)
  clear fa0_16
  refine fa0_17.move 159 (.int .i64 (i : Int)) _ (Or.inl rfl) rfl (lb_ I0.size) ((wanted_at (t := 157) (c := true) (b := true) rfl rfl rfl (lb_ (fa0_17.size.trans I0.size)) (fa0_17.at_ 157)).trans (by rfl)) ((fa0_17.at_ 21).trans h21) (fun a0_18 fa0_18 => ?_)
  clear fa0_17
  have r_a0_19 : (execOp a0_18.eval oPP14).run Try.prog (wr) = .ok (.value (.pointer (some ⟨gw, i * 3, none⟩))) (wr) := by
    unfold oPP14
    have e158 := (show a0_18.eval (.tmp 158) = .slice (some ⟨gw, 0, none⟩) n wc from (fa0_18.at_ 158))
    have e159 := (show a0_18.eval (.tmp 159) = .int .i64 (i : Int) from (fa0_18.at_ 159))
    clear fa0_18 hQ h20 h21
    generalize a0_18.eval = ρ at *
    go_simp
  refine fa0_18.step 160 (.pointer (some ⟨gw, i * 3, none⟩)) rfl (lb_ I0.size) ((wanted_at (t := 157) (c := true) (b := true) rfl rfl rfl (lb_ (fa0_18.size.trans I0.size)) (fa0_18.at_ 157)).trans (by rfl)) r_a0_19 (fun a0_19 fa0_19 => ?_)
  clear r_a0_19
  clear fa0_18
  have r_a0_20 : (execOp a0_19.eval oPP15).run Try.prog (wr) = .ok (.value (.pointer (some ⟨gw, i * 3, none⟩))) (wr) := by
    unfold oPP15
    have e160 := (show a0_19.eval (.tmp 160) = .pointer (some ⟨gw, i * 3, none⟩) from (fa0_19.at_ 160))
    clear fa0_19 hQ h20 h21
    generalize a0_19.eval = ρ at *
    go_simp
  refine fa0_19.step 161 (.pointer (some ⟨gw, i * 3, none⟩)) rfl (lb_ I0.size) ((wanted_at (t := 157) (c := true) (b := true) rfl rfl rfl (lb_ (fa0_19.size.trans I0.size)) (fa0_19.at_ 157)).trans (by rfl)) r_a0_20 (fun a0_20 fa0_20 => ?_)
  clear r_a0_20
  clear fa0_19
  have r_a0_21 : (execOp a0_20.eval oPP16).run Try.prog (wr) = .ok (.value (.int .u8 1)) (wr) := by
    unfold oPP16
    have e161 := (show a0_20.eval (.tmp 161) = .pointer (some ⟨gw, i * 3, none⟩) from (fa0_20.at_ 161))
    clear fa0_20 hQ h20 h21
    generalize a0_20.eval = ρ at *
    go_simp
  refine fa0_20.step 162 (.int .u8 1) rfl (lb_ I0.size) ((wanted_at (t := 157) (c := true) (b := true) rfl rfl rfl (lb_ (fa0_20.size.trans I0.size)) (fa0_20.at_ 157)).trans (by rfl)) r_a0_21 (fun a0_21 fa0_21 => ?_)
  clear r_a0_21
  clear fa0_20
  have r_a0_22 : (execOp a0_21.eval oPP17).run Try.prog (wr) = .ok (.value (.bool false)) (wr) := by
    unfold oPP17
    have kc : ∀ v, a0_21.eval (.const v) = v := fun _ => rfl
    have e162 := (show a0_21.eval (.tmp 162) = .int .u8 1 from (fa0_21.at_ 162))
    clear fa0_21 hQ h20 h21
    generalize a0_21.eval = ρ at *
    go_simp
  refine fa0_21.step 163 (.bool false) rfl (lb_ I0.size) ((wanted_at (t := 157) (c := true) (b := true) rfl rfl rfl (lb_ (fa0_21.size.trans I0.size)) (fa0_21.at_ 157)).trans (by rfl)) r_a0_22 (fun a0_22 fa0_22 => ?_)
  clear r_a0_22
  clear fa0_21
  have r_a0_23 : (execOp a0_22.eval oPP8).run Try.prog (wr) = .ok (.value (.bool false)) (wr) := by
    unfold oPP8
    have kc : ∀ v, a0_22.eval (.const v) = v := fun _ => rfl
    have e157 := (show a0_22.eval (.tmp 157) = .bool true from (fa0_22.at_ 157))
    have e163 := (show a0_22.eval (.tmp 163) = .bool false from (fa0_22.at_ 163))
    clear fa0_22 hQ h20 h21
    generalize a0_22.eval = ρ at *
    go_simp
  refine fa0_22.step 164 (.bool false) rfl (lb_ I0.size) (wanted_none rfl) r_a0_23 (fun a0_23 fa0_23 => ?_)
  clear r_a0_23
  clear fa0_22
  refine wpList_nil ?_
  change Code.wp _ _ _ _ _
  refine wp_cond_false (show a0_23.eval (.tmp 164) = .bool false from (fa0_23.at_ 164)) (wp_skip ?_)
  change Code.wp _ _ _ _ _
  refine wp_seq ?_
  refine wp_region_list ?_
  unfold rPL38
  refine fa0_23.move 172 (.slice (some ⟨gf, q, none⟩) nf fc) _ (Or.inl rfl) rfl (lb_ I0.size) (wanted_none rfl) ((fa0_23.at_ 1).trans I0.s1) (fun a0_24 fa0_24 => ?_)
  clear fa0_23
  refine fa0_24.move 173 (.int .i64 (i : Int)) _ (Or.inl rfl) rfl (lb_ I0.size) (wanted_none rfl) ((fa0_24.at_ 21).trans h21) (fun a0_25 fa0_25 => ?_)
  clear fa0_24
  have r_a0_26 : (execOp a0_25.eval oPP9).run Try.prog (wr) = .ok (.value (.pointer (some ⟨gf, q + i, none⟩))) (wr) := by
    unfold oPP9
    have e172 := (show a0_25.eval (.tmp 172) = .slice (some ⟨gf, q, none⟩) nf fc from (fa0_25.at_ 172))
    have e173 := (show a0_25.eval (.tmp 173) = .int .i64 (i : Int) from (fa0_25.at_ 173))
    clear fa0_25 hQ h20 h21
    generalize a0_25.eval = ρ at *
    go_simp
  refine fa0_25.step 174 (.pointer (some ⟨gf, q + i, none⟩)) rfl (lb_ I0.size) (wanted_none rfl) r_a0_26 (fun a0_26 fa0_26 => ?_)
  clear r_a0_26
  clear fa0_25
  have r_a0_27 : (execOp a0_26.eval oPP10).run Try.prog (wr) = .ok (.value (.int .u8 (x : Int))) (wr) := by
    unfold oPP10
    have e174 := (show a0_26.eval (.tmp 174) = .pointer (some ⟨gf, q + i, none⟩) from (fa0_26.at_ 174))
    clear fa0_26 hQ h20 h21
    generalize a0_26.eval = ρ at *
    go_simp
  refine fa0_26.step 175 (.int .u8 (x : Int)) rfl (lb_ I0.size) (wanted_none rfl) r_a0_27 (fun a0_27 fa0_27 => ?_)
  clear r_a0_27
  clear fa0_26
  have r_a0_28 : (execOp a0_27.eval oPP11).run Try.prog (wr) = .ok (.value (.bool true)) (wr) := by
    unfold oPP11
    have kc : ∀ v, a0_27.eval (.const v) = v := fun _ => rfl
    have e175 := (show a0_27.eval (.tmp 175) = .int .u8 (x : Int) from (fa0_27.at_ 175))
    clear fa0_27 hQ h20 h21
    generalize a0_27.eval = ρ at *
    go_simp
  refine fa0_27.step 176 (.bool true) rfl (lb_ I0.size) (wanted_none rfl) r_a0_28 (fun a0_28 fa0_28 => ?_)
  clear r_a0_28
  clear fa0_27
  refine fa0_28.move 177 (.bool true) _ (Or.inl rfl) rfl (lb_ I0.size) (wanted_none rfl) (fa0_28.at_ 176) (fun a0_29 fa0_29 => ?_)
  clear fa0_28
  refine fa0_29.move 178 (.slice (some ⟨gw, 0, none⟩) n wc) _ (Or.inl rfl) rfl (lb_ I0.size) ((wanted_at (t := 177) (c := true) (b := true) rfl rfl rfl (lb_ (fa0_29.size.trans I0.size)) (fa0_29.at_ 177)).trans (by rfl)) ((fa0_29.at_ 14).trans I0.s14) (fun a0_30 fa0_30 => ?_)
  clear fa0_29
  refine fa0_30.move 179 (.int .i64 (i : Int)) _ (Or.inl rfl) rfl (lb_ I0.size) ((wanted_at (t := 177) (c := true) (b := true) rfl rfl rfl (lb_ (fa0_30.size.trans I0.size)) (fa0_30.at_ 177)).trans (by rfl)) ((fa0_30.at_ 21).trans h21) (fun a0_31 fa0_31 => ?_)
  clear fa0_30
  have r_a0_32 : (execOp a0_31.eval oPP18).run Try.prog (wr) = .ok (.value (.pointer (some ⟨gw, i * 3, none⟩))) (wr) := by
    unfold oPP18
    have e178 := (show a0_31.eval (.tmp 178) = .slice (some ⟨gw, 0, none⟩) n wc from (fa0_31.at_ 178))
    have e179 := (show a0_31.eval (.tmp 179) = .int .i64 (i : Int) from (fa0_31.at_ 179))
    clear fa0_31 hQ h20 h21
    generalize a0_31.eval = ρ at *
    go_simp
  refine fa0_31.step 180 (.pointer (some ⟨gw, i * 3, none⟩)) rfl (lb_ I0.size) ((wanted_at (t := 177) (c := true) (b := true) rfl rfl rfl (lb_ (fa0_31.size.trans I0.size)) (fa0_31.at_ 177)).trans (by rfl)) r_a0_32 (fun a0_32 fa0_32 => ?_)
  clear r_a0_32
  clear fa0_31
  have r_a0_33 : (execOp a0_32.eval oPP19).run Try.prog (wr) = .ok (.value (.pointer (some ⟨gw, i * 3, none⟩))) (wr) := by
    unfold oPP19
    have e180 := (show a0_32.eval (.tmp 180) = .pointer (some ⟨gw, i * 3, none⟩) from (fa0_32.at_ 180))
    clear fa0_32 hQ h20 h21
    generalize a0_32.eval = ρ at *
    go_simp
  refine fa0_32.step 181 (.pointer (some ⟨gw, i * 3, none⟩)) rfl (lb_ I0.size) ((wanted_at (t := 177) (c := true) (b := true) rfl rfl rfl (lb_ (fa0_32.size.trans I0.size)) (fa0_32.at_ 177)).trans (by rfl)) r_a0_33 (fun a0_33 fa0_33 => ?_)
  clear r_a0_33
  clear fa0_32
  have r_a0_34 : (execOp a0_33.eval oPP20).run Try.prog (wr) = .ok (.value (.int .u8 1)) (wr) := by
    unfold oPP20
    have e181 := (show a0_33.eval (.tmp 181) = .pointer (some ⟨gw, i * 3, none⟩) from (fa0_33.at_ 181))
    clear fa0_33 hQ h20 h21
    generalize a0_33.eval = ρ at *
    go_simp
  refine fa0_33.step 182 (.int .u8 1) rfl (lb_ I0.size) ((wanted_at (t := 177) (c := true) (b := true) rfl rfl rfl (lb_ (fa0_33.size.trans I0.size)) (fa0_33.at_ 177)).trans (by rfl)) r_a0_34 (fun a0_34 fa0_34 => ?_)
  clear r_a0_34
  clear fa0_33
  have r_a0_35 : (execOp a0_34.eval oPP21).run Try.prog (wr) = .ok (.value (.bool true)) (wr) := by
    unfold oPP21
    have kc : ∀ v, a0_34.eval (.const v) = v := fun _ => rfl
    have e182 := (show a0_34.eval (.tmp 182) = .int .u8 1 from (fa0_34.at_ 182))
    clear fa0_34 hQ h20 h21
    generalize a0_34.eval = ρ at *
    go_simp
  refine fa0_34.step 183 (.bool true) rfl (lb_ I0.size) ((wanted_at (t := 177) (c := true) (b := true) rfl rfl rfl (lb_ (fa0_34.size.trans I0.size)) (fa0_34.at_ 177)).trans (by rfl)) r_a0_35 (fun a0_35 fa0_35 => ?_)
  clear r_a0_35
  clear fa0_34
  have r_a0_36 : (execOp a0_35.eval oPP12).run Try.prog (wr) = .ok (.value (.bool true)) (wr) := by
    unfold oPP12
    have kc : ∀ v, a0_35.eval (.const v) = v := fun _ => rfl
    have e177 := (show a0_35.eval (.tmp 177) = .bool true from (fa0_35.at_ 177))
    have e183 := (show a0_35.eval (.tmp 183) = .bool true from (fa0_35.at_ 183))
    clear fa0_35 hQ h20 h21
    generalize a0_35.eval = ρ at *
    go_simp
  refine fa0_35.step 184 (.bool true) rfl (lb_ I0.size) (wanted_none rfl) r_a0_36 (fun a0_36 fa0_36 => ?_)
  clear r_a0_36
  clear fa0_35
  refine wpList_nil ?_
  change Code.wp _ _ _ _ _
  refine wp_cond_true (show a0_36.eval (.tmp 184) = .bool true from (fa0_36.at_ 184)) ?_
  refine wp_region_list ?_
  unfold rPL39
  refine fa0_36.move 185 (.int .i64 (l : Int)) _ (Or.inl rfl) rfl (lb_ I0.size) (wanted_none rfl) ((fa0_36.at_ 20).trans h20) (fun a0_37 fa0_37 => ?_)
  clear fa0_36
  refine fa0_37.move 186 (.slice (some ⟨gw, 0, none⟩) n wc) _ (Or.inl rfl) rfl (lb_ I0.size) (wanted_none rfl) ((fa0_37.at_ 14).trans I0.s14) (fun a0_38 fa0_38 => ?_)
  clear fa0_37
  refine fa0_38.move 187 (.int .i64 (i : Int)) _ (Or.inl rfl) rfl (lb_ I0.size) (wanted_none rfl) ((fa0_38.at_ 21).trans h21) (fun a0_39 fa0_39 => ?_)
  clear fa0_38
  have r_a0_40 : (execOp a0_39.eval { dst := some 188, op := Op.indexAddr 46 (Operand.tmp 186) (Operand.tmp 187), type := 0, pos := "outright.go:127", after := #[{ on := 1, ground := Ground.data }, { on := 2, ground := Ground.data }], guard := none }).run Try.prog (wr) = .ok (.value (.pointer (some ⟨gw, i * 3, none⟩))) (wr) := by
    have e186 := (show a0_39.eval (.tmp 186) = .slice (some ⟨gw, 0, none⟩) n wc from (fa0_39.at_ 186))
    have e187 := (show a0_39.eval (.tmp 187) = .int .i64 (i : Int) from (fa0_39.at_ 187))
    clear fa0_39 hQ h20 h21
    generalize a0_39.eval = ρ at *
    go_simp
  refine fa0_39.step 188 (.pointer (some ⟨gw, i * 3, none⟩)) rfl (lb_ I0.size) (wanted_none rfl) r_a0_40 (fun a0_40 fa0_40 => ?_)
  clear r_a0_40
  clear fa0_39
  have r_a0_41 : (execOp a0_40.eval { dst := some 189, op := Op.fieldAddr 54 (Operand.tmp 188) 1, type := 0, pos := "outright.go:127", after := #[{ on := 3, ground := Ground.data }], guard := none }).run Try.prog (wr) = .ok (.value (.pointer (some ⟨gw, i * 3 + 1, none⟩))) (wr) := by
    have e188 := (show a0_40.eval (.tmp 188) = .pointer (some ⟨gw, i * 3, none⟩) from (fa0_40.at_ 188))
    clear fa0_40 hQ h20 h21
    generalize a0_40.eval = ρ at *
    go_simp
  refine fa0_40.step 189 (.pointer (some ⟨gw, i * 3 + 1, none⟩)) rfl (lb_ I0.size) (wanted_none rfl) r_a0_41 (fun a0_41 fa0_41 => ?_)
  clear r_a0_41
  clear fa0_40
  have r_a0_42 : (execOp a0_41.eval { dst := some 190, op := Op.load 29 (Operand.tmp 189), type := 29, pos := "outright.go:127", after := #[{ on := 4, ground := Ground.data }], guard := none }).run Try.prog (wr) = .ok (.value (.int .u32 (y : Int))) (wr) := by
    have e189 := (show a0_41.eval (.tmp 189) = .pointer (some ⟨gw, i * 3 + 1, none⟩) from (fa0_41.at_ 189))
    clear fa0_41 hQ h20 h21
    generalize a0_41.eval = ρ at *
    go_simp
  refine fa0_41.step 190 (.int .u32 (y : Int)) rfl (lb_ I0.size) (wanted_none rfl) r_a0_42 (fun a0_42 fa0_42 => ?_)
  clear r_a0_42
  clear fa0_41
  have r_a0_43 : (execOp a0_42.eval { dst := some 191, op := Op.convert 29 3 (Operand.tmp 190), type := 3, pos := "outright.go:127", after := #[{ on := 5, ground := Ground.data }], guard := none }).run Try.prog (wr) = .ok (.value (.int .i64 (y : Int))) (wr) := by
    have e190 := (show a0_42.eval (.tmp 190) = .int .u32 (y : Int) from (fa0_42.at_ 190))
    clear fa0_42 hQ h20 h21
    generalize a0_42.eval = ρ at *
    go_simp
  refine fa0_42.step 191 (.int .i64 (y : Int)) rfl (lb_ I0.size) (wanted_none rfl) r_a0_43 (fun a0_43 fa0_43 => ?_)
  clear r_a0_43
  clear fa0_42
  have r_a0_44 : (execOp a0_43.eval { dst := some 192, op := Op.binOp BinOp.add 3 (Operand.tmp 191) (Operand.const (Value.int IntKind.i64 1)) 3, type := 3, pos := "outright.go:127", after := #[{ on := 6, ground := Ground.data }], guard := none }).run Try.prog (wr) = .ok (.value (.int .i64 ((y : Int) + 1))) (wr) := by
    have kc : ∀ v, a0_43.eval (.const v) = v := fun _ => rfl
    have e191 := (show a0_43.eval (.tmp 191) = .int .i64 (y : Int) from (fa0_43.at_ 191))
    clear fa0_43 hQ h20 h21
    generalize a0_43.eval = ρ at *
    go_simp
  refine fa0_43.step 192 (.int .i64 ((y : Int) + 1)) rfl (lb_ I0.size) (wanted_none rfl) r_a0_44 (fun a0_44 fa0_44 => ?_)
  clear r_a0_44
  clear fa0_43
  have r_a0_45 : (execOp a0_44.eval { dst := some 193, op := Op.call { callee := Callee.builtin Builtin.max, args := #[Operand.tmp 185, Operand.tmp 192], argTypes := #[3, 3] }, type := 3, pos := "outright.go:127", after := #[{ on := 0, ground := Ground.data }, { on := 7, ground := Ground.data }], guard := none }).run Try.prog (wr) = .ok (.value (.int .i64 ((max l (y + 1) : Nat) : Int))) (wr) := by
    have e185 := (show a0_44.eval (.tmp 185) = .int .i64 (l : Int) from (fa0_44.at_ 185))
    have e192 := (show a0_44.eval (.tmp 192) = .int .i64 ((y : Int) + 1) from (fa0_44.at_ 192))
    clear fa0_44 hQ h20 h21
    generalize a0_44.eval = ρ at *
    go_simp
    omega
  refine fa0_44.step 193 (.int .i64 ((max l (y + 1) : Nat) : Int)) rfl (lb_ I0.size) (wanted_none rfl) r_a0_45 (fun a0_45 fa0_45 => ?_)
  clear r_a0_45
  clear fa0_44
  refine fa0_45.move 20 (.int .i64 ((max l (y + 1) : Nat) : Int)) _ (Or.inr rfl) rfl (lb_ I0.size) (wanted_none rfl) (fa0_45.at_ 193) (fun a0_46 fa0_46 => ?_)
  clear fa0_45
  refine wpList_nil ?_
  change Code.wp _ _ _ _ _
  refine wp_region_list ?_
  unfold rPL35
  refine fa0_46.move 150 (.int .i64 (i : Int)) _ (Or.inl rfl) rfl (lb_ I0.size) (wanted_none rfl) ((fa0_46.at_ 21).trans h21) (fun a0_47 fa0_47 => ?_)
  clear fa0_46
  have r_a0_48 : (execOp a0_47.eval oPP13).run Try.prog (wr) = .ok (.value (.int .i64 ((i : Int) + 1))) (wr) := by
    unfold oPP13
    have kc : ∀ v, a0_47.eval (.const v) = v := fun _ => rfl
    have e150 := (show a0_47.eval (.tmp 150) = .int .i64 (i : Int) from (fa0_47.at_ 150))
    clear fa0_47 hQ h20 h21
    generalize a0_47.eval = ρ at *
    go_simp
  refine fa0_47.step 151 (.int .i64 ((i : Int) + 1)) rfl (lb_ I0.size) (wanted_none rfl) r_a0_48 (fun a0_48 fa0_48 => ?_)
  clear r_a0_48
  clear fa0_47
  refine fa0_48.move 21 (.int .i64 ((i : Int) + 1)) _ (Or.inr rfl) rfl (lb_ I0.size) (wanted_none rfl) (fa0_48.at_ 151) (fun a0_49 fa0_49 => ?_)
  clear fa0_48
  refine wpList_nil ?_
  exact hQ a0_49 (I0.keep fa0_49 rfl rfl rfl rfl rfl rfl rfl rfl) (show a0_49.eval (.tmp 20) = .int .i64 ((max l (y + 1) : Nat) : Int) from (fa0_49.at_ 20)) (show a0_49.eval (.tmp 21) = .int .i64 ((i : Int) + 1) from (fa0_49.at_ 21))
theorem ppL {wc fc l B : Nat} {wa fa : Option Addr} {W : List Wt} {F : List Nat} {v5 v7 v8 v13 v16 v19 : Value} {Q : Exit → Act → World → Prop} (a0 : Act) (w : World) (I0 : IPN (.slice fa F.length fc) v5 v7 v8 v13 (.slice wa W.length wc) v16 v19 a0) (h20 : a0.eval (.tmp 20) = .int .i64 (l : Int)) (h21 : a0.eval (.tmp 21) = .int .i64 ((0 : Nat) : Int)) (hn : W.length ≤ 1048576) (hw : w.ownsRow B 54 3 (.slice wa W.length wc) W.length (anCs W)) (hf : FtRow w fa F) (hact : ∀ x ∈ W, x.act = 1 ∨ x.act = 2) (hok : ∀ x ∈ W, x.pg < 1048576)
    (hQ : ∀ a, IPN (.slice fa F.length fc) v5 v7 v8 v13 (.slice wa W.length wc) v16 v19 a → a.eval (.tmp 20) = .int .i64 (lenF (fateF F) 0 W l : Int) → Q (.exit 4) a w) : (Code.loop cPL3).wp Try.prog Q a0 w := by
  refine wp_loop (fun a V => V = w ∧ IPN (.slice fa F.length fc) v5 v7 v8 v13 (.slice wa W.length wc) v16 v19 a ∧ ∃ i l1 : Nat, i ≤ W.length ∧ a.eval (.tmp 21) = .int .i64 (i : Int) ∧ a.eval (.tmp 20) = .int .i64 (l1 : Int) ∧ lenF (fateF F) i (W.drop i) l1 = lenF (fateF F) 0 W l) (fun a _ => W.length - kOf a 21) ⟨rfl, I0, 0, l, Nat.zero_le _, h21, h20, rfl⟩ ?_
  rintro a V ⟨rfl, I1, i, l1, hi, g21, g20, hl⟩
  by_cases hgo : i < W.length
  · by_cases hjf : i < F.length
    · obtain ⟨x, hx⟩ : ∃ x, W[i]? = some x := ⟨_, List.getElem?_eq_getElem hgo⟩
      obtain ⟨y, hy⟩ : ∃ y, F[i]? = some y := ⟨_, List.getElem?_eq_getElem hjf⟩
      have hxm := List.mem_of_getElem? hx
      have hw0 := own_base hw (Nat.zero_le B)
      obtain ⟨gw, rfl, _⟩ := own_some hw0 (by omega)
      obtain ⟨gf, q, rfl⟩ := hf.place (fun e => by rw [e] at hjf; cases hjf)
      have cf := hf.cells gf q rfl i y hy
      have c0 := own_cell hw0 (anCs_at hx 0 _ rfl)
      have c1 := own_cell hw0 (anCs_at hx 1 _ rfl)
      have c2 := own_cell hw0 (anCs_at hx 2 _ rfl)
      have hfy : fateF F i = y := by unfold fateF; rw [hy]; rfl
      have hd : W.drop i = x :: W.drop (i + 1) := by
        have e : W[i] = x := by rw [List.getElem?_eq_getElem hgo] at hx; exact Option.some.inj hx
        rw [List.drop_eq_getElem_cons hgo, e]
      rw [hd] at hl
      have hl2 : lenF (fateF F) (i + 1) (W.drop (i + 1)) (if y = 0 then l1 else if x.act = 2 then max l1 x.pages else max l1 (x.pg + 1)) = lenF (fateF F) 0 W l := by rw [← hl, ← hfy]; rfl
      have next : ∀ l2 : Nat, lenF (fateF F) (i + 1) (W.drop (i + 1)) l2 = lenF (fateF F) 0 W l → ∀ a', IPN (.slice (some ⟨gf, q, none⟩) F.length fc) v5 v7 v8 v13 (.slice (some ⟨gw, 0, none⟩) W.length wc) v16 v19 a' → a'.eval (.tmp 20) = .int .i64 (l2 : Int) → a'.eval (.tmp 21) = .int .i64 ((i : Int) + 1) →
          (V = V ∧ IPN (.slice (some ⟨gf, q, none⟩) F.length fc) v5 v7 v8 v13 (.slice (some ⟨gw, 0, none⟩) W.length wc) v16 v19 a' ∧ ∃ i' l1' : Nat, i' ≤ W.length ∧ a'.eval (.tmp 21) = .int .i64 (i' : Int) ∧ a'.eval (.tmp 20) = .int .i64 (l1' : Int) ∧ lenF (fateF F) i' (W.drop i') l1' = lenF (fateF F) 0 W l) ∧ W.length - kOf a' 21 < W.length - kOf a 21 := by
        intro l2 hl2 a' i3 h20' h21'
        have h4 : a'.eval (.tmp 21) = .int .i64 ((i + 1 : Nat) : Int) := h21'
        refine ⟨⟨rfl, i3, i + 1, l2, hgo, h4, h20', hl2⟩, ?_⟩
        rw [kOf_eq h4, kOf_eq g21]
        omega
      by_cases hy0 : y = 0
      · subst hy0
        rw [if_pos rfl] at hl2
        exact ppA (Q := Exit.then _ Q) a V I1 g20 g21 hgo hjf hn cf (next _ hl2)
      · rw [if_neg hy0] at hl2
        rcases hact x hxm with e | e
        · rw [if_neg (by omega)] at hl2
          rw [e] at c0
          exact ppW (Q := Exit.then _ Q) a V I1 g20 g21 hgo hjf hn cf hy0 c0 c1 (hok x hxm) (next _ hl2)
        · rw [if_pos e] at hl2
          rw [e] at c0
          exact ppG (Q := Exit.then _ Q) a V I1 g20 g21 hgo hjf hn cf hy0 c0 c2 (next _ hl2)
    · have hz : lenF (fateF F) i (W.drop i) l1 = l1 := lenF_zero _ _ _ (fun j hj => by unfold fateF; rw [List.getElem?_eq_none (by omega)]; rfl)
      rw [hz] at hl
      exact ppF a V I1 g20 g21 hgo (by omega) (fun a' i2 h2 => hQ a' i2 (by rw [← hl]; exact h2))
  · obtain rfl : W.length = i := by omega
    rw [List.drop_length] at hl
    have hl' : l1 = lenF (fateF F) 0 W l := hl
    exact ppE a V I1 g20 g21 (Nat.le_refl _) (fun a' i2 h2 => hQ a' i2 (by rw [← hl']; exact h2))
end Go.Proofs.Ytjiaepeglghheaa
