/- DiskSafe: the lost fork, and fates of 255. -/
import Derived.Test.YtjiaepeglghheaaPT2
namespace Go.Proofs.Ytjiaepeglghheaa
open Go.RowKit

set_option maxRecDepth 100000 in
set_option maxHeartbeats 4000000 in
theorem pt1 {b bw bk bl n sc nc wc cf : Nat} {sa na wa pf : Option Addr} {w W : World} {D : Dk} {F : List Nat} {U V K L : Nat → Prop} {v19 : Value} {Q : Exit → Act → World → Prop} (hQp : ∀ c (a : Act) d v w, Q (.panic c) (a.put d v) w → Q (.panic c) a w) (a0 : Act)
    (I0 : IPN (.slice pf F.length cf) (.pointer (some ⟨b, 0, none⟩)) (.slice sa D.I.length sc) (.slice (some ⟨bw, 0, none⟩) 8 8) (.slice na D.P.length nc) (.slice wa D.W.length wc) (.pointer (some ⟨bk, 0, none⟩)) v19 a0) (h15 : a0.eval (.tmp 15) = .pointer (some ⟨bl, 0, none⟩)) (g : SfB w W b bw bk D sa na wa sc nc wc U V K) (l : DkAt W bl D L)
    (hL : ∀ k, L k → w.heap.size ≤ k ∧ ¬ U k ∧ ¬ K k ∧ ¬ V k ∧ ¬ (Value.slice sa D.I.length sc).ownBlock = some k ∧ ¬ (Value.slice na D.P.length nc).ownBlock = some k ∧ ¬ (Value.slice wa D.W.length wc).ownBlock = some k)
    (hf : FtRow w pf F) (nf : ∀ g o, pf = some ⟨g, o, none⟩ → g < w.heap.size)
    (j : DkIn D n) (hn : n ≤ 1048575) (e : DkSafe D) (p : D.page = 1024) (m : D.most = 8)
    (hQ : ∀ (a : Act) W', a.defers = [] → a.eval (.tmp 4) = .bool true → Same w W' → Q .ret a W') : cPT1.wp Try.prog Q a0 W := by
  have fa0_0 := Fe.refl a0
  have q := j.sm (m := 1048576) (by omega) (by decide)
  have hR := j.ok.hp0
  have el := lose_nil D
  have hft0 : FtRow W none ([] : List Nat) := ⟨fun e => absurd rfl e, fun g o e => by cases e⟩
  have hl0 : (setP D.page (fateF []) 0 D.W D.I).length ≤ 1048576 := Nat.le_trans (Nat.le_of_eq (congrArg List.length el)) q.I
  have hC := crash_as (F := []) (fa := none) (fc := 0) W l j.ok q hl0 hft0 (fun g o e => by cases e) e.off rfl
  simp only [List.length_nil] at hC
  clear hl0 hft0
  unfold cPT1
  refine wp_seq (wp_seq ?_)
  refine wp_region_list ?_
  unfold rPL22
  refine fa0_0.move 92 (.pointer (some ⟨bl, 0, none⟩)) _ (Or.inl rfl) rfl (lb_ I0.size) (wanted_none rfl) ((fa0_0.at_ 15).trans h15) (fun a0_1 fa0_1 => ?_)
  clear fa0_0
  have r_a0_2 : (execOp a0_1.eval { dst := some 93, op := Op.binOp BinOp.eql 24 (Operand.tmp 92) (Operand.const (Value.pointer none)) 24, type := 4, pos := "outright.go:110", after := #[{ on := 0, ground := Ground.data }], guard := none }).run Try.prog (W) = .ok (.value (.bool false)) (W) := by
    have kc : ∀ v, a0_1.eval (.const v) = v := fun _ => rfl
    have e92 := (show a0_1.eval (.tmp 92) = .pointer (some ⟨bl, 0, none⟩) from (fa0_1.at_ 92))
    clear fa0_1 I0 h15 hQ hQp g l hL hf nf j e p m q hR el
    generalize a0_1.eval = ρ at *
    go_simp
  refine fa0_1.step 93 (.bool false) rfl (lb_ I0.size) (wanted_none rfl) r_a0_2 (fun a0_2 fa0_2 => ?_)
  clear r_a0_2
  clear fa0_1
  refine fa0_2.move 94 (.bool false) _ (Or.inl rfl) rfl (lb_ I0.size) (wanted_none rfl) (fa0_2.at_ 93) (fun a0_3 fa0_3 => ?_)
  clear fa0_2
  refine fa0_3.move 95 (.pointer (some ⟨bk, 0, none⟩)) _ (Or.inl rfl) rfl (lb_ I0.size) ((wanted_at (t := 94) (c := false) (b := false) rfl rfl rfl (lb_ (fa0_3.size.trans I0.size)) (fa0_3.at_ 94)).trans (by rfl)) ((fa0_3.at_ 16).trans I0.s16) (fun a0_4 fa0_4 => ?_)
  clear fa0_3
  have r_a0_5 : (execOp a0_4.eval { dst := some 96, op := Op.binOp BinOp.eql 24 (Operand.tmp 95) (Operand.const (Value.pointer none)) 24, type := 4, pos := "outright.go:110", after := #[{ on := 3, ground := Ground.data }, { on := 2, ground := Ground.guard }], guard := some (2, false) }).run Try.prog (W) = .ok (.value (.bool false)) (W) := by
    have kc : ∀ v, a0_4.eval (.const v) = v := fun _ => rfl
    have e95 := (show a0_4.eval (.tmp 95) = .pointer (some ⟨bk, 0, none⟩) from (fa0_4.at_ 95))
    clear fa0_4 I0 h15 hQ hQp g l hL hf nf j e p m q hR el
    generalize a0_4.eval = ρ at *
    go_simp
  refine fa0_4.step 96 (.bool false) rfl (lb_ I0.size) ((wanted_at (t := 94) (c := false) (b := false) rfl rfl rfl (lb_ (fa0_4.size.trans I0.size)) (fa0_4.at_ 94)).trans (by rfl)) r_a0_5 (fun a0_5 fa0_5 => ?_)
  clear r_a0_5
  clear fa0_4
  have r_a0_6 : (execOp a0_5.eval { dst := some 97, op := Op.pick (Operand.tmp 94) (Operand.const (Value.bool true)) (Operand.tmp 96), type := 4, pos := "outright.go:110", after := #[{ on := 2, ground := Ground.data }, { on := 4, ground := Ground.data }], guard := none }).run Try.prog (W) = .ok (.value (.bool false)) (W) := by
    have kc : ∀ v, a0_5.eval (.const v) = v := fun _ => rfl
    have e94 := (show a0_5.eval (.tmp 94) = .bool false from (fa0_5.at_ 94))
    have e96 := (show a0_5.eval (.tmp 96) = .bool false from (fa0_5.at_ 96))
    clear fa0_5 I0 h15 hQ hQp g l hL hf nf j e p m q hR el
    generalize a0_5.eval = ρ at *
    go_simp
  refine fa0_5.step 97 (.bool false) rfl (lb_ I0.size) (wanted_none rfl) r_a0_6 (fun a0_6 fa0_6 => ?_)
  clear r_a0_6
  clear fa0_5
  refine fa0_6.move 98 (.bool false) _ (Or.inl rfl) rfl (lb_ I0.size) (wanted_none rfl) (fa0_6.at_ 97) (fun a0_7 fa0_7 => ?_)
  clear fa0_6
  refine fa0_7.move 99 (.pointer (some ⟨bl, 0, none⟩)) _ (Or.inl rfl) rfl (lb_ I0.size) ((wanted_at (t := 98) (c := false) (b := false) rfl rfl rfl (lb_ (fa0_7.size.trans I0.size)) (fa0_7.at_ 98)).trans (by rfl)) ((fa0_7.at_ 15).trans h15) (fun a0_8 fa0_8 => ?_)
  clear fa0_7
  have r_a0_9 : (execOp a0_8.eval { dst := some 100, op := Op.call { callee := Callee.value (Operand.func 11), args := #[Operand.tmp 99, Operand.const (Value.slice none 0 0)], argTypes := #[24, 33] }, type := 25, pos := "outright.go:110", after := #[{ on := 7, ground := Ground.data }, { on := 6, ground := Ground.chain }, { on := 6, ground := Ground.guard }], guard := some (6, false) }).run Try.prog (W) = .ok (.enter 11 #[.pointer (some ⟨bl, 0, none⟩), Value.slice none 0 0]) (W) := by
    have kc : ∀ v, a0_8.eval (.const v) = v := fun _ => rfl
    have kf : ∀ f, a0_8.eval (.func f) = .func (.func f) #[] #[] := fun _ => rfl
    have e99 := (show a0_8.eval (.tmp 99) = .pointer (some ⟨bl, 0, none⟩) from (fa0_8.at_ 99))
    clear fa0_8 I0 h15 hQ hQp g l hL hf nf j e p m q hR el
    generalize a0_8.eval = ρ at *
    go_simp
  refine fa0_8.call 100 rfl (lb_ I0.size) ((wanted_at (t := 98) (c := false) (b := false) rfl rfl rfl (lb_ (fa0_8.size.trans I0.size)) (fa0_8.at_ 98)).trans (by rfl)) r_a0_9 (hC) (fun e W1 hR => ?_)
  obtain ⟨rfl, l1, f1⟩ := hR
  clear r_a0_9
  clear hC
  have g1 := g.fr f1 hL
  have hIm := dimage_calls W1 l1 hR (by rw [el]; exact q.I)
  rw [el] at hIm
  clear f1 l1
  refine ⟨_, rfl, fun a0_9 fa0_9 => ?_⟩
  clear fa0_8
  have r_a0_10 : (execOp a0_9.eval { dst := some 101, op := Op.binOp BinOp.neq 25 (Operand.tmp 100) (Operand.const (Value.int IntKind.i64 0)) 25, type := 4, pos := "outright.go:110", after := #[{ on := 8, ground := Ground.data }, { on := 6, ground := Ground.guard }], guard := some (6, false) }).run Try.prog (W1) = .ok (.value (.bool false)) (W1) := by
    have kc : ∀ v, a0_9.eval (.const v) = v := fun _ => rfl
    have e100 := (show a0_9.eval (.tmp 100) = .int .i64 0 from (fa0_9.at_ 100))
    clear fa0_9 I0 h15 hQ hQp g l hL hf nf j e p m q hR el
    generalize a0_9.eval = ρ at *
    go_simp
  refine fa0_9.step 101 (.bool false) rfl (lb_ I0.size) ((wanted_at (t := 98) (c := false) (b := false) rfl rfl rfl (lb_ (fa0_9.size.trans I0.size)) (fa0_9.at_ 98)).trans (by rfl)) r_a0_10 (fun a0_10 fa0_10 => ?_)
  clear r_a0_10
  clear fa0_9
  have r_a0_11 : (execOp a0_10.eval { dst := some 102, op := Op.pick (Operand.tmp 98) (Operand.const (Value.bool true)) (Operand.tmp 101), type := 4, pos := "outright.go:110", after := #[{ on := 6, ground := Ground.data }, { on := 9, ground := Ground.data }], guard := none }).run Try.prog (W1) = .ok (.value (.bool false)) (W1) := by
    have kc : ∀ v, a0_10.eval (.const v) = v := fun _ => rfl
    have e98 := (show a0_10.eval (.tmp 98) = .bool false from (fa0_10.at_ 98))
    have e101 := (show a0_10.eval (.tmp 101) = .bool false from (fa0_10.at_ 101))
    clear fa0_10 I0 h15 hQ hQp g l hL hf nf j e p m q hR el
    generalize a0_10.eval = ρ at *
    go_simp
  refine fa0_10.step 102 (.bool false) rfl (lb_ I0.size) (wanted_none rfl) r_a0_11 (fun a0_11 fa0_11 => ?_)
  clear r_a0_11
  clear fa0_10
  refine fa0_11.move 103 (.bool false) _ (Or.inl rfl) rfl (lb_ I0.size) (wanted_none rfl) (fa0_11.at_ 102) (fun a0_12 fa0_12 => ?_)
  clear fa0_11
  refine fa0_12.move 104 (.pointer (some ⟨bl, 0, none⟩)) _ (Or.inl rfl) rfl (lb_ I0.size) ((wanted_at (t := 103) (c := false) (b := false) rfl rfl rfl (lb_ (fa0_12.size.trans I0.size)) (fa0_12.at_ 103)).trans (by rfl)) ((fa0_12.at_ 15).trans h15) (fun a0_13 fa0_13 => ?_)
  clear fa0_12
  have r_a0_14 : (execOp a0_13.eval { dst := some 105, op := Op.call { callee := Callee.value (Operand.func 14), args := #[Operand.tmp 104], argTypes := #[24] }, type := 40, pos := "outright.go:110", after := #[{ on := 12, ground := Ground.data }, { on := 11, ground := Ground.chain }, { on := 11, ground := Ground.guard }], guard := some (11, false) }).run Try.prog (W1) = .ok (.enter 14 #[.pointer (some ⟨bl, 0, none⟩)]) (W1) := by
    have kf : ∀ f, a0_13.eval (.func f) = .func (.func f) #[] #[] := fun _ => rfl
    have e104 := (show a0_13.eval (.tmp 104) = .pointer (some ⟨bl, 0, none⟩) from (fa0_13.at_ 104))
    clear fa0_13 I0 h15 hQ hQp g l hL hf nf j e p m q hR el
    generalize a0_13.eval = ρ at *
    go_simp
  refine fa0_13.call 105 rfl (lb_ I0.size) ((wanted_at (t := 103) (c := false) (b := false) rfl rfl rfl (lb_ (fa0_13.size.trans I0.size)) (fa0_13.at_ 103)).trans (by rfl)) r_a0_14 (hIm) (fun e W2 hR => ?_)
  obtain ⟨xa, xc, rfl, o2, s2⟩ := hR
  clear r_a0_14
  clear hIm
  have g2 := g1.on s2
  have hT := alike_true W2 q.I o2 g2.y
  clear g1 o2 s2
  refine ⟨_, rfl, fun a0_14 fa0_14 => ?_⟩
  clear fa0_13
  refine fa0_14.move 106 (.slice sa D.I.length sc) _ (Or.inl rfl) rfl (lb_ I0.size) ((wanted_at (t := 103) (c := false) (b := false) rfl rfl rfl (lb_ (fa0_14.size.trans I0.size)) (fa0_14.at_ 103)).trans (by rfl)) ((fa0_14.at_ 7).trans I0.s7) (fun a0_15 fa0_15 => ?_)
  clear fa0_14
  have r_a0_16 : (execOp a0_15.eval { dst := some 107, op := Op.call { callee := Callee.value (Operand.func 12), args := #[Operand.tmp 105, Operand.tmp 106], argTypes := #[40, 40] }, type := 4, pos := "outright.go:110", after := #[{ on := 13, ground := Ground.data }, { on := 14, ground := Ground.data }, { on := 13, ground := Ground.chain }, { on := 11, ground := Ground.guard }], guard := some (11, false) }).run Try.prog (W2) = .ok (.enter 12 #[.slice xa D.I.length xc, .slice sa D.I.length sc]) (W2) := by
    have kf : ∀ f, a0_15.eval (.func f) = .func (.func f) #[] #[] := fun _ => rfl
    have e105 := (show a0_15.eval (.tmp 105) = .slice xa D.I.length xc from (fa0_15.at_ 105))
    have e106 := (show a0_15.eval (.tmp 106) = .slice sa D.I.length sc from (fa0_15.at_ 106))
    clear fa0_15 I0 h15 hQ hQp g l hL hf nf j e p m q hR el
    generalize a0_15.eval = ρ at *
    go_simp
  refine fa0_15.call 107 rfl (lb_ I0.size) ((wanted_at (t := 103) (c := false) (b := false) rfl rfl rfl (lb_ (fa0_15.size.trans I0.size)) (fa0_15.at_ 103)).trans (by rfl)) r_a0_16 (hT) (fun e W3 hR => ?_)
  obtain ⟨rfl, s3⟩ := hR
  clear r_a0_16
  clear hT
  have g3 := g2.on s3
  clear g2 s3
  refine ⟨_, rfl, fun a0_16 fa0_16 => ?_⟩
  clear fa0_15
  have r_a0_17 : (execOp a0_16.eval { dst := some 108, op := Op.unOp UnOp.not 4 (Operand.tmp 107), type := 4, pos := "outright.go:110", after := #[{ on := 15, ground := Ground.data }, { on := 11, ground := Ground.guard }], guard := some (11, false) }).run Try.prog (W3) = .ok (.value (.bool false)) (W3) := by
    have e107 := (show a0_16.eval (.tmp 107) = .bool true from (fa0_16.at_ 107))
    clear fa0_16 I0 h15 hQ hQp g l hL hf nf j e p m q hR el
    generalize a0_16.eval = ρ at *
    go_simp
  refine fa0_16.step 108 (.bool false) rfl (lb_ I0.size) ((wanted_at (t := 103) (c := false) (b := false) rfl rfl rfl (lb_ (fa0_16.size.trans I0.size)) (fa0_16.at_ 103)).trans (by rfl)) r_a0_17 (fun a0_17 fa0_17 => ?_)
  clear r_a0_17
  clear fa0_16
  have r_a0_18 : (execOp a0_17.eval { dst := some 109, op := Op.pick (Operand.tmp 103) (Operand.const (Value.bool true)) (Operand.tmp 108), type := 4, pos := "outright.go:110", after := #[{ on := 11, ground := Ground.data }, { on := 16, ground := Ground.data }], guard := none }).run Try.prog (W3) = .ok (.value (.bool false)) (W3) := by
    have kc : ∀ v, a0_17.eval (.const v) = v := fun _ => rfl
    have e103 := (show a0_17.eval (.tmp 103) = .bool false from (fa0_17.at_ 103))
    have e108 := (show a0_17.eval (.tmp 108) = .bool false from (fa0_17.at_ 108))
    clear fa0_17 I0 h15 hQ hQp g l hL hf nf j e p m q hR el
    generalize a0_17.eval = ρ at *
    go_simp
  refine fa0_17.step 109 (.bool false) rfl (lb_ I0.size) (wanted_none rfl) r_a0_18 (fun a0_18 fa0_18 => ?_)
  clear r_a0_18
  clear fa0_17
  refine wpList_nil ?_
  change Code.wp _ _ _ _ _
  refine wp_cond_false (show a0_18.eval (.tmp 109) = .bool false from (fa0_18.at_ 109)) (wp_skip ?_)
  change Code.wp _ _ _ _ _
  refine wp_seq ?_
  refine wp_region_list ?_
  unfold rPL24
  refine fa0_18.move 17 (.slice none 0 0) _ (Or.inr rfl) rfl (lb_ I0.size) (wanted_none rfl) rfl (fun a0_19 fa0_19 => ?_)
  clear fa0_18
  refine wpList_nil ?_
  change Code.wp _ _ _ _ _
  refine wp_seq (wp_seq ?_)
  refine wp_region_list ?_
  unfold rPL25
  refine fa0_19.move 18 (.int .i64 ((0 : Nat) : Int)) _ (Or.inr rfl) rfl (lb_ I0.size) (wanted_none rfl) rfl (fun a0_20 fa0_20 => ?_)
  clear fa0_19
  refine wpList_nil ?_
  change Code.wp _ _ _ _ _
  refine wp_block ?_
  refine pnL (v19 := a0_20.eval (.tmp 19)) a0_20 W3 ⟨fa0_20.size.trans I0.size, fa0_20.defers.trans I0.defers, (show a0_20.eval (.tmp 1) = .slice pf F.length cf from ((fa0_20.at_ 1).trans I0.s1)), (show a0_20.eval (.tmp 5) = .pointer (some ⟨b, 0, none⟩) from ((fa0_20.at_ 5).trans I0.s5)), (show a0_20.eval (.tmp 7) = .slice sa D.I.length sc from ((fa0_20.at_ 7).trans I0.s7)), (show a0_20.eval (.tmp 8) = .slice (some ⟨bw, 0, none⟩) 8 8 from ((fa0_20.at_ 8).trans I0.s8)), (show a0_20.eval (.tmp 13) = .slice na D.P.length nc from ((fa0_20.at_ 13).trans I0.s13)), (show a0_20.eval (.tmp 14) = .slice wa D.W.length wc from ((fa0_20.at_ 14).trans I0.s14)), (show a0_20.eval (.tmp 16) = .pointer (some ⟨bk, 0, none⟩) from ((fa0_20.at_ 16).trans I0.s16)), rfl⟩ (show a0_20.eval (.tmp 18) = .int .i64 ((0 : Nat) : Int) from (fa0_20.at_ 18)) (show a0_20.eval (.tmp 17) = .slice none 0 0 from (fa0_20.at_ 17)) q.W (fun b1 W4 ao cc i4 h17 o4 s4 => ?_)
  change Code.wp _ _ _ _ _
  exact pt2 hQp b1 i4 h17 (g3.on s4) (ft_full o4) (fun g o e2 hk => by have := own_low o4 (k := g) (by rw [e2]; simp [Value.ownBlock]); have := g3.k.lt g hk; omega) hf nf j hn e p m hQ
end Go.Proofs.Ytjiaepeglghheaa
