/- DiskSafe's middle: the kept fork and the disk lose their power, and how long the image may be. -/
import Derived.Test.YtjiaepeglghheaaPT3
namespace Go.Proofs.Ytjiaepeglghheaa
open Go.RowKit

set_option maxRecDepth 100000 in
set_option maxHeartbeats 4000000 in
theorem pt2 {b bw bk n sc nc wc cc cf : Nat} {sa na wa ao pf : Option Addr} {w W : World} {D : Dk} {F : List Nat} {U V K : Nat → Prop} {v19 : Value} {Q : Exit → Act → World → Prop} (hQp : ∀ c (a : Act) d v w, Q (.panic c) (a.put d v) w → Q (.panic c) a w) (a0 : Act)
    (I0 : IPN (.slice pf F.length cf) (.pointer (some ⟨b, 0, none⟩)) (.slice sa D.I.length sc) (.slice (some ⟨bw, 0, none⟩) 8 8) (.slice na D.P.length nc) (.slice wa D.W.length wc) (.pointer (some ⟨bk, 0, none⟩)) v19 a0) (h17 : a0.eval (.tmp 17) = .slice ao D.W.length cc) (g : SfB w W b bw bk D sa na wa sc nc wc U V K)
    (ha : FtRow W ao (List.replicate D.W.length 255)) (hab : ∀ g o, ao = some ⟨g, o, none⟩ → ¬ K g) (hf : FtRow w pf F) (nf : ∀ g o, pf = some ⟨g, o, none⟩ → g < w.heap.size)
    (j : DkIn D n) (hn : n ≤ 1048575) (e : DkSafe D) (p : D.page = 1024) (m : D.most = 8)
    (hQ : ∀ (a : Act) W', a.defers = [] → a.eval (.tmp 4) = .bool true → Same w W' → Q .ret a W') : cPT2.wp Try.prog Q a0 W := by
  have fa0_0 := Fe.refl a0
  have q := j.sm (m := 1048576) (by omega) (by decide)
  have jk : DkIn (dkLose D (List.replicate D.W.length 255)) (n + 1) := lose_in j
  have ek : (dkLose D (List.replicate D.W.length 255)).I = D.P := lose_all e
  have hC := crash_all (fc := cc) W g.k j.ok q (Nat.le_trans jk.I (Nat.le_trans jk.most (by decide))) ha hab e.off
  have hR := j.ok.hp0
  clear jk
  unfold cPT2
  refine wp_seq (wp_seq ?_)
  refine wp_region_list ?_
  unfold rPL29
  refine fa0_0.move 119 (.pointer (some ⟨bk, 0, none⟩)) _ (Or.inl rfl) rfl (lb_ I0.size) (wanted_none rfl) ((fa0_0.at_ 16).trans I0.s16) (fun a0_1 fa0_1 => ?_)
  clear fa0_0
  refine fa0_1.move 120 (.slice ao D.W.length cc) _ (Or.inl rfl) rfl (lb_ I0.size) (wanted_none rfl) ((fa0_1.at_ 17).trans h17) (fun a0_2 fa0_2 => ?_)
  clear fa0_1
  have r_a0_3 : (execOp a0_2.eval { dst := some 121, op := Op.call { callee := Callee.value (Operand.func 11), args := #[Operand.tmp 119, Operand.tmp 120], argTypes := #[24, 33] }, type := 25, pos := "outright.go:117", after := #[{ on := 0, ground := Ground.data }, { on := 1, ground := Ground.data }], guard := none }).run Try.prog (W) = .ok (.enter 11 #[.pointer (some ⟨bk, 0, none⟩), .slice ao D.W.length cc]) (W) := by
    have kf : ∀ f, a0_2.eval (.func f) = .func (.func f) #[] #[] := fun _ => rfl
    have e119 := (show a0_2.eval (.tmp 119) = .pointer (some ⟨bk, 0, none⟩) from (fa0_2.at_ 119))
    have e120 := (show a0_2.eval (.tmp 120) = .slice ao D.W.length cc from (fa0_2.at_ 120))
    clear fa0_2 I0 h17 hQ hQp g ha hab hf nf j e p m q
    generalize a0_2.eval = ρ at *
    go_simp
  refine fa0_2.call 121 rfl (lb_ I0.size) (wanted_none rfl) r_a0_3 (hC) (fun e W1 hR => ?_)
  obtain ⟨rfl, k1, f1⟩ := hR
  clear r_a0_3
  clear hC
  have g1 := g.lost f1
  have hIm := dimage_calls W1 k1 hR (by rw [ek]; exact q.P)
  rw [ek] at hIm
  clear f1 k1 ek
  refine ⟨_, rfl, fun a0_3 fa0_3 => ?_⟩
  clear fa0_2
  have r_a0_4 : (execOp a0_3.eval { dst := some 122, op := Op.binOp BinOp.neq 25 (Operand.tmp 121) (Operand.const (Value.int IntKind.i64 0)) 25, type := 4, pos := "outright.go:117", after := #[{ on := 2, ground := Ground.data }], guard := none }).run Try.prog (W1) = .ok (.value (.bool false)) (W1) := by
    have kc : ∀ v, a0_3.eval (.const v) = v := fun _ => rfl
    have e121 := (show a0_3.eval (.tmp 121) = .int .i64 0 from (fa0_3.at_ 121))
    clear fa0_3 I0 h17 hQ hQp g ha hab hf nf j e p m q
    generalize a0_3.eval = ρ at *
    go_simp
  refine fa0_3.step 122 (.bool false) rfl (lb_ I0.size) (wanted_none rfl) r_a0_4 (fun a0_4 fa0_4 => ?_)
  clear r_a0_4
  clear fa0_3
  refine fa0_4.move 123 (.bool false) _ (Or.inl rfl) rfl (lb_ I0.size) (wanted_none rfl) (fa0_4.at_ 122) (fun a0_5 fa0_5 => ?_)
  clear fa0_4
  refine fa0_5.move 124 (.pointer (some ⟨bk, 0, none⟩)) _ (Or.inl rfl) rfl (lb_ I0.size) ((wanted_at (t := 123) (c := false) (b := false) rfl rfl rfl (lb_ (fa0_5.size.trans I0.size)) (fa0_5.at_ 123)).trans (by rfl)) ((fa0_5.at_ 16).trans I0.s16) (fun a0_6 fa0_6 => ?_)
  clear fa0_5
  have r_a0_7 : (execOp a0_6.eval { dst := some 125, op := Op.call { callee := Callee.value (Operand.func 14), args := #[Operand.tmp 124], argTypes := #[24] }, type := 40, pos := "outright.go:117", after := #[{ on := 5, ground := Ground.data }, { on := 4, ground := Ground.chain }, { on := 4, ground := Ground.guard }], guard := some (4, false) }).run Try.prog (W1) = .ok (.enter 14 #[.pointer (some ⟨bk, 0, none⟩)]) (W1) := by
    have kf : ∀ f, a0_6.eval (.func f) = .func (.func f) #[] #[] := fun _ => rfl
    have e124 := (show a0_6.eval (.tmp 124) = .pointer (some ⟨bk, 0, none⟩) from (fa0_6.at_ 124))
    clear fa0_6 I0 h17 hQ hQp g ha hab hf nf j e p m q
    generalize a0_6.eval = ρ at *
    go_simp
  refine fa0_6.call 125 rfl (lb_ I0.size) ((wanted_at (t := 123) (c := false) (b := false) rfl rfl rfl (lb_ (fa0_6.size.trans I0.size)) (fa0_6.at_ 123)).trans (by rfl)) r_a0_7 (hIm) (fun e W2 hR => ?_)
  obtain ⟨xa, xc, rfl, o2, s2⟩ := hR
  clear r_a0_7
  clear hIm
  have g2 := g1.on s2
  have hT := alike_true W2 q.P o2 g2.n
  clear g1 o2 s2
  refine ⟨_, rfl, fun a0_7 fa0_7 => ?_⟩
  clear fa0_6
  refine fa0_7.move 126 (.slice na D.P.length nc) _ (Or.inl rfl) rfl (lb_ I0.size) ((wanted_at (t := 123) (c := false) (b := false) rfl rfl rfl (lb_ (fa0_7.size.trans I0.size)) (fa0_7.at_ 123)).trans (by rfl)) ((fa0_7.at_ 13).trans I0.s13) (fun a0_8 fa0_8 => ?_)
  clear fa0_7
  have r_a0_9 : (execOp a0_8.eval { dst := some 127, op := Op.call { callee := Callee.value (Operand.func 12), args := #[Operand.tmp 125, Operand.tmp 126], argTypes := #[40, 40] }, type := 4, pos := "outright.go:117", after := #[{ on := 6, ground := Ground.data }, { on := 7, ground := Ground.data }, { on := 6, ground := Ground.chain }, { on := 4, ground := Ground.guard }], guard := some (4, false) }).run Try.prog (W2) = .ok (.enter 12 #[.slice xa D.P.length xc, .slice na D.P.length nc]) (W2) := by
    have kf : ∀ f, a0_8.eval (.func f) = .func (.func f) #[] #[] := fun _ => rfl
    have e125 := (show a0_8.eval (.tmp 125) = .slice xa D.P.length xc from (fa0_8.at_ 125))
    have e126 := (show a0_8.eval (.tmp 126) = .slice na D.P.length nc from (fa0_8.at_ 126))
    clear fa0_8 I0 h17 hQ hQp g ha hab hf nf j e p m q
    generalize a0_8.eval = ρ at *
    go_simp
  refine fa0_8.call 127 rfl (lb_ I0.size) ((wanted_at (t := 123) (c := false) (b := false) rfl rfl rfl (lb_ (fa0_8.size.trans I0.size)) (fa0_8.at_ 123)).trans (by rfl)) r_a0_9 (hT) (fun e W3 hR => ?_)
  obtain ⟨rfl, s3⟩ := hR
  clear r_a0_9
  clear hT
  have g3 := g2.on s3
  clear g2 s3
  have hf3 := hf.fr g3.same (fun _ _ _ f => f)
  have jl : DkIn (dkLose D F) (n + 1) := lose_in j
  have hC := crash_as (F := F) (fc := cf) W3 g3.d j.ok q (Nat.le_trans jl.I (Nat.le_trans jl.most (by decide))) hf3 (fun g o e2 hu => by have := nf g o e2; have := (g3.u _ hu).1; omega) e.off rfl
  clear hf3
  refine ⟨_, rfl, fun a0_9 fa0_9 => ?_⟩
  clear fa0_8
  have r_a0_10 : (execOp a0_9.eval { dst := some 128, op := Op.unOp UnOp.not 4 (Operand.tmp 127), type := 4, pos := "outright.go:117", after := #[{ on := 8, ground := Ground.data }, { on := 4, ground := Ground.guard }], guard := some (4, false) }).run Try.prog (W3) = .ok (.value (.bool false)) (W3) := by
    have e127 := (show a0_9.eval (.tmp 127) = .bool true from (fa0_9.at_ 127))
    clear fa0_9 I0 h17 hQ hQp g ha hab hf nf j e p m q
    generalize a0_9.eval = ρ at *
    go_simp
  refine fa0_9.step 128 (.bool false) rfl (lb_ I0.size) ((wanted_at (t := 123) (c := false) (b := false) rfl rfl rfl (lb_ (fa0_9.size.trans I0.size)) (fa0_9.at_ 123)).trans (by rfl)) r_a0_10 (fun a0_10 fa0_10 => ?_)
  clear r_a0_10
  clear fa0_9
  have r_a0_11 : (execOp a0_10.eval { dst := some 129, op := Op.pick (Operand.tmp 123) (Operand.const (Value.bool true)) (Operand.tmp 128), type := 4, pos := "outright.go:117", after := #[{ on := 4, ground := Ground.data }, { on := 9, ground := Ground.data }], guard := none }).run Try.prog (W3) = .ok (.value (.bool false)) (W3) := by
    have kc : ∀ v, a0_10.eval (.const v) = v := fun _ => rfl
    have e123 := (show a0_10.eval (.tmp 123) = .bool false from (fa0_10.at_ 123))
    have e128 := (show a0_10.eval (.tmp 128) = .bool false from (fa0_10.at_ 128))
    clear fa0_10 I0 h17 hQ hQp g ha hab hf nf j e p m q
    generalize a0_10.eval = ρ at *
    go_simp
  refine fa0_10.step 129 (.bool false) rfl (lb_ I0.size) (wanted_none rfl) r_a0_11 (fun a0_11 fa0_11 => ?_)
  clear r_a0_11
  clear fa0_10
  refine fa0_11.move 130 (.bool false) _ (Or.inl rfl) rfl (lb_ I0.size) (wanted_none rfl) (fa0_11.at_ 129) (fun a0_12 fa0_12 => ?_)
  clear fa0_11
  refine fa0_12.move 131 (.pointer (some ⟨b, 0, none⟩)) _ (Or.inl rfl) rfl (lb_ I0.size) ((wanted_at (t := 130) (c := false) (b := false) rfl rfl rfl (lb_ (fa0_12.size.trans I0.size)) (fa0_12.at_ 130)).trans (by rfl)) ((fa0_12.at_ 5).trans I0.s5) (fun a0_13 fa0_13 => ?_)
  clear fa0_12
  refine fa0_13.move 132 (.slice pf F.length cf) _ (Or.inl rfl) rfl (lb_ I0.size) ((wanted_at (t := 130) (c := false) (b := false) rfl rfl rfl (lb_ (fa0_13.size.trans I0.size)) (fa0_13.at_ 130)).trans (by rfl)) ((fa0_13.at_ 1).trans I0.s1) (fun a0_14 fa0_14 => ?_)
  clear fa0_13
  have r_a0_15 : (execOp a0_14.eval { dst := some 133, op := Op.call { callee := Callee.value (Operand.func 11), args := #[Operand.tmp 131, Operand.tmp 132], argTypes := #[24, 33] }, type := 25, pos := "outright.go:117", after := #[{ on := 12, ground := Ground.data }, { on := 13, ground := Ground.data }, { on := 11, ground := Ground.chain }, { on := 11, ground := Ground.guard }], guard := some (11, false) }).run Try.prog (W3) = .ok (.enter 11 #[.pointer (some ⟨b, 0, none⟩), .slice pf F.length cf]) (W3) := by
    have kf : ∀ f, a0_14.eval (.func f) = .func (.func f) #[] #[] := fun _ => rfl
    have e131 := (show a0_14.eval (.tmp 131) = .pointer (some ⟨b, 0, none⟩) from (fa0_14.at_ 131))
    have e132 := (show a0_14.eval (.tmp 132) = .slice pf F.length cf from (fa0_14.at_ 132))
    clear fa0_14 I0 h17 hQ hQp g ha hab hf nf j e p m q
    generalize a0_14.eval = ρ at *
    go_simp
  refine fa0_14.call 133 rfl (lb_ I0.size) ((wanted_at (t := 130) (c := false) (b := false) rfl rfl rfl (lb_ (fa0_14.size.trans I0.size)) (fa0_14.at_ 130)).trans (by rfl)) r_a0_15 (hC) (fun e W4 hR => ?_)
  obtain ⟨rfl, d4, f4⟩ := hR
  clear r_a0_15
  clear hC
  have s4 := g3.lost f4 d4
  clear g3 f4 d4
  generalize Land U W3 W4 = X at *
  refine ⟨_, rfl, fun a0_15 fa0_15 => ?_⟩
  clear fa0_14
  have r_a0_16 : (execOp a0_15.eval { dst := some 134, op := Op.binOp BinOp.neq 25 (Operand.tmp 133) (Operand.const (Value.int IntKind.i64 0)) 25, type := 4, pos := "outright.go:117", after := #[{ on := 14, ground := Ground.data }, { on := 11, ground := Ground.guard }], guard := some (11, false) }).run Try.prog (W4) = .ok (.value (.bool false)) (W4) := by
    have kc : ∀ v, a0_15.eval (.const v) = v := fun _ => rfl
    have e133 := (show a0_15.eval (.tmp 133) = .int .i64 0 from (fa0_15.at_ 133))
    clear fa0_15 I0 h17 hQ hQp g ha hab hf nf j e p m q
    generalize a0_15.eval = ρ at *
    go_simp
  refine fa0_15.step 134 (.bool false) rfl (lb_ I0.size) ((wanted_at (t := 130) (c := false) (b := false) rfl rfl rfl (lb_ (fa0_15.size.trans I0.size)) (fa0_15.at_ 130)).trans (by rfl)) r_a0_16 (fun a0_16 fa0_16 => ?_)
  clear r_a0_16
  clear fa0_15
  have r_a0_17 : (execOp a0_16.eval { dst := some 135, op := Op.pick (Operand.tmp 130) (Operand.const (Value.bool true)) (Operand.tmp 134), type := 4, pos := "outright.go:117", after := #[{ on := 11, ground := Ground.data }, { on := 15, ground := Ground.data }], guard := none }).run Try.prog (W4) = .ok (.value (.bool false)) (W4) := by
    have kc : ∀ v, a0_16.eval (.const v) = v := fun _ => rfl
    have e130 := (show a0_16.eval (.tmp 130) = .bool false from (fa0_16.at_ 130))
    have e134 := (show a0_16.eval (.tmp 134) = .bool false from (fa0_16.at_ 134))
    clear fa0_16 I0 h17 hQ hQp g ha hab hf nf j e p m q
    generalize a0_16.eval = ρ at *
    go_simp
  refine fa0_16.step 135 (.bool false) rfl (lb_ I0.size) (wanted_none rfl) r_a0_17 (fun a0_17 fa0_17 => ?_)
  clear r_a0_17
  clear fa0_16
  refine wpList_nil ?_
  change Code.wp _ _ _ _ _
  refine wp_cond_false (show a0_17.eval (.tmp 135) = .bool false from (fa0_17.at_ 135)) (wp_skip ?_)
  change Code.wp _ _ _ _ _
  have hlI : (dkLose D F).I.length ≤ 1048576 := Nat.le_trans jl.I (Nat.le_trans jl.most (by decide))
  have hIm := dimage_calls W4 s4.d jl.ok.hp0 hlI
  clear ha hab
  refine wp_seq ?_
  refine wp_region_list ?_
  unfold rPL31
  refine fa0_17.move 136 (.pointer (some ⟨b, 0, none⟩)) _ (Or.inl rfl) rfl (lb_ I0.size) (wanted_none rfl) ((fa0_17.at_ 5).trans I0.s5) (fun a0_18 fa0_18 => ?_)
  clear fa0_17
  have r_a0_19 : (execOp a0_18.eval { dst := some 137, op := Op.call { callee := Callee.value (Operand.func 14), args := #[Operand.tmp 136], argTypes := #[24] }, type := 40, pos := "outright.go:120", after := #[{ on := 0, ground := Ground.data }], guard := none }).run Try.prog (W4) = .ok (.enter 14 #[.pointer (some ⟨b, 0, none⟩)]) (W4) := by
    have kf : ∀ f, a0_18.eval (.func f) = .func (.func f) #[] #[] := fun _ => rfl
    have e136 := (show a0_18.eval (.tmp 136) = .pointer (some ⟨b, 0, none⟩) from (fa0_18.at_ 136))
    clear fa0_18 I0 h17 hQ hQp g hf nf j e p m q jl hR s4
    generalize a0_18.eval = ρ at *
    go_simp
  refine fa0_18.call 137 rfl (lb_ I0.size) (wanted_none rfl) r_a0_19 (hIm) (fun e W5 hR => ?_)
  obtain ⟨ia, ic, rfl, o5, s5⟩ := hR
  clear r_a0_19
  clear hIm
  have g5 := s4.on s5
  have hb5 : ∀ k, (Value.slice ia (dkLose D F).I.length ic).ownBlock = some k → ¬ X k := fun k hk hx => by have := own_low o5 hk; have := s4.d.lt k hx; omega
  clear s4 s5
  refine ⟨_, rfl, fun a0_19 fa0_19 => ?_⟩
  clear fa0_18
  refine fa0_19.move 19 (.slice ia (dkLose D F).I.length ic) _ (Or.inr rfl) rfl (lb_ I0.size) (wanted_none rfl) (fa0_19.at_ 137) (fun a0_20 fa0_20 => ?_)
  clear fa0_19
  refine wpList_nil ?_
  change Code.wp _ _ _ _ _
  refine wp_seq ?_
  refine wp_region_list ?_
  unfold rPL32
  refine fa0_20.move 138 (.slice sa D.I.length sc) _ (Or.inl rfl) rfl (lb_ I0.size) (wanted_none rfl) ((fa0_20.at_ 7).trans I0.s7) (fun a0_21 fa0_21 => ?_)
  clear fa0_20
  have r_a0_22 : (execOp a0_21.eval { dst := some 139, op := Op.call { callee := Callee.builtin Builtin.len, args := #[Operand.tmp 138], argTypes := #[40] }, type := 3, pos := "outright.go:121", after := #[{ on := 0, ground := Ground.data }], guard := none }).run Try.prog (W5) = .ok (.value (.int .i64 (D.I.length : Int))) (W5) := by
    have e138 := (show a0_21.eval (.tmp 138) = .slice sa D.I.length sc from (fa0_21.at_ 138))
    clear fa0_21 I0 h17 hQ hQp g hf nf j e p m q jl hR g5 o5 hb5
    generalize a0_21.eval = ρ at *
    go_simp
  refine fa0_21.step 139 (.int .i64 (D.I.length : Int)) rfl (lb_ I0.size) (wanted_none rfl) r_a0_22 (fun a0_22 fa0_22 => ?_)
  clear r_a0_22
  clear fa0_21
  refine fa0_22.move 20 (.int .i64 (D.I.length : Int)) _ (Or.inr rfl) rfl (lb_ I0.size) (wanted_none rfl) (fa0_22.at_ 139) (fun a0_23 fa0_23 => ?_)
  clear fa0_22
  refine wpList_nil ?_
  change Code.wp _ _ _ _ _
  refine wp_seq (wp_seq ?_)
  refine wp_region_list ?_
  unfold rPL33
  refine fa0_23.move 21 (.int .i64 ((0 : Nat) : Int)) _ (Or.inr rfl) rfl (lb_ I0.size) (wanted_none rfl) rfl (fun a0_24 fa0_24 => ?_)
  clear fa0_23
  refine wpList_nil ?_
  change Code.wp _ _ _ _ _
  refine wp_block ?_
  refine ppL (l := D.I.length) a0_24 W5 ⟨fa0_24.size.trans I0.size, fa0_24.defers.trans I0.defers, (show a0_24.eval (.tmp 1) = .slice pf F.length cf from ((fa0_24.at_ 1).trans I0.s1)), (show a0_24.eval (.tmp 5) = .pointer (some ⟨b, 0, none⟩) from ((fa0_24.at_ 5).trans I0.s5)), (show a0_24.eval (.tmp 7) = .slice sa D.I.length sc from ((fa0_24.at_ 7).trans I0.s7)), (show a0_24.eval (.tmp 8) = .slice (some ⟨bw, 0, none⟩) 8 8 from ((fa0_24.at_ 8).trans I0.s8)), (show a0_24.eval (.tmp 13) = .slice na D.P.length nc from ((fa0_24.at_ 13).trans I0.s13)), (show a0_24.eval (.tmp 14) = .slice wa D.W.length wc from ((fa0_24.at_ 14).trans I0.s14)), (show a0_24.eval (.tmp 16) = .pointer (some ⟨bk, 0, none⟩) from ((fa0_24.at_ 16).trans I0.s16)), (show a0_24.eval (.tmp 19) = .slice ia (dkLose D F).I.length ic from (fa0_24.at_ 19))⟩ (show a0_24.eval (.tmp 20) = .int .i64 (D.I.length : Int) from (fa0_24.at_ 20)) (show a0_24.eval (.tmp 21) = .int .i64 ((0 : Nat) : Int) from (fa0_24.at_ 21)) (by have := q.W; omega) g5.a (hf.fr g5.same (fun _ _ _ f => f)) e.act (fun x hx => (j.ok.W x hx).page) (fun b1 i2 h20 => ?_)
  change Code.wp _ _ _ _ _
  rw [← lose_len] at h20
  exact pt3 hQp b1 i2 h20 (lose_short e) o5 g5.y g5.r (Nat.le_trans jl.I (Nat.le_of_eq m)) (safe_pg j (by omega) e p) g5.d jl.ok.hp0 rfl (Nat.lt_of_le_of_lt jl.life (by omega)) rfl rfl g5.u hb5 g5.same hQ
end Go.Proofs.Ytjiaepeglghheaa
