/- The walk of DiskSafe. -/
import Derived.Test.YtjiaepeglghheaaPT1
namespace Go.Proofs.Ytjiaepeglghheaa
open Go.RowKit

set_option maxRecDepth 100000 in
set_option maxHeartbeats 4000000 in
theorem dsafe_walk {L : List Sp} {F : List Nat} {p0 pf : Option Addr} {c0 cf : Nat} (w : World) (h0 : SpRow w p0 L) (hf : FtRow w pf F) (nf : ∀ g o, pf = some ⟨g, o, none⟩ → g < w.heap.size) (hm : L.length ≤ 1048575) :
    Calls Try.prog 5 #[.slice p0 L.length c0, .slice pf F.length cf] w fun e w' => e = .returned (.bool true) ∧ Same w w' := by
  refine calls_abs (c := cPL) Try.func5 (by kernel_rfl) 274 rfl (by simp) (fun a0 hsz hd ha => ?_)
  have fa0_0 := Fe.refl a0
  unfold cPL
  refine wp_seq ?_
  refine wp_region_list ?_
  unfold rPL0
  refine fa0_0.move 4 (.bool false) _ (Or.inr rfl) rfl (lb_ hsz) (wanted_none rfl) rfl (fun a0_1 fa0_1 => ?_)
  clear fa0_0
  refine wpList_nil ?_
  change Code.wp _ _ _ _ _
  refine wp_seq ?_
  refine wp_region_list ?_
  unfold rPL1
  have r_a0_2 : (execOp a0_1.eval { dst := some 27, op := Op.call { callee := Callee.value (Operand.func 8), args := #[Operand.const (Value.int IntKind.i64 1024), Operand.const (Value.int IntKind.i64 8)], argTypes := #[3, 3] }, type := 26, pos := "outright.go:86", after := #[], guard := none }).run Try.prog (w) = .ok (.enter 8 #[Value.int IntKind.i64 1024, Value.int IntKind.i64 8]) (w) := by
    have kc : ∀ v, a0_1.eval (.const v) = v := fun _ => rfl
    have kf : ∀ f, a0_1.eval (.func f) = .func (.func f) #[] #[] := fun _ => rfl
    clear fa0_1 ha
    generalize a0_1.eval = ρ at *
    go_simp
  refine fa0_1.call 27 rfl (lb_ hsz) (wanted_none rfl) r_a0_2 (new_calls (pg := 1024) (mo := 8) w (Or.inl rfl) (by decide) (by decide)) (fun e W0 hR => ?_)
  obtain ⟨b, rfl, d0, s0⟩ := hR
  clear r_a0_2
  have i0 : DkIn (dkNew 1024 8) 0 := new_in (by decide)
  refine ⟨_, rfl, fun a0_2 fa0_2 => ?_⟩
  clear fa0_1
  refine fa0_2.move 26 (.tuple #[.pointer (some ⟨b, 0, none⟩), .int .i64 0]) _ (Or.inl rfl) rfl (lb_ hsz) (wanted_none rfl) (fa0_2.at_ 27) (fun a0_3 fa0_3 => ?_)
  clear fa0_2
  have r_a0_4 : (execOp a0_3.eval { dst := some 28, op := Op.extract (Operand.tmp 26) 0, type := 24, pos := "outright.go:86", after := #[{ on := 1, ground := Ground.data }], guard := none }).run Try.prog (W0) = .ok (.value (.pointer (some ⟨b, 0, none⟩))) (W0) := by
    have e26 := (show a0_3.eval (.tmp 26) = .tuple #[.pointer (some ⟨b, 0, none⟩), .int .i64 0] from (fa0_3.at_ 26))
    clear fa0_3 ha
    generalize a0_3.eval = ρ at *
    go_simp
  refine fa0_3.step 28 (.pointer (some ⟨b, 0, none⟩)) rfl (lb_ hsz) (wanted_none rfl) r_a0_4 (fun a0_4 fa0_4 => ?_)
  clear r_a0_4
  clear fa0_3
  have r_a0_5 : (execOp a0_4.eval { dst := some 29, op := Op.extract (Operand.tmp 26) 1, type := 25, pos := "outright.go:86", after := #[{ on := 1, ground := Ground.data }, { on := 4, ground := Ground.gcOnly Go.Departure.lateStores }], guard := none }).run Try.prog (W0) = .ok (.value (.int .i64 0)) (W0) := by
    have e26 := (show a0_4.eval (.tmp 26) = .tuple #[.pointer (some ⟨b, 0, none⟩), .int .i64 0] from (fa0_4.at_ 26))
    clear fa0_4 ha
    generalize a0_4.eval = ρ at *
    go_simp
  refine fa0_4.step 29 (.int .i64 0) rfl (lb_ hsz) (wanted_none rfl) r_a0_5 (fun a0_5 fa0_5 => ?_)
  clear r_a0_5
  clear fa0_4
  refine fa0_5.move 5 (.pointer (some ⟨b, 0, none⟩)) _ (Or.inr rfl) rfl (lb_ hsz) (wanted_none rfl) (fa0_5.at_ 28) (fun a0_6 fa0_6 => ?_)
  clear fa0_5
  refine fa0_6.move 6 (.int .i64 0) _ (Or.inr rfl) rfl (lb_ hsz) (wanted_none rfl) (fa0_6.at_ 29) (fun a0_7 fa0_7 => ?_)
  clear fa0_6
  refine wpList_nil ?_
  change Code.wp _ _ _ _ _
  refine wp_seq (wp_seq ?_)
  refine wp_region_list ?_
  unfold rPL2
  refine fa0_7.move 30 (.int .i64 0) _ (Or.inl rfl) rfl (lb_ hsz) (wanted_none rfl) (fa0_7.at_ 6) (fun a0_8 fa0_8 => ?_)
  clear fa0_7
  have r_a0_9 : (execOp a0_8.eval { dst := some 31, op := Op.binOp BinOp.neq 25 (Operand.tmp 30) (Operand.const (Value.int IntKind.i64 0)) 25, type := 4, pos := "outright.go:87", after := #[{ on := 0, ground := Ground.data }], guard := none }).run Try.prog (W0) = .ok (.value (.bool false)) (W0) := by
    have kc : ∀ v, a0_8.eval (.const v) = v := fun _ => rfl
    have e30 := (show a0_8.eval (.tmp 30) = .int .i64 0 from (fa0_8.at_ 30))
    clear fa0_8 ha
    generalize a0_8.eval = ρ at *
    go_simp
  refine fa0_8.step 31 (.bool false) rfl (lb_ hsz) (wanted_none rfl) r_a0_9 (fun a0_9 fa0_9 => ?_)
  clear r_a0_9
  clear fa0_8
  refine fa0_9.move 32 (.bool false) _ (Or.inl rfl) rfl (lb_ hsz) (wanted_none rfl) (fa0_9.at_ 31) (fun a0_10 fa0_10 => ?_)
  clear fa0_9
  refine fa0_10.move 33 (.pointer (some ⟨b, 0, none⟩)) _ (Or.inl rfl) rfl (lb_ hsz) ((wanted_at (t := 32) (c := false) (b := false) rfl rfl rfl (lb_ (fa0_10.size.trans hsz)) (fa0_10.at_ 32)).trans (by rfl)) (fa0_10.at_ 5) (fun a0_11 fa0_11 => ?_)
  clear fa0_10
  have r_a0_12 : (execOp a0_11.eval { dst := some 34, op := Op.binOp BinOp.eql 24 (Operand.tmp 33) (Operand.const (Value.pointer none)) 24, type := 4, pos := "outright.go:87", after := #[{ on := 3, ground := Ground.data }, { on := 2, ground := Ground.guard }], guard := some (2, false) }).run Try.prog (W0) = .ok (.value (.bool false)) (W0) := by
    have kc : ∀ v, a0_11.eval (.const v) = v := fun _ => rfl
    have e33 := (show a0_11.eval (.tmp 33) = .pointer (some ⟨b, 0, none⟩) from (fa0_11.at_ 33))
    clear fa0_11 ha
    generalize a0_11.eval = ρ at *
    go_simp
  refine fa0_11.step 34 (.bool false) rfl (lb_ hsz) ((wanted_at (t := 32) (c := false) (b := false) rfl rfl rfl (lb_ (fa0_11.size.trans hsz)) (fa0_11.at_ 32)).trans (by rfl)) r_a0_12 (fun a0_12 fa0_12 => ?_)
  clear r_a0_12
  clear fa0_11
  have r_a0_13 : (execOp a0_12.eval { dst := some 35, op := Op.pick (Operand.tmp 32) (Operand.const (Value.bool true)) (Operand.tmp 34), type := 4, pos := "outright.go:87", after := #[{ on := 2, ground := Ground.data }, { on := 4, ground := Ground.data }], guard := none }).run Try.prog (W0) = .ok (.value (.bool false)) (W0) := by
    have kc : ∀ v, a0_12.eval (.const v) = v := fun _ => rfl
    have e32 := (show a0_12.eval (.tmp 32) = .bool false from (fa0_12.at_ 32))
    have e34 := (show a0_12.eval (.tmp 34) = .bool false from (fa0_12.at_ 34))
    clear fa0_12 ha
    generalize a0_12.eval = ρ at *
    go_simp
  refine fa0_12.step 35 (.bool false) rfl (lb_ hsz) (wanted_none rfl) r_a0_13 (fun a0_13 fa0_13 => ?_)
  clear r_a0_13
  clear fa0_12
  refine fa0_13.move 36 (.bool false) _ (Or.inl rfl) rfl (lb_ hsz) (wanted_none rfl) (fa0_13.at_ 35) (fun a0_14 fa0_14 => ?_)
  clear fa0_13
  have r_a0_15 : (execOp a0_14.eval { dst := some 37, op := Op.call { callee := Callee.value (Operand.func 7), args := #[], argTypes := #[] }, type := 4, pos := "outright.go:87", after := #[{ on := 6, ground := Ground.chain }, { on := 6, ground := Ground.guard }], guard := some (6, false) }).run Try.prog (W0) = .ok (.enter 7 #[]) (W0) := by
    have kf : ∀ f, a0_14.eval (.func f) = .func (.func f) #[] #[] := fun _ => rfl
    clear fa0_14 ha
    generalize a0_14.eval = ρ at *
    go_simp
  refine fa0_14.call 37 rfl (lb_ hsz) ((wanted_at (t := 36) (c := false) (b := false) rfl rfl rfl (lb_ (fa0_14.size.trans hsz)) (fa0_14.at_ 36)).trans (by rfl)) r_a0_15 (lives_calls W0) (fun e W1 hR => ?_)
  obtain ⟨rfl, s1⟩ := hR
  clear r_a0_15
  refine ⟨_, rfl, fun a0_15 fa0_15 => ?_⟩
  clear fa0_14
  have r_a0_16 : (execOp a0_15.eval { dst := some 38, op := Op.unOp UnOp.not 4 (Operand.tmp 37), type := 4, pos := "outright.go:87", after := #[{ on := 7, ground := Ground.data }, { on := 6, ground := Ground.guard }], guard := some (6, false) }).run Try.prog (W1) = .ok (.value (.bool false)) (W1) := by
    have e37 := (show a0_15.eval (.tmp 37) = .bool true from (fa0_15.at_ 37))
    clear fa0_15 ha
    generalize a0_15.eval = ρ at *
    go_simp
  refine fa0_15.step 38 (.bool false) rfl (lb_ hsz) ((wanted_at (t := 36) (c := false) (b := false) rfl rfl rfl (lb_ (fa0_15.size.trans hsz)) (fa0_15.at_ 36)).trans (by rfl)) r_a0_16 (fun a0_16 fa0_16 => ?_)
  clear r_a0_16
  clear fa0_15
  have r_a0_17 : (execOp a0_16.eval { dst := some 39, op := Op.pick (Operand.tmp 36) (Operand.const (Value.bool true)) (Operand.tmp 38), type := 4, pos := "outright.go:87", after := #[{ on := 6, ground := Ground.data }, { on := 8, ground := Ground.data }], guard := none }).run Try.prog (W1) = .ok (.value (.bool false)) (W1) := by
    have kc : ∀ v, a0_16.eval (.const v) = v := fun _ => rfl
    have e36 := (show a0_16.eval (.tmp 36) = .bool false from (fa0_16.at_ 36))
    have e38 := (show a0_16.eval (.tmp 38) = .bool false from (fa0_16.at_ 38))
    clear fa0_16 ha
    generalize a0_16.eval = ρ at *
    go_simp
  refine fa0_16.step 39 (.bool false) rfl (lb_ hsz) (wanted_none rfl) r_a0_17 (fun a0_17 fa0_17 => ?_)
  clear r_a0_17
  clear fa0_16
  refine wpList_nil ?_
  change Code.wp _ _ _ _ _
  refine wp_cond_false (show a0_17.eval (.tmp 39) = .bool false from (fa0_17.at_ 39)) (wp_skip ?_)
  change Code.wp _ _ _ _ _
  refine wp_seq ?_
  refine wp_region_list ?_
  unfold rPL4
  refine fa0_17.move 7 (.slice none 0 0) _ (Or.inr rfl) rfl (lb_ hsz) (wanted_none rfl) rfl (fun a0_18 fa0_18 => ?_)
  clear fa0_17
  refine wpList_nil ?_
  change Code.wp _ _ _ _ _
  refine wp_seq ?_
  refine wp_region_list ?_
  unfold rPL5
  have r_a0_19 : (execOp a0_18.eval { dst := some 40, op := Op.makeSlice 50 (Operand.const (Value.int IntKind.i64 8)) (Operand.const (Value.int IntKind.i64 8)), type := 50, pos := "outright.go:91", after := #[], guard := none }).run Try.prog (W1) = .ok (.value (.slice (some ⟨W1.heap.size, 0, none⟩) 8 8)) (World.alloc W1 wrZ) := by
    refine exec_make rfl ?_
    exact run_wrs W1
  refine fa0_18.stepW 40 (.slice (some ⟨W1.heap.size, 0, none⟩) 8 8) rfl (lb_ hsz) (wanted_none rfl) r_a0_19 (fun a0_19 fa0_19 => ?_)
  clear r_a0_19
  have s2 : Same W1 (World.alloc W1 wrZ) := (Fr.refl _ W1).alloc _
  have wr2 := WrAt.new W1
  generalize World.alloc W1 wrZ = W2 at *
  clear fa0_18
  refine fa0_19.move 8 (.slice (some ⟨W1.heap.size, 0, none⟩) 8 8) _ (Or.inr rfl) rfl (lb_ hsz) (wanted_none rfl) (fa0_19.at_ 40) (fun a0_20 fa0_20 => ?_)
  clear fa0_19
  refine wpList_nil ?_
  change Code.wp _ _ _ _ _
  refine wp_seq (wp_seq ?_)
  refine wp_region_list ?_
  unfold rPL6
  refine fa0_20.move 9 (.int .i64 ((0 : Nat) : Int)) _ (Or.inr rfl) rfl (lb_ hsz) (wanted_none rfl) rfl (fun a0_21 fa0_21 => ?_)
  clear fa0_20
  refine wpList_nil ?_
  change Code.wp _ _ _ _ _
  refine wp_block ?_
  have z0 := s0.size
  have z1 := s1.size
  have z2 := s2.size
  have g2 : SfW w W2 b W1.heap.size (dkNew 1024 8) none 0 (fun k => w.heap.size ≤ k ∧ k < W0.heap.size) (fun k => W1.heap.size ≤ k ∧ k < W2.heap.size) := ⟨(d0.same s1).same s2, wr2, own_nil, fun k hk => hk.1, fun k hk => by have := hk.1; omega, fun k hk hv => by have := hk.2; have := hv.1; omega, fun k hk => (by cases hk), (s0.trans s1).trans s2⟩
  refine plL (L := L) (m := 0) (by intro c a d v w h; cases d <;> exact h) a0_21 W2 ⟨fa0_21.size.trans hsz, fa0_21.defers.trans hd, (show a0_21.eval (.tmp 0) = .slice p0 L.length c0 from ((fa0_21.at_ 0).trans (ha 0 _ rfl))), (show a0_21.eval (.tmp 1) = .slice pf F.length cf from ((fa0_21.at_ 1).trans (ha 1 _ rfl))), (show a0_21.eval (.tmp 5) = .pointer (some ⟨b, 0, none⟩) from (fa0_21.at_ 5)), (show a0_21.eval (.tmp 7) = .slice none 0 0 from (fa0_21.at_ 7)), (show a0_21.eval (.tmp 8) = .slice (some ⟨W1.heap.size, 0, none⟩) 8 8 from (fa0_21.at_ 8))⟩ (show a0_21.eval (.tmp 9) = .int .i64 ((0 : Nat) : Int) from (fa0_21.at_ 9)) h0 g2 i0 (by omega) new_safe (fun b1 W3 bw sa sc U V i1 g3 => ?_)
  change Code.wp _ _ _ _ _
  have j3 : DkIn (playsD (dkNew 1024 8) L) (0 + L.length) := plays_in i0
  have e3 : DkSafe (playsD (dkNew 1024 8) L) := plays_safe new_safe
  have pg3 := plays_page L (dkNew 1024 8)
  generalize hD : playsD (dkNew 1024 8) L = D at *
  clear hD g2 d0 wr2 s0 s1 s2 z0 z1 z2
  have p3 : D.page = 1024 := pg3.1
  have m3 : D.most = 8 := pg3.2
  clear pg3 i0
  have q3 := j3.sm (m := 1048576) (by omega) (by decide)
  have hp := j3.ok.hp0
  clear h0
  refine wp_seq ?_
  have fb1_0 := Fe.refl b1
  refine wp_region_list ?_
  unfold rPL19
  refine fb1_0.move 84 (.pointer (some ⟨b, 0, none⟩)) _ (Or.inl rfl) rfl (lb_ i1.size) (wanted_none rfl) ((fb1_0.at_ 5).trans i1.s5) (fun b1_1 fb1_1 => ?_)
  clear fb1_0
  have r_b1_2 : (execOp b1_1.eval { dst := some 85, op := Op.call { callee := Callee.value (Operand.func 13), args := #[Operand.tmp 84], argTypes := #[24] }, type := 40, pos := "outright.go:107", after := #[{ on := 0, ground := Ground.data }], guard := none }).run Try.prog (W3) = .ok (.enter 13 #[.pointer (some ⟨b, 0, none⟩)]) (W3) := by
    have kf : ∀ f, b1_1.eval (.func f) = .func (.func f) #[] #[] := fun _ => rfl
    have e84 := (show b1_1.eval (.tmp 84) = .pointer (some ⟨b, 0, none⟩) from (fb1_1.at_ 84))
    clear fb1_1 ha q3 i1 g3 hf nf j3 e3 p3 m3 hp hm hd
    generalize b1_1.eval = ρ at *
    go_simp
  refine fb1_1.call 85 rfl (lb_ i1.size) (wanted_none rfl) r_b1_2 (seen_calls W3 g3.d hp e3.off q3.P) (fun e W4 hR => ?_)
  obtain ⟨na, nc, rfl, n4, s4⟩ := hR
  clear r_b1_2
  have g4 := g3.on s4
  refine ⟨_, rfl, fun b1_2 fb1_2 => ?_⟩
  clear fb1_1
  refine fb1_2.move 13 (.slice na D.P.length nc) _ (Or.inr rfl) rfl (lb_ i1.size) (wanted_none rfl) (fb1_2.at_ 85) (fun b1_3 fb1_3 => ?_)
  clear fb1_2
  refine wpList_nil ?_
  change Code.wp _ _ _ _ _
  refine wp_seq ?_
  refine wp_region_list ?_
  unfold rPL20
  refine fb1_3.move 86 (.pointer (some ⟨b, 0, none⟩)) _ (Or.inl rfl) rfl (lb_ i1.size) (wanted_none rfl) ((fb1_3.at_ 5).trans i1.s5) (fun b1_4 fb1_4 => ?_)
  clear fb1_3
  have r_b1_5 : (execOp b1_4.eval { dst := some 87, op := Op.call { callee := Callee.value (Operand.func 16), args := #[Operand.tmp 86], argTypes := #[24] }, type := 46, pos := "outright.go:108", after := #[{ on := 0, ground := Ground.data }], guard := none }).run Try.prog (W4) = .ok (.enter 16 #[.pointer (some ⟨b, 0, none⟩)]) (W4) := by
    have kf : ∀ f, b1_4.eval (.func f) = .func (.func f) #[] #[] := fun _ => rfl
    have e86 := (show b1_4.eval (.tmp 86) = .pointer (some ⟨b, 0, none⟩) from (fb1_4.at_ 86))
    clear fb1_4 ha q3 i1 g3 hf nf j3 e3 p3 m3 hp hm hd n4 s4 g4
    generalize b1_4.eval = ρ at *
    go_simp
  refine fb1_4.call 87 rfl (lb_ i1.size) (wanted_none rfl) r_b1_5 (waits_calls W4 g4.d hp q3.W) (fun e W5 hR => ?_)
  obtain ⟨wa, wc, rfl, a5, s5⟩ := hR
  clear r_b1_5
  have g5 := g4.on s5
  clear g4
  refine ⟨_, rfl, fun b1_5 fb1_5 => ?_⟩
  clear fb1_4
  refine fb1_5.move 14 (.slice wa D.W.length wc) _ (Or.inr rfl) rfl (lb_ i1.size) (wanted_none rfl) (fb1_5.at_ 87) (fun b1_6 fb1_6 => ?_)
  clear fb1_5
  refine wpList_nil ?_
  change Code.wp _ _ _ _ _
  refine wp_seq ?_
  refine wp_region_list ?_
  unfold rPL21
  refine fb1_6.move 88 (.pointer (some ⟨b, 0, none⟩)) _ (Or.inl rfl) rfl (lb_ i1.size) (wanted_none rfl) ((fb1_6.at_ 5).trans i1.s5) (fun b1_7 fb1_7 => ?_)
  clear fb1_6
  have r_b1_8 : (execOp b1_7.eval { dst := some 89, op := Op.call { callee := Callee.value (Operand.func 10), args := #[Operand.tmp 88], argTypes := #[24] }, type := 24, pos := "outright.go:109", after := #[{ on := 0, ground := Ground.data }], guard := none }).run Try.prog (W5) = .ok (.enter 10 #[.pointer (some ⟨b, 0, none⟩)]) (W5) := by
    have kf : ∀ f, b1_7.eval (.func f) = .func (.func f) #[] #[] := fun _ => rfl
    have e88 := (show b1_7.eval (.tmp 88) = .pointer (some ⟨b, 0, none⟩) from (fb1_7.at_ 88))
    clear fb1_7 ha q3 i1 g3 hf nf j3 e3 p3 m3 hp hm hd n4 s4 a5 s5 g5
    generalize b1_7.eval = ρ at *
    go_simp
  refine fb1_7.call 89 rfl (lb_ i1.size) (wanted_none rfl) r_b1_8 (dfork_calls W5 g5.d hp q3.P q3.I q3.W) (fun e W6 hR => ?_)
  obtain ⟨rfl, l6, s6⟩ := hR
  clear r_b1_8
  have g6 := g5.on s6
  refine ⟨_, rfl, fun b1_8 fb1_8 => ?_⟩
  clear fb1_7
  refine fb1_8.move 90 (.pointer (some ⟨b, 0, none⟩)) _ (Or.inl rfl) rfl (lb_ i1.size) (wanted_none rfl) ((fb1_8.at_ 5).trans i1.s5) (fun b1_9 fb1_9 => ?_)
  clear fb1_8
  have r_b1_10 : (execOp b1_9.eval { dst := some 91, op := Op.call { callee := Callee.value (Operand.func 10), args := #[Operand.tmp 90], argTypes := #[24] }, type := 24, pos := "outright.go:109", after := #[{ on := 2, ground := Ground.data }, { on := 1, ground := Ground.chain }], guard := none }).run Try.prog (W6) = .ok (.enter 10 #[.pointer (some ⟨b, 0, none⟩)]) (W6) := by
    have kf : ∀ f, b1_9.eval (.func f) = .func (.func f) #[] #[] := fun _ => rfl
    have e90 := (show b1_9.eval (.tmp 90) = .pointer (some ⟨b, 0, none⟩) from (fb1_9.at_ 90))
    clear fb1_9 ha q3 i1 g3 hf nf j3 e3 p3 m3 hp hm hd n4 s4 a5 s5 g5
    generalize b1_9.eval = ρ at *
    go_simp
  refine fb1_9.call 91 rfl (lb_ i1.size) (wanted_none rfl) r_b1_10 (dfork_calls W6 g6.d hp q3.P q3.I q3.W) (fun e W7 hR => ?_)
  obtain ⟨rfl, k7, s7⟩ := hR
  clear r_b1_10
  have gB := SfB.make g3 s4 s5 s6 s7 n4 a5 k7
  have hL := SfB.far (W7 := W7) g3 s4 s5 s6 n4 a5
  have l7 := l6.same s7
  clear g6 k7 l6 s6 s7
  refine ⟨_, rfl, fun b1_10 fb1_10 => ?_⟩
  clear fb1_9
  refine fb1_10.move 15 (.pointer (some ⟨W5.heap.size, 0, none⟩)) _ (Or.inr rfl) rfl (lb_ i1.size) (wanted_none rfl) (fb1_10.at_ 89) (fun b1_11 fb1_11 => ?_)
  clear fb1_10
  refine fb1_11.move 16 (.pointer (some ⟨W6.heap.size, 0, none⟩)) _ (Or.inr rfl) rfl (lb_ i1.size) (wanted_none rfl) (fb1_11.at_ 91) (fun b1_12 fb1_12 => ?_)
  clear fb1_11
  refine wpList_nil ?_
  change Code.wp _ _ _ _ _
  refine pt1 (v19 := b1_12.eval (.tmp 19)) (fun c a d v w h => panic_put h) b1_12 ⟨fb1_12.size.trans i1.size, fb1_12.defers.trans i1.defers, (show b1_12.eval (.tmp 1) = .slice pf F.length cf from ((fb1_12.at_ 1).trans i1.s1)), (show b1_12.eval (.tmp 5) = .pointer (some ⟨b, 0, none⟩) from ((fb1_12.at_ 5).trans i1.s5)), (show b1_12.eval (.tmp 7) = .slice sa D.I.length sc from ((fb1_12.at_ 7).trans i1.s7)), (show b1_12.eval (.tmp 8) = .slice (some ⟨bw, 0, none⟩) 8 8 from ((fb1_12.at_ 8).trans i1.s8)), (show b1_12.eval (.tmp 13) = .slice na D.P.length nc from (fb1_12.at_ 13)), (show b1_12.eval (.tmp 14) = .slice wa D.W.length wc from (fb1_12.at_ 14)), (show b1_12.eval (.tmp 16) = .pointer (some ⟨W6.heap.size, 0, none⟩) from (fb1_12.at_ 16)), rfl⟩ (show b1_12.eval (.tmp 15) = .pointer (some ⟨W5.heap.size, 0, none⟩) from (fb1_12.at_ 15)) gB l7 hL hf nf j3 (by omega) e3 p3 m3 (fun a W8 hda hv sw => ret_abs rfl hda hv ⟨rfl, sw⟩)
end Go.Proofs.Ytjiaepeglghheaa
