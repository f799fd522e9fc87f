/- The walk of DiskForks, put together. -/
import Derived.Test.YtjiaepeglghheaaPD
namespace Go.Proofs.Ytjiaepeglghheaa
open Go.RowKit

set_option maxRecDepth 100000 in
set_option maxHeartbeats 4000000 in
theorem dforks_walk {L0 L1 L2 : List Sp} {p0 p1 p2 : Option Addr} {c0 c1 c2 : Nat} (w : World) (h0 : SpRow w p0 L0) (h1 : SpRow w p1 L1) (h2 : SpRow w p2 L2) (n0 : ∀ g o, L0 ≠ [] → p0 = some ⟨g, o, none⟩ → g < w.heap.size) (n1 : ∀ g o, L1 ≠ [] → p1 = some ⟨g, o, none⟩ → g < w.heap.size) (n2 : ∀ g o, L2 ≠ [] → p2 = some ⟨g, o, none⟩ → g < w.heap.size) (hm : L0.length + L1.length + L2.length ≤ 1048575) :
    Calls Try.prog 4 #[.slice p0 L0.length c0, .slice p1 L1.length c1, .slice p2 L2.length c2] w fun e w' => e = .returned (.bool true) ∧ Same w w' := by
  refine calls_abs (c := cPD) Try.func4 (by kernel_rfl) 126 rfl (by simp) (fun a0 hsz hd ha => ?_)
  have fa0_0 := Fe.refl a0
  unfold cPD
  refine wp_seq ?_
  refine wp_region_list ?_
  unfold rPD0
  refine fa0_0.move 6 (.bool false) _ (Or.inr rfl) rfl (lb_ hsz) (wanted_none rfl) rfl (fun a0_1 fa0_1 => ?_)
  clear fa0_0
  refine wpList_nil ?_
  change Code.wp _ _ _ _ _
  refine wp_seq ?_
  refine wp_region_list ?_
  unfold rPD1
  have r_a0_2 : (execOp a0_1.eval { dst := some 15, op := Op.call { callee := Callee.value (Operand.func 8), args := #[Operand.const (Value.int IntKind.i64 1024), Operand.const (Value.int IntKind.i64 8)], argTypes := #[3, 3] }, type := 26, pos := "outright.go:206", after := #[], guard := none }).run Try.prog (w) = .ok (.enter 8 #[Value.int IntKind.i64 1024, Value.int IntKind.i64 8]) (w) := by
    have kc : ∀ v, a0_1.eval (.const v) = v := fun _ => rfl
    have kf : ∀ f, a0_1.eval (.func f) = .func (.func f) #[] #[] := fun _ => rfl
    clear fa0_1 ha
    generalize a0_1.eval = ρ at *
    go_simp
  refine fa0_1.call 15 rfl (lb_ hsz) (wanted_none rfl) r_a0_2 (new_calls (pg := 1024) (mo := 8) w (Or.inl rfl) (by decide) (by decide)) (fun e W0 hR => ?_)
  obtain ⟨b, rfl, d0, s0⟩ := hR
  clear r_a0_2
  have i0 : DkIn (dkNew 1024 8) 0 := new_in (by decide)
  refine ⟨_, rfl, fun a0_2 fa0_2 => ?_⟩
  clear fa0_1
  refine fa0_2.move 14 (.tuple #[.pointer (some ⟨b, 0, none⟩), .int .i64 0]) _ (Or.inl rfl) rfl (lb_ hsz) (wanted_none rfl) (fa0_2.at_ 15) (fun a0_3 fa0_3 => ?_)
  clear fa0_2
  have r_a0_4 : (execOp a0_3.eval { dst := some 16, op := Op.extract (Operand.tmp 14) 0, type := 24, pos := "outright.go:206", after := #[{ on := 1, ground := Ground.data }], guard := none }).run Try.prog (W0) = .ok (.value (.pointer (some ⟨b, 0, none⟩))) (W0) := by
    have e14 := (show a0_3.eval (.tmp 14) = .tuple #[.pointer (some ⟨b, 0, none⟩), .int .i64 0] from (fa0_3.at_ 14))
    clear fa0_3 ha
    generalize a0_3.eval = ρ at *
    go_simp
  refine fa0_3.step 16 (.pointer (some ⟨b, 0, none⟩)) rfl (lb_ hsz) (wanted_none rfl) r_a0_4 (fun a0_4 fa0_4 => ?_)
  clear r_a0_4
  clear fa0_3
  have r_a0_5 : (execOp a0_4.eval { dst := some 17, op := Op.extract (Operand.tmp 14) 1, type := 25, pos := "outright.go:206", after := #[{ on := 1, ground := Ground.data }, { on := 4, ground := Ground.gcOnly Go.Departure.lateStores }], guard := none }).run Try.prog (W0) = .ok (.value (.int .i64 0)) (W0) := by
    have e14 := (show a0_4.eval (.tmp 14) = .tuple #[.pointer (some ⟨b, 0, none⟩), .int .i64 0] from (fa0_4.at_ 14))
    clear fa0_4 ha
    generalize a0_4.eval = ρ at *
    go_simp
  refine fa0_4.step 17 (.int .i64 0) rfl (lb_ hsz) (wanted_none rfl) r_a0_5 (fun a0_5 fa0_5 => ?_)
  clear r_a0_5
  clear fa0_4
  refine fa0_5.move 7 (.pointer (some ⟨b, 0, none⟩)) _ (Or.inr rfl) rfl (lb_ hsz) (wanted_none rfl) (fa0_5.at_ 16) (fun a0_6 fa0_6 => ?_)
  clear fa0_5
  refine fa0_6.move 8 (.int .i64 0) _ (Or.inr rfl) rfl (lb_ hsz) (wanted_none rfl) (fa0_6.at_ 17) (fun a0_7 fa0_7 => ?_)
  clear fa0_6
  refine wpList_nil ?_
  change Code.wp _ _ _ _ _
  refine wp_seq (wp_seq ?_)
  refine wp_region_list ?_
  unfold rPD2
  refine fa0_7.move 18 (.int .i64 0) _ (Or.inl rfl) rfl (lb_ hsz) (wanted_none rfl) (fa0_7.at_ 8) (fun a0_8 fa0_8 => ?_)
  clear fa0_7
  have r_a0_9 : (execOp a0_8.eval { dst := some 19, op := Op.binOp BinOp.neq 25 (Operand.tmp 18) (Operand.const (Value.int IntKind.i64 0)) 25, type := 4, pos := "outright.go:207", after := #[{ on := 0, ground := Ground.data }], guard := none }).run Try.prog (W0) = .ok (.value (.bool false)) (W0) := by
    have kc : ∀ v, a0_8.eval (.const v) = v := fun _ => rfl
    have e18 := (show a0_8.eval (.tmp 18) = .int .i64 0 from (fa0_8.at_ 18))
    clear fa0_8 ha
    generalize a0_8.eval = ρ at *
    go_simp
  refine fa0_8.step 19 (.bool false) rfl (lb_ hsz) (wanted_none rfl) r_a0_9 (fun a0_9 fa0_9 => ?_)
  clear r_a0_9
  clear fa0_8
  refine fa0_9.move 20 (.bool false) _ (Or.inl rfl) rfl (lb_ hsz) (wanted_none rfl) (fa0_9.at_ 19) (fun a0_10 fa0_10 => ?_)
  clear fa0_9
  refine fa0_10.move 21 (.pointer (some ⟨b, 0, none⟩)) _ (Or.inl rfl) rfl (lb_ hsz) ((wanted_at (t := 20) (c := false) (b := false) rfl rfl rfl (lb_ (fa0_10.size.trans hsz)) (fa0_10.at_ 20)).trans (by rfl)) (fa0_10.at_ 7) (fun a0_11 fa0_11 => ?_)
  clear fa0_10
  have r_a0_12 : (execOp a0_11.eval { dst := some 22, op := Op.binOp BinOp.eql 24 (Operand.tmp 21) (Operand.const (Value.pointer none)) 24, type := 4, pos := "outright.go:207", after := #[{ on := 3, ground := Ground.data }, { on := 2, ground := Ground.guard }], guard := some (2, false) }).run Try.prog (W0) = .ok (.value (.bool false)) (W0) := by
    have kc : ∀ v, a0_11.eval (.const v) = v := fun _ => rfl
    have e21 := (show a0_11.eval (.tmp 21) = .pointer (some ⟨b, 0, none⟩) from (fa0_11.at_ 21))
    clear fa0_11 ha
    generalize a0_11.eval = ρ at *
    go_simp
  refine fa0_11.step 22 (.bool false) rfl (lb_ hsz) ((wanted_at (t := 20) (c := false) (b := false) rfl rfl rfl (lb_ (fa0_11.size.trans hsz)) (fa0_11.at_ 20)).trans (by rfl)) r_a0_12 (fun a0_12 fa0_12 => ?_)
  clear r_a0_12
  clear fa0_11
  have r_a0_13 : (execOp a0_12.eval { dst := some 23, op := Op.pick (Operand.tmp 20) (Operand.const (Value.bool true)) (Operand.tmp 22), type := 4, pos := "outright.go:207", after := #[{ on := 2, ground := Ground.data }, { on := 4, ground := Ground.data }], guard := none }).run Try.prog (W0) = .ok (.value (.bool false)) (W0) := by
    have kc : ∀ v, a0_12.eval (.const v) = v := fun _ => rfl
    have e20 := (show a0_12.eval (.tmp 20) = .bool false from (fa0_12.at_ 20))
    have e22 := (show a0_12.eval (.tmp 22) = .bool false from (fa0_12.at_ 22))
    clear fa0_12 ha
    generalize a0_12.eval = ρ at *
    go_simp
  refine fa0_12.step 23 (.bool false) rfl (lb_ hsz) (wanted_none rfl) r_a0_13 (fun a0_13 fa0_13 => ?_)
  clear r_a0_13
  clear fa0_12
  refine fa0_13.move 24 (.bool false) _ (Or.inl rfl) rfl (lb_ hsz) (wanted_none rfl) (fa0_13.at_ 23) (fun a0_14 fa0_14 => ?_)
  clear fa0_13
  have r_a0_15 : (execOp a0_14.eval { dst := some 25, op := Op.call { callee := Callee.value (Operand.func 7), args := #[], argTypes := #[] }, type := 4, pos := "outright.go:207", after := #[{ on := 6, ground := Ground.chain }, { on := 6, ground := Ground.guard }], guard := some (6, false) }).run Try.prog (W0) = .ok (.enter 7 #[]) (W0) := by
    have kf : ∀ f, a0_14.eval (.func f) = .func (.func f) #[] #[] := fun _ => rfl
    clear fa0_14 ha
    generalize a0_14.eval = ρ at *
    go_simp
  refine fa0_14.call 25 rfl (lb_ hsz) ((wanted_at (t := 24) (c := false) (b := false) rfl rfl rfl (lb_ (fa0_14.size.trans hsz)) (fa0_14.at_ 24)).trans (by rfl)) r_a0_15 (lives_calls W0) (fun e W1 hR => ?_)
  obtain ⟨rfl, s1⟩ := hR
  clear r_a0_15
  refine ⟨_, rfl, fun a0_15 fa0_15 => ?_⟩
  clear fa0_14
  have r_a0_16 : (execOp a0_15.eval { dst := some 26, op := Op.unOp UnOp.not 4 (Operand.tmp 25), type := 4, pos := "outright.go:207", after := #[{ on := 7, ground := Ground.data }, { on := 6, ground := Ground.guard }], guard := some (6, false) }).run Try.prog (W1) = .ok (.value (.bool false)) (W1) := by
    have e25 := (show a0_15.eval (.tmp 25) = .bool true from (fa0_15.at_ 25))
    clear fa0_15 ha
    generalize a0_15.eval = ρ at *
    go_simp
  refine fa0_15.step 26 (.bool false) rfl (lb_ hsz) ((wanted_at (t := 24) (c := false) (b := false) rfl rfl rfl (lb_ (fa0_15.size.trans hsz)) (fa0_15.at_ 24)).trans (by rfl)) r_a0_16 (fun a0_16 fa0_16 => ?_)
  clear r_a0_16
  clear fa0_15
  have r_a0_17 : (execOp a0_16.eval { dst := some 27, op := Op.pick (Operand.tmp 24) (Operand.const (Value.bool true)) (Operand.tmp 26), type := 4, pos := "outright.go:207", after := #[{ on := 6, ground := Ground.data }, { on := 8, ground := Ground.data }], guard := none }).run Try.prog (W1) = .ok (.value (.bool false)) (W1) := by
    have kc : ∀ v, a0_16.eval (.const v) = v := fun _ => rfl
    have e24 := (show a0_16.eval (.tmp 24) = .bool false from (fa0_16.at_ 24))
    have e26 := (show a0_16.eval (.tmp 26) = .bool false from (fa0_16.at_ 26))
    clear fa0_16 ha
    generalize a0_16.eval = ρ at *
    go_simp
  refine fa0_16.step 27 (.bool false) rfl (lb_ hsz) (wanted_none rfl) r_a0_17 (fun a0_17 fa0_17 => ?_)
  clear r_a0_17
  clear fa0_16
  refine wpList_nil ?_
  change Code.wp _ _ _ _ _
  refine wp_cond_false (show a0_17.eval (.tmp 27) = .bool false from (fa0_17.at_ 27)) (wp_skip ?_)
  change Code.wp _ _ _ _ _
  refine wp_seq (wp_seq ?_)
  refine wp_region_list ?_
  unfold rPD4
  refine fa0_17.move 9 (.int .i64 ((0 : Nat) : Int)) _ (Or.inr rfl) rfl (lb_ hsz) (wanted_none rfl) rfl (fun a0_18 fa0_18 => ?_)
  clear fa0_17
  refine wpList_nil ?_
  change Code.wp _ _ _ _ _
  refine wp_block ?_
  have z1 := s1.size
  have d1 : DkAt W1 b (dkNew 1024 8) (LV w W1) := (d0.same s1).land (fun k hk => ⟨hk.1, Nat.lt_of_lt_of_le hk.2 z1⟩) (fun k hk => hk.2)
  have s1w : Same w W1 := s0.trans s1
  have hz0 : ∀ (p : Option Addr) (L : List Sp), SpRow w p L → SpRow W1 p L := fun p L h => h.fr s1w (fun _ _ _ _ f => f)
  have hp0 := hz0 _ _ h0
  have hp1 := hz0 _ _ h1
  have hp2 := hz0 _ _ h2
  clear hz0
  refine pd1L (L := L0) (m := 0) a0_18 W1 ⟨fa0_18.size.trans hsz, fa0_18.defers.trans hd, (show a0_18.eval (.tmp 0) = .slice p0 L0.length c0 from ((fa0_18.at_ 0).trans (ha 0 _ rfl))), (show a0_18.eval (.tmp 1) = .slice p1 L1.length c1 from ((fa0_18.at_ 1).trans (ha 1 _ rfl))), (show a0_18.eval (.tmp 2) = .slice p2 L2.length c2 from ((fa0_18.at_ 2).trans (ha 2 _ rfl))), (show a0_18.eval (.tmp 7) = .pointer (some ⟨b, 0, none⟩) from (fa0_18.at_ 7)), rfl, rfl⟩ (show a0_18.eval (.tmp 9) = .int .i64 ((0 : Nat) : Int) from (fa0_18.at_ 9)) hp0 (fun g o hne e hk => by have := n0 g o hne e; have := hk.1; omega) d1 i0 (by omega) (fun b1 W2 i1 d2 f2 => ?_)
  change Code.wp _ _ _ _ _
  have j2 : DkIn (playsD (dkNew 1024 8) L0) (0 + L0.length) := plays_in i0
  have k2 : (playsD (dkNew 1024 8) L0).off = false ∧ (playsD (dkNew 1024 8) L0).taken = 0 := plays_off L0 (dkNew 1024 8)
  generalize hDA : playsD (dkNew 1024 8) L0 = DA at *
  clear hDA
  have sw2 : Same w W2 := Fr.trans s1w f2 (fun k hl hk => by have := hk.1; omega)
  have z2 := f2.size
  have zw := sw2.size
  have zw1 := s1w.size
  have d2 : DkAt W2 b DA (fun k => w.heap.size ≤ k ∧ k < W2.heap.size) := d2.land (fun k hk => by rcases hk with e | e; exact ⟨e.1, by have := e.2; omega⟩; exact ⟨by have := e.1; omega, e.2⟩) (fun k hk => hk.2)
  have hq1 := hp1.fr f2 (fun g o hne e hk => by have := n1 g o hne e; have := hk.1; omega)
  have hq2 := hp2.fr f2 (fun g o hne e hk => by have := n2 g o hne e; have := hk.1; omega)
  clear hp0 hp1 hp2 f2 d1 d0 h0 h1 h2
  have m2 : 0 + L0.length ≤ 1048576 := by omega
  have q2 := j2.sm m2 (by decide)
  refine wp_seq ?_
  have fb1_0 := Fe.refl b1
  refine wp_region_list ?_
  unfold rPD8
  refine fb1_0.move 40 (.pointer (some ⟨b, 0, none⟩)) _ (Or.inl rfl) rfl (lb_ i1.size) (wanted_none rfl) ((fb1_0.at_ 7).trans i1.s7) (fun b1_1 fb1_1 => ?_)
  clear fb1_0
  have r_b1_2 : (execOp b1_1.eval { dst := some 41, op := Op.call { callee := Callee.value (Operand.func 10), args := #[Operand.tmp 40], argTypes := #[24] }, type := 24, pos := "outright.go:213", after := #[{ on := 0, ground := Ground.data }], guard := none }).run Try.prog (W2) = .ok (.enter 10 #[.pointer (some ⟨b, 0, none⟩)]) (W2) := by
    have kf : ∀ f, b1_1.eval (.func f) = .func (.func f) #[] #[] := fun _ => rfl
    have e40 := (show b1_1.eval (.tmp 40) = .pointer (some ⟨b, 0, none⟩) from (fb1_1.at_ 40))
    clear fb1_1 ha hq1 hq2
    generalize b1_1.eval = ρ at *
    go_simp
  refine fb1_1.call 41 rfl (lb_ i1.size) (wanted_none rfl) r_b1_2 (dfork_calls W2 d2 j2.ok.hp0 q2.P q2.I q2.W) (fun e W3 hR => ?_)
  obtain ⟨rfl, e3, s3⟩ := hR
  clear r_b1_2
  have d3 := d2.same s3
  have z3 := s3.size
  refine ⟨_, rfl, fun b1_2 fb1_2 => ?_⟩
  clear fb1_1
  refine fb1_2.move 42 (.pointer (some ⟨b, 0, none⟩)) _ (Or.inl rfl) rfl (lb_ i1.size) (wanted_none rfl) ((fb1_2.at_ 7).trans i1.s7) (fun b1_3 fb1_3 => ?_)
  clear fb1_2
  have r_b1_4 : (execOp b1_3.eval { dst := some 43, op := Op.call { callee := Callee.value (Operand.func 10), args := #[Operand.tmp 42], argTypes := #[24] }, type := 24, pos := "outright.go:213", after := #[{ on := 2, ground := Ground.data }, { on := 1, ground := Ground.chain }], guard := none }).run Try.prog (W3) = .ok (.enter 10 #[.pointer (some ⟨b, 0, none⟩)]) (W3) := by
    have kf : ∀ f, b1_3.eval (.func f) = .func (.func f) #[] #[] := fun _ => rfl
    have e42 := (show b1_3.eval (.tmp 42) = .pointer (some ⟨b, 0, none⟩) from (fb1_3.at_ 42))
    clear fb1_3 ha hq1 hq2
    generalize b1_3.eval = ρ at *
    go_simp
  refine fb1_3.call 43 rfl (lb_ i1.size) (wanted_none rfl) r_b1_4 (dfork_calls W3 d3 j2.ok.hp0 q2.P q2.I q2.W) (fun e W4 hR => ?_)
  obtain ⟨rfl, g4, s4⟩ := hR
  clear r_b1_4
  have d4 := d3.same s4
  have e4 := e3.same s4
  have z4 := s4.size
  refine ⟨_, rfl, fun b1_4 fb1_4 => ?_⟩
  clear fb1_3
  refine fb1_4.move 10 (.pointer (some ⟨W2.heap.size, 0, none⟩)) _ (Or.inr rfl) rfl (lb_ i1.size) (wanted_none rfl) (fb1_4.at_ 41) (fun b1_5 fb1_5 => ?_)
  clear fb1_4
  refine fb1_5.move 11 (.pointer (some ⟨W3.heap.size, 0, none⟩)) _ (Or.inr rfl) rfl (lb_ i1.size) (wanted_none rfl) (fb1_5.at_ 43) (fun b1_6 fb1_6 => ?_)
  clear fb1_5
  refine wpList_nil ?_
  change Code.wp _ _ _ _ _
  refine wp_seq (wp_seq ?_)
  refine wp_region_list ?_
  unfold rPD9
  refine fb1_6.move 44 (.pointer (some ⟨W2.heap.size, 0, none⟩)) _ (Or.inl rfl) rfl (lb_ i1.size) (wanted_none rfl) (fb1_6.at_ 10) (fun b1_7 fb1_7 => ?_)
  clear fb1_6
  have r_b1_8 : (execOp b1_7.eval { dst := some 45, op := Op.binOp BinOp.eql 24 (Operand.tmp 44) (Operand.const (Value.pointer none)) 24, type := 4, pos := "outright.go:214", after := #[{ on := 0, ground := Ground.data }], guard := none }).run Try.prog (W4) = .ok (.value (.bool false)) (W4) := by
    have kc : ∀ v, b1_7.eval (.const v) = v := fun _ => rfl
    have e44 := (show b1_7.eval (.tmp 44) = .pointer (some ⟨W2.heap.size, 0, none⟩) from (fb1_7.at_ 44))
    clear fb1_7 ha hq1 hq2
    generalize b1_7.eval = ρ at *
    go_simp
  refine fb1_7.step 45 (.bool false) rfl (lb_ i1.size) (wanted_none rfl) r_b1_8 (fun b1_8 fb1_8 => ?_)
  clear r_b1_8
  clear fb1_7
  refine fb1_8.move 46 (.bool false) _ (Or.inl rfl) rfl (lb_ i1.size) (wanted_none rfl) (fb1_8.at_ 45) (fun b1_9 fb1_9 => ?_)
  clear fb1_8
  refine fb1_9.move 47 (.pointer (some ⟨W3.heap.size, 0, none⟩)) _ (Or.inl rfl) rfl (lb_ i1.size) ((wanted_at (t := 46) (c := false) (b := false) rfl rfl rfl (lb_ (fb1_9.size.trans i1.size)) (fb1_9.at_ 46)).trans (by rfl)) (fb1_9.at_ 11) (fun b1_10 fb1_10 => ?_)
  clear fb1_9
  have r_b1_11 : (execOp b1_10.eval { dst := some 48, op := Op.binOp BinOp.eql 24 (Operand.tmp 47) (Operand.const (Value.pointer none)) 24, type := 4, pos := "outright.go:214", after := #[{ on := 3, ground := Ground.data }, { on := 2, ground := Ground.guard }], guard := some (2, false) }).run Try.prog (W4) = .ok (.value (.bool false)) (W4) := by
    have kc : ∀ v, b1_10.eval (.const v) = v := fun _ => rfl
    have e47 := (show b1_10.eval (.tmp 47) = .pointer (some ⟨W3.heap.size, 0, none⟩) from (fb1_10.at_ 47))
    clear fb1_10 ha hq1 hq2
    generalize b1_10.eval = ρ at *
    go_simp
  refine fb1_10.step 48 (.bool false) rfl (lb_ i1.size) ((wanted_at (t := 46) (c := false) (b := false) rfl rfl rfl (lb_ (fb1_10.size.trans i1.size)) (fb1_10.at_ 46)).trans (by rfl)) r_b1_11 (fun b1_11 fb1_11 => ?_)
  clear r_b1_11
  clear fb1_10
  have r_b1_12 : (execOp b1_11.eval { dst := some 49, op := Op.pick (Operand.tmp 46) (Operand.const (Value.bool true)) (Operand.tmp 48), type := 4, pos := "outright.go:214", after := #[{ on := 2, ground := Ground.data }, { on := 4, ground := Ground.data }], guard := none }).run Try.prog (W4) = .ok (.value (.bool false)) (W4) := by
    have kc : ∀ v, b1_11.eval (.const v) = v := fun _ => rfl
    have e46 := (show b1_11.eval (.tmp 46) = .bool false from (fb1_11.at_ 46))
    have e48 := (show b1_11.eval (.tmp 48) = .bool false from (fb1_11.at_ 48))
    clear fb1_11 ha hq1 hq2
    generalize b1_11.eval = ρ at *
    go_simp
  refine fb1_11.step 49 (.bool false) rfl (lb_ i1.size) (wanted_none rfl) r_b1_12 (fun b1_12 fb1_12 => ?_)
  clear r_b1_12
  clear fb1_11
  refine wpList_nil ?_
  change Code.wp _ _ _ _ _
  refine wp_cond_false (show b1_12.eval (.tmp 49) = .bool false from (fb1_12.at_ 49)) (wp_skip ?_)
  change Code.wp _ _ _ _ _
  refine wp_seq (wp_seq ?_)
  refine wp_region_list ?_
  unfold rPD11
  refine fb1_12.move 12 (.int .i64 ((0 : Nat) : Int)) _ (Or.inr rfl) rfl (lb_ i1.size) (wanted_none rfl) rfl (fun b1_13 fb1_13 => ?_)
  clear fb1_12
  refine wpList_nil ?_
  change Code.wp _ _ _ _ _
  refine wp_block ?_
  have sw4 : Same w W4 := sw2.trans (s3.trans s4)
  have hr1 := hq1.fr (s3.trans s4) (fun _ _ _ _ f => f)
  have hr2 := hq2.fr (s3.trans s4) (fun _ _ _ _ f => f)
  refine pd2L (L := L1) (m := 0 + L0.length) b1_13 W4 ⟨fb1_13.size.trans i1.size, fb1_13.defers.trans i1.defers, rfl, (show b1_13.eval (.tmp 1) = .slice p1 L1.length c1 from ((fb1_13.at_ 1).trans i1.s1)), (show b1_13.eval (.tmp 2) = .slice p2 L2.length c2 from ((fb1_13.at_ 2).trans i1.s2)), (show b1_13.eval (.tmp 7) = .pointer (some ⟨b, 0, none⟩) from ((fb1_13.at_ 7).trans i1.s7)), (show b1_13.eval (.tmp 10) = .pointer (some ⟨W2.heap.size, 0, none⟩) from (fb1_13.at_ 10)), (show b1_13.eval (.tmp 11) = .pointer (some ⟨W3.heap.size, 0, none⟩) from (fb1_13.at_ 11))⟩ (show b1_13.eval (.tmp 12) = .int .i64 ((0 : Nat) : Int) from (fb1_13.at_ 12)) hr1 (fun g o hne e hk => by have := n1 g o hne e; have := hk.1; omega) e4 j2 (by omega) (fun b2 W5 i2 e5 f5 => ?_)
  change Code.wp _ _ _ _ _
  have je : DkIn (playsD DA L1) (0 + L0.length + L1.length) := plays_in j2
  have ke := plays_off L1 DA
  rw [k2.1, k2.2] at ke
  generalize hDE : playsD DA L1 = DE at *
  clear hDE
  have z5 := f5.size
  have d5 := d4.fr f5 (fun k hk hf => by have := hf.1; have := hk.2; omega)
  have g5 := g4.fr f5 (fun k hk hf => by have := hf.2; have := hk.1; omega)
  have sw5 : Same w W5 := Fr.trans sw4 f5 (fun k hl hk => by have := hk.1; omega)
  have hs2 := hr2.fr f5 (fun g o hne e hk => by have := n2 g o hne e; have := hk.1; omega)
  clear hq1 hq2 hr1 hr2 e3 e4 d3 d4 g4 d2
  have qe := je.sm (m := 1048576) (by omega) (by decide)
  refine wp_seq ?_
  have fb2_0 := Fe.refl b2
  refine wp_region_list ?_
  unfold rPD15
  refine fb2_0.move 62 (.pointer (some ⟨W2.heap.size, 0, none⟩)) _ (Or.inl rfl) rfl (lb_ i2.size) (wanted_none rfl) ((fb2_0.at_ 10).trans i2.s10) (fun b2_1 fb2_1 => ?_)
  clear fb2_0
  have r_b2_2 : (execOp b2_1.eval { dst := some 63, op := Op.buildSlice 33 2 #[(0, Operand.const (Value.int IntKind.u8 255)), (1, Operand.const (Value.int IntKind.u8 255))], type := 33, pos := "outright.go:220", after := #[], guard := none }).run Try.prog (W5) = .ok (.value (.slice (some ⟨W5.heap.size, 0, none⟩) 2 2)) (World.alloc W5 (.cells #[.int .u8 255, .int .u8 255] 38)) := by
    have kc : ∀ v, b2_1.eval (.const v) = v := fun _ => rfl
    clear fb2_1 ha hs2
    generalize b2_1.eval = ρ at *
    go_simp
  refine fb2_1.stepW 63 (.slice (some ⟨W5.heap.size, 0, none⟩) 2 2) rfl (lb_ i2.size) (wanted_none rfl) r_b2_2 (fun b2_2 fb2_2 => ?_)
  clear r_b2_2
  have s6 : Same W5 (World.alloc W5 (.cells #[.int .u8 255, .int .u8 255] 38)) := (Fr.refl _ W5).alloc _
  have r6 : (World.alloc W5 (.cells #[.int .u8 255, .int .u8 255] 38)).heap[W5.heap.size]? = some (.cells #[.int .u8 255, .int .u8 255] 38 (0, 0)) := heap_alloc_new W5 _
  generalize World.alloc W5 (.cells #[.int .u8 255, .int .u8 255] 38) = W6 at *
  have z6 := s6.size
  have e6 := e5.same s6
  have hft : FtRow W6 (some ⟨W5.heap.size, 0, none⟩) [255, 255] := ⟨fun _ => ⟨_, _, rfl⟩, fun g o e j x hx => by cases e; match j, hx with | 0, hx => exact (cell_of_row _ _ _ _ _ _ r6).trans (by cases hx; rfl) | 1, hx => exact (cell_of_row _ _ _ _ _ _ r6).trans (by cases hx; rfl)⟩
  have jl : DkIn (dkLose DE [255, 255]) (0 + L0.length + L1.length + 1) := lose_in je
  have hi6 : (setP DE.page (fateF [255, 255]) 0 DE.W DE.I).length ≤ 1048576 := Nat.le_trans jl.P (Nat.le_trans jl.most (by decide))
  clear fb2_1
  have r_b2_3 : (execOp b2_2.eval { dst := some 64, op := Op.call { callee := Callee.value (Operand.func 11), args := #[Operand.tmp 62, Operand.tmp 63], argTypes := #[24, 33] }, type := 25, pos := "outright.go:220", after := #[{ on := 0, ground := Ground.data }, { on := 1, ground := Ground.data }], guard := none }).run Try.prog (W6) = .ok (.enter 11 #[.pointer (some ⟨W2.heap.size, 0, none⟩), .slice (some ⟨W5.heap.size, 0, none⟩) 2 2]) (W6) := by
    have kf : ∀ f, b2_2.eval (.func f) = .func (.func f) #[] #[] := fun _ => rfl
    have e62 := (show b2_2.eval (.tmp 62) = .pointer (some ⟨W2.heap.size, 0, none⟩) from (fb2_2.at_ 62))
    have e63 := (show b2_2.eval (.tmp 63) = .slice (some ⟨W5.heap.size, 0, none⟩) 2 2 from (fb2_2.at_ 63))
    clear fb2_2 ha hs2
    generalize b2_2.eval = ρ at *
    go_simp
  refine fb2_2.call 64 rfl (lb_ i2.size) (wanted_none rfl) r_b2_3 (crash_as (F := [255, 255]) (fc := 2) W6 e6 je.ok qe hi6 hft (fun g o e hk => by cases e; rcases hk with e | e; have := e.2; omega; have := e.2; omega) ke.1 rfl) (fun e W7 hR => ?_)
  obtain ⟨rfl, e7, f7⟩ := hR
  clear r_b2_3
  refine ⟨_, rfl, fun b2_3 fb2_3 => ?_⟩
  clear fb2_2
  refine wpList_nil ?_
  change Code.wp _ _ _ _ _
  have z7 := f7.size
  have d7 := (d5.same s6).fr f7 (fun k hk hf => by rcases hf with e | e; have := e.1; have := hk.2; omega; have := e.1; have := hk.2; omega)
  have g7 := (g5.same s6).fr f7 (fun k hk hf => by rcases hf with e | e; have := e.2; have := hk.1; omega; have := e.1; have := hk.2; omega)
  have sw7 : Same w W7 := Fr.trans (sw5.trans s6) f7 (fun k hl hk => by rcases hk with e | e; have := e.1; omega; have := e.1; omega)
  have ht2 := (hs2.fr s6 (fun _ _ _ _ f => f)).fr f7 (fun g o hne e hk => by rcases hk with h | h; have := n2 g o hne e; have := h.1; omega; have := n2 g o hne e; have := h.1; omega)
  have kt : (dkLose DE [255, 255]).taken = 1 := by show DE.taken + 1 = 1; rw [ke.2]
  generalize hDL : dkLose DE [255, 255] = DL at *
  clear hDL e5 e6 d5 g5 hs2 r6 hft hi6
  refine wp_seq (wp_seq ?_)
  refine wp_region_list ?_
  unfold rPD16
  refine fb2_3.move 13 (.int .i64 ((0 : Nat) : Int)) _ (Or.inr rfl) rfl (lb_ i2.size) (wanted_none rfl) rfl (fun b2_4 fb2_4 => ?_)
  clear fb2_3
  refine wpList_nil ?_
  change Code.wp _ _ _ _ _
  refine wp_block ?_
  refine pd3L (L := L2) (m := 0 + L0.length) (by intro c a d v w h; cases d <;> exact h) b2_4 W7 ⟨fb2_4.size.trans i2.size, fb2_4.defers.trans i2.defers, rfl, rfl, (show b2_4.eval (.tmp 2) = .slice p2 L2.length c2 from ((fb2_4.at_ 2).trans i2.s2)), (show b2_4.eval (.tmp 7) = .pointer (some ⟨b, 0, none⟩) from ((fb2_4.at_ 7).trans i2.s7)), (show b2_4.eval (.tmp 10) = .pointer (some ⟨W2.heap.size, 0, none⟩) from ((fb2_4.at_ 10).trans i2.s10)), (show b2_4.eval (.tmp 11) = .pointer (some ⟨W3.heap.size, 0, none⟩) from ((fb2_4.at_ 11).trans i2.s11))⟩ (show b2_4.eval (.tmp 13) = .int .i64 ((0 : Nat) : Int) from (fb2_4.at_ 13)) ht2 (fun g o hne e hk => by have := n2 g o hne e; have := hk.1; omega) (fun g o hne e hk => by have := n2 g o hne e; have := hk.1; omega) d7 g7 (fun k hk hu => by have := hk.1; have := hu.2; omega) j2 (by omega) (fun b3 W8 U8 V8 i3 d8 g8 f8 => ?_)
  change Code.wp _ _ _ _ _
  have jb : DkIn (playsD DA L2) (0 + L0.length + L2.length) := plays_in j2
  have kb := plays_off L2 DA
  rw [k2.1, k2.2] at kb
  generalize hDB : playsD DA L2 = DB at *
  clear hDB
  have z8 := f8.size
  have e8 := e7.fr f8 (fun k hk hf => by
    rcases hf with hf | hf
    · rcases hk with (e | e) | e
      · have := e.1; have := hf.2; omega
      · have := e.1; have := hf.2; omega
      · have := e.1; have := hf.2; omega
    · rcases hk with (e | e) | e
      · have := e.2; have := hf.1; omega
      · have := e.1; have := hf.2; omega
      · have := e.1; have := hf.2; omega)
  have sw8 : Same w W8 := Fr.trans sw7 f8 (fun k hl hk => by rcases hk with e | e; have := e.1; omega; have := e.1; omega)
  clear ht2 d7 g7 e7 f7 f8 f5
  have qb := jb.sm (m := 1048576) (by omega) (by decide)
  have hp := jb.ok.hp0
  have hpl := jl.ok.hp0
  clear n0 n1 n2 z1 z2 z3 z4 z5 z6 z7 z8 zw zw1 hm
  refine wp_seq ?_
  have fb3_0 := Fe.refl b3
  refine wp_region_list ?_
  unfold rPD21
  refine fb3_0.move 84 (.pointer (some ⟨b, 0, none⟩)) _ (Or.inl rfl) rfl (lb_ i3.size) (wanted_none rfl) ((fb3_0.at_ 7).trans i3.s7) (fun b3_1 fb3_1 => ?_)
  clear fb3_0
  have r_b3_2 : (execOp b3_1.eval { dst := some 85, op := Op.call { callee := Callee.value (Operand.func 13), args := #[Operand.tmp 84], argTypes := #[24] }, type := 40, pos := "outright.go:226", after := #[{ on := 0, ground := Ground.data }], guard := none }).run Try.prog (W8) = .ok (.enter 13 #[.pointer (some ⟨b, 0, none⟩)]) (W8) := by
    have kf : ∀ f, b3_1.eval (.func f) = .func (.func f) #[] #[] := fun _ => rfl
    have e84 := (show b3_1.eval (.tmp 84) = .pointer (some ⟨b, 0, none⟩) from (fb3_1.at_ 84))
    clear fb3_1 ha
    generalize b3_1.eval = ρ at *
    go_simp
  refine fb3_1.call 85 rfl (lb_ i3.size) (wanted_none rfl) r_b3_2 (seen_calls W8 d8 hp kb.1 qb.P) (fun e W9 hR => ?_)
  obtain ⟨sa, sc, rfl, o9, s9⟩ := hR
  clear r_b3_2
  have d9 := d8.same s9
  have g9 := g8.same s9
  have sw9 := sw8.trans s9
  refine ⟨_, rfl, fun b3_2 fb3_2 => ?_⟩
  clear fb3_1
  refine fb3_2.move 86 (.pointer (some ⟨W3.heap.size, 0, none⟩)) _ (Or.inl rfl) rfl (lb_ i3.size) (wanted_none rfl) ((fb3_2.at_ 11).trans i3.s11) (fun b3_3 fb3_3 => ?_)
  clear fb3_2
  have r_b3_4 : (execOp b3_3.eval { dst := some 87, op := Op.call { callee := Callee.value (Operand.func 13), args := #[Operand.tmp 86], argTypes := #[24] }, type := 40, pos := "outright.go:226", after := #[{ on := 2, ground := Ground.data }, { on := 1, ground := Ground.chain }], guard := none }).run Try.prog (W9) = .ok (.enter 13 #[.pointer (some ⟨W3.heap.size, 0, none⟩)]) (W9) := by
    have kf : ∀ f, b3_3.eval (.func f) = .func (.func f) #[] #[] := fun _ => rfl
    have e86 := (show b3_3.eval (.tmp 86) = .pointer (some ⟨W3.heap.size, 0, none⟩) from (fb3_3.at_ 86))
    clear fb3_3 ha
    generalize b3_3.eval = ρ at *
    go_simp
  refine fb3_3.call 87 rfl (lb_ i3.size) (wanted_none rfl) r_b3_4 (seen_calls W9 g9 hp kb.1 qb.P) (fun e W10 hR => ?_)
  obtain ⟨ta, tc, rfl, o10, s10⟩ := hR
  clear r_b3_4
  have d10 := d9.same s10
  have g10 := g9.same s10
  have sw10 := sw9.trans s10
  have o9 := own_frameB o9 s10 (fun _ _ f => f)
  refine ⟨_, rfl, fun b3_4 fb3_4 => ?_⟩
  clear fb3_3
  have r_b3_5 : (execOp b3_4.eval { dst := some 88, op := Op.call { callee := Callee.value (Operand.func 12), args := #[Operand.tmp 85, Operand.tmp 87], argTypes := #[40, 40] }, type := 4, pos := "outright.go:226", after := #[{ on := 1, ground := Ground.data }, { on := 3, ground := Ground.data }, { on := 3, ground := Ground.chain }], guard := none }).run Try.prog (W10) = .ok (.enter 12 #[.slice sa DB.P.length sc, .slice ta DB.P.length tc]) (W10) := by
    have kf : ∀ f, b3_4.eval (.func f) = .func (.func f) #[] #[] := fun _ => rfl
    have e85 := (show b3_4.eval (.tmp 85) = .slice sa DB.P.length sc from (fb3_4.at_ 85))
    have e87 := (show b3_4.eval (.tmp 87) = .slice ta DB.P.length tc from (fb3_4.at_ 87))
    clear fb3_4 ha
    generalize b3_4.eval = ρ at *
    go_simp
  refine fb3_4.call 88 rfl (lb_ i3.size) (wanted_none rfl) r_b3_5 (alike_true W10 qb.P o9 o10) (fun e W11 hR => ?_)
  obtain ⟨rfl, s11⟩ := hR
  clear r_b3_5
  have d11 := d10.same s11
  have g11 := g10.same s11
  have sw11 := sw10.trans s11
  clear o9 o10
  refine ⟨_, rfl, fun b3_5 fb3_5 => ?_⟩
  clear fb3_4
  refine fb3_5.move 89 (.bool true) _ (Or.inl rfl) rfl (lb_ i3.size) (wanted_none rfl) (fb3_5.at_ 88) (fun b3_6 fb3_6 => ?_)
  clear fb3_5
  refine fb3_6.move 90 (.pointer (some ⟨b, 0, none⟩)) _ (Or.inl rfl) rfl (lb_ i3.size) ((wanted_at (t := 89) (c := true) (b := true) rfl rfl rfl (lb_ (fb3_6.size.trans i3.size)) (fb3_6.at_ 89)).trans (by rfl)) ((fb3_6.at_ 7).trans i3.s7) (fun b3_7 fb3_7 => ?_)
  clear fb3_6
  have r_b3_8 : (execOp b3_7.eval { dst := some 91, op := Op.call { callee := Callee.value (Operand.func 14), args := #[Operand.tmp 90], argTypes := #[24] }, type := 40, pos := "outright.go:226", after := #[{ on := 6, ground := Ground.data }, { on := 5, ground := Ground.chain }, { on := 5, ground := Ground.guard }], guard := some (5, true) }).run Try.prog (W11) = .ok (.enter 14 #[.pointer (some ⟨b, 0, none⟩)]) (W11) := by
    have kf : ∀ f, b3_7.eval (.func f) = .func (.func f) #[] #[] := fun _ => rfl
    have e90 := (show b3_7.eval (.tmp 90) = .pointer (some ⟨b, 0, none⟩) from (fb3_7.at_ 90))
    clear fb3_7 ha
    generalize b3_7.eval = ρ at *
    go_simp
  refine fb3_7.call 91 rfl (lb_ i3.size) ((wanted_at (t := 89) (c := true) (b := true) rfl rfl rfl (lb_ (fb3_7.size.trans i3.size)) (fb3_7.at_ 89)).trans (by rfl)) r_b3_8 (dimage_calls W11 d11 hp qb.I) (fun e W12 hR => ?_)
  obtain ⟨ua, uc, rfl, o12, s12⟩ := hR
  clear r_b3_8
  have d12 := d11.same s12
  have g12 := g11.same s12
  have sw12 := sw11.trans s12
  refine ⟨_, rfl, fun b3_8 fb3_8 => ?_⟩
  clear fb3_7
  refine fb3_8.move 92 (.pointer (some ⟨W3.heap.size, 0, none⟩)) _ (Or.inl rfl) rfl (lb_ i3.size) ((wanted_at (t := 89) (c := true) (b := true) rfl rfl rfl (lb_ (fb3_8.size.trans i3.size)) (fb3_8.at_ 89)).trans (by rfl)) ((fb3_8.at_ 11).trans i3.s11) (fun b3_9 fb3_9 => ?_)
  clear fb3_8
  have r_b3_10 : (execOp b3_9.eval { dst := some 93, op := Op.call { callee := Callee.value (Operand.func 14), args := #[Operand.tmp 92], argTypes := #[24] }, type := 40, pos := "outright.go:226", after := #[{ on := 8, ground := Ground.data }, { on := 7, ground := Ground.chain }, { on := 5, ground := Ground.guard }], guard := some (5, true) }).run Try.prog (W12) = .ok (.enter 14 #[.pointer (some ⟨W3.heap.size, 0, none⟩)]) (W12) := by
    have kf : ∀ f, b3_9.eval (.func f) = .func (.func f) #[] #[] := fun _ => rfl
    have e92 := (show b3_9.eval (.tmp 92) = .pointer (some ⟨W3.heap.size, 0, none⟩) from (fb3_9.at_ 92))
    clear fb3_9 ha
    generalize b3_9.eval = ρ at *
    go_simp
  refine fb3_9.call 93 rfl (lb_ i3.size) ((wanted_at (t := 89) (c := true) (b := true) rfl rfl rfl (lb_ (fb3_9.size.trans i3.size)) (fb3_9.at_ 89)).trans (by rfl)) r_b3_10 (dimage_calls W12 g12 hp qb.I) (fun e W13 hR => ?_)
  obtain ⟨va, vc, rfl, o13, s13⟩ := hR
  clear r_b3_10
  have d13 := d12.same s13
  have g13 := g12.same s13
  have sw13 := sw12.trans s13
  have o12 := own_frameB o12 s13 (fun _ _ f => f)
  refine ⟨_, rfl, fun b3_10 fb3_10 => ?_⟩
  clear fb3_9
  have r_b3_11 : (execOp b3_10.eval { dst := some 94, op := Op.call { callee := Callee.value (Operand.func 12), args := #[Operand.tmp 91, Operand.tmp 93], argTypes := #[40, 40] }, type := 4, pos := "outright.go:226", after := #[{ on := 7, ground := Ground.data }, { on := 9, ground := Ground.data }, { on := 9, ground := Ground.chain }, { on := 5, ground := Ground.guard }], guard := some (5, true) }).run Try.prog (W13) = .ok (.enter 12 #[.slice ua DB.I.length uc, .slice va DB.I.length vc]) (W13) := by
    have kf : ∀ f, b3_10.eval (.func f) = .func (.func f) #[] #[] := fun _ => rfl
    have e91 := (show b3_10.eval (.tmp 91) = .slice ua DB.I.length uc from (fb3_10.at_ 91))
    have e93 := (show b3_10.eval (.tmp 93) = .slice va DB.I.length vc from (fb3_10.at_ 93))
    clear fb3_10 ha
    generalize b3_10.eval = ρ at *
    go_simp
  refine fb3_10.call 94 rfl (lb_ i3.size) ((wanted_at (t := 89) (c := true) (b := true) rfl rfl rfl (lb_ (fb3_10.size.trans i3.size)) (fb3_10.at_ 89)).trans (by rfl)) r_b3_11 (alike_true W13 qb.I o12 o13) (fun e W14 hR => ?_)
  obtain ⟨rfl, s14⟩ := hR
  clear r_b3_11
  have d14 := d13.same s14
  have g14 := g13.same s14
  have sw14 := sw13.trans s14
  clear o12 o13
  refine ⟨_, rfl, fun b3_11 fb3_11 => ?_⟩
  clear fb3_10
  have r_b3_12 : (execOp b3_11.eval { dst := some 95, op := Op.pick (Operand.tmp 89) (Operand.tmp 94) (Operand.const (Value.bool false)), type := 4, pos := "outright.go:226", after := #[{ on := 5, ground := Ground.data }, { on := 10, ground := Ground.data }], guard := none }).run Try.prog (W14) = .ok (.value (.bool true)) (W14) := by
    have kc : ∀ v, b3_11.eval (.const v) = v := fun _ => rfl
    have e89 := (show b3_11.eval (.tmp 89) = .bool true from (fb3_11.at_ 89))
    have e94 := (show b3_11.eval (.tmp 94) = .bool true from (fb3_11.at_ 94))
    clear fb3_11 ha
    generalize b3_11.eval = ρ at *
    go_simp
  refine fb3_11.step 95 (.bool true) rfl (lb_ i3.size) (wanted_none rfl) r_b3_12 (fun b3_12 fb3_12 => ?_)
  clear r_b3_12
  clear fb3_11
  refine fb3_12.move 96 (.bool true) _ (Or.inl rfl) rfl (lb_ i3.size) (wanted_none rfl) (fb3_12.at_ 95) (fun b3_13 fb3_13 => ?_)
  clear fb3_12
  refine fb3_13.move 97 (.pointer (some ⟨b, 0, none⟩)) _ (Or.inl rfl) rfl (lb_ i3.size) ((wanted_at (t := 96) (c := true) (b := true) rfl rfl rfl (lb_ (fb3_13.size.trans i3.size)) (fb3_13.at_ 96)).trans (by rfl)) ((fb3_13.at_ 7).trans i3.s7) (fun b3_14 fb3_14 => ?_)
  clear fb3_13
  have r_b3_15 : (execOp b3_14.eval { dst := some 98, op := Op.call { callee := Callee.value (Operand.func 15), args := #[Operand.tmp 97], argTypes := #[24] }, type := 44, pos := "outright.go:226", after := #[{ on := 13, ground := Ground.data }, { on := 12, ground := Ground.chain }, { on := 12, ground := Ground.guard }], guard := some (12, true) }).run Try.prog (W14) = .ok (.enter 15 #[.pointer (some ⟨b, 0, none⟩)]) (W14) := by
    have kf : ∀ f, b3_14.eval (.func f) = .func (.func f) #[] #[] := fun _ => rfl
    have e97 := (show b3_14.eval (.tmp 97) = .pointer (some ⟨b, 0, none⟩) from (fb3_14.at_ 97))
    clear fb3_14 ha
    generalize b3_14.eval = ρ at *
    go_simp
  refine fb3_14.call 98 rfl (lb_ i3.size) ((wanted_at (t := 96) (c := true) (b := true) rfl rfl rfl (lb_ (fb3_14.size.trans i3.size)) (fb3_14.at_ 96)).trans (by rfl)) r_b3_15 (dacts_calls W14 d14 hp) (fun e W15 hR => ?_)
  obtain ⟨rfl, s15⟩ := hR
  clear r_b3_15
  have d15 := d14.same s15
  have g15 := g14.same s15
  have sw15 := sw14.trans s15
  refine ⟨_, rfl, fun b3_15 fb3_15 => ?_⟩
  clear fb3_14
  refine fb3_15.move 99 (.pointer (some ⟨W3.heap.size, 0, none⟩)) _ (Or.inl rfl) rfl (lb_ i3.size) ((wanted_at (t := 96) (c := true) (b := true) rfl rfl rfl (lb_ (fb3_15.size.trans i3.size)) (fb3_15.at_ 96)).trans (by rfl)) ((fb3_15.at_ 11).trans i3.s11) (fun b3_16 fb3_16 => ?_)
  clear fb3_15
  have r_b3_17 : (execOp b3_16.eval { dst := some 100, op := Op.call { callee := Callee.value (Operand.func 15), args := #[Operand.tmp 99], argTypes := #[24] }, type := 44, pos := "outright.go:226", after := #[{ on := 15, ground := Ground.data }, { on := 14, ground := Ground.chain }, { on := 12, ground := Ground.guard }], guard := some (12, true) }).run Try.prog (W15) = .ok (.enter 15 #[.pointer (some ⟨W3.heap.size, 0, none⟩)]) (W15) := by
    have kf : ∀ f, b3_16.eval (.func f) = .func (.func f) #[] #[] := fun _ => rfl
    have e99 := (show b3_16.eval (.tmp 99) = .pointer (some ⟨W3.heap.size, 0, none⟩) from (fb3_16.at_ 99))
    clear fb3_16 ha
    generalize b3_16.eval = ρ at *
    go_simp
  refine fb3_16.call 100 rfl (lb_ i3.size) ((wanted_at (t := 96) (c := true) (b := true) rfl rfl rfl (lb_ (fb3_16.size.trans i3.size)) (fb3_16.at_ 96)).trans (by rfl)) r_b3_17 (dacts_calls W15 g15 hp) (fun e W16 hR => ?_)
  obtain ⟨rfl, s16⟩ := hR
  clear r_b3_17
  have d16 := d15.same s16
  have g16 := g15.same s16
  have sw16 := sw15.trans s16
  refine ⟨_, rfl, fun b3_17 fb3_17 => ?_⟩
  clear fb3_16
  have r_b3_18 : (execOp b3_17.eval { dst := some 101, op := Op.binOp BinOp.eql 44 (Operand.tmp 98) (Operand.tmp 100) 44, type := 4, pos := "outright.go:226", after := #[{ on := 14, ground := Ground.data }, { on := 16, ground := Ground.data }, { on := 12, ground := Ground.guard }], guard := some (12, true) }).run Try.prog (W16) = .ok (.value (.bool true)) (W16) := by
    have e98 := (show b3_17.eval (.tmp 98) = .agg #[.int .i64 (DB.wr : Int), .int .i64 (DB.gr : Int), .int .i64 (DB.sy : Int)] from (fb3_17.at_ 98))
    have e100 := (show b3_17.eval (.tmp 100) = .agg #[.int .i64 (DB.wr : Int), .int .i64 (DB.gr : Int), .int .i64 (DB.sy : Int)] from (fb3_17.at_ 100))
    clear fb3_17 ha
    generalize b3_17.eval = ρ at *
    go_simp
  refine fb3_17.step 101 (.bool true) rfl (lb_ i3.size) ((wanted_at (t := 96) (c := true) (b := true) rfl rfl rfl (lb_ (fb3_17.size.trans i3.size)) (fb3_17.at_ 96)).trans (by rfl)) r_b3_18 (fun b3_18 fb3_18 => ?_)
  clear r_b3_18
  clear fb3_17
  have r_b3_19 : (execOp b3_18.eval { dst := some 102, op := Op.pick (Operand.tmp 96) (Operand.tmp 101) (Operand.const (Value.bool false)), type := 4, pos := "outright.go:226", after := #[{ on := 12, ground := Ground.data }, { on := 17, ground := Ground.data }], guard := none }).run Try.prog (W16) = .ok (.value (.bool true)) (W16) := by
    have kc : ∀ v, b3_18.eval (.const v) = v := fun _ => rfl
    have e96 := (show b3_18.eval (.tmp 96) = .bool true from (fb3_18.at_ 96))
    have e101 := (show b3_18.eval (.tmp 101) = .bool true from (fb3_18.at_ 101))
    clear fb3_18 ha
    generalize b3_18.eval = ρ at *
    go_simp
  refine fb3_18.step 102 (.bool true) rfl (lb_ i3.size) (wanted_none rfl) r_b3_19 (fun b3_19 fb3_19 => ?_)
  clear r_b3_19
  clear fb3_18
  refine fb3_19.move 103 (.bool true) _ (Or.inl rfl) rfl (lb_ i3.size) (wanted_none rfl) (fb3_19.at_ 102) (fun b3_20 fb3_20 => ?_)
  clear fb3_19
  refine fb3_20.move 104 (.pointer (some ⟨b, 0, none⟩)) _ (Or.inl rfl) rfl (lb_ i3.size) ((wanted_at (t := 103) (c := true) (b := true) rfl rfl rfl (lb_ (fb3_20.size.trans i3.size)) (fb3_20.at_ 103)).trans (by rfl)) ((fb3_20.at_ 7).trans i3.s7) (fun b3_21 fb3_21 => ?_)
  clear fb3_20
  have r_b3_22 : (execOp b3_21.eval { dst := some 105, op := Op.call { callee := Callee.value (Operand.func 16), args := #[Operand.tmp 104], argTypes := #[24] }, type := 46, pos := "outright.go:226", after := #[{ on := 20, ground := Ground.data }, { on := 19, ground := Ground.chain }, { on := 19, ground := Ground.guard }], guard := some (19, true) }).run Try.prog (W16) = .ok (.enter 16 #[.pointer (some ⟨b, 0, none⟩)]) (W16) := by
    have kf : ∀ f, b3_21.eval (.func f) = .func (.func f) #[] #[] := fun _ => rfl
    have e104 := (show b3_21.eval (.tmp 104) = .pointer (some ⟨b, 0, none⟩) from (fb3_21.at_ 104))
    clear fb3_21 ha
    generalize b3_21.eval = ρ at *
    go_simp
  refine fb3_21.call 105 rfl (lb_ i3.size) ((wanted_at (t := 103) (c := true) (b := true) rfl rfl rfl (lb_ (fb3_21.size.trans i3.size)) (fb3_21.at_ 103)).trans (by rfl)) r_b3_22 (waits_calls W16 d16 hp qb.W) (fun e W17 hR => ?_)
  obtain ⟨xa, xc, rfl, _, s17⟩ := hR
  clear r_b3_22
  have d17 := d16.same s17
  have g17 := g16.same s17
  have sw17 := sw16.trans s17
  refine ⟨_, rfl, fun b3_22 fb3_22 => ?_⟩
  clear fb3_21
  have r_b3_23 : (execOp b3_22.eval { dst := some 106, op := Op.call { callee := Callee.builtin Builtin.len, args := #[Operand.tmp 105], argTypes := #[46] }, type := 3, pos := "outright.go:226", after := #[{ on := 21, ground := Ground.data }, { on := 19, ground := Ground.guard }], guard := some (19, true) }).run Try.prog (W17) = .ok (.value (.int .i64 (DB.W.length : Int))) (W17) := by
    have e105 := (show b3_22.eval (.tmp 105) = .slice xa DB.W.length xc from (fb3_22.at_ 105))
    clear fb3_22 ha
    generalize b3_22.eval = ρ at *
    go_simp
  refine fb3_22.step 106 (.int .i64 (DB.W.length : Int)) rfl (lb_ i3.size) ((wanted_at (t := 103) (c := true) (b := true) rfl rfl rfl (lb_ (fb3_22.size.trans i3.size)) (fb3_22.at_ 103)).trans (by rfl)) r_b3_23 (fun b3_23 fb3_23 => ?_)
  clear r_b3_23
  clear fb3_22
  refine fb3_23.move 107 (.pointer (some ⟨W3.heap.size, 0, none⟩)) _ (Or.inl rfl) rfl (lb_ i3.size) ((wanted_at (t := 103) (c := true) (b := true) rfl rfl rfl (lb_ (fb3_23.size.trans i3.size)) (fb3_23.at_ 103)).trans (by rfl)) ((fb3_23.at_ 11).trans i3.s11) (fun b3_24 fb3_24 => ?_)
  clear fb3_23
  have r_b3_25 : (execOp b3_24.eval { dst := some 108, op := Op.call { callee := Callee.value (Operand.func 16), args := #[Operand.tmp 107], argTypes := #[24] }, type := 46, pos := "outright.go:226", after := #[{ on := 23, ground := Ground.data }, { on := 21, ground := Ground.chain }, { on := 19, ground := Ground.guard }], guard := some (19, true) }).run Try.prog (W17) = .ok (.enter 16 #[.pointer (some ⟨W3.heap.size, 0, none⟩)]) (W17) := by
    have kf : ∀ f, b3_24.eval (.func f) = .func (.func f) #[] #[] := fun _ => rfl
    have e107 := (show b3_24.eval (.tmp 107) = .pointer (some ⟨W3.heap.size, 0, none⟩) from (fb3_24.at_ 107))
    clear fb3_24 ha
    generalize b3_24.eval = ρ at *
    go_simp
  refine fb3_24.call 108 rfl (lb_ i3.size) ((wanted_at (t := 103) (c := true) (b := true) rfl rfl rfl (lb_ (fb3_24.size.trans i3.size)) (fb3_24.at_ 103)).trans (by rfl)) r_b3_25 (waits_calls W17 g17 hp qb.W) (fun e W18 hR => ?_)
  obtain ⟨ya, yc, rfl, _, s18⟩ := hR
  clear r_b3_25
  have d18 := d17.same s18
  have g18 := g17.same s18
  have sw18 := sw17.trans s18
  have e18 := e8.same (s9.trans (s10.trans (s11.trans (s12.trans (s13.trans (s14.trans (s15.trans (s16.trans (s17.trans s18)))))))))
  refine ⟨_, rfl, fun b3_25 fb3_25 => ?_⟩
  clear fb3_24
  have r_b3_26 : (execOp b3_25.eval { dst := some 109, op := Op.call { callee := Callee.builtin Builtin.len, args := #[Operand.tmp 108], argTypes := #[46] }, type := 3, pos := "outright.go:226", after := #[{ on := 24, ground := Ground.data }, { on := 19, ground := Ground.guard }], guard := some (19, true) }).run Try.prog (W18) = .ok (.value (.int .i64 (DB.W.length : Int))) (W18) := by
    have e108 := (show b3_25.eval (.tmp 108) = .slice ya DB.W.length yc from (fb3_25.at_ 108))
    clear fb3_25 ha
    generalize b3_25.eval = ρ at *
    go_simp
  refine fb3_25.step 109 (.int .i64 (DB.W.length : Int)) rfl (lb_ i3.size) ((wanted_at (t := 103) (c := true) (b := true) rfl rfl rfl (lb_ (fb3_25.size.trans i3.size)) (fb3_25.at_ 103)).trans (by rfl)) r_b3_26 (fun b3_26 fb3_26 => ?_)
  clear r_b3_26
  clear fb3_25
  have r_b3_27 : (execOp b3_26.eval { dst := some 110, op := Op.binOp BinOp.eql 3 (Operand.tmp 106) (Operand.tmp 109) 3, type := 4, pos := "outright.go:226", after := #[{ on := 22, ground := Ground.data }, { on := 25, ground := Ground.data }, { on := 19, ground := Ground.guard }], guard := some (19, true) }).run Try.prog (W18) = .ok (.value (.bool true)) (W18) := by
    have e106 := (show b3_26.eval (.tmp 106) = .int .i64 (DB.W.length : Int) from (fb3_26.at_ 106))
    have e109 := (show b3_26.eval (.tmp 109) = .int .i64 (DB.W.length : Int) from (fb3_26.at_ 109))
    clear fb3_26 ha
    generalize b3_26.eval = ρ at *
    go_simp
  refine fb3_26.step 110 (.bool true) rfl (lb_ i3.size) ((wanted_at (t := 103) (c := true) (b := true) rfl rfl rfl (lb_ (fb3_26.size.trans i3.size)) (fb3_26.at_ 103)).trans (by rfl)) r_b3_27 (fun b3_27 fb3_27 => ?_)
  clear r_b3_27
  clear fb3_26
  have r_b3_28 : (execOp b3_27.eval { dst := some 111, op := Op.pick (Operand.tmp 103) (Operand.tmp 110) (Operand.const (Value.bool false)), type := 4, pos := "outright.go:226", after := #[{ on := 19, ground := Ground.data }, { on := 26, ground := Ground.data }], guard := none }).run Try.prog (W18) = .ok (.value (.bool true)) (W18) := by
    have kc : ∀ v, b3_27.eval (.const v) = v := fun _ => rfl
    have e103 := (show b3_27.eval (.tmp 103) = .bool true from (fb3_27.at_ 103))
    have e110 := (show b3_27.eval (.tmp 110) = .bool true from (fb3_27.at_ 110))
    clear fb3_27 ha
    generalize b3_27.eval = ρ at *
    go_simp
  refine fb3_27.step 111 (.bool true) rfl (lb_ i3.size) (wanted_none rfl) r_b3_28 (fun b3_28 fb3_28 => ?_)
  clear r_b3_28
  clear fb3_27
  refine fb3_28.move 112 (.bool true) _ (Or.inl rfl) rfl (lb_ i3.size) (wanted_none rfl) (fb3_28.at_ 111) (fun b3_29 fb3_29 => ?_)
  clear fb3_28
  refine fb3_29.move 113 (.pointer (some ⟨b, 0, none⟩)) _ (Or.inl rfl) rfl (lb_ i3.size) ((wanted_at (t := 112) (c := true) (b := true) rfl rfl rfl (lb_ (fb3_29.size.trans i3.size)) (fb3_29.at_ 112)).trans (by rfl)) ((fb3_29.at_ 7).trans i3.s7) (fun b3_30 fb3_30 => ?_)
  clear fb3_29
  have r_b3_31 : (execOp b3_30.eval { dst := some 114, op := Op.call { callee := Callee.value (Operand.func 17), args := #[Operand.tmp 113], argTypes := #[24] }, type := 4, pos := "outright.go:226", after := #[{ on := 29, ground := Ground.data }, { on := 28, ground := Ground.chain }, { on := 28, ground := Ground.guard }], guard := some (28, true) }).run Try.prog (W18) = .ok (.enter 17 #[.pointer (some ⟨b, 0, none⟩)]) (W18) := by
    have kf : ∀ f, b3_30.eval (.func f) = .func (.func f) #[] #[] := fun _ => rfl
    have e113 := (show b3_30.eval (.tmp 113) = .pointer (some ⟨b, 0, none⟩) from (fb3_30.at_ 113))
    clear fb3_30 ha
    generalize b3_30.eval = ρ at *
    go_simp
  refine fb3_30.call 114 rfl (lb_ i3.size) ((wanted_at (t := 112) (c := true) (b := true) rfl rfl rfl (lb_ (fb3_30.size.trans i3.size)) (fb3_30.at_ 112)).trans (by rfl)) r_b3_31 (on_as W18 d18 hp kb.1) (fun e w19 hR => ?_)
  obtain ⟨rfl, hw19⟩ := hR
  clear r_b3_31
  have hw19 := hw19.symm
  subst hw19
  refine ⟨_, rfl, fun b3_31 fb3_31 => ?_⟩
  clear fb3_30
  have r_b3_32 : (execOp b3_31.eval { dst := some 115, op := Op.pick (Operand.tmp 112) (Operand.tmp 114) (Operand.const (Value.bool false)), type := 4, pos := "outright.go:226", after := #[{ on := 28, ground := Ground.data }, { on := 30, ground := Ground.data }], guard := none }).run Try.prog (W18) = .ok (.value (.bool true)) (W18) := by
    have kc : ∀ v, b3_31.eval (.const v) = v := fun _ => rfl
    have e112 := (show b3_31.eval (.tmp 112) = .bool true from (fb3_31.at_ 112))
    have e114 := (show b3_31.eval (.tmp 114) = .bool true from (fb3_31.at_ 114))
    clear fb3_31 ha
    generalize b3_31.eval = ρ at *
    go_simp
  refine fb3_31.step 115 (.bool true) rfl (lb_ i3.size) (wanted_none rfl) r_b3_32 (fun b3_32 fb3_32 => ?_)
  clear r_b3_32
  clear fb3_31
  refine fb3_32.move 116 (.bool true) _ (Or.inl rfl) rfl (lb_ i3.size) (wanted_none rfl) (fb3_32.at_ 115) (fun b3_33 fb3_33 => ?_)
  clear fb3_32
  refine fb3_33.move 117 (.pointer (some ⟨b, 0, none⟩)) _ (Or.inl rfl) rfl (lb_ i3.size) ((wanted_at (t := 116) (c := true) (b := true) rfl rfl rfl (lb_ (fb3_33.size.trans i3.size)) (fb3_33.at_ 116)).trans (by rfl)) ((fb3_33.at_ 7).trans i3.s7) (fun b3_34 fb3_34 => ?_)
  clear fb3_33
  have r_b3_35 : (execOp b3_34.eval { dst := some 118, op := Op.call { callee := Callee.value (Operand.func 18), args := #[Operand.tmp 117], argTypes := #[24] }, type := 3, pos := "outright.go:226", after := #[{ on := 33, ground := Ground.data }, { on := 32, ground := Ground.chain }, { on := 32, ground := Ground.guard }], guard := some (32, true) }).run Try.prog (W18) = .ok (.enter 18 #[.pointer (some ⟨b, 0, none⟩)]) (W18) := by
    have kf : ∀ f, b3_34.eval (.func f) = .func (.func f) #[] #[] := fun _ => rfl
    have e117 := (show b3_34.eval (.tmp 117) = .pointer (some ⟨b, 0, none⟩) from (fb3_34.at_ 117))
    clear fb3_34 ha
    generalize b3_34.eval = ρ at *
    go_simp
  refine fb3_34.call 118 rfl (lb_ i3.size) ((wanted_at (t := 116) (c := true) (b := true) rfl rfl rfl (lb_ (fb3_34.size.trans i3.size)) (fb3_34.at_ 116)).trans (by rfl)) r_b3_35 (taken_as W18 d18 hp kb.2) (fun e w20 hR => ?_)
  obtain ⟨rfl, hw20⟩ := hR
  clear r_b3_35
  have hw20 := hw20.symm
  subst hw20
  refine ⟨_, rfl, fun b3_35 fb3_35 => ?_⟩
  clear fb3_34
  have r_b3_36 : (execOp b3_35.eval { dst := some 119, op := Op.binOp BinOp.eql 3 (Operand.tmp 118) (Operand.const (Value.int IntKind.i64 0)) 3, type := 4, pos := "outright.go:226", after := #[{ on := 34, ground := Ground.data }, { on := 32, ground := Ground.guard }], guard := some (32, true) }).run Try.prog (W18) = .ok (.value (.bool true)) (W18) := by
    have kc : ∀ v, b3_35.eval (.const v) = v := fun _ => rfl
    have e118 := (show b3_35.eval (.tmp 118) = .int .i64 ((0 : Nat) : Int) from (fb3_35.at_ 118))
    clear fb3_35 ha
    generalize b3_35.eval = ρ at *
    go_simp
  refine fb3_35.step 119 (.bool true) rfl (lb_ i3.size) ((wanted_at (t := 116) (c := true) (b := true) rfl rfl rfl (lb_ (fb3_35.size.trans i3.size)) (fb3_35.at_ 116)).trans (by rfl)) r_b3_36 (fun b3_36 fb3_36 => ?_)
  clear r_b3_36
  clear fb3_35
  have r_b3_37 : (execOp b3_36.eval { dst := some 120, op := Op.pick (Operand.tmp 116) (Operand.tmp 119) (Operand.const (Value.bool false)), type := 4, pos := "outright.go:226", after := #[{ on := 32, ground := Ground.data }, { on := 35, ground := Ground.data }], guard := none }).run Try.prog (W18) = .ok (.value (.bool true)) (W18) := by
    have kc : ∀ v, b3_36.eval (.const v) = v := fun _ => rfl
    have e116 := (show b3_36.eval (.tmp 116) = .bool true from (fb3_36.at_ 116))
    have e119 := (show b3_36.eval (.tmp 119) = .bool true from (fb3_36.at_ 119))
    clear fb3_36 ha
    generalize b3_36.eval = ρ at *
    go_simp
  refine fb3_36.step 120 (.bool true) rfl (lb_ i3.size) (wanted_none rfl) r_b3_37 (fun b3_37 fb3_37 => ?_)
  clear r_b3_37
  clear fb3_36
  refine fb3_37.move 121 (.bool true) _ (Or.inl rfl) rfl (lb_ i3.size) (wanted_none rfl) (fb3_37.at_ 120) (fun b3_38 fb3_38 => ?_)
  clear fb3_37
  refine fb3_38.move 122 (.pointer (some ⟨W2.heap.size, 0, none⟩)) _ (Or.inl rfl) rfl (lb_ i3.size) ((wanted_at (t := 121) (c := true) (b := true) rfl rfl rfl (lb_ (fb3_38.size.trans i3.size)) (fb3_38.at_ 121)).trans (by rfl)) ((fb3_38.at_ 10).trans i3.s10) (fun b3_39 fb3_39 => ?_)
  clear fb3_38
  have r_b3_40 : (execOp b3_39.eval { dst := some 123, op := Op.call { callee := Callee.value (Operand.func 18), args := #[Operand.tmp 122], argTypes := #[24] }, type := 3, pos := "outright.go:226", after := #[{ on := 38, ground := Ground.data }, { on := 37, ground := Ground.chain }, { on := 37, ground := Ground.guard }], guard := some (37, true) }).run Try.prog (W18) = .ok (.enter 18 #[.pointer (some ⟨W2.heap.size, 0, none⟩)]) (W18) := by
    have kf : ∀ f, b3_39.eval (.func f) = .func (.func f) #[] #[] := fun _ => rfl
    have e122 := (show b3_39.eval (.tmp 122) = .pointer (some ⟨W2.heap.size, 0, none⟩) from (fb3_39.at_ 122))
    clear fb3_39 ha
    generalize b3_39.eval = ρ at *
    go_simp
  refine fb3_39.call 123 rfl (lb_ i3.size) ((wanted_at (t := 121) (c := true) (b := true) rfl rfl rfl (lb_ (fb3_39.size.trans i3.size)) (fb3_39.at_ 121)).trans (by rfl)) r_b3_40 (taken_as W18 e18 hpl kt) (fun e w21 hR => ?_)
  obtain ⟨rfl, hw21⟩ := hR
  clear r_b3_40
  have hw21 := hw21.symm
  subst hw21
  refine ⟨_, rfl, fun b3_40 fb3_40 => ?_⟩
  clear fb3_39
  have r_b3_41 : (execOp b3_40.eval { dst := some 124, op := Op.binOp BinOp.eql 3 (Operand.tmp 123) (Operand.const (Value.int IntKind.i64 1)) 3, type := 4, pos := "outright.go:226", after := #[{ on := 39, ground := Ground.data }, { on := 37, ground := Ground.guard }], guard := some (37, true) }).run Try.prog (W18) = .ok (.value (.bool true)) (W18) := by
    have kc : ∀ v, b3_40.eval (.const v) = v := fun _ => rfl
    have e123 := (show b3_40.eval (.tmp 123) = .int .i64 ((1 : Nat) : Int) from (fb3_40.at_ 123))
    clear fb3_40 ha
    generalize b3_40.eval = ρ at *
    go_simp
  refine fb3_40.step 124 (.bool true) rfl (lb_ i3.size) ((wanted_at (t := 121) (c := true) (b := true) rfl rfl rfl (lb_ (fb3_40.size.trans i3.size)) (fb3_40.at_ 121)).trans (by rfl)) r_b3_41 (fun b3_41 fb3_41 => ?_)
  clear r_b3_41
  clear fb3_40
  have r_b3_42 : (execOp b3_41.eval { dst := some 125, op := Op.pick (Operand.tmp 121) (Operand.tmp 124) (Operand.const (Value.bool false)), type := 4, pos := "outright.go:226", after := #[{ on := 37, ground := Ground.data }, { on := 40, ground := Ground.data }], guard := none }).run Try.prog (W18) = .ok (.value (.bool true)) (W18) := by
    have kc : ∀ v, b3_41.eval (.const v) = v := fun _ => rfl
    have e121 := (show b3_41.eval (.tmp 121) = .bool true from (fb3_41.at_ 121))
    have e124 := (show b3_41.eval (.tmp 124) = .bool true from (fb3_41.at_ 124))
    clear fb3_41 ha
    generalize b3_41.eval = ρ at *
    go_simp
  refine fb3_41.step 125 (.bool true) rfl (lb_ i3.size) (wanted_none rfl) r_b3_42 (fun b3_42 fb3_42 => ?_)
  clear r_b3_42
  clear fb3_41
  refine fb3_42.move 6 (.bool true) _ (Or.inr rfl) rfl (lb_ i3.size) (wanted_none rfl) (fb3_42.at_ 125) (fun b3_43 fb3_43 => ?_)
  clear fb3_42
  refine wpList_nil ?_
  change Code.wp _ _ _ _ _
  refine wp_ret ?_
  exact ret_abs rfl (fb3_43.defers.trans i3.defers) (show b3_43.eval (.tmp 6) = .bool true from (fb3_43.at_ 6)) ⟨rfl, sw18⟩
end Go.Proofs.Ytjiaepeglghheaa
