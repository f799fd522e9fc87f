/- DiskSafe's tail: how long the image is, its pages, and the disk awake again. -/
import Derived.Test.YtjiaepeglghheaaPV
namespace Go.Proofs.Ytjiaepeglghheaa
open Go.RowKit

set_option maxRecDepth 100000 in
set_option maxHeartbeats 4000000 in
theorem pt3 {b bw sc ic nc nn B1 B2 : Nat} {sa ia na : Option Addr} {w W : World} {DL : Dk} {Im Sy : List ByteArray} {T : Nat → List ByteArray} {U V : Nat → Prop} {v1 v14 v16 : Value} {Q : Exit → Act → World → Prop} (hQp : ∀ c (a : Act) d v w, Q (.panic c) (a.put d v) w → Q (.panic c) a w) (a0 : Act)
    (I0 : IPN v1 (.pointer (some ⟨b, 0, none⟩)) (.slice sa Sy.length sc) (.slice (some ⟨bw, 0, none⟩) 8 8) (.slice na nn nc) v14 v16 (.slice ia Im.length ic) a0) (h20 : a0.eval (.tmp 20) = .int .i64 (Im.length : Int)) (hle : Im.length ≤ nn)
    (hi : W.ownsRow B1 9 1 (.slice ia Im.length ic) Im.length (scells Im)) (hy : W.ownsRow B2 9 1 (.slice sa Sy.length sc) Sy.length (scells Sy)) (hw : WrAt W bw T V) (h8 : Im.length ≤ 8) (hp : ∀ p x, Im[p]? = some x → PgOk T Sy (textS (-1) 0 0 1024) x p)
    (hd : DkAt W b DL U) (hp0 : 0 < DL.page) (hoff : DL.off = true) (hlf : DL.life < 1000000000) (hP : DL.P = Im) (hW : DL.W = []) (hU : ∀ k, U k → w.heap.size ≤ k) (hb : ∀ k, (Value.slice ia Im.length ic).ownBlock = some k → ¬ U k) (sw : Same w W)
    (hQ : ∀ (a : Act) W', a.defers = [] → a.eval (.tmp 4) = .bool true → Same w W' → Q .ret a W') : cPT3.wp Try.prog Q a0 W := by
  have fa0_0 := Fe.refl a0
  have hgt : ¬ (nn : Int) < (Im.length : Int) := by omega
  have hgd : decide ((nn : Int) < (Im.length : Int)) = false := decide_eq_false hgt
  unfold cPT3
  refine wp_seq (wp_seq ?_)
  refine wp_region_list ?_
  unfold rPL40
  refine fa0_0.move 194 (.slice ia Im.length ic) _ (Or.inl rfl) rfl (lb_ I0.size) (wanted_none rfl) ((fa0_0.at_ 19).trans I0.s19) (fun a0_1 fa0_1 => ?_)
  clear fa0_0
  have r_a0_2 : (execOp a0_1.eval { dst := some 195, op := Op.call { callee := Callee.builtin Builtin.len, args := #[Operand.tmp 194], argTypes := #[40] }, type := 3, pos := "outright.go:130", after := #[{ on := 0, ground := Ground.data }], guard := none }).run Try.prog (W) = .ok (.value (.int .i64 (Im.length : Int))) (W) := by
    have e194 := (show a0_1.eval (.tmp 194) = .slice ia Im.length ic from (fa0_1.at_ 194))
    clear fa0_1 I0 h20 hQ hQp hp hi hy hw hd hU hb sw
    generalize a0_1.eval = ρ at *
    go_simp
  refine fa0_1.step 195 (.int .i64 (Im.length : Int)) rfl (lb_ I0.size) (wanted_none rfl) r_a0_2 (fun a0_2 fa0_2 => ?_)
  clear r_a0_2
  clear fa0_1
  refine fa0_2.move 196 (.int .i64 (Im.length : Int)) _ (Or.inl rfl) rfl (lb_ I0.size) (wanted_none rfl) ((fa0_2.at_ 20).trans h20) (fun a0_3 fa0_3 => ?_)
  clear fa0_2
  have r_a0_4 : (execOp a0_3.eval { dst := some 197, op := Op.binOp BinOp.neq 3 (Operand.tmp 195) (Operand.tmp 196) 3, type := 4, pos := "outright.go:130", after := #[{ on := 1, ground := Ground.data }, { on := 2, ground := Ground.data }], guard := none }).run Try.prog (W) = .ok (.value (.bool false)) (W) := by
    have e195 := (show a0_3.eval (.tmp 195) = .int .i64 (Im.length : Int) from (fa0_3.at_ 195))
    have e196 := (show a0_3.eval (.tmp 196) = .int .i64 (Im.length : Int) from (fa0_3.at_ 196))
    clear fa0_3 I0 h20 hQ hQp hp hi hy hw hd hU hb sw
    generalize a0_3.eval = ρ at *
    go_simp
  refine fa0_3.step 197 (.bool false) rfl (lb_ I0.size) (wanted_none rfl) r_a0_4 (fun a0_4 fa0_4 => ?_)
  clear r_a0_4
  clear fa0_3
  refine fa0_4.move 198 (.bool false) _ (Or.inl rfl) rfl (lb_ I0.size) (wanted_none rfl) (fa0_4.at_ 197) (fun a0_5 fa0_5 => ?_)
  clear fa0_4
  refine fa0_5.move 199 (.int .i64 (Im.length : Int)) _ (Or.inl rfl) rfl (lb_ I0.size) ((wanted_at (t := 198) (c := false) (b := false) rfl rfl rfl (lb_ (fa0_5.size.trans I0.size)) (fa0_5.at_ 198)).trans (by rfl)) ((fa0_5.at_ 20).trans h20) (fun a0_6 fa0_6 => ?_)
  clear fa0_5
  refine fa0_6.move 200 (.slice na nn nc) _ (Or.inl rfl) rfl (lb_ I0.size) ((wanted_at (t := 198) (c := false) (b := false) rfl rfl rfl (lb_ (fa0_6.size.trans I0.size)) (fa0_6.at_ 198)).trans (by rfl)) ((fa0_6.at_ 13).trans I0.s13) (fun a0_7 fa0_7 => ?_)
  clear fa0_6
  have r_a0_8 : (execOp a0_7.eval { dst := some 201, op := Op.call { callee := Callee.builtin Builtin.len, args := #[Operand.tmp 200], argTypes := #[40] }, type := 3, pos := "outright.go:130", after := #[{ on := 6, ground := Ground.data }, { on := 4, ground := Ground.guard }], guard := some (4, false) }).run Try.prog (W) = .ok (.value (.int .i64 (nn : Int))) (W) := by
    have e200 := (show a0_7.eval (.tmp 200) = .slice na nn nc from (fa0_7.at_ 200))
    clear fa0_7 I0 h20 hQ hQp hp hi hy hw hd hU hb sw
    generalize a0_7.eval = ρ at *
    go_simp
  refine fa0_7.step 201 (.int .i64 (nn : Int)) rfl (lb_ I0.size) ((wanted_at (t := 198) (c := false) (b := false) rfl rfl rfl (lb_ (fa0_7.size.trans I0.size)) (fa0_7.at_ 198)).trans (by rfl)) r_a0_8 (fun a0_8 fa0_8 => ?_)
  clear r_a0_8
  clear fa0_7
  have r_a0_9 : (execOp a0_8.eval { dst := some 202, op := Op.binOp BinOp.gtr 3 (Operand.tmp 199) (Operand.tmp 201) 3, type := 4, pos := "outright.go:130", after := #[{ on := 5, ground := Ground.data }, { on := 7, ground := Ground.data }, { on := 4, ground := Ground.guard }], guard := some (4, false) }).run Try.prog (W) = .ok (.value (.bool false)) (W) := by
    have e199 := (show a0_8.eval (.tmp 199) = .int .i64 (Im.length : Int) from (fa0_8.at_ 199))
    have e201 := (show a0_8.eval (.tmp 201) = .int .i64 (nn : Int) from (fa0_8.at_ 201))
    clear fa0_8 I0 h20 hQ hQp hp hi hy hw hd hU hb sw
    generalize a0_8.eval = ρ at *
    go_simp
  refine fa0_8.step 202 (.bool false) rfl (lb_ I0.size) ((wanted_at (t := 198) (c := false) (b := false) rfl rfl rfl (lb_ (fa0_8.size.trans I0.size)) (fa0_8.at_ 198)).trans (by rfl)) r_a0_9 (fun a0_9 fa0_9 => ?_)
  clear r_a0_9
  clear fa0_8
  have r_a0_10 : (execOp a0_9.eval { dst := some 203, op := Op.pick (Operand.tmp 198) (Operand.const (Value.bool true)) (Operand.tmp 202), type := 4, pos := "outright.go:130", after := #[{ on := 4, ground := Ground.data }, { on := 8, ground := Ground.data }], guard := none }).run Try.prog (W) = .ok (.value (.bool false)) (W) := by
    have kc : ∀ v, a0_9.eval (.const v) = v := fun _ => rfl
    have e198 := (show a0_9.eval (.tmp 198) = .bool false from (fa0_9.at_ 198))
    have e202 := (show a0_9.eval (.tmp 202) = .bool false from (fa0_9.at_ 202))
    clear fa0_9 I0 h20 hQ hQp hp hi hy hw hd hU hb sw
    generalize a0_9.eval = ρ at *
    go_simp
  refine fa0_9.step 203 (.bool false) rfl (lb_ I0.size) (wanted_none rfl) r_a0_10 (fun a0_10 fa0_10 => ?_)
  clear r_a0_10
  clear fa0_9
  refine wpList_nil ?_
  change Code.wp _ _ _ _ _
  refine wp_cond_false (show a0_10.eval (.tmp 203) = .bool false from (fa0_10.at_ 203)) (wp_skip ?_)
  change Code.wp _ _ _ _ _
  clear hgt hgd
  refine wp_seq ?_
  refine wp_region_list ?_
  unfold rPL42
  have r_a0_11 : (execOp a0_10.eval { dst := some 204, op := Op.build 31 #[(0, Operand.const (Value.int IntKind.i64 (-1)))], type := 31, pos := "outright.go:133", after := #[], guard := none }).run Try.prog (W) = .ok (.value (.agg #[.int .i64 (-1), .int .u8 0, .int .u8 0])) (W) := by
    have kc : ∀ v, a0_10.eval (.const v) = v := fun _ => rfl
    clear fa0_10 I0 h20 hQ hQp hp hi hy hw hd hU hb sw
    generalize a0_10.eval = ρ at *
    go_simp
  refine fa0_10.step 204 (.agg #[.int .i64 (-1), .int .u8 0, .int .u8 0]) rfl (lb_ I0.size) (wanted_none rfl) r_a0_11 (fun a0_11 fa0_11 => ?_)
  clear r_a0_11
  clear fa0_10
  have r_a0_12 : (execOp a0_11.eval { dst := some 205, op := Op.call { callee := Callee.value (Operand.func 19), args := #[Operand.tmp 204, Operand.const (Value.int IntKind.i64 1024)], argTypes := #[31, 3] }, type := 9, pos := "outright.go:133", after := #[{ on := 0, ground := Ground.data }], guard := none }).run Try.prog (W) = .ok (.enter 19 #[.agg #[.int .i64 (-1), .int .u8 0, .int .u8 0], Value.int IntKind.i64 1024]) (W) := by
    have kc : ∀ v, a0_11.eval (.const v) = v := fun _ => rfl
    have kf : ∀ f, a0_11.eval (.func f) = .func (.func f) #[] #[] := fun _ => rfl
    have e204 := (show a0_11.eval (.tmp 204) = .agg #[.int .i64 (-1), .int .u8 0, .int .u8 0] from (fa0_11.at_ 204))
    clear fa0_11 I0 h20 hQ hQp hp hi hy hw hd hU hb sw
    generalize a0_11.eval = ρ at *
    go_simp
  refine fa0_11.call 205 rfl (lb_ I0.size) (wanted_none rfl) r_a0_12 (text_calls (len := -1) (x := 0) (st := 0) (page := 1024) W (by decide)) (fun e W1 hR => ?_)
  obtain ⟨rfl, s1⟩ := hR
  clear r_a0_12
  have hi1 := own_frameB hi s1 (fun _ _ f => f)
  have hy1 := own_frameB hy s1 (fun _ _ f => f)
  have hw1 := hw.fr s1 (fun _ _ f => f)
  have hd1 := hd.same s1
  clear hi hy hw hd
  refine ⟨_, rfl, fun a0_12 fa0_12 => ?_⟩
  clear fa0_11
  refine fa0_12.move 22 (.string (textS (-1) 0 0 1024)) _ (Or.inr rfl) rfl (lb_ I0.size) (wanted_none rfl) (fa0_12.at_ 205) (fun a0_13 fa0_13 => ?_)
  clear fa0_12
  refine wpList_nil ?_
  change Code.wp _ _ _ _ _
  refine wp_seq (wp_seq ?_)
  refine wp_region_list ?_
  unfold rPL43
  refine fa0_13.move 23 (.int .i64 ((0 : Nat) : Int)) _ (Or.inr rfl) rfl (lb_ I0.size) (wanted_none rfl) rfl (fun a0_14 fa0_14 => ?_)
  clear fa0_13
  refine wpList_nil ?_
  change Code.wp _ _ _ _ _
  refine wp_block ?_
  refine pq4L (v24 := a0_14.eval (.tmp 24)) (by exact fun c a d v w h => hQp c a d v w h) a0_14 W1 ⟨fa0_14.size.trans I0.size, fa0_14.defers.trans I0.defers, (show a0_14.eval (.tmp 5) = .pointer (some ⟨b, 0, none⟩) from ((fa0_14.at_ 5).trans I0.s5)), (show a0_14.eval (.tmp 7) = .slice sa Sy.length sc from ((fa0_14.at_ 7).trans I0.s7)), (show a0_14.eval (.tmp 8) = .slice (some ⟨bw, 0, none⟩) 8 8 from ((fa0_14.at_ 8).trans I0.s8)), (show a0_14.eval (.tmp 19) = .slice ia Im.length ic from ((fa0_14.at_ 19).trans I0.s19)), (show a0_14.eval (.tmp 22) = .string (textS (-1) 0 0 1024) from (fa0_14.at_ 22)), (show a0_14.eval (.tmp 23) = .int .i64 ((0 : Nat) : Int) from (fa0_14.at_ 23)), rfl⟩ hi1 hy1 hw1 h8 hp (fun b1 W2 v23 v24 i2 s2 => ?_)
  change Code.wp _ _ _ _ _
  have hi2 := own_frameB hi1 s2 (fun _ _ f => f)
  have hd2 := hd1.same s2
  have sw2 := (sw.trans s1).trans s2
  clear hi1 hy1 hw1 hd1 s1 s2 hp sw
  refine wp_seq ?_
  have fb1_0 := Fe.refl b1
  refine wp_region_list ?_
  unfold rPL56
  refine fb1_0.move 259 (.pointer (some ⟨b, 0, none⟩)) _ (Or.inl rfl) rfl (lb_ i2.size) (wanted_none rfl) ((fb1_0.at_ 5).trans i2.s5) (fun b1_1 fb1_1 => ?_)
  clear fb1_0
  have r_b1_2 : (execOp b1_1.eval { dst := some 260, op := Op.call { callee := Callee.value (Operand.func 21), args := #[Operand.tmp 259], argTypes := #[24] }, type := 25, pos := "outright.go:148", after := #[{ on := 0, ground := Ground.data }], guard := none }).run Try.prog (W2) = .ok (.enter 21 #[.pointer (some ⟨b, 0, none⟩)]) (W2) := by
    have kf : ∀ f, b1_1.eval (.func f) = .func (.func f) #[] #[] := fun _ => rfl
    have e259 := (show b1_1.eval (.tmp 259) = .pointer (some ⟨b, 0, none⟩) from (fb1_1.at_ 259))
    clear fb1_1 I0 h20 hQ hQp hU hb i2 hi2 hd2 sw2
    generalize b1_1.eval = ρ at *
    go_simp
  refine fb1_1.call 260 rfl (lb_ i2.size) (wanted_none rfl) r_b1_2 (dwake_calls W2 hd2 hp0 hoff hlf) (fun e W3 hR => ?_)
  obtain ⟨rfl, d3, f3⟩ := hR
  clear r_b1_2
  have hi3 := own_frameB hi2 f3 hb
  have sw3 : Same w W3 := Fr.trans sw2 f3 (fun k hl e => by have := hU k e; omega)
  have hoff3 : (dkWake DL).off = false := rfl
  have hp3 : 0 < (dkWake DL).page := hp0
  have hP3 : (dkWake DL).P = Im := hP
  have hW3 : (dkWake DL).W = [] := hW
  generalize dkWake DL = D3 at *
  clear f3
  have hSn := seen_calls W3 d3 hp3 hoff3 (by rw [hP3]; omega)
  rw [hP3] at hSn
  refine ⟨_, rfl, fun b1_2 fb1_2 => ?_⟩
  clear fb1_1
  have r_b1_3 : (execOp b1_2.eval { dst := some 261, op := Op.binOp BinOp.eql 25 (Operand.tmp 260) (Operand.const (Value.int IntKind.i64 0)) 25, type := 4, pos := "outright.go:148", after := #[{ on := 1, ground := Ground.data }], guard := none }).run Try.prog (W3) = .ok (.value (.bool true)) (W3) := by
    have kc : ∀ v, b1_2.eval (.const v) = v := fun _ => rfl
    have e260 := (show b1_2.eval (.tmp 260) = .int .i64 0 from (fb1_2.at_ 260))
    clear fb1_2 I0 h20 hQ hQp hU hb i2 hi2 hd2 sw2
    generalize b1_2.eval = ρ at *
    go_simp
  refine fb1_2.step 261 (.bool true) rfl (lb_ i2.size) (wanted_none rfl) r_b1_3 (fun b1_3 fb1_3 => ?_)
  clear r_b1_3
  clear fb1_2
  refine fb1_3.move 262 (.bool true) _ (Or.inl rfl) rfl (lb_ i2.size) (wanted_none rfl) (fb1_3.at_ 261) (fun b1_4 fb1_4 => ?_)
  clear fb1_3
  refine fb1_4.move 263 (.pointer (some ⟨b, 0, none⟩)) _ (Or.inl rfl) rfl (lb_ i2.size) ((wanted_at (t := 262) (c := true) (b := true) rfl rfl rfl (lb_ (fb1_4.size.trans i2.size)) (fb1_4.at_ 262)).trans (by rfl)) ((fb1_4.at_ 5).trans i2.s5) (fun b1_5 fb1_5 => ?_)
  clear fb1_4
  have r_b1_6 : (execOp b1_5.eval { dst := some 264, op := Op.call { callee := Callee.value (Operand.func 13), args := #[Operand.tmp 263], argTypes := #[24] }, type := 40, pos := "outright.go:148", after := #[{ on := 4, ground := Ground.data }, { on := 3, ground := Ground.chain }, { on := 3, ground := Ground.guard }], guard := some (3, true) }).run Try.prog (W3) = .ok (.enter 13 #[.pointer (some ⟨b, 0, none⟩)]) (W3) := by
    have kf : ∀ f, b1_5.eval (.func f) = .func (.func f) #[] #[] := fun _ => rfl
    have e263 := (show b1_5.eval (.tmp 263) = .pointer (some ⟨b, 0, none⟩) from (fb1_5.at_ 263))
    clear fb1_5 I0 h20 hQ hQp hU hb i2 hi2 hd2 sw2
    generalize b1_5.eval = ρ at *
    go_simp
  refine fb1_5.call 264 rfl (lb_ i2.size) ((wanted_at (t := 262) (c := true) (b := true) rfl rfl rfl (lb_ (fb1_5.size.trans i2.size)) (fb1_5.at_ 262)).trans (by rfl)) r_b1_6 (hSn) (fun e W4 hR => ?_)
  obtain ⟨xa, xc, rfl, o4, s4⟩ := hR
  clear r_b1_6
  clear hSn
  have hi4 := own_frameB hi3 s4 (fun _ _ f => f)
  have d4 := d3.same s4
  have sw4 := sw3.trans s4
  have hT := alike_true W4 (by omega : Im.length ≤ 1048576) o4 hi4
  clear d3 hi3 sw3 s4 o4 hi4
  refine ⟨_, rfl, fun b1_6 fb1_6 => ?_⟩
  clear fb1_5
  refine fb1_6.move 265 (.slice ia Im.length ic) _ (Or.inl rfl) rfl (lb_ i2.size) ((wanted_at (t := 262) (c := true) (b := true) rfl rfl rfl (lb_ (fb1_6.size.trans i2.size)) (fb1_6.at_ 262)).trans (by rfl)) ((fb1_6.at_ 19).trans i2.s19) (fun b1_7 fb1_7 => ?_)
  clear fb1_6
  have r_b1_8 : (execOp b1_7.eval { dst := some 266, op := Op.call { callee := Callee.value (Operand.func 12), args := #[Operand.tmp 264, Operand.tmp 265], argTypes := #[40, 40] }, type := 4, pos := "outright.go:148", after := #[{ on := 5, ground := Ground.data }, { on := 6, ground := Ground.data }, { on := 5, ground := Ground.chain }, { on := 3, ground := Ground.guard }], guard := some (3, true) }).run Try.prog (W4) = .ok (.enter 12 #[.slice xa Im.length xc, .slice ia Im.length ic]) (W4) := by
    have kf : ∀ f, b1_7.eval (.func f) = .func (.func f) #[] #[] := fun _ => rfl
    have e264 := (show b1_7.eval (.tmp 264) = .slice xa Im.length xc from (fb1_7.at_ 264))
    have e265 := (show b1_7.eval (.tmp 265) = .slice ia Im.length ic from (fb1_7.at_ 265))
    clear fb1_7 I0 h20 hQ hQp hU hb i2 hi2 hd2 sw2
    generalize b1_7.eval = ρ at *
    go_simp
  refine fb1_7.call 266 rfl (lb_ i2.size) ((wanted_at (t := 262) (c := true) (b := true) rfl rfl rfl (lb_ (fb1_7.size.trans i2.size)) (fb1_7.at_ 262)).trans (by rfl)) r_b1_8 (hT) (fun e W5 hR => ?_)
  obtain ⟨rfl, s5⟩ := hR
  clear r_b1_8
  have d5 := d4.same s5
  have sw5 := sw4.trans s5
  clear hT d4 sw4 s5
  have hWn := waits_calls W5 d5 hp3 (by rw [hW3]; decide)
  rw [hW3] at hWn
  refine ⟨_, rfl, fun b1_8 fb1_8 => ?_⟩
  clear fb1_7
  have r_b1_9 : (execOp b1_8.eval { dst := some 267, op := Op.pick (Operand.tmp 262) (Operand.tmp 266) (Operand.const (Value.bool false)), type := 4, pos := "outright.go:148", after := #[{ on := 3, ground := Ground.data }, { on := 7, ground := Ground.data }], guard := none }).run Try.prog (W5) = .ok (.value (.bool true)) (W5) := by
    have kc : ∀ v, b1_8.eval (.const v) = v := fun _ => rfl
    have e262 := (show b1_8.eval (.tmp 262) = .bool true from (fb1_8.at_ 262))
    have e266 := (show b1_8.eval (.tmp 266) = .bool true from (fb1_8.at_ 266))
    clear fb1_8 I0 h20 hQ hQp hU hb i2 hi2 hd2 sw2
    generalize b1_8.eval = ρ at *
    go_simp
  refine fb1_8.step 267 (.bool true) rfl (lb_ i2.size) (wanted_none rfl) r_b1_9 (fun b1_9 fb1_9 => ?_)
  clear r_b1_9
  clear fb1_8
  refine fb1_9.move 268 (.bool true) _ (Or.inl rfl) rfl (lb_ i2.size) (wanted_none rfl) (fb1_9.at_ 267) (fun b1_10 fb1_10 => ?_)
  clear fb1_9
  refine fb1_10.move 269 (.pointer (some ⟨b, 0, none⟩)) _ (Or.inl rfl) rfl (lb_ i2.size) ((wanted_at (t := 268) (c := true) (b := true) rfl rfl rfl (lb_ (fb1_10.size.trans i2.size)) (fb1_10.at_ 268)).trans (by rfl)) ((fb1_10.at_ 5).trans i2.s5) (fun b1_11 fb1_11 => ?_)
  clear fb1_10
  have r_b1_12 : (execOp b1_11.eval { dst := some 270, op := Op.call { callee := Callee.value (Operand.func 16), args := #[Operand.tmp 269], argTypes := #[24] }, type := 46, pos := "outright.go:148", after := #[{ on := 10, ground := Ground.data }, { on := 9, ground := Ground.chain }, { on := 9, ground := Ground.guard }], guard := some (9, true) }).run Try.prog (W5) = .ok (.enter 16 #[.pointer (some ⟨b, 0, none⟩)]) (W5) := by
    have kf : ∀ f, b1_11.eval (.func f) = .func (.func f) #[] #[] := fun _ => rfl
    have e269 := (show b1_11.eval (.tmp 269) = .pointer (some ⟨b, 0, none⟩) from (fb1_11.at_ 269))
    clear fb1_11 I0 h20 hQ hQp hU hb i2 hi2 hd2 sw2
    generalize b1_11.eval = ρ at *
    go_simp
  refine fb1_11.call 270 rfl (lb_ i2.size) ((wanted_at (t := 268) (c := true) (b := true) rfl rfl rfl (lb_ (fb1_11.size.trans i2.size)) (fb1_11.at_ 268)).trans (by rfl)) r_b1_12 (hWn) (fun e W6 hR => ?_)
  obtain ⟨ya, yc, rfl, _, s6⟩ := hR
  clear r_b1_12
  have sw6 := sw5.trans s6
  clear hWn sw5 d5 s6
  refine ⟨_, rfl, fun b1_12 fb1_12 => ?_⟩
  clear fb1_11
  have r_b1_13 : (execOp b1_12.eval { dst := some 271, op := Op.call { callee := Callee.builtin Builtin.len, args := #[Operand.tmp 270], argTypes := #[46] }, type := 3, pos := "outright.go:148", after := #[{ on := 11, ground := Ground.data }, { on := 9, ground := Ground.guard }], guard := some (9, true) }).run Try.prog (W6) = .ok (.value (.int .i64 ((0 : Nat) : Int))) (W6) := by
    have e270 := (show b1_12.eval (.tmp 270) = .slice ya 0 yc from (fb1_12.at_ 270))
    clear fb1_12 I0 h20 hQ hQp hU hb i2 hi2 hd2 sw2
    generalize b1_12.eval = ρ at *
    go_simp
  refine fb1_12.step 271 (.int .i64 ((0 : Nat) : Int)) rfl (lb_ i2.size) ((wanted_at (t := 268) (c := true) (b := true) rfl rfl rfl (lb_ (fb1_12.size.trans i2.size)) (fb1_12.at_ 268)).trans (by rfl)) r_b1_13 (fun b1_13 fb1_13 => ?_)
  clear r_b1_13
  clear fb1_12
  have r_b1_14 : (execOp b1_13.eval { dst := some 272, op := Op.binOp BinOp.eql 3 (Operand.tmp 271) (Operand.const (Value.int IntKind.i64 0)) 3, type := 4, pos := "outright.go:148", after := #[{ on := 12, ground := Ground.data }, { on := 9, ground := Ground.guard }], guard := some (9, true) }).run Try.prog (W6) = .ok (.value (.bool true)) (W6) := by
    have kc : ∀ v, b1_13.eval (.const v) = v := fun _ => rfl
    have e271 := (show b1_13.eval (.tmp 271) = .int .i64 ((0 : Nat) : Int) from (fb1_13.at_ 271))
    clear fb1_13 I0 h20 hQ hQp hU hb i2 hi2 hd2 sw2
    generalize b1_13.eval = ρ at *
    go_simp
  refine fb1_13.step 272 (.bool true) rfl (lb_ i2.size) ((wanted_at (t := 268) (c := true) (b := true) rfl rfl rfl (lb_ (fb1_13.size.trans i2.size)) (fb1_13.at_ 268)).trans (by rfl)) r_b1_14 (fun b1_14 fb1_14 => ?_)
  clear r_b1_14
  clear fb1_13
  have r_b1_15 : (execOp b1_14.eval { dst := some 273, op := Op.pick (Operand.tmp 268) (Operand.tmp 272) (Operand.const (Value.bool false)), type := 4, pos := "outright.go:148", after := #[{ on := 9, ground := Ground.data }, { on := 13, ground := Ground.data }], guard := none }).run Try.prog (W6) = .ok (.value (.bool true)) (W6) := by
    have kc : ∀ v, b1_14.eval (.const v) = v := fun _ => rfl
    have e268 := (show b1_14.eval (.tmp 268) = .bool true from (fb1_14.at_ 268))
    have e272 := (show b1_14.eval (.tmp 272) = .bool true from (fb1_14.at_ 272))
    clear fb1_14 I0 h20 hQ hQp hU hb i2 hi2 hd2 sw2
    generalize b1_14.eval = ρ at *
    go_simp
  refine fb1_14.step 273 (.bool true) rfl (lb_ i2.size) (wanted_none rfl) r_b1_15 (fun b1_15 fb1_15 => ?_)
  clear r_b1_15
  clear fb1_14
  refine fb1_15.move 4 (.bool true) _ (Or.inr rfl) rfl (lb_ i2.size) (wanted_none rfl) (fb1_15.at_ 273) (fun b1_16 fb1_16 => ?_)
  clear fb1_15
  refine wpList_nil ?_
  change Code.wp _ _ _ _ _
  refine wp_ret ?_
  exact hQ _ _ (fb1_16.defers.trans i2.defers) (show b1_16.eval (.tmp 4) = .bool true from (fb1_16.at_ 4)) sw6
end Go.Proofs.Ytjiaepeglghheaa
