/- disk: From of no image, New. -/
import Derived.Test.YtljlkcmjbjnihaaOF
namespace Go.Proofs.Ytljlkcmjbjnihaa
open Go.RowKit

def rOV0 : Array Oper := #[{ dst := some 3, op := Op.box 3 (Operand.tmp 0), type := 0, pos := "disk.go:27", after := #[], guard := none },
  { dst := some 6, op := Op.assign (Operand.const (Value.pointer none)), type := 27, pos := "disk.go:27", after := #[], guard := none },
  { dst := some 7, op := Op.assign (Operand.const (Value.int IntKind.i64 0)), type := 24, pos := "disk.go:27", after := #[{ on := 1, ground := Ground.chain }], guard := none }]
def rOV1 : Array Oper := #[{ dst := some 10, op := Op.load 3 (Operand.tmp 3), type := 3, pos := "disk.go:28", after := #[], guard := none },
  { dst := some 11, op := Op.call { callee := Callee.value (Operand.func 12), args := #[Operand.tmp 10], argTypes := #[3] }, type := 4, pos := "disk.go:28", after := #[{ on := 0, ground := Ground.data }], guard := none },
  { dst := some 12, op := Op.unOp UnOp.not 4 (Operand.tmp 11), type := 4, pos := "disk.go:28", after := #[{ on := 1, ground := Ground.data }], guard := none },
  { dst := some 13, op := Op.move (Operand.tmp 12), type := 4, pos := "disk.go:28", after := #[{ on := 2, ground := Ground.data }, { on := 1, ground := Ground.chain }], guard := none },
  { dst := some 14, op := Op.move (Operand.tmp 1), type := 3, pos := "disk.go:28", after := #[{ on := 3, ground := Ground.guard }], guard := some (3, false) },
  { dst := some 15, op := Op.binOp BinOp.lss 3 (Operand.tmp 14) (Operand.const (Value.int IntKind.i64 1)) 3, type := 4, pos := "disk.go:28", after := #[{ on := 4, ground := Ground.data }, { on := 3, ground := Ground.guard }], guard := some (3, false) },
  { dst := some 16, op := Op.pick (Operand.tmp 13) (Operand.const (Value.bool true)) (Operand.tmp 15), type := 4, pos := "disk.go:28", after := #[{ on := 3, ground := Ground.data }, { on := 5, ground := Ground.data }], guard := none },
  { dst := some 17, op := Op.move (Operand.tmp 16), type := 4, pos := "disk.go:28", after := #[{ on := 6, ground := Ground.data }, { on := 3, ground := Ground.chain }], guard := none },
  { dst := some 18, op := Op.move (Operand.tmp 1), type := 3, pos := "disk.go:28", after := #[{ on := 7, ground := Ground.guard }], guard := some (7, false) },
  { dst := some 19, op := Op.binOp BinOp.gtr 3 (Operand.tmp 18) (Operand.const (Value.int IntKind.i64 65536)) 3, type := 4, pos := "disk.go:28", after := #[{ on := 8, ground := Ground.data }, { on := 7, ground := Ground.guard }], guard := some (7, false) },
  { dst := some 20, op := Op.pick (Operand.tmp 17) (Operand.const (Value.bool true)) (Operand.tmp 19), type := 4, pos := "disk.go:28", after := #[{ on := 7, ground := Ground.data }, { on := 9, ground := Ground.data }], guard := none }]
def rOV2 : Array Oper := #[{ dst := some 6, op := Op.assign (Operand.const (Value.pointer none)), type := 27, pos := "disk.go:29", after := #[], guard := none },
  { dst := some 7, op := Op.assign (Operand.const (Value.int IntKind.i64 2)), type := 24, pos := "disk.go:29", after := #[{ on := 0, ground := Ground.chain }, { on := 0, ground := Ground.phase }], guard := none }]
def rOV3 : Array Oper := #[{ dst := some 21, op := Op.makeFunc (Go.Fn.func 13) #[] #[Operand.tmp 3], type := 43, pos := "disk.go:31", after := #[], guard := none },
  { dst := some 8, op := Op.assign (Operand.tmp 21), type := 43, pos := "disk.go:31", after := #[{ on := 0, ground := Ground.data }, { on := 0, ground := Ground.phase }], guard := none }]
def rOV4 : Array Oper := #[{ dst := some 22, op := Op.move (Operand.tmp 2), type := 22, pos := "disk.go:32", after := #[], guard := none },
  { dst := some 23, op := Op.call { callee := Callee.builtin Builtin.len, args := #[Operand.tmp 22], argTypes := #[22] }, type := 3, pos := "disk.go:32", after := #[{ on := 0, ground := Ground.data }], guard := none },
  { dst := some 24, op := Op.move (Operand.tmp 1), type := 3, pos := "disk.go:32", after := #[], guard := none },
  { dst := some 25, op := Op.binOp BinOp.gtr 3 (Operand.tmp 23) (Operand.tmp 24) 3, type := 4, pos := "disk.go:32", after := #[{ on := 1, ground := Ground.data }, { on := 2, ground := Ground.data }], guard := none },
  { dst := some 26, op := Op.move (Operand.tmp 25), type := 4, pos := "disk.go:32", after := #[{ on := 3, ground := Ground.data }], guard := none },
  { dst := some 27, op := Op.move (Operand.tmp 2), type := 22, pos := "disk.go:32", after := #[{ on := 4, ground := Ground.guard }], guard := some (4, false) },
  { dst := some 28, op := Op.move (Operand.tmp 8), type := 43, pos := "disk.go:32", after := #[{ on := 4, ground := Ground.guard }], guard := some (4, false) },
  { dst := some 29, op := Op.call { callee := Callee.value (Operand.func 14), args := #[Operand.tmp 27, Operand.tmp 28], argTypes := #[22, 43] }, type := 4, pos := "disk.go:32", after := #[{ on := 5, ground := Ground.data }, { on := 6, ground := Ground.data }, { on := 4, ground := Ground.chain }, { on := 4, ground := Ground.guard }], guard := some (4, false) },
  { dst := some 30, op := Op.pick (Operand.tmp 26) (Operand.const (Value.bool true)) (Operand.tmp 29), type := 4, pos := "disk.go:32", after := #[{ on := 4, ground := Ground.data }, { on := 7, ground := Ground.data }], guard := none }]
def rOV5 : Array Oper := #[{ dst := some 6, op := Op.assign (Operand.const (Value.pointer none)), type := 27, pos := "disk.go:33", after := #[], guard := none },
  { dst := some 7, op := Op.assign (Operand.const (Value.int IntKind.i64 42)), type := 24, pos := "disk.go:33", after := #[{ on := 0, ground := Ground.chain }, { on := 0, ground := Ground.phase }], guard := none }]
def rOV6 : Array Oper := #[{ dst := some 31, op := Op.load 3 (Operand.tmp 3), type := 3, pos := "disk.go:35", after := #[], guard := none },
  { dst := some 32, op := Op.move (Operand.tmp 2), type := 22, pos := "disk.go:35", after := #[], guard := none },
  { dst := some 33, op := Op.build 46 #[(0, Operand.tmp 31), (1, Operand.tmp 32)], type := 46, pos := "disk.go:35", after := #[{ on := 0, ground := Ground.data }, { on := 1, ground := Ground.data }], guard := none },
  { dst := some 9, op := Op.alloc 46, type := 0, pos := "disk.go:35", after := #[], guard := none },
  { dst := none, op := Op.store 46 (Operand.tmp 9) (Operand.tmp 33), type := 0, pos := "disk.go:35", after := #[{ on := 3, ground := Ground.data }, { on := 2, ground := Ground.data }, { on := 0, ground := Ground.phase }, { on := 1, ground := Ground.phase }, { on := 2, ground := Ground.phase }, { on := 3, ground := Ground.phase }], guard := none }]
def rOV7 : Array Oper := #[{ dst := some 34, op := Op.call { callee := Callee.value (Operand.func 15), args := #[Operand.tmp 9], argTypes := #[46] }, type := 46, pos := "disk.go:36", after := #[], guard := none },
  { dst := some 35, op := Op.call { callee := Callee.value (Operand.func 15), args := #[Operand.tmp 9], argTypes := #[46] }, type := 46, pos := "disk.go:36", after := #[{ on := 0, ground := Ground.chain }], guard := none },
  { dst := some 36, op := Op.move (Operand.tmp 1), type := 3, pos := "disk.go:36", after := #[], guard := none },
  { dst := some 37, op := Op.build 51 #[(0, Operand.tmp 34), (1, Operand.tmp 35), (2, Operand.tmp 36)], type := 51, pos := "disk.go:36", after := #[{ on := 0, ground := Ground.data }, { on := 1, ground := Ground.data }, { on := 2, ground := Ground.data }], guard := none },
  { dst := some 38, op := Op.box 51 (Operand.tmp 37), type := 27, pos := "disk.go:36", after := #[{ on := 3, ground := Ground.data }], guard := none },
  { dst := some 6, op := Op.assign (Operand.tmp 38), type := 27, pos := "disk.go:36", after := #[{ on := 4, ground := Ground.data }, { on := 1, ground := Ground.chain }, { on := 0, ground := Ground.phase }, { on := 1, ground := Ground.phase }, { on := 2, ground := Ground.phase }, { on := 3, ground := Ground.phase }, { on := 4, ground := Ground.phase }], guard := none },
  { dst := some 7, op := Op.assign (Operand.const (Value.int IntKind.i64 0)), type := 24, pos := "disk.go:36", after := #[{ on := 5, ground := Ground.chain }, { on := 0, ground := Ground.phase }, { on := 1, ground := Ground.phase }, { on := 2, ground := Ground.phase }, { on := 3, ground := Ground.phase }, { on := 4, ground := Ground.phase }, { on := 5, ground := Ground.phase }], guard := none }]
def cOV : Code := (Code.seq (Code.region 0 rOV0 false) (Code.seq (Code.seq (Code.region 1 rOV1 false) (Code.cond (Operand.tmp 20) (Code.seq (Code.region 2 rOV2 false) Code.ret) Code.skip)) (Code.seq (Code.region 3 rOV3 false) (Code.seq (Code.seq (Code.region 4 rOV4 false) (Code.cond (Operand.tmp 30) (Code.seq (Code.region 5 rOV5 false) Code.ret) Code.skip)) (Code.seq (Code.region 6 rOV6 false) (Code.seq (Code.region 7 rOV7 false) Code.ret))))))
def dkNew (pg mo : Nat) : Dk := ⟨pg, mo, false, [], [], [], 0, 0, 0, 0, 0⟩
set_option maxRecDepth 100000 in
set_option maxHeartbeats 1000000 in
theorem from_calls {pg mo : Nat} (w : World) (hpg : (pg : Int) = 1024 ∨ (pg : Int) = 2048 ∨ (pg : Int) = 4096 ∨ (pg : Int) = 8192) (h1 : 1 ≤ mo) (h2 : mo ≤ 65536) :
    Calls Try.prog 5 #[.int .i64 (pg : Int), .int .i64 (mo : Int), .slice none 0 0] w fun e w' => ∃ b, e = .returned (.tuple #[.pointer (some ⟨b, 0, none⟩), .int .i64 0]) ∧ DkAt w' b (dkNew pg mo) (fun k => w.heap.size ≤ k ∧ k < w'.heap.size) ∧ Same w w' := by
  have m1 : ¬ (mo : Int) < 1 := by omega
  have m2 : ¬ (65536 : Int) < (mo : Int) := by omega
  have m3 : ¬ (mo : Int) < 0 := by omega
  refine calls_abs (c := cOV) Try.func5 (by kernel_rfl) 39 rfl (by simp) (fun a0 hsz hd ha => ?_)
  have fa0_0 := Fe.refl a0
  unfold cOV
  refine wp_seq ?_
  refine wp_region_list ?_
  unfold rOV0
  have r_a0_1 : (execOp a0.eval { dst := some 3, op := Op.box 3 (Operand.tmp 0), type := 0, pos := "disk.go:27", after := #[], guard := none }).run Try.prog (w) = .ok (.value (.pointer (some ⟨w.heap.size, 0, none⟩))) (w.alloc (.cells #[.int .i64 (pg : Int)] 3)) := by
    have e0 := (show a0.eval (.tmp 0) = .int .i64 (pg : Int) from ((fa0_0.at_ 0).trans (ha 0 _ rfl)))
    clear fa0_0 ha hpg
    generalize a0.eval = ρ at *
    go_simp
  refine fa0_0.stepW 3 (.pointer (some ⟨w.heap.size, 0, none⟩)) rfl (lb_ hsz) (wanted_none rfl) r_a0_1 (fun a0_1 fa0_1 => ?_)
  clear r_a0_1
  obtain ⟨V, hV⟩ : ∃ V, V = w.alloc (.cells #[.int .i64 (pg : Int)] 3) := ⟨_, rfl⟩
  rw [← hV]
  have sV : Same w V := by rw [hV]; exact (Fr.refl _ w).alloc _
  have hVr : V.heap[w.heap.size]? = some (.cells #[.int .i64 (pg : Int)] 3 (0, 0)) := by rw [hV]; exact heap_alloc_new w _
  clear hV
  have k0 : V.cell? ⟨w.heap.size, 0, none⟩ = some (.int .i64 (pg : Int)) := (cell_of_row _ _ _ _ _ _ hVr).trans rfl
  clear fa0_0
  refine fa0_1.move 6 (.pointer none) _ (Or.inr rfl) rfl (lb_ hsz) (wanted_none rfl) rfl (fun a0_2 fa0_2 => ?_)
  clear fa0_1
  refine fa0_2.move 7 (.int .i64 0) _ (Or.inr rfl) rfl (lb_ hsz) (wanted_none rfl) rfl (fun a0_3 fa0_3 => ?_)
  clear fa0_2
  refine wpList_nil ?_
  change Code.wp _ _ _ _ _
  refine wp_seq (wp_seq ?_)
  refine wp_region_list ?_
  unfold rOV1
  have r_a0_4 : (execOp a0_3.eval { dst := some 10, op := Op.load 3 (Operand.tmp 3), type := 3, pos := "disk.go:28", after := #[], guard := none }).run Try.prog (V) = .ok (.value (.int .i64 (pg : Int))) (V) := by
    have e3 := (show a0_3.eval (.tmp 3) = .pointer (some ⟨w.heap.size, 0, none⟩) from (fa0_3.at_ 3))
    clear fa0_3 ha hpg
    generalize a0_3.eval = ρ at *
    go_simp
  refine fa0_3.step 10 (.int .i64 (pg : Int)) rfl (lb_ hsz) (wanted_none rfl) r_a0_4 (fun a0_4 fa0_4 => ?_)
  clear r_a0_4
  clear fa0_3
  have r_a0_5 : (execOp a0_4.eval { dst := some 11, op := Op.call { callee := Callee.value (Operand.func 12), args := #[Operand.tmp 10], argTypes := #[3] }, type := 4, pos := "disk.go:28", after := #[{ on := 0, ground := Ground.data }], guard := none }).run Try.prog (V) = .ok (.enter 12 #[.int .i64 (pg : Int)]) (V) := by
    have kf : ∀ f, a0_4.eval (.func f) = .func (.func f) #[] #[] := fun _ => rfl
    have e10 := (show a0_4.eval (.tmp 10) = .int .i64 (pg : Int) from (fa0_4.at_ 10))
    clear fa0_4 ha hpg
    generalize a0_4.eval = ρ at *
    go_simp
  refine fa0_4.call 11 rfl (lb_ hsz) (wanted_none rfl) r_a0_5 (pageSize_calls V hpg) (fun e w1 hR => ?_)
  obtain ⟨rfl, hw1⟩ := hR
  clear r_a0_5
  have hw1 := hw1.symm
  subst hw1
  refine ⟨_, rfl, fun a0_5 fa0_5 => ?_⟩
  clear fa0_4
  have r_a0_6 : (execOp a0_5.eval { dst := some 12, op := Op.unOp UnOp.not 4 (Operand.tmp 11), type := 4, pos := "disk.go:28", after := #[{ on := 1, ground := Ground.data }], guard := none }).run Try.prog (V) = .ok (.value (.bool false)) (V) := by
    have e11 := (show a0_5.eval (.tmp 11) = .bool true from (fa0_5.at_ 11))
    clear fa0_5 ha hpg
    generalize a0_5.eval = ρ at *
    go_simp
  refine fa0_5.step 12 (.bool false) rfl (lb_ hsz) (wanted_none rfl) r_a0_6 (fun a0_6 fa0_6 => ?_)
  clear r_a0_6
  clear fa0_5
  refine fa0_6.move 13 (.bool false) _ (Or.inl rfl) rfl (lb_ hsz) (wanted_none rfl) (fa0_6.at_ 12) (fun a0_7 fa0_7 => ?_)
  clear fa0_6
  refine fa0_7.move 14 (.int .i64 (mo : Int)) _ (Or.inl rfl) rfl (lb_ hsz) ((wanted_at (t := 13) (c := false) (b := false) rfl rfl rfl (lb_ (fa0_7.size.trans hsz)) (fa0_7.at_ 13)).trans (by rfl)) ((fa0_7.at_ 1).trans (ha 1 _ rfl)) (fun a0_8 fa0_8 => ?_)
  clear fa0_7
  have r_a0_9 : (execOp a0_8.eval { dst := some 15, op := Op.binOp BinOp.lss 3 (Operand.tmp 14) (Operand.const (Value.int IntKind.i64 1)) 3, type := 4, pos := "disk.go:28", after := #[{ on := 4, ground := Ground.data }, { on := 3, ground := Ground.guard }], guard := some (3, false) }).run Try.prog (V) = .ok (.value (.bool false)) (V) := by
    have kc : ∀ v, a0_8.eval (.const v) = v := fun _ => rfl
    have e14 := (show a0_8.eval (.tmp 14) = .int .i64 (mo : Int) from (fa0_8.at_ 14))
    clear fa0_8 ha hpg
    generalize a0_8.eval = ρ at *
    go_simp
  refine fa0_8.step 15 (.bool false) rfl (lb_ hsz) ((wanted_at (t := 13) (c := false) (b := false) rfl rfl rfl (lb_ (fa0_8.size.trans hsz)) (fa0_8.at_ 13)).trans (by rfl)) r_a0_9 (fun a0_9 fa0_9 => ?_)
  clear r_a0_9
  clear fa0_8
  have r_a0_10 : (execOp a0_9.eval { dst := some 16, op := Op.pick (Operand.tmp 13) (Operand.const (Value.bool true)) (Operand.tmp 15), type := 4, pos := "disk.go:28", after := #[{ on := 3, ground := Ground.data }, { on := 5, ground := Ground.data }], guard := none }).run Try.prog (V) = .ok (.value (.bool false)) (V) := by
    have kc : ∀ v, a0_9.eval (.const v) = v := fun _ => rfl
    have e13 := (show a0_9.eval (.tmp 13) = .bool false from (fa0_9.at_ 13))
    have e15 := (show a0_9.eval (.tmp 15) = .bool false from (fa0_9.at_ 15))
    clear fa0_9 ha hpg
    generalize a0_9.eval = ρ at *
    go_simp
  refine fa0_9.step 16 (.bool false) rfl (lb_ hsz) (wanted_none rfl) r_a0_10 (fun a0_10 fa0_10 => ?_)
  clear r_a0_10
  clear fa0_9
  refine fa0_10.move 17 (.bool false) _ (Or.inl rfl) rfl (lb_ hsz) (wanted_none rfl) (fa0_10.at_ 16) (fun a0_11 fa0_11 => ?_)
  clear fa0_10
  refine fa0_11.move 18 (.int .i64 (mo : Int)) _ (Or.inl rfl) rfl (lb_ hsz) ((wanted_at (t := 17) (c := false) (b := false) rfl rfl rfl (lb_ (fa0_11.size.trans hsz)) (fa0_11.at_ 17)).trans (by rfl)) ((fa0_11.at_ 1).trans (ha 1 _ rfl)) (fun a0_12 fa0_12 => ?_)
  clear fa0_11
  have r_a0_13 : (execOp a0_12.eval { dst := some 19, op := Op.binOp BinOp.gtr 3 (Operand.tmp 18) (Operand.const (Value.int IntKind.i64 65536)) 3, type := 4, pos := "disk.go:28", after := #[{ on := 8, ground := Ground.data }, { on := 7, ground := Ground.guard }], guard := some (7, false) }).run Try.prog (V) = .ok (.value (.bool false)) (V) := by
    have kc : ∀ v, a0_12.eval (.const v) = v := fun _ => rfl
    have e18 := (show a0_12.eval (.tmp 18) = .int .i64 (mo : Int) from (fa0_12.at_ 18))
    clear fa0_12 ha hpg
    generalize a0_12.eval = ρ at *
    go_simp
  refine fa0_12.step 19 (.bool false) rfl (lb_ hsz) ((wanted_at (t := 17) (c := false) (b := false) rfl rfl rfl (lb_ (fa0_12.size.trans hsz)) (fa0_12.at_ 17)).trans (by rfl)) r_a0_13 (fun a0_13 fa0_13 => ?_)
  clear r_a0_13
  clear fa0_12
  have r_a0_14 : (execOp a0_13.eval { dst := some 20, op := Op.pick (Operand.tmp 17) (Operand.const (Value.bool true)) (Operand.tmp 19), type := 4, pos := "disk.go:28", after := #[{ on := 7, ground := Ground.data }, { on := 9, ground := Ground.data }], guard := none }).run Try.prog (V) = .ok (.value (.bool false)) (V) := by
    have kc : ∀ v, a0_13.eval (.const v) = v := fun _ => rfl
    have e17 := (show a0_13.eval (.tmp 17) = .bool false from (fa0_13.at_ 17))
    have e19 := (show a0_13.eval (.tmp 19) = .bool false from (fa0_13.at_ 19))
    clear fa0_13 ha hpg
    generalize a0_13.eval = ρ at *
    go_simp
  refine fa0_13.step 20 (.bool false) rfl (lb_ hsz) (wanted_none rfl) r_a0_14 (fun a0_14 fa0_14 => ?_)
  clear r_a0_14
  clear fa0_13
  refine wpList_nil ?_
  change Code.wp _ _ _ _ _
  refine wp_cond_false (show a0_14.eval (.tmp 20) = .bool false from (fa0_14.at_ 20)) (wp_skip ?_)
  change Code.wp _ _ _ _ _
  refine wp_seq ?_
  refine wp_region_list ?_
  unfold rOV3
  have r_a0_15 : (execOp a0_14.eval { dst := some 21, op := Op.makeFunc (Go.Fn.func 13) #[] #[Operand.tmp 3], type := 43, pos := "disk.go:31", after := #[], guard := none }).run Try.prog (V) = .ok (.value (.func (.func 13) #[] #[.pointer (some ⟨w.heap.size, 0, none⟩)])) (V) := by
    have e3 := (show a0_14.eval (.tmp 3) = .pointer (some ⟨w.heap.size, 0, none⟩) from (fa0_14.at_ 3))
    clear fa0_14 ha hpg
    generalize a0_14.eval = ρ at *
    go_simp
  refine fa0_14.step 21 (.func (.func 13) #[] #[.pointer (some ⟨w.heap.size, 0, none⟩)]) rfl (lb_ hsz) (wanted_none rfl) r_a0_15 (fun a0_15 fa0_15 => ?_)
  clear r_a0_15
  clear fa0_14
  refine fa0_15.move 8 (.func (.func 13) #[] #[.pointer (some ⟨w.heap.size, 0, none⟩)]) _ (Or.inr rfl) rfl (lb_ hsz) (wanted_none rfl) (fa0_15.at_ 21) (fun a0_16 fa0_16 => ?_)
  clear fa0_15
  refine wpList_nil ?_
  change Code.wp _ _ _ _ _
  refine wp_seq (wp_seq ?_)
  refine wp_region_list ?_
  unfold rOV4
  refine fa0_16.move 22 (.slice none 0 0) _ (Or.inl rfl) rfl (lb_ hsz) (wanted_none rfl) ((fa0_16.at_ 2).trans (ha 2 _ rfl)) (fun a0_17 fa0_17 => ?_)
  clear fa0_16
  have r_a0_18 : (execOp a0_17.eval { dst := some 23, op := Op.call { callee := Callee.builtin Builtin.len, args := #[Operand.tmp 22], argTypes := #[22] }, type := 3, pos := "disk.go:32", after := #[{ on := 0, ground := Ground.data }], guard := none }).run Try.prog (V) = .ok (.value (.int .i64 0)) (V) := by
    have e22 := (show a0_17.eval (.tmp 22) = .slice none 0 0 from (fa0_17.at_ 22))
    clear fa0_17 ha hpg
    generalize a0_17.eval = ρ at *
    go_simp
  refine fa0_17.step 23 (.int .i64 0) rfl (lb_ hsz) (wanted_none rfl) r_a0_18 (fun a0_18 fa0_18 => ?_)
  clear r_a0_18
  clear fa0_17
  refine fa0_18.move 24 (.int .i64 (mo : Int)) _ (Or.inl rfl) rfl (lb_ hsz) (wanted_none rfl) ((fa0_18.at_ 1).trans (ha 1 _ rfl)) (fun a0_19 fa0_19 => ?_)
  clear fa0_18
  have r_a0_20 : (execOp a0_19.eval { dst := some 25, op := Op.binOp BinOp.gtr 3 (Operand.tmp 23) (Operand.tmp 24) 3, type := 4, pos := "disk.go:32", after := #[{ on := 1, ground := Ground.data }, { on := 2, ground := Ground.data }], guard := none }).run Try.prog (V) = .ok (.value (.bool false)) (V) := by
    have e23 := (show a0_19.eval (.tmp 23) = .int .i64 0 from (fa0_19.at_ 23))
    have e24 := (show a0_19.eval (.tmp 24) = .int .i64 (mo : Int) from (fa0_19.at_ 24))
    clear fa0_19 ha hpg
    generalize a0_19.eval = ρ at *
    go_simp
  refine fa0_19.step 25 (.bool false) rfl (lb_ hsz) (wanted_none rfl) r_a0_20 (fun a0_20 fa0_20 => ?_)
  clear r_a0_20
  clear fa0_19
  refine fa0_20.move 26 (.bool false) _ (Or.inl rfl) rfl (lb_ hsz) (wanted_none rfl) (fa0_20.at_ 25) (fun a0_21 fa0_21 => ?_)
  clear fa0_20
  refine fa0_21.move 27 (.slice none 0 0) _ (Or.inl rfl) rfl (lb_ hsz) ((wanted_at (t := 26) (c := false) (b := false) rfl rfl rfl (lb_ (fa0_21.size.trans hsz)) (fa0_21.at_ 26)).trans (by rfl)) ((fa0_21.at_ 2).trans (ha 2 _ rfl)) (fun a0_22 fa0_22 => ?_)
  clear fa0_21
  refine fa0_22.move 28 (.func (.func 13) #[] #[.pointer (some ⟨w.heap.size, 0, none⟩)]) _ (Or.inl rfl) rfl (lb_ hsz) ((wanted_at (t := 26) (c := false) (b := false) rfl rfl rfl (lb_ (fa0_22.size.trans hsz)) (fa0_22.at_ 26)).trans (by rfl)) (fa0_22.at_ 8) (fun a0_23 fa0_23 => ?_)
  clear fa0_22
  have r_a0_24 : (execOp a0_23.eval { dst := some 29, op := Op.call { callee := Callee.value (Operand.func 14), args := #[Operand.tmp 27, Operand.tmp 28], argTypes := #[22, 43] }, type := 4, pos := "disk.go:32", after := #[{ on := 5, ground := Ground.data }, { on := 6, ground := Ground.data }, { on := 4, ground := Ground.chain }, { on := 4, ground := Ground.guard }], guard := some (4, false) }).run Try.prog (V) = .ok (.enter 14 #[.slice none 0 0, .func (.func 13) #[] #[.pointer (some ⟨w.heap.size, 0, none⟩)]]) (V) := by
    have kf : ∀ f, a0_23.eval (.func f) = .func (.func f) #[] #[] := fun _ => rfl
    have e27 := (show a0_23.eval (.tmp 27) = .slice none 0 0 from (fa0_23.at_ 27))
    have e28 := (show a0_23.eval (.tmp 28) = .func (.func 13) #[] #[.pointer (some ⟨w.heap.size, 0, none⟩)] from (fa0_23.at_ 28))
    clear fa0_23 ha hpg
    generalize a0_23.eval = ρ at *
    go_simp
  refine fa0_23.call 29 rfl (lb_ hsz) ((wanted_at (t := 26) (c := false) (b := false) rfl rfl rfl (lb_ (fa0_23.size.trans hsz)) (fa0_23.at_ 26)).trans (by rfl)) r_a0_24 (containsStrs_none V) (fun e w2 hR => ?_)
  obtain ⟨rfl, hw2⟩ := hR
  clear r_a0_24
  have hw2 := hw2.symm
  subst hw2
  refine ⟨_, rfl, fun a0_24 fa0_24 => ?_⟩
  clear fa0_23
  have r_a0_25 : (execOp a0_24.eval { dst := some 30, op := Op.pick (Operand.tmp 26) (Operand.const (Value.bool true)) (Operand.tmp 29), type := 4, pos := "disk.go:32", after := #[{ on := 4, ground := Ground.data }, { on := 7, ground := Ground.data }], guard := none }).run Try.prog (V) = .ok (.value (.bool false)) (V) := by
    have kc : ∀ v, a0_24.eval (.const v) = v := fun _ => rfl
    have e26 := (show a0_24.eval (.tmp 26) = .bool false from (fa0_24.at_ 26))
    have e29 := (show a0_24.eval (.tmp 29) = .bool false from (fa0_24.at_ 29))
    clear fa0_24 ha hpg
    generalize a0_24.eval = ρ at *
    go_simp
  refine fa0_24.step 30 (.bool false) rfl (lb_ hsz) (wanted_none rfl) r_a0_25 (fun a0_25 fa0_25 => ?_)
  clear r_a0_25
  clear fa0_24
  refine wpList_nil ?_
  change Code.wp _ _ _ _ _
  refine wp_cond_false (show a0_25.eval (.tmp 30) = .bool false from (fa0_25.at_ 30)) (wp_skip ?_)
  change Code.wp _ _ _ _ _
  refine wp_seq ?_
  refine wp_region_list ?_
  unfold rOV6
  have r_a0_26 : (execOp a0_25.eval { dst := some 31, op := Op.load 3 (Operand.tmp 3), type := 3, pos := "disk.go:35", after := #[], guard := none }).run Try.prog (V) = .ok (.value (.int .i64 (pg : Int))) (V) := by
    have e3 := (show a0_25.eval (.tmp 3) = .pointer (some ⟨w.heap.size, 0, none⟩) from (fa0_25.at_ 3))
    clear fa0_25 ha hpg
    generalize a0_25.eval = ρ at *
    go_simp
  refine fa0_25.step 31 (.int .i64 (pg : Int)) rfl (lb_ hsz) (wanted_none rfl) r_a0_26 (fun a0_26 fa0_26 => ?_)
  clear r_a0_26
  clear fa0_25
  refine fa0_26.move 32 (.slice none 0 0) _ (Or.inl rfl) rfl (lb_ hsz) (wanted_none rfl) ((fa0_26.at_ 2).trans (ha 2 _ rfl)) (fun a0_27 fa0_27 => ?_)
  clear fa0_26
  have r_a0_28 : (execOp a0_27.eval { dst := some 33, op := Op.build 46 #[(0, Operand.tmp 31), (1, Operand.tmp 32)], type := 46, pos := "disk.go:35", after := #[{ on := 0, ground := Ground.data }, { on := 1, ground := Ground.data }], guard := none }).run Try.prog (V) = .ok (.value (.agg #[.int .i64 (pg : Int), .slice none 0 0])) (V) := by
    have e31 := (show a0_27.eval (.tmp 31) = .int .i64 (pg : Int) from (fa0_27.at_ 31))
    have e32 := (show a0_27.eval (.tmp 32) = .slice none 0 0 from (fa0_27.at_ 32))
    clear fa0_27 ha hpg
    generalize a0_27.eval = ρ at *
    go_simp
  refine fa0_27.step 33 (.agg #[.int .i64 (pg : Int), .slice none 0 0]) rfl (lb_ hsz) (wanted_none rfl) r_a0_28 (fun a0_28 fa0_28 => ?_)
  clear r_a0_28
  clear fa0_27
  have r_a0_29 : (execOp a0_28.eval { dst := some 9, op := Op.alloc 46, type := 0, pos := "disk.go:35", after := #[], guard := none }).run Try.prog (V) = .ok (.value (.pointer (some ⟨V.heap.size, 0, none⟩))) (V.alloc (.cells #[.int .i64 0, .slice none 0 0] 46)) := by
    clear fa0_28 ha hpg
    generalize a0_28.eval = ρ at *
    go_simp
  refine fa0_28.stepW 9 (.pointer (some ⟨V.heap.size, 0, none⟩)) rfl (lb_ hsz) (wanted_none rfl) r_a0_29 (fun a0_29 fa0_29 => ?_)
  clear r_a0_29
  have s1 : Same V (V.alloc (.cells #[.int .i64 0, .slice none 0 0] 46)) := (Fr.refl _ V).alloc _
  have r1 : (V.alloc (.cells #[.int .i64 0, .slice none 0 0] 46)).heap[V.heap.size]? = some (.cells #[.int .i64 0, .slice none 0 0] 46 (0, 0)) := heap_alloc_new V _
  generalize V.alloc (.cells #[.int .i64 0, .slice none 0 0] 46) = V1 at *
  clear fa0_28
  have r_a0_30 : (execOp a0_29.eval { dst := none, op := Op.store 46 (Operand.tmp 9) (Operand.tmp 33), type := 0, pos := "disk.go:35", after := #[{ on := 3, ground := Ground.data }, { on := 2, ground := Ground.data }, { on := 0, ground := Ground.phase }, { on := 1, ground := Ground.phase }, { on := 2, ground := Ground.phase }, { on := 3, ground := Ground.phase }], guard := none }).run Try.prog (V1) = .ok .skip (World.setCells V1 V.heap.size 0 [.int .i64 (pg : Int), .slice none 0 0]) := by
    exact exec_store_mid 46 _ _ rfl V.heap.size 0 #[.int .i64 (pg : Int), .slice none 0 0] (show a0_29.eval (.tmp 9) = .pointer (some ⟨V.heap.size, 0, none⟩) from (fa0_29.at_ 9)) (show a0_29.eval (.tmp 33) = .agg #[.int .i64 (pg : Int), .slice none 0 0] from (fa0_29.at_ 33)) (there_row r1 rfl) (by kernel_rfl) (by kernel_rfl)
  refine fa0_29.store rfl (wanted_none rfl) r_a0_30 (fun a0_30 fa0_30 => ?_)
  clear r_a0_30
  have r2 : (World.setCells V1 V.heap.size 0 [.int .i64 (pg : Int), .slice none 0 0]).heap[V.heap.size]? = some (.cells #[.int .i64 (pg : Int), .slice none 0 0] 46 (0, 0)) := setCells_whole [.int .i64 (pg : Int), .slice none 0 0] _ r1 rfl (there_row r1 rfl)
  have s2 : Same V (World.setCells V1 V.heap.size 0 [.int .i64 (pg : Int), .slice none 0 0]) := Fr.trans s1 (Fr.setCells (S := fun k => k = V.heap.size) (fun _ => rfl) _ 0 V1 (Fr.refl _ V1)) (fun k hk e => by have e2 : k = V.heap.size := e; omega)
  generalize World.setCells V1 V.heap.size 0 [.int .i64 (pg : Int), .slice none 0 0] = V2 at *
  have q0 : V2.cell? ⟨V.heap.size, 0, none⟩ = some (.int .i64 (pg : Int)) := (cell_of_row _ _ _ _ _ _ r2).trans rfl
  have q1 : V2.cell? ⟨V.heap.size, 0 + 1, none⟩ = some (.slice none 0 0) := (cell_of_row _ _ _ _ _ _ r2).trans rfl
  have hT0 : TRow V2 none 0 0 [] := ⟨fun e => absurd rfl e, fun j x hx => by cases hx⟩
  clear fa0_29
  refine wpList_nil ?_
  change Code.wp _ _ _ _ _
  refine wp_seq ?_
  refine wp_region_list ?_
  unfold rOV7
  have r_a0_31 : (execOp a0_30.eval { dst := some 34, op := Op.call { callee := Callee.value (Operand.func 15), args := #[Operand.tmp 9], argTypes := #[46] }, type := 46, pos := "disk.go:36", after := #[], guard := none }).run Try.prog (V2) = .ok (.enter 15 #[.pointer (some ⟨V.heap.size, 0, none⟩)]) (V2) := by
    have kf : ∀ f, a0_30.eval (.func f) = .func (.func f) #[] #[] := fun _ => rfl
    have e9 := (show a0_30.eval (.tmp 9) = .pointer (some ⟨V.heap.size, 0, none⟩) from (fa0_30.at_ 9))
    clear fa0_30 ha hpg
    generalize a0_30.eval = ρ at *
    go_simp
  refine fa0_30.call 34 rfl (lb_ hsz) (wanted_none rfl) r_a0_31 (sclone_calls (o := 0) (pb := 0) (l := []) V2 q0 q1 hT0 (by decide)) (fun e X1 hR => ?_)
  obtain ⟨a1, c1, rfl, o1, t1⟩ := hR
  clear r_a0_31
  have o1 : X1.ownsRow V2.heap.size 9 1 (.slice a1 0 c1) 0 (scells []) := o1
  refine ⟨_, rfl, fun a0_31 fa0_31 => ?_⟩
  clear fa0_30
  have r_a0_32 : (execOp a0_31.eval { dst := some 35, op := Op.call { callee := Callee.value (Operand.func 15), args := #[Operand.tmp 9], argTypes := #[46] }, type := 46, pos := "disk.go:36", after := #[{ on := 0, ground := Ground.chain }], guard := none }).run Try.prog (X1) = .ok (.enter 15 #[.pointer (some ⟨V.heap.size, 0, none⟩)]) (X1) := by
    have kf : ∀ f, a0_31.eval (.func f) = .func (.func f) #[] #[] := fun _ => rfl
    have e9 := (show a0_31.eval (.tmp 9) = .pointer (some ⟨V.heap.size, 0, none⟩) from (fa0_31.at_ 9))
    clear fa0_31 ha hpg
    generalize a0_31.eval = ρ at *
    go_simp
  refine fa0_31.call 35 rfl (lb_ hsz) (wanted_none rfl) r_a0_32 (sclone_calls (o := 0) (pb := 0) (l := []) X1 (t1.keep q0) (t1.keep q1) (hT0.same t1) (by decide)) (fun e X2 hR => ?_)
  obtain ⟨a2, c2, rfl, o2, t2⟩ := hR
  clear r_a0_32
  have o2 : X2.ownsRow X1.heap.size 9 1 (.slice a2 0 c2) 0 (scells []) := o2
  refine ⟨_, rfl, fun a0_32 fa0_32 => ?_⟩
  clear fa0_31
  refine fa0_32.move 36 (.int .i64 (mo : Int)) _ (Or.inl rfl) rfl (lb_ hsz) (wanted_none rfl) ((fa0_32.at_ 1).trans (ha 1 _ rfl)) (fun a0_33 fa0_33 => ?_)
  clear fa0_32
  have r_a0_34 : (execOp a0_33.eval { dst := some 37, op := Op.build 51 #[(0, Operand.tmp 34), (1, Operand.tmp 35), (2, Operand.tmp 36)], type := 51, pos := "disk.go:36", after := #[{ on := 0, ground := Ground.data }, { on := 1, ground := Ground.data }, { on := 2, ground := Ground.data }], guard := none }).run Try.prog (X2) = .ok (.value (.agg #[.int .i64 (pg : Int), .slice a1 0 c1, .int .i64 (pg : Int), .slice a2 0 c2, .int .i64 (mo : Int), .bool false, .slice none 0 0, .slice none 0 0, .int .i64 0, .int .i64 0, .int .i64 0, .int .i64 0, .int .i64 0])) (X2) := by
    have e34 := (show a0_33.eval (.tmp 34) = .agg #[.int .i64 (pg : Int), .slice a1 0 c1] from (fa0_33.at_ 34))
    have e35 := (show a0_33.eval (.tmp 35) = .agg #[.int .i64 (pg : Int), .slice a2 0 c2] from (fa0_33.at_ 35))
    have e36 := (show a0_33.eval (.tmp 36) = .int .i64 (mo : Int) from (fa0_33.at_ 36))
    clear fa0_33 ha hpg
    generalize a0_33.eval = ρ at *
    go_simp
  refine fa0_33.step 37 (.agg #[.int .i64 (pg : Int), .slice a1 0 c1, .int .i64 (pg : Int), .slice a2 0 c2, .int .i64 (mo : Int), .bool false, .slice none 0 0, .slice none 0 0, .int .i64 0, .int .i64 0, .int .i64 0, .int .i64 0, .int .i64 0]) rfl (lb_ hsz) (wanted_none rfl) r_a0_34 (fun a0_34 fa0_34 => ?_)
  clear r_a0_34
  clear fa0_33
  have r_a0_35 : (execOp a0_34.eval { dst := some 38, op := Op.box 51 (Operand.tmp 37), type := 27, pos := "disk.go:36", after := #[{ on := 3, ground := Ground.data }], guard := none }).run Try.prog (X2) = .ok (.value (.pointer (some ⟨X2.heap.size, 0, none⟩))) (World.alloc X2 (.cells #[.int .i64 (pg : Int), .slice a1 0 c1, .int .i64 (pg : Int), .slice a2 0 c2, .int .i64 (mo : Int), .bool false, .slice none 0 0, .slice none 0 0, .int .i64 0, .int .i64 0, .int .i64 0, .int .i64 0, .int .i64 0] 51)) := by
    have e37 := (show a0_34.eval (.tmp 37) = .agg #[.int .i64 (pg : Int), .slice a1 0 c1, .int .i64 (pg : Int), .slice a2 0 c2, .int .i64 (mo : Int), .bool false, .slice none 0 0, .slice none 0 0, .int .i64 0, .int .i64 0, .int .i64 0, .int .i64 0, .int .i64 0] from (fa0_34.at_ 37))
    clear fa0_34 ha hpg
    generalize a0_34.eval = ρ at *
    go_simp
  refine fa0_34.stepW 38 (.pointer (some ⟨X2.heap.size, 0, none⟩)) rfl (lb_ hsz) (wanted_none rfl) r_a0_35 (fun a0_35 fa0_35 => ?_)
  clear r_a0_35
  have t3 : Same X2 (World.alloc X2 (.cells #[.int .i64 (pg : Int), .slice a1 0 c1, .int .i64 (pg : Int), .slice a2 0 c2, .int .i64 (mo : Int), .bool false, .slice none 0 0, .slice none 0 0, .int .i64 0, .int .i64 0, .int .i64 0, .int .i64 0, .int .i64 0] 51)) := (Fr.refl _ X2).alloc _
  have r3 : (World.alloc X2 (.cells #[.int .i64 (pg : Int), .slice a1 0 c1, .int .i64 (pg : Int), .slice a2 0 c2, .int .i64 (mo : Int), .bool false, .slice none 0 0, .slice none 0 0, .int .i64 0, .int .i64 0, .int .i64 0, .int .i64 0, .int .i64 0] 51)).heap[X2.heap.size]? = some (.cells #[.int .i64 (pg : Int), .slice a1 0 c1, .int .i64 (pg : Int), .slice a2 0 c2, .int .i64 (mo : Int), .bool false, .slice none 0 0, .slice none 0 0, .int .i64 0, .int .i64 0, .int .i64 0, .int .i64 0, .int .i64 0] 51 (0, 0)) := heap_alloc_new X2 _
  generalize World.alloc X2 (.cells #[.int .i64 (pg : Int), .slice a1 0 c1, .int .i64 (pg : Int), .slice a2 0 c2, .int .i64 (mo : Int), .bool false, .slice none 0 0, .slice none 0 0, .int .i64 0, .int .i64 0, .int .i64 0, .int .i64 0, .int .i64 0] 51) = X3 at *
  clear fa0_34
  refine fa0_35.move 6 (.pointer (some ⟨X2.heap.size, 0, none⟩)) _ (Or.inr rfl) rfl (lb_ hsz) (wanted_none rfl) (fa0_35.at_ 38) (fun a0_36 fa0_36 => ?_)
  clear fa0_35
  refine fa0_36.move 7 (.int .i64 0) _ (Or.inr rfl) rfl (lb_ hsz) (wanted_none rfl) rfl (fun a0_37 fa0_37 => ?_)
  clear fa0_36
  refine wpList_nil ?_
  change Code.wp _ _ _ _ _
  refine wp_ret ?_
  have e1 : w.heap.size ≤ V.heap.size := sV.size
  have e2 := s2.size
  have e3 := t1.size
  have e4 := t2.size
  have e5 := lt_of_heap r3
  have z1 : ∀ k, (Value.slice a1 0 c1).ownBlock = some k → V2.heap.size ≤ k ∧ k < X1.heap.size := fun k hk => by cases a1 with | none => cases hk | some z => exact (by have := own_ge o1; simp [Value.ownBlock] at hk; omega)
  have z2 : ∀ k, (Value.slice a2 0 c2).ownBlock = some k → X1.heap.size ≤ k ∧ k < X2.heap.size := fun k hk => by cases a2 with | none => cases hk | some z => exact (by have := own_ge o2; simp [Value.ownBlock] at hk; omega)
  refine bodyPost_ret (results_tmp2 rfl _ _ _) (fa0_37.defers.trans hd) ?_
  refine ⟨X2.heap.size, congrArg Ending.returned ?_, ⟨⟨a1, a2, none, none, c1, c2, 0, 0, r3, ?_, ?_, own_nil, ?_, ?_, ?_, ?_⟩, ⟨by omega, e5⟩, fun k hk => hk.2⟩, ((sV.trans s2).trans (t1.trans t2)).trans t3⟩
  · show Value.tuple #[a0_37.eval (.tmp 6), a0_37.eval (.tmp 7)] = _
    rw [(show a0_37.eval (.tmp 6) = .pointer (some ⟨X2.heap.size, 0, none⟩) from (fa0_37.at_ 6)), (show a0_37.eval (.tmp 7) = .int .i64 0 from (fa0_37.at_ 7))]
  · exact own_base (own_frameB o1 (t2.trans t3) (fun _ _ f => f)) (Nat.zero_le _)
  · exact own_base (own_frameB o2 t3 (fun _ _ f => f)) (Nat.zero_le _)
  · intro k hk; have := z1 k hk; exact ⟨by omega, by omega⟩
  · intro k hk; have := z2 k hk; exact ⟨by omega, by omega⟩
  · intro k hk; cases hk
  · intro k hk hk2; have := z1 k hk; have := z2 k hk2; omega
set_option maxRecDepth 100000 in
theorem new_calls {pg mo : Nat} (w : World) (hpg : (pg : Int) = 1024 ∨ (pg : Int) = 2048 ∨ (pg : Int) = 4096 ∨ (pg : Int) = 8192) (h1 : 1 ≤ mo) (h2 : mo ≤ 65536) :
    Calls Try.prog 6 #[.int .i64 (pg : Int), .int .i64 (mo : Int)] w fun e w' => ∃ b, e = .returned (.tuple #[.pointer (some ⟨b, 0, none⟩), .int .i64 0]) ∧ DkAt w' b (dkNew pg mo) (fun k => w.heap.size ≤ k ∧ k < w'.heap.size) ∧ Same w w' := by
  have hF := from_calls w hpg h1 h2
  clear hpg h1 h2
  go_enter Try.func6, Try.ntmps6
  go_wp2_with fail
  refine hF.mono ?_
  rintro e W ⟨b, rfl, d, s⟩
  have H : Hid (DkAt W b (dkNew pg mo) (fun k => w.heap.size ≤ k ∧ k < W.heap.size) ∧ Same w W) := ⟨d, s⟩
  clear d s hF
  go_wp2_with fail
  go_ret2
  exact ⟨b, rfl, H.out⟩
end Go.Proofs.Ytljlkcmjbjnihaa
