/- free: a book's Page, batchOn. -/
import Derived.Test.YtajbifblbmlffaaQB
namespace Go.Proofs.Ytajbifblbmlffaa
open Go.RowKit Go.Maps

set_option maxRecDepth 100000 in
theorem bk_method (W : World) (v : Value) (n : Nat) (hn : n = Try.prog.types.size + Made.depth) : (method n 33 v "Page").run Try.prog W = .ok (101, v) W := by
  subst hn
  kernel_rfl
def oQC0 : Oper := { dst := some 4, op := .alloc 76, type := 0, pos := "law.go:136", after := #[], guard := none }
def oQC1 : Oper := { dst := some 10, op := .nilCheck (.tmp 9), type := 0, pos := "law.go:137", after := #[{ on := 0, ground := .data }], guard := none }
def oQC2 : Oper := { dst := some 11, op := .fieldAddr 27 (.tmp 10) 0, type := 0, pos := "law.go:137", after := #[{ on := 1, ground := .data }], guard := none }
def oQC3 : Oper := { dst := some 12, op := .load 24 (.tmp 11), type := 24, pos := "law.go:137", after := #[{ on := 2, ground := .data }], guard := none }
def oQC4 : Oper := { dst := some 14, op := .call { callee := .value (.func 23), args := #[.tmp 12, .tmp 13], argTypes := #[24, 28] }, type := 77, pos := "law.go:137", after := #[{ on := 3, ground := .data }, { on := 4, ground := .data }], guard := none }
def oQC5 : Oper := { dst := some 15, op := .extract (.tmp 8) 0, type := 76, pos := "law.go:137", after := #[{ on := 6, ground := .data }], guard := none }
def oQC6 : Oper := { dst := some 16, op := .extract (.tmp 8) 1, type := 4, pos := "law.go:137", after := #[{ on := 6, ground := .data }, { on := 10, ground := .gcOnly .lateStores }], guard := none }
def oQC7 : Oper := { dst := some 6, op := .alloc 76, type := 0, pos := "law.go:137", after := #[], guard := none }
def oQC8 : Oper := { dst := none, op := .store 76 (.tmp 6) (.tmp 15), type := 0, pos := "law.go:137", after := #[{ on := 9, ground := .data }, { on := 7, ground := .data }, { on := 5, ground := .chain }, { on := 0, ground := .phase }, { on := 1, ground := .phase }, { on := 2, ground := .phase }, { on := 3, ground := .phase }, { on := 4, ground := .phase }, { on := 5, ground := .phase }, { on := 6, ground := .phase }, { on := 7, ground := .phase }, { on := 8, ground := .textOnly .lateStores }, { on := 9, ground := .phase }], guard := none }
def oQC9 : Oper := { dst := some 18, op := .unOp .not 4 (.tmp 17), type := 4, pos := "law.go:138", after := #[{ on := 0, ground := .data }], guard := none }
def oQC10 : Oper := { dst := some 19, op := .build 76 #[], type := 76, pos := "law.go:139", after := #[], guard := none }
def oQC11 : Oper := { dst := some 21, op := .nilCheck (.tmp 20), type := 0, pos := "law.go:139", after := #[{ on := 1, ground := .data }, { on := 5, ground := .gcOnly .lateStores }], guard := none }
def oQC12 : Oper := { dst := some 22, op := .fieldAddr 27 (.tmp 21) 1, type := 0, pos := "law.go:139", after := #[{ on := 2, ground := .data }, { on := 5, ground := .gcOnly .lateStores }], guard := none }
def oQC13 : Oper := { dst := some 23, op := .load 25 (.tmp 22), type := 25, pos := "law.go:139", after := #[{ on := 3, ground := .data }, { on := 5, ground := .gcOnly .lateStores }], guard := none }
def oQC14 : Oper := { dst := some 24, op := .load 76 (.tmp 6), type := 76, pos := "law.go:141", after := #[], guard := none }
def oQC15 : Oper := { dst := none, op := .store 76 (.tmp 4) (.tmp 24), type := 0, pos := "law.go:141", after := #[{ on := 0, ground := .data }, { on := 0, ground := .phase }], guard := none }
def oQC16 : Oper := { dst := some 3, op := .box 23 (.tmp 0), type := 0, pos := "chain.go:114", after := #[], guard := none }
def oQC17 : Oper := { dst := some 6, op := .alloc 53, type := 0, pos := "chain.go:114", after := #[], guard := none }
def oQC18 : Oper := { dst := some 14, op := .call { callee := .invoke (.tmp 12) "Page", args := #[.tmp 13], argTypes := #[28] }, type := 81, pos := "chain.go:115", after := #[{ on := 0, ground := .data }, { on := 1, ground := .data }], guard := none }
def oQC19 : Oper := { dst := some 15, op := .extract (.tmp 11) 0, type := 76, pos := "chain.go:115", after := #[{ on := 3, ground := .data }], guard := none }
def oQC20 : Oper := { dst := some 16, op := .extract (.tmp 11) 1, type := 25, pos := "chain.go:115", after := #[{ on := 3, ground := .data }, { on := 7, ground := .gcOnly .lateStores }], guard := none }
def oQC21 : Oper := { dst := some 9, op := .alloc 76, type := 0, pos := "chain.go:115", after := #[], guard := none }
def oQC22 : Oper := { dst := none, op := .store 76 (.tmp 9) (.tmp 15), type := 0, pos := "chain.go:115", after := #[{ on := 6, ground := .data }, { on := 4, ground := .data }, { on := 2, ground := .chain }, { on := 0, ground := .phase }, { on := 1, ground := .phase }, { on := 2, ground := .phase }, { on := 3, ground := .phase }, { on := 4, ground := .phase }, { on := 5, ground := .textOnly .lateStores }, { on := 6, ground := .phase }], guard := none }
def oQC23 : Oper := { dst := some 18, op := .binOp .neq 25 (.tmp 17) (.const (.int .i64 0)) 25, type := 4, pos := "chain.go:116", after := #[{ on := 0, ground := .data }], guard := none }
def oQC24 : Oper := { dst := some 19, op := .build 53 #[], type := 53, pos := "chain.go:117", after := #[], guard := none }
def oQC25 : Oper := { dst := none, op := .store 53 (.tmp 6) (.tmp 19), type := 0, pos := "chain.go:117", after := #[{ on := 0, ground := .data }, { on := 0, ground := .phase }, { on := 1, ground := .textOnly .lateStores }], guard := none }
def oQC26 : Oper := { dst := some 22, op := .load 23 (.tmp 3), type := 23, pos := "chain.go:119", after := #[], guard := none }
def oQC27 : Oper := { dst := some 23, op := .fieldAddr 76 (.tmp 9) 3, type := 0, pos := "chain.go:119", after := #[], guard := none }
def oQC28 : Oper := { dst := some 24, op := .load 9 (.tmp 23), type := 9, pos := "chain.go:119", after := #[{ on := 1, ground := .data }], guard := none }
def oQC29 : Oper := { dst := some 25, op := .call { callee := .value (.func 16), args := #[.tmp 22, .tmp 24], argTypes := #[23, 9] }, type := 60, pos := "chain.go:119", after := #[{ on := 0, ground := .data }, { on := 2, ground := .data }], guard := none }
def oQC30 : Oper := { dst := some 26, op := .extract (.tmp 21) 0, type := 28, pos := "chain.go:119", after := #[{ on := 4, ground := .data }], guard := none }
def oQC31 : Oper := { dst := some 27, op := .extract (.tmp 21) 1, type := 51, pos := "chain.go:119", after := #[{ on := 4, ground := .data }, { on := 8, ground := .gcOnly .lateStores }], guard := none }
def oQC32 : Oper := { dst := some 28, op := .extract (.tmp 21) 2, type := 25, pos := "chain.go:119", after := #[{ on := 4, ground := .data }, { on := 9, ground := .gcOnly .lateStores }], guard := none }
def oQC33 : Oper := { dst := some 30, op := .binOp .neq 25 (.tmp 29) (.const (.int .i64 0)) 25, type := 4, pos := "chain.go:120", after := #[{ on := 0, ground := .data }], guard := none }
def oQC34 : Oper := { dst := some 32, op := .fieldAddr 76 (.tmp 9) 0, type := 0, pos := "chain.go:120", after := #[{ on := 2, ground := .guard }], guard := some (2, false) }
def oQC35 : Oper := { dst := some 33, op := .load 73 (.tmp 32), type := 73, pos := "chain.go:120", after := #[{ on := 3, ground := .data }, { on := 2, ground := .guard }], guard := some (2, false) }
def oQC36 : Oper := { dst := some 34, op := .binOp .neq 73 (.tmp 33) (.const (.int .u8 3)) 73, type := 4, pos := "chain.go:120", after := #[{ on := 4, ground := .data }, { on := 2, ground := .guard }], guard := some (2, false) }
def oQC37 : Oper := { dst := some 35, op := .pick (.tmp 31) (.const (.bool true)) (.tmp 34), type := 4, pos := "chain.go:120", after := #[{ on := 2, ground := .data }, { on := 5, ground := .data }], guard := none }
def oQC38 : Oper := { dst := some 36, op := .build 53 #[], type := 53, pos := "chain.go:121", after := #[], guard := none }
def oQC39 : Oper := { dst := none, op := .store 53 (.tmp 6) (.tmp 36), type := 0, pos := "chain.go:121", after := #[{ on := 0, ground := .data }, { on := 0, ground := .phase }], guard := none }
def oQC40 : Oper := { dst := some 39, op := .build 53 #[(0, .tmp 37), (1, .tmp 38)], type := 53, pos := "chain.go:123", after := #[{ on := 0, ground := .data }, { on := 1, ground := .data }], guard := none }
def oQC41 : Oper := { dst := none, op := .store 53 (.tmp 6) (.tmp 39), type := 0, pos := "chain.go:123", after := #[{ on := 2, ground := .data }, { on := 0, ground := .phase }, { on := 1, ground := .phase }, { on := 2, ground := .phase }, { on := 3, ground := .textOnly .lateStores }], guard := none }
def rBP0 : Array Oper := #[oQC0,
  { dst := some 5, op := .assign (.const (.int .i64 0)), type := 25, pos := "law.go:136", after := #[], guard := none }]
def rBP1 : Array Oper := #[{ dst := some 9, op := .move (.tmp 0), type := 33, pos := "law.go:137", after := #[], guard := none },
  oQC1,
  oQC2,
  oQC3,
  { dst := some 13, op := .move (.tmp 1), type := 28, pos := "law.go:137", after := #[], guard := none },
  oQC4,
  { dst := some 8, op := .move (.tmp 14), type := 77, pos := "law.go:137", after := #[{ on := 5, ground := .data }], guard := none },
  oQC5,
  oQC6,
  oQC7,
  oQC8,
  { dst := some 7, op := .assign (.tmp 16), type := 4, pos := "law.go:137", after := #[{ on := 8, ground := .data }, { on := 10, ground := .chain }, { on := 0, ground := .phase }, { on := 1, ground := .phase }, { on := 2, ground := .phase }, { on := 3, ground := .phase }, { on := 4, ground := .phase }, { on := 5, ground := .phase }, { on := 6, ground := .phase }, { on := 7, ground := .phase }, { on := 8, ground := .phase }, { on := 9, ground := .phase }, { on := 10, ground := .phase }], guard := none }]
def rBP2 : Array Oper := #[{ dst := some 17, op := .move (.tmp 7), type := 4, pos := "law.go:138", after := #[], guard := none },
  oQC9]
def rBP3 : Array Oper := #[oQC10,
  { dst := some 20, op := .move (.tmp 0), type := 33, pos := "law.go:139", after := #[{ on := 5, ground := .gcOnly .lateStores }], guard := none },
  oQC11,
  oQC12,
  oQC13,
  { dst := none, op := .store 76 (.tmp 4) (.tmp 19), type := 0, pos := "law.go:139", after := #[{ on := 0, ground := .data }, { on := 0, ground := .phase }, { on := 1, ground := .textOnly .lateStores }, { on := 2, ground := .textOnly .lateStores }, { on := 3, ground := .textOnly .lateStores }, { on := 4, ground := .textOnly .lateStores }], guard := none },
  { dst := some 5, op := .assign (.tmp 23), type := 25, pos := "law.go:139", after := #[{ on := 4, ground := .data }, { on := 5, ground := .chain }, { on := 0, ground := .phase }, { on := 1, ground := .phase }, { on := 2, ground := .phase }, { on := 3, ground := .phase }, { on := 4, ground := .phase }, { on := 5, ground := .phase }], guard := none }]
def rBP4 : Array Oper := #[oQC14,
  oQC15,
  { dst := some 5, op := .assign (.const (.int .i64 0)), type := 25, pos := "law.go:141", after := #[{ on := 1, ground := .chain }, { on := 0, ground := .phase }, { on := 1, ground := .phase }], guard := none }]
def cBP : Code := (.seq (.region 0 rBP0 false) (.seq (.region 1 rBP1 false) (.seq (.seq (.region 2 rBP2 false) (.cond (.tmp 18) (.seq (.region 3 rBP3 true) .ret) .skip)) (.seq (.region 4 rBP4 false) .ret))))
set_option maxRecDepth 100000 in
theorem bkp_y {pa : Option Addr} {n cp no bb : Nat} {x : Pgd} (w : World) (b0 : w.cell? ⟨bb, 0, none⟩ = some (.slice pa n cp))
    (kF : ∀ Z, Same w Z → Calls Try.prog 23 #[.slice pa n cp, .int .u32 (no : Int)] Z fun e w' => e = .returned (.tuple #[.agg #[.int .u8 (x.kind : Int), .int .u32 (x.no : Int), .int .u64 (x.ver : Int), .string x.body], .bool true]) ∧ Same Z w') :
    Calls Try.prog 101 #[.pointer (some ⟨bb, 0, none⟩), .int .u32 (no : Int)] w fun e w' => e = .returned (.tuple #[.agg #[.int .u8 (x.kind : Int), .int .u32 (x.no : Int), .int .u64 (x.ver : Int), .string x.body], .int .i64 0]) ∧ Same w w' := by
  refine calls_abs (c := cBP) Try.func101 (by kernel_rfl) 25 rfl (by simp) (fun a0 hsz hd ha => ?_)
  have g_0 := Fe.refl a0
  unfold cBP
  refine wp_seq ?_
  refine wp_region_list ?_
  unfold rBP0
  have r_1 : (execOp a0.eval oQC0).run Try.prog (w) = .ok (.value (.pointer (some ⟨w.heap.size, 0, none⟩))) (w.alloc (.cells #[.int .u8 0, .int .u32 0, .int .u64 0, .string ⟨#[]⟩] 76)) := by
    unfold oQC0
    clear g_0 ha
    generalize a0.eval = ρ at *
    go_simp
  refine g_0.stepW 4 (.pointer (some ⟨w.heap.size, 0, none⟩)) rfl (lb_ hsz) (wn rfl) r_1 (fun x_1 g_1 => ?_)
  clear r_1 g_0
  refine g_1.move 5 (.int .i64 0) _ (Or.inr rfl) rfl (lb_ hsz) (wn rfl) rfl (fun x_2 g_2 => ?_)
  clear g_1
  refine wpList_nil ?_
  obtain ⟨V, hV⟩ : ∃ V, V = w.alloc (.cells #[.int .u8 0, .int .u32 0, .int .u64 0, .string ⟨#[]⟩] 76) := ⟨_, rfl⟩
  rw [← hV]
  have sV : Same w V := by rw [hV]; exact (Fr.refl _ w).alloc _
  have rV : V.heap[w.heap.size]? = some (.cells #[.int .u8 0, .int .u32 0, .int .u64 0, .string ⟨#[]⟩] 76 (0, 0)) := by rw [hV]; exact heap_alloc_new w _
  have d0 := sV.keep b0
  clear hV
  change Code.wp _ _ _ _ _
  refine wp_seq ?_
  refine wp_region_list ?_
  unfold rBP1
  refine g_2.move 9 (.pointer (some ⟨bb, 0, none⟩)) _ (Or.inl rfl) rfl (lb_ hsz) (wn rfl) ((g_2.at_ 0).trans (ha 0 _ rfl)) (fun x_3 g_3 => ?_)
  clear g_2
  have r_4 : (execOp x_3.eval oQC1).run Try.prog (V) = .ok (.value (.pointer (some ⟨bb, 0, none⟩))) (V) := by
    unfold oQC1
    have e9 : x_3.eval (.tmp 9) = .pointer (some ⟨bb, 0, none⟩) := g_3.at_ 9
    clear g_3 ha
    generalize x_3.eval = ρ at *
    go_simp
  refine g_3.step 10 _ rfl (lb_ hsz) (wn rfl) r_4 (fun x_4 g_4 => ?_)
  clear r_4 g_3
  have r_5 : (execOp x_4.eval oQC2).run Try.prog (V) = .ok (.value (.pointer (some ⟨bb, 0, none⟩))) (V) := by
    unfold oQC2
    have e10 : x_4.eval (.tmp 10) = .pointer (some ⟨bb, 0, none⟩) := g_4.at_ 10
    clear g_4 ha
    generalize x_4.eval = ρ at *
    go_simp
  refine g_4.step 11 _ rfl (lb_ hsz) (wn rfl) r_5 (fun x_5 g_5 => ?_)
  clear r_5 g_4
  have r_6 : (execOp x_5.eval oQC3).run Try.prog (V) = .ok (.value (.slice pa n cp)) (V) := by
    unfold oQC3
    have e11 : x_5.eval (.tmp 11) = .pointer (some ⟨bb, 0, none⟩) := g_5.at_ 11
    clear g_5 ha
    generalize x_5.eval = ρ at *
    go_simp
  refine g_5.step 12 _ rfl (lb_ hsz) (wn rfl) r_6 (fun x_6 g_6 => ?_)
  clear r_6 g_5
  refine g_6.move 13 (.int .u32 (no : Int)) _ (Or.inl rfl) rfl (lb_ hsz) (wn rfl) ((g_6.at_ 1).trans (ha 1 _ rfl)) (fun x_7 g_7 => ?_)
  clear g_6
  have r_8 : (execOp x_7.eval oQC4).run Try.prog (V) = .ok (.enter 23 #[.slice pa n cp, .int .u32 (no : Int)]) (V) := by
    unfold oQC4
    have kf : ∀ f, x_7.eval (.func f) = .func (.func f) #[] #[] := fun _ => rfl
    have e12 : x_7.eval (.tmp 12) = .slice pa n cp := g_7.at_ 12
    have e13 : x_7.eval (.tmp 13) = .int .u32 (no : Int) := g_7.at_ 13
    clear g_7 ha
    generalize x_7.eval = ρ at *
    go_simp
  refine g_7.call 14 rfl (lb_ hsz) (wn rfl) r_8 (kF V sV) (fun e W1 hR => ?_)
  obtain ⟨rfl, s1⟩ := hR
  clear r_8
  refine ⟨_, rfl, fun x_8 g_8 => ?_⟩
  clear g_7
  refine g_8.move 8 (.tuple #[.agg #[.int .u8 (x.kind : Int), .int .u32 (x.no : Int), .int .u64 (x.ver : Int), .string x.body], .bool true]) _ (Or.inl rfl) rfl (lb_ hsz) (wn rfl) (g_8.at_ 14) (fun x_9 g_9 => ?_)
  clear g_8
  have r_10 : (execOp x_9.eval oQC5).run Try.prog (W1) = .ok (.value (.agg #[.int .u8 (x.kind : Int), .int .u32 (x.no : Int), .int .u64 (x.ver : Int), .string x.body])) (W1) := by
    unfold oQC5
    have e8 : x_9.eval (.tmp 8) = .tuple #[.agg #[.int .u8 (x.kind : Int), .int .u32 (x.no : Int), .int .u64 (x.ver : Int), .string x.body], .bool true] := g_9.at_ 8
    clear g_9 ha
    generalize x_9.eval = ρ at *
    go_simp
  refine g_9.step 15 _ rfl (lb_ hsz) (wn rfl) r_10 (fun x_10 g_10 => ?_)
  clear r_10 g_9
  have r_11 : (execOp x_10.eval oQC6).run Try.prog (W1) = .ok (.value (.bool true)) (W1) := by
    unfold oQC6
    have e8 : x_10.eval (.tmp 8) = .tuple #[.agg #[.int .u8 (x.kind : Int), .int .u32 (x.no : Int), .int .u64 (x.ver : Int), .string x.body], .bool true] := g_10.at_ 8
    clear g_10 ha
    generalize x_10.eval = ρ at *
    go_simp
  refine g_10.step 16 _ rfl (lb_ hsz) (wn rfl) r_11 (fun x_11 g_11 => ?_)
  clear r_11 g_10
  have r_12 : (execOp x_11.eval oQC7).run Try.prog (W1) = .ok (.value (.pointer (some ⟨W1.heap.size, 0, none⟩))) (W1.alloc (.cells #[.int .u8 0, .int .u32 0, .int .u64 0, .string ⟨#[]⟩] 76)) := by
    unfold oQC7
    clear g_11 ha
    generalize x_11.eval = ρ at *
    go_simp
  refine g_11.stepW 6 (.pointer (some ⟨W1.heap.size, 0, none⟩)) rfl (lb_ hsz) (wn rfl) r_12 (fun x_12 g_12 => ?_)
  clear r_12 g_11
  have r_13 : (execOp x_12.eval oQC8).run Try.prog (W1.alloc (.cells #[.int .u8 0, .int .u32 0, .int .u64 0, .string ⟨#[]⟩] 76)) = .ok .skip (W1.alloc (.cells #[.int .u8 (x.kind : Int), .int .u32 (x.no : Int), .int .u64 (x.ver : Int), .string x.body] 76)) := by
    unfold oQC8
    have e6 : x_12.eval (.tmp 6) = .pointer (some ⟨W1.heap.size, 0, none⟩) := g_12.at_ 6
    have e15 : x_12.eval (.tmp 15) = .agg #[.int .u8 (x.kind : Int), .int .u32 (x.no : Int), .int .u64 (x.ver : Int), .string x.body] := g_12.at_ 15
    clear g_12 ha
    generalize x_12.eval = ρ at *
    go_simp
  refine g_12.store rfl (wn rfl) r_13 (fun x_13 g_13 => ?_)
  clear r_13 g_12
  refine g_13.move 7 (.bool true) _ (Or.inr rfl) rfl (lb_ hsz) (wn rfl) (g_13.at_ 16) (fun x_14 g_14 => ?_)
  clear g_13
  refine wpList_nil ?_
  obtain ⟨W2, hW2⟩ : ∃ W2, W2 = W1.alloc (.cells #[.int .u8 (x.kind : Int), .int .u32 (x.no : Int), .int .u64 (x.ver : Int), .string x.body] 76) := ⟨_, rfl⟩
  rw [← hW2]
  have s2 : Same V W2 := by rw [hW2]; exact s1.alloc _
  have r2 : W2.heap[W1.heap.size]? = some (.cells #[.int .u8 (x.kind : Int), .int .u32 (x.no : Int), .int .u64 (x.ver : Int), .string x.body] 76 (0, 0)) := by rw [hW2]; exact heap_alloc_new W1 _
  have rV2 := (s2.block _ (lt_of_heap rV) (fun f => f)).trans rV
  clear hW2
  change Code.wp _ _ _ _ _
  refine wp_seq (wp_seq ?_)
  refine wp_region_list ?_
  unfold rBP2
  refine g_14.move 17 (.bool true) _ (Or.inl rfl) rfl (lb_ hsz) (wn rfl) (g_14.at_ 7) (fun x_15 g_15 => ?_)
  clear g_14
  have r_16 : (execOp x_15.eval oQC9).run Try.prog (W2) = .ok (.value (.bool false)) (W2) := by
    unfold oQC9
    have e17 : x_15.eval (.tmp 17) = .bool true := g_15.at_ 17
    clear g_15 ha
    generalize x_15.eval = ρ at *
    go_simp
  refine g_15.step 18 _ rfl (lb_ hsz) (wn rfl) r_16 (fun x_16 g_16 => ?_)
  clear r_16 g_15
  refine wpList_nil ?_
  change Code.wp _ _ _ _ _
  refine wp_cond_false (show x_16.eval (.tmp 18) = .bool false from (g_16.at_ 18)) (wp_skip ?_)
  change Code.wp _ _ _ _ _
  refine wp_seq ?_
  obtain ⟨W3, hW3, r3, f3, th3⟩ := store_box (cells := #[.int .u8 (x.kind : Int), .int .u32 (x.no : Int), .int .u64 (x.ver : Int), .string x.body]) rV2 rfl
  have e0 : W2.cell? ⟨W1.heap.size, 0, none⟩ = some (.int .u8 (x.kind : Int)) := (cell_of_row _ _ _ _ _ _ r2).trans rfl
  have e1 : W2.cell? ⟨W1.heap.size, 1, none⟩ = some (.int .u32 (x.no : Int)) := (cell_of_row _ _ _ _ _ _ r2).trans rfl
  have e2 : W2.cell? ⟨W1.heap.size, 2, none⟩ = some (.int .u64 (x.ver : Int)) := (cell_of_row _ _ _ _ _ _ r2).trans rfl
  have e3 : W2.cell? ⟨W1.heap.size, 3, none⟩ = some (.string x.body) := (cell_of_row _ _ _ _ _ _ r2).trans rfl
  refine wp_region_list ?_
  unfold rBP4
  have r_17 : (execOp x_16.eval oQC14).run Try.prog (W2) = .ok (.value (.agg #[.int .u8 (x.kind : Int), .int .u32 (x.no : Int), .int .u64 (x.ver : Int), .string x.body])) (W2) := by
    unfold oQC14
    have e6 : x_16.eval (.tmp 6) = .pointer (some ⟨W1.heap.size, 0, none⟩) := g_16.at_ 6
    clear g_16 ha
    generalize x_16.eval = ρ at *
    go_simp
  refine g_16.step 24 _ rfl (lb_ hsz) (wn rfl) r_17 (fun x_17 g_17 => ?_)
  clear r_17 g_16
  have r_18 : (execOp x_17.eval oQC15).run Try.prog (W2) = .ok .skip (W3) := by
    unfold oQC15
    refine exec_storeQ rfl ?_
    rw [(show x_17.eval (.tmp 4) = .pointer (some ⟨w.heap.size, 0, none⟩) from (g_17.at_ 4)), (show x_17.eval (.tmp 24) = .agg #[.int .u8 (x.kind : Int), .int .u32 (x.no : Int), .int .u64 (x.ver : Int), .string x.body] from (g_17.at_ 24)), hW3]
    exact run_storeAt_mid _ w.heap.size 0 76 #[.int .u8 (x.kind : Int), .int .u32 (x.no : Int), .int .u64 (x.ver : Int), .string x.body] th3 (by kernel_rfl) (by kernel_rfl)
  refine g_17.store rfl (wn rfl) r_18 (fun x_18 g_18 => ?_)
  clear r_18 g_17
  refine g_18.move 5 (.int .i64 0) _ (Or.inr rfl) rfl (lb_ hsz) (wn rfl) rfl (fun x_19 g_19 => ?_)
  clear g_18
  refine wpList_nil ?_
  change Code.wp _ _ _ _ _
  refine wp_ret ?_
  exact ret_cell1 (P := Try.prog) (fn := Try.f101) (R := fun e w' => e = .returned (.tuple #[.agg #[.int .u8 (x.kind : Int), .int .u32 (x.no : Int), .int .u64 (x.ver : Int), .string x.body], .int .i64 0]) ∧ Same w w') rfl (g_19.defers.trans hd) (show x_19.eval (.tmp 4) = .pointer (some ⟨w.heap.size, 0, none⟩) from (g_19.at_ 4)) r3 Try.underlying76 rfl (by kernel_rfl) (show x_19.eval (.tmp 5) = .int .i64 0 from (g_19.at_ 5)) ⟨rfl, Fr.trans (sV.trans s2) f3 (fun k hk e => by omega)⟩
set_option maxRecDepth 100000 in
theorem bkp_n {pa : Option Addr} {n cp no bb : Nat} {er : Int} (w : World) (b0 : w.cell? ⟨bb, 0, none⟩ = some (.slice pa n cp)) (b1 : w.cell? ⟨bb, 1, none⟩ = some (.int .i64 er))
    (kF : ∀ Z, Same w Z → Calls Try.prog 23 #[.slice pa n cp, .int .u32 (no : Int)] Z fun e w' => e = .returned (.tuple #[.agg #[.int .u8 0, .int .u32 0, .int .u64 0, .string ⟨#[]⟩], .bool false]) ∧ Same Z w') :
    Calls Try.prog 101 #[.pointer (some ⟨bb, 0, none⟩), .int .u32 (no : Int)] w fun e w' => e = .returned (.tuple #[.agg #[.int .u8 0, .int .u32 0, .int .u64 0, .string ⟨#[]⟩], .int .i64 er]) ∧ Same w w' := by
  refine calls_abs (c := cBP) Try.func101 (by kernel_rfl) 25 rfl (by simp) (fun a0 hsz hd ha => ?_)
  have g_0 := Fe.refl a0
  unfold cBP
  refine wp_seq ?_
  refine wp_region_list ?_
  unfold rBP0
  have r_1 : (execOp a0.eval oQC0).run Try.prog (w) = .ok (.value (.pointer (some ⟨w.heap.size, 0, none⟩))) (w.alloc (.cells #[.int .u8 0, .int .u32 0, .int .u64 0, .string ⟨#[]⟩] 76)) := by
    unfold oQC0
    clear g_0 ha
    generalize a0.eval = ρ at *
    go_simp
  refine g_0.stepW 4 (.pointer (some ⟨w.heap.size, 0, none⟩)) rfl (lb_ hsz) (wn rfl) r_1 (fun x_1 g_1 => ?_)
  clear r_1 g_0
  refine g_1.move 5 (.int .i64 0) _ (Or.inr rfl) rfl (lb_ hsz) (wn rfl) rfl (fun x_2 g_2 => ?_)
  clear g_1
  refine wpList_nil ?_
  obtain ⟨V, hV⟩ : ∃ V, V = w.alloc (.cells #[.int .u8 0, .int .u32 0, .int .u64 0, .string ⟨#[]⟩] 76) := ⟨_, rfl⟩
  rw [← hV]
  have sV : Same w V := by rw [hV]; exact (Fr.refl _ w).alloc _
  have rV : V.heap[w.heap.size]? = some (.cells #[.int .u8 0, .int .u32 0, .int .u64 0, .string ⟨#[]⟩] 76 (0, 0)) := by rw [hV]; exact heap_alloc_new w _
  have d0 := sV.keep b0
  clear hV
  change Code.wp _ _ _ _ _
  refine wp_seq ?_
  refine wp_region_list ?_
  unfold rBP1
  refine g_2.move 9 (.pointer (some ⟨bb, 0, none⟩)) _ (Or.inl rfl) rfl (lb_ hsz) (wn rfl) ((g_2.at_ 0).trans (ha 0 _ rfl)) (fun x_3 g_3 => ?_)
  clear g_2
  have r_4 : (execOp x_3.eval oQC1).run Try.prog (V) = .ok (.value (.pointer (some ⟨bb, 0, none⟩))) (V) := by
    unfold oQC1
    have e9 : x_3.eval (.tmp 9) = .pointer (some ⟨bb, 0, none⟩) := g_3.at_ 9
    clear g_3 ha
    generalize x_3.eval = ρ at *
    go_simp
  refine g_3.step 10 _ rfl (lb_ hsz) (wn rfl) r_4 (fun x_4 g_4 => ?_)
  clear r_4 g_3
  have r_5 : (execOp x_4.eval oQC2).run Try.prog (V) = .ok (.value (.pointer (some ⟨bb, 0, none⟩))) (V) := by
    unfold oQC2
    have e10 : x_4.eval (.tmp 10) = .pointer (some ⟨bb, 0, none⟩) := g_4.at_ 10
    clear g_4 ha
    generalize x_4.eval = ρ at *
    go_simp
  refine g_4.step 11 _ rfl (lb_ hsz) (wn rfl) r_5 (fun x_5 g_5 => ?_)
  clear r_5 g_4
  have r_6 : (execOp x_5.eval oQC3).run Try.prog (V) = .ok (.value (.slice pa n cp)) (V) := by
    unfold oQC3
    have e11 : x_5.eval (.tmp 11) = .pointer (some ⟨bb, 0, none⟩) := g_5.at_ 11
    clear g_5 ha
    generalize x_5.eval = ρ at *
    go_simp
  refine g_5.step 12 _ rfl (lb_ hsz) (wn rfl) r_6 (fun x_6 g_6 => ?_)
  clear r_6 g_5
  refine g_6.move 13 (.int .u32 (no : Int)) _ (Or.inl rfl) rfl (lb_ hsz) (wn rfl) ((g_6.at_ 1).trans (ha 1 _ rfl)) (fun x_7 g_7 => ?_)
  clear g_6
  have r_8 : (execOp x_7.eval oQC4).run Try.prog (V) = .ok (.enter 23 #[.slice pa n cp, .int .u32 (no : Int)]) (V) := by
    unfold oQC4
    have kf : ∀ f, x_7.eval (.func f) = .func (.func f) #[] #[] := fun _ => rfl
    have e12 : x_7.eval (.tmp 12) = .slice pa n cp := g_7.at_ 12
    have e13 : x_7.eval (.tmp 13) = .int .u32 (no : Int) := g_7.at_ 13
    clear g_7 ha
    generalize x_7.eval = ρ at *
    go_simp
  refine g_7.call 14 rfl (lb_ hsz) (wn rfl) r_8 (kF V sV) (fun e W1 hR => ?_)
  obtain ⟨rfl, s1⟩ := hR
  clear r_8
  refine ⟨_, rfl, fun x_8 g_8 => ?_⟩
  clear g_7
  refine g_8.move 8 (.tuple #[.agg #[.int .u8 0, .int .u32 0, .int .u64 0, .string ⟨#[]⟩], .bool false]) _ (Or.inl rfl) rfl (lb_ hsz) (wn rfl) (g_8.at_ 14) (fun x_9 g_9 => ?_)
  clear g_8
  have r_10 : (execOp x_9.eval oQC5).run Try.prog (W1) = .ok (.value (.agg #[.int .u8 0, .int .u32 0, .int .u64 0, .string ⟨#[]⟩])) (W1) := by
    unfold oQC5
    have e8 : x_9.eval (.tmp 8) = .tuple #[.agg #[.int .u8 0, .int .u32 0, .int .u64 0, .string ⟨#[]⟩], .bool false] := g_9.at_ 8
    clear g_9 ha
    generalize x_9.eval = ρ at *
    go_simp
  refine g_9.step 15 _ rfl (lb_ hsz) (wn rfl) r_10 (fun x_10 g_10 => ?_)
  clear r_10 g_9
  have r_11 : (execOp x_10.eval oQC6).run Try.prog (W1) = .ok (.value (.bool false)) (W1) := by
    unfold oQC6
    have e8 : x_10.eval (.tmp 8) = .tuple #[.agg #[.int .u8 0, .int .u32 0, .int .u64 0, .string ⟨#[]⟩], .bool false] := g_10.at_ 8
    clear g_10 ha
    generalize x_10.eval = ρ at *
    go_simp
  refine g_10.step 16 _ rfl (lb_ hsz) (wn rfl) r_11 (fun x_11 g_11 => ?_)
  clear r_11 g_10
  have r_12 : (execOp x_11.eval oQC7).run Try.prog (W1) = .ok (.value (.pointer (some ⟨W1.heap.size, 0, none⟩))) (W1.alloc (.cells #[.int .u8 0, .int .u32 0, .int .u64 0, .string ⟨#[]⟩] 76)) := by
    unfold oQC7
    clear g_11 ha
    generalize x_11.eval = ρ at *
    go_simp
  refine g_11.stepW 6 (.pointer (some ⟨W1.heap.size, 0, none⟩)) rfl (lb_ hsz) (wn rfl) r_12 (fun x_12 g_12 => ?_)
  clear r_12 g_11
  have r_13 : (execOp x_12.eval oQC8).run Try.prog (W1.alloc (.cells #[.int .u8 0, .int .u32 0, .int .u64 0, .string ⟨#[]⟩] 76)) = .ok .skip (W1.alloc (.cells #[.int .u8 0, .int .u32 0, .int .u64 0, .string ⟨#[]⟩] 76)) := by
    unfold oQC8
    have e6 : x_12.eval (.tmp 6) = .pointer (some ⟨W1.heap.size, 0, none⟩) := g_12.at_ 6
    have e15 : x_12.eval (.tmp 15) = .agg #[.int .u8 0, .int .u32 0, .int .u64 0, .string ⟨#[]⟩] := g_12.at_ 15
    clear g_12 ha
    generalize x_12.eval = ρ at *
    go_simp
  refine g_12.store rfl (wn rfl) r_13 (fun x_13 g_13 => ?_)
  clear r_13 g_12
  refine g_13.move 7 (.bool false) _ (Or.inr rfl) rfl (lb_ hsz) (wn rfl) (g_13.at_ 16) (fun x_14 g_14 => ?_)
  clear g_13
  refine wpList_nil ?_
  obtain ⟨W2, hW2⟩ : ∃ W2, W2 = W1.alloc (.cells #[.int .u8 0, .int .u32 0, .int .u64 0, .string ⟨#[]⟩] 76) := ⟨_, rfl⟩
  rw [← hW2]
  have s2 : Same V W2 := by rw [hW2]; exact s1.alloc _
  have r2 : W2.heap[W1.heap.size]? = some (.cells #[.int .u8 0, .int .u32 0, .int .u64 0, .string ⟨#[]⟩] 76 (0, 0)) := by rw [hW2]; exact heap_alloc_new W1 _
  have rV2 := (s2.block _ (lt_of_heap rV) (fun f => f)).trans rV
  clear hW2
  change Code.wp _ _ _ _ _
  refine wp_seq (wp_seq ?_)
  refine wp_region_list ?_
  unfold rBP2
  refine g_14.move 17 (.bool false) _ (Or.inl rfl) rfl (lb_ hsz) (wn rfl) (g_14.at_ 7) (fun x_15 g_15 => ?_)
  clear g_14
  have r_16 : (execOp x_15.eval oQC9).run Try.prog (W2) = .ok (.value (.bool true)) (W2) := by
    unfold oQC9
    have e17 : x_15.eval (.tmp 17) = .bool false := g_15.at_ 17
    clear g_15 ha
    generalize x_15.eval = ρ at *
    go_simp
  refine g_15.step 18 _ rfl (lb_ hsz) (wn rfl) r_16 (fun x_16 g_16 => ?_)
  clear r_16 g_15
  refine wpList_nil ?_
  change Code.wp _ _ _ _ _
  refine wp_cond_true (show x_16.eval (.tmp 18) = .bool true from (g_16.at_ 18)) (wp_seq ?_)
  have b1z := (sV.trans s2).keep b1
  have dd : Same w W2.drew := (sV.trans s2).drew
  refine wp_region_held_drew (ops := rBP3) (S := fun Z => Same w Z) (by kernel_rfl) (dd) (fun hS16 => ?_)
  have r_17 : ∀ Z, (fun Z => Same w Z) Z → (execOp x_16.eval oQC10).run Try.prog Z = .ok (.value (.agg #[.int .u8 0, .int .u32 0, .int .u64 0, .string ⟨#[]⟩])) Z := fun Z hZ => by
    unfold oQC10
    clear g_16 ha
    generalize x_16.eval = ρ at *
    go_simp
  refine g_16.take 0 19 _ rfl (by kernel_rfl) (by kernel_rfl) (by kernel_rfl) (fun _ _ _ h => h) rfl (lb_ hsz) (wn rfl) r_17 hS16 (fun x_17 g_17 => ?_)
  clear r_17 g_16
  refine g_17.takeMove 1 20 (.pointer (some ⟨bb, 0, none⟩)) _ (Or.inl rfl) rfl (by kernel_rfl) (by kernel_rfl) (by kernel_rfl) (fun _ _ _ h => h) rfl (lb_ hsz) (wn rfl) ((g_17.at_ 0).trans (ha 0 _ rfl)) hS16 (fun x_18 g_18 => ?_)
  clear g_17
  have r_19 : ∀ Z, (fun Z => Same w Z) Z → (execOp x_18.eval oQC11).run Try.prog Z = .ok (.value (.pointer (some ⟨bb, 0, none⟩))) Z := fun Z hZ => by
    unfold oQC11
    have e20 : x_18.eval (.tmp 20) = .pointer (some ⟨bb, 0, none⟩) := g_18.at_ 20
    clear g_18 ha
    generalize x_18.eval = ρ at *
    go_simp
  refine g_18.take 2 21 _ rfl (by kernel_rfl) (by kernel_rfl) (by kernel_rfl) (fun _ _ _ h => h) rfl (lb_ hsz) (wn rfl) r_19 hS16 (fun x_19 g_19 => ?_)
  clear r_19 g_18
  have r_20 : ∀ Z, (fun Z => Same w Z) Z → (execOp x_19.eval oQC12).run Try.prog Z = .ok (.value (.pointer (some ⟨bb, 1, none⟩))) Z := fun Z hZ => by
    unfold oQC12
    have e21 : x_19.eval (.tmp 21) = .pointer (some ⟨bb, 0, none⟩) := g_19.at_ 21
    clear g_19 ha
    generalize x_19.eval = ρ at *
    go_simp
  refine g_19.take 3 22 _ rfl (by kernel_rfl) (by kernel_rfl) (by kernel_rfl) (fun _ _ _ h => h) rfl (lb_ hsz) (wn rfl) r_20 hS16 (fun x_20 g_20 => ?_)
  clear r_20 g_19
  have r_21 : ∀ Z, (fun Z => Same w Z) Z → (execOp x_20.eval oQC13).run Try.prog Z = .ok (.value (.int .i64 er)) Z := fun Z hZ => by
    unfold oQC13
    have z1 := hZ.keep b1
    have e22 : x_20.eval (.tmp 22) = .pointer (some ⟨bb, 1, none⟩) := g_20.at_ 22
    clear g_20 ha
    generalize x_20.eval = ρ at *
    go_simp
  refine g_20.take 4 23 _ rfl (by kernel_rfl) (by kernel_rfl) (by kernel_rfl) (fun _ _ _ h => h) rfl (lb_ hsz) (wn rfl) r_21 hS16 (fun x_21 g_21 => ?_)
  clear r_21 g_20
  refine g_21.oneStore 5 (by kernel_rfl) rfl rfl rfl 76 _ _ rfl w.heap.size #[.int .u8 0, .int .u32 0, .int .u64 0, .string ⟨#[]⟩] #[.int .u8 0, .int .u32 0, .int .u64 0, .string ⟨#[]⟩] 76 (show x_21.eval (.tmp 4) = .pointer (some ⟨w.heap.size, 0, none⟩) from (g_21.at_ 4)) (show x_21.eval (.tmp 19) = .agg #[.int .u8 0, .int .u32 0, .int .u64 0, .string ⟨#[]⟩] from (g_21.at_ 19)) rV2 rfl (by kernel_rfl) (by kernel_rfl) (fun W9 r9 f9 => ?_)
  have s9 : Same w W9 := Fr.trans dd f9 (fun k hk e => by omega)
  refine ⟨s9, fun a9 f99 => ?_⟩
  refine f99.takeMove 6 5 (.int .i64 er) _ (Or.inr rfl) rfl (by kernel_rfl) (by kernel_rfl) (by kernel_rfl) (fun _ _ _ h => h) rfl (lb_ hsz) (wn rfl) (f99.at_ 23) s9 (fun x_22 g_22 => ?_)
  clear f99
  refine wpAnyH_done (by kernel_rfl) ?_ _
  change Code.wp _ _ _ _ _
  refine wp_ret ?_
  exact ret_cell1 (P := Try.prog) (fn := Try.f101) (R := fun e w' => e = .returned (.tuple #[.agg #[.int .u8 0, .int .u32 0, .int .u64 0, .string ⟨#[]⟩], .int .i64 er]) ∧ Same w w') rfl (g_22.defers.trans hd) (show x_22.eval (.tmp 4) = .pointer (some ⟨w.heap.size, 0, none⟩) from (g_22.at_ 4)) r9 Try.underlying76 rfl (by kernel_rfl) (show x_22.eval (.tmp 5) = .int .i64 er from (g_22.at_ 5)) ⟨rfl, s9⟩
def rBO0 : Array Oper := #[oQC16,
  oQC17,
  { dst := some 7, op := .assign (.const (.int .u32 0)), type := 28, pos := "chain.go:114", after := #[], guard := none },
  { dst := some 8, op := .assign (.const (.int .i64 0)), type := 25, pos := "chain.go:114", after := #[{ on := 2, ground := .chain }], guard := none }]
def rBO1 : Array Oper := #[{ dst := some 12, op := .move (.tmp 1), type := 45, pos := "chain.go:115", after := #[], guard := none },
  { dst := some 13, op := .move (.tmp 2), type := 28, pos := "chain.go:115", after := #[], guard := none },
  oQC18,
  { dst := some 11, op := .move (.tmp 14), type := 81, pos := "chain.go:115", after := #[{ on := 2, ground := .data }], guard := none },
  oQC19,
  oQC20,
  oQC21,
  oQC22,
  { dst := some 8, op := .assign (.tmp 16), type := 25, pos := "chain.go:115", after := #[{ on := 5, ground := .data }, { on := 7, ground := .chain }, { on := 0, ground := .phase }, { on := 1, ground := .phase }, { on := 2, ground := .phase }, { on := 3, ground := .phase }, { on := 4, ground := .phase }, { on := 5, ground := .phase }, { on := 6, ground := .phase }, { on := 7, ground := .phase }], guard := none }]
def rBO2 : Array Oper := #[{ dst := some 17, op := .move (.tmp 8), type := 25, pos := "chain.go:116", after := #[], guard := none },
  oQC23]
def rBO3 : Array Oper := #[oQC24,
  { dst := some 20, op := .move (.tmp 8), type := 25, pos := "chain.go:117", after := #[{ on := 3, ground := .gcOnly .lateStores }], guard := none },
  oQC25,
  { dst := some 7, op := .assign (.const (.int .u32 0)), type := 28, pos := "chain.go:117", after := #[{ on := 2, ground := .chain }, { on := 0, ground := .phase }, { on := 1, ground := .textOnly .lateStores }, { on := 2, ground := .phase }], guard := none },
  { dst := some 8, op := .assign (.tmp 20), type := 25, pos := "chain.go:117", after := #[{ on := 1, ground := .data }, { on := 3, ground := .chain }, { on := 0, ground := .phase }, { on := 1, ground := .phase }, { on := 2, ground := .phase }, { on := 3, ground := .phase }], guard := none }]
def rBO4 : Array Oper := #[oQC26,
  oQC27,
  oQC28,
  oQC29,
  { dst := some 21, op := .move (.tmp 25), type := 60, pos := "chain.go:119", after := #[{ on := 3, ground := .data }], guard := none },
  oQC30,
  oQC31,
  oQC32,
  { dst := some 7, op := .assign (.tmp 26), type := 28, pos := "chain.go:119", after := #[{ on := 5, ground := .data }, { on := 3, ground := .chain }, { on := 0, ground := .phase }, { on := 1, ground := .phase }, { on := 2, ground := .phase }, { on := 3, ground := .phase }, { on := 4, ground := .phase }, { on := 5, ground := .phase }, { on := 6, ground := .textOnly .lateStores }, { on := 7, ground := .textOnly .lateStores }], guard := none },
  { dst := some 10, op := .assign (.tmp 27), type := 51, pos := "chain.go:119", after := #[{ on := 6, ground := .data }, { on := 8, ground := .chain }, { on := 0, ground := .phase }, { on := 1, ground := .phase }, { on := 2, ground := .phase }, { on := 3, ground := .phase }, { on := 4, ground := .phase }, { on := 5, ground := .phase }, { on := 6, ground := .phase }, { on := 7, ground := .textOnly .lateStores }, { on := 8, ground := .phase }], guard := none },
  { dst := some 8, op := .assign (.tmp 28), type := 25, pos := "chain.go:119", after := #[{ on := 7, ground := .data }, { on := 9, ground := .chain }, { on := 0, ground := .phase }, { on := 1, ground := .phase }, { on := 2, ground := .phase }, { on := 3, ground := .phase }, { on := 4, ground := .phase }, { on := 5, ground := .phase }, { on := 6, ground := .phase }, { on := 7, ground := .phase }, { on := 8, ground := .phase }, { on := 9, ground := .phase }], guard := none }]
def rBO5 : Array Oper := #[{ dst := some 29, op := .move (.tmp 8), type := 25, pos := "chain.go:120", after := #[], guard := none },
  oQC33,
  { dst := some 31, op := .move (.tmp 30), type := 4, pos := "chain.go:120", after := #[{ on := 1, ground := .data }], guard := none },
  oQC34,
  oQC35,
  oQC36,
  oQC37]
def rBO6 : Array Oper := #[oQC38,
  oQC39,
  { dst := some 7, op := .assign (.const (.int .u32 0)), type := 28, pos := "chain.go:121", after := #[{ on := 1, ground := .chain }, { on := 0, ground := .phase }, { on := 1, ground := .phase }], guard := none },
  { dst := some 8, op := .assign (.const (.int .i64 8)), type := 25, pos := "chain.go:121", after := #[{ on := 2, ground := .chain }, { on := 0, ground := .phase }, { on := 1, ground := .phase }, { on := 2, ground := .phase }], guard := none }]
def rBO7 : Array Oper := #[{ dst := some 37, op := .move (.tmp 2), type := 28, pos := "chain.go:123", after := #[], guard := none },
  { dst := some 38, op := .move (.tmp 10), type := 51, pos := "chain.go:123", after := #[], guard := none },
  oQC40,
  { dst := some 40, op := .move (.tmp 7), type := 28, pos := "chain.go:123", after := #[{ on := 4, ground := .gcOnly .lateStores }], guard := none },
  oQC41,
  { dst := some 7, op := .assign (.tmp 40), type := 28, pos := "chain.go:123", after := #[{ on := 3, ground := .data }, { on := 4, ground := .chain }, { on := 0, ground := .phase }, { on := 1, ground := .phase }, { on := 2, ground := .phase }, { on := 3, ground := .phase }, { on := 4, ground := .phase }], guard := none },
  { dst := some 8, op := .assign (.const (.int .i64 0)), type := 25, pos := "chain.go:123", after := #[{ on := 5, ground := .chain }, { on := 0, ground := .phase }, { on := 1, ground := .phase }, { on := 2, ground := .phase }, { on := 3, ground := .phase }, { on := 4, ground := .phase }, { on := 5, ground := .phase }], guard := none }]
def cBO : Code := (.seq (.region 0 rBO0 false) (.seq (.region 1 rBO1 false) (.seq (.seq (.region 2 rBO2 false) (.cond (.tmp 18) (.seq (.region 3 rBO3 false) .ret) .skip)) (.seq (.region 4 rBO4 false) (.seq (.seq (.region 5 rBO5 false) (.cond (.tmp 35) (.seq (.region 6 rBO6 false) .ret) .skip)) (.seq (.region 7 rBO7 false) .ret))))))
set_option maxRecDepth 100000 in
set_option maxHeartbeats 1000000 in
theorem bon_a {p q : Int} {no bb : Nat} {er : Int} (w : World) (her : ¬ er = 0)
    (kP : ∀ Z, Same w Z → Calls Try.prog 101 #[.pointer (some ⟨bb, 0, none⟩), .int .u32 (no : Int)] Z fun e w' => e = .returned (.tuple #[.agg #[.int .u8 0, .int .u32 0, .int .u64 0, .string ⟨#[]⟩], .int .i64 er]) ∧ Same Z w') :
    Calls Try.prog 12 #[.agg #[.int .i64 p, .int .i64 q], .iface 33 (.pointer (some ⟨bb, 0, none⟩)), .int .u32 (no : Int)] w fun e w' => e = .returned (.tuple #[.agg #[.int .u32 0, .slice none 0 0], .int .u32 0, .int .i64 er]) ∧ Same w w' := by
  have hed : (er == 0) = false := by simpa using her
  refine calls_abs (c := cBO) Try.func12 (by kernel_rfl) 41 rfl (by simp) (fun a0 hsz hd ha => ?_)
  have g_0 := Fe.refl a0
  unfold cBO
  refine wp_seq ?_
  refine wp_region_list ?_
  unfold rBO0
  have r_1 : (execOp a0.eval oQC16).run Try.prog (w) = .ok (.value (.pointer (some ⟨w.heap.size, 0, none⟩))) (w.alloc (.cells #[.int .i64 p, .int .i64 q] 23)) := by
    unfold oQC16
    have e0 := (show a0.eval (.tmp 0) = .agg #[.int .i64 p, .int .i64 q] from ((g_0.at_ 0).trans (ha 0 _ rfl)))
    clear g_0 ha
    generalize a0.eval = ρ at *
    go_simp
  refine g_0.stepW 3 (.pointer (some ⟨w.heap.size, 0, none⟩)) rfl (lb_ hsz) (wn rfl) r_1 (fun x_1 g_1 => ?_)
  clear r_1 g_0
  have r_2 : (execOp x_1.eval oQC17).run Try.prog (w.alloc (.cells #[.int .i64 p, .int .i64 q] 23)) = .ok (.value (.pointer (some ⟨w.heap.size + 1, 0, none⟩))) ((w.alloc (.cells #[.int .i64 p, .int .i64 q] 23)).alloc (.cells #[.int .u32 0, .slice none 0 0] 53)) := by
    unfold oQC17
    clear g_1 ha
    generalize x_1.eval = ρ at *
    go_simp
  refine g_1.stepW 6 (.pointer (some ⟨w.heap.size + 1, 0, none⟩)) rfl (lb_ hsz) (wn rfl) r_2 (fun x_2 g_2 => ?_)
  clear r_2 g_1
  refine g_2.move 7 (.int .u32 0) _ (Or.inr rfl) rfl (lb_ hsz) (wn rfl) rfl (fun x_3 g_3 => ?_)
  clear g_2
  refine g_3.move 8 (.int .i64 0) _ (Or.inr rfl) rfl (lb_ hsz) (wn rfl) rfl (fun x_4 g_4 => ?_)
  clear g_3
  refine wpList_nil ?_
  obtain ⟨V, hV⟩ : ∃ V, V = (w.alloc (.cells #[.int .i64 p, .int .i64 q] 23)).alloc (.cells #[.int .u32 0, .slice none 0 0] 53) := ⟨_, rfl⟩
  rw [← hV]
  have sV : Same w V := by rw [hV]; exact ((Fr.refl _ w).alloc _).alloc _
  have r0 : V.heap[w.heap.size]? = some (.cells #[.int .i64 p, .int .i64 q] 23 (0, 0)) := by rw [hV]; exact (((Fr.refl (fun _ => False) (w.alloc (.cells #[.int .i64 p, .int .i64 q] 23))).alloc _).block _ (by simp) (fun f => f)).trans (heap_alloc_new w _)
  have r1 : V.heap[w.heap.size + 1]? = some (.cells #[.int .u32 0, .slice none 0 0] 53 (0, 0)) := by
    rw [hV]
    have := heap_alloc_new (w.alloc (.cells #[.int .i64 p, .int .i64 q] 23)) (.cells #[.int .u32 0, .slice none 0 0] 53)
    simpa using this
  clear hV
  change Code.wp _ _ _ _ _
  refine wp_seq ?_
  refine wp_region_list ?_
  unfold rBO1
  refine g_4.move 12 (.iface 33 (.pointer (some ⟨bb, 0, none⟩))) _ (Or.inl rfl) rfl (lb_ hsz) (wn rfl) ((g_4.at_ 1).trans (ha 1 _ rfl)) (fun x_5 g_5 => ?_)
  clear g_4
  refine g_5.move 13 (.int .u32 (no : Int)) _ (Or.inl rfl) rfl (lb_ hsz) (wn rfl) ((g_5.at_ 2).trans (ha 2 _ rfl)) (fun x_6 g_6 => ?_)
  clear g_5
  have r_7 : (execOp x_6.eval oQC18).run Try.prog (V) = .ok (.enter 101 #[.pointer (some ⟨bb, 0, none⟩), .int .u32 (no : Int)]) (V) := by
    unfold oQC18
    have e12 : x_6.eval (.tmp 12) = .iface 33 (.pointer (some ⟨bb, 0, none⟩)) := g_6.at_ 12
    have e13 : x_6.eval (.tmp 13) = .int .u32 (no : Int) := g_6.at_ 13
    clear g_6 ha
    generalize x_6.eval = ρ at *
    go_simp
    rw [bk_method]
    · go_simp
    · kernel_rfl
  refine g_6.call 14 rfl (lb_ hsz) (wn rfl) r_7 (kP V sV) (fun e W1 hR => ?_)
  obtain ⟨rfl, s1⟩ := hR
  clear r_7
  refine ⟨_, rfl, fun x_7 g_7 => ?_⟩
  clear g_6
  refine g_7.move 11 (.tuple #[.agg #[.int .u8 0, .int .u32 0, .int .u64 0, .string ⟨#[]⟩], .int .i64 er]) _ (Or.inl rfl) rfl (lb_ hsz) (wn rfl) (g_7.at_ 14) (fun x_8 g_8 => ?_)
  clear g_7
  have r_9 : (execOp x_8.eval oQC19).run Try.prog (W1) = .ok (.value (.agg #[.int .u8 0, .int .u32 0, .int .u64 0, .string ⟨#[]⟩])) (W1) := by
    unfold oQC19
    have e11 : x_8.eval (.tmp 11) = .tuple #[.agg #[.int .u8 0, .int .u32 0, .int .u64 0, .string ⟨#[]⟩], .int .i64 er] := g_8.at_ 11
    clear g_8 ha
    generalize x_8.eval = ρ at *
    go_simp
  refine g_8.step 15 _ rfl (lb_ hsz) (wn rfl) r_9 (fun x_9 g_9 => ?_)
  clear r_9 g_8
  have r_10 : (execOp x_9.eval oQC20).run Try.prog (W1) = .ok (.value (.int .i64 er)) (W1) := by
    unfold oQC20
    have e11 : x_9.eval (.tmp 11) = .tuple #[.agg #[.int .u8 0, .int .u32 0, .int .u64 0, .string ⟨#[]⟩], .int .i64 er] := g_9.at_ 11
    clear g_9 ha
    generalize x_9.eval = ρ at *
    go_simp
  refine g_9.step 16 _ rfl (lb_ hsz) (wn rfl) r_10 (fun x_10 g_10 => ?_)
  clear r_10 g_9
  have r_11 : (execOp x_10.eval oQC21).run Try.prog (W1) = .ok (.value (.pointer (some ⟨W1.heap.size, 0, none⟩))) (W1.alloc (.cells #[.int .u8 0, .int .u32 0, .int .u64 0, .string ⟨#[]⟩] 76)) := by
    unfold oQC21
    clear g_10 ha
    generalize x_10.eval = ρ at *
    go_simp
  refine g_10.stepW 9 (.pointer (some ⟨W1.heap.size, 0, none⟩)) rfl (lb_ hsz) (wn rfl) r_11 (fun x_11 g_11 => ?_)
  clear r_11 g_10
  have r_12 : (execOp x_11.eval oQC22).run Try.prog (W1.alloc (.cells #[.int .u8 0, .int .u32 0, .int .u64 0, .string ⟨#[]⟩] 76)) = .ok .skip (W1.alloc (.cells #[.int .u8 0, .int .u32 0, .int .u64 0, .string ⟨#[]⟩] 76)) := by
    unfold oQC22
    have e9 : x_11.eval (.tmp 9) = .pointer (some ⟨W1.heap.size, 0, none⟩) := g_11.at_ 9
    have e15 : x_11.eval (.tmp 15) = .agg #[.int .u8 0, .int .u32 0, .int .u64 0, .string ⟨#[]⟩] := g_11.at_ 15
    clear g_11 ha
    generalize x_11.eval = ρ at *
    go_simp
  refine g_11.store rfl (wn rfl) r_12 (fun x_12 g_12 => ?_)
  clear r_12 g_11
  refine g_12.move 8 (.int .i64 er) _ (Or.inr rfl) rfl (lb_ hsz) (wn rfl) (g_12.at_ 16) (fun x_13 g_13 => ?_)
  clear g_12
  refine wpList_nil ?_
  obtain ⟨W2, hW2⟩ : ∃ W2, W2 = W1.alloc (.cells #[.int .u8 0, .int .u32 0, .int .u64 0, .string ⟨#[]⟩] 76) := ⟨_, rfl⟩
  rw [← hW2]
  have s2 : Same V W2 := by rw [hW2]; exact s1.alloc _
  have r2 : W2.heap[W1.heap.size]? = some (.cells #[.int .u8 0, .int .u32 0, .int .u64 0, .string ⟨#[]⟩] 76 (0, 0)) := by rw [hW2]; exact heap_alloc_new W1 _
  clear hW2
  change Code.wp _ _ _ _ _
  refine wp_seq (wp_seq ?_)
  refine wp_region_list ?_
  unfold rBO2
  refine g_13.move 17 (.int .i64 er) _ (Or.inl rfl) rfl (lb_ hsz) (wn rfl) (g_13.at_ 8) (fun x_14 g_14 => ?_)
  clear g_13
  have r_15 : (execOp x_14.eval oQC23).run Try.prog (W2) = .ok (.value (.bool true)) (W2) := by
    unfold oQC23
    have kc : ∀ v, x_14.eval (.const v) = v := fun _ => rfl
    have e17 : x_14.eval (.tmp 17) = .int .i64 er := g_14.at_ 17
    clear g_14 ha
    generalize x_14.eval = ρ at *
    go_simp
  refine g_14.step 18 _ rfl (lb_ hsz) (wn rfl) r_15 (fun x_15 g_15 => ?_)
  clear r_15 g_14
  refine wpList_nil ?_
  change Code.wp _ _ _ _ _
  refine wp_cond_true (show x_15.eval (.tmp 18) = .bool true from (g_15.at_ 18)) (wp_seq ?_)
  have r1b := (s2.block _ (lt_of_heap r1) (fun f => f)).trans r1
  obtain ⟨W3, hW3, r3, f3, th3⟩ := store_box (cells := #[.int .u32 0, .slice none 0 0]) r1b rfl
  refine wp_region_list ?_
  unfold rBO3
  have r_16 : (execOp x_15.eval oQC24).run Try.prog (W2) = .ok (.value (.agg #[.int .u32 0, .slice none 0 0])) (W2) := by
    unfold oQC24
    clear g_15 ha
    generalize x_15.eval = ρ at *
    go_simp
  refine g_15.step 19 _ rfl (lb_ hsz) (wn rfl) r_16 (fun x_16 g_16 => ?_)
  clear r_16 g_15
  refine g_16.move 20 (.int .i64 er) _ (Or.inl rfl) rfl (lb_ hsz) (wn rfl) (g_16.at_ 8) (fun x_17 g_17 => ?_)
  clear g_16
  have r_18 : (execOp x_17.eval oQC25).run Try.prog (W2) = .ok .skip (W3) := by
    unfold oQC25
    refine exec_storeQ rfl ?_
    rw [(show x_17.eval (.tmp 6) = .pointer (some ⟨w.heap.size + 1, 0, none⟩) from (g_17.at_ 6)), (show x_17.eval (.tmp 19) = .agg #[.int .u32 0, .slice none 0 0] from (g_17.at_ 19)), hW3]
    exact run_storeAt_mid _ (w.heap.size + 1) 0 53 #[.int .u32 0, .slice none 0 0] th3 (by kernel_rfl) (by kernel_rfl)
  refine g_17.store rfl (wn rfl) r_18 (fun x_18 g_18 => ?_)
  clear r_18 g_17
  refine g_18.move 7 (.int .u32 0) _ (Or.inr rfl) rfl (lb_ hsz) (wn rfl) rfl (fun x_19 g_19 => ?_)
  clear g_18
  refine g_19.move 8 (.int .i64 er) _ (Or.inr rfl) rfl (lb_ hsz) (wn rfl) (g_19.at_ 20) (fun x_20 g_20 => ?_)
  clear g_19
  refine wpList_nil ?_
  change Code.wp _ _ _ _ _
  refine wp_ret ?_
  exact ret_cell2 (P := Try.prog) (fn := Try.f12) (R := fun e w' => e = .returned (.tuple #[.agg #[.int .u32 0, .slice none 0 0], .int .u32 0, .int .i64 er]) ∧ Same w w') rfl (g_20.defers.trans hd) (show x_20.eval (.tmp 6) = .pointer (some ⟨w.heap.size + 1, 0, none⟩) from (g_20.at_ 6)) r3 Try.underlying53 rfl (by kernel_rfl) (show x_20.eval (.tmp 7) = .int .u32 0 from (g_20.at_ 7)) (show x_20.eval (.tmp 8) = .int .i64 er from (g_20.at_ 8)) ⟨rfl, Fr.trans (sV.trans s2) f3 (fun k hk e => by omega)⟩
set_option maxRecDepth 100000 in
set_option maxHeartbeats 1000000 in
theorem bon_b {p q : Int} {no bb : Nat} {x : Pgd} {nx nl : Nat} {ns : List Nat} {e2 : Int} (w : World) (h2 : ¬ e2 = 0)
    (kP : ∀ Z, Same w Z → Calls Try.prog 101 #[.pointer (some ⟨bb, 0, none⟩), .int .u32 (no : Int)] Z fun e w' => e = .returned (.tuple #[.agg #[.int .u8 (x.kind : Int), .int .u32 (x.no : Int), .int .u64 (x.ver : Int), .string x.body], .int .i64 0]) ∧ Same Z w')
    (kB : ∀ Z, Same w Z → Calls Try.prog 16 #[.agg #[.int .i64 p, .int .i64 q], .string x.body] Z fun e w' => (∃ ao cc, e = .returned (.tuple #[.int .u32 (nx : Int), .slice ao nl cc, .int .i64 e2]) ∧ w'.ownsRow Z.heap.size 28 1 (.slice ao nl cc) nl (ncells ns)) ∧ Same Z w') :
    Calls Try.prog 12 #[.agg #[.int .i64 p, .int .i64 q], .iface 33 (.pointer (some ⟨bb, 0, none⟩)), .int .u32 (no : Int)] w fun e w' => e = .returned (.tuple #[.agg #[.int .u32 0, .slice none 0 0], .int .u32 0, .int .i64 8]) ∧ Same w w' := by
  have hed : (e2 == 0) = false := by simpa using h2
  refine calls_abs (c := cBO) Try.func12 (by kernel_rfl) 41 rfl (by simp) (fun a0 hsz hd ha => ?_)
  have g_0 := Fe.refl a0
  unfold cBO
  refine wp_seq ?_
  refine wp_region_list ?_
  unfold rBO0
  have r_1 : (execOp a0.eval oQC16).run Try.prog (w) = .ok (.value (.pointer (some ⟨w.heap.size, 0, none⟩))) (w.alloc (.cells #[.int .i64 p, .int .i64 q] 23)) := by
    unfold oQC16
    have e0 := (show a0.eval (.tmp 0) = .agg #[.int .i64 p, .int .i64 q] from ((g_0.at_ 0).trans (ha 0 _ rfl)))
    clear g_0 ha
    generalize a0.eval = ρ at *
    go_simp
  refine g_0.stepW 3 (.pointer (some ⟨w.heap.size, 0, none⟩)) rfl (lb_ hsz) (wn rfl) r_1 (fun x_1 g_1 => ?_)
  clear r_1 g_0
  have r_2 : (execOp x_1.eval oQC17).run Try.prog (w.alloc (.cells #[.int .i64 p, .int .i64 q] 23)) = .ok (.value (.pointer (some ⟨w.heap.size + 1, 0, none⟩))) ((w.alloc (.cells #[.int .i64 p, .int .i64 q] 23)).alloc (.cells #[.int .u32 0, .slice none 0 0] 53)) := by
    unfold oQC17
    clear g_1 ha
    generalize x_1.eval = ρ at *
    go_simp
  refine g_1.stepW 6 (.pointer (some ⟨w.heap.size + 1, 0, none⟩)) rfl (lb_ hsz) (wn rfl) r_2 (fun x_2 g_2 => ?_)
  clear r_2 g_1
  refine g_2.move 7 (.int .u32 0) _ (Or.inr rfl) rfl (lb_ hsz) (wn rfl) rfl (fun x_3 g_3 => ?_)
  clear g_2
  refine g_3.move 8 (.int .i64 0) _ (Or.inr rfl) rfl (lb_ hsz) (wn rfl) rfl (fun x_4 g_4 => ?_)
  clear g_3
  refine wpList_nil ?_
  obtain ⟨V, hV⟩ : ∃ V, V = (w.alloc (.cells #[.int .i64 p, .int .i64 q] 23)).alloc (.cells #[.int .u32 0, .slice none 0 0] 53) := ⟨_, rfl⟩
  rw [← hV]
  have sV : Same w V := by rw [hV]; exact ((Fr.refl _ w).alloc _).alloc _
  have r0 : V.heap[w.heap.size]? = some (.cells #[.int .i64 p, .int .i64 q] 23 (0, 0)) := by rw [hV]; exact (((Fr.refl (fun _ => False) (w.alloc (.cells #[.int .i64 p, .int .i64 q] 23))).alloc _).block _ (by simp) (fun f => f)).trans (heap_alloc_new w _)
  have r1 : V.heap[w.heap.size + 1]? = some (.cells #[.int .u32 0, .slice none 0 0] 53 (0, 0)) := by
    rw [hV]
    have := heap_alloc_new (w.alloc (.cells #[.int .i64 p, .int .i64 q] 23)) (.cells #[.int .u32 0, .slice none 0 0] 53)
    simpa using this
  clear hV
  change Code.wp _ _ _ _ _
  refine wp_seq ?_
  refine wp_region_list ?_
  unfold rBO1
  refine g_4.move 12 (.iface 33 (.pointer (some ⟨bb, 0, none⟩))) _ (Or.inl rfl) rfl (lb_ hsz) (wn rfl) ((g_4.at_ 1).trans (ha 1 _ rfl)) (fun x_5 g_5 => ?_)
  clear g_4
  refine g_5.move 13 (.int .u32 (no : Int)) _ (Or.inl rfl) rfl (lb_ hsz) (wn rfl) ((g_5.at_ 2).trans (ha 2 _ rfl)) (fun x_6 g_6 => ?_)
  clear g_5
  have r_7 : (execOp x_6.eval oQC18).run Try.prog (V) = .ok (.enter 101 #[.pointer (some ⟨bb, 0, none⟩), .int .u32 (no : Int)]) (V) := by
    unfold oQC18
    have e12 : x_6.eval (.tmp 12) = .iface 33 (.pointer (some ⟨bb, 0, none⟩)) := g_6.at_ 12
    have e13 : x_6.eval (.tmp 13) = .int .u32 (no : Int) := g_6.at_ 13
    clear g_6 ha
    generalize x_6.eval = ρ at *
    go_simp
    rw [bk_method]
    · go_simp
    · kernel_rfl
  refine g_6.call 14 rfl (lb_ hsz) (wn rfl) r_7 (kP V sV) (fun e W1 hR => ?_)
  obtain ⟨rfl, s1⟩ := hR
  clear r_7
  refine ⟨_, rfl, fun x_7 g_7 => ?_⟩
  clear g_6
  refine g_7.move 11 (.tuple #[.agg #[.int .u8 (x.kind : Int), .int .u32 (x.no : Int), .int .u64 (x.ver : Int), .string x.body], .int .i64 0]) _ (Or.inl rfl) rfl (lb_ hsz) (wn rfl) (g_7.at_ 14) (fun x_8 g_8 => ?_)
  clear g_7
  have r_9 : (execOp x_8.eval oQC19).run Try.prog (W1) = .ok (.value (.agg #[.int .u8 (x.kind : Int), .int .u32 (x.no : Int), .int .u64 (x.ver : Int), .string x.body])) (W1) := by
    unfold oQC19
    have e11 : x_8.eval (.tmp 11) = .tuple #[.agg #[.int .u8 (x.kind : Int), .int .u32 (x.no : Int), .int .u64 (x.ver : Int), .string x.body], .int .i64 0] := g_8.at_ 11
    clear g_8 ha
    generalize x_8.eval = ρ at *
    go_simp
  refine g_8.step 15 _ rfl (lb_ hsz) (wn rfl) r_9 (fun x_9 g_9 => ?_)
  clear r_9 g_8
  have r_10 : (execOp x_9.eval oQC20).run Try.prog (W1) = .ok (.value (.int .i64 0)) (W1) := by
    unfold oQC20
    have e11 : x_9.eval (.tmp 11) = .tuple #[.agg #[.int .u8 (x.kind : Int), .int .u32 (x.no : Int), .int .u64 (x.ver : Int), .string x.body], .int .i64 0] := g_9.at_ 11
    clear g_9 ha
    generalize x_9.eval = ρ at *
    go_simp
  refine g_9.step 16 _ rfl (lb_ hsz) (wn rfl) r_10 (fun x_10 g_10 => ?_)
  clear r_10 g_9
  have r_11 : (execOp x_10.eval oQC21).run Try.prog (W1) = .ok (.value (.pointer (some ⟨W1.heap.size, 0, none⟩))) (W1.alloc (.cells #[.int .u8 0, .int .u32 0, .int .u64 0, .string ⟨#[]⟩] 76)) := by
    unfold oQC21
    clear g_10 ha
    generalize x_10.eval = ρ at *
    go_simp
  refine g_10.stepW 9 (.pointer (some ⟨W1.heap.size, 0, none⟩)) rfl (lb_ hsz) (wn rfl) r_11 (fun x_11 g_11 => ?_)
  clear r_11 g_10
  have r_12 : (execOp x_11.eval oQC22).run Try.prog (W1.alloc (.cells #[.int .u8 0, .int .u32 0, .int .u64 0, .string ⟨#[]⟩] 76)) = .ok .skip (W1.alloc (.cells #[.int .u8 (x.kind : Int), .int .u32 (x.no : Int), .int .u64 (x.ver : Int), .string x.body] 76)) := by
    unfold oQC22
    have e9 : x_11.eval (.tmp 9) = .pointer (some ⟨W1.heap.size, 0, none⟩) := g_11.at_ 9
    have e15 : x_11.eval (.tmp 15) = .agg #[.int .u8 (x.kind : Int), .int .u32 (x.no : Int), .int .u64 (x.ver : Int), .string x.body] := g_11.at_ 15
    clear g_11 ha
    generalize x_11.eval = ρ at *
    go_simp
  refine g_11.store rfl (wn rfl) r_12 (fun x_12 g_12 => ?_)
  clear r_12 g_11
  refine g_12.move 8 (.int .i64 0) _ (Or.inr rfl) rfl (lb_ hsz) (wn rfl) (g_12.at_ 16) (fun x_13 g_13 => ?_)
  clear g_12
  refine wpList_nil ?_
  obtain ⟨W2, hW2⟩ : ∃ W2, W2 = W1.alloc (.cells #[.int .u8 (x.kind : Int), .int .u32 (x.no : Int), .int .u64 (x.ver : Int), .string x.body] 76) := ⟨_, rfl⟩
  rw [← hW2]
  have s2 : Same V W2 := by rw [hW2]; exact s1.alloc _
  have r2 : W2.heap[W1.heap.size]? = some (.cells #[.int .u8 (x.kind : Int), .int .u32 (x.no : Int), .int .u64 (x.ver : Int), .string x.body] 76 (0, 0)) := by rw [hW2]; exact heap_alloc_new W1 _
  clear hW2
  change Code.wp _ _ _ _ _
  refine wp_seq (wp_seq ?_)
  refine wp_region_list ?_
  unfold rBO2
  refine g_13.move 17 (.int .i64 0) _ (Or.inl rfl) rfl (lb_ hsz) (wn rfl) (g_13.at_ 8) (fun x_14 g_14 => ?_)
  clear g_13
  have r_15 : (execOp x_14.eval oQC23).run Try.prog (W2) = .ok (.value (.bool false)) (W2) := by
    unfold oQC23
    have kc : ∀ v, x_14.eval (.const v) = v := fun _ => rfl
    have e17 : x_14.eval (.tmp 17) = .int .i64 0 := g_14.at_ 17
    clear g_14 ha
    generalize x_14.eval = ρ at *
    go_simp
  refine g_14.step 18 _ rfl (lb_ hsz) (wn rfl) r_15 (fun x_15 g_15 => ?_)
  clear r_15 g_14
  refine wpList_nil ?_
  change Code.wp _ _ _ _ _
  refine wp_cond_false (show x_15.eval (.tmp 18) = .bool false from (g_15.at_ 18)) (wp_skip ?_)
  change Code.wp _ _ _ _ _
  refine wp_seq ?_
  have c0 := s2.keep ((cell_of_row _ _ _ _ _ _ r0).trans rfl : V.cell? ⟨w.heap.size, 0, none⟩ = some (.int .i64 p))
  have c1 := s2.keep ((cell_of_row _ _ _ _ _ _ r0).trans rfl : V.cell? ⟨w.heap.size, 1, none⟩ = some (.int .i64 q))
  have e3 : W2.cell? ⟨W1.heap.size, 3, none⟩ = some (.string x.body) := (cell_of_row _ _ _ _ _ _ r2).trans rfl
  refine wp_region_list ?_
  unfold rBO4
  have r_16 : (execOp x_15.eval oQC26).run Try.prog (W2) = .ok (.value (.agg #[.int .i64 p, .int .i64 q])) (W2) := by
    unfold oQC26
    have e3 : x_15.eval (.tmp 3) = .pointer (some ⟨w.heap.size, 0, none⟩) := g_15.at_ 3
    clear g_15 ha
    generalize x_15.eval = ρ at *
    go_simp
  refine g_15.step 22 _ rfl (lb_ hsz) (wn rfl) r_16 (fun x_16 g_16 => ?_)
  clear r_16 g_15
  have r_17 : (execOp x_16.eval oQC27).run Try.prog (W2) = .ok (.value (.pointer (some ⟨W1.heap.size, 3, none⟩))) (W2) := by
    unfold oQC27
    have e9 : x_16.eval (.tmp 9) = .pointer (some ⟨W1.heap.size, 0, none⟩) := g_16.at_ 9
    clear g_16 ha
    generalize x_16.eval = ρ at *
    go_simp
  refine g_16.step 23 _ rfl (lb_ hsz) (wn rfl) r_17 (fun x_17 g_17 => ?_)
  clear r_17 g_16
  have r_18 : (execOp x_17.eval oQC28).run Try.prog (W2) = .ok (.value (.string x.body)) (W2) := by
    unfold oQC28
    have e23 : x_17.eval (.tmp 23) = .pointer (some ⟨W1.heap.size, 3, none⟩) := g_17.at_ 23
    clear g_17 ha
    generalize x_17.eval = ρ at *
    go_simp
  refine g_17.step 24 _ rfl (lb_ hsz) (wn rfl) r_18 (fun x_18 g_18 => ?_)
  clear r_18 g_17
  have r_19 : (execOp x_18.eval oQC29).run Try.prog (W2) = .ok (.enter 16 #[.agg #[.int .i64 p, .int .i64 q], .string x.body]) (W2) := by
    unfold oQC29
    have kf : ∀ f, x_18.eval (.func f) = .func (.func f) #[] #[] := fun _ => rfl
    have e22 : x_18.eval (.tmp 22) = .agg #[.int .i64 p, .int .i64 q] := g_18.at_ 22
    have e24 : x_18.eval (.tmp 24) = .string x.body := g_18.at_ 24
    clear g_18 ha
    generalize x_18.eval = ρ at *
    go_simp
  refine g_18.call 25 rfl (lb_ hsz) (wn rfl) r_19 (kB W2 (sV.trans s2)) (fun e W4 hR => ?_)
  obtain ⟨⟨ao, cc, rfl, o4⟩, s4⟩ := hR
  clear r_19
  refine ⟨_, rfl, fun x_19 g_19 => ?_⟩
  clear g_18
  refine g_19.move 21 (.tuple #[.int .u32 (nx : Int), .slice ao nl cc, .int .i64 e2]) _ (Or.inl rfl) rfl (lb_ hsz) (wn rfl) (g_19.at_ 25) (fun x_20 g_20 => ?_)
  clear g_19
  have r_21 : (execOp x_20.eval oQC30).run Try.prog (W4) = .ok (.value (.int .u32 (nx : Int))) (W4) := by
    unfold oQC30
    have e21 : x_20.eval (.tmp 21) = .tuple #[.int .u32 (nx : Int), .slice ao nl cc, .int .i64 e2] := g_20.at_ 21
    clear g_20 ha
    generalize x_20.eval = ρ at *
    go_simp
  refine g_20.step 26 _ rfl (lb_ hsz) (wn rfl) r_21 (fun x_21 g_21 => ?_)
  clear r_21 g_20
  have r_22 : (execOp x_21.eval oQC31).run Try.prog (W4) = .ok (.value (.slice ao nl cc)) (W4) := by
    unfold oQC31
    have e21 : x_21.eval (.tmp 21) = .tuple #[.int .u32 (nx : Int), .slice ao nl cc, .int .i64 e2] := g_21.at_ 21
    clear g_21 ha
    generalize x_21.eval = ρ at *
    go_simp
  refine g_21.step 27 _ rfl (lb_ hsz) (wn rfl) r_22 (fun x_22 g_22 => ?_)
  clear r_22 g_21
  have r_23 : (execOp x_22.eval oQC32).run Try.prog (W4) = .ok (.value (.int .i64 e2)) (W4) := by
    unfold oQC32
    have e21 : x_22.eval (.tmp 21) = .tuple #[.int .u32 (nx : Int), .slice ao nl cc, .int .i64 e2] := g_22.at_ 21
    clear g_22 ha
    generalize x_22.eval = ρ at *
    go_simp
  refine g_22.step 28 _ rfl (lb_ hsz) (wn rfl) r_23 (fun x_23 g_23 => ?_)
  clear r_23 g_22
  refine g_23.move 7 (.int .u32 (nx : Int)) _ (Or.inr rfl) rfl (lb_ hsz) (wn rfl) (g_23.at_ 26) (fun x_24 g_24 => ?_)
  clear g_23
  refine g_24.move 10 (.slice ao nl cc) _ (Or.inr rfl) rfl (lb_ hsz) (wn rfl) (g_24.at_ 27) (fun x_25 g_25 => ?_)
  clear g_24
  refine g_25.move 8 (.int .i64 e2) _ (Or.inr rfl) rfl (lb_ hsz) (wn rfl) (g_25.at_ 28) (fun x_26 g_26 => ?_)
  clear g_25
  refine wpList_nil ?_
  have e0 : W4.cell? ⟨W1.heap.size, 0, none⟩ = some (.int .u8 (x.kind : Int)) := s4.keep ((cell_of_row _ _ _ _ _ _ r2).trans rfl)
  have r1b := ((s2.trans s4).block _ (lt_of_heap r1) (fun f => f)).trans r1
  change Code.wp _ _ _ _ _
  refine wp_seq (wp_seq ?_)
  refine wp_region_list ?_
  unfold rBO5
  refine g_26.move 29 (.int .i64 e2) _ (Or.inl rfl) rfl (lb_ hsz) (wn rfl) (g_26.at_ 8) (fun x_27 g_27 => ?_)
  clear g_26
  have r_28 : (execOp x_27.eval oQC33).run Try.prog (W4) = .ok (.value (.bool true)) (W4) := by
    unfold oQC33
    have kc : ∀ v, x_27.eval (.const v) = v := fun _ => rfl
    have e29 : x_27.eval (.tmp 29) = .int .i64 e2 := g_27.at_ 29
    clear g_27 ha
    generalize x_27.eval = ρ at *
    go_simp
  refine g_27.step 30 _ rfl (lb_ hsz) (wn rfl) r_28 (fun x_28 g_28 => ?_)
  clear r_28 g_27
  refine g_28.move 31 (.bool true) _ (Or.inl rfl) rfl (lb_ hsz) (wn rfl) (g_28.at_ 30) (fun x_29 g_29 => ?_)
  clear g_28
  refine g_29.skip 32 rfl (lb_ hsz) ((wanted_at (t := 31) (c := true) (b := false) rfl rfl rfl (lb_ (g_29.size.trans hsz)) (g_29.at_ 31)).trans (by rfl)) (fun x_30 g_30 => ?_)
  clear g_29
  refine g_30.skip 33 rfl (lb_ hsz) ((wanted_at (t := 31) (c := true) (b := false) rfl rfl rfl (lb_ (g_30.size.trans hsz)) (g_30.at_ 31)).trans (by rfl)) (fun x_31 g_31 => ?_)
  clear g_30
  refine g_31.skip 34 rfl (lb_ hsz) ((wanted_at (t := 31) (c := true) (b := false) rfl rfl rfl (lb_ (g_31.size.trans hsz)) (g_31.at_ 31)).trans (by rfl)) (fun x_32 g_32 => ?_)
  clear g_31
  have r_33 : (execOp x_32.eval oQC37).run Try.prog (W4) = .ok (.value (.bool true)) (W4) := by
    unfold oQC37
    have kc : ∀ v, x_32.eval (.const v) = v := fun _ => rfl
    have e31 : x_32.eval (.tmp 31) = .bool true := g_32.at_ 31
    have e34 : x_32.eval (.tmp 34) = undef := g_32.at_ 34
    clear g_32 ha
    generalize x_32.eval = ρ at *
    go_simp
  refine g_32.step 35 _ rfl (lb_ hsz) (wn rfl) r_33 (fun x_33 g_33 => ?_)
  clear r_33 g_32
  refine wpList_nil ?_
  change Code.wp _ _ _ _ _
  refine wp_cond_true (show x_33.eval (.tmp 35) = .bool true from (g_33.at_ 35)) (wp_seq ?_)
  obtain ⟨W5, hW5, r5, f5, th5⟩ := store_box (cells := #[.int .u32 0, .slice none 0 0]) r1b rfl
  refine wp_region_list ?_
  unfold rBO6
  have r_34 : (execOp x_33.eval oQC38).run Try.prog (W4) = .ok (.value (.agg #[.int .u32 0, .slice none 0 0])) (W4) := by
    unfold oQC38
    clear g_33 ha
    generalize x_33.eval = ρ at *
    go_simp
  refine g_33.step 36 _ rfl (lb_ hsz) (wn rfl) r_34 (fun x_34 g_34 => ?_)
  clear r_34 g_33
  have r_35 : (execOp x_34.eval oQC39).run Try.prog (W4) = .ok .skip (W5) := by
    unfold oQC39
    refine exec_storeQ rfl ?_
    rw [(show x_34.eval (.tmp 6) = .pointer (some ⟨w.heap.size + 1, 0, none⟩) from (g_34.at_ 6)), (show x_34.eval (.tmp 36) = .agg #[.int .u32 0, .slice none 0 0] from (g_34.at_ 36)), hW5]
    exact run_storeAt_mid _ (w.heap.size + 1) 0 53 #[.int .u32 0, .slice none 0 0] th5 (by kernel_rfl) (by kernel_rfl)
  refine g_34.store rfl (wn rfl) r_35 (fun x_35 g_35 => ?_)
  clear r_35 g_34
  refine g_35.move 7 (.int .u32 0) _ (Or.inr rfl) rfl (lb_ hsz) (wn rfl) rfl (fun x_36 g_36 => ?_)
  clear g_35
  refine g_36.move 8 (.int .i64 8) _ (Or.inr rfl) rfl (lb_ hsz) (wn rfl) rfl (fun x_37 g_37 => ?_)
  clear g_36
  refine wpList_nil ?_
  change Code.wp _ _ _ _ _
  refine wp_ret ?_
  exact ret_cell2 (P := Try.prog) (fn := Try.f12) (R := fun e w' => e = .returned (.tuple #[.agg #[.int .u32 0, .slice none 0 0], .int .u32 0, .int .i64 8]) ∧ Same w w') rfl (g_37.defers.trans hd) (show x_37.eval (.tmp 6) = .pointer (some ⟨w.heap.size + 1, 0, none⟩) from (g_37.at_ 6)) r5 Try.underlying53 rfl (by kernel_rfl) (show x_37.eval (.tmp 7) = .int .u32 0 from (g_37.at_ 7)) (show x_37.eval (.tmp 8) = .int .i64 8 from (g_37.at_ 8)) ⟨rfl, Fr.trans ((sV.trans s2).trans s4) f5 (fun k hk e => by omega)⟩
set_option maxRecDepth 100000 in
set_option maxHeartbeats 1000000 in
theorem bon_c {p q : Int} {no bb : Nat} {x : Pgd} {nx nl : Nat} {ns : List Nat} (w : World) (hk : x.kind ≠ 3)
    (kP : ∀ Z, Same w Z → Calls Try.prog 101 #[.pointer (some ⟨bb, 0, none⟩), .int .u32 (no : Int)] Z fun e w' => e = .returned (.tuple #[.agg #[.int .u8 (x.kind : Int), .int .u32 (x.no : Int), .int .u64 (x.ver : Int), .string x.body], .int .i64 0]) ∧ Same Z w')
    (kB : ∀ Z, Same w Z → Calls Try.prog 16 #[.agg #[.int .i64 p, .int .i64 q], .string x.body] Z fun e w' => (∃ ao cc, e = .returned (.tuple #[.int .u32 (nx : Int), .slice ao nl cc, .int .i64 0]) ∧ w'.ownsRow Z.heap.size 28 1 (.slice ao nl cc) nl (ncells ns)) ∧ Same Z w') :
    Calls Try.prog 12 #[.agg #[.int .i64 p, .int .i64 q], .iface 33 (.pointer (some ⟨bb, 0, none⟩)), .int .u32 (no : Int)] w fun e w' => e = .returned (.tuple #[.agg #[.int .u32 0, .slice none 0 0], .int .u32 0, .int .i64 8]) ∧ Same w w' := by
  have hki : ¬ (x.kind : Int) = 3 := by omega
  have hkd : ((x.kind : Int) == 3) = false := by simpa using hki
  clear hk
  refine calls_abs (c := cBO) Try.func12 (by kernel_rfl) 41 rfl (by simp) (fun a0 hsz hd ha => ?_)
  have g_0 := Fe.refl a0
  unfold cBO
  refine wp_seq ?_
  refine wp_region_list ?_
  unfold rBO0
  have r_1 : (execOp a0.eval oQC16).run Try.prog (w) = .ok (.value (.pointer (some ⟨w.heap.size, 0, none⟩))) (w.alloc (.cells #[.int .i64 p, .int .i64 q] 23)) := by
    unfold oQC16
    have e0 := (show a0.eval (.tmp 0) = .agg #[.int .i64 p, .int .i64 q] from ((g_0.at_ 0).trans (ha 0 _ rfl)))
    clear g_0 ha
    generalize a0.eval = ρ at *
    go_simp
  refine g_0.stepW 3 (.pointer (some ⟨w.heap.size, 0, none⟩)) rfl (lb_ hsz) (wn rfl) r_1 (fun x_1 g_1 => ?_)
  clear r_1 g_0
  have r_2 : (execOp x_1.eval oQC17).run Try.prog (w.alloc (.cells #[.int .i64 p, .int .i64 q] 23)) = .ok (.value (.pointer (some ⟨w.heap.size + 1, 0, none⟩))) ((w.alloc (.cells #[.int .i64 p, .int .i64 q] 23)).alloc (.cells #[.int .u32 0, .slice none 0 0] 53)) := by
    unfold oQC17
    clear g_1 ha
    generalize x_1.eval = ρ at *
    go_simp
  refine g_1.stepW 6 (.pointer (some ⟨w.heap.size + 1, 0, none⟩)) rfl (lb_ hsz) (wn rfl) r_2 (fun x_2 g_2 => ?_)
  clear r_2 g_1
  refine g_2.move 7 (.int .u32 0) _ (Or.inr rfl) rfl (lb_ hsz) (wn rfl) rfl (fun x_3 g_3 => ?_)
  clear g_2
  refine g_3.move 8 (.int .i64 0) _ (Or.inr rfl) rfl (lb_ hsz) (wn rfl) rfl (fun x_4 g_4 => ?_)
  clear g_3
  refine wpList_nil ?_
  obtain ⟨V, hV⟩ : ∃ V, V = (w.alloc (.cells #[.int .i64 p, .int .i64 q] 23)).alloc (.cells #[.int .u32 0, .slice none 0 0] 53) := ⟨_, rfl⟩
  rw [← hV]
  have sV : Same w V := by rw [hV]; exact ((Fr.refl _ w).alloc _).alloc _
  have r0 : V.heap[w.heap.size]? = some (.cells #[.int .i64 p, .int .i64 q] 23 (0, 0)) := by rw [hV]; exact (((Fr.refl (fun _ => False) (w.alloc (.cells #[.int .i64 p, .int .i64 q] 23))).alloc _).block _ (by simp) (fun f => f)).trans (heap_alloc_new w _)
  have r1 : V.heap[w.heap.size + 1]? = some (.cells #[.int .u32 0, .slice none 0 0] 53 (0, 0)) := by
    rw [hV]
    have := heap_alloc_new (w.alloc (.cells #[.int .i64 p, .int .i64 q] 23)) (.cells #[.int .u32 0, .slice none 0 0] 53)
    simpa using this
  clear hV
  change Code.wp _ _ _ _ _
  refine wp_seq ?_
  refine wp_region_list ?_
  unfold rBO1
  refine g_4.move 12 (.iface 33 (.pointer (some ⟨bb, 0, none⟩))) _ (Or.inl rfl) rfl (lb_ hsz) (wn rfl) ((g_4.at_ 1).trans (ha 1 _ rfl)) (fun x_5 g_5 => ?_)
  clear g_4
  refine g_5.move 13 (.int .u32 (no : Int)) _ (Or.inl rfl) rfl (lb_ hsz) (wn rfl) ((g_5.at_ 2).trans (ha 2 _ rfl)) (fun x_6 g_6 => ?_)
  clear g_5
  have r_7 : (execOp x_6.eval oQC18).run Try.prog (V) = .ok (.enter 101 #[.pointer (some ⟨bb, 0, none⟩), .int .u32 (no : Int)]) (V) := by
    unfold oQC18
    have e12 : x_6.eval (.tmp 12) = .iface 33 (.pointer (some ⟨bb, 0, none⟩)) := g_6.at_ 12
    have e13 : x_6.eval (.tmp 13) = .int .u32 (no : Int) := g_6.at_ 13
    clear g_6 ha
    generalize x_6.eval = ρ at *
    go_simp
    rw [bk_method]
    · go_simp
    · kernel_rfl
  refine g_6.call 14 rfl (lb_ hsz) (wn rfl) r_7 (kP V sV) (fun e W1 hR => ?_)
  obtain ⟨rfl, s1⟩ := hR
  clear r_7
  refine ⟨_, rfl, fun x_7 g_7 => ?_⟩
  clear g_6
  refine g_7.move 11 (.tuple #[.agg #[.int .u8 (x.kind : Int), .int .u32 (x.no : Int), .int .u64 (x.ver : Int), .string x.body], .int .i64 0]) _ (Or.inl rfl) rfl (lb_ hsz) (wn rfl) (g_7.at_ 14) (fun x_8 g_8 => ?_)
  clear g_7
  have r_9 : (execOp x_8.eval oQC19).run Try.prog (W1) = .ok (.value (.agg #[.int .u8 (x.kind : Int), .int .u32 (x.no : Int), .int .u64 (x.ver : Int), .string x.body])) (W1) := by
    unfold oQC19
    have e11 : x_8.eval (.tmp 11) = .tuple #[.agg #[.int .u8 (x.kind : Int), .int .u32 (x.no : Int), .int .u64 (x.ver : Int), .string x.body], .int .i64 0] := g_8.at_ 11
    clear g_8 ha
    generalize x_8.eval = ρ at *
    go_simp
  refine g_8.step 15 _ rfl (lb_ hsz) (wn rfl) r_9 (fun x_9 g_9 => ?_)
  clear r_9 g_8
  have r_10 : (execOp x_9.eval oQC20).run Try.prog (W1) = .ok (.value (.int .i64 0)) (W1) := by
    unfold oQC20
    have e11 : x_9.eval (.tmp 11) = .tuple #[.agg #[.int .u8 (x.kind : Int), .int .u32 (x.no : Int), .int .u64 (x.ver : Int), .string x.body], .int .i64 0] := g_9.at_ 11
    clear g_9 ha
    generalize x_9.eval = ρ at *
    go_simp
  refine g_9.step 16 _ rfl (lb_ hsz) (wn rfl) r_10 (fun x_10 g_10 => ?_)
  clear r_10 g_9
  have r_11 : (execOp x_10.eval oQC21).run Try.prog (W1) = .ok (.value (.pointer (some ⟨W1.heap.size, 0, none⟩))) (W1.alloc (.cells #[.int .u8 0, .int .u32 0, .int .u64 0, .string ⟨#[]⟩] 76)) := by
    unfold oQC21
    clear g_10 ha
    generalize x_10.eval = ρ at *
    go_simp
  refine g_10.stepW 9 (.pointer (some ⟨W1.heap.size, 0, none⟩)) rfl (lb_ hsz) (wn rfl) r_11 (fun x_11 g_11 => ?_)
  clear r_11 g_10
  have r_12 : (execOp x_11.eval oQC22).run Try.prog (W1.alloc (.cells #[.int .u8 0, .int .u32 0, .int .u64 0, .string ⟨#[]⟩] 76)) = .ok .skip (W1.alloc (.cells #[.int .u8 (x.kind : Int), .int .u32 (x.no : Int), .int .u64 (x.ver : Int), .string x.body] 76)) := by
    unfold oQC22
    have e9 : x_11.eval (.tmp 9) = .pointer (some ⟨W1.heap.size, 0, none⟩) := g_11.at_ 9
    have e15 : x_11.eval (.tmp 15) = .agg #[.int .u8 (x.kind : Int), .int .u32 (x.no : Int), .int .u64 (x.ver : Int), .string x.body] := g_11.at_ 15
    clear g_11 ha
    generalize x_11.eval = ρ at *
    go_simp
  refine g_11.store rfl (wn rfl) r_12 (fun x_12 g_12 => ?_)
  clear r_12 g_11
  refine g_12.move 8 (.int .i64 0) _ (Or.inr rfl) rfl (lb_ hsz) (wn rfl) (g_12.at_ 16) (fun x_13 g_13 => ?_)
  clear g_12
  refine wpList_nil ?_
  obtain ⟨W2, hW2⟩ : ∃ W2, W2 = W1.alloc (.cells #[.int .u8 (x.kind : Int), .int .u32 (x.no : Int), .int .u64 (x.ver : Int), .string x.body] 76) := ⟨_, rfl⟩
  rw [← hW2]
  have s2 : Same V W2 := by rw [hW2]; exact s1.alloc _
  have r2 : W2.heap[W1.heap.size]? = some (.cells #[.int .u8 (x.kind : Int), .int .u32 (x.no : Int), .int .u64 (x.ver : Int), .string x.body] 76 (0, 0)) := by rw [hW2]; exact heap_alloc_new W1 _
  clear hW2
  change Code.wp _ _ _ _ _
  refine wp_seq (wp_seq ?_)
  refine wp_region_list ?_
  unfold rBO2
  refine g_13.move 17 (.int .i64 0) _ (Or.inl rfl) rfl (lb_ hsz) (wn rfl) (g_13.at_ 8) (fun x_14 g_14 => ?_)
  clear g_13
  have r_15 : (execOp x_14.eval oQC23).run Try.prog (W2) = .ok (.value (.bool false)) (W2) := by
    unfold oQC23
    have kc : ∀ v, x_14.eval (.const v) = v := fun _ => rfl
    have e17 : x_14.eval (.tmp 17) = .int .i64 0 := g_14.at_ 17
    clear g_14 ha
    generalize x_14.eval = ρ at *
    go_simp
  refine g_14.step 18 _ rfl (lb_ hsz) (wn rfl) r_15 (fun x_15 g_15 => ?_)
  clear r_15 g_14
  refine wpList_nil ?_
  change Code.wp _ _ _ _ _
  refine wp_cond_false (show x_15.eval (.tmp 18) = .bool false from (g_15.at_ 18)) (wp_skip ?_)
  change Code.wp _ _ _ _ _
  refine wp_seq ?_
  have c0 := s2.keep ((cell_of_row _ _ _ _ _ _ r0).trans rfl : V.cell? ⟨w.heap.size, 0, none⟩ = some (.int .i64 p))
  have c1 := s2.keep ((cell_of_row _ _ _ _ _ _ r0).trans rfl : V.cell? ⟨w.heap.size, 1, none⟩ = some (.int .i64 q))
  have e3 : W2.cell? ⟨W1.heap.size, 3, none⟩ = some (.string x.body) := (cell_of_row _ _ _ _ _ _ r2).trans rfl
  refine wp_region_list ?_
  unfold rBO4
  have r_16 : (execOp x_15.eval oQC26).run Try.prog (W2) = .ok (.value (.agg #[.int .i64 p, .int .i64 q])) (W2) := by
    unfold oQC26
    have e3 : x_15.eval (.tmp 3) = .pointer (some ⟨w.heap.size, 0, none⟩) := g_15.at_ 3
    clear g_15 ha
    generalize x_15.eval = ρ at *
    go_simp
  refine g_15.step 22 _ rfl (lb_ hsz) (wn rfl) r_16 (fun x_16 g_16 => ?_)
  clear r_16 g_15
  have r_17 : (execOp x_16.eval oQC27).run Try.prog (W2) = .ok (.value (.pointer (some ⟨W1.heap.size, 3, none⟩))) (W2) := by
    unfold oQC27
    have e9 : x_16.eval (.tmp 9) = .pointer (some ⟨W1.heap.size, 0, none⟩) := g_16.at_ 9
    clear g_16 ha
    generalize x_16.eval = ρ at *
    go_simp
  refine g_16.step 23 _ rfl (lb_ hsz) (wn rfl) r_17 (fun x_17 g_17 => ?_)
  clear r_17 g_16
  have r_18 : (execOp x_17.eval oQC28).run Try.prog (W2) = .ok (.value (.string x.body)) (W2) := by
    unfold oQC28
    have e23 : x_17.eval (.tmp 23) = .pointer (some ⟨W1.heap.size, 3, none⟩) := g_17.at_ 23
    clear g_17 ha
    generalize x_17.eval = ρ at *
    go_simp
  refine g_17.step 24 _ rfl (lb_ hsz) (wn rfl) r_18 (fun x_18 g_18 => ?_)
  clear r_18 g_17
  have r_19 : (execOp x_18.eval oQC29).run Try.prog (W2) = .ok (.enter 16 #[.agg #[.int .i64 p, .int .i64 q], .string x.body]) (W2) := by
    unfold oQC29
    have kf : ∀ f, x_18.eval (.func f) = .func (.func f) #[] #[] := fun _ => rfl
    have e22 : x_18.eval (.tmp 22) = .agg #[.int .i64 p, .int .i64 q] := g_18.at_ 22
    have e24 : x_18.eval (.tmp 24) = .string x.body := g_18.at_ 24
    clear g_18 ha
    generalize x_18.eval = ρ at *
    go_simp
  refine g_18.call 25 rfl (lb_ hsz) (wn rfl) r_19 (kB W2 (sV.trans s2)) (fun e W4 hR => ?_)
  obtain ⟨⟨ao, cc, rfl, o4⟩, s4⟩ := hR
  clear r_19
  refine ⟨_, rfl, fun x_19 g_19 => ?_⟩
  clear g_18
  refine g_19.move 21 (.tuple #[.int .u32 (nx : Int), .slice ao nl cc, .int .i64 0]) _ (Or.inl rfl) rfl (lb_ hsz) (wn rfl) (g_19.at_ 25) (fun x_20 g_20 => ?_)
  clear g_19
  have r_21 : (execOp x_20.eval oQC30).run Try.prog (W4) = .ok (.value (.int .u32 (nx : Int))) (W4) := by
    unfold oQC30
    have e21 : x_20.eval (.tmp 21) = .tuple #[.int .u32 (nx : Int), .slice ao nl cc, .int .i64 0] := g_20.at_ 21
    clear g_20 ha
    generalize x_20.eval = ρ at *
    go_simp
  refine g_20.step 26 _ rfl (lb_ hsz) (wn rfl) r_21 (fun x_21 g_21 => ?_)
  clear r_21 g_20
  have r_22 : (execOp x_21.eval oQC31).run Try.prog (W4) = .ok (.value (.slice ao nl cc)) (W4) := by
    unfold oQC31
    have e21 : x_21.eval (.tmp 21) = .tuple #[.int .u32 (nx : Int), .slice ao nl cc, .int .i64 0] := g_21.at_ 21
    clear g_21 ha
    generalize x_21.eval = ρ at *
    go_simp
  refine g_21.step 27 _ rfl (lb_ hsz) (wn rfl) r_22 (fun x_22 g_22 => ?_)
  clear r_22 g_21
  have r_23 : (execOp x_22.eval oQC32).run Try.prog (W4) = .ok (.value (.int .i64 0)) (W4) := by
    unfold oQC32
    have e21 : x_22.eval (.tmp 21) = .tuple #[.int .u32 (nx : Int), .slice ao nl cc, .int .i64 0] := g_22.at_ 21
    clear g_22 ha
    generalize x_22.eval = ρ at *
    go_simp
  refine g_22.step 28 _ rfl (lb_ hsz) (wn rfl) r_23 (fun x_23 g_23 => ?_)
  clear r_23 g_22
  refine g_23.move 7 (.int .u32 (nx : Int)) _ (Or.inr rfl) rfl (lb_ hsz) (wn rfl) (g_23.at_ 26) (fun x_24 g_24 => ?_)
  clear g_23
  refine g_24.move 10 (.slice ao nl cc) _ (Or.inr rfl) rfl (lb_ hsz) (wn rfl) (g_24.at_ 27) (fun x_25 g_25 => ?_)
  clear g_24
  refine g_25.move 8 (.int .i64 0) _ (Or.inr rfl) rfl (lb_ hsz) (wn rfl) (g_25.at_ 28) (fun x_26 g_26 => ?_)
  clear g_25
  refine wpList_nil ?_
  have e0 : W4.cell? ⟨W1.heap.size, 0, none⟩ = some (.int .u8 (x.kind : Int)) := s4.keep ((cell_of_row _ _ _ _ _ _ r2).trans rfl)
  have r1b := ((s2.trans s4).block _ (lt_of_heap r1) (fun f => f)).trans r1
  change Code.wp _ _ _ _ _
  refine wp_seq (wp_seq ?_)
  refine wp_region_list ?_
  unfold rBO5
  refine g_26.move 29 (.int .i64 0) _ (Or.inl rfl) rfl (lb_ hsz) (wn rfl) (g_26.at_ 8) (fun x_27 g_27 => ?_)
  clear g_26
  have r_28 : (execOp x_27.eval oQC33).run Try.prog (W4) = .ok (.value (.bool false)) (W4) := by
    unfold oQC33
    have kc : ∀ v, x_27.eval (.const v) = v := fun _ => rfl
    have e29 : x_27.eval (.tmp 29) = .int .i64 0 := g_27.at_ 29
    clear g_27 ha
    generalize x_27.eval = ρ at *
    go_simp
  refine g_27.step 30 _ rfl (lb_ hsz) (wn rfl) r_28 (fun x_28 g_28 => ?_)
  clear r_28 g_27
  refine g_28.move 31 (.bool false) _ (Or.inl rfl) rfl (lb_ hsz) (wn rfl) (g_28.at_ 30) (fun x_29 g_29 => ?_)
  clear g_28
  have r_30 : (execOp x_29.eval oQC34).run Try.prog (W4) = .ok (.value (.pointer (some ⟨W1.heap.size, 0, none⟩))) (W4) := by
    unfold oQC34
    have e9 : x_29.eval (.tmp 9) = .pointer (some ⟨W1.heap.size, 0, none⟩) := g_29.at_ 9
    clear g_29 ha
    generalize x_29.eval = ρ at *
    go_simp
  refine g_29.step 32 _ rfl (lb_ hsz) ((wanted_at (t := 31) (c := false) (b := false) rfl rfl rfl (lb_ (g_29.size.trans hsz)) (g_29.at_ 31)).trans (by rfl)) r_30 (fun x_30 g_30 => ?_)
  clear r_30 g_29
  have r_31 : (execOp x_30.eval oQC35).run Try.prog (W4) = .ok (.value (.int .u8 (x.kind : Int))) (W4) := by
    unfold oQC35
    have e32 : x_30.eval (.tmp 32) = .pointer (some ⟨W1.heap.size, 0, none⟩) := g_30.at_ 32
    clear g_30 ha
    generalize x_30.eval = ρ at *
    go_simp
  refine g_30.step 33 _ rfl (lb_ hsz) ((wanted_at (t := 31) (c := false) (b := false) rfl rfl rfl (lb_ (g_30.size.trans hsz)) (g_30.at_ 31)).trans (by rfl)) r_31 (fun x_31 g_31 => ?_)
  clear r_31 g_30
  have r_32 : (execOp x_31.eval oQC36).run Try.prog (W4) = .ok (.value (.bool true)) (W4) := by
    unfold oQC36
    have kc : ∀ v, x_31.eval (.const v) = v := fun _ => rfl
    have e33 : x_31.eval (.tmp 33) = .int .u8 (x.kind : Int) := g_31.at_ 33
    clear g_31 ha
    generalize x_31.eval = ρ at *
    go_simp
  refine g_31.step 34 _ rfl (lb_ hsz) ((wanted_at (t := 31) (c := false) (b := false) rfl rfl rfl (lb_ (g_31.size.trans hsz)) (g_31.at_ 31)).trans (by rfl)) r_32 (fun x_32 g_32 => ?_)
  clear r_32 g_31
  have r_33 : (execOp x_32.eval oQC37).run Try.prog (W4) = .ok (.value (.bool true)) (W4) := by
    unfold oQC37
    have kc : ∀ v, x_32.eval (.const v) = v := fun _ => rfl
    have e31 : x_32.eval (.tmp 31) = .bool false := g_32.at_ 31
    have e34 : x_32.eval (.tmp 34) = .bool true := g_32.at_ 34
    clear g_32 ha
    generalize x_32.eval = ρ at *
    go_simp
  refine g_32.step 35 _ rfl (lb_ hsz) (wn rfl) r_33 (fun x_33 g_33 => ?_)
  clear r_33 g_32
  refine wpList_nil ?_
  change Code.wp _ _ _ _ _
  refine wp_cond_true (show x_33.eval (.tmp 35) = .bool true from (g_33.at_ 35)) (wp_seq ?_)
  obtain ⟨W5, hW5, r5, f5, th5⟩ := store_box (cells := #[.int .u32 0, .slice none 0 0]) r1b rfl
  refine wp_region_list ?_
  unfold rBO6
  have r_34 : (execOp x_33.eval oQC38).run Try.prog (W4) = .ok (.value (.agg #[.int .u32 0, .slice none 0 0])) (W4) := by
    unfold oQC38
    clear g_33 ha
    generalize x_33.eval = ρ at *
    go_simp
  refine g_33.step 36 _ rfl (lb_ hsz) (wn rfl) r_34 (fun x_34 g_34 => ?_)
  clear r_34 g_33
  have r_35 : (execOp x_34.eval oQC39).run Try.prog (W4) = .ok .skip (W5) := by
    unfold oQC39
    refine exec_storeQ rfl ?_
    rw [(show x_34.eval (.tmp 6) = .pointer (some ⟨w.heap.size + 1, 0, none⟩) from (g_34.at_ 6)), (show x_34.eval (.tmp 36) = .agg #[.int .u32 0, .slice none 0 0] from (g_34.at_ 36)), hW5]
    exact run_storeAt_mid _ (w.heap.size + 1) 0 53 #[.int .u32 0, .slice none 0 0] th5 (by kernel_rfl) (by kernel_rfl)
  refine g_34.store rfl (wn rfl) r_35 (fun x_35 g_35 => ?_)
  clear r_35 g_34
  refine g_35.move 7 (.int .u32 0) _ (Or.inr rfl) rfl (lb_ hsz) (wn rfl) rfl (fun x_36 g_36 => ?_)
  clear g_35
  refine g_36.move 8 (.int .i64 8) _ (Or.inr rfl) rfl (lb_ hsz) (wn rfl) rfl (fun x_37 g_37 => ?_)
  clear g_36
  refine wpList_nil ?_
  change Code.wp _ _ _ _ _
  refine wp_ret ?_
  exact ret_cell2 (P := Try.prog) (fn := Try.f12) (R := fun e w' => e = .returned (.tuple #[.agg #[.int .u32 0, .slice none 0 0], .int .u32 0, .int .i64 8]) ∧ Same w w') rfl (g_37.defers.trans hd) (show x_37.eval (.tmp 6) = .pointer (some ⟨w.heap.size + 1, 0, none⟩) from (g_37.at_ 6)) r5 Try.underlying53 rfl (by kernel_rfl) (show x_37.eval (.tmp 7) = .int .u32 0 from (g_37.at_ 7)) (show x_37.eval (.tmp 8) = .int .i64 8 from (g_37.at_ 8)) ⟨rfl, Fr.trans ((sV.trans s2).trans s4) f5 (fun k hk e => by omega)⟩
set_option maxRecDepth 100000 in
set_option maxHeartbeats 1000000 in
theorem bon_d {p q : Int} {no bb : Nat} {x : Pgd} {nx nl : Nat} {ns : List Nat} (w : World) 
    (kP : ∀ Z, Same w Z → Calls Try.prog 101 #[.pointer (some ⟨bb, 0, none⟩), .int .u32 (no : Int)] Z fun e w' => e = .returned (.tuple #[.agg #[.int .u8 3, .int .u32 (x.no : Int), .int .u64 (x.ver : Int), .string x.body], .int .i64 0]) ∧ Same Z w')
    (kB : ∀ Z, Same w Z → Calls Try.prog 16 #[.agg #[.int .i64 p, .int .i64 q], .string x.body] Z fun e w' => (∃ ao cc, e = .returned (.tuple #[.int .u32 (nx : Int), .slice ao nl cc, .int .i64 0]) ∧ w'.ownsRow Z.heap.size 28 1 (.slice ao nl cc) nl (ncells ns)) ∧ Same Z w') :
    Calls Try.prog 12 #[.agg #[.int .i64 p, .int .i64 q], .iface 33 (.pointer (some ⟨bb, 0, none⟩)), .int .u32 (no : Int)] w fun e w' => (∃ ao cc, e = .returned (.tuple #[.agg #[.int .u32 (no : Int), .slice ao nl cc], .int .u32 (nx : Int), .int .i64 0]) ∧ w'.ownsRow w.heap.size 28 1 (.slice ao nl cc) nl (ncells ns)) ∧ Same w w' := by
  refine calls_abs (c := cBO) Try.func12 (by kernel_rfl) 41 rfl (by simp) (fun a0 hsz hd ha => ?_)
  have g_0 := Fe.refl a0
  unfold cBO
  refine wp_seq ?_
  refine wp_region_list ?_
  unfold rBO0
  have r_1 : (execOp a0.eval oQC16).run Try.prog (w) = .ok (.value (.pointer (some ⟨w.heap.size, 0, none⟩))) (w.alloc (.cells #[.int .i64 p, .int .i64 q] 23)) := by
    unfold oQC16
    have e0 := (show a0.eval (.tmp 0) = .agg #[.int .i64 p, .int .i64 q] from ((g_0.at_ 0).trans (ha 0 _ rfl)))
    clear g_0 ha
    generalize a0.eval = ρ at *
    go_simp
  refine g_0.stepW 3 (.pointer (some ⟨w.heap.size, 0, none⟩)) rfl (lb_ hsz) (wn rfl) r_1 (fun x_1 g_1 => ?_)
  clear r_1 g_0
  have r_2 : (execOp x_1.eval oQC17).run Try.prog (w.alloc (.cells #[.int .i64 p, .int .i64 q] 23)) = .ok (.value (.pointer (some ⟨w.heap.size + 1, 0, none⟩))) ((w.alloc (.cells #[.int .i64 p, .int .i64 q] 23)).alloc (.cells #[.int .u32 0, .slice none 0 0] 53)) := by
    unfold oQC17
    clear g_1 ha
    generalize x_1.eval = ρ at *
    go_simp
  refine g_1.stepW 6 (.pointer (some ⟨w.heap.size + 1, 0, none⟩)) rfl (lb_ hsz) (wn rfl) r_2 (fun x_2 g_2 => ?_)
  clear r_2 g_1
  refine g_2.move 7 (.int .u32 0) _ (Or.inr rfl) rfl (lb_ hsz) (wn rfl) rfl (fun x_3 g_3 => ?_)
  clear g_2
  refine g_3.move 8 (.int .i64 0) _ (Or.inr rfl) rfl (lb_ hsz) (wn rfl) rfl (fun x_4 g_4 => ?_)
  clear g_3
  refine wpList_nil ?_
  obtain ⟨V, hV⟩ : ∃ V, V = (w.alloc (.cells #[.int .i64 p, .int .i64 q] 23)).alloc (.cells #[.int .u32 0, .slice none 0 0] 53) := ⟨_, rfl⟩
  rw [← hV]
  have sV : Same w V := by rw [hV]; exact ((Fr.refl _ w).alloc _).alloc _
  have r0 : V.heap[w.heap.size]? = some (.cells #[.int .i64 p, .int .i64 q] 23 (0, 0)) := by rw [hV]; exact (((Fr.refl (fun _ => False) (w.alloc (.cells #[.int .i64 p, .int .i64 q] 23))).alloc _).block _ (by simp) (fun f => f)).trans (heap_alloc_new w _)
  have r1 : V.heap[w.heap.size + 1]? = some (.cells #[.int .u32 0, .slice none 0 0] 53 (0, 0)) := by
    rw [hV]
    have := heap_alloc_new (w.alloc (.cells #[.int .i64 p, .int .i64 q] 23)) (.cells #[.int .u32 0, .slice none 0 0] 53)
    simpa using this
  clear hV
  change Code.wp _ _ _ _ _
  refine wp_seq ?_
  refine wp_region_list ?_
  unfold rBO1
  refine g_4.move 12 (.iface 33 (.pointer (some ⟨bb, 0, none⟩))) _ (Or.inl rfl) rfl (lb_ hsz) (wn rfl) ((g_4.at_ 1).trans (ha 1 _ rfl)) (fun x_5 g_5 => ?_)
  clear g_4
  refine g_5.move 13 (.int .u32 (no : Int)) _ (Or.inl rfl) rfl (lb_ hsz) (wn rfl) ((g_5.at_ 2).trans (ha 2 _ rfl)) (fun x_6 g_6 => ?_)
  clear g_5
  have r_7 : (execOp x_6.eval oQC18).run Try.prog (V) = .ok (.enter 101 #[.pointer (some ⟨bb, 0, none⟩), .int .u32 (no : Int)]) (V) := by
    unfold oQC18
    have e12 : x_6.eval (.tmp 12) = .iface 33 (.pointer (some ⟨bb, 0, none⟩)) := g_6.at_ 12
    have e13 : x_6.eval (.tmp 13) = .int .u32 (no : Int) := g_6.at_ 13
    clear g_6 ha
    generalize x_6.eval = ρ at *
    go_simp
    rw [bk_method]
    · go_simp
    · kernel_rfl
  refine g_6.call 14 rfl (lb_ hsz) (wn rfl) r_7 (kP V sV) (fun e W1 hR => ?_)
  obtain ⟨rfl, s1⟩ := hR
  clear r_7
  refine ⟨_, rfl, fun x_7 g_7 => ?_⟩
  clear g_6
  refine g_7.move 11 (.tuple #[.agg #[.int .u8 3, .int .u32 (x.no : Int), .int .u64 (x.ver : Int), .string x.body], .int .i64 0]) _ (Or.inl rfl) rfl (lb_ hsz) (wn rfl) (g_7.at_ 14) (fun x_8 g_8 => ?_)
  clear g_7
  have r_9 : (execOp x_8.eval oQC19).run Try.prog (W1) = .ok (.value (.agg #[.int .u8 3, .int .u32 (x.no : Int), .int .u64 (x.ver : Int), .string x.body])) (W1) := by
    unfold oQC19
    have e11 : x_8.eval (.tmp 11) = .tuple #[.agg #[.int .u8 3, .int .u32 (x.no : Int), .int .u64 (x.ver : Int), .string x.body], .int .i64 0] := g_8.at_ 11
    clear g_8 ha
    generalize x_8.eval = ρ at *
    go_simp
  refine g_8.step 15 _ rfl (lb_ hsz) (wn rfl) r_9 (fun x_9 g_9 => ?_)
  clear r_9 g_8
  have r_10 : (execOp x_9.eval oQC20).run Try.prog (W1) = .ok (.value (.int .i64 0)) (W1) := by
    unfold oQC20
    have e11 : x_9.eval (.tmp 11) = .tuple #[.agg #[.int .u8 3, .int .u32 (x.no : Int), .int .u64 (x.ver : Int), .string x.body], .int .i64 0] := g_9.at_ 11
    clear g_9 ha
    generalize x_9.eval = ρ at *
    go_simp
  refine g_9.step 16 _ rfl (lb_ hsz) (wn rfl) r_10 (fun x_10 g_10 => ?_)
  clear r_10 g_9
  have r_11 : (execOp x_10.eval oQC21).run Try.prog (W1) = .ok (.value (.pointer (some ⟨W1.heap.size, 0, none⟩))) (W1.alloc (.cells #[.int .u8 0, .int .u32 0, .int .u64 0, .string ⟨#[]⟩] 76)) := by
    unfold oQC21
    clear g_10 ha
    generalize x_10.eval = ρ at *
    go_simp
  refine g_10.stepW 9 (.pointer (some ⟨W1.heap.size, 0, none⟩)) rfl (lb_ hsz) (wn rfl) r_11 (fun x_11 g_11 => ?_)
  clear r_11 g_10
  have r_12 : (execOp x_11.eval oQC22).run Try.prog (W1.alloc (.cells #[.int .u8 0, .int .u32 0, .int .u64 0, .string ⟨#[]⟩] 76)) = .ok .skip (W1.alloc (.cells #[.int .u8 3, .int .u32 (x.no : Int), .int .u64 (x.ver : Int), .string x.body] 76)) := by
    unfold oQC22
    have e9 : x_11.eval (.tmp 9) = .pointer (some ⟨W1.heap.size, 0, none⟩) := g_11.at_ 9
    have e15 : x_11.eval (.tmp 15) = .agg #[.int .u8 3, .int .u32 (x.no : Int), .int .u64 (x.ver : Int), .string x.body] := g_11.at_ 15
    clear g_11 ha
    generalize x_11.eval = ρ at *
    go_simp
  refine g_11.store rfl (wn rfl) r_12 (fun x_12 g_12 => ?_)
  clear r_12 g_11
  refine g_12.move 8 (.int .i64 0) _ (Or.inr rfl) rfl (lb_ hsz) (wn rfl) (g_12.at_ 16) (fun x_13 g_13 => ?_)
  clear g_12
  refine wpList_nil ?_
  obtain ⟨W2, hW2⟩ : ∃ W2, W2 = W1.alloc (.cells #[.int .u8 3, .int .u32 (x.no : Int), .int .u64 (x.ver : Int), .string x.body] 76) := ⟨_, rfl⟩
  rw [← hW2]
  have s2 : Same V W2 := by rw [hW2]; exact s1.alloc _
  have r2 : W2.heap[W1.heap.size]? = some (.cells #[.int .u8 3, .int .u32 (x.no : Int), .int .u64 (x.ver : Int), .string x.body] 76 (0, 0)) := by rw [hW2]; exact heap_alloc_new W1 _
  clear hW2
  change Code.wp _ _ _ _ _
  refine wp_seq (wp_seq ?_)
  refine wp_region_list ?_
  unfold rBO2
  refine g_13.move 17 (.int .i64 0) _ (Or.inl rfl) rfl (lb_ hsz) (wn rfl) (g_13.at_ 8) (fun x_14 g_14 => ?_)
  clear g_13
  have r_15 : (execOp x_14.eval oQC23).run Try.prog (W2) = .ok (.value (.bool false)) (W2) := by
    unfold oQC23
    have kc : ∀ v, x_14.eval (.const v) = v := fun _ => rfl
    have e17 : x_14.eval (.tmp 17) = .int .i64 0 := g_14.at_ 17
    clear g_14 ha
    generalize x_14.eval = ρ at *
    go_simp
  refine g_14.step 18 _ rfl (lb_ hsz) (wn rfl) r_15 (fun x_15 g_15 => ?_)
  clear r_15 g_14
  refine wpList_nil ?_
  change Code.wp _ _ _ _ _
  refine wp_cond_false (show x_15.eval (.tmp 18) = .bool false from (g_15.at_ 18)) (wp_skip ?_)
  change Code.wp _ _ _ _ _
  refine wp_seq ?_
  have c0 := s2.keep ((cell_of_row _ _ _ _ _ _ r0).trans rfl : V.cell? ⟨w.heap.size, 0, none⟩ = some (.int .i64 p))
  have c1 := s2.keep ((cell_of_row _ _ _ _ _ _ r0).trans rfl : V.cell? ⟨w.heap.size, 1, none⟩ = some (.int .i64 q))
  have e3 : W2.cell? ⟨W1.heap.size, 3, none⟩ = some (.string x.body) := (cell_of_row _ _ _ _ _ _ r2).trans rfl
  refine wp_region_list ?_
  unfold rBO4
  have r_16 : (execOp x_15.eval oQC26).run Try.prog (W2) = .ok (.value (.agg #[.int .i64 p, .int .i64 q])) (W2) := by
    unfold oQC26
    have e3 : x_15.eval (.tmp 3) = .pointer (some ⟨w.heap.size, 0, none⟩) := g_15.at_ 3
    clear g_15 ha
    generalize x_15.eval = ρ at *
    go_simp
  refine g_15.step 22 _ rfl (lb_ hsz) (wn rfl) r_16 (fun x_16 g_16 => ?_)
  clear r_16 g_15
  have r_17 : (execOp x_16.eval oQC27).run Try.prog (W2) = .ok (.value (.pointer (some ⟨W1.heap.size, 3, none⟩))) (W2) := by
    unfold oQC27
    have e9 : x_16.eval (.tmp 9) = .pointer (some ⟨W1.heap.size, 0, none⟩) := g_16.at_ 9
    clear g_16 ha
    generalize x_16.eval = ρ at *
    go_simp
  refine g_16.step 23 _ rfl (lb_ hsz) (wn rfl) r_17 (fun x_17 g_17 => ?_)
  clear r_17 g_16
  have r_18 : (execOp x_17.eval oQC28).run Try.prog (W2) = .ok (.value (.string x.body)) (W2) := by
    unfold oQC28
    have e23 : x_17.eval (.tmp 23) = .pointer (some ⟨W1.heap.size, 3, none⟩) := g_17.at_ 23
    clear g_17 ha
    generalize x_17.eval = ρ at *
    go_simp
  refine g_17.step 24 _ rfl (lb_ hsz) (wn rfl) r_18 (fun x_18 g_18 => ?_)
  clear r_18 g_17
  have r_19 : (execOp x_18.eval oQC29).run Try.prog (W2) = .ok (.enter 16 #[.agg #[.int .i64 p, .int .i64 q], .string x.body]) (W2) := by
    unfold oQC29
    have kf : ∀ f, x_18.eval (.func f) = .func (.func f) #[] #[] := fun _ => rfl
    have e22 : x_18.eval (.tmp 22) = .agg #[.int .i64 p, .int .i64 q] := g_18.at_ 22
    have e24 : x_18.eval (.tmp 24) = .string x.body := g_18.at_ 24
    clear g_18 ha
    generalize x_18.eval = ρ at *
    go_simp
  refine g_18.call 25 rfl (lb_ hsz) (wn rfl) r_19 (kB W2 (sV.trans s2)) (fun e W4 hR => ?_)
  obtain ⟨⟨ao, cc, rfl, o4⟩, s4⟩ := hR
  clear r_19
  refine ⟨_, rfl, fun x_19 g_19 => ?_⟩
  clear g_18
  refine g_19.move 21 (.tuple #[.int .u32 (nx : Int), .slice ao nl cc, .int .i64 0]) _ (Or.inl rfl) rfl (lb_ hsz) (wn rfl) (g_19.at_ 25) (fun x_20 g_20 => ?_)
  clear g_19
  have r_21 : (execOp x_20.eval oQC30).run Try.prog (W4) = .ok (.value (.int .u32 (nx : Int))) (W4) := by
    unfold oQC30
    have e21 : x_20.eval (.tmp 21) = .tuple #[.int .u32 (nx : Int), .slice ao nl cc, .int .i64 0] := g_20.at_ 21
    clear g_20 ha
    generalize x_20.eval = ρ at *
    go_simp
  refine g_20.step 26 _ rfl (lb_ hsz) (wn rfl) r_21 (fun x_21 g_21 => ?_)
  clear r_21 g_20
  have r_22 : (execOp x_21.eval oQC31).run Try.prog (W4) = .ok (.value (.slice ao nl cc)) (W4) := by
    unfold oQC31
    have e21 : x_21.eval (.tmp 21) = .tuple #[.int .u32 (nx : Int), .slice ao nl cc, .int .i64 0] := g_21.at_ 21
    clear g_21 ha
    generalize x_21.eval = ρ at *
    go_simp
  refine g_21.step 27 _ rfl (lb_ hsz) (wn rfl) r_22 (fun x_22 g_22 => ?_)
  clear r_22 g_21
  have r_23 : (execOp x_22.eval oQC32).run Try.prog (W4) = .ok (.value (.int .i64 0)) (W4) := by
    unfold oQC32
    have e21 : x_22.eval (.tmp 21) = .tuple #[.int .u32 (nx : Int), .slice ao nl cc, .int .i64 0] := g_22.at_ 21
    clear g_22 ha
    generalize x_22.eval = ρ at *
    go_simp
  refine g_22.step 28 _ rfl (lb_ hsz) (wn rfl) r_23 (fun x_23 g_23 => ?_)
  clear r_23 g_22
  refine g_23.move 7 (.int .u32 (nx : Int)) _ (Or.inr rfl) rfl (lb_ hsz) (wn rfl) (g_23.at_ 26) (fun x_24 g_24 => ?_)
  clear g_23
  refine g_24.move 10 (.slice ao nl cc) _ (Or.inr rfl) rfl (lb_ hsz) (wn rfl) (g_24.at_ 27) (fun x_25 g_25 => ?_)
  clear g_24
  refine g_25.move 8 (.int .i64 0) _ (Or.inr rfl) rfl (lb_ hsz) (wn rfl) (g_25.at_ 28) (fun x_26 g_26 => ?_)
  clear g_25
  refine wpList_nil ?_
  have e0 : W4.cell? ⟨W1.heap.size, 0, none⟩ = some (.int .u8 3) := s4.keep ((cell_of_row _ _ _ _ _ _ r2).trans rfl)
  have r1b := ((s2.trans s4).block _ (lt_of_heap r1) (fun f => f)).trans r1
  change Code.wp _ _ _ _ _
  refine wp_seq (wp_seq ?_)
  refine wp_region_list ?_
  unfold rBO5
  refine g_26.move 29 (.int .i64 0) _ (Or.inl rfl) rfl (lb_ hsz) (wn rfl) (g_26.at_ 8) (fun x_27 g_27 => ?_)
  clear g_26
  have r_28 : (execOp x_27.eval oQC33).run Try.prog (W4) = .ok (.value (.bool false)) (W4) := by
    unfold oQC33
    have kc : ∀ v, x_27.eval (.const v) = v := fun _ => rfl
    have e29 : x_27.eval (.tmp 29) = .int .i64 0 := g_27.at_ 29
    clear g_27 ha
    generalize x_27.eval = ρ at *
    go_simp
  refine g_27.step 30 _ rfl (lb_ hsz) (wn rfl) r_28 (fun x_28 g_28 => ?_)
  clear r_28 g_27
  refine g_28.move 31 (.bool false) _ (Or.inl rfl) rfl (lb_ hsz) (wn rfl) (g_28.at_ 30) (fun x_29 g_29 => ?_)
  clear g_28
  have r_30 : (execOp x_29.eval oQC34).run Try.prog (W4) = .ok (.value (.pointer (some ⟨W1.heap.size, 0, none⟩))) (W4) := by
    unfold oQC34
    have e9 : x_29.eval (.tmp 9) = .pointer (some ⟨W1.heap.size, 0, none⟩) := g_29.at_ 9
    clear g_29 ha
    generalize x_29.eval = ρ at *
    go_simp
  refine g_29.step 32 _ rfl (lb_ hsz) ((wanted_at (t := 31) (c := false) (b := false) rfl rfl rfl (lb_ (g_29.size.trans hsz)) (g_29.at_ 31)).trans (by rfl)) r_30 (fun x_30 g_30 => ?_)
  clear r_30 g_29
  have r_31 : (execOp x_30.eval oQC35).run Try.prog (W4) = .ok (.value (.int .u8 3)) (W4) := by
    unfold oQC35
    have e32 : x_30.eval (.tmp 32) = .pointer (some ⟨W1.heap.size, 0, none⟩) := g_30.at_ 32
    clear g_30 ha
    generalize x_30.eval = ρ at *
    go_simp
  refine g_30.step 33 _ rfl (lb_ hsz) ((wanted_at (t := 31) (c := false) (b := false) rfl rfl rfl (lb_ (g_30.size.trans hsz)) (g_30.at_ 31)).trans (by rfl)) r_31 (fun x_31 g_31 => ?_)
  clear r_31 g_30
  have r_32 : (execOp x_31.eval oQC36).run Try.prog (W4) = .ok (.value (.bool false)) (W4) := by
    unfold oQC36
    have kc : ∀ v, x_31.eval (.const v) = v := fun _ => rfl
    have e33 : x_31.eval (.tmp 33) = .int .u8 3 := g_31.at_ 33
    clear g_31 ha
    generalize x_31.eval = ρ at *
    go_simp
  refine g_31.step 34 _ rfl (lb_ hsz) ((wanted_at (t := 31) (c := false) (b := false) rfl rfl rfl (lb_ (g_31.size.trans hsz)) (g_31.at_ 31)).trans (by rfl)) r_32 (fun x_32 g_32 => ?_)
  clear r_32 g_31
  have r_33 : (execOp x_32.eval oQC37).run Try.prog (W4) = .ok (.value (.bool false)) (W4) := by
    unfold oQC37
    have kc : ∀ v, x_32.eval (.const v) = v := fun _ => rfl
    have e31 : x_32.eval (.tmp 31) = .bool false := g_32.at_ 31
    have e34 : x_32.eval (.tmp 34) = .bool false := g_32.at_ 34
    clear g_32 ha
    generalize x_32.eval = ρ at *
    go_simp
  refine g_32.step 35 _ rfl (lb_ hsz) (wn rfl) r_33 (fun x_33 g_33 => ?_)
  clear r_33 g_32
  refine wpList_nil ?_
  change Code.wp _ _ _ _ _
  refine wp_cond_false (show x_33.eval (.tmp 35) = .bool false from (g_33.at_ 35)) (wp_skip ?_)
  change Code.wp _ _ _ _ _
  refine wp_seq ?_
  obtain ⟨W5, hW5, r5, f5, th5⟩ := store_box (cells := #[.int .u32 (no : Int), .slice ao nl cc]) r1b rfl
  refine wp_region_list ?_
  unfold rBO7
  refine g_33.move 37 (.int .u32 (no : Int)) _ (Or.inl rfl) rfl (lb_ hsz) (wn rfl) ((g_33.at_ 2).trans (ha 2 _ rfl)) (fun x_34 g_34 => ?_)
  clear g_33
  refine g_34.move 38 (.slice ao nl cc) _ (Or.inl rfl) rfl (lb_ hsz) (wn rfl) (g_34.at_ 10) (fun x_35 g_35 => ?_)
  clear g_34
  have r_36 : (execOp x_35.eval oQC40).run Try.prog (W4) = .ok (.value (.agg #[.int .u32 (no : Int), .slice ao nl cc])) (W4) := by
    unfold oQC40
    have e37 : x_35.eval (.tmp 37) = .int .u32 (no : Int) := g_35.at_ 37
    have e38 : x_35.eval (.tmp 38) = .slice ao nl cc := g_35.at_ 38
    clear g_35 ha
    generalize x_35.eval = ρ at *
    go_simp
  refine g_35.step 39 _ rfl (lb_ hsz) (wn rfl) r_36 (fun x_36 g_36 => ?_)
  clear r_36 g_35
  refine g_36.move 40 (.int .u32 (nx : Int)) _ (Or.inl rfl) rfl (lb_ hsz) (wn rfl) (g_36.at_ 7) (fun x_37 g_37 => ?_)
  clear g_36
  have r_38 : (execOp x_37.eval oQC41).run Try.prog (W4) = .ok .skip (W5) := by
    unfold oQC41
    refine exec_storeQ rfl ?_
    rw [(show x_37.eval (.tmp 6) = .pointer (some ⟨w.heap.size + 1, 0, none⟩) from (g_37.at_ 6)), (show x_37.eval (.tmp 39) = .agg #[.int .u32 (no : Int), .slice ao nl cc] from (g_37.at_ 39)), hW5]
    exact run_storeAt_mid _ (w.heap.size + 1) 0 53 #[.int .u32 (no : Int), .slice ao nl cc] th5 (by kernel_rfl) (by kernel_rfl)
  refine g_37.store rfl (wn rfl) r_38 (fun x_38 g_38 => ?_)
  clear r_38 g_37
  refine g_38.move 7 (.int .u32 (nx : Int)) _ (Or.inr rfl) rfl (lb_ hsz) (wn rfl) (g_38.at_ 40) (fun x_39 g_39 => ?_)
  clear g_38
  refine g_39.move 8 (.int .i64 0) _ (Or.inr rfl) rfl (lb_ hsz) (wn rfl) rfl (fun x_40 g_40 => ?_)
  clear g_39
  refine wpList_nil ?_
  change Code.wp _ _ _ _ _
  refine wp_ret ?_
  have s5 : Same w W5 := Fr.trans ((sV.trans s2).trans s4) f5 (fun k hk e => by omega)
  have o5 := own_frameB (own_base o4 (sV.trans s2).size) f5 (fun k hk e => own_neT (own_base o4 (Nat.zero_le _)) r1b (by decide) k hk e)
  exact ret_cell2 (P := Try.prog) (fn := Try.f12) (R := fun e w' => (∃ ao cc, e = .returned (.tuple #[.agg #[.int .u32 (no : Int), .slice ao nl cc], .int .u32 (nx : Int), .int .i64 0]) ∧ w'.ownsRow w.heap.size 28 1 (.slice ao nl cc) nl (ncells ns)) ∧ Same w w') rfl (g_40.defers.trans hd) (show x_40.eval (.tmp 6) = .pointer (some ⟨w.heap.size + 1, 0, none⟩) from (g_40.at_ 6)) r5 Try.underlying53 rfl (by kernel_rfl) (show x_40.eval (.tmp 7) = .int .u32 (nx : Int) from (g_40.at_ 7)) (show x_40.eval (.tmp 8) = .int .i64 0 from (g_40.at_ 8)) ⟨⟨ao, cc, rfl, o5⟩, s5⟩
end Go.Proofs.Ytajbifblbmlffaa
