/- free: the document's Right: its loops. -/
import Derived.Test.YtajbifblbmlffaaYF
import Derived.Test.YtajbifblbmlffaaEC
namespace Go.Proofs.Ytajbifblbmlffaa
open Go.RowKit Go.Maps

def oYG0 : Oper := { dst := some 53, op := .fieldAddr 53 (.tmp 9) 1, type := 0, pos := "ref.go:93", after := #[], guard := none }
def oYG1 : Oper := { dst := some 54, op := .load 51 (.tmp 53), type := 51, pos := "ref.go:93", after := #[{ on := 1, ground := .data }], guard := none }
def oYG2 : Oper := { dst := some 55, op := .call { callee := .builtin .len, args := #[.tmp 54], argTypes := #[51] }, type := 3, pos := "ref.go:93", after := #[{ on := 2, ground := .data }], guard := none }
def oYG3 : Oper := { dst := some 56, op := .binOp .lss 3 (.tmp 52) (.tmp 55) 3, type := 4, pos := "ref.go:93", after := #[{ on := 0, ground := .data }, { on := 3, ground := .data }], guard := none }
def oYG4 : Oper := { dst := some 60, op := .fieldAddr 53 (.tmp 9) 1, type := 0, pos := "ref.go:94", after := #[], guard := none }
def oYG5 : Oper := { dst := some 61, op := .load 51 (.tmp 60), type := 51, pos := "ref.go:94", after := #[{ on := 1, ground := .data }], guard := none }
def oYG6 : Oper := { dst := some 63, op := .indexAddr 51 (.tmp 61) (.tmp 62), type := 0, pos := "ref.go:94", after := #[{ on := 2, ground := .data }, { on := 3, ground := .data }], guard := none }
def oYG7 : Oper := { dst := some 64, op := .load 28 (.tmp 63), type := 28, pos := "ref.go:94", after := #[{ on := 4, ground := .data }], guard := none }
def oYG8 : Oper := { dst := some 65, op := .indexAddr 103 (.tmp 59) (.tmp 64), type := 0, pos := "ref.go:94", after := #[{ on := 0, ground := .data }, { on := 5, ground := .data }], guard := none }
def oYG9 : Oper := { dst := some 66, op := .load 4 (.tmp 65), type := 4, pos := "ref.go:94", after := #[{ on := 6, ground := .data }], guard := none }
def oYG10 : Oper := { dst := some 15, op := .call { callee := .builtin .len, args := #[.tmp 14], argTypes := #[30] }, type := 3, pos := "ref.go:87", after := #[{ on := 1, ground := .data }], guard := none }
def oYG11 : Oper := { dst := some 16, op := .binOp .lss 3 (.tmp 13) (.tmp 15) 3, type := 4, pos := "ref.go:87", after := #[{ on := 0, ground := .data }, { on := 2, ground := .data }], guard := none }
def oYG12 : Oper := { dst := some 3, op := .box 23 (.tmp 0), type := 0, pos := "ref.go:104", after := #[], guard := none }
def oYG13 : Oper := { dst := some 7, op := .load 23 (.tmp 3), type := 23, pos := "ref.go:105", after := #[], guard := none }
def oYG14 : Oper := { dst := some 8, op := .call { callee := .value (.func 21), args := #[.tmp 7], argTypes := #[23] }, type := 4, pos := "ref.go:105", after := #[{ on := 0, ground := .data }], guard := none }
def oYG15 : Oper := { dst := some 9, op := .unOp .not 4 (.tmp 8), type := 4, pos := "ref.go:105", after := #[{ on := 1, ground := .data }], guard := none }
def oYG16 : Oper := { dst := some 12, op := .binOp .lss 28 (.tmp 11) (.const (.int .u32 2)) 28, type := 4, pos := "ref.go:105", after := #[{ on := 4, ground := .data }, { on := 3, ground := .guard }], guard := some (3, false) }
def oYG17 : Oper := { dst := some 13, op := .pick (.tmp 10) (.const (.bool true)) (.tmp 12), type := 4, pos := "ref.go:105", after := #[{ on := 3, ground := .data }, { on := 5, ground := .data }], guard := none }
def oYG18 : Oper := { dst := some 16, op := .binOp .gtr 28 (.tmp 15) (.const (.int .u32 65536)) 28, type := 4, pos := "ref.go:105", after := #[{ on := 8, ground := .data }, { on := 7, ground := .guard }], guard := some (7, false) }
def oYG19 : Oper := { dst := some 17, op := .pick (.tmp 14) (.const (.bool true)) (.tmp 16), type := 4, pos := "ref.go:105", after := #[{ on := 7, ground := .data }, { on := 9, ground := .data }], guard := none }
def oYG20 : Oper := { dst := some 18, op := .load 23 (.tmp 3), type := 23, pos := "ref.go:108", after := #[], guard := none }
def oYG21 : Oper := { dst := some 21, op := .call { callee := .value (.func 22), args := #[.tmp 18, .tmp 19, .tmp 20], argTypes := #[23, 30, 28] }, type := 4, pos := "ref.go:108", after := #[{ on := 0, ground := .data }, { on := 1, ground := .data }, { on := 2, ground := .data }], guard := none }
def oYG22 : Oper := { dst := some 22, op := .unOp .not 4 (.tmp 21), type := 4, pos := "ref.go:108", after := #[{ on := 3, ground := .data }], guard := none }
set_option maxRecDepth 100000 in
set_option maxHeartbeats 1000000 in
theorem rt2S {nb no y : Nat} {p q : Int} {pages bb pg nl xc n cp i k : Nat} {pa : Option Addr} {f : Nat → Bool} {Q : Exit → Act → World → Prop} (a0 : Act) (w wr : World) (I0 : IR w.heap.size pa n cp pages a0) (h8 : a0.eval (.tmp 8) = .int .i64 (i : Int)) (h9 : a0.eval (.tmp 9) = .pointer (some ⟨bb, 0, none⟩)) (h10 : a0.eval (.tmp 10) = .int .i64 (k : Int)) (hw : RWb w wr p q pages f bb pg (some ⟨nb, no, none⟩) nl xc) (hkn : k < nl) (hnl : nl ≤ 4000000) (hy : wr.cell? ⟨nb, no + k, none⟩ = some (.int .u32 (y : Int))) (hlt : y < pages) (hsn : f y = true)
    (hQ : ∀ a : Act, a.defers = [] → a.eval (.tmp 6) = .bool false → Q .ret a wr) : cRT2.wp Try.prog Q a0 wr := by
  have h8 := h8
  have hki : (k : Int) < (nl : Int) := by omega
  have hyi : (y : Int) < (pages : Int) := by omega
  have w7 : IntKind.i64.wrap ((k : Int) + 1) = (k : Int) + 1 := by rw [IntKind.wrap_i64]; omega
  have g_0 := Fe.refl a0
  obtain ⟨c1, c2⟩ := hw.cells
  have c5 := hw.wd.cell hlt
  rw [hsn] at c5
  have c6 : wr.frozen? ⟨w.heap.size + 1, y, none⟩ = false := hw.wd.frozen
  unfold cRT2
  refine wp_seq (wp_seq ?_)
  refine wp_region_list ?_
  unfold rRT10
  refine g_0.move 52 (.int .i64 (k : Int)) _ (Or.inl rfl) rfl (lb_ I0.size) (wn rfl) ((g_0.at_ 10).trans h10) (fun x_1 g_1 => ?_)
  clear g_0
  have r_2 : (execOp x_1.eval oYG0).run Try.prog (wr) = .ok (.value (.pointer (some ⟨bb, 1, none⟩))) (wr) := by
    unfold oYG0
    have e9 := (show x_1.eval (.tmp 9) = .pointer (some ⟨bb, 0, none⟩) from ((g_1.at_ 9).trans h9))
    clear g_1 hQ h8 h9 h10
    generalize x_1.eval = ρ at *
    go_simp
  refine g_1.step 53 _ rfl (lb_ I0.size) (wn rfl) r_2 (fun x_2 g_2 => ?_)
  clear r_2 g_1
  have r_3 : (execOp x_2.eval oYG1).run Try.prog (wr) = .ok (.value (.slice (some ⟨nb, no, none⟩) nl xc)) (wr) := by
    unfold oYG1
    have e53 : x_2.eval (.tmp 53) = .pointer (some ⟨bb, 1, none⟩) := g_2.at_ 53
    clear g_2 hQ h8 h9 h10
    generalize x_2.eval = ρ at *
    go_simp
  refine g_2.step 54 _ rfl (lb_ I0.size) (wn rfl) r_3 (fun x_3 g_3 => ?_)
  clear r_3 g_2
  have r_4 : (execOp x_3.eval oYG2).run Try.prog (wr) = .ok (.value (.int .i64 (nl : Int))) (wr) := by
    unfold oYG2
    have e54 : x_3.eval (.tmp 54) = .slice (some ⟨nb, no, none⟩) nl xc := g_3.at_ 54
    clear g_3 hQ h8 h9 h10
    generalize x_3.eval = ρ at *
    go_simp
  refine g_3.step 55 _ rfl (lb_ I0.size) (wn rfl) r_4 (fun x_4 g_4 => ?_)
  clear r_4 g_3
  have r_5 : (execOp x_4.eval oYG3).run Try.prog (wr) = .ok (.value (.bool true)) (wr) := by
    unfold oYG3
    have e52 : x_4.eval (.tmp 52) = .int .i64 (k : Int) := g_4.at_ 52
    have e55 : x_4.eval (.tmp 55) = .int .i64 (nl : Int) := g_4.at_ 55
    clear g_4 hQ h8 h9 h10
    generalize x_4.eval = ρ at *
    go_simp
  refine g_4.step 56 _ rfl (lb_ I0.size) (wn rfl) r_5 (fun x_5 g_5 => ?_)
  clear r_5 g_4
  refine wpList_nil ?_
  change Code.wp _ _ _ _ _
  refine wp_cond_true (show x_5.eval (.tmp 56) = .bool true from (g_5.at_ 56)) (wp_skip ?_)
  change Code.wp _ _ _ _ _
  refine wp_seq (wp_block (wp_seq (wp_seq ?_)))
  refine wp_region_list ?_
  unfold rRT12
  refine g_5.move 59 (.slice (some ⟨w.heap.size + 1, 0, none⟩) pages pages) _ (Or.inl rfl) rfl (lb_ I0.size) (wn rfl) ((g_5.at_ 7).trans I0.s7) (fun x_6 g_6 => ?_)
  clear g_5
  have r_7 : (execOp x_6.eval oYG4).run Try.prog (wr) = .ok (.value (.pointer (some ⟨bb, 1, none⟩))) (wr) := by
    unfold oYG4
    have e9 := (show x_6.eval (.tmp 9) = .pointer (some ⟨bb, 0, none⟩) from ((g_6.at_ 9).trans h9))
    clear g_6 hQ h8 h9 h10
    generalize x_6.eval = ρ at *
    go_simp
  refine g_6.step 60 _ rfl (lb_ I0.size) (wn rfl) r_7 (fun x_7 g_7 => ?_)
  clear r_7 g_6
  have r_8 : (execOp x_7.eval oYG5).run Try.prog (wr) = .ok (.value (.slice (some ⟨nb, no, none⟩) nl xc)) (wr) := by
    unfold oYG5
    have e60 : x_7.eval (.tmp 60) = .pointer (some ⟨bb, 1, none⟩) := g_7.at_ 60
    clear g_7 hQ h8 h9 h10
    generalize x_7.eval = ρ at *
    go_simp
  refine g_7.step 61 _ rfl (lb_ I0.size) (wn rfl) r_8 (fun x_8 g_8 => ?_)
  clear r_8 g_7
  refine g_8.move 62 (.int .i64 (k : Int)) _ (Or.inl rfl) rfl (lb_ I0.size) (wn rfl) ((g_8.at_ 10).trans h10) (fun x_9 g_9 => ?_)
  clear g_8
  have r_10 : (execOp x_9.eval oYG6).run Try.prog (wr) = .ok (.value (.pointer (some ⟨nb, no + k, none⟩))) (wr) := by
    unfold oYG6
    have e61 : x_9.eval (.tmp 61) = .slice (some ⟨nb, no, none⟩) nl xc := g_9.at_ 61
    have e62 : x_9.eval (.tmp 62) = .int .i64 (k : Int) := g_9.at_ 62
    clear g_9 hQ h8 h9 h10
    generalize x_9.eval = ρ at *
    go_simp
  refine g_9.step 63 _ rfl (lb_ I0.size) (wn rfl) r_10 (fun x_10 g_10 => ?_)
  clear r_10 g_9
  have r_11 : (execOp x_10.eval oYG7).run Try.prog (wr) = .ok (.value (.int .u32 (y : Int))) (wr) := by
    unfold oYG7
    have e63 : x_10.eval (.tmp 63) = .pointer (some ⟨nb, no + k, none⟩) := g_10.at_ 63
    clear g_10 hQ h8 h9 h10
    generalize x_10.eval = ρ at *
    go_simp
  refine g_10.step 64 _ rfl (lb_ I0.size) (wn rfl) r_11 (fun x_11 g_11 => ?_)
  clear r_11 g_10
  have r_12 : (execOp x_11.eval oYG8).run Try.prog (wr) = .ok (.value (.pointer (some ⟨w.heap.size + 1, y, none⟩))) (wr) := by
    unfold oYG8
    have e59 : x_11.eval (.tmp 59) = .slice (some ⟨w.heap.size + 1, 0, none⟩) pages pages := g_11.at_ 59
    have e64 : x_11.eval (.tmp 64) = .int .u32 (y : Int) := g_11.at_ 64
    clear g_11 hQ h8 h9 h10
    generalize x_11.eval = ρ at *
    go_simp
  refine g_11.step 65 _ rfl (lb_ I0.size) (wn rfl) r_12 (fun x_12 g_12 => ?_)
  clear r_12 g_11
  have r_13 : (execOp x_12.eval oYG9).run Try.prog (wr) = .ok (.value (.bool true)) (wr) := by
    unfold oYG9
    have e65 : x_12.eval (.tmp 65) = .pointer (some ⟨w.heap.size + 1, y, none⟩) := g_12.at_ 65
    clear g_12 hQ h8 h9 h10
    generalize x_12.eval = ρ at *
    go_simp
  refine g_12.step 66 _ rfl (lb_ I0.size) (wn rfl) r_13 (fun x_13 g_13 => ?_)
  clear r_13 g_12
  refine wpList_nil ?_
  change Code.wp _ _ _ _ _
  refine wp_cond_true (show x_13.eval (.tmp 66) = .bool true from (g_13.at_ 66)) (wp_seq ?_)
  refine wp_region_list ?_
  unfold rRT13
  refine g_13.move 6 (.bool false) _ (Or.inr rfl) rfl (lb_ I0.size) (wn rfl) rfl (fun x_14 g_14 => ?_)
  clear g_13
  refine wpList_nil ?_
  change Code.wp _ _ _ _ _
  refine wp_ret ?_
  exact hQ x_14 (g_14.defers.trans I0.defers) (show x_14.eval (.tmp 6) = .bool false from (g_14.at_ 6))
set_option maxRecDepth 100000 in
set_option maxHeartbeats 1000000 in
theorem rt2G {nb no y : Nat} {p q : Int} {pages bb pg nl xc n cp i k : Nat} {pa : Option Addr} {f : Nat → Bool} {Q : Exit → Act → World → Prop} (a0 : Act) (w wr : World) (I0 : IR w.heap.size pa n cp pages a0) (h8 : a0.eval (.tmp 8) = .int .i64 (i : Int)) (h9 : a0.eval (.tmp 9) = .pointer (some ⟨bb, 0, none⟩)) (h10 : a0.eval (.tmp 10) = .int .i64 (k : Int)) (hw : RWb w wr p q pages f bb pg (some ⟨nb, no, none⟩) nl xc) (hkn : k < nl) (hnl : nl ≤ 4000000) (hy : wr.cell? ⟨nb, no + k, none⟩ = some (.int .u32 (y : Int))) (hlt : y < pages) (hsn : f y = false)
    (hQ : ∀ a, IR w.heap.size pa n cp pages a → a.eval (.tmp 8) = .int .i64 (i : Int) → a.eval (.tmp 9) = .pointer (some ⟨bb, 0, none⟩) → a.eval (.tmp 10) = .int .i64 ((k : Int) + 1) → Q .normal a (wr.setCell ⟨w.heap.size + 1, y, none⟩ (.bool true))) : cRT2.wp Try.prog Q a0 wr := by
  have h8 := h8
  have hki : (k : Int) < (nl : Int) := by omega
  have hyi : (y : Int) < (pages : Int) := by omega
  have w7 : IntKind.i64.wrap ((k : Int) + 1) = (k : Int) + 1 := by rw [IntKind.wrap_i64]; omega
  have g_0 := Fe.refl a0
  obtain ⟨c1, c2⟩ := hw.cells
  have c5 := hw.wd.cell hlt
  rw [hsn] at c5
  have c6 : wr.frozen? ⟨w.heap.size + 1, y, none⟩ = false := hw.wd.frozen
  unfold cRT2
  refine wp_seq (wp_seq ?_)
  refine wp_region_list ?_
  unfold rRT10
  refine g_0.move 52 (.int .i64 (k : Int)) _ (Or.inl rfl) rfl (lb_ I0.size) (wn rfl) ((g_0.at_ 10).trans h10) (fun x_1 g_1 => ?_)
  clear g_0
  have r_2 : (execOp x_1.eval oYG0).run Try.prog (wr) = .ok (.value (.pointer (some ⟨bb, 1, none⟩))) (wr) := by
    unfold oYG0
    have e9 := (show x_1.eval (.tmp 9) = .pointer (some ⟨bb, 0, none⟩) from ((g_1.at_ 9).trans h9))
    clear g_1 hQ h8 h9 h10
    generalize x_1.eval = ρ at *
    go_simp
  refine g_1.step 53 _ rfl (lb_ I0.size) (wn rfl) r_2 (fun x_2 g_2 => ?_)
  clear r_2 g_1
  have r_3 : (execOp x_2.eval oYG1).run Try.prog (wr) = .ok (.value (.slice (some ⟨nb, no, none⟩) nl xc)) (wr) := by
    unfold oYG1
    have e53 : x_2.eval (.tmp 53) = .pointer (some ⟨bb, 1, none⟩) := g_2.at_ 53
    clear g_2 hQ h8 h9 h10
    generalize x_2.eval = ρ at *
    go_simp
  refine g_2.step 54 _ rfl (lb_ I0.size) (wn rfl) r_3 (fun x_3 g_3 => ?_)
  clear r_3 g_2
  have r_4 : (execOp x_3.eval oYG2).run Try.prog (wr) = .ok (.value (.int .i64 (nl : Int))) (wr) := by
    unfold oYG2
    have e54 : x_3.eval (.tmp 54) = .slice (some ⟨nb, no, none⟩) nl xc := g_3.at_ 54
    clear g_3 hQ h8 h9 h10
    generalize x_3.eval = ρ at *
    go_simp
  refine g_3.step 55 _ rfl (lb_ I0.size) (wn rfl) r_4 (fun x_4 g_4 => ?_)
  clear r_4 g_3
  have r_5 : (execOp x_4.eval oYG3).run Try.prog (wr) = .ok (.value (.bool true)) (wr) := by
    unfold oYG3
    have e52 : x_4.eval (.tmp 52) = .int .i64 (k : Int) := g_4.at_ 52
    have e55 : x_4.eval (.tmp 55) = .int .i64 (nl : Int) := g_4.at_ 55
    clear g_4 hQ h8 h9 h10
    generalize x_4.eval = ρ at *
    go_simp
  refine g_4.step 56 _ rfl (lb_ I0.size) (wn rfl) r_5 (fun x_5 g_5 => ?_)
  clear r_5 g_4
  refine wpList_nil ?_
  change Code.wp _ _ _ _ _
  refine wp_cond_true (show x_5.eval (.tmp 56) = .bool true from (g_5.at_ 56)) (wp_skip ?_)
  change Code.wp _ _ _ _ _
  refine wp_seq (wp_block (wp_seq (wp_seq ?_)))
  refine wp_region_list ?_
  unfold rRT12
  refine g_5.move 59 (.slice (some ⟨w.heap.size + 1, 0, none⟩) pages pages) _ (Or.inl rfl) rfl (lb_ I0.size) (wn rfl) ((g_5.at_ 7).trans I0.s7) (fun x_6 g_6 => ?_)
  clear g_5
  have r_7 : (execOp x_6.eval oYG4).run Try.prog (wr) = .ok (.value (.pointer (some ⟨bb, 1, none⟩))) (wr) := by
    unfold oYG4
    have e9 := (show x_6.eval (.tmp 9) = .pointer (some ⟨bb, 0, none⟩) from ((g_6.at_ 9).trans h9))
    clear g_6 hQ h8 h9 h10
    generalize x_6.eval = ρ at *
    go_simp
  refine g_6.step 60 _ rfl (lb_ I0.size) (wn rfl) r_7 (fun x_7 g_7 => ?_)
  clear r_7 g_6
  have r_8 : (execOp x_7.eval oYG5).run Try.prog (wr) = .ok (.value (.slice (some ⟨nb, no, none⟩) nl xc)) (wr) := by
    unfold oYG5
    have e60 : x_7.eval (.tmp 60) = .pointer (some ⟨bb, 1, none⟩) := g_7.at_ 60
    clear g_7 hQ h8 h9 h10
    generalize x_7.eval = ρ at *
    go_simp
  refine g_7.step 61 _ rfl (lb_ I0.size) (wn rfl) r_8 (fun x_8 g_8 => ?_)
  clear r_8 g_7
  refine g_8.move 62 (.int .i64 (k : Int)) _ (Or.inl rfl) rfl (lb_ I0.size) (wn rfl) ((g_8.at_ 10).trans h10) (fun x_9 g_9 => ?_)
  clear g_8
  have r_10 : (execOp x_9.eval oYG6).run Try.prog (wr) = .ok (.value (.pointer (some ⟨nb, no + k, none⟩))) (wr) := by
    unfold oYG6
    have e61 : x_9.eval (.tmp 61) = .slice (some ⟨nb, no, none⟩) nl xc := g_9.at_ 61
    have e62 : x_9.eval (.tmp 62) = .int .i64 (k : Int) := g_9.at_ 62
    clear g_9 hQ h8 h9 h10
    generalize x_9.eval = ρ at *
    go_simp
  refine g_9.step 63 _ rfl (lb_ I0.size) (wn rfl) r_10 (fun x_10 g_10 => ?_)
  clear r_10 g_9
  have r_11 : (execOp x_10.eval oYG7).run Try.prog (wr) = .ok (.value (.int .u32 (y : Int))) (wr) := by
    unfold oYG7
    have e63 : x_10.eval (.tmp 63) = .pointer (some ⟨nb, no + k, none⟩) := g_10.at_ 63
    clear g_10 hQ h8 h9 h10
    generalize x_10.eval = ρ at *
    go_simp
  refine g_10.step 64 _ rfl (lb_ I0.size) (wn rfl) r_11 (fun x_11 g_11 => ?_)
  clear r_11 g_10
  have r_12 : (execOp x_11.eval oYG8).run Try.prog (wr) = .ok (.value (.pointer (some ⟨w.heap.size + 1, y, none⟩))) (wr) := by
    unfold oYG8
    have e59 : x_11.eval (.tmp 59) = .slice (some ⟨w.heap.size + 1, 0, none⟩) pages pages := g_11.at_ 59
    have e64 : x_11.eval (.tmp 64) = .int .u32 (y : Int) := g_11.at_ 64
    clear g_11 hQ h8 h9 h10
    generalize x_11.eval = ρ at *
    go_simp
  refine g_11.step 65 _ rfl (lb_ I0.size) (wn rfl) r_12 (fun x_12 g_12 => ?_)
  clear r_12 g_11
  have r_13 : (execOp x_12.eval oYG9).run Try.prog (wr) = .ok (.value (.bool false)) (wr) := by
    unfold oYG9
    have e65 : x_12.eval (.tmp 65) = .pointer (some ⟨w.heap.size + 1, y, none⟩) := g_12.at_ 65
    clear g_12 hQ h8 h9 h10
    generalize x_12.eval = ρ at *
    go_simp
  refine g_12.step 66 _ rfl (lb_ I0.size) (wn rfl) r_13 (fun x_13 g_13 => ?_)
  clear r_13 g_12
  refine wpList_nil ?_
  change Code.wp _ _ _ _ _
  refine wp_cond_false (show x_13.eval (.tmp 66) = .bool false from (g_13.at_ 66)) (wp_skip ?_)
  change Code.wp _ _ _ _ _
  refine wp_region_list ?_
  unfold rRT14
  refine g_13.move 67 (.slice (some ⟨w.heap.size + 1, 0, none⟩) pages pages) _ (Or.inl rfl) rfl (lb_ I0.size) (wn rfl) ((g_13.at_ 7).trans I0.s7) (fun x_14 g_14 => ?_)
  clear g_13
  have r_15 : (execOp x_14.eval { dst := some 68, op := Op.fieldAddr 53 (Operand.tmp 9) 1, type := 0, pos := "ref.go:97", after := #[], guard := none }).run Try.prog (wr) = .ok (.value (.pointer (some ⟨bb, 1, none⟩))) (wr) := by
    have e9 := (show x_14.eval (.tmp 9) = .pointer (some ⟨bb, 0, none⟩) from ((g_14.at_ 9).trans h9))
    clear g_14 hQ h8 h9 h10
    generalize x_14.eval = ρ at *
    go_simp
  refine g_14.step 68 _ rfl (lb_ I0.size) (wn rfl) r_15 (fun x_15 g_15 => ?_)
  clear r_15 g_14
  have r_16 : (execOp x_15.eval { dst := some 69, op := Op.load 51 (Operand.tmp 68), type := 51, pos := "ref.go:97", after := #[{ on := 1, ground := Ground.data }], guard := none }).run Try.prog (wr) = .ok (.value (.slice (some ⟨nb, no, none⟩) nl xc)) (wr) := by
    have e68 : x_15.eval (.tmp 68) = .pointer (some ⟨bb, 1, none⟩) := g_15.at_ 68
    clear g_15 hQ h8 h9 h10
    generalize x_15.eval = ρ at *
    go_simp
  refine g_15.step 69 _ rfl (lb_ I0.size) (wn rfl) r_16 (fun x_16 g_16 => ?_)
  clear r_16 g_15
  refine g_16.move 70 (.int .i64 (k : Int)) _ (Or.inl rfl) rfl (lb_ I0.size) (wn rfl) ((g_16.at_ 10).trans h10) (fun x_17 g_17 => ?_)
  clear g_16
  have r_18 : (execOp x_17.eval { dst := some 71, op := Op.indexAddr 51 (Operand.tmp 69) (Operand.tmp 70), type := 0, pos := "ref.go:97", after := #[{ on := 2, ground := Ground.data }, { on := 3, ground := Ground.data }], guard := none }).run Try.prog (wr) = .ok (.value (.pointer (some ⟨nb, no + k, none⟩))) (wr) := by
    have e69 : x_17.eval (.tmp 69) = .slice (some ⟨nb, no, none⟩) nl xc := g_17.at_ 69
    have e70 : x_17.eval (.tmp 70) = .int .i64 (k : Int) := g_17.at_ 70
    clear g_17 hQ h8 h9 h10
    generalize x_17.eval = ρ at *
    go_simp
  refine g_17.step 71 _ rfl (lb_ I0.size) (wn rfl) r_18 (fun x_18 g_18 => ?_)
  clear r_18 g_17
  have r_19 : (execOp x_18.eval { dst := some 72, op := Op.load 28 (Operand.tmp 71), type := 28, pos := "ref.go:97", after := #[{ on := 4, ground := Ground.data }], guard := none }).run Try.prog (wr) = .ok (.value (.int .u32 (y : Int))) (wr) := by
    have e71 : x_18.eval (.tmp 71) = .pointer (some ⟨nb, no + k, none⟩) := g_18.at_ 71
    clear g_18 hQ h8 h9 h10
    generalize x_18.eval = ρ at *
    go_simp
  refine g_18.step 72 _ rfl (lb_ I0.size) (wn rfl) r_19 (fun x_19 g_19 => ?_)
  clear r_19 g_18
  have r_20 : (execOp x_19.eval { dst := some 73, op := Op.indexAddr 103 (Operand.tmp 67) (Operand.tmp 72), type := 0, pos := "ref.go:97", after := #[{ on := 0, ground := Ground.data }, { on := 5, ground := Ground.data }, { on := 0, ground := Ground.phase }, { on := 1, ground := Ground.phase }, { on := 2, ground := Ground.phase }, { on := 3, ground := Ground.phase }, { on := 4, ground := Ground.phase }, { on := 5, ground := Ground.phase }], guard := none }).run Try.prog (wr) = .ok (.value (.pointer (some ⟨w.heap.size + 1, y, none⟩))) (wr) := by
    have e67 : x_19.eval (.tmp 67) = .slice (some ⟨w.heap.size + 1, 0, none⟩) pages pages := g_19.at_ 67
    have e72 : x_19.eval (.tmp 72) = .int .u32 (y : Int) := g_19.at_ 72
    clear g_19 hQ h8 h9 h10
    generalize x_19.eval = ρ at *
    go_simp
  refine g_19.step 73 _ rfl (lb_ I0.size) (wn rfl) r_20 (fun x_20 g_20 => ?_)
  clear r_20 g_19
  have r_21 : (execOp x_20.eval { dst := none, op := Op.store 4 (Operand.tmp 73) (Operand.const (Value.bool true)), type := 0, pos := "ref.go:97", after := #[{ on := 6, ground := Ground.data }, { on := 0, ground := Ground.phase }, { on := 1, ground := Ground.phase }, { on := 2, ground := Ground.phase }, { on := 3, ground := Ground.phase }, { on := 4, ground := Ground.phase }, { on := 5, ground := Ground.phase }], guard := none }).run Try.prog (wr) = .ok .skip (wr.setCell ⟨w.heap.size + 1, y, none⟩ (.bool true)) := by
    have kc : ∀ v, x_20.eval (.const v) = v := fun _ => rfl
    have e73 : x_20.eval (.tmp 73) = .pointer (some ⟨w.heap.size + 1, y, none⟩) := g_20.at_ 73
    clear g_20 hQ h8 h9 h10
    generalize x_20.eval = ρ at *
    go_simp
  refine g_20.store rfl (wn rfl) r_21 (fun x_21 g_21 => ?_)
  clear r_21 g_20
  refine wpList_nil ?_
  change Code.wp _ _ _ _ _
  refine wp_region_list ?_
  unfold rRT11
  refine g_21.move 57 (.int .i64 (k : Int)) _ (Or.inl rfl) rfl (lb_ I0.size) (wn rfl) ((g_21.at_ 10).trans h10) (fun x_22 g_22 => ?_)
  clear g_21
  have r_23 : (execOp x_22.eval { dst := some 58, op := Op.binOp BinOp.add 3 (Operand.tmp 57) (Operand.const (Value.int IntKind.i64 1)) 3, type := 3, pos := "ref.go:93", after := #[{ on := 0, ground := Ground.data }], guard := none }).run Try.prog (wr.setCell ⟨w.heap.size + 1, y, none⟩ (.bool true)) = .ok (.value (.int .i64 ((k : Int) + 1))) (wr.setCell ⟨w.heap.size + 1, y, none⟩ (.bool true)) := by
    have kc : ∀ v, x_22.eval (.const v) = v := fun _ => rfl
    have e57 : x_22.eval (.tmp 57) = .int .i64 (k : Int) := g_22.at_ 57
    clear g_22 hQ h8 h9 h10
    generalize x_22.eval = ρ at *
    go_simp
  refine g_22.step 58 _ rfl (lb_ I0.size) (wn rfl) r_23 (fun x_23 g_23 => ?_)
  clear r_23 g_22
  refine g_23.move 10 (.int .i64 ((k : Int) + 1)) _ (Or.inr rfl) rfl (lb_ I0.size) (wn rfl) (g_23.at_ 58) (fun x_24 g_24 => ?_)
  clear g_23
  refine wpList_nil ?_
  exact hQ x_24 (I0.keep g_24 (fun t ht => by rcases ht with rfl | rfl | rfl | rfl <;> rfl)) (show x_24.eval (.tmp 8) = .int .i64 (i : Int) from ((g_24.at_ 8).trans h8)) (show x_24.eval (.tmp 9) = .pointer (some ⟨bb, 0, none⟩) from ((g_24.at_ 9).trans h9)) (show x_24.eval (.tmp 10) = .int .i64 ((k : Int) + 1) from (g_24.at_ 10))
set_option maxRecDepth 100000 in
theorem rt2X {xa : Option Addr} {p q : Int} {pages bb pg nl xc n cp i k : Nat} {pa : Option Addr} {f : Nat → Bool} {Q : Exit → Act → World → Prop} (a0 : Act) (w wr : World) (I0 : IR w.heap.size pa n cp pages a0) (h8 : a0.eval (.tmp 8) = .int .i64 (i : Int)) (h9 : a0.eval (.tmp 9) = .pointer (some ⟨bb, 0, none⟩)) (h10 : a0.eval (.tmp 10) = .int .i64 (k : Int)) (hw : RWb w wr p q pages f bb pg xa nl xc) (hkn : nl ≤ k)
    (hQ : ∀ a, IR w.heap.size pa n cp pages a → a.eval (.tmp 8) = .int .i64 (i : Int) → a.eval (.tmp 9) = .pointer (some ⟨bb, 0, none⟩) → Q (.exit 2) a wr) : cRT2.wp Try.prog Q a0 wr := by
  have hki : ¬ (k : Int) < (nl : Int) := by omega
  have hkd : decide ((k : Int) < (nl : Int)) = false := decide_eq_false hki
  clear hkn
  have g_0 := Fe.refl a0
  obtain ⟨c1, c2⟩ := hw.cells
  unfold cRT2
  refine wp_seq (wp_seq ?_)
  refine wp_region_list ?_
  unfold rRT10
  refine g_0.move 52 (.int .i64 (k : Int)) _ (Or.inl rfl) rfl (lb_ I0.size) (wn rfl) ((g_0.at_ 10).trans h10) (fun x_1 g_1 => ?_)
  clear g_0
  have r_2 : (execOp x_1.eval oYG0).run Try.prog (wr) = .ok (.value (.pointer (some ⟨bb, 1, none⟩))) (wr) := by
    unfold oYG0
    have e9 := (show x_1.eval (.tmp 9) = .pointer (some ⟨bb, 0, none⟩) from ((g_1.at_ 9).trans h9))
    clear g_1 hQ h8 h9 h10
    generalize x_1.eval = ρ at *
    go_simp
  refine g_1.step 53 _ rfl (lb_ I0.size) (wn rfl) r_2 (fun x_2 g_2 => ?_)
  clear r_2 g_1
  have r_3 : (execOp x_2.eval oYG1).run Try.prog (wr) = .ok (.value (.slice xa nl xc)) (wr) := by
    unfold oYG1
    have e53 : x_2.eval (.tmp 53) = .pointer (some ⟨bb, 1, none⟩) := g_2.at_ 53
    clear g_2 hQ h8 h9 h10
    generalize x_2.eval = ρ at *
    go_simp
  refine g_2.step 54 _ rfl (lb_ I0.size) (wn rfl) r_3 (fun x_3 g_3 => ?_)
  clear r_3 g_2
  have r_4 : (execOp x_3.eval oYG2).run Try.prog (wr) = .ok (.value (.int .i64 (nl : Int))) (wr) := by
    unfold oYG2
    have e54 : x_3.eval (.tmp 54) = .slice xa nl xc := g_3.at_ 54
    clear g_3 hQ h8 h9 h10
    generalize x_3.eval = ρ at *
    go_simp
  refine g_3.step 55 _ rfl (lb_ I0.size) (wn rfl) r_4 (fun x_4 g_4 => ?_)
  clear r_4 g_3
  have r_5 : (execOp x_4.eval oYG3).run Try.prog (wr) = .ok (.value (.bool false)) (wr) := by
    unfold oYG3
    have e52 : x_4.eval (.tmp 52) = .int .i64 (k : Int) := g_4.at_ 52
    have e55 : x_4.eval (.tmp 55) = .int .i64 (nl : Int) := g_4.at_ 55
    clear g_4 hQ h8 h9 h10
    generalize x_4.eval = ρ at *
    go_simp
  refine g_4.step 56 _ rfl (lb_ I0.size) (wn rfl) r_5 (fun x_5 g_5 => ?_)
  clear r_5 g_4
  refine wpList_nil ?_
  change Code.wp _ _ _ _ _
  refine wp_cond_false (show x_5.eval (.tmp 56) = .bool false from (g_5.at_ 56)) (wp_exit ?_)
  exact hQ x_5 (I0.keep g_5 (fun t ht => by rcases ht with rfl | rfl | rfl | rfl <;> rfl)) (show x_5.eval (.tmp 8) = .int .i64 (i : Int) from ((g_5.at_ 8).trans h8)) (show x_5.eval (.tmp 9) = .pointer (some ⟨bb, 0, none⟩) from ((g_5.at_ 9).trans h9))
theorem rt2L {x : Bt} {p q : Int} {pages bb n cp i : Nat} {pa : Option Addr} {f : Nat → Bool} {Q : Exit → Act → World → Prop} (a0 : Act) (w wr : World) (I0 : IR w.heap.size pa n cp pages a0) (h8 : a0.eval (.tmp 8) = .int .i64 (i : Int)) (h9 : a0.eval (.tmp 9) = .pointer (some ⟨bb, 0, none⟩)) (h10 : a0.eval (.tmp 10) = .int .i64 ((0 : Nat) : Int))
    (hw : RWb w wr p q pages f bb x.pg x.na x.ns.length x.nc) (hr : NRow w x.na x.nb x.no x.ns) (hl : x.ns.length ≤ 4000000) (hlt : ∀ y ∈ x.ns, y < pages)
    (hQ : (dN f x.ns).1 = true → ∀ a W, IR w.heap.size pa n cp pages a → a.eval (.tmp 8) = .int .i64 (i : Int) → RWb w W p q pages (dN f x.ns).2 bb x.pg x.na x.ns.length x.nc → Q (.exit 2) a W)
    (hR : (dN f x.ns).1 = false → ∀ (a : Act) W, a.defers = [] → a.eval (.tmp 6) = .bool false → Same w W → Q .ret a W) : (Code.loop cRT2).wp Try.prog Q a0 wr := by
  refine wp_loop (fun a W => IR w.heap.size pa n cp pages a ∧ a.eval (.tmp 8) = .int .i64 (i : Int) ∧ a.eval (.tmp 9) = .pointer (some ⟨bb, 0, none⟩) ∧ ∃ (k : Nat) (f' : Nat → Bool), k ≤ x.ns.length ∧ a.eval (.tmp 10) = .int .i64 (k : Int) ∧ dN f x.ns = dN f' (x.ns.drop k) ∧ RWb w W p q pages f' bb x.pg x.na x.ns.length x.nc) (fun a _ => x.ns.length - kOf a 10) ⟨I0, h8, h9, 0, f, Nat.zero_le _, h10, rfl, hw⟩ ?_
  rintro a W ⟨I1, g8, g9, k, f', hk, g10, hd, hw1⟩
  by_cases hgo : k < x.ns.length
  · obtain ⟨y, hy⟩ : ∃ y, x.ns[k]? = some y := ⟨_, List.getElem?_eq_getElem hgo⟩
    have hyl := hlt y (List.mem_of_getElem? hy)
    have hdrop : x.ns.drop k = y :: x.ns.drop (k + 1) := by
      have e : x.ns[k] = y := by rw [List.getElem?_eq_getElem hgo] at hy; exact Option.some.inj hy
      rw [List.drop_eq_getElem_cons hgo, e]
    rw [hdrop] at hd
    have hr1 := hr.same hw1.wd.same
    have hc := hr1.cells k y hy
    have hpl := (hr1.place (by intro e; rw [e] at hy; simp at hy)).1
    have hw2 := hw1
    rw [hpl] at hw2
    cases hs : f' y with
    | true =>
      have e1 : (dN f x.ns).1 = false := by rw [hd]; unfold dN; rw [if_pos hs]
      exact rt2S a w W I1 g8 g9 g10 hw2 hgo hl hc hyl hs (fun a' h1 h2 => hR e1 a' W h1 h2 hw1.wd.same)
    | false =>
      have e1 : dN f x.ns = dN (upd f' y) (x.ns.drop (k + 1)) := by rw [hd]; show (if f' y then _ else _) = _; rw [hs]; rfl
      refine rt2G a w W I1 g8 g9 g10 hw2 hgo hl hc hyl hs (fun a' i3 h1 h2 h3 => ?_)
      have h4 : a'.eval (.tmp 10) = .int .i64 ((k + 1 : Nat) : Int) := h3
      refine ⟨⟨i3, h1, h2, k + 1, upd f' y, hgo, h4, e1, hw1.put hyl⟩, ?_⟩
      show x.ns.length - kOf a' 10 < x.ns.length - kOf a 10
      rw [kOf_eq h4, kOf_eq g10]
      omega
  · have e1 : dN f x.ns = (true, f') := by rw [hd, List.drop_eq_nil_of_le (by omega)]; rfl
    refine rt2X a w W I1 g8 g9 g10 hw1 (Nat.le_of_not_lt hgo) (fun a' i2 h1 _ => hQ (by rw [e1]) a' W i2 h1 (by rw [e1]; exact hw1))
set_option maxRecDepth 100000 in
set_option maxHeartbeats 1000000 in
theorem rt1R {x : Bt} {L : List Bt} {p q : Int} {pages pb po n cp i : Nat} {f : Nat → Bool} {Q : Exit → Act → World → Prop} (hQp : ∀ c (a : Act) d v w, Q (.panic c) (a.put d v) w → Q (.panic c) a w) (a0 : Act) (w wr : World) (I0 : IR w.heap.size (some ⟨pb, po, none⟩) n cp pages a0) (h8 : a0.eval (.tmp 8) = .int .i64 (i : Int))
    (hw : RWd w wr p q pages f) (hb : BvRow w (some ⟨pb, po, none⟩) pb po L) (hx : L[i]? = some x) (hin : i < n) (hn : n ≤ 2000000) (hxl : x.ns.length ≤ 4000000)
    (hQ : badB p q pages f x = false → (dN (upd f x.pg) x.ns).1 = true → ∀ a W, IR w.heap.size (some ⟨pb, po, none⟩) n cp pages a → a.eval (.tmp 8) = .int .i64 ((i : Int) + 1) → RWd w W p q pages (dN (upd f x.pg) x.ns).2 → Q .normal a W)
    (hR : (badB p q pages f x = true ∨ (dN (upd f x.pg) x.ns).1 = false) → ∀ (a : Act) W, a.defers = [] → a.eval (.tmp 6) = .bool false → Same w W → Q .ret a W) : cRT1.wp Try.prog Q a0 wr := by
  have hii : (i : Int) < (n : Int) := by omega
  have w7 : IntKind.i64.wrap ((i : Int) + 1) = (i : Int) + 1 := by rw [IntKind.wrap_i64]; omega
  have hb0 := (hb.cells i x hx).2.2
  have g_0 := Fe.refl a0
  obtain ⟨c1, c2, c3⟩ := (hb.same hw.same).cells i x hx
  unfold cRT1
  refine wp_seq (wp_seq ?_)
  refine wp_region_list ?_
  unfold rRT3
  refine g_0.move 13 (.int .i64 (i : Int)) _ (Or.inl rfl) rfl (lb_ I0.size) (wn rfl) ((g_0.at_ 8).trans h8) (fun x_1 g_1 => ?_)
  clear g_0
  refine g_1.move 14 (.slice (some ⟨pb, po, none⟩) n cp) _ (Or.inl rfl) rfl (lb_ I0.size) (wn rfl) ((g_1.at_ 1).trans I0.s1) (fun x_2 g_2 => ?_)
  clear g_1
  have r_3 : (execOp x_2.eval oYG10).run Try.prog (wr) = .ok (.value (.int .i64 (n : Int))) (wr) := by
    unfold oYG10
    have e14 : x_2.eval (.tmp 14) = .slice (some ⟨pb, po, none⟩) n cp := g_2.at_ 14
    clear g_2 hQ hR h8
    generalize x_2.eval = ρ at *
    go_simp
  refine g_2.step 15 _ rfl (lb_ I0.size) (wn rfl) r_3 (fun x_3 g_3 => ?_)
  clear r_3 g_2
  have r_4 : (execOp x_3.eval oYG11).run Try.prog (wr) = .ok (.value (.bool true)) (wr) := by
    unfold oYG11
    have e13 : x_3.eval (.tmp 13) = .int .i64 (i : Int) := g_3.at_ 13
    have e15 : x_3.eval (.tmp 15) = .int .i64 (n : Int) := g_3.at_ 15
    clear g_3 hQ hR h8
    generalize x_3.eval = ρ at *
    go_simp
  refine g_3.step 16 _ rfl (lb_ I0.size) (wn rfl) r_4 (fun x_4 g_4 => ?_)
  clear r_4 g_3
  refine wpList_nil ?_
  change Code.wp _ _ _ _ _
  refine wp_cond_true (show x_4.eval (.tmp 16) = .bool true from (g_4.at_ 16)) (wp_skip ?_)
  change Code.wp _ _ _ _ _
  refine wp_seq (wp_block (wp_seq ?_))
  refine wp_region_list ?_
  unfold rRT5
  refine g_4.move 19 (.slice (some ⟨pb, po, none⟩) n cp) _ (Or.inl rfl) rfl (lb_ I0.size) (wn rfl) ((g_4.at_ 1).trans I0.s1) (fun x_5 g_5 => ?_)
  clear g_4
  refine g_5.move 20 (.int .i64 (i : Int)) _ (Or.inl rfl) rfl (lb_ I0.size) (wn rfl) ((g_5.at_ 8).trans h8) (fun x_6 g_6 => ?_)
  clear g_5
  have r_7 : (execOp x_6.eval { dst := some 21, op := Op.indexAddr 30 (Operand.tmp 19) (Operand.tmp 20), type := 0, pos := "ref.go:88", after := #[{ on := 0, ground := Ground.data }, { on := 1, ground := Ground.data }], guard := none }).run Try.prog (wr) = .ok (.value (.pointer (some ⟨pb, po + i * 2, none⟩))) (wr) := by
    have e19 : x_6.eval (.tmp 19) = .slice (some ⟨pb, po, none⟩) n cp := g_6.at_ 19
    have e20 : x_6.eval (.tmp 20) = .int .i64 (i : Int) := g_6.at_ 20
    clear g_6 hQ hR h8
    generalize x_6.eval = ρ at *
    go_simp
  refine g_6.step 21 _ rfl (lb_ I0.size) (wn rfl) r_7 (fun x_7 g_7 => ?_)
  clear r_7 g_6
  have r_8 : (execOp x_7.eval { dst := some 22, op := Op.load 53 (Operand.tmp 21), type := 53, pos := "ref.go:88", after := #[{ on := 2, ground := Ground.data }], guard := none }).run Try.prog (wr) = .ok (.value (.agg #[.int .u32 (x.pg : Int), .slice x.na x.ns.length x.nc])) (wr) := by
    have e21 : x_7.eval (.tmp 21) = .pointer (some ⟨pb, po + i * 2, none⟩) := g_7.at_ 21
    clear g_7 hQ hR h8
    generalize x_7.eval = ρ at *
    go_simp
  refine g_7.step 22 _ rfl (lb_ I0.size) (wn rfl) r_8 (fun x_8 g_8 => ?_)
  clear r_8 g_7
  have r_9 : (execOp x_8.eval { dst := some 9, op := Op.alloc 53, type := 0, pos := "ref.go:88", after := #[], guard := none }).run Try.prog (wr) = .ok (.value (.pointer (some ⟨wr.heap.size, 0, none⟩))) (wr.alloc (.cells #[.int .u32 0, .slice none 0 0] 53)) := by
    clear g_8 hQ hR h8
    generalize x_8.eval = ρ at *
    go_simp
  refine g_8.stepW 9 (.pointer (some ⟨wr.heap.size, 0, none⟩)) rfl (lb_ I0.size) (wn rfl) r_9 (fun x_9 g_9 => ?_)
  clear r_9 g_8
  have r_10 : (execOp x_9.eval { dst := none, op := Op.store 53 (Operand.tmp 9) (Operand.tmp 22), type := 0, pos := "ref.go:88", after := #[{ on := 4, ground := Ground.data }, { on := 3, ground := Ground.data }, { on := 0, ground := Ground.phase }, { on := 1, ground := Ground.phase }, { on := 2, ground := Ground.phase }, { on := 3, ground := Ground.phase }, { on := 4, ground := Ground.phase }], guard := none }).run Try.prog (wr.alloc (.cells #[.int .u32 0, .slice none 0 0] 53)) = .ok .skip (wr.alloc (.cells #[.int .u32 (x.pg : Int), .slice x.na x.ns.length x.nc] 53)) := by
    have e9 : x_9.eval (.tmp 9) = .pointer (some ⟨wr.heap.size, 0, none⟩) := g_9.at_ 9
    have e22 : x_9.eval (.tmp 22) = .agg #[.int .u32 (x.pg : Int), .slice x.na x.ns.length x.nc] := g_9.at_ 22
    clear g_9 hQ hR h8
    generalize x_9.eval = ρ at *
    go_simp
  refine g_9.store rfl (wn rfl) r_10 (fun x_10 g_10 => ?_)
  clear r_10 g_9
  refine wpList_nil ?_
  obtain ⟨V, hV⟩ : ∃ V, V = wr.alloc (.cells #[.int .u32 (x.pg : Int), .slice x.na x.ns.length x.nc] 53) := ⟨_, rfl⟩
  rw [← hV]
  have hwb : RWb w V p q pages f wr.heap.size x.pg x.na x.ns.length x.nc := ⟨hw.fr (by rw [hV]; exact (Fr.refl _ wr).alloc _), (own_ge (own_base hw.seen (Nat.zero_le _))).2, by rw [hV]; exact heap_alloc_new wr _⟩
  change Code.wp _ _ _ _ _
  refine wp_seq (wp_seq ?_)
  refine rg6 (by intro c a d v w h; exact hQp c a d v w h) x_10 w V (I0.keep g_10 (fun t ht => by rcases ht with rfl | rfl | rfl | rfl <;> rfl)) (show x_10.eval (.tmp 8) = .int .i64 (i : Int) from ((g_10.at_ 8).trans h8)) (show x_10.eval (.tmp 9) = .pointer (some ⟨wr.heap.size, 0, none⟩) from (g_10.at_ 9)) hwb hb0.row hxl (fun b W i1 b8 b9 b47 s1 => ?_)
  have hwb1 := hwb.fr s1
  change Code.wp _ _ _ _ _
  cases hbad : badB p q pages f x with
  | true =>
    rw [hbad] at b47
    have fb_0 := Fe.refl b
    refine wp_cond_true b47 (wp_seq ?_)
    refine wp_region_list ?_
    unfold rRT7
    refine fb_0.move 6 (.bool false) _ (Or.inr rfl) rfl (lb_ i1.size) (wn rfl) rfl (fun b_1 fb_1 => ?_)
    clear fb_0
    refine wpList_nil ?_
    change Code.wp _ _ _ _ _
    refine wp_ret ?_
    exact hR (Or.inl hbad) b_1 W (fb_1.defers.trans i1.defers) (show b_1.eval (.tmp 6) = .bool false from (fb_1.at_ 6)) hwb1.wd.same
  | false =>
    rw [hbad] at b47
    have hbb : fitsN p q x.ns pages = true ∧ ¬ x.pg < 2 ∧ ¬ pages ≤ x.pg ∧ f x.pg = false := by
      unfold badB at hbad
      simp only [Bool.or_eq_false_iff, Bool.not_eq_false', decide_eq_false_iff_not] at hbad
      exact ⟨hbad.1.1.1, hbad.1.1.2, hbad.1.2, hbad.2⟩
    have hpl : x.pg < pages := by omega
    have hlt : ∀ y ∈ x.ns, y < pages := fun y hy => by
      have h1 := hbb.1
      unfold fitsN at h1
      simp only [Bool.and_eq_true] at h1
      exact (rise_all x.ns 0 h1.2 y hy).2
    have fb_0 := Fe.refl b
    refine wp_cond_false b47 (wp_skip ?_)
    change Code.wp _ _ _ _ _
    refine wp_seq ?_
    obtain ⟨d1, d2⟩ := hwb1.cells
    have d5 := hwb1.wd.cell hpl
    have d6 : W.frozen? ⟨w.heap.size + 1, x.pg, none⟩ = false := hwb1.wd.frozen
    have hpi : (x.pg : Int) < (pages : Int) := by omega
    refine wp_region_list ?_
    unfold rRT8
    refine fb_0.move 48 (.slice (some ⟨w.heap.size + 1, 0, none⟩) pages pages) _ (Or.inl rfl) rfl (lb_ i1.size) (wn rfl) ((fb_0.at_ 7).trans i1.s7) (fun b_1 fb_1 => ?_)
    clear fb_0
    have r_b_2 : (execOp b_1.eval { dst := some 49, op := Op.fieldAddr 53 (Operand.tmp 9) 0, type := 0, pos := "ref.go:92", after := #[], guard := none }).run Try.prog (W) = .ok (.value (.pointer (some ⟨wr.heap.size, 0, none⟩))) (W) := by
      have e9 := (show b_1.eval (.tmp 9) = .pointer (some ⟨wr.heap.size, 0, none⟩) from ((fb_1.at_ 9).trans b9))
      clear fb_1 hQ hR b8 b9
      generalize b_1.eval = ρ at *
      go_simp
    refine fb_1.step 49 _ rfl (lb_ i1.size) (wn rfl) r_b_2 (fun b_2 fb_2 => ?_)
    clear r_b_2 fb_1
    have r_b_3 : (execOp b_2.eval { dst := some 50, op := Op.load 28 (Operand.tmp 49), type := 28, pos := "ref.go:92", after := #[{ on := 1, ground := Ground.data }], guard := none }).run Try.prog (W) = .ok (.value (.int .u32 (x.pg : Int))) (W) := by
      have e49 : b_2.eval (.tmp 49) = .pointer (some ⟨wr.heap.size, 0, none⟩) := fb_2.at_ 49
      clear fb_2 hQ hR b8 b9
      generalize b_2.eval = ρ at *
      go_simp
    refine fb_2.step 50 _ rfl (lb_ i1.size) (wn rfl) r_b_3 (fun b_3 fb_3 => ?_)
    clear r_b_3 fb_2
    have r_b_4 : (execOp b_3.eval { dst := some 51, op := Op.indexAddr 103 (Operand.tmp 48) (Operand.tmp 50), type := 0, pos := "ref.go:92", after := #[{ on := 0, ground := Ground.data }, { on := 2, ground := Ground.data }, { on := 0, ground := Ground.phase }, { on := 1, ground := Ground.phase }, { on := 2, ground := Ground.phase }], guard := none }).run Try.prog (W) = .ok (.value (.pointer (some ⟨w.heap.size + 1, x.pg, none⟩))) (W) := by
      have e48 : b_3.eval (.tmp 48) = .slice (some ⟨w.heap.size + 1, 0, none⟩) pages pages := fb_3.at_ 48
      have e50 : b_3.eval (.tmp 50) = .int .u32 (x.pg : Int) := fb_3.at_ 50
      clear fb_3 hQ hR b8 b9
      generalize b_3.eval = ρ at *
      go_simp
    refine fb_3.step 51 _ rfl (lb_ i1.size) (wn rfl) r_b_4 (fun b_4 fb_4 => ?_)
    clear r_b_4 fb_3
    have r_b_5 : (execOp b_4.eval { dst := none, op := Op.store 4 (Operand.tmp 51) (Operand.const (Value.bool true)), type := 0, pos := "ref.go:92", after := #[{ on := 3, ground := Ground.data }, { on := 0, ground := Ground.phase }, { on := 1, ground := Ground.phase }, { on := 2, ground := Ground.phase }], guard := none }).run Try.prog (W) = .ok .skip (W.setCell ⟨w.heap.size + 1, x.pg, none⟩ (.bool true)) := by
      have kc : ∀ v, b_4.eval (.const v) = v := fun _ => rfl
      have e51 : b_4.eval (.tmp 51) = .pointer (some ⟨w.heap.size + 1, x.pg, none⟩) := fb_4.at_ 51
      clear fb_4 hQ hR b8 b9
      generalize b_4.eval = ρ at *
      go_simp
    refine fb_4.store rfl (wn rfl) r_b_5 (fun b_5 fb_5 => ?_)
    clear r_b_5 fb_4
    refine wpList_nil ?_
    obtain ⟨W2, hW2⟩ : ∃ W2, W2 = W.setCell ⟨w.heap.size + 1, x.pg, none⟩ (.bool true) := ⟨_, rfl⟩
    rw [← hW2]
    have hwb2 : RWb w W2 p q pages (upd f x.pg) wr.heap.size x.pg x.na x.ns.length x.nc := by rw [hW2]; exact hwb1.put hpl
    change Code.wp _ _ _ _ _
    refine wp_seq ?_
    refine wp_region_list ?_
    unfold rRT9
    refine fb_5.move 10 (.int .i64 ((0 : Nat) : Int)) _ (Or.inr rfl) rfl (lb_ i1.size) (wn rfl) rfl (fun b_6 fb_6 => ?_)
    clear fb_5
    refine wpList_nil ?_
    change Code.wp _ _ _ _ _
    refine wp_block ?_
    refine rt2L b_6 w W2 (i1.keep fb_6 (fun t ht => by rcases ht with rfl | rfl | rfl | rfl <;> rfl)) (show b_6.eval (.tmp 8) = .int .i64 (i : Int) from ((fb_6.at_ 8).trans b8)) (show b_6.eval (.tmp 9) = .pointer (some ⟨wr.heap.size, 0, none⟩) from ((fb_6.at_ 9).trans b9)) (show b_6.eval (.tmp 10) = .int .i64 ((0 : Nat) : Int) from (fb_6.at_ 10)) hwb2 hb0.row hxl hlt (fun hok d W3 i3 d8 hw3 => ?_) (fun hno d W3 hdd d6 s3 => ?_)
    · have fd_0 := Fe.refl d
      change Code.wp _ _ _ _ _
      refine wp_region_list ?_
      unfold rRT4
      refine fd_0.move 17 (.int .i64 (i : Int)) _ (Or.inl rfl) rfl (lb_ i3.size) (wn rfl) ((fd_0.at_ 8).trans d8) (fun d_1 fd_1 => ?_)
      clear fd_0
      have r_d_2 : (execOp d_1.eval { dst := some 18, op := Op.binOp BinOp.add 3 (Operand.tmp 17) (Operand.const (Value.int IntKind.i64 1)) 3, type := 3, pos := "ref.go:87", after := #[{ on := 0, ground := Ground.data }], guard := none }).run Try.prog (W3) = .ok (.value (.int .i64 ((i : Int) + 1))) (W3) := by
        have kc : ∀ v, d_1.eval (.const v) = v := fun _ => rfl
        have e17 : d_1.eval (.tmp 17) = .int .i64 (i : Int) := fd_1.at_ 17
        clear fd_1 hQ hR d8
        generalize d_1.eval = ρ at *
        go_simp
      refine fd_1.step 18 _ rfl (lb_ i3.size) (wn rfl) r_d_2 (fun d_2 fd_2 => ?_)
      clear r_d_2 fd_1
      refine fd_2.move 8 (.int .i64 ((i : Int) + 1)) _ (Or.inr rfl) rfl (lb_ i3.size) (wn rfl) (fd_2.at_ 18) (fun d_3 fd_3 => ?_)
      clear fd_2
      refine wpList_nil ?_
      exact hQ hbad hok d_3 W3 (i3.keep fd_3 (fun t ht => by rcases ht with rfl | rfl | rfl | rfl <;> rfl)) (show d_3.eval (.tmp 8) = .int .i64 ((i : Int) + 1) from (fd_3.at_ 8)) hw3.wd
    · exact hR (Or.inr hno) d W3 hdd d6 s3
set_option maxRecDepth 100000 in
theorem rt1X {hz : Nat} {pa : Option Addr} {pages n cp i : Nat} {Q : Exit → Act → World → Prop} (a0 : Act) (wr : World) (I0 : IR hz pa n cp pages a0) (h8 : a0.eval (.tmp 8) = .int .i64 (i : Int)) (hin : n ≤ i)
    (hQ : ∀ a, IR hz pa n cp pages a → Q (.exit 0) a wr) : cRT1.wp Try.prog Q a0 wr := by
  have hki : ¬ (i : Int) < (n : Int) := by omega
  have hkd : decide ((i : Int) < (n : Int)) = false := decide_eq_false hki
  clear hin
  have g_0 := Fe.refl a0
  unfold cRT1
  refine wp_seq (wp_seq ?_)
  refine wp_region_list ?_
  unfold rRT3
  refine g_0.move 13 (.int .i64 (i : Int)) _ (Or.inl rfl) rfl (lb_ I0.size) (wn rfl) ((g_0.at_ 8).trans h8) (fun x_1 g_1 => ?_)
  clear g_0
  refine g_1.move 14 (.slice pa n cp) _ (Or.inl rfl) rfl (lb_ I0.size) (wn rfl) ((g_1.at_ 1).trans I0.s1) (fun x_2 g_2 => ?_)
  clear g_1
  have r_3 : (execOp x_2.eval oYG10).run Try.prog (wr) = .ok (.value (.int .i64 (n : Int))) (wr) := by
    unfold oYG10
    have e14 : x_2.eval (.tmp 14) = .slice pa n cp := g_2.at_ 14
    clear g_2 hQ h8
    generalize x_2.eval = ρ at *
    go_simp
  refine g_2.step 15 _ rfl (lb_ I0.size) (wn rfl) r_3 (fun x_3 g_3 => ?_)
  clear r_3 g_2
  have r_4 : (execOp x_3.eval oYG11).run Try.prog (wr) = .ok (.value (.bool false)) (wr) := by
    unfold oYG11
    have e13 : x_3.eval (.tmp 13) = .int .i64 (i : Int) := g_3.at_ 13
    have e15 : x_3.eval (.tmp 15) = .int .i64 (n : Int) := g_3.at_ 15
    clear g_3 hQ h8
    generalize x_3.eval = ρ at *
    go_simp
  refine g_3.step 16 _ rfl (lb_ I0.size) (wn rfl) r_4 (fun x_4 g_4 => ?_)
  clear r_4 g_3
  refine wpList_nil ?_
  change Code.wp _ _ _ _ _
  refine wp_cond_false (show x_4.eval (.tmp 16) = .bool false from (g_4.at_ 16)) (wp_exit ?_)
  exact hQ x_4 (I0.keep g_4 (fun t ht => by rcases ht with rfl | rfl | rfl | rfl <;> rfl))
theorem rt1L {L : List Bt} {p q : Int} {pa : Option Addr} {pages pb po n cp : Nat} {f : Nat → Bool} {Q : Exit → Act → World → Prop} (hQp : ∀ c (a : Act) d v w, Q (.panic c) (a.put d v) w → Q (.panic c) a w) (a0 : Act) (w wr : World) (I0 : IR w.heap.size pa n cp pages a0) (h8 : a0.eval (.tmp 8) = .int .i64 ((0 : Nat) : Int))
    (hw : RWd w wr p q pages f) (hb : BvRow w pa pb po L) (hn : n = L.length) (hwt : wt L ≤ 2000000)
    (hQ : dR p q pages f L = true → ∀ a W, IR w.heap.size pa n cp pages a → Same w W → Q (.exit 0) a W)
    (hR : dR p q pages f L = false → ∀ (a : Act) W, a.defers = [] → a.eval (.tmp 6) = .bool false → Same w W → Q .ret a W) : (Code.loop cRT1).wp Try.prog Q a0 wr := by
  have hn2 : n ≤ 2000000 := by rw [hn]; exact Nat.le_trans (wt_len L) hwt
  refine wp_loop (fun a W => IR w.heap.size pa n cp pages a ∧ ∃ (k : Nat) (f' : Nat → Bool), k ≤ n ∧ a.eval (.tmp 8) = .int .i64 (k : Int) ∧ dR p q pages f L = dR p q pages f' (L.drop k) ∧ RWd w W p q pages f') (fun a _ => n - kOf a 8) ⟨I0, 0, f, Nat.zero_le _, h8, rfl, hw⟩ ?_
  rintro a W ⟨I1, k, f', hk, g8, hd, hw1⟩
  by_cases hgo : k < n
  · obtain ⟨x, hx⟩ : ∃ x, L[k]? = some x := ⟨_, List.getElem?_eq_getElem (by rw [← hn]; exact hgo)⟩
    have hdrop : L.drop k = x :: L.drop (k + 1) := by
      have hl : k < L.length := by rw [← hn]; exact hgo
      have e : L[k] = x := by rw [List.getElem?_eq_getElem hl] at hx; exact Option.some.inj hx
      rw [List.drop_eq_getElem_cons hl, e]
    rw [hdrop] at hd
    obtain ⟨hpa, _⟩ := hb.place (by intro e; rw [e] at hx; simp at hx)
    subst hpa
    have hxl : x.ns.length ≤ 4000000 := by have := wt_mem (List.mem_of_getElem? hx); omega
    refine rt1R (Q := Exit.then _ Q) hQp a w W I1 g8 hw1 hb hx hgo hn2 hxl (fun h1 h2 a' W3 i3 h3 h4 => ?_) (fun h1 a' W3 h2 h3 s3 => ?_)
    · have h5 : a'.eval (.tmp 8) = .int .i64 ((k + 1 : Nat) : Int) := h3
      refine ⟨⟨i3, k + 1, _, hgo, h5, ?_, h4⟩, ?_⟩
      · rw [hd]; show (if badB p q pages f' x then _ else _) = _; rw [h1]; show (if (dN (upd f' x.pg) x.ns).1 then _ else _) = _; rw [h2]; rfl
      · show n - kOf a' 8 < n - kOf a 8
        rw [kOf_eq h5, kOf_eq g8]
        omega
    · refine hR ?_ a' W3 h2 h3 s3
      rw [hd]
      show (if badB p q pages f' x then _ else _) = _
      rcases h1 with h1 | h1
      · rw [h1]; rfl
      · cases badB p q pages f' x
        · show (if (dN (upd f' x.pg) x.ns).1 then _ else _) = _; rw [h1]; rfl
        · rfl
  · have e1 : dR p q pages f L = true := by rw [hd, List.drop_eq_nil_of_le (by rw [← hn]; omega)]; rfl
    exact rt1X a W I1 g8 (Nat.le_of_not_lt hgo) (fun a' i2 => hQ e1 a' W i2 hw1.same)
theorem Try.infBool : (Try.prog.info? 4).map (fun i => (i.zero, i.size, i.bytes)) = some (some (.bool false), 1, 1) := by kernel_rfl
theorem made_seen (n : Nat) : (madeCells (Value.bool false).cells (n * 1)).toList = seenC (fun _ => false) n := by
  unfold madeCells seenC
  rw [Nat.mul_one]
  simp [Value.cells]
  intro a _
  simp [Nat.mod_one]
set_option maxRecDepth 100000 in
set_option maxHeartbeats 1000000 in
theorem right_calls {p q : Int} {pa : Option Addr} {pb po n cp pages : Nat} {L : List Bt} (w : World) (hb : BvRow w pa pb po L) (hn : n = L.length) (hwt : wt L ≤ 2000000) (hp2 : pages ≤ 65536) :
    Calls Try.prog 22 #[frameV p q, .slice pa n cp, .int .u32 (pages : Int)] w fun e w' => e = .returned (.bool (dR p q pages (fun _ => false) L)) ∧ Same w w' := by
  refine calls_abs (c := cRT) Try.func22 (by kernel_rfl) 74 rfl (by simp) (fun a0 hsz hd ha => ?_)
  have g_0 := Fe.refl a0
  unfold cRT
  refine wp_seq ?_
  refine wp_region_list ?_
  unfold rRT0
  have r_1 : (execOp a0.eval { dst := some 3, op := Op.box 23 (Operand.tmp 0), type := 0, pos := "ref.go:85", after := #[], guard := none }).run Try.prog (w) = .ok (.value (.pointer (some ⟨w.heap.size, 0, none⟩))) (w.alloc (.cells #[.int .i64 p, .int .i64 q] 23)) := by
    have e0 := (show a0.eval (.tmp 0) = .agg #[.int .i64 p, .int .i64 q] from ((g_0.at_ 0).trans (ha 0 _ rfl)))
    clear g_0 ha
    generalize a0.eval = ρ at *
    go_simp
  refine g_0.stepW 3 (.pointer (some ⟨w.heap.size, 0, none⟩)) rfl (lb_ hsz) (wn rfl) r_1 (fun x_1 g_1 => ?_)
  clear r_1 g_0
  refine g_1.move 6 (.bool false) _ (Or.inr rfl) rfl (lb_ hsz) (wn rfl) rfl (fun x_2 g_2 => ?_)
  clear g_1
  refine wpList_nil ?_
  obtain ⟨V, hV⟩ : ∃ V, V = w.alloc (.cells #[.int .i64 p, .int .i64 q] 23) := ⟨_, rfl⟩
  rw [← hV]
  have sV : Same w V := by rw [hV]; exact (Fr.refl _ w).alloc _
  have hVs : V.heap.size = w.heap.size + 1 := by rw [hV, World.size_alloc]
  have hVf : V.heap[w.heap.size]? = some (.cells #[.int .i64 p, .int .i64 q] 23 (0, 0)) := by rw [hV]; exact heap_alloc_new w _
  obtain ⟨i0, hi, hi0, hi1, hi2⟩ := info_parts Try.infBool
  obtain ⟨W1, hr1, o1, g1⟩ := run_makeSlice_full (P := Try.prog) V w.heap.size 103 4 i0 (.bool false) 1 Try.underlying103 hi hi0 hi1 .u32 .u32 pages (by omega) (by rw [hi2]; omega) (by unfold maxLen; omega) sV.size
  rw [hVs] at hr1 o1
  change Code.wp _ _ _ _ _
  refine wp_seq ?_
  refine wp_region_list ?_
  unfold rRT1
  refine g_2.move 11 (.int .u32 (pages : Int)) _ (Or.inl rfl) rfl (lb_ hsz) (wn rfl) ((g_2.at_ 2).trans (ha 2 _ rfl)) (fun x_3 g_3 => ?_)
  clear g_2
  have r_4 : (execOp x_3.eval { dst := some 12, op := Op.makeSlice 103 (Operand.tmp 11) (Operand.tmp 11), type := 103, pos := "ref.go:86", after := #[{ on := 0, ground := Ground.data }, { on := 0, ground := Ground.data }], guard := none }).run Try.prog (V) = .ok (.value (.slice (some ⟨w.heap.size + 1, 0, none⟩) pages pages)) (W1) := by
    have e11 : x_3.eval (.tmp 11) = .int .u32 (pages : Int) := g_3.at_ 11
    clear g_3 ha
    generalize x_3.eval = ρ at *
    simp only [execOp, e11, Sem.run_bind, hr1, Result.andThen_ok, Sem.run_pure]
  refine g_3.stepW 12 (.slice (some ⟨w.heap.size + 1, 0, none⟩) pages pages) rfl (lb_ hsz) (wn rfl) r_4 (fun x_4 g_4 => ?_)
  clear r_4 g_3
  refine g_4.move 7 (.slice (some ⟨w.heap.size + 1, 0, none⟩) pages pages) _ (Or.inr rfl) rfl (lb_ hsz) (wn rfl) (g_4.at_ 12) (fun x_5 g_5 => ?_)
  clear g_4
  refine wpList_nil ?_
  have s1 : Same V W1 := Fr.grown (Fr.refl _ _) g1 (fun k e _ => by cases e)
  have hw : RWd w W1 p q pages (fun _ => false) := ⟨sV.trans s1, (s1.block _ (lt_of_heap hVf) (fun e => e)).trans hVf, by rw [← made_seen]; simpa using o1⟩
  change Code.wp _ _ _ _ _
  refine wp_seq (wp_seq ?_)
  refine wp_region_list ?_
  unfold rRT2
  refine g_5.move 8 (.int .i64 ((0 : Nat) : Int)) _ (Or.inr rfl) rfl (lb_ hsz) (wn rfl) rfl (fun x_6 g_6 => ?_)
  clear g_5
  refine wpList_nil ?_
  change Code.wp _ _ _ _ _
  refine wp_block ?_
  refine rt1L (by intro c a d v w h; cases d <;> exact h) x_6 w W1 ⟨g_6.size.trans hsz, g_6.defers.trans hd, (show x_6.eval (.tmp 1) = .slice pa n cp from ((g_6.at_ 1).trans (ha 1 _ rfl))), (show x_6.eval (.tmp 2) = .int .u32 (pages : Int) from ((g_6.at_ 2).trans (ha 2 _ rfl))), (show x_6.eval (.tmp 3) = .pointer (some ⟨w.heap.size, 0, none⟩) from (g_6.at_ 3)), (show x_6.eval (.tmp 7) = .slice (some ⟨w.heap.size + 1, 0, none⟩) pages pages from (g_6.at_ 7))⟩ (show x_6.eval (.tmp 8) = .int .i64 ((0 : Nat) : Int) from (g_6.at_ 8)) hw hb hn hwt (fun hok b W i1 s => ?_) (fun hno b W hbd b6 s => ?_)
  · have fb_0 := Fe.refl b
    change Code.wp _ _ _ _ _
    refine wp_seq ?_
    refine wp_region_list ?_
    unfold rRT15
    refine fb_0.move 6 (.bool true) _ (Or.inr rfl) rfl (lb_ i1.size) (wn rfl) rfl (fun b_1 fb_1 => ?_)
    clear fb_0
    refine wpList_nil ?_
    change Code.wp _ _ _ _ _
    refine wp_ret ?_
    exact ret_abs rfl (fb_1.defers.trans i1.defers) (show b_1.eval (.tmp 6) = .bool true from (fb_1.at_ 6)) ⟨by rw [hok], s⟩
  · simp only [Exit.inBlock, Exit.then]
    exact ret_abs rfl hbd b6 ⟨by rw [hno], s⟩
def rDC0 : Array Oper := #[oYG12,
  { dst := some 6, op := .assign (.const (.int .i64 0)), type := 3, pos := "ref.go:104", after := #[], guard := none }]
def rDC1 : Array Oper := #[oYG13,
  oYG14,
  oYG15,
  { dst := some 10, op := .move (.tmp 9), type := 4, pos := "ref.go:105", after := #[{ on := 2, ground := .data }, { on := 1, ground := .chain }], guard := none },
  { dst := some 11, op := .move (.tmp 2), type := 28, pos := "ref.go:105", after := #[{ on := 3, ground := .guard }], guard := some (3, false) },
  oYG16,
  oYG17,
  { dst := some 14, op := .move (.tmp 13), type := 4, pos := "ref.go:105", after := #[{ on := 6, ground := .data }, { on := 3, ground := .chain }], guard := none },
  { dst := some 15, op := .move (.tmp 2), type := 28, pos := "ref.go:105", after := #[{ on := 7, ground := .guard }], guard := some (7, false) },
  oYG18,
  oYG19]
def rDC2 : Array Oper := #[{ dst := some 6, op := .assign (.const (.int .i64 2)), type := 3, pos := "ref.go:106", after := #[], guard := none }]
def rDC3 : Array Oper := #[oYG20,
  { dst := some 19, op := .move (.tmp 1), type := 30, pos := "ref.go:108", after := #[], guard := none },
  { dst := some 20, op := .move (.tmp 2), type := 28, pos := "ref.go:108", after := #[], guard := none },
  oYG21,
  oYG22]
def rDC4 : Array Oper := #[{ dst := some 6, op := .assign (.const (.int .i64 90)), type := 3, pos := "ref.go:109", after := #[], guard := none }]
def rDC5 : Array Oper := #[{ dst := some 6, op := .assign (.const (.int .i64 0)), type := 3, pos := "ref.go:111", after := #[], guard := none }]
def cDC : Code := (.seq (.region 0 rDC0 false) (.seq (.seq (.region 1 rDC1 false) (.cond (.tmp 17) (.seq (.region 2 rDC2 false) .ret) .skip)) (.seq (.seq (.region 3 rDC3 false) (.cond (.tmp 22) (.seq (.region 4 rDC4 false) .ret) .skip)) (.seq (.region 5 rDC5 false) .ret))))
set_option maxRecDepth 100000 in
set_option maxHeartbeats 1000000 in
theorem dchka {p q : Int} {pa : Option Addr} {n cp pages : Nat} (w : World) (hmay : ∀ W, Calls Try.prog 21 #[.agg #[.int .i64 p, .int .i64 q]] W fun e w' => e = .returned (.bool false) ∧ Same W w')  :
    Calls Try.prog 6 #[frameV p q, .slice pa n cp, .int .u32 (pages : Int)] w fun e w' => e = .returned (.int .i64 2) ∧ Same w w' := by
  refine calls_abs (c := cDC) Try.func6 (by kernel_rfl) 23 rfl (by simp) (fun a0 hsz hd ha => ?_)
  have g_0 := Fe.refl a0
  unfold cDC
  refine wp_seq ?_
  refine wp_region_list ?_
  unfold rDC0
  have r_1 : (execOp a0.eval oYG12).run Try.prog (w) = .ok (.value (.pointer (some ⟨w.heap.size, 0, none⟩))) (w.alloc (.cells #[.int .i64 p, .int .i64 q] 23)) := by
    unfold oYG12
    have e0 := (show a0.eval (.tmp 0) = .agg #[.int .i64 p, .int .i64 q] from ((g_0.at_ 0).trans (ha 0 _ rfl)))
    clear g_0 ha
    generalize a0.eval = ρ at *
    go_simp
  refine g_0.stepW 3 (.pointer (some ⟨w.heap.size, 0, none⟩)) rfl (lb_ hsz) (wn rfl) r_1 (fun x_1 g_1 => ?_)
  clear r_1 g_0
  refine g_1.move 6 (.int .i64 0) _ (Or.inr rfl) rfl (lb_ hsz) (wn rfl) rfl (fun x_2 g_2 => ?_)
  clear g_1
  refine wpList_nil ?_
  obtain ⟨V, hV⟩ : ∃ V, V = w.alloc (.cells #[.int .i64 p, .int .i64 q] 23) := ⟨_, rfl⟩
  rw [← hV]
  have sV : Same w V := by rw [hV]; exact (Fr.refl _ w).alloc _
  have c0 : V.cell? ⟨w.heap.size, 0, none⟩ = some (.int .i64 p) := by rw [hV]; simp
  have c1 : V.cell? ⟨w.heap.size, 1, none⟩ = some (.int .i64 q) := by rw [hV]; simp
  change Code.wp _ _ _ _ _
  refine wp_seq (wp_seq ?_)
  refine wp_region_list ?_
  unfold rDC1
  have r_3 : (execOp x_2.eval oYG13).run Try.prog (V) = .ok (.value (.agg #[.int .i64 p, .int .i64 q])) (V) := by
    unfold oYG13
    have e3 : x_2.eval (.tmp 3) = .pointer (some ⟨w.heap.size, 0, none⟩) := g_2.at_ 3
    clear g_2 ha
    generalize x_2.eval = ρ at *
    go_simp
  refine g_2.step 7 _ rfl (lb_ hsz) (wn rfl) r_3 (fun x_3 g_3 => ?_)
  clear r_3 g_2
  have r_4 : (execOp x_3.eval oYG14).run Try.prog (V) = .ok (.enter 21 #[.agg #[.int .i64 p, .int .i64 q]]) (V) := by
    unfold oYG14
    have kf : ∀ f, x_3.eval (.func f) = .func (.func f) #[] #[] := fun _ => rfl
    have e7 : x_3.eval (.tmp 7) = .agg #[.int .i64 p, .int .i64 q] := g_3.at_ 7
    clear g_3 ha
    generalize x_3.eval = ρ at *
    go_simp
  refine g_3.call 8 rfl (lb_ hsz) (wn rfl) r_4 (hmay V) (fun e W1 hR => ?_)
  obtain ⟨rfl, s1⟩ := hR
  clear r_4
  refine ⟨_, rfl, fun x_4 g_4 => ?_⟩
  clear g_3
  have r_5 : (execOp x_4.eval oYG15).run Try.prog (W1) = .ok (.value (.bool true)) (W1) := by
    unfold oYG15
    have e8 : x_4.eval (.tmp 8) = .bool false := g_4.at_ 8
    clear g_4 ha
    generalize x_4.eval = ρ at *
    go_simp
  refine g_4.step 9 _ rfl (lb_ hsz) (wn rfl) r_5 (fun x_5 g_5 => ?_)
  clear r_5 g_4
  refine g_5.move 10 (.bool true) _ (Or.inl rfl) rfl (lb_ hsz) (wn rfl) (g_5.at_ 9) (fun x_6 g_6 => ?_)
  clear g_5
  refine g_6.skip 11 rfl (lb_ hsz) ((wanted_at (t := 10) (c := true) (b := false) rfl rfl rfl (lb_ (g_6.size.trans hsz)) (g_6.at_ 10)).trans (by rfl)) (fun x_7 g_7 => ?_)
  clear g_6
  refine g_7.skip 12 rfl (lb_ hsz) ((wanted_at (t := 10) (c := true) (b := false) rfl rfl rfl (lb_ (g_7.size.trans hsz)) (g_7.at_ 10)).trans (by rfl)) (fun x_8 g_8 => ?_)
  clear g_7
  have r_9 : (execOp x_8.eval oYG17).run Try.prog (W1) = .ok (.value (.bool true)) (W1) := by
    unfold oYG17
    have kc : ∀ v, x_8.eval (.const v) = v := fun _ => rfl
    have e10 : x_8.eval (.tmp 10) = .bool true := g_8.at_ 10
    have e12 : x_8.eval (.tmp 12) = undef := g_8.at_ 12
    clear g_8 ha
    generalize x_8.eval = ρ at *
    go_simp
  refine g_8.step 13 _ rfl (lb_ hsz) (wn rfl) r_9 (fun x_9 g_9 => ?_)
  clear r_9 g_8
  refine g_9.move 14 (.bool true) _ (Or.inl rfl) rfl (lb_ hsz) (wn rfl) (g_9.at_ 13) (fun x_10 g_10 => ?_)
  clear g_9
  refine g_10.skip 15 rfl (lb_ hsz) ((wanted_at (t := 14) (c := true) (b := false) rfl rfl rfl (lb_ (g_10.size.trans hsz)) (g_10.at_ 14)).trans (by rfl)) (fun x_11 g_11 => ?_)
  clear g_10
  refine g_11.skip 16 rfl (lb_ hsz) ((wanted_at (t := 14) (c := true) (b := false) rfl rfl rfl (lb_ (g_11.size.trans hsz)) (g_11.at_ 14)).trans (by rfl)) (fun x_12 g_12 => ?_)
  clear g_11
  have r_13 : (execOp x_12.eval oYG19).run Try.prog (W1) = .ok (.value (.bool true)) (W1) := by
    unfold oYG19
    have kc : ∀ v, x_12.eval (.const v) = v := fun _ => rfl
    have e14 : x_12.eval (.tmp 14) = .bool true := g_12.at_ 14
    have e16 : x_12.eval (.tmp 16) = undef := g_12.at_ 16
    clear g_12 ha
    generalize x_12.eval = ρ at *
    go_simp
  refine g_12.step 17 _ rfl (lb_ hsz) (wn rfl) r_13 (fun x_13 g_13 => ?_)
  clear r_13 g_12
  refine wpList_nil ?_
  have d0 := s1.keep c0
  have d1 := s1.keep c1
  change Code.wp _ _ _ _ _
  refine wp_cond_true (show x_13.eval (.tmp 17) = .bool true from (g_13.at_ 17)) (wp_seq ?_)
  refine wp_region_list ?_
  unfold rDC2
  refine g_13.move 6 (.int .i64 2) _ (Or.inr rfl) rfl (lb_ hsz) (wn rfl) rfl (fun x_14 g_14 => ?_)
  clear g_13
  refine wpList_nil ?_
  change Code.wp _ _ _ _ _
  refine wp_ret ?_
  try simp only [Exit.then]
  exact ret_abs rfl (g_14.defers.trans hd) (show x_14.eval (.tmp 6) = .int .i64 2 from (g_14.at_ 6)) ⟨rfl, sV.trans s1⟩
set_option maxRecDepth 100000 in
set_option maxHeartbeats 1000000 in
theorem dchkb {p q : Int} {pa : Option Addr} {n cp pages : Nat} (w : World) (hmay : ∀ W, Calls Try.prog 21 #[.agg #[.int .i64 p, .int .i64 q]] W fun e w' => e = .returned (.bool true) ∧ Same W w') (h2 : pages < 2) :
    Calls Try.prog 6 #[frameV p q, .slice pa n cp, .int .u32 (pages : Int)] w fun e w' => e = .returned (.int .i64 2) ∧ Same w w' := by
  refine calls_abs (c := cDC) Try.func6 (by kernel_rfl) 23 rfl (by simp) (fun a0 hsz hd ha => ?_)
  have hi2 : (pages : Int) < 2 := by omega
  have g_0 := Fe.refl a0
  unfold cDC
  refine wp_seq ?_
  refine wp_region_list ?_
  unfold rDC0
  have r_1 : (execOp a0.eval oYG12).run Try.prog (w) = .ok (.value (.pointer (some ⟨w.heap.size, 0, none⟩))) (w.alloc (.cells #[.int .i64 p, .int .i64 q] 23)) := by
    unfold oYG12
    have e0 := (show a0.eval (.tmp 0) = .agg #[.int .i64 p, .int .i64 q] from ((g_0.at_ 0).trans (ha 0 _ rfl)))
    clear g_0 ha
    generalize a0.eval = ρ at *
    go_simp
  refine g_0.stepW 3 (.pointer (some ⟨w.heap.size, 0, none⟩)) rfl (lb_ hsz) (wn rfl) r_1 (fun x_1 g_1 => ?_)
  clear r_1 g_0
  refine g_1.move 6 (.int .i64 0) _ (Or.inr rfl) rfl (lb_ hsz) (wn rfl) rfl (fun x_2 g_2 => ?_)
  clear g_1
  refine wpList_nil ?_
  obtain ⟨V, hV⟩ : ∃ V, V = w.alloc (.cells #[.int .i64 p, .int .i64 q] 23) := ⟨_, rfl⟩
  rw [← hV]
  have sV : Same w V := by rw [hV]; exact (Fr.refl _ w).alloc _
  have c0 : V.cell? ⟨w.heap.size, 0, none⟩ = some (.int .i64 p) := by rw [hV]; simp
  have c1 : V.cell? ⟨w.heap.size, 1, none⟩ = some (.int .i64 q) := by rw [hV]; simp
  change Code.wp _ _ _ _ _
  refine wp_seq (wp_seq ?_)
  refine wp_region_list ?_
  unfold rDC1
  have r_3 : (execOp x_2.eval oYG13).run Try.prog (V) = .ok (.value (.agg #[.int .i64 p, .int .i64 q])) (V) := by
    unfold oYG13
    have e3 : x_2.eval (.tmp 3) = .pointer (some ⟨w.heap.size, 0, none⟩) := g_2.at_ 3
    clear g_2 ha
    generalize x_2.eval = ρ at *
    go_simp
  refine g_2.step 7 _ rfl (lb_ hsz) (wn rfl) r_3 (fun x_3 g_3 => ?_)
  clear r_3 g_2
  have r_4 : (execOp x_3.eval oYG14).run Try.prog (V) = .ok (.enter 21 #[.agg #[.int .i64 p, .int .i64 q]]) (V) := by
    unfold oYG14
    have kf : ∀ f, x_3.eval (.func f) = .func (.func f) #[] #[] := fun _ => rfl
    have e7 : x_3.eval (.tmp 7) = .agg #[.int .i64 p, .int .i64 q] := g_3.at_ 7
    clear g_3 ha
    generalize x_3.eval = ρ at *
    go_simp
  refine g_3.call 8 rfl (lb_ hsz) (wn rfl) r_4 (hmay V) (fun e W1 hR => ?_)
  obtain ⟨rfl, s1⟩ := hR
  clear r_4
  refine ⟨_, rfl, fun x_4 g_4 => ?_⟩
  clear g_3
  have r_5 : (execOp x_4.eval oYG15).run Try.prog (W1) = .ok (.value (.bool false)) (W1) := by
    unfold oYG15
    have e8 : x_4.eval (.tmp 8) = .bool true := g_4.at_ 8
    clear g_4 ha
    generalize x_4.eval = ρ at *
    go_simp
  refine g_4.step 9 _ rfl (lb_ hsz) (wn rfl) r_5 (fun x_5 g_5 => ?_)
  clear r_5 g_4
  refine g_5.move 10 (.bool false) _ (Or.inl rfl) rfl (lb_ hsz) (wn rfl) (g_5.at_ 9) (fun x_6 g_6 => ?_)
  clear g_5
  refine g_6.move 11 (.int .u32 (pages : Int)) _ (Or.inl rfl) rfl (lb_ hsz) ((wanted_at (t := 10) (c := false) (b := false) rfl rfl rfl (lb_ (g_6.size.trans hsz)) (g_6.at_ 10)).trans (by rfl)) ((g_6.at_ 2).trans (ha 2 _ rfl)) (fun x_7 g_7 => ?_)
  clear g_6
  have r_8 : (execOp x_7.eval oYG16).run Try.prog (W1) = .ok (.value (.bool true)) (W1) := by
    unfold oYG16
    have kc : ∀ v, x_7.eval (.const v) = v := fun _ => rfl
    have e11 : x_7.eval (.tmp 11) = .int .u32 (pages : Int) := g_7.at_ 11
    clear g_7 ha
    generalize x_7.eval = ρ at *
    go_simp
  refine g_7.step 12 _ rfl (lb_ hsz) ((wanted_at (t := 10) (c := false) (b := false) rfl rfl rfl (lb_ (g_7.size.trans hsz)) (g_7.at_ 10)).trans (by rfl)) r_8 (fun x_8 g_8 => ?_)
  clear r_8 g_7
  have r_9 : (execOp x_8.eval oYG17).run Try.prog (W1) = .ok (.value (.bool true)) (W1) := by
    unfold oYG17
    have kc : ∀ v, x_8.eval (.const v) = v := fun _ => rfl
    have e10 : x_8.eval (.tmp 10) = .bool false := g_8.at_ 10
    have e12 : x_8.eval (.tmp 12) = .bool true := g_8.at_ 12
    clear g_8 ha
    generalize x_8.eval = ρ at *
    go_simp
  refine g_8.step 13 _ rfl (lb_ hsz) (wn rfl) r_9 (fun x_9 g_9 => ?_)
  clear r_9 g_8
  refine g_9.move 14 (.bool true) _ (Or.inl rfl) rfl (lb_ hsz) (wn rfl) (g_9.at_ 13) (fun x_10 g_10 => ?_)
  clear g_9
  refine g_10.skip 15 rfl (lb_ hsz) ((wanted_at (t := 14) (c := true) (b := false) rfl rfl rfl (lb_ (g_10.size.trans hsz)) (g_10.at_ 14)).trans (by rfl)) (fun x_11 g_11 => ?_)
  clear g_10
  refine g_11.skip 16 rfl (lb_ hsz) ((wanted_at (t := 14) (c := true) (b := false) rfl rfl rfl (lb_ (g_11.size.trans hsz)) (g_11.at_ 14)).trans (by rfl)) (fun x_12 g_12 => ?_)
  clear g_11
  have r_13 : (execOp x_12.eval oYG19).run Try.prog (W1) = .ok (.value (.bool true)) (W1) := by
    unfold oYG19
    have kc : ∀ v, x_12.eval (.const v) = v := fun _ => rfl
    have e14 : x_12.eval (.tmp 14) = .bool true := g_12.at_ 14
    have e16 : x_12.eval (.tmp 16) = undef := g_12.at_ 16
    clear g_12 ha
    generalize x_12.eval = ρ at *
    go_simp
  refine g_12.step 17 _ rfl (lb_ hsz) (wn rfl) r_13 (fun x_13 g_13 => ?_)
  clear r_13 g_12
  refine wpList_nil ?_
  have d0 := s1.keep c0
  have d1 := s1.keep c1
  change Code.wp _ _ _ _ _
  refine wp_cond_true (show x_13.eval (.tmp 17) = .bool true from (g_13.at_ 17)) (wp_seq ?_)
  refine wp_region_list ?_
  unfold rDC2
  refine g_13.move 6 (.int .i64 2) _ (Or.inr rfl) rfl (lb_ hsz) (wn rfl) rfl (fun x_14 g_14 => ?_)
  clear g_13
  refine wpList_nil ?_
  change Code.wp _ _ _ _ _
  refine wp_ret ?_
  try simp only [Exit.then]
  exact ret_abs rfl (g_14.defers.trans hd) (show x_14.eval (.tmp 6) = .int .i64 2 from (g_14.at_ 6)) ⟨rfl, sV.trans s1⟩
set_option maxRecDepth 100000 in
set_option maxHeartbeats 1000000 in
theorem dchkc {p q : Int} {pa : Option Addr} {n cp pages : Nat} (w : World) (hmay : ∀ W, Calls Try.prog 21 #[.agg #[.int .i64 p, .int .i64 q]] W fun e w' => e = .returned (.bool true) ∧ Same W w') (h3 : 65536 < pages) :
    Calls Try.prog 6 #[frameV p q, .slice pa n cp, .int .u32 (pages : Int)] w fun e w' => e = .returned (.int .i64 2) ∧ Same w w' := by
  refine calls_abs (c := cDC) Try.func6 (by kernel_rfl) 23 rfl (by simp) (fun a0 hsz hd ha => ?_)
  have hi2 : decide ((pages : Int) < 2) = false := decide_eq_false (by omega)
  have hi3 : (65536 : Int) < (pages : Int) := by omega
  have g_0 := Fe.refl a0
  unfold cDC
  refine wp_seq ?_
  refine wp_region_list ?_
  unfold rDC0
  have r_1 : (execOp a0.eval oYG12).run Try.prog (w) = .ok (.value (.pointer (some ⟨w.heap.size, 0, none⟩))) (w.alloc (.cells #[.int .i64 p, .int .i64 q] 23)) := by
    unfold oYG12
    have e0 := (show a0.eval (.tmp 0) = .agg #[.int .i64 p, .int .i64 q] from ((g_0.at_ 0).trans (ha 0 _ rfl)))
    clear g_0 ha
    generalize a0.eval = ρ at *
    go_simp
  refine g_0.stepW 3 (.pointer (some ⟨w.heap.size, 0, none⟩)) rfl (lb_ hsz) (wn rfl) r_1 (fun x_1 g_1 => ?_)
  clear r_1 g_0
  refine g_1.move 6 (.int .i64 0) _ (Or.inr rfl) rfl (lb_ hsz) (wn rfl) rfl (fun x_2 g_2 => ?_)
  clear g_1
  refine wpList_nil ?_
  obtain ⟨V, hV⟩ : ∃ V, V = w.alloc (.cells #[.int .i64 p, .int .i64 q] 23) := ⟨_, rfl⟩
  rw [← hV]
  have sV : Same w V := by rw [hV]; exact (Fr.refl _ w).alloc _
  have c0 : V.cell? ⟨w.heap.size, 0, none⟩ = some (.int .i64 p) := by rw [hV]; simp
  have c1 : V.cell? ⟨w.heap.size, 1, none⟩ = some (.int .i64 q) := by rw [hV]; simp
  change Code.wp _ _ _ _ _
  refine wp_seq (wp_seq ?_)
  refine wp_region_list ?_
  unfold rDC1
  have r_3 : (execOp x_2.eval oYG13).run Try.prog (V) = .ok (.value (.agg #[.int .i64 p, .int .i64 q])) (V) := by
    unfold oYG13
    have e3 : x_2.eval (.tmp 3) = .pointer (some ⟨w.heap.size, 0, none⟩) := g_2.at_ 3
    clear g_2 ha
    generalize x_2.eval = ρ at *
    go_simp
  refine g_2.step 7 _ rfl (lb_ hsz) (wn rfl) r_3 (fun x_3 g_3 => ?_)
  clear r_3 g_2
  have r_4 : (execOp x_3.eval oYG14).run Try.prog (V) = .ok (.enter 21 #[.agg #[.int .i64 p, .int .i64 q]]) (V) := by
    unfold oYG14
    have kf : ∀ f, x_3.eval (.func f) = .func (.func f) #[] #[] := fun _ => rfl
    have e7 : x_3.eval (.tmp 7) = .agg #[.int .i64 p, .int .i64 q] := g_3.at_ 7
    clear g_3 ha
    generalize x_3.eval = ρ at *
    go_simp
  refine g_3.call 8 rfl (lb_ hsz) (wn rfl) r_4 (hmay V) (fun e W1 hR => ?_)
  obtain ⟨rfl, s1⟩ := hR
  clear r_4
  refine ⟨_, rfl, fun x_4 g_4 => ?_⟩
  clear g_3
  have r_5 : (execOp x_4.eval oYG15).run Try.prog (W1) = .ok (.value (.bool false)) (W1) := by
    unfold oYG15
    have e8 : x_4.eval (.tmp 8) = .bool true := g_4.at_ 8
    clear g_4 ha
    generalize x_4.eval = ρ at *
    go_simp
  refine g_4.step 9 _ rfl (lb_ hsz) (wn rfl) r_5 (fun x_5 g_5 => ?_)
  clear r_5 g_4
  refine g_5.move 10 (.bool false) _ (Or.inl rfl) rfl (lb_ hsz) (wn rfl) (g_5.at_ 9) (fun x_6 g_6 => ?_)
  clear g_5
  refine g_6.move 11 (.int .u32 (pages : Int)) _ (Or.inl rfl) rfl (lb_ hsz) ((wanted_at (t := 10) (c := false) (b := false) rfl rfl rfl (lb_ (g_6.size.trans hsz)) (g_6.at_ 10)).trans (by rfl)) ((g_6.at_ 2).trans (ha 2 _ rfl)) (fun x_7 g_7 => ?_)
  clear g_6
  have r_8 : (execOp x_7.eval oYG16).run Try.prog (W1) = .ok (.value (.bool false)) (W1) := by
    unfold oYG16
    have kc : ∀ v, x_7.eval (.const v) = v := fun _ => rfl
    have e11 : x_7.eval (.tmp 11) = .int .u32 (pages : Int) := g_7.at_ 11
    clear g_7 ha
    generalize x_7.eval = ρ at *
    go_simp
  refine g_7.step 12 _ rfl (lb_ hsz) ((wanted_at (t := 10) (c := false) (b := false) rfl rfl rfl (lb_ (g_7.size.trans hsz)) (g_7.at_ 10)).trans (by rfl)) r_8 (fun x_8 g_8 => ?_)
  clear r_8 g_7
  have r_9 : (execOp x_8.eval oYG17).run Try.prog (W1) = .ok (.value (.bool false)) (W1) := by
    unfold oYG17
    have kc : ∀ v, x_8.eval (.const v) = v := fun _ => rfl
    have e10 : x_8.eval (.tmp 10) = .bool false := g_8.at_ 10
    have e12 : x_8.eval (.tmp 12) = .bool false := g_8.at_ 12
    clear g_8 ha
    generalize x_8.eval = ρ at *
    go_simp
  refine g_8.step 13 _ rfl (lb_ hsz) (wn rfl) r_9 (fun x_9 g_9 => ?_)
  clear r_9 g_8
  refine g_9.move 14 (.bool false) _ (Or.inl rfl) rfl (lb_ hsz) (wn rfl) (g_9.at_ 13) (fun x_10 g_10 => ?_)
  clear g_9
  refine g_10.move 15 (.int .u32 (pages : Int)) _ (Or.inl rfl) rfl (lb_ hsz) ((wanted_at (t := 14) (c := false) (b := false) rfl rfl rfl (lb_ (g_10.size.trans hsz)) (g_10.at_ 14)).trans (by rfl)) ((g_10.at_ 2).trans (ha 2 _ rfl)) (fun x_11 g_11 => ?_)
  clear g_10
  have r_12 : (execOp x_11.eval oYG18).run Try.prog (W1) = .ok (.value (.bool true)) (W1) := by
    unfold oYG18
    have kc : ∀ v, x_11.eval (.const v) = v := fun _ => rfl
    have e15 : x_11.eval (.tmp 15) = .int .u32 (pages : Int) := g_11.at_ 15
    clear g_11 ha
    generalize x_11.eval = ρ at *
    go_simp
  refine g_11.step 16 _ rfl (lb_ hsz) ((wanted_at (t := 14) (c := false) (b := false) rfl rfl rfl (lb_ (g_11.size.trans hsz)) (g_11.at_ 14)).trans (by rfl)) r_12 (fun x_12 g_12 => ?_)
  clear r_12 g_11
  have r_13 : (execOp x_12.eval oYG19).run Try.prog (W1) = .ok (.value (.bool true)) (W1) := by
    unfold oYG19
    have kc : ∀ v, x_12.eval (.const v) = v := fun _ => rfl
    have e14 : x_12.eval (.tmp 14) = .bool false := g_12.at_ 14
    have e16 : x_12.eval (.tmp 16) = .bool true := g_12.at_ 16
    clear g_12 ha
    generalize x_12.eval = ρ at *
    go_simp
  refine g_12.step 17 _ rfl (lb_ hsz) (wn rfl) r_13 (fun x_13 g_13 => ?_)
  clear r_13 g_12
  refine wpList_nil ?_
  have d0 := s1.keep c0
  have d1 := s1.keep c1
  change Code.wp _ _ _ _ _
  refine wp_cond_true (show x_13.eval (.tmp 17) = .bool true from (g_13.at_ 17)) (wp_seq ?_)
  refine wp_region_list ?_
  unfold rDC2
  refine g_13.move 6 (.int .i64 2) _ (Or.inr rfl) rfl (lb_ hsz) (wn rfl) rfl (fun x_14 g_14 => ?_)
  clear g_13
  refine wpList_nil ?_
  change Code.wp _ _ _ _ _
  refine wp_ret ?_
  try simp only [Exit.then]
  exact ret_abs rfl (g_14.defers.trans hd) (show x_14.eval (.tmp 6) = .int .i64 2 from (g_14.at_ 6)) ⟨rfl, sV.trans s1⟩
set_option maxRecDepth 100000 in
set_option maxHeartbeats 1000000 in
theorem dchkd {p q : Int} {pa : Option Addr} {n cp pages : Nat} (w : World) (hmay : ∀ W, Calls Try.prog 21 #[.agg #[.int .i64 p, .int .i64 q]] W fun e w' => e = .returned (.bool true) ∧ Same W w') (h2 : 2 ≤ pages) (h3 : pages ≤ 65536) (hrt : ∀ W, Same w W → Calls Try.prog 22 #[.agg #[.int .i64 p, .int .i64 q], .slice pa n cp, .int .u32 (pages : Int)] W fun e w' => e = .returned (.bool true) ∧ Same W w') :
    Calls Try.prog 6 #[frameV p q, .slice pa n cp, .int .u32 (pages : Int)] w fun e w' => e = .returned (.int .i64 0) ∧ Same w w' := by
  refine calls_abs (c := cDC) Try.func6 (by kernel_rfl) 23 rfl (by simp) (fun a0 hsz hd ha => ?_)
  have hi2 : decide ((pages : Int) < 2) = false := decide_eq_false (by omega)
  have hi3 : decide ((65536 : Int) < (pages : Int)) = false := decide_eq_false (by omega)
  have g_0 := Fe.refl a0
  unfold cDC
  refine wp_seq ?_
  refine wp_region_list ?_
  unfold rDC0
  have r_1 : (execOp a0.eval oYG12).run Try.prog (w) = .ok (.value (.pointer (some ⟨w.heap.size, 0, none⟩))) (w.alloc (.cells #[.int .i64 p, .int .i64 q] 23)) := by
    unfold oYG12
    have e0 := (show a0.eval (.tmp 0) = .agg #[.int .i64 p, .int .i64 q] from ((g_0.at_ 0).trans (ha 0 _ rfl)))
    clear g_0 ha
    generalize a0.eval = ρ at *
    go_simp
  refine g_0.stepW 3 (.pointer (some ⟨w.heap.size, 0, none⟩)) rfl (lb_ hsz) (wn rfl) r_1 (fun x_1 g_1 => ?_)
  clear r_1 g_0
  refine g_1.move 6 (.int .i64 0) _ (Or.inr rfl) rfl (lb_ hsz) (wn rfl) rfl (fun x_2 g_2 => ?_)
  clear g_1
  refine wpList_nil ?_
  obtain ⟨V, hV⟩ : ∃ V, V = w.alloc (.cells #[.int .i64 p, .int .i64 q] 23) := ⟨_, rfl⟩
  rw [← hV]
  have sV : Same w V := by rw [hV]; exact (Fr.refl _ w).alloc _
  have c0 : V.cell? ⟨w.heap.size, 0, none⟩ = some (.int .i64 p) := by rw [hV]; simp
  have c1 : V.cell? ⟨w.heap.size, 1, none⟩ = some (.int .i64 q) := by rw [hV]; simp
  change Code.wp _ _ _ _ _
  refine wp_seq (wp_seq ?_)
  refine wp_region_list ?_
  unfold rDC1
  have r_3 : (execOp x_2.eval oYG13).run Try.prog (V) = .ok (.value (.agg #[.int .i64 p, .int .i64 q])) (V) := by
    unfold oYG13
    have e3 : x_2.eval (.tmp 3) = .pointer (some ⟨w.heap.size, 0, none⟩) := g_2.at_ 3
    clear g_2 ha
    generalize x_2.eval = ρ at *
    go_simp
  refine g_2.step 7 _ rfl (lb_ hsz) (wn rfl) r_3 (fun x_3 g_3 => ?_)
  clear r_3 g_2
  have r_4 : (execOp x_3.eval oYG14).run Try.prog (V) = .ok (.enter 21 #[.agg #[.int .i64 p, .int .i64 q]]) (V) := by
    unfold oYG14
    have kf : ∀ f, x_3.eval (.func f) = .func (.func f) #[] #[] := fun _ => rfl
    have e7 : x_3.eval (.tmp 7) = .agg #[.int .i64 p, .int .i64 q] := g_3.at_ 7
    clear g_3 ha
    generalize x_3.eval = ρ at *
    go_simp
  refine g_3.call 8 rfl (lb_ hsz) (wn rfl) r_4 (hmay V) (fun e W1 hR => ?_)
  obtain ⟨rfl, s1⟩ := hR
  clear r_4
  refine ⟨_, rfl, fun x_4 g_4 => ?_⟩
  clear g_3
  have r_5 : (execOp x_4.eval oYG15).run Try.prog (W1) = .ok (.value (.bool false)) (W1) := by
    unfold oYG15
    have e8 : x_4.eval (.tmp 8) = .bool true := g_4.at_ 8
    clear g_4 ha
    generalize x_4.eval = ρ at *
    go_simp
  refine g_4.step 9 _ rfl (lb_ hsz) (wn rfl) r_5 (fun x_5 g_5 => ?_)
  clear r_5 g_4
  refine g_5.move 10 (.bool false) _ (Or.inl rfl) rfl (lb_ hsz) (wn rfl) (g_5.at_ 9) (fun x_6 g_6 => ?_)
  clear g_5
  refine g_6.move 11 (.int .u32 (pages : Int)) _ (Or.inl rfl) rfl (lb_ hsz) ((wanted_at (t := 10) (c := false) (b := false) rfl rfl rfl (lb_ (g_6.size.trans hsz)) (g_6.at_ 10)).trans (by rfl)) ((g_6.at_ 2).trans (ha 2 _ rfl)) (fun x_7 g_7 => ?_)
  clear g_6
  have r_8 : (execOp x_7.eval oYG16).run Try.prog (W1) = .ok (.value (.bool false)) (W1) := by
    unfold oYG16
    have kc : ∀ v, x_7.eval (.const v) = v := fun _ => rfl
    have e11 : x_7.eval (.tmp 11) = .int .u32 (pages : Int) := g_7.at_ 11
    clear g_7 ha
    generalize x_7.eval = ρ at *
    go_simp
  refine g_7.step 12 _ rfl (lb_ hsz) ((wanted_at (t := 10) (c := false) (b := false) rfl rfl rfl (lb_ (g_7.size.trans hsz)) (g_7.at_ 10)).trans (by rfl)) r_8 (fun x_8 g_8 => ?_)
  clear r_8 g_7
  have r_9 : (execOp x_8.eval oYG17).run Try.prog (W1) = .ok (.value (.bool false)) (W1) := by
    unfold oYG17
    have kc : ∀ v, x_8.eval (.const v) = v := fun _ => rfl
    have e10 : x_8.eval (.tmp 10) = .bool false := g_8.at_ 10
    have e12 : x_8.eval (.tmp 12) = .bool false := g_8.at_ 12
    clear g_8 ha
    generalize x_8.eval = ρ at *
    go_simp
  refine g_8.step 13 _ rfl (lb_ hsz) (wn rfl) r_9 (fun x_9 g_9 => ?_)
  clear r_9 g_8
  refine g_9.move 14 (.bool false) _ (Or.inl rfl) rfl (lb_ hsz) (wn rfl) (g_9.at_ 13) (fun x_10 g_10 => ?_)
  clear g_9
  refine g_10.move 15 (.int .u32 (pages : Int)) _ (Or.inl rfl) rfl (lb_ hsz) ((wanted_at (t := 14) (c := false) (b := false) rfl rfl rfl (lb_ (g_10.size.trans hsz)) (g_10.at_ 14)).trans (by rfl)) ((g_10.at_ 2).trans (ha 2 _ rfl)) (fun x_11 g_11 => ?_)
  clear g_10
  have r_12 : (execOp x_11.eval oYG18).run Try.prog (W1) = .ok (.value (.bool false)) (W1) := by
    unfold oYG18
    have kc : ∀ v, x_11.eval (.const v) = v := fun _ => rfl
    have e15 : x_11.eval (.tmp 15) = .int .u32 (pages : Int) := g_11.at_ 15
    clear g_11 ha
    generalize x_11.eval = ρ at *
    go_simp
  refine g_11.step 16 _ rfl (lb_ hsz) ((wanted_at (t := 14) (c := false) (b := false) rfl rfl rfl (lb_ (g_11.size.trans hsz)) (g_11.at_ 14)).trans (by rfl)) r_12 (fun x_12 g_12 => ?_)
  clear r_12 g_11
  have r_13 : (execOp x_12.eval oYG19).run Try.prog (W1) = .ok (.value (.bool false)) (W1) := by
    unfold oYG19
    have kc : ∀ v, x_12.eval (.const v) = v := fun _ => rfl
    have e14 : x_12.eval (.tmp 14) = .bool false := g_12.at_ 14
    have e16 : x_12.eval (.tmp 16) = .bool false := g_12.at_ 16
    clear g_12 ha
    generalize x_12.eval = ρ at *
    go_simp
  refine g_12.step 17 _ rfl (lb_ hsz) (wn rfl) r_13 (fun x_13 g_13 => ?_)
  clear r_13 g_12
  refine wpList_nil ?_
  have d0 := s1.keep c0
  have d1 := s1.keep c1
  change Code.wp _ _ _ _ _
  refine wp_cond_false (show x_13.eval (.tmp 17) = .bool false from (g_13.at_ 17)) (wp_skip ?_)
  change Code.wp _ _ _ _ _
  refine wp_seq (wp_seq ?_)
  refine wp_region_list ?_
  unfold rDC3
  have r_14 : (execOp x_13.eval oYG20).run Try.prog (W1) = .ok (.value (.agg #[.int .i64 p, .int .i64 q])) (W1) := by
    unfold oYG20
    have e3 : x_13.eval (.tmp 3) = .pointer (some ⟨w.heap.size, 0, none⟩) := g_13.at_ 3
    clear g_13 ha
    generalize x_13.eval = ρ at *
    go_simp
  refine g_13.step 18 _ rfl (lb_ hsz) (wn rfl) r_14 (fun x_14 g_14 => ?_)
  clear r_14 g_13
  refine g_14.move 19 (.slice pa n cp) _ (Or.inl rfl) rfl (lb_ hsz) (wn rfl) ((g_14.at_ 1).trans (ha 1 _ rfl)) (fun x_15 g_15 => ?_)
  clear g_14
  refine g_15.move 20 (.int .u32 (pages : Int)) _ (Or.inl rfl) rfl (lb_ hsz) (wn rfl) ((g_15.at_ 2).trans (ha 2 _ rfl)) (fun x_16 g_16 => ?_)
  clear g_15
  have r_17 : (execOp x_16.eval oYG21).run Try.prog (W1) = .ok (.enter 22 #[.agg #[.int .i64 p, .int .i64 q], .slice pa n cp, .int .u32 (pages : Int)]) (W1) := by
    unfold oYG21
    have kf : ∀ f, x_16.eval (.func f) = .func (.func f) #[] #[] := fun _ => rfl
    have e18 : x_16.eval (.tmp 18) = .agg #[.int .i64 p, .int .i64 q] := g_16.at_ 18
    have e19 : x_16.eval (.tmp 19) = .slice pa n cp := g_16.at_ 19
    have e20 : x_16.eval (.tmp 20) = .int .u32 (pages : Int) := g_16.at_ 20
    clear g_16 ha
    generalize x_16.eval = ρ at *
    go_simp
  refine g_16.call 21 rfl (lb_ hsz) (wn rfl) r_17 (hrt W1 (sV.trans s1)) (fun e W2 hR => ?_)
  obtain ⟨rfl, s2⟩ := hR
  clear r_17
  refine ⟨_, rfl, fun x_17 g_17 => ?_⟩
  clear g_16
  have r_18 : (execOp x_17.eval oYG22).run Try.prog (W2) = .ok (.value (.bool false)) (W2) := by
    unfold oYG22
    have e21 : x_17.eval (.tmp 21) = .bool true := g_17.at_ 21
    clear g_17 ha
    generalize x_17.eval = ρ at *
    go_simp
  refine g_17.step 22 _ rfl (lb_ hsz) (wn rfl) r_18 (fun x_18 g_18 => ?_)
  clear r_18 g_17
  refine wpList_nil ?_
  change Code.wp _ _ _ _ _
  refine wp_cond_false (show x_18.eval (.tmp 22) = .bool false from (g_18.at_ 22)) (wp_skip ?_)
  change Code.wp _ _ _ _ _
  refine wp_seq ?_
  refine wp_region_list ?_
  unfold rDC5
  refine g_18.move 6 (.int .i64 0) _ (Or.inr rfl) rfl (lb_ hsz) (wn rfl) rfl (fun x_19 g_19 => ?_)
  clear g_18
  refine wpList_nil ?_
  change Code.wp _ _ _ _ _
  refine wp_ret ?_
  try simp only [Exit.then]
  exact ret_abs rfl (g_19.defers.trans hd) (show x_19.eval (.tmp 6) = .int .i64 0 from (g_19.at_ 6)) ⟨rfl, (sV.trans s1).trans s2⟩
set_option maxRecDepth 100000 in
set_option maxHeartbeats 1000000 in
theorem dchke {p q : Int} {pa : Option Addr} {n cp pages : Nat} (w : World) (hmay : ∀ W, Calls Try.prog 21 #[.agg #[.int .i64 p, .int .i64 q]] W fun e w' => e = .returned (.bool true) ∧ Same W w') (h2 : 2 ≤ pages) (h3 : pages ≤ 65536) (hrt : ∀ W, Same w W → Calls Try.prog 22 #[.agg #[.int .i64 p, .int .i64 q], .slice pa n cp, .int .u32 (pages : Int)] W fun e w' => e = .returned (.bool false) ∧ Same W w') :
    Calls Try.prog 6 #[frameV p q, .slice pa n cp, .int .u32 (pages : Int)] w fun e w' => e = .returned (.int .i64 90) ∧ Same w w' := by
  refine calls_abs (c := cDC) Try.func6 (by kernel_rfl) 23 rfl (by simp) (fun a0 hsz hd ha => ?_)
  have hi2 : decide ((pages : Int) < 2) = false := decide_eq_false (by omega)
  have hi3 : decide ((65536 : Int) < (pages : Int)) = false := decide_eq_false (by omega)
  have g_0 := Fe.refl a0
  unfold cDC
  refine wp_seq ?_
  refine wp_region_list ?_
  unfold rDC0
  have r_1 : (execOp a0.eval oYG12).run Try.prog (w) = .ok (.value (.pointer (some ⟨w.heap.size, 0, none⟩))) (w.alloc (.cells #[.int .i64 p, .int .i64 q] 23)) := by
    unfold oYG12
    have e0 := (show a0.eval (.tmp 0) = .agg #[.int .i64 p, .int .i64 q] from ((g_0.at_ 0).trans (ha 0 _ rfl)))
    clear g_0 ha
    generalize a0.eval = ρ at *
    go_simp
  refine g_0.stepW 3 (.pointer (some ⟨w.heap.size, 0, none⟩)) rfl (lb_ hsz) (wn rfl) r_1 (fun x_1 g_1 => ?_)
  clear r_1 g_0
  refine g_1.move 6 (.int .i64 0) _ (Or.inr rfl) rfl (lb_ hsz) (wn rfl) rfl (fun x_2 g_2 => ?_)
  clear g_1
  refine wpList_nil ?_
  obtain ⟨V, hV⟩ : ∃ V, V = w.alloc (.cells #[.int .i64 p, .int .i64 q] 23) := ⟨_, rfl⟩
  rw [← hV]
  have sV : Same w V := by rw [hV]; exact (Fr.refl _ w).alloc _
  have c0 : V.cell? ⟨w.heap.size, 0, none⟩ = some (.int .i64 p) := by rw [hV]; simp
  have c1 : V.cell? ⟨w.heap.size, 1, none⟩ = some (.int .i64 q) := by rw [hV]; simp
  change Code.wp _ _ _ _ _
  refine wp_seq (wp_seq ?_)
  refine wp_region_list ?_
  unfold rDC1
  have r_3 : (execOp x_2.eval oYG13).run Try.prog (V) = .ok (.value (.agg #[.int .i64 p, .int .i64 q])) (V) := by
    unfold oYG13
    have e3 : x_2.eval (.tmp 3) = .pointer (some ⟨w.heap.size, 0, none⟩) := g_2.at_ 3
    clear g_2 ha
    generalize x_2.eval = ρ at *
    go_simp
  refine g_2.step 7 _ rfl (lb_ hsz) (wn rfl) r_3 (fun x_3 g_3 => ?_)
  clear r_3 g_2
  have r_4 : (execOp x_3.eval oYG14).run Try.prog (V) = .ok (.enter 21 #[.agg #[.int .i64 p, .int .i64 q]]) (V) := by
    unfold oYG14
    have kf : ∀ f, x_3.eval (.func f) = .func (.func f) #[] #[] := fun _ => rfl
    have e7 : x_3.eval (.tmp 7) = .agg #[.int .i64 p, .int .i64 q] := g_3.at_ 7
    clear g_3 ha
    generalize x_3.eval = ρ at *
    go_simp
  refine g_3.call 8 rfl (lb_ hsz) (wn rfl) r_4 (hmay V) (fun e W1 hR => ?_)
  obtain ⟨rfl, s1⟩ := hR
  clear r_4
  refine ⟨_, rfl, fun x_4 g_4 => ?_⟩
  clear g_3
  have r_5 : (execOp x_4.eval oYG15).run Try.prog (W1) = .ok (.value (.bool false)) (W1) := by
    unfold oYG15
    have e8 : x_4.eval (.tmp 8) = .bool true := g_4.at_ 8
    clear g_4 ha
    generalize x_4.eval = ρ at *
    go_simp
  refine g_4.step 9 _ rfl (lb_ hsz) (wn rfl) r_5 (fun x_5 g_5 => ?_)
  clear r_5 g_4
  refine g_5.move 10 (.bool false) _ (Or.inl rfl) rfl (lb_ hsz) (wn rfl) (g_5.at_ 9) (fun x_6 g_6 => ?_)
  clear g_5
  refine g_6.move 11 (.int .u32 (pages : Int)) _ (Or.inl rfl) rfl (lb_ hsz) ((wanted_at (t := 10) (c := false) (b := false) rfl rfl rfl (lb_ (g_6.size.trans hsz)) (g_6.at_ 10)).trans (by rfl)) ((g_6.at_ 2).trans (ha 2 _ rfl)) (fun x_7 g_7 => ?_)
  clear g_6
  have r_8 : (execOp x_7.eval oYG16).run Try.prog (W1) = .ok (.value (.bool false)) (W1) := by
    unfold oYG16
    have kc : ∀ v, x_7.eval (.const v) = v := fun _ => rfl
    have e11 : x_7.eval (.tmp 11) = .int .u32 (pages : Int) := g_7.at_ 11
    clear g_7 ha
    generalize x_7.eval = ρ at *
    go_simp
  refine g_7.step 12 _ rfl (lb_ hsz) ((wanted_at (t := 10) (c := false) (b := false) rfl rfl rfl (lb_ (g_7.size.trans hsz)) (g_7.at_ 10)).trans (by rfl)) r_8 (fun x_8 g_8 => ?_)
  clear r_8 g_7
  have r_9 : (execOp x_8.eval oYG17).run Try.prog (W1) = .ok (.value (.bool false)) (W1) := by
    unfold oYG17
    have kc : ∀ v, x_8.eval (.const v) = v := fun _ => rfl
    have e10 : x_8.eval (.tmp 10) = .bool false := g_8.at_ 10
    have e12 : x_8.eval (.tmp 12) = .bool false := g_8.at_ 12
    clear g_8 ha
    generalize x_8.eval = ρ at *
    go_simp
  refine g_8.step 13 _ rfl (lb_ hsz) (wn rfl) r_9 (fun x_9 g_9 => ?_)
  clear r_9 g_8
  refine g_9.move 14 (.bool false) _ (Or.inl rfl) rfl (lb_ hsz) (wn rfl) (g_9.at_ 13) (fun x_10 g_10 => ?_)
  clear g_9
  refine g_10.move 15 (.int .u32 (pages : Int)) _ (Or.inl rfl) rfl (lb_ hsz) ((wanted_at (t := 14) (c := false) (b := false) rfl rfl rfl (lb_ (g_10.size.trans hsz)) (g_10.at_ 14)).trans (by rfl)) ((g_10.at_ 2).trans (ha 2 _ rfl)) (fun x_11 g_11 => ?_)
  clear g_10
  have r_12 : (execOp x_11.eval oYG18).run Try.prog (W1) = .ok (.value (.bool false)) (W1) := by
    unfold oYG18
    have kc : ∀ v, x_11.eval (.const v) = v := fun _ => rfl
    have e15 : x_11.eval (.tmp 15) = .int .u32 (pages : Int) := g_11.at_ 15
    clear g_11 ha
    generalize x_11.eval = ρ at *
    go_simp
  refine g_11.step 16 _ rfl (lb_ hsz) ((wanted_at (t := 14) (c := false) (b := false) rfl rfl rfl (lb_ (g_11.size.trans hsz)) (g_11.at_ 14)).trans (by rfl)) r_12 (fun x_12 g_12 => ?_)
  clear r_12 g_11
  have r_13 : (execOp x_12.eval oYG19).run Try.prog (W1) = .ok (.value (.bool false)) (W1) := by
    unfold oYG19
    have kc : ∀ v, x_12.eval (.const v) = v := fun _ => rfl
    have e14 : x_12.eval (.tmp 14) = .bool false := g_12.at_ 14
    have e16 : x_12.eval (.tmp 16) = .bool false := g_12.at_ 16
    clear g_12 ha
    generalize x_12.eval = ρ at *
    go_simp
  refine g_12.step 17 _ rfl (lb_ hsz) (wn rfl) r_13 (fun x_13 g_13 => ?_)
  clear r_13 g_12
  refine wpList_nil ?_
  have d0 := s1.keep c0
  have d1 := s1.keep c1
  change Code.wp _ _ _ _ _
  refine wp_cond_false (show x_13.eval (.tmp 17) = .bool false from (g_13.at_ 17)) (wp_skip ?_)
  change Code.wp _ _ _ _ _
  refine wp_seq (wp_seq ?_)
  refine wp_region_list ?_
  unfold rDC3
  have r_14 : (execOp x_13.eval oYG20).run Try.prog (W1) = .ok (.value (.agg #[.int .i64 p, .int .i64 q])) (W1) := by
    unfold oYG20
    have e3 : x_13.eval (.tmp 3) = .pointer (some ⟨w.heap.size, 0, none⟩) := g_13.at_ 3
    clear g_13 ha
    generalize x_13.eval = ρ at *
    go_simp
  refine g_13.step 18 _ rfl (lb_ hsz) (wn rfl) r_14 (fun x_14 g_14 => ?_)
  clear r_14 g_13
  refine g_14.move 19 (.slice pa n cp) _ (Or.inl rfl) rfl (lb_ hsz) (wn rfl) ((g_14.at_ 1).trans (ha 1 _ rfl)) (fun x_15 g_15 => ?_)
  clear g_14
  refine g_15.move 20 (.int .u32 (pages : Int)) _ (Or.inl rfl) rfl (lb_ hsz) (wn rfl) ((g_15.at_ 2).trans (ha 2 _ rfl)) (fun x_16 g_16 => ?_)
  clear g_15
  have r_17 : (execOp x_16.eval oYG21).run Try.prog (W1) = .ok (.enter 22 #[.agg #[.int .i64 p, .int .i64 q], .slice pa n cp, .int .u32 (pages : Int)]) (W1) := by
    unfold oYG21
    have kf : ∀ f, x_16.eval (.func f) = .func (.func f) #[] #[] := fun _ => rfl
    have e18 : x_16.eval (.tmp 18) = .agg #[.int .i64 p, .int .i64 q] := g_16.at_ 18
    have e19 : x_16.eval (.tmp 19) = .slice pa n cp := g_16.at_ 19
    have e20 : x_16.eval (.tmp 20) = .int .u32 (pages : Int) := g_16.at_ 20
    clear g_16 ha
    generalize x_16.eval = ρ at *
    go_simp
  refine g_16.call 21 rfl (lb_ hsz) (wn rfl) r_17 (hrt W1 (sV.trans s1)) (fun e W2 hR => ?_)
  obtain ⟨rfl, s2⟩ := hR
  clear r_17
  refine ⟨_, rfl, fun x_17 g_17 => ?_⟩
  clear g_16
  have r_18 : (execOp x_17.eval oYG22).run Try.prog (W2) = .ok (.value (.bool true)) (W2) := by
    unfold oYG22
    have e21 : x_17.eval (.tmp 21) = .bool false := g_17.at_ 21
    clear g_17 ha
    generalize x_17.eval = ρ at *
    go_simp
  refine g_17.step 22 _ rfl (lb_ hsz) (wn rfl) r_18 (fun x_18 g_18 => ?_)
  clear r_18 g_17
  refine wpList_nil ?_
  change Code.wp _ _ _ _ _
  refine wp_cond_true (show x_18.eval (.tmp 22) = .bool true from (g_18.at_ 22)) (wp_seq ?_)
  refine wp_region_list ?_
  unfold rDC4
  refine g_18.move 6 (.int .i64 90) _ (Or.inr rfl) rfl (lb_ hsz) (wn rfl) rfl (fun x_19 g_19 => ?_)
  clear g_18
  refine wpList_nil ?_
  change Code.wp _ _ _ _ _
  refine wp_ret ?_
  try simp only [Exit.then]
  exact ret_abs rfl (g_19.defers.trans hd) (show x_19.eval (.tmp 6) = .int .i64 90 from (g_19.at_ 6)) ⟨rfl, (sV.trans s1).trans s2⟩

/-- The document's Check. -/
def dchkE (p q : Int) (pages : Nat) (L : List Bt) : Int := if frameP p q = false then 2 else if pages < 2 ∨ 65536 < pages then 2 else if dR p q pages (fun _ => false) L then 0 else 90
theorem dcheck9_calls {p q : Int} {pa : Option Addr} {pb po n cp pages : Nat} {L : List Bt} (w : World) (hb : BvRow w pa pb po L) (hn : n = L.length) (hwt : wt L ≤ 2000000) :
    Calls Try.prog 6 #[frameV p q, .slice pa n cp, .int .u32 (pages : Int)] w fun e w' => e = .returned (.int .i64 (dchkE p q pages L)) ∧ Same w w' := by
  have hm : ∀ W, Calls Try.prog 21 #[.agg #[.int .i64 p, .int .i64 q]] W fun e w' => e = .returned (.bool (frameP p q)) ∧ Same W w' := rframe_calls p q
  unfold dchkE
  cases h1 : frameP p q with
  | false => rw [h1] at hm; rw [if_pos rfl]; exact dchka w hm
  | true =>
    rw [h1] at hm
    rw [if_neg (by simp)]
    by_cases h2 : pages < 2
    · rw [if_pos (Or.inl h2)]; exact dchkb w hm h2
    · by_cases h3 : 65536 < pages
      · rw [if_pos (Or.inr h3)]; exact dchkc w hm h3
      · rw [if_neg (by omega)]
        have hr : ∀ W, Same w W → Calls Try.prog 22 #[.agg #[.int .i64 p, .int .i64 q], .slice pa n cp, .int .u32 (pages : Int)] W fun e w' => e = .returned (.bool (dR p q pages (fun _ => false) L)) ∧ Same W w' := fun W s => right_calls W (hb.same s) hn hwt (by omega)
        cases h4 : dR p q pages (fun _ => false) L with
        | true => rw [h4] at hr; exact dchkd w hm (by omega) (by omega) hr
        | false => rw [h4] at hr; exact dchke w hm (by omega) (by omega) hr
end Go.Proofs.Ytajbifblbmlffaa
