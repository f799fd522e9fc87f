/- disk: Image; New; count where no arm is; Fork. -/
import Derived.Test.YtjiaepeglghheaaOE
namespace Go.Proofs.Ytjiaepeglghheaa
open Go.RowKit

set_option maxRecDepth 100000 in
theorem indexStrs_none {pa : Option Addr} {c : Nat} {f : Value} (w : World) :
    Calls Try.prog 56 #[.slice pa 0 c, f] w fun e w' => e = .returned (.int .i64 (-1)) ∧ w' = w := by
  go_enter Try.func56, Try.ntmps56
  go_wp2_with fail
  refine wp_loop_rounds 1 ?_
  rw [rounds_succ]
  go_wp2_with fail
  go_ret
  exact ⟨rfl, rfl⟩
set_option maxRecDepth 100000 in
theorem indexArms_none {pa : Option Addr} {c : Nat} {f : Value} (w : World) :
    Calls Try.prog 52 #[.slice pa 0 c, f] w fun e w' => e = .returned (.int .i64 (-1)) ∧ w' = w := by
  go_enter Try.func52, Try.ntmps52
  go_wp2_with fail
  refine wp_loop_rounds 1 ?_
  rw [rounds_succ]
  go_wp2_with fail
  go_ret
  exact ⟨rfl, rfl⟩
set_option maxRecDepth 100000 in
theorem containsStrs_none {pa : Option Addr} {c : Nat} {f : Value} (w : World) :
    Calls Try.prog 49 #[.slice pa 0 c, f] w fun e w' => e = .returned (.bool false) ∧ w' = w := by
  have hI := indexStrs_none (pa := pa) (c := c) (f := f) w
  go_enter Try.func49, Try.ntmps49
  go_wp2_with fail
  refine hI.mono ?_
  rintro e w' ⟨rfl, hw⟩
  rw [hw]
  go_wp2_with fail
  go_ret
  exact ⟨rfl, rfl⟩
set_option maxRecDepth 100000 in
theorem pageSize_calls {n : Int} (w : World) (h : n = 1024 ∨ n = 2048 ∨ n = 4096 ∨ n = 8192) :
    Calls Try.prog 47 #[.int .i64 n] w fun e w' => e = .returned (.bool true) ∧ w' = w := by
  rcases h with rfl | rfl | rfl | rfl <;>
  · go_enter Try.func47, Try.ntmps47
    go_wp2_with fail
    go_ret
    exact ⟨rfl, rfl⟩
theorem field_sheets (W : World) (x v : Value) (ao : Option Addr) (n c : Nat) (hx : v = .slice ao n c) : (Instr.field 68 (.agg #[x, v]) 1).run Try.prog W = .ok v W := by subst hx; kernel_rfl
set_option maxRecDepth 100000 in
theorem dimage_calls {b : Nat} {D : Dk} {S : Nat → Prop} (w : World) (h : DkAt w b D S) (hp : 0 < D.page) (hl : D.I.length ≤ 1048576) :
    Calls Try.prog 14 #[.pointer (some ⟨b, 0, none⟩)] w fun e w' => ∃ ao c, e = .returned (.slice ao D.I.length c) ∧ w'.ownsRow w.heap.size 9 1 (.slice ao D.I.length c) D.I.length (scells D.I) ∧ Same w w' := by
  obtain ⟨h1, _⟩ := h.cells
  have hT := there_core w h1 (by omega)
  obtain ⟨ia, ic, c2, c3, ho⟩ := h.rowI
  obtain ⟨pb, hr⟩ := trow_own ho
  have hC := sclone_calls (o := 2) w c2 c3 hr hl
  have hF := fun (W : World) (ao : Option Addr) (c : Nat) => field_sheets W (.int .i64 (D.page : Int)) _ ao D.I.length c rfl
  clear h h1 c2 c3 ho hr
  go_enter Try.func14, Try.ntmps14
  go_wp2_with fail
  refine hT.mono ?_
  rintro e w' ⟨rfl, hw⟩
  rw [hw]
  go_wp2_with fail
  refine hC.mono ?_
  rintro e W1 ⟨ao, c, rfl, o1, s1⟩
  have HO : Hid (W1.ownsRow w.heap.size 9 1 (.slice ao D.I.length c) D.I.length (scells D.I) ∧ Same w W1) := ⟨o1, s1⟩
  clear o1 s1 hT hC
  go_wp2_with fail
  go_ret
  exact ⟨ao, c, rfl, HO.out⟩
set_option maxRecDepth 100000 in
theorem count_none {b : Nat} {D : Dk} {S : Nat → Prop} {act : Int} (w : World) (h : DkAt w b D S) :
    Calls Try.prog 40 #[.pointer (some ⟨b, 0, none⟩), .int .u8 act] w fun e w' => e = .returned (.tuple #[.agg #[.int .u8 0, .int .i64 0, .bool false, .slice none 0 0], .bool false]) ∧ Same w w' := by
  obtain ⟨aa, ac, c7⟩ := h.rowA
  have sV : Same w (w.alloc (.cells #[.int .u8 0, .int .i64 0, .bool false, .slice none 0 0] 60)) := (Fr.refl _ w).alloc _
  have HR : Hid ((w.alloc (.cells #[.int .u8 0, .int .i64 0, .bool false, .slice none 0 0] 60)).heap[w.heap.size]? = some (.cells #[.int .u8 0, .int .i64 0, .bool false, .slice none 0 0] 60 (0, 0))) := heap_alloc_new w _
  have HS : Hid (Same w (w.alloc (.cells #[.int .u8 0, .int .i64 0, .bool false, .slice none 0 0] 60))) := sV
  have g7 := sV.keep c7
  have HI : Hid (∀ f W, Calls Try.prog 52 #[.slice aa 0 ac, f] W fun e w' => e = .returned (.int .i64 (-1)) ∧ w' = W) := fun f W => indexArms_none W
  clear h c7 sV
  go_enter Try.func40, Try.ntmps40
  go_wp2_with fail
  generalize w.alloc (.cells #[.int .u8 0, .int .i64 0, .bool false, .slice none 0 0] 60) = V at *
  refine wp_loop_rounds 1 ?_
  rw [rounds_succ]
  go_wp2_with fail
  refine (HI.out _ V).mono ?_
  rintro e w' ⟨rfl, hw⟩
  rw [hw]
  go_wp2_with (refine wpList_store_whole (by rfl) 60 _ _ (by rfl) w.heap.size #[.int .u8 0, .int .i64 0, .bool false, .slice none 0 0] _ 60 (by rfl) (by rfl) HR.out rfl (by kernel_rfl) (by kernel_rfl) ?_; intro W7 r7 f7)
  go_wp2_with fail
  refine bodyPost_ret (results_row_tmp1 rfl _ _ _ _ _ _ _ rfl r7 Try.underlying60 rfl (by kernel_rfl)) rfl ?_
  exact ⟨rfl, Fr.trans HS.out f7 (fun k hk e => by omega)⟩
def rOF0 : Array Oper := #[{ dst := some 2, op := Op.assign (Operand.const (Value.pointer none)), type := 24, pos := "disk.go:116", after := #[], guard := none }]
def rOF1 : Array Oper := #[{ dst := some 4, op := Op.move (Operand.tmp 0), type := 24, pos := "disk.go:117", after := #[], guard := none },
  { dst := some 5, op := Op.call { callee := Callee.value (Operand.func 30), args := #[Operand.tmp 4], argTypes := #[24] }, type := 4, pos := "disk.go:117", after := #[{ on := 0, ground := Ground.data }], guard := none },
  { dst := some 6, op := Op.unOp UnOp.not 4 (Operand.tmp 5), type := 4, pos := "disk.go:117", after := #[{ on := 1, ground := Ground.data }], guard := none }]
def rOF2 : Array Oper := #[{ dst := some 2, op := Op.assign (Operand.const (Value.pointer none)), type := 24, pos := "disk.go:118", after := #[], guard := none }]
def rOF3 : Array Oper := #[{ dst := some 7, op := Op.move (Operand.tmp 0), type := 24, pos := "disk.go:120", after := #[], guard := none },
  { dst := some 8, op := Op.nilCheck (Operand.tmp 7), type := 0, pos := "disk.go:120", after := #[{ on := 0, ground := Ground.data }], guard := none },
  { dst := some 9, op := Op.load 71 (Operand.tmp 8), type := 71, pos := "disk.go:120", after := #[{ on := 1, ground := Ground.data }], guard := none },
  { dst := some 3, op := Op.alloc 71, type := 0, pos := "disk.go:120", after := #[], guard := none },
  { dst := none, op := Op.store 71 (Operand.tmp 3) (Operand.tmp 9), type := 0, pos := "disk.go:120", after := #[{ on := 3, ground := Ground.data }, { on := 2, ground := Ground.data }, { on := 0, ground := Ground.phase }, { on := 1, ground := Ground.phase }, { on := 2, ground := Ground.phase }, { on := 3, ground := Ground.phase }], guard := none }]
def rOF4 : Array Oper := #[{ dst := some 10, op := Op.move (Operand.tmp 0), type := 24, pos := "disk.go:121", after := #[], guard := none },
  { dst := some 11, op := Op.nilCheck (Operand.tmp 10), type := 0, pos := "disk.go:121", after := #[{ on := 0, ground := Ground.data }], guard := none },
  { dst := some 12, op := Op.fieldAddr 71 (Operand.tmp 11) 0, type := 0, pos := "disk.go:121", after := #[{ on := 1, ground := Ground.data }], guard := none },
  { dst := some 13, op := Op.call { callee := Callee.value (Operand.func 31), args := #[Operand.tmp 12], argTypes := #[68] }, type := 68, pos := "disk.go:121", after := #[{ on := 2, ground := Ground.data }], guard := none },
  { dst := some 14, op := Op.fieldAddr 71 (Operand.tmp 3) 0, type := 0, pos := "disk.go:121", after := #[{ on := 0, ground := Ground.phase }, { on := 1, ground := Ground.phase }, { on := 2, ground := Ground.phase }, { on := 3, ground := Ground.phase }], guard := none },
  { dst := none, op := Op.store 68 (Operand.tmp 14) (Operand.tmp 13), type := 0, pos := "disk.go:121", after := #[{ on := 4, ground := Ground.data }, { on := 3, ground := Ground.data }, { on := 3, ground := Ground.chain }, { on := 0, ground := Ground.phase }, { on := 1, ground := Ground.phase }, { on := 2, ground := Ground.phase }, { on := 3, ground := Ground.phase }], guard := none }]
def rOF5 : Array Oper := #[{ dst := some 15, op := Op.move (Operand.tmp 0), type := 24, pos := "disk.go:122", after := #[], guard := none },
  { dst := some 16, op := Op.nilCheck (Operand.tmp 15), type := 0, pos := "disk.go:122", after := #[{ on := 0, ground := Ground.data }], guard := none },
  { dst := some 17, op := Op.fieldAddr 71 (Operand.tmp 16) 1, type := 0, pos := "disk.go:122", after := #[{ on := 1, ground := Ground.data }], guard := none },
  { dst := some 18, op := Op.call { callee := Callee.value (Operand.func 31), args := #[Operand.tmp 17], argTypes := #[68] }, type := 68, pos := "disk.go:122", after := #[{ on := 2, ground := Ground.data }], guard := none },
  { dst := some 19, op := Op.fieldAddr 71 (Operand.tmp 3) 1, type := 0, pos := "disk.go:122", after := #[{ on := 0, ground := Ground.phase }, { on := 1, ground := Ground.phase }, { on := 2, ground := Ground.phase }, { on := 3, ground := Ground.phase }], guard := none },
  { dst := none, op := Op.store 68 (Operand.tmp 19) (Operand.tmp 18), type := 0, pos := "disk.go:122", after := #[{ on := 4, ground := Ground.data }, { on := 3, ground := Ground.data }, { on := 3, ground := Ground.chain }, { on := 0, ground := Ground.phase }, { on := 1, ground := Ground.phase }, { on := 2, ground := Ground.phase }, { on := 3, ground := Ground.phase }], guard := none }]
def rOF6 : Array Oper := #[{ dst := some 20, op := Op.move (Operand.tmp 0), type := 24, pos := "disk.go:123", after := #[], guard := none },
  { dst := some 21, op := Op.nilCheck (Operand.tmp 20), type := 0, pos := "disk.go:123", after := #[{ on := 0, ground := Ground.data }], guard := none },
  { dst := some 22, op := Op.fieldAddr 71 (Operand.tmp 21) 4, type := 0, pos := "disk.go:123", after := #[{ on := 1, ground := Ground.data }], guard := none },
  { dst := some 23, op := Op.load 69 (Operand.tmp 22), type := 69, pos := "disk.go:123", after := #[{ on := 2, ground := Ground.data }], guard := none },
  { dst := some 24, op := Op.call { callee := Callee.value (Operand.func 32), args := #[Operand.tmp 23], argTypes := #[69] }, type := 69, pos := "disk.go:123", after := #[{ on := 3, ground := Ground.data }], guard := none },
  { dst := some 25, op := Op.fieldAddr 71 (Operand.tmp 3) 4, type := 0, pos := "disk.go:123", after := #[{ on := 0, ground := Ground.phase }, { on := 1, ground := Ground.phase }, { on := 2, ground := Ground.phase }, { on := 3, ground := Ground.phase }, { on := 4, ground := Ground.phase }], guard := none },
  { dst := none, op := Op.store 69 (Operand.tmp 25) (Operand.tmp 24), type := 0, pos := "disk.go:123", after := #[{ on := 5, ground := Ground.data }, { on := 4, ground := Ground.data }, { on := 4, ground := Ground.chain }, { on := 0, ground := Ground.phase }, { on := 1, ground := Ground.phase }, { on := 2, ground := Ground.phase }, { on := 3, ground := Ground.phase }, { on := 4, ground := Ground.phase }], guard := none }]
def rOF7 : Array Oper := #[{ dst := some 26, op := Op.move (Operand.tmp 0), type := 24, pos := "disk.go:124", after := #[], guard := none },
  { dst := some 27, op := Op.nilCheck (Operand.tmp 26), type := 0, pos := "disk.go:124", after := #[{ on := 0, ground := Ground.data }], guard := none },
  { dst := some 28, op := Op.fieldAddr 71 (Operand.tmp 27) 5, type := 0, pos := "disk.go:124", after := #[{ on := 1, ground := Ground.data }], guard := none },
  { dst := some 29, op := Op.load 32 (Operand.tmp 28), type := 32, pos := "disk.go:124", after := #[{ on := 2, ground := Ground.data }], guard := none },
  { dst := some 30, op := Op.call { callee := Callee.value (Operand.func 33), args := #[Operand.tmp 29], argTypes := #[32] }, type := 32, pos := "disk.go:124", after := #[{ on := 3, ground := Ground.data }], guard := none },
  { dst := some 31, op := Op.fieldAddr 71 (Operand.tmp 3) 5, type := 0, pos := "disk.go:124", after := #[{ on := 0, ground := Ground.phase }, { on := 1, ground := Ground.phase }, { on := 2, ground := Ground.phase }, { on := 3, ground := Ground.phase }, { on := 4, ground := Ground.phase }], guard := none },
  { dst := none, op := Op.store 32 (Operand.tmp 31) (Operand.tmp 30), type := 0, pos := "disk.go:124", after := #[{ on := 5, ground := Ground.data }, { on := 4, ground := Ground.data }, { on := 4, ground := Ground.chain }, { on := 0, ground := Ground.phase }, { on := 1, ground := Ground.phase }, { on := 2, ground := Ground.phase }, { on := 3, ground := Ground.phase }, { on := 4, ground := Ground.phase }], guard := none }]
def rOF8 : Array Oper := #[{ dst := some 2, op := Op.assign (Operand.tmp 3), type := 24, pos := "disk.go:125", after := #[], guard := none }]
def cOF : Code := (Code.seq (Code.region 0 rOF0 false) (Code.seq (Code.seq (Code.region 1 rOF1 false) (Code.cond (Operand.tmp 6) (Code.seq (Code.region 2 rOF2 false) Code.ret) Code.skip)) (Code.seq (Code.region 3 rOF3 false) (Code.seq (Code.region 4 rOF4 false) (Code.seq (Code.region 5 rOF5 false) (Code.seq (Code.region 6 rOF6 false) (Code.seq (Code.region 7 rOF7 false) (Code.seq (Code.region 8 rOF8 false) Code.ret))))))))
set_option maxRecDepth 100000 in
set_option maxHeartbeats 1000000 in
theorem dfork_calls {b : Nat} {D : Dk} {S : Nat → Prop} (w : World) (h : DkAt w b D S) (hp : 0 < D.page) (hlP : D.P.length ≤ 1048576) (hlI : D.I.length ≤ 1048576) (hlW : D.W.length ≤ 1048576) :
    Calls Try.prog 10 #[.pointer (some ⟨b, 0, none⟩)] w fun e w' => e = .returned (.pointer (some ⟨w.heap.size, 0, none⟩)) ∧ DkAt w' w.heap.size D (fun k => w.heap.size ≤ k ∧ k < w'.heap.size) ∧ Same w w' := by
  obtain ⟨⟨pa, ia, wa, aa, pc, ic, wc, ac, h1, hoP, hoI, hoW, _⟩, _, _⟩ := h
  obtain ⟨qb, hrP⟩ := trow_own hoP
  obtain ⟨jb, hrI⟩ := trow_own hoI
  have c0 : w.cell? ⟨b, 0, none⟩ = some (.int .i64 (D.page : Int)) := (cell_of_row _ _ _ _ _ _ h1).trans rfl
  have c1 : w.cell? ⟨b, 1, none⟩ = some (.slice pa D.P.length pc) := (cell_of_row _ _ _ _ _ _ h1).trans rfl
  have c2 : w.cell? ⟨b, 2, none⟩ = some (.int .i64 (D.page : Int)) := (cell_of_row _ _ _ _ _ _ h1).trans rfl
  have c3 : w.cell? ⟨b, 3, none⟩ = some (.slice ia D.I.length ic) := (cell_of_row _ _ _ _ _ _ h1).trans rfl
  have c6 : w.cell? ⟨b, 6, none⟩ = some (.slice wa D.W.length wc) := (cell_of_row _ _ _ _ _ _ h1).trans rfl
  have c7 : w.cell? ⟨b, 7, none⟩ = some (.slice aa 0 ac) := (cell_of_row _ _ _ _ _ _ h1).trans rfl
  have hT := there_core w c0 (by omega)
  refine calls_abs (c := cOF) Try.func10 (by kernel_rfl) 32 rfl (by simp) (fun a0 hsz hd ha => ?_)
  have fa0_0 := Fe.refl a0
  unfold cOF
  refine wp_seq ?_
  refine wp_region_list ?_
  unfold rOF0
  refine fa0_0.move 2 (.pointer none) _ (Or.inr rfl) rfl (lb_ hsz) (wanted_none rfl) rfl (fun a0_1 fa0_1 => ?_)
  clear fa0_0
  refine wpList_nil ?_
  change Code.wp _ _ _ _ _
  refine wp_seq (wp_seq ?_)
  refine wp_region_list ?_
  unfold rOF1
  refine fa0_1.move 4 (.pointer (some ⟨b, 0, none⟩)) _ (Or.inl rfl) rfl (lb_ hsz) (wanted_none rfl) ((fa0_1.at_ 0).trans (ha 0 _ rfl)) (fun a0_2 fa0_2 => ?_)
  clear fa0_1
  have r_a0_3 : (execOp a0_2.eval { dst := some 5, op := Op.call { callee := Callee.value (Operand.func 30), args := #[Operand.tmp 4], argTypes := #[24] }, type := 4, pos := "disk.go:117", after := #[{ on := 0, ground := Ground.data }], guard := none }).run Try.prog (w) = .ok (.enter 30 #[.pointer (some ⟨b, 0, none⟩)]) (w) := by
    have kf : ∀ f, a0_2.eval (.func f) = .func (.func f) #[] #[] := fun _ => rfl
    have e4 := (show a0_2.eval (.tmp 4) = .pointer (some ⟨b, 0, none⟩) from (fa0_2.at_ 4))
    clear fa0_2 ha
    generalize a0_2.eval = ρ at *
    go_simp
  refine fa0_2.call 5 rfl (lb_ hsz) (wanted_none rfl) r_a0_3 (hT) (fun e w1 hR => ?_)
  obtain ⟨rfl, hw1⟩ := hR
  clear r_a0_3
  have hw1 := hw1.symm
  subst hw1
  refine ⟨_, rfl, fun a0_3 fa0_3 => ?_⟩
  clear fa0_2
  have r_a0_4 : (execOp a0_3.eval { dst := some 6, op := Op.unOp UnOp.not 4 (Operand.tmp 5), type := 4, pos := "disk.go:117", after := #[{ on := 1, ground := Ground.data }], guard := none }).run Try.prog (w) = .ok (.value (.bool false)) (w) := by
    have e5 := (show a0_3.eval (.tmp 5) = .bool true from (fa0_3.at_ 5))
    clear fa0_3 ha
    generalize a0_3.eval = ρ at *
    go_simp
  refine fa0_3.step 6 (.bool false) rfl (lb_ hsz) (wanted_none rfl) r_a0_4 (fun a0_4 fa0_4 => ?_)
  clear r_a0_4
  clear fa0_3
  refine wpList_nil ?_
  change Code.wp _ _ _ _ _
  refine wp_cond_false (show a0_4.eval (.tmp 6) = .bool false from (fa0_4.at_ 6)) (wp_skip ?_)
  change Code.wp _ _ _ _ _
  refine wp_seq ?_
  refine wp_region_list ?_
  unfold rOF3
  refine fa0_4.move 7 (.pointer (some ⟨b, 0, none⟩)) _ (Or.inl rfl) rfl (lb_ hsz) (wanted_none rfl) ((fa0_4.at_ 0).trans (ha 0 _ rfl)) (fun a0_5 fa0_5 => ?_)
  clear fa0_4
  have r_a0_6 : (execOp a0_5.eval { dst := some 8, op := Op.nilCheck (Operand.tmp 7), type := 0, pos := "disk.go:120", after := #[{ on := 0, ground := Ground.data }], guard := none }).run Try.prog (w) = .ok (.value (.pointer (some ⟨b, 0, none⟩))) (w) := by
    have e7 := (show a0_5.eval (.tmp 7) = .pointer (some ⟨b, 0, none⟩) from (fa0_5.at_ 7))
    clear fa0_5 ha
    generalize a0_5.eval = ρ at *
    go_simp
  refine fa0_5.step 8 (.pointer (some ⟨b, 0, none⟩)) rfl (lb_ hsz) (wanted_none rfl) r_a0_6 (fun a0_6 fa0_6 => ?_)
  clear r_a0_6
  clear fa0_5
  have r_a0_7 : (execOp a0_6.eval { dst := some 9, op := Op.load 71 (Operand.tmp 8), type := 71, pos := "disk.go:120", after := #[{ on := 1, ground := Ground.data }], guard := none }).run Try.prog (w) = .ok (.value (.agg #[.int .i64 (D.page : Int), .slice pa D.P.length pc, .int .i64 (D.page : Int), .slice ia D.I.length ic, .int .i64 (D.most : Int), .bool D.off, .slice wa D.W.length wc, .slice aa 0 ac, .int .i64 (D.wr : Int), .int .i64 (D.gr : Int), .int .i64 (D.sy : Int), .int .i64 (D.life : Int), .int .i64 (D.taken : Int)])) (w) := by
    exact exec_load_mid 71 _ rfl b 0 (show a0_6.eval (.tmp 8) = .pointer (some ⟨b, 0, none⟩) from (fa0_6.at_ 8)) [.int .i64 (D.page : Int), .slice pa D.P.length pc, .int .i64 (D.page : Int), .slice ia D.I.length ic, .int .i64 (D.most : Int), .bool D.off, .slice wa D.W.length wc, .slice aa 0 ac, .int .i64 (D.wr : Int), .int .i64 (D.gr : Int), .int .i64 (D.sy : Int), .int .i64 (D.life : Int), .int .i64 (D.taken : Int)] _ (range_row h1 (fun j v hj => by rw [Nat.zero_add, List.getElem?_toArray]; exact hj)) Try.underlying71 rfl (by kernel_rfl)
  refine fa0_6.stepW 9 (.agg #[.int .i64 (D.page : Int), .slice pa D.P.length pc, .int .i64 (D.page : Int), .slice ia D.I.length ic, .int .i64 (D.most : Int), .bool D.off, .slice wa D.W.length wc, .slice aa 0 ac, .int .i64 (D.wr : Int), .int .i64 (D.gr : Int), .int .i64 (D.sy : Int), .int .i64 (D.life : Int), .int .i64 (D.taken : Int)]) rfl (lb_ hsz) (wanted_none rfl) r_a0_7 (fun a0_7 fa0_7 => ?_)
  clear r_a0_7
  clear fa0_6
  have r_a0_8 : (execOp a0_7.eval { dst := some 3, op := Op.alloc 71, type := 0, pos := "disk.go:120", after := #[], guard := none }).run Try.prog (w) = .ok (.value (.pointer (some ⟨w.heap.size, 0, none⟩))) (w.alloc (.cells #[.int .i64 0, .slice none 0 0, .int .i64 0, .slice none 0 0, .int .i64 0, .bool false, .slice none 0 0, .slice none 0 0, .int .i64 0, .int .i64 0, .int .i64 0, .int .i64 0, .int .i64 0] 71)) := by
    clear fa0_7 ha
    generalize a0_7.eval = ρ at *
    go_simp
  refine fa0_7.stepW 3 (.pointer (some ⟨w.heap.size, 0, none⟩)) rfl (lb_ hsz) (wanted_none rfl) r_a0_8 (fun a0_8 fa0_8 => ?_)
  clear r_a0_8
  obtain ⟨V, hV⟩ : ∃ V, V = w.alloc (.cells #[.int .i64 0, .slice none 0 0, .int .i64 0, .slice none 0 0, .int .i64 0, .bool false, .slice none 0 0, .slice none 0 0, .int .i64 0, .int .i64 0, .int .i64 0, .int .i64 0, .int .i64 0] 71) := ⟨_, rfl⟩
  rw [← hV]
  have sV : Same w V := by rw [hV]; exact (Fr.refl _ w).alloc _
  have hVr : V.heap[w.heap.size]? = some (.cells #[.int .i64 0, .slice none 0 0, .int .i64 0, .slice none 0 0, .int .i64 0, .bool false, .slice none 0 0, .slice none 0 0, .int .i64 0, .int .i64 0, .int .i64 0, .int .i64 0, .int .i64 0] 71 (0, 0)) := by rw [hV]; exact heap_alloc_new w _
  clear hV
  clear fa0_7
  have r_a0_9 : (execOp a0_8.eval { dst := none, op := Op.store 71 (Operand.tmp 3) (Operand.tmp 9), type := 0, pos := "disk.go:120", after := #[{ on := 3, ground := Ground.data }, { on := 2, ground := Ground.data }, { on := 0, ground := Ground.phase }, { on := 1, ground := Ground.phase }, { on := 2, ground := Ground.phase }, { on := 3, ground := Ground.phase }], guard := none }).run Try.prog (V) = .ok .skip (V.setCells w.heap.size 0 [.int .i64 (D.page : Int), .slice pa D.P.length pc, .int .i64 (D.page : Int), .slice ia D.I.length ic, .int .i64 (D.most : Int), .bool D.off, .slice wa D.W.length wc, .slice aa 0 ac, .int .i64 (D.wr : Int), .int .i64 (D.gr : Int), .int .i64 (D.sy : Int), .int .i64 (D.life : Int), .int .i64 (D.taken : Int)]) := by
    exact exec_store_mid 71 _ _ rfl w.heap.size 0 #[.int .i64 (D.page : Int), .slice pa D.P.length pc, .int .i64 (D.page : Int), .slice ia D.I.length ic, .int .i64 (D.most : Int), .bool D.off, .slice wa D.W.length wc, .slice aa 0 ac, .int .i64 (D.wr : Int), .int .i64 (D.gr : Int), .int .i64 (D.sy : Int), .int .i64 (D.life : Int), .int .i64 (D.taken : Int)] (show a0_8.eval (.tmp 3) = .pointer (some ⟨w.heap.size, 0, none⟩) from (fa0_8.at_ 3)) (show a0_8.eval (.tmp 9) = .agg #[.int .i64 (D.page : Int), .slice pa D.P.length pc, .int .i64 (D.page : Int), .slice ia D.I.length ic, .int .i64 (D.most : Int), .bool D.off, .slice wa D.W.length wc, .slice aa 0 ac, .int .i64 (D.wr : Int), .int .i64 (D.gr : Int), .int .i64 (D.sy : Int), .int .i64 (D.life : Int), .int .i64 (D.taken : Int)] from (fa0_8.at_ 9)) (there_row hVr rfl) (by kernel_rfl) (by kernel_rfl)
  refine fa0_8.store rfl (wanted_none rfl) r_a0_9 (fun a0_9 fa0_9 => ?_)
  clear r_a0_9
  obtain ⟨V1, hV1⟩ : ∃ V1, V1 = V.setCells w.heap.size 0 [.int .i64 (D.page : Int), .slice pa D.P.length pc, .int .i64 (D.page : Int), .slice ia D.I.length ic, .int .i64 (D.most : Int), .bool D.off, .slice wa D.W.length wc, .slice aa 0 ac, .int .i64 (D.wr : Int), .int .i64 (D.gr : Int), .int .i64 (D.sy : Int), .int .i64 (D.life : Int), .int .i64 (D.taken : Int)] := ⟨_, rfl⟩
  rw [← hV1]
  have r1 : V1.heap[w.heap.size]? = some (.cells #[.int .i64 (D.page : Int), .slice pa D.P.length pc, .int .i64 (D.page : Int), .slice ia D.I.length ic, .int .i64 (D.most : Int), .bool D.off, .slice wa D.W.length wc, .slice aa 0 ac, .int .i64 (D.wr : Int), .int .i64 (D.gr : Int), .int .i64 (D.sy : Int), .int .i64 (D.life : Int), .int .i64 (D.taken : Int)] 71 (0, 0)) := by rw [hV1]; exact setCells_whole [.int .i64 (D.page : Int), .slice pa D.P.length pc, .int .i64 (D.page : Int), .slice ia D.I.length ic, .int .i64 (D.most : Int), .bool D.off, .slice wa D.W.length wc, .slice aa 0 ac, .int .i64 (D.wr : Int), .int .i64 (D.gr : Int), .int .i64 (D.sy : Int), .int .i64 (D.life : Int), .int .i64 (D.taken : Int)] _ hVr rfl (there_row hVr rfl)
  have s1 : Same w V1 := by rw [hV1]; exact Fr.trans sV (Fr.setCells (S := fun k => k = w.heap.size) (fun _ => rfl) _ 0 V (Fr.refl _ V)) (fun k hk e => by omega)
  clear hV1
  clear fa0_8
  refine wpList_nil ?_
  change Code.wp _ _ _ _ _
  refine wp_seq ?_
  refine wp_region_list ?_
  unfold rOF4
  refine fa0_9.move 10 (.pointer (some ⟨b, 0, none⟩)) _ (Or.inl rfl) rfl (lb_ hsz) (wanted_none rfl) ((fa0_9.at_ 0).trans (ha 0 _ rfl)) (fun a0_10 fa0_10 => ?_)
  clear fa0_9
  have r_a0_11 : (execOp a0_10.eval { dst := some 11, op := Op.nilCheck (Operand.tmp 10), type := 0, pos := "disk.go:121", after := #[{ on := 0, ground := Ground.data }], guard := none }).run Try.prog (V1) = .ok (.value (.pointer (some ⟨b, 0, none⟩))) (V1) := by
    have e10 := (show a0_10.eval (.tmp 10) = .pointer (some ⟨b, 0, none⟩) from (fa0_10.at_ 10))
    clear fa0_10 ha
    generalize a0_10.eval = ρ at *
    go_simp
  refine fa0_10.step 11 (.pointer (some ⟨b, 0, none⟩)) rfl (lb_ hsz) (wanted_none rfl) r_a0_11 (fun a0_11 fa0_11 => ?_)
  clear r_a0_11
  clear fa0_10
  have r_a0_12 : (execOp a0_11.eval { dst := some 12, op := Op.fieldAddr 71 (Operand.tmp 11) 0, type := 0, pos := "disk.go:121", after := #[{ on := 1, ground := Ground.data }], guard := none }).run Try.prog (V1) = .ok (.value (.pointer (some ⟨b, 0, none⟩))) (V1) := by
    have e11 := (show a0_11.eval (.tmp 11) = .pointer (some ⟨b, 0, none⟩) from (fa0_11.at_ 11))
    clear fa0_11 ha
    generalize a0_11.eval = ρ at *
    go_simp
  refine fa0_11.step 12 (.pointer (some ⟨b, 0, none⟩)) rfl (lb_ hsz) (wanted_none rfl) r_a0_12 (fun a0_12 fa0_12 => ?_)
  clear r_a0_12
  clear fa0_11
  have r_a0_13 : (execOp a0_12.eval { dst := some 13, op := Op.call { callee := Callee.value (Operand.func 31), args := #[Operand.tmp 12], argTypes := #[68] }, type := 68, pos := "disk.go:121", after := #[{ on := 2, ground := Ground.data }], guard := none }).run Try.prog (V1) = .ok (.enter 31 #[.pointer (some ⟨b, 0, none⟩)]) (V1) := by
    have kf : ∀ f, a0_12.eval (.func f) = .func (.func f) #[] #[] := fun _ => rfl
    have e12 := (show a0_12.eval (.tmp 12) = .pointer (some ⟨b, 0, none⟩) from (fa0_12.at_ 12))
    clear fa0_12 ha
    generalize a0_12.eval = ρ at *
    go_simp
  refine fa0_12.call 13 rfl (lb_ hsz) (wanted_none rfl) r_a0_13 (sclone_calls (o := 0) (pb := qb) V1 (s1.keep c0) (s1.keep c1) (hrP.same s1) hlP) (fun e X1 hR => ?_)
  obtain ⟨a1, k1, rfl, o1, t1⟩ := hR
  clear r_a0_13
  have q1 : X1.heap[w.heap.size]? = some (.cells #[.int .i64 (D.page : Int), .slice pa D.P.length pc, .int .i64 (D.page : Int), .slice ia D.I.length ic, .int .i64 (D.most : Int), .bool D.off, .slice wa D.W.length wc, .slice aa 0 ac, .int .i64 (D.wr : Int), .int .i64 (D.gr : Int), .int .i64 (D.sy : Int), .int .i64 (D.life : Int), .int .i64 (D.taken : Int)] 71 (0, 0)) := (t1.block _ (lt_of_heap r1) (fun f => f)).trans r1
  refine ⟨_, rfl, fun a0_13 fa0_13 => ?_⟩
  clear fa0_12
  have r_a0_14 : (execOp a0_13.eval { dst := some 14, op := Op.fieldAddr 71 (Operand.tmp 3) 0, type := 0, pos := "disk.go:121", after := #[{ on := 0, ground := Ground.phase }, { on := 1, ground := Ground.phase }, { on := 2, ground := Ground.phase }, { on := 3, ground := Ground.phase }], guard := none }).run Try.prog (X1) = .ok (.value (.pointer (some ⟨w.heap.size, 0, none⟩))) (X1) := by
    have e3 := (show a0_13.eval (.tmp 3) = .pointer (some ⟨w.heap.size, 0, none⟩) from (fa0_13.at_ 3))
    clear fa0_13 ha
    generalize a0_13.eval = ρ at *
    go_simp
  refine fa0_13.step 14 (.pointer (some ⟨w.heap.size, 0, none⟩)) rfl (lb_ hsz) (wanted_none rfl) r_a0_14 (fun a0_14 fa0_14 => ?_)
  clear r_a0_14
  clear fa0_13
  have r_a0_15 : (execOp a0_14.eval { dst := none, op := Op.store 68 (Operand.tmp 14) (Operand.tmp 13), type := 0, pos := "disk.go:121", after := #[{ on := 4, ground := Ground.data }, { on := 3, ground := Ground.data }, { on := 3, ground := Ground.chain }, { on := 0, ground := Ground.phase }, { on := 1, ground := Ground.phase }, { on := 2, ground := Ground.phase }, { on := 3, ground := Ground.phase }], guard := none }).run Try.prog (X1) = .ok .skip (World.setCells X1 w.heap.size 0 [.int .i64 (D.page : Int), .slice a1 D.P.length k1]) := by
    exact exec_store_mid 68 _ _ rfl w.heap.size 0 #[.int .i64 (D.page : Int), .slice a1 D.P.length k1] (show a0_14.eval (.tmp 14) = .pointer (some ⟨w.heap.size, 0, none⟩) from (fa0_14.at_ 14)) (show a0_14.eval (.tmp 13) = .agg #[.int .i64 (D.page : Int), .slice a1 D.P.length k1] from (fa0_14.at_ 13)) (there_mid q1 (Nat.le_of_ble_eq_true rfl)) (by kernel_rfl) (by kernel_rfl)
  refine fa0_14.store rfl (wanted_none rfl) r_a0_15 (fun a0_15 fa0_15 => ?_)
  clear r_a0_15
  obtain ⟨V2, hV2⟩ : ∃ V2, V2 = World.setCells X1 w.heap.size 0 [.int .i64 (D.page : Int), .slice a1 D.P.length k1] := ⟨_, rfl⟩
  rw [← hV2]
  have f2x : Fr (fun k => k = w.heap.size) X1 V2 := by rw [hV2]; exact Fr.setCells (S := fun k => k = w.heap.size) (fun _ => rfl) _ 0 _ (Fr.refl _ _)
  have r2 : V2.heap[w.heap.size]? = some (.cells #[.int .i64 (D.page : Int), .slice a1 D.P.length k1, .int .i64 (D.page : Int), .slice ia D.I.length ic, .int .i64 (D.most : Int), .bool D.off, .slice wa D.W.length wc, .slice aa 0 ac, .int .i64 (D.wr : Int), .int .i64 (D.gr : Int), .int .i64 (D.sy : Int), .int .i64 (D.life : Int), .int .i64 (D.taken : Int)] 71 (0, 0)) := by rw [hV2]; exact ((heap_setCell_same _ _ 1 _ _ _ (heap_setCell_same _ _ 0 _ _ _ q1)).trans (by simp))
  have s2 : Same w V2 := Fr.trans (s1.trans t1) f2x (fun k hk e => by omega)
  clear hV2
  clear fa0_14
  refine wpList_nil ?_
  change Code.wp _ _ _ _ _
  refine wp_seq ?_
  refine wp_region_list ?_
  unfold rOF5
  refine fa0_15.move 15 (.pointer (some ⟨b, 0, none⟩)) _ (Or.inl rfl) rfl (lb_ hsz) (wanted_none rfl) ((fa0_15.at_ 0).trans (ha 0 _ rfl)) (fun a0_16 fa0_16 => ?_)
  clear fa0_15
  have r_a0_17 : (execOp a0_16.eval { dst := some 16, op := Op.nilCheck (Operand.tmp 15), type := 0, pos := "disk.go:122", after := #[{ on := 0, ground := Ground.data }], guard := none }).run Try.prog (V2) = .ok (.value (.pointer (some ⟨b, 0, none⟩))) (V2) := by
    have e15 := (show a0_16.eval (.tmp 15) = .pointer (some ⟨b, 0, none⟩) from (fa0_16.at_ 15))
    clear fa0_16 ha
    generalize a0_16.eval = ρ at *
    go_simp
  refine fa0_16.step 16 (.pointer (some ⟨b, 0, none⟩)) rfl (lb_ hsz) (wanted_none rfl) r_a0_17 (fun a0_17 fa0_17 => ?_)
  clear r_a0_17
  clear fa0_16
  have r_a0_18 : (execOp a0_17.eval { dst := some 17, op := Op.fieldAddr 71 (Operand.tmp 16) 1, type := 0, pos := "disk.go:122", after := #[{ on := 1, ground := Ground.data }], guard := none }).run Try.prog (V2) = .ok (.value (.pointer (some ⟨b, 2, none⟩))) (V2) := by
    have e16 := (show a0_17.eval (.tmp 16) = .pointer (some ⟨b, 0, none⟩) from (fa0_17.at_ 16))
    clear fa0_17 ha
    generalize a0_17.eval = ρ at *
    go_simp
  refine fa0_17.step 17 (.pointer (some ⟨b, 2, none⟩)) rfl (lb_ hsz) (wanted_none rfl) r_a0_18 (fun a0_18 fa0_18 => ?_)
  clear r_a0_18
  clear fa0_17
  have r_a0_19 : (execOp a0_18.eval { dst := some 18, op := Op.call { callee := Callee.value (Operand.func 31), args := #[Operand.tmp 17], argTypes := #[68] }, type := 68, pos := "disk.go:122", after := #[{ on := 2, ground := Ground.data }], guard := none }).run Try.prog (V2) = .ok (.enter 31 #[.pointer (some ⟨b, 2, none⟩)]) (V2) := by
    have kf : ∀ f, a0_18.eval (.func f) = .func (.func f) #[] #[] := fun _ => rfl
    have e17 := (show a0_18.eval (.tmp 17) = .pointer (some ⟨b, 2, none⟩) from (fa0_18.at_ 17))
    clear fa0_18 ha
    generalize a0_18.eval = ρ at *
    go_simp
  refine fa0_18.call 18 rfl (lb_ hsz) (wanted_none rfl) r_a0_19 (sclone_calls (o := 2) (pb := jb) V2 (s2.keep c2) (s2.keep c3) (hrI.same s2) hlI) (fun e X2 hR => ?_)
  obtain ⟨a2, k2, rfl, o2, t2⟩ := hR
  clear r_a0_19
  have q2 : X2.heap[w.heap.size]? = some (.cells #[.int .i64 (D.page : Int), .slice a1 D.P.length k1, .int .i64 (D.page : Int), .slice ia D.I.length ic, .int .i64 (D.most : Int), .bool D.off, .slice wa D.W.length wc, .slice aa 0 ac, .int .i64 (D.wr : Int), .int .i64 (D.gr : Int), .int .i64 (D.sy : Int), .int .i64 (D.life : Int), .int .i64 (D.taken : Int)] 71 (0, 0)) := (t2.block _ (lt_of_heap r2) (fun f => f)).trans r2
  refine ⟨_, rfl, fun a0_19 fa0_19 => ?_⟩
  clear fa0_18
  have r_a0_20 : (execOp a0_19.eval { dst := some 19, op := Op.fieldAddr 71 (Operand.tmp 3) 1, type := 0, pos := "disk.go:122", after := #[{ on := 0, ground := Ground.phase }, { on := 1, ground := Ground.phase }, { on := 2, ground := Ground.phase }, { on := 3, ground := Ground.phase }], guard := none }).run Try.prog (X2) = .ok (.value (.pointer (some ⟨w.heap.size, 2, none⟩))) (X2) := by
    have e3 := (show a0_19.eval (.tmp 3) = .pointer (some ⟨w.heap.size, 0, none⟩) from (fa0_19.at_ 3))
    clear fa0_19 ha
    generalize a0_19.eval = ρ at *
    go_simp
  refine fa0_19.step 19 (.pointer (some ⟨w.heap.size, 2, none⟩)) rfl (lb_ hsz) (wanted_none rfl) r_a0_20 (fun a0_20 fa0_20 => ?_)
  clear r_a0_20
  clear fa0_19
  have r_a0_21 : (execOp a0_20.eval { dst := none, op := Op.store 68 (Operand.tmp 19) (Operand.tmp 18), type := 0, pos := "disk.go:122", after := #[{ on := 4, ground := Ground.data }, { on := 3, ground := Ground.data }, { on := 3, ground := Ground.chain }, { on := 0, ground := Ground.phase }, { on := 1, ground := Ground.phase }, { on := 2, ground := Ground.phase }, { on := 3, ground := Ground.phase }], guard := none }).run Try.prog (X2) = .ok .skip (World.setCells X2 w.heap.size 2 [.int .i64 (D.page : Int), .slice a2 D.I.length k2]) := by
    exact exec_store_mid 68 _ _ rfl w.heap.size 2 #[.int .i64 (D.page : Int), .slice a2 D.I.length k2] (show a0_20.eval (.tmp 19) = .pointer (some ⟨w.heap.size, 2, none⟩) from (fa0_20.at_ 19)) (show a0_20.eval (.tmp 18) = .agg #[.int .i64 (D.page : Int), .slice a2 D.I.length k2] from (fa0_20.at_ 18)) (there_mid q2 (Nat.le_of_ble_eq_true rfl)) (by kernel_rfl) (by kernel_rfl)
  refine fa0_20.store rfl (wanted_none rfl) r_a0_21 (fun a0_21 fa0_21 => ?_)
  clear r_a0_21
  obtain ⟨V3, hV3⟩ : ∃ V3, V3 = World.setCells X2 w.heap.size 2 [.int .i64 (D.page : Int), .slice a2 D.I.length k2] := ⟨_, rfl⟩
  rw [← hV3]
  have f3x : Fr (fun k => k = w.heap.size) X2 V3 := by rw [hV3]; exact Fr.setCells (S := fun k => k = w.heap.size) (fun _ => rfl) _ 2 _ (Fr.refl _ _)
  have r3 : V3.heap[w.heap.size]? = some (.cells #[.int .i64 (D.page : Int), .slice a1 D.P.length k1, .int .i64 (D.page : Int), .slice a2 D.I.length k2, .int .i64 (D.most : Int), .bool D.off, .slice wa D.W.length wc, .slice aa 0 ac, .int .i64 (D.wr : Int), .int .i64 (D.gr : Int), .int .i64 (D.sy : Int), .int .i64 (D.life : Int), .int .i64 (D.taken : Int)] 71 (0, 0)) := by rw [hV3]; exact ((heap_setCell_same _ _ 3 _ _ _ (heap_setCell_same _ _ 2 _ _ _ q2)).trans (by simp))
  have s3 : Same w V3 := Fr.trans (s2.trans t2) f3x (fun k hk e => by omega)
  clear hV3
  clear fa0_20
  refine wpList_nil ?_
  change Code.wp _ _ _ _ _
  refine wp_seq ?_
  have c6b := s3.keep c6
  refine wp_region_list ?_
  unfold rOF6
  refine fa0_21.move 20 (.pointer (some ⟨b, 0, none⟩)) _ (Or.inl rfl) rfl (lb_ hsz) (wanted_none rfl) ((fa0_21.at_ 0).trans (ha 0 _ rfl)) (fun a0_22 fa0_22 => ?_)
  clear fa0_21
  have r_a0_23 : (execOp a0_22.eval { dst := some 21, op := Op.nilCheck (Operand.tmp 20), type := 0, pos := "disk.go:123", after := #[{ on := 0, ground := Ground.data }], guard := none }).run Try.prog (V3) = .ok (.value (.pointer (some ⟨b, 0, none⟩))) (V3) := by
    have e20 := (show a0_22.eval (.tmp 20) = .pointer (some ⟨b, 0, none⟩) from (fa0_22.at_ 20))
    clear fa0_22 ha
    generalize a0_22.eval = ρ at *
    go_simp
  refine fa0_22.step 21 (.pointer (some ⟨b, 0, none⟩)) rfl (lb_ hsz) (wanted_none rfl) r_a0_23 (fun a0_23 fa0_23 => ?_)
  clear r_a0_23
  clear fa0_22
  have r_a0_24 : (execOp a0_23.eval { dst := some 22, op := Op.fieldAddr 71 (Operand.tmp 21) 4, type := 0, pos := "disk.go:123", after := #[{ on := 1, ground := Ground.data }], guard := none }).run Try.prog (V3) = .ok (.value (.pointer (some ⟨b, 6, none⟩))) (V3) := by
    have e21 := (show a0_23.eval (.tmp 21) = .pointer (some ⟨b, 0, none⟩) from (fa0_23.at_ 21))
    clear fa0_23 ha
    generalize a0_23.eval = ρ at *
    go_simp
  refine fa0_23.step 22 (.pointer (some ⟨b, 6, none⟩)) rfl (lb_ hsz) (wanted_none rfl) r_a0_24 (fun a0_24 fa0_24 => ?_)
  clear r_a0_24
  clear fa0_23
  have r_a0_25 : (execOp a0_24.eval { dst := some 23, op := Op.load 69 (Operand.tmp 22), type := 69, pos := "disk.go:123", after := #[{ on := 2, ground := Ground.data }], guard := none }).run Try.prog (V3) = .ok (.value (.slice wa D.W.length wc)) (V3) := by
    have e22 := (show a0_24.eval (.tmp 22) = .pointer (some ⟨b, 6, none⟩) from (fa0_24.at_ 22))
    clear fa0_24 ha
    generalize a0_24.eval = ρ at *
    go_simp
  refine fa0_24.step 23 (.slice wa D.W.length wc) rfl (lb_ hsz) (wanted_none rfl) r_a0_25 (fun a0_25 fa0_25 => ?_)
  clear r_a0_25
  clear fa0_24
  have r_a0_26 : (execOp a0_25.eval { dst := some 24, op := Op.call { callee := Callee.value (Operand.func 32), args := #[Operand.tmp 23], argTypes := #[69] }, type := 69, pos := "disk.go:123", after := #[{ on := 3, ground := Ground.data }], guard := none }).run Try.prog (V3) = .ok (.enter 32 #[.slice wa D.W.length wc]) (V3) := by
    have kf : ∀ f, a0_25.eval (.func f) = .func (.func f) #[] #[] := fun _ => rfl
    have e23 := (show a0_25.eval (.tmp 23) = .slice wa D.W.length wc from (fa0_25.at_ 23))
    clear fa0_25 ha
    generalize a0_25.eval = ρ at *
    go_simp
  refine fa0_25.call 24 rfl (lb_ hsz) (wanted_none rfl) r_a0_26 (cloneWts V3 (own_frameB hoW s3 (fun _ _ f => f)) hlW) (fun e X3 hR => ?_)
  obtain ⟨a3, k3, rfl, o3, t3⟩ := hR
  clear r_a0_26
  have q3 : X3.heap[w.heap.size]? = some (.cells #[.int .i64 (D.page : Int), .slice a1 D.P.length k1, .int .i64 (D.page : Int), .slice a2 D.I.length k2, .int .i64 (D.most : Int), .bool D.off, .slice wa D.W.length wc, .slice aa 0 ac, .int .i64 (D.wr : Int), .int .i64 (D.gr : Int), .int .i64 (D.sy : Int), .int .i64 (D.life : Int), .int .i64 (D.taken : Int)] 71 (0, 0)) := (t3.block _ (lt_of_heap r3) (fun f => f)).trans r3
  have q3c : X3.cell? ⟨w.heap.size, 6, none⟩ = some (.slice wa D.W.length wc) := (cell_of_row _ _ _ _ _ _ q3).trans rfl
  have q3f : X3.frozen? ⟨w.heap.size, 6, none⟩ = false := frozen_of_row _ _ 6 _ _ q3
  refine ⟨_, rfl, fun a0_26 fa0_26 => ?_⟩
  clear fa0_25
  have r_a0_27 : (execOp a0_26.eval { dst := some 25, op := Op.fieldAddr 71 (Operand.tmp 3) 4, type := 0, pos := "disk.go:123", after := #[{ on := 0, ground := Ground.phase }, { on := 1, ground := Ground.phase }, { on := 2, ground := Ground.phase }, { on := 3, ground := Ground.phase }, { on := 4, ground := Ground.phase }], guard := none }).run Try.prog (X3) = .ok (.value (.pointer (some ⟨w.heap.size, 6, none⟩))) (X3) := by
    have e3 := (show a0_26.eval (.tmp 3) = .pointer (some ⟨w.heap.size, 0, none⟩) from (fa0_26.at_ 3))
    clear fa0_26 ha
    generalize a0_26.eval = ρ at *
    go_simp
  refine fa0_26.step 25 (.pointer (some ⟨w.heap.size, 6, none⟩)) rfl (lb_ hsz) (wanted_none rfl) r_a0_27 (fun a0_27 fa0_27 => ?_)
  clear r_a0_27
  clear fa0_26
  have r_a0_28 : (execOp a0_27.eval { dst := none, op := Op.store 69 (Operand.tmp 25) (Operand.tmp 24), type := 0, pos := "disk.go:123", after := #[{ on := 5, ground := Ground.data }, { on := 4, ground := Ground.data }, { on := 4, ground := Ground.chain }, { on := 0, ground := Ground.phase }, { on := 1, ground := Ground.phase }, { on := 2, ground := Ground.phase }, { on := 3, ground := Ground.phase }, { on := 4, ground := Ground.phase }], guard := none }).run Try.prog (X3) = .ok .skip (World.setCell X3 ⟨w.heap.size, 6, none⟩ (.slice a3 D.W.length k3)) := by
    have e25 := (show a0_27.eval (.tmp 25) = .pointer (some ⟨w.heap.size, 6, none⟩) from (fa0_27.at_ 25))
    have e24 := (show a0_27.eval (.tmp 24) = .slice a3 D.W.length k3 from (fa0_27.at_ 24))
    clear fa0_27 ha
    generalize a0_27.eval = ρ at *
    go_simp
  refine fa0_27.store rfl (wanted_none rfl) r_a0_28 (fun a0_28 fa0_28 => ?_)
  clear r_a0_28
  obtain ⟨V4, hV4⟩ : ∃ V4, V4 = World.setCell X3 ⟨w.heap.size, 6, none⟩ (.slice a3 D.W.length k3) := ⟨_, rfl⟩
  rw [← hV4]
  have f4x : Fr (fun k => k = w.heap.size) X3 V4 := by rw [hV4]; exact Fr.setCell (S := fun k => k = w.heap.size) (Fr.refl _ _) (p := ⟨w.heap.size, 6, none⟩) (fun _ => rfl) _
  have r4 : V4.heap[w.heap.size]? = some (.cells #[.int .i64 (D.page : Int), .slice a1 D.P.length k1, .int .i64 (D.page : Int), .slice a2 D.I.length k2, .int .i64 (D.most : Int), .bool D.off, .slice a3 D.W.length k3, .slice aa 0 ac, .int .i64 (D.wr : Int), .int .i64 (D.gr : Int), .int .i64 (D.sy : Int), .int .i64 (D.life : Int), .int .i64 (D.taken : Int)] 71 (0, 0)) := by rw [hV4]; exact ((heap_setCell_same _ _ 6 _ _ _ q3).trans (by simp))
  have s4 : Same w V4 := Fr.trans (s3.trans t3) f4x (fun k hk e => by omega)
  clear hV4
  clear fa0_27
  refine wpList_nil ?_
  change Code.wp _ _ _ _ _
  refine wp_seq ?_
  have c7b := s4.keep c7
  refine wp_region_list ?_
  unfold rOF7
  refine fa0_28.move 26 (.pointer (some ⟨b, 0, none⟩)) _ (Or.inl rfl) rfl (lb_ hsz) (wanted_none rfl) ((fa0_28.at_ 0).trans (ha 0 _ rfl)) (fun a0_29 fa0_29 => ?_)
  clear fa0_28
  have r_a0_30 : (execOp a0_29.eval { dst := some 27, op := Op.nilCheck (Operand.tmp 26), type := 0, pos := "disk.go:124", after := #[{ on := 0, ground := Ground.data }], guard := none }).run Try.prog (V4) = .ok (.value (.pointer (some ⟨b, 0, none⟩))) (V4) := by
    have e26 := (show a0_29.eval (.tmp 26) = .pointer (some ⟨b, 0, none⟩) from (fa0_29.at_ 26))
    clear fa0_29 ha
    generalize a0_29.eval = ρ at *
    go_simp
  refine fa0_29.step 27 (.pointer (some ⟨b, 0, none⟩)) rfl (lb_ hsz) (wanted_none rfl) r_a0_30 (fun a0_30 fa0_30 => ?_)
  clear r_a0_30
  clear fa0_29
  have r_a0_31 : (execOp a0_30.eval { dst := some 28, op := Op.fieldAddr 71 (Operand.tmp 27) 5, type := 0, pos := "disk.go:124", after := #[{ on := 1, ground := Ground.data }], guard := none }).run Try.prog (V4) = .ok (.value (.pointer (some ⟨b, 7, none⟩))) (V4) := by
    have e27 := (show a0_30.eval (.tmp 27) = .pointer (some ⟨b, 0, none⟩) from (fa0_30.at_ 27))
    clear fa0_30 ha
    generalize a0_30.eval = ρ at *
    go_simp
  refine fa0_30.step 28 (.pointer (some ⟨b, 7, none⟩)) rfl (lb_ hsz) (wanted_none rfl) r_a0_31 (fun a0_31 fa0_31 => ?_)
  clear r_a0_31
  clear fa0_30
  have r_a0_32 : (execOp a0_31.eval { dst := some 29, op := Op.load 32 (Operand.tmp 28), type := 32, pos := "disk.go:124", after := #[{ on := 2, ground := Ground.data }], guard := none }).run Try.prog (V4) = .ok (.value (.slice aa 0 ac)) (V4) := by
    have e28 := (show a0_31.eval (.tmp 28) = .pointer (some ⟨b, 7, none⟩) from (fa0_31.at_ 28))
    clear fa0_31 ha
    generalize a0_31.eval = ρ at *
    go_simp
  refine fa0_31.step 29 (.slice aa 0 ac) rfl (lb_ hsz) (wanted_none rfl) r_a0_32 (fun a0_32 fa0_32 => ?_)
  clear r_a0_32
  clear fa0_31
  have r_a0_33 : (execOp a0_32.eval { dst := some 30, op := Op.call { callee := Callee.value (Operand.func 33), args := #[Operand.tmp 29], argTypes := #[32] }, type := 32, pos := "disk.go:124", after := #[{ on := 3, ground := Ground.data }], guard := none }).run Try.prog (V4) = .ok (.enter 33 #[.slice aa 0 ac]) (V4) := by
    have kf : ∀ f, a0_32.eval (.func f) = .func (.func f) #[] #[] := fun _ => rfl
    have e29 := (show a0_32.eval (.tmp 29) = .slice aa 0 ac from (fa0_32.at_ 29))
    clear fa0_32 ha
    generalize a0_32.eval = ρ at *
    go_simp
  refine fa0_32.call 30 rfl (lb_ hsz) (wanted_none rfl) r_a0_33 (cloneNoArms V4) (fun e X4 hR => ?_)
  obtain ⟨a4, k4, rfl, t4⟩ := hR
  clear r_a0_33
  have q4 : X4.heap[w.heap.size]? = some (.cells #[.int .i64 (D.page : Int), .slice a1 D.P.length k1, .int .i64 (D.page : Int), .slice a2 D.I.length k2, .int .i64 (D.most : Int), .bool D.off, .slice a3 D.W.length k3, .slice aa 0 ac, .int .i64 (D.wr : Int), .int .i64 (D.gr : Int), .int .i64 (D.sy : Int), .int .i64 (D.life : Int), .int .i64 (D.taken : Int)] 71 (0, 0)) := (t4.block _ (lt_of_heap r4) (fun f => f)).trans r4
  have q4c : X4.cell? ⟨w.heap.size, 7, none⟩ = some (.slice aa 0 ac) := (cell_of_row _ _ _ _ _ _ q4).trans rfl
  have q4f : X4.frozen? ⟨w.heap.size, 7, none⟩ = false := frozen_of_row _ _ 7 _ _ q4
  refine ⟨_, rfl, fun a0_33 fa0_33 => ?_⟩
  clear fa0_32
  have r_a0_34 : (execOp a0_33.eval { dst := some 31, op := Op.fieldAddr 71 (Operand.tmp 3) 5, type := 0, pos := "disk.go:124", after := #[{ on := 0, ground := Ground.phase }, { on := 1, ground := Ground.phase }, { on := 2, ground := Ground.phase }, { on := 3, ground := Ground.phase }, { on := 4, ground := Ground.phase }], guard := none }).run Try.prog (X4) = .ok (.value (.pointer (some ⟨w.heap.size, 7, none⟩))) (X4) := by
    have e3 := (show a0_33.eval (.tmp 3) = .pointer (some ⟨w.heap.size, 0, none⟩) from (fa0_33.at_ 3))
    clear fa0_33 ha
    generalize a0_33.eval = ρ at *
    go_simp
  refine fa0_33.step 31 (.pointer (some ⟨w.heap.size, 7, none⟩)) rfl (lb_ hsz) (wanted_none rfl) r_a0_34 (fun a0_34 fa0_34 => ?_)
  clear r_a0_34
  clear fa0_33
  have r_a0_35 : (execOp a0_34.eval { dst := none, op := Op.store 32 (Operand.tmp 31) (Operand.tmp 30), type := 0, pos := "disk.go:124", after := #[{ on := 5, ground := Ground.data }, { on := 4, ground := Ground.data }, { on := 4, ground := Ground.chain }, { on := 0, ground := Ground.phase }, { on := 1, ground := Ground.phase }, { on := 2, ground := Ground.phase }, { on := 3, ground := Ground.phase }, { on := 4, ground := Ground.phase }], guard := none }).run Try.prog (X4) = .ok .skip (World.setCell X4 ⟨w.heap.size, 7, none⟩ (.slice a4 0 k4)) := by
    have e31 := (show a0_34.eval (.tmp 31) = .pointer (some ⟨w.heap.size, 7, none⟩) from (fa0_34.at_ 31))
    have e30 := (show a0_34.eval (.tmp 30) = .slice a4 0 k4 from (fa0_34.at_ 30))
    clear fa0_34 ha
    generalize a0_34.eval = ρ at *
    go_simp
  refine fa0_34.store rfl (wanted_none rfl) r_a0_35 (fun a0_35 fa0_35 => ?_)
  clear r_a0_35
  obtain ⟨V5, hV5⟩ : ∃ V5, V5 = World.setCell X4 ⟨w.heap.size, 7, none⟩ (.slice a4 0 k4) := ⟨_, rfl⟩
  rw [← hV5]
  have f5x : Fr (fun k => k = w.heap.size) X4 V5 := by rw [hV5]; exact Fr.setCell (S := fun k => k = w.heap.size) (Fr.refl _ _) (p := ⟨w.heap.size, 7, none⟩) (fun _ => rfl) _
  have r5 : V5.heap[w.heap.size]? = some (.cells #[.int .i64 (D.page : Int), .slice a1 D.P.length k1, .int .i64 (D.page : Int), .slice a2 D.I.length k2, .int .i64 (D.most : Int), .bool D.off, .slice a3 D.W.length k3, .slice a4 0 k4, .int .i64 (D.wr : Int), .int .i64 (D.gr : Int), .int .i64 (D.sy : Int), .int .i64 (D.life : Int), .int .i64 (D.taken : Int)] 71 (0, 0)) := by rw [hV5]; exact ((heap_setCell_same _ _ 7 _ _ _ q4).trans (by simp))
  have s5 : Same w V5 := Fr.trans (s4.trans t4) f5x (fun k hk e => by omega)
  clear hV5
  clear fa0_34
  refine wpList_nil ?_
  change Code.wp _ _ _ _ _
  refine wp_seq ?_
  refine wp_region_list ?_
  unfold rOF8
  refine fa0_35.move 2 (.pointer (some ⟨w.heap.size, 0, none⟩)) _ (Or.inr rfl) rfl (lb_ hsz) (wanted_none rfl) (fa0_35.at_ 3) (fun a0_36 fa0_36 => ?_)
  clear fa0_35
  refine wpList_nil ?_
  change Code.wp _ _ _ _ _
  refine wp_ret ?_
  have blkOf : ∀ (ao : Option Addr) (n c B sz : Nat) (ty : TypeId) (xs : List Value) (W : World), W.ownsRow B ty sz (.slice ao n c) n xs → ∀ k, (Value.slice ao n c).ownBlock = some k → B ≤ k ∧ k < W.heap.size := fun ao n c B sz ty xs W ho k hk => by
    cases ao with
    | none => cases hk
    | some a => obtain ⟨g1, g2⟩ := own_ge ho; simp [Value.ownBlock] at hk; omega
  have z1 := blkOf _ _ _ _ _ _ _ _ o1
  have z2 := blkOf _ _ _ _ _ _ _ _ o2
  have z3 := blkOf _ _ _ _ _ _ _ _ o3
  have le1 : w.heap.size < V1.heap.size := lt_of_heap r1
  have le0 : V1.heap.size ≤ X1.heap.size := t1.size
  have le2 : X1.heap.size ≤ V2.heap.size := f2x.size
  have le3 : V2.heap.size ≤ X2.heap.size := t2.size
  have le4 : X2.heap.size ≤ V3.heap.size := f3x.size
  have le5 : V3.heap.size ≤ X3.heap.size := t3.size
  have le6 : X3.heap.size ≤ V4.heap.size := f4x.size
  have le7 : V4.heap.size ≤ X4.heap.size := t4.size
  have le8 : X4.heap.size ≤ V5.heap.size := f5x.size
  have g1 : Fr (fun k => k = w.heap.size) X1 V5 := ((((f2x.trans t2 (fun _ _ f => f.elim)).trans f3x (fun _ _ f => f)).trans t3 (fun _ _ f => f.elim)).trans f4x (fun _ _ f => f)).trans t4 (fun _ _ f => f.elim) |>.trans f5x (fun _ _ f => f)
  have g2 : Fr (fun k => k = w.heap.size) X2 V5 := ((f3x.trans t3 (fun _ _ f => f.elim)).trans f4x (fun _ _ f => f)).trans t4 (fun _ _ f => f.elim) |>.trans f5x (fun _ _ f => f)
  have g3 : Fr (fun k => k = w.heap.size) X3 V5 := (f4x.trans t4 (fun _ _ f => f.elim)).trans f5x (fun _ _ f => f)
  refine ret_abs rfl (fa0_36.defers.trans hd) (show a0_36.eval (.tmp 2) = .pointer (some ⟨w.heap.size, 0, none⟩) from (fa0_36.at_ 2)) ⟨rfl, ⟨⟨a1, a2, a3, a4, k1, k2, k3, k4, r5, ?_, ?_, ?_, ?_, ?_, ?_, ?_⟩, ⟨Nat.le_refl _, by omega⟩, fun k hk => hk.2⟩, s5⟩
  · exact own_base (own_frameB o1 g1 (fun k hk e => by have := z1 k hk; have e2 : k = w.heap.size := e; omega)) (Nat.zero_le _)
  · exact own_base (own_frameB o2 g2 (fun k hk e => by have := z2 k hk; have e2 : k = w.heap.size := e; omega)) (Nat.zero_le _)
  · exact own_base (own_frameB o3 g3 (fun k hk e => by have := z3 k hk; have e2 : k = w.heap.size := e; omega)) (Nat.zero_le _)
  · intro k hk; have := z1 k hk; exact ⟨by omega, by omega⟩
  · intro k hk; have := z2 k hk; exact ⟨by omega, by omega⟩
  · intro k hk; have := z3 k hk; exact ⟨by omega, by omega⟩
  · intro k hk hk2; have := z1 k hk; have := z2 k hk2; omega
end Go.Proofs.Ytjiaepeglghheaa
