/- disk: change, Write, Grow. -/
import Derived.Test.YtljlkcmjbjnihaaON
namespace Go.Proofs.Ytljlkcmjbjnihaa
open Go.RowKit

def dkChange (D : Dk) (x : Wt) : Dk := { D with P := comeP D.page D.P x 255, W := D.W ++ [x] }
/-- One thing more waits. -/
theorem DkO.growW {w w1 : World} {b : Nat} {D : Dk} {S : Nat → Prop} {pa ia wa aa : Option Addr} {pc ic wc ac : Nat} {W' : List Wt} {g c : Nat} (h : DkO w b D S pa ia wa aa pc ic wc ac) (f : Fr (fun k => (Value.slice wa D.W.length wc).ownBlock = some k) w w1) (hr : w1.ownsRow 0 77 4 (.slice (some ⟨g, 0, none⟩) W'.length c) W'.length (wtCs W')) (hl : (Value.slice wa D.W.length wc).ownBlock = some g ∨ g = w.heap.size) :
    DkO (w1.setCell ⟨b, 6, none⟩ (.slice (some ⟨g, 0, none⟩) W'.length c)) b { D with W := W' } (Land S w (w1.setCell ⟨b, 6, none⟩ (.slice (some ⟨g, 0, none⟩) W'.length c))) pa ia (some ⟨g, 0, none⟩) aa pc ic c ac ∧ Fr S w (w1.setCell ⟨b, 6, none⟩ (.slice (some ⟨g, 0, none⟩) W'.length c)) := by
  have nb : ¬ (Value.slice wa D.W.length wc).ownBlock = some b := fun e => own_neT h.rW h.row (by decide) b e rfl
  have r1 := heap_fr h.row f nb
  have f2 : Fr (fun k => k = b) w1 (w1.setCell ⟨b, 6, none⟩ (.slice (some ⟨g, 0, none⟩) W'.length c)) := Fr.setCell (S := fun k => k = b) (Fr.refl _ w1) (p := ⟨b, 6, none⟩) (fun _ => rfl) _
  have fw : Fr S w (w1.setCell ⟨b, 6, none⟩ (.slice (some ⟨g, 0, none⟩) W'.length c)) := Fr.trans (f.mono (fun k _ e => h.sW k e)) f2 (fun k _ e => e ▸ h.mem)
  refine ⟨⟨?_, ?_, ?_, ?_, fun k hk => Or.inl (h.sP k hk), fun k hk => Or.inl (h.sI k hk), ?_, h.ne, Or.inl h.mem, fun k hk => land_lt h.lt fw.size hk⟩, fw⟩
  · rw [heap_setCell_same w1 b 6 _ _ _ r1]; rfl
  · exact own_frameB (own_frameB h.rP f (fun k hk e => rows_apart h.rP h.rW (by decide) k hk e)) f2 (fun k hk e => own_neT h.rP h.row (by decide) k hk e)
  · exact own_frameB (own_frameB h.rI f (fun k hk e => rows_apart h.rI h.rW (by decide) k hk e)) f2 (fun k hk e => own_neT h.rI h.row (by decide) k hk e)
  · exact own_frameB hr f2 (fun k hk e => own_neT hr r1 (by decide) k hk e)
  · intro k hk
    simp only [Value.ownBlock, Option.some.injEq] at hk
    subst hk
    rcases hl with e | e
    · exact Or.inl (h.sW _ e)
    · obtain ⟨_, hc⟩ := own_cellsB hr rfl
      exact Or.inr ⟨by simp only at *; omega, Nat.lt_of_lt_of_le (lt_of_heap hc) f2.size⟩
def rOO0 : Array Oper := #[{ dst := some 4, op := Op.box 77 (Operand.tmp 1), type := 0, pos := "acts.go:46", after := #[], guard := none },
  { dst := some 6, op := Op.assign (Operand.const (Value.int IntKind.i64 0)), type := 24, pos := "acts.go:46", after := #[], guard := none }]
def rOO1 : Array Oper := #[{ dst := some 10, op := Op.move (Operand.tmp 0), type := 27, pos := "acts.go:47", after := #[], guard := none },
  { dst := some 11, op := Op.fieldAddr 77 (Operand.tmp 4) 0, type := 0, pos := "acts.go:47", after := #[], guard := none },
  { dst := some 12, op := Op.fieldAddr 75 (Operand.tmp 11) 0, type := 0, pos := "acts.go:47", after := #[{ on := 1, ground := Ground.data }], guard := none },
  { dst := some 13, op := Op.load 73 (Operand.tmp 12), type := 73, pos := "acts.go:47", after := #[{ on := 2, ground := Ground.data }], guard := none },
  { dst := some 14, op := Op.call { callee := Callee.value (Operand.func 40), args := #[Operand.tmp 10, Operand.tmp 13], argTypes := #[27, 73] }, type := 83, pos := "acts.go:47", after := #[{ on := 0, ground := Ground.data }, { on := 3, ground := Ground.data }], guard := none },
  { dst := some 9, op := Op.move (Operand.tmp 14), type := 83, pos := "acts.go:47", after := #[{ on := 4, ground := Ground.data }], guard := none },
  { dst := some 15, op := Op.extract (Operand.tmp 9) 0, type := 82, pos := "acts.go:47", after := #[{ on := 5, ground := Ground.data }], guard := none },
  { dst := some 16, op := Op.extract (Operand.tmp 9) 1, type := 4, pos := "acts.go:47", after := #[{ on := 5, ground := Ground.data }, { on := 9, ground := Ground.gcOnly Go.Departure.lateStores }], guard := none },
  { dst := some 7, op := Op.alloc 82, type := 0, pos := "acts.go:47", after := #[], guard := none },
  { dst := none, op := Op.store 82 (Operand.tmp 7) (Operand.tmp 15), type := 0, pos := "acts.go:47", after := #[{ on := 8, ground := Ground.data }, { on := 6, ground := Ground.data }, { on := 4, ground := Ground.chain }, { on := 0, ground := Ground.phase }, { on := 1, ground := Ground.phase }, { on := 2, ground := Ground.phase }, { on := 3, ground := Ground.phase }, { on := 4, ground := Ground.phase }, { on := 5, ground := Ground.phase }, { on := 6, ground := Ground.phase }, { on := 7, ground := Ground.textOnly Go.Departure.lateStores }, { on := 8, ground := Ground.phase }], guard := none },
  { dst := some 8, op := Op.assign (Operand.tmp 16), type := 4, pos := "acts.go:47", after := #[{ on := 7, ground := Ground.data }, { on := 9, ground := Ground.chain }, { on := 0, ground := Ground.phase }, { on := 1, ground := Ground.phase }, { on := 2, ground := Ground.phase }, { on := 3, ground := Ground.phase }, { on := 4, ground := Ground.phase }, { on := 5, ground := Ground.phase }, { on := 6, ground := Ground.phase }, { on := 7, ground := Ground.phase }, { on := 8, ground := Ground.phase }, { on := 9, ground := Ground.phase }], guard := none }]
def rOO2 : Array Oper := #[{ dst := some 17, op := Op.move (Operand.tmp 8), type := 4, pos := "acts.go:48", after := #[], guard := none },
  { dst := some 18, op := Op.move (Operand.tmp 17), type := 4, pos := "acts.go:48", after := #[{ on := 0, ground := Ground.data }], guard := none },
  { dst := some 19, op := Op.fieldAddr 82 (Operand.tmp 7) 2, type := 0, pos := "acts.go:48", after := #[{ on := 1, ground := Ground.guard }], guard := some (1, true) },
  { dst := some 20, op := Op.load 4 (Operand.tmp 19), type := 4, pos := "acts.go:48", after := #[{ on := 2, ground := Ground.data }, { on := 1, ground := Ground.guard }], guard := some (1, true) },
  { dst := some 21, op := Op.unOp UnOp.not 4 (Operand.tmp 20), type := 4, pos := "acts.go:48", after := #[{ on := 3, ground := Ground.data }, { on := 1, ground := Ground.guard }], guard := some (1, true) },
  { dst := some 22, op := Op.pick (Operand.tmp 18) (Operand.tmp 21) (Operand.const (Value.bool false)), type := 4, pos := "acts.go:48", after := #[{ on := 1, ground := Ground.data }, { on := 4, ground := Ground.data }], guard := none }]
def rOO3 : Array Oper := #[{ dst := some 23, op := Op.move (Operand.tmp 2), type := 24, pos := "acts.go:49", after := #[], guard := none },
  { dst := some 6, op := Op.assign (Operand.tmp 23), type := 24, pos := "acts.go:49", after := #[{ on := 0, ground := Ground.data }, { on := 0, ground := Ground.phase }], guard := none }]
def rOO4 : Array Oper := #[{ dst := some 24, op := Op.move (Operand.tmp 0), type := 27, pos := "acts.go:51", after := #[], guard := none },
  { dst := some 25, op := Op.move (Operand.tmp 0), type := 27, pos := "acts.go:51", after := #[], guard := none },
  { dst := some 26, op := Op.nilCheck (Operand.tmp 25), type := 0, pos := "acts.go:51", after := #[{ on := 1, ground := Ground.data }], guard := none },
  { dst := some 27, op := Op.fieldAddr 51 (Operand.tmp 26) 4, type := 0, pos := "acts.go:51", after := #[{ on := 2, ground := Ground.data }], guard := none },
  { dst := some 28, op := Op.load 48 (Operand.tmp 27), type := 48, pos := "acts.go:51", after := #[{ on := 3, ground := Ground.data }], guard := none },
  { dst := some 29, op := Op.load 77 (Operand.tmp 4), type := 77, pos := "acts.go:51", after := #[], guard := none },
  { dst := some 30, op := Op.buildSlice 48 1 #[(0, Operand.tmp 29)], type := 48, pos := "acts.go:51", after := #[{ on := 5, ground := Ground.data }], guard := none },
  { dst := some 31, op := Op.call { callee := Callee.builtin Builtin.append, args := #[Operand.tmp 28, Operand.tmp 30], argTypes := #[48, 48] }, type := 48, pos := "acts.go:51", after := #[{ on := 4, ground := Ground.data }, { on := 6, ground := Ground.data }], guard := none },
  { dst := some 32, op := Op.nilCheck (Operand.tmp 24), type := 0, pos := "acts.go:51", after := #[{ on := 0, ground := Ground.data }, { on := 0, ground := Ground.phase }, { on := 1, ground := Ground.phase }, { on := 2, ground := Ground.phase }, { on := 3, ground := Ground.phase }, { on := 4, ground := Ground.phase }, { on := 5, ground := Ground.phase }, { on := 6, ground := Ground.phase }, { on := 7, ground := Ground.phase }], guard := none },
  { dst := some 33, op := Op.fieldAddr 51 (Operand.tmp 32) 4, type := 0, pos := "acts.go:51", after := #[{ on := 8, ground := Ground.data }, { on := 0, ground := Ground.phase }, { on := 1, ground := Ground.phase }, { on := 2, ground := Ground.phase }, { on := 3, ground := Ground.phase }, { on := 4, ground := Ground.phase }, { on := 5, ground := Ground.phase }, { on := 6, ground := Ground.phase }, { on := 7, ground := Ground.phase }], guard := none },
  { dst := none, op := Op.store 48 (Operand.tmp 33) (Operand.tmp 31), type := 0, pos := "acts.go:51", after := #[{ on := 9, ground := Ground.data }, { on := 7, ground := Ground.data }, { on := 7, ground := Ground.chain }, { on := 0, ground := Ground.phase }, { on := 1, ground := Ground.phase }, { on := 2, ground := Ground.phase }, { on := 3, ground := Ground.phase }, { on := 4, ground := Ground.phase }, { on := 5, ground := Ground.phase }, { on := 6, ground := Ground.phase }, { on := 7, ground := Ground.phase }], guard := none }]
def rOO5 : Array Oper := #[{ dst := some 34, op := Op.move (Operand.tmp 8), type := 4, pos := "acts.go:52", after := #[], guard := none }]
def rOO6 : Array Oper := #[{ dst := some 35, op := Op.move (Operand.tmp 0), type := 27, pos := "acts.go:53", after := #[], guard := none },
  { dst := some 36, op := Op.fieldAddr 82 (Operand.tmp 7) 3, type := 0, pos := "acts.go:53", after := #[], guard := none },
  { dst := some 37, op := Op.load 80 (Operand.tmp 36), type := 80, pos := "acts.go:53", after := #[{ on := 1, ground := Ground.data }], guard := none },
  { dst := some 38, op := Op.call { callee := Callee.value (Operand.func 41), args := #[Operand.tmp 35, Operand.tmp 37], argTypes := #[27, 80] }, type := 0, pos := "acts.go:53", after := #[{ on := 0, ground := Ground.data }, { on := 2, ground := Ground.data }], guard := none }]
def rOO7 : Array Oper := #[{ dst := some 6, op := Op.assign (Operand.const (Value.int IntKind.i64 7)), type := 24, pos := "acts.go:54", after := #[], guard := none }]
def rOO8 : Array Oper := #[{ dst := some 39, op := Op.move (Operand.tmp 0), type := 27, pos := "acts.go:56", after := #[], guard := none },
  { dst := some 40, op := Op.nilCheck (Operand.tmp 39), type := 0, pos := "acts.go:56", after := #[{ on := 0, ground := Ground.data }], guard := none },
  { dst := some 41, op := Op.fieldAddr 51 (Operand.tmp 40) 0, type := 0, pos := "acts.go:56", after := #[{ on := 1, ground := Ground.data }], guard := none },
  { dst := some 42, op := Op.load 77 (Operand.tmp 4), type := 77, pos := "acts.go:56", after := #[], guard := none },
  { dst := some 43, op := Op.call { callee := Callee.value (Operand.func 45), args := #[Operand.tmp 41, Operand.tmp 42, Operand.const (Value.int IntKind.u8 255)], argTypes := #[46, 77, 66] }, type := 0, pos := "acts.go:56", after := #[{ on := 2, ground := Ground.data }, { on := 3, ground := Ground.data }], guard := none }]
def rOO9 : Array Oper := #[{ dst := some 6, op := Op.assign (Operand.const (Value.int IntKind.i64 0)), type := 24, pos := "acts.go:57", after := #[], guard := none }]
def rOO4p : Array Oper := #[{ dst := some 24, op := Op.move (Operand.tmp 0), type := 27, pos := "acts.go:51", after := #[], guard := none },
  { dst := some 25, op := Op.move (Operand.tmp 0), type := 27, pos := "acts.go:51", after := #[], guard := none },
  { dst := some 26, op := Op.nilCheck (Operand.tmp 25), type := 0, pos := "acts.go:51", after := #[{ on := 1, ground := Ground.data }], guard := none },
  { dst := some 27, op := Op.fieldAddr 51 (Operand.tmp 26) 4, type := 0, pos := "acts.go:51", after := #[{ on := 2, ground := Ground.data }], guard := none },
  { dst := some 28, op := Op.load 48 (Operand.tmp 27), type := 48, pos := "acts.go:51", after := #[{ on := 3, ground := Ground.data }], guard := none },
  { dst := some 29, op := Op.load 77 (Operand.tmp 4), type := 77, pos := "acts.go:51", after := #[], guard := none },
  { dst := some 30, op := Op.buildSlice 48 1 #[(0, Operand.tmp 29)], type := 48, pos := "acts.go:51", after := #[{ on := 5, ground := Ground.data }], guard := none },
  { dst := some 31, op := Op.call { callee := Callee.builtin Builtin.append, args := #[Operand.tmp 28, Operand.tmp 30], argTypes := #[48, 48] }, type := 48, pos := "acts.go:51", after := #[{ on := 4, ground := Ground.data }, { on := 6, ground := Ground.data }], guard := none },
  { dst := some 32, op := Op.nilCheck (Operand.tmp 24), type := 0, pos := "acts.go:51", after := #[{ on := 0, ground := Ground.data }, { on := 0, ground := Ground.phase }, { on := 1, ground := Ground.phase }, { on := 2, ground := Ground.phase }, { on := 3, ground := Ground.phase }, { on := 4, ground := Ground.phase }, { on := 5, ground := Ground.phase }, { on := 6, ground := Ground.phase }, { on := 7, ground := Ground.phase }], guard := none },
  { dst := some 33, op := Op.fieldAddr 51 (Operand.tmp 32) 4, type := 0, pos := "acts.go:51", after := #[{ on := 8, ground := Ground.data }, { on := 0, ground := Ground.phase }, { on := 1, ground := Ground.phase }, { on := 2, ground := Ground.phase }, { on := 3, ground := Ground.phase }, { on := 4, ground := Ground.phase }, { on := 5, ground := Ground.phase }, { on := 6, ground := Ground.phase }, { on := 7, ground := Ground.phase }], guard := none }]
def rOO4f : Oper := { dst := none, op := Op.store 48 (Operand.tmp 33) (Operand.tmp 31), type := 0, pos := "acts.go:51", after := #[{ on := 9, ground := Ground.data }, { on := 7, ground := Ground.data }, { on := 7, ground := Ground.chain }, { on := 0, ground := Ground.phase }, { on := 1, ground := Ground.phase }, { on := 2, ground := Ground.phase }, { on := 3, ground := Ground.phase }, { on := 4, ground := Ground.phase }, { on := 5, ground := Ground.phase }, { on := 6, ground := Ground.phase }, { on := 7, ground := Ground.phase }], guard := none }
def cOO : Code := (Code.seq (Code.region 0 rOO0 false) (Code.seq (Code.region 1 rOO1 false) (Code.seq (Code.seq (Code.region 2 rOO2 false) (Code.cond (Operand.tmp 22) (Code.seq (Code.region 3 rOO3 false) Code.ret) Code.skip)) (Code.seq (Code.region 4 rOO4 true) (Code.seq (Code.seq (Code.region 5 rOO5 false) (Code.cond (Operand.tmp 34) (Code.seq (Code.region 6 rOO6 false) (Code.seq (Code.region 7 rOO7 false) Code.ret)) Code.skip)) (Code.seq (Code.region 8 rOO8 true) (Code.seq (Code.region 9 rOO9 false) Code.ret)))))))
set_option maxRecDepth 100000 in
set_option maxHeartbeats 1000000 in
theorem change_calls {b : Nat} {D : Dk} {S : Nat → Prop} {pa ia wa aa : Option Addr} {pc ic wc ac : Nat} {x : Wt} {rf : Int} (w : World) (h : DkO w b D S pa ia wa aa pc ic wc ac) (hk : DkOk D) (hm : DkSm D 1048576) (hx : WtOk D.page x) :
    Calls Try.prog 38 #[.pointer (some ⟨b, 0, none⟩), .agg #[.int .u8 (x.act : Int), .int .u32 (x.pg : Int), .int .i64 (x.pages : Int), .string x.data], .int .i64 rf] w fun e w' => e = .returned (.int .i64 0) ∧ DkAt w' b (dkChange D x) (Land S w w') ∧ Fr S w w' := by
  refine calls_abs (c := cOO) Try.func38 (by kernel_rfl) 44 rfl (by simp) (fun a0 hsz hd ha => ?_)
  have fa0_0 := Fe.refl a0
  unfold cOO
  refine wp_seq ?_
  refine wp_region_list ?_
  unfold rOO0
  have r_a0_1 : (execOp a0.eval { dst := some 4, op := Op.box 77 (Operand.tmp 1), type := 0, pos := "acts.go:46", after := #[], guard := none }).run Try.prog (w) = .ok (.value (.pointer (some ⟨w.heap.size, 0, none⟩))) (w.alloc (.cells #[.int .u8 (x.act : Int), .int .u32 (x.pg : Int), .int .i64 (x.pages : Int), .string x.data] 77)) := by
    have e1 := (show a0.eval (.tmp 1) = .agg #[.int .u8 (x.act : Int), .int .u32 (x.pg : Int), .int .i64 (x.pages : Int), .string x.data] from ((fa0_0.at_ 1).trans (ha 1 _ rfl)))
    clear fa0_0 ha hk
    generalize a0.eval = ρ at *
    go_simp
  refine fa0_0.stepW 4 (.pointer (some ⟨w.heap.size, 0, none⟩)) rfl (lb_ hsz) (wanted_none rfl) r_a0_1 (fun a0_1 fa0_1 => ?_)
  clear r_a0_1
  obtain ⟨V, hV⟩ : ∃ V, V = w.alloc (.cells #[.int .u8 (x.act : Int), .int .u32 (x.pg : Int), .int .i64 (x.pages : Int), .string x.data] 77) := ⟨_, rfl⟩
  rw [← hV]
  have sV : Same w V := by rw [hV]; exact (Fr.refl _ w).alloc _
  have hVr : V.heap[w.heap.size]? = some (.cells #[.int .u8 (x.act : Int), .int .u32 (x.pg : Int), .int .i64 (x.pages : Int), .string x.data] 77 (0, 0)) := by rw [hV]; exact heap_alloc_new w _
  clear hV
  have k0 : V.cell? ⟨w.heap.size, 0, none⟩ = some (.int .u8 (x.act : Int)) := (cell_of_row _ _ _ _ _ _ hVr).trans rfl
  clear fa0_0
  refine fa0_1.move 6 (.int .i64 0) _ (Or.inr rfl) rfl (lb_ hsz) (wanted_none rfl) rfl (fun a0_2 fa0_2 => ?_)
  clear fa0_1
  refine wpList_nil ?_
  change Code.wp _ _ _ _ _
  refine wp_seq ?_
  refine wp_region_list ?_
  unfold rOO1
  refine fa0_2.move 10 (.pointer (some ⟨b, 0, none⟩)) _ (Or.inl rfl) rfl (lb_ hsz) (wanted_none rfl) ((fa0_2.at_ 0).trans (ha 0 _ rfl)) (fun a0_3 fa0_3 => ?_)
  clear fa0_2
  have r_a0_4 : (execOp a0_3.eval { dst := some 11, op := Op.fieldAddr 77 (Operand.tmp 4) 0, type := 0, pos := "acts.go:47", after := #[], guard := none }).run Try.prog (V) = .ok (.value (.pointer (some ⟨w.heap.size, 0, none⟩))) (V) := by
    have e4 := (show a0_3.eval (.tmp 4) = .pointer (some ⟨w.heap.size, 0, none⟩) from (fa0_3.at_ 4))
    clear fa0_3 ha hk
    generalize a0_3.eval = ρ at *
    go_simp
  refine fa0_3.step 11 (.pointer (some ⟨w.heap.size, 0, none⟩)) rfl (lb_ hsz) (wanted_none rfl) r_a0_4 (fun a0_4 fa0_4 => ?_)
  clear r_a0_4
  clear fa0_3
  have r_a0_5 : (execOp a0_4.eval { dst := some 12, op := Op.fieldAddr 75 (Operand.tmp 11) 0, type := 0, pos := "acts.go:47", after := #[{ on := 1, ground := Ground.data }], guard := none }).run Try.prog (V) = .ok (.value (.pointer (some ⟨w.heap.size, 0, none⟩))) (V) := by
    have e11 := (show a0_4.eval (.tmp 11) = .pointer (some ⟨w.heap.size, 0, none⟩) from (fa0_4.at_ 11))
    clear fa0_4 ha hk
    generalize a0_4.eval = ρ at *
    go_simp
  refine fa0_4.step 12 (.pointer (some ⟨w.heap.size, 0, none⟩)) rfl (lb_ hsz) (wanted_none rfl) r_a0_5 (fun a0_5 fa0_5 => ?_)
  clear r_a0_5
  clear fa0_4
  have r_a0_6 : (execOp a0_5.eval { dst := some 13, op := Op.load 73 (Operand.tmp 12), type := 73, pos := "acts.go:47", after := #[{ on := 2, ground := Ground.data }], guard := none }).run Try.prog (V) = .ok (.value (.int .u8 (x.act : Int))) (V) := by
    have e12 := (show a0_5.eval (.tmp 12) = .pointer (some ⟨w.heap.size, 0, none⟩) from (fa0_5.at_ 12))
    clear fa0_5 ha hk
    generalize a0_5.eval = ρ at *
    go_simp
  refine fa0_5.step 13 (.int .u8 (x.act : Int)) rfl (lb_ hsz) (wanted_none rfl) r_a0_6 (fun a0_6 fa0_6 => ?_)
  clear r_a0_6
  clear fa0_5
  have r_a0_7 : (execOp a0_6.eval { dst := some 14, op := Op.call { callee := Callee.value (Operand.func 40), args := #[Operand.tmp 10, Operand.tmp 13], argTypes := #[27, 73] }, type := 83, pos := "acts.go:47", after := #[{ on := 0, ground := Ground.data }, { on := 3, ground := Ground.data }], guard := none }).run Try.prog (V) = .ok (.enter 40 #[.pointer (some ⟨b, 0, none⟩), .int .u8 (x.act : Int)]) (V) := by
    have kf : ∀ f, a0_6.eval (.func f) = .func (.func f) #[] #[] := fun _ => rfl
    have e10 := (show a0_6.eval (.tmp 10) = .pointer (some ⟨b, 0, none⟩) from (fa0_6.at_ 10))
    have e13 := (show a0_6.eval (.tmp 13) = .int .u8 (x.act : Int) from (fa0_6.at_ 13))
    clear fa0_6 ha hk
    generalize a0_6.eval = ρ at *
    go_simp
  refine fa0_6.call 14 rfl (lb_ hsz) (wanted_none rfl) r_a0_7 (count_none V (h.same sV).dk) (fun e V1 hR => ?_)
  obtain ⟨rfl, s1⟩ := hR
  clear r_a0_7
  refine ⟨_, rfl, fun a0_7 fa0_7 => ?_⟩
  clear fa0_6
  refine fa0_7.move 9 (.tuple #[.agg #[.int .u8 0, .int .i64 0, .bool false, .slice none 0 0], .bool false]) _ (Or.inl rfl) rfl (lb_ hsz) (wanted_none rfl) (fa0_7.at_ 14) (fun a0_8 fa0_8 => ?_)
  clear fa0_7
  have r_a0_9 : (execOp a0_8.eval { dst := some 15, op := Op.extract (Operand.tmp 9) 0, type := 82, pos := "acts.go:47", after := #[{ on := 5, ground := Ground.data }], guard := none }).run Try.prog (V1) = .ok (.value (.agg #[.int .u8 0, .int .i64 0, .bool false, .slice none 0 0])) (V1) := by
    have e9 := (show a0_8.eval (.tmp 9) = .tuple #[.agg #[.int .u8 0, .int .i64 0, .bool false, .slice none 0 0], .bool false] from (fa0_8.at_ 9))
    clear fa0_8 ha hk
    generalize a0_8.eval = ρ at *
    go_simp
  refine fa0_8.step 15 (.agg #[.int .u8 0, .int .i64 0, .bool false, .slice none 0 0]) rfl (lb_ hsz) (wanted_none rfl) r_a0_9 (fun a0_9 fa0_9 => ?_)
  clear r_a0_9
  clear fa0_8
  have r_a0_10 : (execOp a0_9.eval { dst := some 16, op := Op.extract (Operand.tmp 9) 1, type := 4, pos := "acts.go:47", after := #[{ on := 5, ground := Ground.data }, { on := 9, ground := Ground.gcOnly Go.Departure.lateStores }], guard := none }).run Try.prog (V1) = .ok (.value (.bool false)) (V1) := by
    have e9 := (show a0_9.eval (.tmp 9) = .tuple #[.agg #[.int .u8 0, .int .i64 0, .bool false, .slice none 0 0], .bool false] from (fa0_9.at_ 9))
    clear fa0_9 ha hk
    generalize a0_9.eval = ρ at *
    go_simp
  refine fa0_9.step 16 (.bool false) rfl (lb_ hsz) (wanted_none rfl) r_a0_10 (fun a0_10 fa0_10 => ?_)
  clear r_a0_10
  clear fa0_9
  have r_a0_11 : (execOp a0_10.eval { dst := some 7, op := Op.alloc 82, type := 0, pos := "acts.go:47", after := #[], guard := none }).run Try.prog (V1) = .ok (.value (.pointer (some ⟨V1.heap.size, 0, none⟩))) (V1.alloc (.cells #[.int .u8 0, .int .i64 0, .bool false, .slice none 0 0] 82)) := by
    clear fa0_10 ha hk
    generalize a0_10.eval = ρ at *
    go_simp
  refine fa0_10.stepW 7 (.pointer (some ⟨V1.heap.size, 0, none⟩)) rfl (lb_ hsz) (wanted_none rfl) r_a0_11 (fun a0_11 fa0_11 => ?_)
  clear r_a0_11
  have s2 : Same V (V1.alloc (.cells #[.int .u8 0, .int .i64 0, .bool false, .slice none 0 0] 82)) := s1.alloc _
  have r1 : (V1.alloc (.cells #[.int .u8 0, .int .i64 0, .bool false, .slice none 0 0] 82)).heap[V1.heap.size]? = some (.cells #[.int .u8 0, .int .i64 0, .bool false, .slice none 0 0] 82 (0, 0)) := heap_alloc_new V1 _
  generalize V1.alloc (.cells #[.int .u8 0, .int .i64 0, .bool false, .slice none 0 0] 82) = V2 at *
  clear fa0_10
  have r_a0_12 : (execOp a0_11.eval { dst := none, op := Op.store 82 (Operand.tmp 7) (Operand.tmp 15), type := 0, pos := "acts.go:47", after := #[{ on := 8, ground := Ground.data }, { on := 6, ground := Ground.data }, { on := 4, ground := Ground.chain }, { on := 0, ground := Ground.phase }, { on := 1, ground := Ground.phase }, { on := 2, ground := Ground.phase }, { on := 3, ground := Ground.phase }, { on := 4, ground := Ground.phase }, { on := 5, ground := Ground.phase }, { on := 6, ground := Ground.phase }, { on := 7, ground := Ground.textOnly Go.Departure.lateStores }, { on := 8, ground := Ground.phase }], guard := none }).run Try.prog (V2) = .ok .skip (World.setCells V2 V1.heap.size 0 [.int .u8 0, .int .i64 0, .bool false, .slice none 0 0]) := by
    exact exec_store_mid 82 _ _ rfl V1.heap.size 0 #[.int .u8 0, .int .i64 0, .bool false, .slice none 0 0] (show a0_11.eval (.tmp 7) = .pointer (some ⟨V1.heap.size, 0, none⟩) from (fa0_11.at_ 7)) (show a0_11.eval (.tmp 15) = .agg #[.int .u8 0, .int .i64 0, .bool false, .slice none 0 0] from (fa0_11.at_ 15)) (there_row r1 rfl) (by kernel_rfl) (by kernel_rfl)
  refine fa0_11.store rfl (wanted_none rfl) r_a0_12 (fun a0_12 fa0_12 => ?_)
  clear r_a0_12
  have s3 : Same V (World.setCells V2 V1.heap.size 0 [.int .u8 0, .int .i64 0, .bool false, .slice none 0 0]) := Fr.trans s2 (Fr.setCells (S := fun k => k = V1.heap.size) (fun _ => rfl) _ 0 V2 (Fr.refl _ V2)) (fun k hk e => by have e2 : k = V1.heap.size := e; have := s1.size; omega)
  generalize World.setCells V2 V1.heap.size 0 [.int .u8 0, .int .i64 0, .bool false, .slice none 0 0] = V3 at *
  have s13 : Same w V3 := sV.trans s3
  have d3 := h.same s13
  have hBr : V3.heap[w.heap.size]? = some (.cells #[.int .u8 (x.act : Int), .int .u32 (x.pg : Int), .int .i64 (x.pages : Int), .string x.data] 77 (0, 0)) := heap_fr hVr s3 (fun f => f)
  have c6 := d3.cell 6 rfl
  have z6 := d3.frozen 6
  have b0 : V3.cell? ⟨w.heap.size, 0, none⟩ = some (.int .u8 (x.act : Int)) := (cell_of_row _ _ _ _ _ _ hBr).trans rfl
  have b1 : V3.cell? ⟨w.heap.size, 1, none⟩ = some (.int .u32 (x.pg : Int)) := (cell_of_row _ _ _ _ _ _ hBr).trans rfl
  have b2 : V3.cell? ⟨w.heap.size, 2, none⟩ = some (.int .i64 (x.pages : Int)) := (cell_of_row _ _ _ _ _ _ hBr).trans rfl
  have b3 : V3.cell? ⟨w.heap.size, 3, none⟩ = some (.string x.data) := (cell_of_row _ _ _ _ _ _ hBr).trans rfl
  clear fa0_11
  refine fa0_12.move 8 (.bool false) _ (Or.inr rfl) rfl (lb_ hsz) (wanted_none rfl) (fa0_12.at_ 16) (fun a0_13 fa0_13 => ?_)
  clear fa0_12
  refine wpList_nil ?_
  change Code.wp _ _ _ _ _
  refine wp_seq (wp_seq ?_)
  refine wp_region_list ?_
  unfold rOO2
  refine fa0_13.move 17 (.bool false) _ (Or.inl rfl) rfl (lb_ hsz) (wanted_none rfl) (fa0_13.at_ 8) (fun a0_14 fa0_14 => ?_)
  clear fa0_13
  refine fa0_14.move 18 (.bool false) _ (Or.inl rfl) rfl (lb_ hsz) (wanted_none rfl) (fa0_14.at_ 17) (fun a0_15 fa0_15 => ?_)
  clear fa0_14
  refine fa0_15.skip 19 rfl (lb_ hsz) ((wanted_at (t := 18) (c := false) (b := true) rfl rfl rfl (lb_ (fa0_15.size.trans hsz)) (fa0_15.at_ 18)).trans (by rfl)) (fun a0_16 fa0_16 => ?_)
  clear fa0_15
  refine fa0_16.skip 20 rfl (lb_ hsz) ((wanted_at (t := 18) (c := false) (b := true) rfl rfl rfl (lb_ (fa0_16.size.trans hsz)) (fa0_16.at_ 18)).trans (by rfl)) (fun a0_17 fa0_17 => ?_)
  clear fa0_16
  refine fa0_17.skip 21 rfl (lb_ hsz) ((wanted_at (t := 18) (c := false) (b := true) rfl rfl rfl (lb_ (fa0_17.size.trans hsz)) (fa0_17.at_ 18)).trans (by rfl)) (fun a0_18 fa0_18 => ?_)
  clear fa0_17
  have r_a0_19 : (execOp a0_18.eval { dst := some 22, op := Op.pick (Operand.tmp 18) (Operand.tmp 21) (Operand.const (Value.bool false)), type := 4, pos := "acts.go:48", after := #[{ on := 1, ground := Ground.data }, { on := 4, ground := Ground.data }], guard := none }).run Try.prog (V3) = .ok (.value (.bool false)) (V3) := by
    have kc : ∀ v, a0_18.eval (.const v) = v := fun _ => rfl
    have e18 := (show a0_18.eval (.tmp 18) = .bool false from (fa0_18.at_ 18))
    have e21 := (show a0_18.eval (.tmp 21) = undef from (fa0_18.at_ 21))
    clear fa0_18 ha hk
    generalize a0_18.eval = ρ at *
    go_simp
  refine fa0_18.step 22 (.bool false) rfl (lb_ hsz) (wanted_none rfl) r_a0_19 (fun a0_19 fa0_19 => ?_)
  clear r_a0_19
  clear fa0_18
  refine wpList_nil ?_
  change Code.wp _ _ _ _ _
  refine wp_cond_false (show a0_19.eval (.tmp 22) = .bool false from (fa0_19.at_ 22)) (wp_skip ?_)
  change Code.wp _ _ _ _ _
  refine wp_seq ?_
  have dd : Same V3 V3.drew := (Fr.refl (fun _ => False) V3).drew
  refine wp_region_pop (ops := rOO4) (ops' := rOO4p) (F := rOO4f) (S := fun Z => Z.cell? ⟨b, 6, none⟩ = some (.slice wa D.W.length wc) ∧ Z.heap[w.heap.size]? = some (.cells #[.int .u8 (x.act : Int), .int .u32 (x.pg : Int), .int .i64 (x.pages : Int), .string x.data] 77 (0, 0))) (by kernel_rfl) rfl (by kernel_rfl) rfl (by kernel_rfl) (by kernel_rfl) (by kernel_rfl) (⟨c6, hBr⟩) (fun hS19 => ?_)
  refine fa0_19.takeMove 0 24 (.pointer (some ⟨b, 0, none⟩)) _ (Or.inl rfl) rfl (by kernel_rfl) (by kernel_rfl) (by kernel_rfl) (fun _ _ _ h => h) rfl (lb_ hsz) (wanted_none rfl) ((fa0_19.at_ 0).trans (ha 0 _ rfl)) hS19 (fun a0_20 fa0_20 => ?_)
  clear fa0_19
  refine fa0_20.takeMove 1 25 (.pointer (some ⟨b, 0, none⟩)) _ (Or.inl rfl) rfl (by kernel_rfl) (by kernel_rfl) (by kernel_rfl) (fun _ _ _ h => h) rfl (lb_ hsz) (wanted_none rfl) ((fa0_20.at_ 0).trans (ha 0 _ rfl)) hS19 (fun a0_21 fa0_21 => ?_)
  clear fa0_20
  have r_a0_22 : ∀ Z, (fun Z => Z.cell? ⟨b, 6, none⟩ = some (.slice wa D.W.length wc) ∧ Z.heap[w.heap.size]? = some (.cells #[.int .u8 (x.act : Int), .int .u32 (x.pg : Int), .int .i64 (x.pages : Int), .string x.data] 77 (0, 0))) Z → (execOp a0_21.eval { dst := some 26, op := Op.nilCheck (Operand.tmp 25), type := 0, pos := "acts.go:51", after := #[{ on := 1, ground := Ground.data }], guard := none }).run Try.prog Z = .ok (.value (.pointer (some ⟨b, 0, none⟩))) Z := fun Z hZ => by
    have e25 := (show a0_21.eval (.tmp 25) = .pointer (some ⟨b, 0, none⟩) from (fa0_21.at_ 25))
    clear fa0_21 ha hk
    generalize a0_21.eval = ρ at *
    go_simp
  refine fa0_21.take 2 26 (.pointer (some ⟨b, 0, none⟩)) rfl (by kernel_rfl) (by kernel_rfl) (by kernel_rfl) (fun _ _ _ h => h) rfl (lb_ hsz) (wanted_none rfl) r_a0_22 hS19 (fun a0_22 fa0_22 => ?_)
  clear r_a0_22
  clear fa0_21
  have r_a0_23 : ∀ Z, (fun Z => Z.cell? ⟨b, 6, none⟩ = some (.slice wa D.W.length wc) ∧ Z.heap[w.heap.size]? = some (.cells #[.int .u8 (x.act : Int), .int .u32 (x.pg : Int), .int .i64 (x.pages : Int), .string x.data] 77 (0, 0))) Z → (execOp a0_22.eval { dst := some 27, op := Op.fieldAddr 51 (Operand.tmp 26) 4, type := 0, pos := "acts.go:51", after := #[{ on := 2, ground := Ground.data }], guard := none }).run Try.prog Z = .ok (.value (.pointer (some ⟨b, 6, none⟩))) Z := fun Z hZ => by
    have e26 := (show a0_22.eval (.tmp 26) = .pointer (some ⟨b, 0, none⟩) from (fa0_22.at_ 26))
    clear fa0_22 ha hk
    generalize a0_22.eval = ρ at *
    go_simp
  refine fa0_22.take 3 27 (.pointer (some ⟨b, 6, none⟩)) rfl (by kernel_rfl) (by kernel_rfl) (by kernel_rfl) (fun _ _ _ h => h) rfl (lb_ hsz) (wanted_none rfl) r_a0_23 hS19 (fun a0_23 fa0_23 => ?_)
  clear r_a0_23
  clear fa0_22
  have r_a0_24 : ∀ Z, (fun Z => Z.cell? ⟨b, 6, none⟩ = some (.slice wa D.W.length wc) ∧ Z.heap[w.heap.size]? = some (.cells #[.int .u8 (x.act : Int), .int .u32 (x.pg : Int), .int .i64 (x.pages : Int), .string x.data] 77 (0, 0))) Z → (execOp a0_23.eval { dst := some 28, op := Op.load 48 (Operand.tmp 27), type := 48, pos := "acts.go:51", after := #[{ on := 3, ground := Ground.data }], guard := none }).run Try.prog Z = .ok (.value (.slice wa D.W.length wc)) Z := fun Z hZ => by
    obtain ⟨z0, zb⟩ := hZ
    have z1 : Z.cell? ⟨w.heap.size, 0, none⟩ = some (.int .u8 (x.act : Int)) := (cell_of_row _ _ _ _ _ _ zb).trans rfl
    have z2 : Z.cell? ⟨w.heap.size, 1, none⟩ = some (.int .u32 (x.pg : Int)) := (cell_of_row _ _ _ _ _ _ zb).trans rfl
    have z3 : Z.cell? ⟨w.heap.size, 2, none⟩ = some (.int .i64 (x.pages : Int)) := (cell_of_row _ _ _ _ _ _ zb).trans rfl
    have z4 : Z.cell? ⟨w.heap.size, 3, none⟩ = some (.string x.data) := (cell_of_row _ _ _ _ _ _ zb).trans rfl
    have e27 := (show a0_23.eval (.tmp 27) = .pointer (some ⟨b, 6, none⟩) from (fa0_23.at_ 27))
    clear fa0_23 ha hk
    generalize a0_23.eval = ρ at *
    go_simp
  refine fa0_23.take 4 28 (.slice wa D.W.length wc) rfl (by kernel_rfl) (by kernel_rfl) (by kernel_rfl) (fun _ _ _ h => h) rfl (lb_ hsz) (wanted_none rfl) r_a0_24 hS19 (fun a0_24 fa0_24 => ?_)
  clear r_a0_24
  clear fa0_23
  have r_a0_25 : ∀ Z, (fun Z => Z.cell? ⟨b, 6, none⟩ = some (.slice wa D.W.length wc) ∧ Z.heap[w.heap.size]? = some (.cells #[.int .u8 (x.act : Int), .int .u32 (x.pg : Int), .int .i64 (x.pages : Int), .string x.data] 77 (0, 0))) Z → (execOp a0_24.eval { dst := some 29, op := Op.load 77 (Operand.tmp 4), type := 77, pos := "acts.go:51", after := #[], guard := none }).run Try.prog Z = .ok (.value (.agg #[.int .u8 (x.act : Int), .int .u32 (x.pg : Int), .int .i64 (x.pages : Int), .string x.data])) Z := fun Z hZ => by
    obtain ⟨z0, zb⟩ := hZ
    have z1 : Z.cell? ⟨w.heap.size, 0, none⟩ = some (.int .u8 (x.act : Int)) := (cell_of_row _ _ _ _ _ _ zb).trans rfl
    have z2 : Z.cell? ⟨w.heap.size, 1, none⟩ = some (.int .u32 (x.pg : Int)) := (cell_of_row _ _ _ _ _ _ zb).trans rfl
    have z3 : Z.cell? ⟨w.heap.size, 2, none⟩ = some (.int .i64 (x.pages : Int)) := (cell_of_row _ _ _ _ _ _ zb).trans rfl
    have z4 : Z.cell? ⟨w.heap.size, 3, none⟩ = some (.string x.data) := (cell_of_row _ _ _ _ _ _ zb).trans rfl
    have e4 := (show a0_24.eval (.tmp 4) = .pointer (some ⟨w.heap.size, 0, none⟩) from (fa0_24.at_ 4))
    clear fa0_24 ha hk
    generalize a0_24.eval = ρ at *
    go_simp
  refine fa0_24.take 5 29 (.agg #[.int .u8 (x.act : Int), .int .u32 (x.pg : Int), .int .i64 (x.pages : Int), .string x.data]) rfl (by kernel_rfl) (by kernel_rfl) (by kernel_rfl) (fun _ _ _ h => h) rfl (lb_ hsz) (wanted_none rfl) r_a0_25 hS19 (fun a0_25 fa0_25 => ?_)
  clear r_a0_25
  clear fa0_24
  have ea : Same V3 (World.alloc V3.drew (.cells #[.int .u8 (x.act : Int), .int .u32 (x.pg : Int), .int .i64 (x.pages : Int), .string x.data] 77)) := dd.trans ((Fr.refl _ V3.drew).alloc _)
  have r_a0_26 : (execOp a0_25.eval { dst := some 30, op := Op.buildSlice 48 1 #[(0, Operand.tmp 29)], type := 48, pos := "acts.go:51", after := #[{ on := 5, ground := Ground.data }], guard := none }).run Try.prog (V3.drew) = .ok (.value (.slice (some ⟨V3.heap.size, 0, none⟩) 1 1)) (World.alloc V3.drew (.cells #[.int .u8 (x.act : Int), .int .u32 (x.pg : Int), .int .i64 (x.pages : Int), .string x.data] 77)) := by
    have e29 := (show a0_25.eval (.tmp 29) = .agg #[.int .u8 (x.act : Int), .int .u32 (x.pg : Int), .int .i64 (x.pages : Int), .string x.data] from (fa0_25.at_ 29))
    clear fa0_25 ha hk
    generalize a0_25.eval = ρ at *
    go_simp
  have hS26 : (fun Z => Z.cell? ⟨b, 6, none⟩ = some (.slice wa D.W.length wc) ∧ Z.heap[w.heap.size]? = some (.cells #[.int .u8 (x.act : Int), .int .u32 (x.pg : Int), .int .i64 (x.pages : Int), .string x.data] 77 (0, 0))) (World.alloc V3.drew (.cells #[.int .u8 (x.act : Int), .int .u32 (x.pg : Int), .int .i64 (x.pages : Int), .string x.data] 77)) := ⟨ea.keep c6, heap_fr hBr ea (fun f => f)⟩
  refine fa0_25.one 6 30 (.slice (some ⟨V3.heap.size, 0, none⟩) 1 1) (by kernel_rfl) rfl rfl (lb_ hsz) (wanted_none rfl) r_a0_26 hS26 (fun a0_26 fa0_26 => ?_)
  clear r_a0_26
  have hva : (World.alloc V3.drew (.cells #[.int .u8 (x.act : Int), .int .u32 (x.pg : Int), .int .i64 (x.pages : Int), .string x.data] 77)).heap[V3.heap.size]? = some (.cells #[.int .u8 (x.act : Int), .int .u32 (x.pg : Int), .int .i64 (x.pages : Int), .string x.data] 77 (0, 0)) := heap_alloc_new V3.drew _
  generalize World.alloc V3.drew (.cells #[.int .u8 (x.act : Int), .int .u32 (x.pg : Int), .int .i64 (x.pages : Int), .string x.data] 77) = V4 at *
  have d4 := d3.same ea
  obtain ⟨g3, c3, V5, hr3, o3, f3, l3⟩ := appWts (m := 1) (c := 1) (ad := ⟨V3.heap.size, 0, none⟩) (news := [.int .u8 (x.act : Int), .int .u32 (x.pg : Int), .int .i64 (x.pages : Int), .string x.data]) V4 48 d4.rW rfl (fun j u hj => by rw [WideShapes.add_plain, Nat.zero_add]; exact (cell_of_row _ _ _ _ _ _ hva).trans (by rw [← hj, ← List.getElem?_toArray])) (fun u hu => by simp only [List.mem_cons, List.not_mem_nil, or_false] at hu; rcases hu with rfl | rfl | rfl | rfl <;> rfl) (by decide) (by have := hm.W; omega)
  have nb6 : ¬ (Value.slice wa D.W.length wc).ownBlock = some b := fun e => own_neT d4.rW d4.row (by decide) b e rfl
  have c65 : V5.cell? ⟨b, 6, none⟩ = some (.slice wa D.W.length wc) := (cell_of_row _ _ _ _ _ _ (heap_fr d4.row f3 nb6)).trans rfl
  have nbx : ¬ (Value.slice wa D.W.length wc).ownBlock = some w.heap.size := fun e => by have := h.lt _ (h.sW _ e); omega
  have hBr5 := heap_fr (heap_fr hBr ea (fun f => f)) f3 nbx
  have z65 : V5.frozen? ⟨b, 6, none⟩ = false := frozen_of_row _ _ _ _ _ (heap_fr d4.row f3 nb6)
  clear fa0_25
  have r_a0_27 : (execOp a0_26.eval { dst := some 31, op := Op.call { callee := Callee.builtin Builtin.append, args := #[Operand.tmp 28, Operand.tmp 30], argTypes := #[48, 48] }, type := 48, pos := "acts.go:51", after := #[{ on := 4, ground := Ground.data }, { on := 6, ground := Ground.data }], guard := none }).run Try.prog (V4) = .ok (.value (.slice (some ⟨g3, 0, none⟩) (D.W.length + 1) c3)) (V5) := by
    refine exec_append rfl ?_
    rw [(show a0_26.eval (.tmp 28) = .slice wa D.W.length wc from (fa0_26.at_ 28)), (show a0_26.eval (.tmp 30) = .slice (some ⟨V3.heap.size, 0, none⟩) 1 1 from (fa0_26.at_ 30))]
    exact hr3
  have hS27 : (fun Z => Z.cell? ⟨b, 6, none⟩ = some (.slice wa D.W.length wc) ∧ Z.heap[w.heap.size]? = some (.cells #[.int .u8 (x.act : Int), .int .u32 (x.pg : Int), .int .i64 (x.pages : Int), .string x.data] 77 (0, 0))) (V5) := ⟨c65, hBr5⟩
  refine fa0_26.one 7 31 (.slice (some ⟨g3, 0, none⟩) (D.W.length + 1) c3) (by kernel_rfl) rfl rfl (lb_ hsz) (wanted_none rfl) r_a0_27 hS27 (fun a0_27 fa0_27 => ?_)
  clear r_a0_27
  clear fa0_26
  have r_a0_28 : ∀ Z, (fun Z => Z.cell? ⟨b, 6, none⟩ = some (.slice wa D.W.length wc) ∧ Z.heap[w.heap.size]? = some (.cells #[.int .u8 (x.act : Int), .int .u32 (x.pg : Int), .int .i64 (x.pages : Int), .string x.data] 77 (0, 0))) Z → (execOp a0_27.eval { dst := some 32, op := Op.nilCheck (Operand.tmp 24), type := 0, pos := "acts.go:51", after := #[{ on := 0, ground := Ground.data }, { on := 0, ground := Ground.phase }, { on := 1, ground := Ground.phase }, { on := 2, ground := Ground.phase }, { on := 3, ground := Ground.phase }, { on := 4, ground := Ground.phase }, { on := 5, ground := Ground.phase }, { on := 6, ground := Ground.phase }, { on := 7, ground := Ground.phase }], guard := none }).run Try.prog Z = .ok (.value (.pointer (some ⟨b, 0, none⟩))) Z := fun Z hZ => by
    have e24 := (show a0_27.eval (.tmp 24) = .pointer (some ⟨b, 0, none⟩) from (fa0_27.at_ 24))
    clear fa0_27 ha hk
    generalize a0_27.eval = ρ at *
    go_simp
  refine fa0_27.take 8 32 (.pointer (some ⟨b, 0, none⟩)) rfl (by kernel_rfl) (by kernel_rfl) (by kernel_rfl) (fun _ _ _ h => h) rfl (lb_ hsz) (wanted_none rfl) r_a0_28 hS27 (fun a0_28 fa0_28 => ?_)
  clear r_a0_28
  clear fa0_27
  have r_a0_29 : ∀ Z, (fun Z => Z.cell? ⟨b, 6, none⟩ = some (.slice wa D.W.length wc) ∧ Z.heap[w.heap.size]? = some (.cells #[.int .u8 (x.act : Int), .int .u32 (x.pg : Int), .int .i64 (x.pages : Int), .string x.data] 77 (0, 0))) Z → (execOp a0_28.eval { dst := some 33, op := Op.fieldAddr 51 (Operand.tmp 32) 4, type := 0, pos := "acts.go:51", after := #[{ on := 8, ground := Ground.data }, { on := 0, ground := Ground.phase }, { on := 1, ground := Ground.phase }, { on := 2, ground := Ground.phase }, { on := 3, ground := Ground.phase }, { on := 4, ground := Ground.phase }, { on := 5, ground := Ground.phase }, { on := 6, ground := Ground.phase }, { on := 7, ground := Ground.phase }], guard := none }).run Try.prog Z = .ok (.value (.pointer (some ⟨b, 6, none⟩))) Z := fun Z hZ => by
    have e32 := (show a0_28.eval (.tmp 32) = .pointer (some ⟨b, 0, none⟩) from (fa0_28.at_ 32))
    clear fa0_28 ha hk
    generalize a0_28.eval = ρ at *
    go_simp
  refine fa0_28.take 9 33 (.pointer (some ⟨b, 6, none⟩)) rfl (by kernel_rfl) (by kernel_rfl) (by kernel_rfl) (fun _ _ _ h => h) rfl (lb_ hsz) (wanted_none rfl) r_a0_29 hS27 (fun a0_29 fa0_29 => ?_)
  clear r_a0_29
  clear fa0_28
  have r_a0_30 : (execOp a0_29.eval rOO4f).run Try.prog (V5) = .ok .skip (World.setCell V5 ⟨b, 6, none⟩ (.slice (some ⟨g3, 0, none⟩) (D.W.length + 1) c3)) := by
    unfold rOO4f
    have e33 := (show a0_29.eval (.tmp 33) = .pointer (some ⟨b, 6, none⟩) from (fa0_29.at_ 33))
    have e31 := (show a0_29.eval (.tmp 31) = .slice (some ⟨g3, 0, none⟩) (D.W.length + 1) c3 from (fa0_29.at_ 31))
    clear fa0_29 ha hk
    generalize a0_29.eval = ρ at *
    go_simp
  refine wpAnyH_done (by kernel_rfl) ?_ _
  refine fa0_29.last rfl r_a0_30 (fun a0_30 fa0_30 => ?_)
  clear r_a0_30 fa0_29
  have hW1 : D.W.length + 1 = (D.W ++ [x]).length := by simp
  rw [hW1, show wtCs D.W ++ [.int .u8 (x.act : Int), .int .u32 (x.pg : Int), .int .i64 (x.pages : Int), .string x.data] = wtCs (D.W ++ [x]) from by rw [wtCs_app]; rfl] at o3
  have dg := d4.growW (W' := D.W ++ [x]) f3 o3 l3
  rw [← hW1] at dg
  have hBr6 : (World.setCell V5 ⟨b, 6, none⟩ (.slice (some ⟨g3, 0, none⟩) (D.W.length + 1) c3)).heap[w.heap.size]? = some (.cells #[.int .u8 (x.act : Int), .int .u32 (x.pg : Int), .int .i64 (x.pages : Int), .string x.data] 77 (0, 0)) := heap_fr (heap_fr hBr ea (fun f => f)) dg.2 (fun e => by have := h.lt _ e; omega)
  generalize World.setCell V5 ⟨b, 6, none⟩ (.slice (some ⟨g3, 0, none⟩) (D.W.length + 1) c3) = V6 at *
  obtain ⟨d6, f6⟩ := dg
  have dd6 : Same V6 V6.drew := (Fr.refl (fun _ => False) V6).drew
  have y0 : V6.cell? ⟨w.heap.size, 0, none⟩ = some (.int .u8 (x.act : Int)) := (cell_of_row _ _ _ _ _ _ hBr6).trans rfl
  have y1 : V6.cell? ⟨w.heap.size, 1, none⟩ = some (.int .u32 (x.pg : Int)) := (cell_of_row _ _ _ _ _ _ hBr6).trans rfl
  have y2 : V6.cell? ⟨w.heap.size, 2, none⟩ = some (.int .i64 (x.pages : Int)) := (cell_of_row _ _ _ _ _ _ hBr6).trans rfl
  have y3 : V6.cell? ⟨w.heap.size, 3, none⟩ = some (.string x.data) := (cell_of_row _ _ _ _ _ _ hBr6).trans rfl
  change Code.wp _ _ _ _ _
  refine wp_seq (wp_seq ?_)
  refine wp_region_list ?_
  unfold rOO5
  refine fa0_30.move 34 (.bool false) _ (Or.inl rfl) rfl (lb_ hsz) (wanted_none rfl) (fa0_30.at_ 8) (fun a0_31 fa0_31 => ?_)
  clear fa0_30
  refine wpList_nil ?_
  change Code.wp _ _ _ _ _
  refine wp_cond_false (show a0_31.eval (.tmp 34) = .bool false from (fa0_31.at_ 34)) (wp_skip ?_)
  change Code.wp _ _ _ _ _
  refine wp_seq ?_
  have d6d := d6.same dd6
  refine wp_region_held_drew (ops := rOO8) (S := fun Z => Z.heap[w.heap.size]? = some (.cells #[.int .u8 (x.act : Int), .int .u32 (x.pg : Int), .int .i64 (x.pages : Int), .string x.data] 77 (0, 0))) (by kernel_rfl) (hBr6) (fun hS31 => ?_)
  refine fa0_31.takeMove 0 39 (.pointer (some ⟨b, 0, none⟩)) _ (Or.inl rfl) rfl (by kernel_rfl) (by kernel_rfl) (by kernel_rfl) (fun _ _ _ h => h) rfl (lb_ hsz) (wanted_none rfl) ((fa0_31.at_ 0).trans (ha 0 _ rfl)) hS31 (fun a0_32 fa0_32 => ?_)
  clear fa0_31
  have r_a0_33 : ∀ Z, (fun Z => Z.heap[w.heap.size]? = some (.cells #[.int .u8 (x.act : Int), .int .u32 (x.pg : Int), .int .i64 (x.pages : Int), .string x.data] 77 (0, 0))) Z → (execOp a0_32.eval { dst := some 40, op := Op.nilCheck (Operand.tmp 39), type := 0, pos := "acts.go:56", after := #[{ on := 0, ground := Ground.data }], guard := none }).run Try.prog Z = .ok (.value (.pointer (some ⟨b, 0, none⟩))) Z := fun Z hZ => by
    have e39 := (show a0_32.eval (.tmp 39) = .pointer (some ⟨b, 0, none⟩) from (fa0_32.at_ 39))
    clear fa0_32 ha hk
    generalize a0_32.eval = ρ at *
    go_simp
  refine fa0_32.take 1 40 (.pointer (some ⟨b, 0, none⟩)) rfl (by kernel_rfl) (by kernel_rfl) (by kernel_rfl) (fun _ _ _ h => h) rfl (lb_ hsz) (wanted_none rfl) r_a0_33 hS31 (fun a0_33 fa0_33 => ?_)
  clear r_a0_33
  clear fa0_32
  have r_a0_34 : ∀ Z, (fun Z => Z.heap[w.heap.size]? = some (.cells #[.int .u8 (x.act : Int), .int .u32 (x.pg : Int), .int .i64 (x.pages : Int), .string x.data] 77 (0, 0))) Z → (execOp a0_33.eval { dst := some 41, op := Op.fieldAddr 51 (Operand.tmp 40) 0, type := 0, pos := "acts.go:56", after := #[{ on := 1, ground := Ground.data }], guard := none }).run Try.prog Z = .ok (.value (.pointer (some ⟨b, 0, none⟩))) Z := fun Z hZ => by
    have e40 := (show a0_33.eval (.tmp 40) = .pointer (some ⟨b, 0, none⟩) from (fa0_33.at_ 40))
    clear fa0_33 ha hk
    generalize a0_33.eval = ρ at *
    go_simp
  refine fa0_33.take 2 41 (.pointer (some ⟨b, 0, none⟩)) rfl (by kernel_rfl) (by kernel_rfl) (by kernel_rfl) (fun _ _ _ h => h) rfl (lb_ hsz) (wanted_none rfl) r_a0_34 hS31 (fun a0_34 fa0_34 => ?_)
  clear r_a0_34
  clear fa0_33
  have r_a0_35 : ∀ Z, (fun Z => Z.heap[w.heap.size]? = some (.cells #[.int .u8 (x.act : Int), .int .u32 (x.pg : Int), .int .i64 (x.pages : Int), .string x.data] 77 (0, 0))) Z → (execOp a0_34.eval { dst := some 42, op := Op.load 77 (Operand.tmp 4), type := 77, pos := "acts.go:56", after := #[], guard := none }).run Try.prog Z = .ok (.value (.agg #[.int .u8 (x.act : Int), .int .u32 (x.pg : Int), .int .i64 (x.pages : Int), .string x.data])) Z := fun Z hZ => by
    have zb := hZ
    have z1 : Z.cell? ⟨w.heap.size, 0, none⟩ = some (.int .u8 (x.act : Int)) := (cell_of_row _ _ _ _ _ _ zb).trans rfl
    have z2 : Z.cell? ⟨w.heap.size, 1, none⟩ = some (.int .u32 (x.pg : Int)) := (cell_of_row _ _ _ _ _ _ zb).trans rfl
    have z3 : Z.cell? ⟨w.heap.size, 2, none⟩ = some (.int .i64 (x.pages : Int)) := (cell_of_row _ _ _ _ _ _ zb).trans rfl
    have z4 : Z.cell? ⟨w.heap.size, 3, none⟩ = some (.string x.data) := (cell_of_row _ _ _ _ _ _ zb).trans rfl
    have e4 := (show a0_34.eval (.tmp 4) = .pointer (some ⟨w.heap.size, 0, none⟩) from (fa0_34.at_ 4))
    clear fa0_34 ha hk
    generalize a0_34.eval = ρ at *
    go_simp
  refine fa0_34.take 3 42 (.agg #[.int .u8 (x.act : Int), .int .u32 (x.pg : Int), .int .i64 (x.pages : Int), .string x.data]) rfl (by kernel_rfl) (by kernel_rfl) (by kernel_rfl) (fun _ _ _ h => h) rfl (lb_ hsz) (wanted_none rfl) r_a0_35 hS31 (fun a0_35 fa0_35 => ?_)
  clear r_a0_35
  clear fa0_34
  have r_a0_36 : (execOp a0_35.eval { dst := some 43, op := Op.call { callee := Callee.value (Operand.func 45), args := #[Operand.tmp 41, Operand.tmp 42, Operand.const (Value.int IntKind.u8 255)], argTypes := #[46, 77, 66] }, type := 0, pos := "acts.go:56", after := #[{ on := 2, ground := Ground.data }, { on := 3, ground := Ground.data }], guard := none }).run Try.prog (V6.drew) = .ok (.enter 45 #[.pointer (some ⟨b, 0, none⟩), .agg #[.int .u8 (x.act : Int), .int .u32 (x.pg : Int), .int .i64 (x.pages : Int), .string x.data], Value.int IntKind.u8 255]) (V6.drew) := by
    have kc : ∀ v, a0_35.eval (.const v) = v := fun _ => rfl
    have kf : ∀ f, a0_35.eval (.func f) = .func (.func f) #[] #[] := fun _ => rfl
    have e41 := (show a0_35.eval (.tmp 41) = .pointer (some ⟨b, 0, none⟩) from (fa0_35.at_ 41))
    have e42 := (show a0_35.eval (.tmp 42) = .agg #[.int .u8 (x.act : Int), .int .u32 (x.pg : Int), .int .i64 (x.pages : Int), .string x.data] from (fa0_35.at_ 42))
    clear fa0_35 ha hk
    generalize a0_35.eval = ρ at *
    go_simp
  refine fa0_35.oneCall 4 43 (by kernel_rfl) rfl rfl (lb_ hsz) (wanted_none rfl) r_a0_36 (come_calls (o := 0) V6.drew (by decide) d6d.row rfl rfl d6d.rP hx hk.hp1 hk.h8 hk.hp0 hk.P) (fun e V7 hR => ?_)
  obtain ⟨rfl, so⟩ := hR
  clear r_a0_36
  obtain ⟨pa7, pc7, d7, f7⟩ := d6d.comeP so
  have hS36 : (fun Z => Z.heap[w.heap.size]? = some (.cells #[.int .u8 (x.act : Int), .int .u32 (x.pg : Int), .int .i64 (x.pages : Int), .string x.data] 77 (0, 0))) V7 := heap_fr hBr6 (Fr.trans (S := Land S V4 V6) (dd6.mono (fun _ _ f => f.elim)) f7 (fun k _ e => e)) (fun e => by rcases e with e | e; exact absurd (h.lt _ e) (by omega); have := lt_of_heap hBr; have := ea.size; omega)
  refine ⟨_, rfl, hS36, fun a0_36 fa0_36 => ?_⟩
  clear fa0_35
  refine wpAnyH_done (by kernel_rfl) ?_ _
  change Code.wp _ _ _ _ _
  refine wp_seq ?_
  refine wp_region_list ?_
  unfold rOO9
  refine fa0_36.move 6 (.int .i64 0) _ (Or.inr rfl) rfl (lb_ hsz) (wanted_none rfl) rfl (fun a0_37 fa0_37 => ?_)
  clear fa0_36
  refine wpList_nil ?_
  change Code.wp _ _ _ _ _
  refine wp_ret ?_
  have fV4 : Fr S w V4 := (s13.trans ea).mono (fun _ _ f => f.elim)
  have f67 : Fr (Land S V4 V6) V4 V7 := Fr.trans (Fr.trans (f6.mono (fun k _ e => Or.inl e)) dd6 (fun _ _ f => f.elim)) f7 (fun k _ e => e)
  have fw : Fr S w V7 := Fr.trans fV4 f67 (fun k hk e => by rcases e with e | e; exact e; have := fV4.size; omega)
  refine ret_abs rfl (fa0_37.defers.trans hd) (show a0_37.eval (.tmp 6) = .int .i64 0 from (fa0_37.at_ 6)) ⟨rfl, (d7.land (T := Land S w V7) (fun k hk => ?_) (fun k hk => land_lt h.lt fw.size hk)).dk, fw⟩
  have e1 : V4.heap.size ≤ V6.heap.size := f6.size
  have e2 : V6.heap.size ≤ V7.heap.size := f7.size
  have e3 : w.heap.size ≤ V4.heap.size := fV4.size
  rcases hk with (e | e) | e
  · exact Or.inl e
  · exact Or.inr ⟨by omega, by omega⟩
  · have e4 : V6.drew.heap.size = V6.heap.size := rfl
    exact Or.inr ⟨by omega, e.2⟩
end Go.Proofs.Ytljlkcmjbjnihaa
