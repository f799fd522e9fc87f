/- The document's Reader: fail, Left, bound, Free, Count. -/
import Derived.Test.YtpcdpdagcigigaaHN2
import Derived.Test.YtpcdpdagcigigaaYA
namespace Go.Proofs.Ytpcdpdagcigigaa
open Go.RowKit

/-- The document's Reader: its bytes, its place, its fault. -/
def RRAt (w : World) (b : Nat) (s : ByteArray) (p c : Nat) : Prop := w.heap[b]? = some (.cells #[.string s, .int .i64 (p : Int), .int .i64 (c : Int)] 37 (0, 0))
theorem hp_fr {S : Nat → Prop} {w w' : World} {b : Nat} {o : Obj} (h : w.heap[b]? = some o) (f : Fr S w w') (hn : ¬ S b) : w'.heap[b]? = some o := (f.block b (lt_of_heap h) hn).trans h
theorem RRAt.fr {w w' : World} {b p c : Nat} {s : ByteArray} {S : Nat → Prop} (h : RRAt w b s p c) (f : Fr S w w') (hn : ¬ S b) : RRAt w' b s p c := hp_fr h f hn
theorem RRAt.c0 {w : World} {b p c : Nat} {s : ByteArray} (h : RRAt w b s p c) : w.cell? ⟨b, 0, none⟩ = some (.string s) := (cell_of_row _ _ _ _ _ _ h).trans rfl
theorem RRAt.c1 {w : World} {b p c : Nat} {s : ByteArray} (h : RRAt w b s p c) : w.cell? ⟨b, 1, none⟩ = some (.int .i64 (p : Int)) := (cell_of_row _ _ _ _ _ _ h).trans rfl
theorem RRAt.c2 {w : World} {b p c : Nat} {s : ByteArray} (h : RRAt w b s p c) : w.cell? ⟨b, 2, none⟩ = some (.int .i64 (c : Int)) := (cell_of_row _ _ _ _ _ _ h).trans rfl
theorem RRAt.z {w : World} {b p c : Nat} {s : ByteArray} (h : RRAt w b s p c) (i : Nat) : w.frozen? ⟨b, i, none⟩ = false := by
  unfold World.frozen?
  rw [h]
  simp
theorem RRAt.set1 {w : World} {b p c : Nat} {s : ByteArray} (h : RRAt w b s p c) (q : Nat) : RRAt (w.setCell ⟨b, 1, none⟩ (.int .i64 (q : Int))) b s q c ∧ Fr (fun k => k = b) w (w.setCell ⟨b, 1, none⟩ (.int .i64 (q : Int))) :=
  ⟨(heap_setCell_same w b 1 _ _ (.int .i64 (q : Int)) h).trans (by rfl), Fr.setCell (S := fun k => k = b) (Fr.refl _ w) (p := ⟨b, 1, none⟩) (fun _ => rfl) _⟩
theorem RRAt.set2 {w : World} {b p c : Nat} {s : ByteArray} (h : RRAt w b s p c) (q : Nat) : RRAt (w.setCell ⟨b, 2, none⟩ (.int .i64 (q : Int))) b s p q ∧ Fr (fun k => k = b) w (w.setCell ⟨b, 2, none⟩ (.int .i64 (q : Int))) :=
  ⟨(heap_setCell_same w b 2 _ _ (.int .i64 (q : Int)) h).trans (by rfl), Fr.setCell (S := fun k => k = b) (Fr.refl _ w) (p := ⟨b, 2, none⟩) (fun _ => rfl) _⟩
def rHA0 : Array Oper := #[{ dst := some 6, op := Op.move (Operand.tmp 0), type := 34, pos := "ref.go:81", after := #[], guard := none },
  { dst := some 7, op := Op.move (Operand.tmp 1), type := 35, pos := "ref.go:81", after := #[], guard := none },
  { dst := some 8, op := Op.nilCheck (Operand.tmp 6), type := 0, pos := "ref.go:81", after := #[{ on := 0, ground := Ground.data }, { on := 0, ground := Ground.phase }, { on := 1, ground := Ground.phase }], guard := none },
  { dst := some 9, op := Op.fieldAddr 37 (Operand.tmp 8) 2, type := 0, pos := "ref.go:81", after := #[{ on := 2, ground := Ground.data }, { on := 0, ground := Ground.phase }, { on := 1, ground := Ground.phase }], guard := none },
  { dst := none, op := Op.store 35 (Operand.tmp 9) (Operand.tmp 7), type := 0, pos := "ref.go:81", after := #[{ on := 3, ground := Ground.data }, { on := 1, ground := Ground.data }, { on := 0, ground := Ground.phase }, { on := 1, ground := Ground.phase }], guard := none }]
def rHA1 : Array Oper := #[{ dst := some 10, op := Op.move (Operand.tmp 0), type := 34, pos := "ref.go:82", after := #[], guard := none },
  { dst := some 11, op := Op.move (Operand.tmp 2), type := 3, pos := "ref.go:82", after := #[], guard := none },
  { dst := some 12, op := Op.nilCheck (Operand.tmp 10), type := 0, pos := "ref.go:82", after := #[{ on := 0, ground := Ground.data }, { on := 0, ground := Ground.phase }, { on := 1, ground := Ground.phase }], guard := none },
  { dst := some 13, op := Op.fieldAddr 37 (Operand.tmp 12) 1, type := 0, pos := "ref.go:82", after := #[{ on := 2, ground := Ground.data }, { on := 0, ground := Ground.phase }, { on := 1, ground := Ground.phase }], guard := none },
  { dst := none, op := Op.store 3 (Operand.tmp 13) (Operand.tmp 11), type := 0, pos := "ref.go:82", after := #[{ on := 3, ground := Ground.data }, { on := 1, ground := Ground.data }, { on := 0, ground := Ground.phase }, { on := 1, ground := Ground.phase }], guard := none }]
def cHA : Code := (Code.seq (Code.region 0 rHA0 false) (Code.region 1 rHA1 false))
set_option maxRecDepth 100000 in
set_option maxHeartbeats 1000000 in
theorem rrfail_calls {b p c d q : Nat} {s : ByteArray} (w : World) (h : RRAt w b s p c) :
    Calls Try.prog 65 #[.pointer (some ⟨b, 0, none⟩), .int .i64 (d : Int), .int .i64 (q : Int)] w fun e w' => e = .returned (.tuple #[]) ∧ RRAt w' b s q d ∧ Fr (fun k => k = b) w w' := by
  refine calls_abs (c := cHA) Try.func65 (by kernel_rfl) 14 rfl (by simp) (fun a0 hsz hd ha => ?_)
  have fa0_0 := Fe.refl a0
  have k2 := h.c2
  have z2 := h.z 2
  unfold cHA
  refine wp_seq ?_
  refine wp_region_list ?_
  unfold rHA0
  refine fa0_0.move 6 (.pointer (some ⟨b, 0, none⟩)) _ (Or.inl rfl) rfl (lb_ hsz) (wanted_none rfl) ((fa0_0.at_ 0).trans (ha 0 _ rfl)) (fun a0_1 fa0_1 => ?_)
  clear fa0_0
  refine fa0_1.move 7 (.int .i64 (d : Int)) _ (Or.inl rfl) rfl (lb_ hsz) (wanted_none rfl) ((fa0_1.at_ 1).trans (ha 1 _ rfl)) (fun a0_2 fa0_2 => ?_)
  clear fa0_1
  have r_a0_3 : (execOp a0_2.eval { dst := some 8, op := Op.nilCheck (Operand.tmp 6), type := 0, pos := "ref.go:81", after := #[{ on := 0, ground := Ground.data }, { on := 0, ground := Ground.phase }, { on := 1, ground := Ground.phase }], guard := none }).run Try.prog (w) = .ok (.value (.pointer (some ⟨b, 0, none⟩))) (w) := by
    have e6 := (show a0_2.eval (.tmp 6) = .pointer (some ⟨b, 0, none⟩) from (fa0_2.at_ 6))
    clear fa0_2 ha h
    generalize a0_2.eval = ρ at *
    go_simp
  refine fa0_2.step 8 (.pointer (some ⟨b, 0, none⟩)) rfl (lb_ hsz) (wanted_none rfl) r_a0_3 (fun a0_3 fa0_3 => ?_)
  clear r_a0_3
  clear fa0_2
  have r_a0_4 : (execOp a0_3.eval { dst := some 9, op := Op.fieldAddr 37 (Operand.tmp 8) 2, type := 0, pos := "ref.go:81", after := #[{ on := 2, ground := Ground.data }, { on := 0, ground := Ground.phase }, { on := 1, ground := Ground.phase }], guard := none }).run Try.prog (w) = .ok (.value (.pointer (some ⟨b, 2, none⟩))) (w) := by
    have e8 := (show a0_3.eval (.tmp 8) = .pointer (some ⟨b, 0, none⟩) from (fa0_3.at_ 8))
    clear fa0_3 ha h
    generalize a0_3.eval = ρ at *
    go_simp
  refine fa0_3.step 9 (.pointer (some ⟨b, 2, none⟩)) rfl (lb_ hsz) (wanted_none rfl) r_a0_4 (fun a0_4 fa0_4 => ?_)
  clear r_a0_4
  clear fa0_3
  have r_a0_5 : (execOp a0_4.eval { dst := none, op := Op.store 35 (Operand.tmp 9) (Operand.tmp 7), type := 0, pos := "ref.go:81", after := #[{ on := 3, ground := Ground.data }, { on := 1, ground := Ground.data }, { on := 0, ground := Ground.phase }, { on := 1, ground := Ground.phase }], guard := none }).run Try.prog (w) = .ok .skip (World.setCell w ⟨b, 2, none⟩ (.int .i64 (d : Int))) := by
    have e9 := (show a0_4.eval (.tmp 9) = .pointer (some ⟨b, 2, none⟩) from (fa0_4.at_ 9))
    have e7 := (show a0_4.eval (.tmp 7) = .int .i64 (d : Int) from (fa0_4.at_ 7))
    clear fa0_4 ha h
    generalize a0_4.eval = ρ at *
    go_simp
  refine fa0_4.store rfl (wanted_none rfl) r_a0_5 (fun a0_5 fa0_5 => ?_)
  clear r_a0_5
  obtain ⟨h1, f1⟩ := h.set2 d
  generalize World.setCell w ⟨b, 2, none⟩ (.int .i64 (d : Int)) = V at *
  have k1 := h1.c1
  have z1 := h1.z 1
  clear fa0_4
  refine wpList_nil ?_
  change Code.wp _ _ _ _ _
  refine wp_region_list ?_
  unfold rHA1
  refine fa0_5.move 10 (.pointer (some ⟨b, 0, none⟩)) _ (Or.inl rfl) rfl (lb_ hsz) (wanted_none rfl) ((fa0_5.at_ 0).trans (ha 0 _ rfl)) (fun a0_6 fa0_6 => ?_)
  clear fa0_5
  refine fa0_6.move 11 (.int .i64 (q : Int)) _ (Or.inl rfl) rfl (lb_ hsz) (wanted_none rfl) ((fa0_6.at_ 2).trans (ha 2 _ rfl)) (fun a0_7 fa0_7 => ?_)
  clear fa0_6
  have r_a0_8 : (execOp a0_7.eval { dst := some 12, op := Op.nilCheck (Operand.tmp 10), type := 0, pos := "ref.go:82", after := #[{ on := 0, ground := Ground.data }, { on := 0, ground := Ground.phase }, { on := 1, ground := Ground.phase }], guard := none }).run Try.prog (V) = .ok (.value (.pointer (some ⟨b, 0, none⟩))) (V) := by
    have e10 := (show a0_7.eval (.tmp 10) = .pointer (some ⟨b, 0, none⟩) from (fa0_7.at_ 10))
    clear fa0_7 ha h h1 f1
    generalize a0_7.eval = ρ at *
    go_simp
  refine fa0_7.step 12 (.pointer (some ⟨b, 0, none⟩)) rfl (lb_ hsz) (wanted_none rfl) r_a0_8 (fun a0_8 fa0_8 => ?_)
  clear r_a0_8
  clear fa0_7
  have r_a0_9 : (execOp a0_8.eval { dst := some 13, op := Op.fieldAddr 37 (Operand.tmp 12) 1, type := 0, pos := "ref.go:82", after := #[{ on := 2, ground := Ground.data }, { on := 0, ground := Ground.phase }, { on := 1, ground := Ground.phase }], guard := none }).run Try.prog (V) = .ok (.value (.pointer (some ⟨b, 1, none⟩))) (V) := by
    have e12 := (show a0_8.eval (.tmp 12) = .pointer (some ⟨b, 0, none⟩) from (fa0_8.at_ 12))
    clear fa0_8 ha h h1 f1
    generalize a0_8.eval = ρ at *
    go_simp
  refine fa0_8.step 13 (.pointer (some ⟨b, 1, none⟩)) rfl (lb_ hsz) (wanted_none rfl) r_a0_9 (fun a0_9 fa0_9 => ?_)
  clear r_a0_9
  clear fa0_8
  have r_a0_10 : (execOp a0_9.eval { dst := none, op := Op.store 3 (Operand.tmp 13) (Operand.tmp 11), type := 0, pos := "ref.go:82", after := #[{ on := 3, ground := Ground.data }, { on := 1, ground := Ground.data }, { on := 0, ground := Ground.phase }, { on := 1, ground := Ground.phase }], guard := none }).run Try.prog (V) = .ok .skip (World.setCell V ⟨b, 1, none⟩ (.int .i64 (q : Int))) := by
    have e13 := (show a0_9.eval (.tmp 13) = .pointer (some ⟨b, 1, none⟩) from (fa0_9.at_ 13))
    have e11 := (show a0_9.eval (.tmp 11) = .int .i64 (q : Int) from (fa0_9.at_ 11))
    clear fa0_9 ha h h1 f1
    generalize a0_9.eval = ρ at *
    go_simp
  refine fa0_9.store rfl (wanted_none rfl) r_a0_10 (fun a0_10 fa0_10 => ?_)
  clear r_a0_10
  obtain ⟨h2, f2⟩ := h1.set1 q
  generalize World.setCell V ⟨b, 1, none⟩ (.int .i64 (q : Int)) = V2 at *
  clear fa0_9
  refine wpList_nil ?_
  refine bodyPost_end (results_none rfl _ _ _) (fa0_10.defers.trans hd) ?_
  exact ⟨rfl, h2, Fr.trans f1 f2 (fun _ _ e => e)⟩
def rHB0 : Array Oper := #[{ dst := some 2, op := Op.assign (Operand.const (Value.int IntKind.i64 0)), type := 3, pos := "ref.go:86", after := #[], guard := none }]
def rHB1 : Array Oper := #[{ dst := some 3, op := Op.move (Operand.tmp 0), type := 34, pos := "ref.go:86", after := #[], guard := none },
  { dst := some 4, op := Op.nilCheck (Operand.tmp 3), type := 0, pos := "ref.go:86", after := #[{ on := 0, ground := Ground.data }], guard := none },
  { dst := some 5, op := Op.fieldAddr 37 (Operand.tmp 4) 0, type := 0, pos := "ref.go:86", after := #[{ on := 1, ground := Ground.data }], guard := none },
  { dst := some 6, op := Op.load 9 (Operand.tmp 5), type := 9, pos := "ref.go:86", after := #[{ on := 2, ground := Ground.data }], guard := none },
  { dst := some 7, op := Op.call { callee := Callee.builtin Builtin.len, args := #[Operand.tmp 6], argTypes := #[9] }, type := 3, pos := "ref.go:86", after := #[{ on := 3, ground := Ground.data }], guard := none },
  { dst := some 8, op := Op.move (Operand.tmp 0), type := 34, pos := "ref.go:86", after := #[], guard := none },
  { dst := some 9, op := Op.nilCheck (Operand.tmp 8), type := 0, pos := "ref.go:86", after := #[{ on := 5, ground := Ground.data }], guard := none },
  { dst := some 10, op := Op.fieldAddr 37 (Operand.tmp 9) 1, type := 0, pos := "ref.go:86", after := #[{ on := 6, ground := Ground.data }], guard := none },
  { dst := some 11, op := Op.load 3 (Operand.tmp 10), type := 3, pos := "ref.go:86", after := #[{ on := 7, ground := Ground.data }], guard := none },
  { dst := some 12, op := Op.binOp BinOp.sub 3 (Operand.tmp 7) (Operand.tmp 11) 3, type := 3, pos := "ref.go:86", after := #[{ on := 4, ground := Ground.data }, { on := 8, ground := Ground.data }], guard := none },
  { dst := some 2, op := Op.assign (Operand.tmp 12), type := 3, pos := "ref.go:86", after := #[{ on := 9, ground := Ground.data }, { on := 0, ground := Ground.phase }, { on := 1, ground := Ground.phase }, { on := 2, ground := Ground.phase }, { on := 3, ground := Ground.phase }, { on := 4, ground := Ground.phase }, { on := 5, ground := Ground.phase }, { on := 6, ground := Ground.phase }, { on := 7, ground := Ground.phase }, { on := 8, ground := Ground.phase }, { on := 9, ground := Ground.phase }], guard := none }]
def cHB : Code := (Code.seq (Code.region 0 rHB0 false) (Code.seq (Code.region 1 rHB1 true) Code.ret))
set_option maxRecDepth 100000 in
set_option maxHeartbeats 1000000 in
theorem rrleft_calls {b p c : Nat} {s : ByteArray} (w : World) (h : RRAt w b s p c) (hp : p ≤ s.size) (hs : s.size ≤ 1000000000000) :
    Calls Try.prog 21 #[.pointer (some ⟨b, 0, none⟩)] w fun e w' => e = .returned (.int .i64 ((s.size - p : Nat) : Int)) ∧ Same w w' := by
  refine calls_abs (c := cHB) Try.func21 (by kernel_rfl) 13 rfl (by simp) (fun a0 hsz hd ha => ?_)
  have fa0_0 := Fe.refl a0
  have k0 := h.c0
  have k1 := h.c1
  have dd : Same w w.drew := (Fr.refl (fun _ => False) w).drew
  obtain ⟨m, hm⟩ : ∃ m, m = s.size - p := ⟨_, rfl⟩
  have wm : IntKind.i64.wrap ((s.size : Int) - (p : Int)) = (m : Int) := by rw [IntKind.wrap_i64]; omega
  unfold cHB
  refine wp_seq ?_
  refine wp_region_list ?_
  unfold rHB0
  refine fa0_0.move 2 (.int .i64 0) _ (Or.inr rfl) rfl (lb_ hsz) (wanted_none rfl) rfl (fun a0_1 fa0_1 => ?_)
  clear fa0_0
  refine wpList_nil ?_
  change Code.wp _ _ _ _ _
  refine wp_seq ?_
  refine wp_region_held_drew (ops := rHB1) (S := fun Z => Same w Z) (by kernel_rfl) (dd) (fun hS1 => ?_)
  refine fa0_1.takeMove 0 3 (.pointer (some ⟨b, 0, none⟩)) _ (Or.inl rfl) rfl (by kernel_rfl) (by kernel_rfl) (by kernel_rfl) (fun _ _ _ h => h) rfl (lb_ hsz) (wanted_none rfl) ((fa0_1.at_ 0).trans (ha 0 _ rfl)) hS1 (fun a0_2 fa0_2 => ?_)
  clear fa0_1
  have r_a0_3 : ∀ Z, (fun Z => Same w Z) Z → (execOp a0_2.eval { dst := some 4, op := Op.nilCheck (Operand.tmp 3), type := 0, pos := "ref.go:86", after := #[{ on := 0, ground := Ground.data }], guard := none }).run Try.prog Z = .ok (.value (.pointer (some ⟨b, 0, none⟩))) Z := fun Z hZ => by
    have e3 := (show a0_2.eval (.tmp 3) = .pointer (some ⟨b, 0, none⟩) from (fa0_2.at_ 3))
    clear fa0_2 ha h hm
    generalize a0_2.eval = ρ at *
    go_simp
  refine fa0_2.take 1 4 (.pointer (some ⟨b, 0, none⟩)) rfl (by kernel_rfl) (by kernel_rfl) (by kernel_rfl) (fun _ _ _ h => h) rfl (lb_ hsz) (wanted_none rfl) r_a0_3 hS1 (fun a0_3 fa0_3 => ?_)
  clear r_a0_3
  clear fa0_2
  have r_a0_4 : ∀ Z, (fun Z => Same w Z) Z → (execOp a0_3.eval { dst := some 5, op := Op.fieldAddr 37 (Operand.tmp 4) 0, type := 0, pos := "ref.go:86", after := #[{ on := 1, ground := Ground.data }], guard := none }).run Try.prog Z = .ok (.value (.pointer (some ⟨b, 0, none⟩))) Z := fun Z hZ => by
    have e4 := (show a0_3.eval (.tmp 4) = .pointer (some ⟨b, 0, none⟩) from (fa0_3.at_ 4))
    clear fa0_3 ha h hm
    generalize a0_3.eval = ρ at *
    go_simp
  refine fa0_3.take 2 5 (.pointer (some ⟨b, 0, none⟩)) rfl (by kernel_rfl) (by kernel_rfl) (by kernel_rfl) (fun _ _ _ h => h) rfl (lb_ hsz) (wanted_none rfl) r_a0_4 hS1 (fun a0_4 fa0_4 => ?_)
  clear r_a0_4
  clear fa0_3
  have r_a0_5 : ∀ Z, (fun Z => Same w Z) Z → (execOp a0_4.eval { dst := some 6, op := Op.load 9 (Operand.tmp 5), type := 9, pos := "ref.go:86", after := #[{ on := 2, ground := Ground.data }], guard := none }).run Try.prog Z = .ok (.value (.string s)) Z := fun Z hZ => by
    have q0 := hZ.keep k0
    have q1 := hZ.keep k1
    clear hZ
    have e5 := (show a0_4.eval (.tmp 5) = .pointer (some ⟨b, 0, none⟩) from (fa0_4.at_ 5))
    clear fa0_4 ha h hm
    generalize a0_4.eval = ρ at *
    go_simp
  refine fa0_4.take 3 6 (.string s) rfl (by kernel_rfl) (by kernel_rfl) (by kernel_rfl) (fun _ _ _ h => h) rfl (lb_ hsz) (wanted_none rfl) r_a0_5 hS1 (fun a0_5 fa0_5 => ?_)
  clear r_a0_5
  clear fa0_4
  have r_a0_6 : ∀ Z, (fun Z => Same w Z) Z → (execOp a0_5.eval { dst := some 7, op := Op.call { callee := Callee.builtin Builtin.len, args := #[Operand.tmp 6], argTypes := #[9] }, type := 3, pos := "ref.go:86", after := #[{ on := 3, ground := Ground.data }], guard := none }).run Try.prog Z = .ok (.value (.int .i64 (s.size : Int))) Z := fun Z hZ => by
    have e6 := (show a0_5.eval (.tmp 6) = .string s from (fa0_5.at_ 6))
    clear fa0_5 ha h hm
    generalize a0_5.eval = ρ at *
    go_simp
  refine fa0_5.take 4 7 (.int .i64 (s.size : Int)) rfl (by kernel_rfl) (by kernel_rfl) (by kernel_rfl) (fun _ _ _ h => h) rfl (lb_ hsz) (wanted_none rfl) r_a0_6 hS1 (fun a0_6 fa0_6 => ?_)
  clear r_a0_6
  clear fa0_5
  refine fa0_6.takeMove 5 8 (.pointer (some ⟨b, 0, none⟩)) _ (Or.inl rfl) rfl (by kernel_rfl) (by kernel_rfl) (by kernel_rfl) (fun _ _ _ h => h) rfl (lb_ hsz) (wanted_none rfl) ((fa0_6.at_ 0).trans (ha 0 _ rfl)) hS1 (fun a0_7 fa0_7 => ?_)
  clear fa0_6
  have r_a0_8 : ∀ Z, (fun Z => Same w Z) Z → (execOp a0_7.eval { dst := some 9, op := Op.nilCheck (Operand.tmp 8), type := 0, pos := "ref.go:86", after := #[{ on := 5, ground := Ground.data }], guard := none }).run Try.prog Z = .ok (.value (.pointer (some ⟨b, 0, none⟩))) Z := fun Z hZ => by
    have e8 := (show a0_7.eval (.tmp 8) = .pointer (some ⟨b, 0, none⟩) from (fa0_7.at_ 8))
    clear fa0_7 ha h hm
    generalize a0_7.eval = ρ at *
    go_simp
  refine fa0_7.take 6 9 (.pointer (some ⟨b, 0, none⟩)) rfl (by kernel_rfl) (by kernel_rfl) (by kernel_rfl) (fun _ _ _ h => h) rfl (lb_ hsz) (wanted_none rfl) r_a0_8 hS1 (fun a0_8 fa0_8 => ?_)
  clear r_a0_8
  clear fa0_7
  have r_a0_9 : ∀ Z, (fun Z => Same w Z) Z → (execOp a0_8.eval { dst := some 10, op := Op.fieldAddr 37 (Operand.tmp 9) 1, type := 0, pos := "ref.go:86", after := #[{ on := 6, ground := Ground.data }], guard := none }).run Try.prog Z = .ok (.value (.pointer (some ⟨b, 1, none⟩))) Z := fun Z hZ => by
    have e9 := (show a0_8.eval (.tmp 9) = .pointer (some ⟨b, 0, none⟩) from (fa0_8.at_ 9))
    clear fa0_8 ha h hm
    generalize a0_8.eval = ρ at *
    go_simp
  refine fa0_8.take 7 10 (.pointer (some ⟨b, 1, none⟩)) rfl (by kernel_rfl) (by kernel_rfl) (by kernel_rfl) (fun _ _ _ h => h) rfl (lb_ hsz) (wanted_none rfl) r_a0_9 hS1 (fun a0_9 fa0_9 => ?_)
  clear r_a0_9
  clear fa0_8
  have r_a0_10 : ∀ Z, (fun Z => Same w Z) Z → (execOp a0_9.eval { dst := some 11, op := Op.load 3 (Operand.tmp 10), type := 3, pos := "ref.go:86", after := #[{ on := 7, ground := Ground.data }], guard := none }).run Try.prog Z = .ok (.value (.int .i64 (p : Int))) Z := fun Z hZ => by
    have q0 := hZ.keep k0
    have q1 := hZ.keep k1
    clear hZ
    have e10 := (show a0_9.eval (.tmp 10) = .pointer (some ⟨b, 1, none⟩) from (fa0_9.at_ 10))
    clear fa0_9 ha h hm
    generalize a0_9.eval = ρ at *
    go_simp
  refine fa0_9.take 8 11 (.int .i64 (p : Int)) rfl (by kernel_rfl) (by kernel_rfl) (by kernel_rfl) (fun _ _ _ h => h) rfl (lb_ hsz) (wanted_none rfl) r_a0_10 hS1 (fun a0_10 fa0_10 => ?_)
  clear r_a0_10
  clear fa0_9
  have r_a0_11 : ∀ Z, (fun Z => Same w Z) Z → (execOp a0_10.eval { dst := some 12, op := Op.binOp BinOp.sub 3 (Operand.tmp 7) (Operand.tmp 11) 3, type := 3, pos := "ref.go:86", after := #[{ on := 4, ground := Ground.data }, { on := 8, ground := Ground.data }], guard := none }).run Try.prog Z = .ok (.value (.int .i64 (m : Int))) Z := fun Z hZ => by
    have e7 := (show a0_10.eval (.tmp 7) = .int .i64 (s.size : Int) from (fa0_10.at_ 7))
    have e11 := (show a0_10.eval (.tmp 11) = .int .i64 (p : Int) from (fa0_10.at_ 11))
    clear fa0_10 ha h hm
    generalize a0_10.eval = ρ at *
    go_simp
  refine fa0_10.take 9 12 (.int .i64 (m : Int)) rfl (by kernel_rfl) (by kernel_rfl) (by kernel_rfl) (fun _ _ _ h => h) rfl (lb_ hsz) (wanted_none rfl) r_a0_11 hS1 (fun a0_11 fa0_11 => ?_)
  clear r_a0_11
  clear fa0_10
  refine fa0_11.takeMove 10 2 (.int .i64 (m : Int)) _ (Or.inr rfl) rfl (by kernel_rfl) (by kernel_rfl) (by kernel_rfl) (fun _ _ _ h => h) rfl (lb_ hsz) (wanted_none rfl) (fa0_11.at_ 12) hS1 (fun a0_12 fa0_12 => ?_)
  clear fa0_11
  refine wpAnyH_done (by kernel_rfl) ?_ _
  change Code.wp _ _ _ _ _
  refine wp_ret ?_
  exact ret_abs rfl (fa0_12.defers.trans hd) (show a0_12.eval (.tmp 2) = .int .i64 (m : Int) from (fa0_12.at_ 2)) ⟨by rw [hm], dd⟩
set_option maxRecDepth 100000 in
theorem rbound_calls (w : World) (m : Nat) (hm : m ≤ 9223372036854775807) :
    Calls Try.prog 64 #[.int .i64 (m : Int)] w fun e w' => e = .returned (.int .u64 (m : Int)) ∧ w' = w := by
  have h0 : ¬ (m : Int) < 0 := by omega
  have h1 : IntKind.u64.wrap (m : Int) = (m : Int) := by rw [IntKind.wrap_u64]; omega
  go_enter Try.func64, Try.ntmps64
  go_wp2_with fail
  go_ret
  exact ⟨rfl, rfl⟩
def rHC0 : Array Oper := #[{ dst := some 4, op := Op.assign (Operand.const (Value.int IntKind.u64 0)), type := 22, pos := "ref.go:106", after := #[], guard := none }]
def rHC1 : Array Oper := #[{ dst := some 10, op := Op.move (Operand.tmp 0), type := 34, pos := "ref.go:107", after := #[], guard := none },
  { dst := some 11, op := Op.nilCheck (Operand.tmp 10), type := 0, pos := "ref.go:107", after := #[{ on := 0, ground := Ground.data }], guard := none },
  { dst := some 12, op := Op.fieldAddr 37 (Operand.tmp 11) 2, type := 0, pos := "ref.go:107", after := #[{ on := 1, ground := Ground.data }], guard := none },
  { dst := some 13, op := Op.load 35 (Operand.tmp 12), type := 35, pos := "ref.go:107", after := #[{ on := 2, ground := Ground.data }], guard := none },
  { dst := some 14, op := Op.binOp BinOp.neq 35 (Operand.tmp 13) (Operand.const (Value.int IntKind.i64 0)) 35, type := 4, pos := "ref.go:107", after := #[{ on := 3, ground := Ground.data }], guard := none }]
def rHC2 : Array Oper := #[{ dst := some 4, op := Op.assign (Operand.const (Value.int IntKind.u64 0)), type := 22, pos := "ref.go:108", after := #[], guard := none }]
def rHC3 : Array Oper := #[{ dst := some 15, op := Op.move (Operand.tmp 0), type := 34, pos := "ref.go:110", after := #[], guard := none },
  { dst := some 16, op := Op.nilCheck (Operand.tmp 15), type := 0, pos := "ref.go:110", after := #[{ on := 0, ground := Ground.data }], guard := none },
  { dst := some 17, op := Op.fieldAddr 37 (Operand.tmp 16) 1, type := 0, pos := "ref.go:110", after := #[{ on := 1, ground := Ground.data }], guard := none },
  { dst := some 18, op := Op.load 3 (Operand.tmp 17), type := 3, pos := "ref.go:110", after := #[{ on := 2, ground := Ground.data }], guard := none },
  { dst := some 5, op := Op.assign (Operand.tmp 18), type := 3, pos := "ref.go:110", after := #[{ on := 3, ground := Ground.data }, { on := 0, ground := Ground.phase }, { on := 1, ground := Ground.phase }, { on := 2, ground := Ground.phase }, { on := 3, ground := Ground.phase }], guard := none }]
def rHC4 : Array Oper := #[{ dst := some 6, op := Op.assign (Operand.const (Value.int IntKind.u64 0)), type := 22, pos := "ref.go:111", after := #[], guard := none }]
def rHC5 : Array Oper := #[{ dst := some 7, op := Op.assign (Operand.const (Value.int IntKind.u64 1)), type := 22, pos := "ref.go:112", after := #[], guard := none }]
def rHC6 : Array Oper := #[{ dst := some 8, op := Op.assign (Operand.const (Value.int IntKind.i64 0)), type := 3, pos := "ref.go:113", after := #[], guard := none }]
def rHC7 : Array Oper := #[{ dst := some 19, op := Op.move (Operand.tmp 8), type := 3, pos := "ref.go:113", after := #[], guard := none },
  { dst := some 20, op := Op.binOp BinOp.add 3 (Operand.tmp 19) (Operand.const (Value.int IntKind.i64 1)) 3, type := 3, pos := "ref.go:113", after := #[{ on := 0, ground := Ground.data }], guard := none },
  { dst := some 8, op := Op.assign (Operand.tmp 20), type := 3, pos := "ref.go:113", after := #[{ on := 1, ground := Ground.data }, { on := 0, ground := Ground.phase }, { on := 1, ground := Ground.phase }], guard := none }]
def rHC8 : Array Oper := #[{ dst := some 21, op := Op.move (Operand.tmp 0), type := 34, pos := "ref.go:114", after := #[], guard := none },
  { dst := some 22, op := Op.nilCheck (Operand.tmp 21), type := 0, pos := "ref.go:114", after := #[{ on := 0, ground := Ground.data }], guard := none },
  { dst := some 23, op := Op.fieldAddr 37 (Operand.tmp 22) 1, type := 0, pos := "ref.go:114", after := #[{ on := 1, ground := Ground.data }], guard := none },
  { dst := some 24, op := Op.load 3 (Operand.tmp 23), type := 3, pos := "ref.go:114", after := #[{ on := 2, ground := Ground.data }], guard := none },
  { dst := some 25, op := Op.move (Operand.tmp 0), type := 34, pos := "ref.go:114", after := #[], guard := none },
  { dst := some 26, op := Op.nilCheck (Operand.tmp 25), type := 0, pos := "ref.go:114", after := #[{ on := 4, ground := Ground.data }], guard := none },
  { dst := some 27, op := Op.fieldAddr 37 (Operand.tmp 26) 0, type := 0, pos := "ref.go:114", after := #[{ on := 5, ground := Ground.data }], guard := none },
  { dst := some 28, op := Op.load 9 (Operand.tmp 27), type := 9, pos := "ref.go:114", after := #[{ on := 6, ground := Ground.data }], guard := none },
  { dst := some 29, op := Op.call { callee := Callee.builtin Builtin.len, args := #[Operand.tmp 28], argTypes := #[9] }, type := 3, pos := "ref.go:114", after := #[{ on := 7, ground := Ground.data }], guard := none },
  { dst := some 30, op := Op.binOp BinOp.eql 3 (Operand.tmp 24) (Operand.tmp 29) 3, type := 4, pos := "ref.go:114", after := #[{ on := 3, ground := Ground.data }, { on := 8, ground := Ground.data }], guard := none }]
def rHC9 : Array Oper := #[{ dst := some 31, op := Op.move (Operand.tmp 0), type := 34, pos := "ref.go:115", after := #[], guard := none },
  { dst := some 32, op := Op.move (Operand.tmp 5), type := 3, pos := "ref.go:115", after := #[], guard := none },
  { dst := some 33, op := Op.call { callee := Callee.value (Operand.func 65), args := #[Operand.tmp 31, Operand.const (Value.int IntKind.i64 10), Operand.tmp 32], argTypes := #[34, 35, 3] }, type := 0, pos := "ref.go:115", after := #[{ on := 0, ground := Ground.data }, { on := 1, ground := Ground.data }], guard := none }]
def rHC10 : Array Oper := #[{ dst := some 4, op := Op.assign (Operand.const (Value.int IntKind.u64 0)), type := 22, pos := "ref.go:116", after := #[], guard := none }]
def rHC11 : Array Oper := #[{ dst := some 34, op := Op.move (Operand.tmp 0), type := 34, pos := "ref.go:118", after := #[], guard := none },
  { dst := some 35, op := Op.nilCheck (Operand.tmp 34), type := 0, pos := "ref.go:118", after := #[{ on := 0, ground := Ground.data }], guard := none },
  { dst := some 36, op := Op.fieldAddr 37 (Operand.tmp 35) 0, type := 0, pos := "ref.go:118", after := #[{ on := 1, ground := Ground.data }], guard := none },
  { dst := some 37, op := Op.load 9 (Operand.tmp 36), type := 9, pos := "ref.go:118", after := #[{ on := 2, ground := Ground.data }], guard := none },
  { dst := some 38, op := Op.move (Operand.tmp 0), type := 34, pos := "ref.go:118", after := #[], guard := none },
  { dst := some 39, op := Op.nilCheck (Operand.tmp 38), type := 0, pos := "ref.go:118", after := #[{ on := 4, ground := Ground.data }], guard := none },
  { dst := some 40, op := Op.fieldAddr 37 (Operand.tmp 39) 1, type := 0, pos := "ref.go:118", after := #[{ on := 5, ground := Ground.data }], guard := none },
  { dst := some 41, op := Op.load 3 (Operand.tmp 40), type := 3, pos := "ref.go:118", after := #[{ on := 6, ground := Ground.data }], guard := none },
  { dst := some 42, op := Op.index 9 (Operand.tmp 37) (Operand.tmp 41), type := 5, pos := "ref.go:118", after := #[{ on := 3, ground := Ground.data }, { on := 7, ground := Ground.data }], guard := none },
  { dst := some 43, op := Op.convert 5 22 (Operand.tmp 42), type := 22, pos := "ref.go:118", after := #[{ on := 8, ground := Ground.data }], guard := none },
  { dst := some 9, op := Op.assign (Operand.tmp 43), type := 22, pos := "ref.go:118", after := #[{ on := 9, ground := Ground.data }, { on := 0, ground := Ground.phase }, { on := 1, ground := Ground.phase }, { on := 2, ground := Ground.phase }, { on := 3, ground := Ground.phase }, { on := 4, ground := Ground.phase }, { on := 5, ground := Ground.phase }, { on := 6, ground := Ground.phase }, { on := 7, ground := Ground.phase }, { on := 8, ground := Ground.phase }, { on := 9, ground := Ground.phase }], guard := none }]
def rHC12 : Array Oper := #[{ dst := some 44, op := Op.move (Operand.tmp 8), type := 3, pos := "ref.go:119", after := #[], guard := none },
  { dst := some 45, op := Op.binOp BinOp.eql 3 (Operand.tmp 44) (Operand.const (Value.int IntKind.i64 9)) 3, type := 4, pos := "ref.go:119", after := #[{ on := 0, ground := Ground.data }], guard := none },
  { dst := some 46, op := Op.move (Operand.tmp 45), type := 4, pos := "ref.go:119", after := #[{ on := 1, ground := Ground.data }], guard := none },
  { dst := some 47, op := Op.move (Operand.tmp 9), type := 22, pos := "ref.go:119", after := #[{ on := 2, ground := Ground.guard }], guard := some (2, true) },
  { dst := some 48, op := Op.binOp BinOp.gtr 22 (Operand.tmp 47) (Operand.const (Value.int IntKind.u64 1)) 22, type := 4, pos := "ref.go:119", after := #[{ on := 3, ground := Ground.data }, { on := 2, ground := Ground.guard }], guard := some (2, true) },
  { dst := some 49, op := Op.pick (Operand.tmp 46) (Operand.tmp 48) (Operand.const (Value.bool false)), type := 4, pos := "ref.go:119", after := #[{ on := 2, ground := Ground.data }, { on := 4, ground := Ground.data }], guard := none }]
def rHC13 : Array Oper := #[{ dst := some 50, op := Op.move (Operand.tmp 0), type := 34, pos := "ref.go:120", after := #[], guard := none },
  { dst := some 51, op := Op.move (Operand.tmp 5), type := 3, pos := "ref.go:120", after := #[], guard := none },
  { dst := some 52, op := Op.call { callee := Callee.value (Operand.func 65), args := #[Operand.tmp 50, Operand.const (Value.int IntKind.i64 11), Operand.tmp 51], argTypes := #[34, 35, 3] }, type := 0, pos := "ref.go:120", after := #[{ on := 0, ground := Ground.data }, { on := 1, ground := Ground.data }], guard := none }]
def rHC14 : Array Oper := #[{ dst := some 4, op := Op.assign (Operand.const (Value.int IntKind.u64 0)), type := 22, pos := "ref.go:121", after := #[], guard := none }]
def rHC15 : Array Oper := #[{ dst := some 53, op := Op.move (Operand.tmp 0), type := 34, pos := "ref.go:123", after := #[], guard := none },
  { dst := some 54, op := Op.nilCheck (Operand.tmp 53), type := 0, pos := "ref.go:123", after := #[{ on := 0, ground := Ground.data }], guard := none },
  { dst := some 55, op := Op.fieldAddr 37 (Operand.tmp 54) 1, type := 0, pos := "ref.go:123", after := #[{ on := 1, ground := Ground.data }], guard := none },
  { dst := some 56, op := Op.load 3 (Operand.tmp 55), type := 3, pos := "ref.go:123", after := #[{ on := 2, ground := Ground.data }], guard := none },
  { dst := some 57, op := Op.binOp BinOp.add 3 (Operand.tmp 56) (Operand.const (Value.int IntKind.i64 1)) 3, type := 3, pos := "ref.go:123", after := #[{ on := 3, ground := Ground.data }], guard := none },
  { dst := some 58, op := Op.nilCheck (Operand.tmp 53), type := 0, pos := "ref.go:123", after := #[{ on := 0, ground := Ground.data }, { on := 0, ground := Ground.phase }, { on := 1, ground := Ground.phase }, { on := 2, ground := Ground.phase }, { on := 3, ground := Ground.phase }, { on := 4, ground := Ground.phase }], guard := none },
  { dst := some 59, op := Op.fieldAddr 37 (Operand.tmp 58) 1, type := 0, pos := "ref.go:123", after := #[{ on := 5, ground := Ground.data }, { on := 0, ground := Ground.phase }, { on := 1, ground := Ground.phase }, { on := 2, ground := Ground.phase }, { on := 3, ground := Ground.phase }, { on := 4, ground := Ground.phase }], guard := none },
  { dst := none, op := Op.store 3 (Operand.tmp 59) (Operand.tmp 57), type := 0, pos := "ref.go:123", after := #[{ on := 6, ground := Ground.data }, { on := 4, ground := Ground.data }, { on := 0, ground := Ground.phase }, { on := 1, ground := Ground.phase }, { on := 2, ground := Ground.phase }, { on := 3, ground := Ground.phase }, { on := 4, ground := Ground.phase }], guard := none }]
def rHC16 : Array Oper := #[{ dst := some 60, op := Op.move (Operand.tmp 6), type := 22, pos := "ref.go:124", after := #[], guard := none },
  { dst := some 61, op := Op.move (Operand.tmp 9), type := 22, pos := "ref.go:124", after := #[], guard := none },
  { dst := some 62, op := Op.binOp BinOp.rem 22 (Operand.tmp 61) (Operand.const (Value.int IntKind.u64 128)) 22, type := 22, pos := "ref.go:124", after := #[{ on := 1, ground := Ground.data }], guard := none },
  { dst := some 63, op := Op.move (Operand.tmp 7), type := 22, pos := "ref.go:124", after := #[], guard := none },
  { dst := some 64, op := Op.binOp BinOp.mul 22 (Operand.tmp 62) (Operand.tmp 63) 22, type := 22, pos := "ref.go:124", after := #[{ on := 2, ground := Ground.data }, { on := 3, ground := Ground.data }], guard := none },
  { dst := some 65, op := Op.binOp BinOp.add 22 (Operand.tmp 60) (Operand.tmp 64) 22, type := 22, pos := "ref.go:124", after := #[{ on := 0, ground := Ground.data }, { on := 4, ground := Ground.data }], guard := none },
  { dst := some 6, op := Op.assign (Operand.tmp 65), type := 22, pos := "ref.go:124", after := #[{ on := 5, ground := Ground.data }, { on := 0, ground := Ground.phase }, { on := 1, ground := Ground.phase }, { on := 2, ground := Ground.phase }, { on := 3, ground := Ground.phase }, { on := 4, ground := Ground.phase }, { on := 5, ground := Ground.phase }], guard := none }]
def rHC17 : Array Oper := #[{ dst := some 66, op := Op.move (Operand.tmp 7), type := 22, pos := "ref.go:125", after := #[], guard := none },
  { dst := some 67, op := Op.binOp BinOp.mul 22 (Operand.tmp 66) (Operand.const (Value.int IntKind.u64 128)) 22, type := 22, pos := "ref.go:125", after := #[{ on := 0, ground := Ground.data }], guard := none },
  { dst := some 7, op := Op.assign (Operand.tmp 67), type := 22, pos := "ref.go:125", after := #[{ on := 1, ground := Ground.data }, { on := 0, ground := Ground.phase }, { on := 1, ground := Ground.phase }], guard := none }]
def rHC18 : Array Oper := #[{ dst := some 68, op := Op.move (Operand.tmp 9), type := 22, pos := "ref.go:126", after := #[], guard := none },
  { dst := some 69, op := Op.binOp BinOp.lss 22 (Operand.tmp 68) (Operand.const (Value.int IntKind.u64 128)) 22, type := 4, pos := "ref.go:126", after := #[{ on := 0, ground := Ground.data }], guard := none }]
def rHC19 : Array Oper := #[{ dst := some 70, op := Op.move (Operand.tmp 9), type := 22, pos := "ref.go:127", after := #[], guard := none },
  { dst := some 71, op := Op.binOp BinOp.eql 22 (Operand.tmp 70) (Operand.const (Value.int IntKind.u64 0)) 22, type := 4, pos := "ref.go:127", after := #[{ on := 0, ground := Ground.data }], guard := none },
  { dst := some 72, op := Op.move (Operand.tmp 71), type := 4, pos := "ref.go:127", after := #[{ on := 1, ground := Ground.data }], guard := none },
  { dst := some 73, op := Op.move (Operand.tmp 8), type := 3, pos := "ref.go:127", after := #[{ on := 2, ground := Ground.guard }], guard := some (2, true) },
  { dst := some 74, op := Op.binOp BinOp.gtr 3 (Operand.tmp 73) (Operand.const (Value.int IntKind.i64 0)) 3, type := 4, pos := "ref.go:127", after := #[{ on := 3, ground := Ground.data }, { on := 2, ground := Ground.guard }], guard := some (2, true) },
  { dst := some 75, op := Op.pick (Operand.tmp 72) (Operand.tmp 74) (Operand.const (Value.bool false)), type := 4, pos := "ref.go:127", after := #[{ on := 2, ground := Ground.data }, { on := 4, ground := Ground.data }], guard := none }]
def rHC20 : Array Oper := #[{ dst := some 76, op := Op.move (Operand.tmp 0), type := 34, pos := "ref.go:128", after := #[], guard := none },
  { dst := some 77, op := Op.move (Operand.tmp 5), type := 3, pos := "ref.go:128", after := #[], guard := none },
  { dst := some 78, op := Op.call { callee := Callee.value (Operand.func 65), args := #[Operand.tmp 76, Operand.const (Value.int IntKind.i64 11), Operand.tmp 77], argTypes := #[34, 35, 3] }, type := 0, pos := "ref.go:128", after := #[{ on := 0, ground := Ground.data }, { on := 1, ground := Ground.data }], guard := none }]
def rHC21 : Array Oper := #[{ dst := some 4, op := Op.assign (Operand.const (Value.int IntKind.u64 0)), type := 22, pos := "ref.go:129", after := #[], guard := none }]
def rHC22 : Array Oper := #[{ dst := some 79, op := Op.move (Operand.tmp 6), type := 22, pos := "ref.go:131", after := #[], guard := none },
  { dst := some 80, op := Op.move (Operand.tmp 1), type := 22, pos := "ref.go:131", after := #[], guard := none },
  { dst := some 81, op := Op.binOp BinOp.gtr 22 (Operand.tmp 79) (Operand.tmp 80) 22, type := 4, pos := "ref.go:131", after := #[{ on := 0, ground := Ground.data }, { on := 1, ground := Ground.data }], guard := none }]
def rHC23 : Array Oper := #[{ dst := some 82, op := Op.move (Operand.tmp 0), type := 34, pos := "ref.go:132", after := #[], guard := none },
  { dst := some 83, op := Op.move (Operand.tmp 5), type := 3, pos := "ref.go:132", after := #[], guard := none },
  { dst := some 84, op := Op.call { callee := Callee.value (Operand.func 65), args := #[Operand.tmp 82, Operand.const (Value.int IntKind.i64 12), Operand.tmp 83], argTypes := #[34, 35, 3] }, type := 0, pos := "ref.go:132", after := #[{ on := 0, ground := Ground.data }, { on := 1, ground := Ground.data }], guard := none }]
def rHC24 : Array Oper := #[{ dst := some 4, op := Op.assign (Operand.const (Value.int IntKind.u64 0)), type := 22, pos := "ref.go:133", after := #[], guard := none }]
def rHC25 : Array Oper := #[{ dst := some 85, op := Op.move (Operand.tmp 6), type := 22, pos := "ref.go:135", after := #[], guard := none },
  { dst := some 4, op := Op.assign (Operand.tmp 85), type := 22, pos := "ref.go:135", after := #[{ on := 0, ground := Ground.data }, { on := 0, ground := Ground.phase }], guard := none }]
def cHC1 : Code := (Code.seq (Code.block 1 (Code.seq (Code.seq (Code.region 8 rHC8 true) (Code.cond (Operand.tmp 30) (Code.seq (Code.region 9 rHC9 false) (Code.seq (Code.region 10 rHC10 false) Code.ret)) Code.skip)) (Code.seq (Code.region 11 rHC11 true) (Code.seq (Code.seq (Code.region 12 rHC12 false) (Code.cond (Operand.tmp 49) (Code.seq (Code.region 13 rHC13 false) (Code.seq (Code.region 14 rHC14 false) Code.ret)) Code.skip)) (Code.seq (Code.region 15 rHC15 false) (Code.seq (Code.region 16 rHC16 false) (Code.seq (Code.region 17 rHC17 false) (Code.seq (Code.region 18 rHC18 false) (Code.cond (Operand.tmp 69) (Code.seq (Code.seq (Code.region 19 rHC19 false) (Code.cond (Operand.tmp 75) (Code.seq (Code.region 20 rHC20 false) (Code.seq (Code.region 21 rHC21 false) Code.ret)) Code.skip)) (Code.seq (Code.seq (Code.region 22 rHC22 false) (Code.cond (Operand.tmp 81) (Code.seq (Code.region 23 rHC23 false) (Code.seq (Code.region 24 rHC24 false) Code.ret)) Code.skip)) (Code.seq (Code.region 25 rHC25 false) Code.ret))) Code.skip))))))))) (Code.region 7 rHC7 false))
def cHC : Code := (Code.seq (Code.region 0 rHC0 false) (Code.seq (Code.seq (Code.region 1 rHC1 false) (Code.cond (Operand.tmp 14) (Code.seq (Code.region 2 rHC2 false) Code.ret) Code.skip)) (Code.seq (Code.region 3 rHC3 false) (Code.seq (Code.region 4 rHC4 false) (Code.seq (Code.region 5 rHC5 false) (Code.seq (Code.region 6 rHC6 false) (Code.block 0 (Code.loop cHC1))))))))
structure IHC (v0 v1 v5 : Value) (a : Act) : Prop where
  size : a.tmps.size = 86
  defers : a.defers = []
  s0 : a.eval (.tmp 0) = v0
  s1 : a.eval (.tmp 1) = v1
  s5 : a.eval (.tmp 5) = v5
theorem IHC.keep {v0 v1 v5 : Value} {a0 a : Act} {env : List (Nat × Value)} (h : IHC v0 v1 v5 a0) (f : Fe a0 env a) (h0 : look env 0 (a0.eval (.tmp 0)) = a0.eval (.tmp 0)) (h1 : look env 1 (a0.eval (.tmp 1)) = a0.eval (.tmp 1)) (h5 : look env 5 (a0.eval (.tmp 5)) = a0.eval (.tmp 5)) : IHC v0 v1 v5 a :=
  ⟨f.size.trans h.size, f.defers.trans h.defers, ((f.at_ 0).trans h0).trans h.s0, ((f.at_ 1).trans h1).trans h.s1, ((f.at_ 5).trans h5).trans h.s5⟩
set_option maxRecDepth 100000 in
set_option maxHeartbeats 1000000 in
theorem hcE {b p q i n u most : Nat} {s : ByteArray} {Q : Exit → Act → World → Prop} (hQp : ∀ c (a : Act) d v w, Q (.panic c) (a.put d v) w → Q (.panic c) a w) (a0 : Act) (wr : World) (I0 : IHC (.pointer (some ⟨b, 0, none⟩)) (.int .u64 (most : Int)) (.int .i64 (p : Int)) a0) (_ : a0.eval (.tmp 6) = .int .u64 (n : Int)) (_ : a0.eval (.tmp 7) = .int .u64 (u : Int)) (_ : a0.eval (.tmp 8) = .int .i64 (i : Int)) (hr : RRAt wr b s q 0) (_ : s.size ≤ 1000000000000) (hq : q = s.size) (hQ : ∀ (a : Act) W, a.defers = [] → a.eval (.tmp 4) = .int .u64 0 → RRAt W b s p 10 → Fr (fun k => k = b) wr W → Q .ret a W) : cHC1.wp Try.prog Q a0 wr := by
  have hqe : (q : Int) = (s.size : Int) := by omega
  clear hq
  have fa0_0 := Fe.refl a0
  have k0 := hr.c0
  have k1 := hr.c1
  have dd : Same wr wr.drew := (Fr.refl (fun _ => False) wr).drew
  unfold cHC1
  refine wp_seq (wp_block (wp_seq (wp_seq ?_)))
  refine wp_region_held_drew (ops := rHC8) (S := fun Z => Same wr Z) (by kernel_rfl) (dd) (fun hS0 => ?_)
  refine fa0_0.takeMove 0 21 (.pointer (some ⟨b, 0, none⟩)) _ (Or.inl rfl) rfl (by kernel_rfl) (by kernel_rfl) (by kernel_rfl) (fun _ _ _ h => hQp _ _ _ _ _ h) rfl (lb_ I0.size) (wanted_none rfl) ((fa0_0.at_ 0).trans I0.s0) hS0 (fun a0_1 fa0_1 => ?_)
  clear fa0_0
  have r_a0_2 : ∀ Z, (fun Z => Same wr Z) Z → (execOp a0_1.eval { dst := some 22, op := Op.nilCheck (Operand.tmp 21), type := 0, pos := "ref.go:114", after := #[{ on := 0, ground := Ground.data }], guard := none }).run Try.prog Z = .ok (.value (.pointer (some ⟨b, 0, none⟩))) Z := fun Z hZ => by
    have e21 := (show a0_1.eval (.tmp 21) = .pointer (some ⟨b, 0, none⟩) from (fa0_1.at_ 21))
    clear fa0_1 hQ hr
    generalize a0_1.eval = ρ at *
    go_simp
  refine fa0_1.take 1 22 (.pointer (some ⟨b, 0, none⟩)) rfl (by kernel_rfl) (by kernel_rfl) (by kernel_rfl) (fun _ _ _ h => hQp _ _ _ _ _ h) rfl (lb_ I0.size) (wanted_none rfl) r_a0_2 hS0 (fun a0_2 fa0_2 => ?_)
  clear r_a0_2
  clear fa0_1
  have r_a0_3 : ∀ Z, (fun Z => Same wr Z) Z → (execOp a0_2.eval { dst := some 23, op := Op.fieldAddr 37 (Operand.tmp 22) 1, type := 0, pos := "ref.go:114", after := #[{ on := 1, ground := Ground.data }], guard := none }).run Try.prog Z = .ok (.value (.pointer (some ⟨b, 1, none⟩))) Z := fun Z hZ => by
    have e22 := (show a0_2.eval (.tmp 22) = .pointer (some ⟨b, 0, none⟩) from (fa0_2.at_ 22))
    clear fa0_2 hQ hr
    generalize a0_2.eval = ρ at *
    go_simp
  refine fa0_2.take 2 23 (.pointer (some ⟨b, 1, none⟩)) rfl (by kernel_rfl) (by kernel_rfl) (by kernel_rfl) (fun _ _ _ h => hQp _ _ _ _ _ h) rfl (lb_ I0.size) (wanted_none rfl) r_a0_3 hS0 (fun a0_3 fa0_3 => ?_)
  clear r_a0_3
  clear fa0_2
  have r_a0_4 : ∀ Z, (fun Z => Same wr Z) Z → (execOp a0_3.eval { dst := some 24, op := Op.load 3 (Operand.tmp 23), type := 3, pos := "ref.go:114", after := #[{ on := 2, ground := Ground.data }], guard := none }).run Try.prog Z = .ok (.value (.int .i64 (q : Int))) Z := fun Z hZ => by
    have q0 := hZ.keep k0
    have q1 := hZ.keep k1
    clear hZ
    have e23 := (show a0_3.eval (.tmp 23) = .pointer (some ⟨b, 1, none⟩) from (fa0_3.at_ 23))
    clear fa0_3 hQ hr
    generalize a0_3.eval = ρ at *
    go_simp
  refine fa0_3.take 3 24 (.int .i64 (q : Int)) rfl (by kernel_rfl) (by kernel_rfl) (by kernel_rfl) (fun _ _ _ h => hQp _ _ _ _ _ h) rfl (lb_ I0.size) (wanted_none rfl) r_a0_4 hS0 (fun a0_4 fa0_4 => ?_)
  clear r_a0_4
  clear fa0_3
  refine fa0_4.takeMove 4 25 (.pointer (some ⟨b, 0, none⟩)) _ (Or.inl rfl) rfl (by kernel_rfl) (by kernel_rfl) (by kernel_rfl) (fun _ _ _ h => hQp _ _ _ _ _ h) rfl (lb_ I0.size) (wanted_none rfl) ((fa0_4.at_ 0).trans I0.s0) hS0 (fun a0_5 fa0_5 => ?_)
  clear fa0_4
  have r_a0_6 : ∀ Z, (fun Z => Same wr Z) Z → (execOp a0_5.eval { dst := some 26, op := Op.nilCheck (Operand.tmp 25), type := 0, pos := "ref.go:114", after := #[{ on := 4, ground := Ground.data }], guard := none }).run Try.prog Z = .ok (.value (.pointer (some ⟨b, 0, none⟩))) Z := fun Z hZ => by
    have e25 := (show a0_5.eval (.tmp 25) = .pointer (some ⟨b, 0, none⟩) from (fa0_5.at_ 25))
    clear fa0_5 hQ hr
    generalize a0_5.eval = ρ at *
    go_simp
  refine fa0_5.take 5 26 (.pointer (some ⟨b, 0, none⟩)) rfl (by kernel_rfl) (by kernel_rfl) (by kernel_rfl) (fun _ _ _ h => hQp _ _ _ _ _ h) rfl (lb_ I0.size) (wanted_none rfl) r_a0_6 hS0 (fun a0_6 fa0_6 => ?_)
  clear r_a0_6
  clear fa0_5
  have r_a0_7 : ∀ Z, (fun Z => Same wr Z) Z → (execOp a0_6.eval { dst := some 27, op := Op.fieldAddr 37 (Operand.tmp 26) 0, type := 0, pos := "ref.go:114", after := #[{ on := 5, ground := Ground.data }], guard := none }).run Try.prog Z = .ok (.value (.pointer (some ⟨b, 0, none⟩))) Z := fun Z hZ => by
    have e26 := (show a0_6.eval (.tmp 26) = .pointer (some ⟨b, 0, none⟩) from (fa0_6.at_ 26))
    clear fa0_6 hQ hr
    generalize a0_6.eval = ρ at *
    go_simp
  refine fa0_6.take 6 27 (.pointer (some ⟨b, 0, none⟩)) rfl (by kernel_rfl) (by kernel_rfl) (by kernel_rfl) (fun _ _ _ h => hQp _ _ _ _ _ h) rfl (lb_ I0.size) (wanted_none rfl) r_a0_7 hS0 (fun a0_7 fa0_7 => ?_)
  clear r_a0_7
  clear fa0_6
  have r_a0_8 : ∀ Z, (fun Z => Same wr Z) Z → (execOp a0_7.eval { dst := some 28, op := Op.load 9 (Operand.tmp 27), type := 9, pos := "ref.go:114", after := #[{ on := 6, ground := Ground.data }], guard := none }).run Try.prog Z = .ok (.value (.string s)) Z := fun Z hZ => by
    have q0 := hZ.keep k0
    have q1 := hZ.keep k1
    clear hZ
    have e27 := (show a0_7.eval (.tmp 27) = .pointer (some ⟨b, 0, none⟩) from (fa0_7.at_ 27))
    clear fa0_7 hQ hr
    generalize a0_7.eval = ρ at *
    go_simp
  refine fa0_7.take 7 28 (.string s) rfl (by kernel_rfl) (by kernel_rfl) (by kernel_rfl) (fun _ _ _ h => hQp _ _ _ _ _ h) rfl (lb_ I0.size) (wanted_none rfl) r_a0_8 hS0 (fun a0_8 fa0_8 => ?_)
  clear r_a0_8
  clear fa0_7
  have r_a0_9 : ∀ Z, (fun Z => Same wr Z) Z → (execOp a0_8.eval { dst := some 29, op := Op.call { callee := Callee.builtin Builtin.len, args := #[Operand.tmp 28], argTypes := #[9] }, type := 3, pos := "ref.go:114", after := #[{ on := 7, ground := Ground.data }], guard := none }).run Try.prog Z = .ok (.value (.int .i64 (s.size : Int))) Z := fun Z hZ => by
    have e28 := (show a0_8.eval (.tmp 28) = .string s from (fa0_8.at_ 28))
    clear fa0_8 hQ hr
    generalize a0_8.eval = ρ at *
    go_simp
  refine fa0_8.take 8 29 (.int .i64 (s.size : Int)) rfl (by kernel_rfl) (by kernel_rfl) (by kernel_rfl) (fun _ _ _ h => hQp _ _ _ _ _ h) rfl (lb_ I0.size) (wanted_none rfl) r_a0_9 hS0 (fun a0_9 fa0_9 => ?_)
  clear r_a0_9
  clear fa0_8
  have r_a0_10 : ∀ Z, (fun Z => Same wr Z) Z → (execOp a0_9.eval { dst := some 30, op := Op.binOp BinOp.eql 3 (Operand.tmp 24) (Operand.tmp 29) 3, type := 4, pos := "ref.go:114", after := #[{ on := 3, ground := Ground.data }, { on := 8, ground := Ground.data }], guard := none }).run Try.prog Z = .ok (.value (.bool true)) Z := fun Z hZ => by
    have e24 := (show a0_9.eval (.tmp 24) = .int .i64 (q : Int) from (fa0_9.at_ 24))
    have e29 := (show a0_9.eval (.tmp 29) = .int .i64 (s.size : Int) from (fa0_9.at_ 29))
    clear fa0_9 hQ hr
    generalize a0_9.eval = ρ at *
    go_simp
  refine fa0_9.take 9 30 (.bool true) rfl (by kernel_rfl) (by kernel_rfl) (by kernel_rfl) (fun _ _ _ h => hQp _ _ _ _ _ h) rfl (lb_ I0.size) (wanted_none rfl) r_a0_10 hS0 (fun a0_10 fa0_10 => ?_)
  clear r_a0_10
  clear fa0_9
  refine wpAnyH_done (by kernel_rfl) ?_ _
  change Code.wp _ _ _ _ _
  refine wp_cond_true (show a0_10.eval (.tmp 30) = .bool true from (fa0_10.at_ 30)) (wp_seq ?_)
  refine wp_region_list ?_
  unfold rHC9
  refine fa0_10.move 31 (.pointer (some ⟨b, 0, none⟩)) _ (Or.inl rfl) rfl (lb_ I0.size) (wanted_none rfl) ((fa0_10.at_ 0).trans I0.s0) (fun a0_11 fa0_11 => ?_)
  clear fa0_10
  refine fa0_11.move 32 (.int .i64 (p : Int)) _ (Or.inl rfl) rfl (lb_ I0.size) (wanted_none rfl) ((fa0_11.at_ 5).trans I0.s5) (fun a0_12 fa0_12 => ?_)
  clear fa0_11
  have r_a0_13 : (execOp a0_12.eval { dst := some 33, op := Op.call { callee := Callee.value (Operand.func 65), args := #[Operand.tmp 31, Operand.const (Value.int IntKind.i64 10), Operand.tmp 32], argTypes := #[34, 35, 3] }, type := 0, pos := "ref.go:115", after := #[{ on := 0, ground := Ground.data }, { on := 1, ground := Ground.data }], guard := none }).run Try.prog (wr.drew) = .ok (.enter 65 #[.pointer (some ⟨b, 0, none⟩), Value.int IntKind.i64 10, .int .i64 (p : Int)]) (wr.drew) := by
    have kc : ∀ v, a0_12.eval (.const v) = v := fun _ => rfl
    have kf : ∀ f, a0_12.eval (.func f) = .func (.func f) #[] #[] := fun _ => rfl
    have e31 := (show a0_12.eval (.tmp 31) = .pointer (some ⟨b, 0, none⟩) from (fa0_12.at_ 31))
    have e32 := (show a0_12.eval (.tmp 32) = .int .i64 (p : Int) from (fa0_12.at_ 32))
    clear fa0_12 hQ hr
    generalize a0_12.eval = ρ at *
    go_simp
  refine fa0_12.call 33 rfl (lb_ I0.size) (wanted_none rfl) r_a0_13 (rrfail_calls (d := 10) (q := p) wr.drew (hr.fr dd (fun f => f))) (fun e VF hR => ?_)
  obtain ⟨rfl, hf, ff⟩ := hR
  clear r_a0_13
  refine ⟨_, rfl, fun a0_13 fa0_13 => ?_⟩
  clear fa0_12
  refine wpList_nil ?_
  change Code.wp _ _ _ _ _
  refine wp_seq ?_
  refine wp_region_list ?_
  unfold rHC10
  refine fa0_13.move 4 (.int .u64 0) _ (Or.inr rfl) rfl (lb_ I0.size) (wanted_none rfl) rfl (fun a0_14 fa0_14 => ?_)
  clear fa0_13
  refine wpList_nil ?_
  change Code.wp _ _ _ _ _
  refine wp_ret ?_
  exact hQ a0_14 VF (fa0_14.defers.trans I0.defers) (show a0_14.eval (.tmp 4) = .int .u64 0 from (fa0_14.at_ 4)) hf (Fr.trans (dd.mono (fun _ _ f => f.elim)) ff (fun _ _ e => e))
set_option maxRecDepth 100000 in
set_option maxHeartbeats 1000000 in
theorem hcX {b p q i n u most : Nat} {s : ByteArray} {Q : Exit → Act → World → Prop} (hQp : ∀ c (a : Act) d v w, Q (.panic c) (a.put d v) w → Q (.panic c) a w) (a0 : Act) (wr : World) (I0 : IHC (.pointer (some ⟨b, 0, none⟩)) (.int .u64 (most : Int)) (.int .i64 (p : Int)) a0) (_ : a0.eval (.tmp 6) = .int .u64 (n : Int)) (_ : a0.eval (.tmp 7) = .int .u64 (u : Int)) (h8 : a0.eval (.tmp 8) = .int .i64 (i : Int)) (hr : RRAt wr b s q 0) (_ : s.size ≤ 1000000000000) {x : Nat} (hq : q < s.size) (hx : (s[q]).toNat = x) (hi : i = 9) (hb : 1 < x) (hQ : ∀ (a : Act) W, a.defers = [] → a.eval (.tmp 4) = .int .u64 0 → RRAt W b s p 11 → Fr (fun k => k = b) wr W → Q .ret a W) : cHC1.wp Try.prog Q a0 wr := by
  have hne : ¬ (q : Int) = (s.size : Int) := by omega
  have hqi : (q : Int) < (s.size : Int) := by omega
  have xl : x < 256 := by rw [← hx]; exact (s[q]).toNat_lt
  have wx : IntKind.u64.wrap (x : Int) = (x : Int) := by rw [IntKind.wrap_u64]; omega
  have hi2 : (i : Int) = 9 := by omega
  have hb2 : (1 : Int) < (x : Int) := by omega
  clear hi
  have fa0_0 := Fe.refl a0
  have k0 := hr.c0
  have k1 := hr.c1
  have dd : Same wr wr.drew := (Fr.refl (fun _ => False) wr).drew
  unfold cHC1
  refine wp_seq (wp_block (wp_seq (wp_seq ?_)))
  refine wp_region_held_drew (ops := rHC8) (S := fun Z => Same wr Z) (by kernel_rfl) (dd) (fun hS0 => ?_)
  refine fa0_0.takeMove 0 21 (.pointer (some ⟨b, 0, none⟩)) _ (Or.inl rfl) rfl (by kernel_rfl) (by kernel_rfl) (by kernel_rfl) (fun _ _ _ h => hQp _ _ _ _ _ h) rfl (lb_ I0.size) (wanted_none rfl) ((fa0_0.at_ 0).trans I0.s0) hS0 (fun a0_1 fa0_1 => ?_)
  clear fa0_0
  have r_a0_2 : ∀ Z, (fun Z => Same wr Z) Z → (execOp a0_1.eval { dst := some 22, op := Op.nilCheck (Operand.tmp 21), type := 0, pos := "ref.go:114", after := #[{ on := 0, ground := Ground.data }], guard := none }).run Try.prog Z = .ok (.value (.pointer (some ⟨b, 0, none⟩))) Z := fun Z hZ => by
    have e21 := (show a0_1.eval (.tmp 21) = .pointer (some ⟨b, 0, none⟩) from (fa0_1.at_ 21))
    clear fa0_1 hQ h8 hr
    generalize a0_1.eval = ρ at *
    go_simp
  refine fa0_1.take 1 22 (.pointer (some ⟨b, 0, none⟩)) rfl (by kernel_rfl) (by kernel_rfl) (by kernel_rfl) (fun _ _ _ h => hQp _ _ _ _ _ h) rfl (lb_ I0.size) (wanted_none rfl) r_a0_2 hS0 (fun a0_2 fa0_2 => ?_)
  clear r_a0_2
  clear fa0_1
  have r_a0_3 : ∀ Z, (fun Z => Same wr Z) Z → (execOp a0_2.eval { dst := some 23, op := Op.fieldAddr 37 (Operand.tmp 22) 1, type := 0, pos := "ref.go:114", after := #[{ on := 1, ground := Ground.data }], guard := none }).run Try.prog Z = .ok (.value (.pointer (some ⟨b, 1, none⟩))) Z := fun Z hZ => by
    have e22 := (show a0_2.eval (.tmp 22) = .pointer (some ⟨b, 0, none⟩) from (fa0_2.at_ 22))
    clear fa0_2 hQ h8 hr
    generalize a0_2.eval = ρ at *
    go_simp
  refine fa0_2.take 2 23 (.pointer (some ⟨b, 1, none⟩)) rfl (by kernel_rfl) (by kernel_rfl) (by kernel_rfl) (fun _ _ _ h => hQp _ _ _ _ _ h) rfl (lb_ I0.size) (wanted_none rfl) r_a0_3 hS0 (fun a0_3 fa0_3 => ?_)
  clear r_a0_3
  clear fa0_2
  have r_a0_4 : ∀ Z, (fun Z => Same wr Z) Z → (execOp a0_3.eval { dst := some 24, op := Op.load 3 (Operand.tmp 23), type := 3, pos := "ref.go:114", after := #[{ on := 2, ground := Ground.data }], guard := none }).run Try.prog Z = .ok (.value (.int .i64 (q : Int))) Z := fun Z hZ => by
    have q0 := hZ.keep k0
    have q1 := hZ.keep k1
    clear hZ
    have e23 := (show a0_3.eval (.tmp 23) = .pointer (some ⟨b, 1, none⟩) from (fa0_3.at_ 23))
    clear fa0_3 hQ h8 hr
    generalize a0_3.eval = ρ at *
    go_simp
  refine fa0_3.take 3 24 (.int .i64 (q : Int)) rfl (by kernel_rfl) (by kernel_rfl) (by kernel_rfl) (fun _ _ _ h => hQp _ _ _ _ _ h) rfl (lb_ I0.size) (wanted_none rfl) r_a0_4 hS0 (fun a0_4 fa0_4 => ?_)
  clear r_a0_4
  clear fa0_3
  refine fa0_4.takeMove 4 25 (.pointer (some ⟨b, 0, none⟩)) _ (Or.inl rfl) rfl (by kernel_rfl) (by kernel_rfl) (by kernel_rfl) (fun _ _ _ h => hQp _ _ _ _ _ h) rfl (lb_ I0.size) (wanted_none rfl) ((fa0_4.at_ 0).trans I0.s0) hS0 (fun a0_5 fa0_5 => ?_)
  clear fa0_4
  have r_a0_6 : ∀ Z, (fun Z => Same wr Z) Z → (execOp a0_5.eval { dst := some 26, op := Op.nilCheck (Operand.tmp 25), type := 0, pos := "ref.go:114", after := #[{ on := 4, ground := Ground.data }], guard := none }).run Try.prog Z = .ok (.value (.pointer (some ⟨b, 0, none⟩))) Z := fun Z hZ => by
    have e25 := (show a0_5.eval (.tmp 25) = .pointer (some ⟨b, 0, none⟩) from (fa0_5.at_ 25))
    clear fa0_5 hQ h8 hr
    generalize a0_5.eval = ρ at *
    go_simp
  refine fa0_5.take 5 26 (.pointer (some ⟨b, 0, none⟩)) rfl (by kernel_rfl) (by kernel_rfl) (by kernel_rfl) (fun _ _ _ h => hQp _ _ _ _ _ h) rfl (lb_ I0.size) (wanted_none rfl) r_a0_6 hS0 (fun a0_6 fa0_6 => ?_)
  clear r_a0_6
  clear fa0_5
  have r_a0_7 : ∀ Z, (fun Z => Same wr Z) Z → (execOp a0_6.eval { dst := some 27, op := Op.fieldAddr 37 (Operand.tmp 26) 0, type := 0, pos := "ref.go:114", after := #[{ on := 5, ground := Ground.data }], guard := none }).run Try.prog Z = .ok (.value (.pointer (some ⟨b, 0, none⟩))) Z := fun Z hZ => by
    have e26 := (show a0_6.eval (.tmp 26) = .pointer (some ⟨b, 0, none⟩) from (fa0_6.at_ 26))
    clear fa0_6 hQ h8 hr
    generalize a0_6.eval = ρ at *
    go_simp
  refine fa0_6.take 6 27 (.pointer (some ⟨b, 0, none⟩)) rfl (by kernel_rfl) (by kernel_rfl) (by kernel_rfl) (fun _ _ _ h => hQp _ _ _ _ _ h) rfl (lb_ I0.size) (wanted_none rfl) r_a0_7 hS0 (fun a0_7 fa0_7 => ?_)
  clear r_a0_7
  clear fa0_6
  have r_a0_8 : ∀ Z, (fun Z => Same wr Z) Z → (execOp a0_7.eval { dst := some 28, op := Op.load 9 (Operand.tmp 27), type := 9, pos := "ref.go:114", after := #[{ on := 6, ground := Ground.data }], guard := none }).run Try.prog Z = .ok (.value (.string s)) Z := fun Z hZ => by
    have q0 := hZ.keep k0
    have q1 := hZ.keep k1
    clear hZ
    have e27 := (show a0_7.eval (.tmp 27) = .pointer (some ⟨b, 0, none⟩) from (fa0_7.at_ 27))
    clear fa0_7 hQ h8 hr
    generalize a0_7.eval = ρ at *
    go_simp
  refine fa0_7.take 7 28 (.string s) rfl (by kernel_rfl) (by kernel_rfl) (by kernel_rfl) (fun _ _ _ h => hQp _ _ _ _ _ h) rfl (lb_ I0.size) (wanted_none rfl) r_a0_8 hS0 (fun a0_8 fa0_8 => ?_)
  clear r_a0_8
  clear fa0_7
  have r_a0_9 : ∀ Z, (fun Z => Same wr Z) Z → (execOp a0_8.eval { dst := some 29, op := Op.call { callee := Callee.builtin Builtin.len, args := #[Operand.tmp 28], argTypes := #[9] }, type := 3, pos := "ref.go:114", after := #[{ on := 7, ground := Ground.data }], guard := none }).run Try.prog Z = .ok (.value (.int .i64 (s.size : Int))) Z := fun Z hZ => by
    have e28 := (show a0_8.eval (.tmp 28) = .string s from (fa0_8.at_ 28))
    clear fa0_8 hQ h8 hr
    generalize a0_8.eval = ρ at *
    go_simp
  refine fa0_8.take 8 29 (.int .i64 (s.size : Int)) rfl (by kernel_rfl) (by kernel_rfl) (by kernel_rfl) (fun _ _ _ h => hQp _ _ _ _ _ h) rfl (lb_ I0.size) (wanted_none rfl) r_a0_9 hS0 (fun a0_9 fa0_9 => ?_)
  clear r_a0_9
  clear fa0_8
  have r_a0_10 : ∀ Z, (fun Z => Same wr Z) Z → (execOp a0_9.eval { dst := some 30, op := Op.binOp BinOp.eql 3 (Operand.tmp 24) (Operand.tmp 29) 3, type := 4, pos := "ref.go:114", after := #[{ on := 3, ground := Ground.data }, { on := 8, ground := Ground.data }], guard := none }).run Try.prog Z = .ok (.value (.bool false)) Z := fun Z hZ => by
    have e24 := (show a0_9.eval (.tmp 24) = .int .i64 (q : Int) from (fa0_9.at_ 24))
    have e29 := (show a0_9.eval (.tmp 29) = .int .i64 (s.size : Int) from (fa0_9.at_ 29))
    clear fa0_9 hQ h8 hr
    generalize a0_9.eval = ρ at *
    go_simp
  refine fa0_9.take 9 30 (.bool false) rfl (by kernel_rfl) (by kernel_rfl) (by kernel_rfl) (fun _ _ _ h => hQp _ _ _ _ _ h) rfl (lb_ I0.size) (wanted_none rfl) r_a0_10 hS0 (fun a0_10 fa0_10 => ?_)
  clear r_a0_10
  clear fa0_9
  refine wpAnyH_done (by kernel_rfl) ?_ _
  change Code.wp _ _ _ _ _
  refine wp_cond_false (show a0_10.eval (.tmp 30) = .bool false from (fa0_10.at_ 30)) (wp_skip ?_)
  change Code.wp _ _ _ _ _
  refine wp_seq ?_
  have d2 : Same wr wr.drew.drew := dd.trans (Fr.refl (fun _ => False) wr.drew).drew
  refine wp_region_held_drew (ops := rHC11) (S := fun Z => Same wr Z) (by kernel_rfl) (d2) (fun hS10 => ?_)
  refine fa0_10.takeMove 0 34 (.pointer (some ⟨b, 0, none⟩)) _ (Or.inl rfl) rfl (by kernel_rfl) (by kernel_rfl) (by kernel_rfl) (fun _ _ _ h => hQp _ _ _ _ _ h) rfl (lb_ I0.size) (wanted_none rfl) ((fa0_10.at_ 0).trans I0.s0) hS10 (fun a0_11 fa0_11 => ?_)
  clear fa0_10
  have r_a0_12 : ∀ Z, (fun Z => Same wr Z) Z → (execOp a0_11.eval { dst := some 35, op := Op.nilCheck (Operand.tmp 34), type := 0, pos := "ref.go:118", after := #[{ on := 0, ground := Ground.data }], guard := none }).run Try.prog Z = .ok (.value (.pointer (some ⟨b, 0, none⟩))) Z := fun Z hZ => by
    have e34 := (show a0_11.eval (.tmp 34) = .pointer (some ⟨b, 0, none⟩) from (fa0_11.at_ 34))
    clear fa0_11 hQ h8 hr
    generalize a0_11.eval = ρ at *
    go_simp
  refine fa0_11.take 1 35 (.pointer (some ⟨b, 0, none⟩)) rfl (by kernel_rfl) (by kernel_rfl) (by kernel_rfl) (fun _ _ _ h => hQp _ _ _ _ _ h) rfl (lb_ I0.size) (wanted_none rfl) r_a0_12 hS10 (fun a0_12 fa0_12 => ?_)
  clear r_a0_12
  clear fa0_11
  have r_a0_13 : ∀ Z, (fun Z => Same wr Z) Z → (execOp a0_12.eval { dst := some 36, op := Op.fieldAddr 37 (Operand.tmp 35) 0, type := 0, pos := "ref.go:118", after := #[{ on := 1, ground := Ground.data }], guard := none }).run Try.prog Z = .ok (.value (.pointer (some ⟨b, 0, none⟩))) Z := fun Z hZ => by
    have e35 := (show a0_12.eval (.tmp 35) = .pointer (some ⟨b, 0, none⟩) from (fa0_12.at_ 35))
    clear fa0_12 hQ h8 hr
    generalize a0_12.eval = ρ at *
    go_simp
  refine fa0_12.take 2 36 (.pointer (some ⟨b, 0, none⟩)) rfl (by kernel_rfl) (by kernel_rfl) (by kernel_rfl) (fun _ _ _ h => hQp _ _ _ _ _ h) rfl (lb_ I0.size) (wanted_none rfl) r_a0_13 hS10 (fun a0_13 fa0_13 => ?_)
  clear r_a0_13
  clear fa0_12
  have r_a0_14 : ∀ Z, (fun Z => Same wr Z) Z → (execOp a0_13.eval { dst := some 37, op := Op.load 9 (Operand.tmp 36), type := 9, pos := "ref.go:118", after := #[{ on := 2, ground := Ground.data }], guard := none }).run Try.prog Z = .ok (.value (.string s)) Z := fun Z hZ => by
    have q0 := hZ.keep k0
    have q1 := hZ.keep k1
    clear hZ
    have e36 := (show a0_13.eval (.tmp 36) = .pointer (some ⟨b, 0, none⟩) from (fa0_13.at_ 36))
    clear fa0_13 hQ h8 hr
    generalize a0_13.eval = ρ at *
    go_simp
  refine fa0_13.take 3 37 (.string s) rfl (by kernel_rfl) (by kernel_rfl) (by kernel_rfl) (fun _ _ _ h => hQp _ _ _ _ _ h) rfl (lb_ I0.size) (wanted_none rfl) r_a0_14 hS10 (fun a0_14 fa0_14 => ?_)
  clear r_a0_14
  clear fa0_13
  refine fa0_14.takeMove 4 38 (.pointer (some ⟨b, 0, none⟩)) _ (Or.inl rfl) rfl (by kernel_rfl) (by kernel_rfl) (by kernel_rfl) (fun _ _ _ h => hQp _ _ _ _ _ h) rfl (lb_ I0.size) (wanted_none rfl) ((fa0_14.at_ 0).trans I0.s0) hS10 (fun a0_15 fa0_15 => ?_)
  clear fa0_14
  have r_a0_16 : ∀ Z, (fun Z => Same wr Z) Z → (execOp a0_15.eval { dst := some 39, op := Op.nilCheck (Operand.tmp 38), type := 0, pos := "ref.go:118", after := #[{ on := 4, ground := Ground.data }], guard := none }).run Try.prog Z = .ok (.value (.pointer (some ⟨b, 0, none⟩))) Z := fun Z hZ => by
    have e38 := (show a0_15.eval (.tmp 38) = .pointer (some ⟨b, 0, none⟩) from (fa0_15.at_ 38))
    clear fa0_15 hQ h8 hr
    generalize a0_15.eval = ρ at *
    go_simp
  refine fa0_15.take 5 39 (.pointer (some ⟨b, 0, none⟩)) rfl (by kernel_rfl) (by kernel_rfl) (by kernel_rfl) (fun _ _ _ h => hQp _ _ _ _ _ h) rfl (lb_ I0.size) (wanted_none rfl) r_a0_16 hS10 (fun a0_16 fa0_16 => ?_)
  clear r_a0_16
  clear fa0_15
  have r_a0_17 : ∀ Z, (fun Z => Same wr Z) Z → (execOp a0_16.eval { dst := some 40, op := Op.fieldAddr 37 (Operand.tmp 39) 1, type := 0, pos := "ref.go:118", after := #[{ on := 5, ground := Ground.data }], guard := none }).run Try.prog Z = .ok (.value (.pointer (some ⟨b, 1, none⟩))) Z := fun Z hZ => by
    have e39 := (show a0_16.eval (.tmp 39) = .pointer (some ⟨b, 0, none⟩) from (fa0_16.at_ 39))
    clear fa0_16 hQ h8 hr
    generalize a0_16.eval = ρ at *
    go_simp
  refine fa0_16.take 6 40 (.pointer (some ⟨b, 1, none⟩)) rfl (by kernel_rfl) (by kernel_rfl) (by kernel_rfl) (fun _ _ _ h => hQp _ _ _ _ _ h) rfl (lb_ I0.size) (wanted_none rfl) r_a0_17 hS10 (fun a0_17 fa0_17 => ?_)
  clear r_a0_17
  clear fa0_16
  have r_a0_18 : ∀ Z, (fun Z => Same wr Z) Z → (execOp a0_17.eval { dst := some 41, op := Op.load 3 (Operand.tmp 40), type := 3, pos := "ref.go:118", after := #[{ on := 6, ground := Ground.data }], guard := none }).run Try.prog Z = .ok (.value (.int .i64 (q : Int))) Z := fun Z hZ => by
    have q0 := hZ.keep k0
    have q1 := hZ.keep k1
    clear hZ
    have e40 := (show a0_17.eval (.tmp 40) = .pointer (some ⟨b, 1, none⟩) from (fa0_17.at_ 40))
    clear fa0_17 hQ h8 hr
    generalize a0_17.eval = ρ at *
    go_simp
  refine fa0_17.take 7 41 (.int .i64 (q : Int)) rfl (by kernel_rfl) (by kernel_rfl) (by kernel_rfl) (fun _ _ _ h => hQp _ _ _ _ _ h) rfl (lb_ I0.size) (wanted_none rfl) r_a0_18 hS10 (fun a0_18 fa0_18 => ?_)
  clear r_a0_18
  clear fa0_17
  have r_a0_19 : ∀ Z, (fun Z => Same wr Z) Z → (execOp a0_18.eval { dst := some 42, op := Op.index 9 (Operand.tmp 37) (Operand.tmp 41), type := 5, pos := "ref.go:118", after := #[{ on := 3, ground := Ground.data }, { on := 7, ground := Ground.data }], guard := none }).run Try.prog Z = .ok (.value (.int .u8 (x : Int))) Z := fun Z hZ => by
    have e37 := (show a0_18.eval (.tmp 37) = .string s from (fa0_18.at_ 37))
    have e41 := (show a0_18.eval (.tmp 41) = .int .i64 (q : Int) from (fa0_18.at_ 41))
    clear fa0_18 hQ h8 hr
    generalize a0_18.eval = ρ at *
    go_simp
  refine fa0_18.take 8 42 (.int .u8 (x : Int)) rfl (by kernel_rfl) (by kernel_rfl) (by kernel_rfl) (fun _ _ _ h => hQp _ _ _ _ _ h) rfl (lb_ I0.size) (wanted_none rfl) r_a0_19 hS10 (fun a0_19 fa0_19 => ?_)
  clear r_a0_19
  clear fa0_18
  have r_a0_20 : ∀ Z, (fun Z => Same wr Z) Z → (execOp a0_19.eval { dst := some 43, op := Op.convert 5 22 (Operand.tmp 42), type := 22, pos := "ref.go:118", after := #[{ on := 8, ground := Ground.data }], guard := none }).run Try.prog Z = .ok (.value (.int .u64 (x : Int))) Z := fun Z hZ => by
    have e42 := (show a0_19.eval (.tmp 42) = .int .u8 (x : Int) from (fa0_19.at_ 42))
    clear fa0_19 hQ h8 hr
    generalize a0_19.eval = ρ at *
    go_simp
  refine fa0_19.take 9 43 (.int .u64 (x : Int)) rfl (by kernel_rfl) (by kernel_rfl) (by kernel_rfl) (fun _ _ _ h => hQp _ _ _ _ _ h) rfl (lb_ I0.size) (wanted_none rfl) r_a0_20 hS10 (fun a0_20 fa0_20 => ?_)
  clear r_a0_20
  clear fa0_19
  refine fa0_20.takeMove 10 9 (.int .u64 (x : Int)) _ (Or.inr rfl) rfl (by kernel_rfl) (by kernel_rfl) (by kernel_rfl) (fun _ _ _ h => hQp _ _ _ _ _ h) rfl (lb_ I0.size) (wanted_none rfl) (fa0_20.at_ 43) hS10 (fun a0_21 fa0_21 => ?_)
  clear fa0_20
  refine wpAnyH_done (by kernel_rfl) ?_ _
  change Code.wp _ _ _ _ _
  refine wp_seq (wp_seq ?_)
  refine wp_region_list ?_
  unfold rHC12
  refine fa0_21.move 44 (.int .i64 (i : Int)) _ (Or.inl rfl) rfl (lb_ I0.size) (wanted_none rfl) ((fa0_21.at_ 8).trans h8) (fun a0_22 fa0_22 => ?_)
  clear fa0_21
  have r_a0_23 : (execOp a0_22.eval { dst := some 45, op := Op.binOp BinOp.eql 3 (Operand.tmp 44) (Operand.const (Value.int IntKind.i64 9)) 3, type := 4, pos := "ref.go:119", after := #[{ on := 0, ground := Ground.data }], guard := none }).run Try.prog (wr.drew.drew) = .ok (.value (.bool true)) (wr.drew.drew) := by
    have kc : ∀ v, a0_22.eval (.const v) = v := fun _ => rfl
    have e44 := (show a0_22.eval (.tmp 44) = .int .i64 (i : Int) from (fa0_22.at_ 44))
    clear fa0_22 hQ h8 hr
    generalize a0_22.eval = ρ at *
    go_simp
  refine fa0_22.step 45 (.bool true) rfl (lb_ I0.size) (wanted_none rfl) r_a0_23 (fun a0_23 fa0_23 => ?_)
  clear r_a0_23
  clear fa0_22
  refine fa0_23.move 46 (.bool true) _ (Or.inl rfl) rfl (lb_ I0.size) (wanted_none rfl) (fa0_23.at_ 45) (fun a0_24 fa0_24 => ?_)
  clear fa0_23
  refine fa0_24.move 47 (.int .u64 (x : Int)) _ (Or.inl rfl) rfl (lb_ I0.size) ((wanted_at (t := 46) (c := true) (b := true) rfl rfl rfl (lb_ (fa0_24.size.trans I0.size)) (fa0_24.at_ 46)).trans (by rfl)) (fa0_24.at_ 9) (fun a0_25 fa0_25 => ?_)
  clear fa0_24
  have r_a0_26 : (execOp a0_25.eval { dst := some 48, op := Op.binOp BinOp.gtr 22 (Operand.tmp 47) (Operand.const (Value.int IntKind.u64 1)) 22, type := 4, pos := "ref.go:119", after := #[{ on := 3, ground := Ground.data }, { on := 2, ground := Ground.guard }], guard := some (2, true) }).run Try.prog (wr.drew.drew) = .ok (.value (.bool true)) (wr.drew.drew) := by
    have kc : ∀ v, a0_25.eval (.const v) = v := fun _ => rfl
    have e47 := (show a0_25.eval (.tmp 47) = .int .u64 (x : Int) from (fa0_25.at_ 47))
    clear fa0_25 hQ h8 hr
    generalize a0_25.eval = ρ at *
    go_simp
  refine fa0_25.step 48 (.bool true) rfl (lb_ I0.size) ((wanted_at (t := 46) (c := true) (b := true) rfl rfl rfl (lb_ (fa0_25.size.trans I0.size)) (fa0_25.at_ 46)).trans (by rfl)) r_a0_26 (fun a0_26 fa0_26 => ?_)
  clear r_a0_26
  clear fa0_25
  have r_a0_27 : (execOp a0_26.eval { dst := some 49, op := Op.pick (Operand.tmp 46) (Operand.tmp 48) (Operand.const (Value.bool false)), type := 4, pos := "ref.go:119", after := #[{ on := 2, ground := Ground.data }, { on := 4, ground := Ground.data }], guard := none }).run Try.prog (wr.drew.drew) = .ok (.value (.bool true)) (wr.drew.drew) := by
    have kc : ∀ v, a0_26.eval (.const v) = v := fun _ => rfl
    have e46 := (show a0_26.eval (.tmp 46) = .bool true from (fa0_26.at_ 46))
    have e48 := (show a0_26.eval (.tmp 48) = .bool true from (fa0_26.at_ 48))
    clear fa0_26 hQ h8 hr
    generalize a0_26.eval = ρ at *
    go_simp
  refine fa0_26.step 49 (.bool true) rfl (lb_ I0.size) (wanted_none rfl) r_a0_27 (fun a0_27 fa0_27 => ?_)
  clear r_a0_27
  clear fa0_26
  refine wpList_nil ?_
  change Code.wp _ _ _ _ _
  refine wp_cond_true (show a0_27.eval (.tmp 49) = .bool true from (fa0_27.at_ 49)) (wp_seq ?_)
  refine wp_region_list ?_
  unfold rHC13
  refine fa0_27.move 50 (.pointer (some ⟨b, 0, none⟩)) _ (Or.inl rfl) rfl (lb_ I0.size) (wanted_none rfl) ((fa0_27.at_ 0).trans I0.s0) (fun a0_28 fa0_28 => ?_)
  clear fa0_27
  refine fa0_28.move 51 (.int .i64 (p : Int)) _ (Or.inl rfl) rfl (lb_ I0.size) (wanted_none rfl) ((fa0_28.at_ 5).trans I0.s5) (fun a0_29 fa0_29 => ?_)
  clear fa0_28
  have r_a0_30 : (execOp a0_29.eval { dst := some 52, op := Op.call { callee := Callee.value (Operand.func 65), args := #[Operand.tmp 50, Operand.const (Value.int IntKind.i64 11), Operand.tmp 51], argTypes := #[34, 35, 3] }, type := 0, pos := "ref.go:120", after := #[{ on := 0, ground := Ground.data }, { on := 1, ground := Ground.data }], guard := none }).run Try.prog (wr.drew.drew) = .ok (.enter 65 #[.pointer (some ⟨b, 0, none⟩), Value.int IntKind.i64 11, .int .i64 (p : Int)]) (wr.drew.drew) := by
    have kc : ∀ v, a0_29.eval (.const v) = v := fun _ => rfl
    have kf : ∀ f, a0_29.eval (.func f) = .func (.func f) #[] #[] := fun _ => rfl
    have e50 := (show a0_29.eval (.tmp 50) = .pointer (some ⟨b, 0, none⟩) from (fa0_29.at_ 50))
    have e51 := (show a0_29.eval (.tmp 51) = .int .i64 (p : Int) from (fa0_29.at_ 51))
    clear fa0_29 hQ h8 hr
    generalize a0_29.eval = ρ at *
    go_simp
  refine fa0_29.call 52 rfl (lb_ I0.size) (wanted_none rfl) r_a0_30 (rrfail_calls (d := 11) (q := p) wr.drew.drew (hr.fr d2 (fun f => f))) (fun e VF hR => ?_)
  obtain ⟨rfl, hf, ff⟩ := hR
  clear r_a0_30
  refine ⟨_, rfl, fun a0_30 fa0_30 => ?_⟩
  clear fa0_29
  refine wpList_nil ?_
  change Code.wp _ _ _ _ _
  refine wp_seq ?_
  refine wp_region_list ?_
  unfold rHC14
  refine fa0_30.move 4 (.int .u64 0) _ (Or.inr rfl) rfl (lb_ I0.size) (wanted_none rfl) rfl (fun a0_31 fa0_31 => ?_)
  clear fa0_30
  refine wpList_nil ?_
  change Code.wp _ _ _ _ _
  refine wp_ret ?_
  exact hQ a0_31 VF (fa0_31.defers.trans I0.defers) (show a0_31.eval (.tmp 4) = .int .u64 0 from (fa0_31.at_ 4)) hf (Fr.trans (d2.mono (fun _ _ f => f.elim)) ff (fun _ _ e => e))
set_option maxRecDepth 100000 in
set_option maxHeartbeats 1000000 in
theorem hcC {b p q i n u most : Nat} {s : ByteArray} {Q : Exit → Act → World → Prop} (hQp : ∀ c (a : Act) d v w, Q (.panic c) (a.put d v) w → Q (.panic c) a w) (a0 : Act) (wr : World) (I0 : IHC (.pointer (some ⟨b, 0, none⟩)) (.int .u64 (most : Int)) (.int .i64 (p : Int)) a0) (h6 : a0.eval (.tmp 6) = .int .u64 (n : Int)) (h7 : a0.eval (.tmp 7) = .int .u64 (u : Int)) (h8 : a0.eval (.tmp 8) = .int .i64 (i : Int)) (hr : RRAt wr b s q 0) (hsz : s.size ≤ 1000000000000) {x : Nat} (hq : q < s.size) (hx : (s[q]).toNat = x) {y z n2 u2 : Nat} (hy : x % 128 = y) (hz : y * u = z) (hn2 : n + z = n2) (hn3 : n2 < 18446744073709551616) (hu2 : u * 128 % 18446744073709551616 = u2) (hi : i < 9) (hb : 127 < x) (hQ : ∀ (a : Act) W, IHC (.pointer (some ⟨b, 0, none⟩)) (.int .u64 (most : Int)) (.int .i64 (p : Int)) a → a.eval (.tmp 6) = .int .u64 (n2 : Int) → a.eval (.tmp 7) = .int .u64 (u2 : Int) → a.eval (.tmp 8) = .int .i64 ((i : Int) + 1) → RRAt W b s (q + 1) 0 → Fr (fun k => k = b) wr W → Q .normal a W) : cHC1.wp Try.prog Q a0 wr := by
  have hne : ¬ (q : Int) = (s.size : Int) := by omega
  have hqi : (q : Int) < (s.size : Int) := by omega
  have xl : x < 256 := by rw [← hx]; exact (s[q]).toNat_lt
  have wx : IntKind.u64.wrap (x : Int) = (x : Int) := by rw [IntKind.wrap_u64]; omega
  have w1 : IntKind.i64.wrap ((q : Int) + 1) = ((q + 1 : Nat) : Int) := by rw [IntKind.wrap_i64]; omega
  have hyt : (x : Int).tmod 128 = (y : Int) := by rw [← hy]; rfl
  have hye : (x : Int) % 128 = (y : Int) := by omega
  have wz : IntKind.u64.wrap ((y : Int) * (u : Int)) = (z : Int) := by rw [← Int.natCast_mul, hz, IntKind.wrap_u64]; omega
  have wn : IntKind.u64.wrap ((n : Int) + (z : Int)) = (n2 : Int) := by rw [IntKind.wrap_u64]; omega
  have wu : IntKind.u64.wrap ((u : Int) * 128) = (u2 : Int) := by rw [IntKind.wrap_u64]; omega
  clear hy hz hn2 hu2
  have hi9 : ¬ (i : Int) = 9 := by omega
  have w8 : IntKind.i64.wrap ((i : Int) + 1) = (i : Int) + 1 := by rw [IntKind.wrap_i64]; omega
  have hb2 : ¬ (x : Int) < 128 := by omega
  have hb3 : (128 : Int) ≤ (x : Int) := by omega
  clear hi hb hn3
  have fa0_0 := Fe.refl a0
  have k0 := hr.c0
  have k1 := hr.c1
  have dd : Same wr wr.drew := (Fr.refl (fun _ => False) wr).drew
  unfold cHC1
  refine wp_seq (wp_block (wp_seq (wp_seq ?_)))
  refine wp_region_held_drew (ops := rHC8) (S := fun Z => Same wr Z) (by kernel_rfl) (dd) (fun hS0 => ?_)
  refine fa0_0.takeMove 0 21 (.pointer (some ⟨b, 0, none⟩)) _ (Or.inl rfl) rfl (by kernel_rfl) (by kernel_rfl) (by kernel_rfl) (fun _ _ _ h => hQp _ _ _ _ _ h) rfl (lb_ I0.size) (wanted_none rfl) ((fa0_0.at_ 0).trans I0.s0) hS0 (fun a0_1 fa0_1 => ?_)
  clear fa0_0
  have r_a0_2 : ∀ Z, (fun Z => Same wr Z) Z → (execOp a0_1.eval { dst := some 22, op := Op.nilCheck (Operand.tmp 21), type := 0, pos := "ref.go:114", after := #[{ on := 0, ground := Ground.data }], guard := none }).run Try.prog Z = .ok (.value (.pointer (some ⟨b, 0, none⟩))) Z := fun Z hZ => by
    have e21 := (show a0_1.eval (.tmp 21) = .pointer (some ⟨b, 0, none⟩) from (fa0_1.at_ 21))
    clear fa0_1 hQ h6 h7 h8 hr hsz
    generalize a0_1.eval = ρ at *
    go_simp
  refine fa0_1.take 1 22 (.pointer (some ⟨b, 0, none⟩)) rfl (by kernel_rfl) (by kernel_rfl) (by kernel_rfl) (fun _ _ _ h => hQp _ _ _ _ _ h) rfl (lb_ I0.size) (wanted_none rfl) r_a0_2 hS0 (fun a0_2 fa0_2 => ?_)
  clear r_a0_2
  clear fa0_1
  have r_a0_3 : ∀ Z, (fun Z => Same wr Z) Z → (execOp a0_2.eval { dst := some 23, op := Op.fieldAddr 37 (Operand.tmp 22) 1, type := 0, pos := "ref.go:114", after := #[{ on := 1, ground := Ground.data }], guard := none }).run Try.prog Z = .ok (.value (.pointer (some ⟨b, 1, none⟩))) Z := fun Z hZ => by
    have e22 := (show a0_2.eval (.tmp 22) = .pointer (some ⟨b, 0, none⟩) from (fa0_2.at_ 22))
    clear fa0_2 hQ h6 h7 h8 hr hsz
    generalize a0_2.eval = ρ at *
    go_simp
  refine fa0_2.take 2 23 (.pointer (some ⟨b, 1, none⟩)) rfl (by kernel_rfl) (by kernel_rfl) (by kernel_rfl) (fun _ _ _ h => hQp _ _ _ _ _ h) rfl (lb_ I0.size) (wanted_none rfl) r_a0_3 hS0 (fun a0_3 fa0_3 => ?_)
  clear r_a0_3
  clear fa0_2
  have r_a0_4 : ∀ Z, (fun Z => Same wr Z) Z → (execOp a0_3.eval { dst := some 24, op := Op.load 3 (Operand.tmp 23), type := 3, pos := "ref.go:114", after := #[{ on := 2, ground := Ground.data }], guard := none }).run Try.prog Z = .ok (.value (.int .i64 (q : Int))) Z := fun Z hZ => by
    have q0 := hZ.keep k0
    have q1 := hZ.keep k1
    clear hZ
    have e23 := (show a0_3.eval (.tmp 23) = .pointer (some ⟨b, 1, none⟩) from (fa0_3.at_ 23))
    clear fa0_3 hQ h6 h7 h8 hr hsz
    generalize a0_3.eval = ρ at *
    go_simp
  refine fa0_3.take 3 24 (.int .i64 (q : Int)) rfl (by kernel_rfl) (by kernel_rfl) (by kernel_rfl) (fun _ _ _ h => hQp _ _ _ _ _ h) rfl (lb_ I0.size) (wanted_none rfl) r_a0_4 hS0 (fun a0_4 fa0_4 => ?_)
  clear r_a0_4
  clear fa0_3
  refine fa0_4.takeMove 4 25 (.pointer (some ⟨b, 0, none⟩)) _ (Or.inl rfl) rfl (by kernel_rfl) (by kernel_rfl) (by kernel_rfl) (fun _ _ _ h => hQp _ _ _ _ _ h) rfl (lb_ I0.size) (wanted_none rfl) ((fa0_4.at_ 0).trans I0.s0) hS0 (fun a0_5 fa0_5 => ?_)
  clear fa0_4
  have r_a0_6 : ∀ Z, (fun Z => Same wr Z) Z → (execOp a0_5.eval { dst := some 26, op := Op.nilCheck (Operand.tmp 25), type := 0, pos := "ref.go:114", after := #[{ on := 4, ground := Ground.data }], guard := none }).run Try.prog Z = .ok (.value (.pointer (some ⟨b, 0, none⟩))) Z := fun Z hZ => by
    have e25 := (show a0_5.eval (.tmp 25) = .pointer (some ⟨b, 0, none⟩) from (fa0_5.at_ 25))
    clear fa0_5 hQ h6 h7 h8 hr hsz
    generalize a0_5.eval = ρ at *
    go_simp
  refine fa0_5.take 5 26 (.pointer (some ⟨b, 0, none⟩)) rfl (by kernel_rfl) (by kernel_rfl) (by kernel_rfl) (fun _ _ _ h => hQp _ _ _ _ _ h) rfl (lb_ I0.size) (wanted_none rfl) r_a0_6 hS0 (fun a0_6 fa0_6 => ?_)
  clear r_a0_6
  clear fa0_5
  have r_a0_7 : ∀ Z, (fun Z => Same wr Z) Z → (execOp a0_6.eval { dst := some 27, op := Op.fieldAddr 37 (Operand.tmp 26) 0, type := 0, pos := "ref.go:114", after := #[{ on := 5, ground := Ground.data }], guard := none }).run Try.prog Z = .ok (.value (.pointer (some ⟨b, 0, none⟩))) Z := fun Z hZ => by
    have e26 := (show a0_6.eval (.tmp 26) = .pointer (some ⟨b, 0, none⟩) from (fa0_6.at_ 26))
    clear fa0_6 hQ h6 h7 h8 hr hsz
    generalize a0_6.eval = ρ at *
    go_simp
  refine fa0_6.take 6 27 (.pointer (some ⟨b, 0, none⟩)) rfl (by kernel_rfl) (by kernel_rfl) (by kernel_rfl) (fun _ _ _ h => hQp _ _ _ _ _ h) rfl (lb_ I0.size) (wanted_none rfl) r_a0_7 hS0 (fun a0_7 fa0_7 => ?_)
  clear r_a0_7
  clear fa0_6
  have r_a0_8 : ∀ Z, (fun Z => Same wr Z) Z → (execOp a0_7.eval { dst := some 28, op := Op.load 9 (Operand.tmp 27), type := 9, pos := "ref.go:114", after := #[{ on := 6, ground := Ground.data }], guard := none }).run Try.prog Z = .ok (.value (.string s)) Z := fun Z hZ => by
    have q0 := hZ.keep k0
    have q1 := hZ.keep k1
    clear hZ
    have e27 := (show a0_7.eval (.tmp 27) = .pointer (some ⟨b, 0, none⟩) from (fa0_7.at_ 27))
    clear fa0_7 hQ h6 h7 h8 hr hsz
    generalize a0_7.eval = ρ at *
    go_simp
  refine fa0_7.take 7 28 (.string s) rfl (by kernel_rfl) (by kernel_rfl) (by kernel_rfl) (fun _ _ _ h => hQp _ _ _ _ _ h) rfl (lb_ I0.size) (wanted_none rfl) r_a0_8 hS0 (fun a0_8 fa0_8 => ?_)
  clear r_a0_8
  clear fa0_7
  have r_a0_9 : ∀ Z, (fun Z => Same wr Z) Z → (execOp a0_8.eval { dst := some 29, op := Op.call { callee := Callee.builtin Builtin.len, args := #[Operand.tmp 28], argTypes := #[9] }, type := 3, pos := "ref.go:114", after := #[{ on := 7, ground := Ground.data }], guard := none }).run Try.prog Z = .ok (.value (.int .i64 (s.size : Int))) Z := fun Z hZ => by
    have e28 := (show a0_8.eval (.tmp 28) = .string s from (fa0_8.at_ 28))
    clear fa0_8 hQ h6 h7 h8 hr hsz
    generalize a0_8.eval = ρ at *
    go_simp
  refine fa0_8.take 8 29 (.int .i64 (s.size : Int)) rfl (by kernel_rfl) (by kernel_rfl) (by kernel_rfl) (fun _ _ _ h => hQp _ _ _ _ _ h) rfl (lb_ I0.size) (wanted_none rfl) r_a0_9 hS0 (fun a0_9 fa0_9 => ?_)
  clear r_a0_9
  clear fa0_8
  have r_a0_10 : ∀ Z, (fun Z => Same wr Z) Z → (execOp a0_9.eval { dst := some 30, op := Op.binOp BinOp.eql 3 (Operand.tmp 24) (Operand.tmp 29) 3, type := 4, pos := "ref.go:114", after := #[{ on := 3, ground := Ground.data }, { on := 8, ground := Ground.data }], guard := none }).run Try.prog Z = .ok (.value (.bool false)) Z := fun Z hZ => by
    have e24 := (show a0_9.eval (.tmp 24) = .int .i64 (q : Int) from (fa0_9.at_ 24))
    have e29 := (show a0_9.eval (.tmp 29) = .int .i64 (s.size : Int) from (fa0_9.at_ 29))
    clear fa0_9 hQ h6 h7 h8 hr hsz
    generalize a0_9.eval = ρ at *
    go_simp
  refine fa0_9.take 9 30 (.bool false) rfl (by kernel_rfl) (by kernel_rfl) (by kernel_rfl) (fun _ _ _ h => hQp _ _ _ _ _ h) rfl (lb_ I0.size) (wanted_none rfl) r_a0_10 hS0 (fun a0_10 fa0_10 => ?_)
  clear r_a0_10
  clear fa0_9
  refine wpAnyH_done (by kernel_rfl) ?_ _
  change Code.wp _ _ _ _ _
  refine wp_cond_false (show a0_10.eval (.tmp 30) = .bool false from (fa0_10.at_ 30)) (wp_skip ?_)
  change Code.wp _ _ _ _ _
  refine wp_seq ?_
  have d2 : Same wr wr.drew.drew := dd.trans (Fr.refl (fun _ => False) wr.drew).drew
  refine wp_region_held_drew (ops := rHC11) (S := fun Z => Same wr Z) (by kernel_rfl) (d2) (fun hS10 => ?_)
  refine fa0_10.takeMove 0 34 (.pointer (some ⟨b, 0, none⟩)) _ (Or.inl rfl) rfl (by kernel_rfl) (by kernel_rfl) (by kernel_rfl) (fun _ _ _ h => hQp _ _ _ _ _ h) rfl (lb_ I0.size) (wanted_none rfl) ((fa0_10.at_ 0).trans I0.s0) hS10 (fun a0_11 fa0_11 => ?_)
  clear fa0_10
  have r_a0_12 : ∀ Z, (fun Z => Same wr Z) Z → (execOp a0_11.eval { dst := some 35, op := Op.nilCheck (Operand.tmp 34), type := 0, pos := "ref.go:118", after := #[{ on := 0, ground := Ground.data }], guard := none }).run Try.prog Z = .ok (.value (.pointer (some ⟨b, 0, none⟩))) Z := fun Z hZ => by
    have e34 := (show a0_11.eval (.tmp 34) = .pointer (some ⟨b, 0, none⟩) from (fa0_11.at_ 34))
    clear fa0_11 hQ h6 h7 h8 hr hsz
    generalize a0_11.eval = ρ at *
    go_simp
  refine fa0_11.take 1 35 (.pointer (some ⟨b, 0, none⟩)) rfl (by kernel_rfl) (by kernel_rfl) (by kernel_rfl) (fun _ _ _ h => hQp _ _ _ _ _ h) rfl (lb_ I0.size) (wanted_none rfl) r_a0_12 hS10 (fun a0_12 fa0_12 => ?_)
  clear r_a0_12
  clear fa0_11
  have r_a0_13 : ∀ Z, (fun Z => Same wr Z) Z → (execOp a0_12.eval { dst := some 36, op := Op.fieldAddr 37 (Operand.tmp 35) 0, type := 0, pos := "ref.go:118", after := #[{ on := 1, ground := Ground.data }], guard := none }).run Try.prog Z = .ok (.value (.pointer (some ⟨b, 0, none⟩))) Z := fun Z hZ => by
    have e35 := (show a0_12.eval (.tmp 35) = .pointer (some ⟨b, 0, none⟩) from (fa0_12.at_ 35))
    clear fa0_12 hQ h6 h7 h8 hr hsz
    generalize a0_12.eval = ρ at *
    go_simp
  refine fa0_12.take 2 36 (.pointer (some ⟨b, 0, none⟩)) rfl (by kernel_rfl) (by kernel_rfl) (by kernel_rfl) (fun _ _ _ h => hQp _ _ _ _ _ h) rfl (lb_ I0.size) (wanted_none rfl) r_a0_13 hS10 (fun a0_13 fa0_13 => ?_)
  clear r_a0_13
  clear fa0_12
  have r_a0_14 : ∀ Z, (fun Z => Same wr Z) Z → (execOp a0_13.eval { dst := some 37, op := Op.load 9 (Operand.tmp 36), type := 9, pos := "ref.go:118", after := #[{ on := 2, ground := Ground.data }], guard := none }).run Try.prog Z = .ok (.value (.string s)) Z := fun Z hZ => by
    have q0 := hZ.keep k0
    have q1 := hZ.keep k1
    clear hZ
    have e36 := (show a0_13.eval (.tmp 36) = .pointer (some ⟨b, 0, none⟩) from (fa0_13.at_ 36))
    clear fa0_13 hQ h6 h7 h8 hr hsz
    generalize a0_13.eval = ρ at *
    go_simp
  refine fa0_13.take 3 37 (.string s) rfl (by kernel_rfl) (by kernel_rfl) (by kernel_rfl) (fun _ _ _ h => hQp _ _ _ _ _ h) rfl (lb_ I0.size) (wanted_none rfl) r_a0_14 hS10 (fun a0_14 fa0_14 => ?_)
  clear r_a0_14
  clear fa0_13
  refine fa0_14.takeMove 4 38 (.pointer (some ⟨b, 0, none⟩)) _ (Or.inl rfl) rfl (by kernel_rfl) (by kernel_rfl) (by kernel_rfl) (fun _ _ _ h => hQp _ _ _ _ _ h) rfl (lb_ I0.size) (wanted_none rfl) ((fa0_14.at_ 0).trans I0.s0) hS10 (fun a0_15 fa0_15 => ?_)
  clear fa0_14
  have r_a0_16 : ∀ Z, (fun Z => Same wr Z) Z → (execOp a0_15.eval { dst := some 39, op := Op.nilCheck (Operand.tmp 38), type := 0, pos := "ref.go:118", after := #[{ on := 4, ground := Ground.data }], guard := none }).run Try.prog Z = .ok (.value (.pointer (some ⟨b, 0, none⟩))) Z := fun Z hZ => by
    have e38 := (show a0_15.eval (.tmp 38) = .pointer (some ⟨b, 0, none⟩) from (fa0_15.at_ 38))
    clear fa0_15 hQ h6 h7 h8 hr hsz
    generalize a0_15.eval = ρ at *
    go_simp
  refine fa0_15.take 5 39 (.pointer (some ⟨b, 0, none⟩)) rfl (by kernel_rfl) (by kernel_rfl) (by kernel_rfl) (fun _ _ _ h => hQp _ _ _ _ _ h) rfl (lb_ I0.size) (wanted_none rfl) r_a0_16 hS10 (fun a0_16 fa0_16 => ?_)
  clear r_a0_16
  clear fa0_15
  have r_a0_17 : ∀ Z, (fun Z => Same wr Z) Z → (execOp a0_16.eval { dst := some 40, op := Op.fieldAddr 37 (Operand.tmp 39) 1, type := 0, pos := "ref.go:118", after := #[{ on := 5, ground := Ground.data }], guard := none }).run Try.prog Z = .ok (.value (.pointer (some ⟨b, 1, none⟩))) Z := fun Z hZ => by
    have e39 := (show a0_16.eval (.tmp 39) = .pointer (some ⟨b, 0, none⟩) from (fa0_16.at_ 39))
    clear fa0_16 hQ h6 h7 h8 hr hsz
    generalize a0_16.eval = ρ at *
    go_simp
  refine fa0_16.take 6 40 (.pointer (some ⟨b, 1, none⟩)) rfl (by kernel_rfl) (by kernel_rfl) (by kernel_rfl) (fun _ _ _ h => hQp _ _ _ _ _ h) rfl (lb_ I0.size) (wanted_none rfl) r_a0_17 hS10 (fun a0_17 fa0_17 => ?_)
  clear r_a0_17
  clear fa0_16
  have r_a0_18 : ∀ Z, (fun Z => Same wr Z) Z → (execOp a0_17.eval { dst := some 41, op := Op.load 3 (Operand.tmp 40), type := 3, pos := "ref.go:118", after := #[{ on := 6, ground := Ground.data }], guard := none }).run Try.prog Z = .ok (.value (.int .i64 (q : Int))) Z := fun Z hZ => by
    have q0 := hZ.keep k0
    have q1 := hZ.keep k1
    clear hZ
    have e40 := (show a0_17.eval (.tmp 40) = .pointer (some ⟨b, 1, none⟩) from (fa0_17.at_ 40))
    clear fa0_17 hQ h6 h7 h8 hr hsz
    generalize a0_17.eval = ρ at *
    go_simp
  refine fa0_17.take 7 41 (.int .i64 (q : Int)) rfl (by kernel_rfl) (by kernel_rfl) (by kernel_rfl) (fun _ _ _ h => hQp _ _ _ _ _ h) rfl (lb_ I0.size) (wanted_none rfl) r_a0_18 hS10 (fun a0_18 fa0_18 => ?_)
  clear r_a0_18
  clear fa0_17
  have r_a0_19 : ∀ Z, (fun Z => Same wr Z) Z → (execOp a0_18.eval { dst := some 42, op := Op.index 9 (Operand.tmp 37) (Operand.tmp 41), type := 5, pos := "ref.go:118", after := #[{ on := 3, ground := Ground.data }, { on := 7, ground := Ground.data }], guard := none }).run Try.prog Z = .ok (.value (.int .u8 (x : Int))) Z := fun Z hZ => by
    have e37 := (show a0_18.eval (.tmp 37) = .string s from (fa0_18.at_ 37))
    have e41 := (show a0_18.eval (.tmp 41) = .int .i64 (q : Int) from (fa0_18.at_ 41))
    clear fa0_18 hQ h6 h7 h8 hr hsz
    generalize a0_18.eval = ρ at *
    go_simp
  refine fa0_18.take 8 42 (.int .u8 (x : Int)) rfl (by kernel_rfl) (by kernel_rfl) (by kernel_rfl) (fun _ _ _ h => hQp _ _ _ _ _ h) rfl (lb_ I0.size) (wanted_none rfl) r_a0_19 hS10 (fun a0_19 fa0_19 => ?_)
  clear r_a0_19
  clear fa0_18
  have r_a0_20 : ∀ Z, (fun Z => Same wr Z) Z → (execOp a0_19.eval { dst := some 43, op := Op.convert 5 22 (Operand.tmp 42), type := 22, pos := "ref.go:118", after := #[{ on := 8, ground := Ground.data }], guard := none }).run Try.prog Z = .ok (.value (.int .u64 (x : Int))) Z := fun Z hZ => by
    have e42 := (show a0_19.eval (.tmp 42) = .int .u8 (x : Int) from (fa0_19.at_ 42))
    clear fa0_19 hQ h6 h7 h8 hr hsz
    generalize a0_19.eval = ρ at *
    go_simp
  refine fa0_19.take 9 43 (.int .u64 (x : Int)) rfl (by kernel_rfl) (by kernel_rfl) (by kernel_rfl) (fun _ _ _ h => hQp _ _ _ _ _ h) rfl (lb_ I0.size) (wanted_none rfl) r_a0_20 hS10 (fun a0_20 fa0_20 => ?_)
  clear r_a0_20
  clear fa0_19
  refine fa0_20.takeMove 10 9 (.int .u64 (x : Int)) _ (Or.inr rfl) rfl (by kernel_rfl) (by kernel_rfl) (by kernel_rfl) (fun _ _ _ h => hQp _ _ _ _ _ h) rfl (lb_ I0.size) (wanted_none rfl) (fa0_20.at_ 43) hS10 (fun a0_21 fa0_21 => ?_)
  clear fa0_20
  refine wpAnyH_done (by kernel_rfl) ?_ _
  change Code.wp _ _ _ _ _
  refine wp_seq (wp_seq ?_)
  refine wp_region_list ?_
  unfold rHC12
  refine fa0_21.move 44 (.int .i64 (i : Int)) _ (Or.inl rfl) rfl (lb_ I0.size) (wanted_none rfl) ((fa0_21.at_ 8).trans h8) (fun a0_22 fa0_22 => ?_)
  clear fa0_21
  have r_a0_23 : (execOp a0_22.eval { dst := some 45, op := Op.binOp BinOp.eql 3 (Operand.tmp 44) (Operand.const (Value.int IntKind.i64 9)) 3, type := 4, pos := "ref.go:119", after := #[{ on := 0, ground := Ground.data }], guard := none }).run Try.prog (wr.drew.drew) = .ok (.value (.bool false)) (wr.drew.drew) := by
    have kc : ∀ v, a0_22.eval (.const v) = v := fun _ => rfl
    have e44 := (show a0_22.eval (.tmp 44) = .int .i64 (i : Int) from (fa0_22.at_ 44))
    clear fa0_22 hQ h6 h7 h8 hr hsz
    generalize a0_22.eval = ρ at *
    go_simp
  refine fa0_22.step 45 (.bool false) rfl (lb_ I0.size) (wanted_none rfl) r_a0_23 (fun a0_23 fa0_23 => ?_)
  clear r_a0_23
  clear fa0_22
  refine fa0_23.move 46 (.bool false) _ (Or.inl rfl) rfl (lb_ I0.size) (wanted_none rfl) (fa0_23.at_ 45) (fun a0_24 fa0_24 => ?_)
  clear fa0_23
  refine fa0_24.skip 47 rfl (lb_ I0.size) ((wanted_at (t := 46) (c := false) (b := true) rfl rfl rfl (lb_ (fa0_24.size.trans I0.size)) (fa0_24.at_ 46)).trans (by rfl)) (fun a0_25 fa0_25 => ?_)
  clear fa0_24
  refine fa0_25.skip 48 rfl (lb_ I0.size) ((wanted_at (t := 46) (c := false) (b := true) rfl rfl rfl (lb_ (fa0_25.size.trans I0.size)) (fa0_25.at_ 46)).trans (by rfl)) (fun a0_26 fa0_26 => ?_)
  clear fa0_25
  have r_a0_27 : (execOp a0_26.eval { dst := some 49, op := Op.pick (Operand.tmp 46) (Operand.tmp 48) (Operand.const (Value.bool false)), type := 4, pos := "ref.go:119", after := #[{ on := 2, ground := Ground.data }, { on := 4, ground := Ground.data }], guard := none }).run Try.prog (wr.drew.drew) = .ok (.value (.bool false)) (wr.drew.drew) := by
    have kc : ∀ v, a0_26.eval (.const v) = v := fun _ => rfl
    have e46 := (show a0_26.eval (.tmp 46) = .bool false from (fa0_26.at_ 46))
    have e48 := (show a0_26.eval (.tmp 48) = undef from (fa0_26.at_ 48))
    clear fa0_26 hQ h6 h7 h8 hr hsz
    generalize a0_26.eval = ρ at *
    go_simp
  refine fa0_26.step 49 (.bool false) rfl (lb_ I0.size) (wanted_none rfl) r_a0_27 (fun a0_27 fa0_27 => ?_)
  clear r_a0_27
  clear fa0_26
  refine wpList_nil ?_
  change Code.wp _ _ _ _ _
  refine wp_cond_false (show a0_27.eval (.tmp 49) = .bool false from (fa0_27.at_ 49)) (wp_skip ?_)
  change Code.wp _ _ _ _ _
  refine wp_seq ?_
  have hr2 := hr.fr d2 (fun f => f)
  have k1 := hr2.c1
  have z1 := hr2.z 1
  refine wp_region_list ?_
  unfold rHC15
  refine fa0_27.move 53 (.pointer (some ⟨b, 0, none⟩)) _ (Or.inl rfl) rfl (lb_ I0.size) (wanted_none rfl) ((fa0_27.at_ 0).trans I0.s0) (fun a0_28 fa0_28 => ?_)
  clear fa0_27
  have r_a0_29 : (execOp a0_28.eval { dst := some 54, op := Op.nilCheck (Operand.tmp 53), type := 0, pos := "ref.go:123", after := #[{ on := 0, ground := Ground.data }], guard := none }).run Try.prog (wr.drew.drew) = .ok (.value (.pointer (some ⟨b, 0, none⟩))) (wr.drew.drew) := by
    have e53 := (show a0_28.eval (.tmp 53) = .pointer (some ⟨b, 0, none⟩) from (fa0_28.at_ 53))
    clear fa0_28 hQ h6 h7 h8 hr hsz hr2 d2 dd
    generalize a0_28.eval = ρ at *
    go_simp
  refine fa0_28.step 54 (.pointer (some ⟨b, 0, none⟩)) rfl (lb_ I0.size) (wanted_none rfl) r_a0_29 (fun a0_29 fa0_29 => ?_)
  clear r_a0_29
  clear fa0_28
  have r_a0_30 : (execOp a0_29.eval { dst := some 55, op := Op.fieldAddr 37 (Operand.tmp 54) 1, type := 0, pos := "ref.go:123", after := #[{ on := 1, ground := Ground.data }], guard := none }).run Try.prog (wr.drew.drew) = .ok (.value (.pointer (some ⟨b, 1, none⟩))) (wr.drew.drew) := by
    have e54 := (show a0_29.eval (.tmp 54) = .pointer (some ⟨b, 0, none⟩) from (fa0_29.at_ 54))
    clear fa0_29 hQ h6 h7 h8 hr hsz hr2 d2 dd
    generalize a0_29.eval = ρ at *
    go_simp
  refine fa0_29.step 55 (.pointer (some ⟨b, 1, none⟩)) rfl (lb_ I0.size) (wanted_none rfl) r_a0_30 (fun a0_30 fa0_30 => ?_)
  clear r_a0_30
  clear fa0_29
  have r_a0_31 : (execOp a0_30.eval { dst := some 56, op := Op.load 3 (Operand.tmp 55), type := 3, pos := "ref.go:123", after := #[{ on := 2, ground := Ground.data }], guard := none }).run Try.prog (wr.drew.drew) = .ok (.value (.int .i64 (q : Int))) (wr.drew.drew) := by
    have e55 := (show a0_30.eval (.tmp 55) = .pointer (some ⟨b, 1, none⟩) from (fa0_30.at_ 55))
    clear fa0_30 hQ h6 h7 h8 hr hsz hr2 d2 dd
    generalize a0_30.eval = ρ at *
    go_simp
  refine fa0_30.step 56 (.int .i64 (q : Int)) rfl (lb_ I0.size) (wanted_none rfl) r_a0_31 (fun a0_31 fa0_31 => ?_)
  clear r_a0_31
  clear fa0_30
  have r_a0_32 : (execOp a0_31.eval { dst := some 57, op := Op.binOp BinOp.add 3 (Operand.tmp 56) (Operand.const (Value.int IntKind.i64 1)) 3, type := 3, pos := "ref.go:123", after := #[{ on := 3, ground := Ground.data }], guard := none }).run Try.prog (wr.drew.drew) = .ok (.value (.int .i64 ((q + 1 : Nat) : Int))) (wr.drew.drew) := by
    have kc : ∀ v, a0_31.eval (.const v) = v := fun _ => rfl
    have e56 := (show a0_31.eval (.tmp 56) = .int .i64 (q : Int) from (fa0_31.at_ 56))
    clear fa0_31 hQ h6 h7 h8 hr hsz hr2 d2 dd
    generalize a0_31.eval = ρ at *
    go_simp
  refine fa0_31.step 57 (.int .i64 ((q + 1 : Nat) : Int)) rfl (lb_ I0.size) (wanted_none rfl) r_a0_32 (fun a0_32 fa0_32 => ?_)
  clear r_a0_32
  clear fa0_31
  have r_a0_33 : (execOp a0_32.eval { dst := some 58, op := Op.nilCheck (Operand.tmp 53), type := 0, pos := "ref.go:123", after := #[{ on := 0, ground := Ground.data }, { on := 0, ground := Ground.phase }, { on := 1, ground := Ground.phase }, { on := 2, ground := Ground.phase }, { on := 3, ground := Ground.phase }, { on := 4, ground := Ground.phase }], guard := none }).run Try.prog (wr.drew.drew) = .ok (.value (.pointer (some ⟨b, 0, none⟩))) (wr.drew.drew) := by
    have e53 := (show a0_32.eval (.tmp 53) = .pointer (some ⟨b, 0, none⟩) from (fa0_32.at_ 53))
    clear fa0_32 hQ h6 h7 h8 hr hsz hr2 d2 dd
    generalize a0_32.eval = ρ at *
    go_simp
  refine fa0_32.step 58 (.pointer (some ⟨b, 0, none⟩)) rfl (lb_ I0.size) (wanted_none rfl) r_a0_33 (fun a0_33 fa0_33 => ?_)
  clear r_a0_33
  clear fa0_32
  have r_a0_34 : (execOp a0_33.eval { dst := some 59, op := Op.fieldAddr 37 (Operand.tmp 58) 1, type := 0, pos := "ref.go:123", after := #[{ on := 5, ground := Ground.data }, { on := 0, ground := Ground.phase }, { on := 1, ground := Ground.phase }, { on := 2, ground := Ground.phase }, { on := 3, ground := Ground.phase }, { on := 4, ground := Ground.phase }], guard := none }).run Try.prog (wr.drew.drew) = .ok (.value (.pointer (some ⟨b, 1, none⟩))) (wr.drew.drew) := by
    have e58 := (show a0_33.eval (.tmp 58) = .pointer (some ⟨b, 0, none⟩) from (fa0_33.at_ 58))
    clear fa0_33 hQ h6 h7 h8 hr hsz hr2 d2 dd
    generalize a0_33.eval = ρ at *
    go_simp
  refine fa0_33.step 59 (.pointer (some ⟨b, 1, none⟩)) rfl (lb_ I0.size) (wanted_none rfl) r_a0_34 (fun a0_34 fa0_34 => ?_)
  clear r_a0_34
  clear fa0_33
  have r_a0_35 : (execOp a0_34.eval { dst := none, op := Op.store 3 (Operand.tmp 59) (Operand.tmp 57), type := 0, pos := "ref.go:123", after := #[{ on := 6, ground := Ground.data }, { on := 4, ground := Ground.data }, { on := 0, ground := Ground.phase }, { on := 1, ground := Ground.phase }, { on := 2, ground := Ground.phase }, { on := 3, ground := Ground.phase }, { on := 4, ground := Ground.phase }], guard := none }).run Try.prog (wr.drew.drew) = .ok .skip (World.setCell wr.drew.drew ⟨b, 1, none⟩ (.int .i64 ((q + 1 : Nat) : Int))) := by
    have e59 := (show a0_34.eval (.tmp 59) = .pointer (some ⟨b, 1, none⟩) from (fa0_34.at_ 59))
    have e57 := (show a0_34.eval (.tmp 57) = .int .i64 ((q + 1 : Nat) : Int) from (fa0_34.at_ 57))
    clear fa0_34 hQ h6 h7 h8 hr hsz hr2 d2 dd
    generalize a0_34.eval = ρ at *
    go_simp
  refine fa0_34.store rfl (wanted_none rfl) r_a0_35 (fun a0_35 fa0_35 => ?_)
  clear r_a0_35
  obtain ⟨hv, fv⟩ := hr2.set1 (q + 1)
  generalize World.setCell wr.drew.drew ⟨b, 1, none⟩ (.int .i64 ((q + 1 : Nat) : Int)) = V at *
  have fV : Fr (fun k => k = b) wr V := Fr.trans (d2.mono (fun _ _ f => f.elim)) fv (fun _ _ e => e)
  clear fa0_34
  refine wpList_nil ?_
  change Code.wp _ _ _ _ _
  refine wp_seq ?_
  refine wp_region_list ?_
  unfold rHC16
  refine fa0_35.move 60 (.int .u64 (n : Int)) _ (Or.inl rfl) rfl (lb_ I0.size) (wanted_none rfl) ((fa0_35.at_ 6).trans h6) (fun a0_36 fa0_36 => ?_)
  clear fa0_35
  refine fa0_36.move 61 (.int .u64 (x : Int)) _ (Or.inl rfl) rfl (lb_ I0.size) (wanted_none rfl) (fa0_36.at_ 9) (fun a0_37 fa0_37 => ?_)
  clear fa0_36
  have r_a0_38 : (execOp a0_37.eval { dst := some 62, op := Op.binOp BinOp.rem 22 (Operand.tmp 61) (Operand.const (Value.int IntKind.u64 128)) 22, type := 22, pos := "ref.go:124", after := #[{ on := 1, ground := Ground.data }], guard := none }).run Try.prog (V) = .ok (.value (.int .u64 (y : Int))) (V) := by
    have kc : ∀ v, a0_37.eval (.const v) = v := fun _ => rfl
    have e61 := (show a0_37.eval (.tmp 61) = .int .u64 (x : Int) from (fa0_37.at_ 61))
    clear fa0_37 hQ h6 h7 h8 hr hsz hr2 d2 dd hv fv fV
    generalize a0_37.eval = ρ at *
    go_simp
  refine fa0_37.step 62 (.int .u64 (y : Int)) rfl (lb_ I0.size) (wanted_none rfl) r_a0_38 (fun a0_38 fa0_38 => ?_)
  clear r_a0_38
  clear fa0_37
  refine fa0_38.move 63 (.int .u64 (u : Int)) _ (Or.inl rfl) rfl (lb_ I0.size) (wanted_none rfl) ((fa0_38.at_ 7).trans h7) (fun a0_39 fa0_39 => ?_)
  clear fa0_38
  have r_a0_40 : (execOp a0_39.eval { dst := some 64, op := Op.binOp BinOp.mul 22 (Operand.tmp 62) (Operand.tmp 63) 22, type := 22, pos := "ref.go:124", after := #[{ on := 2, ground := Ground.data }, { on := 3, ground := Ground.data }], guard := none }).run Try.prog (V) = .ok (.value (.int .u64 (z : Int))) (V) := by
    have e62 := (show a0_39.eval (.tmp 62) = .int .u64 (y : Int) from (fa0_39.at_ 62))
    have e63 := (show a0_39.eval (.tmp 63) = .int .u64 (u : Int) from (fa0_39.at_ 63))
    clear fa0_39 hQ h6 h7 h8 hr hsz hr2 d2 dd hv fv fV
    generalize a0_39.eval = ρ at *
    go_simp
  refine fa0_39.step 64 (.int .u64 (z : Int)) rfl (lb_ I0.size) (wanted_none rfl) r_a0_40 (fun a0_40 fa0_40 => ?_)
  clear r_a0_40
  clear fa0_39
  have r_a0_41 : (execOp a0_40.eval { dst := some 65, op := Op.binOp BinOp.add 22 (Operand.tmp 60) (Operand.tmp 64) 22, type := 22, pos := "ref.go:124", after := #[{ on := 0, ground := Ground.data }, { on := 4, ground := Ground.data }], guard := none }).run Try.prog (V) = .ok (.value (.int .u64 (n2 : Int))) (V) := by
    have e60 := (show a0_40.eval (.tmp 60) = .int .u64 (n : Int) from (fa0_40.at_ 60))
    have e64 := (show a0_40.eval (.tmp 64) = .int .u64 (z : Int) from (fa0_40.at_ 64))
    clear fa0_40 hQ h6 h7 h8 hr hsz hr2 d2 dd hv fv fV
    generalize a0_40.eval = ρ at *
    go_simp
  refine fa0_40.step 65 (.int .u64 (n2 : Int)) rfl (lb_ I0.size) (wanted_none rfl) r_a0_41 (fun a0_41 fa0_41 => ?_)
  clear r_a0_41
  clear fa0_40
  refine fa0_41.move 6 (.int .u64 (n2 : Int)) _ (Or.inr rfl) rfl (lb_ I0.size) (wanted_none rfl) (fa0_41.at_ 65) (fun a0_42 fa0_42 => ?_)
  clear fa0_41
  refine wpList_nil ?_
  change Code.wp _ _ _ _ _
  refine wp_seq ?_
  refine wp_region_list ?_
  unfold rHC17
  refine fa0_42.move 66 (.int .u64 (u : Int)) _ (Or.inl rfl) rfl (lb_ I0.size) (wanted_none rfl) ((fa0_42.at_ 7).trans h7) (fun a0_43 fa0_43 => ?_)
  clear fa0_42
  have r_a0_44 : (execOp a0_43.eval { dst := some 67, op := Op.binOp BinOp.mul 22 (Operand.tmp 66) (Operand.const (Value.int IntKind.u64 128)) 22, type := 22, pos := "ref.go:125", after := #[{ on := 0, ground := Ground.data }], guard := none }).run Try.prog (V) = .ok (.value (.int .u64 (u2 : Int))) (V) := by
    have kc : ∀ v, a0_43.eval (.const v) = v := fun _ => rfl
    have e66 := (show a0_43.eval (.tmp 66) = .int .u64 (u : Int) from (fa0_43.at_ 66))
    clear fa0_43 hQ h6 h7 h8 hr hsz hr2 d2 dd hv fv fV
    generalize a0_43.eval = ρ at *
    go_simp
  refine fa0_43.step 67 (.int .u64 (u2 : Int)) rfl (lb_ I0.size) (wanted_none rfl) r_a0_44 (fun a0_44 fa0_44 => ?_)
  clear r_a0_44
  clear fa0_43
  refine fa0_44.move 7 (.int .u64 (u2 : Int)) _ (Or.inr rfl) rfl (lb_ I0.size) (wanted_none rfl) (fa0_44.at_ 67) (fun a0_45 fa0_45 => ?_)
  clear fa0_44
  refine wpList_nil ?_
  change Code.wp _ _ _ _ _
  refine wp_seq ?_
  refine wp_region_list ?_
  unfold rHC18
  refine fa0_45.move 68 (.int .u64 (x : Int)) _ (Or.inl rfl) rfl (lb_ I0.size) (wanted_none rfl) (fa0_45.at_ 9) (fun a0_46 fa0_46 => ?_)
  clear fa0_45
  have r_a0_47 : (execOp a0_46.eval { dst := some 69, op := Op.binOp BinOp.lss 22 (Operand.tmp 68) (Operand.const (Value.int IntKind.u64 128)) 22, type := 4, pos := "ref.go:126", after := #[{ on := 0, ground := Ground.data }], guard := none }).run Try.prog (V) = .ok (.value (.bool false)) (V) := by
    have kc : ∀ v, a0_46.eval (.const v) = v := fun _ => rfl
    have e68 := (show a0_46.eval (.tmp 68) = .int .u64 (x : Int) from (fa0_46.at_ 68))
    clear fa0_46 hQ h6 h7 h8 hr hsz hr2 d2 dd hv fv fV
    generalize a0_46.eval = ρ at *
    go_simp
  refine fa0_46.step 69 (.bool false) rfl (lb_ I0.size) (wanted_none rfl) r_a0_47 (fun a0_47 fa0_47 => ?_)
  clear r_a0_47
  clear fa0_46
  refine wpList_nil ?_
  change Code.wp _ _ _ _ _
  refine wp_cond_false (show a0_47.eval (.tmp 69) = .bool false from (fa0_47.at_ 69)) (wp_skip ?_)
  change Code.wp _ _ _ _ _
  refine wp_region_list ?_
  unfold rHC7
  refine fa0_47.move 19 (.int .i64 (i : Int)) _ (Or.inl rfl) rfl (lb_ I0.size) (wanted_none rfl) ((fa0_47.at_ 8).trans h8) (fun a0_48 fa0_48 => ?_)
  clear fa0_47
  have r_a0_49 : (execOp a0_48.eval { dst := some 20, op := Op.binOp BinOp.add 3 (Operand.tmp 19) (Operand.const (Value.int IntKind.i64 1)) 3, type := 3, pos := "ref.go:113", after := #[{ on := 0, ground := Ground.data }], guard := none }).run Try.prog (V) = .ok (.value (.int .i64 ((i : Int) + 1))) (V) := by
    have kc : ∀ v, a0_48.eval (.const v) = v := fun _ => rfl
    have e19 := (show a0_48.eval (.tmp 19) = .int .i64 (i : Int) from (fa0_48.at_ 19))
    clear fa0_48 hQ h6 h7 h8 hr hsz hr2 d2 dd hv fv fV
    generalize a0_48.eval = ρ at *
    go_simp
  refine fa0_48.step 20 (.int .i64 ((i : Int) + 1)) rfl (lb_ I0.size) (wanted_none rfl) r_a0_49 (fun a0_49 fa0_49 => ?_)
  clear r_a0_49
  clear fa0_48
  refine fa0_49.move 8 (.int .i64 ((i : Int) + 1)) _ (Or.inr rfl) rfl (lb_ I0.size) (wanted_none rfl) (fa0_49.at_ 20) (fun a0_50 fa0_50 => ?_)
  clear fa0_49
  refine wpList_nil ?_
  exact hQ a0_50 V (I0.keep fa0_50 rfl rfl rfl) (show a0_50.eval (.tmp 6) = .int .u64 (n2 : Int) from (fa0_50.at_ 6)) (show a0_50.eval (.tmp 7) = .int .u64 (u2 : Int) from (fa0_50.at_ 7)) (show a0_50.eval (.tmp 8) = .int .i64 ((i : Int) + 1) from (fa0_50.at_ 8)) hv fV
set_option maxRecDepth 100000 in
set_option maxHeartbeats 1000000 in
theorem hcZ0 {b p q i n u most : Nat} {s : ByteArray} {Q : Exit → Act → World → Prop} (hQp : ∀ c (a : Act) d v w, Q (.panic c) (a.put d v) w → Q (.panic c) a w) (a0 : Act) (wr : World) (I0 : IHC (.pointer (some ⟨b, 0, none⟩)) (.int .u64 (most : Int)) (.int .i64 (p : Int)) a0) (h6 : a0.eval (.tmp 6) = .int .u64 (n : Int)) (h7 : a0.eval (.tmp 7) = .int .u64 (u : Int)) (h8 : a0.eval (.tmp 8) = .int .i64 (i : Int)) (hr : RRAt wr b s q 0) (hsz : s.size ≤ 1000000000000) {x : Nat} (hq : q < s.size) (hx : (s[q]).toNat = x) {y z n2 u2 : Nat} (hy : x % 128 = y) (hz : y * u = z) (hn2 : n + z = n2) (hn3 : n2 < 18446744073709551616) (hu2 : u * 128 % 18446744073709551616 = u2) (hi : i < 9) (hp0 : 0 < i) (hb : x = 0) (hQ : ∀ (a : Act) W, a.defers = [] → a.eval (.tmp 4) = .int .u64 0 → RRAt W b s p 11 → Fr (fun k => k = b) wr W → Q .ret a W) : cHC1.wp Try.prog Q a0 wr := by
  have hne : ¬ (q : Int) = (s.size : Int) := by omega
  have hqi : (q : Int) < (s.size : Int) := by omega
  have xl : x < 256 := by rw [← hx]; exact (s[q]).toNat_lt
  have wx : IntKind.u64.wrap (x : Int) = (x : Int) := by rw [IntKind.wrap_u64]; omega
  have w1 : IntKind.i64.wrap ((q : Int) + 1) = ((q + 1 : Nat) : Int) := by rw [IntKind.wrap_i64]; omega
  have hyt : (x : Int).tmod 128 = (y : Int) := by rw [← hy]; rfl
  have hye : (x : Int) % 128 = (y : Int) := by omega
  have wz : IntKind.u64.wrap ((y : Int) * (u : Int)) = (z : Int) := by rw [← Int.natCast_mul, hz, IntKind.wrap_u64]; omega
  have wn : IntKind.u64.wrap ((n : Int) + (z : Int)) = (n2 : Int) := by rw [IntKind.wrap_u64]; omega
  have wu : IntKind.u64.wrap ((u : Int) * 128) = (u2 : Int) := by rw [IntKind.wrap_u64]; omega
  clear hy hz hn2 hu2
  have hi9 : ¬ (i : Int) = 9 := by omega
  have hp2 : (0 : Int) < (i : Int) := by omega
  have hb1 : (x : Int) = 0 := by omega
  have hb2 : (x : Int) < 128 := by omega
  clear hi hb hn3
  have fa0_0 := Fe.refl a0
  have k0 := hr.c0
  have k1 := hr.c1
  have dd : Same wr wr.drew := (Fr.refl (fun _ => False) wr).drew
  unfold cHC1
  refine wp_seq (wp_block (wp_seq (wp_seq ?_)))
  refine wp_region_held_drew (ops := rHC8) (S := fun Z => Same wr Z) (by kernel_rfl) (dd) (fun hS0 => ?_)
  refine fa0_0.takeMove 0 21 (.pointer (some ⟨b, 0, none⟩)) _ (Or.inl rfl) rfl (by kernel_rfl) (by kernel_rfl) (by kernel_rfl) (fun _ _ _ h => hQp _ _ _ _ _ h) rfl (lb_ I0.size) (wanted_none rfl) ((fa0_0.at_ 0).trans I0.s0) hS0 (fun a0_1 fa0_1 => ?_)
  clear fa0_0
  have r_a0_2 : ∀ Z, (fun Z => Same wr Z) Z → (execOp a0_1.eval { dst := some 22, op := Op.nilCheck (Operand.tmp 21), type := 0, pos := "ref.go:114", after := #[{ on := 0, ground := Ground.data }], guard := none }).run Try.prog Z = .ok (.value (.pointer (some ⟨b, 0, none⟩))) Z := fun Z hZ => by
    have e21 := (show a0_1.eval (.tmp 21) = .pointer (some ⟨b, 0, none⟩) from (fa0_1.at_ 21))
    clear fa0_1 hQ h6 h7 h8 hr hsz hb1
    generalize a0_1.eval = ρ at *
    go_simp
  refine fa0_1.take 1 22 (.pointer (some ⟨b, 0, none⟩)) rfl (by kernel_rfl) (by kernel_rfl) (by kernel_rfl) (fun _ _ _ h => hQp _ _ _ _ _ h) rfl (lb_ I0.size) (wanted_none rfl) r_a0_2 hS0 (fun a0_2 fa0_2 => ?_)
  clear r_a0_2
  clear fa0_1
  have r_a0_3 : ∀ Z, (fun Z => Same wr Z) Z → (execOp a0_2.eval { dst := some 23, op := Op.fieldAddr 37 (Operand.tmp 22) 1, type := 0, pos := "ref.go:114", after := #[{ on := 1, ground := Ground.data }], guard := none }).run Try.prog Z = .ok (.value (.pointer (some ⟨b, 1, none⟩))) Z := fun Z hZ => by
    have e22 := (show a0_2.eval (.tmp 22) = .pointer (some ⟨b, 0, none⟩) from (fa0_2.at_ 22))
    clear fa0_2 hQ h6 h7 h8 hr hsz hb1
    generalize a0_2.eval = ρ at *
    go_simp
  refine fa0_2.take 2 23 (.pointer (some ⟨b, 1, none⟩)) rfl (by kernel_rfl) (by kernel_rfl) (by kernel_rfl) (fun _ _ _ h => hQp _ _ _ _ _ h) rfl (lb_ I0.size) (wanted_none rfl) r_a0_3 hS0 (fun a0_3 fa0_3 => ?_)
  clear r_a0_3
  clear fa0_2
  have r_a0_4 : ∀ Z, (fun Z => Same wr Z) Z → (execOp a0_3.eval { dst := some 24, op := Op.load 3 (Operand.tmp 23), type := 3, pos := "ref.go:114", after := #[{ on := 2, ground := Ground.data }], guard := none }).run Try.prog Z = .ok (.value (.int .i64 (q : Int))) Z := fun Z hZ => by
    have q0 := hZ.keep k0
    have q1 := hZ.keep k1
    clear hZ
    have e23 := (show a0_3.eval (.tmp 23) = .pointer (some ⟨b, 1, none⟩) from (fa0_3.at_ 23))
    clear fa0_3 hQ h6 h7 h8 hr hsz hb1
    generalize a0_3.eval = ρ at *
    go_simp
  refine fa0_3.take 3 24 (.int .i64 (q : Int)) rfl (by kernel_rfl) (by kernel_rfl) (by kernel_rfl) (fun _ _ _ h => hQp _ _ _ _ _ h) rfl (lb_ I0.size) (wanted_none rfl) r_a0_4 hS0 (fun a0_4 fa0_4 => ?_)
  clear r_a0_4
  clear fa0_3
  refine fa0_4.takeMove 4 25 (.pointer (some ⟨b, 0, none⟩)) _ (Or.inl rfl) rfl (by kernel_rfl) (by kernel_rfl) (by kernel_rfl) (fun _ _ _ h => hQp _ _ _ _ _ h) rfl (lb_ I0.size) (wanted_none rfl) ((fa0_4.at_ 0).trans I0.s0) hS0 (fun a0_5 fa0_5 => ?_)
  clear fa0_4
  have r_a0_6 : ∀ Z, (fun Z => Same wr Z) Z → (execOp a0_5.eval { dst := some 26, op := Op.nilCheck (Operand.tmp 25), type := 0, pos := "ref.go:114", after := #[{ on := 4, ground := Ground.data }], guard := none }).run Try.prog Z = .ok (.value (.pointer (some ⟨b, 0, none⟩))) Z := fun Z hZ => by
    have e25 := (show a0_5.eval (.tmp 25) = .pointer (some ⟨b, 0, none⟩) from (fa0_5.at_ 25))
    clear fa0_5 hQ h6 h7 h8 hr hsz hb1
    generalize a0_5.eval = ρ at *
    go_simp
  refine fa0_5.take 5 26 (.pointer (some ⟨b, 0, none⟩)) rfl (by kernel_rfl) (by kernel_rfl) (by kernel_rfl) (fun _ _ _ h => hQp _ _ _ _ _ h) rfl (lb_ I0.size) (wanted_none rfl) r_a0_6 hS0 (fun a0_6 fa0_6 => ?_)
  clear r_a0_6
  clear fa0_5
  have r_a0_7 : ∀ Z, (fun Z => Same wr Z) Z → (execOp a0_6.eval { dst := some 27, op := Op.fieldAddr 37 (Operand.tmp 26) 0, type := 0, pos := "ref.go:114", after := #[{ on := 5, ground := Ground.data }], guard := none }).run Try.prog Z = .ok (.value (.pointer (some ⟨b, 0, none⟩))) Z := fun Z hZ => by
    have e26 := (show a0_6.eval (.tmp 26) = .pointer (some ⟨b, 0, none⟩) from (fa0_6.at_ 26))
    clear fa0_6 hQ h6 h7 h8 hr hsz hb1
    generalize a0_6.eval = ρ at *
    go_simp
  refine fa0_6.take 6 27 (.pointer (some ⟨b, 0, none⟩)) rfl (by kernel_rfl) (by kernel_rfl) (by kernel_rfl) (fun _ _ _ h => hQp _ _ _ _ _ h) rfl (lb_ I0.size) (wanted_none rfl) r_a0_7 hS0 (fun a0_7 fa0_7 => ?_)
  clear r_a0_7
  clear fa0_6
  have r_a0_8 : ∀ Z, (fun Z => Same wr Z) Z → (execOp a0_7.eval { dst := some 28, op := Op.load 9 (Operand.tmp 27), type := 9, pos := "ref.go:114", after := #[{ on := 6, ground := Ground.data }], guard := none }).run Try.prog Z = .ok (.value (.string s)) Z := fun Z hZ => by
    have q0 := hZ.keep k0
    have q1 := hZ.keep k1
    clear hZ
    have e27 := (show a0_7.eval (.tmp 27) = .pointer (some ⟨b, 0, none⟩) from (fa0_7.at_ 27))
    clear fa0_7 hQ h6 h7 h8 hr hsz hb1
    generalize a0_7.eval = ρ at *
    go_simp
  refine fa0_7.take 7 28 (.string s) rfl (by kernel_rfl) (by kernel_rfl) (by kernel_rfl) (fun _ _ _ h => hQp _ _ _ _ _ h) rfl (lb_ I0.size) (wanted_none rfl) r_a0_8 hS0 (fun a0_8 fa0_8 => ?_)
  clear r_a0_8
  clear fa0_7
  have r_a0_9 : ∀ Z, (fun Z => Same wr Z) Z → (execOp a0_8.eval { dst := some 29, op := Op.call { callee := Callee.builtin Builtin.len, args := #[Operand.tmp 28], argTypes := #[9] }, type := 3, pos := "ref.go:114", after := #[{ on := 7, ground := Ground.data }], guard := none }).run Try.prog Z = .ok (.value (.int .i64 (s.size : Int))) Z := fun Z hZ => by
    have e28 := (show a0_8.eval (.tmp 28) = .string s from (fa0_8.at_ 28))
    clear fa0_8 hQ h6 h7 h8 hr hsz hb1
    generalize a0_8.eval = ρ at *
    go_simp
  refine fa0_8.take 8 29 (.int .i64 (s.size : Int)) rfl (by kernel_rfl) (by kernel_rfl) (by kernel_rfl) (fun _ _ _ h => hQp _ _ _ _ _ h) rfl (lb_ I0.size) (wanted_none rfl) r_a0_9 hS0 (fun a0_9 fa0_9 => ?_)
  clear r_a0_9
  clear fa0_8
  have r_a0_10 : ∀ Z, (fun Z => Same wr Z) Z → (execOp a0_9.eval { dst := some 30, op := Op.binOp BinOp.eql 3 (Operand.tmp 24) (Operand.tmp 29) 3, type := 4, pos := "ref.go:114", after := #[{ on := 3, ground := Ground.data }, { on := 8, ground := Ground.data }], guard := none }).run Try.prog Z = .ok (.value (.bool false)) Z := fun Z hZ => by
    have e24 := (show a0_9.eval (.tmp 24) = .int .i64 (q : Int) from (fa0_9.at_ 24))
    have e29 := (show a0_9.eval (.tmp 29) = .int .i64 (s.size : Int) from (fa0_9.at_ 29))
    clear fa0_9 hQ h6 h7 h8 hr hsz hb1
    generalize a0_9.eval = ρ at *
    go_simp
  refine fa0_9.take 9 30 (.bool false) rfl (by kernel_rfl) (by kernel_rfl) (by kernel_rfl) (fun _ _ _ h => hQp _ _ _ _ _ h) rfl (lb_ I0.size) (wanted_none rfl) r_a0_10 hS0 (fun a0_10 fa0_10 => ?_)
  clear r_a0_10
  clear fa0_9
  refine wpAnyH_done (by kernel_rfl) ?_ _
  change Code.wp _ _ _ _ _
  refine wp_cond_false (show a0_10.eval (.tmp 30) = .bool false from (fa0_10.at_ 30)) (wp_skip ?_)
  change Code.wp _ _ _ _ _
  refine wp_seq ?_
  have d2 : Same wr wr.drew.drew := dd.trans (Fr.refl (fun _ => False) wr.drew).drew
  refine wp_region_held_drew (ops := rHC11) (S := fun Z => Same wr Z) (by kernel_rfl) (d2) (fun hS10 => ?_)
  refine fa0_10.takeMove 0 34 (.pointer (some ⟨b, 0, none⟩)) _ (Or.inl rfl) rfl (by kernel_rfl) (by kernel_rfl) (by kernel_rfl) (fun _ _ _ h => hQp _ _ _ _ _ h) rfl (lb_ I0.size) (wanted_none rfl) ((fa0_10.at_ 0).trans I0.s0) hS10 (fun a0_11 fa0_11 => ?_)
  clear fa0_10
  have r_a0_12 : ∀ Z, (fun Z => Same wr Z) Z → (execOp a0_11.eval { dst := some 35, op := Op.nilCheck (Operand.tmp 34), type := 0, pos := "ref.go:118", after := #[{ on := 0, ground := Ground.data }], guard := none }).run Try.prog Z = .ok (.value (.pointer (some ⟨b, 0, none⟩))) Z := fun Z hZ => by
    have e34 := (show a0_11.eval (.tmp 34) = .pointer (some ⟨b, 0, none⟩) from (fa0_11.at_ 34))
    clear fa0_11 hQ h6 h7 h8 hr hsz hb1
    generalize a0_11.eval = ρ at *
    go_simp
  refine fa0_11.take 1 35 (.pointer (some ⟨b, 0, none⟩)) rfl (by kernel_rfl) (by kernel_rfl) (by kernel_rfl) (fun _ _ _ h => hQp _ _ _ _ _ h) rfl (lb_ I0.size) (wanted_none rfl) r_a0_12 hS10 (fun a0_12 fa0_12 => ?_)
  clear r_a0_12
  clear fa0_11
  have r_a0_13 : ∀ Z, (fun Z => Same wr Z) Z → (execOp a0_12.eval { dst := some 36, op := Op.fieldAddr 37 (Operand.tmp 35) 0, type := 0, pos := "ref.go:118", after := #[{ on := 1, ground := Ground.data }], guard := none }).run Try.prog Z = .ok (.value (.pointer (some ⟨b, 0, none⟩))) Z := fun Z hZ => by
    have e35 := (show a0_12.eval (.tmp 35) = .pointer (some ⟨b, 0, none⟩) from (fa0_12.at_ 35))
    clear fa0_12 hQ h6 h7 h8 hr hsz hb1
    generalize a0_12.eval = ρ at *
    go_simp
  refine fa0_12.take 2 36 (.pointer (some ⟨b, 0, none⟩)) rfl (by kernel_rfl) (by kernel_rfl) (by kernel_rfl) (fun _ _ _ h => hQp _ _ _ _ _ h) rfl (lb_ I0.size) (wanted_none rfl) r_a0_13 hS10 (fun a0_13 fa0_13 => ?_)
  clear r_a0_13
  clear fa0_12
  have r_a0_14 : ∀ Z, (fun Z => Same wr Z) Z → (execOp a0_13.eval { dst := some 37, op := Op.load 9 (Operand.tmp 36), type := 9, pos := "ref.go:118", after := #[{ on := 2, ground := Ground.data }], guard := none }).run Try.prog Z = .ok (.value (.string s)) Z := fun Z hZ => by
    have q0 := hZ.keep k0
    have q1 := hZ.keep k1
    clear hZ
    have e36 := (show a0_13.eval (.tmp 36) = .pointer (some ⟨b, 0, none⟩) from (fa0_13.at_ 36))
    clear fa0_13 hQ h6 h7 h8 hr hsz hb1
    generalize a0_13.eval = ρ at *
    go_simp
  refine fa0_13.take 3 37 (.string s) rfl (by kernel_rfl) (by kernel_rfl) (by kernel_rfl) (fun _ _ _ h => hQp _ _ _ _ _ h) rfl (lb_ I0.size) (wanted_none rfl) r_a0_14 hS10 (fun a0_14 fa0_14 => ?_)
  clear r_a0_14
  clear fa0_13
  refine fa0_14.takeMove 4 38 (.pointer (some ⟨b, 0, none⟩)) _ (Or.inl rfl) rfl (by kernel_rfl) (by kernel_rfl) (by kernel_rfl) (fun _ _ _ h => hQp _ _ _ _ _ h) rfl (lb_ I0.size) (wanted_none rfl) ((fa0_14.at_ 0).trans I0.s0) hS10 (fun a0_15 fa0_15 => ?_)
  clear fa0_14
  have r_a0_16 : ∀ Z, (fun Z => Same wr Z) Z → (execOp a0_15.eval { dst := some 39, op := Op.nilCheck (Operand.tmp 38), type := 0, pos := "ref.go:118", after := #[{ on := 4, ground := Ground.data }], guard := none }).run Try.prog Z = .ok (.value (.pointer (some ⟨b, 0, none⟩))) Z := fun Z hZ => by
    have e38 := (show a0_15.eval (.tmp 38) = .pointer (some ⟨b, 0, none⟩) from (fa0_15.at_ 38))
    clear fa0_15 hQ h6 h7 h8 hr hsz hb1
    generalize a0_15.eval = ρ at *
    go_simp
  refine fa0_15.take 5 39 (.pointer (some ⟨b, 0, none⟩)) rfl (by kernel_rfl) (by kernel_rfl) (by kernel_rfl) (fun _ _ _ h => hQp _ _ _ _ _ h) rfl (lb_ I0.size) (wanted_none rfl) r_a0_16 hS10 (fun a0_16 fa0_16 => ?_)
  clear r_a0_16
  clear fa0_15
  have r_a0_17 : ∀ Z, (fun Z => Same wr Z) Z → (execOp a0_16.eval { dst := some 40, op := Op.fieldAddr 37 (Operand.tmp 39) 1, type := 0, pos := "ref.go:118", after := #[{ on := 5, ground := Ground.data }], guard := none }).run Try.prog Z = .ok (.value (.pointer (some ⟨b, 1, none⟩))) Z := fun Z hZ => by
    have e39 := (show a0_16.eval (.tmp 39) = .pointer (some ⟨b, 0, none⟩) from (fa0_16.at_ 39))
    clear fa0_16 hQ h6 h7 h8 hr hsz hb1
    generalize a0_16.eval = ρ at *
    go_simp
  refine fa0_16.take 6 40 (.pointer (some ⟨b, 1, none⟩)) rfl (by kernel_rfl) (by kernel_rfl) (by kernel_rfl) (fun _ _ _ h => hQp _ _ _ _ _ h) rfl (lb_ I0.size) (wanted_none rfl) r_a0_17 hS10 (fun a0_17 fa0_17 => ?_)
  clear r_a0_17
  clear fa0_16
  have r_a0_18 : ∀ Z, (fun Z => Same wr Z) Z → (execOp a0_17.eval { dst := some 41, op := Op.load 3 (Operand.tmp 40), type := 3, pos := "ref.go:118", after := #[{ on := 6, ground := Ground.data }], guard := none }).run Try.prog Z = .ok (.value (.int .i64 (q : Int))) Z := fun Z hZ => by
    have q0 := hZ.keep k0
    have q1 := hZ.keep k1
    clear hZ
    have e40 := (show a0_17.eval (.tmp 40) = .pointer (some ⟨b, 1, none⟩) from (fa0_17.at_ 40))
    clear fa0_17 hQ h6 h7 h8 hr hsz hb1
    generalize a0_17.eval = ρ at *
    go_simp
  refine fa0_17.take 7 41 (.int .i64 (q : Int)) rfl (by kernel_rfl) (by kernel_rfl) (by kernel_rfl) (fun _ _ _ h => hQp _ _ _ _ _ h) rfl (lb_ I0.size) (wanted_none rfl) r_a0_18 hS10 (fun a0_18 fa0_18 => ?_)
  clear r_a0_18
  clear fa0_17
  have r_a0_19 : ∀ Z, (fun Z => Same wr Z) Z → (execOp a0_18.eval { dst := some 42, op := Op.index 9 (Operand.tmp 37) (Operand.tmp 41), type := 5, pos := "ref.go:118", after := #[{ on := 3, ground := Ground.data }, { on := 7, ground := Ground.data }], guard := none }).run Try.prog Z = .ok (.value (.int .u8 (x : Int))) Z := fun Z hZ => by
    have e37 := (show a0_18.eval (.tmp 37) = .string s from (fa0_18.at_ 37))
    have e41 := (show a0_18.eval (.tmp 41) = .int .i64 (q : Int) from (fa0_18.at_ 41))
    clear fa0_18 hQ h6 h7 h8 hr hsz hb1
    generalize a0_18.eval = ρ at *
    go_simp
  refine fa0_18.take 8 42 (.int .u8 (x : Int)) rfl (by kernel_rfl) (by kernel_rfl) (by kernel_rfl) (fun _ _ _ h => hQp _ _ _ _ _ h) rfl (lb_ I0.size) (wanted_none rfl) r_a0_19 hS10 (fun a0_19 fa0_19 => ?_)
  clear r_a0_19
  clear fa0_18
  have r_a0_20 : ∀ Z, (fun Z => Same wr Z) Z → (execOp a0_19.eval { dst := some 43, op := Op.convert 5 22 (Operand.tmp 42), type := 22, pos := "ref.go:118", after := #[{ on := 8, ground := Ground.data }], guard := none }).run Try.prog Z = .ok (.value (.int .u64 (x : Int))) Z := fun Z hZ => by
    have e42 := (show a0_19.eval (.tmp 42) = .int .u8 (x : Int) from (fa0_19.at_ 42))
    clear fa0_19 hQ h6 h7 h8 hr hsz hb1
    generalize a0_19.eval = ρ at *
    go_simp
  refine fa0_19.take 9 43 (.int .u64 (x : Int)) rfl (by kernel_rfl) (by kernel_rfl) (by kernel_rfl) (fun _ _ _ h => hQp _ _ _ _ _ h) rfl (lb_ I0.size) (wanted_none rfl) r_a0_20 hS10 (fun a0_20 fa0_20 => ?_)
  clear r_a0_20
  clear fa0_19
  refine fa0_20.takeMove 10 9 (.int .u64 (x : Int)) _ (Or.inr rfl) rfl (by kernel_rfl) (by kernel_rfl) (by kernel_rfl) (fun _ _ _ h => hQp _ _ _ _ _ h) rfl (lb_ I0.size) (wanted_none rfl) (fa0_20.at_ 43) hS10 (fun a0_21 fa0_21 => ?_)
  clear fa0_20
  refine wpAnyH_done (by kernel_rfl) ?_ _
  change Code.wp _ _ _ _ _
  refine wp_seq (wp_seq ?_)
  refine wp_region_list ?_
  unfold rHC12
  refine fa0_21.move 44 (.int .i64 (i : Int)) _ (Or.inl rfl) rfl (lb_ I0.size) (wanted_none rfl) ((fa0_21.at_ 8).trans h8) (fun a0_22 fa0_22 => ?_)
  clear fa0_21
  have r_a0_23 : (execOp a0_22.eval { dst := some 45, op := Op.binOp BinOp.eql 3 (Operand.tmp 44) (Operand.const (Value.int IntKind.i64 9)) 3, type := 4, pos := "ref.go:119", after := #[{ on := 0, ground := Ground.data }], guard := none }).run Try.prog (wr.drew.drew) = .ok (.value (.bool false)) (wr.drew.drew) := by
    have kc : ∀ v, a0_22.eval (.const v) = v := fun _ => rfl
    have e44 := (show a0_22.eval (.tmp 44) = .int .i64 (i : Int) from (fa0_22.at_ 44))
    clear fa0_22 hQ h6 h7 h8 hr hsz hb1
    generalize a0_22.eval = ρ at *
    go_simp
  refine fa0_22.step 45 (.bool false) rfl (lb_ I0.size) (wanted_none rfl) r_a0_23 (fun a0_23 fa0_23 => ?_)
  clear r_a0_23
  clear fa0_22
  refine fa0_23.move 46 (.bool false) _ (Or.inl rfl) rfl (lb_ I0.size) (wanted_none rfl) (fa0_23.at_ 45) (fun a0_24 fa0_24 => ?_)
  clear fa0_23
  refine fa0_24.skip 47 rfl (lb_ I0.size) ((wanted_at (t := 46) (c := false) (b := true) rfl rfl rfl (lb_ (fa0_24.size.trans I0.size)) (fa0_24.at_ 46)).trans (by rfl)) (fun a0_25 fa0_25 => ?_)
  clear fa0_24
  refine fa0_25.skip 48 rfl (lb_ I0.size) ((wanted_at (t := 46) (c := false) (b := true) rfl rfl rfl (lb_ (fa0_25.size.trans I0.size)) (fa0_25.at_ 46)).trans (by rfl)) (fun a0_26 fa0_26 => ?_)
  clear fa0_25
  have r_a0_27 : (execOp a0_26.eval { dst := some 49, op := Op.pick (Operand.tmp 46) (Operand.tmp 48) (Operand.const (Value.bool false)), type := 4, pos := "ref.go:119", after := #[{ on := 2, ground := Ground.data }, { on := 4, ground := Ground.data }], guard := none }).run Try.prog (wr.drew.drew) = .ok (.value (.bool false)) (wr.drew.drew) := by
    have kc : ∀ v, a0_26.eval (.const v) = v := fun _ => rfl
    have e46 := (show a0_26.eval (.tmp 46) = .bool false from (fa0_26.at_ 46))
    have e48 := (show a0_26.eval (.tmp 48) = undef from (fa0_26.at_ 48))
    clear fa0_26 hQ h6 h7 h8 hr hsz hb1
    generalize a0_26.eval = ρ at *
    go_simp
  refine fa0_26.step 49 (.bool false) rfl (lb_ I0.size) (wanted_none rfl) r_a0_27 (fun a0_27 fa0_27 => ?_)
  clear r_a0_27
  clear fa0_26
  refine wpList_nil ?_
  change Code.wp _ _ _ _ _
  refine wp_cond_false (show a0_27.eval (.tmp 49) = .bool false from (fa0_27.at_ 49)) (wp_skip ?_)
  change Code.wp _ _ _ _ _
  refine wp_seq ?_
  have hr2 := hr.fr d2 (fun f => f)
  have k1 := hr2.c1
  have z1 := hr2.z 1
  refine wp_region_list ?_
  unfold rHC15
  refine fa0_27.move 53 (.pointer (some ⟨b, 0, none⟩)) _ (Or.inl rfl) rfl (lb_ I0.size) (wanted_none rfl) ((fa0_27.at_ 0).trans I0.s0) (fun a0_28 fa0_28 => ?_)
  clear fa0_27
  have r_a0_29 : (execOp a0_28.eval { dst := some 54, op := Op.nilCheck (Operand.tmp 53), type := 0, pos := "ref.go:123", after := #[{ on := 0, ground := Ground.data }], guard := none }).run Try.prog (wr.drew.drew) = .ok (.value (.pointer (some ⟨b, 0, none⟩))) (wr.drew.drew) := by
    have e53 := (show a0_28.eval (.tmp 53) = .pointer (some ⟨b, 0, none⟩) from (fa0_28.at_ 53))
    clear fa0_28 hQ h6 h7 h8 hr hsz hb1 hr2 d2 dd
    generalize a0_28.eval = ρ at *
    go_simp
  refine fa0_28.step 54 (.pointer (some ⟨b, 0, none⟩)) rfl (lb_ I0.size) (wanted_none rfl) r_a0_29 (fun a0_29 fa0_29 => ?_)
  clear r_a0_29
  clear fa0_28
  have r_a0_30 : (execOp a0_29.eval { dst := some 55, op := Op.fieldAddr 37 (Operand.tmp 54) 1, type := 0, pos := "ref.go:123", after := #[{ on := 1, ground := Ground.data }], guard := none }).run Try.prog (wr.drew.drew) = .ok (.value (.pointer (some ⟨b, 1, none⟩))) (wr.drew.drew) := by
    have e54 := (show a0_29.eval (.tmp 54) = .pointer (some ⟨b, 0, none⟩) from (fa0_29.at_ 54))
    clear fa0_29 hQ h6 h7 h8 hr hsz hb1 hr2 d2 dd
    generalize a0_29.eval = ρ at *
    go_simp
  refine fa0_29.step 55 (.pointer (some ⟨b, 1, none⟩)) rfl (lb_ I0.size) (wanted_none rfl) r_a0_30 (fun a0_30 fa0_30 => ?_)
  clear r_a0_30
  clear fa0_29
  have r_a0_31 : (execOp a0_30.eval { dst := some 56, op := Op.load 3 (Operand.tmp 55), type := 3, pos := "ref.go:123", after := #[{ on := 2, ground := Ground.data }], guard := none }).run Try.prog (wr.drew.drew) = .ok (.value (.int .i64 (q : Int))) (wr.drew.drew) := by
    have e55 := (show a0_30.eval (.tmp 55) = .pointer (some ⟨b, 1, none⟩) from (fa0_30.at_ 55))
    clear fa0_30 hQ h6 h7 h8 hr hsz hb1 hr2 d2 dd
    generalize a0_30.eval = ρ at *
    go_simp
  refine fa0_30.step 56 (.int .i64 (q : Int)) rfl (lb_ I0.size) (wanted_none rfl) r_a0_31 (fun a0_31 fa0_31 => ?_)
  clear r_a0_31
  clear fa0_30
  have r_a0_32 : (execOp a0_31.eval { dst := some 57, op := Op.binOp BinOp.add 3 (Operand.tmp 56) (Operand.const (Value.int IntKind.i64 1)) 3, type := 3, pos := "ref.go:123", after := #[{ on := 3, ground := Ground.data }], guard := none }).run Try.prog (wr.drew.drew) = .ok (.value (.int .i64 ((q + 1 : Nat) : Int))) (wr.drew.drew) := by
    have kc : ∀ v, a0_31.eval (.const v) = v := fun _ => rfl
    have e56 := (show a0_31.eval (.tmp 56) = .int .i64 (q : Int) from (fa0_31.at_ 56))
    clear fa0_31 hQ h6 h7 h8 hr hsz hb1 hr2 d2 dd
    generalize a0_31.eval = ρ at *
    go_simp
  refine fa0_31.step 57 (.int .i64 ((q + 1 : Nat) : Int)) rfl (lb_ I0.size) (wanted_none rfl) r_a0_32 (fun a0_32 fa0_32 => ?_)
  clear r_a0_32
  clear fa0_31
  have r_a0_33 : (execOp a0_32.eval { dst := some 58, op := Op.nilCheck (Operand.tmp 53), type := 0, pos := "ref.go:123", after := #[{ on := 0, ground := Ground.data }, { on := 0, ground := Ground.phase }, { on := 1, ground := Ground.phase }, { on := 2, ground := Ground.phase }, { on := 3, ground := Ground.phase }, { on := 4, ground := Ground.phase }], guard := none }).run Try.prog (wr.drew.drew) = .ok (.value (.pointer (some ⟨b, 0, none⟩))) (wr.drew.drew) := by
    have e53 := (show a0_32.eval (.tmp 53) = .pointer (some ⟨b, 0, none⟩) from (fa0_32.at_ 53))
    clear fa0_32 hQ h6 h7 h8 hr hsz hb1 hr2 d2 dd
    generalize a0_32.eval = ρ at *
    go_simp
  refine fa0_32.step 58 (.pointer (some ⟨b, 0, none⟩)) rfl (lb_ I0.size) (wanted_none rfl) r_a0_33 (fun a0_33 fa0_33 => ?_)
  clear r_a0_33
  clear fa0_32
  have r_a0_34 : (execOp a0_33.eval { dst := some 59, op := Op.fieldAddr 37 (Operand.tmp 58) 1, type := 0, pos := "ref.go:123", after := #[{ on := 5, ground := Ground.data }, { on := 0, ground := Ground.phase }, { on := 1, ground := Ground.phase }, { on := 2, ground := Ground.phase }, { on := 3, ground := Ground.phase }, { on := 4, ground := Ground.phase }], guard := none }).run Try.prog (wr.drew.drew) = .ok (.value (.pointer (some ⟨b, 1, none⟩))) (wr.drew.drew) := by
    have e58 := (show a0_33.eval (.tmp 58) = .pointer (some ⟨b, 0, none⟩) from (fa0_33.at_ 58))
    clear fa0_33 hQ h6 h7 h8 hr hsz hb1 hr2 d2 dd
    generalize a0_33.eval = ρ at *
    go_simp
  refine fa0_33.step 59 (.pointer (some ⟨b, 1, none⟩)) rfl (lb_ I0.size) (wanted_none rfl) r_a0_34 (fun a0_34 fa0_34 => ?_)
  clear r_a0_34
  clear fa0_33
  have r_a0_35 : (execOp a0_34.eval { dst := none, op := Op.store 3 (Operand.tmp 59) (Operand.tmp 57), type := 0, pos := "ref.go:123", after := #[{ on := 6, ground := Ground.data }, { on := 4, ground := Ground.data }, { on := 0, ground := Ground.phase }, { on := 1, ground := Ground.phase }, { on := 2, ground := Ground.phase }, { on := 3, ground := Ground.phase }, { on := 4, ground := Ground.phase }], guard := none }).run Try.prog (wr.drew.drew) = .ok .skip (World.setCell wr.drew.drew ⟨b, 1, none⟩ (.int .i64 ((q + 1 : Nat) : Int))) := by
    have e59 := (show a0_34.eval (.tmp 59) = .pointer (some ⟨b, 1, none⟩) from (fa0_34.at_ 59))
    have e57 := (show a0_34.eval (.tmp 57) = .int .i64 ((q + 1 : Nat) : Int) from (fa0_34.at_ 57))
    clear fa0_34 hQ h6 h7 h8 hr hsz hb1 hr2 d2 dd
    generalize a0_34.eval = ρ at *
    go_simp
  refine fa0_34.store rfl (wanted_none rfl) r_a0_35 (fun a0_35 fa0_35 => ?_)
  clear r_a0_35
  obtain ⟨hv, fv⟩ := hr2.set1 (q + 1)
  generalize World.setCell wr.drew.drew ⟨b, 1, none⟩ (.int .i64 ((q + 1 : Nat) : Int)) = V at *
  have fV : Fr (fun k => k = b) wr V := Fr.trans (d2.mono (fun _ _ f => f.elim)) fv (fun _ _ e => e)
  clear fa0_34
  refine wpList_nil ?_
  change Code.wp _ _ _ _ _
  refine wp_seq ?_
  refine wp_region_list ?_
  unfold rHC16
  refine fa0_35.move 60 (.int .u64 (n : Int)) _ (Or.inl rfl) rfl (lb_ I0.size) (wanted_none rfl) ((fa0_35.at_ 6).trans h6) (fun a0_36 fa0_36 => ?_)
  clear fa0_35
  refine fa0_36.move 61 (.int .u64 (x : Int)) _ (Or.inl rfl) rfl (lb_ I0.size) (wanted_none rfl) (fa0_36.at_ 9) (fun a0_37 fa0_37 => ?_)
  clear fa0_36
  have r_a0_38 : (execOp a0_37.eval { dst := some 62, op := Op.binOp BinOp.rem 22 (Operand.tmp 61) (Operand.const (Value.int IntKind.u64 128)) 22, type := 22, pos := "ref.go:124", after := #[{ on := 1, ground := Ground.data }], guard := none }).run Try.prog (V) = .ok (.value (.int .u64 (y : Int))) (V) := by
    have kc : ∀ v, a0_37.eval (.const v) = v := fun _ => rfl
    have e61 := (show a0_37.eval (.tmp 61) = .int .u64 (x : Int) from (fa0_37.at_ 61))
    clear fa0_37 hQ h6 h7 h8 hr hsz hb1 hr2 d2 dd hv fv fV
    generalize a0_37.eval = ρ at *
    go_simp
  refine fa0_37.step 62 (.int .u64 (y : Int)) rfl (lb_ I0.size) (wanted_none rfl) r_a0_38 (fun a0_38 fa0_38 => ?_)
  clear r_a0_38
  clear fa0_37
  refine fa0_38.move 63 (.int .u64 (u : Int)) _ (Or.inl rfl) rfl (lb_ I0.size) (wanted_none rfl) ((fa0_38.at_ 7).trans h7) (fun a0_39 fa0_39 => ?_)
  clear fa0_38
  have r_a0_40 : (execOp a0_39.eval { dst := some 64, op := Op.binOp BinOp.mul 22 (Operand.tmp 62) (Operand.tmp 63) 22, type := 22, pos := "ref.go:124", after := #[{ on := 2, ground := Ground.data }, { on := 3, ground := Ground.data }], guard := none }).run Try.prog (V) = .ok (.value (.int .u64 (z : Int))) (V) := by
    have e62 := (show a0_39.eval (.tmp 62) = .int .u64 (y : Int) from (fa0_39.at_ 62))
    have e63 := (show a0_39.eval (.tmp 63) = .int .u64 (u : Int) from (fa0_39.at_ 63))
    clear fa0_39 hQ h6 h7 h8 hr hsz hb1 hr2 d2 dd hv fv fV
    generalize a0_39.eval = ρ at *
    go_simp
  refine fa0_39.step 64 (.int .u64 (z : Int)) rfl (lb_ I0.size) (wanted_none rfl) r_a0_40 (fun a0_40 fa0_40 => ?_)
  clear r_a0_40
  clear fa0_39
  have r_a0_41 : (execOp a0_40.eval { dst := some 65, op := Op.binOp BinOp.add 22 (Operand.tmp 60) (Operand.tmp 64) 22, type := 22, pos := "ref.go:124", after := #[{ on := 0, ground := Ground.data }, { on := 4, ground := Ground.data }], guard := none }).run Try.prog (V) = .ok (.value (.int .u64 (n2 : Int))) (V) := by
    have e60 := (show a0_40.eval (.tmp 60) = .int .u64 (n : Int) from (fa0_40.at_ 60))
    have e64 := (show a0_40.eval (.tmp 64) = .int .u64 (z : Int) from (fa0_40.at_ 64))
    clear fa0_40 hQ h6 h7 h8 hr hsz hb1 hr2 d2 dd hv fv fV
    generalize a0_40.eval = ρ at *
    go_simp
  refine fa0_40.step 65 (.int .u64 (n2 : Int)) rfl (lb_ I0.size) (wanted_none rfl) r_a0_41 (fun a0_41 fa0_41 => ?_)
  clear r_a0_41
  clear fa0_40
  refine fa0_41.move 6 (.int .u64 (n2 : Int)) _ (Or.inr rfl) rfl (lb_ I0.size) (wanted_none rfl) (fa0_41.at_ 65) (fun a0_42 fa0_42 => ?_)
  clear fa0_41
  refine wpList_nil ?_
  change Code.wp _ _ _ _ _
  refine wp_seq ?_
  refine wp_region_list ?_
  unfold rHC17
  refine fa0_42.move 66 (.int .u64 (u : Int)) _ (Or.inl rfl) rfl (lb_ I0.size) (wanted_none rfl) ((fa0_42.at_ 7).trans h7) (fun a0_43 fa0_43 => ?_)
  clear fa0_42
  have r_a0_44 : (execOp a0_43.eval { dst := some 67, op := Op.binOp BinOp.mul 22 (Operand.tmp 66) (Operand.const (Value.int IntKind.u64 128)) 22, type := 22, pos := "ref.go:125", after := #[{ on := 0, ground := Ground.data }], guard := none }).run Try.prog (V) = .ok (.value (.int .u64 (u2 : Int))) (V) := by
    have kc : ∀ v, a0_43.eval (.const v) = v := fun _ => rfl
    have e66 := (show a0_43.eval (.tmp 66) = .int .u64 (u : Int) from (fa0_43.at_ 66))
    clear fa0_43 hQ h6 h7 h8 hr hsz hb1 hr2 d2 dd hv fv fV
    generalize a0_43.eval = ρ at *
    go_simp
  refine fa0_43.step 67 (.int .u64 (u2 : Int)) rfl (lb_ I0.size) (wanted_none rfl) r_a0_44 (fun a0_44 fa0_44 => ?_)
  clear r_a0_44
  clear fa0_43
  refine fa0_44.move 7 (.int .u64 (u2 : Int)) _ (Or.inr rfl) rfl (lb_ I0.size) (wanted_none rfl) (fa0_44.at_ 67) (fun a0_45 fa0_45 => ?_)
  clear fa0_44
  refine wpList_nil ?_
  change Code.wp _ _ _ _ _
  refine wp_seq ?_
  refine wp_region_list ?_
  unfold rHC18
  refine fa0_45.move 68 (.int .u64 (x : Int)) _ (Or.inl rfl) rfl (lb_ I0.size) (wanted_none rfl) (fa0_45.at_ 9) (fun a0_46 fa0_46 => ?_)
  clear fa0_45
  have r_a0_47 : (execOp a0_46.eval { dst := some 69, op := Op.binOp BinOp.lss 22 (Operand.tmp 68) (Operand.const (Value.int IntKind.u64 128)) 22, type := 4, pos := "ref.go:126", after := #[{ on := 0, ground := Ground.data }], guard := none }).run Try.prog (V) = .ok (.value (.bool true)) (V) := by
    have kc : ∀ v, a0_46.eval (.const v) = v := fun _ => rfl
    have e68 := (show a0_46.eval (.tmp 68) = .int .u64 (x : Int) from (fa0_46.at_ 68))
    clear fa0_46 hQ h6 h7 h8 hr hsz hb1 hr2 d2 dd hv fv fV
    generalize a0_46.eval = ρ at *
    go_simp
  refine fa0_46.step 69 (.bool true) rfl (lb_ I0.size) (wanted_none rfl) r_a0_47 (fun a0_47 fa0_47 => ?_)
  clear r_a0_47
  clear fa0_46
  refine wpList_nil ?_
  change Code.wp _ _ _ _ _
  refine wp_cond_true (show a0_47.eval (.tmp 69) = .bool true from (fa0_47.at_ 69)) (wp_seq (wp_seq ?_))
  refine wp_region_list ?_
  unfold rHC19
  refine fa0_47.move 70 (.int .u64 (x : Int)) _ (Or.inl rfl) rfl (lb_ I0.size) (wanted_none rfl) (fa0_47.at_ 9) (fun a0_48 fa0_48 => ?_)
  clear fa0_47
  have r_a0_49 : (execOp a0_48.eval { dst := some 71, op := Op.binOp BinOp.eql 22 (Operand.tmp 70) (Operand.const (Value.int IntKind.u64 0)) 22, type := 4, pos := "ref.go:127", after := #[{ on := 0, ground := Ground.data }], guard := none }).run Try.prog (V) = .ok (.value (.bool true)) (V) := by
    have kc : ∀ v, a0_48.eval (.const v) = v := fun _ => rfl
    have e70 := (show a0_48.eval (.tmp 70) = .int .u64 (x : Int) from (fa0_48.at_ 70))
    clear fa0_48 hQ h6 h7 h8 hr hsz hr2 d2 dd hv fv fV
    generalize a0_48.eval = ρ at *
    go_simp
  refine fa0_48.step 71 (.bool true) rfl (lb_ I0.size) (wanted_none rfl) r_a0_49 (fun a0_49 fa0_49 => ?_)
  clear r_a0_49
  clear fa0_48
  refine fa0_49.move 72 (.bool true) _ (Or.inl rfl) rfl (lb_ I0.size) (wanted_none rfl) (fa0_49.at_ 71) (fun a0_50 fa0_50 => ?_)
  clear fa0_49
  refine fa0_50.move 73 (.int .i64 (i : Int)) _ (Or.inl rfl) rfl (lb_ I0.size) ((wanted_at (t := 72) (c := true) (b := true) rfl rfl rfl (lb_ (fa0_50.size.trans I0.size)) (fa0_50.at_ 72)).trans (by rfl)) ((fa0_50.at_ 8).trans h8) (fun a0_51 fa0_51 => ?_)
  clear fa0_50
  have r_a0_52 : (execOp a0_51.eval { dst := some 74, op := Op.binOp BinOp.gtr 3 (Operand.tmp 73) (Operand.const (Value.int IntKind.i64 0)) 3, type := 4, pos := "ref.go:127", after := #[{ on := 3, ground := Ground.data }, { on := 2, ground := Ground.guard }], guard := some (2, true) }).run Try.prog (V) = .ok (.value (.bool true)) (V) := by
    have kc : ∀ v, a0_51.eval (.const v) = v := fun _ => rfl
    have e73 := (show a0_51.eval (.tmp 73) = .int .i64 (i : Int) from (fa0_51.at_ 73))
    clear fa0_51 hQ h6 h7 h8 hr hsz hr2 d2 dd hv fv fV
    generalize a0_51.eval = ρ at *
    go_simp
  refine fa0_51.step 74 (.bool true) rfl (lb_ I0.size) ((wanted_at (t := 72) (c := true) (b := true) rfl rfl rfl (lb_ (fa0_51.size.trans I0.size)) (fa0_51.at_ 72)).trans (by rfl)) r_a0_52 (fun a0_52 fa0_52 => ?_)
  clear r_a0_52
  clear fa0_51
  have r_a0_53 : (execOp a0_52.eval { dst := some 75, op := Op.pick (Operand.tmp 72) (Operand.tmp 74) (Operand.const (Value.bool false)), type := 4, pos := "ref.go:127", after := #[{ on := 2, ground := Ground.data }, { on := 4, ground := Ground.data }], guard := none }).run Try.prog (V) = .ok (.value (.bool true)) (V) := by
    have kc : ∀ v, a0_52.eval (.const v) = v := fun _ => rfl
    have e72 := (show a0_52.eval (.tmp 72) = .bool true from (fa0_52.at_ 72))
    have e74 := (show a0_52.eval (.tmp 74) = .bool true from (fa0_52.at_ 74))
    clear fa0_52 hQ h6 h7 h8 hr hsz hr2 d2 dd hv fv fV
    generalize a0_52.eval = ρ at *
    go_simp
  refine fa0_52.step 75 (.bool true) rfl (lb_ I0.size) (wanted_none rfl) r_a0_53 (fun a0_53 fa0_53 => ?_)
  clear r_a0_53
  clear fa0_52
  refine wpList_nil ?_
  change Code.wp _ _ _ _ _
  refine wp_cond_true (show a0_53.eval (.tmp 75) = .bool true from (fa0_53.at_ 75)) (wp_seq ?_)
  refine wp_region_list ?_
  unfold rHC20
  refine fa0_53.move 76 (.pointer (some ⟨b, 0, none⟩)) _ (Or.inl rfl) rfl (lb_ I0.size) (wanted_none rfl) ((fa0_53.at_ 0).trans I0.s0) (fun a0_54 fa0_54 => ?_)
  clear fa0_53
  refine fa0_54.move 77 (.int .i64 (p : Int)) _ (Or.inl rfl) rfl (lb_ I0.size) (wanted_none rfl) ((fa0_54.at_ 5).trans I0.s5) (fun a0_55 fa0_55 => ?_)
  clear fa0_54
  have r_a0_56 : (execOp a0_55.eval { dst := some 78, op := Op.call { callee := Callee.value (Operand.func 65), args := #[Operand.tmp 76, Operand.const (Value.int IntKind.i64 11), Operand.tmp 77], argTypes := #[34, 35, 3] }, type := 0, pos := "ref.go:128", after := #[{ on := 0, ground := Ground.data }, { on := 1, ground := Ground.data }], guard := none }).run Try.prog (V) = .ok (.enter 65 #[.pointer (some ⟨b, 0, none⟩), Value.int IntKind.i64 11, .int .i64 (p : Int)]) (V) := by
    have kc : ∀ v, a0_55.eval (.const v) = v := fun _ => rfl
    have kf : ∀ f, a0_55.eval (.func f) = .func (.func f) #[] #[] := fun _ => rfl
    have e76 := (show a0_55.eval (.tmp 76) = .pointer (some ⟨b, 0, none⟩) from (fa0_55.at_ 76))
    have e77 := (show a0_55.eval (.tmp 77) = .int .i64 (p : Int) from (fa0_55.at_ 77))
    clear fa0_55 hQ h6 h7 h8 hr hsz hr2 d2 dd hv fv fV
    generalize a0_55.eval = ρ at *
    go_simp
  refine fa0_55.call 78 rfl (lb_ I0.size) (wanted_none rfl) r_a0_56 (rrfail_calls (d := 11) (q := p) V hv) (fun e VF hR => ?_)
  obtain ⟨rfl, hf, ff⟩ := hR
  clear r_a0_56
  refine ⟨_, rfl, fun a0_56 fa0_56 => ?_⟩
  clear fa0_55
  refine wpList_nil ?_
  change Code.wp _ _ _ _ _
  refine wp_seq ?_
  refine wp_region_list ?_
  unfold rHC21
  refine fa0_56.move 4 (.int .u64 0) _ (Or.inr rfl) rfl (lb_ I0.size) (wanted_none rfl) rfl (fun a0_57 fa0_57 => ?_)
  clear fa0_56
  refine wpList_nil ?_
  change Code.wp _ _ _ _ _
  refine wp_ret ?_
  exact hQ a0_57 VF (fa0_57.defers.trans I0.defers) (show a0_57.eval (.tmp 4) = .int .u64 0 from (fa0_57.at_ 4)) hf (Fr.trans fV ff (fun _ _ e => e))
set_option maxRecDepth 100000 in
set_option maxHeartbeats 1000000 in
theorem hcM00 {b p q i n u most : Nat} {s : ByteArray} {Q : Exit → Act → World → Prop} (hQp : ∀ c (a : Act) d v w, Q (.panic c) (a.put d v) w → Q (.panic c) a w) (a0 : Act) (wr : World) (I0 : IHC (.pointer (some ⟨b, 0, none⟩)) (.int .u64 (most : Int)) (.int .i64 (p : Int)) a0) (h6 : a0.eval (.tmp 6) = .int .u64 (n : Int)) (h7 : a0.eval (.tmp 7) = .int .u64 (u : Int)) (h8 : a0.eval (.tmp 8) = .int .i64 (i : Int)) (hr : RRAt wr b s q 0) (hsz : s.size ≤ 1000000000000) {x : Nat} (hq : q < s.size) (hx : (s[q]).toNat = x) {y z n2 u2 : Nat} (hy : x % 128 = y) (hz : y * u = z) (hn2 : n + z = n2) (hn3 : n2 < 18446744073709551616) (hu2 : u * 128 % 18446744073709551616 = u2) (hi : i < 9) (hb : 0 < x ∧ x < 128) (hmo : most < n2) (hQ : ∀ (a : Act) W, a.defers = [] → a.eval (.tmp 4) = .int .u64 0 → RRAt W b s p 12 → Fr (fun k => k = b) wr W → Q .ret a W) : cHC1.wp Try.prog Q a0 wr := by
  have hne : ¬ (q : Int) = (s.size : Int) := by omega
  have hqi : (q : Int) < (s.size : Int) := by omega
  have xl : x < 256 := by rw [← hx]; exact (s[q]).toNat_lt
  have wx : IntKind.u64.wrap (x : Int) = (x : Int) := by rw [IntKind.wrap_u64]; omega
  have w1 : IntKind.i64.wrap ((q : Int) + 1) = ((q + 1 : Nat) : Int) := by rw [IntKind.wrap_i64]; omega
  have hyt : (x : Int).tmod 128 = (y : Int) := by rw [← hy]; rfl
  have hye : (x : Int) % 128 = (y : Int) := by omega
  have wz : IntKind.u64.wrap ((y : Int) * (u : Int)) = (z : Int) := by rw [← Int.natCast_mul, hz, IntKind.wrap_u64]; omega
  have wn : IntKind.u64.wrap ((n : Int) + (z : Int)) = (n2 : Int) := by rw [IntKind.wrap_u64]; omega
  have wu : IntKind.u64.wrap ((u : Int) * 128) = (u2 : Int) := by rw [IntKind.wrap_u64]; omega
  clear hy hz hn2 hu2
  have hi9 : ¬ (i : Int) = 9 := by omega
  have hb1 : ¬ (x : Int) = 0 := by omega
  have hb1n : ¬ x = 0 := by omega
  have hb2 : (x : Int) < 128 := by omega
  have hm2 : (most : Int) < (n2 : Int) := by omega
  clear hb hn3 hmo hi
  have fa0_0 := Fe.refl a0
  have k0 := hr.c0
  have k1 := hr.c1
  have dd : Same wr wr.drew := (Fr.refl (fun _ => False) wr).drew
  unfold cHC1
  refine wp_seq (wp_block (wp_seq (wp_seq ?_)))
  refine wp_region_held_drew (ops := rHC8) (S := fun Z => Same wr Z) (by kernel_rfl) (dd) (fun hS0 => ?_)
  refine fa0_0.takeMove 0 21 (.pointer (some ⟨b, 0, none⟩)) _ (Or.inl rfl) rfl (by kernel_rfl) (by kernel_rfl) (by kernel_rfl) (fun _ _ _ h => hQp _ _ _ _ _ h) rfl (lb_ I0.size) (wanted_none rfl) ((fa0_0.at_ 0).trans I0.s0) hS0 (fun a0_1 fa0_1 => ?_)
  clear fa0_0
  have r_a0_2 : ∀ Z, (fun Z => Same wr Z) Z → (execOp a0_1.eval { dst := some 22, op := Op.nilCheck (Operand.tmp 21), type := 0, pos := "ref.go:114", after := #[{ on := 0, ground := Ground.data }], guard := none }).run Try.prog Z = .ok (.value (.pointer (some ⟨b, 0, none⟩))) Z := fun Z hZ => by
    have e21 := (show a0_1.eval (.tmp 21) = .pointer (some ⟨b, 0, none⟩) from (fa0_1.at_ 21))
    clear fa0_1 hQ h6 h7 h8 hr hsz
    generalize a0_1.eval = ρ at *
    go_simp
  refine fa0_1.take 1 22 (.pointer (some ⟨b, 0, none⟩)) rfl (by kernel_rfl) (by kernel_rfl) (by kernel_rfl) (fun _ _ _ h => hQp _ _ _ _ _ h) rfl (lb_ I0.size) (wanted_none rfl) r_a0_2 hS0 (fun a0_2 fa0_2 => ?_)
  clear r_a0_2
  clear fa0_1
  have r_a0_3 : ∀ Z, (fun Z => Same wr Z) Z → (execOp a0_2.eval { dst := some 23, op := Op.fieldAddr 37 (Operand.tmp 22) 1, type := 0, pos := "ref.go:114", after := #[{ on := 1, ground := Ground.data }], guard := none }).run Try.prog Z = .ok (.value (.pointer (some ⟨b, 1, none⟩))) Z := fun Z hZ => by
    have e22 := (show a0_2.eval (.tmp 22) = .pointer (some ⟨b, 0, none⟩) from (fa0_2.at_ 22))
    clear fa0_2 hQ h6 h7 h8 hr hsz
    generalize a0_2.eval = ρ at *
    go_simp
  refine fa0_2.take 2 23 (.pointer (some ⟨b, 1, none⟩)) rfl (by kernel_rfl) (by kernel_rfl) (by kernel_rfl) (fun _ _ _ h => hQp _ _ _ _ _ h) rfl (lb_ I0.size) (wanted_none rfl) r_a0_3 hS0 (fun a0_3 fa0_3 => ?_)
  clear r_a0_3
  clear fa0_2
  have r_a0_4 : ∀ Z, (fun Z => Same wr Z) Z → (execOp a0_3.eval { dst := some 24, op := Op.load 3 (Operand.tmp 23), type := 3, pos := "ref.go:114", after := #[{ on := 2, ground := Ground.data }], guard := none }).run Try.prog Z = .ok (.value (.int .i64 (q : Int))) Z := fun Z hZ => by
    have q0 := hZ.keep k0
    have q1 := hZ.keep k1
    clear hZ
    have e23 := (show a0_3.eval (.tmp 23) = .pointer (some ⟨b, 1, none⟩) from (fa0_3.at_ 23))
    clear fa0_3 hQ h6 h7 h8 hr hsz
    generalize a0_3.eval = ρ at *
    go_simp
  refine fa0_3.take 3 24 (.int .i64 (q : Int)) rfl (by kernel_rfl) (by kernel_rfl) (by kernel_rfl) (fun _ _ _ h => hQp _ _ _ _ _ h) rfl (lb_ I0.size) (wanted_none rfl) r_a0_4 hS0 (fun a0_4 fa0_4 => ?_)
  clear r_a0_4
  clear fa0_3
  refine fa0_4.takeMove 4 25 (.pointer (some ⟨b, 0, none⟩)) _ (Or.inl rfl) rfl (by kernel_rfl) (by kernel_rfl) (by kernel_rfl) (fun _ _ _ h => hQp _ _ _ _ _ h) rfl (lb_ I0.size) (wanted_none rfl) ((fa0_4.at_ 0).trans I0.s0) hS0 (fun a0_5 fa0_5 => ?_)
  clear fa0_4
  have r_a0_6 : ∀ Z, (fun Z => Same wr Z) Z → (execOp a0_5.eval { dst := some 26, op := Op.nilCheck (Operand.tmp 25), type := 0, pos := "ref.go:114", after := #[{ on := 4, ground := Ground.data }], guard := none }).run Try.prog Z = .ok (.value (.pointer (some ⟨b, 0, none⟩))) Z := fun Z hZ => by
    have e25 := (show a0_5.eval (.tmp 25) = .pointer (some ⟨b, 0, none⟩) from (fa0_5.at_ 25))
    clear fa0_5 hQ h6 h7 h8 hr hsz
    generalize a0_5.eval = ρ at *
    go_simp
  refine fa0_5.take 5 26 (.pointer (some ⟨b, 0, none⟩)) rfl (by kernel_rfl) (by kernel_rfl) (by kernel_rfl) (fun _ _ _ h => hQp _ _ _ _ _ h) rfl (lb_ I0.size) (wanted_none rfl) r_a0_6 hS0 (fun a0_6 fa0_6 => ?_)
  clear r_a0_6
  clear fa0_5
  have r_a0_7 : ∀ Z, (fun Z => Same wr Z) Z → (execOp a0_6.eval { dst := some 27, op := Op.fieldAddr 37 (Operand.tmp 26) 0, type := 0, pos := "ref.go:114", after := #[{ on := 5, ground := Ground.data }], guard := none }).run Try.prog Z = .ok (.value (.pointer (some ⟨b, 0, none⟩))) Z := fun Z hZ => by
    have e26 := (show a0_6.eval (.tmp 26) = .pointer (some ⟨b, 0, none⟩) from (fa0_6.at_ 26))
    clear fa0_6 hQ h6 h7 h8 hr hsz
    generalize a0_6.eval = ρ at *
    go_simp
  refine fa0_6.take 6 27 (.pointer (some ⟨b, 0, none⟩)) rfl (by kernel_rfl) (by kernel_rfl) (by kernel_rfl) (fun _ _ _ h => hQp _ _ _ _ _ h) rfl (lb_ I0.size) (wanted_none rfl) r_a0_7 hS0 (fun a0_7 fa0_7 => ?_)
  clear r_a0_7
  clear fa0_6
  have r_a0_8 : ∀ Z, (fun Z => Same wr Z) Z → (execOp a0_7.eval { dst := some 28, op := Op.load 9 (Operand.tmp 27), type := 9, pos := "ref.go:114", after := #[{ on := 6, ground := Ground.data }], guard := none }).run Try.prog Z = .ok (.value (.string s)) Z := fun Z hZ => by
    have q0 := hZ.keep k0
    have q1 := hZ.keep k1
    clear hZ
    have e27 := (show a0_7.eval (.tmp 27) = .pointer (some ⟨b, 0, none⟩) from (fa0_7.at_ 27))
    clear fa0_7 hQ h6 h7 h8 hr hsz
    generalize a0_7.eval = ρ at *
    go_simp
  refine fa0_7.take 7 28 (.string s) rfl (by kernel_rfl) (by kernel_rfl) (by kernel_rfl) (fun _ _ _ h => hQp _ _ _ _ _ h) rfl (lb_ I0.size) (wanted_none rfl) r_a0_8 hS0 (fun a0_8 fa0_8 => ?_)
  clear r_a0_8
  clear fa0_7
  have r_a0_9 : ∀ Z, (fun Z => Same wr Z) Z → (execOp a0_8.eval { dst := some 29, op := Op.call { callee := Callee.builtin Builtin.len, args := #[Operand.tmp 28], argTypes := #[9] }, type := 3, pos := "ref.go:114", after := #[{ on := 7, ground := Ground.data }], guard := none }).run Try.prog Z = .ok (.value (.int .i64 (s.size : Int))) Z := fun Z hZ => by
    have e28 := (show a0_8.eval (.tmp 28) = .string s from (fa0_8.at_ 28))
    clear fa0_8 hQ h6 h7 h8 hr hsz
    generalize a0_8.eval = ρ at *
    go_simp
  refine fa0_8.take 8 29 (.int .i64 (s.size : Int)) rfl (by kernel_rfl) (by kernel_rfl) (by kernel_rfl) (fun _ _ _ h => hQp _ _ _ _ _ h) rfl (lb_ I0.size) (wanted_none rfl) r_a0_9 hS0 (fun a0_9 fa0_9 => ?_)
  clear r_a0_9
  clear fa0_8
  have r_a0_10 : ∀ Z, (fun Z => Same wr Z) Z → (execOp a0_9.eval { dst := some 30, op := Op.binOp BinOp.eql 3 (Operand.tmp 24) (Operand.tmp 29) 3, type := 4, pos := "ref.go:114", after := #[{ on := 3, ground := Ground.data }, { on := 8, ground := Ground.data }], guard := none }).run Try.prog Z = .ok (.value (.bool false)) Z := fun Z hZ => by
    have e24 := (show a0_9.eval (.tmp 24) = .int .i64 (q : Int) from (fa0_9.at_ 24))
    have e29 := (show a0_9.eval (.tmp 29) = .int .i64 (s.size : Int) from (fa0_9.at_ 29))
    clear fa0_9 hQ h6 h7 h8 hr hsz
    generalize a0_9.eval = ρ at *
    go_simp
  refine fa0_9.take 9 30 (.bool false) rfl (by kernel_rfl) (by kernel_rfl) (by kernel_rfl) (fun _ _ _ h => hQp _ _ _ _ _ h) rfl (lb_ I0.size) (wanted_none rfl) r_a0_10 hS0 (fun a0_10 fa0_10 => ?_)
  clear r_a0_10
  clear fa0_9
  refine wpAnyH_done (by kernel_rfl) ?_ _
  change Code.wp _ _ _ _ _
  refine wp_cond_false (show a0_10.eval (.tmp 30) = .bool false from (fa0_10.at_ 30)) (wp_skip ?_)
  change Code.wp _ _ _ _ _
  refine wp_seq ?_
  have d2 : Same wr wr.drew.drew := dd.trans (Fr.refl (fun _ => False) wr.drew).drew
  refine wp_region_held_drew (ops := rHC11) (S := fun Z => Same wr Z) (by kernel_rfl) (d2) (fun hS10 => ?_)
  refine fa0_10.takeMove 0 34 (.pointer (some ⟨b, 0, none⟩)) _ (Or.inl rfl) rfl (by kernel_rfl) (by kernel_rfl) (by kernel_rfl) (fun _ _ _ h => hQp _ _ _ _ _ h) rfl (lb_ I0.size) (wanted_none rfl) ((fa0_10.at_ 0).trans I0.s0) hS10 (fun a0_11 fa0_11 => ?_)
  clear fa0_10
  have r_a0_12 : ∀ Z, (fun Z => Same wr Z) Z → (execOp a0_11.eval { dst := some 35, op := Op.nilCheck (Operand.tmp 34), type := 0, pos := "ref.go:118", after := #[{ on := 0, ground := Ground.data }], guard := none }).run Try.prog Z = .ok (.value (.pointer (some ⟨b, 0, none⟩))) Z := fun Z hZ => by
    have e34 := (show a0_11.eval (.tmp 34) = .pointer (some ⟨b, 0, none⟩) from (fa0_11.at_ 34))
    clear fa0_11 hQ h6 h7 h8 hr hsz
    generalize a0_11.eval = ρ at *
    go_simp
  refine fa0_11.take 1 35 (.pointer (some ⟨b, 0, none⟩)) rfl (by kernel_rfl) (by kernel_rfl) (by kernel_rfl) (fun _ _ _ h => hQp _ _ _ _ _ h) rfl (lb_ I0.size) (wanted_none rfl) r_a0_12 hS10 (fun a0_12 fa0_12 => ?_)
  clear r_a0_12
  clear fa0_11
  have r_a0_13 : ∀ Z, (fun Z => Same wr Z) Z → (execOp a0_12.eval { dst := some 36, op := Op.fieldAddr 37 (Operand.tmp 35) 0, type := 0, pos := "ref.go:118", after := #[{ on := 1, ground := Ground.data }], guard := none }).run Try.prog Z = .ok (.value (.pointer (some ⟨b, 0, none⟩))) Z := fun Z hZ => by
    have e35 := (show a0_12.eval (.tmp 35) = .pointer (some ⟨b, 0, none⟩) from (fa0_12.at_ 35))
    clear fa0_12 hQ h6 h7 h8 hr hsz
    generalize a0_12.eval = ρ at *
    go_simp
  refine fa0_12.take 2 36 (.pointer (some ⟨b, 0, none⟩)) rfl (by kernel_rfl) (by kernel_rfl) (by kernel_rfl) (fun _ _ _ h => hQp _ _ _ _ _ h) rfl (lb_ I0.size) (wanted_none rfl) r_a0_13 hS10 (fun a0_13 fa0_13 => ?_)
  clear r_a0_13
  clear fa0_12
  have r_a0_14 : ∀ Z, (fun Z => Same wr Z) Z → (execOp a0_13.eval { dst := some 37, op := Op.load 9 (Operand.tmp 36), type := 9, pos := "ref.go:118", after := #[{ on := 2, ground := Ground.data }], guard := none }).run Try.prog Z = .ok (.value (.string s)) Z := fun Z hZ => by
    have q0 := hZ.keep k0
    have q1 := hZ.keep k1
    clear hZ
    have e36 := (show a0_13.eval (.tmp 36) = .pointer (some ⟨b, 0, none⟩) from (fa0_13.at_ 36))
    clear fa0_13 hQ h6 h7 h8 hr hsz
    generalize a0_13.eval = ρ at *
    go_simp
  refine fa0_13.take 3 37 (.string s) rfl (by kernel_rfl) (by kernel_rfl) (by kernel_rfl) (fun _ _ _ h => hQp _ _ _ _ _ h) rfl (lb_ I0.size) (wanted_none rfl) r_a0_14 hS10 (fun a0_14 fa0_14 => ?_)
  clear r_a0_14
  clear fa0_13
  refine fa0_14.takeMove 4 38 (.pointer (some ⟨b, 0, none⟩)) _ (Or.inl rfl) rfl (by kernel_rfl) (by kernel_rfl) (by kernel_rfl) (fun _ _ _ h => hQp _ _ _ _ _ h) rfl (lb_ I0.size) (wanted_none rfl) ((fa0_14.at_ 0).trans I0.s0) hS10 (fun a0_15 fa0_15 => ?_)
  clear fa0_14
  have r_a0_16 : ∀ Z, (fun Z => Same wr Z) Z → (execOp a0_15.eval { dst := some 39, op := Op.nilCheck (Operand.tmp 38), type := 0, pos := "ref.go:118", after := #[{ on := 4, ground := Ground.data }], guard := none }).run Try.prog Z = .ok (.value (.pointer (some ⟨b, 0, none⟩))) Z := fun Z hZ => by
    have e38 := (show a0_15.eval (.tmp 38) = .pointer (some ⟨b, 0, none⟩) from (fa0_15.at_ 38))
    clear fa0_15 hQ h6 h7 h8 hr hsz
    generalize a0_15.eval = ρ at *
    go_simp
  refine fa0_15.take 5 39 (.pointer (some ⟨b, 0, none⟩)) rfl (by kernel_rfl) (by kernel_rfl) (by kernel_rfl) (fun _ _ _ h => hQp _ _ _ _ _ h) rfl (lb_ I0.size) (wanted_none rfl) r_a0_16 hS10 (fun a0_16 fa0_16 => ?_)
  clear r_a0_16
  clear fa0_15
  have r_a0_17 : ∀ Z, (fun Z => Same wr Z) Z → (execOp a0_16.eval { dst := some 40, op := Op.fieldAddr 37 (Operand.tmp 39) 1, type := 0, pos := "ref.go:118", after := #[{ on := 5, ground := Ground.data }], guard := none }).run Try.prog Z = .ok (.value (.pointer (some ⟨b, 1, none⟩))) Z := fun Z hZ => by
    have e39 := (show a0_16.eval (.tmp 39) = .pointer (some ⟨b, 0, none⟩) from (fa0_16.at_ 39))
    clear fa0_16 hQ h6 h7 h8 hr hsz
    generalize a0_16.eval = ρ at *
    go_simp
  refine fa0_16.take 6 40 (.pointer (some ⟨b, 1, none⟩)) rfl (by kernel_rfl) (by kernel_rfl) (by kernel_rfl) (fun _ _ _ h => hQp _ _ _ _ _ h) rfl (lb_ I0.size) (wanted_none rfl) r_a0_17 hS10 (fun a0_17 fa0_17 => ?_)
  clear r_a0_17
  clear fa0_16
  have r_a0_18 : ∀ Z, (fun Z => Same wr Z) Z → (execOp a0_17.eval { dst := some 41, op := Op.load 3 (Operand.tmp 40), type := 3, pos := "ref.go:118", after := #[{ on := 6, ground := Ground.data }], guard := none }).run Try.prog Z = .ok (.value (.int .i64 (q : Int))) Z := fun Z hZ => by
    have q0 := hZ.keep k0
    have q1 := hZ.keep k1
    clear hZ
    have e40 := (show a0_17.eval (.tmp 40) = .pointer (some ⟨b, 1, none⟩) from (fa0_17.at_ 40))
    clear fa0_17 hQ h6 h7 h8 hr hsz
    generalize a0_17.eval = ρ at *
    go_simp
  refine fa0_17.take 7 41 (.int .i64 (q : Int)) rfl (by kernel_rfl) (by kernel_rfl) (by kernel_rfl) (fun _ _ _ h => hQp _ _ _ _ _ h) rfl (lb_ I0.size) (wanted_none rfl) r_a0_18 hS10 (fun a0_18 fa0_18 => ?_)
  clear r_a0_18
  clear fa0_17
  have r_a0_19 : ∀ Z, (fun Z => Same wr Z) Z → (execOp a0_18.eval { dst := some 42, op := Op.index 9 (Operand.tmp 37) (Operand.tmp 41), type := 5, pos := "ref.go:118", after := #[{ on := 3, ground := Ground.data }, { on := 7, ground := Ground.data }], guard := none }).run Try.prog Z = .ok (.value (.int .u8 (x : Int))) Z := fun Z hZ => by
    have e37 := (show a0_18.eval (.tmp 37) = .string s from (fa0_18.at_ 37))
    have e41 := (show a0_18.eval (.tmp 41) = .int .i64 (q : Int) from (fa0_18.at_ 41))
    clear fa0_18 hQ h6 h7 h8 hr hsz
    generalize a0_18.eval = ρ at *
    go_simp
  refine fa0_18.take 8 42 (.int .u8 (x : Int)) rfl (by kernel_rfl) (by kernel_rfl) (by kernel_rfl) (fun _ _ _ h => hQp _ _ _ _ _ h) rfl (lb_ I0.size) (wanted_none rfl) r_a0_19 hS10 (fun a0_19 fa0_19 => ?_)
  clear r_a0_19
  clear fa0_18
  have r_a0_20 : ∀ Z, (fun Z => Same wr Z) Z → (execOp a0_19.eval { dst := some 43, op := Op.convert 5 22 (Operand.tmp 42), type := 22, pos := "ref.go:118", after := #[{ on := 8, ground := Ground.data }], guard := none }).run Try.prog Z = .ok (.value (.int .u64 (x : Int))) Z := fun Z hZ => by
    have e42 := (show a0_19.eval (.tmp 42) = .int .u8 (x : Int) from (fa0_19.at_ 42))
    clear fa0_19 hQ h6 h7 h8 hr hsz
    generalize a0_19.eval = ρ at *
    go_simp
  refine fa0_19.take 9 43 (.int .u64 (x : Int)) rfl (by kernel_rfl) (by kernel_rfl) (by kernel_rfl) (fun _ _ _ h => hQp _ _ _ _ _ h) rfl (lb_ I0.size) (wanted_none rfl) r_a0_20 hS10 (fun a0_20 fa0_20 => ?_)
  clear r_a0_20
  clear fa0_19
  refine fa0_20.takeMove 10 9 (.int .u64 (x : Int)) _ (Or.inr rfl) rfl (by kernel_rfl) (by kernel_rfl) (by kernel_rfl) (fun _ _ _ h => hQp _ _ _ _ _ h) rfl (lb_ I0.size) (wanted_none rfl) (fa0_20.at_ 43) hS10 (fun a0_21 fa0_21 => ?_)
  clear fa0_20
  refine wpAnyH_done (by kernel_rfl) ?_ _
  change Code.wp _ _ _ _ _
  refine wp_seq (wp_seq ?_)
  refine wp_region_list ?_
  unfold rHC12
  refine fa0_21.move 44 (.int .i64 (i : Int)) _ (Or.inl rfl) rfl (lb_ I0.size) (wanted_none rfl) ((fa0_21.at_ 8).trans h8) (fun a0_22 fa0_22 => ?_)
  clear fa0_21
  have r_a0_23 : (execOp a0_22.eval { dst := some 45, op := Op.binOp BinOp.eql 3 (Operand.tmp 44) (Operand.const (Value.int IntKind.i64 9)) 3, type := 4, pos := "ref.go:119", after := #[{ on := 0, ground := Ground.data }], guard := none }).run Try.prog (wr.drew.drew) = .ok (.value (.bool false)) (wr.drew.drew) := by
    have kc : ∀ v, a0_22.eval (.const v) = v := fun _ => rfl
    have e44 := (show a0_22.eval (.tmp 44) = .int .i64 (i : Int) from (fa0_22.at_ 44))
    clear fa0_22 hQ h6 h7 h8 hr hsz
    generalize a0_22.eval = ρ at *
    go_simp
  refine fa0_22.step 45 (.bool false) rfl (lb_ I0.size) (wanted_none rfl) r_a0_23 (fun a0_23 fa0_23 => ?_)
  clear r_a0_23
  clear fa0_22
  refine fa0_23.move 46 (.bool false) _ (Or.inl rfl) rfl (lb_ I0.size) (wanted_none rfl) (fa0_23.at_ 45) (fun a0_24 fa0_24 => ?_)
  clear fa0_23
  refine fa0_24.skip 47 rfl (lb_ I0.size) ((wanted_at (t := 46) (c := false) (b := true) rfl rfl rfl (lb_ (fa0_24.size.trans I0.size)) (fa0_24.at_ 46)).trans (by rfl)) (fun a0_25 fa0_25 => ?_)
  clear fa0_24
  refine fa0_25.skip 48 rfl (lb_ I0.size) ((wanted_at (t := 46) (c := false) (b := true) rfl rfl rfl (lb_ (fa0_25.size.trans I0.size)) (fa0_25.at_ 46)).trans (by rfl)) (fun a0_26 fa0_26 => ?_)
  clear fa0_25
  have r_a0_27 : (execOp a0_26.eval { dst := some 49, op := Op.pick (Operand.tmp 46) (Operand.tmp 48) (Operand.const (Value.bool false)), type := 4, pos := "ref.go:119", after := #[{ on := 2, ground := Ground.data }, { on := 4, ground := Ground.data }], guard := none }).run Try.prog (wr.drew.drew) = .ok (.value (.bool false)) (wr.drew.drew) := by
    have kc : ∀ v, a0_26.eval (.const v) = v := fun _ => rfl
    have e46 := (show a0_26.eval (.tmp 46) = .bool false from (fa0_26.at_ 46))
    have e48 := (show a0_26.eval (.tmp 48) = undef from (fa0_26.at_ 48))
    clear fa0_26 hQ h6 h7 h8 hr hsz
    generalize a0_26.eval = ρ at *
    go_simp
  refine fa0_26.step 49 (.bool false) rfl (lb_ I0.size) (wanted_none rfl) r_a0_27 (fun a0_27 fa0_27 => ?_)
  clear r_a0_27
  clear fa0_26
  refine wpList_nil ?_
  change Code.wp _ _ _ _ _
  refine wp_cond_false (show a0_27.eval (.tmp 49) = .bool false from (fa0_27.at_ 49)) (wp_skip ?_)
  change Code.wp _ _ _ _ _
  refine wp_seq ?_
  have hr2 := hr.fr d2 (fun f => f)
  have k1 := hr2.c1
  have z1 := hr2.z 1
  refine wp_region_list ?_
  unfold rHC15
  refine fa0_27.move 53 (.pointer (some ⟨b, 0, none⟩)) _ (Or.inl rfl) rfl (lb_ I0.size) (wanted_none rfl) ((fa0_27.at_ 0).trans I0.s0) (fun a0_28 fa0_28 => ?_)
  clear fa0_27
  have r_a0_29 : (execOp a0_28.eval { dst := some 54, op := Op.nilCheck (Operand.tmp 53), type := 0, pos := "ref.go:123", after := #[{ on := 0, ground := Ground.data }], guard := none }).run Try.prog (wr.drew.drew) = .ok (.value (.pointer (some ⟨b, 0, none⟩))) (wr.drew.drew) := by
    have e53 := (show a0_28.eval (.tmp 53) = .pointer (some ⟨b, 0, none⟩) from (fa0_28.at_ 53))
    clear fa0_28 hQ h6 h7 h8 hr hsz hr2 d2 dd
    generalize a0_28.eval = ρ at *
    go_simp
  refine fa0_28.step 54 (.pointer (some ⟨b, 0, none⟩)) rfl (lb_ I0.size) (wanted_none rfl) r_a0_29 (fun a0_29 fa0_29 => ?_)
  clear r_a0_29
  clear fa0_28
  have r_a0_30 : (execOp a0_29.eval { dst := some 55, op := Op.fieldAddr 37 (Operand.tmp 54) 1, type := 0, pos := "ref.go:123", after := #[{ on := 1, ground := Ground.data }], guard := none }).run Try.prog (wr.drew.drew) = .ok (.value (.pointer (some ⟨b, 1, none⟩))) (wr.drew.drew) := by
    have e54 := (show a0_29.eval (.tmp 54) = .pointer (some ⟨b, 0, none⟩) from (fa0_29.at_ 54))
    clear fa0_29 hQ h6 h7 h8 hr hsz hr2 d2 dd
    generalize a0_29.eval = ρ at *
    go_simp
  refine fa0_29.step 55 (.pointer (some ⟨b, 1, none⟩)) rfl (lb_ I0.size) (wanted_none rfl) r_a0_30 (fun a0_30 fa0_30 => ?_)
  clear r_a0_30
  clear fa0_29
  have r_a0_31 : (execOp a0_30.eval { dst := some 56, op := Op.load 3 (Operand.tmp 55), type := 3, pos := "ref.go:123", after := #[{ on := 2, ground := Ground.data }], guard := none }).run Try.prog (wr.drew.drew) = .ok (.value (.int .i64 (q : Int))) (wr.drew.drew) := by
    have e55 := (show a0_30.eval (.tmp 55) = .pointer (some ⟨b, 1, none⟩) from (fa0_30.at_ 55))
    clear fa0_30 hQ h6 h7 h8 hr hsz hr2 d2 dd
    generalize a0_30.eval = ρ at *
    go_simp
  refine fa0_30.step 56 (.int .i64 (q : Int)) rfl (lb_ I0.size) (wanted_none rfl) r_a0_31 (fun a0_31 fa0_31 => ?_)
  clear r_a0_31
  clear fa0_30
  have r_a0_32 : (execOp a0_31.eval { dst := some 57, op := Op.binOp BinOp.add 3 (Operand.tmp 56) (Operand.const (Value.int IntKind.i64 1)) 3, type := 3, pos := "ref.go:123", after := #[{ on := 3, ground := Ground.data }], guard := none }).run Try.prog (wr.drew.drew) = .ok (.value (.int .i64 ((q + 1 : Nat) : Int))) (wr.drew.drew) := by
    have kc : ∀ v, a0_31.eval (.const v) = v := fun _ => rfl
    have e56 := (show a0_31.eval (.tmp 56) = .int .i64 (q : Int) from (fa0_31.at_ 56))
    clear fa0_31 hQ h6 h7 h8 hr hsz hr2 d2 dd
    generalize a0_31.eval = ρ at *
    go_simp
  refine fa0_31.step 57 (.int .i64 ((q + 1 : Nat) : Int)) rfl (lb_ I0.size) (wanted_none rfl) r_a0_32 (fun a0_32 fa0_32 => ?_)
  clear r_a0_32
  clear fa0_31
  have r_a0_33 : (execOp a0_32.eval { dst := some 58, op := Op.nilCheck (Operand.tmp 53), type := 0, pos := "ref.go:123", after := #[{ on := 0, ground := Ground.data }, { on := 0, ground := Ground.phase }, { on := 1, ground := Ground.phase }, { on := 2, ground := Ground.phase }, { on := 3, ground := Ground.phase }, { on := 4, ground := Ground.phase }], guard := none }).run Try.prog (wr.drew.drew) = .ok (.value (.pointer (some ⟨b, 0, none⟩))) (wr.drew.drew) := by
    have e53 := (show a0_32.eval (.tmp 53) = .pointer (some ⟨b, 0, none⟩) from (fa0_32.at_ 53))
    clear fa0_32 hQ h6 h7 h8 hr hsz hr2 d2 dd
    generalize a0_32.eval = ρ at *
    go_simp
  refine fa0_32.step 58 (.pointer (some ⟨b, 0, none⟩)) rfl (lb_ I0.size) (wanted_none rfl) r_a0_33 (fun a0_33 fa0_33 => ?_)
  clear r_a0_33
  clear fa0_32
  have r_a0_34 : (execOp a0_33.eval { dst := some 59, op := Op.fieldAddr 37 (Operand.tmp 58) 1, type := 0, pos := "ref.go:123", after := #[{ on := 5, ground := Ground.data }, { on := 0, ground := Ground.phase }, { on := 1, ground := Ground.phase }, { on := 2, ground := Ground.phase }, { on := 3, ground := Ground.phase }, { on := 4, ground := Ground.phase }], guard := none }).run Try.prog (wr.drew.drew) = .ok (.value (.pointer (some ⟨b, 1, none⟩))) (wr.drew.drew) := by
    have e58 := (show a0_33.eval (.tmp 58) = .pointer (some ⟨b, 0, none⟩) from (fa0_33.at_ 58))
    clear fa0_33 hQ h6 h7 h8 hr hsz hr2 d2 dd
    generalize a0_33.eval = ρ at *
    go_simp
  refine fa0_33.step 59 (.pointer (some ⟨b, 1, none⟩)) rfl (lb_ I0.size) (wanted_none rfl) r_a0_34 (fun a0_34 fa0_34 => ?_)
  clear r_a0_34
  clear fa0_33
  have r_a0_35 : (execOp a0_34.eval { dst := none, op := Op.store 3 (Operand.tmp 59) (Operand.tmp 57), type := 0, pos := "ref.go:123", after := #[{ on := 6, ground := Ground.data }, { on := 4, ground := Ground.data }, { on := 0, ground := Ground.phase }, { on := 1, ground := Ground.phase }, { on := 2, ground := Ground.phase }, { on := 3, ground := Ground.phase }, { on := 4, ground := Ground.phase }], guard := none }).run Try.prog (wr.drew.drew) = .ok .skip (World.setCell wr.drew.drew ⟨b, 1, none⟩ (.int .i64 ((q + 1 : Nat) : Int))) := by
    have e59 := (show a0_34.eval (.tmp 59) = .pointer (some ⟨b, 1, none⟩) from (fa0_34.at_ 59))
    have e57 := (show a0_34.eval (.tmp 57) = .int .i64 ((q + 1 : Nat) : Int) from (fa0_34.at_ 57))
    clear fa0_34 hQ h6 h7 h8 hr hsz hr2 d2 dd
    generalize a0_34.eval = ρ at *
    go_simp
  refine fa0_34.store rfl (wanted_none rfl) r_a0_35 (fun a0_35 fa0_35 => ?_)
  clear r_a0_35
  obtain ⟨hv, fv⟩ := hr2.set1 (q + 1)
  generalize World.setCell wr.drew.drew ⟨b, 1, none⟩ (.int .i64 ((q + 1 : Nat) : Int)) = V at *
  have fV : Fr (fun k => k = b) wr V := Fr.trans (d2.mono (fun _ _ f => f.elim)) fv (fun _ _ e => e)
  clear fa0_34
  refine wpList_nil ?_
  change Code.wp _ _ _ _ _
  refine wp_seq ?_
  refine wp_region_list ?_
  unfold rHC16
  refine fa0_35.move 60 (.int .u64 (n : Int)) _ (Or.inl rfl) rfl (lb_ I0.size) (wanted_none rfl) ((fa0_35.at_ 6).trans h6) (fun a0_36 fa0_36 => ?_)
  clear fa0_35
  refine fa0_36.move 61 (.int .u64 (x : Int)) _ (Or.inl rfl) rfl (lb_ I0.size) (wanted_none rfl) (fa0_36.at_ 9) (fun a0_37 fa0_37 => ?_)
  clear fa0_36
  have r_a0_38 : (execOp a0_37.eval { dst := some 62, op := Op.binOp BinOp.rem 22 (Operand.tmp 61) (Operand.const (Value.int IntKind.u64 128)) 22, type := 22, pos := "ref.go:124", after := #[{ on := 1, ground := Ground.data }], guard := none }).run Try.prog (V) = .ok (.value (.int .u64 (y : Int))) (V) := by
    have kc : ∀ v, a0_37.eval (.const v) = v := fun _ => rfl
    have e61 := (show a0_37.eval (.tmp 61) = .int .u64 (x : Int) from (fa0_37.at_ 61))
    clear fa0_37 hQ h6 h7 h8 hr hsz hr2 d2 dd hv fv fV
    generalize a0_37.eval = ρ at *
    go_simp
  refine fa0_37.step 62 (.int .u64 (y : Int)) rfl (lb_ I0.size) (wanted_none rfl) r_a0_38 (fun a0_38 fa0_38 => ?_)
  clear r_a0_38
  clear fa0_37
  refine fa0_38.move 63 (.int .u64 (u : Int)) _ (Or.inl rfl) rfl (lb_ I0.size) (wanted_none rfl) ((fa0_38.at_ 7).trans h7) (fun a0_39 fa0_39 => ?_)
  clear fa0_38
  have r_a0_40 : (execOp a0_39.eval { dst := some 64, op := Op.binOp BinOp.mul 22 (Operand.tmp 62) (Operand.tmp 63) 22, type := 22, pos := "ref.go:124", after := #[{ on := 2, ground := Ground.data }, { on := 3, ground := Ground.data }], guard := none }).run Try.prog (V) = .ok (.value (.int .u64 (z : Int))) (V) := by
    have e62 := (show a0_39.eval (.tmp 62) = .int .u64 (y : Int) from (fa0_39.at_ 62))
    have e63 := (show a0_39.eval (.tmp 63) = .int .u64 (u : Int) from (fa0_39.at_ 63))
    clear fa0_39 hQ h6 h7 h8 hr hsz hr2 d2 dd hv fv fV
    generalize a0_39.eval = ρ at *
    go_simp
  refine fa0_39.step 64 (.int .u64 (z : Int)) rfl (lb_ I0.size) (wanted_none rfl) r_a0_40 (fun a0_40 fa0_40 => ?_)
  clear r_a0_40
  clear fa0_39
  have r_a0_41 : (execOp a0_40.eval { dst := some 65, op := Op.binOp BinOp.add 22 (Operand.tmp 60) (Operand.tmp 64) 22, type := 22, pos := "ref.go:124", after := #[{ on := 0, ground := Ground.data }, { on := 4, ground := Ground.data }], guard := none }).run Try.prog (V) = .ok (.value (.int .u64 (n2 : Int))) (V) := by
    have e60 := (show a0_40.eval (.tmp 60) = .int .u64 (n : Int) from (fa0_40.at_ 60))
    have e64 := (show a0_40.eval (.tmp 64) = .int .u64 (z : Int) from (fa0_40.at_ 64))
    clear fa0_40 hQ h6 h7 h8 hr hsz hr2 d2 dd hv fv fV
    generalize a0_40.eval = ρ at *
    go_simp
  refine fa0_40.step 65 (.int .u64 (n2 : Int)) rfl (lb_ I0.size) (wanted_none rfl) r_a0_41 (fun a0_41 fa0_41 => ?_)
  clear r_a0_41
  clear fa0_40
  refine fa0_41.move 6 (.int .u64 (n2 : Int)) _ (Or.inr rfl) rfl (lb_ I0.size) (wanted_none rfl) (fa0_41.at_ 65) (fun a0_42 fa0_42 => ?_)
  clear fa0_41
  refine wpList_nil ?_
  change Code.wp _ _ _ _ _
  refine wp_seq ?_
  refine wp_region_list ?_
  unfold rHC17
  refine fa0_42.move 66 (.int .u64 (u : Int)) _ (Or.inl rfl) rfl (lb_ I0.size) (wanted_none rfl) ((fa0_42.at_ 7).trans h7) (fun a0_43 fa0_43 => ?_)
  clear fa0_42
  have r_a0_44 : (execOp a0_43.eval { dst := some 67, op := Op.binOp BinOp.mul 22 (Operand.tmp 66) (Operand.const (Value.int IntKind.u64 128)) 22, type := 22, pos := "ref.go:125", after := #[{ on := 0, ground := Ground.data }], guard := none }).run Try.prog (V) = .ok (.value (.int .u64 (u2 : Int))) (V) := by
    have kc : ∀ v, a0_43.eval (.const v) = v := fun _ => rfl
    have e66 := (show a0_43.eval (.tmp 66) = .int .u64 (u : Int) from (fa0_43.at_ 66))
    clear fa0_43 hQ h6 h7 h8 hr hsz hr2 d2 dd hv fv fV
    generalize a0_43.eval = ρ at *
    go_simp
  refine fa0_43.step 67 (.int .u64 (u2 : Int)) rfl (lb_ I0.size) (wanted_none rfl) r_a0_44 (fun a0_44 fa0_44 => ?_)
  clear r_a0_44
  clear fa0_43
  refine fa0_44.move 7 (.int .u64 (u2 : Int)) _ (Or.inr rfl) rfl (lb_ I0.size) (wanted_none rfl) (fa0_44.at_ 67) (fun a0_45 fa0_45 => ?_)
  clear fa0_44
  refine wpList_nil ?_
  change Code.wp _ _ _ _ _
  refine wp_seq ?_
  refine wp_region_list ?_
  unfold rHC18
  refine fa0_45.move 68 (.int .u64 (x : Int)) _ (Or.inl rfl) rfl (lb_ I0.size) (wanted_none rfl) (fa0_45.at_ 9) (fun a0_46 fa0_46 => ?_)
  clear fa0_45
  have r_a0_47 : (execOp a0_46.eval { dst := some 69, op := Op.binOp BinOp.lss 22 (Operand.tmp 68) (Operand.const (Value.int IntKind.u64 128)) 22, type := 4, pos := "ref.go:126", after := #[{ on := 0, ground := Ground.data }], guard := none }).run Try.prog (V) = .ok (.value (.bool true)) (V) := by
    have kc : ∀ v, a0_46.eval (.const v) = v := fun _ => rfl
    have e68 := (show a0_46.eval (.tmp 68) = .int .u64 (x : Int) from (fa0_46.at_ 68))
    clear fa0_46 hQ h6 h7 h8 hr hsz hr2 d2 dd hv fv fV
    generalize a0_46.eval = ρ at *
    go_simp
  refine fa0_46.step 69 (.bool true) rfl (lb_ I0.size) (wanted_none rfl) r_a0_47 (fun a0_47 fa0_47 => ?_)
  clear r_a0_47
  clear fa0_46
  refine wpList_nil ?_
  change Code.wp _ _ _ _ _
  refine wp_cond_true (show a0_47.eval (.tmp 69) = .bool true from (fa0_47.at_ 69)) (wp_seq (wp_seq ?_))
  refine wp_region_list ?_
  unfold rHC19
  refine fa0_47.move 70 (.int .u64 (x : Int)) _ (Or.inl rfl) rfl (lb_ I0.size) (wanted_none rfl) (fa0_47.at_ 9) (fun a0_48 fa0_48 => ?_)
  clear fa0_47
  have r_a0_49 : (execOp a0_48.eval { dst := some 71, op := Op.binOp BinOp.eql 22 (Operand.tmp 70) (Operand.const (Value.int IntKind.u64 0)) 22, type := 4, pos := "ref.go:127", after := #[{ on := 0, ground := Ground.data }], guard := none }).run Try.prog (V) = .ok (.value (.bool false)) (V) := by
    have kc : ∀ v, a0_48.eval (.const v) = v := fun _ => rfl
    have e70 := (show a0_48.eval (.tmp 70) = .int .u64 (x : Int) from (fa0_48.at_ 70))
    clear fa0_48 hQ h6 h7 h8 hr hsz hr2 d2 dd hv fv fV
    generalize a0_48.eval = ρ at *
    go_simp
  refine fa0_48.step 71 (.bool false) rfl (lb_ I0.size) (wanted_none rfl) r_a0_49 (fun a0_49 fa0_49 => ?_)
  clear r_a0_49
  clear fa0_48
  refine fa0_49.move 72 (.bool false) _ (Or.inl rfl) rfl (lb_ I0.size) (wanted_none rfl) (fa0_49.at_ 71) (fun a0_50 fa0_50 => ?_)
  clear fa0_49
  refine fa0_50.skip 73 rfl (lb_ I0.size) ((wanted_at (t := 72) (c := false) (b := true) rfl rfl rfl (lb_ (fa0_50.size.trans I0.size)) (fa0_50.at_ 72)).trans (by rfl)) (fun a0_51 fa0_51 => ?_)
  clear fa0_50
  refine fa0_51.skip 74 rfl (lb_ I0.size) ((wanted_at (t := 72) (c := false) (b := true) rfl rfl rfl (lb_ (fa0_51.size.trans I0.size)) (fa0_51.at_ 72)).trans (by rfl)) (fun a0_52 fa0_52 => ?_)
  clear fa0_51
  have r_a0_53 : (execOp a0_52.eval { dst := some 75, op := Op.pick (Operand.tmp 72) (Operand.tmp 74) (Operand.const (Value.bool false)), type := 4, pos := "ref.go:127", after := #[{ on := 2, ground := Ground.data }, { on := 4, ground := Ground.data }], guard := none }).run Try.prog (V) = .ok (.value (.bool false)) (V) := by
    have kc : ∀ v, a0_52.eval (.const v) = v := fun _ => rfl
    have e72 := (show a0_52.eval (.tmp 72) = .bool false from (fa0_52.at_ 72))
    have e74 := (show a0_52.eval (.tmp 74) = undef from (fa0_52.at_ 74))
    clear fa0_52 hQ h6 h7 h8 hr hsz hr2 d2 dd hv fv fV
    generalize a0_52.eval = ρ at *
    go_simp
  refine fa0_52.step 75 (.bool false) rfl (lb_ I0.size) (wanted_none rfl) r_a0_53 (fun a0_53 fa0_53 => ?_)
  clear r_a0_53
  clear fa0_52
  refine wpList_nil ?_
  change Code.wp _ _ _ _ _
  refine wp_cond_false (show a0_53.eval (.tmp 75) = .bool false from (fa0_53.at_ 75)) (wp_skip ?_)
  change Code.wp _ _ _ _ _
  refine wp_seq (wp_seq ?_)
  refine wp_region_list ?_
  unfold rHC22
  refine fa0_53.move 79 (.int .u64 (n2 : Int)) _ (Or.inl rfl) rfl (lb_ I0.size) (wanted_none rfl) (fa0_53.at_ 6) (fun a0_54 fa0_54 => ?_)
  clear fa0_53
  refine fa0_54.move 80 (.int .u64 (most : Int)) _ (Or.inl rfl) rfl (lb_ I0.size) (wanted_none rfl) ((fa0_54.at_ 1).trans I0.s1) (fun a0_55 fa0_55 => ?_)
  clear fa0_54
  have r_a0_56 : (execOp a0_55.eval { dst := some 81, op := Op.binOp BinOp.gtr 22 (Operand.tmp 79) (Operand.tmp 80) 22, type := 4, pos := "ref.go:131", after := #[{ on := 0, ground := Ground.data }, { on := 1, ground := Ground.data }], guard := none }).run Try.prog (V) = .ok (.value (.bool true)) (V) := by
    have e79 := (show a0_55.eval (.tmp 79) = .int .u64 (n2 : Int) from (fa0_55.at_ 79))
    have e80 := (show a0_55.eval (.tmp 80) = .int .u64 (most : Int) from (fa0_55.at_ 80))
    clear fa0_55 hQ h6 h7 h8 hr hsz hr2 d2 dd hv fv fV
    generalize a0_55.eval = ρ at *
    go_simp
  refine fa0_55.step 81 (.bool true) rfl (lb_ I0.size) (wanted_none rfl) r_a0_56 (fun a0_56 fa0_56 => ?_)
  clear r_a0_56
  clear fa0_55
  refine wpList_nil ?_
  change Code.wp _ _ _ _ _
  refine wp_cond_true (show a0_56.eval (.tmp 81) = .bool true from (fa0_56.at_ 81)) (wp_seq ?_)
  refine wp_region_list ?_
  unfold rHC23
  refine fa0_56.move 82 (.pointer (some ⟨b, 0, none⟩)) _ (Or.inl rfl) rfl (lb_ I0.size) (wanted_none rfl) ((fa0_56.at_ 0).trans I0.s0) (fun a0_57 fa0_57 => ?_)
  clear fa0_56
  refine fa0_57.move 83 (.int .i64 (p : Int)) _ (Or.inl rfl) rfl (lb_ I0.size) (wanted_none rfl) ((fa0_57.at_ 5).trans I0.s5) (fun a0_58 fa0_58 => ?_)
  clear fa0_57
  have r_a0_59 : (execOp a0_58.eval { dst := some 84, op := Op.call { callee := Callee.value (Operand.func 65), args := #[Operand.tmp 82, Operand.const (Value.int IntKind.i64 12), Operand.tmp 83], argTypes := #[34, 35, 3] }, type := 0, pos := "ref.go:132", after := #[{ on := 0, ground := Ground.data }, { on := 1, ground := Ground.data }], guard := none }).run Try.prog (V) = .ok (.enter 65 #[.pointer (some ⟨b, 0, none⟩), Value.int IntKind.i64 12, .int .i64 (p : Int)]) (V) := by
    have kc : ∀ v, a0_58.eval (.const v) = v := fun _ => rfl
    have kf : ∀ f, a0_58.eval (.func f) = .func (.func f) #[] #[] := fun _ => rfl
    have e82 := (show a0_58.eval (.tmp 82) = .pointer (some ⟨b, 0, none⟩) from (fa0_58.at_ 82))
    have e83 := (show a0_58.eval (.tmp 83) = .int .i64 (p : Int) from (fa0_58.at_ 83))
    clear fa0_58 hQ h6 h7 h8 hr hsz hr2 d2 dd hv fv fV
    generalize a0_58.eval = ρ at *
    go_simp
  refine fa0_58.call 84 rfl (lb_ I0.size) (wanted_none rfl) r_a0_59 (rrfail_calls (d := 12) (q := p) V hv) (fun e VF hR => ?_)
  obtain ⟨rfl, hf, ff⟩ := hR
  clear r_a0_59
  refine ⟨_, rfl, fun a0_59 fa0_59 => ?_⟩
  clear fa0_58
  refine wpList_nil ?_
  change Code.wp _ _ _ _ _
  refine wp_seq ?_
  refine wp_region_list ?_
  unfold rHC24
  refine fa0_59.move 4 (.int .u64 0) _ (Or.inr rfl) rfl (lb_ I0.size) (wanted_none rfl) rfl (fun a0_60 fa0_60 => ?_)
  clear fa0_59
  refine wpList_nil ?_
  change Code.wp _ _ _ _ _
  refine wp_ret ?_
  exact hQ a0_60 VF (fa0_60.defers.trans I0.defers) (show a0_60.eval (.tmp 4) = .int .u64 0 from (fa0_60.at_ 4)) hf (Fr.trans fV ff (fun _ _ e => e))
set_option maxRecDepth 100000 in
set_option maxHeartbeats 1000000 in
theorem hcM01 {b p q i n u most : Nat} {s : ByteArray} {Q : Exit → Act → World → Prop} (hQp : ∀ c (a : Act) d v w, Q (.panic c) (a.put d v) w → Q (.panic c) a w) (a0 : Act) (wr : World) (I0 : IHC (.pointer (some ⟨b, 0, none⟩)) (.int .u64 (most : Int)) (.int .i64 (p : Int)) a0) (h6 : a0.eval (.tmp 6) = .int .u64 (n : Int)) (h7 : a0.eval (.tmp 7) = .int .u64 (u : Int)) (h8 : a0.eval (.tmp 8) = .int .i64 (i : Int)) (hr : RRAt wr b s q 0) (hsz : s.size ≤ 1000000000000) {x : Nat} (hq : q < s.size) (hx : (s[q]).toNat = x) {y z n2 u2 : Nat} (hy : x % 128 = y) (hz : y * u = z) (hn2 : n + z = n2) (hn3 : n2 < 18446744073709551616) (hu2 : u * 128 % 18446744073709551616 = u2) (hi : i = 0) (hb : x = 0) (hmo : most < n2) (hQ : ∀ (a : Act) W, a.defers = [] → a.eval (.tmp 4) = .int .u64 0 → RRAt W b s p 12 → Fr (fun k => k = b) wr W → Q .ret a W) : cHC1.wp Try.prog Q a0 wr := by
  have hne : ¬ (q : Int) = (s.size : Int) := by omega
  have hqi : (q : Int) < (s.size : Int) := by omega
  have xl : x < 256 := by rw [← hx]; exact (s[q]).toNat_lt
  have wx : IntKind.u64.wrap (x : Int) = (x : Int) := by rw [IntKind.wrap_u64]; omega
  have w1 : IntKind.i64.wrap ((q : Int) + 1) = ((q + 1 : Nat) : Int) := by rw [IntKind.wrap_i64]; omega
  have hyt : (x : Int).tmod 128 = (y : Int) := by rw [← hy]; rfl
  have hye : (x : Int) % 128 = (y : Int) := by omega
  have wz : IntKind.u64.wrap ((y : Int) * (u : Int)) = (z : Int) := by rw [← Int.natCast_mul, hz, IntKind.wrap_u64]; omega
  have wn : IntKind.u64.wrap ((n : Int) + (z : Int)) = (n2 : Int) := by rw [IntKind.wrap_u64]; omega
  have wu : IntKind.u64.wrap ((u : Int) * 128) = (u2 : Int) := by rw [IntKind.wrap_u64]; omega
  clear hy hz hn2 hu2
  have hi9 : ¬ (i : Int) = 9 := by omega
  have hp2 : ¬ (0 : Int) < (i : Int) := by omega
  have hb1 : (x : Int) = 0 := by omega
  have hb2 : (x : Int) < 128 := by omega
  have hm2 : (most : Int) < (n2 : Int) := by omega
  clear hb hn3 hmo
  have fa0_0 := Fe.refl a0
  have k0 := hr.c0
  have k1 := hr.c1
  have dd : Same wr wr.drew := (Fr.refl (fun _ => False) wr).drew
  unfold cHC1
  refine wp_seq (wp_block (wp_seq (wp_seq ?_)))
  refine wp_region_held_drew (ops := rHC8) (S := fun Z => Same wr Z) (by kernel_rfl) (dd) (fun hS0 => ?_)
  refine fa0_0.takeMove 0 21 (.pointer (some ⟨b, 0, none⟩)) _ (Or.inl rfl) rfl (by kernel_rfl) (by kernel_rfl) (by kernel_rfl) (fun _ _ _ h => hQp _ _ _ _ _ h) rfl (lb_ I0.size) (wanted_none rfl) ((fa0_0.at_ 0).trans I0.s0) hS0 (fun a0_1 fa0_1 => ?_)
  clear fa0_0
  have r_a0_2 : ∀ Z, (fun Z => Same wr Z) Z → (execOp a0_1.eval { dst := some 22, op := Op.nilCheck (Operand.tmp 21), type := 0, pos := "ref.go:114", after := #[{ on := 0, ground := Ground.data }], guard := none }).run Try.prog Z = .ok (.value (.pointer (some ⟨b, 0, none⟩))) Z := fun Z hZ => by
    have e21 := (show a0_1.eval (.tmp 21) = .pointer (some ⟨b, 0, none⟩) from (fa0_1.at_ 21))
    clear fa0_1 hQ h6 h7 h8 hr hsz hb1
    generalize a0_1.eval = ρ at *
    go_simp
  refine fa0_1.take 1 22 (.pointer (some ⟨b, 0, none⟩)) rfl (by kernel_rfl) (by kernel_rfl) (by kernel_rfl) (fun _ _ _ h => hQp _ _ _ _ _ h) rfl (lb_ I0.size) (wanted_none rfl) r_a0_2 hS0 (fun a0_2 fa0_2 => ?_)
  clear r_a0_2
  clear fa0_1
  have r_a0_3 : ∀ Z, (fun Z => Same wr Z) Z → (execOp a0_2.eval { dst := some 23, op := Op.fieldAddr 37 (Operand.tmp 22) 1, type := 0, pos := "ref.go:114", after := #[{ on := 1, ground := Ground.data }], guard := none }).run Try.prog Z = .ok (.value (.pointer (some ⟨b, 1, none⟩))) Z := fun Z hZ => by
    have e22 := (show a0_2.eval (.tmp 22) = .pointer (some ⟨b, 0, none⟩) from (fa0_2.at_ 22))
    clear fa0_2 hQ h6 h7 h8 hr hsz hb1
    generalize a0_2.eval = ρ at *
    go_simp
  refine fa0_2.take 2 23 (.pointer (some ⟨b, 1, none⟩)) rfl (by kernel_rfl) (by kernel_rfl) (by kernel_rfl) (fun _ _ _ h => hQp _ _ _ _ _ h) rfl (lb_ I0.size) (wanted_none rfl) r_a0_3 hS0 (fun a0_3 fa0_3 => ?_)
  clear r_a0_3
  clear fa0_2
  have r_a0_4 : ∀ Z, (fun Z => Same wr Z) Z → (execOp a0_3.eval { dst := some 24, op := Op.load 3 (Operand.tmp 23), type := 3, pos := "ref.go:114", after := #[{ on := 2, ground := Ground.data }], guard := none }).run Try.prog Z = .ok (.value (.int .i64 (q : Int))) Z := fun Z hZ => by
    have q0 := hZ.keep k0
    have q1 := hZ.keep k1
    clear hZ
    have e23 := (show a0_3.eval (.tmp 23) = .pointer (some ⟨b, 1, none⟩) from (fa0_3.at_ 23))
    clear fa0_3 hQ h6 h7 h8 hr hsz hb1
    generalize a0_3.eval = ρ at *
    go_simp
  refine fa0_3.take 3 24 (.int .i64 (q : Int)) rfl (by kernel_rfl) (by kernel_rfl) (by kernel_rfl) (fun _ _ _ h => hQp _ _ _ _ _ h) rfl (lb_ I0.size) (wanted_none rfl) r_a0_4 hS0 (fun a0_4 fa0_4 => ?_)
  clear r_a0_4
  clear fa0_3
  refine fa0_4.takeMove 4 25 (.pointer (some ⟨b, 0, none⟩)) _ (Or.inl rfl) rfl (by kernel_rfl) (by kernel_rfl) (by kernel_rfl) (fun _ _ _ h => hQp _ _ _ _ _ h) rfl (lb_ I0.size) (wanted_none rfl) ((fa0_4.at_ 0).trans I0.s0) hS0 (fun a0_5 fa0_5 => ?_)
  clear fa0_4
  have r_a0_6 : ∀ Z, (fun Z => Same wr Z) Z → (execOp a0_5.eval { dst := some 26, op := Op.nilCheck (Operand.tmp 25), type := 0, pos := "ref.go:114", after := #[{ on := 4, ground := Ground.data }], guard := none }).run Try.prog Z = .ok (.value (.pointer (some ⟨b, 0, none⟩))) Z := fun Z hZ => by
    have e25 := (show a0_5.eval (.tmp 25) = .pointer (some ⟨b, 0, none⟩) from (fa0_5.at_ 25))
    clear fa0_5 hQ h6 h7 h8 hr hsz hb1
    generalize a0_5.eval = ρ at *
    go_simp
  refine fa0_5.take 5 26 (.pointer (some ⟨b, 0, none⟩)) rfl (by kernel_rfl) (by kernel_rfl) (by kernel_rfl) (fun _ _ _ h => hQp _ _ _ _ _ h) rfl (lb_ I0.size) (wanted_none rfl) r_a0_6 hS0 (fun a0_6 fa0_6 => ?_)
  clear r_a0_6
  clear fa0_5
  have r_a0_7 : ∀ Z, (fun Z => Same wr Z) Z → (execOp a0_6.eval { dst := some 27, op := Op.fieldAddr 37 (Operand.tmp 26) 0, type := 0, pos := "ref.go:114", after := #[{ on := 5, ground := Ground.data }], guard := none }).run Try.prog Z = .ok (.value (.pointer (some ⟨b, 0, none⟩))) Z := fun Z hZ => by
    have e26 := (show a0_6.eval (.tmp 26) = .pointer (some ⟨b, 0, none⟩) from (fa0_6.at_ 26))
    clear fa0_6 hQ h6 h7 h8 hr hsz hb1
    generalize a0_6.eval = ρ at *
    go_simp
  refine fa0_6.take 6 27 (.pointer (some ⟨b, 0, none⟩)) rfl (by kernel_rfl) (by kernel_rfl) (by kernel_rfl) (fun _ _ _ h => hQp _ _ _ _ _ h) rfl (lb_ I0.size) (wanted_none rfl) r_a0_7 hS0 (fun a0_7 fa0_7 => ?_)
  clear r_a0_7
  clear fa0_6
  have r_a0_8 : ∀ Z, (fun Z => Same wr Z) Z → (execOp a0_7.eval { dst := some 28, op := Op.load 9 (Operand.tmp 27), type := 9, pos := "ref.go:114", after := #[{ on := 6, ground := Ground.data }], guard := none }).run Try.prog Z = .ok (.value (.string s)) Z := fun Z hZ => by
    have q0 := hZ.keep k0
    have q1 := hZ.keep k1
    clear hZ
    have e27 := (show a0_7.eval (.tmp 27) = .pointer (some ⟨b, 0, none⟩) from (fa0_7.at_ 27))
    clear fa0_7 hQ h6 h7 h8 hr hsz hb1
    generalize a0_7.eval = ρ at *
    go_simp
  refine fa0_7.take 7 28 (.string s) rfl (by kernel_rfl) (by kernel_rfl) (by kernel_rfl) (fun _ _ _ h => hQp _ _ _ _ _ h) rfl (lb_ I0.size) (wanted_none rfl) r_a0_8 hS0 (fun a0_8 fa0_8 => ?_)
  clear r_a0_8
  clear fa0_7
  have r_a0_9 : ∀ Z, (fun Z => Same wr Z) Z → (execOp a0_8.eval { dst := some 29, op := Op.call { callee := Callee.builtin Builtin.len, args := #[Operand.tmp 28], argTypes := #[9] }, type := 3, pos := "ref.go:114", after := #[{ on := 7, ground := Ground.data }], guard := none }).run Try.prog Z = .ok (.value (.int .i64 (s.size : Int))) Z := fun Z hZ => by
    have e28 := (show a0_8.eval (.tmp 28) = .string s from (fa0_8.at_ 28))
    clear fa0_8 hQ h6 h7 h8 hr hsz hb1
    generalize a0_8.eval = ρ at *
    go_simp
  refine fa0_8.take 8 29 (.int .i64 (s.size : Int)) rfl (by kernel_rfl) (by kernel_rfl) (by kernel_rfl) (fun _ _ _ h => hQp _ _ _ _ _ h) rfl (lb_ I0.size) (wanted_none rfl) r_a0_9 hS0 (fun a0_9 fa0_9 => ?_)
  clear r_a0_9
  clear fa0_8
  have r_a0_10 : ∀ Z, (fun Z => Same wr Z) Z → (execOp a0_9.eval { dst := some 30, op := Op.binOp BinOp.eql 3 (Operand.tmp 24) (Operand.tmp 29) 3, type := 4, pos := "ref.go:114", after := #[{ on := 3, ground := Ground.data }, { on := 8, ground := Ground.data }], guard := none }).run Try.prog Z = .ok (.value (.bool false)) Z := fun Z hZ => by
    have e24 := (show a0_9.eval (.tmp 24) = .int .i64 (q : Int) from (fa0_9.at_ 24))
    have e29 := (show a0_9.eval (.tmp 29) = .int .i64 (s.size : Int) from (fa0_9.at_ 29))
    clear fa0_9 hQ h6 h7 h8 hr hsz hb1
    generalize a0_9.eval = ρ at *
    go_simp
  refine fa0_9.take 9 30 (.bool false) rfl (by kernel_rfl) (by kernel_rfl) (by kernel_rfl) (fun _ _ _ h => hQp _ _ _ _ _ h) rfl (lb_ I0.size) (wanted_none rfl) r_a0_10 hS0 (fun a0_10 fa0_10 => ?_)
  clear r_a0_10
  clear fa0_9
  refine wpAnyH_done (by kernel_rfl) ?_ _
  change Code.wp _ _ _ _ _
  refine wp_cond_false (show a0_10.eval (.tmp 30) = .bool false from (fa0_10.at_ 30)) (wp_skip ?_)
  change Code.wp _ _ _ _ _
  refine wp_seq ?_
  have d2 : Same wr wr.drew.drew := dd.trans (Fr.refl (fun _ => False) wr.drew).drew
  refine wp_region_held_drew (ops := rHC11) (S := fun Z => Same wr Z) (by kernel_rfl) (d2) (fun hS10 => ?_)
  refine fa0_10.takeMove 0 34 (.pointer (some ⟨b, 0, none⟩)) _ (Or.inl rfl) rfl (by kernel_rfl) (by kernel_rfl) (by kernel_rfl) (fun _ _ _ h => hQp _ _ _ _ _ h) rfl (lb_ I0.size) (wanted_none rfl) ((fa0_10.at_ 0).trans I0.s0) hS10 (fun a0_11 fa0_11 => ?_)
  clear fa0_10
  have r_a0_12 : ∀ Z, (fun Z => Same wr Z) Z → (execOp a0_11.eval { dst := some 35, op := Op.nilCheck (Operand.tmp 34), type := 0, pos := "ref.go:118", after := #[{ on := 0, ground := Ground.data }], guard := none }).run Try.prog Z = .ok (.value (.pointer (some ⟨b, 0, none⟩))) Z := fun Z hZ => by
    have e34 := (show a0_11.eval (.tmp 34) = .pointer (some ⟨b, 0, none⟩) from (fa0_11.at_ 34))
    clear fa0_11 hQ h6 h7 h8 hr hsz hb1
    generalize a0_11.eval = ρ at *
    go_simp
  refine fa0_11.take 1 35 (.pointer (some ⟨b, 0, none⟩)) rfl (by kernel_rfl) (by kernel_rfl) (by kernel_rfl) (fun _ _ _ h => hQp _ _ _ _ _ h) rfl (lb_ I0.size) (wanted_none rfl) r_a0_12 hS10 (fun a0_12 fa0_12 => ?_)
  clear r_a0_12
  clear fa0_11
  have r_a0_13 : ∀ Z, (fun Z => Same wr Z) Z → (execOp a0_12.eval { dst := some 36, op := Op.fieldAddr 37 (Operand.tmp 35) 0, type := 0, pos := "ref.go:118", after := #[{ on := 1, ground := Ground.data }], guard := none }).run Try.prog Z = .ok (.value (.pointer (some ⟨b, 0, none⟩))) Z := fun Z hZ => by
    have e35 := (show a0_12.eval (.tmp 35) = .pointer (some ⟨b, 0, none⟩) from (fa0_12.at_ 35))
    clear fa0_12 hQ h6 h7 h8 hr hsz hb1
    generalize a0_12.eval = ρ at *
    go_simp
  refine fa0_12.take 2 36 (.pointer (some ⟨b, 0, none⟩)) rfl (by kernel_rfl) (by kernel_rfl) (by kernel_rfl) (fun _ _ _ h => hQp _ _ _ _ _ h) rfl (lb_ I0.size) (wanted_none rfl) r_a0_13 hS10 (fun a0_13 fa0_13 => ?_)
  clear r_a0_13
  clear fa0_12
  have r_a0_14 : ∀ Z, (fun Z => Same wr Z) Z → (execOp a0_13.eval { dst := some 37, op := Op.load 9 (Operand.tmp 36), type := 9, pos := "ref.go:118", after := #[{ on := 2, ground := Ground.data }], guard := none }).run Try.prog Z = .ok (.value (.string s)) Z := fun Z hZ => by
    have q0 := hZ.keep k0
    have q1 := hZ.keep k1
    clear hZ
    have e36 := (show a0_13.eval (.tmp 36) = .pointer (some ⟨b, 0, none⟩) from (fa0_13.at_ 36))
    clear fa0_13 hQ h6 h7 h8 hr hsz hb1
    generalize a0_13.eval = ρ at *
    go_simp
  refine fa0_13.take 3 37 (.string s) rfl (by kernel_rfl) (by kernel_rfl) (by kernel_rfl) (fun _ _ _ h => hQp _ _ _ _ _ h) rfl (lb_ I0.size) (wanted_none rfl) r_a0_14 hS10 (fun a0_14 fa0_14 => ?_)
  clear r_a0_14
  clear fa0_13
  refine fa0_14.takeMove 4 38 (.pointer (some ⟨b, 0, none⟩)) _ (Or.inl rfl) rfl (by kernel_rfl) (by kernel_rfl) (by kernel_rfl) (fun _ _ _ h => hQp _ _ _ _ _ h) rfl (lb_ I0.size) (wanted_none rfl) ((fa0_14.at_ 0).trans I0.s0) hS10 (fun a0_15 fa0_15 => ?_)
  clear fa0_14
  have r_a0_16 : ∀ Z, (fun Z => Same wr Z) Z → (execOp a0_15.eval { dst := some 39, op := Op.nilCheck (Operand.tmp 38), type := 0, pos := "ref.go:118", after := #[{ on := 4, ground := Ground.data }], guard := none }).run Try.prog Z = .ok (.value (.pointer (some ⟨b, 0, none⟩))) Z := fun Z hZ => by
    have e38 := (show a0_15.eval (.tmp 38) = .pointer (some ⟨b, 0, none⟩) from (fa0_15.at_ 38))
    clear fa0_15 hQ h6 h7 h8 hr hsz hb1
    generalize a0_15.eval = ρ at *
    go_simp
  refine fa0_15.take 5 39 (.pointer (some ⟨b, 0, none⟩)) rfl (by kernel_rfl) (by kernel_rfl) (by kernel_rfl) (fun _ _ _ h => hQp _ _ _ _ _ h) rfl (lb_ I0.size) (wanted_none rfl) r_a0_16 hS10 (fun a0_16 fa0_16 => ?_)
  clear r_a0_16
  clear fa0_15
  have r_a0_17 : ∀ Z, (fun Z => Same wr Z) Z → (execOp a0_16.eval { dst := some 40, op := Op.fieldAddr 37 (Operand.tmp 39) 1, type := 0, pos := "ref.go:118", after := #[{ on := 5, ground := Ground.data }], guard := none }).run Try.prog Z = .ok (.value (.pointer (some ⟨b, 1, none⟩))) Z := fun Z hZ => by
    have e39 := (show a0_16.eval (.tmp 39) = .pointer (some ⟨b, 0, none⟩) from (fa0_16.at_ 39))
    clear fa0_16 hQ h6 h7 h8 hr hsz hb1
    generalize a0_16.eval = ρ at *
    go_simp
  refine fa0_16.take 6 40 (.pointer (some ⟨b, 1, none⟩)) rfl (by kernel_rfl) (by kernel_rfl) (by kernel_rfl) (fun _ _ _ h => hQp _ _ _ _ _ h) rfl (lb_ I0.size) (wanted_none rfl) r_a0_17 hS10 (fun a0_17 fa0_17 => ?_)
  clear r_a0_17
  clear fa0_16
  have r_a0_18 : ∀ Z, (fun Z => Same wr Z) Z → (execOp a0_17.eval { dst := some 41, op := Op.load 3 (Operand.tmp 40), type := 3, pos := "ref.go:118", after := #[{ on := 6, ground := Ground.data }], guard := none }).run Try.prog Z = .ok (.value (.int .i64 (q : Int))) Z := fun Z hZ => by
    have q0 := hZ.keep k0
    have q1 := hZ.keep k1
    clear hZ
    have e40 := (show a0_17.eval (.tmp 40) = .pointer (some ⟨b, 1, none⟩) from (fa0_17.at_ 40))
    clear fa0_17 hQ h6 h7 h8 hr hsz hb1
    generalize a0_17.eval = ρ at *
    go_simp
  refine fa0_17.take 7 41 (.int .i64 (q : Int)) rfl (by kernel_rfl) (by kernel_rfl) (by kernel_rfl) (fun _ _ _ h => hQp _ _ _ _ _ h) rfl (lb_ I0.size) (wanted_none rfl) r_a0_18 hS10 (fun a0_18 fa0_18 => ?_)
  clear r_a0_18
  clear fa0_17
  have r_a0_19 : ∀ Z, (fun Z => Same wr Z) Z → (execOp a0_18.eval { dst := some 42, op := Op.index 9 (Operand.tmp 37) (Operand.tmp 41), type := 5, pos := "ref.go:118", after := #[{ on := 3, ground := Ground.data }, { on := 7, ground := Ground.data }], guard := none }).run Try.prog Z = .ok (.value (.int .u8 (x : Int))) Z := fun Z hZ => by
    have e37 := (show a0_18.eval (.tmp 37) = .string s from (fa0_18.at_ 37))
    have e41 := (show a0_18.eval (.tmp 41) = .int .i64 (q : Int) from (fa0_18.at_ 41))
    clear fa0_18 hQ h6 h7 h8 hr hsz hb1
    generalize a0_18.eval = ρ at *
    go_simp
  refine fa0_18.take 8 42 (.int .u8 (x : Int)) rfl (by kernel_rfl) (by kernel_rfl) (by kernel_rfl) (fun _ _ _ h => hQp _ _ _ _ _ h) rfl (lb_ I0.size) (wanted_none rfl) r_a0_19 hS10 (fun a0_19 fa0_19 => ?_)
  clear r_a0_19
  clear fa0_18
  have r_a0_20 : ∀ Z, (fun Z => Same wr Z) Z → (execOp a0_19.eval { dst := some 43, op := Op.convert 5 22 (Operand.tmp 42), type := 22, pos := "ref.go:118", after := #[{ on := 8, ground := Ground.data }], guard := none }).run Try.prog Z = .ok (.value (.int .u64 (x : Int))) Z := fun Z hZ => by
    have e42 := (show a0_19.eval (.tmp 42) = .int .u8 (x : Int) from (fa0_19.at_ 42))
    clear fa0_19 hQ h6 h7 h8 hr hsz hb1
    generalize a0_19.eval = ρ at *
    go_simp
  refine fa0_19.take 9 43 (.int .u64 (x : Int)) rfl (by kernel_rfl) (by kernel_rfl) (by kernel_rfl) (fun _ _ _ h => hQp _ _ _ _ _ h) rfl (lb_ I0.size) (wanted_none rfl) r_a0_20 hS10 (fun a0_20 fa0_20 => ?_)
  clear r_a0_20
  clear fa0_19
  refine fa0_20.takeMove 10 9 (.int .u64 (x : Int)) _ (Or.inr rfl) rfl (by kernel_rfl) (by kernel_rfl) (by kernel_rfl) (fun _ _ _ h => hQp _ _ _ _ _ h) rfl (lb_ I0.size) (wanted_none rfl) (fa0_20.at_ 43) hS10 (fun a0_21 fa0_21 => ?_)
  clear fa0_20
  refine wpAnyH_done (by kernel_rfl) ?_ _
  change Code.wp _ _ _ _ _
  refine wp_seq (wp_seq ?_)
  refine wp_region_list ?_
  unfold rHC12
  refine fa0_21.move 44 (.int .i64 (i : Int)) _ (Or.inl rfl) rfl (lb_ I0.size) (wanted_none rfl) ((fa0_21.at_ 8).trans h8) (fun a0_22 fa0_22 => ?_)
  clear fa0_21
  have r_a0_23 : (execOp a0_22.eval { dst := some 45, op := Op.binOp BinOp.eql 3 (Operand.tmp 44) (Operand.const (Value.int IntKind.i64 9)) 3, type := 4, pos := "ref.go:119", after := #[{ on := 0, ground := Ground.data }], guard := none }).run Try.prog (wr.drew.drew) = .ok (.value (.bool false)) (wr.drew.drew) := by
    have kc : ∀ v, a0_22.eval (.const v) = v := fun _ => rfl
    have e44 := (show a0_22.eval (.tmp 44) = .int .i64 (i : Int) from (fa0_22.at_ 44))
    clear fa0_22 hQ h6 h7 h8 hr hsz hb1
    generalize a0_22.eval = ρ at *
    go_simp
  refine fa0_22.step 45 (.bool false) rfl (lb_ I0.size) (wanted_none rfl) r_a0_23 (fun a0_23 fa0_23 => ?_)
  clear r_a0_23
  clear fa0_22
  refine fa0_23.move 46 (.bool false) _ (Or.inl rfl) rfl (lb_ I0.size) (wanted_none rfl) (fa0_23.at_ 45) (fun a0_24 fa0_24 => ?_)
  clear fa0_23
  refine fa0_24.skip 47 rfl (lb_ I0.size) ((wanted_at (t := 46) (c := false) (b := true) rfl rfl rfl (lb_ (fa0_24.size.trans I0.size)) (fa0_24.at_ 46)).trans (by rfl)) (fun a0_25 fa0_25 => ?_)
  clear fa0_24
  refine fa0_25.skip 48 rfl (lb_ I0.size) ((wanted_at (t := 46) (c := false) (b := true) rfl rfl rfl (lb_ (fa0_25.size.trans I0.size)) (fa0_25.at_ 46)).trans (by rfl)) (fun a0_26 fa0_26 => ?_)
  clear fa0_25
  have r_a0_27 : (execOp a0_26.eval { dst := some 49, op := Op.pick (Operand.tmp 46) (Operand.tmp 48) (Operand.const (Value.bool false)), type := 4, pos := "ref.go:119", after := #[{ on := 2, ground := Ground.data }, { on := 4, ground := Ground.data }], guard := none }).run Try.prog (wr.drew.drew) = .ok (.value (.bool false)) (wr.drew.drew) := by
    have kc : ∀ v, a0_26.eval (.const v) = v := fun _ => rfl
    have e46 := (show a0_26.eval (.tmp 46) = .bool false from (fa0_26.at_ 46))
    have e48 := (show a0_26.eval (.tmp 48) = undef from (fa0_26.at_ 48))
    clear fa0_26 hQ h6 h7 h8 hr hsz hb1
    generalize a0_26.eval = ρ at *
    go_simp
  refine fa0_26.step 49 (.bool false) rfl (lb_ I0.size) (wanted_none rfl) r_a0_27 (fun a0_27 fa0_27 => ?_)
  clear r_a0_27
  clear fa0_26
  refine wpList_nil ?_
  change Code.wp _ _ _ _ _
  refine wp_cond_false (show a0_27.eval (.tmp 49) = .bool false from (fa0_27.at_ 49)) (wp_skip ?_)
  change Code.wp _ _ _ _ _
  refine wp_seq ?_
  have hr2 := hr.fr d2 (fun f => f)
  have k1 := hr2.c1
  have z1 := hr2.z 1
  refine wp_region_list ?_
  unfold rHC15
  refine fa0_27.move 53 (.pointer (some ⟨b, 0, none⟩)) _ (Or.inl rfl) rfl (lb_ I0.size) (wanted_none rfl) ((fa0_27.at_ 0).trans I0.s0) (fun a0_28 fa0_28 => ?_)
  clear fa0_27
  have r_a0_29 : (execOp a0_28.eval { dst := some 54, op := Op.nilCheck (Operand.tmp 53), type := 0, pos := "ref.go:123", after := #[{ on := 0, ground := Ground.data }], guard := none }).run Try.prog (wr.drew.drew) = .ok (.value (.pointer (some ⟨b, 0, none⟩))) (wr.drew.drew) := by
    have e53 := (show a0_28.eval (.tmp 53) = .pointer (some ⟨b, 0, none⟩) from (fa0_28.at_ 53))
    clear fa0_28 hQ h6 h7 h8 hr hsz hb1 hr2 d2 dd
    generalize a0_28.eval = ρ at *
    go_simp
  refine fa0_28.step 54 (.pointer (some ⟨b, 0, none⟩)) rfl (lb_ I0.size) (wanted_none rfl) r_a0_29 (fun a0_29 fa0_29 => ?_)
  clear r_a0_29
  clear fa0_28
  have r_a0_30 : (execOp a0_29.eval { dst := some 55, op := Op.fieldAddr 37 (Operand.tmp 54) 1, type := 0, pos := "ref.go:123", after := #[{ on := 1, ground := Ground.data }], guard := none }).run Try.prog (wr.drew.drew) = .ok (.value (.pointer (some ⟨b, 1, none⟩))) (wr.drew.drew) := by
    have e54 := (show a0_29.eval (.tmp 54) = .pointer (some ⟨b, 0, none⟩) from (fa0_29.at_ 54))
    clear fa0_29 hQ h6 h7 h8 hr hsz hb1 hr2 d2 dd
    generalize a0_29.eval = ρ at *
    go_simp
  refine fa0_29.step 55 (.pointer (some ⟨b, 1, none⟩)) rfl (lb_ I0.size) (wanted_none rfl) r_a0_30 (fun a0_30 fa0_30 => ?_)
  clear r_a0_30
  clear fa0_29
  have r_a0_31 : (execOp a0_30.eval { dst := some 56, op := Op.load 3 (Operand.tmp 55), type := 3, pos := "ref.go:123", after := #[{ on := 2, ground := Ground.data }], guard := none }).run Try.prog (wr.drew.drew) = .ok (.value (.int .i64 (q : Int))) (wr.drew.drew) := by
    have e55 := (show a0_30.eval (.tmp 55) = .pointer (some ⟨b, 1, none⟩) from (fa0_30.at_ 55))
    clear fa0_30 hQ h6 h7 h8 hr hsz hb1 hr2 d2 dd
    generalize a0_30.eval = ρ at *
    go_simp
  refine fa0_30.step 56 (.int .i64 (q : Int)) rfl (lb_ I0.size) (wanted_none rfl) r_a0_31 (fun a0_31 fa0_31 => ?_)
  clear r_a0_31
  clear fa0_30
  have r_a0_32 : (execOp a0_31.eval { dst := some 57, op := Op.binOp BinOp.add 3 (Operand.tmp 56) (Operand.const (Value.int IntKind.i64 1)) 3, type := 3, pos := "ref.go:123", after := #[{ on := 3, ground := Ground.data }], guard := none }).run Try.prog (wr.drew.drew) = .ok (.value (.int .i64 ((q + 1 : Nat) : Int))) (wr.drew.drew) := by
    have kc : ∀ v, a0_31.eval (.const v) = v := fun _ => rfl
    have e56 := (show a0_31.eval (.tmp 56) = .int .i64 (q : Int) from (fa0_31.at_ 56))
    clear fa0_31 hQ h6 h7 h8 hr hsz hb1 hr2 d2 dd
    generalize a0_31.eval = ρ at *
    go_simp
  refine fa0_31.step 57 (.int .i64 ((q + 1 : Nat) : Int)) rfl (lb_ I0.size) (wanted_none rfl) r_a0_32 (fun a0_32 fa0_32 => ?_)
  clear r_a0_32
  clear fa0_31
  have r_a0_33 : (execOp a0_32.eval { dst := some 58, op := Op.nilCheck (Operand.tmp 53), type := 0, pos := "ref.go:123", after := #[{ on := 0, ground := Ground.data }, { on := 0, ground := Ground.phase }, { on := 1, ground := Ground.phase }, { on := 2, ground := Ground.phase }, { on := 3, ground := Ground.phase }, { on := 4, ground := Ground.phase }], guard := none }).run Try.prog (wr.drew.drew) = .ok (.value (.pointer (some ⟨b, 0, none⟩))) (wr.drew.drew) := by
    have e53 := (show a0_32.eval (.tmp 53) = .pointer (some ⟨b, 0, none⟩) from (fa0_32.at_ 53))
    clear fa0_32 hQ h6 h7 h8 hr hsz hb1 hr2 d2 dd
    generalize a0_32.eval = ρ at *
    go_simp
  refine fa0_32.step 58 (.pointer (some ⟨b, 0, none⟩)) rfl (lb_ I0.size) (wanted_none rfl) r_a0_33 (fun a0_33 fa0_33 => ?_)
  clear r_a0_33
  clear fa0_32
  have r_a0_34 : (execOp a0_33.eval { dst := some 59, op := Op.fieldAddr 37 (Operand.tmp 58) 1, type := 0, pos := "ref.go:123", after := #[{ on := 5, ground := Ground.data }, { on := 0, ground := Ground.phase }, { on := 1, ground := Ground.phase }, { on := 2, ground := Ground.phase }, { on := 3, ground := Ground.phase }, { on := 4, ground := Ground.phase }], guard := none }).run Try.prog (wr.drew.drew) = .ok (.value (.pointer (some ⟨b, 1, none⟩))) (wr.drew.drew) := by
    have e58 := (show a0_33.eval (.tmp 58) = .pointer (some ⟨b, 0, none⟩) from (fa0_33.at_ 58))
    clear fa0_33 hQ h6 h7 h8 hr hsz hb1 hr2 d2 dd
    generalize a0_33.eval = ρ at *
    go_simp
  refine fa0_33.step 59 (.pointer (some ⟨b, 1, none⟩)) rfl (lb_ I0.size) (wanted_none rfl) r_a0_34 (fun a0_34 fa0_34 => ?_)
  clear r_a0_34
  clear fa0_33
  have r_a0_35 : (execOp a0_34.eval { dst := none, op := Op.store 3 (Operand.tmp 59) (Operand.tmp 57), type := 0, pos := "ref.go:123", after := #[{ on := 6, ground := Ground.data }, { on := 4, ground := Ground.data }, { on := 0, ground := Ground.phase }, { on := 1, ground := Ground.phase }, { on := 2, ground := Ground.phase }, { on := 3, ground := Ground.phase }, { on := 4, ground := Ground.phase }], guard := none }).run Try.prog (wr.drew.drew) = .ok .skip (World.setCell wr.drew.drew ⟨b, 1, none⟩ (.int .i64 ((q + 1 : Nat) : Int))) := by
    have e59 := (show a0_34.eval (.tmp 59) = .pointer (some ⟨b, 1, none⟩) from (fa0_34.at_ 59))
    have e57 := (show a0_34.eval (.tmp 57) = .int .i64 ((q + 1 : Nat) : Int) from (fa0_34.at_ 57))
    clear fa0_34 hQ h6 h7 h8 hr hsz hb1 hr2 d2 dd
    generalize a0_34.eval = ρ at *
    go_simp
  refine fa0_34.store rfl (wanted_none rfl) r_a0_35 (fun a0_35 fa0_35 => ?_)
  clear r_a0_35
  obtain ⟨hv, fv⟩ := hr2.set1 (q + 1)
  generalize World.setCell wr.drew.drew ⟨b, 1, none⟩ (.int .i64 ((q + 1 : Nat) : Int)) = V at *
  have fV : Fr (fun k => k = b) wr V := Fr.trans (d2.mono (fun _ _ f => f.elim)) fv (fun _ _ e => e)
  clear fa0_34
  refine wpList_nil ?_
  change Code.wp _ _ _ _ _
  refine wp_seq ?_
  refine wp_region_list ?_
  unfold rHC16
  refine fa0_35.move 60 (.int .u64 (n : Int)) _ (Or.inl rfl) rfl (lb_ I0.size) (wanted_none rfl) ((fa0_35.at_ 6).trans h6) (fun a0_36 fa0_36 => ?_)
  clear fa0_35
  refine fa0_36.move 61 (.int .u64 (x : Int)) _ (Or.inl rfl) rfl (lb_ I0.size) (wanted_none rfl) (fa0_36.at_ 9) (fun a0_37 fa0_37 => ?_)
  clear fa0_36
  have r_a0_38 : (execOp a0_37.eval { dst := some 62, op := Op.binOp BinOp.rem 22 (Operand.tmp 61) (Operand.const (Value.int IntKind.u64 128)) 22, type := 22, pos := "ref.go:124", after := #[{ on := 1, ground := Ground.data }], guard := none }).run Try.prog (V) = .ok (.value (.int .u64 (y : Int))) (V) := by
    have kc : ∀ v, a0_37.eval (.const v) = v := fun _ => rfl
    have e61 := (show a0_37.eval (.tmp 61) = .int .u64 (x : Int) from (fa0_37.at_ 61))
    clear fa0_37 hQ h6 h7 h8 hr hsz hb1 hr2 d2 dd hv fv fV
    generalize a0_37.eval = ρ at *
    go_simp
  refine fa0_37.step 62 (.int .u64 (y : Int)) rfl (lb_ I0.size) (wanted_none rfl) r_a0_38 (fun a0_38 fa0_38 => ?_)
  clear r_a0_38
  clear fa0_37
  refine fa0_38.move 63 (.int .u64 (u : Int)) _ (Or.inl rfl) rfl (lb_ I0.size) (wanted_none rfl) ((fa0_38.at_ 7).trans h7) (fun a0_39 fa0_39 => ?_)
  clear fa0_38
  have r_a0_40 : (execOp a0_39.eval { dst := some 64, op := Op.binOp BinOp.mul 22 (Operand.tmp 62) (Operand.tmp 63) 22, type := 22, pos := "ref.go:124", after := #[{ on := 2, ground := Ground.data }, { on := 3, ground := Ground.data }], guard := none }).run Try.prog (V) = .ok (.value (.int .u64 (z : Int))) (V) := by
    have e62 := (show a0_39.eval (.tmp 62) = .int .u64 (y : Int) from (fa0_39.at_ 62))
    have e63 := (show a0_39.eval (.tmp 63) = .int .u64 (u : Int) from (fa0_39.at_ 63))
    clear fa0_39 hQ h6 h7 h8 hr hsz hb1 hr2 d2 dd hv fv fV
    generalize a0_39.eval = ρ at *
    go_simp
  refine fa0_39.step 64 (.int .u64 (z : Int)) rfl (lb_ I0.size) (wanted_none rfl) r_a0_40 (fun a0_40 fa0_40 => ?_)
  clear r_a0_40
  clear fa0_39
  have r_a0_41 : (execOp a0_40.eval { dst := some 65, op := Op.binOp BinOp.add 22 (Operand.tmp 60) (Operand.tmp 64) 22, type := 22, pos := "ref.go:124", after := #[{ on := 0, ground := Ground.data }, { on := 4, ground := Ground.data }], guard := none }).run Try.prog (V) = .ok (.value (.int .u64 (n2 : Int))) (V) := by
    have e60 := (show a0_40.eval (.tmp 60) = .int .u64 (n : Int) from (fa0_40.at_ 60))
    have e64 := (show a0_40.eval (.tmp 64) = .int .u64 (z : Int) from (fa0_40.at_ 64))
    clear fa0_40 hQ h6 h7 h8 hr hsz hb1 hr2 d2 dd hv fv fV
    generalize a0_40.eval = ρ at *
    go_simp
  refine fa0_40.step 65 (.int .u64 (n2 : Int)) rfl (lb_ I0.size) (wanted_none rfl) r_a0_41 (fun a0_41 fa0_41 => ?_)
  clear r_a0_41
  clear fa0_40
  refine fa0_41.move 6 (.int .u64 (n2 : Int)) _ (Or.inr rfl) rfl (lb_ I0.size) (wanted_none rfl) (fa0_41.at_ 65) (fun a0_42 fa0_42 => ?_)
  clear fa0_41
  refine wpList_nil ?_
  change Code.wp _ _ _ _ _
  refine wp_seq ?_
  refine wp_region_list ?_
  unfold rHC17
  refine fa0_42.move 66 (.int .u64 (u : Int)) _ (Or.inl rfl) rfl (lb_ I0.size) (wanted_none rfl) ((fa0_42.at_ 7).trans h7) (fun a0_43 fa0_43 => ?_)
  clear fa0_42
  have r_a0_44 : (execOp a0_43.eval { dst := some 67, op := Op.binOp BinOp.mul 22 (Operand.tmp 66) (Operand.const (Value.int IntKind.u64 128)) 22, type := 22, pos := "ref.go:125", after := #[{ on := 0, ground := Ground.data }], guard := none }).run Try.prog (V) = .ok (.value (.int .u64 (u2 : Int))) (V) := by
    have kc : ∀ v, a0_43.eval (.const v) = v := fun _ => rfl
    have e66 := (show a0_43.eval (.tmp 66) = .int .u64 (u : Int) from (fa0_43.at_ 66))
    clear fa0_43 hQ h6 h7 h8 hr hsz hb1 hr2 d2 dd hv fv fV
    generalize a0_43.eval = ρ at *
    go_simp
  refine fa0_43.step 67 (.int .u64 (u2 : Int)) rfl (lb_ I0.size) (wanted_none rfl) r_a0_44 (fun a0_44 fa0_44 => ?_)
  clear r_a0_44
  clear fa0_43
  refine fa0_44.move 7 (.int .u64 (u2 : Int)) _ (Or.inr rfl) rfl (lb_ I0.size) (wanted_none rfl) (fa0_44.at_ 67) (fun a0_45 fa0_45 => ?_)
  clear fa0_44
  refine wpList_nil ?_
  change Code.wp _ _ _ _ _
  refine wp_seq ?_
  refine wp_region_list ?_
  unfold rHC18
  refine fa0_45.move 68 (.int .u64 (x : Int)) _ (Or.inl rfl) rfl (lb_ I0.size) (wanted_none rfl) (fa0_45.at_ 9) (fun a0_46 fa0_46 => ?_)
  clear fa0_45
  have r_a0_47 : (execOp a0_46.eval { dst := some 69, op := Op.binOp BinOp.lss 22 (Operand.tmp 68) (Operand.const (Value.int IntKind.u64 128)) 22, type := 4, pos := "ref.go:126", after := #[{ on := 0, ground := Ground.data }], guard := none }).run Try.prog (V) = .ok (.value (.bool true)) (V) := by
    have kc : ∀ v, a0_46.eval (.const v) = v := fun _ => rfl
    have e68 := (show a0_46.eval (.tmp 68) = .int .u64 (x : Int) from (fa0_46.at_ 68))
    clear fa0_46 hQ h6 h7 h8 hr hsz hb1 hr2 d2 dd hv fv fV
    generalize a0_46.eval = ρ at *
    go_simp
  refine fa0_46.step 69 (.bool true) rfl (lb_ I0.size) (wanted_none rfl) r_a0_47 (fun a0_47 fa0_47 => ?_)
  clear r_a0_47
  clear fa0_46
  refine wpList_nil ?_
  change Code.wp _ _ _ _ _
  refine wp_cond_true (show a0_47.eval (.tmp 69) = .bool true from (fa0_47.at_ 69)) (wp_seq (wp_seq ?_))
  refine wp_region_list ?_
  unfold rHC19
  refine fa0_47.move 70 (.int .u64 (x : Int)) _ (Or.inl rfl) rfl (lb_ I0.size) (wanted_none rfl) (fa0_47.at_ 9) (fun a0_48 fa0_48 => ?_)
  clear fa0_47
  have r_a0_49 : (execOp a0_48.eval { dst := some 71, op := Op.binOp BinOp.eql 22 (Operand.tmp 70) (Operand.const (Value.int IntKind.u64 0)) 22, type := 4, pos := "ref.go:127", after := #[{ on := 0, ground := Ground.data }], guard := none }).run Try.prog (V) = .ok (.value (.bool true)) (V) := by
    have kc : ∀ v, a0_48.eval (.const v) = v := fun _ => rfl
    have e70 := (show a0_48.eval (.tmp 70) = .int .u64 (x : Int) from (fa0_48.at_ 70))
    clear fa0_48 hQ h6 h7 h8 hr hsz hr2 d2 dd hv fv fV
    generalize a0_48.eval = ρ at *
    go_simp
  refine fa0_48.step 71 (.bool true) rfl (lb_ I0.size) (wanted_none rfl) r_a0_49 (fun a0_49 fa0_49 => ?_)
  clear r_a0_49
  clear fa0_48
  refine fa0_49.move 72 (.bool true) _ (Or.inl rfl) rfl (lb_ I0.size) (wanted_none rfl) (fa0_49.at_ 71) (fun a0_50 fa0_50 => ?_)
  clear fa0_49
  refine fa0_50.move 73 (.int .i64 (i : Int)) _ (Or.inl rfl) rfl (lb_ I0.size) ((wanted_at (t := 72) (c := true) (b := true) rfl rfl rfl (lb_ (fa0_50.size.trans I0.size)) (fa0_50.at_ 72)).trans (by rfl)) ((fa0_50.at_ 8).trans h8) (fun a0_51 fa0_51 => ?_)
  clear fa0_50
  have r_a0_52 : (execOp a0_51.eval { dst := some 74, op := Op.binOp BinOp.gtr 3 (Operand.tmp 73) (Operand.const (Value.int IntKind.i64 0)) 3, type := 4, pos := "ref.go:127", after := #[{ on := 3, ground := Ground.data }, { on := 2, ground := Ground.guard }], guard := some (2, true) }).run Try.prog (V) = .ok (.value (.bool false)) (V) := by
    have kc : ∀ v, a0_51.eval (.const v) = v := fun _ => rfl
    have e73 := (show a0_51.eval (.tmp 73) = .int .i64 (i : Int) from (fa0_51.at_ 73))
    clear fa0_51 hQ h6 h7 h8 hr hsz hr2 d2 dd hv fv fV
    generalize a0_51.eval = ρ at *
    go_simp
  refine fa0_51.step 74 (.bool false) rfl (lb_ I0.size) ((wanted_at (t := 72) (c := true) (b := true) rfl rfl rfl (lb_ (fa0_51.size.trans I0.size)) (fa0_51.at_ 72)).trans (by rfl)) r_a0_52 (fun a0_52 fa0_52 => ?_)
  clear r_a0_52
  clear fa0_51
  have r_a0_53 : (execOp a0_52.eval { dst := some 75, op := Op.pick (Operand.tmp 72) (Operand.tmp 74) (Operand.const (Value.bool false)), type := 4, pos := "ref.go:127", after := #[{ on := 2, ground := Ground.data }, { on := 4, ground := Ground.data }], guard := none }).run Try.prog (V) = .ok (.value (.bool false)) (V) := by
    have kc : ∀ v, a0_52.eval (.const v) = v := fun _ => rfl
    have e72 := (show a0_52.eval (.tmp 72) = .bool true from (fa0_52.at_ 72))
    have e74 := (show a0_52.eval (.tmp 74) = .bool false from (fa0_52.at_ 74))
    clear fa0_52 hQ h6 h7 h8 hr hsz hr2 d2 dd hv fv fV
    generalize a0_52.eval = ρ at *
    go_simp
  refine fa0_52.step 75 (.bool false) rfl (lb_ I0.size) (wanted_none rfl) r_a0_53 (fun a0_53 fa0_53 => ?_)
  clear r_a0_53
  clear fa0_52
  refine wpList_nil ?_
  change Code.wp _ _ _ _ _
  refine wp_cond_false (show a0_53.eval (.tmp 75) = .bool false from (fa0_53.at_ 75)) (wp_skip ?_)
  change Code.wp _ _ _ _ _
  refine wp_seq (wp_seq ?_)
  refine wp_region_list ?_
  unfold rHC22
  refine fa0_53.move 79 (.int .u64 (n2 : Int)) _ (Or.inl rfl) rfl (lb_ I0.size) (wanted_none rfl) (fa0_53.at_ 6) (fun a0_54 fa0_54 => ?_)
  clear fa0_53
  refine fa0_54.move 80 (.int .u64 (most : Int)) _ (Or.inl rfl) rfl (lb_ I0.size) (wanted_none rfl) ((fa0_54.at_ 1).trans I0.s1) (fun a0_55 fa0_55 => ?_)
  clear fa0_54
  have r_a0_56 : (execOp a0_55.eval { dst := some 81, op := Op.binOp BinOp.gtr 22 (Operand.tmp 79) (Operand.tmp 80) 22, type := 4, pos := "ref.go:131", after := #[{ on := 0, ground := Ground.data }, { on := 1, ground := Ground.data }], guard := none }).run Try.prog (V) = .ok (.value (.bool true)) (V) := by
    have e79 := (show a0_55.eval (.tmp 79) = .int .u64 (n2 : Int) from (fa0_55.at_ 79))
    have e80 := (show a0_55.eval (.tmp 80) = .int .u64 (most : Int) from (fa0_55.at_ 80))
    clear fa0_55 hQ h6 h7 h8 hr hsz hr2 d2 dd hv fv fV
    generalize a0_55.eval = ρ at *
    go_simp
  refine fa0_55.step 81 (.bool true) rfl (lb_ I0.size) (wanted_none rfl) r_a0_56 (fun a0_56 fa0_56 => ?_)
  clear r_a0_56
  clear fa0_55
  refine wpList_nil ?_
  change Code.wp _ _ _ _ _
  refine wp_cond_true (show a0_56.eval (.tmp 81) = .bool true from (fa0_56.at_ 81)) (wp_seq ?_)
  refine wp_region_list ?_
  unfold rHC23
  refine fa0_56.move 82 (.pointer (some ⟨b, 0, none⟩)) _ (Or.inl rfl) rfl (lb_ I0.size) (wanted_none rfl) ((fa0_56.at_ 0).trans I0.s0) (fun a0_57 fa0_57 => ?_)
  clear fa0_56
  refine fa0_57.move 83 (.int .i64 (p : Int)) _ (Or.inl rfl) rfl (lb_ I0.size) (wanted_none rfl) ((fa0_57.at_ 5).trans I0.s5) (fun a0_58 fa0_58 => ?_)
  clear fa0_57
  have r_a0_59 : (execOp a0_58.eval { dst := some 84, op := Op.call { callee := Callee.value (Operand.func 65), args := #[Operand.tmp 82, Operand.const (Value.int IntKind.i64 12), Operand.tmp 83], argTypes := #[34, 35, 3] }, type := 0, pos := "ref.go:132", after := #[{ on := 0, ground := Ground.data }, { on := 1, ground := Ground.data }], guard := none }).run Try.prog (V) = .ok (.enter 65 #[.pointer (some ⟨b, 0, none⟩), Value.int IntKind.i64 12, .int .i64 (p : Int)]) (V) := by
    have kc : ∀ v, a0_58.eval (.const v) = v := fun _ => rfl
    have kf : ∀ f, a0_58.eval (.func f) = .func (.func f) #[] #[] := fun _ => rfl
    have e82 := (show a0_58.eval (.tmp 82) = .pointer (some ⟨b, 0, none⟩) from (fa0_58.at_ 82))
    have e83 := (show a0_58.eval (.tmp 83) = .int .i64 (p : Int) from (fa0_58.at_ 83))
    clear fa0_58 hQ h6 h7 h8 hr hsz hr2 d2 dd hv fv fV
    generalize a0_58.eval = ρ at *
    go_simp
  refine fa0_58.call 84 rfl (lb_ I0.size) (wanted_none rfl) r_a0_59 (rrfail_calls (d := 12) (q := p) V hv) (fun e VF hR => ?_)
  obtain ⟨rfl, hf, ff⟩ := hR
  clear r_a0_59
  refine ⟨_, rfl, fun a0_59 fa0_59 => ?_⟩
  clear fa0_58
  refine wpList_nil ?_
  change Code.wp _ _ _ _ _
  refine wp_seq ?_
  refine wp_region_list ?_
  unfold rHC24
  refine fa0_59.move 4 (.int .u64 0) _ (Or.inr rfl) rfl (lb_ I0.size) (wanted_none rfl) rfl (fun a0_60 fa0_60 => ?_)
  clear fa0_59
  refine wpList_nil ?_
  change Code.wp _ _ _ _ _
  refine wp_ret ?_
  exact hQ a0_60 VF (fa0_60.defers.trans I0.defers) (show a0_60.eval (.tmp 4) = .int .u64 0 from (fa0_60.at_ 4)) hf (Fr.trans fV ff (fun _ _ e => e))
set_option maxRecDepth 100000 in
set_option maxHeartbeats 1000000 in
theorem hcR00 {b p q i n u most : Nat} {s : ByteArray} {Q : Exit → Act → World → Prop} (hQp : ∀ c (a : Act) d v w, Q (.panic c) (a.put d v) w → Q (.panic c) a w) (a0 : Act) (wr : World) (I0 : IHC (.pointer (some ⟨b, 0, none⟩)) (.int .u64 (most : Int)) (.int .i64 (p : Int)) a0) (h6 : a0.eval (.tmp 6) = .int .u64 (n : Int)) (h7 : a0.eval (.tmp 7) = .int .u64 (u : Int)) (h8 : a0.eval (.tmp 8) = .int .i64 (i : Int)) (hr : RRAt wr b s q 0) (hsz : s.size ≤ 1000000000000) {x : Nat} (hq : q < s.size) (hx : (s[q]).toNat = x) {y z n2 u2 : Nat} (hy : x % 128 = y) (hz : y * u = z) (hn2 : n + z = n2) (hn3 : n2 < 18446744073709551616) (hu2 : u * 128 % 18446744073709551616 = u2) (hi : i < 9) (hb : 0 < x ∧ x < 128) (hmo : ¬ most < n2) (hQ : ∀ (a : Act) W, a.defers = [] → a.eval (.tmp 4) = .int .u64 (n2 : Int) → RRAt W b s (q + 1) 0 → Fr (fun k => k = b) wr W → Q .ret a W) : cHC1.wp Try.prog Q a0 wr := by
  have hne : ¬ (q : Int) = (s.size : Int) := by omega
  have hqi : (q : Int) < (s.size : Int) := by omega
  have xl : x < 256 := by rw [← hx]; exact (s[q]).toNat_lt
  have wx : IntKind.u64.wrap (x : Int) = (x : Int) := by rw [IntKind.wrap_u64]; omega
  have w1 : IntKind.i64.wrap ((q : Int) + 1) = ((q + 1 : Nat) : Int) := by rw [IntKind.wrap_i64]; omega
  have hyt : (x : Int).tmod 128 = (y : Int) := by rw [← hy]; rfl
  have hye : (x : Int) % 128 = (y : Int) := by omega
  have wz : IntKind.u64.wrap ((y : Int) * (u : Int)) = (z : Int) := by rw [← Int.natCast_mul, hz, IntKind.wrap_u64]; omega
  have wn : IntKind.u64.wrap ((n : Int) + (z : Int)) = (n2 : Int) := by rw [IntKind.wrap_u64]; omega
  have wu : IntKind.u64.wrap ((u : Int) * 128) = (u2 : Int) := by rw [IntKind.wrap_u64]; omega
  clear hy hz hn2 hu2
  have hi9 : ¬ (i : Int) = 9 := by omega
  have hb1 : ¬ (x : Int) = 0 := by omega
  have hb1n : ¬ x = 0 := by omega
  have hb2 : (x : Int) < 128 := by omega
  have hm2 : ¬ (most : Int) < (n2 : Int) := by omega
  have hm3 : (n2 : Int) ≤ (most : Int) := by omega
  clear hb hn3 hmo hi
  have fa0_0 := Fe.refl a0
  have k0 := hr.c0
  have k1 := hr.c1
  have dd : Same wr wr.drew := (Fr.refl (fun _ => False) wr).drew
  unfold cHC1
  refine wp_seq (wp_block (wp_seq (wp_seq ?_)))
  refine wp_region_held_drew (ops := rHC8) (S := fun Z => Same wr Z) (by kernel_rfl) (dd) (fun hS0 => ?_)
  refine fa0_0.takeMove 0 21 (.pointer (some ⟨b, 0, none⟩)) _ (Or.inl rfl) rfl (by kernel_rfl) (by kernel_rfl) (by kernel_rfl) (fun _ _ _ h => hQp _ _ _ _ _ h) rfl (lb_ I0.size) (wanted_none rfl) ((fa0_0.at_ 0).trans I0.s0) hS0 (fun a0_1 fa0_1 => ?_)
  clear fa0_0
  have r_a0_2 : ∀ Z, (fun Z => Same wr Z) Z → (execOp a0_1.eval { dst := some 22, op := Op.nilCheck (Operand.tmp 21), type := 0, pos := "ref.go:114", after := #[{ on := 0, ground := Ground.data }], guard := none }).run Try.prog Z = .ok (.value (.pointer (some ⟨b, 0, none⟩))) Z := fun Z hZ => by
    have e21 := (show a0_1.eval (.tmp 21) = .pointer (some ⟨b, 0, none⟩) from (fa0_1.at_ 21))
    clear fa0_1 hQ h6 h7 h8 hr hsz
    generalize a0_1.eval = ρ at *
    go_simp
  refine fa0_1.take 1 22 (.pointer (some ⟨b, 0, none⟩)) rfl (by kernel_rfl) (by kernel_rfl) (by kernel_rfl) (fun _ _ _ h => hQp _ _ _ _ _ h) rfl (lb_ I0.size) (wanted_none rfl) r_a0_2 hS0 (fun a0_2 fa0_2 => ?_)
  clear r_a0_2
  clear fa0_1
  have r_a0_3 : ∀ Z, (fun Z => Same wr Z) Z → (execOp a0_2.eval { dst := some 23, op := Op.fieldAddr 37 (Operand.tmp 22) 1, type := 0, pos := "ref.go:114", after := #[{ on := 1, ground := Ground.data }], guard := none }).run Try.prog Z = .ok (.value (.pointer (some ⟨b, 1, none⟩))) Z := fun Z hZ => by
    have e22 := (show a0_2.eval (.tmp 22) = .pointer (some ⟨b, 0, none⟩) from (fa0_2.at_ 22))
    clear fa0_2 hQ h6 h7 h8 hr hsz
    generalize a0_2.eval = ρ at *
    go_simp
  refine fa0_2.take 2 23 (.pointer (some ⟨b, 1, none⟩)) rfl (by kernel_rfl) (by kernel_rfl) (by kernel_rfl) (fun _ _ _ h => hQp _ _ _ _ _ h) rfl (lb_ I0.size) (wanted_none rfl) r_a0_3 hS0 (fun a0_3 fa0_3 => ?_)
  clear r_a0_3
  clear fa0_2
  have r_a0_4 : ∀ Z, (fun Z => Same wr Z) Z → (execOp a0_3.eval { dst := some 24, op := Op.load 3 (Operand.tmp 23), type := 3, pos := "ref.go:114", after := #[{ on := 2, ground := Ground.data }], guard := none }).run Try.prog Z = .ok (.value (.int .i64 (q : Int))) Z := fun Z hZ => by
    have q0 := hZ.keep k0
    have q1 := hZ.keep k1
    clear hZ
    have e23 := (show a0_3.eval (.tmp 23) = .pointer (some ⟨b, 1, none⟩) from (fa0_3.at_ 23))
    clear fa0_3 hQ h6 h7 h8 hr hsz
    generalize a0_3.eval = ρ at *
    go_simp
  refine fa0_3.take 3 24 (.int .i64 (q : Int)) rfl (by kernel_rfl) (by kernel_rfl) (by kernel_rfl) (fun _ _ _ h => hQp _ _ _ _ _ h) rfl (lb_ I0.size) (wanted_none rfl) r_a0_4 hS0 (fun a0_4 fa0_4 => ?_)
  clear r_a0_4
  clear fa0_3
  refine fa0_4.takeMove 4 25 (.pointer (some ⟨b, 0, none⟩)) _ (Or.inl rfl) rfl (by kernel_rfl) (by kernel_rfl) (by kernel_rfl) (fun _ _ _ h => hQp _ _ _ _ _ h) rfl (lb_ I0.size) (wanted_none rfl) ((fa0_4.at_ 0).trans I0.s0) hS0 (fun a0_5 fa0_5 => ?_)
  clear fa0_4
  have r_a0_6 : ∀ Z, (fun Z => Same wr Z) Z → (execOp a0_5.eval { dst := some 26, op := Op.nilCheck (Operand.tmp 25), type := 0, pos := "ref.go:114", after := #[{ on := 4, ground := Ground.data }], guard := none }).run Try.prog Z = .ok (.value (.pointer (some ⟨b, 0, none⟩))) Z := fun Z hZ => by
    have e25 := (show a0_5.eval (.tmp 25) = .pointer (some ⟨b, 0, none⟩) from (fa0_5.at_ 25))
    clear fa0_5 hQ h6 h7 h8 hr hsz
    generalize a0_5.eval = ρ at *
    go_simp
  refine fa0_5.take 5 26 (.pointer (some ⟨b, 0, none⟩)) rfl (by kernel_rfl) (by kernel_rfl) (by kernel_rfl) (fun _ _ _ h => hQp _ _ _ _ _ h) rfl (lb_ I0.size) (wanted_none rfl) r_a0_6 hS0 (fun a0_6 fa0_6 => ?_)
  clear r_a0_6
  clear fa0_5
  have r_a0_7 : ∀ Z, (fun Z => Same wr Z) Z → (execOp a0_6.eval { dst := some 27, op := Op.fieldAddr 37 (Operand.tmp 26) 0, type := 0, pos := "ref.go:114", after := #[{ on := 5, ground := Ground.data }], guard := none }).run Try.prog Z = .ok (.value (.pointer (some ⟨b, 0, none⟩))) Z := fun Z hZ => by
    have e26 := (show a0_6.eval (.tmp 26) = .pointer (some ⟨b, 0, none⟩) from (fa0_6.at_ 26))
    clear fa0_6 hQ h6 h7 h8 hr hsz
    generalize a0_6.eval = ρ at *
    go_simp
  refine fa0_6.take 6 27 (.pointer (some ⟨b, 0, none⟩)) rfl (by kernel_rfl) (by kernel_rfl) (by kernel_rfl) (fun _ _ _ h => hQp _ _ _ _ _ h) rfl (lb_ I0.size) (wanted_none rfl) r_a0_7 hS0 (fun a0_7 fa0_7 => ?_)
  clear r_a0_7
  clear fa0_6
  have r_a0_8 : ∀ Z, (fun Z => Same wr Z) Z → (execOp a0_7.eval { dst := some 28, op := Op.load 9 (Operand.tmp 27), type := 9, pos := "ref.go:114", after := #[{ on := 6, ground := Ground.data }], guard := none }).run Try.prog Z = .ok (.value (.string s)) Z := fun Z hZ => by
    have q0 := hZ.keep k0
    have q1 := hZ.keep k1
    clear hZ
    have e27 := (show a0_7.eval (.tmp 27) = .pointer (some ⟨b, 0, none⟩) from (fa0_7.at_ 27))
    clear fa0_7 hQ h6 h7 h8 hr hsz
    generalize a0_7.eval = ρ at *
    go_simp
  refine fa0_7.take 7 28 (.string s) rfl (by kernel_rfl) (by kernel_rfl) (by kernel_rfl) (fun _ _ _ h => hQp _ _ _ _ _ h) rfl (lb_ I0.size) (wanted_none rfl) r_a0_8 hS0 (fun a0_8 fa0_8 => ?_)
  clear r_a0_8
  clear fa0_7
  have r_a0_9 : ∀ Z, (fun Z => Same wr Z) Z → (execOp a0_8.eval { dst := some 29, op := Op.call { callee := Callee.builtin Builtin.len, args := #[Operand.tmp 28], argTypes := #[9] }, type := 3, pos := "ref.go:114", after := #[{ on := 7, ground := Ground.data }], guard := none }).run Try.prog Z = .ok (.value (.int .i64 (s.size : Int))) Z := fun Z hZ => by
    have e28 := (show a0_8.eval (.tmp 28) = .string s from (fa0_8.at_ 28))
    clear fa0_8 hQ h6 h7 h8 hr hsz
    generalize a0_8.eval = ρ at *
    go_simp
  refine fa0_8.take 8 29 (.int .i64 (s.size : Int)) rfl (by kernel_rfl) (by kernel_rfl) (by kernel_rfl) (fun _ _ _ h => hQp _ _ _ _ _ h) rfl (lb_ I0.size) (wanted_none rfl) r_a0_9 hS0 (fun a0_9 fa0_9 => ?_)
  clear r_a0_9
  clear fa0_8
  have r_a0_10 : ∀ Z, (fun Z => Same wr Z) Z → (execOp a0_9.eval { dst := some 30, op := Op.binOp BinOp.eql 3 (Operand.tmp 24) (Operand.tmp 29) 3, type := 4, pos := "ref.go:114", after := #[{ on := 3, ground := Ground.data }, { on := 8, ground := Ground.data }], guard := none }).run Try.prog Z = .ok (.value (.bool false)) Z := fun Z hZ => by
    have e24 := (show a0_9.eval (.tmp 24) = .int .i64 (q : Int) from (fa0_9.at_ 24))
    have e29 := (show a0_9.eval (.tmp 29) = .int .i64 (s.size : Int) from (fa0_9.at_ 29))
    clear fa0_9 hQ h6 h7 h8 hr hsz
    generalize a0_9.eval = ρ at *
    go_simp
  refine fa0_9.take 9 30 (.bool false) rfl (by kernel_rfl) (by kernel_rfl) (by kernel_rfl) (fun _ _ _ h => hQp _ _ _ _ _ h) rfl (lb_ I0.size) (wanted_none rfl) r_a0_10 hS0 (fun a0_10 fa0_10 => ?_)
  clear r_a0_10
  clear fa0_9
  refine wpAnyH_done (by kernel_rfl) ?_ _
  change Code.wp _ _ _ _ _
  refine wp_cond_false (show a0_10.eval (.tmp 30) = .bool false from (fa0_10.at_ 30)) (wp_skip ?_)
  change Code.wp _ _ _ _ _
  refine wp_seq ?_
  have d2 : Same wr wr.drew.drew := dd.trans (Fr.refl (fun _ => False) wr.drew).drew
  refine wp_region_held_drew (ops := rHC11) (S := fun Z => Same wr Z) (by kernel_rfl) (d2) (fun hS10 => ?_)
  refine fa0_10.takeMove 0 34 (.pointer (some ⟨b, 0, none⟩)) _ (Or.inl rfl) rfl (by kernel_rfl) (by kernel_rfl) (by kernel_rfl) (fun _ _ _ h => hQp _ _ _ _ _ h) rfl (lb_ I0.size) (wanted_none rfl) ((fa0_10.at_ 0).trans I0.s0) hS10 (fun a0_11 fa0_11 => ?_)
  clear fa0_10
  have r_a0_12 : ∀ Z, (fun Z => Same wr Z) Z → (execOp a0_11.eval { dst := some 35, op := Op.nilCheck (Operand.tmp 34), type := 0, pos := "ref.go:118", after := #[{ on := 0, ground := Ground.data }], guard := none }).run Try.prog Z = .ok (.value (.pointer (some ⟨b, 0, none⟩))) Z := fun Z hZ => by
    have e34 := (show a0_11.eval (.tmp 34) = .pointer (some ⟨b, 0, none⟩) from (fa0_11.at_ 34))
    clear fa0_11 hQ h6 h7 h8 hr hsz
    generalize a0_11.eval = ρ at *
    go_simp
  refine fa0_11.take 1 35 (.pointer (some ⟨b, 0, none⟩)) rfl (by kernel_rfl) (by kernel_rfl) (by kernel_rfl) (fun _ _ _ h => hQp _ _ _ _ _ h) rfl (lb_ I0.size) (wanted_none rfl) r_a0_12 hS10 (fun a0_12 fa0_12 => ?_)
  clear r_a0_12
  clear fa0_11
  have r_a0_13 : ∀ Z, (fun Z => Same wr Z) Z → (execOp a0_12.eval { dst := some 36, op := Op.fieldAddr 37 (Operand.tmp 35) 0, type := 0, pos := "ref.go:118", after := #[{ on := 1, ground := Ground.data }], guard := none }).run Try.prog Z = .ok (.value (.pointer (some ⟨b, 0, none⟩))) Z := fun Z hZ => by
    have e35 := (show a0_12.eval (.tmp 35) = .pointer (some ⟨b, 0, none⟩) from (fa0_12.at_ 35))
    clear fa0_12 hQ h6 h7 h8 hr hsz
    generalize a0_12.eval = ρ at *
    go_simp
  refine fa0_12.take 2 36 (.pointer (some ⟨b, 0, none⟩)) rfl (by kernel_rfl) (by kernel_rfl) (by kernel_rfl) (fun _ _ _ h => hQp _ _ _ _ _ h) rfl (lb_ I0.size) (wanted_none rfl) r_a0_13 hS10 (fun a0_13 fa0_13 => ?_)
  clear r_a0_13
  clear fa0_12
  have r_a0_14 : ∀ Z, (fun Z => Same wr Z) Z → (execOp a0_13.eval { dst := some 37, op := Op.load 9 (Operand.tmp 36), type := 9, pos := "ref.go:118", after := #[{ on := 2, ground := Ground.data }], guard := none }).run Try.prog Z = .ok (.value (.string s)) Z := fun Z hZ => by
    have q0 := hZ.keep k0
    have q1 := hZ.keep k1
    clear hZ
    have e36 := (show a0_13.eval (.tmp 36) = .pointer (some ⟨b, 0, none⟩) from (fa0_13.at_ 36))
    clear fa0_13 hQ h6 h7 h8 hr hsz
    generalize a0_13.eval = ρ at *
    go_simp
  refine fa0_13.take 3 37 (.string s) rfl (by kernel_rfl) (by kernel_rfl) (by kernel_rfl) (fun _ _ _ h => hQp _ _ _ _ _ h) rfl (lb_ I0.size) (wanted_none rfl) r_a0_14 hS10 (fun a0_14 fa0_14 => ?_)
  clear r_a0_14
  clear fa0_13
  refine fa0_14.takeMove 4 38 (.pointer (some ⟨b, 0, none⟩)) _ (Or.inl rfl) rfl (by kernel_rfl) (by kernel_rfl) (by kernel_rfl) (fun _ _ _ h => hQp _ _ _ _ _ h) rfl (lb_ I0.size) (wanted_none rfl) ((fa0_14.at_ 0).trans I0.s0) hS10 (fun a0_15 fa0_15 => ?_)
  clear fa0_14
  have r_a0_16 : ∀ Z, (fun Z => Same wr Z) Z → (execOp a0_15.eval { dst := some 39, op := Op.nilCheck (Operand.tmp 38), type := 0, pos := "ref.go:118", after := #[{ on := 4, ground := Ground.data }], guard := none }).run Try.prog Z = .ok (.value (.pointer (some ⟨b, 0, none⟩))) Z := fun Z hZ => by
    have e38 := (show a0_15.eval (.tmp 38) = .pointer (some ⟨b, 0, none⟩) from (fa0_15.at_ 38))
    clear fa0_15 hQ h6 h7 h8 hr hsz
    generalize a0_15.eval = ρ at *
    go_simp
  refine fa0_15.take 5 39 (.pointer (some ⟨b, 0, none⟩)) rfl (by kernel_rfl) (by kernel_rfl) (by kernel_rfl) (fun _ _ _ h => hQp _ _ _ _ _ h) rfl (lb_ I0.size) (wanted_none rfl) r_a0_16 hS10 (fun a0_16 fa0_16 => ?_)
  clear r_a0_16
  clear fa0_15
  have r_a0_17 : ∀ Z, (fun Z => Same wr Z) Z → (execOp a0_16.eval { dst := some 40, op := Op.fieldAddr 37 (Operand.tmp 39) 1, type := 0, pos := "ref.go:118", after := #[{ on := 5, ground := Ground.data }], guard := none }).run Try.prog Z = .ok (.value (.pointer (some ⟨b, 1, none⟩))) Z := fun Z hZ => by
    have e39 := (show a0_16.eval (.tmp 39) = .pointer (some ⟨b, 0, none⟩) from (fa0_16.at_ 39))
    clear fa0_16 hQ h6 h7 h8 hr hsz
    generalize a0_16.eval = ρ at *
    go_simp
  refine fa0_16.take 6 40 (.pointer (some ⟨b, 1, none⟩)) rfl (by kernel_rfl) (by kernel_rfl) (by kernel_rfl) (fun _ _ _ h => hQp _ _ _ _ _ h) rfl (lb_ I0.size) (wanted_none rfl) r_a0_17 hS10 (fun a0_17 fa0_17 => ?_)
  clear r_a0_17
  clear fa0_16
  have r_a0_18 : ∀ Z, (fun Z => Same wr Z) Z → (execOp a0_17.eval { dst := some 41, op := Op.load 3 (Operand.tmp 40), type := 3, pos := "ref.go:118", after := #[{ on := 6, ground := Ground.data }], guard := none }).run Try.prog Z = .ok (.value (.int .i64 (q : Int))) Z := fun Z hZ => by
    have q0 := hZ.keep k0
    have q1 := hZ.keep k1
    clear hZ
    have e40 := (show a0_17.eval (.tmp 40) = .pointer (some ⟨b, 1, none⟩) from (fa0_17.at_ 40))
    clear fa0_17 hQ h6 h7 h8 hr hsz
    generalize a0_17.eval = ρ at *
    go_simp
  refine fa0_17.take 7 41 (.int .i64 (q : Int)) rfl (by kernel_rfl) (by kernel_rfl) (by kernel_rfl) (fun _ _ _ h => hQp _ _ _ _ _ h) rfl (lb_ I0.size) (wanted_none rfl) r_a0_18 hS10 (fun a0_18 fa0_18 => ?_)
  clear r_a0_18
  clear fa0_17
  have r_a0_19 : ∀ Z, (fun Z => Same wr Z) Z → (execOp a0_18.eval { dst := some 42, op := Op.index 9 (Operand.tmp 37) (Operand.tmp 41), type := 5, pos := "ref.go:118", after := #[{ on := 3, ground := Ground.data }, { on := 7, ground := Ground.data }], guard := none }).run Try.prog Z = .ok (.value (.int .u8 (x : Int))) Z := fun Z hZ => by
    have e37 := (show a0_18.eval (.tmp 37) = .string s from (fa0_18.at_ 37))
    have e41 := (show a0_18.eval (.tmp 41) = .int .i64 (q : Int) from (fa0_18.at_ 41))
    clear fa0_18 hQ h6 h7 h8 hr hsz
    generalize a0_18.eval = ρ at *
    go_simp
  refine fa0_18.take 8 42 (.int .u8 (x : Int)) rfl (by kernel_rfl) (by kernel_rfl) (by kernel_rfl) (fun _ _ _ h => hQp _ _ _ _ _ h) rfl (lb_ I0.size) (wanted_none rfl) r_a0_19 hS10 (fun a0_19 fa0_19 => ?_)
  clear r_a0_19
  clear fa0_18
  have r_a0_20 : ∀ Z, (fun Z => Same wr Z) Z → (execOp a0_19.eval { dst := some 43, op := Op.convert 5 22 (Operand.tmp 42), type := 22, pos := "ref.go:118", after := #[{ on := 8, ground := Ground.data }], guard := none }).run Try.prog Z = .ok (.value (.int .u64 (x : Int))) Z := fun Z hZ => by
    have e42 := (show a0_19.eval (.tmp 42) = .int .u8 (x : Int) from (fa0_19.at_ 42))
    clear fa0_19 hQ h6 h7 h8 hr hsz
    generalize a0_19.eval = ρ at *
    go_simp
  refine fa0_19.take 9 43 (.int .u64 (x : Int)) rfl (by kernel_rfl) (by kernel_rfl) (by kernel_rfl) (fun _ _ _ h => hQp _ _ _ _ _ h) rfl (lb_ I0.size) (wanted_none rfl) r_a0_20 hS10 (fun a0_20 fa0_20 => ?_)
  clear r_a0_20
  clear fa0_19
  refine fa0_20.takeMove 10 9 (.int .u64 (x : Int)) _ (Or.inr rfl) rfl (by kernel_rfl) (by kernel_rfl) (by kernel_rfl) (fun _ _ _ h => hQp _ _ _ _ _ h) rfl (lb_ I0.size) (wanted_none rfl) (fa0_20.at_ 43) hS10 (fun a0_21 fa0_21 => ?_)
  clear fa0_20
  refine wpAnyH_done (by kernel_rfl) ?_ _
  change Code.wp _ _ _ _ _
  refine wp_seq (wp_seq ?_)
  refine wp_region_list ?_
  unfold rHC12
  refine fa0_21.move 44 (.int .i64 (i : Int)) _ (Or.inl rfl) rfl (lb_ I0.size) (wanted_none rfl) ((fa0_21.at_ 8).trans h8) (fun a0_22 fa0_22 => ?_)
  clear fa0_21
  have r_a0_23 : (execOp a0_22.eval { dst := some 45, op := Op.binOp BinOp.eql 3 (Operand.tmp 44) (Operand.const (Value.int IntKind.i64 9)) 3, type := 4, pos := "ref.go:119", after := #[{ on := 0, ground := Ground.data }], guard := none }).run Try.prog (wr.drew.drew) = .ok (.value (.bool false)) (wr.drew.drew) := by
    have kc : ∀ v, a0_22.eval (.const v) = v := fun _ => rfl
    have e44 := (show a0_22.eval (.tmp 44) = .int .i64 (i : Int) from (fa0_22.at_ 44))
    clear fa0_22 hQ h6 h7 h8 hr hsz
    generalize a0_22.eval = ρ at *
    go_simp
  refine fa0_22.step 45 (.bool false) rfl (lb_ I0.size) (wanted_none rfl) r_a0_23 (fun a0_23 fa0_23 => ?_)
  clear r_a0_23
  clear fa0_22
  refine fa0_23.move 46 (.bool false) _ (Or.inl rfl) rfl (lb_ I0.size) (wanted_none rfl) (fa0_23.at_ 45) (fun a0_24 fa0_24 => ?_)
  clear fa0_23
  refine fa0_24.skip 47 rfl (lb_ I0.size) ((wanted_at (t := 46) (c := false) (b := true) rfl rfl rfl (lb_ (fa0_24.size.trans I0.size)) (fa0_24.at_ 46)).trans (by rfl)) (fun a0_25 fa0_25 => ?_)
  clear fa0_24
  refine fa0_25.skip 48 rfl (lb_ I0.size) ((wanted_at (t := 46) (c := false) (b := true) rfl rfl rfl (lb_ (fa0_25.size.trans I0.size)) (fa0_25.at_ 46)).trans (by rfl)) (fun a0_26 fa0_26 => ?_)
  clear fa0_25
  have r_a0_27 : (execOp a0_26.eval { dst := some 49, op := Op.pick (Operand.tmp 46) (Operand.tmp 48) (Operand.const (Value.bool false)), type := 4, pos := "ref.go:119", after := #[{ on := 2, ground := Ground.data }, { on := 4, ground := Ground.data }], guard := none }).run Try.prog (wr.drew.drew) = .ok (.value (.bool false)) (wr.drew.drew) := by
    have kc : ∀ v, a0_26.eval (.const v) = v := fun _ => rfl
    have e46 := (show a0_26.eval (.tmp 46) = .bool false from (fa0_26.at_ 46))
    have e48 := (show a0_26.eval (.tmp 48) = undef from (fa0_26.at_ 48))
    clear fa0_26 hQ h6 h7 h8 hr hsz
    generalize a0_26.eval = ρ at *
    go_simp
  refine fa0_26.step 49 (.bool false) rfl (lb_ I0.size) (wanted_none rfl) r_a0_27 (fun a0_27 fa0_27 => ?_)
  clear r_a0_27
  clear fa0_26
  refine wpList_nil ?_
  change Code.wp _ _ _ _ _
  refine wp_cond_false (show a0_27.eval (.tmp 49) = .bool false from (fa0_27.at_ 49)) (wp_skip ?_)
  change Code.wp _ _ _ _ _
  refine wp_seq ?_
  have hr2 := hr.fr d2 (fun f => f)
  have k1 := hr2.c1
  have z1 := hr2.z 1
  refine wp_region_list ?_
  unfold rHC15
  refine fa0_27.move 53 (.pointer (some ⟨b, 0, none⟩)) _ (Or.inl rfl) rfl (lb_ I0.size) (wanted_none rfl) ((fa0_27.at_ 0).trans I0.s0) (fun a0_28 fa0_28 => ?_)
  clear fa0_27
  have r_a0_29 : (execOp a0_28.eval { dst := some 54, op := Op.nilCheck (Operand.tmp 53), type := 0, pos := "ref.go:123", after := #[{ on := 0, ground := Ground.data }], guard := none }).run Try.prog (wr.drew.drew) = .ok (.value (.pointer (some ⟨b, 0, none⟩))) (wr.drew.drew) := by
    have e53 := (show a0_28.eval (.tmp 53) = .pointer (some ⟨b, 0, none⟩) from (fa0_28.at_ 53))
    clear fa0_28 hQ h6 h7 h8 hr hsz hr2 d2 dd
    generalize a0_28.eval = ρ at *
    go_simp
  refine fa0_28.step 54 (.pointer (some ⟨b, 0, none⟩)) rfl (lb_ I0.size) (wanted_none rfl) r_a0_29 (fun a0_29 fa0_29 => ?_)
  clear r_a0_29
  clear fa0_28
  have r_a0_30 : (execOp a0_29.eval { dst := some 55, op := Op.fieldAddr 37 (Operand.tmp 54) 1, type := 0, pos := "ref.go:123", after := #[{ on := 1, ground := Ground.data }], guard := none }).run Try.prog (wr.drew.drew) = .ok (.value (.pointer (some ⟨b, 1, none⟩))) (wr.drew.drew) := by
    have e54 := (show a0_29.eval (.tmp 54) = .pointer (some ⟨b, 0, none⟩) from (fa0_29.at_ 54))
    clear fa0_29 hQ h6 h7 h8 hr hsz hr2 d2 dd
    generalize a0_29.eval = ρ at *
    go_simp
  refine fa0_29.step 55 (.pointer (some ⟨b, 1, none⟩)) rfl (lb_ I0.size) (wanted_none rfl) r_a0_30 (fun a0_30 fa0_30 => ?_)
  clear r_a0_30
  clear fa0_29
  have r_a0_31 : (execOp a0_30.eval { dst := some 56, op := Op.load 3 (Operand.tmp 55), type := 3, pos := "ref.go:123", after := #[{ on := 2, ground := Ground.data }], guard := none }).run Try.prog (wr.drew.drew) = .ok (.value (.int .i64 (q : Int))) (wr.drew.drew) := by
    have e55 := (show a0_30.eval (.tmp 55) = .pointer (some ⟨b, 1, none⟩) from (fa0_30.at_ 55))
    clear fa0_30 hQ h6 h7 h8 hr hsz hr2 d2 dd
    generalize a0_30.eval = ρ at *
    go_simp
  refine fa0_30.step 56 (.int .i64 (q : Int)) rfl (lb_ I0.size) (wanted_none rfl) r_a0_31 (fun a0_31 fa0_31 => ?_)
  clear r_a0_31
  clear fa0_30
  have r_a0_32 : (execOp a0_31.eval { dst := some 57, op := Op.binOp BinOp.add 3 (Operand.tmp 56) (Operand.const (Value.int IntKind.i64 1)) 3, type := 3, pos := "ref.go:123", after := #[{ on := 3, ground := Ground.data }], guard := none }).run Try.prog (wr.drew.drew) = .ok (.value (.int .i64 ((q + 1 : Nat) : Int))) (wr.drew.drew) := by
    have kc : ∀ v, a0_31.eval (.const v) = v := fun _ => rfl
    have e56 := (show a0_31.eval (.tmp 56) = .int .i64 (q : Int) from (fa0_31.at_ 56))
    clear fa0_31 hQ h6 h7 h8 hr hsz hr2 d2 dd
    generalize a0_31.eval = ρ at *
    go_simp
  refine fa0_31.step 57 (.int .i64 ((q + 1 : Nat) : Int)) rfl (lb_ I0.size) (wanted_none rfl) r_a0_32 (fun a0_32 fa0_32 => ?_)
  clear r_a0_32
  clear fa0_31
  have r_a0_33 : (execOp a0_32.eval { dst := some 58, op := Op.nilCheck (Operand.tmp 53), type := 0, pos := "ref.go:123", after := #[{ on := 0, ground := Ground.data }, { on := 0, ground := Ground.phase }, { on := 1, ground := Ground.phase }, { on := 2, ground := Ground.phase }, { on := 3, ground := Ground.phase }, { on := 4, ground := Ground.phase }], guard := none }).run Try.prog (wr.drew.drew) = .ok (.value (.pointer (some ⟨b, 0, none⟩))) (wr.drew.drew) := by
    have e53 := (show a0_32.eval (.tmp 53) = .pointer (some ⟨b, 0, none⟩) from (fa0_32.at_ 53))
    clear fa0_32 hQ h6 h7 h8 hr hsz hr2 d2 dd
    generalize a0_32.eval = ρ at *
    go_simp
  refine fa0_32.step 58 (.pointer (some ⟨b, 0, none⟩)) rfl (lb_ I0.size) (wanted_none rfl) r_a0_33 (fun a0_33 fa0_33 => ?_)
  clear r_a0_33
  clear fa0_32
  have r_a0_34 : (execOp a0_33.eval { dst := some 59, op := Op.fieldAddr 37 (Operand.tmp 58) 1, type := 0, pos := "ref.go:123", after := #[{ on := 5, ground := Ground.data }, { on := 0, ground := Ground.phase }, { on := 1, ground := Ground.phase }, { on := 2, ground := Ground.phase }, { on := 3, ground := Ground.phase }, { on := 4, ground := Ground.phase }], guard := none }).run Try.prog (wr.drew.drew) = .ok (.value (.pointer (some ⟨b, 1, none⟩))) (wr.drew.drew) := by
    have e58 := (show a0_33.eval (.tmp 58) = .pointer (some ⟨b, 0, none⟩) from (fa0_33.at_ 58))
    clear fa0_33 hQ h6 h7 h8 hr hsz hr2 d2 dd
    generalize a0_33.eval = ρ at *
    go_simp
  refine fa0_33.step 59 (.pointer (some ⟨b, 1, none⟩)) rfl (lb_ I0.size) (wanted_none rfl) r_a0_34 (fun a0_34 fa0_34 => ?_)
  clear r_a0_34
  clear fa0_33
  have r_a0_35 : (execOp a0_34.eval { dst := none, op := Op.store 3 (Operand.tmp 59) (Operand.tmp 57), type := 0, pos := "ref.go:123", after := #[{ on := 6, ground := Ground.data }, { on := 4, ground := Ground.data }, { on := 0, ground := Ground.phase }, { on := 1, ground := Ground.phase }, { on := 2, ground := Ground.phase }, { on := 3, ground := Ground.phase }, { on := 4, ground := Ground.phase }], guard := none }).run Try.prog (wr.drew.drew) = .ok .skip (World.setCell wr.drew.drew ⟨b, 1, none⟩ (.int .i64 ((q + 1 : Nat) : Int))) := by
    have e59 := (show a0_34.eval (.tmp 59) = .pointer (some ⟨b, 1, none⟩) from (fa0_34.at_ 59))
    have e57 := (show a0_34.eval (.tmp 57) = .int .i64 ((q + 1 : Nat) : Int) from (fa0_34.at_ 57))
    clear fa0_34 hQ h6 h7 h8 hr hsz hr2 d2 dd
    generalize a0_34.eval = ρ at *
    go_simp
  refine fa0_34.store rfl (wanted_none rfl) r_a0_35 (fun a0_35 fa0_35 => ?_)
  clear r_a0_35
  obtain ⟨hv, fv⟩ := hr2.set1 (q + 1)
  generalize World.setCell wr.drew.drew ⟨b, 1, none⟩ (.int .i64 ((q + 1 : Nat) : Int)) = V at *
  have fV : Fr (fun k => k = b) wr V := Fr.trans (d2.mono (fun _ _ f => f.elim)) fv (fun _ _ e => e)
  clear fa0_34
  refine wpList_nil ?_
  change Code.wp _ _ _ _ _
  refine wp_seq ?_
  refine wp_region_list ?_
  unfold rHC16
  refine fa0_35.move 60 (.int .u64 (n : Int)) _ (Or.inl rfl) rfl (lb_ I0.size) (wanted_none rfl) ((fa0_35.at_ 6).trans h6) (fun a0_36 fa0_36 => ?_)
  clear fa0_35
  refine fa0_36.move 61 (.int .u64 (x : Int)) _ (Or.inl rfl) rfl (lb_ I0.size) (wanted_none rfl) (fa0_36.at_ 9) (fun a0_37 fa0_37 => ?_)
  clear fa0_36
  have r_a0_38 : (execOp a0_37.eval { dst := some 62, op := Op.binOp BinOp.rem 22 (Operand.tmp 61) (Operand.const (Value.int IntKind.u64 128)) 22, type := 22, pos := "ref.go:124", after := #[{ on := 1, ground := Ground.data }], guard := none }).run Try.prog (V) = .ok (.value (.int .u64 (y : Int))) (V) := by
    have kc : ∀ v, a0_37.eval (.const v) = v := fun _ => rfl
    have e61 := (show a0_37.eval (.tmp 61) = .int .u64 (x : Int) from (fa0_37.at_ 61))
    clear fa0_37 hQ h6 h7 h8 hr hsz hr2 d2 dd hv fv fV
    generalize a0_37.eval = ρ at *
    go_simp
  refine fa0_37.step 62 (.int .u64 (y : Int)) rfl (lb_ I0.size) (wanted_none rfl) r_a0_38 (fun a0_38 fa0_38 => ?_)
  clear r_a0_38
  clear fa0_37
  refine fa0_38.move 63 (.int .u64 (u : Int)) _ (Or.inl rfl) rfl (lb_ I0.size) (wanted_none rfl) ((fa0_38.at_ 7).trans h7) (fun a0_39 fa0_39 => ?_)
  clear fa0_38
  have r_a0_40 : (execOp a0_39.eval { dst := some 64, op := Op.binOp BinOp.mul 22 (Operand.tmp 62) (Operand.tmp 63) 22, type := 22, pos := "ref.go:124", after := #[{ on := 2, ground := Ground.data }, { on := 3, ground := Ground.data }], guard := none }).run Try.prog (V) = .ok (.value (.int .u64 (z : Int))) (V) := by
    have e62 := (show a0_39.eval (.tmp 62) = .int .u64 (y : Int) from (fa0_39.at_ 62))
    have e63 := (show a0_39.eval (.tmp 63) = .int .u64 (u : Int) from (fa0_39.at_ 63))
    clear fa0_39 hQ h6 h7 h8 hr hsz hr2 d2 dd hv fv fV
    generalize a0_39.eval = ρ at *
    go_simp
  refine fa0_39.step 64 (.int .u64 (z : Int)) rfl (lb_ I0.size) (wanted_none rfl) r_a0_40 (fun a0_40 fa0_40 => ?_)
  clear r_a0_40
  clear fa0_39
  have r_a0_41 : (execOp a0_40.eval { dst := some 65, op := Op.binOp BinOp.add 22 (Operand.tmp 60) (Operand.tmp 64) 22, type := 22, pos := "ref.go:124", after := #[{ on := 0, ground := Ground.data }, { on := 4, ground := Ground.data }], guard := none }).run Try.prog (V) = .ok (.value (.int .u64 (n2 : Int))) (V) := by
    have e60 := (show a0_40.eval (.tmp 60) = .int .u64 (n : Int) from (fa0_40.at_ 60))
    have e64 := (show a0_40.eval (.tmp 64) = .int .u64 (z : Int) from (fa0_40.at_ 64))
    clear fa0_40 hQ h6 h7 h8 hr hsz hr2 d2 dd hv fv fV
    generalize a0_40.eval = ρ at *
    go_simp
  refine fa0_40.step 65 (.int .u64 (n2 : Int)) rfl (lb_ I0.size) (wanted_none rfl) r_a0_41 (fun a0_41 fa0_41 => ?_)
  clear r_a0_41
  clear fa0_40
  refine fa0_41.move 6 (.int .u64 (n2 : Int)) _ (Or.inr rfl) rfl (lb_ I0.size) (wanted_none rfl) (fa0_41.at_ 65) (fun a0_42 fa0_42 => ?_)
  clear fa0_41
  refine wpList_nil ?_
  change Code.wp _ _ _ _ _
  refine wp_seq ?_
  refine wp_region_list ?_
  unfold rHC17
  refine fa0_42.move 66 (.int .u64 (u : Int)) _ (Or.inl rfl) rfl (lb_ I0.size) (wanted_none rfl) ((fa0_42.at_ 7).trans h7) (fun a0_43 fa0_43 => ?_)
  clear fa0_42
  have r_a0_44 : (execOp a0_43.eval { dst := some 67, op := Op.binOp BinOp.mul 22 (Operand.tmp 66) (Operand.const (Value.int IntKind.u64 128)) 22, type := 22, pos := "ref.go:125", after := #[{ on := 0, ground := Ground.data }], guard := none }).run Try.prog (V) = .ok (.value (.int .u64 (u2 : Int))) (V) := by
    have kc : ∀ v, a0_43.eval (.const v) = v := fun _ => rfl
    have e66 := (show a0_43.eval (.tmp 66) = .int .u64 (u : Int) from (fa0_43.at_ 66))
    clear fa0_43 hQ h6 h7 h8 hr hsz hr2 d2 dd hv fv fV
    generalize a0_43.eval = ρ at *
    go_simp
  refine fa0_43.step 67 (.int .u64 (u2 : Int)) rfl (lb_ I0.size) (wanted_none rfl) r_a0_44 (fun a0_44 fa0_44 => ?_)
  clear r_a0_44
  clear fa0_43
  refine fa0_44.move 7 (.int .u64 (u2 : Int)) _ (Or.inr rfl) rfl (lb_ I0.size) (wanted_none rfl) (fa0_44.at_ 67) (fun a0_45 fa0_45 => ?_)
  clear fa0_44
  refine wpList_nil ?_
  change Code.wp _ _ _ _ _
  refine wp_seq ?_
  refine wp_region_list ?_
  unfold rHC18
  refine fa0_45.move 68 (.int .u64 (x : Int)) _ (Or.inl rfl) rfl (lb_ I0.size) (wanted_none rfl) (fa0_45.at_ 9) (fun a0_46 fa0_46 => ?_)
  clear fa0_45
  have r_a0_47 : (execOp a0_46.eval { dst := some 69, op := Op.binOp BinOp.lss 22 (Operand.tmp 68) (Operand.const (Value.int IntKind.u64 128)) 22, type := 4, pos := "ref.go:126", after := #[{ on := 0, ground := Ground.data }], guard := none }).run Try.prog (V) = .ok (.value (.bool true)) (V) := by
    have kc : ∀ v, a0_46.eval (.const v) = v := fun _ => rfl
    have e68 := (show a0_46.eval (.tmp 68) = .int .u64 (x : Int) from (fa0_46.at_ 68))
    clear fa0_46 hQ h6 h7 h8 hr hsz hr2 d2 dd hv fv fV
    generalize a0_46.eval = ρ at *
    go_simp
  refine fa0_46.step 69 (.bool true) rfl (lb_ I0.size) (wanted_none rfl) r_a0_47 (fun a0_47 fa0_47 => ?_)
  clear r_a0_47
  clear fa0_46
  refine wpList_nil ?_
  change Code.wp _ _ _ _ _
  refine wp_cond_true (show a0_47.eval (.tmp 69) = .bool true from (fa0_47.at_ 69)) (wp_seq (wp_seq ?_))
  refine wp_region_list ?_
  unfold rHC19
  refine fa0_47.move 70 (.int .u64 (x : Int)) _ (Or.inl rfl) rfl (lb_ I0.size) (wanted_none rfl) (fa0_47.at_ 9) (fun a0_48 fa0_48 => ?_)
  clear fa0_47
  have r_a0_49 : (execOp a0_48.eval { dst := some 71, op := Op.binOp BinOp.eql 22 (Operand.tmp 70) (Operand.const (Value.int IntKind.u64 0)) 22, type := 4, pos := "ref.go:127", after := #[{ on := 0, ground := Ground.data }], guard := none }).run Try.prog (V) = .ok (.value (.bool false)) (V) := by
    have kc : ∀ v, a0_48.eval (.const v) = v := fun _ => rfl
    have e70 := (show a0_48.eval (.tmp 70) = .int .u64 (x : Int) from (fa0_48.at_ 70))
    clear fa0_48 hQ h6 h7 h8 hr hsz hr2 d2 dd hv fv fV
    generalize a0_48.eval = ρ at *
    go_simp
  refine fa0_48.step 71 (.bool false) rfl (lb_ I0.size) (wanted_none rfl) r_a0_49 (fun a0_49 fa0_49 => ?_)
  clear r_a0_49
  clear fa0_48
  refine fa0_49.move 72 (.bool false) _ (Or.inl rfl) rfl (lb_ I0.size) (wanted_none rfl) (fa0_49.at_ 71) (fun a0_50 fa0_50 => ?_)
  clear fa0_49
  refine fa0_50.skip 73 rfl (lb_ I0.size) ((wanted_at (t := 72) (c := false) (b := true) rfl rfl rfl (lb_ (fa0_50.size.trans I0.size)) (fa0_50.at_ 72)).trans (by rfl)) (fun a0_51 fa0_51 => ?_)
  clear fa0_50
  refine fa0_51.skip 74 rfl (lb_ I0.size) ((wanted_at (t := 72) (c := false) (b := true) rfl rfl rfl (lb_ (fa0_51.size.trans I0.size)) (fa0_51.at_ 72)).trans (by rfl)) (fun a0_52 fa0_52 => ?_)
  clear fa0_51
  have r_a0_53 : (execOp a0_52.eval { dst := some 75, op := Op.pick (Operand.tmp 72) (Operand.tmp 74) (Operand.const (Value.bool false)), type := 4, pos := "ref.go:127", after := #[{ on := 2, ground := Ground.data }, { on := 4, ground := Ground.data }], guard := none }).run Try.prog (V) = .ok (.value (.bool false)) (V) := by
    have kc : ∀ v, a0_52.eval (.const v) = v := fun _ => rfl
    have e72 := (show a0_52.eval (.tmp 72) = .bool false from (fa0_52.at_ 72))
    have e74 := (show a0_52.eval (.tmp 74) = undef from (fa0_52.at_ 74))
    clear fa0_52 hQ h6 h7 h8 hr hsz hr2 d2 dd hv fv fV
    generalize a0_52.eval = ρ at *
    go_simp
  refine fa0_52.step 75 (.bool false) rfl (lb_ I0.size) (wanted_none rfl) r_a0_53 (fun a0_53 fa0_53 => ?_)
  clear r_a0_53
  clear fa0_52
  refine wpList_nil ?_
  change Code.wp _ _ _ _ _
  refine wp_cond_false (show a0_53.eval (.tmp 75) = .bool false from (fa0_53.at_ 75)) (wp_skip ?_)
  change Code.wp _ _ _ _ _
  refine wp_seq (wp_seq ?_)
  refine wp_region_list ?_
  unfold rHC22
  refine fa0_53.move 79 (.int .u64 (n2 : Int)) _ (Or.inl rfl) rfl (lb_ I0.size) (wanted_none rfl) (fa0_53.at_ 6) (fun a0_54 fa0_54 => ?_)
  clear fa0_53
  refine fa0_54.move 80 (.int .u64 (most : Int)) _ (Or.inl rfl) rfl (lb_ I0.size) (wanted_none rfl) ((fa0_54.at_ 1).trans I0.s1) (fun a0_55 fa0_55 => ?_)
  clear fa0_54
  have r_a0_56 : (execOp a0_55.eval { dst := some 81, op := Op.binOp BinOp.gtr 22 (Operand.tmp 79) (Operand.tmp 80) 22, type := 4, pos := "ref.go:131", after := #[{ on := 0, ground := Ground.data }, { on := 1, ground := Ground.data }], guard := none }).run Try.prog (V) = .ok (.value (.bool false)) (V) := by
    have e79 := (show a0_55.eval (.tmp 79) = .int .u64 (n2 : Int) from (fa0_55.at_ 79))
    have e80 := (show a0_55.eval (.tmp 80) = .int .u64 (most : Int) from (fa0_55.at_ 80))
    clear fa0_55 hQ h6 h7 h8 hr hsz hr2 d2 dd hv fv fV
    generalize a0_55.eval = ρ at *
    go_simp
  refine fa0_55.step 81 (.bool false) rfl (lb_ I0.size) (wanted_none rfl) r_a0_56 (fun a0_56 fa0_56 => ?_)
  clear r_a0_56
  clear fa0_55
  refine wpList_nil ?_
  change Code.wp _ _ _ _ _
  refine wp_cond_false (show a0_56.eval (.tmp 81) = .bool false from (fa0_56.at_ 81)) (wp_skip ?_)
  change Code.wp _ _ _ _ _
  refine wp_seq ?_
  refine wp_region_list ?_
  unfold rHC25
  refine fa0_56.move 85 (.int .u64 (n2 : Int)) _ (Or.inl rfl) rfl (lb_ I0.size) (wanted_none rfl) (fa0_56.at_ 6) (fun a0_57 fa0_57 => ?_)
  clear fa0_56
  refine fa0_57.move 4 (.int .u64 (n2 : Int)) _ (Or.inr rfl) rfl (lb_ I0.size) (wanted_none rfl) (fa0_57.at_ 85) (fun a0_58 fa0_58 => ?_)
  clear fa0_57
  refine wpList_nil ?_
  change Code.wp _ _ _ _ _
  refine wp_ret ?_
  exact hQ a0_58 V (fa0_58.defers.trans I0.defers) (show a0_58.eval (.tmp 4) = .int .u64 (n2 : Int) from (fa0_58.at_ 4)) hv fV
set_option maxRecDepth 100000 in
set_option maxHeartbeats 1000000 in
theorem hcR01 {b p q i n u most : Nat} {s : ByteArray} {Q : Exit → Act → World → Prop} (hQp : ∀ c (a : Act) d v w, Q (.panic c) (a.put d v) w → Q (.panic c) a w) (a0 : Act) (wr : World) (I0 : IHC (.pointer (some ⟨b, 0, none⟩)) (.int .u64 (most : Int)) (.int .i64 (p : Int)) a0) (h6 : a0.eval (.tmp 6) = .int .u64 (n : Int)) (h7 : a0.eval (.tmp 7) = .int .u64 (u : Int)) (h8 : a0.eval (.tmp 8) = .int .i64 (i : Int)) (hr : RRAt wr b s q 0) (hsz : s.size ≤ 1000000000000) {x : Nat} (hq : q < s.size) (hx : (s[q]).toNat = x) {y z n2 u2 : Nat} (hy : x % 128 = y) (hz : y * u = z) (hn2 : n + z = n2) (hn3 : n2 < 18446744073709551616) (hu2 : u * 128 % 18446744073709551616 = u2) (hi : i = 0) (hb : x = 0) (hmo : ¬ most < n2) (hQ : ∀ (a : Act) W, a.defers = [] → a.eval (.tmp 4) = .int .u64 (n2 : Int) → RRAt W b s (q + 1) 0 → Fr (fun k => k = b) wr W → Q .ret a W) : cHC1.wp Try.prog Q a0 wr := by
  have hne : ¬ (q : Int) = (s.size : Int) := by omega
  have hqi : (q : Int) < (s.size : Int) := by omega
  have xl : x < 256 := by rw [← hx]; exact (s[q]).toNat_lt
  have wx : IntKind.u64.wrap (x : Int) = (x : Int) := by rw [IntKind.wrap_u64]; omega
  have w1 : IntKind.i64.wrap ((q : Int) + 1) = ((q + 1 : Nat) : Int) := by rw [IntKind.wrap_i64]; omega
  have hyt : (x : Int).tmod 128 = (y : Int) := by rw [← hy]; rfl
  have hye : (x : Int) % 128 = (y : Int) := by omega
  have wz : IntKind.u64.wrap ((y : Int) * (u : Int)) = (z : Int) := by rw [← Int.natCast_mul, hz, IntKind.wrap_u64]; omega
  have wn : IntKind.u64.wrap ((n : Int) + (z : Int)) = (n2 : Int) := by rw [IntKind.wrap_u64]; omega
  have wu : IntKind.u64.wrap ((u : Int) * 128) = (u2 : Int) := by rw [IntKind.wrap_u64]; omega
  clear hy hz hn2 hu2
  have hi9 : ¬ (i : Int) = 9 := by omega
  have hp2 : ¬ (0 : Int) < (i : Int) := by omega
  have hb1 : (x : Int) = 0 := by omega
  have hb2 : (x : Int) < 128 := by omega
  have hm2 : ¬ (most : Int) < (n2 : Int) := by omega
  have hm3 : (n2 : Int) ≤ (most : Int) := by omega
  clear hb hn3 hmo
  have fa0_0 := Fe.refl a0
  have k0 := hr.c0
  have k1 := hr.c1
  have dd : Same wr wr.drew := (Fr.refl (fun _ => False) wr).drew
  unfold cHC1
  refine wp_seq (wp_block (wp_seq (wp_seq ?_)))
  refine wp_region_held_drew (ops := rHC8) (S := fun Z => Same wr Z) (by kernel_rfl) (dd) (fun hS0 => ?_)
  refine fa0_0.takeMove 0 21 (.pointer (some ⟨b, 0, none⟩)) _ (Or.inl rfl) rfl (by kernel_rfl) (by kernel_rfl) (by kernel_rfl) (fun _ _ _ h => hQp _ _ _ _ _ h) rfl (lb_ I0.size) (wanted_none rfl) ((fa0_0.at_ 0).trans I0.s0) hS0 (fun a0_1 fa0_1 => ?_)
  clear fa0_0
  have r_a0_2 : ∀ Z, (fun Z => Same wr Z) Z → (execOp a0_1.eval { dst := some 22, op := Op.nilCheck (Operand.tmp 21), type := 0, pos := "ref.go:114", after := #[{ on := 0, ground := Ground.data }], guard := none }).run Try.prog Z = .ok (.value (.pointer (some ⟨b, 0, none⟩))) Z := fun Z hZ => by
    have e21 := (show a0_1.eval (.tmp 21) = .pointer (some ⟨b, 0, none⟩) from (fa0_1.at_ 21))
    clear fa0_1 hQ h6 h7 h8 hr hsz hb1
    generalize a0_1.eval = ρ at *
    go_simp
  refine fa0_1.take 1 22 (.pointer (some ⟨b, 0, none⟩)) rfl (by kernel_rfl) (by kernel_rfl) (by kernel_rfl) (fun _ _ _ h => hQp _ _ _ _ _ h) rfl (lb_ I0.size) (wanted_none rfl) r_a0_2 hS0 (fun a0_2 fa0_2 => ?_)
  clear r_a0_2
  clear fa0_1
  have r_a0_3 : ∀ Z, (fun Z => Same wr Z) Z → (execOp a0_2.eval { dst := some 23, op := Op.fieldAddr 37 (Operand.tmp 22) 1, type := 0, pos := "ref.go:114", after := #[{ on := 1, ground := Ground.data }], guard := none }).run Try.prog Z = .ok (.value (.pointer (some ⟨b, 1, none⟩))) Z := fun Z hZ => by
    have e22 := (show a0_2.eval (.tmp 22) = .pointer (some ⟨b, 0, none⟩) from (fa0_2.at_ 22))
    clear fa0_2 hQ h6 h7 h8 hr hsz hb1
    generalize a0_2.eval = ρ at *
    go_simp
  refine fa0_2.take 2 23 (.pointer (some ⟨b, 1, none⟩)) rfl (by kernel_rfl) (by kernel_rfl) (by kernel_rfl) (fun _ _ _ h => hQp _ _ _ _ _ h) rfl (lb_ I0.size) (wanted_none rfl) r_a0_3 hS0 (fun a0_3 fa0_3 => ?_)
  clear r_a0_3
  clear fa0_2
  have r_a0_4 : ∀ Z, (fun Z => Same wr Z) Z → (execOp a0_3.eval { dst := some 24, op := Op.load 3 (Operand.tmp 23), type := 3, pos := "ref.go:114", after := #[{ on := 2, ground := Ground.data }], guard := none }).run Try.prog Z = .ok (.value (.int .i64 (q : Int))) Z := fun Z hZ => by
    have q0 := hZ.keep k0
    have q1 := hZ.keep k1
    clear hZ
    have e23 := (show a0_3.eval (.tmp 23) = .pointer (some ⟨b, 1, none⟩) from (fa0_3.at_ 23))
    clear fa0_3 hQ h6 h7 h8 hr hsz hb1
    generalize a0_3.eval = ρ at *
    go_simp
  refine fa0_3.take 3 24 (.int .i64 (q : Int)) rfl (by kernel_rfl) (by kernel_rfl) (by kernel_rfl) (fun _ _ _ h => hQp _ _ _ _ _ h) rfl (lb_ I0.size) (wanted_none rfl) r_a0_4 hS0 (fun a0_4 fa0_4 => ?_)
  clear r_a0_4
  clear fa0_3
  refine fa0_4.takeMove 4 25 (.pointer (some ⟨b, 0, none⟩)) _ (Or.inl rfl) rfl (by kernel_rfl) (by kernel_rfl) (by kernel_rfl) (fun _ _ _ h => hQp _ _ _ _ _ h) rfl (lb_ I0.size) (wanted_none rfl) ((fa0_4.at_ 0).trans I0.s0) hS0 (fun a0_5 fa0_5 => ?_)
  clear fa0_4
  have r_a0_6 : ∀ Z, (fun Z => Same wr Z) Z → (execOp a0_5.eval { dst := some 26, op := Op.nilCheck (Operand.tmp 25), type := 0, pos := "ref.go:114", after := #[{ on := 4, ground := Ground.data }], guard := none }).run Try.prog Z = .ok (.value (.pointer (some ⟨b, 0, none⟩))) Z := fun Z hZ => by
    have e25 := (show a0_5.eval (.tmp 25) = .pointer (some ⟨b, 0, none⟩) from (fa0_5.at_ 25))
    clear fa0_5 hQ h6 h7 h8 hr hsz hb1
    generalize a0_5.eval = ρ at *
    go_simp
  refine fa0_5.take 5 26 (.pointer (some ⟨b, 0, none⟩)) rfl (by kernel_rfl) (by kernel_rfl) (by kernel_rfl) (fun _ _ _ h => hQp _ _ _ _ _ h) rfl (lb_ I0.size) (wanted_none rfl) r_a0_6 hS0 (fun a0_6 fa0_6 => ?_)
  clear r_a0_6
  clear fa0_5
  have r_a0_7 : ∀ Z, (fun Z => Same wr Z) Z → (execOp a0_6.eval { dst := some 27, op := Op.fieldAddr 37 (Operand.tmp 26) 0, type := 0, pos := "ref.go:114", after := #[{ on := 5, ground := Ground.data }], guard := none }).run Try.prog Z = .ok (.value (.pointer (some ⟨b, 0, none⟩))) Z := fun Z hZ => by
    have e26 := (show a0_6.eval (.tmp 26) = .pointer (some ⟨b, 0, none⟩) from (fa0_6.at_ 26))
    clear fa0_6 hQ h6 h7 h8 hr hsz hb1
    generalize a0_6.eval = ρ at *
    go_simp
  refine fa0_6.take 6 27 (.pointer (some ⟨b, 0, none⟩)) rfl (by kernel_rfl) (by kernel_rfl) (by kernel_rfl) (fun _ _ _ h => hQp _ _ _ _ _ h) rfl (lb_ I0.size) (wanted_none rfl) r_a0_7 hS0 (fun a0_7 fa0_7 => ?_)
  clear r_a0_7
  clear fa0_6
  have r_a0_8 : ∀ Z, (fun Z => Same wr Z) Z → (execOp a0_7.eval { dst := some 28, op := Op.load 9 (Operand.tmp 27), type := 9, pos := "ref.go:114", after := #[{ on := 6, ground := Ground.data }], guard := none }).run Try.prog Z = .ok (.value (.string s)) Z := fun Z hZ => by
    have q0 := hZ.keep k0
    have q1 := hZ.keep k1
    clear hZ
    have e27 := (show a0_7.eval (.tmp 27) = .pointer (some ⟨b, 0, none⟩) from (fa0_7.at_ 27))
    clear fa0_7 hQ h6 h7 h8 hr hsz hb1
    generalize a0_7.eval = ρ at *
    go_simp
  refine fa0_7.take 7 28 (.string s) rfl (by kernel_rfl) (by kernel_rfl) (by kernel_rfl) (fun _ _ _ h => hQp _ _ _ _ _ h) rfl (lb_ I0.size) (wanted_none rfl) r_a0_8 hS0 (fun a0_8 fa0_8 => ?_)
  clear r_a0_8
  clear fa0_7
  have r_a0_9 : ∀ Z, (fun Z => Same wr Z) Z → (execOp a0_8.eval { dst := some 29, op := Op.call { callee := Callee.builtin Builtin.len, args := #[Operand.tmp 28], argTypes := #[9] }, type := 3, pos := "ref.go:114", after := #[{ on := 7, ground := Ground.data }], guard := none }).run Try.prog Z = .ok (.value (.int .i64 (s.size : Int))) Z := fun Z hZ => by
    have e28 := (show a0_8.eval (.tmp 28) = .string s from (fa0_8.at_ 28))
    clear fa0_8 hQ h6 h7 h8 hr hsz hb1
    generalize a0_8.eval = ρ at *
    go_simp
  refine fa0_8.take 8 29 (.int .i64 (s.size : Int)) rfl (by kernel_rfl) (by kernel_rfl) (by kernel_rfl) (fun _ _ _ h => hQp _ _ _ _ _ h) rfl (lb_ I0.size) (wanted_none rfl) r_a0_9 hS0 (fun a0_9 fa0_9 => ?_)
  clear r_a0_9
  clear fa0_8
  have r_a0_10 : ∀ Z, (fun Z => Same wr Z) Z → (execOp a0_9.eval { dst := some 30, op := Op.binOp BinOp.eql 3 (Operand.tmp 24) (Operand.tmp 29) 3, type := 4, pos := "ref.go:114", after := #[{ on := 3, ground := Ground.data }, { on := 8, ground := Ground.data }], guard := none }).run Try.prog Z = .ok (.value (.bool false)) Z := fun Z hZ => by
    have e24 := (show a0_9.eval (.tmp 24) = .int .i64 (q : Int) from (fa0_9.at_ 24))
    have e29 := (show a0_9.eval (.tmp 29) = .int .i64 (s.size : Int) from (fa0_9.at_ 29))
    clear fa0_9 hQ h6 h7 h8 hr hsz hb1
    generalize a0_9.eval = ρ at *
    go_simp
  refine fa0_9.take 9 30 (.bool false) rfl (by kernel_rfl) (by kernel_rfl) (by kernel_rfl) (fun _ _ _ h => hQp _ _ _ _ _ h) rfl (lb_ I0.size) (wanted_none rfl) r_a0_10 hS0 (fun a0_10 fa0_10 => ?_)
  clear r_a0_10
  clear fa0_9
  refine wpAnyH_done (by kernel_rfl) ?_ _
  change Code.wp _ _ _ _ _
  refine wp_cond_false (show a0_10.eval (.tmp 30) = .bool false from (fa0_10.at_ 30)) (wp_skip ?_)
  change Code.wp _ _ _ _ _
  refine wp_seq ?_
  have d2 : Same wr wr.drew.drew := dd.trans (Fr.refl (fun _ => False) wr.drew).drew
  refine wp_region_held_drew (ops := rHC11) (S := fun Z => Same wr Z) (by kernel_rfl) (d2) (fun hS10 => ?_)
  refine fa0_10.takeMove 0 34 (.pointer (some ⟨b, 0, none⟩)) _ (Or.inl rfl) rfl (by kernel_rfl) (by kernel_rfl) (by kernel_rfl) (fun _ _ _ h => hQp _ _ _ _ _ h) rfl (lb_ I0.size) (wanted_none rfl) ((fa0_10.at_ 0).trans I0.s0) hS10 (fun a0_11 fa0_11 => ?_)
  clear fa0_10
  have r_a0_12 : ∀ Z, (fun Z => Same wr Z) Z → (execOp a0_11.eval { dst := some 35, op := Op.nilCheck (Operand.tmp 34), type := 0, pos := "ref.go:118", after := #[{ on := 0, ground := Ground.data }], guard := none }).run Try.prog Z = .ok (.value (.pointer (some ⟨b, 0, none⟩))) Z := fun Z hZ => by
    have e34 := (show a0_11.eval (.tmp 34) = .pointer (some ⟨b, 0, none⟩) from (fa0_11.at_ 34))
    clear fa0_11 hQ h6 h7 h8 hr hsz hb1
    generalize a0_11.eval = ρ at *
    go_simp
  refine fa0_11.take 1 35 (.pointer (some ⟨b, 0, none⟩)) rfl (by kernel_rfl) (by kernel_rfl) (by kernel_rfl) (fun _ _ _ h => hQp _ _ _ _ _ h) rfl (lb_ I0.size) (wanted_none rfl) r_a0_12 hS10 (fun a0_12 fa0_12 => ?_)
  clear r_a0_12
  clear fa0_11
  have r_a0_13 : ∀ Z, (fun Z => Same wr Z) Z → (execOp a0_12.eval { dst := some 36, op := Op.fieldAddr 37 (Operand.tmp 35) 0, type := 0, pos := "ref.go:118", after := #[{ on := 1, ground := Ground.data }], guard := none }).run Try.prog Z = .ok (.value (.pointer (some ⟨b, 0, none⟩))) Z := fun Z hZ => by
    have e35 := (show a0_12.eval (.tmp 35) = .pointer (some ⟨b, 0, none⟩) from (fa0_12.at_ 35))
    clear fa0_12 hQ h6 h7 h8 hr hsz hb1
    generalize a0_12.eval = ρ at *
    go_simp
  refine fa0_12.take 2 36 (.pointer (some ⟨b, 0, none⟩)) rfl (by kernel_rfl) (by kernel_rfl) (by kernel_rfl) (fun _ _ _ h => hQp _ _ _ _ _ h) rfl (lb_ I0.size) (wanted_none rfl) r_a0_13 hS10 (fun a0_13 fa0_13 => ?_)
  clear r_a0_13
  clear fa0_12
  have r_a0_14 : ∀ Z, (fun Z => Same wr Z) Z → (execOp a0_13.eval { dst := some 37, op := Op.load 9 (Operand.tmp 36), type := 9, pos := "ref.go:118", after := #[{ on := 2, ground := Ground.data }], guard := none }).run Try.prog Z = .ok (.value (.string s)) Z := fun Z hZ => by
    have q0 := hZ.keep k0
    have q1 := hZ.keep k1
    clear hZ
    have e36 := (show a0_13.eval (.tmp 36) = .pointer (some ⟨b, 0, none⟩) from (fa0_13.at_ 36))
    clear fa0_13 hQ h6 h7 h8 hr hsz hb1
    generalize a0_13.eval = ρ at *
    go_simp
  refine fa0_13.take 3 37 (.string s) rfl (by kernel_rfl) (by kernel_rfl) (by kernel_rfl) (fun _ _ _ h => hQp _ _ _ _ _ h) rfl (lb_ I0.size) (wanted_none rfl) r_a0_14 hS10 (fun a0_14 fa0_14 => ?_)
  clear r_a0_14
  clear fa0_13
  refine fa0_14.takeMove 4 38 (.pointer (some ⟨b, 0, none⟩)) _ (Or.inl rfl) rfl (by kernel_rfl) (by kernel_rfl) (by kernel_rfl) (fun _ _ _ h => hQp _ _ _ _ _ h) rfl (lb_ I0.size) (wanted_none rfl) ((fa0_14.at_ 0).trans I0.s0) hS10 (fun a0_15 fa0_15 => ?_)
  clear fa0_14
  have r_a0_16 : ∀ Z, (fun Z => Same wr Z) Z → (execOp a0_15.eval { dst := some 39, op := Op.nilCheck (Operand.tmp 38), type := 0, pos := "ref.go:118", after := #[{ on := 4, ground := Ground.data }], guard := none }).run Try.prog Z = .ok (.value (.pointer (some ⟨b, 0, none⟩))) Z := fun Z hZ => by
    have e38 := (show a0_15.eval (.tmp 38) = .pointer (some ⟨b, 0, none⟩) from (fa0_15.at_ 38))
    clear fa0_15 hQ h6 h7 h8 hr hsz hb1
    generalize a0_15.eval = ρ at *
    go_simp
  refine fa0_15.take 5 39 (.pointer (some ⟨b, 0, none⟩)) rfl (by kernel_rfl) (by kernel_rfl) (by kernel_rfl) (fun _ _ _ h => hQp _ _ _ _ _ h) rfl (lb_ I0.size) (wanted_none rfl) r_a0_16 hS10 (fun a0_16 fa0_16 => ?_)
  clear r_a0_16
  clear fa0_15
  have r_a0_17 : ∀ Z, (fun Z => Same wr Z) Z → (execOp a0_16.eval { dst := some 40, op := Op.fieldAddr 37 (Operand.tmp 39) 1, type := 0, pos := "ref.go:118", after := #[{ on := 5, ground := Ground.data }], guard := none }).run Try.prog Z = .ok (.value (.pointer (some ⟨b, 1, none⟩))) Z := fun Z hZ => by
    have e39 := (show a0_16.eval (.tmp 39) = .pointer (some ⟨b, 0, none⟩) from (fa0_16.at_ 39))
    clear fa0_16 hQ h6 h7 h8 hr hsz hb1
    generalize a0_16.eval = ρ at *
    go_simp
  refine fa0_16.take 6 40 (.pointer (some ⟨b, 1, none⟩)) rfl (by kernel_rfl) (by kernel_rfl) (by kernel_rfl) (fun _ _ _ h => hQp _ _ _ _ _ h) rfl (lb_ I0.size) (wanted_none rfl) r_a0_17 hS10 (fun a0_17 fa0_17 => ?_)
  clear r_a0_17
  clear fa0_16
  have r_a0_18 : ∀ Z, (fun Z => Same wr Z) Z → (execOp a0_17.eval { dst := some 41, op := Op.load 3 (Operand.tmp 40), type := 3, pos := "ref.go:118", after := #[{ on := 6, ground := Ground.data }], guard := none }).run Try.prog Z = .ok (.value (.int .i64 (q : Int))) Z := fun Z hZ => by
    have q0 := hZ.keep k0
    have q1 := hZ.keep k1
    clear hZ
    have e40 := (show a0_17.eval (.tmp 40) = .pointer (some ⟨b, 1, none⟩) from (fa0_17.at_ 40))
    clear fa0_17 hQ h6 h7 h8 hr hsz hb1
    generalize a0_17.eval = ρ at *
    go_simp
  refine fa0_17.take 7 41 (.int .i64 (q : Int)) rfl (by kernel_rfl) (by kernel_rfl) (by kernel_rfl) (fun _ _ _ h => hQp _ _ _ _ _ h) rfl (lb_ I0.size) (wanted_none rfl) r_a0_18 hS10 (fun a0_18 fa0_18 => ?_)
  clear r_a0_18
  clear fa0_17
  have r_a0_19 : ∀ Z, (fun Z => Same wr Z) Z → (execOp a0_18.eval { dst := some 42, op := Op.index 9 (Operand.tmp 37) (Operand.tmp 41), type := 5, pos := "ref.go:118", after := #[{ on := 3, ground := Ground.data }, { on := 7, ground := Ground.data }], guard := none }).run Try.prog Z = .ok (.value (.int .u8 (x : Int))) Z := fun Z hZ => by
    have e37 := (show a0_18.eval (.tmp 37) = .string s from (fa0_18.at_ 37))
    have e41 := (show a0_18.eval (.tmp 41) = .int .i64 (q : Int) from (fa0_18.at_ 41))
    clear fa0_18 hQ h6 h7 h8 hr hsz hb1
    generalize a0_18.eval = ρ at *
    go_simp
  refine fa0_18.take 8 42 (.int .u8 (x : Int)) rfl (by kernel_rfl) (by kernel_rfl) (by kernel_rfl) (fun _ _ _ h => hQp _ _ _ _ _ h) rfl (lb_ I0.size) (wanted_none rfl) r_a0_19 hS10 (fun a0_19 fa0_19 => ?_)
  clear r_a0_19
  clear fa0_18
  have r_a0_20 : ∀ Z, (fun Z => Same wr Z) Z → (execOp a0_19.eval { dst := some 43, op := Op.convert 5 22 (Operand.tmp 42), type := 22, pos := "ref.go:118", after := #[{ on := 8, ground := Ground.data }], guard := none }).run Try.prog Z = .ok (.value (.int .u64 (x : Int))) Z := fun Z hZ => by
    have e42 := (show a0_19.eval (.tmp 42) = .int .u8 (x : Int) from (fa0_19.at_ 42))
    clear fa0_19 hQ h6 h7 h8 hr hsz hb1
    generalize a0_19.eval = ρ at *
    go_simp
  refine fa0_19.take 9 43 (.int .u64 (x : Int)) rfl (by kernel_rfl) (by kernel_rfl) (by kernel_rfl) (fun _ _ _ h => hQp _ _ _ _ _ h) rfl (lb_ I0.size) (wanted_none rfl) r_a0_20 hS10 (fun a0_20 fa0_20 => ?_)
  clear r_a0_20
  clear fa0_19
  refine fa0_20.takeMove 10 9 (.int .u64 (x : Int)) _ (Or.inr rfl) rfl (by kernel_rfl) (by kernel_rfl) (by kernel_rfl) (fun _ _ _ h => hQp _ _ _ _ _ h) rfl (lb_ I0.size) (wanted_none rfl) (fa0_20.at_ 43) hS10 (fun a0_21 fa0_21 => ?_)
  clear fa0_20
  refine wpAnyH_done (by kernel_rfl) ?_ _
  change Code.wp _ _ _ _ _
  refine wp_seq (wp_seq ?_)
  refine wp_region_list ?_
  unfold rHC12
  refine fa0_21.move 44 (.int .i64 (i : Int)) _ (Or.inl rfl) rfl (lb_ I0.size) (wanted_none rfl) ((fa0_21.at_ 8).trans h8) (fun a0_22 fa0_22 => ?_)
  clear fa0_21
  have r_a0_23 : (execOp a0_22.eval { dst := some 45, op := Op.binOp BinOp.eql 3 (Operand.tmp 44) (Operand.const (Value.int IntKind.i64 9)) 3, type := 4, pos := "ref.go:119", after := #[{ on := 0, ground := Ground.data }], guard := none }).run Try.prog (wr.drew.drew) = .ok (.value (.bool false)) (wr.drew.drew) := by
    have kc : ∀ v, a0_22.eval (.const v) = v := fun _ => rfl
    have e44 := (show a0_22.eval (.tmp 44) = .int .i64 (i : Int) from (fa0_22.at_ 44))
    clear fa0_22 hQ h6 h7 h8 hr hsz hb1
    generalize a0_22.eval = ρ at *
    go_simp
  refine fa0_22.step 45 (.bool false) rfl (lb_ I0.size) (wanted_none rfl) r_a0_23 (fun a0_23 fa0_23 => ?_)
  clear r_a0_23
  clear fa0_22
  refine fa0_23.move 46 (.bool false) _ (Or.inl rfl) rfl (lb_ I0.size) (wanted_none rfl) (fa0_23.at_ 45) (fun a0_24 fa0_24 => ?_)
  clear fa0_23
  refine fa0_24.skip 47 rfl (lb_ I0.size) ((wanted_at (t := 46) (c := false) (b := true) rfl rfl rfl (lb_ (fa0_24.size.trans I0.size)) (fa0_24.at_ 46)).trans (by rfl)) (fun a0_25 fa0_25 => ?_)
  clear fa0_24
  refine fa0_25.skip 48 rfl (lb_ I0.size) ((wanted_at (t := 46) (c := false) (b := true) rfl rfl rfl (lb_ (fa0_25.size.trans I0.size)) (fa0_25.at_ 46)).trans (by rfl)) (fun a0_26 fa0_26 => ?_)
  clear fa0_25
  have r_a0_27 : (execOp a0_26.eval { dst := some 49, op := Op.pick (Operand.tmp 46) (Operand.tmp 48) (Operand.const (Value.bool false)), type := 4, pos := "ref.go:119", after := #[{ on := 2, ground := Ground.data }, { on := 4, ground := Ground.data }], guard := none }).run Try.prog (wr.drew.drew) = .ok (.value (.bool false)) (wr.drew.drew) := by
    have kc : ∀ v, a0_26.eval (.const v) = v := fun _ => rfl
    have e46 := (show a0_26.eval (.tmp 46) = .bool false from (fa0_26.at_ 46))
    have e48 := (show a0_26.eval (.tmp 48) = undef from (fa0_26.at_ 48))
    clear fa0_26 hQ h6 h7 h8 hr hsz hb1
    generalize a0_26.eval = ρ at *
    go_simp
  refine fa0_26.step 49 (.bool false) rfl (lb_ I0.size) (wanted_none rfl) r_a0_27 (fun a0_27 fa0_27 => ?_)
  clear r_a0_27
  clear fa0_26
  refine wpList_nil ?_
  change Code.wp _ _ _ _ _
  refine wp_cond_false (show a0_27.eval (.tmp 49) = .bool false from (fa0_27.at_ 49)) (wp_skip ?_)
  change Code.wp _ _ _ _ _
  refine wp_seq ?_
  have hr2 := hr.fr d2 (fun f => f)
  have k1 := hr2.c1
  have z1 := hr2.z 1
  refine wp_region_list ?_
  unfold rHC15
  refine fa0_27.move 53 (.pointer (some ⟨b, 0, none⟩)) _ (Or.inl rfl) rfl (lb_ I0.size) (wanted_none rfl) ((fa0_27.at_ 0).trans I0.s0) (fun a0_28 fa0_28 => ?_)
  clear fa0_27
  have r_a0_29 : (execOp a0_28.eval { dst := some 54, op := Op.nilCheck (Operand.tmp 53), type := 0, pos := "ref.go:123", after := #[{ on := 0, ground := Ground.data }], guard := none }).run Try.prog (wr.drew.drew) = .ok (.value (.pointer (some ⟨b, 0, none⟩))) (wr.drew.drew) := by
    have e53 := (show a0_28.eval (.tmp 53) = .pointer (some ⟨b, 0, none⟩) from (fa0_28.at_ 53))
    clear fa0_28 hQ h6 h7 h8 hr hsz hb1 hr2 d2 dd
    generalize a0_28.eval = ρ at *
    go_simp
  refine fa0_28.step 54 (.pointer (some ⟨b, 0, none⟩)) rfl (lb_ I0.size) (wanted_none rfl) r_a0_29 (fun a0_29 fa0_29 => ?_)
  clear r_a0_29
  clear fa0_28
  have r_a0_30 : (execOp a0_29.eval { dst := some 55, op := Op.fieldAddr 37 (Operand.tmp 54) 1, type := 0, pos := "ref.go:123", after := #[{ on := 1, ground := Ground.data }], guard := none }).run Try.prog (wr.drew.drew) = .ok (.value (.pointer (some ⟨b, 1, none⟩))) (wr.drew.drew) := by
    have e54 := (show a0_29.eval (.tmp 54) = .pointer (some ⟨b, 0, none⟩) from (fa0_29.at_ 54))
    clear fa0_29 hQ h6 h7 h8 hr hsz hb1 hr2 d2 dd
    generalize a0_29.eval = ρ at *
    go_simp
  refine fa0_29.step 55 (.pointer (some ⟨b, 1, none⟩)) rfl (lb_ I0.size) (wanted_none rfl) r_a0_30 (fun a0_30 fa0_30 => ?_)
  clear r_a0_30
  clear fa0_29
  have r_a0_31 : (execOp a0_30.eval { dst := some 56, op := Op.load 3 (Operand.tmp 55), type := 3, pos := "ref.go:123", after := #[{ on := 2, ground := Ground.data }], guard := none }).run Try.prog (wr.drew.drew) = .ok (.value (.int .i64 (q : Int))) (wr.drew.drew) := by
    have e55 := (show a0_30.eval (.tmp 55) = .pointer (some ⟨b, 1, none⟩) from (fa0_30.at_ 55))
    clear fa0_30 hQ h6 h7 h8 hr hsz hb1 hr2 d2 dd
    generalize a0_30.eval = ρ at *
    go_simp
  refine fa0_30.step 56 (.int .i64 (q : Int)) rfl (lb_ I0.size) (wanted_none rfl) r_a0_31 (fun a0_31 fa0_31 => ?_)
  clear r_a0_31
  clear fa0_30
  have r_a0_32 : (execOp a0_31.eval { dst := some 57, op := Op.binOp BinOp.add 3 (Operand.tmp 56) (Operand.const (Value.int IntKind.i64 1)) 3, type := 3, pos := "ref.go:123", after := #[{ on := 3, ground := Ground.data }], guard := none }).run Try.prog (wr.drew.drew) = .ok (.value (.int .i64 ((q + 1 : Nat) : Int))) (wr.drew.drew) := by
    have kc : ∀ v, a0_31.eval (.const v) = v := fun _ => rfl
    have e56 := (show a0_31.eval (.tmp 56) = .int .i64 (q : Int) from (fa0_31.at_ 56))
    clear fa0_31 hQ h6 h7 h8 hr hsz hb1 hr2 d2 dd
    generalize a0_31.eval = ρ at *
    go_simp
  refine fa0_31.step 57 (.int .i64 ((q + 1 : Nat) : Int)) rfl (lb_ I0.size) (wanted_none rfl) r_a0_32 (fun a0_32 fa0_32 => ?_)
  clear r_a0_32
  clear fa0_31
  have r_a0_33 : (execOp a0_32.eval { dst := some 58, op := Op.nilCheck (Operand.tmp 53), type := 0, pos := "ref.go:123", after := #[{ on := 0, ground := Ground.data }, { on := 0, ground := Ground.phase }, { on := 1, ground := Ground.phase }, { on := 2, ground := Ground.phase }, { on := 3, ground := Ground.phase }, { on := 4, ground := Ground.phase }], guard := none }).run Try.prog (wr.drew.drew) = .ok (.value (.pointer (some ⟨b, 0, none⟩))) (wr.drew.drew) := by
    have e53 := (show a0_32.eval (.tmp 53) = .pointer (some ⟨b, 0, none⟩) from (fa0_32.at_ 53))
    clear fa0_32 hQ h6 h7 h8 hr hsz hb1 hr2 d2 dd
    generalize a0_32.eval = ρ at *
    go_simp
  refine fa0_32.step 58 (.pointer (some ⟨b, 0, none⟩)) rfl (lb_ I0.size) (wanted_none rfl) r_a0_33 (fun a0_33 fa0_33 => ?_)
  clear r_a0_33
  clear fa0_32
  have r_a0_34 : (execOp a0_33.eval { dst := some 59, op := Op.fieldAddr 37 (Operand.tmp 58) 1, type := 0, pos := "ref.go:123", after := #[{ on := 5, ground := Ground.data }, { on := 0, ground := Ground.phase }, { on := 1, ground := Ground.phase }, { on := 2, ground := Ground.phase }, { on := 3, ground := Ground.phase }, { on := 4, ground := Ground.phase }], guard := none }).run Try.prog (wr.drew.drew) = .ok (.value (.pointer (some ⟨b, 1, none⟩))) (wr.drew.drew) := by
    have e58 := (show a0_33.eval (.tmp 58) = .pointer (some ⟨b, 0, none⟩) from (fa0_33.at_ 58))
    clear fa0_33 hQ h6 h7 h8 hr hsz hb1 hr2 d2 dd
    generalize a0_33.eval = ρ at *
    go_simp
  refine fa0_33.step 59 (.pointer (some ⟨b, 1, none⟩)) rfl (lb_ I0.size) (wanted_none rfl) r_a0_34 (fun a0_34 fa0_34 => ?_)
  clear r_a0_34
  clear fa0_33
  have r_a0_35 : (execOp a0_34.eval { dst := none, op := Op.store 3 (Operand.tmp 59) (Operand.tmp 57), type := 0, pos := "ref.go:123", after := #[{ on := 6, ground := Ground.data }, { on := 4, ground := Ground.data }, { on := 0, ground := Ground.phase }, { on := 1, ground := Ground.phase }, { on := 2, ground := Ground.phase }, { on := 3, ground := Ground.phase }, { on := 4, ground := Ground.phase }], guard := none }).run Try.prog (wr.drew.drew) = .ok .skip (World.setCell wr.drew.drew ⟨b, 1, none⟩ (.int .i64 ((q + 1 : Nat) : Int))) := by
    have e59 := (show a0_34.eval (.tmp 59) = .pointer (some ⟨b, 1, none⟩) from (fa0_34.at_ 59))
    have e57 := (show a0_34.eval (.tmp 57) = .int .i64 ((q + 1 : Nat) : Int) from (fa0_34.at_ 57))
    clear fa0_34 hQ h6 h7 h8 hr hsz hb1 hr2 d2 dd
    generalize a0_34.eval = ρ at *
    go_simp
  refine fa0_34.store rfl (wanted_none rfl) r_a0_35 (fun a0_35 fa0_35 => ?_)
  clear r_a0_35
  obtain ⟨hv, fv⟩ := hr2.set1 (q + 1)
  generalize World.setCell wr.drew.drew ⟨b, 1, none⟩ (.int .i64 ((q + 1 : Nat) : Int)) = V at *
  have fV : Fr (fun k => k = b) wr V := Fr.trans (d2.mono (fun _ _ f => f.elim)) fv (fun _ _ e => e)
  clear fa0_34
  refine wpList_nil ?_
  change Code.wp _ _ _ _ _
  refine wp_seq ?_
  refine wp_region_list ?_
  unfold rHC16
  refine fa0_35.move 60 (.int .u64 (n : Int)) _ (Or.inl rfl) rfl (lb_ I0.size) (wanted_none rfl) ((fa0_35.at_ 6).trans h6) (fun a0_36 fa0_36 => ?_)
  clear fa0_35
  refine fa0_36.move 61 (.int .u64 (x : Int)) _ (Or.inl rfl) rfl (lb_ I0.size) (wanted_none rfl) (fa0_36.at_ 9) (fun a0_37 fa0_37 => ?_)
  clear fa0_36
  have r_a0_38 : (execOp a0_37.eval { dst := some 62, op := Op.binOp BinOp.rem 22 (Operand.tmp 61) (Operand.const (Value.int IntKind.u64 128)) 22, type := 22, pos := "ref.go:124", after := #[{ on := 1, ground := Ground.data }], guard := none }).run Try.prog (V) = .ok (.value (.int .u64 (y : Int))) (V) := by
    have kc : ∀ v, a0_37.eval (.const v) = v := fun _ => rfl
    have e61 := (show a0_37.eval (.tmp 61) = .int .u64 (x : Int) from (fa0_37.at_ 61))
    clear fa0_37 hQ h6 h7 h8 hr hsz hb1 hr2 d2 dd hv fv fV
    generalize a0_37.eval = ρ at *
    go_simp
  refine fa0_37.step 62 (.int .u64 (y : Int)) rfl (lb_ I0.size) (wanted_none rfl) r_a0_38 (fun a0_38 fa0_38 => ?_)
  clear r_a0_38
  clear fa0_37
  refine fa0_38.move 63 (.int .u64 (u : Int)) _ (Or.inl rfl) rfl (lb_ I0.size) (wanted_none rfl) ((fa0_38.at_ 7).trans h7) (fun a0_39 fa0_39 => ?_)
  clear fa0_38
  have r_a0_40 : (execOp a0_39.eval { dst := some 64, op := Op.binOp BinOp.mul 22 (Operand.tmp 62) (Operand.tmp 63) 22, type := 22, pos := "ref.go:124", after := #[{ on := 2, ground := Ground.data }, { on := 3, ground := Ground.data }], guard := none }).run Try.prog (V) = .ok (.value (.int .u64 (z : Int))) (V) := by
    have e62 := (show a0_39.eval (.tmp 62) = .int .u64 (y : Int) from (fa0_39.at_ 62))
    have e63 := (show a0_39.eval (.tmp 63) = .int .u64 (u : Int) from (fa0_39.at_ 63))
    clear fa0_39 hQ h6 h7 h8 hr hsz hb1 hr2 d2 dd hv fv fV
    generalize a0_39.eval = ρ at *
    go_simp
  refine fa0_39.step 64 (.int .u64 (z : Int)) rfl (lb_ I0.size) (wanted_none rfl) r_a0_40 (fun a0_40 fa0_40 => ?_)
  clear r_a0_40
  clear fa0_39
  have r_a0_41 : (execOp a0_40.eval { dst := some 65, op := Op.binOp BinOp.add 22 (Operand.tmp 60) (Operand.tmp 64) 22, type := 22, pos := "ref.go:124", after := #[{ on := 0, ground := Ground.data }, { on := 4, ground := Ground.data }], guard := none }).run Try.prog (V) = .ok (.value (.int .u64 (n2 : Int))) (V) := by
    have e60 := (show a0_40.eval (.tmp 60) = .int .u64 (n : Int) from (fa0_40.at_ 60))
    have e64 := (show a0_40.eval (.tmp 64) = .int .u64 (z : Int) from (fa0_40.at_ 64))
    clear fa0_40 hQ h6 h7 h8 hr hsz hb1 hr2 d2 dd hv fv fV
    generalize a0_40.eval = ρ at *
    go_simp
  refine fa0_40.step 65 (.int .u64 (n2 : Int)) rfl (lb_ I0.size) (wanted_none rfl) r_a0_41 (fun a0_41 fa0_41 => ?_)
  clear r_a0_41
  clear fa0_40
  refine fa0_41.move 6 (.int .u64 (n2 : Int)) _ (Or.inr rfl) rfl (lb_ I0.size) (wanted_none rfl) (fa0_41.at_ 65) (fun a0_42 fa0_42 => ?_)
  clear fa0_41
  refine wpList_nil ?_
  change Code.wp _ _ _ _ _
  refine wp_seq ?_
  refine wp_region_list ?_
  unfold rHC17
  refine fa0_42.move 66 (.int .u64 (u : Int)) _ (Or.inl rfl) rfl (lb_ I0.size) (wanted_none rfl) ((fa0_42.at_ 7).trans h7) (fun a0_43 fa0_43 => ?_)
  clear fa0_42
  have r_a0_44 : (execOp a0_43.eval { dst := some 67, op := Op.binOp BinOp.mul 22 (Operand.tmp 66) (Operand.const (Value.int IntKind.u64 128)) 22, type := 22, pos := "ref.go:125", after := #[{ on := 0, ground := Ground.data }], guard := none }).run Try.prog (V) = .ok (.value (.int .u64 (u2 : Int))) (V) := by
    have kc : ∀ v, a0_43.eval (.const v) = v := fun _ => rfl
    have e66 := (show a0_43.eval (.tmp 66) = .int .u64 (u : Int) from (fa0_43.at_ 66))
    clear fa0_43 hQ h6 h7 h8 hr hsz hb1 hr2 d2 dd hv fv fV
    generalize a0_43.eval = ρ at *
    go_simp
  refine fa0_43.step 67 (.int .u64 (u2 : Int)) rfl (lb_ I0.size) (wanted_none rfl) r_a0_44 (fun a0_44 fa0_44 => ?_)
  clear r_a0_44
  clear fa0_43
  refine fa0_44.move 7 (.int .u64 (u2 : Int)) _ (Or.inr rfl) rfl (lb_ I0.size) (wanted_none rfl) (fa0_44.at_ 67) (fun a0_45 fa0_45 => ?_)
  clear fa0_44
  refine wpList_nil ?_
  change Code.wp _ _ _ _ _
  refine wp_seq ?_
  refine wp_region_list ?_
  unfold rHC18
  refine fa0_45.move 68 (.int .u64 (x : Int)) _ (Or.inl rfl) rfl (lb_ I0.size) (wanted_none rfl) (fa0_45.at_ 9) (fun a0_46 fa0_46 => ?_)
  clear fa0_45
  have r_a0_47 : (execOp a0_46.eval { dst := some 69, op := Op.binOp BinOp.lss 22 (Operand.tmp 68) (Operand.const (Value.int IntKind.u64 128)) 22, type := 4, pos := "ref.go:126", after := #[{ on := 0, ground := Ground.data }], guard := none }).run Try.prog (V) = .ok (.value (.bool true)) (V) := by
    have kc : ∀ v, a0_46.eval (.const v) = v := fun _ => rfl
    have e68 := (show a0_46.eval (.tmp 68) = .int .u64 (x : Int) from (fa0_46.at_ 68))
    clear fa0_46 hQ h6 h7 h8 hr hsz hb1 hr2 d2 dd hv fv fV
    generalize a0_46.eval = ρ at *
    go_simp
  refine fa0_46.step 69 (.bool true) rfl (lb_ I0.size) (wanted_none rfl) r_a0_47 (fun a0_47 fa0_47 => ?_)
  clear r_a0_47
  clear fa0_46
  refine wpList_nil ?_
  change Code.wp _ _ _ _ _
  refine wp_cond_true (show a0_47.eval (.tmp 69) = .bool true from (fa0_47.at_ 69)) (wp_seq (wp_seq ?_))
  refine wp_region_list ?_
  unfold rHC19
  refine fa0_47.move 70 (.int .u64 (x : Int)) _ (Or.inl rfl) rfl (lb_ I0.size) (wanted_none rfl) (fa0_47.at_ 9) (fun a0_48 fa0_48 => ?_)
  clear fa0_47
  have r_a0_49 : (execOp a0_48.eval { dst := some 71, op := Op.binOp BinOp.eql 22 (Operand.tmp 70) (Operand.const (Value.int IntKind.u64 0)) 22, type := 4, pos := "ref.go:127", after := #[{ on := 0, ground := Ground.data }], guard := none }).run Try.prog (V) = .ok (.value (.bool true)) (V) := by
    have kc : ∀ v, a0_48.eval (.const v) = v := fun _ => rfl
    have e70 := (show a0_48.eval (.tmp 70) = .int .u64 (x : Int) from (fa0_48.at_ 70))
    clear fa0_48 hQ h6 h7 h8 hr hsz hr2 d2 dd hv fv fV
    generalize a0_48.eval = ρ at *
    go_simp
  refine fa0_48.step 71 (.bool true) rfl (lb_ I0.size) (wanted_none rfl) r_a0_49 (fun a0_49 fa0_49 => ?_)
  clear r_a0_49
  clear fa0_48
  refine fa0_49.move 72 (.bool true) _ (Or.inl rfl) rfl (lb_ I0.size) (wanted_none rfl) (fa0_49.at_ 71) (fun a0_50 fa0_50 => ?_)
  clear fa0_49
  refine fa0_50.move 73 (.int .i64 (i : Int)) _ (Or.inl rfl) rfl (lb_ I0.size) ((wanted_at (t := 72) (c := true) (b := true) rfl rfl rfl (lb_ (fa0_50.size.trans I0.size)) (fa0_50.at_ 72)).trans (by rfl)) ((fa0_50.at_ 8).trans h8) (fun a0_51 fa0_51 => ?_)
  clear fa0_50
  have r_a0_52 : (execOp a0_51.eval { dst := some 74, op := Op.binOp BinOp.gtr 3 (Operand.tmp 73) (Operand.const (Value.int IntKind.i64 0)) 3, type := 4, pos := "ref.go:127", after := #[{ on := 3, ground := Ground.data }, { on := 2, ground := Ground.guard }], guard := some (2, true) }).run Try.prog (V) = .ok (.value (.bool false)) (V) := by
    have kc : ∀ v, a0_51.eval (.const v) = v := fun _ => rfl
    have e73 := (show a0_51.eval (.tmp 73) = .int .i64 (i : Int) from (fa0_51.at_ 73))
    clear fa0_51 hQ h6 h7 h8 hr hsz hr2 d2 dd hv fv fV
    generalize a0_51.eval = ρ at *
    go_simp
  refine fa0_51.step 74 (.bool false) rfl (lb_ I0.size) ((wanted_at (t := 72) (c := true) (b := true) rfl rfl rfl (lb_ (fa0_51.size.trans I0.size)) (fa0_51.at_ 72)).trans (by rfl)) r_a0_52 (fun a0_52 fa0_52 => ?_)
  clear r_a0_52
  clear fa0_51
  have r_a0_53 : (execOp a0_52.eval { dst := some 75, op := Op.pick (Operand.tmp 72) (Operand.tmp 74) (Operand.const (Value.bool false)), type := 4, pos := "ref.go:127", after := #[{ on := 2, ground := Ground.data }, { on := 4, ground := Ground.data }], guard := none }).run Try.prog (V) = .ok (.value (.bool false)) (V) := by
    have kc : ∀ v, a0_52.eval (.const v) = v := fun _ => rfl
    have e72 := (show a0_52.eval (.tmp 72) = .bool true from (fa0_52.at_ 72))
    have e74 := (show a0_52.eval (.tmp 74) = .bool false from (fa0_52.at_ 74))
    clear fa0_52 hQ h6 h7 h8 hr hsz hr2 d2 dd hv fv fV
    generalize a0_52.eval = ρ at *
    go_simp
  refine fa0_52.step 75 (.bool false) rfl (lb_ I0.size) (wanted_none rfl) r_a0_53 (fun a0_53 fa0_53 => ?_)
  clear r_a0_53
  clear fa0_52
  refine wpList_nil ?_
  change Code.wp _ _ _ _ _
  refine wp_cond_false (show a0_53.eval (.tmp 75) = .bool false from (fa0_53.at_ 75)) (wp_skip ?_)
  change Code.wp _ _ _ _ _
  refine wp_seq (wp_seq ?_)
  refine wp_region_list ?_
  unfold rHC22
  refine fa0_53.move 79 (.int .u64 (n2 : Int)) _ (Or.inl rfl) rfl (lb_ I0.size) (wanted_none rfl) (fa0_53.at_ 6) (fun a0_54 fa0_54 => ?_)
  clear fa0_53
  refine fa0_54.move 80 (.int .u64 (most : Int)) _ (Or.inl rfl) rfl (lb_ I0.size) (wanted_none rfl) ((fa0_54.at_ 1).trans I0.s1) (fun a0_55 fa0_55 => ?_)
  clear fa0_54
  have r_a0_56 : (execOp a0_55.eval { dst := some 81, op := Op.binOp BinOp.gtr 22 (Operand.tmp 79) (Operand.tmp 80) 22, type := 4, pos := "ref.go:131", after := #[{ on := 0, ground := Ground.data }, { on := 1, ground := Ground.data }], guard := none }).run Try.prog (V) = .ok (.value (.bool false)) (V) := by
    have e79 := (show a0_55.eval (.tmp 79) = .int .u64 (n2 : Int) from (fa0_55.at_ 79))
    have e80 := (show a0_55.eval (.tmp 80) = .int .u64 (most : Int) from (fa0_55.at_ 80))
    clear fa0_55 hQ h6 h7 h8 hr hsz hr2 d2 dd hv fv fV
    generalize a0_55.eval = ρ at *
    go_simp
  refine fa0_55.step 81 (.bool false) rfl (lb_ I0.size) (wanted_none rfl) r_a0_56 (fun a0_56 fa0_56 => ?_)
  clear r_a0_56
  clear fa0_55
  refine wpList_nil ?_
  change Code.wp _ _ _ _ _
  refine wp_cond_false (show a0_56.eval (.tmp 81) = .bool false from (fa0_56.at_ 81)) (wp_skip ?_)
  change Code.wp _ _ _ _ _
  refine wp_seq ?_
  refine wp_region_list ?_
  unfold rHC25
  refine fa0_56.move 85 (.int .u64 (n2 : Int)) _ (Or.inl rfl) rfl (lb_ I0.size) (wanted_none rfl) (fa0_56.at_ 6) (fun a0_57 fa0_57 => ?_)
  clear fa0_56
  refine fa0_57.move 4 (.int .u64 (n2 : Int)) _ (Or.inr rfl) rfl (lb_ I0.size) (wanted_none rfl) (fa0_57.at_ 85) (fun a0_58 fa0_58 => ?_)
  clear fa0_57
  refine wpList_nil ?_
  change Code.wp _ _ _ _ _
  refine wp_ret ?_
  exact hQ a0_58 V (fa0_58.defers.trans I0.defers) (show a0_58.eval (.tmp 4) = .int .u64 (n2 : Int) from (fa0_58.at_ 4)) hv fV
set_option maxRecDepth 100000 in
set_option maxHeartbeats 1000000 in
theorem hcZ1 {b p q i n u most : Nat} {s : ByteArray} {Q : Exit → Act → World → Prop} (hQp : ∀ c (a : Act) d v w, Q (.panic c) (a.put d v) w → Q (.panic c) a w) (a0 : Act) (wr : World) (I0 : IHC (.pointer (some ⟨b, 0, none⟩)) (.int .u64 (most : Int)) (.int .i64 (p : Int)) a0) (h6 : a0.eval (.tmp 6) = .int .u64 (n : Int)) (h7 : a0.eval (.tmp 7) = .int .u64 (u : Int)) (h8 : a0.eval (.tmp 8) = .int .i64 (i : Int)) (hr : RRAt wr b s q 0) (hsz : s.size ≤ 1000000000000) {x : Nat} (hq : q < s.size) (hx : (s[q]).toNat = x) {y z n2 u2 : Nat} (hy : x % 128 = y) (hz : y * u = z) (hn2 : n + z = n2) (hn3 : n2 < 18446744073709551616) (hu2 : u * 128 % 18446744073709551616 = u2) (hi : i = 9) (hb : x = 0) (hQ : ∀ (a : Act) W, a.defers = [] → a.eval (.tmp 4) = .int .u64 0 → RRAt W b s p 11 → Fr (fun k => k = b) wr W → Q .ret a W) : cHC1.wp Try.prog Q a0 wr := by
  have hne : ¬ (q : Int) = (s.size : Int) := by omega
  have hqi : (q : Int) < (s.size : Int) := by omega
  have xl : x < 256 := by rw [← hx]; exact (s[q]).toNat_lt
  have wx : IntKind.u64.wrap (x : Int) = (x : Int) := by rw [IntKind.wrap_u64]; omega
  have w1 : IntKind.i64.wrap ((q : Int) + 1) = ((q + 1 : Nat) : Int) := by rw [IntKind.wrap_i64]; omega
  have hyt : (x : Int).tmod 128 = (y : Int) := by rw [← hy]; rfl
  have hye : (x : Int) % 128 = (y : Int) := by omega
  have wz : IntKind.u64.wrap ((y : Int) * (u : Int)) = (z : Int) := by rw [← Int.natCast_mul, hz, IntKind.wrap_u64]; omega
  have wn : IntKind.u64.wrap ((n : Int) + (z : Int)) = (n2 : Int) := by rw [IntKind.wrap_u64]; omega
  have wu : IntKind.u64.wrap ((u : Int) * 128) = (u2 : Int) := by rw [IntKind.wrap_u64]; omega
  clear hy hz hn2 hu2
  have hi9 : (i : Int) = 9 := by omega
  have hp2 : (0 : Int) < (i : Int) := by omega
  have hb1 : (x : Int) = 0 := by omega
  have hb2 : (x : Int) < 128 := by omega
  have hb3 : ¬ (1 : Int) < (x : Int) := by omega
  clear hi hb hn3
  have fa0_0 := Fe.refl a0
  have k0 := hr.c0
  have k1 := hr.c1
  have dd : Same wr wr.drew := (Fr.refl (fun _ => False) wr).drew
  unfold cHC1
  refine wp_seq (wp_block (wp_seq (wp_seq ?_)))
  refine wp_region_held_drew (ops := rHC8) (S := fun Z => Same wr Z) (by kernel_rfl) (dd) (fun hS0 => ?_)
  refine fa0_0.takeMove 0 21 (.pointer (some ⟨b, 0, none⟩)) _ (Or.inl rfl) rfl (by kernel_rfl) (by kernel_rfl) (by kernel_rfl) (fun _ _ _ h => hQp _ _ _ _ _ h) rfl (lb_ I0.size) (wanted_none rfl) ((fa0_0.at_ 0).trans I0.s0) hS0 (fun a0_1 fa0_1 => ?_)
  clear fa0_0
  have r_a0_2 : ∀ Z, (fun Z => Same wr Z) Z → (execOp a0_1.eval { dst := some 22, op := Op.nilCheck (Operand.tmp 21), type := 0, pos := "ref.go:114", after := #[{ on := 0, ground := Ground.data }], guard := none }).run Try.prog Z = .ok (.value (.pointer (some ⟨b, 0, none⟩))) Z := fun Z hZ => by
    have e21 := (show a0_1.eval (.tmp 21) = .pointer (some ⟨b, 0, none⟩) from (fa0_1.at_ 21))
    clear fa0_1 hQ h6 h7 h8 hr hsz hb1
    generalize a0_1.eval = ρ at *
    go_simp
  refine fa0_1.take 1 22 (.pointer (some ⟨b, 0, none⟩)) rfl (by kernel_rfl) (by kernel_rfl) (by kernel_rfl) (fun _ _ _ h => hQp _ _ _ _ _ h) rfl (lb_ I0.size) (wanted_none rfl) r_a0_2 hS0 (fun a0_2 fa0_2 => ?_)
  clear r_a0_2
  clear fa0_1
  have r_a0_3 : ∀ Z, (fun Z => Same wr Z) Z → (execOp a0_2.eval { dst := some 23, op := Op.fieldAddr 37 (Operand.tmp 22) 1, type := 0, pos := "ref.go:114", after := #[{ on := 1, ground := Ground.data }], guard := none }).run Try.prog Z = .ok (.value (.pointer (some ⟨b, 1, none⟩))) Z := fun Z hZ => by
    have e22 := (show a0_2.eval (.tmp 22) = .pointer (some ⟨b, 0, none⟩) from (fa0_2.at_ 22))
    clear fa0_2 hQ h6 h7 h8 hr hsz hb1
    generalize a0_2.eval = ρ at *
    go_simp
  refine fa0_2.take 2 23 (.pointer (some ⟨b, 1, none⟩)) rfl (by kernel_rfl) (by kernel_rfl) (by kernel_rfl) (fun _ _ _ h => hQp _ _ _ _ _ h) rfl (lb_ I0.size) (wanted_none rfl) r_a0_3 hS0 (fun a0_3 fa0_3 => ?_)
  clear r_a0_3
  clear fa0_2
  have r_a0_4 : ∀ Z, (fun Z => Same wr Z) Z → (execOp a0_3.eval { dst := some 24, op := Op.load 3 (Operand.tmp 23), type := 3, pos := "ref.go:114", after := #[{ on := 2, ground := Ground.data }], guard := none }).run Try.prog Z = .ok (.value (.int .i64 (q : Int))) Z := fun Z hZ => by
    have q0 := hZ.keep k0
    have q1 := hZ.keep k1
    clear hZ
    have e23 := (show a0_3.eval (.tmp 23) = .pointer (some ⟨b, 1, none⟩) from (fa0_3.at_ 23))
    clear fa0_3 hQ h6 h7 h8 hr hsz hb1
    generalize a0_3.eval = ρ at *
    go_simp
  refine fa0_3.take 3 24 (.int .i64 (q : Int)) rfl (by kernel_rfl) (by kernel_rfl) (by kernel_rfl) (fun _ _ _ h => hQp _ _ _ _ _ h) rfl (lb_ I0.size) (wanted_none rfl) r_a0_4 hS0 (fun a0_4 fa0_4 => ?_)
  clear r_a0_4
  clear fa0_3
  refine fa0_4.takeMove 4 25 (.pointer (some ⟨b, 0, none⟩)) _ (Or.inl rfl) rfl (by kernel_rfl) (by kernel_rfl) (by kernel_rfl) (fun _ _ _ h => hQp _ _ _ _ _ h) rfl (lb_ I0.size) (wanted_none rfl) ((fa0_4.at_ 0).trans I0.s0) hS0 (fun a0_5 fa0_5 => ?_)
  clear fa0_4
  have r_a0_6 : ∀ Z, (fun Z => Same wr Z) Z → (execOp a0_5.eval { dst := some 26, op := Op.nilCheck (Operand.tmp 25), type := 0, pos := "ref.go:114", after := #[{ on := 4, ground := Ground.data }], guard := none }).run Try.prog Z = .ok (.value (.pointer (some ⟨b, 0, none⟩))) Z := fun Z hZ => by
    have e25 := (show a0_5.eval (.tmp 25) = .pointer (some ⟨b, 0, none⟩) from (fa0_5.at_ 25))
    clear fa0_5 hQ h6 h7 h8 hr hsz hb1
    generalize a0_5.eval = ρ at *
    go_simp
  refine fa0_5.take 5 26 (.pointer (some ⟨b, 0, none⟩)) rfl (by kernel_rfl) (by kernel_rfl) (by kernel_rfl) (fun _ _ _ h => hQp _ _ _ _ _ h) rfl (lb_ I0.size) (wanted_none rfl) r_a0_6 hS0 (fun a0_6 fa0_6 => ?_)
  clear r_a0_6
  clear fa0_5
  have r_a0_7 : ∀ Z, (fun Z => Same wr Z) Z → (execOp a0_6.eval { dst := some 27, op := Op.fieldAddr 37 (Operand.tmp 26) 0, type := 0, pos := "ref.go:114", after := #[{ on := 5, ground := Ground.data }], guard := none }).run Try.prog Z = .ok (.value (.pointer (some ⟨b, 0, none⟩))) Z := fun Z hZ => by
    have e26 := (show a0_6.eval (.tmp 26) = .pointer (some ⟨b, 0, none⟩) from (fa0_6.at_ 26))
    clear fa0_6 hQ h6 h7 h8 hr hsz hb1
    generalize a0_6.eval = ρ at *
    go_simp
  refine fa0_6.take 6 27 (.pointer (some ⟨b, 0, none⟩)) rfl (by kernel_rfl) (by kernel_rfl) (by kernel_rfl) (fun _ _ _ h => hQp _ _ _ _ _ h) rfl (lb_ I0.size) (wanted_none rfl) r_a0_7 hS0 (fun a0_7 fa0_7 => ?_)
  clear r_a0_7
  clear fa0_6
  have r_a0_8 : ∀ Z, (fun Z => Same wr Z) Z → (execOp a0_7.eval { dst := some 28, op := Op.load 9 (Operand.tmp 27), type := 9, pos := "ref.go:114", after := #[{ on := 6, ground := Ground.data }], guard := none }).run Try.prog Z = .ok (.value (.string s)) Z := fun Z hZ => by
    have q0 := hZ.keep k0
    have q1 := hZ.keep k1
    clear hZ
    have e27 := (show a0_7.eval (.tmp 27) = .pointer (some ⟨b, 0, none⟩) from (fa0_7.at_ 27))
    clear fa0_7 hQ h6 h7 h8 hr hsz hb1
    generalize a0_7.eval = ρ at *
    go_simp
  refine fa0_7.take 7 28 (.string s) rfl (by kernel_rfl) (by kernel_rfl) (by kernel_rfl) (fun _ _ _ h => hQp _ _ _ _ _ h) rfl (lb_ I0.size) (wanted_none rfl) r_a0_8 hS0 (fun a0_8 fa0_8 => ?_)
  clear r_a0_8
  clear fa0_7
  have r_a0_9 : ∀ Z, (fun Z => Same wr Z) Z → (execOp a0_8.eval { dst := some 29, op := Op.call { callee := Callee.builtin Builtin.len, args := #[Operand.tmp 28], argTypes := #[9] }, type := 3, pos := "ref.go:114", after := #[{ on := 7, ground := Ground.data }], guard := none }).run Try.prog Z = .ok (.value (.int .i64 (s.size : Int))) Z := fun Z hZ => by
    have e28 := (show a0_8.eval (.tmp 28) = .string s from (fa0_8.at_ 28))
    clear fa0_8 hQ h6 h7 h8 hr hsz hb1
    generalize a0_8.eval = ρ at *
    go_simp
  refine fa0_8.take 8 29 (.int .i64 (s.size : Int)) rfl (by kernel_rfl) (by kernel_rfl) (by kernel_rfl) (fun _ _ _ h => hQp _ _ _ _ _ h) rfl (lb_ I0.size) (wanted_none rfl) r_a0_9 hS0 (fun a0_9 fa0_9 => ?_)
  clear r_a0_9
  clear fa0_8
  have r_a0_10 : ∀ Z, (fun Z => Same wr Z) Z → (execOp a0_9.eval { dst := some 30, op := Op.binOp BinOp.eql 3 (Operand.tmp 24) (Operand.tmp 29) 3, type := 4, pos := "ref.go:114", after := #[{ on := 3, ground := Ground.data }, { on := 8, ground := Ground.data }], guard := none }).run Try.prog Z = .ok (.value (.bool false)) Z := fun Z hZ => by
    have e24 := (show a0_9.eval (.tmp 24) = .int .i64 (q : Int) from (fa0_9.at_ 24))
    have e29 := (show a0_9.eval (.tmp 29) = .int .i64 (s.size : Int) from (fa0_9.at_ 29))
    clear fa0_9 hQ h6 h7 h8 hr hsz hb1
    generalize a0_9.eval = ρ at *
    go_simp
  refine fa0_9.take 9 30 (.bool false) rfl (by kernel_rfl) (by kernel_rfl) (by kernel_rfl) (fun _ _ _ h => hQp _ _ _ _ _ h) rfl (lb_ I0.size) (wanted_none rfl) r_a0_10 hS0 (fun a0_10 fa0_10 => ?_)
  clear r_a0_10
  clear fa0_9
  refine wpAnyH_done (by kernel_rfl) ?_ _
  change Code.wp _ _ _ _ _
  refine wp_cond_false (show a0_10.eval (.tmp 30) = .bool false from (fa0_10.at_ 30)) (wp_skip ?_)
  change Code.wp _ _ _ _ _
  refine wp_seq ?_
  have d2 : Same wr wr.drew.drew := dd.trans (Fr.refl (fun _ => False) wr.drew).drew
  refine wp_region_held_drew (ops := rHC11) (S := fun Z => Same wr Z) (by kernel_rfl) (d2) (fun hS10 => ?_)
  refine fa0_10.takeMove 0 34 (.pointer (some ⟨b, 0, none⟩)) _ (Or.inl rfl) rfl (by kernel_rfl) (by kernel_rfl) (by kernel_rfl) (fun _ _ _ h => hQp _ _ _ _ _ h) rfl (lb_ I0.size) (wanted_none rfl) ((fa0_10.at_ 0).trans I0.s0) hS10 (fun a0_11 fa0_11 => ?_)
  clear fa0_10
  have r_a0_12 : ∀ Z, (fun Z => Same wr Z) Z → (execOp a0_11.eval { dst := some 35, op := Op.nilCheck (Operand.tmp 34), type := 0, pos := "ref.go:118", after := #[{ on := 0, ground := Ground.data }], guard := none }).run Try.prog Z = .ok (.value (.pointer (some ⟨b, 0, none⟩))) Z := fun Z hZ => by
    have e34 := (show a0_11.eval (.tmp 34) = .pointer (some ⟨b, 0, none⟩) from (fa0_11.at_ 34))
    clear fa0_11 hQ h6 h7 h8 hr hsz hb1
    generalize a0_11.eval = ρ at *
    go_simp
  refine fa0_11.take 1 35 (.pointer (some ⟨b, 0, none⟩)) rfl (by kernel_rfl) (by kernel_rfl) (by kernel_rfl) (fun _ _ _ h => hQp _ _ _ _ _ h) rfl (lb_ I0.size) (wanted_none rfl) r_a0_12 hS10 (fun a0_12 fa0_12 => ?_)
  clear r_a0_12
  clear fa0_11
  have r_a0_13 : ∀ Z, (fun Z => Same wr Z) Z → (execOp a0_12.eval { dst := some 36, op := Op.fieldAddr 37 (Operand.tmp 35) 0, type := 0, pos := "ref.go:118", after := #[{ on := 1, ground := Ground.data }], guard := none }).run Try.prog Z = .ok (.value (.pointer (some ⟨b, 0, none⟩))) Z := fun Z hZ => by
    have e35 := (show a0_12.eval (.tmp 35) = .pointer (some ⟨b, 0, none⟩) from (fa0_12.at_ 35))
    clear fa0_12 hQ h6 h7 h8 hr hsz hb1
    generalize a0_12.eval = ρ at *
    go_simp
  refine fa0_12.take 2 36 (.pointer (some ⟨b, 0, none⟩)) rfl (by kernel_rfl) (by kernel_rfl) (by kernel_rfl) (fun _ _ _ h => hQp _ _ _ _ _ h) rfl (lb_ I0.size) (wanted_none rfl) r_a0_13 hS10 (fun a0_13 fa0_13 => ?_)
  clear r_a0_13
  clear fa0_12
  have r_a0_14 : ∀ Z, (fun Z => Same wr Z) Z → (execOp a0_13.eval { dst := some 37, op := Op.load 9 (Operand.tmp 36), type := 9, pos := "ref.go:118", after := #[{ on := 2, ground := Ground.data }], guard := none }).run Try.prog Z = .ok (.value (.string s)) Z := fun Z hZ => by
    have q0 := hZ.keep k0
    have q1 := hZ.keep k1
    clear hZ
    have e36 := (show a0_13.eval (.tmp 36) = .pointer (some ⟨b, 0, none⟩) from (fa0_13.at_ 36))
    clear fa0_13 hQ h6 h7 h8 hr hsz hb1
    generalize a0_13.eval = ρ at *
    go_simp
  refine fa0_13.take 3 37 (.string s) rfl (by kernel_rfl) (by kernel_rfl) (by kernel_rfl) (fun _ _ _ h => hQp _ _ _ _ _ h) rfl (lb_ I0.size) (wanted_none rfl) r_a0_14 hS10 (fun a0_14 fa0_14 => ?_)
  clear r_a0_14
  clear fa0_13
  refine fa0_14.takeMove 4 38 (.pointer (some ⟨b, 0, none⟩)) _ (Or.inl rfl) rfl (by kernel_rfl) (by kernel_rfl) (by kernel_rfl) (fun _ _ _ h => hQp _ _ _ _ _ h) rfl (lb_ I0.size) (wanted_none rfl) ((fa0_14.at_ 0).trans I0.s0) hS10 (fun a0_15 fa0_15 => ?_)
  clear fa0_14
  have r_a0_16 : ∀ Z, (fun Z => Same wr Z) Z → (execOp a0_15.eval { dst := some 39, op := Op.nilCheck (Operand.tmp 38), type := 0, pos := "ref.go:118", after := #[{ on := 4, ground := Ground.data }], guard := none }).run Try.prog Z = .ok (.value (.pointer (some ⟨b, 0, none⟩))) Z := fun Z hZ => by
    have e38 := (show a0_15.eval (.tmp 38) = .pointer (some ⟨b, 0, none⟩) from (fa0_15.at_ 38))
    clear fa0_15 hQ h6 h7 h8 hr hsz hb1
    generalize a0_15.eval = ρ at *
    go_simp
  refine fa0_15.take 5 39 (.pointer (some ⟨b, 0, none⟩)) rfl (by kernel_rfl) (by kernel_rfl) (by kernel_rfl) (fun _ _ _ h => hQp _ _ _ _ _ h) rfl (lb_ I0.size) (wanted_none rfl) r_a0_16 hS10 (fun a0_16 fa0_16 => ?_)
  clear r_a0_16
  clear fa0_15
  have r_a0_17 : ∀ Z, (fun Z => Same wr Z) Z → (execOp a0_16.eval { dst := some 40, op := Op.fieldAddr 37 (Operand.tmp 39) 1, type := 0, pos := "ref.go:118", after := #[{ on := 5, ground := Ground.data }], guard := none }).run Try.prog Z = .ok (.value (.pointer (some ⟨b, 1, none⟩))) Z := fun Z hZ => by
    have e39 := (show a0_16.eval (.tmp 39) = .pointer (some ⟨b, 0, none⟩) from (fa0_16.at_ 39))
    clear fa0_16 hQ h6 h7 h8 hr hsz hb1
    generalize a0_16.eval = ρ at *
    go_simp
  refine fa0_16.take 6 40 (.pointer (some ⟨b, 1, none⟩)) rfl (by kernel_rfl) (by kernel_rfl) (by kernel_rfl) (fun _ _ _ h => hQp _ _ _ _ _ h) rfl (lb_ I0.size) (wanted_none rfl) r_a0_17 hS10 (fun a0_17 fa0_17 => ?_)
  clear r_a0_17
  clear fa0_16
  have r_a0_18 : ∀ Z, (fun Z => Same wr Z) Z → (execOp a0_17.eval { dst := some 41, op := Op.load 3 (Operand.tmp 40), type := 3, pos := "ref.go:118", after := #[{ on := 6, ground := Ground.data }], guard := none }).run Try.prog Z = .ok (.value (.int .i64 (q : Int))) Z := fun Z hZ => by
    have q0 := hZ.keep k0
    have q1 := hZ.keep k1
    clear hZ
    have e40 := (show a0_17.eval (.tmp 40) = .pointer (some ⟨b, 1, none⟩) from (fa0_17.at_ 40))
    clear fa0_17 hQ h6 h7 h8 hr hsz hb1
    generalize a0_17.eval = ρ at *
    go_simp
  refine fa0_17.take 7 41 (.int .i64 (q : Int)) rfl (by kernel_rfl) (by kernel_rfl) (by kernel_rfl) (fun _ _ _ h => hQp _ _ _ _ _ h) rfl (lb_ I0.size) (wanted_none rfl) r_a0_18 hS10 (fun a0_18 fa0_18 => ?_)
  clear r_a0_18
  clear fa0_17
  have r_a0_19 : ∀ Z, (fun Z => Same wr Z) Z → (execOp a0_18.eval { dst := some 42, op := Op.index 9 (Operand.tmp 37) (Operand.tmp 41), type := 5, pos := "ref.go:118", after := #[{ on := 3, ground := Ground.data }, { on := 7, ground := Ground.data }], guard := none }).run Try.prog Z = .ok (.value (.int .u8 (x : Int))) Z := fun Z hZ => by
    have e37 := (show a0_18.eval (.tmp 37) = .string s from (fa0_18.at_ 37))
    have e41 := (show a0_18.eval (.tmp 41) = .int .i64 (q : Int) from (fa0_18.at_ 41))
    clear fa0_18 hQ h6 h7 h8 hr hsz hb1
    generalize a0_18.eval = ρ at *
    go_simp
  refine fa0_18.take 8 42 (.int .u8 (x : Int)) rfl (by kernel_rfl) (by kernel_rfl) (by kernel_rfl) (fun _ _ _ h => hQp _ _ _ _ _ h) rfl (lb_ I0.size) (wanted_none rfl) r_a0_19 hS10 (fun a0_19 fa0_19 => ?_)
  clear r_a0_19
  clear fa0_18
  have r_a0_20 : ∀ Z, (fun Z => Same wr Z) Z → (execOp a0_19.eval { dst := some 43, op := Op.convert 5 22 (Operand.tmp 42), type := 22, pos := "ref.go:118", after := #[{ on := 8, ground := Ground.data }], guard := none }).run Try.prog Z = .ok (.value (.int .u64 (x : Int))) Z := fun Z hZ => by
    have e42 := (show a0_19.eval (.tmp 42) = .int .u8 (x : Int) from (fa0_19.at_ 42))
    clear fa0_19 hQ h6 h7 h8 hr hsz hb1
    generalize a0_19.eval = ρ at *
    go_simp
  refine fa0_19.take 9 43 (.int .u64 (x : Int)) rfl (by kernel_rfl) (by kernel_rfl) (by kernel_rfl) (fun _ _ _ h => hQp _ _ _ _ _ h) rfl (lb_ I0.size) (wanted_none rfl) r_a0_20 hS10 (fun a0_20 fa0_20 => ?_)
  clear r_a0_20
  clear fa0_19
  refine fa0_20.takeMove 10 9 (.int .u64 (x : Int)) _ (Or.inr rfl) rfl (by kernel_rfl) (by kernel_rfl) (by kernel_rfl) (fun _ _ _ h => hQp _ _ _ _ _ h) rfl (lb_ I0.size) (wanted_none rfl) (fa0_20.at_ 43) hS10 (fun a0_21 fa0_21 => ?_)
  clear fa0_20
  refine wpAnyH_done (by kernel_rfl) ?_ _
  change Code.wp _ _ _ _ _
  refine wp_seq (wp_seq ?_)
  refine wp_region_list ?_
  unfold rHC12
  refine fa0_21.move 44 (.int .i64 (i : Int)) _ (Or.inl rfl) rfl (lb_ I0.size) (wanted_none rfl) ((fa0_21.at_ 8).trans h8) (fun a0_22 fa0_22 => ?_)
  clear fa0_21
  have r_a0_23 : (execOp a0_22.eval { dst := some 45, op := Op.binOp BinOp.eql 3 (Operand.tmp 44) (Operand.const (Value.int IntKind.i64 9)) 3, type := 4, pos := "ref.go:119", after := #[{ on := 0, ground := Ground.data }], guard := none }).run Try.prog (wr.drew.drew) = .ok (.value (.bool true)) (wr.drew.drew) := by
    have kc : ∀ v, a0_22.eval (.const v) = v := fun _ => rfl
    have e44 := (show a0_22.eval (.tmp 44) = .int .i64 (i : Int) from (fa0_22.at_ 44))
    clear fa0_22 hQ h6 h7 h8 hr hsz hb1
    generalize a0_22.eval = ρ at *
    go_simp
  refine fa0_22.step 45 (.bool true) rfl (lb_ I0.size) (wanted_none rfl) r_a0_23 (fun a0_23 fa0_23 => ?_)
  clear r_a0_23
  clear fa0_22
  refine fa0_23.move 46 (.bool true) _ (Or.inl rfl) rfl (lb_ I0.size) (wanted_none rfl) (fa0_23.at_ 45) (fun a0_24 fa0_24 => ?_)
  clear fa0_23
  refine fa0_24.move 47 (.int .u64 (x : Int)) _ (Or.inl rfl) rfl (lb_ I0.size) ((wanted_at (t := 46) (c := true) (b := true) rfl rfl rfl (lb_ (fa0_24.size.trans I0.size)) (fa0_24.at_ 46)).trans (by rfl)) (fa0_24.at_ 9) (fun a0_25 fa0_25 => ?_)
  clear fa0_24
  have r_a0_26 : (execOp a0_25.eval { dst := some 48, op := Op.binOp BinOp.gtr 22 (Operand.tmp 47) (Operand.const (Value.int IntKind.u64 1)) 22, type := 4, pos := "ref.go:119", after := #[{ on := 3, ground := Ground.data }, { on := 2, ground := Ground.guard }], guard := some (2, true) }).run Try.prog (wr.drew.drew) = .ok (.value (.bool false)) (wr.drew.drew) := by
    have kc : ∀ v, a0_25.eval (.const v) = v := fun _ => rfl
    have e47 := (show a0_25.eval (.tmp 47) = .int .u64 (x : Int) from (fa0_25.at_ 47))
    clear fa0_25 hQ h6 h7 h8 hr hsz hb1
    generalize a0_25.eval = ρ at *
    go_simp
  refine fa0_25.step 48 (.bool false) rfl (lb_ I0.size) ((wanted_at (t := 46) (c := true) (b := true) rfl rfl rfl (lb_ (fa0_25.size.trans I0.size)) (fa0_25.at_ 46)).trans (by rfl)) r_a0_26 (fun a0_26 fa0_26 => ?_)
  clear r_a0_26
  clear fa0_25
  have r_a0_27 : (execOp a0_26.eval { dst := some 49, op := Op.pick (Operand.tmp 46) (Operand.tmp 48) (Operand.const (Value.bool false)), type := 4, pos := "ref.go:119", after := #[{ on := 2, ground := Ground.data }, { on := 4, ground := Ground.data }], guard := none }).run Try.prog (wr.drew.drew) = .ok (.value (.bool false)) (wr.drew.drew) := by
    have kc : ∀ v, a0_26.eval (.const v) = v := fun _ => rfl
    have e46 := (show a0_26.eval (.tmp 46) = .bool true from (fa0_26.at_ 46))
    have e48 := (show a0_26.eval (.tmp 48) = .bool false from (fa0_26.at_ 48))
    clear fa0_26 hQ h6 h7 h8 hr hsz hb1
    generalize a0_26.eval = ρ at *
    go_simp
  refine fa0_26.step 49 (.bool false) rfl (lb_ I0.size) (wanted_none rfl) r_a0_27 (fun a0_27 fa0_27 => ?_)
  clear r_a0_27
  clear fa0_26
  refine wpList_nil ?_
  change Code.wp _ _ _ _ _
  refine wp_cond_false (show a0_27.eval (.tmp 49) = .bool false from (fa0_27.at_ 49)) (wp_skip ?_)
  change Code.wp _ _ _ _ _
  refine wp_seq ?_
  have hr2 := hr.fr d2 (fun f => f)
  have k1 := hr2.c1
  have z1 := hr2.z 1
  refine wp_region_list ?_
  unfold rHC15
  refine fa0_27.move 53 (.pointer (some ⟨b, 0, none⟩)) _ (Or.inl rfl) rfl (lb_ I0.size) (wanted_none rfl) ((fa0_27.at_ 0).trans I0.s0) (fun a0_28 fa0_28 => ?_)
  clear fa0_27
  have r_a0_29 : (execOp a0_28.eval { dst := some 54, op := Op.nilCheck (Operand.tmp 53), type := 0, pos := "ref.go:123", after := #[{ on := 0, ground := Ground.data }], guard := none }).run Try.prog (wr.drew.drew) = .ok (.value (.pointer (some ⟨b, 0, none⟩))) (wr.drew.drew) := by
    have e53 := (show a0_28.eval (.tmp 53) = .pointer (some ⟨b, 0, none⟩) from (fa0_28.at_ 53))
    clear fa0_28 hQ h6 h7 h8 hr hsz hb1 hr2 d2 dd
    generalize a0_28.eval = ρ at *
    go_simp
  refine fa0_28.step 54 (.pointer (some ⟨b, 0, none⟩)) rfl (lb_ I0.size) (wanted_none rfl) r_a0_29 (fun a0_29 fa0_29 => ?_)
  clear r_a0_29
  clear fa0_28
  have r_a0_30 : (execOp a0_29.eval { dst := some 55, op := Op.fieldAddr 37 (Operand.tmp 54) 1, type := 0, pos := "ref.go:123", after := #[{ on := 1, ground := Ground.data }], guard := none }).run Try.prog (wr.drew.drew) = .ok (.value (.pointer (some ⟨b, 1, none⟩))) (wr.drew.drew) := by
    have e54 := (show a0_29.eval (.tmp 54) = .pointer (some ⟨b, 0, none⟩) from (fa0_29.at_ 54))
    clear fa0_29 hQ h6 h7 h8 hr hsz hb1 hr2 d2 dd
    generalize a0_29.eval = ρ at *
    go_simp
  refine fa0_29.step 55 (.pointer (some ⟨b, 1, none⟩)) rfl (lb_ I0.size) (wanted_none rfl) r_a0_30 (fun a0_30 fa0_30 => ?_)
  clear r_a0_30
  clear fa0_29
  have r_a0_31 : (execOp a0_30.eval { dst := some 56, op := Op.load 3 (Operand.tmp 55), type := 3, pos := "ref.go:123", after := #[{ on := 2, ground := Ground.data }], guard := none }).run Try.prog (wr.drew.drew) = .ok (.value (.int .i64 (q : Int))) (wr.drew.drew) := by
    have e55 := (show a0_30.eval (.tmp 55) = .pointer (some ⟨b, 1, none⟩) from (fa0_30.at_ 55))
    clear fa0_30 hQ h6 h7 h8 hr hsz hb1 hr2 d2 dd
    generalize a0_30.eval = ρ at *
    go_simp
  refine fa0_30.step 56 (.int .i64 (q : Int)) rfl (lb_ I0.size) (wanted_none rfl) r_a0_31 (fun a0_31 fa0_31 => ?_)
  clear r_a0_31
  clear fa0_30
  have r_a0_32 : (execOp a0_31.eval { dst := some 57, op := Op.binOp BinOp.add 3 (Operand.tmp 56) (Operand.const (Value.int IntKind.i64 1)) 3, type := 3, pos := "ref.go:123", after := #[{ on := 3, ground := Ground.data }], guard := none }).run Try.prog (wr.drew.drew) = .ok (.value (.int .i64 ((q + 1 : Nat) : Int))) (wr.drew.drew) := by
    have kc : ∀ v, a0_31.eval (.const v) = v := fun _ => rfl
    have e56 := (show a0_31.eval (.tmp 56) = .int .i64 (q : Int) from (fa0_31.at_ 56))
    clear fa0_31 hQ h6 h7 h8 hr hsz hb1 hr2 d2 dd
    generalize a0_31.eval = ρ at *
    go_simp
  refine fa0_31.step 57 (.int .i64 ((q + 1 : Nat) : Int)) rfl (lb_ I0.size) (wanted_none rfl) r_a0_32 (fun a0_32 fa0_32 => ?_)
  clear r_a0_32
  clear fa0_31
  have r_a0_33 : (execOp a0_32.eval { dst := some 58, op := Op.nilCheck (Operand.tmp 53), type := 0, pos := "ref.go:123", after := #[{ on := 0, ground := Ground.data }, { on := 0, ground := Ground.phase }, { on := 1, ground := Ground.phase }, { on := 2, ground := Ground.phase }, { on := 3, ground := Ground.phase }, { on := 4, ground := Ground.phase }], guard := none }).run Try.prog (wr.drew.drew) = .ok (.value (.pointer (some ⟨b, 0, none⟩))) (wr.drew.drew) := by
    have e53 := (show a0_32.eval (.tmp 53) = .pointer (some ⟨b, 0, none⟩) from (fa0_32.at_ 53))
    clear fa0_32 hQ h6 h7 h8 hr hsz hb1 hr2 d2 dd
    generalize a0_32.eval = ρ at *
    go_simp
  refine fa0_32.step 58 (.pointer (some ⟨b, 0, none⟩)) rfl (lb_ I0.size) (wanted_none rfl) r_a0_33 (fun a0_33 fa0_33 => ?_)
  clear r_a0_33
  clear fa0_32
  have r_a0_34 : (execOp a0_33.eval { dst := some 59, op := Op.fieldAddr 37 (Operand.tmp 58) 1, type := 0, pos := "ref.go:123", after := #[{ on := 5, ground := Ground.data }, { on := 0, ground := Ground.phase }, { on := 1, ground := Ground.phase }, { on := 2, ground := Ground.phase }, { on := 3, ground := Ground.phase }, { on := 4, ground := Ground.phase }], guard := none }).run Try.prog (wr.drew.drew) = .ok (.value (.pointer (some ⟨b, 1, none⟩))) (wr.drew.drew) := by
    have e58 := (show a0_33.eval (.tmp 58) = .pointer (some ⟨b, 0, none⟩) from (fa0_33.at_ 58))
    clear fa0_33 hQ h6 h7 h8 hr hsz hb1 hr2 d2 dd
    generalize a0_33.eval = ρ at *
    go_simp
  refine fa0_33.step 59 (.pointer (some ⟨b, 1, none⟩)) rfl (lb_ I0.size) (wanted_none rfl) r_a0_34 (fun a0_34 fa0_34 => ?_)
  clear r_a0_34
  clear fa0_33
  have r_a0_35 : (execOp a0_34.eval { dst := none, op := Op.store 3 (Operand.tmp 59) (Operand.tmp 57), type := 0, pos := "ref.go:123", after := #[{ on := 6, ground := Ground.data }, { on := 4, ground := Ground.data }, { on := 0, ground := Ground.phase }, { on := 1, ground := Ground.phase }, { on := 2, ground := Ground.phase }, { on := 3, ground := Ground.phase }, { on := 4, ground := Ground.phase }], guard := none }).run Try.prog (wr.drew.drew) = .ok .skip (World.setCell wr.drew.drew ⟨b, 1, none⟩ (.int .i64 ((q + 1 : Nat) : Int))) := by
    have e59 := (show a0_34.eval (.tmp 59) = .pointer (some ⟨b, 1, none⟩) from (fa0_34.at_ 59))
    have e57 := (show a0_34.eval (.tmp 57) = .int .i64 ((q + 1 : Nat) : Int) from (fa0_34.at_ 57))
    clear fa0_34 hQ h6 h7 h8 hr hsz hb1 hr2 d2 dd
    generalize a0_34.eval = ρ at *
    go_simp
  refine fa0_34.store rfl (wanted_none rfl) r_a0_35 (fun a0_35 fa0_35 => ?_)
  clear r_a0_35
  obtain ⟨hv, fv⟩ := hr2.set1 (q + 1)
  generalize World.setCell wr.drew.drew ⟨b, 1, none⟩ (.int .i64 ((q + 1 : Nat) : Int)) = V at *
  have fV : Fr (fun k => k = b) wr V := Fr.trans (d2.mono (fun _ _ f => f.elim)) fv (fun _ _ e => e)
  clear fa0_34
  refine wpList_nil ?_
  change Code.wp _ _ _ _ _
  refine wp_seq ?_
  refine wp_region_list ?_
  unfold rHC16
  refine fa0_35.move 60 (.int .u64 (n : Int)) _ (Or.inl rfl) rfl (lb_ I0.size) (wanted_none rfl) ((fa0_35.at_ 6).trans h6) (fun a0_36 fa0_36 => ?_)
  clear fa0_35
  refine fa0_36.move 61 (.int .u64 (x : Int)) _ (Or.inl rfl) rfl (lb_ I0.size) (wanted_none rfl) (fa0_36.at_ 9) (fun a0_37 fa0_37 => ?_)
  clear fa0_36
  have r_a0_38 : (execOp a0_37.eval { dst := some 62, op := Op.binOp BinOp.rem 22 (Operand.tmp 61) (Operand.const (Value.int IntKind.u64 128)) 22, type := 22, pos := "ref.go:124", after := #[{ on := 1, ground := Ground.data }], guard := none }).run Try.prog (V) = .ok (.value (.int .u64 (y : Int))) (V) := by
    have kc : ∀ v, a0_37.eval (.const v) = v := fun _ => rfl
    have e61 := (show a0_37.eval (.tmp 61) = .int .u64 (x : Int) from (fa0_37.at_ 61))
    clear fa0_37 hQ h6 h7 h8 hr hsz hb1 hr2 d2 dd hv fv fV
    generalize a0_37.eval = ρ at *
    go_simp
  refine fa0_37.step 62 (.int .u64 (y : Int)) rfl (lb_ I0.size) (wanted_none rfl) r_a0_38 (fun a0_38 fa0_38 => ?_)
  clear r_a0_38
  clear fa0_37
  refine fa0_38.move 63 (.int .u64 (u : Int)) _ (Or.inl rfl) rfl (lb_ I0.size) (wanted_none rfl) ((fa0_38.at_ 7).trans h7) (fun a0_39 fa0_39 => ?_)
  clear fa0_38
  have r_a0_40 : (execOp a0_39.eval { dst := some 64, op := Op.binOp BinOp.mul 22 (Operand.tmp 62) (Operand.tmp 63) 22, type := 22, pos := "ref.go:124", after := #[{ on := 2, ground := Ground.data }, { on := 3, ground := Ground.data }], guard := none }).run Try.prog (V) = .ok (.value (.int .u64 (z : Int))) (V) := by
    have e62 := (show a0_39.eval (.tmp 62) = .int .u64 (y : Int) from (fa0_39.at_ 62))
    have e63 := (show a0_39.eval (.tmp 63) = .int .u64 (u : Int) from (fa0_39.at_ 63))
    clear fa0_39 hQ h6 h7 h8 hr hsz hb1 hr2 d2 dd hv fv fV
    generalize a0_39.eval = ρ at *
    go_simp
  refine fa0_39.step 64 (.int .u64 (z : Int)) rfl (lb_ I0.size) (wanted_none rfl) r_a0_40 (fun a0_40 fa0_40 => ?_)
  clear r_a0_40
  clear fa0_39
  have r_a0_41 : (execOp a0_40.eval { dst := some 65, op := Op.binOp BinOp.add 22 (Operand.tmp 60) (Operand.tmp 64) 22, type := 22, pos := "ref.go:124", after := #[{ on := 0, ground := Ground.data }, { on := 4, ground := Ground.data }], guard := none }).run Try.prog (V) = .ok (.value (.int .u64 (n2 : Int))) (V) := by
    have e60 := (show a0_40.eval (.tmp 60) = .int .u64 (n : Int) from (fa0_40.at_ 60))
    have e64 := (show a0_40.eval (.tmp 64) = .int .u64 (z : Int) from (fa0_40.at_ 64))
    clear fa0_40 hQ h6 h7 h8 hr hsz hb1 hr2 d2 dd hv fv fV
    generalize a0_40.eval = ρ at *
    go_simp
  refine fa0_40.step 65 (.int .u64 (n2 : Int)) rfl (lb_ I0.size) (wanted_none rfl) r_a0_41 (fun a0_41 fa0_41 => ?_)
  clear r_a0_41
  clear fa0_40
  refine fa0_41.move 6 (.int .u64 (n2 : Int)) _ (Or.inr rfl) rfl (lb_ I0.size) (wanted_none rfl) (fa0_41.at_ 65) (fun a0_42 fa0_42 => ?_)
  clear fa0_41
  refine wpList_nil ?_
  change Code.wp _ _ _ _ _
  refine wp_seq ?_
  refine wp_region_list ?_
  unfold rHC17
  refine fa0_42.move 66 (.int .u64 (u : Int)) _ (Or.inl rfl) rfl (lb_ I0.size) (wanted_none rfl) ((fa0_42.at_ 7).trans h7) (fun a0_43 fa0_43 => ?_)
  clear fa0_42
  have r_a0_44 : (execOp a0_43.eval { dst := some 67, op := Op.binOp BinOp.mul 22 (Operand.tmp 66) (Operand.const (Value.int IntKind.u64 128)) 22, type := 22, pos := "ref.go:125", after := #[{ on := 0, ground := Ground.data }], guard := none }).run Try.prog (V) = .ok (.value (.int .u64 (u2 : Int))) (V) := by
    have kc : ∀ v, a0_43.eval (.const v) = v := fun _ => rfl
    have e66 := (show a0_43.eval (.tmp 66) = .int .u64 (u : Int) from (fa0_43.at_ 66))
    clear fa0_43 hQ h6 h7 h8 hr hsz hb1 hr2 d2 dd hv fv fV
    generalize a0_43.eval = ρ at *
    go_simp
  refine fa0_43.step 67 (.int .u64 (u2 : Int)) rfl (lb_ I0.size) (wanted_none rfl) r_a0_44 (fun a0_44 fa0_44 => ?_)
  clear r_a0_44
  clear fa0_43
  refine fa0_44.move 7 (.int .u64 (u2 : Int)) _ (Or.inr rfl) rfl (lb_ I0.size) (wanted_none rfl) (fa0_44.at_ 67) (fun a0_45 fa0_45 => ?_)
  clear fa0_44
  refine wpList_nil ?_
  change Code.wp _ _ _ _ _
  refine wp_seq ?_
  refine wp_region_list ?_
  unfold rHC18
  refine fa0_45.move 68 (.int .u64 (x : Int)) _ (Or.inl rfl) rfl (lb_ I0.size) (wanted_none rfl) (fa0_45.at_ 9) (fun a0_46 fa0_46 => ?_)
  clear fa0_45
  have r_a0_47 : (execOp a0_46.eval { dst := some 69, op := Op.binOp BinOp.lss 22 (Operand.tmp 68) (Operand.const (Value.int IntKind.u64 128)) 22, type := 4, pos := "ref.go:126", after := #[{ on := 0, ground := Ground.data }], guard := none }).run Try.prog (V) = .ok (.value (.bool true)) (V) := by
    have kc : ∀ v, a0_46.eval (.const v) = v := fun _ => rfl
    have e68 := (show a0_46.eval (.tmp 68) = .int .u64 (x : Int) from (fa0_46.at_ 68))
    clear fa0_46 hQ h6 h7 h8 hr hsz hb1 hr2 d2 dd hv fv fV
    generalize a0_46.eval = ρ at *
    go_simp
  refine fa0_46.step 69 (.bool true) rfl (lb_ I0.size) (wanted_none rfl) r_a0_47 (fun a0_47 fa0_47 => ?_)
  clear r_a0_47
  clear fa0_46
  refine wpList_nil ?_
  change Code.wp _ _ _ _ _
  refine wp_cond_true (show a0_47.eval (.tmp 69) = .bool true from (fa0_47.at_ 69)) (wp_seq (wp_seq ?_))
  refine wp_region_list ?_
  unfold rHC19
  refine fa0_47.move 70 (.int .u64 (x : Int)) _ (Or.inl rfl) rfl (lb_ I0.size) (wanted_none rfl) (fa0_47.at_ 9) (fun a0_48 fa0_48 => ?_)
  clear fa0_47
  have r_a0_49 : (execOp a0_48.eval { dst := some 71, op := Op.binOp BinOp.eql 22 (Operand.tmp 70) (Operand.const (Value.int IntKind.u64 0)) 22, type := 4, pos := "ref.go:127", after := #[{ on := 0, ground := Ground.data }], guard := none }).run Try.prog (V) = .ok (.value (.bool true)) (V) := by
    have kc : ∀ v, a0_48.eval (.const v) = v := fun _ => rfl
    have e70 := (show a0_48.eval (.tmp 70) = .int .u64 (x : Int) from (fa0_48.at_ 70))
    clear fa0_48 hQ h6 h7 h8 hr hsz hr2 d2 dd hv fv fV
    generalize a0_48.eval = ρ at *
    go_simp
  refine fa0_48.step 71 (.bool true) rfl (lb_ I0.size) (wanted_none rfl) r_a0_49 (fun a0_49 fa0_49 => ?_)
  clear r_a0_49
  clear fa0_48
  refine fa0_49.move 72 (.bool true) _ (Or.inl rfl) rfl (lb_ I0.size) (wanted_none rfl) (fa0_49.at_ 71) (fun a0_50 fa0_50 => ?_)
  clear fa0_49
  refine fa0_50.move 73 (.int .i64 (i : Int)) _ (Or.inl rfl) rfl (lb_ I0.size) ((wanted_at (t := 72) (c := true) (b := true) rfl rfl rfl (lb_ (fa0_50.size.trans I0.size)) (fa0_50.at_ 72)).trans (by rfl)) ((fa0_50.at_ 8).trans h8) (fun a0_51 fa0_51 => ?_)
  clear fa0_50
  have r_a0_52 : (execOp a0_51.eval { dst := some 74, op := Op.binOp BinOp.gtr 3 (Operand.tmp 73) (Operand.const (Value.int IntKind.i64 0)) 3, type := 4, pos := "ref.go:127", after := #[{ on := 3, ground := Ground.data }, { on := 2, ground := Ground.guard }], guard := some (2, true) }).run Try.prog (V) = .ok (.value (.bool true)) (V) := by
    have kc : ∀ v, a0_51.eval (.const v) = v := fun _ => rfl
    have e73 := (show a0_51.eval (.tmp 73) = .int .i64 (i : Int) from (fa0_51.at_ 73))
    clear fa0_51 hQ h6 h7 h8 hr hsz hr2 d2 dd hv fv fV
    generalize a0_51.eval = ρ at *
    go_simp
  refine fa0_51.step 74 (.bool true) rfl (lb_ I0.size) ((wanted_at (t := 72) (c := true) (b := true) rfl rfl rfl (lb_ (fa0_51.size.trans I0.size)) (fa0_51.at_ 72)).trans (by rfl)) r_a0_52 (fun a0_52 fa0_52 => ?_)
  clear r_a0_52
  clear fa0_51
  have r_a0_53 : (execOp a0_52.eval { dst := some 75, op := Op.pick (Operand.tmp 72) (Operand.tmp 74) (Operand.const (Value.bool false)), type := 4, pos := "ref.go:127", after := #[{ on := 2, ground := Ground.data }, { on := 4, ground := Ground.data }], guard := none }).run Try.prog (V) = .ok (.value (.bool true)) (V) := by
    have kc : ∀ v, a0_52.eval (.const v) = v := fun _ => rfl
    have e72 := (show a0_52.eval (.tmp 72) = .bool true from (fa0_52.at_ 72))
    have e74 := (show a0_52.eval (.tmp 74) = .bool true from (fa0_52.at_ 74))
    clear fa0_52 hQ h6 h7 h8 hr hsz hr2 d2 dd hv fv fV
    generalize a0_52.eval = ρ at *
    go_simp
  refine fa0_52.step 75 (.bool true) rfl (lb_ I0.size) (wanted_none rfl) r_a0_53 (fun a0_53 fa0_53 => ?_)
  clear r_a0_53
  clear fa0_52
  refine wpList_nil ?_
  change Code.wp _ _ _ _ _
  refine wp_cond_true (show a0_53.eval (.tmp 75) = .bool true from (fa0_53.at_ 75)) (wp_seq ?_)
  refine wp_region_list ?_
  unfold rHC20
  refine fa0_53.move 76 (.pointer (some ⟨b, 0, none⟩)) _ (Or.inl rfl) rfl (lb_ I0.size) (wanted_none rfl) ((fa0_53.at_ 0).trans I0.s0) (fun a0_54 fa0_54 => ?_)
  clear fa0_53
  refine fa0_54.move 77 (.int .i64 (p : Int)) _ (Or.inl rfl) rfl (lb_ I0.size) (wanted_none rfl) ((fa0_54.at_ 5).trans I0.s5) (fun a0_55 fa0_55 => ?_)
  clear fa0_54
  have r_a0_56 : (execOp a0_55.eval { dst := some 78, op := Op.call { callee := Callee.value (Operand.func 65), args := #[Operand.tmp 76, Operand.const (Value.int IntKind.i64 11), Operand.tmp 77], argTypes := #[34, 35, 3] }, type := 0, pos := "ref.go:128", after := #[{ on := 0, ground := Ground.data }, { on := 1, ground := Ground.data }], guard := none }).run Try.prog (V) = .ok (.enter 65 #[.pointer (some ⟨b, 0, none⟩), Value.int IntKind.i64 11, .int .i64 (p : Int)]) (V) := by
    have kc : ∀ v, a0_55.eval (.const v) = v := fun _ => rfl
    have kf : ∀ f, a0_55.eval (.func f) = .func (.func f) #[] #[] := fun _ => rfl
    have e76 := (show a0_55.eval (.tmp 76) = .pointer (some ⟨b, 0, none⟩) from (fa0_55.at_ 76))
    have e77 := (show a0_55.eval (.tmp 77) = .int .i64 (p : Int) from (fa0_55.at_ 77))
    clear fa0_55 hQ h6 h7 h8 hr hsz hr2 d2 dd hv fv fV
    generalize a0_55.eval = ρ at *
    go_simp
  refine fa0_55.call 78 rfl (lb_ I0.size) (wanted_none rfl) r_a0_56 (rrfail_calls (d := 11) (q := p) V hv) (fun e VF hR => ?_)
  obtain ⟨rfl, hf, ff⟩ := hR
  clear r_a0_56
  refine ⟨_, rfl, fun a0_56 fa0_56 => ?_⟩
  clear fa0_55
  refine wpList_nil ?_
  change Code.wp _ _ _ _ _
  refine wp_seq ?_
  refine wp_region_list ?_
  unfold rHC21
  refine fa0_56.move 4 (.int .u64 0) _ (Or.inr rfl) rfl (lb_ I0.size) (wanted_none rfl) rfl (fun a0_57 fa0_57 => ?_)
  clear fa0_56
  refine wpList_nil ?_
  change Code.wp _ _ _ _ _
  refine wp_ret ?_
  exact hQ a0_57 VF (fa0_57.defers.trans I0.defers) (show a0_57.eval (.tmp 4) = .int .u64 0 from (fa0_57.at_ 4)) hf (Fr.trans fV ff (fun _ _ e => e))
set_option maxRecDepth 100000 in
set_option maxHeartbeats 1000000 in
theorem hcM10 {b p q i n u most : Nat} {s : ByteArray} {Q : Exit → Act → World → Prop} (hQp : ∀ c (a : Act) d v w, Q (.panic c) (a.put d v) w → Q (.panic c) a w) (a0 : Act) (wr : World) (I0 : IHC (.pointer (some ⟨b, 0, none⟩)) (.int .u64 (most : Int)) (.int .i64 (p : Int)) a0) (h6 : a0.eval (.tmp 6) = .int .u64 (n : Int)) (h7 : a0.eval (.tmp 7) = .int .u64 (u : Int)) (h8 : a0.eval (.tmp 8) = .int .i64 (i : Int)) (hr : RRAt wr b s q 0) (hsz : s.size ≤ 1000000000000) {x : Nat} (hq : q < s.size) (hx : (s[q]).toNat = x) {y z n2 u2 : Nat} (hy : x % 128 = y) (hz : y * u = z) (hn2 : n + z = n2) (hn3 : n2 < 18446744073709551616) (hu2 : u * 128 % 18446744073709551616 = u2) (hi : i = 9) (hb : x = 1) (hmo : most < n2) (hQ : ∀ (a : Act) W, a.defers = [] → a.eval (.tmp 4) = .int .u64 0 → RRAt W b s p 12 → Fr (fun k => k = b) wr W → Q .ret a W) : cHC1.wp Try.prog Q a0 wr := by
  have hne : ¬ (q : Int) = (s.size : Int) := by omega
  have hqi : (q : Int) < (s.size : Int) := by omega
  have xl : x < 256 := by rw [← hx]; exact (s[q]).toNat_lt
  have wx : IntKind.u64.wrap (x : Int) = (x : Int) := by rw [IntKind.wrap_u64]; omega
  have w1 : IntKind.i64.wrap ((q : Int) + 1) = ((q + 1 : Nat) : Int) := by rw [IntKind.wrap_i64]; omega
  have hyt : (x : Int).tmod 128 = (y : Int) := by rw [← hy]; rfl
  have hye : (x : Int) % 128 = (y : Int) := by omega
  have wz : IntKind.u64.wrap ((y : Int) * (u : Int)) = (z : Int) := by rw [← Int.natCast_mul, hz, IntKind.wrap_u64]; omega
  have wn : IntKind.u64.wrap ((n : Int) + (z : Int)) = (n2 : Int) := by rw [IntKind.wrap_u64]; omega
  have wu : IntKind.u64.wrap ((u : Int) * 128) = (u2 : Int) := by rw [IntKind.wrap_u64]; omega
  clear hy hz hn2 hu2
  have hi9 : (i : Int) = 9 := by omega
  have hb3 : ¬ (1 : Int) < (x : Int) := by omega
  have hb1 : ¬ (x : Int) = 0 := by omega
  have hb1n : ¬ x = 0 := by omega
  have hb2 : (x : Int) < 128 := by omega
  have hm2 : (most : Int) < (n2 : Int) := by omega
  clear hb hn3 hmo hi
  have fa0_0 := Fe.refl a0
  have k0 := hr.c0
  have k1 := hr.c1
  have dd : Same wr wr.drew := (Fr.refl (fun _ => False) wr).drew
  unfold cHC1
  refine wp_seq (wp_block (wp_seq (wp_seq ?_)))
  refine wp_region_held_drew (ops := rHC8) (S := fun Z => Same wr Z) (by kernel_rfl) (dd) (fun hS0 => ?_)
  refine fa0_0.takeMove 0 21 (.pointer (some ⟨b, 0, none⟩)) _ (Or.inl rfl) rfl (by kernel_rfl) (by kernel_rfl) (by kernel_rfl) (fun _ _ _ h => hQp _ _ _ _ _ h) rfl (lb_ I0.size) (wanted_none rfl) ((fa0_0.at_ 0).trans I0.s0) hS0 (fun a0_1 fa0_1 => ?_)
  clear fa0_0
  have r_a0_2 : ∀ Z, (fun Z => Same wr Z) Z → (execOp a0_1.eval { dst := some 22, op := Op.nilCheck (Operand.tmp 21), type := 0, pos := "ref.go:114", after := #[{ on := 0, ground := Ground.data }], guard := none }).run Try.prog Z = .ok (.value (.pointer (some ⟨b, 0, none⟩))) Z := fun Z hZ => by
    have e21 := (show a0_1.eval (.tmp 21) = .pointer (some ⟨b, 0, none⟩) from (fa0_1.at_ 21))
    clear fa0_1 hQ h6 h7 h8 hr hsz
    generalize a0_1.eval = ρ at *
    go_simp
  refine fa0_1.take 1 22 (.pointer (some ⟨b, 0, none⟩)) rfl (by kernel_rfl) (by kernel_rfl) (by kernel_rfl) (fun _ _ _ h => hQp _ _ _ _ _ h) rfl (lb_ I0.size) (wanted_none rfl) r_a0_2 hS0 (fun a0_2 fa0_2 => ?_)
  clear r_a0_2
  clear fa0_1
  have r_a0_3 : ∀ Z, (fun Z => Same wr Z) Z → (execOp a0_2.eval { dst := some 23, op := Op.fieldAddr 37 (Operand.tmp 22) 1, type := 0, pos := "ref.go:114", after := #[{ on := 1, ground := Ground.data }], guard := none }).run Try.prog Z = .ok (.value (.pointer (some ⟨b, 1, none⟩))) Z := fun Z hZ => by
    have e22 := (show a0_2.eval (.tmp 22) = .pointer (some ⟨b, 0, none⟩) from (fa0_2.at_ 22))
    clear fa0_2 hQ h6 h7 h8 hr hsz
    generalize a0_2.eval = ρ at *
    go_simp
  refine fa0_2.take 2 23 (.pointer (some ⟨b, 1, none⟩)) rfl (by kernel_rfl) (by kernel_rfl) (by kernel_rfl) (fun _ _ _ h => hQp _ _ _ _ _ h) rfl (lb_ I0.size) (wanted_none rfl) r_a0_3 hS0 (fun a0_3 fa0_3 => ?_)
  clear r_a0_3
  clear fa0_2
  have r_a0_4 : ∀ Z, (fun Z => Same wr Z) Z → (execOp a0_3.eval { dst := some 24, op := Op.load 3 (Operand.tmp 23), type := 3, pos := "ref.go:114", after := #[{ on := 2, ground := Ground.data }], guard := none }).run Try.prog Z = .ok (.value (.int .i64 (q : Int))) Z := fun Z hZ => by
    have q0 := hZ.keep k0
    have q1 := hZ.keep k1
    clear hZ
    have e23 := (show a0_3.eval (.tmp 23) = .pointer (some ⟨b, 1, none⟩) from (fa0_3.at_ 23))
    clear fa0_3 hQ h6 h7 h8 hr hsz
    generalize a0_3.eval = ρ at *
    go_simp
  refine fa0_3.take 3 24 (.int .i64 (q : Int)) rfl (by kernel_rfl) (by kernel_rfl) (by kernel_rfl) (fun _ _ _ h => hQp _ _ _ _ _ h) rfl (lb_ I0.size) (wanted_none rfl) r_a0_4 hS0 (fun a0_4 fa0_4 => ?_)
  clear r_a0_4
  clear fa0_3
  refine fa0_4.takeMove 4 25 (.pointer (some ⟨b, 0, none⟩)) _ (Or.inl rfl) rfl (by kernel_rfl) (by kernel_rfl) (by kernel_rfl) (fun _ _ _ h => hQp _ _ _ _ _ h) rfl (lb_ I0.size) (wanted_none rfl) ((fa0_4.at_ 0).trans I0.s0) hS0 (fun a0_5 fa0_5 => ?_)
  clear fa0_4
  have r_a0_6 : ∀ Z, (fun Z => Same wr Z) Z → (execOp a0_5.eval { dst := some 26, op := Op.nilCheck (Operand.tmp 25), type := 0, pos := "ref.go:114", after := #[{ on := 4, ground := Ground.data }], guard := none }).run Try.prog Z = .ok (.value (.pointer (some ⟨b, 0, none⟩))) Z := fun Z hZ => by
    have e25 := (show a0_5.eval (.tmp 25) = .pointer (some ⟨b, 0, none⟩) from (fa0_5.at_ 25))
    clear fa0_5 hQ h6 h7 h8 hr hsz
    generalize a0_5.eval = ρ at *
    go_simp
  refine fa0_5.take 5 26 (.pointer (some ⟨b, 0, none⟩)) rfl (by kernel_rfl) (by kernel_rfl) (by kernel_rfl) (fun _ _ _ h => hQp _ _ _ _ _ h) rfl (lb_ I0.size) (wanted_none rfl) r_a0_6 hS0 (fun a0_6 fa0_6 => ?_)
  clear r_a0_6
  clear fa0_5
  have r_a0_7 : ∀ Z, (fun Z => Same wr Z) Z → (execOp a0_6.eval { dst := some 27, op := Op.fieldAddr 37 (Operand.tmp 26) 0, type := 0, pos := "ref.go:114", after := #[{ on := 5, ground := Ground.data }], guard := none }).run Try.prog Z = .ok (.value (.pointer (some ⟨b, 0, none⟩))) Z := fun Z hZ => by
    have e26 := (show a0_6.eval (.tmp 26) = .pointer (some ⟨b, 0, none⟩) from (fa0_6.at_ 26))
    clear fa0_6 hQ h6 h7 h8 hr hsz
    generalize a0_6.eval = ρ at *
    go_simp
  refine fa0_6.take 6 27 (.pointer (some ⟨b, 0, none⟩)) rfl (by kernel_rfl) (by kernel_rfl) (by kernel_rfl) (fun _ _ _ h => hQp _ _ _ _ _ h) rfl (lb_ I0.size) (wanted_none rfl) r_a0_7 hS0 (fun a0_7 fa0_7 => ?_)
  clear r_a0_7
  clear fa0_6
  have r_a0_8 : ∀ Z, (fun Z => Same wr Z) Z → (execOp a0_7.eval { dst := some 28, op := Op.load 9 (Operand.tmp 27), type := 9, pos := "ref.go:114", after := #[{ on := 6, ground := Ground.data }], guard := none }).run Try.prog Z = .ok (.value (.string s)) Z := fun Z hZ => by
    have q0 := hZ.keep k0
    have q1 := hZ.keep k1
    clear hZ
    have e27 := (show a0_7.eval (.tmp 27) = .pointer (some ⟨b, 0, none⟩) from (fa0_7.at_ 27))
    clear fa0_7 hQ h6 h7 h8 hr hsz
    generalize a0_7.eval = ρ at *
    go_simp
  refine fa0_7.take 7 28 (.string s) rfl (by kernel_rfl) (by kernel_rfl) (by kernel_rfl) (fun _ _ _ h => hQp _ _ _ _ _ h) rfl (lb_ I0.size) (wanted_none rfl) r_a0_8 hS0 (fun a0_8 fa0_8 => ?_)
  clear r_a0_8
  clear fa0_7
  have r_a0_9 : ∀ Z, (fun Z => Same wr Z) Z → (execOp a0_8.eval { dst := some 29, op := Op.call { callee := Callee.builtin Builtin.len, args := #[Operand.tmp 28], argTypes := #[9] }, type := 3, pos := "ref.go:114", after := #[{ on := 7, ground := Ground.data }], guard := none }).run Try.prog Z = .ok (.value (.int .i64 (s.size : Int))) Z := fun Z hZ => by
    have e28 := (show a0_8.eval (.tmp 28) = .string s from (fa0_8.at_ 28))
    clear fa0_8 hQ h6 h7 h8 hr hsz
    generalize a0_8.eval = ρ at *
    go_simp
  refine fa0_8.take 8 29 (.int .i64 (s.size : Int)) rfl (by kernel_rfl) (by kernel_rfl) (by kernel_rfl) (fun _ _ _ h => hQp _ _ _ _ _ h) rfl (lb_ I0.size) (wanted_none rfl) r_a0_9 hS0 (fun a0_9 fa0_9 => ?_)
  clear r_a0_9
  clear fa0_8
  have r_a0_10 : ∀ Z, (fun Z => Same wr Z) Z → (execOp a0_9.eval { dst := some 30, op := Op.binOp BinOp.eql 3 (Operand.tmp 24) (Operand.tmp 29) 3, type := 4, pos := "ref.go:114", after := #[{ on := 3, ground := Ground.data }, { on := 8, ground := Ground.data }], guard := none }).run Try.prog Z = .ok (.value (.bool false)) Z := fun Z hZ => by
    have e24 := (show a0_9.eval (.tmp 24) = .int .i64 (q : Int) from (fa0_9.at_ 24))
    have e29 := (show a0_9.eval (.tmp 29) = .int .i64 (s.size : Int) from (fa0_9.at_ 29))
    clear fa0_9 hQ h6 h7 h8 hr hsz
    generalize a0_9.eval = ρ at *
    go_simp
  refine fa0_9.take 9 30 (.bool false) rfl (by kernel_rfl) (by kernel_rfl) (by kernel_rfl) (fun _ _ _ h => hQp _ _ _ _ _ h) rfl (lb_ I0.size) (wanted_none rfl) r_a0_10 hS0 (fun a0_10 fa0_10 => ?_)
  clear r_a0_10
  clear fa0_9
  refine wpAnyH_done (by kernel_rfl) ?_ _
  change Code.wp _ _ _ _ _
  refine wp_cond_false (show a0_10.eval (.tmp 30) = .bool false from (fa0_10.at_ 30)) (wp_skip ?_)
  change Code.wp _ _ _ _ _
  refine wp_seq ?_
  have d2 : Same wr wr.drew.drew := dd.trans (Fr.refl (fun _ => False) wr.drew).drew
  refine wp_region_held_drew (ops := rHC11) (S := fun Z => Same wr Z) (by kernel_rfl) (d2) (fun hS10 => ?_)
  refine fa0_10.takeMove 0 34 (.pointer (some ⟨b, 0, none⟩)) _ (Or.inl rfl) rfl (by kernel_rfl) (by kernel_rfl) (by kernel_rfl) (fun _ _ _ h => hQp _ _ _ _ _ h) rfl (lb_ I0.size) (wanted_none rfl) ((fa0_10.at_ 0).trans I0.s0) hS10 (fun a0_11 fa0_11 => ?_)
  clear fa0_10
  have r_a0_12 : ∀ Z, (fun Z => Same wr Z) Z → (execOp a0_11.eval { dst := some 35, op := Op.nilCheck (Operand.tmp 34), type := 0, pos := "ref.go:118", after := #[{ on := 0, ground := Ground.data }], guard := none }).run Try.prog Z = .ok (.value (.pointer (some ⟨b, 0, none⟩))) Z := fun Z hZ => by
    have e34 := (show a0_11.eval (.tmp 34) = .pointer (some ⟨b, 0, none⟩) from (fa0_11.at_ 34))
    clear fa0_11 hQ h6 h7 h8 hr hsz
    generalize a0_11.eval = ρ at *
    go_simp
  refine fa0_11.take 1 35 (.pointer (some ⟨b, 0, none⟩)) rfl (by kernel_rfl) (by kernel_rfl) (by kernel_rfl) (fun _ _ _ h => hQp _ _ _ _ _ h) rfl (lb_ I0.size) (wanted_none rfl) r_a0_12 hS10 (fun a0_12 fa0_12 => ?_)
  clear r_a0_12
  clear fa0_11
  have r_a0_13 : ∀ Z, (fun Z => Same wr Z) Z → (execOp a0_12.eval { dst := some 36, op := Op.fieldAddr 37 (Operand.tmp 35) 0, type := 0, pos := "ref.go:118", after := #[{ on := 1, ground := Ground.data }], guard := none }).run Try.prog Z = .ok (.value (.pointer (some ⟨b, 0, none⟩))) Z := fun Z hZ => by
    have e35 := (show a0_12.eval (.tmp 35) = .pointer (some ⟨b, 0, none⟩) from (fa0_12.at_ 35))
    clear fa0_12 hQ h6 h7 h8 hr hsz
    generalize a0_12.eval = ρ at *
    go_simp
  refine fa0_12.take 2 36 (.pointer (some ⟨b, 0, none⟩)) rfl (by kernel_rfl) (by kernel_rfl) (by kernel_rfl) (fun _ _ _ h => hQp _ _ _ _ _ h) rfl (lb_ I0.size) (wanted_none rfl) r_a0_13 hS10 (fun a0_13 fa0_13 => ?_)
  clear r_a0_13
  clear fa0_12
  have r_a0_14 : ∀ Z, (fun Z => Same wr Z) Z → (execOp a0_13.eval { dst := some 37, op := Op.load 9 (Operand.tmp 36), type := 9, pos := "ref.go:118", after := #[{ on := 2, ground := Ground.data }], guard := none }).run Try.prog Z = .ok (.value (.string s)) Z := fun Z hZ => by
    have q0 := hZ.keep k0
    have q1 := hZ.keep k1
    clear hZ
    have e36 := (show a0_13.eval (.tmp 36) = .pointer (some ⟨b, 0, none⟩) from (fa0_13.at_ 36))
    clear fa0_13 hQ h6 h7 h8 hr hsz
    generalize a0_13.eval = ρ at *
    go_simp
  refine fa0_13.take 3 37 (.string s) rfl (by kernel_rfl) (by kernel_rfl) (by kernel_rfl) (fun _ _ _ h => hQp _ _ _ _ _ h) rfl (lb_ I0.size) (wanted_none rfl) r_a0_14 hS10 (fun a0_14 fa0_14 => ?_)
  clear r_a0_14
  clear fa0_13
  refine fa0_14.takeMove 4 38 (.pointer (some ⟨b, 0, none⟩)) _ (Or.inl rfl) rfl (by kernel_rfl) (by kernel_rfl) (by kernel_rfl) (fun _ _ _ h => hQp _ _ _ _ _ h) rfl (lb_ I0.size) (wanted_none rfl) ((fa0_14.at_ 0).trans I0.s0) hS10 (fun a0_15 fa0_15 => ?_)
  clear fa0_14
  have r_a0_16 : ∀ Z, (fun Z => Same wr Z) Z → (execOp a0_15.eval { dst := some 39, op := Op.nilCheck (Operand.tmp 38), type := 0, pos := "ref.go:118", after := #[{ on := 4, ground := Ground.data }], guard := none }).run Try.prog Z = .ok (.value (.pointer (some ⟨b, 0, none⟩))) Z := fun Z hZ => by
    have e38 := (show a0_15.eval (.tmp 38) = .pointer (some ⟨b, 0, none⟩) from (fa0_15.at_ 38))
    clear fa0_15 hQ h6 h7 h8 hr hsz
    generalize a0_15.eval = ρ at *
    go_simp
  refine fa0_15.take 5 39 (.pointer (some ⟨b, 0, none⟩)) rfl (by kernel_rfl) (by kernel_rfl) (by kernel_rfl) (fun _ _ _ h => hQp _ _ _ _ _ h) rfl (lb_ I0.size) (wanted_none rfl) r_a0_16 hS10 (fun a0_16 fa0_16 => ?_)
  clear r_a0_16
  clear fa0_15
  have r_a0_17 : ∀ Z, (fun Z => Same wr Z) Z → (execOp a0_16.eval { dst := some 40, op := Op.fieldAddr 37 (Operand.tmp 39) 1, type := 0, pos := "ref.go:118", after := #[{ on := 5, ground := Ground.data }], guard := none }).run Try.prog Z = .ok (.value (.pointer (some ⟨b, 1, none⟩))) Z := fun Z hZ => by
    have e39 := (show a0_16.eval (.tmp 39) = .pointer (some ⟨b, 0, none⟩) from (fa0_16.at_ 39))
    clear fa0_16 hQ h6 h7 h8 hr hsz
    generalize a0_16.eval = ρ at *
    go_simp
  refine fa0_16.take 6 40 (.pointer (some ⟨b, 1, none⟩)) rfl (by kernel_rfl) (by kernel_rfl) (by kernel_rfl) (fun _ _ _ h => hQp _ _ _ _ _ h) rfl (lb_ I0.size) (wanted_none rfl) r_a0_17 hS10 (fun a0_17 fa0_17 => ?_)
  clear r_a0_17
  clear fa0_16
  have r_a0_18 : ∀ Z, (fun Z => Same wr Z) Z → (execOp a0_17.eval { dst := some 41, op := Op.load 3 (Operand.tmp 40), type := 3, pos := "ref.go:118", after := #[{ on := 6, ground := Ground.data }], guard := none }).run Try.prog Z = .ok (.value (.int .i64 (q : Int))) Z := fun Z hZ => by
    have q0 := hZ.keep k0
    have q1 := hZ.keep k1
    clear hZ
    have e40 := (show a0_17.eval (.tmp 40) = .pointer (some ⟨b, 1, none⟩) from (fa0_17.at_ 40))
    clear fa0_17 hQ h6 h7 h8 hr hsz
    generalize a0_17.eval = ρ at *
    go_simp
  refine fa0_17.take 7 41 (.int .i64 (q : Int)) rfl (by kernel_rfl) (by kernel_rfl) (by kernel_rfl) (fun _ _ _ h => hQp _ _ _ _ _ h) rfl (lb_ I0.size) (wanted_none rfl) r_a0_18 hS10 (fun a0_18 fa0_18 => ?_)
  clear r_a0_18
  clear fa0_17
  have r_a0_19 : ∀ Z, (fun Z => Same wr Z) Z → (execOp a0_18.eval { dst := some 42, op := Op.index 9 (Operand.tmp 37) (Operand.tmp 41), type := 5, pos := "ref.go:118", after := #[{ on := 3, ground := Ground.data }, { on := 7, ground := Ground.data }], guard := none }).run Try.prog Z = .ok (.value (.int .u8 (x : Int))) Z := fun Z hZ => by
    have e37 := (show a0_18.eval (.tmp 37) = .string s from (fa0_18.at_ 37))
    have e41 := (show a0_18.eval (.tmp 41) = .int .i64 (q : Int) from (fa0_18.at_ 41))
    clear fa0_18 hQ h6 h7 h8 hr hsz
    generalize a0_18.eval = ρ at *
    go_simp
  refine fa0_18.take 8 42 (.int .u8 (x : Int)) rfl (by kernel_rfl) (by kernel_rfl) (by kernel_rfl) (fun _ _ _ h => hQp _ _ _ _ _ h) rfl (lb_ I0.size) (wanted_none rfl) r_a0_19 hS10 (fun a0_19 fa0_19 => ?_)
  clear r_a0_19
  clear fa0_18
  have r_a0_20 : ∀ Z, (fun Z => Same wr Z) Z → (execOp a0_19.eval { dst := some 43, op := Op.convert 5 22 (Operand.tmp 42), type := 22, pos := "ref.go:118", after := #[{ on := 8, ground := Ground.data }], guard := none }).run Try.prog Z = .ok (.value (.int .u64 (x : Int))) Z := fun Z hZ => by
    have e42 := (show a0_19.eval (.tmp 42) = .int .u8 (x : Int) from (fa0_19.at_ 42))
    clear fa0_19 hQ h6 h7 h8 hr hsz
    generalize a0_19.eval = ρ at *
    go_simp
  refine fa0_19.take 9 43 (.int .u64 (x : Int)) rfl (by kernel_rfl) (by kernel_rfl) (by kernel_rfl) (fun _ _ _ h => hQp _ _ _ _ _ h) rfl (lb_ I0.size) (wanted_none rfl) r_a0_20 hS10 (fun a0_20 fa0_20 => ?_)
  clear r_a0_20
  clear fa0_19
  refine fa0_20.takeMove 10 9 (.int .u64 (x : Int)) _ (Or.inr rfl) rfl (by kernel_rfl) (by kernel_rfl) (by kernel_rfl) (fun _ _ _ h => hQp _ _ _ _ _ h) rfl (lb_ I0.size) (wanted_none rfl) (fa0_20.at_ 43) hS10 (fun a0_21 fa0_21 => ?_)
  clear fa0_20
  refine wpAnyH_done (by kernel_rfl) ?_ _
  change Code.wp _ _ _ _ _
  refine wp_seq (wp_seq ?_)
  refine wp_region_list ?_
  unfold rHC12
  refine fa0_21.move 44 (.int .i64 (i : Int)) _ (Or.inl rfl) rfl (lb_ I0.size) (wanted_none rfl) ((fa0_21.at_ 8).trans h8) (fun a0_22 fa0_22 => ?_)
  clear fa0_21
  have r_a0_23 : (execOp a0_22.eval { dst := some 45, op := Op.binOp BinOp.eql 3 (Operand.tmp 44) (Operand.const (Value.int IntKind.i64 9)) 3, type := 4, pos := "ref.go:119", after := #[{ on := 0, ground := Ground.data }], guard := none }).run Try.prog (wr.drew.drew) = .ok (.value (.bool true)) (wr.drew.drew) := by
    have kc : ∀ v, a0_22.eval (.const v) = v := fun _ => rfl
    have e44 := (show a0_22.eval (.tmp 44) = .int .i64 (i : Int) from (fa0_22.at_ 44))
    clear fa0_22 hQ h6 h7 h8 hr hsz
    generalize a0_22.eval = ρ at *
    go_simp
  refine fa0_22.step 45 (.bool true) rfl (lb_ I0.size) (wanted_none rfl) r_a0_23 (fun a0_23 fa0_23 => ?_)
  clear r_a0_23
  clear fa0_22
  refine fa0_23.move 46 (.bool true) _ (Or.inl rfl) rfl (lb_ I0.size) (wanted_none rfl) (fa0_23.at_ 45) (fun a0_24 fa0_24 => ?_)
  clear fa0_23
  refine fa0_24.move 47 (.int .u64 (x : Int)) _ (Or.inl rfl) rfl (lb_ I0.size) ((wanted_at (t := 46) (c := true) (b := true) rfl rfl rfl (lb_ (fa0_24.size.trans I0.size)) (fa0_24.at_ 46)).trans (by rfl)) (fa0_24.at_ 9) (fun a0_25 fa0_25 => ?_)
  clear fa0_24
  have r_a0_26 : (execOp a0_25.eval { dst := some 48, op := Op.binOp BinOp.gtr 22 (Operand.tmp 47) (Operand.const (Value.int IntKind.u64 1)) 22, type := 4, pos := "ref.go:119", after := #[{ on := 3, ground := Ground.data }, { on := 2, ground := Ground.guard }], guard := some (2, true) }).run Try.prog (wr.drew.drew) = .ok (.value (.bool false)) (wr.drew.drew) := by
    have kc : ∀ v, a0_25.eval (.const v) = v := fun _ => rfl
    have e47 := (show a0_25.eval (.tmp 47) = .int .u64 (x : Int) from (fa0_25.at_ 47))
    clear fa0_25 hQ h6 h7 h8 hr hsz
    generalize a0_25.eval = ρ at *
    go_simp
  refine fa0_25.step 48 (.bool false) rfl (lb_ I0.size) ((wanted_at (t := 46) (c := true) (b := true) rfl rfl rfl (lb_ (fa0_25.size.trans I0.size)) (fa0_25.at_ 46)).trans (by rfl)) r_a0_26 (fun a0_26 fa0_26 => ?_)
  clear r_a0_26
  clear fa0_25
  have r_a0_27 : (execOp a0_26.eval { dst := some 49, op := Op.pick (Operand.tmp 46) (Operand.tmp 48) (Operand.const (Value.bool false)), type := 4, pos := "ref.go:119", after := #[{ on := 2, ground := Ground.data }, { on := 4, ground := Ground.data }], guard := none }).run Try.prog (wr.drew.drew) = .ok (.value (.bool false)) (wr.drew.drew) := by
    have kc : ∀ v, a0_26.eval (.const v) = v := fun _ => rfl
    have e46 := (show a0_26.eval (.tmp 46) = .bool true from (fa0_26.at_ 46))
    have e48 := (show a0_26.eval (.tmp 48) = .bool false from (fa0_26.at_ 48))
    clear fa0_26 hQ h6 h7 h8 hr hsz
    generalize a0_26.eval = ρ at *
    go_simp
  refine fa0_26.step 49 (.bool false) rfl (lb_ I0.size) (wanted_none rfl) r_a0_27 (fun a0_27 fa0_27 => ?_)
  clear r_a0_27
  clear fa0_26
  refine wpList_nil ?_
  change Code.wp _ _ _ _ _
  refine wp_cond_false (show a0_27.eval (.tmp 49) = .bool false from (fa0_27.at_ 49)) (wp_skip ?_)
  change Code.wp _ _ _ _ _
  refine wp_seq ?_
  have hr2 := hr.fr d2 (fun f => f)
  have k1 := hr2.c1
  have z1 := hr2.z 1
  refine wp_region_list ?_
  unfold rHC15
  refine fa0_27.move 53 (.pointer (some ⟨b, 0, none⟩)) _ (Or.inl rfl) rfl (lb_ I0.size) (wanted_none rfl) ((fa0_27.at_ 0).trans I0.s0) (fun a0_28 fa0_28 => ?_)
  clear fa0_27
  have r_a0_29 : (execOp a0_28.eval { dst := some 54, op := Op.nilCheck (Operand.tmp 53), type := 0, pos := "ref.go:123", after := #[{ on := 0, ground := Ground.data }], guard := none }).run Try.prog (wr.drew.drew) = .ok (.value (.pointer (some ⟨b, 0, none⟩))) (wr.drew.drew) := by
    have e53 := (show a0_28.eval (.tmp 53) = .pointer (some ⟨b, 0, none⟩) from (fa0_28.at_ 53))
    clear fa0_28 hQ h6 h7 h8 hr hsz hr2 d2 dd
    generalize a0_28.eval = ρ at *
    go_simp
  refine fa0_28.step 54 (.pointer (some ⟨b, 0, none⟩)) rfl (lb_ I0.size) (wanted_none rfl) r_a0_29 (fun a0_29 fa0_29 => ?_)
  clear r_a0_29
  clear fa0_28
  have r_a0_30 : (execOp a0_29.eval { dst := some 55, op := Op.fieldAddr 37 (Operand.tmp 54) 1, type := 0, pos := "ref.go:123", after := #[{ on := 1, ground := Ground.data }], guard := none }).run Try.prog (wr.drew.drew) = .ok (.value (.pointer (some ⟨b, 1, none⟩))) (wr.drew.drew) := by
    have e54 := (show a0_29.eval (.tmp 54) = .pointer (some ⟨b, 0, none⟩) from (fa0_29.at_ 54))
    clear fa0_29 hQ h6 h7 h8 hr hsz hr2 d2 dd
    generalize a0_29.eval = ρ at *
    go_simp
  refine fa0_29.step 55 (.pointer (some ⟨b, 1, none⟩)) rfl (lb_ I0.size) (wanted_none rfl) r_a0_30 (fun a0_30 fa0_30 => ?_)
  clear r_a0_30
  clear fa0_29
  have r_a0_31 : (execOp a0_30.eval { dst := some 56, op := Op.load 3 (Operand.tmp 55), type := 3, pos := "ref.go:123", after := #[{ on := 2, ground := Ground.data }], guard := none }).run Try.prog (wr.drew.drew) = .ok (.value (.int .i64 (q : Int))) (wr.drew.drew) := by
    have e55 := (show a0_30.eval (.tmp 55) = .pointer (some ⟨b, 1, none⟩) from (fa0_30.at_ 55))
    clear fa0_30 hQ h6 h7 h8 hr hsz hr2 d2 dd
    generalize a0_30.eval = ρ at *
    go_simp
  refine fa0_30.step 56 (.int .i64 (q : Int)) rfl (lb_ I0.size) (wanted_none rfl) r_a0_31 (fun a0_31 fa0_31 => ?_)
  clear r_a0_31
  clear fa0_30
  have r_a0_32 : (execOp a0_31.eval { dst := some 57, op := Op.binOp BinOp.add 3 (Operand.tmp 56) (Operand.const (Value.int IntKind.i64 1)) 3, type := 3, pos := "ref.go:123", after := #[{ on := 3, ground := Ground.data }], guard := none }).run Try.prog (wr.drew.drew) = .ok (.value (.int .i64 ((q + 1 : Nat) : Int))) (wr.drew.drew) := by
    have kc : ∀ v, a0_31.eval (.const v) = v := fun _ => rfl
    have e56 := (show a0_31.eval (.tmp 56) = .int .i64 (q : Int) from (fa0_31.at_ 56))
    clear fa0_31 hQ h6 h7 h8 hr hsz hr2 d2 dd
    generalize a0_31.eval = ρ at *
    go_simp
  refine fa0_31.step 57 (.int .i64 ((q + 1 : Nat) : Int)) rfl (lb_ I0.size) (wanted_none rfl) r_a0_32 (fun a0_32 fa0_32 => ?_)
  clear r_a0_32
  clear fa0_31
  have r_a0_33 : (execOp a0_32.eval { dst := some 58, op := Op.nilCheck (Operand.tmp 53), type := 0, pos := "ref.go:123", after := #[{ on := 0, ground := Ground.data }, { on := 0, ground := Ground.phase }, { on := 1, ground := Ground.phase }, { on := 2, ground := Ground.phase }, { on := 3, ground := Ground.phase }, { on := 4, ground := Ground.phase }], guard := none }).run Try.prog (wr.drew.drew) = .ok (.value (.pointer (some ⟨b, 0, none⟩))) (wr.drew.drew) := by
    have e53 := (show a0_32.eval (.tmp 53) = .pointer (some ⟨b, 0, none⟩) from (fa0_32.at_ 53))
    clear fa0_32 hQ h6 h7 h8 hr hsz hr2 d2 dd
    generalize a0_32.eval = ρ at *
    go_simp
  refine fa0_32.step 58 (.pointer (some ⟨b, 0, none⟩)) rfl (lb_ I0.size) (wanted_none rfl) r_a0_33 (fun a0_33 fa0_33 => ?_)
  clear r_a0_33
  clear fa0_32
  have r_a0_34 : (execOp a0_33.eval { dst := some 59, op := Op.fieldAddr 37 (Operand.tmp 58) 1, type := 0, pos := "ref.go:123", after := #[{ on := 5, ground := Ground.data }, { on := 0, ground := Ground.phase }, { on := 1, ground := Ground.phase }, { on := 2, ground := Ground.phase }, { on := 3, ground := Ground.phase }, { on := 4, ground := Ground.phase }], guard := none }).run Try.prog (wr.drew.drew) = .ok (.value (.pointer (some ⟨b, 1, none⟩))) (wr.drew.drew) := by
    have e58 := (show a0_33.eval (.tmp 58) = .pointer (some ⟨b, 0, none⟩) from (fa0_33.at_ 58))
    clear fa0_33 hQ h6 h7 h8 hr hsz hr2 d2 dd
    generalize a0_33.eval = ρ at *
    go_simp
  refine fa0_33.step 59 (.pointer (some ⟨b, 1, none⟩)) rfl (lb_ I0.size) (wanted_none rfl) r_a0_34 (fun a0_34 fa0_34 => ?_)
  clear r_a0_34
  clear fa0_33
  have r_a0_35 : (execOp a0_34.eval { dst := none, op := Op.store 3 (Operand.tmp 59) (Operand.tmp 57), type := 0, pos := "ref.go:123", after := #[{ on := 6, ground := Ground.data }, { on := 4, ground := Ground.data }, { on := 0, ground := Ground.phase }, { on := 1, ground := Ground.phase }, { on := 2, ground := Ground.phase }, { on := 3, ground := Ground.phase }, { on := 4, ground := Ground.phase }], guard := none }).run Try.prog (wr.drew.drew) = .ok .skip (World.setCell wr.drew.drew ⟨b, 1, none⟩ (.int .i64 ((q + 1 : Nat) : Int))) := by
    have e59 := (show a0_34.eval (.tmp 59) = .pointer (some ⟨b, 1, none⟩) from (fa0_34.at_ 59))
    have e57 := (show a0_34.eval (.tmp 57) = .int .i64 ((q + 1 : Nat) : Int) from (fa0_34.at_ 57))
    clear fa0_34 hQ h6 h7 h8 hr hsz hr2 d2 dd
    generalize a0_34.eval = ρ at *
    go_simp
  refine fa0_34.store rfl (wanted_none rfl) r_a0_35 (fun a0_35 fa0_35 => ?_)
  clear r_a0_35
  obtain ⟨hv, fv⟩ := hr2.set1 (q + 1)
  generalize World.setCell wr.drew.drew ⟨b, 1, none⟩ (.int .i64 ((q + 1 : Nat) : Int)) = V at *
  have fV : Fr (fun k => k = b) wr V := Fr.trans (d2.mono (fun _ _ f => f.elim)) fv (fun _ _ e => e)
  clear fa0_34
  refine wpList_nil ?_
  change Code.wp _ _ _ _ _
  refine wp_seq ?_
  refine wp_region_list ?_
  unfold rHC16
  refine fa0_35.move 60 (.int .u64 (n : Int)) _ (Or.inl rfl) rfl (lb_ I0.size) (wanted_none rfl) ((fa0_35.at_ 6).trans h6) (fun a0_36 fa0_36 => ?_)
  clear fa0_35
  refine fa0_36.move 61 (.int .u64 (x : Int)) _ (Or.inl rfl) rfl (lb_ I0.size) (wanted_none rfl) (fa0_36.at_ 9) (fun a0_37 fa0_37 => ?_)
  clear fa0_36
  have r_a0_38 : (execOp a0_37.eval { dst := some 62, op := Op.binOp BinOp.rem 22 (Operand.tmp 61) (Operand.const (Value.int IntKind.u64 128)) 22, type := 22, pos := "ref.go:124", after := #[{ on := 1, ground := Ground.data }], guard := none }).run Try.prog (V) = .ok (.value (.int .u64 (y : Int))) (V) := by
    have kc : ∀ v, a0_37.eval (.const v) = v := fun _ => rfl
    have e61 := (show a0_37.eval (.tmp 61) = .int .u64 (x : Int) from (fa0_37.at_ 61))
    clear fa0_37 hQ h6 h7 h8 hr hsz hr2 d2 dd hv fv fV
    generalize a0_37.eval = ρ at *
    go_simp
  refine fa0_37.step 62 (.int .u64 (y : Int)) rfl (lb_ I0.size) (wanted_none rfl) r_a0_38 (fun a0_38 fa0_38 => ?_)
  clear r_a0_38
  clear fa0_37
  refine fa0_38.move 63 (.int .u64 (u : Int)) _ (Or.inl rfl) rfl (lb_ I0.size) (wanted_none rfl) ((fa0_38.at_ 7).trans h7) (fun a0_39 fa0_39 => ?_)
  clear fa0_38
  have r_a0_40 : (execOp a0_39.eval { dst := some 64, op := Op.binOp BinOp.mul 22 (Operand.tmp 62) (Operand.tmp 63) 22, type := 22, pos := "ref.go:124", after := #[{ on := 2, ground := Ground.data }, { on := 3, ground := Ground.data }], guard := none }).run Try.prog (V) = .ok (.value (.int .u64 (z : Int))) (V) := by
    have e62 := (show a0_39.eval (.tmp 62) = .int .u64 (y : Int) from (fa0_39.at_ 62))
    have e63 := (show a0_39.eval (.tmp 63) = .int .u64 (u : Int) from (fa0_39.at_ 63))
    clear fa0_39 hQ h6 h7 h8 hr hsz hr2 d2 dd hv fv fV
    generalize a0_39.eval = ρ at *
    go_simp
  refine fa0_39.step 64 (.int .u64 (z : Int)) rfl (lb_ I0.size) (wanted_none rfl) r_a0_40 (fun a0_40 fa0_40 => ?_)
  clear r_a0_40
  clear fa0_39
  have r_a0_41 : (execOp a0_40.eval { dst := some 65, op := Op.binOp BinOp.add 22 (Operand.tmp 60) (Operand.tmp 64) 22, type := 22, pos := "ref.go:124", after := #[{ on := 0, ground := Ground.data }, { on := 4, ground := Ground.data }], guard := none }).run Try.prog (V) = .ok (.value (.int .u64 (n2 : Int))) (V) := by
    have e60 := (show a0_40.eval (.tmp 60) = .int .u64 (n : Int) from (fa0_40.at_ 60))
    have e64 := (show a0_40.eval (.tmp 64) = .int .u64 (z : Int) from (fa0_40.at_ 64))
    clear fa0_40 hQ h6 h7 h8 hr hsz hr2 d2 dd hv fv fV
    generalize a0_40.eval = ρ at *
    go_simp
  refine fa0_40.step 65 (.int .u64 (n2 : Int)) rfl (lb_ I0.size) (wanted_none rfl) r_a0_41 (fun a0_41 fa0_41 => ?_)
  clear r_a0_41
  clear fa0_40
  refine fa0_41.move 6 (.int .u64 (n2 : Int)) _ (Or.inr rfl) rfl (lb_ I0.size) (wanted_none rfl) (fa0_41.at_ 65) (fun a0_42 fa0_42 => ?_)
  clear fa0_41
  refine wpList_nil ?_
  change Code.wp _ _ _ _ _
  refine wp_seq ?_
  refine wp_region_list ?_
  unfold rHC17
  refine fa0_42.move 66 (.int .u64 (u : Int)) _ (Or.inl rfl) rfl (lb_ I0.size) (wanted_none rfl) ((fa0_42.at_ 7).trans h7) (fun a0_43 fa0_43 => ?_)
  clear fa0_42
  have r_a0_44 : (execOp a0_43.eval { dst := some 67, op := Op.binOp BinOp.mul 22 (Operand.tmp 66) (Operand.const (Value.int IntKind.u64 128)) 22, type := 22, pos := "ref.go:125", after := #[{ on := 0, ground := Ground.data }], guard := none }).run Try.prog (V) = .ok (.value (.int .u64 (u2 : Int))) (V) := by
    have kc : ∀ v, a0_43.eval (.const v) = v := fun _ => rfl
    have e66 := (show a0_43.eval (.tmp 66) = .int .u64 (u : Int) from (fa0_43.at_ 66))
    clear fa0_43 hQ h6 h7 h8 hr hsz hr2 d2 dd hv fv fV
    generalize a0_43.eval = ρ at *
    go_simp
  refine fa0_43.step 67 (.int .u64 (u2 : Int)) rfl (lb_ I0.size) (wanted_none rfl) r_a0_44 (fun a0_44 fa0_44 => ?_)
  clear r_a0_44
  clear fa0_43
  refine fa0_44.move 7 (.int .u64 (u2 : Int)) _ (Or.inr rfl) rfl (lb_ I0.size) (wanted_none rfl) (fa0_44.at_ 67) (fun a0_45 fa0_45 => ?_)
  clear fa0_44
  refine wpList_nil ?_
  change Code.wp _ _ _ _ _
  refine wp_seq ?_
  refine wp_region_list ?_
  unfold rHC18
  refine fa0_45.move 68 (.int .u64 (x : Int)) _ (Or.inl rfl) rfl (lb_ I0.size) (wanted_none rfl) (fa0_45.at_ 9) (fun a0_46 fa0_46 => ?_)
  clear fa0_45
  have r_a0_47 : (execOp a0_46.eval { dst := some 69, op := Op.binOp BinOp.lss 22 (Operand.tmp 68) (Operand.const (Value.int IntKind.u64 128)) 22, type := 4, pos := "ref.go:126", after := #[{ on := 0, ground := Ground.data }], guard := none }).run Try.prog (V) = .ok (.value (.bool true)) (V) := by
    have kc : ∀ v, a0_46.eval (.const v) = v := fun _ => rfl
    have e68 := (show a0_46.eval (.tmp 68) = .int .u64 (x : Int) from (fa0_46.at_ 68))
    clear fa0_46 hQ h6 h7 h8 hr hsz hr2 d2 dd hv fv fV
    generalize a0_46.eval = ρ at *
    go_simp
  refine fa0_46.step 69 (.bool true) rfl (lb_ I0.size) (wanted_none rfl) r_a0_47 (fun a0_47 fa0_47 => ?_)
  clear r_a0_47
  clear fa0_46
  refine wpList_nil ?_
  change Code.wp _ _ _ _ _
  refine wp_cond_true (show a0_47.eval (.tmp 69) = .bool true from (fa0_47.at_ 69)) (wp_seq (wp_seq ?_))
  refine wp_region_list ?_
  unfold rHC19
  refine fa0_47.move 70 (.int .u64 (x : Int)) _ (Or.inl rfl) rfl (lb_ I0.size) (wanted_none rfl) (fa0_47.at_ 9) (fun a0_48 fa0_48 => ?_)
  clear fa0_47
  have r_a0_49 : (execOp a0_48.eval { dst := some 71, op := Op.binOp BinOp.eql 22 (Operand.tmp 70) (Operand.const (Value.int IntKind.u64 0)) 22, type := 4, pos := "ref.go:127", after := #[{ on := 0, ground := Ground.data }], guard := none }).run Try.prog (V) = .ok (.value (.bool false)) (V) := by
    have kc : ∀ v, a0_48.eval (.const v) = v := fun _ => rfl
    have e70 := (show a0_48.eval (.tmp 70) = .int .u64 (x : Int) from (fa0_48.at_ 70))
    clear fa0_48 hQ h6 h7 h8 hr hsz hr2 d2 dd hv fv fV
    generalize a0_48.eval = ρ at *
    go_simp
  refine fa0_48.step 71 (.bool false) rfl (lb_ I0.size) (wanted_none rfl) r_a0_49 (fun a0_49 fa0_49 => ?_)
  clear r_a0_49
  clear fa0_48
  refine fa0_49.move 72 (.bool false) _ (Or.inl rfl) rfl (lb_ I0.size) (wanted_none rfl) (fa0_49.at_ 71) (fun a0_50 fa0_50 => ?_)
  clear fa0_49
  refine fa0_50.skip 73 rfl (lb_ I0.size) ((wanted_at (t := 72) (c := false) (b := true) rfl rfl rfl (lb_ (fa0_50.size.trans I0.size)) (fa0_50.at_ 72)).trans (by rfl)) (fun a0_51 fa0_51 => ?_)
  clear fa0_50
  refine fa0_51.skip 74 rfl (lb_ I0.size) ((wanted_at (t := 72) (c := false) (b := true) rfl rfl rfl (lb_ (fa0_51.size.trans I0.size)) (fa0_51.at_ 72)).trans (by rfl)) (fun a0_52 fa0_52 => ?_)
  clear fa0_51
  have r_a0_53 : (execOp a0_52.eval { dst := some 75, op := Op.pick (Operand.tmp 72) (Operand.tmp 74) (Operand.const (Value.bool false)), type := 4, pos := "ref.go:127", after := #[{ on := 2, ground := Ground.data }, { on := 4, ground := Ground.data }], guard := none }).run Try.prog (V) = .ok (.value (.bool false)) (V) := by
    have kc : ∀ v, a0_52.eval (.const v) = v := fun _ => rfl
    have e72 := (show a0_52.eval (.tmp 72) = .bool false from (fa0_52.at_ 72))
    have e74 := (show a0_52.eval (.tmp 74) = undef from (fa0_52.at_ 74))
    clear fa0_52 hQ h6 h7 h8 hr hsz hr2 d2 dd hv fv fV
    generalize a0_52.eval = ρ at *
    go_simp
  refine fa0_52.step 75 (.bool false) rfl (lb_ I0.size) (wanted_none rfl) r_a0_53 (fun a0_53 fa0_53 => ?_)
  clear r_a0_53
  clear fa0_52
  refine wpList_nil ?_
  change Code.wp _ _ _ _ _
  refine wp_cond_false (show a0_53.eval (.tmp 75) = .bool false from (fa0_53.at_ 75)) (wp_skip ?_)
  change Code.wp _ _ _ _ _
  refine wp_seq (wp_seq ?_)
  refine wp_region_list ?_
  unfold rHC22
  refine fa0_53.move 79 (.int .u64 (n2 : Int)) _ (Or.inl rfl) rfl (lb_ I0.size) (wanted_none rfl) (fa0_53.at_ 6) (fun a0_54 fa0_54 => ?_)
  clear fa0_53
  refine fa0_54.move 80 (.int .u64 (most : Int)) _ (Or.inl rfl) rfl (lb_ I0.size) (wanted_none rfl) ((fa0_54.at_ 1).trans I0.s1) (fun a0_55 fa0_55 => ?_)
  clear fa0_54
  have r_a0_56 : (execOp a0_55.eval { dst := some 81, op := Op.binOp BinOp.gtr 22 (Operand.tmp 79) (Operand.tmp 80) 22, type := 4, pos := "ref.go:131", after := #[{ on := 0, ground := Ground.data }, { on := 1, ground := Ground.data }], guard := none }).run Try.prog (V) = .ok (.value (.bool true)) (V) := by
    have e79 := (show a0_55.eval (.tmp 79) = .int .u64 (n2 : Int) from (fa0_55.at_ 79))
    have e80 := (show a0_55.eval (.tmp 80) = .int .u64 (most : Int) from (fa0_55.at_ 80))
    clear fa0_55 hQ h6 h7 h8 hr hsz hr2 d2 dd hv fv fV
    generalize a0_55.eval = ρ at *
    go_simp
  refine fa0_55.step 81 (.bool true) rfl (lb_ I0.size) (wanted_none rfl) r_a0_56 (fun a0_56 fa0_56 => ?_)
  clear r_a0_56
  clear fa0_55
  refine wpList_nil ?_
  change Code.wp _ _ _ _ _
  refine wp_cond_true (show a0_56.eval (.tmp 81) = .bool true from (fa0_56.at_ 81)) (wp_seq ?_)
  refine wp_region_list ?_
  unfold rHC23
  refine fa0_56.move 82 (.pointer (some ⟨b, 0, none⟩)) _ (Or.inl rfl) rfl (lb_ I0.size) (wanted_none rfl) ((fa0_56.at_ 0).trans I0.s0) (fun a0_57 fa0_57 => ?_)
  clear fa0_56
  refine fa0_57.move 83 (.int .i64 (p : Int)) _ (Or.inl rfl) rfl (lb_ I0.size) (wanted_none rfl) ((fa0_57.at_ 5).trans I0.s5) (fun a0_58 fa0_58 => ?_)
  clear fa0_57
  have r_a0_59 : (execOp a0_58.eval { dst := some 84, op := Op.call { callee := Callee.value (Operand.func 65), args := #[Operand.tmp 82, Operand.const (Value.int IntKind.i64 12), Operand.tmp 83], argTypes := #[34, 35, 3] }, type := 0, pos := "ref.go:132", after := #[{ on := 0, ground := Ground.data }, { on := 1, ground := Ground.data }], guard := none }).run Try.prog (V) = .ok (.enter 65 #[.pointer (some ⟨b, 0, none⟩), Value.int IntKind.i64 12, .int .i64 (p : Int)]) (V) := by
    have kc : ∀ v, a0_58.eval (.const v) = v := fun _ => rfl
    have kf : ∀ f, a0_58.eval (.func f) = .func (.func f) #[] #[] := fun _ => rfl
    have e82 := (show a0_58.eval (.tmp 82) = .pointer (some ⟨b, 0, none⟩) from (fa0_58.at_ 82))
    have e83 := (show a0_58.eval (.tmp 83) = .int .i64 (p : Int) from (fa0_58.at_ 83))
    clear fa0_58 hQ h6 h7 h8 hr hsz hr2 d2 dd hv fv fV
    generalize a0_58.eval = ρ at *
    go_simp
  refine fa0_58.call 84 rfl (lb_ I0.size) (wanted_none rfl) r_a0_59 (rrfail_calls (d := 12) (q := p) V hv) (fun e VF hR => ?_)
  obtain ⟨rfl, hf, ff⟩ := hR
  clear r_a0_59
  refine ⟨_, rfl, fun a0_59 fa0_59 => ?_⟩
  clear fa0_58
  refine wpList_nil ?_
  change Code.wp _ _ _ _ _
  refine wp_seq ?_
  refine wp_region_list ?_
  unfold rHC24
  refine fa0_59.move 4 (.int .u64 0) _ (Or.inr rfl) rfl (lb_ I0.size) (wanted_none rfl) rfl (fun a0_60 fa0_60 => ?_)
  clear fa0_59
  refine wpList_nil ?_
  change Code.wp _ _ _ _ _
  refine wp_ret ?_
  exact hQ a0_60 VF (fa0_60.defers.trans I0.defers) (show a0_60.eval (.tmp 4) = .int .u64 0 from (fa0_60.at_ 4)) hf (Fr.trans fV ff (fun _ _ e => e))
set_option maxRecDepth 100000 in
set_option maxHeartbeats 1000000 in
theorem hcR10 {b p q i n u most : Nat} {s : ByteArray} {Q : Exit → Act → World → Prop} (hQp : ∀ c (a : Act) d v w, Q (.panic c) (a.put d v) w → Q (.panic c) a w) (a0 : Act) (wr : World) (I0 : IHC (.pointer (some ⟨b, 0, none⟩)) (.int .u64 (most : Int)) (.int .i64 (p : Int)) a0) (h6 : a0.eval (.tmp 6) = .int .u64 (n : Int)) (h7 : a0.eval (.tmp 7) = .int .u64 (u : Int)) (h8 : a0.eval (.tmp 8) = .int .i64 (i : Int)) (hr : RRAt wr b s q 0) (hsz : s.size ≤ 1000000000000) {x : Nat} (hq : q < s.size) (hx : (s[q]).toNat = x) {y z n2 u2 : Nat} (hy : x % 128 = y) (hz : y * u = z) (hn2 : n + z = n2) (hn3 : n2 < 18446744073709551616) (hu2 : u * 128 % 18446744073709551616 = u2) (hi : i = 9) (hb : x = 1) (hmo : ¬ most < n2) (hQ : ∀ (a : Act) W, a.defers = [] → a.eval (.tmp 4) = .int .u64 (n2 : Int) → RRAt W b s (q + 1) 0 → Fr (fun k => k = b) wr W → Q .ret a W) : cHC1.wp Try.prog Q a0 wr := by
  have hne : ¬ (q : Int) = (s.size : Int) := by omega
  have hqi : (q : Int) < (s.size : Int) := by omega
  have xl : x < 256 := by rw [← hx]; exact (s[q]).toNat_lt
  have wx : IntKind.u64.wrap (x : Int) = (x : Int) := by rw [IntKind.wrap_u64]; omega
  have w1 : IntKind.i64.wrap ((q : Int) + 1) = ((q + 1 : Nat) : Int) := by rw [IntKind.wrap_i64]; omega
  have hyt : (x : Int).tmod 128 = (y : Int) := by rw [← hy]; rfl
  have hye : (x : Int) % 128 = (y : Int) := by omega
  have wz : IntKind.u64.wrap ((y : Int) * (u : Int)) = (z : Int) := by rw [← Int.natCast_mul, hz, IntKind.wrap_u64]; omega
  have wn : IntKind.u64.wrap ((n : Int) + (z : Int)) = (n2 : Int) := by rw [IntKind.wrap_u64]; omega
  have wu : IntKind.u64.wrap ((u : Int) * 128) = (u2 : Int) := by rw [IntKind.wrap_u64]; omega
  clear hy hz hn2 hu2
  have hi9 : (i : Int) = 9 := by omega
  have hb3 : ¬ (1 : Int) < (x : Int) := by omega
  have hb1 : ¬ (x : Int) = 0 := by omega
  have hb1n : ¬ x = 0 := by omega
  have hb2 : (x : Int) < 128 := by omega
  have hm2 : ¬ (most : Int) < (n2 : Int) := by omega
  have hm3 : (n2 : Int) ≤ (most : Int) := by omega
  clear hb hn3 hmo hi
  have fa0_0 := Fe.refl a0
  have k0 := hr.c0
  have k1 := hr.c1
  have dd : Same wr wr.drew := (Fr.refl (fun _ => False) wr).drew
  unfold cHC1
  refine wp_seq (wp_block (wp_seq (wp_seq ?_)))
  refine wp_region_held_drew (ops := rHC8) (S := fun Z => Same wr Z) (by kernel_rfl) (dd) (fun hS0 => ?_)
  refine fa0_0.takeMove 0 21 (.pointer (some ⟨b, 0, none⟩)) _ (Or.inl rfl) rfl (by kernel_rfl) (by kernel_rfl) (by kernel_rfl) (fun _ _ _ h => hQp _ _ _ _ _ h) rfl (lb_ I0.size) (wanted_none rfl) ((fa0_0.at_ 0).trans I0.s0) hS0 (fun a0_1 fa0_1 => ?_)
  clear fa0_0
  have r_a0_2 : ∀ Z, (fun Z => Same wr Z) Z → (execOp a0_1.eval { dst := some 22, op := Op.nilCheck (Operand.tmp 21), type := 0, pos := "ref.go:114", after := #[{ on := 0, ground := Ground.data }], guard := none }).run Try.prog Z = .ok (.value (.pointer (some ⟨b, 0, none⟩))) Z := fun Z hZ => by
    have e21 := (show a0_1.eval (.tmp 21) = .pointer (some ⟨b, 0, none⟩) from (fa0_1.at_ 21))
    clear fa0_1 hQ h6 h7 h8 hr hsz
    generalize a0_1.eval = ρ at *
    go_simp
  refine fa0_1.take 1 22 (.pointer (some ⟨b, 0, none⟩)) rfl (by kernel_rfl) (by kernel_rfl) (by kernel_rfl) (fun _ _ _ h => hQp _ _ _ _ _ h) rfl (lb_ I0.size) (wanted_none rfl) r_a0_2 hS0 (fun a0_2 fa0_2 => ?_)
  clear r_a0_2
  clear fa0_1
  have r_a0_3 : ∀ Z, (fun Z => Same wr Z) Z → (execOp a0_2.eval { dst := some 23, op := Op.fieldAddr 37 (Operand.tmp 22) 1, type := 0, pos := "ref.go:114", after := #[{ on := 1, ground := Ground.data }], guard := none }).run Try.prog Z = .ok (.value (.pointer (some ⟨b, 1, none⟩))) Z := fun Z hZ => by
    have e22 := (show a0_2.eval (.tmp 22) = .pointer (some ⟨b, 0, none⟩) from (fa0_2.at_ 22))
    clear fa0_2 hQ h6 h7 h8 hr hsz
    generalize a0_2.eval = ρ at *
    go_simp
  refine fa0_2.take 2 23 (.pointer (some ⟨b, 1, none⟩)) rfl (by kernel_rfl) (by kernel_rfl) (by kernel_rfl) (fun _ _ _ h => hQp _ _ _ _ _ h) rfl (lb_ I0.size) (wanted_none rfl) r_a0_3 hS0 (fun a0_3 fa0_3 => ?_)
  clear r_a0_3
  clear fa0_2
  have r_a0_4 : ∀ Z, (fun Z => Same wr Z) Z → (execOp a0_3.eval { dst := some 24, op := Op.load 3 (Operand.tmp 23), type := 3, pos := "ref.go:114", after := #[{ on := 2, ground := Ground.data }], guard := none }).run Try.prog Z = .ok (.value (.int .i64 (q : Int))) Z := fun Z hZ => by
    have q0 := hZ.keep k0
    have q1 := hZ.keep k1
    clear hZ
    have e23 := (show a0_3.eval (.tmp 23) = .pointer (some ⟨b, 1, none⟩) from (fa0_3.at_ 23))
    clear fa0_3 hQ h6 h7 h8 hr hsz
    generalize a0_3.eval = ρ at *
    go_simp
  refine fa0_3.take 3 24 (.int .i64 (q : Int)) rfl (by kernel_rfl) (by kernel_rfl) (by kernel_rfl) (fun _ _ _ h => hQp _ _ _ _ _ h) rfl (lb_ I0.size) (wanted_none rfl) r_a0_4 hS0 (fun a0_4 fa0_4 => ?_)
  clear r_a0_4
  clear fa0_3
  refine fa0_4.takeMove 4 25 (.pointer (some ⟨b, 0, none⟩)) _ (Or.inl rfl) rfl (by kernel_rfl) (by kernel_rfl) (by kernel_rfl) (fun _ _ _ h => hQp _ _ _ _ _ h) rfl (lb_ I0.size) (wanted_none rfl) ((fa0_4.at_ 0).trans I0.s0) hS0 (fun a0_5 fa0_5 => ?_)
  clear fa0_4
  have r_a0_6 : ∀ Z, (fun Z => Same wr Z) Z → (execOp a0_5.eval { dst := some 26, op := Op.nilCheck (Operand.tmp 25), type := 0, pos := "ref.go:114", after := #[{ on := 4, ground := Ground.data }], guard := none }).run Try.prog Z = .ok (.value (.pointer (some ⟨b, 0, none⟩))) Z := fun Z hZ => by
    have e25 := (show a0_5.eval (.tmp 25) = .pointer (some ⟨b, 0, none⟩) from (fa0_5.at_ 25))
    clear fa0_5 hQ h6 h7 h8 hr hsz
    generalize a0_5.eval = ρ at *
    go_simp
  refine fa0_5.take 5 26 (.pointer (some ⟨b, 0, none⟩)) rfl (by kernel_rfl) (by kernel_rfl) (by kernel_rfl) (fun _ _ _ h => hQp _ _ _ _ _ h) rfl (lb_ I0.size) (wanted_none rfl) r_a0_6 hS0 (fun a0_6 fa0_6 => ?_)
  clear r_a0_6
  clear fa0_5
  have r_a0_7 : ∀ Z, (fun Z => Same wr Z) Z → (execOp a0_6.eval { dst := some 27, op := Op.fieldAddr 37 (Operand.tmp 26) 0, type := 0, pos := "ref.go:114", after := #[{ on := 5, ground := Ground.data }], guard := none }).run Try.prog Z = .ok (.value (.pointer (some ⟨b, 0, none⟩))) Z := fun Z hZ => by
    have e26 := (show a0_6.eval (.tmp 26) = .pointer (some ⟨b, 0, none⟩) from (fa0_6.at_ 26))
    clear fa0_6 hQ h6 h7 h8 hr hsz
    generalize a0_6.eval = ρ at *
    go_simp
  refine fa0_6.take 6 27 (.pointer (some ⟨b, 0, none⟩)) rfl (by kernel_rfl) (by kernel_rfl) (by kernel_rfl) (fun _ _ _ h => hQp _ _ _ _ _ h) rfl (lb_ I0.size) (wanted_none rfl) r_a0_7 hS0 (fun a0_7 fa0_7 => ?_)
  clear r_a0_7
  clear fa0_6
  have r_a0_8 : ∀ Z, (fun Z => Same wr Z) Z → (execOp a0_7.eval { dst := some 28, op := Op.load 9 (Operand.tmp 27), type := 9, pos := "ref.go:114", after := #[{ on := 6, ground := Ground.data }], guard := none }).run Try.prog Z = .ok (.value (.string s)) Z := fun Z hZ => by
    have q0 := hZ.keep k0
    have q1 := hZ.keep k1
    clear hZ
    have e27 := (show a0_7.eval (.tmp 27) = .pointer (some ⟨b, 0, none⟩) from (fa0_7.at_ 27))
    clear fa0_7 hQ h6 h7 h8 hr hsz
    generalize a0_7.eval = ρ at *
    go_simp
  refine fa0_7.take 7 28 (.string s) rfl (by kernel_rfl) (by kernel_rfl) (by kernel_rfl) (fun _ _ _ h => hQp _ _ _ _ _ h) rfl (lb_ I0.size) (wanted_none rfl) r_a0_8 hS0 (fun a0_8 fa0_8 => ?_)
  clear r_a0_8
  clear fa0_7
  have r_a0_9 : ∀ Z, (fun Z => Same wr Z) Z → (execOp a0_8.eval { dst := some 29, op := Op.call { callee := Callee.builtin Builtin.len, args := #[Operand.tmp 28], argTypes := #[9] }, type := 3, pos := "ref.go:114", after := #[{ on := 7, ground := Ground.data }], guard := none }).run Try.prog Z = .ok (.value (.int .i64 (s.size : Int))) Z := fun Z hZ => by
    have e28 := (show a0_8.eval (.tmp 28) = .string s from (fa0_8.at_ 28))
    clear fa0_8 hQ h6 h7 h8 hr hsz
    generalize a0_8.eval = ρ at *
    go_simp
  refine fa0_8.take 8 29 (.int .i64 (s.size : Int)) rfl (by kernel_rfl) (by kernel_rfl) (by kernel_rfl) (fun _ _ _ h => hQp _ _ _ _ _ h) rfl (lb_ I0.size) (wanted_none rfl) r_a0_9 hS0 (fun a0_9 fa0_9 => ?_)
  clear r_a0_9
  clear fa0_8
  have r_a0_10 : ∀ Z, (fun Z => Same wr Z) Z → (execOp a0_9.eval { dst := some 30, op := Op.binOp BinOp.eql 3 (Operand.tmp 24) (Operand.tmp 29) 3, type := 4, pos := "ref.go:114", after := #[{ on := 3, ground := Ground.data }, { on := 8, ground := Ground.data }], guard := none }).run Try.prog Z = .ok (.value (.bool false)) Z := fun Z hZ => by
    have e24 := (show a0_9.eval (.tmp 24) = .int .i64 (q : Int) from (fa0_9.at_ 24))
    have e29 := (show a0_9.eval (.tmp 29) = .int .i64 (s.size : Int) from (fa0_9.at_ 29))
    clear fa0_9 hQ h6 h7 h8 hr hsz
    generalize a0_9.eval = ρ at *
    go_simp
  refine fa0_9.take 9 30 (.bool false) rfl (by kernel_rfl) (by kernel_rfl) (by kernel_rfl) (fun _ _ _ h => hQp _ _ _ _ _ h) rfl (lb_ I0.size) (wanted_none rfl) r_a0_10 hS0 (fun a0_10 fa0_10 => ?_)
  clear r_a0_10
  clear fa0_9
  refine wpAnyH_done (by kernel_rfl) ?_ _
  change Code.wp _ _ _ _ _
  refine wp_cond_false (show a0_10.eval (.tmp 30) = .bool false from (fa0_10.at_ 30)) (wp_skip ?_)
  change Code.wp _ _ _ _ _
  refine wp_seq ?_
  have d2 : Same wr wr.drew.drew := dd.trans (Fr.refl (fun _ => False) wr.drew).drew
  refine wp_region_held_drew (ops := rHC11) (S := fun Z => Same wr Z) (by kernel_rfl) (d2) (fun hS10 => ?_)
  refine fa0_10.takeMove 0 34 (.pointer (some ⟨b, 0, none⟩)) _ (Or.inl rfl) rfl (by kernel_rfl) (by kernel_rfl) (by kernel_rfl) (fun _ _ _ h => hQp _ _ _ _ _ h) rfl (lb_ I0.size) (wanted_none rfl) ((fa0_10.at_ 0).trans I0.s0) hS10 (fun a0_11 fa0_11 => ?_)
  clear fa0_10
  have r_a0_12 : ∀ Z, (fun Z => Same wr Z) Z → (execOp a0_11.eval { dst := some 35, op := Op.nilCheck (Operand.tmp 34), type := 0, pos := "ref.go:118", after := #[{ on := 0, ground := Ground.data }], guard := none }).run Try.prog Z = .ok (.value (.pointer (some ⟨b, 0, none⟩))) Z := fun Z hZ => by
    have e34 := (show a0_11.eval (.tmp 34) = .pointer (some ⟨b, 0, none⟩) from (fa0_11.at_ 34))
    clear fa0_11 hQ h6 h7 h8 hr hsz
    generalize a0_11.eval = ρ at *
    go_simp
  refine fa0_11.take 1 35 (.pointer (some ⟨b, 0, none⟩)) rfl (by kernel_rfl) (by kernel_rfl) (by kernel_rfl) (fun _ _ _ h => hQp _ _ _ _ _ h) rfl (lb_ I0.size) (wanted_none rfl) r_a0_12 hS10 (fun a0_12 fa0_12 => ?_)
  clear r_a0_12
  clear fa0_11
  have r_a0_13 : ∀ Z, (fun Z => Same wr Z) Z → (execOp a0_12.eval { dst := some 36, op := Op.fieldAddr 37 (Operand.tmp 35) 0, type := 0, pos := "ref.go:118", after := #[{ on := 1, ground := Ground.data }], guard := none }).run Try.prog Z = .ok (.value (.pointer (some ⟨b, 0, none⟩))) Z := fun Z hZ => by
    have e35 := (show a0_12.eval (.tmp 35) = .pointer (some ⟨b, 0, none⟩) from (fa0_12.at_ 35))
    clear fa0_12 hQ h6 h7 h8 hr hsz
    generalize a0_12.eval = ρ at *
    go_simp
  refine fa0_12.take 2 36 (.pointer (some ⟨b, 0, none⟩)) rfl (by kernel_rfl) (by kernel_rfl) (by kernel_rfl) (fun _ _ _ h => hQp _ _ _ _ _ h) rfl (lb_ I0.size) (wanted_none rfl) r_a0_13 hS10 (fun a0_13 fa0_13 => ?_)
  clear r_a0_13
  clear fa0_12
  have r_a0_14 : ∀ Z, (fun Z => Same wr Z) Z → (execOp a0_13.eval { dst := some 37, op := Op.load 9 (Operand.tmp 36), type := 9, pos := "ref.go:118", after := #[{ on := 2, ground := Ground.data }], guard := none }).run Try.prog Z = .ok (.value (.string s)) Z := fun Z hZ => by
    have q0 := hZ.keep k0
    have q1 := hZ.keep k1
    clear hZ
    have e36 := (show a0_13.eval (.tmp 36) = .pointer (some ⟨b, 0, none⟩) from (fa0_13.at_ 36))
    clear fa0_13 hQ h6 h7 h8 hr hsz
    generalize a0_13.eval = ρ at *
    go_simp
  refine fa0_13.take 3 37 (.string s) rfl (by kernel_rfl) (by kernel_rfl) (by kernel_rfl) (fun _ _ _ h => hQp _ _ _ _ _ h) rfl (lb_ I0.size) (wanted_none rfl) r_a0_14 hS10 (fun a0_14 fa0_14 => ?_)
  clear r_a0_14
  clear fa0_13
  refine fa0_14.takeMove 4 38 (.pointer (some ⟨b, 0, none⟩)) _ (Or.inl rfl) rfl (by kernel_rfl) (by kernel_rfl) (by kernel_rfl) (fun _ _ _ h => hQp _ _ _ _ _ h) rfl (lb_ I0.size) (wanted_none rfl) ((fa0_14.at_ 0).trans I0.s0) hS10 (fun a0_15 fa0_15 => ?_)
  clear fa0_14
  have r_a0_16 : ∀ Z, (fun Z => Same wr Z) Z → (execOp a0_15.eval { dst := some 39, op := Op.nilCheck (Operand.tmp 38), type := 0, pos := "ref.go:118", after := #[{ on := 4, ground := Ground.data }], guard := none }).run Try.prog Z = .ok (.value (.pointer (some ⟨b, 0, none⟩))) Z := fun Z hZ => by
    have e38 := (show a0_15.eval (.tmp 38) = .pointer (some ⟨b, 0, none⟩) from (fa0_15.at_ 38))
    clear fa0_15 hQ h6 h7 h8 hr hsz
    generalize a0_15.eval = ρ at *
    go_simp
  refine fa0_15.take 5 39 (.pointer (some ⟨b, 0, none⟩)) rfl (by kernel_rfl) (by kernel_rfl) (by kernel_rfl) (fun _ _ _ h => hQp _ _ _ _ _ h) rfl (lb_ I0.size) (wanted_none rfl) r_a0_16 hS10 (fun a0_16 fa0_16 => ?_)
  clear r_a0_16
  clear fa0_15
  have r_a0_17 : ∀ Z, (fun Z => Same wr Z) Z → (execOp a0_16.eval { dst := some 40, op := Op.fieldAddr 37 (Operand.tmp 39) 1, type := 0, pos := "ref.go:118", after := #[{ on := 5, ground := Ground.data }], guard := none }).run Try.prog Z = .ok (.value (.pointer (some ⟨b, 1, none⟩))) Z := fun Z hZ => by
    have e39 := (show a0_16.eval (.tmp 39) = .pointer (some ⟨b, 0, none⟩) from (fa0_16.at_ 39))
    clear fa0_16 hQ h6 h7 h8 hr hsz
    generalize a0_16.eval = ρ at *
    go_simp
  refine fa0_16.take 6 40 (.pointer (some ⟨b, 1, none⟩)) rfl (by kernel_rfl) (by kernel_rfl) (by kernel_rfl) (fun _ _ _ h => hQp _ _ _ _ _ h) rfl (lb_ I0.size) (wanted_none rfl) r_a0_17 hS10 (fun a0_17 fa0_17 => ?_)
  clear r_a0_17
  clear fa0_16
  have r_a0_18 : ∀ Z, (fun Z => Same wr Z) Z → (execOp a0_17.eval { dst := some 41, op := Op.load 3 (Operand.tmp 40), type := 3, pos := "ref.go:118", after := #[{ on := 6, ground := Ground.data }], guard := none }).run Try.prog Z = .ok (.value (.int .i64 (q : Int))) Z := fun Z hZ => by
    have q0 := hZ.keep k0
    have q1 := hZ.keep k1
    clear hZ
    have e40 := (show a0_17.eval (.tmp 40) = .pointer (some ⟨b, 1, none⟩) from (fa0_17.at_ 40))
    clear fa0_17 hQ h6 h7 h8 hr hsz
    generalize a0_17.eval = ρ at *
    go_simp
  refine fa0_17.take 7 41 (.int .i64 (q : Int)) rfl (by kernel_rfl) (by kernel_rfl) (by kernel_rfl) (fun _ _ _ h => hQp _ _ _ _ _ h) rfl (lb_ I0.size) (wanted_none rfl) r_a0_18 hS10 (fun a0_18 fa0_18 => ?_)
  clear r_a0_18
  clear fa0_17
  have r_a0_19 : ∀ Z, (fun Z => Same wr Z) Z → (execOp a0_18.eval { dst := some 42, op := Op.index 9 (Operand.tmp 37) (Operand.tmp 41), type := 5, pos := "ref.go:118", after := #[{ on := 3, ground := Ground.data }, { on := 7, ground := Ground.data }], guard := none }).run Try.prog Z = .ok (.value (.int .u8 (x : Int))) Z := fun Z hZ => by
    have e37 := (show a0_18.eval (.tmp 37) = .string s from (fa0_18.at_ 37))
    have e41 := (show a0_18.eval (.tmp 41) = .int .i64 (q : Int) from (fa0_18.at_ 41))
    clear fa0_18 hQ h6 h7 h8 hr hsz
    generalize a0_18.eval = ρ at *
    go_simp
  refine fa0_18.take 8 42 (.int .u8 (x : Int)) rfl (by kernel_rfl) (by kernel_rfl) (by kernel_rfl) (fun _ _ _ h => hQp _ _ _ _ _ h) rfl (lb_ I0.size) (wanted_none rfl) r_a0_19 hS10 (fun a0_19 fa0_19 => ?_)
  clear r_a0_19
  clear fa0_18
  have r_a0_20 : ∀ Z, (fun Z => Same wr Z) Z → (execOp a0_19.eval { dst := some 43, op := Op.convert 5 22 (Operand.tmp 42), type := 22, pos := "ref.go:118", after := #[{ on := 8, ground := Ground.data }], guard := none }).run Try.prog Z = .ok (.value (.int .u64 (x : Int))) Z := fun Z hZ => by
    have e42 := (show a0_19.eval (.tmp 42) = .int .u8 (x : Int) from (fa0_19.at_ 42))
    clear fa0_19 hQ h6 h7 h8 hr hsz
    generalize a0_19.eval = ρ at *
    go_simp
  refine fa0_19.take 9 43 (.int .u64 (x : Int)) rfl (by kernel_rfl) (by kernel_rfl) (by kernel_rfl) (fun _ _ _ h => hQp _ _ _ _ _ h) rfl (lb_ I0.size) (wanted_none rfl) r_a0_20 hS10 (fun a0_20 fa0_20 => ?_)
  clear r_a0_20
  clear fa0_19
  refine fa0_20.takeMove 10 9 (.int .u64 (x : Int)) _ (Or.inr rfl) rfl (by kernel_rfl) (by kernel_rfl) (by kernel_rfl) (fun _ _ _ h => hQp _ _ _ _ _ h) rfl (lb_ I0.size) (wanted_none rfl) (fa0_20.at_ 43) hS10 (fun a0_21 fa0_21 => ?_)
  clear fa0_20
  refine wpAnyH_done (by kernel_rfl) ?_ _
  change Code.wp _ _ _ _ _
  refine wp_seq (wp_seq ?_)
  refine wp_region_list ?_
  unfold rHC12
  refine fa0_21.move 44 (.int .i64 (i : Int)) _ (Or.inl rfl) rfl (lb_ I0.size) (wanted_none rfl) ((fa0_21.at_ 8).trans h8) (fun a0_22 fa0_22 => ?_)
  clear fa0_21
  have r_a0_23 : (execOp a0_22.eval { dst := some 45, op := Op.binOp BinOp.eql 3 (Operand.tmp 44) (Operand.const (Value.int IntKind.i64 9)) 3, type := 4, pos := "ref.go:119", after := #[{ on := 0, ground := Ground.data }], guard := none }).run Try.prog (wr.drew.drew) = .ok (.value (.bool true)) (wr.drew.drew) := by
    have kc : ∀ v, a0_22.eval (.const v) = v := fun _ => rfl
    have e44 := (show a0_22.eval (.tmp 44) = .int .i64 (i : Int) from (fa0_22.at_ 44))
    clear fa0_22 hQ h6 h7 h8 hr hsz
    generalize a0_22.eval = ρ at *
    go_simp
  refine fa0_22.step 45 (.bool true) rfl (lb_ I0.size) (wanted_none rfl) r_a0_23 (fun a0_23 fa0_23 => ?_)
  clear r_a0_23
  clear fa0_22
  refine fa0_23.move 46 (.bool true) _ (Or.inl rfl) rfl (lb_ I0.size) (wanted_none rfl) (fa0_23.at_ 45) (fun a0_24 fa0_24 => ?_)
  clear fa0_23
  refine fa0_24.move 47 (.int .u64 (x : Int)) _ (Or.inl rfl) rfl (lb_ I0.size) ((wanted_at (t := 46) (c := true) (b := true) rfl rfl rfl (lb_ (fa0_24.size.trans I0.size)) (fa0_24.at_ 46)).trans (by rfl)) (fa0_24.at_ 9) (fun a0_25 fa0_25 => ?_)
  clear fa0_24
  have r_a0_26 : (execOp a0_25.eval { dst := some 48, op := Op.binOp BinOp.gtr 22 (Operand.tmp 47) (Operand.const (Value.int IntKind.u64 1)) 22, type := 4, pos := "ref.go:119", after := #[{ on := 3, ground := Ground.data }, { on := 2, ground := Ground.guard }], guard := some (2, true) }).run Try.prog (wr.drew.drew) = .ok (.value (.bool false)) (wr.drew.drew) := by
    have kc : ∀ v, a0_25.eval (.const v) = v := fun _ => rfl
    have e47 := (show a0_25.eval (.tmp 47) = .int .u64 (x : Int) from (fa0_25.at_ 47))
    clear fa0_25 hQ h6 h7 h8 hr hsz
    generalize a0_25.eval = ρ at *
    go_simp
  refine fa0_25.step 48 (.bool false) rfl (lb_ I0.size) ((wanted_at (t := 46) (c := true) (b := true) rfl rfl rfl (lb_ (fa0_25.size.trans I0.size)) (fa0_25.at_ 46)).trans (by rfl)) r_a0_26 (fun a0_26 fa0_26 => ?_)
  clear r_a0_26
  clear fa0_25
  have r_a0_27 : (execOp a0_26.eval { dst := some 49, op := Op.pick (Operand.tmp 46) (Operand.tmp 48) (Operand.const (Value.bool false)), type := 4, pos := "ref.go:119", after := #[{ on := 2, ground := Ground.data }, { on := 4, ground := Ground.data }], guard := none }).run Try.prog (wr.drew.drew) = .ok (.value (.bool false)) (wr.drew.drew) := by
    have kc : ∀ v, a0_26.eval (.const v) = v := fun _ => rfl
    have e46 := (show a0_26.eval (.tmp 46) = .bool true from (fa0_26.at_ 46))
    have e48 := (show a0_26.eval (.tmp 48) = .bool false from (fa0_26.at_ 48))
    clear fa0_26 hQ h6 h7 h8 hr hsz
    generalize a0_26.eval = ρ at *
    go_simp
  refine fa0_26.step 49 (.bool false) rfl (lb_ I0.size) (wanted_none rfl) r_a0_27 (fun a0_27 fa0_27 => ?_)
  clear r_a0_27
  clear fa0_26
  refine wpList_nil ?_
  change Code.wp _ _ _ _ _
  refine wp_cond_false (show a0_27.eval (.tmp 49) = .bool false from (fa0_27.at_ 49)) (wp_skip ?_)
  change Code.wp _ _ _ _ _
  refine wp_seq ?_
  have hr2 := hr.fr d2 (fun f => f)
  have k1 := hr2.c1
  have z1 := hr2.z 1
  refine wp_region_list ?_
  unfold rHC15
  refine fa0_27.move 53 (.pointer (some ⟨b, 0, none⟩)) _ (Or.inl rfl) rfl (lb_ I0.size) (wanted_none rfl) ((fa0_27.at_ 0).trans I0.s0) (fun a0_28 fa0_28 => ?_)
  clear fa0_27
  have r_a0_29 : (execOp a0_28.eval { dst := some 54, op := Op.nilCheck (Operand.tmp 53), type := 0, pos := "ref.go:123", after := #[{ on := 0, ground := Ground.data }], guard := none }).run Try.prog (wr.drew.drew) = .ok (.value (.pointer (some ⟨b, 0, none⟩))) (wr.drew.drew) := by
    have e53 := (show a0_28.eval (.tmp 53) = .pointer (some ⟨b, 0, none⟩) from (fa0_28.at_ 53))
    clear fa0_28 hQ h6 h7 h8 hr hsz hr2 d2 dd
    generalize a0_28.eval = ρ at *
    go_simp
  refine fa0_28.step 54 (.pointer (some ⟨b, 0, none⟩)) rfl (lb_ I0.size) (wanted_none rfl) r_a0_29 (fun a0_29 fa0_29 => ?_)
  clear r_a0_29
  clear fa0_28
  have r_a0_30 : (execOp a0_29.eval { dst := some 55, op := Op.fieldAddr 37 (Operand.tmp 54) 1, type := 0, pos := "ref.go:123", after := #[{ on := 1, ground := Ground.data }], guard := none }).run Try.prog (wr.drew.drew) = .ok (.value (.pointer (some ⟨b, 1, none⟩))) (wr.drew.drew) := by
    have e54 := (show a0_29.eval (.tmp 54) = .pointer (some ⟨b, 0, none⟩) from (fa0_29.at_ 54))
    clear fa0_29 hQ h6 h7 h8 hr hsz hr2 d2 dd
    generalize a0_29.eval = ρ at *
    go_simp
  refine fa0_29.step 55 (.pointer (some ⟨b, 1, none⟩)) rfl (lb_ I0.size) (wanted_none rfl) r_a0_30 (fun a0_30 fa0_30 => ?_)
  clear r_a0_30
  clear fa0_29
  have r_a0_31 : (execOp a0_30.eval { dst := some 56, op := Op.load 3 (Operand.tmp 55), type := 3, pos := "ref.go:123", after := #[{ on := 2, ground := Ground.data }], guard := none }).run Try.prog (wr.drew.drew) = .ok (.value (.int .i64 (q : Int))) (wr.drew.drew) := by
    have e55 := (show a0_30.eval (.tmp 55) = .pointer (some ⟨b, 1, none⟩) from (fa0_30.at_ 55))
    clear fa0_30 hQ h6 h7 h8 hr hsz hr2 d2 dd
    generalize a0_30.eval = ρ at *
    go_simp
  refine fa0_30.step 56 (.int .i64 (q : Int)) rfl (lb_ I0.size) (wanted_none rfl) r_a0_31 (fun a0_31 fa0_31 => ?_)
  clear r_a0_31
  clear fa0_30
  have r_a0_32 : (execOp a0_31.eval { dst := some 57, op := Op.binOp BinOp.add 3 (Operand.tmp 56) (Operand.const (Value.int IntKind.i64 1)) 3, type := 3, pos := "ref.go:123", after := #[{ on := 3, ground := Ground.data }], guard := none }).run Try.prog (wr.drew.drew) = .ok (.value (.int .i64 ((q + 1 : Nat) : Int))) (wr.drew.drew) := by
    have kc : ∀ v, a0_31.eval (.const v) = v := fun _ => rfl
    have e56 := (show a0_31.eval (.tmp 56) = .int .i64 (q : Int) from (fa0_31.at_ 56))
    clear fa0_31 hQ h6 h7 h8 hr hsz hr2 d2 dd
    generalize a0_31.eval = ρ at *
    go_simp
  refine fa0_31.step 57 (.int .i64 ((q + 1 : Nat) : Int)) rfl (lb_ I0.size) (wanted_none rfl) r_a0_32 (fun a0_32 fa0_32 => ?_)
  clear r_a0_32
  clear fa0_31
  have r_a0_33 : (execOp a0_32.eval { dst := some 58, op := Op.nilCheck (Operand.tmp 53), type := 0, pos := "ref.go:123", after := #[{ on := 0, ground := Ground.data }, { on := 0, ground := Ground.phase }, { on := 1, ground := Ground.phase }, { on := 2, ground := Ground.phase }, { on := 3, ground := Ground.phase }, { on := 4, ground := Ground.phase }], guard := none }).run Try.prog (wr.drew.drew) = .ok (.value (.pointer (some ⟨b, 0, none⟩))) (wr.drew.drew) := by
    have e53 := (show a0_32.eval (.tmp 53) = .pointer (some ⟨b, 0, none⟩) from (fa0_32.at_ 53))
    clear fa0_32 hQ h6 h7 h8 hr hsz hr2 d2 dd
    generalize a0_32.eval = ρ at *
    go_simp
  refine fa0_32.step 58 (.pointer (some ⟨b, 0, none⟩)) rfl (lb_ I0.size) (wanted_none rfl) r_a0_33 (fun a0_33 fa0_33 => ?_)
  clear r_a0_33
  clear fa0_32
  have r_a0_34 : (execOp a0_33.eval { dst := some 59, op := Op.fieldAddr 37 (Operand.tmp 58) 1, type := 0, pos := "ref.go:123", after := #[{ on := 5, ground := Ground.data }, { on := 0, ground := Ground.phase }, { on := 1, ground := Ground.phase }, { on := 2, ground := Ground.phase }, { on := 3, ground := Ground.phase }, { on := 4, ground := Ground.phase }], guard := none }).run Try.prog (wr.drew.drew) = .ok (.value (.pointer (some ⟨b, 1, none⟩))) (wr.drew.drew) := by
    have e58 := (show a0_33.eval (.tmp 58) = .pointer (some ⟨b, 0, none⟩) from (fa0_33.at_ 58))
    clear fa0_33 hQ h6 h7 h8 hr hsz hr2 d2 dd
    generalize a0_33.eval = ρ at *
    go_simp
  refine fa0_33.step 59 (.pointer (some ⟨b, 1, none⟩)) rfl (lb_ I0.size) (wanted_none rfl) r_a0_34 (fun a0_34 fa0_34 => ?_)
  clear r_a0_34
  clear fa0_33
  have r_a0_35 : (execOp a0_34.eval { dst := none, op := Op.store 3 (Operand.tmp 59) (Operand.tmp 57), type := 0, pos := "ref.go:123", after := #[{ on := 6, ground := Ground.data }, { on := 4, ground := Ground.data }, { on := 0, ground := Ground.phase }, { on := 1, ground := Ground.phase }, { on := 2, ground := Ground.phase }, { on := 3, ground := Ground.phase }, { on := 4, ground := Ground.phase }], guard := none }).run Try.prog (wr.drew.drew) = .ok .skip (World.setCell wr.drew.drew ⟨b, 1, none⟩ (.int .i64 ((q + 1 : Nat) : Int))) := by
    have e59 := (show a0_34.eval (.tmp 59) = .pointer (some ⟨b, 1, none⟩) from (fa0_34.at_ 59))
    have e57 := (show a0_34.eval (.tmp 57) = .int .i64 ((q + 1 : Nat) : Int) from (fa0_34.at_ 57))
    clear fa0_34 hQ h6 h7 h8 hr hsz hr2 d2 dd
    generalize a0_34.eval = ρ at *
    go_simp
  refine fa0_34.store rfl (wanted_none rfl) r_a0_35 (fun a0_35 fa0_35 => ?_)
  clear r_a0_35
  obtain ⟨hv, fv⟩ := hr2.set1 (q + 1)
  generalize World.setCell wr.drew.drew ⟨b, 1, none⟩ (.int .i64 ((q + 1 : Nat) : Int)) = V at *
  have fV : Fr (fun k => k = b) wr V := Fr.trans (d2.mono (fun _ _ f => f.elim)) fv (fun _ _ e => e)
  clear fa0_34
  refine wpList_nil ?_
  change Code.wp _ _ _ _ _
  refine wp_seq ?_
  refine wp_region_list ?_
  unfold rHC16
  refine fa0_35.move 60 (.int .u64 (n : Int)) _ (Or.inl rfl) rfl (lb_ I0.size) (wanted_none rfl) ((fa0_35.at_ 6).trans h6) (fun a0_36 fa0_36 => ?_)
  clear fa0_35
  refine fa0_36.move 61 (.int .u64 (x : Int)) _ (Or.inl rfl) rfl (lb_ I0.size) (wanted_none rfl) (fa0_36.at_ 9) (fun a0_37 fa0_37 => ?_)
  clear fa0_36
  have r_a0_38 : (execOp a0_37.eval { dst := some 62, op := Op.binOp BinOp.rem 22 (Operand.tmp 61) (Operand.const (Value.int IntKind.u64 128)) 22, type := 22, pos := "ref.go:124", after := #[{ on := 1, ground := Ground.data }], guard := none }).run Try.prog (V) = .ok (.value (.int .u64 (y : Int))) (V) := by
    have kc : ∀ v, a0_37.eval (.const v) = v := fun _ => rfl
    have e61 := (show a0_37.eval (.tmp 61) = .int .u64 (x : Int) from (fa0_37.at_ 61))
    clear fa0_37 hQ h6 h7 h8 hr hsz hr2 d2 dd hv fv fV
    generalize a0_37.eval = ρ at *
    go_simp
  refine fa0_37.step 62 (.int .u64 (y : Int)) rfl (lb_ I0.size) (wanted_none rfl) r_a0_38 (fun a0_38 fa0_38 => ?_)
  clear r_a0_38
  clear fa0_37
  refine fa0_38.move 63 (.int .u64 (u : Int)) _ (Or.inl rfl) rfl (lb_ I0.size) (wanted_none rfl) ((fa0_38.at_ 7).trans h7) (fun a0_39 fa0_39 => ?_)
  clear fa0_38
  have r_a0_40 : (execOp a0_39.eval { dst := some 64, op := Op.binOp BinOp.mul 22 (Operand.tmp 62) (Operand.tmp 63) 22, type := 22, pos := "ref.go:124", after := #[{ on := 2, ground := Ground.data }, { on := 3, ground := Ground.data }], guard := none }).run Try.prog (V) = .ok (.value (.int .u64 (z : Int))) (V) := by
    have e62 := (show a0_39.eval (.tmp 62) = .int .u64 (y : Int) from (fa0_39.at_ 62))
    have e63 := (show a0_39.eval (.tmp 63) = .int .u64 (u : Int) from (fa0_39.at_ 63))
    clear fa0_39 hQ h6 h7 h8 hr hsz hr2 d2 dd hv fv fV
    generalize a0_39.eval = ρ at *
    go_simp
  refine fa0_39.step 64 (.int .u64 (z : Int)) rfl (lb_ I0.size) (wanted_none rfl) r_a0_40 (fun a0_40 fa0_40 => ?_)
  clear r_a0_40
  clear fa0_39
  have r_a0_41 : (execOp a0_40.eval { dst := some 65, op := Op.binOp BinOp.add 22 (Operand.tmp 60) (Operand.tmp 64) 22, type := 22, pos := "ref.go:124", after := #[{ on := 0, ground := Ground.data }, { on := 4, ground := Ground.data }], guard := none }).run Try.prog (V) = .ok (.value (.int .u64 (n2 : Int))) (V) := by
    have e60 := (show a0_40.eval (.tmp 60) = .int .u64 (n : Int) from (fa0_40.at_ 60))
    have e64 := (show a0_40.eval (.tmp 64) = .int .u64 (z : Int) from (fa0_40.at_ 64))
    clear fa0_40 hQ h6 h7 h8 hr hsz hr2 d2 dd hv fv fV
    generalize a0_40.eval = ρ at *
    go_simp
  refine fa0_40.step 65 (.int .u64 (n2 : Int)) rfl (lb_ I0.size) (wanted_none rfl) r_a0_41 (fun a0_41 fa0_41 => ?_)
  clear r_a0_41
  clear fa0_40
  refine fa0_41.move 6 (.int .u64 (n2 : Int)) _ (Or.inr rfl) rfl (lb_ I0.size) (wanted_none rfl) (fa0_41.at_ 65) (fun a0_42 fa0_42 => ?_)
  clear fa0_41
  refine wpList_nil ?_
  change Code.wp _ _ _ _ _
  refine wp_seq ?_
  refine wp_region_list ?_
  unfold rHC17
  refine fa0_42.move 66 (.int .u64 (u : Int)) _ (Or.inl rfl) rfl (lb_ I0.size) (wanted_none rfl) ((fa0_42.at_ 7).trans h7) (fun a0_43 fa0_43 => ?_)
  clear fa0_42
  have r_a0_44 : (execOp a0_43.eval { dst := some 67, op := Op.binOp BinOp.mul 22 (Operand.tmp 66) (Operand.const (Value.int IntKind.u64 128)) 22, type := 22, pos := "ref.go:125", after := #[{ on := 0, ground := Ground.data }], guard := none }).run Try.prog (V) = .ok (.value (.int .u64 (u2 : Int))) (V) := by
    have kc : ∀ v, a0_43.eval (.const v) = v := fun _ => rfl
    have e66 := (show a0_43.eval (.tmp 66) = .int .u64 (u : Int) from (fa0_43.at_ 66))
    clear fa0_43 hQ h6 h7 h8 hr hsz hr2 d2 dd hv fv fV
    generalize a0_43.eval = ρ at *
    go_simp
  refine fa0_43.step 67 (.int .u64 (u2 : Int)) rfl (lb_ I0.size) (wanted_none rfl) r_a0_44 (fun a0_44 fa0_44 => ?_)
  clear r_a0_44
  clear fa0_43
  refine fa0_44.move 7 (.int .u64 (u2 : Int)) _ (Or.inr rfl) rfl (lb_ I0.size) (wanted_none rfl) (fa0_44.at_ 67) (fun a0_45 fa0_45 => ?_)
  clear fa0_44
  refine wpList_nil ?_
  change Code.wp _ _ _ _ _
  refine wp_seq ?_
  refine wp_region_list ?_
  unfold rHC18
  refine fa0_45.move 68 (.int .u64 (x : Int)) _ (Or.inl rfl) rfl (lb_ I0.size) (wanted_none rfl) (fa0_45.at_ 9) (fun a0_46 fa0_46 => ?_)
  clear fa0_45
  have r_a0_47 : (execOp a0_46.eval { dst := some 69, op := Op.binOp BinOp.lss 22 (Operand.tmp 68) (Operand.const (Value.int IntKind.u64 128)) 22, type := 4, pos := "ref.go:126", after := #[{ on := 0, ground := Ground.data }], guard := none }).run Try.prog (V) = .ok (.value (.bool true)) (V) := by
    have kc : ∀ v, a0_46.eval (.const v) = v := fun _ => rfl
    have e68 := (show a0_46.eval (.tmp 68) = .int .u64 (x : Int) from (fa0_46.at_ 68))
    clear fa0_46 hQ h6 h7 h8 hr hsz hr2 d2 dd hv fv fV
    generalize a0_46.eval = ρ at *
    go_simp
  refine fa0_46.step 69 (.bool true) rfl (lb_ I0.size) (wanted_none rfl) r_a0_47 (fun a0_47 fa0_47 => ?_)
  clear r_a0_47
  clear fa0_46
  refine wpList_nil ?_
  change Code.wp _ _ _ _ _
  refine wp_cond_true (show a0_47.eval (.tmp 69) = .bool true from (fa0_47.at_ 69)) (wp_seq (wp_seq ?_))
  refine wp_region_list ?_
  unfold rHC19
  refine fa0_47.move 70 (.int .u64 (x : Int)) _ (Or.inl rfl) rfl (lb_ I0.size) (wanted_none rfl) (fa0_47.at_ 9) (fun a0_48 fa0_48 => ?_)
  clear fa0_47
  have r_a0_49 : (execOp a0_48.eval { dst := some 71, op := Op.binOp BinOp.eql 22 (Operand.tmp 70) (Operand.const (Value.int IntKind.u64 0)) 22, type := 4, pos := "ref.go:127", after := #[{ on := 0, ground := Ground.data }], guard := none }).run Try.prog (V) = .ok (.value (.bool false)) (V) := by
    have kc : ∀ v, a0_48.eval (.const v) = v := fun _ => rfl
    have e70 := (show a0_48.eval (.tmp 70) = .int .u64 (x : Int) from (fa0_48.at_ 70))
    clear fa0_48 hQ h6 h7 h8 hr hsz hr2 d2 dd hv fv fV
    generalize a0_48.eval = ρ at *
    go_simp
  refine fa0_48.step 71 (.bool false) rfl (lb_ I0.size) (wanted_none rfl) r_a0_49 (fun a0_49 fa0_49 => ?_)
  clear r_a0_49
  clear fa0_48
  refine fa0_49.move 72 (.bool false) _ (Or.inl rfl) rfl (lb_ I0.size) (wanted_none rfl) (fa0_49.at_ 71) (fun a0_50 fa0_50 => ?_)
  clear fa0_49
  refine fa0_50.skip 73 rfl (lb_ I0.size) ((wanted_at (t := 72) (c := false) (b := true) rfl rfl rfl (lb_ (fa0_50.size.trans I0.size)) (fa0_50.at_ 72)).trans (by rfl)) (fun a0_51 fa0_51 => ?_)
  clear fa0_50
  refine fa0_51.skip 74 rfl (lb_ I0.size) ((wanted_at (t := 72) (c := false) (b := true) rfl rfl rfl (lb_ (fa0_51.size.trans I0.size)) (fa0_51.at_ 72)).trans (by rfl)) (fun a0_52 fa0_52 => ?_)
  clear fa0_51
  have r_a0_53 : (execOp a0_52.eval { dst := some 75, op := Op.pick (Operand.tmp 72) (Operand.tmp 74) (Operand.const (Value.bool false)), type := 4, pos := "ref.go:127", after := #[{ on := 2, ground := Ground.data }, { on := 4, ground := Ground.data }], guard := none }).run Try.prog (V) = .ok (.value (.bool false)) (V) := by
    have kc : ∀ v, a0_52.eval (.const v) = v := fun _ => rfl
    have e72 := (show a0_52.eval (.tmp 72) = .bool false from (fa0_52.at_ 72))
    have e74 := (show a0_52.eval (.tmp 74) = undef from (fa0_52.at_ 74))
    clear fa0_52 hQ h6 h7 h8 hr hsz hr2 d2 dd hv fv fV
    generalize a0_52.eval = ρ at *
    go_simp
  refine fa0_52.step 75 (.bool false) rfl (lb_ I0.size) (wanted_none rfl) r_a0_53 (fun a0_53 fa0_53 => ?_)
  clear r_a0_53
  clear fa0_52
  refine wpList_nil ?_
  change Code.wp _ _ _ _ _
  refine wp_cond_false (show a0_53.eval (.tmp 75) = .bool false from (fa0_53.at_ 75)) (wp_skip ?_)
  change Code.wp _ _ _ _ _
  refine wp_seq (wp_seq ?_)
  refine wp_region_list ?_
  unfold rHC22
  refine fa0_53.move 79 (.int .u64 (n2 : Int)) _ (Or.inl rfl) rfl (lb_ I0.size) (wanted_none rfl) (fa0_53.at_ 6) (fun a0_54 fa0_54 => ?_)
  clear fa0_53
  refine fa0_54.move 80 (.int .u64 (most : Int)) _ (Or.inl rfl) rfl (lb_ I0.size) (wanted_none rfl) ((fa0_54.at_ 1).trans I0.s1) (fun a0_55 fa0_55 => ?_)
  clear fa0_54
  have r_a0_56 : (execOp a0_55.eval { dst := some 81, op := Op.binOp BinOp.gtr 22 (Operand.tmp 79) (Operand.tmp 80) 22, type := 4, pos := "ref.go:131", after := #[{ on := 0, ground := Ground.data }, { on := 1, ground := Ground.data }], guard := none }).run Try.prog (V) = .ok (.value (.bool false)) (V) := by
    have e79 := (show a0_55.eval (.tmp 79) = .int .u64 (n2 : Int) from (fa0_55.at_ 79))
    have e80 := (show a0_55.eval (.tmp 80) = .int .u64 (most : Int) from (fa0_55.at_ 80))
    clear fa0_55 hQ h6 h7 h8 hr hsz hr2 d2 dd hv fv fV
    generalize a0_55.eval = ρ at *
    go_simp
  refine fa0_55.step 81 (.bool false) rfl (lb_ I0.size) (wanted_none rfl) r_a0_56 (fun a0_56 fa0_56 => ?_)
  clear r_a0_56
  clear fa0_55
  refine wpList_nil ?_
  change Code.wp _ _ _ _ _
  refine wp_cond_false (show a0_56.eval (.tmp 81) = .bool false from (fa0_56.at_ 81)) (wp_skip ?_)
  change Code.wp _ _ _ _ _
  refine wp_seq ?_
  refine wp_region_list ?_
  unfold rHC25
  refine fa0_56.move 85 (.int .u64 (n2 : Int)) _ (Or.inl rfl) rfl (lb_ I0.size) (wanted_none rfl) (fa0_56.at_ 6) (fun a0_57 fa0_57 => ?_)
  clear fa0_56
  refine fa0_57.move 4 (.int .u64 (n2 : Int)) _ (Or.inr rfl) rfl (lb_ I0.size) (wanted_none rfl) (fa0_57.at_ 85) (fun a0_58 fa0_58 => ?_)
  clear fa0_57
  refine wpList_nil ?_
  change Code.wp _ _ _ _ _
  refine wp_ret ?_
  exact hQ a0_58 V (fa0_58.defers.trans I0.defers) (show a0_58.eval (.tmp 4) = .int .u64 (n2 : Int) from (fa0_58.at_ 4)) hv fV
end Go.Proofs.Ytpcdpdagcigigaa
