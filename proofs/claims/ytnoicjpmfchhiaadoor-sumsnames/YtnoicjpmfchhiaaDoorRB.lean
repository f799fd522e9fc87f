/- Numbers of 64 bits in rows: the document's parts and wide. -/
import Derived.Test.YtnoicjpmfchhiaaDoorRA
namespace Go.Proofs.YtnoicjpmfchhiaaDoor
open Go.RowKit

/-- A step of a long product: the place, the two factors, what is carried. -/
def stepX (o x y c : Nat) : Nat := ((o + x * y % 18446744073709551616) % 18446744073709551616 + c) % 18446744073709551616
def inW (x : Nat) (b : List Nat) (i : Nat) : Nat → List Nat × Nat → List Nat × Nat
  | 0, s => s
  | k + 1, s => match inW x b i k s with
    | (o, c) => (o.set (i + k) (stepX (o.getD (i + k) 0) x (b.getD k 0) c % 4294967296), stepX (o.getD (i + k) 0) x (b.getD k 0) c / 4294967296)
def outW (a b : List Nat) : Nat → List Nat → List Nat
  | 0, o => o
  | i + 1, o => match inW (a.getD i 0) b i b.length (outW a b i o, 0) with
    | (o2, c) => o2.set (i + b.length) c
def wideN (a b : List Nat) : List Nat := outW a b a.length (List.replicate (a.length + b.length) 0)
def partsN (x : Nat) : List Nat := [x % 4294967296, x / 4294967296]
theorem inW_succ {x i k : Nat} {b : List Nat} {s : List Nat × Nat} {o : List Nat} {c : Nat} (h : inW x b i k s = (o, c)) : inW x b i (k + 1) s = (o.set (i + k) (stepX (o.getD (i + k) 0) x (b.getD k 0) c % 4294967296), stepX (o.getD (i + k) 0) x (b.getD k 0) c / 4294967296) := by
  unfold inW
  rw [h]
theorem outW_succ {i c : Nat} {a b o o2 : List Nat} (h : inW (a.getD i 0) b i b.length (outW a b i o, 0) = (o2, c)) : outW a b (i + 1) o = o2.set (i + b.length) c := by
  conv => lhs; unfold outW
  rw [h]
theorem inW_len {x i : Nat} {b : List Nat} {s : List Nat × Nat} : ∀ k, (inW x b i k s).1.length = s.1.length
  | 0 => rfl
  | k + 1 => by
    have := inW_len (x := x) (i := i) (b := b) (s := s) k
    obtain ⟨o, c, h⟩ : ∃ o c, inW x b i k s = (o, c) := ⟨_, _, rfl⟩
    rw [inW_succ h]
    rw [h] at this
    simpa using this
theorem outW_len {a b o : List Nat} : ∀ k, (outW a b k o).length = o.length
  | 0 => rfl
  | k + 1 => by
    obtain ⟨o2, c, h⟩ : ∃ o2 c, inW (a.getD k 0) b k b.length (outW a b k o, 0) = (o2, c) := ⟨_, _, rfl⟩
    rw [outW_succ h, List.length_set]
    have h1 := inW_len (x := a.getD k 0) (i := k) (b := b) (s := (outW a b k o, 0)) b.length
    rw [h] at h1
    rw [h1]
    exact outW_len k
theorem stepX_lt (o x y c : Nat) : stepX o x y c < 18446744073709551616 := Nat.mod_lt _ (by decide)
/-- The cells of numbers of 64 bits. -/
def vcells (l : List Nat) : List Value := l.map fun (x : Nat) => Value.int .u64 (x : Int)
theorem vcells_set (l : List Nat) (j v : Nat) : (vcells l).toArray.setIfInBounds j (.int .u64 (v : Int)) = (vcells (l.set j v)).toArray := by
  unfold vcells
  rw [List.setIfInBounds_toArray, List.map_set]
/-- A row of them at a block. -/
def WAt (w : World) (g : Nat) (l : List Nat) : Prop := w.heap[g]? = some (.cells (vcells l).toArray 39 (0, 0))
theorem WAt.same {w w' : World} {g : Nat} {l : List Nat} (h : WAt w g l) (s : Same w w') : WAt w' g l := heap_fr h s (fun f => f)
theorem WAt.cell {w : World} {g j : Nat} {l : List Nat} (h : WAt w g l) (hj : j < l.length) : w.cell? ⟨g, j, none⟩ = some (.int .u64 ((l.getD j 0 : Nat) : Int)) := by
  refine (cell_of_row _ _ _ _ _ _ h).trans ?_
  rw [List.getElem?_toArray]
  unfold vcells
  rw [List.getElem?_map, List.getD_eq_getElem?_getD, List.getElem?_eq_getElem hj]
  rfl
theorem WAt.put {w : World} {g j v : Nat} {l : List Nat} (h : WAt w g l) : WAt (w.setCell ⟨g, j, none⟩ (.int .u64 (v : Int))) g (l.set j v) := by
  have := heap_setCell_same w g j _ _ (.int .u64 (v : Int)) h
  rw [vcells_set] at this
  exact this
theorem m64 (x : Nat) : IntKind.u64.wrap ((x : Nat) : Int) = ((x % 18446744073709551616 : Nat) : Int) := by rw [IntKind.wrap_u64]; omega
theorem lo32 {x : Nat} (h : x < 18446744073709551616) : bits .and .u64 (x : Int) 4294967295 = ((x % 4294967296 : Nat) : Int) := by
  show IntKind.u64.wrap ((BitVec.ofInt 64 (x : Int) &&& BitVec.ofInt 64 4294967295).toNat : Int) = _
  have e1 : BitVec.ofInt 64 (x : Int) = BitVec.ofNat 64 x := by rw [BitVec.ofInt_natCast]
  have e2 : BitVec.ofInt 64 4294967295 = BitVec.ofNat 64 (2 ^ 32 - 1) := by decide
  rw [e1, e2, BitVec.toNat_and, BitVec.toNat_ofNat, BitVec.toNat_ofNat, Nat.mod_eq_of_lt (show x < 2 ^ 64 from h), Nat.mod_eq_of_lt (show 2 ^ 32 - 1 < 2 ^ 64 by decide), Nat.and_two_pow_sub_one_eq_mod]
  rw [IntKind.wrap_u64]
  omega
theorem Tryd.infU64 : (Tryd.prog.info? 39).map (fun i => (i.zero, i.size, i.bytes)) = some (some (.int .u64 0), 1, 8) := by kernel_rfl
theorem run_make64 (w : World) (n : Nat) (hn : n ≤ 1048576) : (Instr.makeSlice 36 (.int .i64 (n : Int)) (.int .i64 (n : Int))).run Tryd.prog w = .ok (.slice (some ⟨w.heap.size, 0, none⟩) n n) (w.alloc (.cells (vcells (List.replicate n 0)).toArray 39)) := by
  obtain ⟨i0, hi, hz0, hz1, hz2⟩ := info_parts Tryd.infU64
  have h := run_make (P := Tryd.prog) w 36 39 i0 (.int .u64 0) Tryd.underlying36 hi hz0 .i64 .i64 n n (by omega) (Int.le_refl _) (by rw [hz2]; omega) (by omega)
  rw [h, hz1, Int.toNat_natCast, Nat.mul_one]
  show Result.ok _ (w.alloc (.cells (madeCells #[Value.int .u64 0] n) _)) = _
  rw [madeCells_one]
  unfold vcells
  rw [List.map_replicate]
  rfl
def rRC0 : Array Oper := #[{ dst := some 2, op := Op.assign (Operand.const (Value.slice none 0 0)), type := 36, pos := "ref.go:125", after := #[], guard := none }]
def rRC1 : Array Oper := #[{ dst := some 3, op := Op.move (Operand.tmp 0), type := 39, pos := "ref.go:125", after := #[], guard := none },
  { dst := some 4, op := Op.binOp BinOp.and 39 (Operand.tmp 3) (Operand.const (Value.int IntKind.u64 4294967295)) 39, type := 39, pos := "ref.go:125", after := #[{ on := 0, ground := Ground.data }], guard := none },
  { dst := some 5, op := Op.move (Operand.tmp 0), type := 39, pos := "ref.go:125", after := #[], guard := none },
  { dst := some 6, op := Op.binOp BinOp.shr 39 (Operand.tmp 5) (Operand.const (Value.int IntKind.u64 32)) 48, type := 39, pos := "ref.go:125", after := #[{ on := 2, ground := Ground.data }], guard := none },
  { dst := some 7, op := Op.buildSlice 36 2 #[(0, Operand.tmp 4), (1, Operand.tmp 6)], type := 36, pos := "ref.go:125", after := #[{ on := 1, ground := Ground.data }, { on := 3, ground := Ground.data }], guard := none },
  { dst := some 2, op := Op.assign (Operand.tmp 7), type := 36, pos := "ref.go:125", after := #[{ on := 4, ground := Ground.data }, { on := 0, ground := Ground.phase }, { on := 1, ground := Ground.phase }, { on := 2, ground := Ground.phase }, { on := 3, ground := Ground.phase }, { on := 4, ground := Ground.phase }], guard := none }]
def cRC : Code := (Code.seq (Code.region 0 rRC0 false) (Code.seq (Code.region 1 rRC1 false) Code.ret))
set_option maxRecDepth 100000 in
set_option maxHeartbeats 1000000 in
theorem parts_calls {x : Nat} (w : World) (hx : x < 18446744073709551616) :
    Calls Tryd.prog 20 #[.int .u64 (x : Int)] w fun e w' => ∃ g c, e = .returned (.slice (some ⟨g, 0, none⟩) 2 c) ∧ WAt w' g (partsN x) ∧ w.heap.size ≤ g ∧ Same w w' := by
  refine calls_abs (c := cRC) Tryd.func20 (by kernel_rfl) 8 rfl (by simp) (fun a0 hsz hd ha => ?_)
  have fa0_0 := Fe.refl a0
  obtain ⟨p1, q1⟩ : ∃ m, m = x % 4294967296 := ⟨_, rfl⟩
  obtain ⟨p2, q2⟩ : ∃ m, m = x / 4294967296 := ⟨_, rfl⟩
  have h1 : bits .and .u64 (x : Int) 4294967295 = (p1 : Int) := by rw [q1]; exact lo32 hx
  have h2 : (x : Int) / 4294967296 = (p2 : Int) := by rw [q2]; omega
  unfold cRC
  refine wp_seq ?_
  refine wp_region_list ?_
  unfold rRC0
  refine fa0_0.move 2 (.slice none 0 0) _ (Or.inr rfl) rfl (lb_ hsz) (wanted_none rfl) rfl (fun a0_1 fa0_1 => ?_)
  clear fa0_0
  refine wpList_nil ?_
  change Code.wp _ _ _ _ _
  refine wp_seq ?_
  refine wp_region_list ?_
  unfold rRC1
  refine fa0_1.move 3 (.int .u64 (x : Int)) _ (Or.inl rfl) rfl (lb_ hsz) (wanted_none rfl) ((fa0_1.at_ 0).trans (ha 0 _ rfl)) (fun a0_2 fa0_2 => ?_)
  clear fa0_1
  have r_a0_3 : (execOp a0_2.eval { dst := some 4, op := Op.binOp BinOp.and 39 (Operand.tmp 3) (Operand.const (Value.int IntKind.u64 4294967295)) 39, type := 39, pos := "ref.go:125", after := #[{ on := 0, ground := Ground.data }], guard := none }).run Tryd.prog (w) = .ok (.value (.int .u64 (p1 : Int))) (w) := by
    have kc : ∀ v, a0_2.eval (.const v) = v := fun _ => rfl
    have e3 := (show a0_2.eval (.tmp 3) = .int .u64 (x : Int) from (fa0_2.at_ 3))
    clear fa0_2 ha q1 q2 hx
    generalize a0_2.eval = ρ at *
    go_simp
  refine fa0_2.step 4 (.int .u64 (p1 : Int)) rfl (lb_ hsz) (wanted_none rfl) r_a0_3 (fun a0_3 fa0_3 => ?_)
  clear r_a0_3
  clear fa0_2
  refine fa0_3.move 5 (.int .u64 (x : Int)) _ (Or.inl rfl) rfl (lb_ hsz) (wanted_none rfl) ((fa0_3.at_ 0).trans (ha 0 _ rfl)) (fun a0_4 fa0_4 => ?_)
  clear fa0_3
  have r_a0_5 : (execOp a0_4.eval { dst := some 6, op := Op.binOp BinOp.shr 39 (Operand.tmp 5) (Operand.const (Value.int IntKind.u64 32)) 48, type := 39, pos := "ref.go:125", after := #[{ on := 2, ground := Ground.data }], guard := none }).run Tryd.prog (w) = .ok (.value (.int .u64 (p2 : Int))) (w) := by
    have kc : ∀ v, a0_4.eval (.const v) = v := fun _ => rfl
    have e5 := (show a0_4.eval (.tmp 5) = .int .u64 (x : Int) from (fa0_4.at_ 5))
    clear fa0_4 ha q1 q2 hx
    generalize a0_4.eval = ρ at *
    go_simp
  refine fa0_4.step 6 (.int .u64 (p2 : Int)) rfl (lb_ hsz) (wanted_none rfl) r_a0_5 (fun a0_5 fa0_5 => ?_)
  clear r_a0_5
  clear fa0_4
  have r_a0_6 : (execOp a0_5.eval { dst := some 7, op := Op.buildSlice 36 2 #[(0, Operand.tmp 4), (1, Operand.tmp 6)], type := 36, pos := "ref.go:125", after := #[{ on := 1, ground := Ground.data }, { on := 3, ground := Ground.data }], guard := none }).run Tryd.prog (w) = .ok (.value (.slice (some ⟨w.heap.size, 0, none⟩) 2 2)) (World.alloc w (.cells #[.int .u64 (p1 : Int), .int .u64 (p2 : Int)] 39)) := by
    have e4 := (show a0_5.eval (.tmp 4) = .int .u64 (p1 : Int) from (fa0_5.at_ 4))
    have e6 := (show a0_5.eval (.tmp 6) = .int .u64 (p2 : Int) from (fa0_5.at_ 6))
    clear fa0_5 ha q1 q2 hx
    generalize a0_5.eval = ρ at *
    go_simp
  refine fa0_5.stepW 7 (.slice (some ⟨w.heap.size, 0, none⟩) 2 2) rfl (lb_ hsz) (wanted_none rfl) r_a0_6 (fun a0_6 fa0_6 => ?_)
  clear r_a0_6
  clear fa0_5
  refine fa0_6.move 2 (.slice (some ⟨w.heap.size, 0, none⟩) 2 2) _ (Or.inr rfl) rfl (lb_ hsz) (wanted_none rfl) (fa0_6.at_ 7) (fun a0_7 fa0_7 => ?_)
  clear fa0_6
  refine wpList_nil ?_
  change Code.wp _ _ _ _ _
  refine wp_ret ?_
  exact ret_abs rfl (fa0_7.defers.trans hd) (show a0_7.eval (.tmp 2) = .slice (some ⟨w.heap.size, 0, none⟩) 2 2 from (fa0_7.at_ 2)) ⟨_, _, rfl, by rw [show partsN x = [p1, p2] by rw [q1, q2]; rfl]; exact heap_alloc_new w (.cells #[.int .u64 (p1 : Int), .int .u64 (p2 : Int)] 39), Nat.le_refl _, (Fr.refl _ w).alloc _⟩
def rRB0 : Array Oper := #[{ dst := some 4, op := Op.assign (Operand.const (Value.slice none 0 0)), type := 36, pos := "ref.go:92", after := #[], guard := none }]
def rRB1 : Array Oper := #[{ dst := some 10, op := Op.move (Operand.tmp 0), type := 36, pos := "ref.go:93", after := #[], guard := none },
  { dst := some 11, op := Op.call { callee := Callee.builtin Builtin.len, args := #[Operand.tmp 10], argTypes := #[36] }, type := 3, pos := "ref.go:93", after := #[{ on := 0, ground := Ground.data }], guard := none },
  { dst := some 12, op := Op.move (Operand.tmp 1), type := 36, pos := "ref.go:93", after := #[], guard := none },
  { dst := some 13, op := Op.call { callee := Callee.builtin Builtin.len, args := #[Operand.tmp 12], argTypes := #[36] }, type := 3, pos := "ref.go:93", after := #[{ on := 2, ground := Ground.data }], guard := none },
  { dst := some 14, op := Op.binOp BinOp.add 3 (Operand.tmp 11) (Operand.tmp 13) 3, type := 3, pos := "ref.go:93", after := #[{ on := 1, ground := Ground.data }, { on := 3, ground := Ground.data }], guard := none },
  { dst := some 15, op := Op.makeSlice 36 (Operand.tmp 14) (Operand.tmp 14), type := 36, pos := "ref.go:93", after := #[{ on := 4, ground := Ground.data }, { on := 4, ground := Ground.data }], guard := none },
  { dst := some 5, op := Op.assign (Operand.tmp 15), type := 36, pos := "ref.go:93", after := #[{ on := 5, ground := Ground.data }, { on := 0, ground := Ground.phase }, { on := 1, ground := Ground.phase }, { on := 2, ground := Ground.phase }, { on := 3, ground := Ground.phase }, { on := 4, ground := Ground.phase }, { on := 5, ground := Ground.phase }], guard := none }]
def rRB2 : Array Oper := #[{ dst := some 6, op := Op.assign (Operand.const (Value.int IntKind.i64 0)), type := 3, pos := "ref.go:94", after := #[], guard := none }]
def rRB3 : Array Oper := #[{ dst := some 16, op := Op.move (Operand.tmp 6), type := 3, pos := "ref.go:94", after := #[], guard := none },
  { dst := some 17, op := Op.move (Operand.tmp 0), type := 36, pos := "ref.go:94", after := #[], guard := none },
  { dst := some 18, op := Op.call { callee := Callee.builtin Builtin.len, args := #[Operand.tmp 17], argTypes := #[36] }, type := 3, pos := "ref.go:94", after := #[{ on := 1, ground := Ground.data }], guard := none },
  { dst := some 19, op := Op.binOp BinOp.lss 3 (Operand.tmp 16) (Operand.tmp 18) 3, type := 4, pos := "ref.go:94", after := #[{ on := 0, ground := Ground.data }, { on := 2, ground := Ground.data }], guard := none }]
def rRB4 : Array Oper := #[{ dst := some 20, op := Op.move (Operand.tmp 6), type := 3, pos := "ref.go:94", after := #[], guard := none },
  { dst := some 21, op := Op.binOp BinOp.add 3 (Operand.tmp 20) (Operand.const (Value.int IntKind.i64 1)) 3, type := 3, pos := "ref.go:94", after := #[{ on := 0, ground := Ground.data }], guard := none },
  { dst := some 6, op := Op.assign (Operand.tmp 21), type := 3, pos := "ref.go:94", after := #[{ on := 1, ground := Ground.data }, { on := 0, ground := Ground.phase }, { on := 1, ground := Ground.phase }], guard := none }]
def rRB5 : Array Oper := #[{ dst := some 7, op := Op.assign (Operand.const (Value.int IntKind.u64 0)), type := 39, pos := "ref.go:95", after := #[], guard := none }]
def rRB6 : Array Oper := #[{ dst := some 8, op := Op.assign (Operand.const (Value.int IntKind.i64 0)), type := 3, pos := "ref.go:96", after := #[], guard := none }]
def rRB7 : Array Oper := #[{ dst := some 22, op := Op.move (Operand.tmp 8), type := 3, pos := "ref.go:96", after := #[], guard := none },
  { dst := some 23, op := Op.move (Operand.tmp 1), type := 36, pos := "ref.go:96", after := #[], guard := none },
  { dst := some 24, op := Op.call { callee := Callee.builtin Builtin.len, args := #[Operand.tmp 23], argTypes := #[36] }, type := 3, pos := "ref.go:96", after := #[{ on := 1, ground := Ground.data }], guard := none },
  { dst := some 25, op := Op.binOp BinOp.lss 3 (Operand.tmp 22) (Operand.tmp 24) 3, type := 4, pos := "ref.go:96", after := #[{ on := 0, ground := Ground.data }, { on := 2, ground := Ground.data }], guard := none }]
def rRB8 : Array Oper := #[{ dst := some 26, op := Op.move (Operand.tmp 8), type := 3, pos := "ref.go:96", after := #[], guard := none },
  { dst := some 27, op := Op.binOp BinOp.add 3 (Operand.tmp 26) (Operand.const (Value.int IntKind.i64 1)) 3, type := 3, pos := "ref.go:96", after := #[{ on := 0, ground := Ground.data }], guard := none },
  { dst := some 8, op := Op.assign (Operand.tmp 27), type := 3, pos := "ref.go:96", after := #[{ on := 1, ground := Ground.data }, { on := 0, ground := Ground.phase }, { on := 1, ground := Ground.phase }], guard := none }]
def rRB9 : Array Oper := #[{ dst := some 28, op := Op.move (Operand.tmp 5), type := 36, pos := "ref.go:97", after := #[], guard := none },
  { dst := some 29, op := Op.move (Operand.tmp 6), type := 3, pos := "ref.go:97", after := #[], guard := none },
  { dst := some 30, op := Op.move (Operand.tmp 8), type := 3, pos := "ref.go:97", after := #[], guard := none },
  { dst := some 31, op := Op.binOp BinOp.add 3 (Operand.tmp 29) (Operand.tmp 30) 3, type := 3, pos := "ref.go:97", after := #[{ on := 1, ground := Ground.data }, { on := 2, ground := Ground.data }], guard := none },
  { dst := some 32, op := Op.indexAddr 36 (Operand.tmp 28) (Operand.tmp 31), type := 0, pos := "ref.go:97", after := #[{ on := 0, ground := Ground.data }, { on := 3, ground := Ground.data }], guard := none },
  { dst := some 33, op := Op.load 39 (Operand.tmp 32), type := 39, pos := "ref.go:97", after := #[{ on := 4, ground := Ground.data }], guard := none },
  { dst := some 34, op := Op.move (Operand.tmp 0), type := 36, pos := "ref.go:97", after := #[], guard := none },
  { dst := some 35, op := Op.move (Operand.tmp 6), type := 3, pos := "ref.go:97", after := #[], guard := none },
  { dst := some 36, op := Op.indexAddr 36 (Operand.tmp 34) (Operand.tmp 35), type := 0, pos := "ref.go:97", after := #[{ on := 6, ground := Ground.data }, { on := 7, ground := Ground.data }], guard := none },
  { dst := some 37, op := Op.load 39 (Operand.tmp 36), type := 39, pos := "ref.go:97", after := #[{ on := 8, ground := Ground.data }], guard := none },
  { dst := some 38, op := Op.move (Operand.tmp 1), type := 36, pos := "ref.go:97", after := #[], guard := none },
  { dst := some 39, op := Op.move (Operand.tmp 8), type := 3, pos := "ref.go:97", after := #[], guard := none },
  { dst := some 40, op := Op.indexAddr 36 (Operand.tmp 38) (Operand.tmp 39), type := 0, pos := "ref.go:97", after := #[{ on := 10, ground := Ground.data }, { on := 11, ground := Ground.data }], guard := none },
  { dst := some 41, op := Op.load 39 (Operand.tmp 40), type := 39, pos := "ref.go:97", after := #[{ on := 12, ground := Ground.data }], guard := none },
  { dst := some 42, op := Op.binOp BinOp.mul 39 (Operand.tmp 37) (Operand.tmp 41) 39, type := 39, pos := "ref.go:97", after := #[{ on := 9, ground := Ground.data }, { on := 13, ground := Ground.data }], guard := none },
  { dst := some 43, op := Op.binOp BinOp.add 39 (Operand.tmp 33) (Operand.tmp 42) 39, type := 39, pos := "ref.go:97", after := #[{ on := 5, ground := Ground.data }, { on := 14, ground := Ground.data }], guard := none },
  { dst := some 44, op := Op.move (Operand.tmp 7), type := 39, pos := "ref.go:97", after := #[], guard := none },
  { dst := some 45, op := Op.binOp BinOp.add 39 (Operand.tmp 43) (Operand.tmp 44) 39, type := 39, pos := "ref.go:97", after := #[{ on := 15, ground := Ground.data }, { on := 16, ground := Ground.data }], guard := none },
  { dst := some 9, op := Op.assign (Operand.tmp 45), type := 39, pos := "ref.go:97", after := #[{ on := 17, ground := Ground.data }, { on := 0, ground := Ground.phase }, { on := 1, ground := Ground.phase }, { on := 2, ground := Ground.phase }, { on := 3, ground := Ground.phase }, { on := 4, ground := Ground.phase }, { on := 5, ground := Ground.phase }, { on := 6, ground := Ground.phase }, { on := 7, ground := Ground.phase }, { on := 8, ground := Ground.phase }, { on := 9, ground := Ground.phase }, { on := 10, ground := Ground.phase }, { on := 11, ground := Ground.phase }, { on := 12, ground := Ground.phase }, { on := 13, ground := Ground.phase }, { on := 14, ground := Ground.phase }, { on := 15, ground := Ground.phase }, { on := 16, ground := Ground.phase }, { on := 17, ground := Ground.phase }], guard := none }]
def rRB10 : Array Oper := #[{ dst := some 46, op := Op.move (Operand.tmp 5), type := 36, pos := "ref.go:98", after := #[], guard := none },
  { dst := some 47, op := Op.move (Operand.tmp 6), type := 3, pos := "ref.go:98", after := #[], guard := none },
  { dst := some 48, op := Op.move (Operand.tmp 8), type := 3, pos := "ref.go:98", after := #[], guard := none },
  { dst := some 49, op := Op.binOp BinOp.add 3 (Operand.tmp 47) (Operand.tmp 48) 3, type := 3, pos := "ref.go:98", after := #[{ on := 1, ground := Ground.data }, { on := 2, ground := Ground.data }], guard := none },
  { dst := some 50, op := Op.move (Operand.tmp 9), type := 39, pos := "ref.go:98", after := #[], guard := none },
  { dst := some 51, op := Op.binOp BinOp.and 39 (Operand.tmp 50) (Operand.const (Value.int IntKind.u64 4294967295)) 39, type := 39, pos := "ref.go:98", after := #[{ on := 4, ground := Ground.data }], guard := none },
  { dst := some 52, op := Op.indexAddr 36 (Operand.tmp 46) (Operand.tmp 49), type := 0, pos := "ref.go:98", after := #[{ on := 0, ground := Ground.data }, { on := 3, ground := Ground.data }, { on := 0, ground := Ground.phase }, { on := 1, ground := Ground.phase }, { on := 2, ground := Ground.phase }, { on := 3, ground := Ground.phase }, { on := 4, ground := Ground.phase }, { on := 5, ground := Ground.phase }], guard := none },
  { dst := none, op := Op.store 39 (Operand.tmp 52) (Operand.tmp 51), type := 0, pos := "ref.go:98", after := #[{ on := 6, ground := Ground.data }, { on := 5, ground := Ground.data }, { on := 0, ground := Ground.phase }, { on := 1, ground := Ground.phase }, { on := 2, ground := Ground.phase }, { on := 3, ground := Ground.phase }, { on := 4, ground := Ground.phase }, { on := 5, ground := Ground.phase }], guard := none }]
def rRB11 : Array Oper := #[{ dst := some 53, op := Op.move (Operand.tmp 9), type := 39, pos := "ref.go:99", after := #[], guard := none },
  { dst := some 54, op := Op.binOp BinOp.shr 39 (Operand.tmp 53) (Operand.const (Value.int IntKind.u64 32)) 48, type := 39, pos := "ref.go:99", after := #[{ on := 0, ground := Ground.data }], guard := none },
  { dst := some 7, op := Op.assign (Operand.tmp 54), type := 39, pos := "ref.go:99", after := #[{ on := 1, ground := Ground.data }, { on := 0, ground := Ground.phase }, { on := 1, ground := Ground.phase }], guard := none }]
def rRB12 : Array Oper := #[{ dst := some 55, op := Op.move (Operand.tmp 5), type := 36, pos := "ref.go:101", after := #[], guard := none },
  { dst := some 56, op := Op.move (Operand.tmp 6), type := 3, pos := "ref.go:101", after := #[], guard := none },
  { dst := some 57, op := Op.move (Operand.tmp 1), type := 36, pos := "ref.go:101", after := #[], guard := none },
  { dst := some 58, op := Op.call { callee := Callee.builtin Builtin.len, args := #[Operand.tmp 57], argTypes := #[36] }, type := 3, pos := "ref.go:101", after := #[{ on := 2, ground := Ground.data }], guard := none },
  { dst := some 59, op := Op.binOp BinOp.add 3 (Operand.tmp 56) (Operand.tmp 58) 3, type := 3, pos := "ref.go:101", after := #[{ on := 1, ground := Ground.data }, { on := 3, ground := Ground.data }], guard := none },
  { dst := some 60, op := Op.move (Operand.tmp 7), type := 39, pos := "ref.go:101", after := #[], guard := none },
  { dst := some 61, op := Op.indexAddr 36 (Operand.tmp 55) (Operand.tmp 59), type := 0, pos := "ref.go:101", after := #[{ on := 0, ground := Ground.data }, { on := 4, ground := Ground.data }, { on := 0, ground := Ground.phase }, { on := 1, ground := Ground.phase }, { on := 2, ground := Ground.phase }, { on := 3, ground := Ground.phase }, { on := 4, ground := Ground.phase }, { on := 5, ground := Ground.phase }], guard := none },
  { dst := none, op := Op.store 39 (Operand.tmp 61) (Operand.tmp 60), type := 0, pos := "ref.go:101", after := #[{ on := 6, ground := Ground.data }, { on := 5, ground := Ground.data }, { on := 0, ground := Ground.phase }, { on := 1, ground := Ground.phase }, { on := 2, ground := Ground.phase }, { on := 3, ground := Ground.phase }, { on := 4, ground := Ground.phase }, { on := 5, ground := Ground.phase }], guard := none }]
def rRB13 : Array Oper := #[{ dst := some 62, op := Op.move (Operand.tmp 5), type := 36, pos := "ref.go:103", after := #[], guard := none },
  { dst := some 4, op := Op.assign (Operand.tmp 62), type := 36, pos := "ref.go:103", after := #[{ on := 0, ground := Ground.data }, { on := 0, ground := Ground.phase }], guard := none }]
def cRB2 : Code := (Code.seq (Code.seq (Code.region 7 rRB7 false) (Code.cond (Operand.tmp 25) Code.skip (Code.exit 2))) (Code.seq (Code.block 3 (Code.seq (Code.region 9 rRB9 true) (Code.seq (Code.region 10 rRB10 false) (Code.region 11 rRB11 false)))) (Code.region 8 rRB8 false)))
def cRB1 : Code := (Code.seq (Code.seq (Code.region 3 rRB3 false) (Code.cond (Operand.tmp 19) Code.skip (Code.exit 0))) (Code.seq (Code.block 1 (Code.seq (Code.region 5 rRB5 false) (Code.seq (Code.seq (Code.region 6 rRB6 false) (Code.block 2 (Code.loop cRB2))) (Code.region 12 rRB12 false)))) (Code.region 4 rRB4 false)))
def cRB : Code := (Code.seq (Code.region 0 rRB0 false) (Code.seq (Code.region 1 rRB1 false) (Code.seq (Code.seq (Code.region 2 rRB2 false) (Code.block 0 (Code.loop cRB1))) (Code.seq (Code.region 13 rRB13 false) Code.ret))))
structure IRB (v0 v1 v5 : Value) (a : Act) : Prop where
  size : a.tmps.size = 63
  defers : a.defers = []
  s0 : a.eval (.tmp 0) = v0
  s1 : a.eval (.tmp 1) = v1
  s5 : a.eval (.tmp 5) = v5
theorem IRB.keep {v0 v1 v5 : Value} {a0 a : Act} {env : List (Nat × Value)} (h : IRB v0 v1 v5 a0) (f : Fe a0 env a) (h0 : look env 0 (a0.eval (.tmp 0)) = a0.eval (.tmp 0)) (h1 : look env 1 (a0.eval (.tmp 1)) = a0.eval (.tmp 1)) (h5 : look env 5 (a0.eval (.tmp 5)) = a0.eval (.tmp 5)) : IRB v0 v1 v5 a :=
  ⟨f.size.trans h.size, f.defers.trans h.defers, ((f.at_ 0).trans h0).trans h.s0, ((f.at_ 1).trans h1).trans h.s1, ((f.at_ 5).trans h5).trans h.s5⟩
theorem rb2E {ga gb go ca cb co n : Nat} {la lb : List Nat} {Q : Exit → Act → World → Prop} {i k c : Nat} (a0 : Act) (wr : World) (I0 : IRB (.slice (some ⟨ga, 0, none⟩) la.length ca) (.slice (some ⟨gb, 0, none⟩) lb.length cb) (.slice (some ⟨go, 0, none⟩) n co) a0) (h6 : a0.eval (.tmp 6) = .int .i64 (i : Int)) (h7 : a0.eval (.tmp 7) = .int .u64 ((c : Nat) : Int)) (h8 : a0.eval (.tmp 8) = .int .i64 (k : Int)) (hk : lb.length ≤ k) (hQ : ∀ a, IRB (.slice (some ⟨ga, 0, none⟩) la.length ca) (.slice (some ⟨gb, 0, none⟩) lb.length cb) (.slice (some ⟨go, 0, none⟩) n co) a → a.eval (.tmp 6) = .int .i64 (i : Int) → a.eval (.tmp 7) = .int .u64 ((c : Nat) : Int) → Q (.exit 2) a wr) : cRB2.wp Tryd.prog Q a0 wr := by
  have hii : ¬ (k : Int) < (lb.length : Int) := by omega
  have hid : decide ((k : Int) < (lb.length : Int)) = false := decide_eq_false hii
  clear hk
  have fa0_0 := Fe.refl a0
  unfold cRB2
  refine wp_seq (wp_seq ?_)
  refine wp_region_list ?_
  unfold rRB7
  refine fa0_0.move 22 (.int .i64 (k : Int)) _ (Or.inl rfl) rfl (lb_ I0.size) (wanted_none rfl) ((fa0_0.at_ 8).trans h8) (fun a0_1 fa0_1 => ?_)
  clear fa0_0
  refine fa0_1.move 23 (.slice (some ⟨gb, 0, none⟩) lb.length cb) _ (Or.inl rfl) rfl (lb_ I0.size) (wanted_none rfl) ((fa0_1.at_ 1).trans I0.s1) (fun a0_2 fa0_2 => ?_)
  clear fa0_1
  have r_a0_3 : (execOp a0_2.eval { dst := some 24, op := Op.call { callee := Callee.builtin Builtin.len, args := #[Operand.tmp 23], argTypes := #[36] }, type := 3, pos := "ref.go:96", after := #[{ on := 1, ground := Ground.data }], guard := none }).run Tryd.prog (wr) = .ok (.value (.int .i64 (lb.length : Int))) (wr) := by
    have e23 := (show a0_2.eval (.tmp 23) = .slice (some ⟨gb, 0, none⟩) lb.length cb from (fa0_2.at_ 23))
    clear fa0_2 hQ h6 h7 h8
    generalize a0_2.eval = ρ at *
    go_simp
  refine fa0_2.step 24 (.int .i64 (lb.length : Int)) rfl (lb_ I0.size) (wanted_none rfl) r_a0_3 (fun a0_3 fa0_3 => ?_)
  clear r_a0_3
  clear fa0_2
  have r_a0_4 : (execOp a0_3.eval { dst := some 25, op := Op.binOp BinOp.lss 3 (Operand.tmp 22) (Operand.tmp 24) 3, type := 4, pos := "ref.go:96", after := #[{ on := 0, ground := Ground.data }, { on := 2, ground := Ground.data }], guard := none }).run Tryd.prog (wr) = .ok (.value (.bool false)) (wr) := by
    have e22 := (show a0_3.eval (.tmp 22) = .int .i64 (k : Int) from (fa0_3.at_ 22))
    have e24 := (show a0_3.eval (.tmp 24) = .int .i64 (lb.length : Int) from (fa0_3.at_ 24))
    clear fa0_3 hQ h6 h7 h8
    generalize a0_3.eval = ρ at *
    go_simp
  refine fa0_3.step 25 (.bool false) rfl (lb_ I0.size) (wanted_none rfl) r_a0_4 (fun a0_4 fa0_4 => ?_)
  clear r_a0_4
  clear fa0_3
  refine wpList_nil ?_
  change Code.wp _ _ _ _ _
  refine wp_cond_false (show a0_4.eval (.tmp 25) = .bool false from (fa0_4.at_ 25)) (wp_exit ?_)
  exact hQ a0_4 (I0.keep fa0_4 rfl rfl rfl) (show a0_4.eval (.tmp 6) = .int .i64 (i : Int) from ((fa0_4.at_ 6).trans h6)) (show a0_4.eval (.tmp 7) = .int .u64 ((c : Nat) : Int) from ((fa0_4.at_ 7).trans h7))
set_option maxRecDepth 100000 in
set_option maxHeartbeats 1000000 in
theorem rb2R {ga gb go ca cb co n : Nat} {la lb : List Nat} {Q : Exit → Act → World → Prop} {i k c : Nat} {o : List Nat} (hQp : ∀ c (a : Act) d v w, Q (.panic c) (a.put d v) w → Q (.panic c) a w) (a0 : Act) (wr : World) (I0 : IRB (.slice (some ⟨ga, 0, none⟩) la.length ca) (.slice (some ⟨gb, 0, none⟩) lb.length cb) (.slice (some ⟨go, 0, none⟩) n co) a0) (h6 : a0.eval (.tmp 6) = .int .i64 (i : Int)) (h7 : a0.eval (.tmp 7) = .int .u64 ((c : Nat) : Int)) (h8 : a0.eval (.tmp 8) = .int .i64 (k : Int)) (hi : i < la.length) (hk : k < lb.length) (hn : n = la.length + lb.length) (hol : o.length = n) (hsm : n ≤ 1000) (ro : WAt wr go o) (ra : WAt wr ga la) (rb : WAt wr gb lb)
    (hQ : ∀ a W, IRB (.slice (some ⟨ga, 0, none⟩) la.length ca) (.slice (some ⟨gb, 0, none⟩) lb.length cb) (.slice (some ⟨go, 0, none⟩) n co) a → a.eval (.tmp 6) = .int .i64 (i : Int) → a.eval (.tmp 7) = .int .u64 ((stepX (o.getD (i + k) 0) (la.getD i 0) (lb.getD k 0) c / 4294967296 : Nat) : Int) → a.eval (.tmp 8) = .int .i64 ((k : Int) + 1) → WAt W go (o.set (i + k) (stepX (o.getD (i + k) 0) (la.getD i 0) (lb.getD k 0) c % 4294967296)) → Fr (fun b => b = go) wr W → Q .normal a W) : cRB2.wp Tryd.prog Q a0 wr := by
  have hii : (k : Int) < (lb.length : Int) := by omega
  have w1 : IntKind.i64.wrap ((k : Int) + 1) = (k : Int) + 1 := by rw [IntKind.wrap_i64]; omega
  have fa0_0 := Fe.refl a0
  unfold cRB2
  refine wp_seq (wp_seq ?_)
  refine wp_region_list ?_
  unfold rRB7
  refine fa0_0.move 22 (.int .i64 (k : Int)) _ (Or.inl rfl) rfl (lb_ I0.size) (wanted_none rfl) ((fa0_0.at_ 8).trans h8) (fun a0_1 fa0_1 => ?_)
  clear fa0_0
  refine fa0_1.move 23 (.slice (some ⟨gb, 0, none⟩) lb.length cb) _ (Or.inl rfl) rfl (lb_ I0.size) (wanted_none rfl) ((fa0_1.at_ 1).trans I0.s1) (fun a0_2 fa0_2 => ?_)
  clear fa0_1
  have r_a0_3 : (execOp a0_2.eval { dst := some 24, op := Op.call { callee := Callee.builtin Builtin.len, args := #[Operand.tmp 23], argTypes := #[36] }, type := 3, pos := "ref.go:96", after := #[{ on := 1, ground := Ground.data }], guard := none }).run Tryd.prog (wr) = .ok (.value (.int .i64 (lb.length : Int))) (wr) := by
    have e23 := (show a0_2.eval (.tmp 23) = .slice (some ⟨gb, 0, none⟩) lb.length cb from (fa0_2.at_ 23))
    clear fa0_2 hQ h6 h7 h8 ro ra rb
    generalize a0_2.eval = ρ at *
    go_simp
  refine fa0_2.step 24 (.int .i64 (lb.length : Int)) rfl (lb_ I0.size) (wanted_none rfl) r_a0_3 (fun a0_3 fa0_3 => ?_)
  clear r_a0_3
  clear fa0_2
  have r_a0_4 : (execOp a0_3.eval { dst := some 25, op := Op.binOp BinOp.lss 3 (Operand.tmp 22) (Operand.tmp 24) 3, type := 4, pos := "ref.go:96", after := #[{ on := 0, ground := Ground.data }, { on := 2, ground := Ground.data }], guard := none }).run Tryd.prog (wr) = .ok (.value (.bool true)) (wr) := by
    have e22 := (show a0_3.eval (.tmp 22) = .int .i64 (k : Int) from (fa0_3.at_ 22))
    have e24 := (show a0_3.eval (.tmp 24) = .int .i64 (lb.length : Int) from (fa0_3.at_ 24))
    clear fa0_3 hQ h6 h7 h8 ro ra rb
    generalize a0_3.eval = ρ at *
    go_simp
  refine fa0_3.step 25 (.bool true) rfl (lb_ I0.size) (wanted_none rfl) r_a0_4 (fun a0_4 fa0_4 => ?_)
  clear r_a0_4
  clear fa0_3
  refine wpList_nil ?_
  change Code.wp _ _ _ _ _
  refine wp_cond_true (show a0_4.eval (.tmp 25) = .bool true from (fa0_4.at_ 25)) (wp_skip ?_)
  change Code.wp _ _ _ _ _
  refine wp_seq (wp_block (wp_seq ?_))
  have dd : Same wr wr.drew := (Fr.refl (fun _ => False) wr).drew
  have k1 := ro.cell (j := i + k) (by omega)
  have k2 := ra.cell (j := i) (by omega)
  have k3 := rb.cell (j := k) (by omega)
  obtain ⟨ik, hik⟩ : ∃ m, m = i + k := ⟨_, rfl⟩
  have wk : IntKind.i64.wrap ((i : Int) + (k : Int)) = (ik : Int) := by rw [IntKind.wrap_i64]; omega
  have ikn : (ik : Int) < (n : Int) := by omega
  rw [← hik] at k1
  obtain ⟨o1, ho1⟩ : ∃ o1, o1 = o.getD ik 0 := ⟨_, rfl⟩
  obtain ⟨x, hx⟩ : ∃ x, x = la.getD i 0 := ⟨_, rfl⟩
  obtain ⟨y, hy⟩ : ∃ y, y = lb.getD k 0 := ⟨_, rfl⟩
  rw [← ho1] at k1
  rw [← hx] at k2
  rw [← hy] at k3
  obtain ⟨p1, q1⟩ : ∃ m, m = x * y % 18446744073709551616 := ⟨_, rfl⟩
  obtain ⟨p2, q2⟩ : ∃ m, m = (o1 + p1) % 18446744073709551616 := ⟨_, rfl⟩
  obtain ⟨p3, q3⟩ : ∃ m, m = (p2 + c) % 18446744073709551616 := ⟨_, rfl⟩
  have p3l : p3 < 18446744073709551616 := by rw [q3]; exact Nat.mod_lt _ (by decide)
  obtain ⟨p4, q4⟩ : ∃ m, m = p3 % 4294967296 := ⟨_, rfl⟩
  obtain ⟨p5, q5⟩ : ∃ m, m = p3 / 4294967296 := ⟨_, rfl⟩
  have e1 : IntKind.u64.wrap ((x : Int) * (y : Int)) = (p1 : Int) := by rw [q1, ← Int.natCast_mul]; exact m64 _
  have e2 : IntKind.u64.wrap ((o1 : Int) + (p1 : Int)) = (p2 : Int) := by rw [q2, ← Int.natCast_add]; exact m64 _
  have e3 : IntKind.u64.wrap ((p2 : Int) + (c : Int)) = (p3 : Int) := by rw [q3, ← Int.natCast_add]; exact m64 _
  have e4 : bits .and .u64 (p3 : Int) 4294967295 = (p4 : Int) := by rw [q4]; exact lo32 p3l
  have e5 : (p3 : Int) / 4294967296 = (p5 : Int) := by rw [q5]; omega
  clear hn
  refine wp_region_held_drew (ops := rRB9) (S := fun Z => Same wr Z) (by kernel_rfl) (dd) (fun hS4 => ?_)
  refine fa0_4.takeMove 0 28 (.slice (some ⟨go, 0, none⟩) n co) _ (Or.inl rfl) rfl (by kernel_rfl) (by kernel_rfl) (by kernel_rfl) (fun _ _ _ h => hQp _ _ _ _ _ h) rfl (lb_ I0.size) (wanted_none rfl) ((fa0_4.at_ 5).trans I0.s5) hS4 (fun a0_5 fa0_5 => ?_)
  clear fa0_4
  refine fa0_5.takeMove 1 29 (.int .i64 (i : Int)) _ (Or.inl rfl) rfl (by kernel_rfl) (by kernel_rfl) (by kernel_rfl) (fun _ _ _ h => hQp _ _ _ _ _ h) rfl (lb_ I0.size) (wanted_none rfl) ((fa0_5.at_ 6).trans h6) hS4 (fun a0_6 fa0_6 => ?_)
  clear fa0_5
  refine fa0_6.takeMove 2 30 (.int .i64 (k : Int)) _ (Or.inl rfl) rfl (by kernel_rfl) (by kernel_rfl) (by kernel_rfl) (fun _ _ _ h => hQp _ _ _ _ _ h) rfl (lb_ I0.size) (wanted_none rfl) ((fa0_6.at_ 8).trans h8) hS4 (fun a0_7 fa0_7 => ?_)
  clear fa0_6
  have r_a0_8 : ∀ Z, (fun Z => Same wr Z) Z → (execOp a0_7.eval { dst := some 31, op := Op.binOp BinOp.add 3 (Operand.tmp 29) (Operand.tmp 30) 3, type := 3, pos := "ref.go:97", after := #[{ on := 1, ground := Ground.data }, { on := 2, ground := Ground.data }], guard := none }).run Tryd.prog Z = .ok (.value (.int .i64 (ik : Int))) Z := fun Z hZ => by
    have e29 := (show a0_7.eval (.tmp 29) = .int .i64 (i : Int) from (fa0_7.at_ 29))
    have e30 := (show a0_7.eval (.tmp 30) = .int .i64 (k : Int) from (fa0_7.at_ 30))
    clear fa0_7 hQ h6 h7 h8 ro ra rb ho1 hx hy hik q1 q2 q3 q4 q5 p3l
    generalize a0_7.eval = ρ at *
    go_simp
  refine fa0_7.take 3 31 (.int .i64 (ik : Int)) rfl (by kernel_rfl) (by kernel_rfl) (by kernel_rfl) (fun _ _ _ h => hQp _ _ _ _ _ h) rfl (lb_ I0.size) (wanted_none rfl) r_a0_8 hS4 (fun a0_8 fa0_8 => ?_)
  clear r_a0_8
  clear fa0_7
  have r_a0_9 : ∀ Z, (fun Z => Same wr Z) Z → (execOp a0_8.eval { dst := some 32, op := Op.indexAddr 36 (Operand.tmp 28) (Operand.tmp 31), type := 0, pos := "ref.go:97", after := #[{ on := 0, ground := Ground.data }, { on := 3, ground := Ground.data }], guard := none }).run Tryd.prog Z = .ok (.value (.pointer (some ⟨go, ik, none⟩))) Z := fun Z hZ => by
    have e28 := (show a0_8.eval (.tmp 28) = .slice (some ⟨go, 0, none⟩) n co from (fa0_8.at_ 28))
    have e31 := (show a0_8.eval (.tmp 31) = .int .i64 (ik : Int) from (fa0_8.at_ 31))
    clear fa0_8 hQ h6 h7 h8 ro ra rb ho1 hx hy hik q1 q2 q3 q4 q5 p3l
    generalize a0_8.eval = ρ at *
    go_simp
  refine fa0_8.take 4 32 (.pointer (some ⟨go, ik, none⟩)) rfl (by kernel_rfl) (by kernel_rfl) (by kernel_rfl) (fun _ _ _ h => hQp _ _ _ _ _ h) rfl (lb_ I0.size) (wanted_none rfl) r_a0_9 hS4 (fun a0_9 fa0_9 => ?_)
  clear r_a0_9
  clear fa0_8
  have r_a0_10 : ∀ Z, (fun Z => Same wr Z) Z → (execOp a0_9.eval { dst := some 33, op := Op.load 39 (Operand.tmp 32), type := 39, pos := "ref.go:97", after := #[{ on := 4, ground := Ground.data }], guard := none }).run Tryd.prog Z = .ok (.value (.int .u64 (o1 : Int))) Z := fun Z hZ => by
    have z1 := hZ.keep k1
    have z2 := hZ.keep k2
    have z3 := hZ.keep k3
    clear hZ
    have e32 := (show a0_9.eval (.tmp 32) = .pointer (some ⟨go, ik, none⟩) from (fa0_9.at_ 32))
    clear fa0_9 hQ h6 h7 h8 ro ra rb ho1 hx hy hik q1 q2 q3 q4 q5 p3l
    generalize a0_9.eval = ρ at *
    go_simp
  refine fa0_9.take 5 33 (.int .u64 (o1 : Int)) rfl (by kernel_rfl) (by kernel_rfl) (by kernel_rfl) (fun _ _ _ h => hQp _ _ _ _ _ h) rfl (lb_ I0.size) (wanted_none rfl) r_a0_10 hS4 (fun a0_10 fa0_10 => ?_)
  clear r_a0_10
  clear fa0_9
  refine fa0_10.takeMove 6 34 (.slice (some ⟨ga, 0, none⟩) la.length ca) _ (Or.inl rfl) rfl (by kernel_rfl) (by kernel_rfl) (by kernel_rfl) (fun _ _ _ h => hQp _ _ _ _ _ h) rfl (lb_ I0.size) (wanted_none rfl) ((fa0_10.at_ 0).trans I0.s0) hS4 (fun a0_11 fa0_11 => ?_)
  clear fa0_10
  refine fa0_11.takeMove 7 35 (.int .i64 (i : Int)) _ (Or.inl rfl) rfl (by kernel_rfl) (by kernel_rfl) (by kernel_rfl) (fun _ _ _ h => hQp _ _ _ _ _ h) rfl (lb_ I0.size) (wanted_none rfl) ((fa0_11.at_ 6).trans h6) hS4 (fun a0_12 fa0_12 => ?_)
  clear fa0_11
  have r_a0_13 : ∀ Z, (fun Z => Same wr Z) Z → (execOp a0_12.eval { dst := some 36, op := Op.indexAddr 36 (Operand.tmp 34) (Operand.tmp 35), type := 0, pos := "ref.go:97", after := #[{ on := 6, ground := Ground.data }, { on := 7, ground := Ground.data }], guard := none }).run Tryd.prog Z = .ok (.value (.pointer (some ⟨ga, i, none⟩))) Z := fun Z hZ => by
    have e34 := (show a0_12.eval (.tmp 34) = .slice (some ⟨ga, 0, none⟩) la.length ca from (fa0_12.at_ 34))
    have e35 := (show a0_12.eval (.tmp 35) = .int .i64 (i : Int) from (fa0_12.at_ 35))
    clear fa0_12 hQ h6 h7 h8 ro ra rb ho1 hx hy hik q1 q2 q3 q4 q5 p3l
    generalize a0_12.eval = ρ at *
    go_simp
  refine fa0_12.take 8 36 (.pointer (some ⟨ga, i, none⟩)) rfl (by kernel_rfl) (by kernel_rfl) (by kernel_rfl) (fun _ _ _ h => hQp _ _ _ _ _ h) rfl (lb_ I0.size) (wanted_none rfl) r_a0_13 hS4 (fun a0_13 fa0_13 => ?_)
  clear r_a0_13
  clear fa0_12
  have r_a0_14 : ∀ Z, (fun Z => Same wr Z) Z → (execOp a0_13.eval { dst := some 37, op := Op.load 39 (Operand.tmp 36), type := 39, pos := "ref.go:97", after := #[{ on := 8, ground := Ground.data }], guard := none }).run Tryd.prog Z = .ok (.value (.int .u64 (x : Int))) Z := fun Z hZ => by
    have z1 := hZ.keep k1
    have z2 := hZ.keep k2
    have z3 := hZ.keep k3
    clear hZ
    have e36 := (show a0_13.eval (.tmp 36) = .pointer (some ⟨ga, i, none⟩) from (fa0_13.at_ 36))
    clear fa0_13 hQ h6 h7 h8 ro ra rb ho1 hx hy hik q1 q2 q3 q4 q5 p3l
    generalize a0_13.eval = ρ at *
    go_simp
  refine fa0_13.take 9 37 (.int .u64 (x : Int)) rfl (by kernel_rfl) (by kernel_rfl) (by kernel_rfl) (fun _ _ _ h => hQp _ _ _ _ _ h) rfl (lb_ I0.size) (wanted_none rfl) r_a0_14 hS4 (fun a0_14 fa0_14 => ?_)
  clear r_a0_14
  clear fa0_13
  refine fa0_14.takeMove 10 38 (.slice (some ⟨gb, 0, none⟩) lb.length cb) _ (Or.inl rfl) rfl (by kernel_rfl) (by kernel_rfl) (by kernel_rfl) (fun _ _ _ h => hQp _ _ _ _ _ h) rfl (lb_ I0.size) (wanted_none rfl) ((fa0_14.at_ 1).trans I0.s1) hS4 (fun a0_15 fa0_15 => ?_)
  clear fa0_14
  refine fa0_15.takeMove 11 39 (.int .i64 (k : Int)) _ (Or.inl rfl) rfl (by kernel_rfl) (by kernel_rfl) (by kernel_rfl) (fun _ _ _ h => hQp _ _ _ _ _ h) rfl (lb_ I0.size) (wanted_none rfl) ((fa0_15.at_ 8).trans h8) hS4 (fun a0_16 fa0_16 => ?_)
  clear fa0_15
  have r_a0_17 : ∀ Z, (fun Z => Same wr Z) Z → (execOp a0_16.eval { dst := some 40, op := Op.indexAddr 36 (Operand.tmp 38) (Operand.tmp 39), type := 0, pos := "ref.go:97", after := #[{ on := 10, ground := Ground.data }, { on := 11, ground := Ground.data }], guard := none }).run Tryd.prog Z = .ok (.value (.pointer (some ⟨gb, k, none⟩))) Z := fun Z hZ => by
    have e38 := (show a0_16.eval (.tmp 38) = .slice (some ⟨gb, 0, none⟩) lb.length cb from (fa0_16.at_ 38))
    have e39 := (show a0_16.eval (.tmp 39) = .int .i64 (k : Int) from (fa0_16.at_ 39))
    clear fa0_16 hQ h6 h7 h8 ro ra rb ho1 hx hy hik q1 q2 q3 q4 q5 p3l
    generalize a0_16.eval = ρ at *
    go_simp
  refine fa0_16.take 12 40 (.pointer (some ⟨gb, k, none⟩)) rfl (by kernel_rfl) (by kernel_rfl) (by kernel_rfl) (fun _ _ _ h => hQp _ _ _ _ _ h) rfl (lb_ I0.size) (wanted_none rfl) r_a0_17 hS4 (fun a0_17 fa0_17 => ?_)
  clear r_a0_17
  clear fa0_16
  have r_a0_18 : ∀ Z, (fun Z => Same wr Z) Z → (execOp a0_17.eval { dst := some 41, op := Op.load 39 (Operand.tmp 40), type := 39, pos := "ref.go:97", after := #[{ on := 12, ground := Ground.data }], guard := none }).run Tryd.prog Z = .ok (.value (.int .u64 (y : Int))) Z := fun Z hZ => by
    have z1 := hZ.keep k1
    have z2 := hZ.keep k2
    have z3 := hZ.keep k3
    clear hZ
    have e40 := (show a0_17.eval (.tmp 40) = .pointer (some ⟨gb, k, none⟩) from (fa0_17.at_ 40))
    clear fa0_17 hQ h6 h7 h8 ro ra rb ho1 hx hy hik q1 q2 q3 q4 q5 p3l
    generalize a0_17.eval = ρ at *
    go_simp
  refine fa0_17.take 13 41 (.int .u64 (y : Int)) rfl (by kernel_rfl) (by kernel_rfl) (by kernel_rfl) (fun _ _ _ h => hQp _ _ _ _ _ h) rfl (lb_ I0.size) (wanted_none rfl) r_a0_18 hS4 (fun a0_18 fa0_18 => ?_)
  clear r_a0_18
  clear fa0_17
  have r_a0_19 : ∀ Z, (fun Z => Same wr Z) Z → (execOp a0_18.eval { dst := some 42, op := Op.binOp BinOp.mul 39 (Operand.tmp 37) (Operand.tmp 41) 39, type := 39, pos := "ref.go:97", after := #[{ on := 9, ground := Ground.data }, { on := 13, ground := Ground.data }], guard := none }).run Tryd.prog Z = .ok (.value (.int .u64 (p1 : Int))) Z := fun Z hZ => by
    have e37 := (show a0_18.eval (.tmp 37) = .int .u64 (x : Int) from (fa0_18.at_ 37))
    have e41 := (show a0_18.eval (.tmp 41) = .int .u64 (y : Int) from (fa0_18.at_ 41))
    clear fa0_18 hQ h6 h7 h8 ro ra rb ho1 hx hy hik q1 q2 q3 q4 q5 p3l
    generalize a0_18.eval = ρ at *
    go_simp
  refine fa0_18.take 14 42 (.int .u64 (p1 : Int)) rfl (by kernel_rfl) (by kernel_rfl) (by kernel_rfl) (fun _ _ _ h => hQp _ _ _ _ _ h) rfl (lb_ I0.size) (wanted_none rfl) r_a0_19 hS4 (fun a0_19 fa0_19 => ?_)
  clear r_a0_19
  clear fa0_18
  have r_a0_20 : ∀ Z, (fun Z => Same wr Z) Z → (execOp a0_19.eval { dst := some 43, op := Op.binOp BinOp.add 39 (Operand.tmp 33) (Operand.tmp 42) 39, type := 39, pos := "ref.go:97", after := #[{ on := 5, ground := Ground.data }, { on := 14, ground := Ground.data }], guard := none }).run Tryd.prog Z = .ok (.value (.int .u64 (p2 : Int))) Z := fun Z hZ => by
    have e33 := (show a0_19.eval (.tmp 33) = .int .u64 (o1 : Int) from (fa0_19.at_ 33))
    have e42 := (show a0_19.eval (.tmp 42) = .int .u64 (p1 : Int) from (fa0_19.at_ 42))
    clear fa0_19 hQ h6 h7 h8 ro ra rb ho1 hx hy hik q1 q2 q3 q4 q5 p3l
    generalize a0_19.eval = ρ at *
    go_simp
  refine fa0_19.take 15 43 (.int .u64 (p2 : Int)) rfl (by kernel_rfl) (by kernel_rfl) (by kernel_rfl) (fun _ _ _ h => hQp _ _ _ _ _ h) rfl (lb_ I0.size) (wanted_none rfl) r_a0_20 hS4 (fun a0_20 fa0_20 => ?_)
  clear r_a0_20
  clear fa0_19
  refine fa0_20.takeMove 16 44 (.int .u64 ((c : Nat) : Int)) _ (Or.inl rfl) rfl (by kernel_rfl) (by kernel_rfl) (by kernel_rfl) (fun _ _ _ h => hQp _ _ _ _ _ h) rfl (lb_ I0.size) (wanted_none rfl) ((fa0_20.at_ 7).trans h7) hS4 (fun a0_21 fa0_21 => ?_)
  clear fa0_20
  have r_a0_22 : ∀ Z, (fun Z => Same wr Z) Z → (execOp a0_21.eval { dst := some 45, op := Op.binOp BinOp.add 39 (Operand.tmp 43) (Operand.tmp 44) 39, type := 39, pos := "ref.go:97", after := #[{ on := 15, ground := Ground.data }, { on := 16, ground := Ground.data }], guard := none }).run Tryd.prog Z = .ok (.value (.int .u64 (p3 : Int))) Z := fun Z hZ => by
    have e43 := (show a0_21.eval (.tmp 43) = .int .u64 (p2 : Int) from (fa0_21.at_ 43))
    have e44 := (show a0_21.eval (.tmp 44) = .int .u64 ((c : Nat) : Int) from (fa0_21.at_ 44))
    clear fa0_21 hQ h6 h7 h8 ro ra rb ho1 hx hy hik q1 q2 q3 q4 q5 p3l
    generalize a0_21.eval = ρ at *
    go_simp
  refine fa0_21.take 17 45 (.int .u64 (p3 : Int)) rfl (by kernel_rfl) (by kernel_rfl) (by kernel_rfl) (fun _ _ _ h => hQp _ _ _ _ _ h) rfl (lb_ I0.size) (wanted_none rfl) r_a0_22 hS4 (fun a0_22 fa0_22 => ?_)
  clear r_a0_22
  clear fa0_21
  refine fa0_22.takeMove 18 9 (.int .u64 (p3 : Int)) _ (Or.inr rfl) rfl (by kernel_rfl) (by kernel_rfl) (by kernel_rfl) (fun _ _ _ h => hQp _ _ _ _ _ h) rfl (lb_ I0.size) (wanted_none rfl) (fa0_22.at_ 45) hS4 (fun a0_23 fa0_23 => ?_)
  clear fa0_22
  refine wpAnyH_done (by kernel_rfl) ?_ _
  change Code.wp _ _ _ _ _
  refine wp_seq ?_
  have ro1 := ro.same dd
  have kd := dd.keep k1
  have zf : (wr.drew).frozen? ⟨go, ik, none⟩ = false := frozen_of_row _ go _ _ _ ro1
  refine wp_region_list ?_
  unfold rRB10
  refine fa0_23.move 46 (.slice (some ⟨go, 0, none⟩) n co) _ (Or.inl rfl) rfl (lb_ I0.size) (wanted_none rfl) ((fa0_23.at_ 5).trans I0.s5) (fun a0_24 fa0_24 => ?_)
  clear fa0_23
  refine fa0_24.move 47 (.int .i64 (i : Int)) _ (Or.inl rfl) rfl (lb_ I0.size) (wanted_none rfl) ((fa0_24.at_ 6).trans h6) (fun a0_25 fa0_25 => ?_)
  clear fa0_24
  refine fa0_25.move 48 (.int .i64 (k : Int)) _ (Or.inl rfl) rfl (lb_ I0.size) (wanted_none rfl) ((fa0_25.at_ 8).trans h8) (fun a0_26 fa0_26 => ?_)
  clear fa0_25
  have r_a0_27 : (execOp a0_26.eval { dst := some 49, op := Op.binOp BinOp.add 3 (Operand.tmp 47) (Operand.tmp 48) 3, type := 3, pos := "ref.go:98", after := #[{ on := 1, ground := Ground.data }, { on := 2, ground := Ground.data }], guard := none }).run Tryd.prog (wr.drew) = .ok (.value (.int .i64 (ik : Int))) (wr.drew) := by
    have e47 := (show a0_26.eval (.tmp 47) = .int .i64 (i : Int) from (fa0_26.at_ 47))
    have e48 := (show a0_26.eval (.tmp 48) = .int .i64 (k : Int) from (fa0_26.at_ 48))
    clear fa0_26 hQ h6 h7 h8 ro ra rb ho1 hx hy hik q1 q2 q3 q4 q5 p3l ro1
    generalize a0_26.eval = ρ at *
    go_simp
  refine fa0_26.step 49 (.int .i64 (ik : Int)) rfl (lb_ I0.size) (wanted_none rfl) r_a0_27 (fun a0_27 fa0_27 => ?_)
  clear r_a0_27
  clear fa0_26
  refine fa0_27.move 50 (.int .u64 (p3 : Int)) _ (Or.inl rfl) rfl (lb_ I0.size) (wanted_none rfl) (fa0_27.at_ 9) (fun a0_28 fa0_28 => ?_)
  clear fa0_27
  have r_a0_29 : (execOp a0_28.eval { dst := some 51, op := Op.binOp BinOp.and 39 (Operand.tmp 50) (Operand.const (Value.int IntKind.u64 4294967295)) 39, type := 39, pos := "ref.go:98", after := #[{ on := 4, ground := Ground.data }], guard := none }).run Tryd.prog (wr.drew) = .ok (.value (.int .u64 (p4 : Int))) (wr.drew) := by
    have kc : ∀ v, a0_28.eval (.const v) = v := fun _ => rfl
    have e50 := (show a0_28.eval (.tmp 50) = .int .u64 (p3 : Int) from (fa0_28.at_ 50))
    clear fa0_28 hQ h6 h7 h8 ro ra rb ho1 hx hy hik q1 q2 q3 q4 q5 p3l ro1
    generalize a0_28.eval = ρ at *
    go_simp
  refine fa0_28.step 51 (.int .u64 (p4 : Int)) rfl (lb_ I0.size) (wanted_none rfl) r_a0_29 (fun a0_29 fa0_29 => ?_)
  clear r_a0_29
  clear fa0_28
  have r_a0_30 : (execOp a0_29.eval { dst := some 52, op := Op.indexAddr 36 (Operand.tmp 46) (Operand.tmp 49), type := 0, pos := "ref.go:98", after := #[{ on := 0, ground := Ground.data }, { on := 3, ground := Ground.data }, { on := 0, ground := Ground.phase }, { on := 1, ground := Ground.phase }, { on := 2, ground := Ground.phase }, { on := 3, ground := Ground.phase }, { on := 4, ground := Ground.phase }, { on := 5, ground := Ground.phase }], guard := none }).run Tryd.prog (wr.drew) = .ok (.value (.pointer (some ⟨go, ik, none⟩))) (wr.drew) := by
    have e46 := (show a0_29.eval (.tmp 46) = .slice (some ⟨go, 0, none⟩) n co from (fa0_29.at_ 46))
    have e49 := (show a0_29.eval (.tmp 49) = .int .i64 (ik : Int) from (fa0_29.at_ 49))
    clear fa0_29 hQ h6 h7 h8 ro ra rb ho1 hx hy hik q1 q2 q3 q4 q5 p3l ro1
    generalize a0_29.eval = ρ at *
    go_simp
  refine fa0_29.step 52 (.pointer (some ⟨go, ik, none⟩)) rfl (lb_ I0.size) (wanted_none rfl) r_a0_30 (fun a0_30 fa0_30 => ?_)
  clear r_a0_30
  clear fa0_29
  have r_a0_31 : (execOp a0_30.eval { dst := none, op := Op.store 39 (Operand.tmp 52) (Operand.tmp 51), type := 0, pos := "ref.go:98", after := #[{ on := 6, ground := Ground.data }, { on := 5, ground := Ground.data }, { on := 0, ground := Ground.phase }, { on := 1, ground := Ground.phase }, { on := 2, ground := Ground.phase }, { on := 3, ground := Ground.phase }, { on := 4, ground := Ground.phase }, { on := 5, ground := Ground.phase }], guard := none }).run Tryd.prog (wr.drew) = .ok .skip (World.setCell wr.drew ⟨go, ik, none⟩ (.int .u64 (p4 : Int))) := by
    have e52 := (show a0_30.eval (.tmp 52) = .pointer (some ⟨go, ik, none⟩) from (fa0_30.at_ 52))
    have e51 := (show a0_30.eval (.tmp 51) = .int .u64 (p4 : Int) from (fa0_30.at_ 51))
    clear fa0_30 hQ h6 h7 h8 ro ra rb ho1 hx hy hik q1 q2 q3 q4 q5 p3l ro1
    generalize a0_30.eval = ρ at *
    go_simp
  refine fa0_30.store rfl (wanted_none rfl) r_a0_31 (fun a0_31 fa0_31 => ?_)
  clear r_a0_31
  have ro2 := ro1.put (j := ik) (v := p4)
  have f2 : Fr (fun b => b = go) wr.drew (World.setCell wr.drew ⟨go, ik, none⟩ (.int .u64 (p4 : Int))) := Fr.setCell (S := fun b => b = go) (Fr.refl _ wr.drew) (p := ⟨go, ik, none⟩) (fun _ => rfl) _
  generalize World.setCell wr.drew ⟨go, ik, none⟩ (.int .u64 (p4 : Int)) = V at *
  clear fa0_30
  refine wpList_nil ?_
  change Code.wp _ _ _ _ _
  refine wp_region_list ?_
  unfold rRB11
  refine fa0_31.move 53 (.int .u64 (p3 : Int)) _ (Or.inl rfl) rfl (lb_ I0.size) (wanted_none rfl) (fa0_31.at_ 9) (fun a0_32 fa0_32 => ?_)
  clear fa0_31
  have r_a0_33 : (execOp a0_32.eval { dst := some 54, op := Op.binOp BinOp.shr 39 (Operand.tmp 53) (Operand.const (Value.int IntKind.u64 32)) 48, type := 39, pos := "ref.go:99", after := #[{ on := 0, ground := Ground.data }], guard := none }).run Tryd.prog (V) = .ok (.value (.int .u64 (p5 : Int))) (V) := by
    have kc : ∀ v, a0_32.eval (.const v) = v := fun _ => rfl
    have e53 := (show a0_32.eval (.tmp 53) = .int .u64 (p3 : Int) from (fa0_32.at_ 53))
    clear fa0_32 hQ h6 h7 h8 ro ra rb ho1 hx hy hik q1 q2 q3 q4 q5 p3l ro1 ro2 f2
    generalize a0_32.eval = ρ at *
    go_simp
  refine fa0_32.step 54 (.int .u64 (p5 : Int)) rfl (lb_ I0.size) (wanted_none rfl) r_a0_33 (fun a0_33 fa0_33 => ?_)
  clear r_a0_33
  clear fa0_32
  refine fa0_33.move 7 (.int .u64 (p5 : Int)) _ (Or.inr rfl) rfl (lb_ I0.size) (wanted_none rfl) (fa0_33.at_ 54) (fun a0_34 fa0_34 => ?_)
  clear fa0_33
  refine wpList_nil ?_
  change Code.wp _ _ _ _ _
  refine wp_region_list ?_
  unfold rRB8
  refine fa0_34.move 26 (.int .i64 (k : Int)) _ (Or.inl rfl) rfl (lb_ I0.size) (wanted_none rfl) ((fa0_34.at_ 8).trans h8) (fun a0_35 fa0_35 => ?_)
  clear fa0_34
  have r_a0_36 : (execOp a0_35.eval { dst := some 27, op := Op.binOp BinOp.add 3 (Operand.tmp 26) (Operand.const (Value.int IntKind.i64 1)) 3, type := 3, pos := "ref.go:96", after := #[{ on := 0, ground := Ground.data }], guard := none }).run Tryd.prog (V) = .ok (.value (.int .i64 ((k : Int) + 1))) (V) := by
    have kc : ∀ v, a0_35.eval (.const v) = v := fun _ => rfl
    have e26 := (show a0_35.eval (.tmp 26) = .int .i64 (k : Int) from (fa0_35.at_ 26))
    clear fa0_35 hQ h6 h7 h8 ro ra rb ho1 hx hy hik q1 q2 q3 q4 q5 p3l ro1 ro2 f2
    generalize a0_35.eval = ρ at *
    go_simp
  refine fa0_35.step 27 (.int .i64 ((k : Int) + 1)) rfl (lb_ I0.size) (wanted_none rfl) r_a0_36 (fun a0_36 fa0_36 => ?_)
  clear r_a0_36
  clear fa0_35
  refine fa0_36.move 8 (.int .i64 ((k : Int) + 1)) _ (Or.inr rfl) rfl (lb_ I0.size) (wanted_none rfl) (fa0_36.at_ 27) (fun a0_37 fa0_37 => ?_)
  clear fa0_36
  refine wpList_nil ?_
  have hX : stepX (o.getD (i + k) 0) (la.getD i 0) (lb.getD k 0) c = p3 := by unfold stepX; rw [← hik, ← ho1, ← hx, ← hy, ← q1, ← q2, ← q3]
  refine hQ a0_37 V (I0.keep fa0_37 rfl rfl rfl) (show a0_37.eval (.tmp 6) = .int .i64 (i : Int) from ((fa0_37.at_ 6).trans h6)) ?_ (show a0_37.eval (.tmp 8) = .int .i64 ((k : Int) + 1) from (fa0_37.at_ 8)) ?_ (Fr.trans (dd.mono (fun _ _ f => f.elim)) f2 (fun _ _ e => e))
  · rw [hX, ← q5]; exact (show a0_37.eval (.tmp 7) = .int .u64 (p5 : Int) from (fa0_37.at_ 7))
  · rw [hX, ← q4, ← hik]; exact ro2
theorem rb2L {ga gb go ca cb co n : Nat} {la lb : List Nat} {Q : Exit → Act → World → Prop} {i : Nat} {o : List Nat} (hQp : ∀ c (a : Act) d v w, Q (.panic c) (a.put d v) w → Q (.panic c) a w) (a0 : Act) (w : World) (I0 : IRB (.slice (some ⟨ga, 0, none⟩) la.length ca) (.slice (some ⟨gb, 0, none⟩) lb.length cb) (.slice (some ⟨go, 0, none⟩) n co) a0) (h6 : a0.eval (.tmp 6) = .int .i64 (i : Int)) (h7 : a0.eval (.tmp 7) = .int .u64 ((0 : Nat) : Int)) (h8 : a0.eval (.tmp 8) = .int .i64 ((0 : Nat) : Int)) (hi : i < la.length) (hn : n = la.length + lb.length) (hol : o.length = n) (hsm : n ≤ 1000) (nga : ga ≠ go) (ngb : gb ≠ go) (ro : WAt w go o) (ra : WAt w ga la) (rb : WAt w gb lb)
    (hQ : ∀ a W o2 c2, inW (la.getD i 0) lb i lb.length (o, 0) = (o2, c2) → IRB (.slice (some ⟨ga, 0, none⟩) la.length ca) (.slice (some ⟨gb, 0, none⟩) lb.length cb) (.slice (some ⟨go, 0, none⟩) n co) a → a.eval (.tmp 6) = .int .i64 (i : Int) → a.eval (.tmp 7) = .int .u64 ((c2 : Nat) : Int) → WAt W go o2 → Fr (fun b => b = go) w W → Q (.exit 2) a W) : (Code.loop cRB2).wp Tryd.prog Q a0 w := by
  refine wp_loop (fun a W => ∃ (k c1 : Nat) (o1 : List Nat), k ≤ lb.length ∧ inW (la.getD i 0) lb i k (o, 0) = (o1, c1) ∧ IRB (.slice (some ⟨ga, 0, none⟩) la.length ca) (.slice (some ⟨gb, 0, none⟩) lb.length cb) (.slice (some ⟨go, 0, none⟩) n co) a ∧ a.eval (.tmp 6) = .int .i64 (i : Int) ∧ a.eval (.tmp 7) = .int .u64 ((c1 : Nat) : Int) ∧ a.eval (.tmp 8) = .int .i64 (k : Int) ∧ WAt W go o1 ∧ Fr (fun b => b = go) w W) (fun a _ => lb.length - kOf a 8) ⟨0, 0, o, Nat.zero_le _, rfl, I0, h6, h7, h8, ro, Fr.refl _ _⟩ ?_
  rintro a W ⟨k, c1, o1, hk, he, I1, g6, g7, g8, r1, f1⟩
  have hl1 : o1.length = n := by
    have := inW_len (x := la.getD i 0) (i := i) (b := lb) (s := (o, 0)) k
    rw [he] at this
    exact this.trans hol
  by_cases hgo : k < lb.length
  · refine rb2R (Q := Exit.then _ Q) (fun c a d v w h => hQp c a d v w h) a W I1 g6 g7 g8 hi hgo hn hl1 hsm r1 (heap_fr ra f1 nga) (heap_fr rb f1 ngb) (fun a' W' i2 j6 j7 j8 r2 f2 => ?_)
    have h4 : a'.eval (.tmp 8) = .int .i64 ((k + 1 : Nat) : Int) := j8
    refine ⟨⟨k + 1, _, _, hgo, inW_succ he, i2, j6, j7, h4, r2, Fr.trans f1 f2 (fun _ _ e => e)⟩, ?_⟩
    show lb.length - kOf a' 8 < lb.length - kOf a 8
    rw [kOf_eq h4, kOf_eq g8]
    omega
  · obtain rfl : lb.length = k := by omega
    exact rb2E a W I1 g6 g7 g8 (Nat.le_refl _) (fun a' i2 j6 j7 => hQ a' W o1 c1 he i2 j6 j7 r1 f1)
theorem rb1E {ga gb go ca cb co n : Nat} {la lb : List Nat} {Q : Exit → Act → World → Prop} {i : Nat} (a0 : Act) (wr : World) (I0 : IRB (.slice (some ⟨ga, 0, none⟩) la.length ca) (.slice (some ⟨gb, 0, none⟩) lb.length cb) (.slice (some ⟨go, 0, none⟩) n co) a0) (h6 : a0.eval (.tmp 6) = .int .i64 (i : Int)) (hi : la.length ≤ i) (hQ : ∀ a, IRB (.slice (some ⟨ga, 0, none⟩) la.length ca) (.slice (some ⟨gb, 0, none⟩) lb.length cb) (.slice (some ⟨go, 0, none⟩) n co) a → Q (.exit 0) a wr) : cRB1.wp Tryd.prog Q a0 wr := by
  have hii : ¬ (i : Int) < (la.length : Int) := by omega
  have hid : decide ((i : Int) < (la.length : Int)) = false := decide_eq_false hii
  clear hi
  have fa0_0 := Fe.refl a0
  unfold cRB1
  refine wp_seq (wp_seq ?_)
  refine wp_region_list ?_
  unfold rRB3
  refine fa0_0.move 16 (.int .i64 (i : Int)) _ (Or.inl rfl) rfl (lb_ I0.size) (wanted_none rfl) ((fa0_0.at_ 6).trans h6) (fun a0_1 fa0_1 => ?_)
  clear fa0_0
  refine fa0_1.move 17 (.slice (some ⟨ga, 0, none⟩) la.length ca) _ (Or.inl rfl) rfl (lb_ I0.size) (wanted_none rfl) ((fa0_1.at_ 0).trans I0.s0) (fun a0_2 fa0_2 => ?_)
  clear fa0_1
  have r_a0_3 : (execOp a0_2.eval { dst := some 18, op := Op.call { callee := Callee.builtin Builtin.len, args := #[Operand.tmp 17], argTypes := #[36] }, type := 3, pos := "ref.go:94", after := #[{ on := 1, ground := Ground.data }], guard := none }).run Tryd.prog (wr) = .ok (.value (.int .i64 (la.length : Int))) (wr) := by
    have e17 := (show a0_2.eval (.tmp 17) = .slice (some ⟨ga, 0, none⟩) la.length ca from (fa0_2.at_ 17))
    clear fa0_2 hQ h6
    generalize a0_2.eval = ρ at *
    go_simp
  refine fa0_2.step 18 (.int .i64 (la.length : Int)) rfl (lb_ I0.size) (wanted_none rfl) r_a0_3 (fun a0_3 fa0_3 => ?_)
  clear r_a0_3
  clear fa0_2
  have r_a0_4 : (execOp a0_3.eval { dst := some 19, op := Op.binOp BinOp.lss 3 (Operand.tmp 16) (Operand.tmp 18) 3, type := 4, pos := "ref.go:94", after := #[{ on := 0, ground := Ground.data }, { on := 2, ground := Ground.data }], guard := none }).run Tryd.prog (wr) = .ok (.value (.bool false)) (wr) := by
    have e16 := (show a0_3.eval (.tmp 16) = .int .i64 (i : Int) from (fa0_3.at_ 16))
    have e18 := (show a0_3.eval (.tmp 18) = .int .i64 (la.length : Int) from (fa0_3.at_ 18))
    clear fa0_3 hQ h6
    generalize a0_3.eval = ρ at *
    go_simp
  refine fa0_3.step 19 (.bool false) rfl (lb_ I0.size) (wanted_none rfl) r_a0_4 (fun a0_4 fa0_4 => ?_)
  clear r_a0_4
  clear fa0_3
  refine wpList_nil ?_
  change Code.wp _ _ _ _ _
  refine wp_cond_false (show a0_4.eval (.tmp 19) = .bool false from (fa0_4.at_ 19)) (wp_exit ?_)
  exact hQ a0_4 (I0.keep fa0_4 rfl rfl rfl)
set_option maxRecDepth 100000 in
set_option maxHeartbeats 1000000 in
theorem rb1R {ga gb go ca cb co n : Nat} {la lb : List Nat} {Q : Exit → Act → World → Prop} {i : Nat} {o : List Nat} (hQp : ∀ c (a : Act) d v w, Q (.panic c) (a.put d v) w → Q (.panic c) a w) (a0 : Act) (wr : World) (I0 : IRB (.slice (some ⟨ga, 0, none⟩) la.length ca) (.slice (some ⟨gb, 0, none⟩) lb.length cb) (.slice (some ⟨go, 0, none⟩) n co) a0) (h6 : a0.eval (.tmp 6) = .int .i64 (i : Int)) (hi : i < la.length) (hn : n = la.length + lb.length) (hol : o.length = n) (hsm : n ≤ 1000) (nga : ga ≠ go) (ngb : gb ≠ go) (ro : WAt wr go o) (ra : WAt wr ga la) (rb : WAt wr gb lb)
    (hQ : ∀ a W o2 c2, inW (la.getD i 0) lb i lb.length (o, 0) = (o2, c2) → IRB (.slice (some ⟨ga, 0, none⟩) la.length ca) (.slice (some ⟨gb, 0, none⟩) lb.length cb) (.slice (some ⟨go, 0, none⟩) n co) a → a.eval (.tmp 6) = .int .i64 ((i : Int) + 1) → WAt W go (o2.set (i + lb.length) c2) → Fr (fun b => b = go) wr W → Q .normal a W) : cRB1.wp Tryd.prog Q a0 wr := by
  have hii : (i : Int) < (la.length : Int) := by omega
  have w1 : IntKind.i64.wrap ((i : Int) + 1) = (i : Int) + 1 := by rw [IntKind.wrap_i64]; omega
  have fa0_0 := Fe.refl a0
  unfold cRB1
  refine wp_seq (wp_seq ?_)
  refine wp_region_list ?_
  unfold rRB3
  refine fa0_0.move 16 (.int .i64 (i : Int)) _ (Or.inl rfl) rfl (lb_ I0.size) (wanted_none rfl) ((fa0_0.at_ 6).trans h6) (fun a0_1 fa0_1 => ?_)
  clear fa0_0
  refine fa0_1.move 17 (.slice (some ⟨ga, 0, none⟩) la.length ca) _ (Or.inl rfl) rfl (lb_ I0.size) (wanted_none rfl) ((fa0_1.at_ 0).trans I0.s0) (fun a0_2 fa0_2 => ?_)
  clear fa0_1
  have r_a0_3 : (execOp a0_2.eval { dst := some 18, op := Op.call { callee := Callee.builtin Builtin.len, args := #[Operand.tmp 17], argTypes := #[36] }, type := 3, pos := "ref.go:94", after := #[{ on := 1, ground := Ground.data }], guard := none }).run Tryd.prog (wr) = .ok (.value (.int .i64 (la.length : Int))) (wr) := by
    have e17 := (show a0_2.eval (.tmp 17) = .slice (some ⟨ga, 0, none⟩) la.length ca from (fa0_2.at_ 17))
    clear fa0_2 hQ h6 ro ra rb hQp
    generalize a0_2.eval = ρ at *
    go_simp
  refine fa0_2.step 18 (.int .i64 (la.length : Int)) rfl (lb_ I0.size) (wanted_none rfl) r_a0_3 (fun a0_3 fa0_3 => ?_)
  clear r_a0_3
  clear fa0_2
  have r_a0_4 : (execOp a0_3.eval { dst := some 19, op := Op.binOp BinOp.lss 3 (Operand.tmp 16) (Operand.tmp 18) 3, type := 4, pos := "ref.go:94", after := #[{ on := 0, ground := Ground.data }, { on := 2, ground := Ground.data }], guard := none }).run Tryd.prog (wr) = .ok (.value (.bool true)) (wr) := by
    have e16 := (show a0_3.eval (.tmp 16) = .int .i64 (i : Int) from (fa0_3.at_ 16))
    have e18 := (show a0_3.eval (.tmp 18) = .int .i64 (la.length : Int) from (fa0_3.at_ 18))
    clear fa0_3 hQ h6 ro ra rb hQp
    generalize a0_3.eval = ρ at *
    go_simp
  refine fa0_3.step 19 (.bool true) rfl (lb_ I0.size) (wanted_none rfl) r_a0_4 (fun a0_4 fa0_4 => ?_)
  clear r_a0_4
  clear fa0_3
  refine wpList_nil ?_
  change Code.wp _ _ _ _ _
  refine wp_cond_true (show a0_4.eval (.tmp 19) = .bool true from (fa0_4.at_ 19)) (wp_skip ?_)
  change Code.wp _ _ _ _ _
  refine wp_seq (wp_block (wp_seq ?_))
  refine wp_region_list ?_
  unfold rRB5
  refine fa0_4.move 7 (.int .u64 ((0 : Nat) : Int)) _ (Or.inr rfl) rfl (lb_ I0.size) (wanted_none rfl) rfl (fun a0_5 fa0_5 => ?_)
  clear fa0_4
  refine wpList_nil ?_
  change Code.wp _ _ _ _ _
  refine wp_seq (wp_seq ?_)
  refine wp_region_list ?_
  unfold rRB6
  refine fa0_5.move 8 (.int .i64 ((0 : Nat) : Int)) _ (Or.inr rfl) rfl (lb_ I0.size) (wanted_none rfl) rfl (fun a0_6 fa0_6 => ?_)
  clear fa0_5
  refine wpList_nil ?_
  change Code.wp _ _ _ _ _
  refine wp_block ?_
  refine rb2L (by exact fun c a d v w h => hQp c a d v w h) a0_6 wr (I0.keep fa0_6 rfl rfl rfl) (show a0_6.eval (.tmp 6) = .int .i64 (i : Int) from ((fa0_6.at_ 6).trans h6)) (show a0_6.eval (.tmp 7) = .int .u64 ((0 : Nat) : Int) from (fa0_6.at_ 7)) (show a0_6.eval (.tmp 8) = .int .i64 ((0 : Nat) : Int) from (fa0_6.at_ 8)) hi hn hol hsm nga ngb ro ra rb (fun b1 W o2 c2 he i1 j6 j7 r1 f1 => ?_)
  change Code.wp _ _ _ _ _
  have hl2 : o2.length = n := by have := inW_len (x := la.getD i 0) (i := i) (b := lb) (s := (o, 0)) lb.length; rw [he] at this; exact this.trans hol
  obtain ⟨il, hil⟩ : ∃ m, m = i + lb.length := ⟨_, rfl⟩
  have wk : IntKind.i64.wrap ((i : Int) + (lb.length : Int)) = (il : Int) := by rw [IntKind.wrap_i64]; omega
  have iln : (il : Int) < (n : Int) := by omega
  have zf : W.frozen? ⟨go, il, none⟩ = false := frozen_of_row _ go _ _ _ r1
  have kd := r1.cell (j := il) (by omega)
  clear hn
  have fb1_0 := Fe.refl b1
  refine wp_region_list ?_
  unfold rRB12
  refine fb1_0.move 55 (.slice (some ⟨go, 0, none⟩) n co) _ (Or.inl rfl) rfl (lb_ i1.size) (wanted_none rfl) ((fb1_0.at_ 5).trans i1.s5) (fun b1_1 fb1_1 => ?_)
  clear fb1_0
  refine fb1_1.move 56 (.int .i64 (i : Int)) _ (Or.inl rfl) rfl (lb_ i1.size) (wanted_none rfl) ((fb1_1.at_ 6).trans j6) (fun b1_2 fb1_2 => ?_)
  clear fb1_1
  refine fb1_2.move 57 (.slice (some ⟨gb, 0, none⟩) lb.length cb) _ (Or.inl rfl) rfl (lb_ i1.size) (wanted_none rfl) ((fb1_2.at_ 1).trans i1.s1) (fun b1_3 fb1_3 => ?_)
  clear fb1_2
  have r_b1_4 : (execOp b1_3.eval { dst := some 58, op := Op.call { callee := Callee.builtin Builtin.len, args := #[Operand.tmp 57], argTypes := #[36] }, type := 3, pos := "ref.go:101", after := #[{ on := 2, ground := Ground.data }], guard := none }).run Tryd.prog (W) = .ok (.value (.int .i64 (lb.length : Int))) (W) := by
    have e57 := (show b1_3.eval (.tmp 57) = .slice (some ⟨gb, 0, none⟩) lb.length cb from (fb1_3.at_ 57))
    clear fb1_3 hQ h6 ro ra rb hQp r1 f1 j6 j7 he hil
    generalize b1_3.eval = ρ at *
    go_simp
  refine fb1_3.step 58 (.int .i64 (lb.length : Int)) rfl (lb_ i1.size) (wanted_none rfl) r_b1_4 (fun b1_4 fb1_4 => ?_)
  clear r_b1_4
  clear fb1_3
  have r_b1_5 : (execOp b1_4.eval { dst := some 59, op := Op.binOp BinOp.add 3 (Operand.tmp 56) (Operand.tmp 58) 3, type := 3, pos := "ref.go:101", after := #[{ on := 1, ground := Ground.data }, { on := 3, ground := Ground.data }], guard := none }).run Tryd.prog (W) = .ok (.value (.int .i64 (il : Int))) (W) := by
    have e56 := (show b1_4.eval (.tmp 56) = .int .i64 (i : Int) from (fb1_4.at_ 56))
    have e58 := (show b1_4.eval (.tmp 58) = .int .i64 (lb.length : Int) from (fb1_4.at_ 58))
    clear fb1_4 hQ h6 ro ra rb hQp r1 f1 j6 j7 he hil
    generalize b1_4.eval = ρ at *
    go_simp
  refine fb1_4.step 59 (.int .i64 (il : Int)) rfl (lb_ i1.size) (wanted_none rfl) r_b1_5 (fun b1_5 fb1_5 => ?_)
  clear r_b1_5
  clear fb1_4
  refine fb1_5.move 60 (.int .u64 ((c2 : Nat) : Int)) _ (Or.inl rfl) rfl (lb_ i1.size) (wanted_none rfl) ((fb1_5.at_ 7).trans j7) (fun b1_6 fb1_6 => ?_)
  clear fb1_5
  have r_b1_7 : (execOp b1_6.eval { dst := some 61, op := Op.indexAddr 36 (Operand.tmp 55) (Operand.tmp 59), type := 0, pos := "ref.go:101", after := #[{ on := 0, ground := Ground.data }, { on := 4, ground := Ground.data }, { on := 0, ground := Ground.phase }, { on := 1, ground := Ground.phase }, { on := 2, ground := Ground.phase }, { on := 3, ground := Ground.phase }, { on := 4, ground := Ground.phase }, { on := 5, ground := Ground.phase }], guard := none }).run Tryd.prog (W) = .ok (.value (.pointer (some ⟨go, il, none⟩))) (W) := by
    have e55 := (show b1_6.eval (.tmp 55) = .slice (some ⟨go, 0, none⟩) n co from (fb1_6.at_ 55))
    have e59 := (show b1_6.eval (.tmp 59) = .int .i64 (il : Int) from (fb1_6.at_ 59))
    clear fb1_6 hQ h6 ro ra rb hQp r1 f1 j6 j7 he hil
    generalize b1_6.eval = ρ at *
    go_simp
  refine fb1_6.step 61 (.pointer (some ⟨go, il, none⟩)) rfl (lb_ i1.size) (wanted_none rfl) r_b1_7 (fun b1_7 fb1_7 => ?_)
  clear r_b1_7
  clear fb1_6
  have r_b1_8 : (execOp b1_7.eval { dst := none, op := Op.store 39 (Operand.tmp 61) (Operand.tmp 60), type := 0, pos := "ref.go:101", after := #[{ on := 6, ground := Ground.data }, { on := 5, ground := Ground.data }, { on := 0, ground := Ground.phase }, { on := 1, ground := Ground.phase }, { on := 2, ground := Ground.phase }, { on := 3, ground := Ground.phase }, { on := 4, ground := Ground.phase }, { on := 5, ground := Ground.phase }], guard := none }).run Tryd.prog (W) = .ok .skip (World.setCell W ⟨go, il, none⟩ (.int .u64 ((c2 : Nat) : Int))) := by
    have e61 := (show b1_7.eval (.tmp 61) = .pointer (some ⟨go, il, none⟩) from (fb1_7.at_ 61))
    have e60 := (show b1_7.eval (.tmp 60) = .int .u64 ((c2 : Nat) : Int) from (fb1_7.at_ 60))
    clear fb1_7 hQ h6 ro ra rb hQp r1 f1 j6 j7 he hil
    generalize b1_7.eval = ρ at *
    go_simp
  refine fb1_7.store rfl (wanted_none rfl) r_b1_8 (fun b1_8 fb1_8 => ?_)
  clear r_b1_8
  have r2 := r1.put (j := il) (v := c2)
  have f2 : Fr (fun b => b = go) W (World.setCell W ⟨go, il, none⟩ (.int .u64 ((c2 : Nat) : Int))) := Fr.setCell (S := fun b => b = go) (Fr.refl _ W) (p := ⟨go, il, none⟩) (fun _ => rfl) _
  generalize World.setCell W ⟨go, il, none⟩ (.int .u64 ((c2 : Nat) : Int)) = V at *
  clear fb1_7
  refine wpList_nil ?_
  change Code.wp _ _ _ _ _
  refine wp_region_list ?_
  unfold rRB4
  refine fb1_8.move 20 (.int .i64 (i : Int)) _ (Or.inl rfl) rfl (lb_ i1.size) (wanted_none rfl) ((fb1_8.at_ 6).trans j6) (fun b1_9 fb1_9 => ?_)
  clear fb1_8
  have r_b1_10 : (execOp b1_9.eval { dst := some 21, op := Op.binOp BinOp.add 3 (Operand.tmp 20) (Operand.const (Value.int IntKind.i64 1)) 3, type := 3, pos := "ref.go:94", after := #[{ on := 0, ground := Ground.data }], guard := none }).run Tryd.prog (V) = .ok (.value (.int .i64 ((i : Int) + 1))) (V) := by
    have kc : ∀ v, b1_9.eval (.const v) = v := fun _ => rfl
    have e20 := (show b1_9.eval (.tmp 20) = .int .i64 (i : Int) from (fb1_9.at_ 20))
    clear fb1_9 hQ h6 ro ra rb hQp r1 f1 j6 j7 he hil r2 f2
    generalize b1_9.eval = ρ at *
    go_simp
  refine fb1_9.step 21 (.int .i64 ((i : Int) + 1)) rfl (lb_ i1.size) (wanted_none rfl) r_b1_10 (fun b1_10 fb1_10 => ?_)
  clear r_b1_10
  clear fb1_9
  refine fb1_10.move 6 (.int .i64 ((i : Int) + 1)) _ (Or.inr rfl) rfl (lb_ i1.size) (wanted_none rfl) (fb1_10.at_ 21) (fun b1_11 fb1_11 => ?_)
  clear fb1_10
  refine wpList_nil ?_
  exact hQ b1_11 V o2 c2 he (i1.keep fb1_11 rfl rfl rfl) (show b1_11.eval (.tmp 6) = .int .i64 ((i : Int) + 1) from (fb1_11.at_ 6)) (by rw [← hil]; exact r2) (Fr.trans f1 f2 (fun _ _ e => e))
theorem rb1L {ga gb go ca cb co n : Nat} {la lb : List Nat} {Q : Exit → Act → World → Prop} (hQp : ∀ c (a : Act) d v w, Q (.panic c) (a.put d v) w → Q (.panic c) a w) (a0 : Act) (w : World) (I0 : IRB (.slice (some ⟨ga, 0, none⟩) la.length ca) (.slice (some ⟨gb, 0, none⟩) lb.length cb) (.slice (some ⟨go, 0, none⟩) n co) a0) (h6 : a0.eval (.tmp 6) = .int .i64 ((0 : Nat) : Int)) (hn : n = la.length + lb.length) (hsm : n ≤ 1000) (nga : ga ≠ go) (ngb : gb ≠ go) (ro : WAt w go (List.replicate (la.length + lb.length) 0)) (ra : WAt w ga la) (rb : WAt w gb lb)
    (hQ : ∀ a W, IRB (.slice (some ⟨ga, 0, none⟩) la.length ca) (.slice (some ⟨gb, 0, none⟩) lb.length cb) (.slice (some ⟨go, 0, none⟩) n co) a → WAt W go (wideN la lb) → Fr (fun b => b = go) w W → Q (.exit 0) a W) : (Code.loop cRB1).wp Tryd.prog Q a0 w := by
  refine wp_loop (fun a W => ∃ i : Nat, i ≤ la.length ∧ IRB (.slice (some ⟨ga, 0, none⟩) la.length ca) (.slice (some ⟨gb, 0, none⟩) lb.length cb) (.slice (some ⟨go, 0, none⟩) n co) a ∧ a.eval (.tmp 6) = .int .i64 (i : Int) ∧ WAt W go (outW la lb i (List.replicate (la.length + lb.length) 0)) ∧ Fr (fun b => b = go) w W) (fun a _ => la.length - kOf a 6) ⟨0, Nat.zero_le _, I0, h6, ro, Fr.refl _ _⟩ ?_
  rintro a W ⟨i, hi, I1, g6, r1, f1⟩
  by_cases hgo : i < la.length
  · refine rb1R (Q := Exit.then _ Q) (fun c a d v w h => hQp c a d v w h) a W I1 g6 hgo hn (by rw [outW_len, List.length_replicate]; exact hn.symm) hsm nga ngb r1 (heap_fr ra f1 nga) (heap_fr rb f1 ngb) (fun a' W' o2 c2 he i2 j6 r2 f2 => ?_)
    have h4 : a'.eval (.tmp 6) = .int .i64 ((i + 1 : Nat) : Int) := j6
    refine ⟨⟨i + 1, hgo, i2, h4, by rw [outW_succ he]; exact r2, Fr.trans f1 f2 (fun _ _ e => e)⟩, ?_⟩
    show la.length - kOf a' 6 < la.length - kOf a 6
    rw [kOf_eq h4, kOf_eq g6]
    omega
  · obtain rfl : la.length = i := by omega
    exact rb1E a W I1 g6 (Nat.le_refl _) (fun a' i2 => hQ a' W i2 r1 f1)
set_option maxRecDepth 100000 in
set_option maxHeartbeats 1000000 in
theorem wide_calls {ga gb ca cb : Nat} {la lb : List Nat} (w : World) (hsm : la.length + lb.length ≤ 1000) (ra : WAt w ga la) (rb : WAt w gb lb) :
    Calls Tryd.prog 19 #[.slice (some ⟨ga, 0, none⟩) la.length ca, .slice (some ⟨gb, 0, none⟩) lb.length cb] w fun e w' => ∃ g c, e = .returned (.slice (some ⟨g, 0, none⟩) (la.length + lb.length) c) ∧ WAt w' g (wideN la lb) ∧ w.heap.size ≤ g ∧ Same w w' := by
  refine calls_abs (c := cRB) Tryd.func19 (by kernel_rfl) 63 rfl (by simp) (fun a0 hsz hd ha => ?_)
  have fa0_0 := Fe.refl a0
  obtain ⟨n, hn⟩ : ∃ n, n = la.length + lb.length := ⟨_, rfl⟩
  have wk : IntKind.i64.wrap ((la.length : Int) + (lb.length : Int)) = (n : Int) := by rw [IntKind.wrap_i64]; omega
  rw [← hn] at hsm
  unfold cRB
  refine wp_seq ?_
  refine wp_region_list ?_
  unfold rRB0
  refine fa0_0.move 4 (.slice none 0 0) _ (Or.inr rfl) rfl (lb_ hsz) (wanted_none rfl) rfl (fun a0_1 fa0_1 => ?_)
  clear fa0_0
  refine wpList_nil ?_
  change Code.wp _ _ _ _ _
  refine wp_seq ?_
  refine wp_region_list ?_
  unfold rRB1
  refine fa0_1.move 10 (.slice (some ⟨ga, 0, none⟩) la.length ca) _ (Or.inl rfl) rfl (lb_ hsz) (wanted_none rfl) ((fa0_1.at_ 0).trans (ha 0 _ rfl)) (fun a0_2 fa0_2 => ?_)
  clear fa0_1
  have r_a0_3 : (execOp a0_2.eval { dst := some 11, op := Op.call { callee := Callee.builtin Builtin.len, args := #[Operand.tmp 10], argTypes := #[36] }, type := 3, pos := "ref.go:93", after := #[{ on := 0, ground := Ground.data }], guard := none }).run Tryd.prog (w) = .ok (.value (.int .i64 (la.length : Int))) (w) := by
    have e10 := (show a0_2.eval (.tmp 10) = .slice (some ⟨ga, 0, none⟩) la.length ca from (fa0_2.at_ 10))
    clear fa0_2 ha ra rb hn
    generalize a0_2.eval = ρ at *
    go_simp
  refine fa0_2.step 11 (.int .i64 (la.length : Int)) rfl (lb_ hsz) (wanted_none rfl) r_a0_3 (fun a0_3 fa0_3 => ?_)
  clear r_a0_3
  clear fa0_2
  refine fa0_3.move 12 (.slice (some ⟨gb, 0, none⟩) lb.length cb) _ (Or.inl rfl) rfl (lb_ hsz) (wanted_none rfl) ((fa0_3.at_ 1).trans (ha 1 _ rfl)) (fun a0_4 fa0_4 => ?_)
  clear fa0_3
  have r_a0_5 : (execOp a0_4.eval { dst := some 13, op := Op.call { callee := Callee.builtin Builtin.len, args := #[Operand.tmp 12], argTypes := #[36] }, type := 3, pos := "ref.go:93", after := #[{ on := 2, ground := Ground.data }], guard := none }).run Tryd.prog (w) = .ok (.value (.int .i64 (lb.length : Int))) (w) := by
    have e12 := (show a0_4.eval (.tmp 12) = .slice (some ⟨gb, 0, none⟩) lb.length cb from (fa0_4.at_ 12))
    clear fa0_4 ha ra rb hn
    generalize a0_4.eval = ρ at *
    go_simp
  refine fa0_4.step 13 (.int .i64 (lb.length : Int)) rfl (lb_ hsz) (wanted_none rfl) r_a0_5 (fun a0_5 fa0_5 => ?_)
  clear r_a0_5
  clear fa0_4
  have r_a0_6 : (execOp a0_5.eval { dst := some 14, op := Op.binOp BinOp.add 3 (Operand.tmp 11) (Operand.tmp 13) 3, type := 3, pos := "ref.go:93", after := #[{ on := 1, ground := Ground.data }, { on := 3, ground := Ground.data }], guard := none }).run Tryd.prog (w) = .ok (.value (.int .i64 (n : Int))) (w) := by
    have e11 := (show a0_5.eval (.tmp 11) = .int .i64 (la.length : Int) from (fa0_5.at_ 11))
    have e13 := (show a0_5.eval (.tmp 13) = .int .i64 (lb.length : Int) from (fa0_5.at_ 13))
    clear fa0_5 ha ra rb hn
    generalize a0_5.eval = ρ at *
    go_simp
  refine fa0_5.step 14 (.int .i64 (n : Int)) rfl (lb_ hsz) (wanted_none rfl) r_a0_6 (fun a0_6 fa0_6 => ?_)
  clear r_a0_6
  clear fa0_5
  have r_a0_7 : (execOp a0_6.eval { dst := some 15, op := Op.makeSlice 36 (Operand.tmp 14) (Operand.tmp 14), type := 36, pos := "ref.go:93", after := #[{ on := 4, ground := Ground.data }, { on := 4, ground := Ground.data }], guard := none }).run Tryd.prog (w) = .ok (.value (.slice (some ⟨w.heap.size, 0, none⟩) n n)) (World.alloc w (.cells (vcells (List.replicate n 0)).toArray 39)) := by
    refine exec_make rfl ?_
    rw [(show a0_6.eval (.tmp 14) = .int .i64 (n : Int) from (fa0_6.at_ 14))]
    exact run_make64 w _ (by omega)
  refine fa0_6.stepW 15 (.slice (some ⟨w.heap.size, 0, none⟩) n n) rfl (lb_ hsz) (wanted_none rfl) r_a0_7 (fun a0_7 fa0_7 => ?_)
  clear r_a0_7
  have s1 : Same w (World.alloc w (.cells (vcells (List.replicate n 0)).toArray 39)) := (Fr.refl _ w).alloc _
  have r1 : WAt (World.alloc w (.cells (vcells (List.replicate n 0)).toArray 39)) w.heap.size (List.replicate n 0) := heap_alloc_new w _
  generalize World.alloc w (.cells (vcells (List.replicate n 0)).toArray 39) = V at *
  clear fa0_6
  refine fa0_7.move 5 (.slice (some ⟨w.heap.size, 0, none⟩) n n) _ (Or.inr rfl) rfl (lb_ hsz) (wanted_none rfl) (fa0_7.at_ 15) (fun a0_8 fa0_8 => ?_)
  clear fa0_7
  refine wpList_nil ?_
  change Code.wp _ _ _ _ _
  refine wp_seq (wp_seq ?_)
  refine wp_region_list ?_
  unfold rRB2
  refine fa0_8.move 6 (.int .i64 ((0 : Nat) : Int)) _ (Or.inr rfl) rfl (lb_ hsz) (wanted_none rfl) rfl (fun a0_9 fa0_9 => ?_)
  clear fa0_8
  refine wpList_nil ?_
  change Code.wp _ _ _ _ _
  refine wp_block ?_
  have la1 := lt_of_heap ra
  have lb1 := lt_of_heap rb
  refine rb1L (by intro c a d v w h; cases d <;> exact h) a0_9 V ⟨fa0_9.size.trans hsz, fa0_9.defers.trans hd, (show a0_9.eval (.tmp 0) = .slice (some ⟨ga, 0, none⟩) la.length ca from ((fa0_9.at_ 0).trans (ha 0 _ rfl))), (show a0_9.eval (.tmp 1) = .slice (some ⟨gb, 0, none⟩) lb.length cb from ((fa0_9.at_ 1).trans (ha 1 _ rfl))), (show a0_9.eval (.tmp 5) = .slice (some ⟨w.heap.size, 0, none⟩) n n from (fa0_9.at_ 5))⟩ (show a0_9.eval (.tmp 6) = .int .i64 ((0 : Nat) : Int) from (fa0_9.at_ 6)) hn hsm (by omega) (by omega) (by rw [← hn]; exact r1) (ra.same s1) (rb.same s1) (fun b1 W i1 r2 f2 => ?_)
  change Code.wp _ _ _ _ _
  refine wp_seq ?_
  have fb1_0 := Fe.refl b1
  refine wp_region_list ?_
  unfold rRB13
  refine fb1_0.move 62 (.slice (some ⟨w.heap.size, 0, none⟩) n n) _ (Or.inl rfl) rfl (lb_ i1.size) (wanted_none rfl) ((fb1_0.at_ 5).trans i1.s5) (fun b1_1 fb1_1 => ?_)
  clear fb1_0
  refine fb1_1.move 4 (.slice (some ⟨w.heap.size, 0, none⟩) n n) _ (Or.inr rfl) rfl (lb_ i1.size) (wanted_none rfl) (fb1_1.at_ 62) (fun b1_2 fb1_2 => ?_)
  clear fb1_1
  refine wpList_nil ?_
  change Code.wp _ _ _ _ _
  refine wp_ret ?_
  exact ret_abs rfl (fb1_2.defers.trans i1.defers) (show b1_2.eval (.tmp 4) = .slice (some ⟨w.heap.size, 0, none⟩) n n from (fb1_2.at_ 4)) ⟨_, _, by rw [← hn], r2, Nat.le_refl _, Fr.trans s1 f2 (fun k hk e => by have e2 : k = w.heap.size := e; omega)⟩
end Go.Proofs.YtnoicjpmfchhiaaDoor
