/- The law's text, alike, seen. -/
import Derived.Test.YtljlkcmjbjnihaaOQ
namespace Go.Proofs.Ytljlkcmjbjnihaa
open Go.RowKit

theorem Try.infU8 : (Try.prog.info? 5).map (fun i => (i.zero, i.size, i.bytes)) = some (some (.int .u8 0), 1, 1) := by kernel_rfl
/-- The bytes of a text. -/
def textL (b s : UInt8) : Nat → List UInt8
  | 0 => []
  | n + 1 => b :: textL (b + s) s n
def stepU (b s : UInt8) : Nat → UInt8
  | 0 => b
  | n + 1 => stepU b s n + s
theorem textL_len (b s : UInt8) (n : Nat) : (textL b s n).length = n := by
  induction n generalizing b with
  | zero => rfl
  | succ n ih => simp [textL, ih]
theorem stepU_succ (b s : UInt8) (n : Nat) : stepU (b + s) s n = stepU b s (n + 1) := by
  induction n with
  | zero => rfl
  | succ n ih => show stepU (b + s) s n + s = stepU b s (n + 1) + s; rw [ih]
theorem textL_snoc (b s : UInt8) (n : Nat) : textL b s (n + 1) = textL b s n ++ [stepU b s n] := by
  induction n generalizing b with
  | zero => rfl
  | succ n ih =>
    show b :: textL (b + s) s (n + 1) = (b :: textL (b + s) s n) ++ [stepU b s (n + 1)]
    rw [ih, stepU_succ]
    rfl
def textN (len : Int) (page : Nat) : Nat := if len < 0 ∨ 10000 < len then page else len.toNat
def textS (len : Int) (b s : UInt8) (page : Nat) : ByteArray := ⟨(textL b s (textN len page)).toArray⟩
theorem textS_size (len : Int) (b s : UInt8) (page : Nat) : (textS len b s page).size = textN len page := by
  show (textL b s (textN len page)).toArray.size = _
  rw [List.size_toArray, textL_len]
def txR (b s : UInt8) (n i : Nat) : List Value := bcells (textL b s i) ++ List.replicate (n - i) (.int .u8 0)
theorem txR_len {b s : UInt8} {n i : Nat} (h : i ≤ n) : (txR b s n i).length = n := by unfold txR; simp [bcells_length, textL_len]; omega
theorem txR_next {b s : UInt8} {n i : Nat} (h : i < n) : (txR b s n i).set i (.int .u8 ((stepU b s i).toNat : Int)) = txR b s n (i + 1) := by
  unfold txR
  rw [List.set_append_right _ _ (by rw [bcells_length, textL_len]; exact Nat.le_refl _), bcells_length, textL_len, Nat.sub_self, textL_snoc, bcells_append, show n - i = (n - (i + 1)) + 1 from by omega, List.replicate_succ, List.set_cons_zero, List.append_assoc]
  rfl
theorem u8_sum (x y : UInt8) : IntKind.u8.wrap ((x.toNat : Int) + (y.toNat : Int)) = ((x + y).toNat : Int) := by
  rw [UInt8.toNat_add]
  simp [IntKind.wrap, IntKind.bits, IntKind.signed]
theorem zrep8 (n : Nat) (hn : n ≤ 1048576) (w : World) : (Instr.makeSlice 78 (.int .i64 (n : Int)) (.int .i64 (n : Int))).run Try.prog w = .ok (.slice (some ⟨w.heap.size, 0, none⟩) n n) (w.alloc (.cells (List.replicate n (Value.int .u8 0)).toArray 5)) := by
  obtain ⟨i0, hi, hz0, hz1, hz2⟩ := info_parts Try.infU8
  have h := run_make (P := Try.prog) w 78 5 i0 (.int .u8 0) Try.underlying78 hi hz0 .i64 .i64 (n : Int) (n : Int) (by omega) (Int.le_refl _) (by rw [hz2]; omega) (by omega)
  rw [h, hz1]
  simp only [Int.toNat_natCast, Nat.mul_one]
  rw [show Value.cells (.int .u8 0) = #[Value.int .u8 0] from rfl, madeCells_one]
def rOR0 : Array Oper := #[{ dst := some 2, op := Op.box 57 (Operand.tmp 0), type := 0, pos := "law.go:52", after := #[], guard := none },
  { dst := some 4, op := Op.assign (Operand.const (Value.string { data := #[] })), type := 9, pos := "law.go:52", after := #[], guard := none }]
def rOR1 : Array Oper := #[{ dst := some 9, op := Op.fieldAddr 57 (Operand.tmp 2) 0, type := 0, pos := "law.go:53", after := #[], guard := none },
  { dst := some 10, op := Op.load 3 (Operand.tmp 9), type := 3, pos := "law.go:53", after := #[{ on := 0, ground := Ground.data }], guard := none },
  { dst := some 5, op := Op.assign (Operand.tmp 10), type := 3, pos := "law.go:53", after := #[{ on := 1, ground := Ground.data }, { on := 0, ground := Ground.phase }, { on := 1, ground := Ground.phase }], guard := none }]
def rOR2 : Array Oper := #[{ dst := some 11, op := Op.move (Operand.tmp 5), type := 3, pos := "law.go:54", after := #[], guard := none },
  { dst := some 12, op := Op.binOp BinOp.lss 3 (Operand.tmp 11) (Operand.const (Value.int IntKind.i64 0)) 3, type := 4, pos := "law.go:54", after := #[{ on := 0, ground := Ground.data }], guard := none },
  { dst := some 13, op := Op.move (Operand.tmp 12), type := 4, pos := "law.go:54", after := #[{ on := 1, ground := Ground.data }], guard := none },
  { dst := some 14, op := Op.move (Operand.tmp 5), type := 3, pos := "law.go:54", after := #[{ on := 2, ground := Ground.guard }], guard := some (2, false) },
  { dst := some 15, op := Op.binOp BinOp.gtr 3 (Operand.tmp 14) (Operand.const (Value.int IntKind.i64 10000)) 3, type := 4, pos := "law.go:54", after := #[{ on := 3, ground := Ground.data }, { on := 2, ground := Ground.guard }], guard := some (2, false) },
  { dst := some 16, op := Op.pick (Operand.tmp 13) (Operand.const (Value.bool true)) (Operand.tmp 15), type := 4, pos := "law.go:54", after := #[{ on := 2, ground := Ground.data }, { on := 4, ground := Ground.data }], guard := none }]
def rOR3 : Array Oper := #[{ dst := some 17, op := Op.move (Operand.tmp 1), type := 3, pos := "law.go:55", after := #[], guard := none },
  { dst := some 5, op := Op.assign (Operand.tmp 17), type := 3, pos := "law.go:55", after := #[{ on := 0, ground := Ground.data }, { on := 0, ground := Ground.phase }], guard := none }]
def rOR4 : Array Oper := #[{ dst := some 18, op := Op.move (Operand.tmp 5), type := 3, pos := "law.go:57", after := #[], guard := none },
  { dst := some 19, op := Op.makeSlice 78 (Operand.tmp 18) (Operand.tmp 18), type := 78, pos := "law.go:57", after := #[{ on := 0, ground := Ground.data }, { on := 0, ground := Ground.data }], guard := none },
  { dst := some 6, op := Op.assign (Operand.tmp 19), type := 78, pos := "law.go:57", after := #[{ on := 1, ground := Ground.data }, { on := 0, ground := Ground.phase }, { on := 1, ground := Ground.phase }], guard := none }]
def rOR5 : Array Oper := #[{ dst := some 20, op := Op.fieldAddr 57 (Operand.tmp 2) 1, type := 0, pos := "law.go:58", after := #[], guard := none },
  { dst := some 21, op := Op.load 5 (Operand.tmp 20), type := 5, pos := "law.go:58", after := #[{ on := 0, ground := Ground.data }], guard := none },
  { dst := some 7, op := Op.assign (Operand.tmp 21), type := 5, pos := "law.go:58", after := #[{ on := 1, ground := Ground.data }, { on := 0, ground := Ground.phase }, { on := 1, ground := Ground.phase }], guard := none }]
def rOR6 : Array Oper := #[{ dst := some 8, op := Op.assign (Operand.const (Value.int IntKind.i64 0)), type := 3, pos := "law.go:59", after := #[], guard := none }]
def rOR7 : Array Oper := #[{ dst := some 22, op := Op.move (Operand.tmp 8), type := 3, pos := "law.go:59", after := #[], guard := none },
  { dst := some 23, op := Op.move (Operand.tmp 5), type := 3, pos := "law.go:59", after := #[], guard := none },
  { dst := some 24, op := Op.binOp BinOp.lss 3 (Operand.tmp 22) (Operand.tmp 23) 3, type := 4, pos := "law.go:59", after := #[{ on := 0, ground := Ground.data }, { on := 1, ground := Ground.data }], guard := none }]
def rOR8 : Array Oper := #[{ dst := some 25, op := Op.move (Operand.tmp 8), type := 3, pos := "law.go:59", after := #[], guard := none },
  { dst := some 26, op := Op.binOp BinOp.add 3 (Operand.tmp 25) (Operand.const (Value.int IntKind.i64 1)) 3, type := 3, pos := "law.go:59", after := #[{ on := 0, ground := Ground.data }], guard := none },
  { dst := some 8, op := Op.assign (Operand.tmp 26), type := 3, pos := "law.go:59", after := #[{ on := 1, ground := Ground.data }, { on := 0, ground := Ground.phase }, { on := 1, ground := Ground.phase }], guard := none }]
def rOR9 : Array Oper := #[{ dst := some 27, op := Op.move (Operand.tmp 6), type := 78, pos := "law.go:60", after := #[], guard := none },
  { dst := some 28, op := Op.move (Operand.tmp 8), type := 3, pos := "law.go:60", after := #[], guard := none },
  { dst := some 29, op := Op.move (Operand.tmp 7), type := 5, pos := "law.go:60", after := #[], guard := none },
  { dst := some 30, op := Op.indexAddr 78 (Operand.tmp 27) (Operand.tmp 28), type := 0, pos := "law.go:60", after := #[{ on := 0, ground := Ground.data }, { on := 1, ground := Ground.data }, { on := 0, ground := Ground.phase }, { on := 1, ground := Ground.phase }, { on := 2, ground := Ground.phase }], guard := none },
  { dst := none, op := Op.store 5 (Operand.tmp 30) (Operand.tmp 29), type := 0, pos := "law.go:60", after := #[{ on := 3, ground := Ground.data }, { on := 2, ground := Ground.data }, { on := 0, ground := Ground.phase }, { on := 1, ground := Ground.phase }, { on := 2, ground := Ground.phase }], guard := none }]
def rOR10 : Array Oper := #[{ dst := some 31, op := Op.move (Operand.tmp 7), type := 5, pos := "law.go:61", after := #[], guard := none },
  { dst := some 32, op := Op.fieldAddr 57 (Operand.tmp 2) 2, type := 0, pos := "law.go:61", after := #[], guard := none },
  { dst := some 33, op := Op.load 5 (Operand.tmp 32), type := 5, pos := "law.go:61", after := #[{ on := 1, ground := Ground.data }], guard := none },
  { dst := some 34, op := Op.binOp BinOp.add 5 (Operand.tmp 31) (Operand.tmp 33) 5, type := 5, pos := "law.go:61", after := #[{ on := 0, ground := Ground.data }, { on := 2, ground := Ground.data }], guard := none },
  { dst := some 7, op := Op.assign (Operand.tmp 34), type := 5, pos := "law.go:61", after := #[{ on := 3, ground := Ground.data }, { on := 0, ground := Ground.phase }, { on := 1, ground := Ground.phase }, { on := 2, ground := Ground.phase }, { on := 3, ground := Ground.phase }], guard := none }]
def rOR11 : Array Oper := #[{ dst := some 35, op := Op.move (Operand.tmp 6), type := 78, pos := "law.go:63", after := #[], guard := none },
  { dst := some 36, op := Op.convert 78 9 (Operand.tmp 35), type := 9, pos := "law.go:63", after := #[{ on := 0, ground := Ground.data }], guard := none },
  { dst := some 4, op := Op.assign (Operand.tmp 36), type := 9, pos := "law.go:63", after := #[{ on := 1, ground := Ground.data }, { on := 0, ground := Ground.phase }, { on := 1, ground := Ground.phase }], guard := none }]
def cOR1 : Code := (Code.seq (Code.seq (Code.region 7 rOR7 false) (Code.cond (Operand.tmp 24) Code.skip (Code.exit 0))) (Code.seq (Code.block 1 (Code.seq (Code.region 9 rOR9 false) (Code.region 10 rOR10 false))) (Code.region 8 rOR8 false)))
def cOR : Code := (Code.seq (Code.region 0 rOR0 false) (Code.seq (Code.region 1 rOR1 false) (Code.seq (Code.seq (Code.region 2 rOR2 false) (Code.cond (Operand.tmp 16) (Code.region 3 rOR3 false) Code.skip)) (Code.seq (Code.region 4 rOR4 false) (Code.seq (Code.region 5 rOR5 false) (Code.seq (Code.seq (Code.region 6 rOR6 false) (Code.block 0 (Code.loop cOR1))) (Code.seq (Code.region 11 rOR11 false) Code.ret)))))))
structure IOR (db g n : Nat) (a : Act) : Prop where
  size : a.tmps.size = 37
  defers : a.defers = []
  s2 : a.eval (.tmp 2) = .pointer (some ⟨db, 0, none⟩)
  s5 : a.eval (.tmp 5) = .int .i64 (n : Int)
  s6 : a.eval (.tmp 6) = .slice (some ⟨g, 0, none⟩) n n
theorem IOR.keep {db g n : Nat} {a0 a : Act} {env : List (Nat × Value)} (h : IOR db g n a0) (f : Fe a0 env a) (h2 : look env 2 (a0.eval (.tmp 2)) = a0.eval (.tmp 2)) (h5 : look env 5 (a0.eval (.tmp 5)) = a0.eval (.tmp 5)) (h6 : look env 6 (a0.eval (.tmp 6)) = a0.eval (.tmp 6)) : IOR db g n a :=
  ⟨f.size.trans h.size, f.defers.trans h.defers, ((f.at_ 2).trans h2).trans h.s2, ((f.at_ 5).trans h5).trans h.s5, ((f.at_ 6).trans h6).trans h.s6⟩
theorem orE {db g n i : Nat} {Q : Exit → Act → World → Prop} (a0 : Act) (wr : World) (I0 : IOR db g n a0) (h8 : a0.eval (.tmp 8) = .int .i64 (i : Int)) (hi : n ≤ i) (hQ : ∀ a, IOR db g n a → Q (.exit 0) a wr) : cOR1.wp Try.prog Q a0 wr := by
  have hii : ¬ (i : Int) < (n : Int) := by omega
  have hid : decide ((i : Int) < (n : Int)) = false := decide_eq_false hii
  clear hi
  have fa0_0 := Fe.refl a0
  unfold cOR1
  refine wp_seq (wp_seq ?_)
  refine wp_region_list ?_
  unfold rOR7
  refine fa0_0.move 22 (.int .i64 (i : Int)) _ (Or.inl rfl) rfl (lb_ I0.size) (wanted_none rfl) ((fa0_0.at_ 8).trans h8) (fun a0_1 fa0_1 => ?_)
  clear fa0_0
  refine fa0_1.move 23 (.int .i64 (n : Int)) _ (Or.inl rfl) rfl (lb_ I0.size) (wanted_none rfl) ((fa0_1.at_ 5).trans I0.s5) (fun a0_2 fa0_2 => ?_)
  clear fa0_1
  have r_a0_3 : (execOp a0_2.eval { dst := some 24, op := Op.binOp BinOp.lss 3 (Operand.tmp 22) (Operand.tmp 23) 3, type := 4, pos := "law.go:59", after := #[{ on := 0, ground := Ground.data }, { on := 1, ground := Ground.data }], guard := none }).run Try.prog (wr) = .ok (.value (.bool false)) (wr) := by
    have e22 := (show a0_2.eval (.tmp 22) = .int .i64 (i : Int) from (fa0_2.at_ 22))
    have e23 := (show a0_2.eval (.tmp 23) = .int .i64 (n : Int) from (fa0_2.at_ 23))
    clear fa0_2 hQ h8
    generalize a0_2.eval = ρ at *
    go_simp
  refine fa0_2.step 24 (.bool false) rfl (lb_ I0.size) (wanted_none rfl) r_a0_3 (fun a0_3 fa0_3 => ?_)
  clear r_a0_3
  clear fa0_2
  refine wpList_nil ?_
  change Code.wp _ _ _ _ _
  refine wp_cond_false (show a0_3.eval (.tmp 24) = .bool false from (fa0_3.at_ 24)) (wp_exit ?_)
  exact hQ a0_3 (I0.keep fa0_3 rfl rfl rfl)
set_option maxRecDepth 100000 in
set_option maxHeartbeats 1000000 in
theorem orR {db g n i : Nat} {x st : UInt8} {xs : List Value} {Q : Exit → Act → World → Prop} (a0 : Act) (wr : World) (I0 : IOR db g n a0) (h8 : a0.eval (.tmp 8) = .int .i64 (i : Int)) (h7 : a0.eval (.tmp 7) = .int .u8 (x.toNat : Int)) (hi : i < n) (hn : n ≤ 1048576) (hg : wr.heap[g]? = some (.cells xs.toArray 5 (0, 0))) (hxl : xs.length = n) (hb : wr.cell? ⟨db, 2, none⟩ = some (.int .u8 (st.toNat : Int))) (hdg : ¬ db = g)
    (hQ : ∀ a W, IOR db g n a → a.eval (.tmp 8) = .int .i64 ((i : Int) + 1) → a.eval (.tmp 7) = .int .u8 ((x + st).toNat : Int) → W.heap[g]? = some (.cells (xs.set i (.int .u8 (x.toNat : Int))).toArray 5 (0, 0)) → Fr (fun k => k = g) wr W → Q .normal a W) : cOR1.wp Try.prog Q a0 wr := by
  have hii : (i : Int) < (n : Int) := by omega
  have w1 : IntKind.i64.wrap ((i : Int) + 1) = (i : Int) + 1 := by rw [IntKind.wrap_i64]; omega
  have wu := u8_sum x st
  have hc : (wr.cell? ⟨g, i, none⟩).isSome = true := by rw [cell_of_row _ _ _ _ _ _ hg, List.getElem?_toArray, List.getElem?_eq_getElem (by omega)]; rfl
  obtain ⟨c0, hc0⟩ := Option.isSome_iff_exists.1 hc
  have hf : wr.frozen? ⟨g, i, none⟩ = false := frozen_of_row _ _ _ _ _ hg
  clear hc hxl
  have fa0_0 := Fe.refl a0
  unfold cOR1
  refine wp_seq (wp_seq ?_)
  refine wp_region_list ?_
  unfold rOR7
  refine fa0_0.move 22 (.int .i64 (i : Int)) _ (Or.inl rfl) rfl (lb_ I0.size) (wanted_none rfl) ((fa0_0.at_ 8).trans h8) (fun a0_1 fa0_1 => ?_)
  clear fa0_0
  refine fa0_1.move 23 (.int .i64 (n : Int)) _ (Or.inl rfl) rfl (lb_ I0.size) (wanted_none rfl) ((fa0_1.at_ 5).trans I0.s5) (fun a0_2 fa0_2 => ?_)
  clear fa0_1
  have r_a0_3 : (execOp a0_2.eval { dst := some 24, op := Op.binOp BinOp.lss 3 (Operand.tmp 22) (Operand.tmp 23) 3, type := 4, pos := "law.go:59", after := #[{ on := 0, ground := Ground.data }, { on := 1, ground := Ground.data }], guard := none }).run Try.prog (wr) = .ok (.value (.bool true)) (wr) := by
    have e22 := (show a0_2.eval (.tmp 22) = .int .i64 (i : Int) from (fa0_2.at_ 22))
    have e23 := (show a0_2.eval (.tmp 23) = .int .i64 (n : Int) from (fa0_2.at_ 23))
    clear fa0_2 hQ h7 h8
    generalize a0_2.eval = ρ at *
    go_simp
  refine fa0_2.step 24 (.bool true) rfl (lb_ I0.size) (wanted_none rfl) r_a0_3 (fun a0_3 fa0_3 => ?_)
  clear r_a0_3
  clear fa0_2
  refine wpList_nil ?_
  change Code.wp _ _ _ _ _
  refine wp_cond_true (show a0_3.eval (.tmp 24) = .bool true from (fa0_3.at_ 24)) (wp_skip ?_)
  change Code.wp _ _ _ _ _
  refine wp_seq (wp_block (wp_seq ?_))
  refine wp_region_list ?_
  unfold rOR9
  refine fa0_3.move 27 (.slice (some ⟨g, 0, none⟩) n n) _ (Or.inl rfl) rfl (lb_ I0.size) (wanted_none rfl) ((fa0_3.at_ 6).trans I0.s6) (fun a0_4 fa0_4 => ?_)
  clear fa0_3
  refine fa0_4.move 28 (.int .i64 (i : Int)) _ (Or.inl rfl) rfl (lb_ I0.size) (wanted_none rfl) ((fa0_4.at_ 8).trans h8) (fun a0_5 fa0_5 => ?_)
  clear fa0_4
  refine fa0_5.move 29 (.int .u8 (x.toNat : Int)) _ (Or.inl rfl) rfl (lb_ I0.size) (wanted_none rfl) ((fa0_5.at_ 7).trans h7) (fun a0_6 fa0_6 => ?_)
  clear fa0_5
  have r_a0_7 : (execOp a0_6.eval { dst := some 30, op := Op.indexAddr 78 (Operand.tmp 27) (Operand.tmp 28), type := 0, pos := "law.go:60", after := #[{ on := 0, ground := Ground.data }, { on := 1, ground := Ground.data }, { on := 0, ground := Ground.phase }, { on := 1, ground := Ground.phase }, { on := 2, ground := Ground.phase }], guard := none }).run Try.prog (wr) = .ok (.value (.pointer (some ⟨g, i, none⟩))) (wr) := by
    have e27 := (show a0_6.eval (.tmp 27) = .slice (some ⟨g, 0, none⟩) n n from (fa0_6.at_ 27))
    have e28 := (show a0_6.eval (.tmp 28) = .int .i64 (i : Int) from (fa0_6.at_ 28))
    clear fa0_6 hQ h7 h8
    generalize a0_6.eval = ρ at *
    go_simp
  refine fa0_6.step 30 (.pointer (some ⟨g, i, none⟩)) rfl (lb_ I0.size) (wanted_none rfl) r_a0_7 (fun a0_7 fa0_7 => ?_)
  clear r_a0_7
  clear fa0_6
  have r_a0_8 : (execOp a0_7.eval { dst := none, op := Op.store 5 (Operand.tmp 30) (Operand.tmp 29), type := 0, pos := "law.go:60", after := #[{ on := 3, ground := Ground.data }, { on := 2, ground := Ground.data }, { on := 0, ground := Ground.phase }, { on := 1, ground := Ground.phase }, { on := 2, ground := Ground.phase }], guard := none }).run Try.prog (wr) = .ok .skip (World.setCell wr ⟨g, i, none⟩ (.int .u8 (x.toNat : Int))) := by
    have e30 := (show a0_7.eval (.tmp 30) = .pointer (some ⟨g, i, none⟩) from (fa0_7.at_ 30))
    have e29 := (show a0_7.eval (.tmp 29) = .int .u8 (x.toNat : Int) from (fa0_7.at_ 29))
    clear fa0_7 hQ h7 h8
    generalize a0_7.eval = ρ at *
    go_simp
  refine fa0_7.store rfl (wanted_none rfl) r_a0_8 (fun a0_8 fa0_8 => ?_)
  clear r_a0_8
  have f1 : Fr (fun k => k = g) wr (World.setCell wr ⟨g, i, none⟩ (.int .u8 (x.toNat : Int))) := Fr.setCell (S := fun k => k = g) (Fr.refl _ wr) (p := ⟨g, i, none⟩) (fun _ => rfl) _
  have g1 := heap_setCell_same wr g i _ _ (.int .u8 (x.toNat : Int)) hg
  generalize World.setCell wr ⟨g, i, none⟩ (.int .u8 (x.toNat : Int)) = W1 at *
  have hb1 := (f1.cell (World.block_lt_of_cell? _ _ hb) (fun e => hdg e)).trans hb
  clear fa0_7
  refine wpList_nil ?_
  change Code.wp _ _ _ _ _
  refine wp_region_list ?_
  unfold rOR10
  refine fa0_8.move 31 (.int .u8 (x.toNat : Int)) _ (Or.inl rfl) rfl (lb_ I0.size) (wanted_none rfl) ((fa0_8.at_ 7).trans h7) (fun a0_9 fa0_9 => ?_)
  clear fa0_8
  have r_a0_10 : (execOp a0_9.eval { dst := some 32, op := Op.fieldAddr 57 (Operand.tmp 2) 2, type := 0, pos := "law.go:61", after := #[], guard := none }).run Try.prog (W1) = .ok (.value (.pointer (some ⟨db, 2, none⟩))) (W1) := by
    have e2 := (show a0_9.eval (.tmp 2) = .pointer (some ⟨db, 0, none⟩) from ((fa0_9.at_ 2).trans I0.s2))
    clear fa0_9 hQ h7 h8
    generalize a0_9.eval = ρ at *
    go_simp
  refine fa0_9.step 32 (.pointer (some ⟨db, 2, none⟩)) rfl (lb_ I0.size) (wanted_none rfl) r_a0_10 (fun a0_10 fa0_10 => ?_)
  clear r_a0_10
  clear fa0_9
  have r_a0_11 : (execOp a0_10.eval { dst := some 33, op := Op.load 5 (Operand.tmp 32), type := 5, pos := "law.go:61", after := #[{ on := 1, ground := Ground.data }], guard := none }).run Try.prog (W1) = .ok (.value (.int .u8 (st.toNat : Int))) (W1) := by
    have e32 := (show a0_10.eval (.tmp 32) = .pointer (some ⟨db, 2, none⟩) from (fa0_10.at_ 32))
    clear fa0_10 hQ h7 h8
    generalize a0_10.eval = ρ at *
    go_simp
  refine fa0_10.step 33 (.int .u8 (st.toNat : Int)) rfl (lb_ I0.size) (wanted_none rfl) r_a0_11 (fun a0_11 fa0_11 => ?_)
  clear r_a0_11
  clear fa0_10
  have r_a0_12 : (execOp a0_11.eval { dst := some 34, op := Op.binOp BinOp.add 5 (Operand.tmp 31) (Operand.tmp 33) 5, type := 5, pos := "law.go:61", after := #[{ on := 0, ground := Ground.data }, { on := 2, ground := Ground.data }], guard := none }).run Try.prog (W1) = .ok (.value (.int .u8 ((x + st).toNat : Int))) (W1) := by
    have e31 := (show a0_11.eval (.tmp 31) = .int .u8 (x.toNat : Int) from (fa0_11.at_ 31))
    have e33 := (show a0_11.eval (.tmp 33) = .int .u8 (st.toNat : Int) from (fa0_11.at_ 33))
    clear fa0_11 hQ h7 h8
    generalize a0_11.eval = ρ at *
    go_simp
  refine fa0_11.step 34 (.int .u8 ((x + st).toNat : Int)) rfl (lb_ I0.size) (wanted_none rfl) r_a0_12 (fun a0_12 fa0_12 => ?_)
  clear r_a0_12
  clear fa0_11
  refine fa0_12.move 7 (.int .u8 ((x + st).toNat : Int)) _ (Or.inr rfl) rfl (lb_ I0.size) (wanted_none rfl) (fa0_12.at_ 34) (fun a0_13 fa0_13 => ?_)
  clear fa0_12
  refine wpList_nil ?_
  change Code.wp _ _ _ _ _
  refine wp_region_list ?_
  unfold rOR8
  refine fa0_13.move 25 (.int .i64 (i : Int)) _ (Or.inl rfl) rfl (lb_ I0.size) (wanted_none rfl) ((fa0_13.at_ 8).trans h8) (fun a0_14 fa0_14 => ?_)
  clear fa0_13
  have r_a0_15 : (execOp a0_14.eval { dst := some 26, op := Op.binOp BinOp.add 3 (Operand.tmp 25) (Operand.const (Value.int IntKind.i64 1)) 3, type := 3, pos := "law.go:59", after := #[{ on := 0, ground := Ground.data }], guard := none }).run Try.prog (W1) = .ok (.value (.int .i64 ((i : Int) + 1))) (W1) := by
    have kc : ∀ v, a0_14.eval (.const v) = v := fun _ => rfl
    have e25 := (show a0_14.eval (.tmp 25) = .int .i64 (i : Int) from (fa0_14.at_ 25))
    clear fa0_14 hQ h7 h8
    generalize a0_14.eval = ρ at *
    go_simp
  refine fa0_14.step 26 (.int .i64 ((i : Int) + 1)) rfl (lb_ I0.size) (wanted_none rfl) r_a0_15 (fun a0_15 fa0_15 => ?_)
  clear r_a0_15
  clear fa0_14
  refine fa0_15.move 8 (.int .i64 ((i : Int) + 1)) _ (Or.inr rfl) rfl (lb_ I0.size) (wanted_none rfl) (fa0_15.at_ 26) (fun a0_16 fa0_16 => ?_)
  clear fa0_15
  refine wpList_nil ?_
  exact hQ a0_16 W1 (I0.keep fa0_16 rfl rfl rfl) (show a0_16.eval (.tmp 8) = .int .i64 ((i : Int) + 1) from (fa0_16.at_ 8)) (show a0_16.eval (.tmp 7) = .int .u8 ((x + st).toNat : Int) from (fa0_16.at_ 7)) (by rw [g1, List.setIfInBounds_toArray]) f1
theorem orL {db g n : Nat} {x st : UInt8} {Q : Exit → Act → World → Prop} (a0 : Act) (w : World) (I0 : IOR db g n a0) (h8 : a0.eval (.tmp 8) = .int .i64 ((0 : Nat) : Int)) (h7 : a0.eval (.tmp 7) = .int .u8 (x.toNat : Int)) (hn : n ≤ 1048576) (hg : w.heap[g]? = some (.cells (txR x st n 0).toArray 5 (0, 0))) (hb : w.cell? ⟨db, 2, none⟩ = some (.int .u8 (st.toNat : Int))) (hdg : ¬ db = g)
    (hQ : ∀ a W, IOR db g n a → W.heap[g]? = some (.cells (txR x st n n).toArray 5 (0, 0)) → Fr (fun k => k = g) w W → Q (.exit 0) a W) : (Code.loop cOR1).wp Try.prog Q a0 w := by
  refine wp_loop (fun a W => IOR db g n a ∧ ∃ i : Nat, i ≤ n ∧ a.eval (.tmp 8) = .int .i64 (i : Int) ∧ a.eval (.tmp 7) = .int .u8 ((stepU x st i).toNat : Int) ∧ W.heap[g]? = some (.cells (txR x st n i).toArray 5 (0, 0)) ∧ Fr (fun k => k = g) w W) (fun a _ => n - kOf a 8) ⟨I0, 0, Nat.zero_le _, h8, h7, hg, Fr.refl _ _⟩ ?_
  rintro a W ⟨I1, i, hi, g8, g7, hg1, f1⟩
  by_cases hgo : i < n
  · refine orR (st := st) a W I1 g8 g7 hgo hn hg1 (txR_len hi) ((f1.cell (World.block_lt_of_cell? _ _ hb) (fun e => hdg e)).trans hb) hdg (fun a' W3 i3 h1 h2 h3 f3 => ?_)
    have h4 : a'.eval (.tmp 8) = .int .i64 ((i + 1 : Nat) : Int) := h1
    rw [txR_next hgo] at h3
    refine ⟨⟨i3, i + 1, hgo, h4, h2, h3, f1.trans f3 (fun _ _ e => e)⟩, ?_⟩
    show n - kOf a' 8 < n - kOf a 8
    rw [kOf_eq h4, kOf_eq g8]
    omega
  · obtain rfl : n = i := by omega
    exact orE a W I1 g8 (Nat.le_refl _) (fun a' i2 => hQ a' W i2 hg1 f1)
set_option maxRecDepth 100000 in
set_option maxHeartbeats 1000000 in
theorem text_neg {len : Int} {x st : UInt8} {page : Nat} (w : World) (hlen : len < 0) (hp : page ≤ 8192) :
    Calls Try.prog 27 #[.agg #[.int .i64 len, .int .u8 (x.toNat : Int), .int .u8 (st.toNat : Int)], .int .i64 (page : Int)] w fun e w' => e = .returned (.string (textS len x st page)) ∧ Same w w' := by
  refine calls_abs (c := cOR) Try.func27 (by kernel_rfl) 37 rfl (by simp) (fun a0 hsz hd ha => ?_)
  have fa0_0 := Fe.refl a0
  unfold cOR
  refine wp_seq ?_
  refine wp_region_list ?_
  unfold rOR0
  have r_a0_1 : (execOp a0.eval { dst := some 2, op := Op.box 57 (Operand.tmp 0), type := 0, pos := "law.go:52", after := #[], guard := none }).run Try.prog (w) = .ok (.value (.pointer (some ⟨w.heap.size, 0, none⟩))) (w.alloc (.cells #[.int .i64 len, .int .u8 (x.toNat : Int), .int .u8 (st.toNat : Int)] 57)) := by
    have e0 := (show a0.eval (.tmp 0) = .agg #[.int .i64 len, .int .u8 (x.toNat : Int), .int .u8 (st.toNat : Int)] from ((fa0_0.at_ 0).trans (ha 0 _ rfl)))
    clear fa0_0 ha
    generalize a0.eval = ρ at *
    go_simp
  refine fa0_0.stepW 2 (.pointer (some ⟨w.heap.size, 0, none⟩)) rfl (lb_ hsz) (wanted_none rfl) r_a0_1 (fun a0_1 fa0_1 => ?_)
  clear r_a0_1
  obtain ⟨V, hV⟩ : ∃ V, V = w.alloc (.cells #[.int .i64 len, .int .u8 (x.toNat : Int), .int .u8 (st.toNat : Int)] 57) := ⟨_, rfl⟩
  rw [← hV]
  have sV : Same w V := by rw [hV]; exact (Fr.refl _ w).alloc _
  have hVr : V.heap[w.heap.size]? = some (.cells #[.int .i64 len, .int .u8 (x.toNat : Int), .int .u8 (st.toNat : Int)] 57 (0, 0)) := by rw [hV]; exact heap_alloc_new w _
  clear hV
  have k0 : V.cell? ⟨w.heap.size, 0, none⟩ = some (.int .i64 len) := (cell_of_row _ _ _ _ _ _ hVr).trans rfl
  have k1 : V.cell? ⟨w.heap.size, 1, none⟩ = some (.int .u8 (x.toNat : Int)) := (cell_of_row _ _ _ _ _ _ hVr).trans rfl
  have k2 : V.cell? ⟨w.heap.size, 2, none⟩ = some (.int .u8 (st.toNat : Int)) := (cell_of_row _ _ _ _ _ _ hVr).trans rfl
  clear fa0_0
  refine fa0_1.move 4 (.string ⟨#[]⟩) _ (Or.inr rfl) rfl (lb_ hsz) (wanted_none rfl) rfl (fun a0_2 fa0_2 => ?_)
  clear fa0_1
  refine wpList_nil ?_
  change Code.wp _ _ _ _ _
  refine wp_seq ?_
  refine wp_region_list ?_
  unfold rOR1
  have r_a0_3 : (execOp a0_2.eval { dst := some 9, op := Op.fieldAddr 57 (Operand.tmp 2) 0, type := 0, pos := "law.go:53", after := #[], guard := none }).run Try.prog (V) = .ok (.value (.pointer (some ⟨w.heap.size, 0, none⟩))) (V) := by
    have e2 := (show a0_2.eval (.tmp 2) = .pointer (some ⟨w.heap.size, 0, none⟩) from (fa0_2.at_ 2))
    clear fa0_2 ha
    generalize a0_2.eval = ρ at *
    go_simp
  refine fa0_2.step 9 (.pointer (some ⟨w.heap.size, 0, none⟩)) rfl (lb_ hsz) (wanted_none rfl) r_a0_3 (fun a0_3 fa0_3 => ?_)
  clear r_a0_3
  clear fa0_2
  have r_a0_4 : (execOp a0_3.eval { dst := some 10, op := Op.load 3 (Operand.tmp 9), type := 3, pos := "law.go:53", after := #[{ on := 0, ground := Ground.data }], guard := none }).run Try.prog (V) = .ok (.value (.int .i64 len)) (V) := by
    have e9 := (show a0_3.eval (.tmp 9) = .pointer (some ⟨w.heap.size, 0, none⟩) from (fa0_3.at_ 9))
    clear fa0_3 ha
    generalize a0_3.eval = ρ at *
    go_simp
  refine fa0_3.step 10 (.int .i64 len) rfl (lb_ hsz) (wanted_none rfl) r_a0_4 (fun a0_4 fa0_4 => ?_)
  clear r_a0_4
  clear fa0_3
  refine fa0_4.move 5 (.int .i64 len) _ (Or.inr rfl) rfl (lb_ hsz) (wanted_none rfl) (fa0_4.at_ 10) (fun a0_5 fa0_5 => ?_)
  clear fa0_4
  refine wpList_nil ?_
  change Code.wp _ _ _ _ _
  refine wp_seq (wp_seq ?_)
  refine wp_region_list ?_
  unfold rOR2
  refine fa0_5.move 11 (.int .i64 len) _ (Or.inl rfl) rfl (lb_ hsz) (wanted_none rfl) (fa0_5.at_ 5) (fun a0_6 fa0_6 => ?_)
  clear fa0_5
  have r_a0_7 : (execOp a0_6.eval { dst := some 12, op := Op.binOp BinOp.lss 3 (Operand.tmp 11) (Operand.const (Value.int IntKind.i64 0)) 3, type := 4, pos := "law.go:54", after := #[{ on := 0, ground := Ground.data }], guard := none }).run Try.prog (V) = .ok (.value (.bool true)) (V) := by
    have kc : ∀ v, a0_6.eval (.const v) = v := fun _ => rfl
    have e11 := (show a0_6.eval (.tmp 11) = .int .i64 len from (fa0_6.at_ 11))
    clear fa0_6 ha
    generalize a0_6.eval = ρ at *
    go_simp
  refine fa0_6.step 12 (.bool true) rfl (lb_ hsz) (wanted_none rfl) r_a0_7 (fun a0_7 fa0_7 => ?_)
  clear r_a0_7
  clear fa0_6
  refine fa0_7.move 13 (.bool true) _ (Or.inl rfl) rfl (lb_ hsz) (wanted_none rfl) (fa0_7.at_ 12) (fun a0_8 fa0_8 => ?_)
  clear fa0_7
  refine fa0_8.skip 14 rfl (lb_ hsz) ((wanted_at (t := 13) (c := true) (b := false) rfl rfl rfl (lb_ (fa0_8.size.trans hsz)) (fa0_8.at_ 13)).trans (by rfl)) (fun a0_9 fa0_9 => ?_)
  clear fa0_8
  refine fa0_9.skip 15 rfl (lb_ hsz) ((wanted_at (t := 13) (c := true) (b := false) rfl rfl rfl (lb_ (fa0_9.size.trans hsz)) (fa0_9.at_ 13)).trans (by rfl)) (fun a0_10 fa0_10 => ?_)
  clear fa0_9
  have r_a0_11 : (execOp a0_10.eval { dst := some 16, op := Op.pick (Operand.tmp 13) (Operand.const (Value.bool true)) (Operand.tmp 15), type := 4, pos := "law.go:54", after := #[{ on := 2, ground := Ground.data }, { on := 4, ground := Ground.data }], guard := none }).run Try.prog (V) = .ok (.value (.bool true)) (V) := by
    have kc : ∀ v, a0_10.eval (.const v) = v := fun _ => rfl
    have e13 := (show a0_10.eval (.tmp 13) = .bool true from (fa0_10.at_ 13))
    have e15 := (show a0_10.eval (.tmp 15) = undef from (fa0_10.at_ 15))
    clear fa0_10 ha
    generalize a0_10.eval = ρ at *
    go_simp
  refine fa0_10.step 16 (.bool true) rfl (lb_ hsz) (wanted_none rfl) r_a0_11 (fun a0_11 fa0_11 => ?_)
  clear r_a0_11
  clear fa0_10
  refine wpList_nil ?_
  change Code.wp _ _ _ _ _
  refine wp_cond_true (show a0_11.eval (.tmp 16) = .bool true from (fa0_11.at_ 16)) ?_
  refine wp_region_list ?_
  unfold rOR3
  refine fa0_11.move 17 (.int .i64 (page : Int)) _ (Or.inl rfl) rfl (lb_ hsz) (wanted_none rfl) ((fa0_11.at_ 1).trans (ha 1 _ rfl)) (fun a0_12 fa0_12 => ?_)
  clear fa0_11
  refine fa0_12.move 5 (.int .i64 (page : Int)) _ (Or.inr rfl) rfl (lb_ hsz) (wanted_none rfl) (fa0_12.at_ 17) (fun a0_13 fa0_13 => ?_)
  clear fa0_12
  refine wpList_nil ?_
  change Code.wp _ _ _ _ _
  refine wp_seq ?_
  refine wp_region_list ?_
  unfold rOR4
  refine fa0_13.move 18 (.int .i64 (page : Int)) _ (Or.inl rfl) rfl (lb_ hsz) (wanted_none rfl) (fa0_13.at_ 5) (fun a0_14 fa0_14 => ?_)
  clear fa0_13
  have r_a0_15 : (execOp a0_14.eval { dst := some 19, op := Op.makeSlice 78 (Operand.tmp 18) (Operand.tmp 18), type := 78, pos := "law.go:57", after := #[{ on := 0, ground := Ground.data }, { on := 0, ground := Ground.data }], guard := none }).run Try.prog (V) = .ok (.value (.slice (some ⟨V.heap.size, 0, none⟩) page page)) (V.alloc (.cells (List.replicate page (Value.int .u8 0)).toArray 5)) := by
    refine exec_make rfl ?_
    rw [(show a0_14.eval (.tmp 18) = .int .i64 (page : Int) from (fa0_14.at_ 18))]
    exact zrep8 page (by omega) V
  refine fa0_14.stepW 19 (.slice (some ⟨V.heap.size, 0, none⟩) page page) rfl (lb_ hsz) (wanted_none rfl) r_a0_15 (fun a0_15 fa0_15 => ?_)
  clear r_a0_15
  have s1 : Same V (V.alloc (.cells (List.replicate page (Value.int .u8 0)).toArray 5)) := (Fr.refl _ V).alloc _
  have r1 : (V.alloc (.cells (List.replicate page (Value.int .u8 0)).toArray 5)).heap[V.heap.size]? = some (.cells (List.replicate page (Value.int .u8 0)).toArray 5 (0, 0)) := heap_alloc_new V _
  generalize V.alloc (.cells (List.replicate page (Value.int .u8 0)).toArray 5) = V1 at *
  have q1 := s1.keep k1
  have q2 := s1.keep k2
  clear fa0_14
  refine fa0_15.move 6 (.slice (some ⟨V.heap.size, 0, none⟩) page page) _ (Or.inr rfl) rfl (lb_ hsz) (wanted_none rfl) (fa0_15.at_ 19) (fun a0_16 fa0_16 => ?_)
  clear fa0_15
  refine wpList_nil ?_
  change Code.wp _ _ _ _ _
  refine wp_seq ?_
  refine wp_region_list ?_
  unfold rOR5
  have r_a0_17 : (execOp a0_16.eval { dst := some 20, op := Op.fieldAddr 57 (Operand.tmp 2) 1, type := 0, pos := "law.go:58", after := #[], guard := none }).run Try.prog (V1) = .ok (.value (.pointer (some ⟨w.heap.size, 1, none⟩))) (V1) := by
    have e2 := (show a0_16.eval (.tmp 2) = .pointer (some ⟨w.heap.size, 0, none⟩) from (fa0_16.at_ 2))
    clear fa0_16 ha
    generalize a0_16.eval = ρ at *
    go_simp
  refine fa0_16.step 20 (.pointer (some ⟨w.heap.size, 1, none⟩)) rfl (lb_ hsz) (wanted_none rfl) r_a0_17 (fun a0_17 fa0_17 => ?_)
  clear r_a0_17
  clear fa0_16
  have r_a0_18 : (execOp a0_17.eval { dst := some 21, op := Op.load 5 (Operand.tmp 20), type := 5, pos := "law.go:58", after := #[{ on := 0, ground := Ground.data }], guard := none }).run Try.prog (V1) = .ok (.value (.int .u8 (x.toNat : Int))) (V1) := by
    have e20 := (show a0_17.eval (.tmp 20) = .pointer (some ⟨w.heap.size, 1, none⟩) from (fa0_17.at_ 20))
    clear fa0_17 ha
    generalize a0_17.eval = ρ at *
    go_simp
  refine fa0_17.step 21 (.int .u8 (x.toNat : Int)) rfl (lb_ hsz) (wanted_none rfl) r_a0_18 (fun a0_18 fa0_18 => ?_)
  clear r_a0_18
  clear fa0_17
  refine fa0_18.move 7 (.int .u8 (x.toNat : Int)) _ (Or.inr rfl) rfl (lb_ hsz) (wanted_none rfl) (fa0_18.at_ 21) (fun a0_19 fa0_19 => ?_)
  clear fa0_18
  refine wpList_nil ?_
  change Code.wp _ _ _ _ _
  refine wp_seq (wp_seq ?_)
  refine wp_region_list ?_
  unfold rOR6
  refine fa0_19.move 8 (.int .i64 ((0 : Nat) : Int)) _ (Or.inr rfl) rfl (lb_ hsz) (wanted_none rfl) rfl (fun a0_20 fa0_20 => ?_)
  clear fa0_19
  refine wpList_nil ?_
  change Code.wp _ _ _ _ _
  refine wp_block ?_
  refine orL (n := page) a0_20 V1 ⟨fa0_20.size.trans hsz, fa0_20.defers.trans hd, (show a0_20.eval (.tmp 2) = .pointer (some ⟨w.heap.size, 0, none⟩) from (fa0_20.at_ 2)), (show a0_20.eval (.tmp 5) = .int .i64 (page : Int) from (fa0_20.at_ 5)), (show a0_20.eval (.tmp 6) = .slice (some ⟨V.heap.size, 0, none⟩) page page from (fa0_20.at_ 6))⟩ (show a0_20.eval (.tmp 8) = .int .i64 ((0 : Nat) : Int) from (fa0_20.at_ 8)) (show a0_20.eval (.tmp 7) = .int .u8 (x.toNat : Int) from (fa0_20.at_ 7)) (by omega) r1 q2 (by have := lt_of_heap hVr; omega) (fun b1 W i1 hg1 f1 => ?_)
  change Code.wp _ _ _ _ _
  refine wp_seq ?_
  have fb1_0 := Fe.refl b1
  refine wp_region_list ?_
  unfold rOR11
  refine fb1_0.move 35 (.slice (some ⟨V.heap.size, 0, none⟩) page page) _ (Or.inl rfl) rfl (lb_ i1.size) (wanted_none rfl) ((fb1_0.at_ 6).trans i1.s6) (fun b1_1 fb1_1 => ?_)
  clear fb1_0
  have r_b1_2 : (execOp b1_1.eval { dst := some 36, op := Op.convert 78 9 (Operand.tmp 35), type := 9, pos := "law.go:63", after := #[{ on := 0, ground := Ground.data }], guard := none }).run Try.prog (W) = .ok (.value (.string ⟨(textL x st page).toArray⟩)) (W) := by
    refine exec_conv rfl ?_
    rw [(show b1_1.eval (.tmp 35) = .slice (some ⟨V.heap.size, 0, none⟩) page page from (fb1_1.at_ 35))]
    have hc := run_convert_bytes_back (P := Try.prog) W 78 9 5 ⟨V.heap.size, 0, none⟩ page (textL x st page) Try.underlying78 Try.underlying5 Try.underlying9 (fun j hj => by rw [WideShapes.add_plain, Nat.zero_add]; refine (cell_of_row _ _ _ _ _ _ hg1).trans ?_; rw [List.getElem?_toArray]; unfold txR; rw [Nat.sub_self, List.replicate_zero, List.append_nil]; unfold bcells; rw [List.getElem?_map, List.getElem?_eq_getElem hj]; rfl)
    rw [textL_len] at hc
    exact hc
  refine fb1_1.stepW 36 (.string ⟨(textL x st page).toArray⟩) rfl (lb_ i1.size) (wanted_none rfl) r_b1_2 (fun b1_2 fb1_2 => ?_)
  clear r_b1_2
  clear fb1_1
  refine fb1_2.move 4 (.string ⟨(textL x st page).toArray⟩) _ (Or.inr rfl) rfl (lb_ i1.size) (wanted_none rfl) (fb1_2.at_ 36) (fun b1_3 fb1_3 => ?_)
  clear fb1_2
  refine wpList_nil ?_
  change Code.wp _ _ _ _ _
  refine wp_ret ?_
  refine ret_abs rfl (fb1_3.defers.trans i1.defers) (show b1_3.eval (.tmp 4) = .string ⟨(textL x st page).toArray⟩ from (fb1_3.at_ 4)) ⟨?_, Fr.trans (sV.trans s1) f1 (fun k hk e => by have e2 : k = V.heap.size := e; have := sV.size; omega)⟩
  unfold textS textN
  rw [if_pos (Or.inl hlen)]
set_option maxRecDepth 100000 in
set_option maxHeartbeats 1000000 in
theorem text_big {len : Int} {x st : UInt8} {page : Nat} (w : World) (h0 : ¬ len < 0) (hlen : 10000 < len) (hp : page ≤ 8192) :
    Calls Try.prog 27 #[.agg #[.int .i64 len, .int .u8 (x.toNat : Int), .int .u8 (st.toNat : Int)], .int .i64 (page : Int)] w fun e w' => e = .returned (.string (textS len x st page)) ∧ Same w w' := by
  refine calls_abs (c := cOR) Try.func27 (by kernel_rfl) 37 rfl (by simp) (fun a0 hsz hd ha => ?_)
  have fa0_0 := Fe.refl a0
  unfold cOR
  refine wp_seq ?_
  refine wp_region_list ?_
  unfold rOR0
  have r_a0_1 : (execOp a0.eval { dst := some 2, op := Op.box 57 (Operand.tmp 0), type := 0, pos := "law.go:52", after := #[], guard := none }).run Try.prog (w) = .ok (.value (.pointer (some ⟨w.heap.size, 0, none⟩))) (w.alloc (.cells #[.int .i64 len, .int .u8 (x.toNat : Int), .int .u8 (st.toNat : Int)] 57)) := by
    have e0 := (show a0.eval (.tmp 0) = .agg #[.int .i64 len, .int .u8 (x.toNat : Int), .int .u8 (st.toNat : Int)] from ((fa0_0.at_ 0).trans (ha 0 _ rfl)))
    clear fa0_0 ha
    generalize a0.eval = ρ at *
    go_simp
  refine fa0_0.stepW 2 (.pointer (some ⟨w.heap.size, 0, none⟩)) rfl (lb_ hsz) (wanted_none rfl) r_a0_1 (fun a0_1 fa0_1 => ?_)
  clear r_a0_1
  obtain ⟨V, hV⟩ : ∃ V, V = w.alloc (.cells #[.int .i64 len, .int .u8 (x.toNat : Int), .int .u8 (st.toNat : Int)] 57) := ⟨_, rfl⟩
  rw [← hV]
  have sV : Same w V := by rw [hV]; exact (Fr.refl _ w).alloc _
  have hVr : V.heap[w.heap.size]? = some (.cells #[.int .i64 len, .int .u8 (x.toNat : Int), .int .u8 (st.toNat : Int)] 57 (0, 0)) := by rw [hV]; exact heap_alloc_new w _
  clear hV
  have k0 : V.cell? ⟨w.heap.size, 0, none⟩ = some (.int .i64 len) := (cell_of_row _ _ _ _ _ _ hVr).trans rfl
  have k1 : V.cell? ⟨w.heap.size, 1, none⟩ = some (.int .u8 (x.toNat : Int)) := (cell_of_row _ _ _ _ _ _ hVr).trans rfl
  have k2 : V.cell? ⟨w.heap.size, 2, none⟩ = some (.int .u8 (st.toNat : Int)) := (cell_of_row _ _ _ _ _ _ hVr).trans rfl
  clear fa0_0
  refine fa0_1.move 4 (.string ⟨#[]⟩) _ (Or.inr rfl) rfl (lb_ hsz) (wanted_none rfl) rfl (fun a0_2 fa0_2 => ?_)
  clear fa0_1
  refine wpList_nil ?_
  change Code.wp _ _ _ _ _
  refine wp_seq ?_
  refine wp_region_list ?_
  unfold rOR1
  have r_a0_3 : (execOp a0_2.eval { dst := some 9, op := Op.fieldAddr 57 (Operand.tmp 2) 0, type := 0, pos := "law.go:53", after := #[], guard := none }).run Try.prog (V) = .ok (.value (.pointer (some ⟨w.heap.size, 0, none⟩))) (V) := by
    have e2 := (show a0_2.eval (.tmp 2) = .pointer (some ⟨w.heap.size, 0, none⟩) from (fa0_2.at_ 2))
    clear fa0_2 ha
    generalize a0_2.eval = ρ at *
    go_simp
  refine fa0_2.step 9 (.pointer (some ⟨w.heap.size, 0, none⟩)) rfl (lb_ hsz) (wanted_none rfl) r_a0_3 (fun a0_3 fa0_3 => ?_)
  clear r_a0_3
  clear fa0_2
  have r_a0_4 : (execOp a0_3.eval { dst := some 10, op := Op.load 3 (Operand.tmp 9), type := 3, pos := "law.go:53", after := #[{ on := 0, ground := Ground.data }], guard := none }).run Try.prog (V) = .ok (.value (.int .i64 len)) (V) := by
    have e9 := (show a0_3.eval (.tmp 9) = .pointer (some ⟨w.heap.size, 0, none⟩) from (fa0_3.at_ 9))
    clear fa0_3 ha
    generalize a0_3.eval = ρ at *
    go_simp
  refine fa0_3.step 10 (.int .i64 len) rfl (lb_ hsz) (wanted_none rfl) r_a0_4 (fun a0_4 fa0_4 => ?_)
  clear r_a0_4
  clear fa0_3
  refine fa0_4.move 5 (.int .i64 len) _ (Or.inr rfl) rfl (lb_ hsz) (wanted_none rfl) (fa0_4.at_ 10) (fun a0_5 fa0_5 => ?_)
  clear fa0_4
  refine wpList_nil ?_
  change Code.wp _ _ _ _ _
  refine wp_seq (wp_seq ?_)
  refine wp_region_list ?_
  unfold rOR2
  refine fa0_5.move 11 (.int .i64 len) _ (Or.inl rfl) rfl (lb_ hsz) (wanted_none rfl) (fa0_5.at_ 5) (fun a0_6 fa0_6 => ?_)
  clear fa0_5
  have r_a0_7 : (execOp a0_6.eval { dst := some 12, op := Op.binOp BinOp.lss 3 (Operand.tmp 11) (Operand.const (Value.int IntKind.i64 0)) 3, type := 4, pos := "law.go:54", after := #[{ on := 0, ground := Ground.data }], guard := none }).run Try.prog (V) = .ok (.value (.bool false)) (V) := by
    have kc : ∀ v, a0_6.eval (.const v) = v := fun _ => rfl
    have e11 := (show a0_6.eval (.tmp 11) = .int .i64 len from (fa0_6.at_ 11))
    clear fa0_6 ha
    generalize a0_6.eval = ρ at *
    go_simp
  refine fa0_6.step 12 (.bool false) rfl (lb_ hsz) (wanted_none rfl) r_a0_7 (fun a0_7 fa0_7 => ?_)
  clear r_a0_7
  clear fa0_6
  refine fa0_7.move 13 (.bool false) _ (Or.inl rfl) rfl (lb_ hsz) (wanted_none rfl) (fa0_7.at_ 12) (fun a0_8 fa0_8 => ?_)
  clear fa0_7
  refine fa0_8.move 14 (.int .i64 len) _ (Or.inl rfl) rfl (lb_ hsz) ((wanted_at (t := 13) (c := false) (b := false) rfl rfl rfl (lb_ (fa0_8.size.trans hsz)) (fa0_8.at_ 13)).trans (by rfl)) (fa0_8.at_ 5) (fun a0_9 fa0_9 => ?_)
  clear fa0_8
  have r_a0_10 : (execOp a0_9.eval { dst := some 15, op := Op.binOp BinOp.gtr 3 (Operand.tmp 14) (Operand.const (Value.int IntKind.i64 10000)) 3, type := 4, pos := "law.go:54", after := #[{ on := 3, ground := Ground.data }, { on := 2, ground := Ground.guard }], guard := some (2, false) }).run Try.prog (V) = .ok (.value (.bool true)) (V) := by
    have kc : ∀ v, a0_9.eval (.const v) = v := fun _ => rfl
    have e14 := (show a0_9.eval (.tmp 14) = .int .i64 len from (fa0_9.at_ 14))
    clear fa0_9 ha
    generalize a0_9.eval = ρ at *
    go_simp
  refine fa0_9.step 15 (.bool true) rfl (lb_ hsz) ((wanted_at (t := 13) (c := false) (b := false) rfl rfl rfl (lb_ (fa0_9.size.trans hsz)) (fa0_9.at_ 13)).trans (by rfl)) r_a0_10 (fun a0_10 fa0_10 => ?_)
  clear r_a0_10
  clear fa0_9
  have r_a0_11 : (execOp a0_10.eval { dst := some 16, op := Op.pick (Operand.tmp 13) (Operand.const (Value.bool true)) (Operand.tmp 15), type := 4, pos := "law.go:54", after := #[{ on := 2, ground := Ground.data }, { on := 4, ground := Ground.data }], guard := none }).run Try.prog (V) = .ok (.value (.bool true)) (V) := by
    have kc : ∀ v, a0_10.eval (.const v) = v := fun _ => rfl
    have e13 := (show a0_10.eval (.tmp 13) = .bool false from (fa0_10.at_ 13))
    have e15 := (show a0_10.eval (.tmp 15) = .bool true from (fa0_10.at_ 15))
    clear fa0_10 ha
    generalize a0_10.eval = ρ at *
    go_simp
  refine fa0_10.step 16 (.bool true) rfl (lb_ hsz) (wanted_none rfl) r_a0_11 (fun a0_11 fa0_11 => ?_)
  clear r_a0_11
  clear fa0_10
  refine wpList_nil ?_
  change Code.wp _ _ _ _ _
  refine wp_cond_true (show a0_11.eval (.tmp 16) = .bool true from (fa0_11.at_ 16)) ?_
  refine wp_region_list ?_
  unfold rOR3
  refine fa0_11.move 17 (.int .i64 (page : Int)) _ (Or.inl rfl) rfl (lb_ hsz) (wanted_none rfl) ((fa0_11.at_ 1).trans (ha 1 _ rfl)) (fun a0_12 fa0_12 => ?_)
  clear fa0_11
  refine fa0_12.move 5 (.int .i64 (page : Int)) _ (Or.inr rfl) rfl (lb_ hsz) (wanted_none rfl) (fa0_12.at_ 17) (fun a0_13 fa0_13 => ?_)
  clear fa0_12
  refine wpList_nil ?_
  change Code.wp _ _ _ _ _
  refine wp_seq ?_
  refine wp_region_list ?_
  unfold rOR4
  refine fa0_13.move 18 (.int .i64 (page : Int)) _ (Or.inl rfl) rfl (lb_ hsz) (wanted_none rfl) (fa0_13.at_ 5) (fun a0_14 fa0_14 => ?_)
  clear fa0_13
  have r_a0_15 : (execOp a0_14.eval { dst := some 19, op := Op.makeSlice 78 (Operand.tmp 18) (Operand.tmp 18), type := 78, pos := "law.go:57", after := #[{ on := 0, ground := Ground.data }, { on := 0, ground := Ground.data }], guard := none }).run Try.prog (V) = .ok (.value (.slice (some ⟨V.heap.size, 0, none⟩) page page)) (V.alloc (.cells (List.replicate page (Value.int .u8 0)).toArray 5)) := by
    refine exec_make rfl ?_
    rw [(show a0_14.eval (.tmp 18) = .int .i64 (page : Int) from (fa0_14.at_ 18))]
    exact zrep8 page (by omega) V
  refine fa0_14.stepW 19 (.slice (some ⟨V.heap.size, 0, none⟩) page page) rfl (lb_ hsz) (wanted_none rfl) r_a0_15 (fun a0_15 fa0_15 => ?_)
  clear r_a0_15
  have s1 : Same V (V.alloc (.cells (List.replicate page (Value.int .u8 0)).toArray 5)) := (Fr.refl _ V).alloc _
  have r1 : (V.alloc (.cells (List.replicate page (Value.int .u8 0)).toArray 5)).heap[V.heap.size]? = some (.cells (List.replicate page (Value.int .u8 0)).toArray 5 (0, 0)) := heap_alloc_new V _
  generalize V.alloc (.cells (List.replicate page (Value.int .u8 0)).toArray 5) = V1 at *
  have q1 := s1.keep k1
  have q2 := s1.keep k2
  clear fa0_14
  refine fa0_15.move 6 (.slice (some ⟨V.heap.size, 0, none⟩) page page) _ (Or.inr rfl) rfl (lb_ hsz) (wanted_none rfl) (fa0_15.at_ 19) (fun a0_16 fa0_16 => ?_)
  clear fa0_15
  refine wpList_nil ?_
  change Code.wp _ _ _ _ _
  refine wp_seq ?_
  refine wp_region_list ?_
  unfold rOR5
  have r_a0_17 : (execOp a0_16.eval { dst := some 20, op := Op.fieldAddr 57 (Operand.tmp 2) 1, type := 0, pos := "law.go:58", after := #[], guard := none }).run Try.prog (V1) = .ok (.value (.pointer (some ⟨w.heap.size, 1, none⟩))) (V1) := by
    have e2 := (show a0_16.eval (.tmp 2) = .pointer (some ⟨w.heap.size, 0, none⟩) from (fa0_16.at_ 2))
    clear fa0_16 ha
    generalize a0_16.eval = ρ at *
    go_simp
  refine fa0_16.step 20 (.pointer (some ⟨w.heap.size, 1, none⟩)) rfl (lb_ hsz) (wanted_none rfl) r_a0_17 (fun a0_17 fa0_17 => ?_)
  clear r_a0_17
  clear fa0_16
  have r_a0_18 : (execOp a0_17.eval { dst := some 21, op := Op.load 5 (Operand.tmp 20), type := 5, pos := "law.go:58", after := #[{ on := 0, ground := Ground.data }], guard := none }).run Try.prog (V1) = .ok (.value (.int .u8 (x.toNat : Int))) (V1) := by
    have e20 := (show a0_17.eval (.tmp 20) = .pointer (some ⟨w.heap.size, 1, none⟩) from (fa0_17.at_ 20))
    clear fa0_17 ha
    generalize a0_17.eval = ρ at *
    go_simp
  refine fa0_17.step 21 (.int .u8 (x.toNat : Int)) rfl (lb_ hsz) (wanted_none rfl) r_a0_18 (fun a0_18 fa0_18 => ?_)
  clear r_a0_18
  clear fa0_17
  refine fa0_18.move 7 (.int .u8 (x.toNat : Int)) _ (Or.inr rfl) rfl (lb_ hsz) (wanted_none rfl) (fa0_18.at_ 21) (fun a0_19 fa0_19 => ?_)
  clear fa0_18
  refine wpList_nil ?_
  change Code.wp _ _ _ _ _
  refine wp_seq (wp_seq ?_)
  refine wp_region_list ?_
  unfold rOR6
  refine fa0_19.move 8 (.int .i64 ((0 : Nat) : Int)) _ (Or.inr rfl) rfl (lb_ hsz) (wanted_none rfl) rfl (fun a0_20 fa0_20 => ?_)
  clear fa0_19
  refine wpList_nil ?_
  change Code.wp _ _ _ _ _
  refine wp_block ?_
  refine orL (n := page) a0_20 V1 ⟨fa0_20.size.trans hsz, fa0_20.defers.trans hd, (show a0_20.eval (.tmp 2) = .pointer (some ⟨w.heap.size, 0, none⟩) from (fa0_20.at_ 2)), (show a0_20.eval (.tmp 5) = .int .i64 (page : Int) from (fa0_20.at_ 5)), (show a0_20.eval (.tmp 6) = .slice (some ⟨V.heap.size, 0, none⟩) page page from (fa0_20.at_ 6))⟩ (show a0_20.eval (.tmp 8) = .int .i64 ((0 : Nat) : Int) from (fa0_20.at_ 8)) (show a0_20.eval (.tmp 7) = .int .u8 (x.toNat : Int) from (fa0_20.at_ 7)) (by omega) r1 q2 (by have := lt_of_heap hVr; omega) (fun b1 W i1 hg1 f1 => ?_)
  change Code.wp _ _ _ _ _
  refine wp_seq ?_
  have fb1_0 := Fe.refl b1
  refine wp_region_list ?_
  unfold rOR11
  refine fb1_0.move 35 (.slice (some ⟨V.heap.size, 0, none⟩) page page) _ (Or.inl rfl) rfl (lb_ i1.size) (wanted_none rfl) ((fb1_0.at_ 6).trans i1.s6) (fun b1_1 fb1_1 => ?_)
  clear fb1_0
  have r_b1_2 : (execOp b1_1.eval { dst := some 36, op := Op.convert 78 9 (Operand.tmp 35), type := 9, pos := "law.go:63", after := #[{ on := 0, ground := Ground.data }], guard := none }).run Try.prog (W) = .ok (.value (.string ⟨(textL x st page).toArray⟩)) (W) := by
    refine exec_conv rfl ?_
    rw [(show b1_1.eval (.tmp 35) = .slice (some ⟨V.heap.size, 0, none⟩) page page from (fb1_1.at_ 35))]
    have hc := run_convert_bytes_back (P := Try.prog) W 78 9 5 ⟨V.heap.size, 0, none⟩ page (textL x st page) Try.underlying78 Try.underlying5 Try.underlying9 (fun j hj => by rw [WideShapes.add_plain, Nat.zero_add]; refine (cell_of_row _ _ _ _ _ _ hg1).trans ?_; rw [List.getElem?_toArray]; unfold txR; rw [Nat.sub_self, List.replicate_zero, List.append_nil]; unfold bcells; rw [List.getElem?_map, List.getElem?_eq_getElem hj]; rfl)
    rw [textL_len] at hc
    exact hc
  refine fb1_1.stepW 36 (.string ⟨(textL x st page).toArray⟩) rfl (lb_ i1.size) (wanted_none rfl) r_b1_2 (fun b1_2 fb1_2 => ?_)
  clear r_b1_2
  clear fb1_1
  refine fb1_2.move 4 (.string ⟨(textL x st page).toArray⟩) _ (Or.inr rfl) rfl (lb_ i1.size) (wanted_none rfl) (fb1_2.at_ 36) (fun b1_3 fb1_3 => ?_)
  clear fb1_2
  refine wpList_nil ?_
  change Code.wp _ _ _ _ _
  refine wp_ret ?_
  refine ret_abs rfl (fb1_3.defers.trans i1.defers) (show b1_3.eval (.tmp 4) = .string ⟨(textL x st page).toArray⟩ from (fb1_3.at_ 4)) ⟨?_, Fr.trans (sV.trans s1) f1 (fun k hk e => by have e2 : k = V.heap.size := e; have := sV.size; omega)⟩
  unfold textS textN
  rw [if_pos (Or.inr hlen)]
set_option maxRecDepth 100000 in
set_option maxHeartbeats 1000000 in
theorem text_own {len : Int} {x st : UInt8} {page : Nat} (w : World) (h0 : ¬ len < 0) (hlen : ¬ 10000 < len) :
    Calls Try.prog 27 #[.agg #[.int .i64 len, .int .u8 (x.toNat : Int), .int .u8 (st.toNat : Int)], .int .i64 (page : Int)] w fun e w' => e = .returned (.string (textS len x st page)) ∧ Same w w' := by
  refine calls_abs (c := cOR) Try.func27 (by kernel_rfl) 37 rfl (by simp) (fun a0 hsz hd ha => ?_)
  have fa0_0 := Fe.refl a0
  unfold cOR
  refine wp_seq ?_
  refine wp_region_list ?_
  unfold rOR0
  have r_a0_1 : (execOp a0.eval { dst := some 2, op := Op.box 57 (Operand.tmp 0), type := 0, pos := "law.go:52", after := #[], guard := none }).run Try.prog (w) = .ok (.value (.pointer (some ⟨w.heap.size, 0, none⟩))) (w.alloc (.cells #[.int .i64 len, .int .u8 (x.toNat : Int), .int .u8 (st.toNat : Int)] 57)) := by
    have e0 := (show a0.eval (.tmp 0) = .agg #[.int .i64 len, .int .u8 (x.toNat : Int), .int .u8 (st.toNat : Int)] from ((fa0_0.at_ 0).trans (ha 0 _ rfl)))
    clear fa0_0 ha
    generalize a0.eval = ρ at *
    go_simp
  refine fa0_0.stepW 2 (.pointer (some ⟨w.heap.size, 0, none⟩)) rfl (lb_ hsz) (wanted_none rfl) r_a0_1 (fun a0_1 fa0_1 => ?_)
  clear r_a0_1
  obtain ⟨V, hV⟩ : ∃ V, V = w.alloc (.cells #[.int .i64 len, .int .u8 (x.toNat : Int), .int .u8 (st.toNat : Int)] 57) := ⟨_, rfl⟩
  rw [← hV]
  have sV : Same w V := by rw [hV]; exact (Fr.refl _ w).alloc _
  have hVr : V.heap[w.heap.size]? = some (.cells #[.int .i64 len, .int .u8 (x.toNat : Int), .int .u8 (st.toNat : Int)] 57 (0, 0)) := by rw [hV]; exact heap_alloc_new w _
  clear hV
  have k0 : V.cell? ⟨w.heap.size, 0, none⟩ = some (.int .i64 len) := (cell_of_row _ _ _ _ _ _ hVr).trans rfl
  have k1 : V.cell? ⟨w.heap.size, 1, none⟩ = some (.int .u8 (x.toNat : Int)) := (cell_of_row _ _ _ _ _ _ hVr).trans rfl
  have k2 : V.cell? ⟨w.heap.size, 2, none⟩ = some (.int .u8 (st.toNat : Int)) := (cell_of_row _ _ _ _ _ _ hVr).trans rfl
  clear fa0_0
  refine fa0_1.move 4 (.string ⟨#[]⟩) _ (Or.inr rfl) rfl (lb_ hsz) (wanted_none rfl) rfl (fun a0_2 fa0_2 => ?_)
  clear fa0_1
  refine wpList_nil ?_
  change Code.wp _ _ _ _ _
  refine wp_seq ?_
  refine wp_region_list ?_
  unfold rOR1
  have r_a0_3 : (execOp a0_2.eval { dst := some 9, op := Op.fieldAddr 57 (Operand.tmp 2) 0, type := 0, pos := "law.go:53", after := #[], guard := none }).run Try.prog (V) = .ok (.value (.pointer (some ⟨w.heap.size, 0, none⟩))) (V) := by
    have e2 := (show a0_2.eval (.tmp 2) = .pointer (some ⟨w.heap.size, 0, none⟩) from (fa0_2.at_ 2))
    clear fa0_2 ha
    generalize a0_2.eval = ρ at *
    go_simp
  refine fa0_2.step 9 (.pointer (some ⟨w.heap.size, 0, none⟩)) rfl (lb_ hsz) (wanted_none rfl) r_a0_3 (fun a0_3 fa0_3 => ?_)
  clear r_a0_3
  clear fa0_2
  have r_a0_4 : (execOp a0_3.eval { dst := some 10, op := Op.load 3 (Operand.tmp 9), type := 3, pos := "law.go:53", after := #[{ on := 0, ground := Ground.data }], guard := none }).run Try.prog (V) = .ok (.value (.int .i64 len)) (V) := by
    have e9 := (show a0_3.eval (.tmp 9) = .pointer (some ⟨w.heap.size, 0, none⟩) from (fa0_3.at_ 9))
    clear fa0_3 ha
    generalize a0_3.eval = ρ at *
    go_simp
  refine fa0_3.step 10 (.int .i64 len) rfl (lb_ hsz) (wanted_none rfl) r_a0_4 (fun a0_4 fa0_4 => ?_)
  clear r_a0_4
  clear fa0_3
  refine fa0_4.move 5 (.int .i64 len) _ (Or.inr rfl) rfl (lb_ hsz) (wanted_none rfl) (fa0_4.at_ 10) (fun a0_5 fa0_5 => ?_)
  clear fa0_4
  refine wpList_nil ?_
  change Code.wp _ _ _ _ _
  refine wp_seq (wp_seq ?_)
  refine wp_region_list ?_
  unfold rOR2
  refine fa0_5.move 11 (.int .i64 len) _ (Or.inl rfl) rfl (lb_ hsz) (wanted_none rfl) (fa0_5.at_ 5) (fun a0_6 fa0_6 => ?_)
  clear fa0_5
  have r_a0_7 : (execOp a0_6.eval { dst := some 12, op := Op.binOp BinOp.lss 3 (Operand.tmp 11) (Operand.const (Value.int IntKind.i64 0)) 3, type := 4, pos := "law.go:54", after := #[{ on := 0, ground := Ground.data }], guard := none }).run Try.prog (V) = .ok (.value (.bool false)) (V) := by
    have kc : ∀ v, a0_6.eval (.const v) = v := fun _ => rfl
    have e11 := (show a0_6.eval (.tmp 11) = .int .i64 len from (fa0_6.at_ 11))
    clear fa0_6 ha
    generalize a0_6.eval = ρ at *
    go_simp
  refine fa0_6.step 12 (.bool false) rfl (lb_ hsz) (wanted_none rfl) r_a0_7 (fun a0_7 fa0_7 => ?_)
  clear r_a0_7
  clear fa0_6
  refine fa0_7.move 13 (.bool false) _ (Or.inl rfl) rfl (lb_ hsz) (wanted_none rfl) (fa0_7.at_ 12) (fun a0_8 fa0_8 => ?_)
  clear fa0_7
  refine fa0_8.move 14 (.int .i64 len) _ (Or.inl rfl) rfl (lb_ hsz) ((wanted_at (t := 13) (c := false) (b := false) rfl rfl rfl (lb_ (fa0_8.size.trans hsz)) (fa0_8.at_ 13)).trans (by rfl)) (fa0_8.at_ 5) (fun a0_9 fa0_9 => ?_)
  clear fa0_8
  have r_a0_10 : (execOp a0_9.eval { dst := some 15, op := Op.binOp BinOp.gtr 3 (Operand.tmp 14) (Operand.const (Value.int IntKind.i64 10000)) 3, type := 4, pos := "law.go:54", after := #[{ on := 3, ground := Ground.data }, { on := 2, ground := Ground.guard }], guard := some (2, false) }).run Try.prog (V) = .ok (.value (.bool false)) (V) := by
    have kc : ∀ v, a0_9.eval (.const v) = v := fun _ => rfl
    have e14 := (show a0_9.eval (.tmp 14) = .int .i64 len from (fa0_9.at_ 14))
    clear fa0_9 ha
    generalize a0_9.eval = ρ at *
    go_simp
  refine fa0_9.step 15 (.bool false) rfl (lb_ hsz) ((wanted_at (t := 13) (c := false) (b := false) rfl rfl rfl (lb_ (fa0_9.size.trans hsz)) (fa0_9.at_ 13)).trans (by rfl)) r_a0_10 (fun a0_10 fa0_10 => ?_)
  clear r_a0_10
  clear fa0_9
  have r_a0_11 : (execOp a0_10.eval { dst := some 16, op := Op.pick (Operand.tmp 13) (Operand.const (Value.bool true)) (Operand.tmp 15), type := 4, pos := "law.go:54", after := #[{ on := 2, ground := Ground.data }, { on := 4, ground := Ground.data }], guard := none }).run Try.prog (V) = .ok (.value (.bool false)) (V) := by
    have kc : ∀ v, a0_10.eval (.const v) = v := fun _ => rfl
    have e13 := (show a0_10.eval (.tmp 13) = .bool false from (fa0_10.at_ 13))
    have e15 := (show a0_10.eval (.tmp 15) = .bool false from (fa0_10.at_ 15))
    clear fa0_10 ha
    generalize a0_10.eval = ρ at *
    go_simp
  refine fa0_10.step 16 (.bool false) rfl (lb_ hsz) (wanted_none rfl) r_a0_11 (fun a0_11 fa0_11 => ?_)
  clear r_a0_11
  clear fa0_10
  refine wpList_nil ?_
  change Code.wp _ _ _ _ _
  refine wp_cond_false (show a0_11.eval (.tmp 16) = .bool false from (fa0_11.at_ 16)) (wp_skip ?_)
  obtain ⟨n, hn⟩ : ∃ n : Nat, n = len.toNat := ⟨_, rfl⟩
  have hli : len = (n : Int) := by omega
  change Code.wp _ _ _ _ _
  refine wp_seq ?_
  refine wp_region_list ?_
  unfold rOR4
  refine fa0_11.move 18 (.int .i64 len) _ (Or.inl rfl) rfl (lb_ hsz) (wanted_none rfl) (fa0_11.at_ 5) (fun a0_12 fa0_12 => ?_)
  clear fa0_11
  have r_a0_13 : (execOp a0_12.eval { dst := some 19, op := Op.makeSlice 78 (Operand.tmp 18) (Operand.tmp 18), type := 78, pos := "law.go:57", after := #[{ on := 0, ground := Ground.data }, { on := 0, ground := Ground.data }], guard := none }).run Try.prog (V) = .ok (.value (.slice (some ⟨V.heap.size, 0, none⟩) n n)) (V.alloc (.cells (List.replicate n (Value.int .u8 0)).toArray 5)) := by
    refine exec_make rfl ?_
    rw [(show a0_12.eval (.tmp 18) = .int .i64 len from (fa0_12.at_ 18))]
    rw [hli]
    exact zrep8 n (by omega) V
  refine fa0_12.stepW 19 (.slice (some ⟨V.heap.size, 0, none⟩) n n) rfl (lb_ hsz) (wanted_none rfl) r_a0_13 (fun a0_13 fa0_13 => ?_)
  clear r_a0_13
  have s1 : Same V (V.alloc (.cells (List.replicate n (Value.int .u8 0)).toArray 5)) := (Fr.refl _ V).alloc _
  have r1 : (V.alloc (.cells (List.replicate n (Value.int .u8 0)).toArray 5)).heap[V.heap.size]? = some (.cells (List.replicate n (Value.int .u8 0)).toArray 5 (0, 0)) := heap_alloc_new V _
  generalize V.alloc (.cells (List.replicate n (Value.int .u8 0)).toArray 5) = V1 at *
  have q1 := s1.keep k1
  have q2 := s1.keep k2
  clear fa0_12
  refine fa0_13.move 6 (.slice (some ⟨V.heap.size, 0, none⟩) n n) _ (Or.inr rfl) rfl (lb_ hsz) (wanted_none rfl) (fa0_13.at_ 19) (fun a0_14 fa0_14 => ?_)
  clear fa0_13
  refine wpList_nil ?_
  change Code.wp _ _ _ _ _
  refine wp_seq ?_
  refine wp_region_list ?_
  unfold rOR5
  have r_a0_15 : (execOp a0_14.eval { dst := some 20, op := Op.fieldAddr 57 (Operand.tmp 2) 1, type := 0, pos := "law.go:58", after := #[], guard := none }).run Try.prog (V1) = .ok (.value (.pointer (some ⟨w.heap.size, 1, none⟩))) (V1) := by
    have e2 := (show a0_14.eval (.tmp 2) = .pointer (some ⟨w.heap.size, 0, none⟩) from (fa0_14.at_ 2))
    clear fa0_14 ha
    generalize a0_14.eval = ρ at *
    go_simp
  refine fa0_14.step 20 (.pointer (some ⟨w.heap.size, 1, none⟩)) rfl (lb_ hsz) (wanted_none rfl) r_a0_15 (fun a0_15 fa0_15 => ?_)
  clear r_a0_15
  clear fa0_14
  have r_a0_16 : (execOp a0_15.eval { dst := some 21, op := Op.load 5 (Operand.tmp 20), type := 5, pos := "law.go:58", after := #[{ on := 0, ground := Ground.data }], guard := none }).run Try.prog (V1) = .ok (.value (.int .u8 (x.toNat : Int))) (V1) := by
    have e20 := (show a0_15.eval (.tmp 20) = .pointer (some ⟨w.heap.size, 1, none⟩) from (fa0_15.at_ 20))
    clear fa0_15 ha
    generalize a0_15.eval = ρ at *
    go_simp
  refine fa0_15.step 21 (.int .u8 (x.toNat : Int)) rfl (lb_ hsz) (wanted_none rfl) r_a0_16 (fun a0_16 fa0_16 => ?_)
  clear r_a0_16
  clear fa0_15
  refine fa0_16.move 7 (.int .u8 (x.toNat : Int)) _ (Or.inr rfl) rfl (lb_ hsz) (wanted_none rfl) (fa0_16.at_ 21) (fun a0_17 fa0_17 => ?_)
  clear fa0_16
  refine wpList_nil ?_
  change Code.wp _ _ _ _ _
  refine wp_seq (wp_seq ?_)
  refine wp_region_list ?_
  unfold rOR6
  refine fa0_17.move 8 (.int .i64 ((0 : Nat) : Int)) _ (Or.inr rfl) rfl (lb_ hsz) (wanted_none rfl) rfl (fun a0_18 fa0_18 => ?_)
  clear fa0_17
  refine wpList_nil ?_
  change Code.wp _ _ _ _ _
  refine wp_block ?_
  refine orL (n := n) a0_18 V1 ⟨fa0_18.size.trans hsz, fa0_18.defers.trans hd, (show a0_18.eval (.tmp 2) = .pointer (some ⟨w.heap.size, 0, none⟩) from (fa0_18.at_ 2)), ((show a0_18.eval (.tmp 5) = .int .i64 len from (fa0_18.at_ 5)).trans (by rw [hli])), (show a0_18.eval (.tmp 6) = .slice (some ⟨V.heap.size, 0, none⟩) n n from (fa0_18.at_ 6))⟩ (show a0_18.eval (.tmp 8) = .int .i64 ((0 : Nat) : Int) from (fa0_18.at_ 8)) (show a0_18.eval (.tmp 7) = .int .u8 (x.toNat : Int) from (fa0_18.at_ 7)) (by omega) r1 q2 (by have := lt_of_heap hVr; omega) (fun b1 W i1 hg1 f1 => ?_)
  change Code.wp _ _ _ _ _
  refine wp_seq ?_
  have fb1_0 := Fe.refl b1
  refine wp_region_list ?_
  unfold rOR11
  refine fb1_0.move 35 (.slice (some ⟨V.heap.size, 0, none⟩) n n) _ (Or.inl rfl) rfl (lb_ i1.size) (wanted_none rfl) ((fb1_0.at_ 6).trans i1.s6) (fun b1_1 fb1_1 => ?_)
  clear fb1_0
  have r_b1_2 : (execOp b1_1.eval { dst := some 36, op := Op.convert 78 9 (Operand.tmp 35), type := 9, pos := "law.go:63", after := #[{ on := 0, ground := Ground.data }], guard := none }).run Try.prog (W) = .ok (.value (.string ⟨(textL x st n).toArray⟩)) (W) := by
    refine exec_conv rfl ?_
    rw [(show b1_1.eval (.tmp 35) = .slice (some ⟨V.heap.size, 0, none⟩) n n from (fb1_1.at_ 35))]
    have hc := run_convert_bytes_back (P := Try.prog) W 78 9 5 ⟨V.heap.size, 0, none⟩ n (textL x st n) Try.underlying78 Try.underlying5 Try.underlying9 (fun j hj => by rw [WideShapes.add_plain, Nat.zero_add]; refine (cell_of_row _ _ _ _ _ _ hg1).trans ?_; rw [List.getElem?_toArray]; unfold txR; rw [Nat.sub_self, List.replicate_zero, List.append_nil]; unfold bcells; rw [List.getElem?_map, List.getElem?_eq_getElem hj]; rfl)
    rw [textL_len] at hc
    exact hc
  refine fb1_1.stepW 36 (.string ⟨(textL x st n).toArray⟩) rfl (lb_ i1.size) (wanted_none rfl) r_b1_2 (fun b1_2 fb1_2 => ?_)
  clear r_b1_2
  clear fb1_1
  refine fb1_2.move 4 (.string ⟨(textL x st n).toArray⟩) _ (Or.inr rfl) rfl (lb_ i1.size) (wanted_none rfl) (fb1_2.at_ 36) (fun b1_3 fb1_3 => ?_)
  clear fb1_2
  refine wpList_nil ?_
  change Code.wp _ _ _ _ _
  refine wp_ret ?_
  refine ret_abs rfl (fb1_3.defers.trans i1.defers) (show b1_3.eval (.tmp 4) = .string ⟨(textL x st n).toArray⟩ from (fb1_3.at_ 4)) ⟨?_, Fr.trans (sV.trans s1) f1 (fun k hk e => by have e2 : k = V.heap.size := e; have := sV.size; omega)⟩
  unfold textS textN
  rw [if_neg (by omega), ← hn]
theorem text_calls {len : Int} {x st : UInt8} {page : Nat} (w : World) (hp : page ≤ 8192) :
    Calls Try.prog 27 #[.agg #[.int .i64 len, .int .u8 (x.toNat : Int), .int .u8 (st.toNat : Int)], .int .i64 (page : Int)] w fun e w' => e = .returned (.string (textS len x st page)) ∧ Same w w' := by
  by_cases h0 : len < 0
  · exact text_neg w h0 hp
  · by_cases h1 : 10000 < len
    · exact text_big w h0 h1 hp
    · exact text_own w h0 h1
end Go.Proofs.Ytljlkcmjbjnihaa
