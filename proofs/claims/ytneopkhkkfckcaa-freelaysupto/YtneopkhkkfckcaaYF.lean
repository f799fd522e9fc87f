/- free: the document's Right and Check. -/
import Derived.Test.YtneopkhkkfckcaaYD
import Derived.Test.YtneopkhkkfckcaaIH
import Derived.Test.YtneopkhkkfckcaaIN
import Derived.Laws.OwnMore
namespace Go.Proofs.Ytneopkhkkfckcaa
open Go.RowKit Go.Maps

def oYF0 : Oper := { dst := some 23, op := Op.fieldAddr 55 (Operand.tmp 9) 1, type := 0, pos := "ref.go:89", after := #[], guard := none }
def oYF1 : Oper := { dst := some 24, op := Op.load 23 (Operand.tmp 23), type := 23, pos := "ref.go:89", after := #[{ on := 0, ground := Ground.data }], guard := none }
def oYF2 : Oper := { dst := some 25, op := Op.load 39 (Operand.tmp 3), type := 39, pos := "ref.go:89", after := #[], guard := none }
def oYF3 : Oper := { dst := some 26, op := Op.call { callee := Callee.value (Operand.func 49), args := #[Operand.tmp 25], argTypes := #[39] }, type := 3, pos := "ref.go:89", after := #[{ on := 2, ground := Ground.data }], guard := none }
def oYF4 : Oper := { dst := some 28, op := Op.call { callee := Callee.value (Operand.func 48), args := #[Operand.tmp 24, Operand.tmp 26, Operand.tmp 27], argTypes := #[23, 3, 24] }, type := 4, pos := "ref.go:89", after := #[{ on := 1, ground := Ground.data }, { on := 3, ground := Ground.data }, { on := 4, ground := Ground.data }, { on := 3, ground := Ground.chain }], guard := none }
def oYF5 : Oper := { dst := some 29, op := Op.unOp UnOp.not 4 (Operand.tmp 28), type := 4, pos := "ref.go:89", after := #[{ on := 5, ground := Ground.data }], guard := none }
def oYF6 : Oper := { dst := some 31, op := Op.fieldAddr 55 (Operand.tmp 9) 0, type := 0, pos := "ref.go:89", after := #[{ on := 7, ground := Ground.guard }], guard := some (7, false) }
def oYF7 : Oper := { dst := some 32, op := Op.load 24 (Operand.tmp 31), type := 24, pos := "ref.go:89", after := #[{ on := 8, ground := Ground.data }, { on := 7, ground := Ground.guard }], guard := some (7, false) }
def oYF8 : Oper := { dst := some 33, op := Op.binOp BinOp.lss 24 (Operand.tmp 32) (Operand.const (Value.int IntKind.u32 2)) 24, type := 4, pos := "ref.go:89", after := #[{ on := 9, ground := Ground.data }, { on := 7, ground := Ground.guard }], guard := some (7, false) }
def oYF9 : Oper := { dst := some 34, op := Op.pick (Operand.tmp 30) (Operand.const (Value.bool true)) (Operand.tmp 33), type := 4, pos := "ref.go:89", after := #[{ on := 7, ground := Ground.data }, { on := 10, ground := Ground.data }], guard := none }
def oYF10 : Oper := { dst := some 36, op := Op.fieldAddr 55 (Operand.tmp 9) 0, type := 0, pos := "ref.go:89", after := #[{ on := 12, ground := Ground.guard }], guard := some (12, false) }
def oYF11 : Oper := { dst := some 37, op := Op.load 24 (Operand.tmp 36), type := 24, pos := "ref.go:89", after := #[{ on := 13, ground := Ground.data }, { on := 12, ground := Ground.guard }], guard := some (12, false) }
def oYF12 : Oper := { dst := some 39, op := Op.binOp BinOp.geq 24 (Operand.tmp 37) (Operand.tmp 38) 24, type := 4, pos := "ref.go:89", after := #[{ on := 14, ground := Ground.data }, { on := 15, ground := Ground.data }, { on := 12, ground := Ground.guard }], guard := some (12, false) }
def oYF13 : Oper := { dst := some 40, op := Op.pick (Operand.tmp 35) (Operand.const (Value.bool true)) (Operand.tmp 39), type := 4, pos := "ref.go:89", after := #[{ on := 12, ground := Ground.data }, { on := 16, ground := Ground.data }], guard := none }
def oYF14 : Oper := { dst := some 43, op := Op.fieldAddr 55 (Operand.tmp 9) 0, type := 0, pos := "ref.go:89", after := #[{ on := 18, ground := Ground.guard }], guard := some (18, false) }
def oYF15 : Oper := { dst := some 44, op := Op.load 24 (Operand.tmp 43), type := 24, pos := "ref.go:89", after := #[{ on := 20, ground := Ground.data }, { on := 18, ground := Ground.guard }], guard := some (18, false) }
def oYF16 : Oper := { dst := some 45, op := Op.indexAddr 123 (Operand.tmp 42) (Operand.tmp 44), type := 0, pos := "ref.go:89", after := #[{ on := 19, ground := Ground.data }, { on := 21, ground := Ground.data }, { on := 18, ground := Ground.guard }], guard := some (18, false) }
def oYF17 : Oper := { dst := some 46, op := Op.load 4 (Operand.tmp 45), type := 4, pos := "ref.go:89", after := #[{ on := 22, ground := Ground.data }, { on := 18, ground := Ground.guard }], guard := some (18, false) }
def oYF18 : Oper := { dst := some 47, op := Op.pick (Operand.tmp 41) (Operand.const (Value.bool true)) (Operand.tmp 46), type := 4, pos := "ref.go:89", after := #[{ on := 18, ground := Ground.data }, { on := 23, ground := Ground.data }], guard := none }
def rRT0 : Array Oper := #[{ dst := some 3, op := Op.box 39 (Operand.tmp 0), type := 0, pos := "ref.go:85", after := #[], guard := none },
  { dst := some 6, op := Op.assign (Operand.const (Value.bool false)), type := 4, pos := "ref.go:85", after := #[], guard := none }]
def rRT1 : Array Oper := #[{ dst := some 11, op := Op.move (Operand.tmp 2), type := 24, pos := "ref.go:86", after := #[], guard := none },
  { dst := some 12, op := Op.makeSlice 123 (Operand.tmp 11) (Operand.tmp 11), type := 123, pos := "ref.go:86", after := #[{ on := 0, ground := Ground.data }, { on := 0, ground := Ground.data }], guard := none },
  { dst := some 7, op := Op.assign (Operand.tmp 12), type := 123, pos := "ref.go:86", after := #[{ on := 1, ground := Ground.data }, { on := 0, ground := Ground.phase }, { on := 1, ground := Ground.phase }], guard := none }]
def rRT2 : Array Oper := #[{ dst := some 8, op := Op.assign (Operand.const (Value.int IntKind.i64 0)), type := 3, pos := "ref.go:87", after := #[], guard := none }]
def rRT3 : Array Oper := #[{ dst := some 13, op := Op.move (Operand.tmp 8), type := 3, pos := "ref.go:87", after := #[], guard := none },
  { dst := some 14, op := Op.move (Operand.tmp 1), type := 22, pos := "ref.go:87", after := #[], guard := none },
  { dst := some 15, op := Op.call { callee := Callee.builtin Builtin.len, args := #[Operand.tmp 14], argTypes := #[22] }, type := 3, pos := "ref.go:87", after := #[{ on := 1, ground := Ground.data }], guard := none },
  { dst := some 16, op := Op.binOp BinOp.lss 3 (Operand.tmp 13) (Operand.tmp 15) 3, type := 4, pos := "ref.go:87", after := #[{ on := 0, ground := Ground.data }, { on := 2, ground := Ground.data }], guard := none }]
def rRT4 : Array Oper := #[{ dst := some 17, op := Op.move (Operand.tmp 8), type := 3, pos := "ref.go:87", after := #[], guard := none },
  { dst := some 18, op := Op.binOp BinOp.add 3 (Operand.tmp 17) (Operand.const (Value.int IntKind.i64 1)) 3, type := 3, pos := "ref.go:87", after := #[{ on := 0, ground := Ground.data }], guard := none },
  { dst := some 8, op := Op.assign (Operand.tmp 18), type := 3, pos := "ref.go:87", after := #[{ on := 1, ground := Ground.data }, { on := 0, ground := Ground.phase }, { on := 1, ground := Ground.phase }], guard := none }]
def rRT5 : Array Oper := #[{ dst := some 19, op := Op.move (Operand.tmp 1), type := 22, pos := "ref.go:88", after := #[], guard := none },
  { dst := some 20, op := Op.move (Operand.tmp 8), type := 3, pos := "ref.go:88", after := #[], guard := none },
  { dst := some 21, op := Op.indexAddr 22 (Operand.tmp 19) (Operand.tmp 20), type := 0, pos := "ref.go:88", after := #[{ on := 0, ground := Ground.data }, { on := 1, ground := Ground.data }], guard := none },
  { dst := some 22, op := Op.load 55 (Operand.tmp 21), type := 55, pos := "ref.go:88", after := #[{ on := 2, ground := Ground.data }], guard := none },
  { dst := some 9, op := Op.alloc 55, type := 0, pos := "ref.go:88", after := #[], guard := none },
  { dst := none, op := Op.store 55 (Operand.tmp 9) (Operand.tmp 22), type := 0, pos := "ref.go:88", after := #[{ on := 4, ground := Ground.data }, { on := 3, ground := Ground.data }, { on := 0, ground := Ground.phase }, { on := 1, ground := Ground.phase }, { on := 2, ground := Ground.phase }, { on := 3, ground := Ground.phase }, { on := 4, ground := Ground.phase }], guard := none }]
def rRT6 : Array Oper := #[oYF0,
  oYF1,
  oYF2,
  oYF3,
  { dst := some 27, op := Op.move (Operand.tmp 2), type := 24, pos := "ref.go:89", after := #[], guard := none },
  oYF4,
  oYF5,
  { dst := some 30, op := Op.move (Operand.tmp 29), type := 4, pos := "ref.go:89", after := #[{ on := 6, ground := Ground.data }, { on := 5, ground := Ground.chain }], guard := none },
  oYF6,
  oYF7,
  oYF8,
  oYF9,
  { dst := some 35, op := Op.move (Operand.tmp 34), type := 4, pos := "ref.go:89", after := #[{ on := 11, ground := Ground.data }, { on := 7, ground := Ground.chain }], guard := none },
  oYF10,
  oYF11,
  { dst := some 38, op := Op.move (Operand.tmp 2), type := 24, pos := "ref.go:89", after := #[{ on := 12, ground := Ground.guard }], guard := some (12, false) },
  oYF12,
  oYF13,
  { dst := some 41, op := Op.move (Operand.tmp 40), type := 4, pos := "ref.go:89", after := #[{ on := 17, ground := Ground.data }, { on := 12, ground := Ground.chain }], guard := none },
  { dst := some 42, op := Op.move (Operand.tmp 7), type := 123, pos := "ref.go:89", after := #[{ on := 18, ground := Ground.guard }], guard := some (18, false) },
  oYF14,
  oYF15,
  oYF16,
  oYF17,
  oYF18]
def rRT7 : Array Oper := #[{ dst := some 6, op := Op.assign (Operand.const (Value.bool false)), type := 4, pos := "ref.go:90", after := #[], guard := none }]
def rRT8 : Array Oper := #[{ dst := some 48, op := Op.move (Operand.tmp 7), type := 123, pos := "ref.go:92", after := #[], guard := none },
  { dst := some 49, op := Op.fieldAddr 55 (Operand.tmp 9) 0, type := 0, pos := "ref.go:92", after := #[], guard := none },
  { dst := some 50, op := Op.load 24 (Operand.tmp 49), type := 24, pos := "ref.go:92", after := #[{ on := 1, ground := Ground.data }], guard := none },
  { dst := some 51, op := Op.indexAddr 123 (Operand.tmp 48) (Operand.tmp 50), type := 0, pos := "ref.go:92", after := #[{ on := 0, ground := Ground.data }, { on := 2, ground := Ground.data }, { on := 0, ground := Ground.phase }, { on := 1, ground := Ground.phase }, { on := 2, ground := Ground.phase }], guard := none },
  { dst := none, op := Op.store 4 (Operand.tmp 51) (Operand.const (Value.bool true)), type := 0, pos := "ref.go:92", after := #[{ on := 3, ground := Ground.data }, { on := 0, ground := Ground.phase }, { on := 1, ground := Ground.phase }, { on := 2, ground := Ground.phase }], guard := none }]
def rRT9 : Array Oper := #[{ dst := some 10, op := Op.assign (Operand.const (Value.int IntKind.i64 0)), type := 3, pos := "ref.go:93", after := #[], guard := none }]
def rRT10 : Array Oper := #[{ dst := some 52, op := Op.move (Operand.tmp 10), type := 3, pos := "ref.go:93", after := #[], guard := none },
  { dst := some 53, op := Op.fieldAddr 55 (Operand.tmp 9) 1, type := 0, pos := "ref.go:93", after := #[], guard := none },
  { dst := some 54, op := Op.load 23 (Operand.tmp 53), type := 23, pos := "ref.go:93", after := #[{ on := 1, ground := Ground.data }], guard := none },
  { dst := some 55, op := Op.call { callee := Callee.builtin Builtin.len, args := #[Operand.tmp 54], argTypes := #[23] }, type := 3, pos := "ref.go:93", after := #[{ on := 2, ground := Ground.data }], guard := none },
  { dst := some 56, op := Op.binOp BinOp.lss 3 (Operand.tmp 52) (Operand.tmp 55) 3, type := 4, pos := "ref.go:93", after := #[{ on := 0, ground := Ground.data }, { on := 3, ground := Ground.data }], guard := none }]
def rRT11 : Array Oper := #[{ dst := some 57, op := Op.move (Operand.tmp 10), type := 3, pos := "ref.go:93", after := #[], guard := none },
  { dst := some 58, op := Op.binOp BinOp.add 3 (Operand.tmp 57) (Operand.const (Value.int IntKind.i64 1)) 3, type := 3, pos := "ref.go:93", after := #[{ on := 0, ground := Ground.data }], guard := none },
  { dst := some 10, op := Op.assign (Operand.tmp 58), type := 3, pos := "ref.go:93", after := #[{ on := 1, ground := Ground.data }, { on := 0, ground := Ground.phase }, { on := 1, ground := Ground.phase }], guard := none }]
def rRT12 : Array Oper := #[{ dst := some 59, op := Op.move (Operand.tmp 7), type := 123, pos := "ref.go:94", after := #[], guard := none },
  { dst := some 60, op := Op.fieldAddr 55 (Operand.tmp 9) 1, type := 0, pos := "ref.go:94", after := #[], guard := none },
  { dst := some 61, op := Op.load 23 (Operand.tmp 60), type := 23, pos := "ref.go:94", after := #[{ on := 1, ground := Ground.data }], guard := none },
  { dst := some 62, op := Op.move (Operand.tmp 10), type := 3, pos := "ref.go:94", after := #[], guard := none },
  { dst := some 63, op := Op.indexAddr 23 (Operand.tmp 61) (Operand.tmp 62), type := 0, pos := "ref.go:94", after := #[{ on := 2, ground := Ground.data }, { on := 3, ground := Ground.data }], guard := none },
  { dst := some 64, op := Op.load 24 (Operand.tmp 63), type := 24, pos := "ref.go:94", after := #[{ on := 4, ground := Ground.data }], guard := none },
  { dst := some 65, op := Op.indexAddr 123 (Operand.tmp 59) (Operand.tmp 64), type := 0, pos := "ref.go:94", after := #[{ on := 0, ground := Ground.data }, { on := 5, ground := Ground.data }], guard := none },
  { dst := some 66, op := Op.load 4 (Operand.tmp 65), type := 4, pos := "ref.go:94", after := #[{ on := 6, ground := Ground.data }], guard := none }]
def rRT13 : Array Oper := #[{ dst := some 6, op := Op.assign (Operand.const (Value.bool false)), type := 4, pos := "ref.go:95", after := #[], guard := none }]
def rRT14 : Array Oper := #[{ dst := some 67, op := Op.move (Operand.tmp 7), type := 123, pos := "ref.go:97", after := #[], guard := none },
  { dst := some 68, op := Op.fieldAddr 55 (Operand.tmp 9) 1, type := 0, pos := "ref.go:97", after := #[], guard := none },
  { dst := some 69, op := Op.load 23 (Operand.tmp 68), type := 23, pos := "ref.go:97", after := #[{ on := 1, ground := Ground.data }], guard := none },
  { dst := some 70, op := Op.move (Operand.tmp 10), type := 3, pos := "ref.go:97", after := #[], guard := none },
  { dst := some 71, op := Op.indexAddr 23 (Operand.tmp 69) (Operand.tmp 70), type := 0, pos := "ref.go:97", after := #[{ on := 2, ground := Ground.data }, { on := 3, ground := Ground.data }], guard := none },
  { dst := some 72, op := Op.load 24 (Operand.tmp 71), type := 24, pos := "ref.go:97", after := #[{ on := 4, ground := Ground.data }], guard := none },
  { dst := some 73, op := Op.indexAddr 123 (Operand.tmp 67) (Operand.tmp 72), type := 0, pos := "ref.go:97", after := #[{ on := 0, ground := Ground.data }, { on := 5, ground := Ground.data }, { on := 0, ground := Ground.phase }, { on := 1, ground := Ground.phase }, { on := 2, ground := Ground.phase }, { on := 3, ground := Ground.phase }, { on := 4, ground := Ground.phase }, { on := 5, ground := Ground.phase }], guard := none },
  { dst := none, op := Op.store 4 (Operand.tmp 73) (Operand.const (Value.bool true)), type := 0, pos := "ref.go:97", after := #[{ on := 6, ground := Ground.data }, { on := 0, ground := Ground.phase }, { on := 1, ground := Ground.phase }, { on := 2, ground := Ground.phase }, { on := 3, ground := Ground.phase }, { on := 4, ground := Ground.phase }, { on := 5, ground := Ground.phase }], guard := none }]
def rRT15 : Array Oper := #[{ dst := some 6, op := Op.assign (Operand.const (Value.bool true)), type := 4, pos := "ref.go:100", after := #[], guard := none }]
def cRT2 : Code := (Code.seq (Code.seq (Code.region 10 rRT10 false) (Code.cond (Operand.tmp 56) Code.skip (Code.exit 2))) (Code.seq (Code.block 3 (Code.seq (Code.seq (Code.region 12 rRT12 false) (Code.cond (Operand.tmp 66) (Code.seq (Code.region 13 rRT13 false) Code.ret) Code.skip)) (Code.region 14 rRT14 false))) (Code.region 11 rRT11 false)))
def cRT1 : Code := (Code.seq (Code.seq (Code.region 3 rRT3 false) (Code.cond (Operand.tmp 16) Code.skip (Code.exit 0))) (Code.seq (Code.block 1 (Code.seq (Code.region 5 rRT5 false) (Code.seq (Code.seq (Code.region 6 rRT6 true) (Code.cond (Operand.tmp 47) (Code.seq (Code.region 7 rRT7 false) Code.ret) Code.skip)) (Code.seq (Code.region 8 rRT8 false) (Code.seq (Code.region 9 rRT9 false) (Code.block 2 (Code.loop cRT2))))))) (Code.region 4 rRT4 false)))
def cRT : Code := (Code.seq (Code.region 0 rRT0 false) (Code.seq (Code.region 1 rRT1 false) (Code.seq (Code.seq (Code.region 2 rRT2 false) (Code.block 0 (Code.loop cRT1))) (Code.seq (Code.region 15 rRT15 false) Code.ret))))

/-- Numbers that were seen. -/
def upd (f : Nat → Bool) (i : Nat) : Nat → Bool := fun j => if j = i then true else f j
def seenC (f : Nat → Bool) (n : Nat) : List Value := (List.range n).map fun i => .bool (f i)
theorem seenC_len (f : Nat → Bool) (n : Nat) : (seenC f n).length = n := by simp [seenC]
theorem seenC_at {f : Nat → Bool} {n i : Nat} (h : i < n) : (seenC f n)[i]? = some (.bool (f i)) := by simp [seenC, List.getElem?_range h]
theorem seenC_set (f : Nat → Bool) {n i : Nat} (_h : i < n) : (seenC f n).set i (.bool true) = seenC (upd f i) n := by
  apply List.ext_getElem?
  intro j
  by_cases hj : j < n
  · rw [List.getElem?_set, seenC_at hj, seenC_at hj]
    by_cases e : i = j
    · subst e
      rw [if_pos rfl, if_pos (by rw [seenC_len]; exact hj)]
      simp [upd]
    · rw [if_neg e]
      simp [upd, Ne.symm e]
  · rw [List.getElem?_eq_none (by rw [List.length_set, seenC_len]; omega), List.getElem?_eq_none (by rw [seenC_len]; omega)]
def dN : (Nat → Bool) → List Nat → Bool × (Nat → Bool)
  | f, [] => (true, f)
  | f, y :: ys => if f y then (false, f) else dN (upd f y) ys
def badB (p q : Int) (pages : Nat) (f : Nat → Bool) (x : Bt) : Bool := !(fitsN p q x.ns pages) || decide (x.pg < 2) || decide (pages ≤ x.pg) || f x.pg
def dR (p q : Int) (pages : Nat) : (Nat → Bool) → List Bt → Bool
  | _, [] => true
  | f, x :: L => if badB p q pages f x then false else if (dN (upd f x.pg) x.ns).1 then dR p q pages (dN (upd f x.pg) x.ns).2 L else false
/-- The world while a chain is looked at. -/
structure RWd (w W : World) (p q : Int) (pages : Nat) (f : Nat → Bool) : Prop where
  same : Same w W
  fbox : W.heap[w.heap.size]? = some (.cells #[.int .i64 p, .int .i64 q] 39 (0, 0))
  seen : W.ownsRow w.heap.size 4 1 (.slice (some ⟨w.heap.size + 1, 0, none⟩) pages pages) pages (seenC f pages)
theorem RWd.fr {w W W' : World} {p q : Int} {pages : Nat} {f : Nat → Bool} (h : RWd w W p q pages f) (s : Same W W') : RWd w W' p q pages f := ⟨h.same.trans s, (s.block _ (lt_of_heap h.fbox) (fun e => e)).trans h.fbox, own_frameB h.seen s (fun _ _ e => e)⟩
theorem RWd.put {w W : World} {p q : Int} {pages i : Nat} {f : Nat → Bool} (h : RWd w W p q pages f) (hi : i < pages) : RWd w (W.setCell ⟨w.heap.size + 1, i, none⟩ (.bool true)) p q pages (upd f i) ∧ Fr (fun k => k = w.heap.size + 1) W (W.setCell ⟨w.heap.size + 1, i, none⟩ (.bool true)) := by
  have fr : Fr (fun k => k = w.heap.size + 1) W (W.setCell ⟨w.heap.size + 1, i, none⟩ (.bool true)) := Fr.setCell (S := fun k => k = w.heap.size + 1) (Fr.refl _ W) (p := ⟨w.heap.size + 1, i, none⟩) (fun _ => rfl) _
  refine ⟨⟨Fr.trans h.same fr (fun k hk e => by omega), (fr.block _ (lt_of_heap h.fbox) (by omega)).trans h.fbox, ?_⟩, fr⟩
  rw [← seenC_set f hi]
  exact own_set h.seen _
theorem RWd.cell {w W : World} {p q : Int} {pages i : Nat} {f : Nat → Bool} (h : RWd w W p q pages f) (hi : i < pages) : W.cell? ⟨w.heap.size + 1, i, none⟩ = some (.bool (f i)) := own_cell (own_base h.seen (Nat.zero_le _)) (seenC_at hi)
theorem RWd.frozen {w W : World} {p q : Int} {pages i : Nat} {f : Nat → Bool} (h : RWd w W p q pages f) : W.frozen? ⟨w.heap.size + 1, i, none⟩ = false := own_frozen h.seen
theorem RWd.frame {w W : World} {p q : Int} {pages : Nat} {f : Nat → Bool} (h : RWd w W p q pages f) : W.cell? ⟨w.heap.size, 0, none⟩ = some (.int .i64 p) ∧ W.cell? ⟨w.heap.size, 1, none⟩ = some (.int .i64 q) := ⟨(cell_of_row _ _ _ _ _ _ h.fbox).trans rfl, (cell_of_row _ _ _ _ _ _ h.fbox).trans rfl⟩
/-- And while one batch is. -/
structure RWb (w W : World) (p q : Int) (pages : Nat) (f : Nat → Bool) (bb pg : Nat) (xa : Option Addr) (nl xc : Nat) : Prop where
  wd : RWd w W p q pages f
  ne : w.heap.size + 1 < bb
  bbox : W.heap[bb]? = some (.cells #[.int .u32 (pg : Int), .slice xa nl xc] 55 (0, 0))
theorem RWb.fr {w W W' : World} {p q : Int} {pages : Nat} {f : Nat → Bool} {bb pg nl xc : Nat} {xa : Option Addr} (h : RWb w W p q pages f bb pg xa nl xc) (s : Same W W') : RWb w W' p q pages f bb pg xa nl xc := ⟨h.wd.fr s, h.ne, (s.block _ (lt_of_heap h.bbox) (fun e => e)).trans h.bbox⟩
theorem RWb.put {w W : World} {p q : Int} {pages i : Nat} {f : Nat → Bool} {bb pg nl xc : Nat} {xa : Option Addr} (h : RWb w W p q pages f bb pg xa nl xc) (hi : i < pages) : RWb w (W.setCell ⟨w.heap.size + 1, i, none⟩ (.bool true)) p q pages (upd f i) bb pg xa nl xc := by
  obtain ⟨h1, h2⟩ := h.wd.put hi
  exact ⟨h1, h.ne, (h2.block _ (lt_of_heap h.bbox) (by have := h.ne; omega)).trans h.bbox⟩
theorem RWb.cells {w W : World} {p q : Int} {pages : Nat} {f : Nat → Bool} {bb pg nl xc : Nat} {xa : Option Addr} (h : RWb w W p q pages f bb pg xa nl xc) : W.cell? ⟨bb, 0, none⟩ = some (.int .u32 (pg : Int)) ∧ W.cell? ⟨bb, 1, none⟩ = some (.slice xa nl xc) := ⟨(cell_of_row _ _ _ _ _ _ h.bbox).trans rfl, (cell_of_row _ _ _ _ _ _ h.bbox).trans rfl⟩
structure IR (hz : Nat) (pa : Option Addr) (n cp pages : Nat) (a : Act) : Prop where
  size : a.tmps.size = 74
  defers : a.defers = []
  s1 : a.eval (.tmp 1) = .slice pa n cp
  s2 : a.eval (.tmp 2) = .int .u32 (pages : Int)
  s3 : a.eval (.tmp 3) = .pointer (some ⟨hz, 0, none⟩)
  s7 : a.eval (.tmp 7) = .slice (some ⟨hz + 1, 0, none⟩) pages pages
theorem IR.keep {hz : Nat} {pa : Option Addr} {n cp pages : Nat} {a0 a : Act} {env : List (Nat × Value)} (h : IR hz pa n cp pages a0) (f : Fe a0 env a) (hk : ∀ t, t = 1 ∨ t = 2 ∨ t = 3 ∨ t = 7 → look env t (a0.eval (.tmp t)) = a0.eval (.tmp t)) : IR hz pa n cp pages a :=
  ⟨f.size.trans h.size, f.defers.trans h.defers, ((f.at_ 1).trans (hk 1 (by simp))).trans h.s1, ((f.at_ 2).trans (hk 2 (by simp))).trans h.s2, ((f.at_ 3).trans (hk 3 (by simp))).trans h.s3, ((f.at_ 7).trans (hk 7 (by simp))).trans h.s7⟩
set_option maxRecDepth 100000 in
set_option maxHeartbeats 1000000 in
theorem rg6a {p q : Int} {pages bb pg nl xc n cp i en : Nat} {pa xa : Option Addr} {f : Nat → Bool} {Q : Exit → Act → World → Prop} (hQp : ∀ c (a : Act) d v w, Q (.panic c) (a.put d v) w → Q (.panic c) a w) (a0 : Act) (w wr : World) (I0 : IR w.heap.size pa n cp pages a0) (h8 : a0.eval (.tmp 8) = .int .i64 (i : Int)) (h9 : a0.eval (.tmp 9) = .pointer (some ⟨bb, 0, none⟩)) (hw : RWb w wr p q pages f bb pg xa nl xc) 
    (hen : ∀ W, Calls Try.prog 49 #[.agg #[.int .i64 p, .int .i64 q]] W fun e w' => e = .returned (.int .i64 (en : Int)) ∧ Same W w')
    (hri : ∀ W, Same wr W → Calls Try.prog 48 #[.slice xa nl xc, .int .i64 (en : Int), .int .u32 (pages : Int)] W fun e w' => e = .returned (.bool false) ∧ Same W w')
    (hQ : ∀ a W, IR w.heap.size pa n cp pages a → a.eval (.tmp 8) = .int .i64 (i : Int) → a.eval (.tmp 9) = .pointer (some ⟨bb, 0, none⟩) → a.eval (.tmp 47) = .bool true → Same wr W → Q .normal a W) : (Code.region 6 rRT6 true).wp Try.prog Q a0 wr := by
  have dd : Same wr wr.drew := (Fr.refl (fun _ => False) wr).drew
  have fa0_0 := Fe.refl a0
  refine wp_region_held_drew (ops := rRT6) (S := fun Z => Same wr Z) (by kernel_rfl) (dd) (fun hS0 => ?_)
  have r_a0_1 : ∀ Z, (fun Z => Same wr Z) Z → (execOp a0.eval oYF0).run Try.prog Z = .ok (.value (.pointer (some ⟨bb, 1, none⟩))) Z := fun Z hZ => by
    unfold oYF0
    have e9 := (show a0.eval (.tmp 9) = .pointer (some ⟨bb, 0, none⟩) from ((fa0_0.at_ 9).trans h9))
    clear fa0_0 hQ h8 h9
    generalize a0.eval = ρ at *
    go_simp
  refine fa0_0.take 0 23 (.pointer (some ⟨bb, 1, none⟩)) rfl (by kernel_rfl) (by kernel_rfl) (by kernel_rfl) (fun _ _ _ h => hQp _ _ _ _ _ h) rfl (lb_ I0.size) (wanted_none rfl) r_a0_1 hS0 (fun a0_1 fa0_1 => ?_)
  clear r_a0_1
  clear fa0_0
  have r_a0_2 : ∀ Z, (fun Z => Same wr Z) Z → (execOp a0_1.eval oYF1).run Try.prog Z = .ok (.value (.slice xa nl xc)) Z := fun Z hZ => by
    unfold oYF1
    obtain ⟨c1, c2⟩ := (hw.fr hZ).cells
    obtain ⟨c3, c4⟩ := (hw.fr hZ).wd.frame
    have e23 := (show a0_1.eval (.tmp 23) = .pointer (some ⟨bb, 1, none⟩) from (fa0_1.at_ 23))
    clear fa0_1 hQ h8 h9
    generalize a0_1.eval = ρ at *
    go_simp
  refine fa0_1.take 1 24 (.slice xa nl xc) rfl (by kernel_rfl) (by kernel_rfl) (by kernel_rfl) (fun _ _ _ h => hQp _ _ _ _ _ h) rfl (lb_ I0.size) (wanted_none rfl) r_a0_2 hS0 (fun a0_2 fa0_2 => ?_)
  clear r_a0_2
  clear fa0_1
  have r_a0_3 : ∀ Z, (fun Z => Same wr Z) Z → (execOp a0_2.eval oYF2).run Try.prog Z = .ok (.value (.agg #[.int .i64 p, .int .i64 q])) Z := fun Z hZ => by
    unfold oYF2
    obtain ⟨c1, c2⟩ := (hw.fr hZ).cells
    obtain ⟨c3, c4⟩ := (hw.fr hZ).wd.frame
    have e3 := (show a0_2.eval (.tmp 3) = .pointer (some ⟨w.heap.size, 0, none⟩) from ((fa0_2.at_ 3).trans I0.s3))
    clear fa0_2 hQ h8 h9
    generalize a0_2.eval = ρ at *
    go_simp
  refine fa0_2.take 2 25 (.agg #[.int .i64 p, .int .i64 q]) rfl (by kernel_rfl) (by kernel_rfl) (by kernel_rfl) (fun _ _ _ h => hQp _ _ _ _ _ h) rfl (lb_ I0.size) (wanted_none rfl) r_a0_3 hS0 (fun a0_3 fa0_3 => ?_)
  clear r_a0_3
  clear fa0_2
  refine fa0_3.takeMove 4 27 (.int .u32 (pages : Int)) _ (Or.inl rfl) rfl (by kernel_rfl) (by kernel_rfl) (by kernel_rfl) (fun _ _ _ h => hQp _ _ _ _ _ h) rfl (lb_ I0.size) (wanted_none rfl) ((fa0_3.at_ 2).trans I0.s2) hS0 (fun a0_4 fa0_4 => ?_)
  clear fa0_3
  have r_a0_5 : (execOp a0_4.eval oYF3).run Try.prog (wr.drew) = .ok (.enter 49 #[.agg #[.int .i64 p, .int .i64 q]]) (wr.drew) := by
    unfold oYF3
    have kf : ∀ f, a0_4.eval (.func f) = .func (.func f) #[] #[] := fun _ => rfl
    have e25 := (show a0_4.eval (.tmp 25) = .agg #[.int .i64 p, .int .i64 q] from (fa0_4.at_ 25))
    clear fa0_4 hQ h8 h9
    generalize a0_4.eval = ρ at *
    go_simp
  refine fa0_4.oneCall 3 26 (by kernel_rfl) rfl rfl (lb_ I0.size) (wanted_none rfl) r_a0_5 (hen _) (fun e W1 hR => ?_)
  obtain ⟨rfl, s1⟩ := hR
  clear r_a0_5
  have hS5 : (fun Z => Same wr Z) W1 := dd.trans s1
  refine ⟨_, rfl, hS5, fun a0_5 fa0_5 => ?_⟩
  clear fa0_4
  have r_a0_6 : (execOp a0_5.eval oYF4).run Try.prog (W1) = .ok (.enter 48 #[.slice xa nl xc, .int .i64 (en : Int), .int .u32 (pages : Int)]) (W1) := by
    unfold oYF4
    have kf : ∀ f, a0_5.eval (.func f) = .func (.func f) #[] #[] := fun _ => rfl
    have e24 := (show a0_5.eval (.tmp 24) = .slice xa nl xc from (fa0_5.at_ 24))
    have e26 := (show a0_5.eval (.tmp 26) = .int .i64 (en : Int) from (fa0_5.at_ 26))
    have e27 := (show a0_5.eval (.tmp 27) = .int .u32 (pages : Int) from (fa0_5.at_ 27))
    clear fa0_5 hQ h8 h9
    generalize a0_5.eval = ρ at *
    go_simp
  refine fa0_5.oneCall 5 28 (by kernel_rfl) rfl rfl (lb_ I0.size) (wanted_none rfl) r_a0_6 (hri _ (dd.trans s1)) (fun e W2 hR => ?_)
  obtain ⟨rfl, s2⟩ := hR
  clear r_a0_6
  have hS6 : (fun Z => Same wr Z) W2 := (dd.trans s1).trans s2
  refine ⟨_, rfl, hS6, fun a0_6 fa0_6 => ?_⟩
  clear fa0_5
  have r_a0_7 : ∀ Z, (fun Z => Same wr Z) Z → (execOp a0_6.eval oYF5).run Try.prog Z = .ok (.value (.bool true)) Z := fun Z hZ => by
    unfold oYF5
    have e28 := (show a0_6.eval (.tmp 28) = .bool false from (fa0_6.at_ 28))
    clear fa0_6 hQ h8 h9
    generalize a0_6.eval = ρ at *
    go_simp
  refine fa0_6.take 6 29 (.bool true) rfl (by kernel_rfl) (by kernel_rfl) (by kernel_rfl) (fun _ _ _ h => hQp _ _ _ _ _ h) rfl (lb_ I0.size) (wanted_none rfl) r_a0_7 hS6 (fun a0_7 fa0_7 => ?_)
  clear r_a0_7
  clear fa0_6
  refine fa0_7.takeMove 7 30 (.bool true) _ (Or.inl rfl) rfl (by kernel_rfl) (by kernel_rfl) (by kernel_rfl) (fun _ _ _ h => hQp _ _ _ _ _ h) rfl (lb_ I0.size) (wanted_none rfl) (fa0_7.at_ 29) hS6 (fun a0_8 fa0_8 => ?_)
  clear fa0_7
  refine fa0_8.takeOff 8 31 rfl (by kernel_rfl) (by kernel_rfl) (by kernel_rfl) (fun _ _ _ h => hQp _ _ _ _ _ h) rfl (lb_ I0.size) ((wanted_at (t := 30) (c := true) (b := false) rfl rfl rfl (lb_ (fa0_8.size.trans I0.size)) (fa0_8.at_ 30)).trans (by rfl)) hS6 (fun a0_9 fa0_9 => ?_)
  clear fa0_8
  refine fa0_9.takeOff 9 32 rfl (by kernel_rfl) (by kernel_rfl) (by kernel_rfl) (fun _ _ _ h => hQp _ _ _ _ _ h) rfl (lb_ I0.size) ((wanted_at (t := 30) (c := true) (b := false) rfl rfl rfl (lb_ (fa0_9.size.trans I0.size)) (fa0_9.at_ 30)).trans (by rfl)) hS6 (fun a0_10 fa0_10 => ?_)
  clear fa0_9
  refine fa0_10.takeOff 10 33 rfl (by kernel_rfl) (by kernel_rfl) (by kernel_rfl) (fun _ _ _ h => hQp _ _ _ _ _ h) rfl (lb_ I0.size) ((wanted_at (t := 30) (c := true) (b := false) rfl rfl rfl (lb_ (fa0_10.size.trans I0.size)) (fa0_10.at_ 30)).trans (by rfl)) hS6 (fun a0_11 fa0_11 => ?_)
  clear fa0_10
  have r_a0_12 : ∀ Z, (fun Z => Same wr Z) Z → (execOp a0_11.eval oYF9).run Try.prog Z = .ok (.value (.bool true)) Z := fun Z hZ => by
    unfold oYF9
    have kc : ∀ v, a0_11.eval (.const v) = v := fun _ => rfl
    have e30 := (show a0_11.eval (.tmp 30) = .bool true from (fa0_11.at_ 30))
    have e33 := (show a0_11.eval (.tmp 33) = undef from (fa0_11.at_ 33))
    clear fa0_11 hQ h8 h9
    generalize a0_11.eval = ρ at *
    go_simp
  refine fa0_11.take 11 34 (.bool true) rfl (by kernel_rfl) (by kernel_rfl) (by kernel_rfl) (fun _ _ _ h => hQp _ _ _ _ _ h) rfl (lb_ I0.size) (wanted_none rfl) r_a0_12 hS6 (fun a0_12 fa0_12 => ?_)
  clear r_a0_12
  clear fa0_11
  refine fa0_12.takeMove 12 35 (.bool true) _ (Or.inl rfl) rfl (by kernel_rfl) (by kernel_rfl) (by kernel_rfl) (fun _ _ _ h => hQp _ _ _ _ _ h) rfl (lb_ I0.size) (wanted_none rfl) (fa0_12.at_ 34) hS6 (fun a0_13 fa0_13 => ?_)
  clear fa0_12
  refine fa0_13.takeOff 13 36 rfl (by kernel_rfl) (by kernel_rfl) (by kernel_rfl) (fun _ _ _ h => hQp _ _ _ _ _ h) rfl (lb_ I0.size) ((wanted_at (t := 35) (c := true) (b := false) rfl rfl rfl (lb_ (fa0_13.size.trans I0.size)) (fa0_13.at_ 35)).trans (by rfl)) hS6 (fun a0_14 fa0_14 => ?_)
  clear fa0_13
  refine fa0_14.takeOff 14 37 rfl (by kernel_rfl) (by kernel_rfl) (by kernel_rfl) (fun _ _ _ h => hQp _ _ _ _ _ h) rfl (lb_ I0.size) ((wanted_at (t := 35) (c := true) (b := false) rfl rfl rfl (lb_ (fa0_14.size.trans I0.size)) (fa0_14.at_ 35)).trans (by rfl)) hS6 (fun a0_15 fa0_15 => ?_)
  clear fa0_14
  refine fa0_15.takeOff 15 38 rfl (by kernel_rfl) (by kernel_rfl) (by kernel_rfl) (fun _ _ _ h => hQp _ _ _ _ _ h) rfl (lb_ I0.size) ((wanted_at (t := 35) (c := true) (b := false) rfl rfl rfl (lb_ (fa0_15.size.trans I0.size)) (fa0_15.at_ 35)).trans (by rfl)) hS6 (fun a0_16 fa0_16 => ?_)
  clear fa0_15
  refine fa0_16.takeOff 16 39 rfl (by kernel_rfl) (by kernel_rfl) (by kernel_rfl) (fun _ _ _ h => hQp _ _ _ _ _ h) rfl (lb_ I0.size) ((wanted_at (t := 35) (c := true) (b := false) rfl rfl rfl (lb_ (fa0_16.size.trans I0.size)) (fa0_16.at_ 35)).trans (by rfl)) hS6 (fun a0_17 fa0_17 => ?_)
  clear fa0_16
  have r_a0_18 : ∀ Z, (fun Z => Same wr Z) Z → (execOp a0_17.eval oYF13).run Try.prog Z = .ok (.value (.bool true)) Z := fun Z hZ => by
    unfold oYF13
    have kc : ∀ v, a0_17.eval (.const v) = v := fun _ => rfl
    have e35 := (show a0_17.eval (.tmp 35) = .bool true from (fa0_17.at_ 35))
    have e39 := (show a0_17.eval (.tmp 39) = undef from (fa0_17.at_ 39))
    clear fa0_17 hQ h8 h9
    generalize a0_17.eval = ρ at *
    go_simp
  refine fa0_17.take 17 40 (.bool true) rfl (by kernel_rfl) (by kernel_rfl) (by kernel_rfl) (fun _ _ _ h => hQp _ _ _ _ _ h) rfl (lb_ I0.size) (wanted_none rfl) r_a0_18 hS6 (fun a0_18 fa0_18 => ?_)
  clear r_a0_18
  clear fa0_17
  refine fa0_18.takeMove 18 41 (.bool true) _ (Or.inl rfl) rfl (by kernel_rfl) (by kernel_rfl) (by kernel_rfl) (fun _ _ _ h => hQp _ _ _ _ _ h) rfl (lb_ I0.size) (wanted_none rfl) (fa0_18.at_ 40) hS6 (fun a0_19 fa0_19 => ?_)
  clear fa0_18
  refine fa0_19.takeOff 19 42 rfl (by kernel_rfl) (by kernel_rfl) (by kernel_rfl) (fun _ _ _ h => hQp _ _ _ _ _ h) rfl (lb_ I0.size) ((wanted_at (t := 41) (c := true) (b := false) rfl rfl rfl (lb_ (fa0_19.size.trans I0.size)) (fa0_19.at_ 41)).trans (by rfl)) hS6 (fun a0_20 fa0_20 => ?_)
  clear fa0_19
  refine fa0_20.takeOff 20 43 rfl (by kernel_rfl) (by kernel_rfl) (by kernel_rfl) (fun _ _ _ h => hQp _ _ _ _ _ h) rfl (lb_ I0.size) ((wanted_at (t := 41) (c := true) (b := false) rfl rfl rfl (lb_ (fa0_20.size.trans I0.size)) (fa0_20.at_ 41)).trans (by rfl)) hS6 (fun a0_21 fa0_21 => ?_)
  clear fa0_20
  refine fa0_21.takeOff 21 44 rfl (by kernel_rfl) (by kernel_rfl) (by kernel_rfl) (fun _ _ _ h => hQp _ _ _ _ _ h) rfl (lb_ I0.size) ((wanted_at (t := 41) (c := true) (b := false) rfl rfl rfl (lb_ (fa0_21.size.trans I0.size)) (fa0_21.at_ 41)).trans (by rfl)) hS6 (fun a0_22 fa0_22 => ?_)
  clear fa0_21
  refine fa0_22.takeOff 22 45 rfl (by kernel_rfl) (by kernel_rfl) (by kernel_rfl) (fun _ _ _ h => hQp _ _ _ _ _ h) rfl (lb_ I0.size) ((wanted_at (t := 41) (c := true) (b := false) rfl rfl rfl (lb_ (fa0_22.size.trans I0.size)) (fa0_22.at_ 41)).trans (by rfl)) hS6 (fun a0_23 fa0_23 => ?_)
  clear fa0_22
  refine fa0_23.takeOff 23 46 rfl (by kernel_rfl) (by kernel_rfl) (by kernel_rfl) (fun _ _ _ h => hQp _ _ _ _ _ h) rfl (lb_ I0.size) ((wanted_at (t := 41) (c := true) (b := false) rfl rfl rfl (lb_ (fa0_23.size.trans I0.size)) (fa0_23.at_ 41)).trans (by rfl)) hS6 (fun a0_24 fa0_24 => ?_)
  clear fa0_23
  have r_a0_25 : ∀ Z, (fun Z => Same wr Z) Z → (execOp a0_24.eval oYF18).run Try.prog Z = .ok (.value (.bool true)) Z := fun Z hZ => by
    unfold oYF18
    have kc : ∀ v, a0_24.eval (.const v) = v := fun _ => rfl
    have e41 := (show a0_24.eval (.tmp 41) = .bool true from (fa0_24.at_ 41))
    have e46 := (show a0_24.eval (.tmp 46) = undef from (fa0_24.at_ 46))
    clear fa0_24 hQ h8 h9
    generalize a0_24.eval = ρ at *
    go_simp
  refine fa0_24.take 24 47 (.bool true) rfl (by kernel_rfl) (by kernel_rfl) (by kernel_rfl) (fun _ _ _ h => hQp _ _ _ _ _ h) rfl (lb_ I0.size) (wanted_none rfl) r_a0_25 hS6 (fun a0_25 fa0_25 => ?_)
  clear r_a0_25
  clear fa0_24
  refine wpAnyH_done (by kernel_rfl) ?_ _
  exact hQ a0_25 W2 (I0.keep fa0_25 (fun t ht => by rcases ht with rfl | rfl | rfl | rfl <;> rfl)) (show a0_25.eval (.tmp 8) = .int .i64 (i : Int) from ((fa0_25.at_ 8).trans h8)) (show a0_25.eval (.tmp 9) = .pointer (some ⟨bb, 0, none⟩) from ((fa0_25.at_ 9).trans h9)) (show a0_25.eval (.tmp 47) = .bool true from (fa0_25.at_ 47)) ((dd.trans s1).trans s2)
set_option maxRecDepth 100000 in
set_option maxHeartbeats 1000000 in
theorem rg6b {p q : Int} {pages bb pg nl xc n cp i en : Nat} {pa xa : Option Addr} {f : Nat → Bool} {Q : Exit → Act → World → Prop} (hQp : ∀ c (a : Act) d v w, Q (.panic c) (a.put d v) w → Q (.panic c) a w) (a0 : Act) (w wr : World) (I0 : IR w.heap.size pa n cp pages a0) (h8 : a0.eval (.tmp 8) = .int .i64 (i : Int)) (h9 : a0.eval (.tmp 9) = .pointer (some ⟨bb, 0, none⟩)) (hw : RWb w wr p q pages f bb pg xa nl xc) (h2 : pg < 2)
    (hen : ∀ W, Calls Try.prog 49 #[.agg #[.int .i64 p, .int .i64 q]] W fun e w' => e = .returned (.int .i64 (en : Int)) ∧ Same W w')
    (hri : ∀ W, Same wr W → Calls Try.prog 48 #[.slice xa nl xc, .int .i64 (en : Int), .int .u32 (pages : Int)] W fun e w' => e = .returned (.bool true) ∧ Same W w')
    (hQ : ∀ a W, IR w.heap.size pa n cp pages a → a.eval (.tmp 8) = .int .i64 (i : Int) → a.eval (.tmp 9) = .pointer (some ⟨bb, 0, none⟩) → a.eval (.tmp 47) = .bool true → Same wr W → Q .normal a W) : (Code.region 6 rRT6 true).wp Try.prog Q a0 wr := by
  have dd : Same wr wr.drew := (Fr.refl (fun _ => False) wr).drew
  have hi2 : (pg : Int) < 2 := by omega
  have fa0_0 := Fe.refl a0
  refine wp_region_held_drew (ops := rRT6) (S := fun Z => Same wr Z) (by kernel_rfl) (dd) (fun hS0 => ?_)
  have r_a0_1 : ∀ Z, (fun Z => Same wr Z) Z → (execOp a0.eval oYF0).run Try.prog Z = .ok (.value (.pointer (some ⟨bb, 1, none⟩))) Z := fun Z hZ => by
    unfold oYF0
    have e9 := (show a0.eval (.tmp 9) = .pointer (some ⟨bb, 0, none⟩) from ((fa0_0.at_ 9).trans h9))
    clear fa0_0 hQ h8 h9
    generalize a0.eval = ρ at *
    go_simp
  refine fa0_0.take 0 23 (.pointer (some ⟨bb, 1, none⟩)) rfl (by kernel_rfl) (by kernel_rfl) (by kernel_rfl) (fun _ _ _ h => hQp _ _ _ _ _ h) rfl (lb_ I0.size) (wanted_none rfl) r_a0_1 hS0 (fun a0_1 fa0_1 => ?_)
  clear r_a0_1
  clear fa0_0
  have r_a0_2 : ∀ Z, (fun Z => Same wr Z) Z → (execOp a0_1.eval oYF1).run Try.prog Z = .ok (.value (.slice xa nl xc)) Z := fun Z hZ => by
    unfold oYF1
    obtain ⟨c1, c2⟩ := (hw.fr hZ).cells
    obtain ⟨c3, c4⟩ := (hw.fr hZ).wd.frame
    have e23 := (show a0_1.eval (.tmp 23) = .pointer (some ⟨bb, 1, none⟩) from (fa0_1.at_ 23))
    clear fa0_1 hQ h8 h9
    generalize a0_1.eval = ρ at *
    go_simp
  refine fa0_1.take 1 24 (.slice xa nl xc) rfl (by kernel_rfl) (by kernel_rfl) (by kernel_rfl) (fun _ _ _ h => hQp _ _ _ _ _ h) rfl (lb_ I0.size) (wanted_none rfl) r_a0_2 hS0 (fun a0_2 fa0_2 => ?_)
  clear r_a0_2
  clear fa0_1
  have r_a0_3 : ∀ Z, (fun Z => Same wr Z) Z → (execOp a0_2.eval oYF2).run Try.prog Z = .ok (.value (.agg #[.int .i64 p, .int .i64 q])) Z := fun Z hZ => by
    unfold oYF2
    obtain ⟨c1, c2⟩ := (hw.fr hZ).cells
    obtain ⟨c3, c4⟩ := (hw.fr hZ).wd.frame
    have e3 := (show a0_2.eval (.tmp 3) = .pointer (some ⟨w.heap.size, 0, none⟩) from ((fa0_2.at_ 3).trans I0.s3))
    clear fa0_2 hQ h8 h9
    generalize a0_2.eval = ρ at *
    go_simp
  refine fa0_2.take 2 25 (.agg #[.int .i64 p, .int .i64 q]) rfl (by kernel_rfl) (by kernel_rfl) (by kernel_rfl) (fun _ _ _ h => hQp _ _ _ _ _ h) rfl (lb_ I0.size) (wanted_none rfl) r_a0_3 hS0 (fun a0_3 fa0_3 => ?_)
  clear r_a0_3
  clear fa0_2
  refine fa0_3.takeMove 4 27 (.int .u32 (pages : Int)) _ (Or.inl rfl) rfl (by kernel_rfl) (by kernel_rfl) (by kernel_rfl) (fun _ _ _ h => hQp _ _ _ _ _ h) rfl (lb_ I0.size) (wanted_none rfl) ((fa0_3.at_ 2).trans I0.s2) hS0 (fun a0_4 fa0_4 => ?_)
  clear fa0_3
  have r_a0_5 : (execOp a0_4.eval oYF3).run Try.prog (wr.drew) = .ok (.enter 49 #[.agg #[.int .i64 p, .int .i64 q]]) (wr.drew) := by
    unfold oYF3
    have kf : ∀ f, a0_4.eval (.func f) = .func (.func f) #[] #[] := fun _ => rfl
    have e25 := (show a0_4.eval (.tmp 25) = .agg #[.int .i64 p, .int .i64 q] from (fa0_4.at_ 25))
    clear fa0_4 hQ h8 h9
    generalize a0_4.eval = ρ at *
    go_simp
  refine fa0_4.oneCall 3 26 (by kernel_rfl) rfl rfl (lb_ I0.size) (wanted_none rfl) r_a0_5 (hen _) (fun e W1 hR => ?_)
  obtain ⟨rfl, s1⟩ := hR
  clear r_a0_5
  have hS5 : (fun Z => Same wr Z) W1 := dd.trans s1
  refine ⟨_, rfl, hS5, fun a0_5 fa0_5 => ?_⟩
  clear fa0_4
  have r_a0_6 : (execOp a0_5.eval oYF4).run Try.prog (W1) = .ok (.enter 48 #[.slice xa nl xc, .int .i64 (en : Int), .int .u32 (pages : Int)]) (W1) := by
    unfold oYF4
    have kf : ∀ f, a0_5.eval (.func f) = .func (.func f) #[] #[] := fun _ => rfl
    have e24 := (show a0_5.eval (.tmp 24) = .slice xa nl xc from (fa0_5.at_ 24))
    have e26 := (show a0_5.eval (.tmp 26) = .int .i64 (en : Int) from (fa0_5.at_ 26))
    have e27 := (show a0_5.eval (.tmp 27) = .int .u32 (pages : Int) from (fa0_5.at_ 27))
    clear fa0_5 hQ h8 h9
    generalize a0_5.eval = ρ at *
    go_simp
  refine fa0_5.oneCall 5 28 (by kernel_rfl) rfl rfl (lb_ I0.size) (wanted_none rfl) r_a0_6 (hri _ (dd.trans s1)) (fun e W2 hR => ?_)
  obtain ⟨rfl, s2⟩ := hR
  clear r_a0_6
  have hS6 : (fun Z => Same wr Z) W2 := (dd.trans s1).trans s2
  refine ⟨_, rfl, hS6, fun a0_6 fa0_6 => ?_⟩
  clear fa0_5
  have r_a0_7 : ∀ Z, (fun Z => Same wr Z) Z → (execOp a0_6.eval oYF5).run Try.prog Z = .ok (.value (.bool false)) Z := fun Z hZ => by
    unfold oYF5
    have e28 := (show a0_6.eval (.tmp 28) = .bool true from (fa0_6.at_ 28))
    clear fa0_6 hQ h8 h9
    generalize a0_6.eval = ρ at *
    go_simp
  refine fa0_6.take 6 29 (.bool false) rfl (by kernel_rfl) (by kernel_rfl) (by kernel_rfl) (fun _ _ _ h => hQp _ _ _ _ _ h) rfl (lb_ I0.size) (wanted_none rfl) r_a0_7 hS6 (fun a0_7 fa0_7 => ?_)
  clear r_a0_7
  clear fa0_6
  refine fa0_7.takeMove 7 30 (.bool false) _ (Or.inl rfl) rfl (by kernel_rfl) (by kernel_rfl) (by kernel_rfl) (fun _ _ _ h => hQp _ _ _ _ _ h) rfl (lb_ I0.size) (wanted_none rfl) (fa0_7.at_ 29) hS6 (fun a0_8 fa0_8 => ?_)
  clear fa0_7
  have r_a0_9 : ∀ Z, (fun Z => Same wr Z) Z → (execOp a0_8.eval oYF6).run Try.prog Z = .ok (.value (.pointer (some ⟨bb, 0, none⟩))) Z := fun Z hZ => by
    unfold oYF6
    have e9 := (show a0_8.eval (.tmp 9) = .pointer (some ⟨bb, 0, none⟩) from ((fa0_8.at_ 9).trans h9))
    clear fa0_8 hQ h8 h9
    generalize a0_8.eval = ρ at *
    go_simp
  refine fa0_8.take 8 31 (.pointer (some ⟨bb, 0, none⟩)) rfl (by kernel_rfl) (by kernel_rfl) (by kernel_rfl) (fun _ _ _ h => hQp _ _ _ _ _ h) rfl (lb_ I0.size) ((wanted_at (t := 30) (c := false) (b := false) rfl rfl rfl (lb_ (fa0_8.size.trans I0.size)) (fa0_8.at_ 30)).trans (by rfl)) r_a0_9 hS6 (fun a0_9 fa0_9 => ?_)
  clear r_a0_9
  clear fa0_8
  have r_a0_10 : ∀ Z, (fun Z => Same wr Z) Z → (execOp a0_9.eval oYF7).run Try.prog Z = .ok (.value (.int .u32 (pg : Int))) Z := fun Z hZ => by
    unfold oYF7
    obtain ⟨c1, c2⟩ := (hw.fr hZ).cells
    obtain ⟨c3, c4⟩ := (hw.fr hZ).wd.frame
    have e31 := (show a0_9.eval (.tmp 31) = .pointer (some ⟨bb, 0, none⟩) from (fa0_9.at_ 31))
    clear fa0_9 hQ h8 h9
    generalize a0_9.eval = ρ at *
    go_simp
  refine fa0_9.take 9 32 (.int .u32 (pg : Int)) rfl (by kernel_rfl) (by kernel_rfl) (by kernel_rfl) (fun _ _ _ h => hQp _ _ _ _ _ h) rfl (lb_ I0.size) ((wanted_at (t := 30) (c := false) (b := false) rfl rfl rfl (lb_ (fa0_9.size.trans I0.size)) (fa0_9.at_ 30)).trans (by rfl)) r_a0_10 hS6 (fun a0_10 fa0_10 => ?_)
  clear r_a0_10
  clear fa0_9
  have r_a0_11 : ∀ Z, (fun Z => Same wr Z) Z → (execOp a0_10.eval oYF8).run Try.prog Z = .ok (.value (.bool true)) Z := fun Z hZ => by
    unfold oYF8
    have kc : ∀ v, a0_10.eval (.const v) = v := fun _ => rfl
    have e32 := (show a0_10.eval (.tmp 32) = .int .u32 (pg : Int) from (fa0_10.at_ 32))
    clear fa0_10 hQ h8 h9
    generalize a0_10.eval = ρ at *
    go_simp
  refine fa0_10.take 10 33 (.bool true) rfl (by kernel_rfl) (by kernel_rfl) (by kernel_rfl) (fun _ _ _ h => hQp _ _ _ _ _ h) rfl (lb_ I0.size) ((wanted_at (t := 30) (c := false) (b := false) rfl rfl rfl (lb_ (fa0_10.size.trans I0.size)) (fa0_10.at_ 30)).trans (by rfl)) r_a0_11 hS6 (fun a0_11 fa0_11 => ?_)
  clear r_a0_11
  clear fa0_10
  have r_a0_12 : ∀ Z, (fun Z => Same wr Z) Z → (execOp a0_11.eval oYF9).run Try.prog Z = .ok (.value (.bool true)) Z := fun Z hZ => by
    unfold oYF9
    have kc : ∀ v, a0_11.eval (.const v) = v := fun _ => rfl
    have e30 := (show a0_11.eval (.tmp 30) = .bool false from (fa0_11.at_ 30))
    have e33 := (show a0_11.eval (.tmp 33) = .bool true from (fa0_11.at_ 33))
    clear fa0_11 hQ h8 h9
    generalize a0_11.eval = ρ at *
    go_simp
  refine fa0_11.take 11 34 (.bool true) rfl (by kernel_rfl) (by kernel_rfl) (by kernel_rfl) (fun _ _ _ h => hQp _ _ _ _ _ h) rfl (lb_ I0.size) (wanted_none rfl) r_a0_12 hS6 (fun a0_12 fa0_12 => ?_)
  clear r_a0_12
  clear fa0_11
  refine fa0_12.takeMove 12 35 (.bool true) _ (Or.inl rfl) rfl (by kernel_rfl) (by kernel_rfl) (by kernel_rfl) (fun _ _ _ h => hQp _ _ _ _ _ h) rfl (lb_ I0.size) (wanted_none rfl) (fa0_12.at_ 34) hS6 (fun a0_13 fa0_13 => ?_)
  clear fa0_12
  refine fa0_13.takeOff 13 36 rfl (by kernel_rfl) (by kernel_rfl) (by kernel_rfl) (fun _ _ _ h => hQp _ _ _ _ _ h) rfl (lb_ I0.size) ((wanted_at (t := 35) (c := true) (b := false) rfl rfl rfl (lb_ (fa0_13.size.trans I0.size)) (fa0_13.at_ 35)).trans (by rfl)) hS6 (fun a0_14 fa0_14 => ?_)
  clear fa0_13
  refine fa0_14.takeOff 14 37 rfl (by kernel_rfl) (by kernel_rfl) (by kernel_rfl) (fun _ _ _ h => hQp _ _ _ _ _ h) rfl (lb_ I0.size) ((wanted_at (t := 35) (c := true) (b := false) rfl rfl rfl (lb_ (fa0_14.size.trans I0.size)) (fa0_14.at_ 35)).trans (by rfl)) hS6 (fun a0_15 fa0_15 => ?_)
  clear fa0_14
  refine fa0_15.takeOff 15 38 rfl (by kernel_rfl) (by kernel_rfl) (by kernel_rfl) (fun _ _ _ h => hQp _ _ _ _ _ h) rfl (lb_ I0.size) ((wanted_at (t := 35) (c := true) (b := false) rfl rfl rfl (lb_ (fa0_15.size.trans I0.size)) (fa0_15.at_ 35)).trans (by rfl)) hS6 (fun a0_16 fa0_16 => ?_)
  clear fa0_15
  refine fa0_16.takeOff 16 39 rfl (by kernel_rfl) (by kernel_rfl) (by kernel_rfl) (fun _ _ _ h => hQp _ _ _ _ _ h) rfl (lb_ I0.size) ((wanted_at (t := 35) (c := true) (b := false) rfl rfl rfl (lb_ (fa0_16.size.trans I0.size)) (fa0_16.at_ 35)).trans (by rfl)) hS6 (fun a0_17 fa0_17 => ?_)
  clear fa0_16
  have r_a0_18 : ∀ Z, (fun Z => Same wr Z) Z → (execOp a0_17.eval oYF13).run Try.prog Z = .ok (.value (.bool true)) Z := fun Z hZ => by
    unfold oYF13
    have kc : ∀ v, a0_17.eval (.const v) = v := fun _ => rfl
    have e35 := (show a0_17.eval (.tmp 35) = .bool true from (fa0_17.at_ 35))
    have e39 := (show a0_17.eval (.tmp 39) = undef from (fa0_17.at_ 39))
    clear fa0_17 hQ h8 h9
    generalize a0_17.eval = ρ at *
    go_simp
  refine fa0_17.take 17 40 (.bool true) rfl (by kernel_rfl) (by kernel_rfl) (by kernel_rfl) (fun _ _ _ h => hQp _ _ _ _ _ h) rfl (lb_ I0.size) (wanted_none rfl) r_a0_18 hS6 (fun a0_18 fa0_18 => ?_)
  clear r_a0_18
  clear fa0_17
  refine fa0_18.takeMove 18 41 (.bool true) _ (Or.inl rfl) rfl (by kernel_rfl) (by kernel_rfl) (by kernel_rfl) (fun _ _ _ h => hQp _ _ _ _ _ h) rfl (lb_ I0.size) (wanted_none rfl) (fa0_18.at_ 40) hS6 (fun a0_19 fa0_19 => ?_)
  clear fa0_18
  refine fa0_19.takeOff 19 42 rfl (by kernel_rfl) (by kernel_rfl) (by kernel_rfl) (fun _ _ _ h => hQp _ _ _ _ _ h) rfl (lb_ I0.size) ((wanted_at (t := 41) (c := true) (b := false) rfl rfl rfl (lb_ (fa0_19.size.trans I0.size)) (fa0_19.at_ 41)).trans (by rfl)) hS6 (fun a0_20 fa0_20 => ?_)
  clear fa0_19
  refine fa0_20.takeOff 20 43 rfl (by kernel_rfl) (by kernel_rfl) (by kernel_rfl) (fun _ _ _ h => hQp _ _ _ _ _ h) rfl (lb_ I0.size) ((wanted_at (t := 41) (c := true) (b := false) rfl rfl rfl (lb_ (fa0_20.size.trans I0.size)) (fa0_20.at_ 41)).trans (by rfl)) hS6 (fun a0_21 fa0_21 => ?_)
  clear fa0_20
  refine fa0_21.takeOff 21 44 rfl (by kernel_rfl) (by kernel_rfl) (by kernel_rfl) (fun _ _ _ h => hQp _ _ _ _ _ h) rfl (lb_ I0.size) ((wanted_at (t := 41) (c := true) (b := false) rfl rfl rfl (lb_ (fa0_21.size.trans I0.size)) (fa0_21.at_ 41)).trans (by rfl)) hS6 (fun a0_22 fa0_22 => ?_)
  clear fa0_21
  refine fa0_22.takeOff 22 45 rfl (by kernel_rfl) (by kernel_rfl) (by kernel_rfl) (fun _ _ _ h => hQp _ _ _ _ _ h) rfl (lb_ I0.size) ((wanted_at (t := 41) (c := true) (b := false) rfl rfl rfl (lb_ (fa0_22.size.trans I0.size)) (fa0_22.at_ 41)).trans (by rfl)) hS6 (fun a0_23 fa0_23 => ?_)
  clear fa0_22
  refine fa0_23.takeOff 23 46 rfl (by kernel_rfl) (by kernel_rfl) (by kernel_rfl) (fun _ _ _ h => hQp _ _ _ _ _ h) rfl (lb_ I0.size) ((wanted_at (t := 41) (c := true) (b := false) rfl rfl rfl (lb_ (fa0_23.size.trans I0.size)) (fa0_23.at_ 41)).trans (by rfl)) hS6 (fun a0_24 fa0_24 => ?_)
  clear fa0_23
  have r_a0_25 : ∀ Z, (fun Z => Same wr Z) Z → (execOp a0_24.eval oYF18).run Try.prog Z = .ok (.value (.bool true)) Z := fun Z hZ => by
    unfold oYF18
    have kc : ∀ v, a0_24.eval (.const v) = v := fun _ => rfl
    have e41 := (show a0_24.eval (.tmp 41) = .bool true from (fa0_24.at_ 41))
    have e46 := (show a0_24.eval (.tmp 46) = undef from (fa0_24.at_ 46))
    clear fa0_24 hQ h8 h9
    generalize a0_24.eval = ρ at *
    go_simp
  refine fa0_24.take 24 47 (.bool true) rfl (by kernel_rfl) (by kernel_rfl) (by kernel_rfl) (fun _ _ _ h => hQp _ _ _ _ _ h) rfl (lb_ I0.size) (wanted_none rfl) r_a0_25 hS6 (fun a0_25 fa0_25 => ?_)
  clear r_a0_25
  clear fa0_24
  refine wpAnyH_done (by kernel_rfl) ?_ _
  exact hQ a0_25 W2 (I0.keep fa0_25 (fun t ht => by rcases ht with rfl | rfl | rfl | rfl <;> rfl)) (show a0_25.eval (.tmp 8) = .int .i64 (i : Int) from ((fa0_25.at_ 8).trans h8)) (show a0_25.eval (.tmp 9) = .pointer (some ⟨bb, 0, none⟩) from ((fa0_25.at_ 9).trans h9)) (show a0_25.eval (.tmp 47) = .bool true from (fa0_25.at_ 47)) ((dd.trans s1).trans s2)
set_option maxRecDepth 100000 in
set_option maxHeartbeats 1000000 in
theorem rg6c {p q : Int} {pages bb pg nl xc n cp i en : Nat} {pa xa : Option Addr} {f : Nat → Bool} {Q : Exit → Act → World → Prop} (hQp : ∀ c (a : Act) d v w, Q (.panic c) (a.put d v) w → Q (.panic c) a w) (a0 : Act) (w wr : World) (I0 : IR w.heap.size pa n cp pages a0) (h8 : a0.eval (.tmp 8) = .int .i64 (i : Int)) (h9 : a0.eval (.tmp 9) = .pointer (some ⟨bb, 0, none⟩)) (hw : RWb w wr p q pages f bb pg xa nl xc) (h2 : 2 ≤ pg) (h3 : pages ≤ pg)
    (hen : ∀ W, Calls Try.prog 49 #[.agg #[.int .i64 p, .int .i64 q]] W fun e w' => e = .returned (.int .i64 (en : Int)) ∧ Same W w')
    (hri : ∀ W, Same wr W → Calls Try.prog 48 #[.slice xa nl xc, .int .i64 (en : Int), .int .u32 (pages : Int)] W fun e w' => e = .returned (.bool true) ∧ Same W w')
    (hQ : ∀ a W, IR w.heap.size pa n cp pages a → a.eval (.tmp 8) = .int .i64 (i : Int) → a.eval (.tmp 9) = .pointer (some ⟨bb, 0, none⟩) → a.eval (.tmp 47) = .bool true → Same wr W → Q .normal a W) : (Code.region 6 rRT6 true).wp Try.prog Q a0 wr := by
  have dd : Same wr wr.drew := (Fr.refl (fun _ => False) wr).drew
  have hi2 : decide ((pg : Int) < 2) = false := decide_eq_false (by omega)
  have hi3 : (pages : Int) ≤ (pg : Int) := by omega
  have fa0_0 := Fe.refl a0
  refine wp_region_held_drew (ops := rRT6) (S := fun Z => Same wr Z) (by kernel_rfl) (dd) (fun hS0 => ?_)
  have r_a0_1 : ∀ Z, (fun Z => Same wr Z) Z → (execOp a0.eval oYF0).run Try.prog Z = .ok (.value (.pointer (some ⟨bb, 1, none⟩))) Z := fun Z hZ => by
    unfold oYF0
    have e9 := (show a0.eval (.tmp 9) = .pointer (some ⟨bb, 0, none⟩) from ((fa0_0.at_ 9).trans h9))
    clear fa0_0 hQ h8 h9
    generalize a0.eval = ρ at *
    go_simp
  refine fa0_0.take 0 23 (.pointer (some ⟨bb, 1, none⟩)) rfl (by kernel_rfl) (by kernel_rfl) (by kernel_rfl) (fun _ _ _ h => hQp _ _ _ _ _ h) rfl (lb_ I0.size) (wanted_none rfl) r_a0_1 hS0 (fun a0_1 fa0_1 => ?_)
  clear r_a0_1
  clear fa0_0
  have r_a0_2 : ∀ Z, (fun Z => Same wr Z) Z → (execOp a0_1.eval oYF1).run Try.prog Z = .ok (.value (.slice xa nl xc)) Z := fun Z hZ => by
    unfold oYF1
    obtain ⟨c1, c2⟩ := (hw.fr hZ).cells
    obtain ⟨c3, c4⟩ := (hw.fr hZ).wd.frame
    have e23 := (show a0_1.eval (.tmp 23) = .pointer (some ⟨bb, 1, none⟩) from (fa0_1.at_ 23))
    clear fa0_1 hQ h8 h9
    generalize a0_1.eval = ρ at *
    go_simp
  refine fa0_1.take 1 24 (.slice xa nl xc) rfl (by kernel_rfl) (by kernel_rfl) (by kernel_rfl) (fun _ _ _ h => hQp _ _ _ _ _ h) rfl (lb_ I0.size) (wanted_none rfl) r_a0_2 hS0 (fun a0_2 fa0_2 => ?_)
  clear r_a0_2
  clear fa0_1
  have r_a0_3 : ∀ Z, (fun Z => Same wr Z) Z → (execOp a0_2.eval oYF2).run Try.prog Z = .ok (.value (.agg #[.int .i64 p, .int .i64 q])) Z := fun Z hZ => by
    unfold oYF2
    obtain ⟨c1, c2⟩ := (hw.fr hZ).cells
    obtain ⟨c3, c4⟩ := (hw.fr hZ).wd.frame
    have e3 := (show a0_2.eval (.tmp 3) = .pointer (some ⟨w.heap.size, 0, none⟩) from ((fa0_2.at_ 3).trans I0.s3))
    clear fa0_2 hQ h8 h9
    generalize a0_2.eval = ρ at *
    go_simp
  refine fa0_2.take 2 25 (.agg #[.int .i64 p, .int .i64 q]) rfl (by kernel_rfl) (by kernel_rfl) (by kernel_rfl) (fun _ _ _ h => hQp _ _ _ _ _ h) rfl (lb_ I0.size) (wanted_none rfl) r_a0_3 hS0 (fun a0_3 fa0_3 => ?_)
  clear r_a0_3
  clear fa0_2
  refine fa0_3.takeMove 4 27 (.int .u32 (pages : Int)) _ (Or.inl rfl) rfl (by kernel_rfl) (by kernel_rfl) (by kernel_rfl) (fun _ _ _ h => hQp _ _ _ _ _ h) rfl (lb_ I0.size) (wanted_none rfl) ((fa0_3.at_ 2).trans I0.s2) hS0 (fun a0_4 fa0_4 => ?_)
  clear fa0_3
  have r_a0_5 : (execOp a0_4.eval oYF3).run Try.prog (wr.drew) = .ok (.enter 49 #[.agg #[.int .i64 p, .int .i64 q]]) (wr.drew) := by
    unfold oYF3
    have kf : ∀ f, a0_4.eval (.func f) = .func (.func f) #[] #[] := fun _ => rfl
    have e25 := (show a0_4.eval (.tmp 25) = .agg #[.int .i64 p, .int .i64 q] from (fa0_4.at_ 25))
    clear fa0_4 hQ h8 h9
    generalize a0_4.eval = ρ at *
    go_simp
  refine fa0_4.oneCall 3 26 (by kernel_rfl) rfl rfl (lb_ I0.size) (wanted_none rfl) r_a0_5 (hen _) (fun e W1 hR => ?_)
  obtain ⟨rfl, s1⟩ := hR
  clear r_a0_5
  have hS5 : (fun Z => Same wr Z) W1 := dd.trans s1
  refine ⟨_, rfl, hS5, fun a0_5 fa0_5 => ?_⟩
  clear fa0_4
  have r_a0_6 : (execOp a0_5.eval oYF4).run Try.prog (W1) = .ok (.enter 48 #[.slice xa nl xc, .int .i64 (en : Int), .int .u32 (pages : Int)]) (W1) := by
    unfold oYF4
    have kf : ∀ f, a0_5.eval (.func f) = .func (.func f) #[] #[] := fun _ => rfl
    have e24 := (show a0_5.eval (.tmp 24) = .slice xa nl xc from (fa0_5.at_ 24))
    have e26 := (show a0_5.eval (.tmp 26) = .int .i64 (en : Int) from (fa0_5.at_ 26))
    have e27 := (show a0_5.eval (.tmp 27) = .int .u32 (pages : Int) from (fa0_5.at_ 27))
    clear fa0_5 hQ h8 h9
    generalize a0_5.eval = ρ at *
    go_simp
  refine fa0_5.oneCall 5 28 (by kernel_rfl) rfl rfl (lb_ I0.size) (wanted_none rfl) r_a0_6 (hri _ (dd.trans s1)) (fun e W2 hR => ?_)
  obtain ⟨rfl, s2⟩ := hR
  clear r_a0_6
  have hS6 : (fun Z => Same wr Z) W2 := (dd.trans s1).trans s2
  refine ⟨_, rfl, hS6, fun a0_6 fa0_6 => ?_⟩
  clear fa0_5
  have r_a0_7 : ∀ Z, (fun Z => Same wr Z) Z → (execOp a0_6.eval oYF5).run Try.prog Z = .ok (.value (.bool false)) Z := fun Z hZ => by
    unfold oYF5
    have e28 := (show a0_6.eval (.tmp 28) = .bool true from (fa0_6.at_ 28))
    clear fa0_6 hQ h8 h9
    generalize a0_6.eval = ρ at *
    go_simp
  refine fa0_6.take 6 29 (.bool false) rfl (by kernel_rfl) (by kernel_rfl) (by kernel_rfl) (fun _ _ _ h => hQp _ _ _ _ _ h) rfl (lb_ I0.size) (wanted_none rfl) r_a0_7 hS6 (fun a0_7 fa0_7 => ?_)
  clear r_a0_7
  clear fa0_6
  refine fa0_7.takeMove 7 30 (.bool false) _ (Or.inl rfl) rfl (by kernel_rfl) (by kernel_rfl) (by kernel_rfl) (fun _ _ _ h => hQp _ _ _ _ _ h) rfl (lb_ I0.size) (wanted_none rfl) (fa0_7.at_ 29) hS6 (fun a0_8 fa0_8 => ?_)
  clear fa0_7
  have r_a0_9 : ∀ Z, (fun Z => Same wr Z) Z → (execOp a0_8.eval oYF6).run Try.prog Z = .ok (.value (.pointer (some ⟨bb, 0, none⟩))) Z := fun Z hZ => by
    unfold oYF6
    have e9 := (show a0_8.eval (.tmp 9) = .pointer (some ⟨bb, 0, none⟩) from ((fa0_8.at_ 9).trans h9))
    clear fa0_8 hQ h8 h9
    generalize a0_8.eval = ρ at *
    go_simp
  refine fa0_8.take 8 31 (.pointer (some ⟨bb, 0, none⟩)) rfl (by kernel_rfl) (by kernel_rfl) (by kernel_rfl) (fun _ _ _ h => hQp _ _ _ _ _ h) rfl (lb_ I0.size) ((wanted_at (t := 30) (c := false) (b := false) rfl rfl rfl (lb_ (fa0_8.size.trans I0.size)) (fa0_8.at_ 30)).trans (by rfl)) r_a0_9 hS6 (fun a0_9 fa0_9 => ?_)
  clear r_a0_9
  clear fa0_8
  have r_a0_10 : ∀ Z, (fun Z => Same wr Z) Z → (execOp a0_9.eval oYF7).run Try.prog Z = .ok (.value (.int .u32 (pg : Int))) Z := fun Z hZ => by
    unfold oYF7
    obtain ⟨c1, c2⟩ := (hw.fr hZ).cells
    obtain ⟨c3, c4⟩ := (hw.fr hZ).wd.frame
    have e31 := (show a0_9.eval (.tmp 31) = .pointer (some ⟨bb, 0, none⟩) from (fa0_9.at_ 31))
    clear fa0_9 hQ h8 h9
    generalize a0_9.eval = ρ at *
    go_simp
  refine fa0_9.take 9 32 (.int .u32 (pg : Int)) rfl (by kernel_rfl) (by kernel_rfl) (by kernel_rfl) (fun _ _ _ h => hQp _ _ _ _ _ h) rfl (lb_ I0.size) ((wanted_at (t := 30) (c := false) (b := false) rfl rfl rfl (lb_ (fa0_9.size.trans I0.size)) (fa0_9.at_ 30)).trans (by rfl)) r_a0_10 hS6 (fun a0_10 fa0_10 => ?_)
  clear r_a0_10
  clear fa0_9
  have r_a0_11 : ∀ Z, (fun Z => Same wr Z) Z → (execOp a0_10.eval oYF8).run Try.prog Z = .ok (.value (.bool false)) Z := fun Z hZ => by
    unfold oYF8
    have kc : ∀ v, a0_10.eval (.const v) = v := fun _ => rfl
    have e32 := (show a0_10.eval (.tmp 32) = .int .u32 (pg : Int) from (fa0_10.at_ 32))
    clear fa0_10 hQ h8 h9
    generalize a0_10.eval = ρ at *
    go_simp
  refine fa0_10.take 10 33 (.bool false) rfl (by kernel_rfl) (by kernel_rfl) (by kernel_rfl) (fun _ _ _ h => hQp _ _ _ _ _ h) rfl (lb_ I0.size) ((wanted_at (t := 30) (c := false) (b := false) rfl rfl rfl (lb_ (fa0_10.size.trans I0.size)) (fa0_10.at_ 30)).trans (by rfl)) r_a0_11 hS6 (fun a0_11 fa0_11 => ?_)
  clear r_a0_11
  clear fa0_10
  have r_a0_12 : ∀ Z, (fun Z => Same wr Z) Z → (execOp a0_11.eval oYF9).run Try.prog Z = .ok (.value (.bool false)) Z := fun Z hZ => by
    unfold oYF9
    have kc : ∀ v, a0_11.eval (.const v) = v := fun _ => rfl
    have e30 := (show a0_11.eval (.tmp 30) = .bool false from (fa0_11.at_ 30))
    have e33 := (show a0_11.eval (.tmp 33) = .bool false from (fa0_11.at_ 33))
    clear fa0_11 hQ h8 h9
    generalize a0_11.eval = ρ at *
    go_simp
  refine fa0_11.take 11 34 (.bool false) rfl (by kernel_rfl) (by kernel_rfl) (by kernel_rfl) (fun _ _ _ h => hQp _ _ _ _ _ h) rfl (lb_ I0.size) (wanted_none rfl) r_a0_12 hS6 (fun a0_12 fa0_12 => ?_)
  clear r_a0_12
  clear fa0_11
  refine fa0_12.takeMove 12 35 (.bool false) _ (Or.inl rfl) rfl (by kernel_rfl) (by kernel_rfl) (by kernel_rfl) (fun _ _ _ h => hQp _ _ _ _ _ h) rfl (lb_ I0.size) (wanted_none rfl) (fa0_12.at_ 34) hS6 (fun a0_13 fa0_13 => ?_)
  clear fa0_12
  have r_a0_14 : ∀ Z, (fun Z => Same wr Z) Z → (execOp a0_13.eval oYF10).run Try.prog Z = .ok (.value (.pointer (some ⟨bb, 0, none⟩))) Z := fun Z hZ => by
    unfold oYF10
    have e9 := (show a0_13.eval (.tmp 9) = .pointer (some ⟨bb, 0, none⟩) from ((fa0_13.at_ 9).trans h9))
    clear fa0_13 hQ h8 h9
    generalize a0_13.eval = ρ at *
    go_simp
  refine fa0_13.take 13 36 (.pointer (some ⟨bb, 0, none⟩)) rfl (by kernel_rfl) (by kernel_rfl) (by kernel_rfl) (fun _ _ _ h => hQp _ _ _ _ _ h) rfl (lb_ I0.size) ((wanted_at (t := 35) (c := false) (b := false) rfl rfl rfl (lb_ (fa0_13.size.trans I0.size)) (fa0_13.at_ 35)).trans (by rfl)) r_a0_14 hS6 (fun a0_14 fa0_14 => ?_)
  clear r_a0_14
  clear fa0_13
  have r_a0_15 : ∀ Z, (fun Z => Same wr Z) Z → (execOp a0_14.eval oYF11).run Try.prog Z = .ok (.value (.int .u32 (pg : Int))) Z := fun Z hZ => by
    unfold oYF11
    obtain ⟨c1, c2⟩ := (hw.fr hZ).cells
    obtain ⟨c3, c4⟩ := (hw.fr hZ).wd.frame
    have e36 := (show a0_14.eval (.tmp 36) = .pointer (some ⟨bb, 0, none⟩) from (fa0_14.at_ 36))
    clear fa0_14 hQ h8 h9
    generalize a0_14.eval = ρ at *
    go_simp
  refine fa0_14.take 14 37 (.int .u32 (pg : Int)) rfl (by kernel_rfl) (by kernel_rfl) (by kernel_rfl) (fun _ _ _ h => hQp _ _ _ _ _ h) rfl (lb_ I0.size) ((wanted_at (t := 35) (c := false) (b := false) rfl rfl rfl (lb_ (fa0_14.size.trans I0.size)) (fa0_14.at_ 35)).trans (by rfl)) r_a0_15 hS6 (fun a0_15 fa0_15 => ?_)
  clear r_a0_15
  clear fa0_14
  refine fa0_15.takeMove 15 38 (.int .u32 (pages : Int)) _ (Or.inl rfl) rfl (by kernel_rfl) (by kernel_rfl) (by kernel_rfl) (fun _ _ _ h => hQp _ _ _ _ _ h) rfl (lb_ I0.size) ((wanted_at (t := 35) (c := false) (b := false) rfl rfl rfl (lb_ (fa0_15.size.trans I0.size)) (fa0_15.at_ 35)).trans (by rfl)) ((fa0_15.at_ 2).trans I0.s2) hS6 (fun a0_16 fa0_16 => ?_)
  clear fa0_15
  have r_a0_17 : ∀ Z, (fun Z => Same wr Z) Z → (execOp a0_16.eval oYF12).run Try.prog Z = .ok (.value (.bool true)) Z := fun Z hZ => by
    unfold oYF12
    have e37 := (show a0_16.eval (.tmp 37) = .int .u32 (pg : Int) from (fa0_16.at_ 37))
    have e38 := (show a0_16.eval (.tmp 38) = .int .u32 (pages : Int) from (fa0_16.at_ 38))
    clear fa0_16 hQ h8 h9
    generalize a0_16.eval = ρ at *
    go_simp
  refine fa0_16.take 16 39 (.bool true) rfl (by kernel_rfl) (by kernel_rfl) (by kernel_rfl) (fun _ _ _ h => hQp _ _ _ _ _ h) rfl (lb_ I0.size) ((wanted_at (t := 35) (c := false) (b := false) rfl rfl rfl (lb_ (fa0_16.size.trans I0.size)) (fa0_16.at_ 35)).trans (by rfl)) r_a0_17 hS6 (fun a0_17 fa0_17 => ?_)
  clear r_a0_17
  clear fa0_16
  have r_a0_18 : ∀ Z, (fun Z => Same wr Z) Z → (execOp a0_17.eval oYF13).run Try.prog Z = .ok (.value (.bool true)) Z := fun Z hZ => by
    unfold oYF13
    have kc : ∀ v, a0_17.eval (.const v) = v := fun _ => rfl
    have e35 := (show a0_17.eval (.tmp 35) = .bool false from (fa0_17.at_ 35))
    have e39 := (show a0_17.eval (.tmp 39) = .bool true from (fa0_17.at_ 39))
    clear fa0_17 hQ h8 h9
    generalize a0_17.eval = ρ at *
    go_simp
  refine fa0_17.take 17 40 (.bool true) rfl (by kernel_rfl) (by kernel_rfl) (by kernel_rfl) (fun _ _ _ h => hQp _ _ _ _ _ h) rfl (lb_ I0.size) (wanted_none rfl) r_a0_18 hS6 (fun a0_18 fa0_18 => ?_)
  clear r_a0_18
  clear fa0_17
  refine fa0_18.takeMove 18 41 (.bool true) _ (Or.inl rfl) rfl (by kernel_rfl) (by kernel_rfl) (by kernel_rfl) (fun _ _ _ h => hQp _ _ _ _ _ h) rfl (lb_ I0.size) (wanted_none rfl) (fa0_18.at_ 40) hS6 (fun a0_19 fa0_19 => ?_)
  clear fa0_18
  refine fa0_19.takeOff 19 42 rfl (by kernel_rfl) (by kernel_rfl) (by kernel_rfl) (fun _ _ _ h => hQp _ _ _ _ _ h) rfl (lb_ I0.size) ((wanted_at (t := 41) (c := true) (b := false) rfl rfl rfl (lb_ (fa0_19.size.trans I0.size)) (fa0_19.at_ 41)).trans (by rfl)) hS6 (fun a0_20 fa0_20 => ?_)
  clear fa0_19
  refine fa0_20.takeOff 20 43 rfl (by kernel_rfl) (by kernel_rfl) (by kernel_rfl) (fun _ _ _ h => hQp _ _ _ _ _ h) rfl (lb_ I0.size) ((wanted_at (t := 41) (c := true) (b := false) rfl rfl rfl (lb_ (fa0_20.size.trans I0.size)) (fa0_20.at_ 41)).trans (by rfl)) hS6 (fun a0_21 fa0_21 => ?_)
  clear fa0_20
  refine fa0_21.takeOff 21 44 rfl (by kernel_rfl) (by kernel_rfl) (by kernel_rfl) (fun _ _ _ h => hQp _ _ _ _ _ h) rfl (lb_ I0.size) ((wanted_at (t := 41) (c := true) (b := false) rfl rfl rfl (lb_ (fa0_21.size.trans I0.size)) (fa0_21.at_ 41)).trans (by rfl)) hS6 (fun a0_22 fa0_22 => ?_)
  clear fa0_21
  refine fa0_22.takeOff 22 45 rfl (by kernel_rfl) (by kernel_rfl) (by kernel_rfl) (fun _ _ _ h => hQp _ _ _ _ _ h) rfl (lb_ I0.size) ((wanted_at (t := 41) (c := true) (b := false) rfl rfl rfl (lb_ (fa0_22.size.trans I0.size)) (fa0_22.at_ 41)).trans (by rfl)) hS6 (fun a0_23 fa0_23 => ?_)
  clear fa0_22
  refine fa0_23.takeOff 23 46 rfl (by kernel_rfl) (by kernel_rfl) (by kernel_rfl) (fun _ _ _ h => hQp _ _ _ _ _ h) rfl (lb_ I0.size) ((wanted_at (t := 41) (c := true) (b := false) rfl rfl rfl (lb_ (fa0_23.size.trans I0.size)) (fa0_23.at_ 41)).trans (by rfl)) hS6 (fun a0_24 fa0_24 => ?_)
  clear fa0_23
  have r_a0_25 : ∀ Z, (fun Z => Same wr Z) Z → (execOp a0_24.eval oYF18).run Try.prog Z = .ok (.value (.bool true)) Z := fun Z hZ => by
    unfold oYF18
    have kc : ∀ v, a0_24.eval (.const v) = v := fun _ => rfl
    have e41 := (show a0_24.eval (.tmp 41) = .bool true from (fa0_24.at_ 41))
    have e46 := (show a0_24.eval (.tmp 46) = undef from (fa0_24.at_ 46))
    clear fa0_24 hQ h8 h9
    generalize a0_24.eval = ρ at *
    go_simp
  refine fa0_24.take 24 47 (.bool true) rfl (by kernel_rfl) (by kernel_rfl) (by kernel_rfl) (fun _ _ _ h => hQp _ _ _ _ _ h) rfl (lb_ I0.size) (wanted_none rfl) r_a0_25 hS6 (fun a0_25 fa0_25 => ?_)
  clear r_a0_25
  clear fa0_24
  refine wpAnyH_done (by kernel_rfl) ?_ _
  exact hQ a0_25 W2 (I0.keep fa0_25 (fun t ht => by rcases ht with rfl | rfl | rfl | rfl <;> rfl)) (show a0_25.eval (.tmp 8) = .int .i64 (i : Int) from ((fa0_25.at_ 8).trans h8)) (show a0_25.eval (.tmp 9) = .pointer (some ⟨bb, 0, none⟩) from ((fa0_25.at_ 9).trans h9)) (show a0_25.eval (.tmp 47) = .bool true from (fa0_25.at_ 47)) ((dd.trans s1).trans s2)
set_option maxRecDepth 100000 in
set_option maxHeartbeats 1000000 in
theorem rg6d {p q : Int} {pages bb pg nl xc n cp i en : Nat} {pa xa : Option Addr} {f : Nat → Bool} {Q : Exit → Act → World → Prop} (hQp : ∀ c (a : Act) d v w, Q (.panic c) (a.put d v) w → Q (.panic c) a w) (a0 : Act) (w wr : World) (I0 : IR w.heap.size pa n cp pages a0) (h8 : a0.eval (.tmp 8) = .int .i64 (i : Int)) (h9 : a0.eval (.tmp 9) = .pointer (some ⟨bb, 0, none⟩)) (hw : RWb w wr p q pages f bb pg xa nl xc) (h2 : 2 ≤ pg) (hlt : pg < pages) (hsn : f pg = true)
    (hen : ∀ W, Calls Try.prog 49 #[.agg #[.int .i64 p, .int .i64 q]] W fun e w' => e = .returned (.int .i64 (en : Int)) ∧ Same W w')
    (hri : ∀ W, Same wr W → Calls Try.prog 48 #[.slice xa nl xc, .int .i64 (en : Int), .int .u32 (pages : Int)] W fun e w' => e = .returned (.bool true) ∧ Same W w')
    (hQ : ∀ a W, IR w.heap.size pa n cp pages a → a.eval (.tmp 8) = .int .i64 (i : Int) → a.eval (.tmp 9) = .pointer (some ⟨bb, 0, none⟩) → a.eval (.tmp 47) = .bool true → Same wr W → Q .normal a W) : (Code.region 6 rRT6 true).wp Try.prog Q a0 wr := by
  have dd : Same wr wr.drew := (Fr.refl (fun _ => False) wr).drew
  have hi2 : decide ((pg : Int) < 2) = false := decide_eq_false (by omega)
  have hi3 : decide ((pages : Int) ≤ (pg : Int)) = false := decide_eq_false (by omega)
  have hi4 : (pg : Int) < (pages : Int) := by omega
  have fa0_0 := Fe.refl a0
  refine wp_region_held_drew (ops := rRT6) (S := fun Z => Same wr Z) (by kernel_rfl) (dd) (fun hS0 => ?_)
  have r_a0_1 : ∀ Z, (fun Z => Same wr Z) Z → (execOp a0.eval oYF0).run Try.prog Z = .ok (.value (.pointer (some ⟨bb, 1, none⟩))) Z := fun Z hZ => by
    unfold oYF0
    have e9 := (show a0.eval (.tmp 9) = .pointer (some ⟨bb, 0, none⟩) from ((fa0_0.at_ 9).trans h9))
    clear fa0_0 hQ h8 h9
    generalize a0.eval = ρ at *
    go_simp
  refine fa0_0.take 0 23 (.pointer (some ⟨bb, 1, none⟩)) rfl (by kernel_rfl) (by kernel_rfl) (by kernel_rfl) (fun _ _ _ h => hQp _ _ _ _ _ h) rfl (lb_ I0.size) (wanted_none rfl) r_a0_1 hS0 (fun a0_1 fa0_1 => ?_)
  clear r_a0_1
  clear fa0_0
  have r_a0_2 : ∀ Z, (fun Z => Same wr Z) Z → (execOp a0_1.eval oYF1).run Try.prog Z = .ok (.value (.slice xa nl xc)) Z := fun Z hZ => by
    unfold oYF1
    obtain ⟨c1, c2⟩ := (hw.fr hZ).cells
    obtain ⟨c3, c4⟩ := (hw.fr hZ).wd.frame
    have c5 := (hw.fr hZ).wd.cell hlt
    rw [hsn] at c5
    have e23 := (show a0_1.eval (.tmp 23) = .pointer (some ⟨bb, 1, none⟩) from (fa0_1.at_ 23))
    clear fa0_1 hQ h8 h9
    generalize a0_1.eval = ρ at *
    go_simp
  refine fa0_1.take 1 24 (.slice xa nl xc) rfl (by kernel_rfl) (by kernel_rfl) (by kernel_rfl) (fun _ _ _ h => hQp _ _ _ _ _ h) rfl (lb_ I0.size) (wanted_none rfl) r_a0_2 hS0 (fun a0_2 fa0_2 => ?_)
  clear r_a0_2
  clear fa0_1
  have r_a0_3 : ∀ Z, (fun Z => Same wr Z) Z → (execOp a0_2.eval oYF2).run Try.prog Z = .ok (.value (.agg #[.int .i64 p, .int .i64 q])) Z := fun Z hZ => by
    unfold oYF2
    obtain ⟨c1, c2⟩ := (hw.fr hZ).cells
    obtain ⟨c3, c4⟩ := (hw.fr hZ).wd.frame
    have c5 := (hw.fr hZ).wd.cell hlt
    rw [hsn] at c5
    have e3 := (show a0_2.eval (.tmp 3) = .pointer (some ⟨w.heap.size, 0, none⟩) from ((fa0_2.at_ 3).trans I0.s3))
    clear fa0_2 hQ h8 h9
    generalize a0_2.eval = ρ at *
    go_simp
  refine fa0_2.take 2 25 (.agg #[.int .i64 p, .int .i64 q]) rfl (by kernel_rfl) (by kernel_rfl) (by kernel_rfl) (fun _ _ _ h => hQp _ _ _ _ _ h) rfl (lb_ I0.size) (wanted_none rfl) r_a0_3 hS0 (fun a0_3 fa0_3 => ?_)
  clear r_a0_3
  clear fa0_2
  refine fa0_3.takeMove 4 27 (.int .u32 (pages : Int)) _ (Or.inl rfl) rfl (by kernel_rfl) (by kernel_rfl) (by kernel_rfl) (fun _ _ _ h => hQp _ _ _ _ _ h) rfl (lb_ I0.size) (wanted_none rfl) ((fa0_3.at_ 2).trans I0.s2) hS0 (fun a0_4 fa0_4 => ?_)
  clear fa0_3
  have r_a0_5 : (execOp a0_4.eval oYF3).run Try.prog (wr.drew) = .ok (.enter 49 #[.agg #[.int .i64 p, .int .i64 q]]) (wr.drew) := by
    unfold oYF3
    have kf : ∀ f, a0_4.eval (.func f) = .func (.func f) #[] #[] := fun _ => rfl
    have e25 := (show a0_4.eval (.tmp 25) = .agg #[.int .i64 p, .int .i64 q] from (fa0_4.at_ 25))
    clear fa0_4 hQ h8 h9
    generalize a0_4.eval = ρ at *
    go_simp
  refine fa0_4.oneCall 3 26 (by kernel_rfl) rfl rfl (lb_ I0.size) (wanted_none rfl) r_a0_5 (hen _) (fun e W1 hR => ?_)
  obtain ⟨rfl, s1⟩ := hR
  clear r_a0_5
  have hS5 : (fun Z => Same wr Z) W1 := dd.trans s1
  refine ⟨_, rfl, hS5, fun a0_5 fa0_5 => ?_⟩
  clear fa0_4
  have r_a0_6 : (execOp a0_5.eval oYF4).run Try.prog (W1) = .ok (.enter 48 #[.slice xa nl xc, .int .i64 (en : Int), .int .u32 (pages : Int)]) (W1) := by
    unfold oYF4
    have kf : ∀ f, a0_5.eval (.func f) = .func (.func f) #[] #[] := fun _ => rfl
    have e24 := (show a0_5.eval (.tmp 24) = .slice xa nl xc from (fa0_5.at_ 24))
    have e26 := (show a0_5.eval (.tmp 26) = .int .i64 (en : Int) from (fa0_5.at_ 26))
    have e27 := (show a0_5.eval (.tmp 27) = .int .u32 (pages : Int) from (fa0_5.at_ 27))
    clear fa0_5 hQ h8 h9
    generalize a0_5.eval = ρ at *
    go_simp
  refine fa0_5.oneCall 5 28 (by kernel_rfl) rfl rfl (lb_ I0.size) (wanted_none rfl) r_a0_6 (hri _ (dd.trans s1)) (fun e W2 hR => ?_)
  obtain ⟨rfl, s2⟩ := hR
  clear r_a0_6
  have hS6 : (fun Z => Same wr Z) W2 := (dd.trans s1).trans s2
  refine ⟨_, rfl, hS6, fun a0_6 fa0_6 => ?_⟩
  clear fa0_5
  have r_a0_7 : ∀ Z, (fun Z => Same wr Z) Z → (execOp a0_6.eval oYF5).run Try.prog Z = .ok (.value (.bool false)) Z := fun Z hZ => by
    unfold oYF5
    have e28 := (show a0_6.eval (.tmp 28) = .bool true from (fa0_6.at_ 28))
    clear fa0_6 hQ h8 h9
    generalize a0_6.eval = ρ at *
    go_simp
  refine fa0_6.take 6 29 (.bool false) rfl (by kernel_rfl) (by kernel_rfl) (by kernel_rfl) (fun _ _ _ h => hQp _ _ _ _ _ h) rfl (lb_ I0.size) (wanted_none rfl) r_a0_7 hS6 (fun a0_7 fa0_7 => ?_)
  clear r_a0_7
  clear fa0_6
  refine fa0_7.takeMove 7 30 (.bool false) _ (Or.inl rfl) rfl (by kernel_rfl) (by kernel_rfl) (by kernel_rfl) (fun _ _ _ h => hQp _ _ _ _ _ h) rfl (lb_ I0.size) (wanted_none rfl) (fa0_7.at_ 29) hS6 (fun a0_8 fa0_8 => ?_)
  clear fa0_7
  have r_a0_9 : ∀ Z, (fun Z => Same wr Z) Z → (execOp a0_8.eval oYF6).run Try.prog Z = .ok (.value (.pointer (some ⟨bb, 0, none⟩))) Z := fun Z hZ => by
    unfold oYF6
    have e9 := (show a0_8.eval (.tmp 9) = .pointer (some ⟨bb, 0, none⟩) from ((fa0_8.at_ 9).trans h9))
    clear fa0_8 hQ h8 h9
    generalize a0_8.eval = ρ at *
    go_simp
  refine fa0_8.take 8 31 (.pointer (some ⟨bb, 0, none⟩)) rfl (by kernel_rfl) (by kernel_rfl) (by kernel_rfl) (fun _ _ _ h => hQp _ _ _ _ _ h) rfl (lb_ I0.size) ((wanted_at (t := 30) (c := false) (b := false) rfl rfl rfl (lb_ (fa0_8.size.trans I0.size)) (fa0_8.at_ 30)).trans (by rfl)) r_a0_9 hS6 (fun a0_9 fa0_9 => ?_)
  clear r_a0_9
  clear fa0_8
  have r_a0_10 : ∀ Z, (fun Z => Same wr Z) Z → (execOp a0_9.eval oYF7).run Try.prog Z = .ok (.value (.int .u32 (pg : Int))) Z := fun Z hZ => by
    unfold oYF7
    obtain ⟨c1, c2⟩ := (hw.fr hZ).cells
    obtain ⟨c3, c4⟩ := (hw.fr hZ).wd.frame
    have c5 := (hw.fr hZ).wd.cell hlt
    rw [hsn] at c5
    have e31 := (show a0_9.eval (.tmp 31) = .pointer (some ⟨bb, 0, none⟩) from (fa0_9.at_ 31))
    clear fa0_9 hQ h8 h9
    generalize a0_9.eval = ρ at *
    go_simp
  refine fa0_9.take 9 32 (.int .u32 (pg : Int)) rfl (by kernel_rfl) (by kernel_rfl) (by kernel_rfl) (fun _ _ _ h => hQp _ _ _ _ _ h) rfl (lb_ I0.size) ((wanted_at (t := 30) (c := false) (b := false) rfl rfl rfl (lb_ (fa0_9.size.trans I0.size)) (fa0_9.at_ 30)).trans (by rfl)) r_a0_10 hS6 (fun a0_10 fa0_10 => ?_)
  clear r_a0_10
  clear fa0_9
  have r_a0_11 : ∀ Z, (fun Z => Same wr Z) Z → (execOp a0_10.eval oYF8).run Try.prog Z = .ok (.value (.bool false)) Z := fun Z hZ => by
    unfold oYF8
    have kc : ∀ v, a0_10.eval (.const v) = v := fun _ => rfl
    have e32 := (show a0_10.eval (.tmp 32) = .int .u32 (pg : Int) from (fa0_10.at_ 32))
    clear fa0_10 hQ h8 h9
    generalize a0_10.eval = ρ at *
    go_simp
  refine fa0_10.take 10 33 (.bool false) rfl (by kernel_rfl) (by kernel_rfl) (by kernel_rfl) (fun _ _ _ h => hQp _ _ _ _ _ h) rfl (lb_ I0.size) ((wanted_at (t := 30) (c := false) (b := false) rfl rfl rfl (lb_ (fa0_10.size.trans I0.size)) (fa0_10.at_ 30)).trans (by rfl)) r_a0_11 hS6 (fun a0_11 fa0_11 => ?_)
  clear r_a0_11
  clear fa0_10
  have r_a0_12 : ∀ Z, (fun Z => Same wr Z) Z → (execOp a0_11.eval oYF9).run Try.prog Z = .ok (.value (.bool false)) Z := fun Z hZ => by
    unfold oYF9
    have kc : ∀ v, a0_11.eval (.const v) = v := fun _ => rfl
    have e30 := (show a0_11.eval (.tmp 30) = .bool false from (fa0_11.at_ 30))
    have e33 := (show a0_11.eval (.tmp 33) = .bool false from (fa0_11.at_ 33))
    clear fa0_11 hQ h8 h9
    generalize a0_11.eval = ρ at *
    go_simp
  refine fa0_11.take 11 34 (.bool false) rfl (by kernel_rfl) (by kernel_rfl) (by kernel_rfl) (fun _ _ _ h => hQp _ _ _ _ _ h) rfl (lb_ I0.size) (wanted_none rfl) r_a0_12 hS6 (fun a0_12 fa0_12 => ?_)
  clear r_a0_12
  clear fa0_11
  refine fa0_12.takeMove 12 35 (.bool false) _ (Or.inl rfl) rfl (by kernel_rfl) (by kernel_rfl) (by kernel_rfl) (fun _ _ _ h => hQp _ _ _ _ _ h) rfl (lb_ I0.size) (wanted_none rfl) (fa0_12.at_ 34) hS6 (fun a0_13 fa0_13 => ?_)
  clear fa0_12
  have r_a0_14 : ∀ Z, (fun Z => Same wr Z) Z → (execOp a0_13.eval oYF10).run Try.prog Z = .ok (.value (.pointer (some ⟨bb, 0, none⟩))) Z := fun Z hZ => by
    unfold oYF10
    have e9 := (show a0_13.eval (.tmp 9) = .pointer (some ⟨bb, 0, none⟩) from ((fa0_13.at_ 9).trans h9))
    clear fa0_13 hQ h8 h9
    generalize a0_13.eval = ρ at *
    go_simp
  refine fa0_13.take 13 36 (.pointer (some ⟨bb, 0, none⟩)) rfl (by kernel_rfl) (by kernel_rfl) (by kernel_rfl) (fun _ _ _ h => hQp _ _ _ _ _ h) rfl (lb_ I0.size) ((wanted_at (t := 35) (c := false) (b := false) rfl rfl rfl (lb_ (fa0_13.size.trans I0.size)) (fa0_13.at_ 35)).trans (by rfl)) r_a0_14 hS6 (fun a0_14 fa0_14 => ?_)
  clear r_a0_14
  clear fa0_13
  have r_a0_15 : ∀ Z, (fun Z => Same wr Z) Z → (execOp a0_14.eval oYF11).run Try.prog Z = .ok (.value (.int .u32 (pg : Int))) Z := fun Z hZ => by
    unfold oYF11
    obtain ⟨c1, c2⟩ := (hw.fr hZ).cells
    obtain ⟨c3, c4⟩ := (hw.fr hZ).wd.frame
    have c5 := (hw.fr hZ).wd.cell hlt
    rw [hsn] at c5
    have e36 := (show a0_14.eval (.tmp 36) = .pointer (some ⟨bb, 0, none⟩) from (fa0_14.at_ 36))
    clear fa0_14 hQ h8 h9
    generalize a0_14.eval = ρ at *
    go_simp
  refine fa0_14.take 14 37 (.int .u32 (pg : Int)) rfl (by kernel_rfl) (by kernel_rfl) (by kernel_rfl) (fun _ _ _ h => hQp _ _ _ _ _ h) rfl (lb_ I0.size) ((wanted_at (t := 35) (c := false) (b := false) rfl rfl rfl (lb_ (fa0_14.size.trans I0.size)) (fa0_14.at_ 35)).trans (by rfl)) r_a0_15 hS6 (fun a0_15 fa0_15 => ?_)
  clear r_a0_15
  clear fa0_14
  refine fa0_15.takeMove 15 38 (.int .u32 (pages : Int)) _ (Or.inl rfl) rfl (by kernel_rfl) (by kernel_rfl) (by kernel_rfl) (fun _ _ _ h => hQp _ _ _ _ _ h) rfl (lb_ I0.size) ((wanted_at (t := 35) (c := false) (b := false) rfl rfl rfl (lb_ (fa0_15.size.trans I0.size)) (fa0_15.at_ 35)).trans (by rfl)) ((fa0_15.at_ 2).trans I0.s2) hS6 (fun a0_16 fa0_16 => ?_)
  clear fa0_15
  have r_a0_17 : ∀ Z, (fun Z => Same wr Z) Z → (execOp a0_16.eval oYF12).run Try.prog Z = .ok (.value (.bool false)) Z := fun Z hZ => by
    unfold oYF12
    have e37 := (show a0_16.eval (.tmp 37) = .int .u32 (pg : Int) from (fa0_16.at_ 37))
    have e38 := (show a0_16.eval (.tmp 38) = .int .u32 (pages : Int) from (fa0_16.at_ 38))
    clear fa0_16 hQ h8 h9
    generalize a0_16.eval = ρ at *
    go_simp
  refine fa0_16.take 16 39 (.bool false) rfl (by kernel_rfl) (by kernel_rfl) (by kernel_rfl) (fun _ _ _ h => hQp _ _ _ _ _ h) rfl (lb_ I0.size) ((wanted_at (t := 35) (c := false) (b := false) rfl rfl rfl (lb_ (fa0_16.size.trans I0.size)) (fa0_16.at_ 35)).trans (by rfl)) r_a0_17 hS6 (fun a0_17 fa0_17 => ?_)
  clear r_a0_17
  clear fa0_16
  have r_a0_18 : ∀ Z, (fun Z => Same wr Z) Z → (execOp a0_17.eval oYF13).run Try.prog Z = .ok (.value (.bool false)) Z := fun Z hZ => by
    unfold oYF13
    have kc : ∀ v, a0_17.eval (.const v) = v := fun _ => rfl
    have e35 := (show a0_17.eval (.tmp 35) = .bool false from (fa0_17.at_ 35))
    have e39 := (show a0_17.eval (.tmp 39) = .bool false from (fa0_17.at_ 39))
    clear fa0_17 hQ h8 h9
    generalize a0_17.eval = ρ at *
    go_simp
  refine fa0_17.take 17 40 (.bool false) rfl (by kernel_rfl) (by kernel_rfl) (by kernel_rfl) (fun _ _ _ h => hQp _ _ _ _ _ h) rfl (lb_ I0.size) (wanted_none rfl) r_a0_18 hS6 (fun a0_18 fa0_18 => ?_)
  clear r_a0_18
  clear fa0_17
  refine fa0_18.takeMove 18 41 (.bool false) _ (Or.inl rfl) rfl (by kernel_rfl) (by kernel_rfl) (by kernel_rfl) (fun _ _ _ h => hQp _ _ _ _ _ h) rfl (lb_ I0.size) (wanted_none rfl) (fa0_18.at_ 40) hS6 (fun a0_19 fa0_19 => ?_)
  clear fa0_18
  refine fa0_19.takeMove 19 42 (.slice (some ⟨w.heap.size + 1, 0, none⟩) pages pages) _ (Or.inl rfl) rfl (by kernel_rfl) (by kernel_rfl) (by kernel_rfl) (fun _ _ _ h => hQp _ _ _ _ _ h) rfl (lb_ I0.size) ((wanted_at (t := 41) (c := false) (b := false) rfl rfl rfl (lb_ (fa0_19.size.trans I0.size)) (fa0_19.at_ 41)).trans (by rfl)) ((fa0_19.at_ 7).trans I0.s7) hS6 (fun a0_20 fa0_20 => ?_)
  clear fa0_19
  have r_a0_21 : ∀ Z, (fun Z => Same wr Z) Z → (execOp a0_20.eval oYF14).run Try.prog Z = .ok (.value (.pointer (some ⟨bb, 0, none⟩))) Z := fun Z hZ => by
    unfold oYF14
    have e9 := (show a0_20.eval (.tmp 9) = .pointer (some ⟨bb, 0, none⟩) from ((fa0_20.at_ 9).trans h9))
    clear fa0_20 hQ h8 h9
    generalize a0_20.eval = ρ at *
    go_simp
  refine fa0_20.take 20 43 (.pointer (some ⟨bb, 0, none⟩)) rfl (by kernel_rfl) (by kernel_rfl) (by kernel_rfl) (fun _ _ _ h => hQp _ _ _ _ _ h) rfl (lb_ I0.size) ((wanted_at (t := 41) (c := false) (b := false) rfl rfl rfl (lb_ (fa0_20.size.trans I0.size)) (fa0_20.at_ 41)).trans (by rfl)) r_a0_21 hS6 (fun a0_21 fa0_21 => ?_)
  clear r_a0_21
  clear fa0_20
  have r_a0_22 : ∀ Z, (fun Z => Same wr Z) Z → (execOp a0_21.eval oYF15).run Try.prog Z = .ok (.value (.int .u32 (pg : Int))) Z := fun Z hZ => by
    unfold oYF15
    obtain ⟨c1, c2⟩ := (hw.fr hZ).cells
    obtain ⟨c3, c4⟩ := (hw.fr hZ).wd.frame
    have c5 := (hw.fr hZ).wd.cell hlt
    rw [hsn] at c5
    have e43 := (show a0_21.eval (.tmp 43) = .pointer (some ⟨bb, 0, none⟩) from (fa0_21.at_ 43))
    clear fa0_21 hQ h8 h9
    generalize a0_21.eval = ρ at *
    go_simp
  refine fa0_21.take 21 44 (.int .u32 (pg : Int)) rfl (by kernel_rfl) (by kernel_rfl) (by kernel_rfl) (fun _ _ _ h => hQp _ _ _ _ _ h) rfl (lb_ I0.size) ((wanted_at (t := 41) (c := false) (b := false) rfl rfl rfl (lb_ (fa0_21.size.trans I0.size)) (fa0_21.at_ 41)).trans (by rfl)) r_a0_22 hS6 (fun a0_22 fa0_22 => ?_)
  clear r_a0_22
  clear fa0_21
  have r_a0_23 : ∀ Z, (fun Z => Same wr Z) Z → (execOp a0_22.eval oYF16).run Try.prog Z = .ok (.value (.pointer (some ⟨w.heap.size + 1, pg, none⟩))) Z := fun Z hZ => by
    unfold oYF16
    have e42 := (show a0_22.eval (.tmp 42) = .slice (some ⟨w.heap.size + 1, 0, none⟩) pages pages from (fa0_22.at_ 42))
    have e44 := (show a0_22.eval (.tmp 44) = .int .u32 (pg : Int) from (fa0_22.at_ 44))
    clear fa0_22 hQ h8 h9
    generalize a0_22.eval = ρ at *
    go_simp
  refine fa0_22.take 22 45 (.pointer (some ⟨w.heap.size + 1, pg, none⟩)) rfl (by kernel_rfl) (by kernel_rfl) (by kernel_rfl) (fun _ _ _ h => hQp _ _ _ _ _ h) rfl (lb_ I0.size) ((wanted_at (t := 41) (c := false) (b := false) rfl rfl rfl (lb_ (fa0_22.size.trans I0.size)) (fa0_22.at_ 41)).trans (by rfl)) r_a0_23 hS6 (fun a0_23 fa0_23 => ?_)
  clear r_a0_23
  clear fa0_22
  have r_a0_24 : ∀ Z, (fun Z => Same wr Z) Z → (execOp a0_23.eval oYF17).run Try.prog Z = .ok (.value (.bool true)) Z := fun Z hZ => by
    unfold oYF17
    obtain ⟨c1, c2⟩ := (hw.fr hZ).cells
    obtain ⟨c3, c4⟩ := (hw.fr hZ).wd.frame
    have c5 := (hw.fr hZ).wd.cell hlt
    rw [hsn] at c5
    have e45 := (show a0_23.eval (.tmp 45) = .pointer (some ⟨w.heap.size + 1, pg, none⟩) from (fa0_23.at_ 45))
    clear fa0_23 hQ h8 h9
    generalize a0_23.eval = ρ at *
    go_simp
  refine fa0_23.take 23 46 (.bool true) rfl (by kernel_rfl) (by kernel_rfl) (by kernel_rfl) (fun _ _ _ h => hQp _ _ _ _ _ h) rfl (lb_ I0.size) ((wanted_at (t := 41) (c := false) (b := false) rfl rfl rfl (lb_ (fa0_23.size.trans I0.size)) (fa0_23.at_ 41)).trans (by rfl)) r_a0_24 hS6 (fun a0_24 fa0_24 => ?_)
  clear r_a0_24
  clear fa0_23
  have r_a0_25 : ∀ Z, (fun Z => Same wr Z) Z → (execOp a0_24.eval oYF18).run Try.prog Z = .ok (.value (.bool true)) Z := fun Z hZ => by
    unfold oYF18
    have kc : ∀ v, a0_24.eval (.const v) = v := fun _ => rfl
    have e41 := (show a0_24.eval (.tmp 41) = .bool false from (fa0_24.at_ 41))
    have e46 := (show a0_24.eval (.tmp 46) = .bool true from (fa0_24.at_ 46))
    clear fa0_24 hQ h8 h9
    generalize a0_24.eval = ρ at *
    go_simp
  refine fa0_24.take 24 47 (.bool true) rfl (by kernel_rfl) (by kernel_rfl) (by kernel_rfl) (fun _ _ _ h => hQp _ _ _ _ _ h) rfl (lb_ I0.size) (wanted_none rfl) r_a0_25 hS6 (fun a0_25 fa0_25 => ?_)
  clear r_a0_25
  clear fa0_24
  refine wpAnyH_done (by kernel_rfl) ?_ _
  exact hQ a0_25 W2 (I0.keep fa0_25 (fun t ht => by rcases ht with rfl | rfl | rfl | rfl <;> rfl)) (show a0_25.eval (.tmp 8) = .int .i64 (i : Int) from ((fa0_25.at_ 8).trans h8)) (show a0_25.eval (.tmp 9) = .pointer (some ⟨bb, 0, none⟩) from ((fa0_25.at_ 9).trans h9)) (show a0_25.eval (.tmp 47) = .bool true from (fa0_25.at_ 47)) ((dd.trans s1).trans s2)
set_option maxRecDepth 100000 in
set_option maxHeartbeats 1000000 in
theorem rg6e {p q : Int} {pages bb pg nl xc n cp i en : Nat} {pa xa : Option Addr} {f : Nat → Bool} {Q : Exit → Act → World → Prop} (hQp : ∀ c (a : Act) d v w, Q (.panic c) (a.put d v) w → Q (.panic c) a w) (a0 : Act) (w wr : World) (I0 : IR w.heap.size pa n cp pages a0) (h8 : a0.eval (.tmp 8) = .int .i64 (i : Int)) (h9 : a0.eval (.tmp 9) = .pointer (some ⟨bb, 0, none⟩)) (hw : RWb w wr p q pages f bb pg xa nl xc) (h2 : 2 ≤ pg) (hlt : pg < pages) (hsn : f pg = false)
    (hen : ∀ W, Calls Try.prog 49 #[.agg #[.int .i64 p, .int .i64 q]] W fun e w' => e = .returned (.int .i64 (en : Int)) ∧ Same W w')
    (hri : ∀ W, Same wr W → Calls Try.prog 48 #[.slice xa nl xc, .int .i64 (en : Int), .int .u32 (pages : Int)] W fun e w' => e = .returned (.bool true) ∧ Same W w')
    (hQ : ∀ a W, IR w.heap.size pa n cp pages a → a.eval (.tmp 8) = .int .i64 (i : Int) → a.eval (.tmp 9) = .pointer (some ⟨bb, 0, none⟩) → a.eval (.tmp 47) = .bool false → Same wr W → Q .normal a W) : (Code.region 6 rRT6 true).wp Try.prog Q a0 wr := by
  have dd : Same wr wr.drew := (Fr.refl (fun _ => False) wr).drew
  have hi2 : decide ((pg : Int) < 2) = false := decide_eq_false (by omega)
  have hi3 : decide ((pages : Int) ≤ (pg : Int)) = false := decide_eq_false (by omega)
  have hi4 : (pg : Int) < (pages : Int) := by omega
  have fa0_0 := Fe.refl a0
  refine wp_region_held_drew (ops := rRT6) (S := fun Z => Same wr Z) (by kernel_rfl) (dd) (fun hS0 => ?_)
  have r_a0_1 : ∀ Z, (fun Z => Same wr Z) Z → (execOp a0.eval oYF0).run Try.prog Z = .ok (.value (.pointer (some ⟨bb, 1, none⟩))) Z := fun Z hZ => by
    unfold oYF0
    have e9 := (show a0.eval (.tmp 9) = .pointer (some ⟨bb, 0, none⟩) from ((fa0_0.at_ 9).trans h9))
    clear fa0_0 hQ h8 h9
    generalize a0.eval = ρ at *
    go_simp
  refine fa0_0.take 0 23 (.pointer (some ⟨bb, 1, none⟩)) rfl (by kernel_rfl) (by kernel_rfl) (by kernel_rfl) (fun _ _ _ h => hQp _ _ _ _ _ h) rfl (lb_ I0.size) (wanted_none rfl) r_a0_1 hS0 (fun a0_1 fa0_1 => ?_)
  clear r_a0_1
  clear fa0_0
  have r_a0_2 : ∀ Z, (fun Z => Same wr Z) Z → (execOp a0_1.eval oYF1).run Try.prog Z = .ok (.value (.slice xa nl xc)) Z := fun Z hZ => by
    unfold oYF1
    obtain ⟨c1, c2⟩ := (hw.fr hZ).cells
    obtain ⟨c3, c4⟩ := (hw.fr hZ).wd.frame
    have c5 := (hw.fr hZ).wd.cell hlt
    rw [hsn] at c5
    have e23 := (show a0_1.eval (.tmp 23) = .pointer (some ⟨bb, 1, none⟩) from (fa0_1.at_ 23))
    clear fa0_1 hQ h8 h9
    generalize a0_1.eval = ρ at *
    go_simp
  refine fa0_1.take 1 24 (.slice xa nl xc) rfl (by kernel_rfl) (by kernel_rfl) (by kernel_rfl) (fun _ _ _ h => hQp _ _ _ _ _ h) rfl (lb_ I0.size) (wanted_none rfl) r_a0_2 hS0 (fun a0_2 fa0_2 => ?_)
  clear r_a0_2
  clear fa0_1
  have r_a0_3 : ∀ Z, (fun Z => Same wr Z) Z → (execOp a0_2.eval oYF2).run Try.prog Z = .ok (.value (.agg #[.int .i64 p, .int .i64 q])) Z := fun Z hZ => by
    unfold oYF2
    obtain ⟨c1, c2⟩ := (hw.fr hZ).cells
    obtain ⟨c3, c4⟩ := (hw.fr hZ).wd.frame
    have c5 := (hw.fr hZ).wd.cell hlt
    rw [hsn] at c5
    have e3 := (show a0_2.eval (.tmp 3) = .pointer (some ⟨w.heap.size, 0, none⟩) from ((fa0_2.at_ 3).trans I0.s3))
    clear fa0_2 hQ h8 h9
    generalize a0_2.eval = ρ at *
    go_simp
  refine fa0_2.take 2 25 (.agg #[.int .i64 p, .int .i64 q]) rfl (by kernel_rfl) (by kernel_rfl) (by kernel_rfl) (fun _ _ _ h => hQp _ _ _ _ _ h) rfl (lb_ I0.size) (wanted_none rfl) r_a0_3 hS0 (fun a0_3 fa0_3 => ?_)
  clear r_a0_3
  clear fa0_2
  refine fa0_3.takeMove 4 27 (.int .u32 (pages : Int)) _ (Or.inl rfl) rfl (by kernel_rfl) (by kernel_rfl) (by kernel_rfl) (fun _ _ _ h => hQp _ _ _ _ _ h) rfl (lb_ I0.size) (wanted_none rfl) ((fa0_3.at_ 2).trans I0.s2) hS0 (fun a0_4 fa0_4 => ?_)
  clear fa0_3
  have r_a0_5 : (execOp a0_4.eval oYF3).run Try.prog (wr.drew) = .ok (.enter 49 #[.agg #[.int .i64 p, .int .i64 q]]) (wr.drew) := by
    unfold oYF3
    have kf : ∀ f, a0_4.eval (.func f) = .func (.func f) #[] #[] := fun _ => rfl
    have e25 := (show a0_4.eval (.tmp 25) = .agg #[.int .i64 p, .int .i64 q] from (fa0_4.at_ 25))
    clear fa0_4 hQ h8 h9
    generalize a0_4.eval = ρ at *
    go_simp
  refine fa0_4.oneCall 3 26 (by kernel_rfl) rfl rfl (lb_ I0.size) (wanted_none rfl) r_a0_5 (hen _) (fun e W1 hR => ?_)
  obtain ⟨rfl, s1⟩ := hR
  clear r_a0_5
  have hS5 : (fun Z => Same wr Z) W1 := dd.trans s1
  refine ⟨_, rfl, hS5, fun a0_5 fa0_5 => ?_⟩
  clear fa0_4
  have r_a0_6 : (execOp a0_5.eval oYF4).run Try.prog (W1) = .ok (.enter 48 #[.slice xa nl xc, .int .i64 (en : Int), .int .u32 (pages : Int)]) (W1) := by
    unfold oYF4
    have kf : ∀ f, a0_5.eval (.func f) = .func (.func f) #[] #[] := fun _ => rfl
    have e24 := (show a0_5.eval (.tmp 24) = .slice xa nl xc from (fa0_5.at_ 24))
    have e26 := (show a0_5.eval (.tmp 26) = .int .i64 (en : Int) from (fa0_5.at_ 26))
    have e27 := (show a0_5.eval (.tmp 27) = .int .u32 (pages : Int) from (fa0_5.at_ 27))
    clear fa0_5 hQ h8 h9
    generalize a0_5.eval = ρ at *
    go_simp
  refine fa0_5.oneCall 5 28 (by kernel_rfl) rfl rfl (lb_ I0.size) (wanted_none rfl) r_a0_6 (hri _ (dd.trans s1)) (fun e W2 hR => ?_)
  obtain ⟨rfl, s2⟩ := hR
  clear r_a0_6
  have hS6 : (fun Z => Same wr Z) W2 := (dd.trans s1).trans s2
  refine ⟨_, rfl, hS6, fun a0_6 fa0_6 => ?_⟩
  clear fa0_5
  have r_a0_7 : ∀ Z, (fun Z => Same wr Z) Z → (execOp a0_6.eval oYF5).run Try.prog Z = .ok (.value (.bool false)) Z := fun Z hZ => by
    unfold oYF5
    have e28 := (show a0_6.eval (.tmp 28) = .bool true from (fa0_6.at_ 28))
    clear fa0_6 hQ h8 h9
    generalize a0_6.eval = ρ at *
    go_simp
  refine fa0_6.take 6 29 (.bool false) rfl (by kernel_rfl) (by kernel_rfl) (by kernel_rfl) (fun _ _ _ h => hQp _ _ _ _ _ h) rfl (lb_ I0.size) (wanted_none rfl) r_a0_7 hS6 (fun a0_7 fa0_7 => ?_)
  clear r_a0_7
  clear fa0_6
  refine fa0_7.takeMove 7 30 (.bool false) _ (Or.inl rfl) rfl (by kernel_rfl) (by kernel_rfl) (by kernel_rfl) (fun _ _ _ h => hQp _ _ _ _ _ h) rfl (lb_ I0.size) (wanted_none rfl) (fa0_7.at_ 29) hS6 (fun a0_8 fa0_8 => ?_)
  clear fa0_7
  have r_a0_9 : ∀ Z, (fun Z => Same wr Z) Z → (execOp a0_8.eval oYF6).run Try.prog Z = .ok (.value (.pointer (some ⟨bb, 0, none⟩))) Z := fun Z hZ => by
    unfold oYF6
    have e9 := (show a0_8.eval (.tmp 9) = .pointer (some ⟨bb, 0, none⟩) from ((fa0_8.at_ 9).trans h9))
    clear fa0_8 hQ h8 h9
    generalize a0_8.eval = ρ at *
    go_simp
  refine fa0_8.take 8 31 (.pointer (some ⟨bb, 0, none⟩)) rfl (by kernel_rfl) (by kernel_rfl) (by kernel_rfl) (fun _ _ _ h => hQp _ _ _ _ _ h) rfl (lb_ I0.size) ((wanted_at (t := 30) (c := false) (b := false) rfl rfl rfl (lb_ (fa0_8.size.trans I0.size)) (fa0_8.at_ 30)).trans (by rfl)) r_a0_9 hS6 (fun a0_9 fa0_9 => ?_)
  clear r_a0_9
  clear fa0_8
  have r_a0_10 : ∀ Z, (fun Z => Same wr Z) Z → (execOp a0_9.eval oYF7).run Try.prog Z = .ok (.value (.int .u32 (pg : Int))) Z := fun Z hZ => by
    unfold oYF7
    obtain ⟨c1, c2⟩ := (hw.fr hZ).cells
    obtain ⟨c3, c4⟩ := (hw.fr hZ).wd.frame
    have c5 := (hw.fr hZ).wd.cell hlt
    rw [hsn] at c5
    have e31 := (show a0_9.eval (.tmp 31) = .pointer (some ⟨bb, 0, none⟩) from (fa0_9.at_ 31))
    clear fa0_9 hQ h8 h9
    generalize a0_9.eval = ρ at *
    go_simp
  refine fa0_9.take 9 32 (.int .u32 (pg : Int)) rfl (by kernel_rfl) (by kernel_rfl) (by kernel_rfl) (fun _ _ _ h => hQp _ _ _ _ _ h) rfl (lb_ I0.size) ((wanted_at (t := 30) (c := false) (b := false) rfl rfl rfl (lb_ (fa0_9.size.trans I0.size)) (fa0_9.at_ 30)).trans (by rfl)) r_a0_10 hS6 (fun a0_10 fa0_10 => ?_)
  clear r_a0_10
  clear fa0_9
  have r_a0_11 : ∀ Z, (fun Z => Same wr Z) Z → (execOp a0_10.eval oYF8).run Try.prog Z = .ok (.value (.bool false)) Z := fun Z hZ => by
    unfold oYF8
    have kc : ∀ v, a0_10.eval (.const v) = v := fun _ => rfl
    have e32 := (show a0_10.eval (.tmp 32) = .int .u32 (pg : Int) from (fa0_10.at_ 32))
    clear fa0_10 hQ h8 h9
    generalize a0_10.eval = ρ at *
    go_simp
  refine fa0_10.take 10 33 (.bool false) rfl (by kernel_rfl) (by kernel_rfl) (by kernel_rfl) (fun _ _ _ h => hQp _ _ _ _ _ h) rfl (lb_ I0.size) ((wanted_at (t := 30) (c := false) (b := false) rfl rfl rfl (lb_ (fa0_10.size.trans I0.size)) (fa0_10.at_ 30)).trans (by rfl)) r_a0_11 hS6 (fun a0_11 fa0_11 => ?_)
  clear r_a0_11
  clear fa0_10
  have r_a0_12 : ∀ Z, (fun Z => Same wr Z) Z → (execOp a0_11.eval oYF9).run Try.prog Z = .ok (.value (.bool false)) Z := fun Z hZ => by
    unfold oYF9
    have kc : ∀ v, a0_11.eval (.const v) = v := fun _ => rfl
    have e30 := (show a0_11.eval (.tmp 30) = .bool false from (fa0_11.at_ 30))
    have e33 := (show a0_11.eval (.tmp 33) = .bool false from (fa0_11.at_ 33))
    clear fa0_11 hQ h8 h9
    generalize a0_11.eval = ρ at *
    go_simp
  refine fa0_11.take 11 34 (.bool false) rfl (by kernel_rfl) (by kernel_rfl) (by kernel_rfl) (fun _ _ _ h => hQp _ _ _ _ _ h) rfl (lb_ I0.size) (wanted_none rfl) r_a0_12 hS6 (fun a0_12 fa0_12 => ?_)
  clear r_a0_12
  clear fa0_11
  refine fa0_12.takeMove 12 35 (.bool false) _ (Or.inl rfl) rfl (by kernel_rfl) (by kernel_rfl) (by kernel_rfl) (fun _ _ _ h => hQp _ _ _ _ _ h) rfl (lb_ I0.size) (wanted_none rfl) (fa0_12.at_ 34) hS6 (fun a0_13 fa0_13 => ?_)
  clear fa0_12
  have r_a0_14 : ∀ Z, (fun Z => Same wr Z) Z → (execOp a0_13.eval oYF10).run Try.prog Z = .ok (.value (.pointer (some ⟨bb, 0, none⟩))) Z := fun Z hZ => by
    unfold oYF10
    have e9 := (show a0_13.eval (.tmp 9) = .pointer (some ⟨bb, 0, none⟩) from ((fa0_13.at_ 9).trans h9))
    clear fa0_13 hQ h8 h9
    generalize a0_13.eval = ρ at *
    go_simp
  refine fa0_13.take 13 36 (.pointer (some ⟨bb, 0, none⟩)) rfl (by kernel_rfl) (by kernel_rfl) (by kernel_rfl) (fun _ _ _ h => hQp _ _ _ _ _ h) rfl (lb_ I0.size) ((wanted_at (t := 35) (c := false) (b := false) rfl rfl rfl (lb_ (fa0_13.size.trans I0.size)) (fa0_13.at_ 35)).trans (by rfl)) r_a0_14 hS6 (fun a0_14 fa0_14 => ?_)
  clear r_a0_14
  clear fa0_13
  have r_a0_15 : ∀ Z, (fun Z => Same wr Z) Z → (execOp a0_14.eval oYF11).run Try.prog Z = .ok (.value (.int .u32 (pg : Int))) Z := fun Z hZ => by
    unfold oYF11
    obtain ⟨c1, c2⟩ := (hw.fr hZ).cells
    obtain ⟨c3, c4⟩ := (hw.fr hZ).wd.frame
    have c5 := (hw.fr hZ).wd.cell hlt
    rw [hsn] at c5
    have e36 := (show a0_14.eval (.tmp 36) = .pointer (some ⟨bb, 0, none⟩) from (fa0_14.at_ 36))
    clear fa0_14 hQ h8 h9
    generalize a0_14.eval = ρ at *
    go_simp
  refine fa0_14.take 14 37 (.int .u32 (pg : Int)) rfl (by kernel_rfl) (by kernel_rfl) (by kernel_rfl) (fun _ _ _ h => hQp _ _ _ _ _ h) rfl (lb_ I0.size) ((wanted_at (t := 35) (c := false) (b := false) rfl rfl rfl (lb_ (fa0_14.size.trans I0.size)) (fa0_14.at_ 35)).trans (by rfl)) r_a0_15 hS6 (fun a0_15 fa0_15 => ?_)
  clear r_a0_15
  clear fa0_14
  refine fa0_15.takeMove 15 38 (.int .u32 (pages : Int)) _ (Or.inl rfl) rfl (by kernel_rfl) (by kernel_rfl) (by kernel_rfl) (fun _ _ _ h => hQp _ _ _ _ _ h) rfl (lb_ I0.size) ((wanted_at (t := 35) (c := false) (b := false) rfl rfl rfl (lb_ (fa0_15.size.trans I0.size)) (fa0_15.at_ 35)).trans (by rfl)) ((fa0_15.at_ 2).trans I0.s2) hS6 (fun a0_16 fa0_16 => ?_)
  clear fa0_15
  have r_a0_17 : ∀ Z, (fun Z => Same wr Z) Z → (execOp a0_16.eval oYF12).run Try.prog Z = .ok (.value (.bool false)) Z := fun Z hZ => by
    unfold oYF12
    have e37 := (show a0_16.eval (.tmp 37) = .int .u32 (pg : Int) from (fa0_16.at_ 37))
    have e38 := (show a0_16.eval (.tmp 38) = .int .u32 (pages : Int) from (fa0_16.at_ 38))
    clear fa0_16 hQ h8 h9
    generalize a0_16.eval = ρ at *
    go_simp
  refine fa0_16.take 16 39 (.bool false) rfl (by kernel_rfl) (by kernel_rfl) (by kernel_rfl) (fun _ _ _ h => hQp _ _ _ _ _ h) rfl (lb_ I0.size) ((wanted_at (t := 35) (c := false) (b := false) rfl rfl rfl (lb_ (fa0_16.size.trans I0.size)) (fa0_16.at_ 35)).trans (by rfl)) r_a0_17 hS6 (fun a0_17 fa0_17 => ?_)
  clear r_a0_17
  clear fa0_16
  have r_a0_18 : ∀ Z, (fun Z => Same wr Z) Z → (execOp a0_17.eval oYF13).run Try.prog Z = .ok (.value (.bool false)) Z := fun Z hZ => by
    unfold oYF13
    have kc : ∀ v, a0_17.eval (.const v) = v := fun _ => rfl
    have e35 := (show a0_17.eval (.tmp 35) = .bool false from (fa0_17.at_ 35))
    have e39 := (show a0_17.eval (.tmp 39) = .bool false from (fa0_17.at_ 39))
    clear fa0_17 hQ h8 h9
    generalize a0_17.eval = ρ at *
    go_simp
  refine fa0_17.take 17 40 (.bool false) rfl (by kernel_rfl) (by kernel_rfl) (by kernel_rfl) (fun _ _ _ h => hQp _ _ _ _ _ h) rfl (lb_ I0.size) (wanted_none rfl) r_a0_18 hS6 (fun a0_18 fa0_18 => ?_)
  clear r_a0_18
  clear fa0_17
  refine fa0_18.takeMove 18 41 (.bool false) _ (Or.inl rfl) rfl (by kernel_rfl) (by kernel_rfl) (by kernel_rfl) (fun _ _ _ h => hQp _ _ _ _ _ h) rfl (lb_ I0.size) (wanted_none rfl) (fa0_18.at_ 40) hS6 (fun a0_19 fa0_19 => ?_)
  clear fa0_18
  refine fa0_19.takeMove 19 42 (.slice (some ⟨w.heap.size + 1, 0, none⟩) pages pages) _ (Or.inl rfl) rfl (by kernel_rfl) (by kernel_rfl) (by kernel_rfl) (fun _ _ _ h => hQp _ _ _ _ _ h) rfl (lb_ I0.size) ((wanted_at (t := 41) (c := false) (b := false) rfl rfl rfl (lb_ (fa0_19.size.trans I0.size)) (fa0_19.at_ 41)).trans (by rfl)) ((fa0_19.at_ 7).trans I0.s7) hS6 (fun a0_20 fa0_20 => ?_)
  clear fa0_19
  have r_a0_21 : ∀ Z, (fun Z => Same wr Z) Z → (execOp a0_20.eval oYF14).run Try.prog Z = .ok (.value (.pointer (some ⟨bb, 0, none⟩))) Z := fun Z hZ => by
    unfold oYF14
    have e9 := (show a0_20.eval (.tmp 9) = .pointer (some ⟨bb, 0, none⟩) from ((fa0_20.at_ 9).trans h9))
    clear fa0_20 hQ h8 h9
    generalize a0_20.eval = ρ at *
    go_simp
  refine fa0_20.take 20 43 (.pointer (some ⟨bb, 0, none⟩)) rfl (by kernel_rfl) (by kernel_rfl) (by kernel_rfl) (fun _ _ _ h => hQp _ _ _ _ _ h) rfl (lb_ I0.size) ((wanted_at (t := 41) (c := false) (b := false) rfl rfl rfl (lb_ (fa0_20.size.trans I0.size)) (fa0_20.at_ 41)).trans (by rfl)) r_a0_21 hS6 (fun a0_21 fa0_21 => ?_)
  clear r_a0_21
  clear fa0_20
  have r_a0_22 : ∀ Z, (fun Z => Same wr Z) Z → (execOp a0_21.eval oYF15).run Try.prog Z = .ok (.value (.int .u32 (pg : Int))) Z := fun Z hZ => by
    unfold oYF15
    obtain ⟨c1, c2⟩ := (hw.fr hZ).cells
    obtain ⟨c3, c4⟩ := (hw.fr hZ).wd.frame
    have c5 := (hw.fr hZ).wd.cell hlt
    rw [hsn] at c5
    have e43 := (show a0_21.eval (.tmp 43) = .pointer (some ⟨bb, 0, none⟩) from (fa0_21.at_ 43))
    clear fa0_21 hQ h8 h9
    generalize a0_21.eval = ρ at *
    go_simp
  refine fa0_21.take 21 44 (.int .u32 (pg : Int)) rfl (by kernel_rfl) (by kernel_rfl) (by kernel_rfl) (fun _ _ _ h => hQp _ _ _ _ _ h) rfl (lb_ I0.size) ((wanted_at (t := 41) (c := false) (b := false) rfl rfl rfl (lb_ (fa0_21.size.trans I0.size)) (fa0_21.at_ 41)).trans (by rfl)) r_a0_22 hS6 (fun a0_22 fa0_22 => ?_)
  clear r_a0_22
  clear fa0_21
  have r_a0_23 : ∀ Z, (fun Z => Same wr Z) Z → (execOp a0_22.eval oYF16).run Try.prog Z = .ok (.value (.pointer (some ⟨w.heap.size + 1, pg, none⟩))) Z := fun Z hZ => by
    unfold oYF16
    have e42 := (show a0_22.eval (.tmp 42) = .slice (some ⟨w.heap.size + 1, 0, none⟩) pages pages from (fa0_22.at_ 42))
    have e44 := (show a0_22.eval (.tmp 44) = .int .u32 (pg : Int) from (fa0_22.at_ 44))
    clear fa0_22 hQ h8 h9
    generalize a0_22.eval = ρ at *
    go_simp
  refine fa0_22.take 22 45 (.pointer (some ⟨w.heap.size + 1, pg, none⟩)) rfl (by kernel_rfl) (by kernel_rfl) (by kernel_rfl) (fun _ _ _ h => hQp _ _ _ _ _ h) rfl (lb_ I0.size) ((wanted_at (t := 41) (c := false) (b := false) rfl rfl rfl (lb_ (fa0_22.size.trans I0.size)) (fa0_22.at_ 41)).trans (by rfl)) r_a0_23 hS6 (fun a0_23 fa0_23 => ?_)
  clear r_a0_23
  clear fa0_22
  have r_a0_24 : ∀ Z, (fun Z => Same wr Z) Z → (execOp a0_23.eval oYF17).run Try.prog Z = .ok (.value (.bool false)) Z := fun Z hZ => by
    unfold oYF17
    obtain ⟨c1, c2⟩ := (hw.fr hZ).cells
    obtain ⟨c3, c4⟩ := (hw.fr hZ).wd.frame
    have c5 := (hw.fr hZ).wd.cell hlt
    rw [hsn] at c5
    have e45 := (show a0_23.eval (.tmp 45) = .pointer (some ⟨w.heap.size + 1, pg, none⟩) from (fa0_23.at_ 45))
    clear fa0_23 hQ h8 h9
    generalize a0_23.eval = ρ at *
    go_simp
  refine fa0_23.take 23 46 (.bool false) rfl (by kernel_rfl) (by kernel_rfl) (by kernel_rfl) (fun _ _ _ h => hQp _ _ _ _ _ h) rfl (lb_ I0.size) ((wanted_at (t := 41) (c := false) (b := false) rfl rfl rfl (lb_ (fa0_23.size.trans I0.size)) (fa0_23.at_ 41)).trans (by rfl)) r_a0_24 hS6 (fun a0_24 fa0_24 => ?_)
  clear r_a0_24
  clear fa0_23
  have r_a0_25 : ∀ Z, (fun Z => Same wr Z) Z → (execOp a0_24.eval oYF18).run Try.prog Z = .ok (.value (.bool false)) Z := fun Z hZ => by
    unfold oYF18
    have kc : ∀ v, a0_24.eval (.const v) = v := fun _ => rfl
    have e41 := (show a0_24.eval (.tmp 41) = .bool false from (fa0_24.at_ 41))
    have e46 := (show a0_24.eval (.tmp 46) = .bool false from (fa0_24.at_ 46))
    clear fa0_24 hQ h8 h9
    generalize a0_24.eval = ρ at *
    go_simp
  refine fa0_24.take 24 47 (.bool false) rfl (by kernel_rfl) (by kernel_rfl) (by kernel_rfl) (fun _ _ _ h => hQp _ _ _ _ _ h) rfl (lb_ I0.size) (wanted_none rfl) r_a0_25 hS6 (fun a0_25 fa0_25 => ?_)
  clear r_a0_25
  clear fa0_24
  refine wpAnyH_done (by kernel_rfl) ?_ _
  exact hQ a0_25 W2 (I0.keep fa0_25 (fun t ht => by rcases ht with rfl | rfl | rfl | rfl <;> rfl)) (show a0_25.eval (.tmp 8) = .int .i64 (i : Int) from ((fa0_25.at_ 8).trans h8)) (show a0_25.eval (.tmp 9) = .pointer (some ⟨bb, 0, none⟩) from ((fa0_25.at_ 9).trans h9)) (show a0_25.eval (.tmp 47) = .bool false from (fa0_25.at_ 47)) ((dd.trans s1).trans s2)
theorem rg6 {p q : Int} {pages bb n cp i : Nat} {pa : Option Addr} {x : Bt} {f : Nat → Bool} {Q : Exit → Act → World → Prop} (hQp : ∀ c (a : Act) d v w, Q (.panic c) (a.put d v) w → Q (.panic c) a w) (a0 : Act) (w wr : World) (I0 : IR w.heap.size pa n cp pages a0) (h8 : a0.eval (.tmp 8) = .int .i64 (i : Int)) (h9 : a0.eval (.tmp 9) = .pointer (some ⟨bb, 0, none⟩)) (hw : RWb w wr p q pages f bb x.pg x.na x.ns.length x.nc)
    (hr : NRow w x.na x.nb x.no x.ns) (hl : x.ns.length ≤ 4000000)
    (hQ : ∀ a W, IR w.heap.size pa n cp pages a → a.eval (.tmp 8) = .int .i64 (i : Int) → a.eval (.tmp 9) = .pointer (some ⟨bb, 0, none⟩) → a.eval (.tmp 47) = .bool (badB p q pages f x) → Same wr W → Q .normal a W) : (Code.region 6 rRT6 true).wp Try.prog Q a0 wr := by
  have hen : ∀ W, Calls Try.prog 49 #[.agg #[.int .i64 p, .int .i64 q]] W fun e w' => e = .returned (.int .i64 (entN p q : Int)) ∧ Same W w' := fun W => rentries_calls p q W
  have hri : ∀ W, Same wr W → Calls Try.prog 48 #[.slice x.na x.ns.length x.nc, .int .i64 (entN p q : Int), .int .u32 (pages : Int)] W fun e w' => e = .returned (.bool (fitsN p q x.ns pages)) ∧ Same W w' := fun W s => rrising_calls W (hr.same (hw.wd.same.trans s)) (by omega)
  cases h1 : fitsN p q x.ns pages with
  | false =>
    rw [h1] at hri
    exact rg6a hQp a0 w wr I0 h8 h9 hw hen hri (fun a W i1 j8 j9 j47 s => hQ a W i1 j8 j9 (by rw [j47]; simp [badB, h1]) s)
  | true =>
    rw [h1] at hri
    by_cases h2 : x.pg < 2
    · exact rg6b hQp a0 w wr I0 h8 h9 hw h2 hen hri (fun a W i1 j8 j9 j47 s => hQ a W i1 j8 j9 (by rw [j47]; simp [badB, h2]) s)
    · by_cases h3 : pages ≤ x.pg
      · exact rg6c hQp a0 w wr I0 h8 h9 hw (by omega) h3 hen hri (fun a W i1 j8 j9 j47 s => hQ a W i1 j8 j9 (by rw [j47]; simp [badB, h3]) s)
      · cases h4 : f x.pg with
        | true => exact rg6d hQp a0 w wr I0 h8 h9 hw (by omega) (by omega) h4 hen hri (fun a W i1 j8 j9 j47 s => hQ a W i1 j8 j9 (by rw [j47]; simp [badB, h4]) s)
        | false => exact rg6e hQp a0 w wr I0 h8 h9 hw (by omega) (by omega) h4 hen hri (fun a W i1 j8 j9 j47 s => hQ a W i1 j8 j9 (by rw [j47]; simp [badB, h1, h2, h3, h4]) s)
end Go.Proofs.Ytneopkhkkfckcaa
