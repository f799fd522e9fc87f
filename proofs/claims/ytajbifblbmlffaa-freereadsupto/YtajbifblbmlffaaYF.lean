/- free: the document's Right and Check. -/
import Derived.Test.YtajbifblbmlffaaYD
import Derived.Test.YtajbifblbmlffaaIH
import Derived.Test.YtajbifblbmlffaaIN
import Derived.Laws.OwnMore
namespace Go.Proofs.Ytajbifblbmlffaa
open Go.RowKit Go.Maps

def oYF0 : Oper := { dst := some 23, op := .fieldAddr 53 (.tmp 9) 1, type := 0, pos := "ref.go:89", after := #[], guard := none }
def oYF1 : Oper := { dst := some 24, op := .load 51 (.tmp 23), type := 51, pos := "ref.go:89", after := #[{ on := 0, ground := .data }], guard := none }
def oYF2 : Oper := { dst := some 25, op := .load 23 (.tmp 3), type := 23, pos := "ref.go:89", after := #[], guard := none }
def oYF3 : Oper := { dst := some 26, op := .call { callee := .value (.func 40), args := #[.tmp 25], argTypes := #[23] }, type := 3, pos := "ref.go:89", after := #[{ on := 2, ground := .data }], guard := none }
def oYF4 : Oper := { dst := some 28, op := .call { callee := .value (.func 39), args := #[.tmp 24, .tmp 26, .tmp 27], argTypes := #[51, 3, 28] }, type := 4, pos := "ref.go:89", after := #[{ on := 1, ground := .data }, { on := 3, ground := .data }, { on := 4, ground := .data }, { on := 3, ground := .chain }], guard := none }
def oYF5 : Oper := { dst := some 29, op := .unOp .not 4 (.tmp 28), type := 4, pos := "ref.go:89", after := #[{ on := 5, ground := .data }], guard := none }
def oYF6 : Oper := { dst := some 31, op := .fieldAddr 53 (.tmp 9) 0, type := 0, pos := "ref.go:89", after := #[{ on := 7, ground := .guard }], guard := some (7, false) }
def oYF7 : Oper := { dst := some 32, op := .load 28 (.tmp 31), type := 28, pos := "ref.go:89", after := #[{ on := 8, ground := .data }, { on := 7, ground := .guard }], guard := some (7, false) }
def oYF8 : Oper := { dst := some 33, op := .binOp .lss 28 (.tmp 32) (.const (.int .u32 2)) 28, type := 4, pos := "ref.go:89", after := #[{ on := 9, ground := .data }, { on := 7, ground := .guard }], guard := some (7, false) }
def oYF9 : Oper := { dst := some 34, op := .pick (.tmp 30) (.const (.bool true)) (.tmp 33), type := 4, pos := "ref.go:89", after := #[{ on := 7, ground := .data }, { on := 10, ground := .data }], guard := none }
def oYF10 : Oper := { dst := some 36, op := .fieldAddr 53 (.tmp 9) 0, type := 0, pos := "ref.go:89", after := #[{ on := 12, ground := .guard }], guard := some (12, false) }
def oYF11 : Oper := { dst := some 37, op := .load 28 (.tmp 36), type := 28, pos := "ref.go:89", after := #[{ on := 13, ground := .data }, { on := 12, ground := .guard }], guard := some (12, false) }
def oYF12 : Oper := { dst := some 39, op := .binOp .geq 28 (.tmp 37) (.tmp 38) 28, type := 4, pos := "ref.go:89", after := #[{ on := 14, ground := .data }, { on := 15, ground := .data }, { on := 12, ground := .guard }], guard := some (12, false) }
def oYF13 : Oper := { dst := some 40, op := .pick (.tmp 35) (.const (.bool true)) (.tmp 39), type := 4, pos := "ref.go:89", after := #[{ on := 12, ground := .data }, { on := 16, ground := .data }], guard := none }
def oYF14 : Oper := { dst := some 43, op := .fieldAddr 53 (.tmp 9) 0, type := 0, pos := "ref.go:89", after := #[{ on := 18, ground := .guard }], guard := some (18, false) }
def oYF15 : Oper := { dst := some 44, op := .load 28 (.tmp 43), type := 28, pos := "ref.go:89", after := #[{ on := 20, ground := .data }, { on := 18, ground := .guard }], guard := some (18, false) }
def oYF16 : Oper := { dst := some 45, op := .indexAddr 103 (.tmp 42) (.tmp 44), type := 0, pos := "ref.go:89", after := #[{ on := 19, ground := .data }, { on := 21, ground := .data }, { on := 18, ground := .guard }], guard := some (18, false) }
def oYF17 : Oper := { dst := some 46, op := .load 4 (.tmp 45), type := 4, pos := "ref.go:89", after := #[{ on := 22, ground := .data }, { on := 18, ground := .guard }], guard := some (18, false) }
def oYF18 : Oper := { dst := some 47, op := .pick (.tmp 41) (.const (.bool true)) (.tmp 46), type := 4, pos := "ref.go:89", after := #[{ on := 18, ground := .data }, { on := 23, ground := .data }], guard := none }
def rRT0 : Array Oper := #[{ dst := some 3, op := .box 23 (.tmp 0), type := 0, pos := "ref.go:85", after := #[], guard := none },
  { dst := some 6, op := .assign (.const (.bool false)), type := 4, pos := "ref.go:85", after := #[], guard := none }]
def rRT1 : Array Oper := #[{ dst := some 11, op := .move (.tmp 2), type := 28, pos := "ref.go:86", after := #[], guard := none },
  { dst := some 12, op := .makeSlice 103 (.tmp 11) (.tmp 11), type := 103, pos := "ref.go:86", after := #[{ on := 0, ground := .data }, { on := 0, ground := .data }], guard := none },
  { dst := some 7, op := .assign (.tmp 12), type := 103, pos := "ref.go:86", after := #[{ on := 1, ground := .data }, { on := 0, ground := .phase }, { on := 1, ground := .phase }], guard := none }]
def rRT2 : Array Oper := #[{ dst := some 8, op := .assign (.const (.int .i64 0)), type := 3, pos := "ref.go:87", after := #[], guard := none }]
def rRT3 : Array Oper := #[{ dst := some 13, op := .move (.tmp 8), type := 3, pos := "ref.go:87", after := #[], guard := none },
  { dst := some 14, op := .move (.tmp 1), type := 30, pos := "ref.go:87", after := #[], guard := none },
  { dst := some 15, op := .call { callee := .builtin .len, args := #[.tmp 14], argTypes := #[30] }, type := 3, pos := "ref.go:87", after := #[{ on := 1, ground := .data }], guard := none },
  { dst := some 16, op := .binOp .lss 3 (.tmp 13) (.tmp 15) 3, type := 4, pos := "ref.go:87", after := #[{ on := 0, ground := .data }, { on := 2, ground := .data }], guard := none }]
def rRT4 : Array Oper := #[{ dst := some 17, op := .move (.tmp 8), type := 3, pos := "ref.go:87", after := #[], guard := none },
  { dst := some 18, op := .binOp .add 3 (.tmp 17) (.const (.int .i64 1)) 3, type := 3, pos := "ref.go:87", after := #[{ on := 0, ground := .data }], guard := none },
  { dst := some 8, op := .assign (.tmp 18), type := 3, pos := "ref.go:87", after := #[{ on := 1, ground := .data }, { on := 0, ground := .phase }, { on := 1, ground := .phase }], guard := none }]
def rRT5 : Array Oper := #[{ dst := some 19, op := .move (.tmp 1), type := 30, pos := "ref.go:88", after := #[], guard := none },
  { dst := some 20, op := .move (.tmp 8), type := 3, pos := "ref.go:88", after := #[], guard := none },
  { dst := some 21, op := .indexAddr 30 (.tmp 19) (.tmp 20), type := 0, pos := "ref.go:88", after := #[{ on := 0, ground := .data }, { on := 1, ground := .data }], guard := none },
  { dst := some 22, op := .load 53 (.tmp 21), type := 53, pos := "ref.go:88", after := #[{ on := 2, ground := .data }], guard := none },
  { dst := some 9, op := .alloc 53, type := 0, pos := "ref.go:88", after := #[], guard := none },
  { dst := none, op := .store 53 (.tmp 9) (.tmp 22), type := 0, pos := "ref.go:88", after := #[{ on := 4, ground := .data }, { on := 3, ground := .data }, { on := 0, ground := .phase }, { on := 1, ground := .phase }, { on := 2, ground := .phase }, { on := 3, ground := .phase }, { on := 4, ground := .phase }], guard := none }]
def rRT6 : Array Oper := #[oYF0,
  oYF1,
  oYF2,
  oYF3,
  { dst := some 27, op := .move (.tmp 2), type := 28, pos := "ref.go:89", after := #[], guard := none },
  oYF4,
  oYF5,
  { dst := some 30, op := .move (.tmp 29), type := 4, pos := "ref.go:89", after := #[{ on := 6, ground := .data }, { on := 5, ground := .chain }], guard := none },
  oYF6,
  oYF7,
  oYF8,
  oYF9,
  { dst := some 35, op := .move (.tmp 34), type := 4, pos := "ref.go:89", after := #[{ on := 11, ground := .data }, { on := 7, ground := .chain }], guard := none },
  oYF10,
  oYF11,
  { dst := some 38, op := .move (.tmp 2), type := 28, pos := "ref.go:89", after := #[{ on := 12, ground := .guard }], guard := some (12, false) },
  oYF12,
  oYF13,
  { dst := some 41, op := .move (.tmp 40), type := 4, pos := "ref.go:89", after := #[{ on := 17, ground := .data }, { on := 12, ground := .chain }], guard := none },
  { dst := some 42, op := .move (.tmp 7), type := 103, pos := "ref.go:89", after := #[{ on := 18, ground := .guard }], guard := some (18, false) },
  oYF14,
  oYF15,
  oYF16,
  oYF17,
  oYF18]
def rRT7 : Array Oper := #[{ dst := some 6, op := .assign (.const (.bool false)), type := 4, pos := "ref.go:90", after := #[], guard := none }]
def rRT8 : Array Oper := #[{ dst := some 48, op := .move (.tmp 7), type := 103, pos := "ref.go:92", after := #[], guard := none },
  { dst := some 49, op := .fieldAddr 53 (.tmp 9) 0, type := 0, pos := "ref.go:92", after := #[], guard := none },
  { dst := some 50, op := .load 28 (.tmp 49), type := 28, pos := "ref.go:92", after := #[{ on := 1, ground := .data }], guard := none },
  { dst := some 51, op := .indexAddr 103 (.tmp 48) (.tmp 50), type := 0, pos := "ref.go:92", after := #[{ on := 0, ground := .data }, { on := 2, ground := .data }, { on := 0, ground := .phase }, { on := 1, ground := .phase }, { on := 2, ground := .phase }], guard := none },
  { dst := none, op := .store 4 (.tmp 51) (.const (.bool true)), type := 0, pos := "ref.go:92", after := #[{ on := 3, ground := .data }, { on := 0, ground := .phase }, { on := 1, ground := .phase }, { on := 2, ground := .phase }], guard := none }]
def rRT9 : Array Oper := #[{ dst := some 10, op := .assign (.const (.int .i64 0)), type := 3, pos := "ref.go:93", after := #[], guard := none }]
def rRT10 : Array Oper := #[{ dst := some 52, op := .move (.tmp 10), type := 3, pos := "ref.go:93", after := #[], guard := none },
  { dst := some 53, op := .fieldAddr 53 (.tmp 9) 1, type := 0, pos := "ref.go:93", after := #[], guard := none },
  { dst := some 54, op := .load 51 (.tmp 53), type := 51, pos := "ref.go:93", after := #[{ on := 1, ground := .data }], guard := none },
  { dst := some 55, op := .call { callee := .builtin .len, args := #[.tmp 54], argTypes := #[51] }, type := 3, pos := "ref.go:93", after := #[{ on := 2, ground := .data }], guard := none },
  { dst := some 56, op := .binOp .lss 3 (.tmp 52) (.tmp 55) 3, type := 4, pos := "ref.go:93", after := #[{ on := 0, ground := .data }, { on := 3, ground := .data }], guard := none }]
def rRT11 : Array Oper := #[{ dst := some 57, op := .move (.tmp 10), type := 3, pos := "ref.go:93", after := #[], guard := none },
  { dst := some 58, op := .binOp .add 3 (.tmp 57) (.const (.int .i64 1)) 3, type := 3, pos := "ref.go:93", after := #[{ on := 0, ground := .data }], guard := none },
  { dst := some 10, op := .assign (.tmp 58), type := 3, pos := "ref.go:93", after := #[{ on := 1, ground := .data }, { on := 0, ground := .phase }, { on := 1, ground := .phase }], guard := none }]
def rRT12 : Array Oper := #[{ dst := some 59, op := .move (.tmp 7), type := 103, pos := "ref.go:94", after := #[], guard := none },
  { dst := some 60, op := .fieldAddr 53 (.tmp 9) 1, type := 0, pos := "ref.go:94", after := #[], guard := none },
  { dst := some 61, op := .load 51 (.tmp 60), type := 51, pos := "ref.go:94", after := #[{ on := 1, ground := .data }], guard := none },
  { dst := some 62, op := .move (.tmp 10), type := 3, pos := "ref.go:94", after := #[], guard := none },
  { dst := some 63, op := .indexAddr 51 (.tmp 61) (.tmp 62), type := 0, pos := "ref.go:94", after := #[{ on := 2, ground := .data }, { on := 3, ground := .data }], guard := none },
  { dst := some 64, op := .load 28 (.tmp 63), type := 28, pos := "ref.go:94", after := #[{ on := 4, ground := .data }], guard := none },
  { dst := some 65, op := .indexAddr 103 (.tmp 59) (.tmp 64), type := 0, pos := "ref.go:94", after := #[{ on := 0, ground := .data }, { on := 5, ground := .data }], guard := none },
  { dst := some 66, op := .load 4 (.tmp 65), type := 4, pos := "ref.go:94", after := #[{ on := 6, ground := .data }], guard := none }]
def rRT13 : Array Oper := #[{ dst := some 6, op := .assign (.const (.bool false)), type := 4, pos := "ref.go:95", after := #[], guard := none }]
def rRT14 : Array Oper := #[{ dst := some 67, op := .move (.tmp 7), type := 103, pos := "ref.go:97", after := #[], guard := none },
  { dst := some 68, op := .fieldAddr 53 (.tmp 9) 1, type := 0, pos := "ref.go:97", after := #[], guard := none },
  { dst := some 69, op := .load 51 (.tmp 68), type := 51, pos := "ref.go:97", after := #[{ on := 1, ground := .data }], guard := none },
  { dst := some 70, op := .move (.tmp 10), type := 3, pos := "ref.go:97", after := #[], guard := none },
  { dst := some 71, op := .indexAddr 51 (.tmp 69) (.tmp 70), type := 0, pos := "ref.go:97", after := #[{ on := 2, ground := .data }, { on := 3, ground := .data }], guard := none },
  { dst := some 72, op := .load 28 (.tmp 71), type := 28, pos := "ref.go:97", after := #[{ on := 4, ground := .data }], guard := none },
  { dst := some 73, op := .indexAddr 103 (.tmp 67) (.tmp 72), type := 0, pos := "ref.go:97", after := #[{ on := 0, ground := .data }, { on := 5, ground := .data }, { on := 0, ground := .phase }, { on := 1, ground := .phase }, { on := 2, ground := .phase }, { on := 3, ground := .phase }, { on := 4, ground := .phase }, { on := 5, ground := .phase }], guard := none },
  { dst := none, op := .store 4 (.tmp 73) (.const (.bool true)), type := 0, pos := "ref.go:97", after := #[{ on := 6, ground := .data }, { on := 0, ground := .phase }, { on := 1, ground := .phase }, { on := 2, ground := .phase }, { on := 3, ground := .phase }, { on := 4, ground := .phase }, { on := 5, ground := .phase }], guard := none }]
def rRT15 : Array Oper := #[{ dst := some 6, op := .assign (.const (.bool true)), type := 4, pos := "ref.go:100", after := #[], guard := none }]
def cRT2 : Code := (.seq (.seq (.region 10 rRT10 false) (.cond (.tmp 56) .skip (.exit 2))) (.seq (.block 3 (.seq (.seq (.region 12 rRT12 false) (.cond (.tmp 66) (.seq (.region 13 rRT13 false) .ret) .skip)) (.region 14 rRT14 false))) (.region 11 rRT11 false)))
def cRT1 : Code := (.seq (.seq (.region 3 rRT3 false) (.cond (.tmp 16) .skip (.exit 0))) (.seq (.block 1 (.seq (.region 5 rRT5 false) (.seq (.seq (.region 6 rRT6 true) (.cond (.tmp 47) (.seq (.region 7 rRT7 false) .ret) .skip)) (.seq (.region 8 rRT8 false) (.seq (.region 9 rRT9 false) (.block 2 (.loop cRT2))))))) (.region 4 rRT4 false)))
def cRT : Code := (.seq (.region 0 rRT0 false) (.seq (.region 1 rRT1 false) (.seq (.seq (.region 2 rRT2 false) (.block 0 (.loop cRT1))) (.seq (.region 15 rRT15 false) .ret))))

/-- Numbers that were seen. -/
def upd (f : Nat → Bool) (i : Nat) : Nat → Bool := fun j => if j = i then true else f j
def seenC (f : Nat → Bool) (n : Nat) : List Value := (List.range n).map fun i => .bool (f i)
theorem seenC_len (f : Nat → Bool) (n : Nat) : (seenC f n).length = n := by simp [seenC]
theorem seenC_at {f : Nat → Bool} {n i : Nat} (h : i < n) : (seenC f n)[i]? = some (.bool (f i)) := by simp [seenC, List.getElem?_range h]
theorem seenC_set (f : Nat → Bool) {n i : Nat} (_h : i < n) : (seenC f n).set i (.bool true) = seenC (upd f i) n := by
  apply List.ext_getElem?
  intro j
  by_cases hj : j < n
  · rw [List.getElem?_set, seenC_at hj, seenC_at hj]
    by_cases e : i = j
    · subst e
      rw [if_pos rfl, if_pos (by rw [seenC_len]; exact hj)]
      simp [upd]
    · rw [if_neg e]
      simp [upd, Ne.symm e]
  · rw [List.getElem?_eq_none (by rw [List.length_set, seenC_len]; omega), List.getElem?_eq_none (by rw [seenC_len]; omega)]
def dN : (Nat → Bool) → List Nat → Bool × (Nat → Bool)
  | f, [] => (true, f)
  | f, y :: ys => if f y then (false, f) else dN (upd f y) ys
def badB (p q : Int) (pages : Nat) (f : Nat → Bool) (x : Bt) : Bool := !(fitsN p q x.ns pages) || decide (x.pg < 2) || decide (pages ≤ x.pg) || f x.pg
def dR (p q : Int) (pages : Nat) : (Nat → Bool) → List Bt → Bool
  | _, [] => true
  | f, x :: L => if badB p q pages f x then false else if (dN (upd f x.pg) x.ns).1 then dR p q pages (dN (upd f x.pg) x.ns).2 L else false
/-- The world while a chain is looked at. -/
structure RWd (w W : World) (p q : Int) (pages : Nat) (f : Nat → Bool) : Prop where
  same : Same w W
  fbox : W.heap[w.heap.size]? = some (.cells #[.int .i64 p, .int .i64 q] 23 (0, 0))
  seen : W.ownsRow w.heap.size 4 1 (.slice (some ⟨w.heap.size + 1, 0, none⟩) pages pages) pages (seenC f pages)
theorem RWd.fr {w W W' : World} {p q : Int} {pages : Nat} {f : Nat → Bool} (h : RWd w W p q pages f) (s : Same W W') : RWd w W' p q pages f := ⟨h.same.trans s, (s.block _ (lt_of_heap h.fbox) (fun e => e)).trans h.fbox, own_frameB h.seen s (fun _ _ e => e)⟩
theorem RWd.put {w W : World} {p q : Int} {pages i : Nat} {f : Nat → Bool} (h : RWd w W p q pages f) (hi : i < pages) : RWd w (W.setCell ⟨w.heap.size + 1, i, none⟩ (.bool true)) p q pages (upd f i) ∧ Fr (fun k => k = w.heap.size + 1) W (W.setCell ⟨w.heap.size + 1, i, none⟩ (.bool true)) := by
  have fr : Fr (fun k => k = w.heap.size + 1) W (W.setCell ⟨w.heap.size + 1, i, none⟩ (.bool true)) := Fr.setCell (S := fun k => k = w.heap.size + 1) (Fr.refl _ W) (p := ⟨w.heap.size + 1, i, none⟩) (fun _ => rfl) _
  refine ⟨⟨Fr.trans h.same fr (fun k hk e => by omega), (fr.block _ (lt_of_heap h.fbox) (by omega)).trans h.fbox, ?_⟩, fr⟩
  rw [← seenC_set f hi]
  exact own_set h.seen _
theorem RWd.cell {w W : World} {p q : Int} {pages i : Nat} {f : Nat → Bool} (h : RWd w W p q pages f) (hi : i < pages) : W.cell? ⟨w.heap.size + 1, i, none⟩ = some (.bool (f i)) := own_cell (own_base h.seen (Nat.zero_le _)) (seenC_at hi)
theorem RWd.frozen {w W : World} {p q : Int} {pages i : Nat} {f : Nat → Bool} (h : RWd w W p q pages f) : W.frozen? ⟨w.heap.size + 1, i, none⟩ = false := own_frozen h.seen
theorem RWd.frame {w W : World} {p q : Int} {pages : Nat} {f : Nat → Bool} (h : RWd w W p q pages f) : W.cell? ⟨w.heap.size, 0, none⟩ = some (.int .i64 p) ∧ W.cell? ⟨w.heap.size, 1, none⟩ = some (.int .i64 q) := ⟨(cell_of_row _ _ _ _ _ _ h.fbox).trans rfl, (cell_of_row _ _ _ _ _ _ h.fbox).trans rfl⟩
/-- And while one batch is. -/
structure RWb (w W : World) (p q : Int) (pages : Nat) (f : Nat → Bool) (bb pg : Nat) (xa : Option Addr) (nl xc : Nat) : Prop where
  wd : RWd w W p q pages f
  ne : w.heap.size + 1 < bb
  bbox : W.heap[bb]? = some (.cells #[.int .u32 (pg : Int), .slice xa nl xc] 53 (0, 0))
theorem RWb.fr {w W W' : World} {p q : Int} {pages : Nat} {f : Nat → Bool} {bb pg nl xc : Nat} {xa : Option Addr} (h : RWb w W p q pages f bb pg xa nl xc) (s : Same W W') : RWb w W' p q pages f bb pg xa nl xc := ⟨h.wd.fr s, h.ne, (s.block _ (lt_of_heap h.bbox) (fun e => e)).trans h.bbox⟩
theorem RWb.put {w W : World} {p q : Int} {pages i : Nat} {f : Nat → Bool} {bb pg nl xc : Nat} {xa : Option Addr} (h : RWb w W p q pages f bb pg xa nl xc) (hi : i < pages) : RWb w (W.setCell ⟨w.heap.size + 1, i, none⟩ (.bool true)) p q pages (upd f i) bb pg xa nl xc := by
  obtain ⟨h1, h2⟩ := h.wd.put hi
  exact ⟨h1, h.ne, (h2.block _ (lt_of_heap h.bbox) (by have := h.ne; omega)).trans h.bbox⟩
theorem RWb.cells {w W : World} {p q : Int} {pages : Nat} {f : Nat → Bool} {bb pg nl xc : Nat} {xa : Option Addr} (h : RWb w W p q pages f bb pg xa nl xc) : W.cell? ⟨bb, 0, none⟩ = some (.int .u32 (pg : Int)) ∧ W.cell? ⟨bb, 1, none⟩ = some (.slice xa nl xc) := ⟨(cell_of_row _ _ _ _ _ _ h.bbox).trans rfl, (cell_of_row _ _ _ _ _ _ h.bbox).trans rfl⟩
structure IR (hz : Nat) (pa : Option Addr) (n cp pages : Nat) (a : Act) : Prop where
  size : a.tmps.size = 74
  defers : a.defers = []
  s1 : a.eval (.tmp 1) = .slice pa n cp
  s2 : a.eval (.tmp 2) = .int .u32 (pages : Int)
  s3 : a.eval (.tmp 3) = .pointer (some ⟨hz, 0, none⟩)
  s7 : a.eval (.tmp 7) = .slice (some ⟨hz + 1, 0, none⟩) pages pages
theorem IR.keep {hz : Nat} {pa : Option Addr} {n cp pages : Nat} {a0 a : Act} {env : List (Nat × Value)} (h : IR hz pa n cp pages a0) (f : Fe a0 env a) (hk : ∀ t, t = 1 ∨ t = 2 ∨ t = 3 ∨ t = 7 → look env t (a0.eval (.tmp t)) = a0.eval (.tmp t)) : IR hz pa n cp pages a :=
  ⟨f.size.trans h.size, f.defers.trans h.defers, ((f.at_ 1).trans (hk 1 (by simp))).trans h.s1, ((f.at_ 2).trans (hk 2 (by simp))).trans h.s2, ((f.at_ 3).trans (hk 3 (by simp))).trans h.s3, ((f.at_ 7).trans (hk 7 (by simp))).trans h.s7⟩
set_option maxRecDepth 100000 in
set_option maxHeartbeats 1000000 in
theorem rg6a {p q : Int} {pages bb pg nl xc n cp i en : Nat} {pa xa : Option Addr} {f : Nat → Bool} {Q : Exit → Act → World → Prop} (hQp : ∀ c (a : Act) d v w, Q (.panic c) (a.put d v) w → Q (.panic c) a w) (a0 : Act) (w wr : World) (I0 : IR w.heap.size pa n cp pages a0) (h8 : a0.eval (.tmp 8) = .int .i64 (i : Int)) (h9 : a0.eval (.tmp 9) = .pointer (some ⟨bb, 0, none⟩)) (hw : RWb w wr p q pages f bb pg xa nl xc) 
    (hen : ∀ W, Calls Try.prog 40 #[.agg #[.int .i64 p, .int .i64 q]] W fun e w' => e = .returned (.int .i64 (en : Int)) ∧ Same W w')
    (hri : ∀ W, Same wr W → Calls Try.prog 39 #[.slice xa nl xc, .int .i64 (en : Int), .int .u32 (pages : Int)] W fun e w' => e = .returned (.bool false) ∧ Same W w')
    (hQ : ∀ a W, IR w.heap.size pa n cp pages a → a.eval (.tmp 8) = .int .i64 (i : Int) → a.eval (.tmp 9) = .pointer (some ⟨bb, 0, none⟩) → a.eval (.tmp 47) = .bool true → Same wr W → Q .normal a W) : (Code.region 6 rRT6 true).wp Try.prog Q a0 wr := by
  have dd : Same wr wr.drew := (Fr.refl (fun _ => False) wr).drew
  have g_0 := Fe.refl a0
  refine wp_region_held_drew (ops := rRT6) (S := fun Z => Same wr Z) (by kernel_rfl) (dd) (fun hS0 => ?_)
  have r_1 : ∀ Z, (fun Z => Same wr Z) Z → (execOp a0.eval oYF0).run Try.prog Z = .ok (.value (.pointer (some ⟨bb, 1, none⟩))) Z := fun Z hZ => by
    unfold oYF0
    have e9 := (show a0.eval (.tmp 9) = .pointer (some ⟨bb, 0, none⟩) from ((g_0.at_ 9).trans h9))
    clear g_0 hQ h8 h9
    generalize a0.eval = ρ at *
    go_simp
  refine g_0.take 0 23 _ rfl (by kernel_rfl) (by kernel_rfl) (by kernel_rfl) (fun _ _ _ h => hQp _ _ _ _ _ h) rfl (lb_ I0.size) (wn rfl) r_1 hS0 (fun x_1 g_1 => ?_)
  clear r_1 g_0
  have r_2 : ∀ Z, (fun Z => Same wr Z) Z → (execOp x_1.eval oYF1).run Try.prog Z = .ok (.value (.slice xa nl xc)) Z := fun Z hZ => by
    unfold oYF1
    obtain ⟨c1, c2⟩ := (hw.fr hZ).cells
    obtain ⟨c3, c4⟩ := (hw.fr hZ).wd.frame
    have e23 : x_1.eval (.tmp 23) = .pointer (some ⟨bb, 1, none⟩) := g_1.at_ 23
    clear g_1 hQ h8 h9
    generalize x_1.eval = ρ at *
    go_simp
  refine g_1.take 1 24 _ rfl (by kernel_rfl) (by kernel_rfl) (by kernel_rfl) (fun _ _ _ h => hQp _ _ _ _ _ h) rfl (lb_ I0.size) (wn rfl) r_2 hS0 (fun x_2 g_2 => ?_)
  clear r_2 g_1
  have r_3 : ∀ Z, (fun Z => Same wr Z) Z → (execOp x_2.eval oYF2).run Try.prog Z = .ok (.value (.agg #[.int .i64 p, .int .i64 q])) Z := fun Z hZ => by
    unfold oYF2
    obtain ⟨c1, c2⟩ := (hw.fr hZ).cells
    obtain ⟨c3, c4⟩ := (hw.fr hZ).wd.frame
    have e3 := (show x_2.eval (.tmp 3) = .pointer (some ⟨w.heap.size, 0, none⟩) from ((g_2.at_ 3).trans I0.s3))
    clear g_2 hQ h8 h9
    generalize x_2.eval = ρ at *
    go_simp
  refine g_2.take 2 25 _ rfl (by kernel_rfl) (by kernel_rfl) (by kernel_rfl) (fun _ _ _ h => hQp _ _ _ _ _ h) rfl (lb_ I0.size) (wn rfl) r_3 hS0 (fun x_3 g_3 => ?_)
  clear r_3 g_2
  refine g_3.takeMove 4 27 (.int .u32 (pages : Int)) _ (Or.inl rfl) rfl (by kernel_rfl) (by kernel_rfl) (by kernel_rfl) (fun _ _ _ h => hQp _ _ _ _ _ h) rfl (lb_ I0.size) (wn rfl) ((g_3.at_ 2).trans I0.s2) hS0 (fun x_4 g_4 => ?_)
  clear g_3
  have r_5 : (execOp x_4.eval oYF3).run Try.prog (wr.drew) = .ok (.enter 40 #[.agg #[.int .i64 p, .int .i64 q]]) (wr.drew) := by
    unfold oYF3
    have kf : ∀ f, x_4.eval (.func f) = .func (.func f) #[] #[] := fun _ => rfl
    have e25 : x_4.eval (.tmp 25) = .agg #[.int .i64 p, .int .i64 q] := g_4.at_ 25
    clear g_4 hQ h8 h9
    generalize x_4.eval = ρ at *
    go_simp
  refine g_4.oneCall 3 26 (by kernel_rfl) rfl rfl (lb_ I0.size) (wn rfl) r_5 (hen _) (fun e W1 hR => ?_)
  obtain ⟨rfl, s1⟩ := hR
  clear r_5
  have hS5 : (fun Z => Same wr Z) W1 := dd.trans s1
  refine ⟨_, rfl, hS5, fun x_5 g_5 => ?_⟩
  clear g_4
  have r_6 : (execOp x_5.eval oYF4).run Try.prog (W1) = .ok (.enter 39 #[.slice xa nl xc, .int .i64 (en : Int), .int .u32 (pages : Int)]) (W1) := by
    unfold oYF4
    have kf : ∀ f, x_5.eval (.func f) = .func (.func f) #[] #[] := fun _ => rfl
    have e24 : x_5.eval (.tmp 24) = .slice xa nl xc := g_5.at_ 24
    have e26 : x_5.eval (.tmp 26) = .int .i64 (en : Int) := g_5.at_ 26
    have e27 : x_5.eval (.tmp 27) = .int .u32 (pages : Int) := g_5.at_ 27
    clear g_5 hQ h8 h9
    generalize x_5.eval = ρ at *
    go_simp
  refine g_5.oneCall 5 28 (by kernel_rfl) rfl rfl (lb_ I0.size) (wn rfl) r_6 (hri _ (dd.trans s1)) (fun e W2 hR => ?_)
  obtain ⟨rfl, s2⟩ := hR
  clear r_6
  have hS6 : (fun Z => Same wr Z) W2 := (dd.trans s1).trans s2
  refine ⟨_, rfl, hS6, fun x_6 g_6 => ?_⟩
  clear g_5
  have r_7 : ∀ Z, (fun Z => Same wr Z) Z → (execOp x_6.eval oYF5).run Try.prog Z = .ok (.value (.bool true)) Z := fun Z hZ => by
    unfold oYF5
    have e28 : x_6.eval (.tmp 28) = .bool false := g_6.at_ 28
    clear g_6 hQ h8 h9
    generalize x_6.eval = ρ at *
    go_simp
  refine g_6.take 6 29 _ rfl (by kernel_rfl) (by kernel_rfl) (by kernel_rfl) (fun _ _ _ h => hQp _ _ _ _ _ h) rfl (lb_ I0.size) (wn rfl) r_7 hS6 (fun x_7 g_7 => ?_)
  clear r_7 g_6
  refine g_7.takeMove 7 30 (.bool true) _ (Or.inl rfl) rfl (by kernel_rfl) (by kernel_rfl) (by kernel_rfl) (fun _ _ _ h => hQp _ _ _ _ _ h) rfl (lb_ I0.size) (wn rfl) (g_7.at_ 29) hS6 (fun x_8 g_8 => ?_)
  clear g_7
  refine g_8.takeOff 8 31 rfl (by kernel_rfl) (by kernel_rfl) (by kernel_rfl) (fun _ _ _ h => hQp _ _ _ _ _ h) rfl (lb_ I0.size) ((wanted_at (t := 30) (c := true) (b := false) rfl rfl rfl (lb_ (g_8.size.trans I0.size)) (g_8.at_ 30)).trans (by rfl)) hS6 (fun x_9 g_9 => ?_)
  clear g_8
  refine g_9.takeOff 9 32 rfl (by kernel_rfl) (by kernel_rfl) (by kernel_rfl) (fun _ _ _ h => hQp _ _ _ _ _ h) rfl (lb_ I0.size) ((wanted_at (t := 30) (c := true) (b := false) rfl rfl rfl (lb_ (g_9.size.trans I0.size)) (g_9.at_ 30)).trans (by rfl)) hS6 (fun x_10 g_10 => ?_)
  clear g_9
  refine g_10.takeOff 10 33 rfl (by kernel_rfl) (by kernel_rfl) (by kernel_rfl) (fun _ _ _ h => hQp _ _ _ _ _ h) rfl (lb_ I0.size) ((wanted_at (t := 30) (c := true) (b := false) rfl rfl rfl (lb_ (g_10.size.trans I0.size)) (g_10.at_ 30)).trans (by rfl)) hS6 (fun x_11 g_11 => ?_)
  clear g_10
  have r_12 : ∀ Z, (fun Z => Same wr Z) Z → (execOp x_11.eval oYF9).run Try.prog Z = .ok (.value (.bool true)) Z := fun Z hZ => by
    unfold oYF9
    have kc : ∀ v, x_11.eval (.const v) = v := fun _ => rfl
    have e30 : x_11.eval (.tmp 30) = .bool true := g_11.at_ 30
    have e33 : x_11.eval (.tmp 33) = undef := g_11.at_ 33
    clear g_11 hQ h8 h9
    generalize x_11.eval = ρ at *
    go_simp
  refine g_11.take 11 34 _ rfl (by kernel_rfl) (by kernel_rfl) (by kernel_rfl) (fun _ _ _ h => hQp _ _ _ _ _ h) rfl (lb_ I0.size) (wn rfl) r_12 hS6 (fun x_12 g_12 => ?_)
  clear r_12 g_11
  refine g_12.takeMove 12 35 (.bool true) _ (Or.inl rfl) rfl (by kernel_rfl) (by kernel_rfl) (by kernel_rfl) (fun _ _ _ h => hQp _ _ _ _ _ h) rfl (lb_ I0.size) (wn rfl) (g_12.at_ 34) hS6 (fun x_13 g_13 => ?_)
  clear g_12
  refine g_13.takeOff 13 36 rfl (by kernel_rfl) (by kernel_rfl) (by kernel_rfl) (fun _ _ _ h => hQp _ _ _ _ _ h) rfl (lb_ I0.size) ((wanted_at (t := 35) (c := true) (b := false) rfl rfl rfl (lb_ (g_13.size.trans I0.size)) (g_13.at_ 35)).trans (by rfl)) hS6 (fun x_14 g_14 => ?_)
  clear g_13
  refine g_14.takeOff 14 37 rfl (by kernel_rfl) (by kernel_rfl) (by kernel_rfl) (fun _ _ _ h => hQp _ _ _ _ _ h) rfl (lb_ I0.size) ((wanted_at (t := 35) (c := true) (b := false) rfl rfl rfl (lb_ (g_14.size.trans I0.size)) (g_14.at_ 35)).trans (by rfl)) hS6 (fun x_15 g_15 => ?_)
  clear g_14
  refine g_15.takeOff 15 38 rfl (by kernel_rfl) (by kernel_rfl) (by kernel_rfl) (fun _ _ _ h => hQp _ _ _ _ _ h) rfl (lb_ I0.size) ((wanted_at (t := 35) (c := true) (b := false) rfl rfl rfl (lb_ (g_15.size.trans I0.size)) (g_15.at_ 35)).trans (by rfl)) hS6 (fun x_16 g_16 => ?_)
  clear g_15
  refine g_16.takeOff 16 39 rfl (by kernel_rfl) (by kernel_rfl) (by kernel_rfl) (fun _ _ _ h => hQp _ _ _ _ _ h) rfl (lb_ I0.size) ((wanted_at (t := 35) (c := true) (b := false) rfl rfl rfl (lb_ (g_16.size.trans I0.size)) (g_16.at_ 35)).trans (by rfl)) hS6 (fun x_17 g_17 => ?_)
  clear g_16
  have r_18 : ∀ Z, (fun Z => Same wr Z) Z → (execOp x_17.eval oYF13).run Try.prog Z = .ok (.value (.bool true)) Z := fun Z hZ => by
    unfold oYF13
    have kc : ∀ v, x_17.eval (.const v) = v := fun _ => rfl
    have e35 : x_17.eval (.tmp 35) = .bool true := g_17.at_ 35
    have e39 : x_17.eval (.tmp 39) = undef := g_17.at_ 39
    clear g_17 hQ h8 h9
    generalize x_17.eval = ρ at *
    go_simp
  refine g_17.take 17 40 _ rfl (by kernel_rfl) (by kernel_rfl) (by kernel_rfl) (fun _ _ _ h => hQp _ _ _ _ _ h) rfl (lb_ I0.size) (wn rfl) r_18 hS6 (fun x_18 g_18 => ?_)
  clear r_18 g_17
  refine g_18.takeMove 18 41 (.bool true) _ (Or.inl rfl) rfl (by kernel_rfl) (by kernel_rfl) (by kernel_rfl) (fun _ _ _ h => hQp _ _ _ _ _ h) rfl (lb_ I0.size) (wn rfl) (g_18.at_ 40) hS6 (fun x_19 g_19 => ?_)
  clear g_18
  refine g_19.takeOff 19 42 rfl (by kernel_rfl) (by kernel_rfl) (by kernel_rfl) (fun _ _ _ h => hQp _ _ _ _ _ h) rfl (lb_ I0.size) ((wanted_at (t := 41) (c := true) (b := false) rfl rfl rfl (lb_ (g_19.size.trans I0.size)) (g_19.at_ 41)).trans (by rfl)) hS6 (fun x_20 g_20 => ?_)
  clear g_19
  refine g_20.takeOff 20 43 rfl (by kernel_rfl) (by kernel_rfl) (by kernel_rfl) (fun _ _ _ h => hQp _ _ _ _ _ h) rfl (lb_ I0.size) ((wanted_at (t := 41) (c := true) (b := false) rfl rfl rfl (lb_ (g_20.size.trans I0.size)) (g_20.at_ 41)).trans (by rfl)) hS6 (fun x_21 g_21 => ?_)
  clear g_20
  refine g_21.takeOff 21 44 rfl (by kernel_rfl) (by kernel_rfl) (by kernel_rfl) (fun _ _ _ h => hQp _ _ _ _ _ h) rfl (lb_ I0.size) ((wanted_at (t := 41) (c := true) (b := false) rfl rfl rfl (lb_ (g_21.size.trans I0.size)) (g_21.at_ 41)).trans (by rfl)) hS6 (fun x_22 g_22 => ?_)
  clear g_21
  refine g_22.takeOff 22 45 rfl (by kernel_rfl) (by kernel_rfl) (by kernel_rfl) (fun _ _ _ h => hQp _ _ _ _ _ h) rfl (lb_ I0.size) ((wanted_at (t := 41) (c := true) (b := false) rfl rfl rfl (lb_ (g_22.size.trans I0.size)) (g_22.at_ 41)).trans (by rfl)) hS6 (fun x_23 g_23 => ?_)
  clear g_22
  refine g_23.takeOff 23 46 rfl (by kernel_rfl) (by kernel_rfl) (by kernel_rfl) (fun _ _ _ h => hQp _ _ _ _ _ h) rfl (lb_ I0.size) ((wanted_at (t := 41) (c := true) (b := false) rfl rfl rfl (lb_ (g_23.size.trans I0.size)) (g_23.at_ 41)).trans (by rfl)) hS6 (fun x_24 g_24 => ?_)
  clear g_23
  have r_25 : ∀ Z, (fun Z => Same wr Z) Z → (execOp x_24.eval oYF18).run Try.prog Z = .ok (.value (.bool true)) Z := fun Z hZ => by
    unfold oYF18
    have kc : ∀ v, x_24.eval (.const v) = v := fun _ => rfl
    have e41 : x_24.eval (.tmp 41) = .bool true := g_24.at_ 41
    have e46 : x_24.eval (.tmp 46) = undef := g_24.at_ 46
    clear g_24 hQ h8 h9
    generalize x_24.eval = ρ at *
    go_simp
  refine g_24.take 24 47 _ rfl (by kernel_rfl) (by kernel_rfl) (by kernel_rfl) (fun _ _ _ h => hQp _ _ _ _ _ h) rfl (lb_ I0.size) (wn rfl) r_25 hS6 (fun x_25 g_25 => ?_)
  clear r_25 g_24
  refine wpAnyH_done (by kernel_rfl) ?_ _
  exact hQ x_25 W2 (I0.keep g_25 (fun t ht => by rcases ht with rfl | rfl | rfl | rfl <;> rfl)) (show x_25.eval (.tmp 8) = .int .i64 (i : Int) from ((g_25.at_ 8).trans h8)) (show x_25.eval (.tmp 9) = .pointer (some ⟨bb, 0, none⟩) from ((g_25.at_ 9).trans h9)) (show x_25.eval (.tmp 47) = .bool true from (g_25.at_ 47)) ((dd.trans s1).trans s2)
set_option maxRecDepth 100000 in
set_option maxHeartbeats 1000000 in
theorem rg6b {p q : Int} {pages bb pg nl xc n cp i en : Nat} {pa xa : Option Addr} {f : Nat → Bool} {Q : Exit → Act → World → Prop} (hQp : ∀ c (a : Act) d v w, Q (.panic c) (a.put d v) w → Q (.panic c) a w) (a0 : Act) (w wr : World) (I0 : IR w.heap.size pa n cp pages a0) (h8 : a0.eval (.tmp 8) = .int .i64 (i : Int)) (h9 : a0.eval (.tmp 9) = .pointer (some ⟨bb, 0, none⟩)) (hw : RWb w wr p q pages f bb pg xa nl xc) (h2 : pg < 2)
    (hen : ∀ W, Calls Try.prog 40 #[.agg #[.int .i64 p, .int .i64 q]] W fun e w' => e = .returned (.int .i64 (en : Int)) ∧ Same W w')
    (hri : ∀ W, Same wr W → Calls Try.prog 39 #[.slice xa nl xc, .int .i64 (en : Int), .int .u32 (pages : Int)] W fun e w' => e = .returned (.bool true) ∧ Same W w')
    (hQ : ∀ a W, IR w.heap.size pa n cp pages a → a.eval (.tmp 8) = .int .i64 (i : Int) → a.eval (.tmp 9) = .pointer (some ⟨bb, 0, none⟩) → a.eval (.tmp 47) = .bool true → Same wr W → Q .normal a W) : (Code.region 6 rRT6 true).wp Try.prog Q a0 wr := by
  have dd : Same wr wr.drew := (Fr.refl (fun _ => False) wr).drew
  have hi2 : (pg : Int) < 2 := by omega
  have g_0 := Fe.refl a0
  refine wp_region_held_drew (ops := rRT6) (S := fun Z => Same wr Z) (by kernel_rfl) (dd) (fun hS0 => ?_)
  have r_1 : ∀ Z, (fun Z => Same wr Z) Z → (execOp a0.eval oYF0).run Try.prog Z = .ok (.value (.pointer (some ⟨bb, 1, none⟩))) Z := fun Z hZ => by
    unfold oYF0
    have e9 := (show a0.eval (.tmp 9) = .pointer (some ⟨bb, 0, none⟩) from ((g_0.at_ 9).trans h9))
    clear g_0 hQ h8 h9
    generalize a0.eval = ρ at *
    go_simp
  refine g_0.take 0 23 _ rfl (by kernel_rfl) (by kernel_rfl) (by kernel_rfl) (fun _ _ _ h => hQp _ _ _ _ _ h) rfl (lb_ I0.size) (wn rfl) r_1 hS0 (fun x_1 g_1 => ?_)
  clear r_1 g_0
  have r_2 : ∀ Z, (fun Z => Same wr Z) Z → (execOp x_1.eval oYF1).run Try.prog Z = .ok (.value (.slice xa nl xc)) Z := fun Z hZ => by
    unfold oYF1
    obtain ⟨c1, c2⟩ := (hw.fr hZ).cells
    obtain ⟨c3, c4⟩ := (hw.fr hZ).wd.frame
    have e23 : x_1.eval (.tmp 23) = .pointer (some ⟨bb, 1, none⟩) := g_1.at_ 23
    clear g_1 hQ h8 h9
    generalize x_1.eval = ρ at *
    go_simp
  refine g_1.take 1 24 _ rfl (by kernel_rfl) (by kernel_rfl) (by kernel_rfl) (fun _ _ _ h => hQp _ _ _ _ _ h) rfl (lb_ I0.size) (wn rfl) r_2 hS0 (fun x_2 g_2 => ?_)
  clear r_2 g_1
  have r_3 : ∀ Z, (fun Z => Same wr Z) Z → (execOp x_2.eval oYF2).run Try.prog Z = .ok (.value (.agg #[.int .i64 p, .int .i64 q])) Z := fun Z hZ => by
    unfold oYF2
    obtain ⟨c1, c2⟩ := (hw.fr hZ).cells
    obtain ⟨c3, c4⟩ := (hw.fr hZ).wd.frame
    have e3 := (show x_2.eval (.tmp 3) = .pointer (some ⟨w.heap.size, 0, none⟩) from ((g_2.at_ 3).trans I0.s3))
    clear g_2 hQ h8 h9
    generalize x_2.eval = ρ at *
    go_simp
  refine g_2.take 2 25 _ rfl (by kernel_rfl) (by kernel_rfl) (by kernel_rfl) (fun _ _ _ h => hQp _ _ _ _ _ h) rfl (lb_ I0.size) (wn rfl) r_3 hS0 (fun x_3 g_3 => ?_)
  clear r_3 g_2
  refine g_3.takeMove 4 27 (.int .u32 (pages : Int)) _ (Or.inl rfl) rfl (by kernel_rfl) (by kernel_rfl) (by kernel_rfl) (fun _ _ _ h => hQp _ _ _ _ _ h) rfl (lb_ I0.size) (wn rfl) ((g_3.at_ 2).trans I0.s2) hS0 (fun x_4 g_4 => ?_)
  clear g_3
  have r_5 : (execOp x_4.eval oYF3).run Try.prog (wr.drew) = .ok (.enter 40 #[.agg #[.int .i64 p, .int .i64 q]]) (wr.drew) := by
    unfold oYF3
    have kf : ∀ f, x_4.eval (.func f) = .func (.func f) #[] #[] := fun _ => rfl
    have e25 : x_4.eval (.tmp 25) = .agg #[.int .i64 p, .int .i64 q] := g_4.at_ 25
    clear g_4 hQ h8 h9
    generalize x_4.eval = ρ at *
    go_simp
  refine g_4.oneCall 3 26 (by kernel_rfl) rfl rfl (lb_ I0.size) (wn rfl) r_5 (hen _) (fun e W1 hR => ?_)
  obtain ⟨rfl, s1⟩ := hR
  clear r_5
  have hS5 : (fun Z => Same wr Z) W1 := dd.trans s1
  refine ⟨_, rfl, hS5, fun x_5 g_5 => ?_⟩
  clear g_4
  have r_6 : (execOp x_5.eval oYF4).run Try.prog (W1) = .ok (.enter 39 #[.slice xa nl xc, .int .i64 (en : Int), .int .u32 (pages : Int)]) (W1) := by
    unfold oYF4
    have kf : ∀ f, x_5.eval (.func f) = .func (.func f) #[] #[] := fun _ => rfl
    have e24 : x_5.eval (.tmp 24) = .slice xa nl xc := g_5.at_ 24
    have e26 : x_5.eval (.tmp 26) = .int .i64 (en : Int) := g_5.at_ 26
    have e27 : x_5.eval (.tmp 27) = .int .u32 (pages : Int) := g_5.at_ 27
    clear g_5 hQ h8 h9
    generalize x_5.eval = ρ at *
    go_simp
  refine g_5.oneCall 5 28 (by kernel_rfl) rfl rfl (lb_ I0.size) (wn rfl) r_6 (hri _ (dd.trans s1)) (fun e W2 hR => ?_)
  obtain ⟨rfl, s2⟩ := hR
  clear r_6
  have hS6 : (fun Z => Same wr Z) W2 := (dd.trans s1).trans s2
  refine ⟨_, rfl, hS6, fun x_6 g_6 => ?_⟩
  clear g_5
  have r_7 : ∀ Z, (fun Z => Same wr Z) Z → (execOp x_6.eval oYF5).run Try.prog Z = .ok (.value (.bool false)) Z := fun Z hZ => by
    unfold oYF5
    have e28 : x_6.eval (.tmp 28) = .bool true := g_6.at_ 28
    clear g_6 hQ h8 h9
    generalize x_6.eval = ρ at *
    go_simp
  refine g_6.take 6 29 _ rfl (by kernel_rfl) (by kernel_rfl) (by kernel_rfl) (fun _ _ _ h => hQp _ _ _ _ _ h) rfl (lb_ I0.size) (wn rfl) r_7 hS6 (fun x_7 g_7 => ?_)
  clear r_7 g_6
  refine g_7.takeMove 7 30 (.bool false) _ (Or.inl rfl) rfl (by kernel_rfl) (by kernel_rfl) (by kernel_rfl) (fun _ _ _ h => hQp _ _ _ _ _ h) rfl (lb_ I0.size) (wn rfl) (g_7.at_ 29) hS6 (fun x_8 g_8 => ?_)
  clear g_7
  have r_9 : ∀ Z, (fun Z => Same wr Z) Z → (execOp x_8.eval oYF6).run Try.prog Z = .ok (.value (.pointer (some ⟨bb, 0, none⟩))) Z := fun Z hZ => by
    unfold oYF6
    have e9 := (show x_8.eval (.tmp 9) = .pointer (some ⟨bb, 0, none⟩) from ((g_8.at_ 9).trans h9))
    clear g_8 hQ h8 h9
    generalize x_8.eval = ρ at *
    go_simp
  refine g_8.take 8 31 _ rfl (by kernel_rfl) (by kernel_rfl) (by kernel_rfl) (fun _ _ _ h => hQp _ _ _ _ _ h) rfl (lb_ I0.size) ((wanted_at (t := 30) (c := false) (b := false) rfl rfl rfl (lb_ (g_8.size.trans I0.size)) (g_8.at_ 30)).trans (by rfl)) r_9 hS6 (fun x_9 g_9 => ?_)
  clear r_9 g_8
  have r_10 : ∀ Z, (fun Z => Same wr Z) Z → (execOp x_9.eval oYF7).run Try.prog Z = .ok (.value (.int .u32 (pg : Int))) Z := fun Z hZ => by
    unfold oYF7
    obtain ⟨c1, c2⟩ := (hw.fr hZ).cells
    obtain ⟨c3, c4⟩ := (hw.fr hZ).wd.frame
    have e31 : x_9.eval (.tmp 31) = .pointer (some ⟨bb, 0, none⟩) := g_9.at_ 31
    clear g_9 hQ h8 h9
    generalize x_9.eval = ρ at *
    go_simp
  refine g_9.take 9 32 _ rfl (by kernel_rfl) (by kernel_rfl) (by kernel_rfl) (fun _ _ _ h => hQp _ _ _ _ _ h) rfl (lb_ I0.size) ((wanted_at (t := 30) (c := false) (b := false) rfl rfl rfl (lb_ (g_9.size.trans I0.size)) (g_9.at_ 30)).trans (by rfl)) r_10 hS6 (fun x_10 g_10 => ?_)
  clear r_10 g_9
  have r_11 : ∀ Z, (fun Z => Same wr Z) Z → (execOp x_10.eval oYF8).run Try.prog Z = .ok (.value (.bool true)) Z := fun Z hZ => by
    unfold oYF8
    have kc : ∀ v, x_10.eval (.const v) = v := fun _ => rfl
    have e32 : x_10.eval (.tmp 32) = .int .u32 (pg : Int) := g_10.at_ 32
    clear g_10 hQ h8 h9
    generalize x_10.eval = ρ at *
    go_simp
  refine g_10.take 10 33 _ rfl (by kernel_rfl) (by kernel_rfl) (by kernel_rfl) (fun _ _ _ h => hQp _ _ _ _ _ h) rfl (lb_ I0.size) ((wanted_at (t := 30) (c := false) (b := false) rfl rfl rfl (lb_ (g_10.size.trans I0.size)) (g_10.at_ 30)).trans (by rfl)) r_11 hS6 (fun x_11 g_11 => ?_)
  clear r_11 g_10
  have r_12 : ∀ Z, (fun Z => Same wr Z) Z → (execOp x_11.eval oYF9).run Try.prog Z = .ok (.value (.bool true)) Z := fun Z hZ => by
    unfold oYF9
    have kc : ∀ v, x_11.eval (.const v) = v := fun _ => rfl
    have e30 : x_11.eval (.tmp 30) = .bool false := g_11.at_ 30
    have e33 : x_11.eval (.tmp 33) = .bool true := g_11.at_ 33
    clear g_11 hQ h8 h9
    generalize x_11.eval = ρ at *
    go_simp
  refine g_11.take 11 34 _ rfl (by kernel_rfl) (by kernel_rfl) (by kernel_rfl) (fun _ _ _ h => hQp _ _ _ _ _ h) rfl (lb_ I0.size) (wn rfl) r_12 hS6 (fun x_12 g_12 => ?_)
  clear r_12 g_11
  refine g_12.takeMove 12 35 (.bool true) _ (Or.inl rfl) rfl (by kernel_rfl) (by kernel_rfl) (by kernel_rfl) (fun _ _ _ h => hQp _ _ _ _ _ h) rfl (lb_ I0.size) (wn rfl) (g_12.at_ 34) hS6 (fun x_13 g_13 => ?_)
  clear g_12
  refine g_13.takeOff 13 36 rfl (by kernel_rfl) (by kernel_rfl) (by kernel_rfl) (fun _ _ _ h => hQp _ _ _ _ _ h) rfl (lb_ I0.size) ((wanted_at (t := 35) (c := true) (b := false) rfl rfl rfl (lb_ (g_13.size.trans I0.size)) (g_13.at_ 35)).trans (by rfl)) hS6 (fun x_14 g_14 => ?_)
  clear g_13
  refine g_14.takeOff 14 37 rfl (by kernel_rfl) (by kernel_rfl) (by kernel_rfl) (fun _ _ _ h => hQp _ _ _ _ _ h) rfl (lb_ I0.size) ((wanted_at (t := 35) (c := true) (b := false) rfl rfl rfl (lb_ (g_14.size.trans I0.size)) (g_14.at_ 35)).trans (by rfl)) hS6 (fun x_15 g_15 => ?_)
  clear g_14
  refine g_15.takeOff 15 38 rfl (by kernel_rfl) (by kernel_rfl) (by kernel_rfl) (fun _ _ _ h => hQp _ _ _ _ _ h) rfl (lb_ I0.size) ((wanted_at (t := 35) (c := true) (b := false) rfl rfl rfl (lb_ (g_15.size.trans I0.size)) (g_15.at_ 35)).trans (by rfl)) hS6 (fun x_16 g_16 => ?_)
  clear g_15
  refine g_16.takeOff 16 39 rfl (by kernel_rfl) (by kernel_rfl) (by kernel_rfl) (fun _ _ _ h => hQp _ _ _ _ _ h) rfl (lb_ I0.size) ((wanted_at (t := 35) (c := true) (b := false) rfl rfl rfl (lb_ (g_16.size.trans I0.size)) (g_16.at_ 35)).trans (by rfl)) hS6 (fun x_17 g_17 => ?_)
  clear g_16
  have r_18 : ∀ Z, (fun Z => Same wr Z) Z → (execOp x_17.eval oYF13).run Try.prog Z = .ok (.value (.bool true)) Z := fun Z hZ => by
    unfold oYF13
    have kc : ∀ v, x_17.eval (.const v) = v := fun _ => rfl
    have e35 : x_17.eval (.tmp 35) = .bool true := g_17.at_ 35
    have e39 : x_17.eval (.tmp 39) = undef := g_17.at_ 39
    clear g_17 hQ h8 h9
    generalize x_17.eval = ρ at *
    go_simp
  refine g_17.take 17 40 _ rfl (by kernel_rfl) (by kernel_rfl) (by kernel_rfl) (fun _ _ _ h => hQp _ _ _ _ _ h) rfl (lb_ I0.size) (wn rfl) r_18 hS6 (fun x_18 g_18 => ?_)
  clear r_18 g_17
  refine g_18.takeMove 18 41 (.bool true) _ (Or.inl rfl) rfl (by kernel_rfl) (by kernel_rfl) (by kernel_rfl) (fun _ _ _ h => hQp _ _ _ _ _ h) rfl (lb_ I0.size) (wn rfl) (g_18.at_ 40) hS6 (fun x_19 g_19 => ?_)
  clear g_18
  refine g_19.takeOff 19 42 rfl (by kernel_rfl) (by kernel_rfl) (by kernel_rfl) (fun _ _ _ h => hQp _ _ _ _ _ h) rfl (lb_ I0.size) ((wanted_at (t := 41) (c := true) (b := false) rfl rfl rfl (lb_ (g_19.size.trans I0.size)) (g_19.at_ 41)).trans (by rfl)) hS6 (fun x_20 g_20 => ?_)
  clear g_19
  refine g_20.takeOff 20 43 rfl (by kernel_rfl) (by kernel_rfl) (by kernel_rfl) (fun _ _ _ h => hQp _ _ _ _ _ h) rfl (lb_ I0.size) ((wanted_at (t := 41) (c := true) (b := false) rfl rfl rfl (lb_ (g_20.size.trans I0.size)) (g_20.at_ 41)).trans (by rfl)) hS6 (fun x_21 g_21 => ?_)
  clear g_20
  refine g_21.takeOff 21 44 rfl (by kernel_rfl) (by kernel_rfl) (by kernel_rfl) (fun _ _ _ h => hQp _ _ _ _ _ h) rfl (lb_ I0.size) ((wanted_at (t := 41) (c := true) (b := false) rfl rfl rfl (lb_ (g_21.size.trans I0.size)) (g_21.at_ 41)).trans (by rfl)) hS6 (fun x_22 g_22 => ?_)
  clear g_21
  refine g_22.takeOff 22 45 rfl (by kernel_rfl) (by kernel_rfl) (by kernel_rfl) (fun _ _ _ h => hQp _ _ _ _ _ h) rfl (lb_ I0.size) ((wanted_at (t := 41) (c := true) (b := false) rfl rfl rfl (lb_ (g_22.size.trans I0.size)) (g_22.at_ 41)).trans (by rfl)) hS6 (fun x_23 g_23 => ?_)
  clear g_22
  refine g_23.takeOff 23 46 rfl (by kernel_rfl) (by kernel_rfl) (by kernel_rfl) (fun _ _ _ h => hQp _ _ _ _ _ h) rfl (lb_ I0.size) ((wanted_at (t := 41) (c := true) (b := false) rfl rfl rfl (lb_ (g_23.size.trans I0.size)) (g_23.at_ 41)).trans (by rfl)) hS6 (fun x_24 g_24 => ?_)
  clear g_23
  have r_25 : ∀ Z, (fun Z => Same wr Z) Z → (execOp x_24.eval oYF18).run Try.prog Z = .ok (.value (.bool true)) Z := fun Z hZ => by
    unfold oYF18
    have kc : ∀ v, x_24.eval (.const v) = v := fun _ => rfl
    have e41 : x_24.eval (.tmp 41) = .bool true := g_24.at_ 41
    have e46 : x_24.eval (.tmp 46) = undef := g_24.at_ 46
    clear g_24 hQ h8 h9
    generalize x_24.eval = ρ at *
    go_simp
  refine g_24.take 24 47 _ rfl (by kernel_rfl) (by kernel_rfl) (by kernel_rfl) (fun _ _ _ h => hQp _ _ _ _ _ h) rfl (lb_ I0.size) (wn rfl) r_25 hS6 (fun x_25 g_25 => ?_)
  clear r_25 g_24
  refine wpAnyH_done (by kernel_rfl) ?_ _
  exact hQ x_25 W2 (I0.keep g_25 (fun t ht => by rcases ht with rfl | rfl | rfl | rfl <;> rfl)) (show x_25.eval (.tmp 8) = .int .i64 (i : Int) from ((g_25.at_ 8).trans h8)) (show x_25.eval (.tmp 9) = .pointer (some ⟨bb, 0, none⟩) from ((g_25.at_ 9).trans h9)) (show x_25.eval (.tmp 47) = .bool true from (g_25.at_ 47)) ((dd.trans s1).trans s2)
set_option maxRecDepth 100000 in
set_option maxHeartbeats 1000000 in
theorem rg6c {p q : Int} {pages bb pg nl xc n cp i en : Nat} {pa xa : Option Addr} {f : Nat → Bool} {Q : Exit → Act → World → Prop} (hQp : ∀ c (a : Act) d v w, Q (.panic c) (a.put d v) w → Q (.panic c) a w) (a0 : Act) (w wr : World) (I0 : IR w.heap.size pa n cp pages a0) (h8 : a0.eval (.tmp 8) = .int .i64 (i : Int)) (h9 : a0.eval (.tmp 9) = .pointer (some ⟨bb, 0, none⟩)) (hw : RWb w wr p q pages f bb pg xa nl xc) (h2 : 2 ≤ pg) (h3 : pages ≤ pg)
    (hen : ∀ W, Calls Try.prog 40 #[.agg #[.int .i64 p, .int .i64 q]] W fun e w' => e = .returned (.int .i64 (en : Int)) ∧ Same W w')
    (hri : ∀ W, Same wr W → Calls Try.prog 39 #[.slice xa nl xc, .int .i64 (en : Int), .int .u32 (pages : Int)] W fun e w' => e = .returned (.bool true) ∧ Same W w')
    (hQ : ∀ a W, IR w.heap.size pa n cp pages a → a.eval (.tmp 8) = .int .i64 (i : Int) → a.eval (.tmp 9) = .pointer (some ⟨bb, 0, none⟩) → a.eval (.tmp 47) = .bool true → Same wr W → Q .normal a W) : (Code.region 6 rRT6 true).wp Try.prog Q a0 wr := by
  have dd : Same wr wr.drew := (Fr.refl (fun _ => False) wr).drew
  have hi2 : decide ((pg : Int) < 2) = false := decide_eq_false (by omega)
  have hi3 : (pages : Int) ≤ (pg : Int) := by omega
  have g_0 := Fe.refl a0
  refine wp_region_held_drew (ops := rRT6) (S := fun Z => Same wr Z) (by kernel_rfl) (dd) (fun hS0 => ?_)
  have r_1 : ∀ Z, (fun Z => Same wr Z) Z → (execOp a0.eval oYF0).run Try.prog Z = .ok (.value (.pointer (some ⟨bb, 1, none⟩))) Z := fun Z hZ => by
    unfold oYF0
    have e9 := (show a0.eval (.tmp 9) = .pointer (some ⟨bb, 0, none⟩) from ((g_0.at_ 9).trans h9))
    clear g_0 hQ h8 h9
    generalize a0.eval = ρ at *
    go_simp
  refine g_0.take 0 23 _ rfl (by kernel_rfl) (by kernel_rfl) (by kernel_rfl) (fun _ _ _ h => hQp _ _ _ _ _ h) rfl (lb_ I0.size) (wn rfl) r_1 hS0 (fun x_1 g_1 => ?_)
  clear r_1 g_0
  have r_2 : ∀ Z, (fun Z => Same wr Z) Z → (execOp x_1.eval oYF1).run Try.prog Z = .ok (.value (.slice xa nl xc)) Z := fun Z hZ => by
    unfold oYF1
    obtain ⟨c1, c2⟩ := (hw.fr hZ).cells
    obtain ⟨c3, c4⟩ := (hw.fr hZ).wd.frame
    have e23 : x_1.eval (.tmp 23) = .pointer (some ⟨bb, 1, none⟩) := g_1.at_ 23
    clear g_1 hQ h8 h9
    generalize x_1.eval = ρ at *
    go_simp
  refine g_1.take 1 24 _ rfl (by kernel_rfl) (by kernel_rfl) (by kernel_rfl) (fun _ _ _ h => hQp _ _ _ _ _ h) rfl (lb_ I0.size) (wn rfl) r_2 hS0 (fun x_2 g_2 => ?_)
  clear r_2 g_1
  have r_3 : ∀ Z, (fun Z => Same wr Z) Z → (execOp x_2.eval oYF2).run Try.prog Z = .ok (.value (.agg #[.int .i64 p, .int .i64 q])) Z := fun Z hZ => by
    unfold oYF2
    obtain ⟨c1, c2⟩ := (hw.fr hZ).cells
    obtain ⟨c3, c4⟩ := (hw.fr hZ).wd.frame
    have e3 := (show x_2.eval (.tmp 3) = .pointer (some ⟨w.heap.size, 0, none⟩) from ((g_2.at_ 3).trans I0.s3))
    clear g_2 hQ h8 h9
    generalize x_2.eval = ρ at *
    go_simp
  refine g_2.take 2 25 _ rfl (by kernel_rfl) (by kernel_rfl) (by kernel_rfl) (fun _ _ _ h => hQp _ _ _ _ _ h) rfl (lb_ I0.size) (wn rfl) r_3 hS0 (fun x_3 g_3 => ?_)
  clear r_3 g_2
  refine g_3.takeMove 4 27 (.int .u32 (pages : Int)) _ (Or.inl rfl) rfl (by kernel_rfl) (by kernel_rfl) (by kernel_rfl) (fun _ _ _ h => hQp _ _ _ _ _ h) rfl (lb_ I0.size) (wn rfl) ((g_3.at_ 2).trans I0.s2) hS0 (fun x_4 g_4 => ?_)
  clear g_3
  have r_5 : (execOp x_4.eval oYF3).run Try.prog (wr.drew) = .ok (.enter 40 #[.agg #[.int .i64 p, .int .i64 q]]) (wr.drew) := by
    unfold oYF3
    have kf : ∀ f, x_4.eval (.func f) = .func (.func f) #[] #[] := fun _ => rfl
    have e25 : x_4.eval (.tmp 25) = .agg #[.int .i64 p, .int .i64 q] := g_4.at_ 25
    clear g_4 hQ h8 h9
    generalize x_4.eval = ρ at *
    go_simp
  refine g_4.oneCall 3 26 (by kernel_rfl) rfl rfl (lb_ I0.size) (wn rfl) r_5 (hen _) (fun e W1 hR => ?_)
  obtain ⟨rfl, s1⟩ := hR
  clear r_5
  have hS5 : (fun Z => Same wr Z) W1 := dd.trans s1
  refine ⟨_, rfl, hS5, fun x_5 g_5 => ?_⟩
  clear g_4
  have r_6 : (execOp x_5.eval oYF4).run Try.prog (W1) = .ok (.enter 39 #[.slice xa nl xc, .int .i64 (en : Int), .int .u32 (pages : Int)]) (W1) := by
    unfold oYF4
    have kf : ∀ f, x_5.eval (.func f) = .func (.func f) #[] #[] := fun _ => rfl
    have e24 : x_5.eval (.tmp 24) = .slice xa nl xc := g_5.at_ 24
    have e26 : x_5.eval (.tmp 26) = .int .i64 (en : Int) := g_5.at_ 26
    have e27 : x_5.eval (.tmp 27) = .int .u32 (pages : Int) := g_5.at_ 27
    clear g_5 hQ h8 h9
    generalize x_5.eval = ρ at *
    go_simp
  refine g_5.oneCall 5 28 (by kernel_rfl) rfl rfl (lb_ I0.size) (wn rfl) r_6 (hri _ (dd.trans s1)) (fun e W2 hR => ?_)
  obtain ⟨rfl, s2⟩ := hR
  clear r_6
  have hS6 : (fun Z => Same wr Z) W2 := (dd.trans s1).trans s2
  refine ⟨_, rfl, hS6, fun x_6 g_6 => ?_⟩
  clear g_5
  have r_7 : ∀ Z, (fun Z => Same wr Z) Z → (execOp x_6.eval oYF5).run Try.prog Z = .ok (.value (.bool false)) Z := fun Z hZ => by
    unfold oYF5
    have e28 : x_6.eval (.tmp 28) = .bool true := g_6.at_ 28
    clear g_6 hQ h8 h9
    generalize x_6.eval = ρ at *
    go_simp
  refine g_6.take 6 29 _ rfl (by kernel_rfl) (by kernel_rfl) (by kernel_rfl) (fun _ _ _ h => hQp _ _ _ _ _ h) rfl (lb_ I0.size) (wn rfl) r_7 hS6 (fun x_7 g_7 => ?_)
  clear r_7 g_6
  refine g_7.takeMove 7 30 (.bool false) _ (Or.inl rfl) rfl (by kernel_rfl) (by kernel_rfl) (by kernel_rfl) (fun _ _ _ h => hQp _ _ _ _ _ h) rfl (lb_ I0.size) (wn rfl) (g_7.at_ 29) hS6 (fun x_8 g_8 => ?_)
  clear g_7
  have r_9 : ∀ Z, (fun Z => Same wr Z) Z → (execOp x_8.eval oYF6).run Try.prog Z = .ok (.value (.pointer (some ⟨bb, 0, none⟩))) Z := fun Z hZ => by
    unfold oYF6
    have e9 := (show x_8.eval (.tmp 9) = .pointer (some ⟨bb, 0, none⟩) from ((g_8.at_ 9).trans h9))
    clear g_8 hQ h8 h9
    generalize x_8.eval = ρ at *
    go_simp
  refine g_8.take 8 31 _ rfl (by kernel_rfl) (by kernel_rfl) (by kernel_rfl) (fun _ _ _ h => hQp _ _ _ _ _ h) rfl (lb_ I0.size) ((wanted_at (t := 30) (c := false) (b := false) rfl rfl rfl (lb_ (g_8.size.trans I0.size)) (g_8.at_ 30)).trans (by rfl)) r_9 hS6 (fun x_9 g_9 => ?_)
  clear r_9 g_8
  have r_10 : ∀ Z, (fun Z => Same wr Z) Z → (execOp x_9.eval oYF7).run Try.prog Z = .ok (.value (.int .u32 (pg : Int))) Z := fun Z hZ => by
    unfold oYF7
    obtain ⟨c1, c2⟩ := (hw.fr hZ).cells
    obtain ⟨c3, c4⟩ := (hw.fr hZ).wd.frame
    have e31 : x_9.eval (.tmp 31) = .pointer (some ⟨bb, 0, none⟩) := g_9.at_ 31
    clear g_9 hQ h8 h9
    generalize x_9.eval = ρ at *
    go_simp
  refine g_9.take 9 32 _ rfl (by kernel_rfl) (by kernel_rfl) (by kernel_rfl) (fun _ _ _ h => hQp _ _ _ _ _ h) rfl (lb_ I0.size) ((wanted_at (t := 30) (c := false) (b := false) rfl rfl rfl (lb_ (g_9.size.trans I0.size)) (g_9.at_ 30)).trans (by rfl)) r_10 hS6 (fun x_10 g_10 => ?_)
  clear r_10 g_9
  have r_11 : ∀ Z, (fun Z => Same wr Z) Z → (execOp x_10.eval oYF8).run Try.prog Z = .ok (.value (.bool false)) Z := fun Z hZ => by
    unfold oYF8
    have kc : ∀ v, x_10.eval (.const v) = v := fun _ => rfl
    have e32 : x_10.eval (.tmp 32) = .int .u32 (pg : Int) := g_10.at_ 32
    clear g_10 hQ h8 h9
    generalize x_10.eval = ρ at *
    go_simp
  refine g_10.take 10 33 _ rfl (by kernel_rfl) (by kernel_rfl) (by kernel_rfl) (fun _ _ _ h => hQp _ _ _ _ _ h) rfl (lb_ I0.size) ((wanted_at (t := 30) (c := false) (b := false) rfl rfl rfl (lb_ (g_10.size.trans I0.size)) (g_10.at_ 30)).trans (by rfl)) r_11 hS6 (fun x_11 g_11 => ?_)
  clear r_11 g_10
  have r_12 : ∀ Z, (fun Z => Same wr Z) Z → (execOp x_11.eval oYF9).run Try.prog Z = .ok (.value (.bool false)) Z := fun Z hZ => by
    unfold oYF9
    have kc : ∀ v, x_11.eval (.const v) = v := fun _ => rfl
    have e30 : x_11.eval (.tmp 30) = .bool false := g_11.at_ 30
    have e33 : x_11.eval (.tmp 33) = .bool false := g_11.at_ 33
    clear g_11 hQ h8 h9
    generalize x_11.eval = ρ at *
    go_simp
  refine g_11.take 11 34 _ rfl (by kernel_rfl) (by kernel_rfl) (by kernel_rfl) (fun _ _ _ h => hQp _ _ _ _ _ h) rfl (lb_ I0.size) (wn rfl) r_12 hS6 (fun x_12 g_12 => ?_)
  clear r_12 g_11
  refine g_12.takeMove 12 35 (.bool false) _ (Or.inl rfl) rfl (by kernel_rfl) (by kernel_rfl) (by kernel_rfl) (fun _ _ _ h => hQp _ _ _ _ _ h) rfl (lb_ I0.size) (wn rfl) (g_12.at_ 34) hS6 (fun x_13 g_13 => ?_)
  clear g_12
  have r_14 : ∀ Z, (fun Z => Same wr Z) Z → (execOp x_13.eval oYF10).run Try.prog Z = .ok (.value (.pointer (some ⟨bb, 0, none⟩))) Z := fun Z hZ => by
    unfold oYF10
    have e9 := (show x_13.eval (.tmp 9) = .pointer (some ⟨bb, 0, none⟩) from ((g_13.at_ 9).trans h9))
    clear g_13 hQ h8 h9
    generalize x_13.eval = ρ at *
    go_simp
  refine g_13.take 13 36 _ rfl (by kernel_rfl) (by kernel_rfl) (by kernel_rfl) (fun _ _ _ h => hQp _ _ _ _ _ h) rfl (lb_ I0.size) ((wanted_at (t := 35) (c := false) (b := false) rfl rfl rfl (lb_ (g_13.size.trans I0.size)) (g_13.at_ 35)).trans (by rfl)) r_14 hS6 (fun x_14 g_14 => ?_)
  clear r_14 g_13
  have r_15 : ∀ Z, (fun Z => Same wr Z) Z → (execOp x_14.eval oYF11).run Try.prog Z = .ok (.value (.int .u32 (pg : Int))) Z := fun Z hZ => by
    unfold oYF11
    obtain ⟨c1, c2⟩ := (hw.fr hZ).cells
    obtain ⟨c3, c4⟩ := (hw.fr hZ).wd.frame
    have e36 : x_14.eval (.tmp 36) = .pointer (some ⟨bb, 0, none⟩) := g_14.at_ 36
    clear g_14 hQ h8 h9
    generalize x_14.eval = ρ at *
    go_simp
  refine g_14.take 14 37 _ rfl (by kernel_rfl) (by kernel_rfl) (by kernel_rfl) (fun _ _ _ h => hQp _ _ _ _ _ h) rfl (lb_ I0.size) ((wanted_at (t := 35) (c := false) (b := false) rfl rfl rfl (lb_ (g_14.size.trans I0.size)) (g_14.at_ 35)).trans (by rfl)) r_15 hS6 (fun x_15 g_15 => ?_)
  clear r_15 g_14
  refine g_15.takeMove 15 38 (.int .u32 (pages : Int)) _ (Or.inl rfl) rfl (by kernel_rfl) (by kernel_rfl) (by kernel_rfl) (fun _ _ _ h => hQp _ _ _ _ _ h) rfl (lb_ I0.size) ((wanted_at (t := 35) (c := false) (b := false) rfl rfl rfl (lb_ (g_15.size.trans I0.size)) (g_15.at_ 35)).trans (by rfl)) ((g_15.at_ 2).trans I0.s2) hS6 (fun x_16 g_16 => ?_)
  clear g_15
  have r_17 : ∀ Z, (fun Z => Same wr Z) Z → (execOp x_16.eval oYF12).run Try.prog Z = .ok (.value (.bool true)) Z := fun Z hZ => by
    unfold oYF12
    have e37 : x_16.eval (.tmp 37) = .int .u32 (pg : Int) := g_16.at_ 37
    have e38 : x_16.eval (.tmp 38) = .int .u32 (pages : Int) := g_16.at_ 38
    clear g_16 hQ h8 h9
    generalize x_16.eval = ρ at *
    go_simp
  refine g_16.take 16 39 _ rfl (by kernel_rfl) (by kernel_rfl) (by kernel_rfl) (fun _ _ _ h => hQp _ _ _ _ _ h) rfl (lb_ I0.size) ((wanted_at (t := 35) (c := false) (b := false) rfl rfl rfl (lb_ (g_16.size.trans I0.size)) (g_16.at_ 35)).trans (by rfl)) r_17 hS6 (fun x_17 g_17 => ?_)
  clear r_17 g_16
  have r_18 : ∀ Z, (fun Z => Same wr Z) Z → (execOp x_17.eval oYF13).run Try.prog Z = .ok (.value (.bool true)) Z := fun Z hZ => by
    unfold oYF13
    have kc : ∀ v, x_17.eval (.const v) = v := fun _ => rfl
    have e35 : x_17.eval (.tmp 35) = .bool false := g_17.at_ 35
    have e39 : x_17.eval (.tmp 39) = .bool true := g_17.at_ 39
    clear g_17 hQ h8 h9
    generalize x_17.eval = ρ at *
    go_simp
  refine g_17.take 17 40 _ rfl (by kernel_rfl) (by kernel_rfl) (by kernel_rfl) (fun _ _ _ h => hQp _ _ _ _ _ h) rfl (lb_ I0.size) (wn rfl) r_18 hS6 (fun x_18 g_18 => ?_)
  clear r_18 g_17
  refine g_18.takeMove 18 41 (.bool true) _ (Or.inl rfl) rfl (by kernel_rfl) (by kernel_rfl) (by kernel_rfl) (fun _ _ _ h => hQp _ _ _ _ _ h) rfl (lb_ I0.size) (wn rfl) (g_18.at_ 40) hS6 (fun x_19 g_19 => ?_)
  clear g_18
  refine g_19.takeOff 19 42 rfl (by kernel_rfl) (by kernel_rfl) (by kernel_rfl) (fun _ _ _ h => hQp _ _ _ _ _ h) rfl (lb_ I0.size) ((wanted_at (t := 41) (c := true) (b := false) rfl rfl rfl (lb_ (g_19.size.trans I0.size)) (g_19.at_ 41)).trans (by rfl)) hS6 (fun x_20 g_20 => ?_)
  clear g_19
  refine g_20.takeOff 20 43 rfl (by kernel_rfl) (by kernel_rfl) (by kernel_rfl) (fun _ _ _ h => hQp _ _ _ _ _ h) rfl (lb_ I0.size) ((wanted_at (t := 41) (c := true) (b := false) rfl rfl rfl (lb_ (g_20.size.trans I0.size)) (g_20.at_ 41)).trans (by rfl)) hS6 (fun x_21 g_21 => ?_)
  clear g_20
  refine g_21.takeOff 21 44 rfl (by kernel_rfl) (by kernel_rfl) (by kernel_rfl) (fun _ _ _ h => hQp _ _ _ _ _ h) rfl (lb_ I0.size) ((wanted_at (t := 41) (c := true) (b := false) rfl rfl rfl (lb_ (g_21.size.trans I0.size)) (g_21.at_ 41)).trans (by rfl)) hS6 (fun x_22 g_22 => ?_)
  clear g_21
  refine g_22.takeOff 22 45 rfl (by kernel_rfl) (by kernel_rfl) (by kernel_rfl) (fun _ _ _ h => hQp _ _ _ _ _ h) rfl (lb_ I0.size) ((wanted_at (t := 41) (c := true) (b := false) rfl rfl rfl (lb_ (g_22.size.trans I0.size)) (g_22.at_ 41)).trans (by rfl)) hS6 (fun x_23 g_23 => ?_)
  clear g_22
  refine g_23.takeOff 23 46 rfl (by kernel_rfl) (by kernel_rfl) (by kernel_rfl) (fun _ _ _ h => hQp _ _ _ _ _ h) rfl (lb_ I0.size) ((wanted_at (t := 41) (c := true) (b := false) rfl rfl rfl (lb_ (g_23.size.trans I0.size)) (g_23.at_ 41)).trans (by rfl)) hS6 (fun x_24 g_24 => ?_)
  clear g_23
  have r_25 : ∀ Z, (fun Z => Same wr Z) Z → (execOp x_24.eval oYF18).run Try.prog Z = .ok (.value (.bool true)) Z := fun Z hZ => by
    unfold oYF18
    have kc : ∀ v, x_24.eval (.const v) = v := fun _ => rfl
    have e41 : x_24.eval (.tmp 41) = .bool true := g_24.at_ 41
    have e46 : x_24.eval (.tmp 46) = undef := g_24.at_ 46
    clear g_24 hQ h8 h9
    generalize x_24.eval = ρ at *
    go_simp
  refine g_24.take 24 47 _ rfl (by kernel_rfl) (by kernel_rfl) (by kernel_rfl) (fun _ _ _ h => hQp _ _ _ _ _ h) rfl (lb_ I0.size) (wn rfl) r_25 hS6 (fun x_25 g_25 => ?_)
  clear r_25 g_24
  refine wpAnyH_done (by kernel_rfl) ?_ _
  exact hQ x_25 W2 (I0.keep g_25 (fun t ht => by rcases ht with rfl | rfl | rfl | rfl <;> rfl)) (show x_25.eval (.tmp 8) = .int .i64 (i : Int) from ((g_25.at_ 8).trans h8)) (show x_25.eval (.tmp 9) = .pointer (some ⟨bb, 0, none⟩) from ((g_25.at_ 9).trans h9)) (show x_25.eval (.tmp 47) = .bool true from (g_25.at_ 47)) ((dd.trans s1).trans s2)
set_option maxRecDepth 100000 in
set_option maxHeartbeats 1000000 in
theorem rg6d {p q : Int} {pages bb pg nl xc n cp i en : Nat} {pa xa : Option Addr} {f : Nat → Bool} {Q : Exit → Act → World → Prop} (hQp : ∀ c (a : Act) d v w, Q (.panic c) (a.put d v) w → Q (.panic c) a w) (a0 : Act) (w wr : World) (I0 : IR w.heap.size pa n cp pages a0) (h8 : a0.eval (.tmp 8) = .int .i64 (i : Int)) (h9 : a0.eval (.tmp 9) = .pointer (some ⟨bb, 0, none⟩)) (hw : RWb w wr p q pages f bb pg xa nl xc) (h2 : 2 ≤ pg) (hlt : pg < pages) (hsn : f pg = true)
    (hen : ∀ W, Calls Try.prog 40 #[.agg #[.int .i64 p, .int .i64 q]] W fun e w' => e = .returned (.int .i64 (en : Int)) ∧ Same W w')
    (hri : ∀ W, Same wr W → Calls Try.prog 39 #[.slice xa nl xc, .int .i64 (en : Int), .int .u32 (pages : Int)] W fun e w' => e = .returned (.bool true) ∧ Same W w')
    (hQ : ∀ a W, IR w.heap.size pa n cp pages a → a.eval (.tmp 8) = .int .i64 (i : Int) → a.eval (.tmp 9) = .pointer (some ⟨bb, 0, none⟩) → a.eval (.tmp 47) = .bool true → Same wr W → Q .normal a W) : (Code.region 6 rRT6 true).wp Try.prog Q a0 wr := by
  have dd : Same wr wr.drew := (Fr.refl (fun _ => False) wr).drew
  have hi2 : decide ((pg : Int) < 2) = false := decide_eq_false (by omega)
  have hi3 : decide ((pages : Int) ≤ (pg : Int)) = false := decide_eq_false (by omega)
  have hi4 : (pg : Int) < (pages : Int) := by omega
  have g_0 := Fe.refl a0
  refine wp_region_held_drew (ops := rRT6) (S := fun Z => Same wr Z) (by kernel_rfl) (dd) (fun hS0 => ?_)
  have r_1 : ∀ Z, (fun Z => Same wr Z) Z → (execOp a0.eval oYF0).run Try.prog Z = .ok (.value (.pointer (some ⟨bb, 1, none⟩))) Z := fun Z hZ => by
    unfold oYF0
    have e9 := (show a0.eval (.tmp 9) = .pointer (some ⟨bb, 0, none⟩) from ((g_0.at_ 9).trans h9))
    clear g_0 hQ h8 h9
    generalize a0.eval = ρ at *
    go_simp
  refine g_0.take 0 23 _ rfl (by kernel_rfl) (by kernel_rfl) (by kernel_rfl) (fun _ _ _ h => hQp _ _ _ _ _ h) rfl (lb_ I0.size) (wn rfl) r_1 hS0 (fun x_1 g_1 => ?_)
  clear r_1 g_0
  have r_2 : ∀ Z, (fun Z => Same wr Z) Z → (execOp x_1.eval oYF1).run Try.prog Z = .ok (.value (.slice xa nl xc)) Z := fun Z hZ => by
    unfold oYF1
    obtain ⟨c1, c2⟩ := (hw.fr hZ).cells
    obtain ⟨c3, c4⟩ := (hw.fr hZ).wd.frame
    have c5 := (hw.fr hZ).wd.cell hlt
    rw [hsn] at c5
    have e23 : x_1.eval (.tmp 23) = .pointer (some ⟨bb, 1, none⟩) := g_1.at_ 23
    clear g_1 hQ h8 h9
    generalize x_1.eval = ρ at *
    go_simp
  refine g_1.take 1 24 _ rfl (by kernel_rfl) (by kernel_rfl) (by kernel_rfl) (fun _ _ _ h => hQp _ _ _ _ _ h) rfl (lb_ I0.size) (wn rfl) r_2 hS0 (fun x_2 g_2 => ?_)
  clear r_2 g_1
  have r_3 : ∀ Z, (fun Z => Same wr Z) Z → (execOp x_2.eval oYF2).run Try.prog Z = .ok (.value (.agg #[.int .i64 p, .int .i64 q])) Z := fun Z hZ => by
    unfold oYF2
    obtain ⟨c1, c2⟩ := (hw.fr hZ).cells
    obtain ⟨c3, c4⟩ := (hw.fr hZ).wd.frame
    have c5 := (hw.fr hZ).wd.cell hlt
    rw [hsn] at c5
    have e3 := (show x_2.eval (.tmp 3) = .pointer (some ⟨w.heap.size, 0, none⟩) from ((g_2.at_ 3).trans I0.s3))
    clear g_2 hQ h8 h9
    generalize x_2.eval = ρ at *
    go_simp
  refine g_2.take 2 25 _ rfl (by kernel_rfl) (by kernel_rfl) (by kernel_rfl) (fun _ _ _ h => hQp _ _ _ _ _ h) rfl (lb_ I0.size) (wn rfl) r_3 hS0 (fun x_3 g_3 => ?_)
  clear r_3 g_2
  refine g_3.takeMove 4 27 (.int .u32 (pages : Int)) _ (Or.inl rfl) rfl (by kernel_rfl) (by kernel_rfl) (by kernel_rfl) (fun _ _ _ h => hQp _ _ _ _ _ h) rfl (lb_ I0.size) (wn rfl) ((g_3.at_ 2).trans I0.s2) hS0 (fun x_4 g_4 => ?_)
  clear g_3
  have r_5 : (execOp x_4.eval oYF3).run Try.prog (wr.drew) = .ok (.enter 40 #[.agg #[.int .i64 p, .int .i64 q]]) (wr.drew) := by
    unfold oYF3
    have kf : ∀ f, x_4.eval (.func f) = .func (.func f) #[] #[] := fun _ => rfl
    have e25 : x_4.eval (.tmp 25) = .agg #[.int .i64 p, .int .i64 q] := g_4.at_ 25
    clear g_4 hQ h8 h9
    generalize x_4.eval = ρ at *
    go_simp
  refine g_4.oneCall 3 26 (by kernel_rfl) rfl rfl (lb_ I0.size) (wn rfl) r_5 (hen _) (fun e W1 hR => ?_)
  obtain ⟨rfl, s1⟩ := hR
  clear r_5
  have hS5 : (fun Z => Same wr Z) W1 := dd.trans s1
  refine ⟨_, rfl, hS5, fun x_5 g_5 => ?_⟩
  clear g_4
  have r_6 : (execOp x_5.eval oYF4).run Try.prog (W1) = .ok (.enter 39 #[.slice xa nl xc, .int .i64 (en : Int), .int .u32 (pages : Int)]) (W1) := by
    unfold oYF4
    have kf : ∀ f, x_5.eval (.func f) = .func (.func f) #[] #[] := fun _ => rfl
    have e24 : x_5.eval (.tmp 24) = .slice xa nl xc := g_5.at_ 24
    have e26 : x_5.eval (.tmp 26) = .int .i64 (en : Int) := g_5.at_ 26
    have e27 : x_5.eval (.tmp 27) = .int .u32 (pages : Int) := g_5.at_ 27
    clear g_5 hQ h8 h9
    generalize x_5.eval = ρ at *
    go_simp
  refine g_5.oneCall 5 28 (by kernel_rfl) rfl rfl (lb_ I0.size) (wn rfl) r_6 (hri _ (dd.trans s1)) (fun e W2 hR => ?_)
  obtain ⟨rfl, s2⟩ := hR
  clear r_6
  have hS6 : (fun Z => Same wr Z) W2 := (dd.trans s1).trans s2
  refine ⟨_, rfl, hS6, fun x_6 g_6 => ?_⟩
  clear g_5
  have r_7 : ∀ Z, (fun Z => Same wr Z) Z → (execOp x_6.eval oYF5).run Try.prog Z = .ok (.value (.bool false)) Z := fun Z hZ => by
    unfold oYF5
    have e28 : x_6.eval (.tmp 28) = .bool true := g_6.at_ 28
    clear g_6 hQ h8 h9
    generalize x_6.eval = ρ at *
    go_simp
  refine g_6.take 6 29 _ rfl (by kernel_rfl) (by kernel_rfl) (by kernel_rfl) (fun _ _ _ h => hQp _ _ _ _ _ h) rfl (lb_ I0.size) (wn rfl) r_7 hS6 (fun x_7 g_7 => ?_)
  clear r_7 g_6
  refine g_7.takeMove 7 30 (.bool false) _ (Or.inl rfl) rfl (by kernel_rfl) (by kernel_rfl) (by kernel_rfl) (fun _ _ _ h => hQp _ _ _ _ _ h) rfl (lb_ I0.size) (wn rfl) (g_7.at_ 29) hS6 (fun x_8 g_8 => ?_)
  clear g_7
  have r_9 : ∀ Z, (fun Z => Same wr Z) Z → (execOp x_8.eval oYF6).run Try.prog Z = .ok (.value (.pointer (some ⟨bb, 0, none⟩))) Z := fun Z hZ => by
    unfold oYF6
    have e9 := (show x_8.eval (.tmp 9) = .pointer (some ⟨bb, 0, none⟩) from ((g_8.at_ 9).trans h9))
    clear g_8 hQ h8 h9
    generalize x_8.eval = ρ at *
    go_simp
  refine g_8.take 8 31 _ rfl (by kernel_rfl) (by kernel_rfl) (by kernel_rfl) (fun _ _ _ h => hQp _ _ _ _ _ h) rfl (lb_ I0.size) ((wanted_at (t := 30) (c := false) (b := false) rfl rfl rfl (lb_ (g_8.size.trans I0.size)) (g_8.at_ 30)).trans (by rfl)) r_9 hS6 (fun x_9 g_9 => ?_)
  clear r_9 g_8
  have r_10 : ∀ Z, (fun Z => Same wr Z) Z → (execOp x_9.eval oYF7).run Try.prog Z = .ok (.value (.int .u32 (pg : Int))) Z := fun Z hZ => by
    unfold oYF7
    obtain ⟨c1, c2⟩ := (hw.fr hZ).cells
    obtain ⟨c3, c4⟩ := (hw.fr hZ).wd.frame
    have c5 := (hw.fr hZ).wd.cell hlt
    rw [hsn] at c5
    have e31 : x_9.eval (.tmp 31) = .pointer (some ⟨bb, 0, none⟩) := g_9.at_ 31
    clear g_9 hQ h8 h9
    generalize x_9.eval = ρ at *
    go_simp
  refine g_9.take 9 32 _ rfl (by kernel_rfl) (by kernel_rfl) (by kernel_rfl) (fun _ _ _ h => hQp _ _ _ _ _ h) rfl (lb_ I0.size) ((wanted_at (t := 30) (c := false) (b := false) rfl rfl rfl (lb_ (g_9.size.trans I0.size)) (g_9.at_ 30)).trans (by rfl)) r_10 hS6 (fun x_10 g_10 => ?_)
  clear r_10 g_9
  have r_11 : ∀ Z, (fun Z => Same wr Z) Z → (execOp x_10.eval oYF8).run Try.prog Z = .ok (.value (.bool false)) Z := fun Z hZ => by
    unfold oYF8
    have kc : ∀ v, x_10.eval (.const v) = v := fun _ => rfl
    have e32 : x_10.eval (.tmp 32) = .int .u32 (pg : Int) := g_10.at_ 32
    clear g_10 hQ h8 h9
    generalize x_10.eval = ρ at *
    go_simp
  refine g_10.take 10 33 _ rfl (by kernel_rfl) (by kernel_rfl) (by kernel_rfl) (fun _ _ _ h => hQp _ _ _ _ _ h) rfl (lb_ I0.size) ((wanted_at (t := 30) (c := false) (b := false) rfl rfl rfl (lb_ (g_10.size.trans I0.size)) (g_10.at_ 30)).trans (by rfl)) r_11 hS6 (fun x_11 g_11 => ?_)
  clear r_11 g_10
  have r_12 : ∀ Z, (fun Z => Same wr Z) Z → (execOp x_11.eval oYF9).run Try.prog Z = .ok (.value (.bool false)) Z := fun Z hZ => by
    unfold oYF9
    have kc : ∀ v, x_11.eval (.const v) = v := fun _ => rfl
    have e30 : x_11.eval (.tmp 30) = .bool false := g_11.at_ 30
    have e33 : x_11.eval (.tmp 33) = .bool false := g_11.at_ 33
    clear g_11 hQ h8 h9
    generalize x_11.eval = ρ at *
    go_simp
  refine g_11.take 11 34 _ rfl (by kernel_rfl) (by kernel_rfl) (by kernel_rfl) (fun _ _ _ h => hQp _ _ _ _ _ h) rfl (lb_ I0.size) (wn rfl) r_12 hS6 (fun x_12 g_12 => ?_)
  clear r_12 g_11
  refine g_12.takeMove 12 35 (.bool false) _ (Or.inl rfl) rfl (by kernel_rfl) (by kernel_rfl) (by kernel_rfl) (fun _ _ _ h => hQp _ _ _ _ _ h) rfl (lb_ I0.size) (wn rfl) (g_12.at_ 34) hS6 (fun x_13 g_13 => ?_)
  clear g_12
  have r_14 : ∀ Z, (fun Z => Same wr Z) Z → (execOp x_13.eval oYF10).run Try.prog Z = .ok (.value (.pointer (some ⟨bb, 0, none⟩))) Z := fun Z hZ => by
    unfold oYF10
    have e9 := (show x_13.eval (.tmp 9) = .pointer (some ⟨bb, 0, none⟩) from ((g_13.at_ 9).trans h9))
    clear g_13 hQ h8 h9
    generalize x_13.eval = ρ at *
    go_simp
  refine g_13.take 13 36 _ rfl (by kernel_rfl) (by kernel_rfl) (by kernel_rfl) (fun _ _ _ h => hQp _ _ _ _ _ h) rfl (lb_ I0.size) ((wanted_at (t := 35) (c := false) (b := false) rfl rfl rfl (lb_ (g_13.size.trans I0.size)) (g_13.at_ 35)).trans (by rfl)) r_14 hS6 (fun x_14 g_14 => ?_)
  clear r_14 g_13
  have r_15 : ∀ Z, (fun Z => Same wr Z) Z → (execOp x_14.eval oYF11).run Try.prog Z = .ok (.value (.int .u32 (pg : Int))) Z := fun Z hZ => by
    unfold oYF11
    obtain ⟨c1, c2⟩ := (hw.fr hZ).cells
    obtain ⟨c3, c4⟩ := (hw.fr hZ).wd.frame
    have c5 := (hw.fr hZ).wd.cell hlt
    rw [hsn] at c5
    have e36 : x_14.eval (.tmp 36) = .pointer (some ⟨bb, 0, none⟩) := g_14.at_ 36
    clear g_14 hQ h8 h9
    generalize x_14.eval = ρ at *
    go_simp
  refine g_14.take 14 37 _ rfl (by kernel_rfl) (by kernel_rfl) (by kernel_rfl) (fun _ _ _ h => hQp _ _ _ _ _ h) rfl (lb_ I0.size) ((wanted_at (t := 35) (c := false) (b := false) rfl rfl rfl (lb_ (g_14.size.trans I0.size)) (g_14.at_ 35)).trans (by rfl)) r_15 hS6 (fun x_15 g_15 => ?_)
  clear r_15 g_14
  refine g_15.takeMove 15 38 (.int .u32 (pages : Int)) _ (Or.inl rfl) rfl (by kernel_rfl) (by kernel_rfl) (by kernel_rfl) (fun _ _ _ h => hQp _ _ _ _ _ h) rfl (lb_ I0.size) ((wanted_at (t := 35) (c := false) (b := false) rfl rfl rfl (lb_ (g_15.size.trans I0.size)) (g_15.at_ 35)).trans (by rfl)) ((g_15.at_ 2).trans I0.s2) hS6 (fun x_16 g_16 => ?_)
  clear g_15
  have r_17 : ∀ Z, (fun Z => Same wr Z) Z → (execOp x_16.eval oYF12).run Try.prog Z = .ok (.value (.bool false)) Z := fun Z hZ => by
    unfold oYF12
    have e37 : x_16.eval (.tmp 37) = .int .u32 (pg : Int) := g_16.at_ 37
    have e38 : x_16.eval (.tmp 38) = .int .u32 (pages : Int) := g_16.at_ 38
    clear g_16 hQ h8 h9
    generalize x_16.eval = ρ at *
    go_simp
  refine g_16.take 16 39 _ rfl (by kernel_rfl) (by kernel_rfl) (by kernel_rfl) (fun _ _ _ h => hQp _ _ _ _ _ h) rfl (lb_ I0.size) ((wanted_at (t := 35) (c := false) (b := false) rfl rfl rfl (lb_ (g_16.size.trans I0.size)) (g_16.at_ 35)).trans (by rfl)) r_17 hS6 (fun x_17 g_17 => ?_)
  clear r_17 g_16
  have r_18 : ∀ Z, (fun Z => Same wr Z) Z → (execOp x_17.eval oYF13).run Try.prog Z = .ok (.value (.bool false)) Z := fun Z hZ => by
    unfold oYF13
    have kc : ∀ v, x_17.eval (.const v) = v := fun _ => rfl
    have e35 : x_17.eval (.tmp 35) = .bool false := g_17.at_ 35
    have e39 : x_17.eval (.tmp 39) = .bool false := g_17.at_ 39
    clear g_17 hQ h8 h9
    generalize x_17.eval = ρ at *
    go_simp
  refine g_17.take 17 40 _ rfl (by kernel_rfl) (by kernel_rfl) (by kernel_rfl) (fun _ _ _ h => hQp _ _ _ _ _ h) rfl (lb_ I0.size) (wn rfl) r_18 hS6 (fun x_18 g_18 => ?_)
  clear r_18 g_17
  refine g_18.takeMove 18 41 (.bool false) _ (Or.inl rfl) rfl (by kernel_rfl) (by kernel_rfl) (by kernel_rfl) (fun _ _ _ h => hQp _ _ _ _ _ h) rfl (lb_ I0.size) (wn rfl) (g_18.at_ 40) hS6 (fun x_19 g_19 => ?_)
  clear g_18
  refine g_19.takeMove 19 42 (.slice (some ⟨w.heap.size + 1, 0, none⟩) pages pages) _ (Or.inl rfl) rfl (by kernel_rfl) (by kernel_rfl) (by kernel_rfl) (fun _ _ _ h => hQp _ _ _ _ _ h) rfl (lb_ I0.size) ((wanted_at (t := 41) (c := false) (b := false) rfl rfl rfl (lb_ (g_19.size.trans I0.size)) (g_19.at_ 41)).trans (by rfl)) ((g_19.at_ 7).trans I0.s7) hS6 (fun x_20 g_20 => ?_)
  clear g_19
  have r_21 : ∀ Z, (fun Z => Same wr Z) Z → (execOp x_20.eval oYF14).run Try.prog Z = .ok (.value (.pointer (some ⟨bb, 0, none⟩))) Z := fun Z hZ => by
    unfold oYF14
    have e9 := (show x_20.eval (.tmp 9) = .pointer (some ⟨bb, 0, none⟩) from ((g_20.at_ 9).trans h9))
    clear g_20 hQ h8 h9
    generalize x_20.eval = ρ at *
    go_simp
  refine g_20.take 20 43 _ rfl (by kernel_rfl) (by kernel_rfl) (by kernel_rfl) (fun _ _ _ h => hQp _ _ _ _ _ h) rfl (lb_ I0.size) ((wanted_at (t := 41) (c := false) (b := false) rfl rfl rfl (lb_ (g_20.size.trans I0.size)) (g_20.at_ 41)).trans (by rfl)) r_21 hS6 (fun x_21 g_21 => ?_)
  clear r_21 g_20
  have r_22 : ∀ Z, (fun Z => Same wr Z) Z → (execOp x_21.eval oYF15).run Try.prog Z = .ok (.value (.int .u32 (pg : Int))) Z := fun Z hZ => by
    unfold oYF15
    obtain ⟨c1, c2⟩ := (hw.fr hZ).cells
    obtain ⟨c3, c4⟩ := (hw.fr hZ).wd.frame
    have c5 := (hw.fr hZ).wd.cell hlt
    rw [hsn] at c5
    have e43 : x_21.eval (.tmp 43) = .pointer (some ⟨bb, 0, none⟩) := g_21.at_ 43
    clear g_21 hQ h8 h9
    generalize x_21.eval = ρ at *
    go_simp
  refine g_21.take 21 44 _ rfl (by kernel_rfl) (by kernel_rfl) (by kernel_rfl) (fun _ _ _ h => hQp _ _ _ _ _ h) rfl (lb_ I0.size) ((wanted_at (t := 41) (c := false) (b := false) rfl rfl rfl (lb_ (g_21.size.trans I0.size)) (g_21.at_ 41)).trans (by rfl)) r_22 hS6 (fun x_22 g_22 => ?_)
  clear r_22 g_21
  have r_23 : ∀ Z, (fun Z => Same wr Z) Z → (execOp x_22.eval oYF16).run Try.prog Z = .ok (.value (.pointer (some ⟨w.heap.size + 1, pg, none⟩))) Z := fun Z hZ => by
    unfold oYF16
    have e42 : x_22.eval (.tmp 42) = .slice (some ⟨w.heap.size + 1, 0, none⟩) pages pages := g_22.at_ 42
    have e44 : x_22.eval (.tmp 44) = .int .u32 (pg : Int) := g_22.at_ 44
    clear g_22 hQ h8 h9
    generalize x_22.eval = ρ at *
    go_simp
  refine g_22.take 22 45 _ rfl (by kernel_rfl) (by kernel_rfl) (by kernel_rfl) (fun _ _ _ h => hQp _ _ _ _ _ h) rfl (lb_ I0.size) ((wanted_at (t := 41) (c := false) (b := false) rfl rfl rfl (lb_ (g_22.size.trans I0.size)) (g_22.at_ 41)).trans (by rfl)) r_23 hS6 (fun x_23 g_23 => ?_)
  clear r_23 g_22
  have r_24 : ∀ Z, (fun Z => Same wr Z) Z → (execOp x_23.eval oYF17).run Try.prog Z = .ok (.value (.bool true)) Z := fun Z hZ => by
    unfold oYF17
    obtain ⟨c1, c2⟩ := (hw.fr hZ).cells
    obtain ⟨c3, c4⟩ := (hw.fr hZ).wd.frame
    have c5 := (hw.fr hZ).wd.cell hlt
    rw [hsn] at c5
    have e45 : x_23.eval (.tmp 45) = .pointer (some ⟨w.heap.size + 1, pg, none⟩) := g_23.at_ 45
    clear g_23 hQ h8 h9
    generalize x_23.eval = ρ at *
    go_simp
  refine g_23.take 23 46 _ rfl (by kernel_rfl) (by kernel_rfl) (by kernel_rfl) (fun _ _ _ h => hQp _ _ _ _ _ h) rfl (lb_ I0.size) ((wanted_at (t := 41) (c := false) (b := false) rfl rfl rfl (lb_ (g_23.size.trans I0.size)) (g_23.at_ 41)).trans (by rfl)) r_24 hS6 (fun x_24 g_24 => ?_)
  clear r_24 g_23
  have r_25 : ∀ Z, (fun Z => Same wr Z) Z → (execOp x_24.eval oYF18).run Try.prog Z = .ok (.value (.bool true)) Z := fun Z hZ => by
    unfold oYF18
    have kc : ∀ v, x_24.eval (.const v) = v := fun _ => rfl
    have e41 : x_24.eval (.tmp 41) = .bool false := g_24.at_ 41
    have e46 : x_24.eval (.tmp 46) = .bool true := g_24.at_ 46
    clear g_24 hQ h8 h9
    generalize x_24.eval = ρ at *
    go_simp
  refine g_24.take 24 47 _ rfl (by kernel_rfl) (by kernel_rfl) (by kernel_rfl) (fun _ _ _ h => hQp _ _ _ _ _ h) rfl (lb_ I0.size) (wn rfl) r_25 hS6 (fun x_25 g_25 => ?_)
  clear r_25 g_24
  refine wpAnyH_done (by kernel_rfl) ?_ _
  exact hQ x_25 W2 (I0.keep g_25 (fun t ht => by rcases ht with rfl | rfl | rfl | rfl <;> rfl)) (show x_25.eval (.tmp 8) = .int .i64 (i : Int) from ((g_25.at_ 8).trans h8)) (show x_25.eval (.tmp 9) = .pointer (some ⟨bb, 0, none⟩) from ((g_25.at_ 9).trans h9)) (show x_25.eval (.tmp 47) = .bool true from (g_25.at_ 47)) ((dd.trans s1).trans s2)
set_option maxRecDepth 100000 in
set_option maxHeartbeats 1000000 in
theorem rg6e {p q : Int} {pages bb pg nl xc n cp i en : Nat} {pa xa : Option Addr} {f : Nat → Bool} {Q : Exit → Act → World → Prop} (hQp : ∀ c (a : Act) d v w, Q (.panic c) (a.put d v) w → Q (.panic c) a w) (a0 : Act) (w wr : World) (I0 : IR w.heap.size pa n cp pages a0) (h8 : a0.eval (.tmp 8) = .int .i64 (i : Int)) (h9 : a0.eval (.tmp 9) = .pointer (some ⟨bb, 0, none⟩)) (hw : RWb w wr p q pages f bb pg xa nl xc) (h2 : 2 ≤ pg) (hlt : pg < pages) (hsn : f pg = false)
    (hen : ∀ W, Calls Try.prog 40 #[.agg #[.int .i64 p, .int .i64 q]] W fun e w' => e = .returned (.int .i64 (en : Int)) ∧ Same W w')
    (hri : ∀ W, Same wr W → Calls Try.prog 39 #[.slice xa nl xc, .int .i64 (en : Int), .int .u32 (pages : Int)] W fun e w' => e = .returned (.bool true) ∧ Same W w')
    (hQ : ∀ a W, IR w.heap.size pa n cp pages a → a.eval (.tmp 8) = .int .i64 (i : Int) → a.eval (.tmp 9) = .pointer (some ⟨bb, 0, none⟩) → a.eval (.tmp 47) = .bool false → Same wr W → Q .normal a W) : (Code.region 6 rRT6 true).wp Try.prog Q a0 wr := by
  have dd : Same wr wr.drew := (Fr.refl (fun _ => False) wr).drew
  have hi2 : decide ((pg : Int) < 2) = false := decide_eq_false (by omega)
  have hi3 : decide ((pages : Int) ≤ (pg : Int)) = false := decide_eq_false (by omega)
  have hi4 : (pg : Int) < (pages : Int) := by omega
  have g_0 := Fe.refl a0
  refine wp_region_held_drew (ops := rRT6) (S := fun Z => Same wr Z) (by kernel_rfl) (dd) (fun hS0 => ?_)
  have r_1 : ∀ Z, (fun Z => Same wr Z) Z → (execOp a0.eval oYF0).run Try.prog Z = .ok (.value (.pointer (some ⟨bb, 1, none⟩))) Z := fun Z hZ => by
    unfold oYF0
    have e9 := (show a0.eval (.tmp 9) = .pointer (some ⟨bb, 0, none⟩) from ((g_0.at_ 9).trans h9))
    clear g_0 hQ h8 h9
    generalize a0.eval = ρ at *
    go_simp
  refine g_0.take 0 23 _ rfl (by kernel_rfl) (by kernel_rfl) (by kernel_rfl) (fun _ _ _ h => hQp _ _ _ _ _ h) rfl (lb_ I0.size) (wn rfl) r_1 hS0 (fun x_1 g_1 => ?_)
  clear r_1 g_0
  have r_2 : ∀ Z, (fun Z => Same wr Z) Z → (execOp x_1.eval oYF1).run Try.prog Z = .ok (.value (.slice xa nl xc)) Z := fun Z hZ => by
    unfold oYF1
    obtain ⟨c1, c2⟩ := (hw.fr hZ).cells
    obtain ⟨c3, c4⟩ := (hw.fr hZ).wd.frame
    have c5 := (hw.fr hZ).wd.cell hlt
    rw [hsn] at c5
    have e23 : x_1.eval (.tmp 23) = .pointer (some ⟨bb, 1, none⟩) := g_1.at_ 23
    clear g_1 hQ h8 h9
    generalize x_1.eval = ρ at *
    go_simp
  refine g_1.take 1 24 _ rfl (by kernel_rfl) (by kernel_rfl) (by kernel_rfl) (fun _ _ _ h => hQp _ _ _ _ _ h) rfl (lb_ I0.size) (wn rfl) r_2 hS0 (fun x_2 g_2 => ?_)
  clear r_2 g_1
  have r_3 : ∀ Z, (fun Z => Same wr Z) Z → (execOp x_2.eval oYF2).run Try.prog Z = .ok (.value (.agg #[.int .i64 p, .int .i64 q])) Z := fun Z hZ => by
    unfold oYF2
    obtain ⟨c1, c2⟩ := (hw.fr hZ).cells
    obtain ⟨c3, c4⟩ := (hw.fr hZ).wd.frame
    have c5 := (hw.fr hZ).wd.cell hlt
    rw [hsn] at c5
    have e3 := (show x_2.eval (.tmp 3) = .pointer (some ⟨w.heap.size, 0, none⟩) from ((g_2.at_ 3).trans I0.s3))
    clear g_2 hQ h8 h9
    generalize x_2.eval = ρ at *
    go_simp
  refine g_2.take 2 25 _ rfl (by kernel_rfl) (by kernel_rfl) (by kernel_rfl) (fun _ _ _ h => hQp _ _ _ _ _ h) rfl (lb_ I0.size) (wn rfl) r_3 hS0 (fun x_3 g_3 => ?_)
  clear r_3 g_2
  refine g_3.takeMove 4 27 (.int .u32 (pages : Int)) _ (Or.inl rfl) rfl (by kernel_rfl) (by kernel_rfl) (by kernel_rfl) (fun _ _ _ h => hQp _ _ _ _ _ h) rfl (lb_ I0.size) (wn rfl) ((g_3.at_ 2).trans I0.s2) hS0 (fun x_4 g_4 => ?_)
  clear g_3
  have r_5 : (execOp x_4.eval oYF3).run Try.prog (wr.drew) = .ok (.enter 40 #[.agg #[.int .i64 p, .int .i64 q]]) (wr.drew) := by
    unfold oYF3
    have kf : ∀ f, x_4.eval (.func f) = .func (.func f) #[] #[] := fun _ => rfl
    have e25 : x_4.eval (.tmp 25) = .agg #[.int .i64 p, .int .i64 q] := g_4.at_ 25
    clear g_4 hQ h8 h9
    generalize x_4.eval = ρ at *
    go_simp
  refine g_4.oneCall 3 26 (by kernel_rfl) rfl rfl (lb_ I0.size) (wn rfl) r_5 (hen _) (fun e W1 hR => ?_)
  obtain ⟨rfl, s1⟩ := hR
  clear r_5
  have hS5 : (fun Z => Same wr Z) W1 := dd.trans s1
  refine ⟨_, rfl, hS5, fun x_5 g_5 => ?_⟩
  clear g_4
  have r_6 : (execOp x_5.eval oYF4).run Try.prog (W1) = .ok (.enter 39 #[.slice xa nl xc, .int .i64 (en : Int), .int .u32 (pages : Int)]) (W1) := by
    unfold oYF4
    have kf : ∀ f, x_5.eval (.func f) = .func (.func f) #[] #[] := fun _ => rfl
    have e24 : x_5.eval (.tmp 24) = .slice xa nl xc := g_5.at_ 24
    have e26 : x_5.eval (.tmp 26) = .int .i64 (en : Int) := g_5.at_ 26
    have e27 : x_5.eval (.tmp 27) = .int .u32 (pages : Int) := g_5.at_ 27
    clear g_5 hQ h8 h9
    generalize x_5.eval = ρ at *
    go_simp
  refine g_5.oneCall 5 28 (by kernel_rfl) rfl rfl (lb_ I0.size) (wn rfl) r_6 (hri _ (dd.trans s1)) (fun e W2 hR => ?_)
  obtain ⟨rfl, s2⟩ := hR
  clear r_6
  have hS6 : (fun Z => Same wr Z) W2 := (dd.trans s1).trans s2
  refine ⟨_, rfl, hS6, fun x_6 g_6 => ?_⟩
  clear g_5
  have r_7 : ∀ Z, (fun Z => Same wr Z) Z → (execOp x_6.eval oYF5).run Try.prog Z = .ok (.value (.bool false)) Z := fun Z hZ => by
    unfold oYF5
    have e28 : x_6.eval (.tmp 28) = .bool true := g_6.at_ 28
    clear g_6 hQ h8 h9
    generalize x_6.eval = ρ at *
    go_simp
  refine g_6.take 6 29 _ rfl (by kernel_rfl) (by kernel_rfl) (by kernel_rfl) (fun _ _ _ h => hQp _ _ _ _ _ h) rfl (lb_ I0.size) (wn rfl) r_7 hS6 (fun x_7 g_7 => ?_)
  clear r_7 g_6
  refine g_7.takeMove 7 30 (.bool false) _ (Or.inl rfl) rfl (by kernel_rfl) (by kernel_rfl) (by kernel_rfl) (fun _ _ _ h => hQp _ _ _ _ _ h) rfl (lb_ I0.size) (wn rfl) (g_7.at_ 29) hS6 (fun x_8 g_8 => ?_)
  clear g_7
  have r_9 : ∀ Z, (fun Z => Same wr Z) Z → (execOp x_8.eval oYF6).run Try.prog Z = .ok (.value (.pointer (some ⟨bb, 0, none⟩))) Z := fun Z hZ => by
    unfold oYF6
    have e9 := (show x_8.eval (.tmp 9) = .pointer (some ⟨bb, 0, none⟩) from ((g_8.at_ 9).trans h9))
    clear g_8 hQ h8 h9
    generalize x_8.eval = ρ at *
    go_simp
  refine g_8.take 8 31 _ rfl (by kernel_rfl) (by kernel_rfl) (by kernel_rfl) (fun _ _ _ h => hQp _ _ _ _ _ h) rfl (lb_ I0.size) ((wanted_at (t := 30) (c := false) (b := false) rfl rfl rfl (lb_ (g_8.size.trans I0.size)) (g_8.at_ 30)).trans (by rfl)) r_9 hS6 (fun x_9 g_9 => ?_)
  clear r_9 g_8
  have r_10 : ∀ Z, (fun Z => Same wr Z) Z → (execOp x_9.eval oYF7).run Try.prog Z = .ok (.value (.int .u32 (pg : Int))) Z := fun Z hZ => by
    unfold oYF7
    obtain ⟨c1, c2⟩ := (hw.fr hZ).cells
    obtain ⟨c3, c4⟩ := (hw.fr hZ).wd.frame
    have c5 := (hw.fr hZ).wd.cell hlt
    rw [hsn] at c5
    have e31 : x_9.eval (.tmp 31) = .pointer (some ⟨bb, 0, none⟩) := g_9.at_ 31
    clear g_9 hQ h8 h9
    generalize x_9.eval = ρ at *
    go_simp
  refine g_9.take 9 32 _ rfl (by kernel_rfl) (by kernel_rfl) (by kernel_rfl) (fun _ _ _ h => hQp _ _ _ _ _ h) rfl (lb_ I0.size) ((wanted_at (t := 30) (c := false) (b := false) rfl rfl rfl (lb_ (g_9.size.trans I0.size)) (g_9.at_ 30)).trans (by rfl)) r_10 hS6 (fun x_10 g_10 => ?_)
  clear r_10 g_9
  have r_11 : ∀ Z, (fun Z => Same wr Z) Z → (execOp x_10.eval oYF8).run Try.prog Z = .ok (.value (.bool false)) Z := fun Z hZ => by
    unfold oYF8
    have kc : ∀ v, x_10.eval (.const v) = v := fun _ => rfl
    have e32 : x_10.eval (.tmp 32) = .int .u32 (pg : Int) := g_10.at_ 32
    clear g_10 hQ h8 h9
    generalize x_10.eval = ρ at *
    go_simp
  refine g_10.take 10 33 _ rfl (by kernel_rfl) (by kernel_rfl) (by kernel_rfl) (fun _ _ _ h => hQp _ _ _ _ _ h) rfl (lb_ I0.size) ((wanted_at (t := 30) (c := false) (b := false) rfl rfl rfl (lb_ (g_10.size.trans I0.size)) (g_10.at_ 30)).trans (by rfl)) r_11 hS6 (fun x_11 g_11 => ?_)
  clear r_11 g_10
  have r_12 : ∀ Z, (fun Z => Same wr Z) Z → (execOp x_11.eval oYF9).run Try.prog Z = .ok (.value (.bool false)) Z := fun Z hZ => by
    unfold oYF9
    have kc : ∀ v, x_11.eval (.const v) = v := fun _ => rfl
    have e30 : x_11.eval (.tmp 30) = .bool false := g_11.at_ 30
    have e33 : x_11.eval (.tmp 33) = .bool false := g_11.at_ 33
    clear g_11 hQ h8 h9
    generalize x_11.eval = ρ at *
    go_simp
  refine g_11.take 11 34 _ rfl (by kernel_rfl) (by kernel_rfl) (by kernel_rfl) (fun _ _ _ h => hQp _ _ _ _ _ h) rfl (lb_ I0.size) (wn rfl) r_12 hS6 (fun x_12 g_12 => ?_)
  clear r_12 g_11
  refine g_12.takeMove 12 35 (.bool false) _ (Or.inl rfl) rfl (by kernel_rfl) (by kernel_rfl) (by kernel_rfl) (fun _ _ _ h => hQp _ _ _ _ _ h) rfl (lb_ I0.size) (wn rfl) (g_12.at_ 34) hS6 (fun x_13 g_13 => ?_)
  clear g_12
  have r_14 : ∀ Z, (fun Z => Same wr Z) Z → (execOp x_13.eval oYF10).run Try.prog Z = .ok (.value (.pointer (some ⟨bb, 0, none⟩))) Z := fun Z hZ => by
    unfold oYF10
    have e9 := (show x_13.eval (.tmp 9) = .pointer (some ⟨bb, 0, none⟩) from ((g_13.at_ 9).trans h9))
    clear g_13 hQ h8 h9
    generalize x_13.eval = ρ at *
    go_simp
  refine g_13.take 13 36 _ rfl (by kernel_rfl) (by kernel_rfl) (by kernel_rfl) (fun _ _ _ h => hQp _ _ _ _ _ h) rfl (lb_ I0.size) ((wanted_at (t := 35) (c := false) (b := false) rfl rfl rfl (lb_ (g_13.size.trans I0.size)) (g_13.at_ 35)).trans (by rfl)) r_14 hS6 (fun x_14 g_14 => ?_)
  clear r_14 g_13
  have r_15 : ∀ Z, (fun Z => Same wr Z) Z → (execOp x_14.eval oYF11).run Try.prog Z = .ok (.value (.int .u32 (pg : Int))) Z := fun Z hZ => by
    unfold oYF11
    obtain ⟨c1, c2⟩ := (hw.fr hZ).cells
    obtain ⟨c3, c4⟩ := (hw.fr hZ).wd.frame
    have c5 := (hw.fr hZ).wd.cell hlt
    rw [hsn] at c5
    have e36 : x_14.eval (.tmp 36) = .pointer (some ⟨bb, 0, none⟩) := g_14.at_ 36
    clear g_14 hQ h8 h9
    generalize x_14.eval = ρ at *
    go_simp
  refine g_14.take 14 37 _ rfl (by kernel_rfl) (by kernel_rfl) (by kernel_rfl) (fun _ _ _ h => hQp _ _ _ _ _ h) rfl (lb_ I0.size) ((wanted_at (t := 35) (c := false) (b := false) rfl rfl rfl (lb_ (g_14.size.trans I0.size)) (g_14.at_ 35)).trans (by rfl)) r_15 hS6 (fun x_15 g_15 => ?_)
  clear r_15 g_14
  refine g_15.takeMove 15 38 (.int .u32 (pages : Int)) _ (Or.inl rfl) rfl (by kernel_rfl) (by kernel_rfl) (by kernel_rfl) (fun _ _ _ h => hQp _ _ _ _ _ h) rfl (lb_ I0.size) ((wanted_at (t := 35) (c := false) (b := false) rfl rfl rfl (lb_ (g_15.size.trans I0.size)) (g_15.at_ 35)).trans (by rfl)) ((g_15.at_ 2).trans I0.s2) hS6 (fun x_16 g_16 => ?_)
  clear g_15
  have r_17 : ∀ Z, (fun Z => Same wr Z) Z → (execOp x_16.eval oYF12).run Try.prog Z = .ok (.value (.bool false)) Z := fun Z hZ => by
    unfold oYF12
    have e37 : x_16.eval (.tmp 37) = .int .u32 (pg : Int) := g_16.at_ 37
    have e38 : x_16.eval (.tmp 38) = .int .u32 (pages : Int) := g_16.at_ 38
    clear g_16 hQ h8 h9
    generalize x_16.eval = ρ at *
    go_simp
  refine g_16.take 16 39 _ rfl (by kernel_rfl) (by kernel_rfl) (by kernel_rfl) (fun _ _ _ h => hQp _ _ _ _ _ h) rfl (lb_ I0.size) ((wanted_at (t := 35) (c := false) (b := false) rfl rfl rfl (lb_ (g_16.size.trans I0.size)) (g_16.at_ 35)).trans (by rfl)) r_17 hS6 (fun x_17 g_17 => ?_)
  clear r_17 g_16
  have r_18 : ∀ Z, (fun Z => Same wr Z) Z → (execOp x_17.eval oYF13).run Try.prog Z = .ok (.value (.bool false)) Z := fun Z hZ => by
    unfold oYF13
    have kc : ∀ v, x_17.eval (.const v) = v := fun _ => rfl
    have e35 : x_17.eval (.tmp 35) = .bool false := g_17.at_ 35
    have e39 : x_17.eval (.tmp 39) = .bool false := g_17.at_ 39
    clear g_17 hQ h8 h9
    generalize x_17.eval = ρ at *
    go_simp
  refine g_17.take 17 40 _ rfl (by kernel_rfl) (by kernel_rfl) (by kernel_rfl) (fun _ _ _ h => hQp _ _ _ _ _ h) rfl (lb_ I0.size) (wn rfl) r_18 hS6 (fun x_18 g_18 => ?_)
  clear r_18 g_17
  refine g_18.takeMove 18 41 (.bool false) _ (Or.inl rfl) rfl (by kernel_rfl) (by kernel_rfl) (by kernel_rfl) (fun _ _ _ h => hQp _ _ _ _ _ h) rfl (lb_ I0.size) (wn rfl) (g_18.at_ 40) hS6 (fun x_19 g_19 => ?_)
  clear g_18
  refine g_19.takeMove 19 42 (.slice (some ⟨w.heap.size + 1, 0, none⟩) pages pages) _ (Or.inl rfl) rfl (by kernel_rfl) (by kernel_rfl) (by kernel_rfl) (fun _ _ _ h => hQp _ _ _ _ _ h) rfl (lb_ I0.size) ((wanted_at (t := 41) (c := false) (b := false) rfl rfl rfl (lb_ (g_19.size.trans I0.size)) (g_19.at_ 41)).trans (by rfl)) ((g_19.at_ 7).trans I0.s7) hS6 (fun x_20 g_20 => ?_)
  clear g_19
  have r_21 : ∀ Z, (fun Z => Same wr Z) Z → (execOp x_20.eval oYF14).run Try.prog Z = .ok (.value (.pointer (some ⟨bb, 0, none⟩))) Z := fun Z hZ => by
    unfold oYF14
    have e9 := (show x_20.eval (.tmp 9) = .pointer (some ⟨bb, 0, none⟩) from ((g_20.at_ 9).trans h9))
    clear g_20 hQ h8 h9
    generalize x_20.eval = ρ at *
    go_simp
  refine g_20.take 20 43 _ rfl (by kernel_rfl) (by kernel_rfl) (by kernel_rfl) (fun _ _ _ h => hQp _ _ _ _ _ h) rfl (lb_ I0.size) ((wanted_at (t := 41) (c := false) (b := false) rfl rfl rfl (lb_ (g_20.size.trans I0.size)) (g_20.at_ 41)).trans (by rfl)) r_21 hS6 (fun x_21 g_21 => ?_)
  clear r_21 g_20
  have r_22 : ∀ Z, (fun Z => Same wr Z) Z → (execOp x_21.eval oYF15).run Try.prog Z = .ok (.value (.int .u32 (pg : Int))) Z := fun Z hZ => by
    unfold oYF15
    obtain ⟨c1, c2⟩ := (hw.fr hZ).cells
    obtain ⟨c3, c4⟩ := (hw.fr hZ).wd.frame
    have c5 := (hw.fr hZ).wd.cell hlt
    rw [hsn] at c5
    have e43 : x_21.eval (.tmp 43) = .pointer (some ⟨bb, 0, none⟩) := g_21.at_ 43
    clear g_21 hQ h8 h9
    generalize x_21.eval = ρ at *
    go_simp
  refine g_21.take 21 44 _ rfl (by kernel_rfl) (by kernel_rfl) (by kernel_rfl) (fun _ _ _ h => hQp _ _ _ _ _ h) rfl (lb_ I0.size) ((wanted_at (t := 41) (c := false) (b := false) rfl rfl rfl (lb_ (g_21.size.trans I0.size)) (g_21.at_ 41)).trans (by rfl)) r_22 hS6 (fun x_22 g_22 => ?_)
  clear r_22 g_21
  have r_23 : ∀ Z, (fun Z => Same wr Z) Z → (execOp x_22.eval oYF16).run Try.prog Z = .ok (.value (.pointer (some ⟨w.heap.size + 1, pg, none⟩))) Z := fun Z hZ => by
    unfold oYF16
    have e42 : x_22.eval (.tmp 42) = .slice (some ⟨w.heap.size + 1, 0, none⟩) pages pages := g_22.at_ 42
    have e44 : x_22.eval (.tmp 44) = .int .u32 (pg : Int) := g_22.at_ 44
    clear g_22 hQ h8 h9
    generalize x_22.eval = ρ at *
    go_simp
  refine g_22.take 22 45 _ rfl (by kernel_rfl) (by kernel_rfl) (by kernel_rfl) (fun _ _ _ h => hQp _ _ _ _ _ h) rfl (lb_ I0.size) ((wanted_at (t := 41) (c := false) (b := false) rfl rfl rfl (lb_ (g_22.size.trans I0.size)) (g_22.at_ 41)).trans (by rfl)) r_23 hS6 (fun x_23 g_23 => ?_)
  clear r_23 g_22
  have r_24 : ∀ Z, (fun Z => Same wr Z) Z → (execOp x_23.eval oYF17).run Try.prog Z = .ok (.value (.bool false)) Z := fun Z hZ => by
    unfold oYF17
    obtain ⟨c1, c2⟩ := (hw.fr hZ).cells
    obtain ⟨c3, c4⟩ := (hw.fr hZ).wd.frame
    have c5 := (hw.fr hZ).wd.cell hlt
    rw [hsn] at c5
    have e45 : x_23.eval (.tmp 45) = .pointer (some ⟨w.heap.size + 1, pg, none⟩) := g_23.at_ 45
    clear g_23 hQ h8 h9
    generalize x_23.eval = ρ at *
    go_simp
  refine g_23.take 23 46 _ rfl (by kernel_rfl) (by kernel_rfl) (by kernel_rfl) (fun _ _ _ h => hQp _ _ _ _ _ h) rfl (lb_ I0.size) ((wanted_at (t := 41) (c := false) (b := false) rfl rfl rfl (lb_ (g_23.size.trans I0.size)) (g_23.at_ 41)).trans (by rfl)) r_24 hS6 (fun x_24 g_24 => ?_)
  clear r_24 g_23
  have r_25 : ∀ Z, (fun Z => Same wr Z) Z → (execOp x_24.eval oYF18).run Try.prog Z = .ok (.value (.bool false)) Z := fun Z hZ => by
    unfold oYF18
    have kc : ∀ v, x_24.eval (.const v) = v := fun _ => rfl
    have e41 : x_24.eval (.tmp 41) = .bool false := g_24.at_ 41
    have e46 : x_24.eval (.tmp 46) = .bool false := g_24.at_ 46
    clear g_24 hQ h8 h9
    generalize x_24.eval = ρ at *
    go_simp
  refine g_24.take 24 47 _ rfl (by kernel_rfl) (by kernel_rfl) (by kernel_rfl) (fun _ _ _ h => hQp _ _ _ _ _ h) rfl (lb_ I0.size) (wn rfl) r_25 hS6 (fun x_25 g_25 => ?_)
  clear r_25 g_24
  refine wpAnyH_done (by kernel_rfl) ?_ _
  exact hQ x_25 W2 (I0.keep g_25 (fun t ht => by rcases ht with rfl | rfl | rfl | rfl <;> rfl)) (show x_25.eval (.tmp 8) = .int .i64 (i : Int) from ((g_25.at_ 8).trans h8)) (show x_25.eval (.tmp 9) = .pointer (some ⟨bb, 0, none⟩) from ((g_25.at_ 9).trans h9)) (show x_25.eval (.tmp 47) = .bool false from (g_25.at_ 47)) ((dd.trans s1).trans s2)
theorem rg6 {p q : Int} {pages bb n cp i : Nat} {pa : Option Addr} {x : Bt} {f : Nat → Bool} {Q : Exit → Act → World → Prop} (hQp : ∀ c (a : Act) d v w, Q (.panic c) (a.put d v) w → Q (.panic c) a w) (a0 : Act) (w wr : World) (I0 : IR w.heap.size pa n cp pages a0) (h8 : a0.eval (.tmp 8) = .int .i64 (i : Int)) (h9 : a0.eval (.tmp 9) = .pointer (some ⟨bb, 0, none⟩)) (hw : RWb w wr p q pages f bb x.pg x.na x.ns.length x.nc)
    (hr : NRow w x.na x.nb x.no x.ns) (hl : x.ns.length ≤ 4000000)
    (hQ : ∀ a W, IR w.heap.size pa n cp pages a → a.eval (.tmp 8) = .int .i64 (i : Int) → a.eval (.tmp 9) = .pointer (some ⟨bb, 0, none⟩) → a.eval (.tmp 47) = .bool (badB p q pages f x) → Same wr W → Q .normal a W) : (Code.region 6 rRT6 true).wp Try.prog Q a0 wr := by
  have hen : ∀ W, Calls Try.prog 40 #[.agg #[.int .i64 p, .int .i64 q]] W fun e w' => e = .returned (.int .i64 (entN p q : Int)) ∧ Same W w' := fun W => rentries_calls p q W
  have hri : ∀ W, Same wr W → Calls Try.prog 39 #[.slice x.na x.ns.length x.nc, .int .i64 (entN p q : Int), .int .u32 (pages : Int)] W fun e w' => e = .returned (.bool (fitsN p q x.ns pages)) ∧ Same W w' := fun W s => rrising_calls W (hr.same (hw.wd.same.trans s)) (by omega)
  cases h1 : fitsN p q x.ns pages with
  | false =>
    rw [h1] at hri
    exact rg6a hQp a0 w wr I0 h8 h9 hw hen hri (fun a W i1 j8 j9 j47 s => hQ a W i1 j8 j9 (by rw [j47]; simp [badB, h1]) s)
  | true =>
    rw [h1] at hri
    by_cases h2 : x.pg < 2
    · exact rg6b hQp a0 w wr I0 h8 h9 hw h2 hen hri (fun a W i1 j8 j9 j47 s => hQ a W i1 j8 j9 (by rw [j47]; simp [badB, h2]) s)
    · by_cases h3 : pages ≤ x.pg
      · exact rg6c hQp a0 w wr I0 h8 h9 hw (by omega) h3 hen hri (fun a W i1 j8 j9 j47 s => hQ a W i1 j8 j9 (by rw [j47]; simp [badB, h3]) s)
      · cases h4 : f x.pg with
        | true => exact rg6d hQp a0 w wr I0 h8 h9 hw (by omega) (by omega) h4 hen hri (fun a W i1 j8 j9 j47 s => hQ a W i1 j8 j9 (by rw [j47]; simp [badB, h4]) s)
        | false => exact rg6e hQp a0 w wr I0 h8 h9 hw (by omega) (by omega) h4 hen hri (fun a W i1 j8 j9 j47 s => hQ a W i1 j8 j9 (by rw [j47]; simp [badB, h1, h2, h3, h4]) s)
end Go.Proofs.Ytajbifblbmlffaa
