/- The document's disk of an image; its looks; a disk's numbers. -/
import Derived.Test.YtljlkcmjbjnihaaDK1
import Derived.Test.YtljlkcmjbjnihaaOS
namespace Go.Proofs.Ytljlkcmjbjnihaa
open Go.RowKit

set_option maxRecDepth 100000 in
theorem dPage_calls {b : Nat} {D : Dk} {S : Nat → Prop} (w : World) (h : DkAt w b D S) (hp : 0 < D.page) :
    Calls Try.prog 16 #[.pointer (some ⟨b, 0, none⟩)] w fun e w' => e = .returned (.int .i64 (D.page : Int)) ∧ w' = w := by
  obtain ⟨h1, h2, h3, h4, h5, h6, h7, h8⟩ := h.cells
  have hT := there_core w h1 (by omega)
  clear h
  go_enter Try.func16, Try.ntmps16
  go_wp2_with fail
  refine hT.mono ?_
  rintro e w' ⟨rfl, hw⟩
  rw [hw]
  go_wp2_with fail
  go_ret
  exact ⟨rfl, rfl⟩
set_option maxRecDepth 100000 in
theorem dMost_calls {b : Nat} {D : Dk} {S : Nat → Prop} (w : World) (h : DkAt w b D S) (hp : 0 < D.page) :
    Calls Try.prog 17 #[.pointer (some ⟨b, 0, none⟩)] w fun e w' => e = .returned (.int .i64 (D.most : Int)) ∧ w' = w := by
  obtain ⟨h1, h2, h3, h4, h5, h6, h7, h8⟩ := h.cells
  have hT := there_core w h1 (by omega)
  clear h
  go_enter Try.func17, Try.ntmps17
  go_wp2_with fail
  refine hT.mono ?_
  rintro e w' ⟨rfl, hw⟩
  rw [hw]
  go_wp2_with fail
  go_ret
  exact ⟨rfl, rfl⟩
set_option maxRecDepth 100000 in
theorem darmed_calls {b : Nat} {D : Dk} {S : Nat → Prop} (w : World) (h : DkAt w b D S) (hp : 0 < D.page) :
    Calls Try.prog 20 #[.pointer (some ⟨b, 0, none⟩)] w fun e w' => e = .returned (.int .i64 0) ∧ w' = w := by
  obtain ⟨h1, h2, h3, h4, h5, h6, h7, h8⟩ := h.cells
  obtain ⟨aa, ac, h9⟩ := h.rowA
  have hT := there_core w h1 (by omega)
  clear h
  go_enter Try.func20, Try.ntmps20
  go_wp2_with fail
  refine hT.mono ?_
  rintro e w' ⟨rfl, hw⟩
  rw [hw]
  go_wp2_with fail
  go_ret
  exact ⟨rfl, rfl⟩
set_option maxRecDepth 100000 in
theorem paged_calls {n : Int} (w : World) (h : n = 1024 ∨ n = 2048 ∨ n = 4096 ∨ n = 8192) :
    Calls Try.prog 11 #[.int .i64 n] w fun e w' => e = .returned (.bool true) ∧ w' = w := by
  rcases h with rfl | rfl | rfl | rfl <;>
  · go_enter Try.func11, Try.ntmps11
    go_wp2_with fail
    go_ret
    exact ⟨rfl, rfl⟩
set_option maxRecDepth 100000 in
theorem paged_no {n : Int} (w : World) (h : ¬ (n = 1024 ∨ n = 2048 ∨ n = 4096 ∨ n = 8192)) :
    Calls Try.prog 11 #[.int .i64 n] w fun e w' => e = .returned (.bool false) ∧ w' = w := by
  have n1 : ¬ n = 1024 := fun e => h (Or.inl e)
  have n2 : ¬ n = 2048 := fun e => h (Or.inr (Or.inl e))
  have n3 : ¬ n = 4096 := fun e => h (Or.inr (Or.inr (Or.inl e)))
  have n4 : ¬ n = 8192 := fun e => h (Or.inr (Or.inr (Or.inr e)))
  clear h
  go_enter Try.func11, Try.ntmps11
  go_wp2_with fail
  go_ret
  exact ⟨by show Ending.returned (.bool (n == 1024 || n == 2048 || n == 4096 || n == 8192)) = _; simp [n1, n2, n3, n4], rfl⟩
/-- The document's disk, its cells. -/
def rdC (pg mo : Int) (dv : Value) : List Value := [.int .i64 pg, .int .i64 mo, dv, .slice none 0 0, .slice none 0 0, .bool true, .int .i64 0, .int .i64 0, .int .i64 0, .int .i64 0, .int .i64 0]
structure RdAt (w : World) (b : Nat) (pg mo : Int) (L : List ByteArray) : Prop where
  at_ : ∃ da dc, w.heap[b]? = some (.cells (rdC pg mo (.slice da L.length dc)).toArray 42 (0, 0)) ∧ w.ownsRow 0 9 1 (.slice da L.length dc) L.length (scells L)
theorem RdAt.same {w w' : World} {b : Nat} {pg mo : Int} {L : List ByteArray} (h : RdAt w b pg mo L) (s : Same w w') : RdAt w' b pg mo L := by
  obtain ⟨da, dc, h1, h2⟩ := h
  exact ⟨da, dc, heap_fr h1 s (fun f => f), own_frameB h2 s (fun _ _ f => f)⟩
def rDK0 : Array Oper := #[{ dst := some 6, op := Op.assign (Operand.const (Value.pointer none)), type := 23, pos := "ref.go:51", after := #[], guard := none },
  { dst := some 7, op := Op.assign (Operand.const (Value.int IntKind.i64 0)), type := 24, pos := "ref.go:51", after := #[{ on := 0, ground := Ground.chain }], guard := none }]
def rDK1 : Array Oper := #[{ dst := some 10, op := Op.move (Operand.tmp 0), type := 3, pos := "ref.go:52", after := #[], guard := none },
  { dst := some 11, op := Op.call { callee := Callee.value (Operand.func 11), args := #[Operand.tmp 10], argTypes := #[3] }, type := 4, pos := "ref.go:52", after := #[{ on := 0, ground := Ground.data }], guard := none },
  { dst := some 12, op := Op.unOp UnOp.not 4 (Operand.tmp 11), type := 4, pos := "ref.go:52", after := #[{ on := 1, ground := Ground.data }], guard := none },
  { dst := some 13, op := Op.move (Operand.tmp 12), type := 4, pos := "ref.go:52", after := #[{ on := 2, ground := Ground.data }, { on := 1, ground := Ground.chain }], guard := none },
  { dst := some 14, op := Op.move (Operand.tmp 1), type := 3, pos := "ref.go:52", after := #[{ on := 3, ground := Ground.guard }], guard := some (3, false) },
  { dst := some 15, op := Op.binOp BinOp.lss 3 (Operand.tmp 14) (Operand.const (Value.int IntKind.i64 1)) 3, type := 4, pos := "ref.go:52", after := #[{ on := 4, ground := Ground.data }, { on := 3, ground := Ground.guard }], guard := some (3, false) },
  { dst := some 16, op := Op.pick (Operand.tmp 13) (Operand.const (Value.bool true)) (Operand.tmp 15), type := 4, pos := "ref.go:52", after := #[{ on := 3, ground := Ground.data }, { on := 5, ground := Ground.data }], guard := none },
  { dst := some 17, op := Op.move (Operand.tmp 16), type := 4, pos := "ref.go:52", after := #[{ on := 6, ground := Ground.data }, { on := 3, ground := Ground.chain }], guard := none },
  { dst := some 18, op := Op.move (Operand.tmp 1), type := 3, pos := "ref.go:52", after := #[{ on := 7, ground := Ground.guard }], guard := some (7, false) },
  { dst := some 19, op := Op.binOp BinOp.gtr 3 (Operand.tmp 18) (Operand.const (Value.int IntKind.i64 65536)) 3, type := 4, pos := "ref.go:52", after := #[{ on := 8, ground := Ground.data }, { on := 7, ground := Ground.guard }], guard := some (7, false) },
  { dst := some 20, op := Op.pick (Operand.tmp 17) (Operand.const (Value.bool true)) (Operand.tmp 19), type := 4, pos := "ref.go:52", after := #[{ on := 7, ground := Ground.data }, { on := 9, ground := Ground.data }], guard := none }]
def rDK2 : Array Oper := #[{ dst := some 6, op := Op.assign (Operand.const (Value.pointer none)), type := 23, pos := "ref.go:53", after := #[], guard := none },
  { dst := some 7, op := Op.assign (Operand.const (Value.int IntKind.i64 2)), type := 24, pos := "ref.go:53", after := #[{ on := 0, ground := Ground.chain }, { on := 0, ground := Ground.phase }], guard := none }]
def rDK3 : Array Oper := #[{ dst := some 21, op := Op.move (Operand.tmp 2), type := 22, pos := "ref.go:55", after := #[], guard := none },
  { dst := some 22, op := Op.call { callee := Callee.builtin Builtin.len, args := #[Operand.tmp 21], argTypes := #[22] }, type := 3, pos := "ref.go:55", after := #[{ on := 0, ground := Ground.data }], guard := none },
  { dst := some 23, op := Op.move (Operand.tmp 1), type := 3, pos := "ref.go:55", after := #[], guard := none },
  { dst := some 24, op := Op.binOp BinOp.gtr 3 (Operand.tmp 22) (Operand.tmp 23) 3, type := 4, pos := "ref.go:55", after := #[{ on := 1, ground := Ground.data }, { on := 2, ground := Ground.data }], guard := none }]
def rDK4 : Array Oper := #[{ dst := some 6, op := Op.assign (Operand.const (Value.pointer none)), type := 23, pos := "ref.go:56", after := #[], guard := none },
  { dst := some 7, op := Op.assign (Operand.const (Value.int IntKind.i64 42)), type := 24, pos := "ref.go:56", after := #[{ on := 0, ground := Ground.chain }, { on := 0, ground := Ground.phase }], guard := none }]
def rDK5 : Array Oper := #[{ dst := some 25, op := Op.move (Operand.tmp 0), type := 3, pos := "ref.go:58", after := #[], guard := none },
  { dst := some 26, op := Op.move (Operand.tmp 1), type := 3, pos := "ref.go:58", after := #[], guard := none },
  { dst := some 27, op := Op.build 42 #[(0, Operand.tmp 25), (1, Operand.tmp 26), (5, Operand.const (Value.bool true))], type := 42, pos := "ref.go:58", after := #[{ on := 0, ground := Ground.data }, { on := 1, ground := Ground.data }], guard := none },
  { dst := some 28, op := Op.box 42 (Operand.tmp 27), type := 23, pos := "ref.go:58", after := #[{ on := 2, ground := Ground.data }], guard := none },
  { dst := some 8, op := Op.assign (Operand.tmp 28), type := 23, pos := "ref.go:58", after := #[{ on := 3, ground := Ground.data }, { on := 0, ground := Ground.phase }, { on := 1, ground := Ground.phase }, { on := 2, ground := Ground.phase }, { on := 3, ground := Ground.phase }], guard := none }]
def rDK6 : Array Oper := #[{ dst := some 9, op := Op.assign (Operand.const (Value.int IntKind.i64 0)), type := 3, pos := "ref.go:59", after := #[], guard := none }]
def rDK7 : Array Oper := #[{ dst := some 29, op := Op.move (Operand.tmp 9), type := 3, pos := "ref.go:59", after := #[], guard := none },
  { dst := some 30, op := Op.move (Operand.tmp 2), type := 22, pos := "ref.go:59", after := #[], guard := none },
  { dst := some 31, op := Op.call { callee := Callee.builtin Builtin.len, args := #[Operand.tmp 30], argTypes := #[22] }, type := 3, pos := "ref.go:59", after := #[{ on := 1, ground := Ground.data }], guard := none },
  { dst := some 32, op := Op.binOp BinOp.lss 3 (Operand.tmp 29) (Operand.tmp 31) 3, type := 4, pos := "ref.go:59", after := #[{ on := 0, ground := Ground.data }, { on := 2, ground := Ground.data }], guard := none }]
def rDK8 : Array Oper := #[{ dst := some 33, op := Op.move (Operand.tmp 9), type := 3, pos := "ref.go:59", after := #[], guard := none },
  { dst := some 34, op := Op.binOp BinOp.add 3 (Operand.tmp 33) (Operand.const (Value.int IntKind.i64 1)) 3, type := 3, pos := "ref.go:59", after := #[{ on := 0, ground := Ground.data }], guard := none },
  { dst := some 9, op := Op.assign (Operand.tmp 34), type := 3, pos := "ref.go:59", after := #[{ on := 1, ground := Ground.data }, { on := 0, ground := Ground.phase }, { on := 1, ground := Ground.phase }], guard := none }]
def rDK9 : Array Oper := #[{ dst := some 35, op := Op.move (Operand.tmp 2), type := 22, pos := "ref.go:60", after := #[], guard := none },
  { dst := some 36, op := Op.move (Operand.tmp 9), type := 3, pos := "ref.go:60", after := #[], guard := none },
  { dst := some 37, op := Op.indexAddr 22 (Operand.tmp 35) (Operand.tmp 36), type := 0, pos := "ref.go:60", after := #[{ on := 0, ground := Ground.data }, { on := 1, ground := Ground.data }], guard := none },
  { dst := some 38, op := Op.load 9 (Operand.tmp 37), type := 9, pos := "ref.go:60", after := #[{ on := 2, ground := Ground.data }], guard := none },
  { dst := some 39, op := Op.call { callee := Callee.builtin Builtin.len, args := #[Operand.tmp 38], argTypes := #[9] }, type := 3, pos := "ref.go:60", after := #[{ on := 3, ground := Ground.data }], guard := none },
  { dst := some 40, op := Op.move (Operand.tmp 0), type := 3, pos := "ref.go:60", after := #[], guard := none },
  { dst := some 41, op := Op.binOp BinOp.neq 3 (Operand.tmp 39) (Operand.tmp 40) 3, type := 4, pos := "ref.go:60", after := #[{ on := 4, ground := Ground.data }, { on := 5, ground := Ground.data }], guard := none }]
def rDK10 : Array Oper := #[{ dst := some 6, op := Op.assign (Operand.const (Value.pointer none)), type := 23, pos := "ref.go:61", after := #[], guard := none },
  { dst := some 7, op := Op.assign (Operand.const (Value.int IntKind.i64 42)), type := 24, pos := "ref.go:61", after := #[{ on := 0, ground := Ground.chain }, { on := 0, ground := Ground.phase }], guard := none }]
def rDK11 : Array Oper := #[{ dst := some 42, op := Op.move (Operand.tmp 8), type := 23, pos := "ref.go:63", after := #[], guard := none },
  { dst := some 43, op := Op.move (Operand.tmp 8), type := 23, pos := "ref.go:63", after := #[], guard := none },
  { dst := some 44, op := Op.nilCheck (Operand.tmp 43), type := 0, pos := "ref.go:63", after := #[{ on := 1, ground := Ground.data }], guard := none },
  { dst := some 45, op := Op.fieldAddr 42 (Operand.tmp 44) 2, type := 0, pos := "ref.go:63", after := #[{ on := 2, ground := Ground.data }], guard := none },
  { dst := some 46, op := Op.load 22 (Operand.tmp 45), type := 22, pos := "ref.go:63", after := #[{ on := 3, ground := Ground.data }], guard := none },
  { dst := some 47, op := Op.move (Operand.tmp 2), type := 22, pos := "ref.go:63", after := #[], guard := none },
  { dst := some 48, op := Op.move (Operand.tmp 9), type := 3, pos := "ref.go:63", after := #[], guard := none },
  { dst := some 49, op := Op.indexAddr 22 (Operand.tmp 47) (Operand.tmp 48), type := 0, pos := "ref.go:63", after := #[{ on := 5, ground := Ground.data }, { on := 6, ground := Ground.data }], guard := none },
  { dst := some 50, op := Op.load 9 (Operand.tmp 49), type := 9, pos := "ref.go:63", after := #[{ on := 7, ground := Ground.data }], guard := none },
  { dst := some 51, op := Op.buildSlice 22 1 #[(0, Operand.tmp 50)], type := 22, pos := "ref.go:63", after := #[{ on := 8, ground := Ground.data }], guard := none },
  { dst := some 52, op := Op.call { callee := Callee.builtin Builtin.append, args := #[Operand.tmp 46, Operand.tmp 51], argTypes := #[22, 22] }, type := 22, pos := "ref.go:63", after := #[{ on := 4, ground := Ground.data }, { on := 9, ground := Ground.data }], guard := none },
  { dst := some 53, op := Op.nilCheck (Operand.tmp 42), type := 0, pos := "ref.go:63", after := #[{ on := 0, ground := Ground.data }, { on := 0, ground := Ground.phase }, { on := 1, ground := Ground.phase }, { on := 2, ground := Ground.phase }, { on := 3, ground := Ground.phase }, { on := 4, ground := Ground.phase }, { on := 5, ground := Ground.phase }, { on := 6, ground := Ground.phase }, { on := 7, ground := Ground.phase }, { on := 8, ground := Ground.phase }, { on := 9, ground := Ground.phase }, { on := 10, ground := Ground.phase }], guard := none },
  { dst := some 54, op := Op.fieldAddr 42 (Operand.tmp 53) 2, type := 0, pos := "ref.go:63", after := #[{ on := 11, ground := Ground.data }, { on := 0, ground := Ground.phase }, { on := 1, ground := Ground.phase }, { on := 2, ground := Ground.phase }, { on := 3, ground := Ground.phase }, { on := 4, ground := Ground.phase }, { on := 5, ground := Ground.phase }, { on := 6, ground := Ground.phase }, { on := 7, ground := Ground.phase }, { on := 8, ground := Ground.phase }, { on := 9, ground := Ground.phase }, { on := 10, ground := Ground.phase }], guard := none },
  { dst := none, op := Op.store 22 (Operand.tmp 54) (Operand.tmp 52), type := 0, pos := "ref.go:63", after := #[{ on := 12, ground := Ground.data }, { on := 10, ground := Ground.data }, { on := 10, ground := Ground.chain }, { on := 0, ground := Ground.phase }, { on := 1, ground := Ground.phase }, { on := 2, ground := Ground.phase }, { on := 3, ground := Ground.phase }, { on := 4, ground := Ground.phase }, { on := 5, ground := Ground.phase }, { on := 6, ground := Ground.phase }, { on := 7, ground := Ground.phase }, { on := 8, ground := Ground.phase }, { on := 9, ground := Ground.phase }, { on := 10, ground := Ground.phase }], guard := none }]
def rDK12 : Array Oper := #[{ dst := some 55, op := Op.move (Operand.tmp 8), type := 23, pos := "ref.go:65", after := #[], guard := none },
  { dst := some 6, op := Op.assign (Operand.tmp 55), type := 23, pos := "ref.go:65", after := #[{ on := 0, ground := Ground.data }, { on := 0, ground := Ground.phase }], guard := none },
  { dst := some 7, op := Op.assign (Operand.const (Value.int IntKind.i64 0)), type := 24, pos := "ref.go:65", after := #[{ on := 1, ground := Ground.chain }, { on := 0, ground := Ground.phase }, { on := 1, ground := Ground.phase }], guard := none }]
def rDK11p : Array Oper := #[{ dst := some 42, op := Op.move (Operand.tmp 8), type := 23, pos := "ref.go:63", after := #[], guard := none },
  { dst := some 43, op := Op.move (Operand.tmp 8), type := 23, pos := "ref.go:63", after := #[], guard := none },
  { dst := some 44, op := Op.nilCheck (Operand.tmp 43), type := 0, pos := "ref.go:63", after := #[{ on := 1, ground := Ground.data }], guard := none },
  { dst := some 45, op := Op.fieldAddr 42 (Operand.tmp 44) 2, type := 0, pos := "ref.go:63", after := #[{ on := 2, ground := Ground.data }], guard := none },
  { dst := some 46, op := Op.load 22 (Operand.tmp 45), type := 22, pos := "ref.go:63", after := #[{ on := 3, ground := Ground.data }], guard := none },
  { dst := some 47, op := Op.move (Operand.tmp 2), type := 22, pos := "ref.go:63", after := #[], guard := none },
  { dst := some 48, op := Op.move (Operand.tmp 9), type := 3, pos := "ref.go:63", after := #[], guard := none },
  { dst := some 49, op := Op.indexAddr 22 (Operand.tmp 47) (Operand.tmp 48), type := 0, pos := "ref.go:63", after := #[{ on := 5, ground := Ground.data }, { on := 6, ground := Ground.data }], guard := none },
  { dst := some 50, op := Op.load 9 (Operand.tmp 49), type := 9, pos := "ref.go:63", after := #[{ on := 7, ground := Ground.data }], guard := none },
  { dst := some 51, op := Op.buildSlice 22 1 #[(0, Operand.tmp 50)], type := 22, pos := "ref.go:63", after := #[{ on := 8, ground := Ground.data }], guard := none },
  { dst := some 52, op := Op.call { callee := Callee.builtin Builtin.append, args := #[Operand.tmp 46, Operand.tmp 51], argTypes := #[22, 22] }, type := 22, pos := "ref.go:63", after := #[{ on := 4, ground := Ground.data }, { on := 9, ground := Ground.data }], guard := none },
  { dst := some 53, op := Op.nilCheck (Operand.tmp 42), type := 0, pos := "ref.go:63", after := #[{ on := 0, ground := Ground.data }, { on := 0, ground := Ground.phase }, { on := 1, ground := Ground.phase }, { on := 2, ground := Ground.phase }, { on := 3, ground := Ground.phase }, { on := 4, ground := Ground.phase }, { on := 5, ground := Ground.phase }, { on := 6, ground := Ground.phase }, { on := 7, ground := Ground.phase }, { on := 8, ground := Ground.phase }, { on := 9, ground := Ground.phase }, { on := 10, ground := Ground.phase }], guard := none },
  { dst := some 54, op := Op.fieldAddr 42 (Operand.tmp 53) 2, type := 0, pos := "ref.go:63", after := #[{ on := 11, ground := Ground.data }, { on := 0, ground := Ground.phase }, { on := 1, ground := Ground.phase }, { on := 2, ground := Ground.phase }, { on := 3, ground := Ground.phase }, { on := 4, ground := Ground.phase }, { on := 5, ground := Ground.phase }, { on := 6, ground := Ground.phase }, { on := 7, ground := Ground.phase }, { on := 8, ground := Ground.phase }, { on := 9, ground := Ground.phase }, { on := 10, ground := Ground.phase }], guard := none }]
def rDK11f : Oper := { dst := none, op := Op.store 22 (Operand.tmp 54) (Operand.tmp 52), type := 0, pos := "ref.go:63", after := #[{ on := 12, ground := Ground.data }, { on := 10, ground := Ground.data }, { on := 10, ground := Ground.chain }, { on := 0, ground := Ground.phase }, { on := 1, ground := Ground.phase }, { on := 2, ground := Ground.phase }, { on := 3, ground := Ground.phase }, { on := 4, ground := Ground.phase }, { on := 5, ground := Ground.phase }, { on := 6, ground := Ground.phase }, { on := 7, ground := Ground.phase }, { on := 8, ground := Ground.phase }, { on := 9, ground := Ground.phase }, { on := 10, ground := Ground.phase }], guard := none }
def cDK1 : Code := (Code.seq (Code.seq (Code.region 7 rDK7 false) (Code.cond (Operand.tmp 32) Code.skip (Code.exit 0))) (Code.seq (Code.block 1 (Code.seq (Code.seq (Code.region 9 rDK9 false) (Code.cond (Operand.tmp 41) (Code.seq (Code.region 10 rDK10 false) Code.ret) Code.skip)) (Code.region 11 rDK11 true))) (Code.region 8 rDK8 false)))
def cDK : Code := (Code.seq (Code.region 0 rDK0 false) (Code.seq (Code.seq (Code.region 1 rDK1 false) (Code.cond (Operand.tmp 20) (Code.seq (Code.region 2 rDK2 false) Code.ret) Code.skip)) (Code.seq (Code.seq (Code.region 3 rDK3 false) (Code.cond (Operand.tmp 24) (Code.seq (Code.region 4 rDK4 false) Code.ret) Code.skip)) (Code.seq (Code.region 5 rDK5 false) (Code.seq (Code.seq (Code.region 6 rDK6 false) (Code.block 0 (Code.loop cDK1))) (Code.seq (Code.region 12 rDK12 false) Code.ret))))))
structure IDK (v0 v2 v8 : Value) (a : Act) : Prop where
  size : a.tmps.size = 56
  defers : a.defers = []
  s0 : a.eval (.tmp 0) = v0
  s2 : a.eval (.tmp 2) = v2
  s8 : a.eval (.tmp 8) = v8
theorem IDK.keep {v0 v2 v8 : Value} {a0 a : Act} {env : List (Nat × Value)} (h : IDK v0 v2 v8 a0) (f : Fe a0 env a) (h0 : look env 0 (a0.eval (.tmp 0)) = a0.eval (.tmp 0)) (h2 : look env 2 (a0.eval (.tmp 2)) = a0.eval (.tmp 2)) (h8 : look env 8 (a0.eval (.tmp 8)) = a0.eval (.tmp 8)) : IDK v0 v2 v8 a :=
  ⟨f.size.trans h.size, f.defers.trans h.defers, ((f.at_ 0).trans h0).trans h.s0, ((f.at_ 2).trans h2).trans h.s2, ((f.at_ 8).trans h8).trans h.s8⟩
theorem dkE {n i ic g : Nat} {pg : Int} {ia : Option Addr} {Q : Exit → Act → World → Prop} (a0 : Act) (wr : World) (I0 : IDK (.int .i64 pg) (.slice ia n ic) (.pointer (some ⟨g, 0, none⟩)) a0) (h9 : a0.eval (.tmp 9) = .int .i64 (i : Int)) (hi : n ≤ i) (hQ : ∀ a, IDK (.int .i64 pg) (.slice ia n ic) (.pointer (some ⟨g, 0, none⟩)) a → Q (.exit 0) a wr) : cDK1.wp Try.prog Q a0 wr := by
  have hii : ¬ (i : Int) < (n : Int) := by omega
  have hid : decide ((i : Int) < (n : Int)) = false := decide_eq_false hii
  clear hi
  have fa0_0 := Fe.refl a0
  unfold cDK1
  refine wp_seq (wp_seq ?_)
  refine wp_region_list ?_
  unfold rDK7
  refine fa0_0.move 29 (.int .i64 (i : Int)) _ (Or.inl rfl) rfl (lb_ I0.size) (wanted_none rfl) ((fa0_0.at_ 9).trans h9) (fun a0_1 fa0_1 => ?_)
  clear fa0_0
  refine fa0_1.move 30 (.slice ia n ic) _ (Or.inl rfl) rfl (lb_ I0.size) (wanted_none rfl) ((fa0_1.at_ 2).trans I0.s2) (fun a0_2 fa0_2 => ?_)
  clear fa0_1
  have r_a0_3 : (execOp a0_2.eval { dst := some 31, op := Op.call { callee := Callee.builtin Builtin.len, args := #[Operand.tmp 30], argTypes := #[22] }, type := 3, pos := "ref.go:59", after := #[{ on := 1, ground := Ground.data }], guard := none }).run Try.prog (wr) = .ok (.value (.int .i64 (n : Int))) (wr) := by
    have e30 := (show a0_2.eval (.tmp 30) = .slice ia n ic from (fa0_2.at_ 30))
    clear fa0_2 hQ h9
    generalize a0_2.eval = ρ at *
    go_simp
  refine fa0_2.step 31 (.int .i64 (n : Int)) rfl (lb_ I0.size) (wanted_none rfl) r_a0_3 (fun a0_3 fa0_3 => ?_)
  clear r_a0_3
  clear fa0_2
  have r_a0_4 : (execOp a0_3.eval { dst := some 32, op := Op.binOp BinOp.lss 3 (Operand.tmp 29) (Operand.tmp 31) 3, type := 4, pos := "ref.go:59", after := #[{ on := 0, ground := Ground.data }, { on := 2, ground := Ground.data }], guard := none }).run Try.prog (wr) = .ok (.value (.bool false)) (wr) := by
    have e29 := (show a0_3.eval (.tmp 29) = .int .i64 (i : Int) from (fa0_3.at_ 29))
    have e31 := (show a0_3.eval (.tmp 31) = .int .i64 (n : Int) from (fa0_3.at_ 31))
    clear fa0_3 hQ h9
    generalize a0_3.eval = ρ at *
    go_simp
  refine fa0_3.step 32 (.bool false) rfl (lb_ I0.size) (wanted_none rfl) r_a0_4 (fun a0_4 fa0_4 => ?_)
  clear r_a0_4
  clear fa0_3
  refine wpList_nil ?_
  change Code.wp _ _ _ _ _
  refine wp_cond_false (show a0_4.eval (.tmp 32) = .bool false from (fa0_4.at_ 32)) (wp_exit ?_)
  exact hQ a0_4 (I0.keep fa0_4 rfl rfl rfl)
set_option maxRecDepth 100000 in
set_option maxHeartbeats 1000000 in
theorem dkB {n i ic g gi q : Nat} {pg : Int} {s : ByteArray} {Q : Exit → Act → World → Prop} (a0 : Act) (wr : World) (I0 : IDK (.int .i64 pg) (.slice (some ⟨gi, q, none⟩) n ic) (.pointer (some ⟨g, 0, none⟩)) a0) (h9 : a0.eval (.tmp 9) = .int .i64 (i : Int)) (hi : i < n) (cx : wr.cell? ⟨gi, q + i, none⟩ = some (.string s)) (hs : ¬ (s.size : Int) = pg)
    (hQ : ∀ a, IDK (.int .i64 pg) (.slice (some ⟨gi, q, none⟩) n ic) (.pointer (some ⟨g, 0, none⟩)) a → a.eval (.tmp 6) = .pointer none → a.eval (.tmp 7) = .int .i64 42 → Q .ret a wr) : cDK1.wp Try.prog Q a0 wr := by
  have hii : (i : Int) < (n : Int) := by omega
  have fa0_0 := Fe.refl a0
  unfold cDK1
  refine wp_seq (wp_seq ?_)
  refine wp_region_list ?_
  unfold rDK7
  refine fa0_0.move 29 (.int .i64 (i : Int)) _ (Or.inl rfl) rfl (lb_ I0.size) (wanted_none rfl) ((fa0_0.at_ 9).trans h9) (fun a0_1 fa0_1 => ?_)
  clear fa0_0
  refine fa0_1.move 30 (.slice (some ⟨gi, q, none⟩) n ic) _ (Or.inl rfl) rfl (lb_ I0.size) (wanted_none rfl) ((fa0_1.at_ 2).trans I0.s2) (fun a0_2 fa0_2 => ?_)
  clear fa0_1
  have r_a0_3 : (execOp a0_2.eval { dst := some 31, op := Op.call { callee := Callee.builtin Builtin.len, args := #[Operand.tmp 30], argTypes := #[22] }, type := 3, pos := "ref.go:59", after := #[{ on := 1, ground := Ground.data }], guard := none }).run Try.prog (wr) = .ok (.value (.int .i64 (n : Int))) (wr) := by
    have e30 := (show a0_2.eval (.tmp 30) = .slice (some ⟨gi, q, none⟩) n ic from (fa0_2.at_ 30))
    clear fa0_2 hQ h9
    generalize a0_2.eval = ρ at *
    go_simp
  refine fa0_2.step 31 (.int .i64 (n : Int)) rfl (lb_ I0.size) (wanted_none rfl) r_a0_3 (fun a0_3 fa0_3 => ?_)
  clear r_a0_3
  clear fa0_2
  have r_a0_4 : (execOp a0_3.eval { dst := some 32, op := Op.binOp BinOp.lss 3 (Operand.tmp 29) (Operand.tmp 31) 3, type := 4, pos := "ref.go:59", after := #[{ on := 0, ground := Ground.data }, { on := 2, ground := Ground.data }], guard := none }).run Try.prog (wr) = .ok (.value (.bool true)) (wr) := by
    have e29 := (show a0_3.eval (.tmp 29) = .int .i64 (i : Int) from (fa0_3.at_ 29))
    have e31 := (show a0_3.eval (.tmp 31) = .int .i64 (n : Int) from (fa0_3.at_ 31))
    clear fa0_3 hQ h9
    generalize a0_3.eval = ρ at *
    go_simp
  refine fa0_3.step 32 (.bool true) rfl (lb_ I0.size) (wanted_none rfl) r_a0_4 (fun a0_4 fa0_4 => ?_)
  clear r_a0_4
  clear fa0_3
  refine wpList_nil ?_
  change Code.wp _ _ _ _ _
  refine wp_cond_true (show a0_4.eval (.tmp 32) = .bool true from (fa0_4.at_ 32)) (wp_skip ?_)
  change Code.wp _ _ _ _ _
  refine wp_seq (wp_block (wp_seq (wp_seq ?_)))
  refine wp_region_list ?_
  unfold rDK9
  refine fa0_4.move 35 (.slice (some ⟨gi, q, none⟩) n ic) _ (Or.inl rfl) rfl (lb_ I0.size) (wanted_none rfl) ((fa0_4.at_ 2).trans I0.s2) (fun a0_5 fa0_5 => ?_)
  clear fa0_4
  refine fa0_5.move 36 (.int .i64 (i : Int)) _ (Or.inl rfl) rfl (lb_ I0.size) (wanted_none rfl) ((fa0_5.at_ 9).trans h9) (fun a0_6 fa0_6 => ?_)
  clear fa0_5
  have r_a0_7 : (execOp a0_6.eval { dst := some 37, op := Op.indexAddr 22 (Operand.tmp 35) (Operand.tmp 36), type := 0, pos := "ref.go:60", after := #[{ on := 0, ground := Ground.data }, { on := 1, ground := Ground.data }], guard := none }).run Try.prog (wr) = .ok (.value (.pointer (some ⟨gi, q + i, none⟩))) (wr) := by
    have e35 := (show a0_6.eval (.tmp 35) = .slice (some ⟨gi, q, none⟩) n ic from (fa0_6.at_ 35))
    have e36 := (show a0_6.eval (.tmp 36) = .int .i64 (i : Int) from (fa0_6.at_ 36))
    clear fa0_6 hQ h9
    generalize a0_6.eval = ρ at *
    go_simp
  refine fa0_6.step 37 (.pointer (some ⟨gi, q + i, none⟩)) rfl (lb_ I0.size) (wanted_none rfl) r_a0_7 (fun a0_7 fa0_7 => ?_)
  clear r_a0_7
  clear fa0_6
  have r_a0_8 : (execOp a0_7.eval { dst := some 38, op := Op.load 9 (Operand.tmp 37), type := 9, pos := "ref.go:60", after := #[{ on := 2, ground := Ground.data }], guard := none }).run Try.prog (wr) = .ok (.value (.string s)) (wr) := by
    have e37 := (show a0_7.eval (.tmp 37) = .pointer (some ⟨gi, q + i, none⟩) from (fa0_7.at_ 37))
    clear fa0_7 hQ h9
    generalize a0_7.eval = ρ at *
    go_simp
  refine fa0_7.step 38 (.string s) rfl (lb_ I0.size) (wanted_none rfl) r_a0_8 (fun a0_8 fa0_8 => ?_)
  clear r_a0_8
  clear fa0_7
  have r_a0_9 : (execOp a0_8.eval { dst := some 39, op := Op.call { callee := Callee.builtin Builtin.len, args := #[Operand.tmp 38], argTypes := #[9] }, type := 3, pos := "ref.go:60", after := #[{ on := 3, ground := Ground.data }], guard := none }).run Try.prog (wr) = .ok (.value (.int .i64 (s.size : Int))) (wr) := by
    have e38 := (show a0_8.eval (.tmp 38) = .string s from (fa0_8.at_ 38))
    clear fa0_8 hQ h9
    generalize a0_8.eval = ρ at *
    go_simp
  refine fa0_8.step 39 (.int .i64 (s.size : Int)) rfl (lb_ I0.size) (wanted_none rfl) r_a0_9 (fun a0_9 fa0_9 => ?_)
  clear r_a0_9
  clear fa0_8
  refine fa0_9.move 40 (.int .i64 pg) _ (Or.inl rfl) rfl (lb_ I0.size) (wanted_none rfl) ((fa0_9.at_ 0).trans I0.s0) (fun a0_10 fa0_10 => ?_)
  clear fa0_9
  have r_a0_11 : (execOp a0_10.eval { dst := some 41, op := Op.binOp BinOp.neq 3 (Operand.tmp 39) (Operand.tmp 40) 3, type := 4, pos := "ref.go:60", after := #[{ on := 4, ground := Ground.data }, { on := 5, ground := Ground.data }], guard := none }).run Try.prog (wr) = .ok (.value (.bool true)) (wr) := by
    have e39 := (show a0_10.eval (.tmp 39) = .int .i64 (s.size : Int) from (fa0_10.at_ 39))
    have e40 := (show a0_10.eval (.tmp 40) = .int .i64 pg from (fa0_10.at_ 40))
    clear fa0_10 hQ h9
    generalize a0_10.eval = ρ at *
    go_simp
  refine fa0_10.step 41 (.bool true) rfl (lb_ I0.size) (wanted_none rfl) r_a0_11 (fun a0_11 fa0_11 => ?_)
  clear r_a0_11
  clear fa0_10
  refine wpList_nil ?_
  change Code.wp _ _ _ _ _
  refine wp_cond_true (show a0_11.eval (.tmp 41) = .bool true from (fa0_11.at_ 41)) (wp_seq ?_)
  refine wp_region_list ?_
  unfold rDK10
  refine fa0_11.move 6 (.pointer none) _ (Or.inr rfl) rfl (lb_ I0.size) (wanted_none rfl) rfl (fun a0_12 fa0_12 => ?_)
  clear fa0_11
  refine fa0_12.move 7 (.int .i64 42) _ (Or.inr rfl) rfl (lb_ I0.size) (wanted_none rfl) rfl (fun a0_13 fa0_13 => ?_)
  clear fa0_12
  refine wpList_nil ?_
  change Code.wp _ _ _ _ _
  refine wp_ret ?_
  exact hQ a0_13 (I0.keep fa0_13 rfl rfl rfl) (show a0_13.eval (.tmp 6) = .pointer none from (fa0_13.at_ 6)) (show a0_13.eval (.tmp 7) = .int .i64 42 from (fa0_13.at_ 7))
set_option maxRecDepth 100000 in
set_option maxHeartbeats 1000000 in
theorem dkG {n i ic g gi q : Nat} {pg : Int} {s : ByteArray} {Q : Exit → Act → World → Prop} {mo : Int} {da : Option Addr} {dc : Nat} {T : List ByteArray} (hQp : ∀ c (a : Act) d v w, Q (.panic c) (a.put d v) w → Q (.panic c) a w) (a0 : Act) (wr : World) (I0 : IDK (.int .i64 pg) (.slice (some ⟨gi, q, none⟩) n ic) (.pointer (some ⟨g, 0, none⟩)) a0) (h9 : a0.eval (.tmp 9) = .int .i64 (i : Int)) (hi : i < n) (hn : n ≤ 1048576) (cx : wr.cell? ⟨gi, q + i, none⟩ = some (.string s)) (hs : (s.size : Int) = pg) (hr : wr.heap[g]? = some (.cells (rdC pg mo (.slice da i dc)).toArray 42 (0, 0))) (ho : wr.ownsRow 0 9 1 (.slice da i dc) i (scells T)) (hgi : ¬ (Value.slice da i dc).ownBlock = some gi)
    (hQ : ∀ a W gr c3, IDK (.int .i64 pg) (.slice (some ⟨gi, q, none⟩) n ic) (.pointer (some ⟨g, 0, none⟩)) a → a.eval (.tmp 9) = .int .i64 ((i : Int) + 1) → W.heap[g]? = some (.cells (rdC pg mo (.slice (some ⟨gr, 0, none⟩) (i + 1) c3)).toArray 42 (0, 0)) → W.ownsRow 0 9 1 (.slice (some ⟨gr, 0, none⟩) (i + 1) c3) (i + 1) (scells (T ++ [s])) → Fr (fun k => k = g ∨ (Value.slice da i dc).ownBlock = some k) wr W → ((Value.slice da i dc).ownBlock = some gr ∨ wr.heap.size ≤ gr) → Q .normal a W) : cDK1.wp Try.prog Q a0 wr := by
  have hii : (i : Int) < (n : Int) := by omega
  have w1 : IntKind.i64.wrap ((i : Int) + 1) = (i : Int) + 1 := by rw [IntKind.wrap_i64]; omega
  have fa0_0 := Fe.refl a0
  unfold cDK1
  refine wp_seq (wp_seq ?_)
  refine wp_region_list ?_
  unfold rDK7
  refine fa0_0.move 29 (.int .i64 (i : Int)) _ (Or.inl rfl) rfl (lb_ I0.size) (wanted_none rfl) ((fa0_0.at_ 9).trans h9) (fun a0_1 fa0_1 => ?_)
  clear fa0_0
  refine fa0_1.move 30 (.slice (some ⟨gi, q, none⟩) n ic) _ (Or.inl rfl) rfl (lb_ I0.size) (wanted_none rfl) ((fa0_1.at_ 2).trans I0.s2) (fun a0_2 fa0_2 => ?_)
  clear fa0_1
  have r_a0_3 : (execOp a0_2.eval { dst := some 31, op := Op.call { callee := Callee.builtin Builtin.len, args := #[Operand.tmp 30], argTypes := #[22] }, type := 3, pos := "ref.go:59", after := #[{ on := 1, ground := Ground.data }], guard := none }).run Try.prog (wr) = .ok (.value (.int .i64 (n : Int))) (wr) := by
    have e30 := (show a0_2.eval (.tmp 30) = .slice (some ⟨gi, q, none⟩) n ic from (fa0_2.at_ 30))
    clear fa0_2 hQ h9 hr ho
    generalize a0_2.eval = ρ at *
    go_simp
  refine fa0_2.step 31 (.int .i64 (n : Int)) rfl (lb_ I0.size) (wanted_none rfl) r_a0_3 (fun a0_3 fa0_3 => ?_)
  clear r_a0_3
  clear fa0_2
  have r_a0_4 : (execOp a0_3.eval { dst := some 32, op := Op.binOp BinOp.lss 3 (Operand.tmp 29) (Operand.tmp 31) 3, type := 4, pos := "ref.go:59", after := #[{ on := 0, ground := Ground.data }, { on := 2, ground := Ground.data }], guard := none }).run Try.prog (wr) = .ok (.value (.bool true)) (wr) := by
    have e29 := (show a0_3.eval (.tmp 29) = .int .i64 (i : Int) from (fa0_3.at_ 29))
    have e31 := (show a0_3.eval (.tmp 31) = .int .i64 (n : Int) from (fa0_3.at_ 31))
    clear fa0_3 hQ h9 hr ho
    generalize a0_3.eval = ρ at *
    go_simp
  refine fa0_3.step 32 (.bool true) rfl (lb_ I0.size) (wanted_none rfl) r_a0_4 (fun a0_4 fa0_4 => ?_)
  clear r_a0_4
  clear fa0_3
  refine wpList_nil ?_
  change Code.wp _ _ _ _ _
  refine wp_cond_true (show a0_4.eval (.tmp 32) = .bool true from (fa0_4.at_ 32)) (wp_skip ?_)
  change Code.wp _ _ _ _ _
  refine wp_seq (wp_block (wp_seq (wp_seq ?_)))
  refine wp_region_list ?_
  unfold rDK9
  refine fa0_4.move 35 (.slice (some ⟨gi, q, none⟩) n ic) _ (Or.inl rfl) rfl (lb_ I0.size) (wanted_none rfl) ((fa0_4.at_ 2).trans I0.s2) (fun a0_5 fa0_5 => ?_)
  clear fa0_4
  refine fa0_5.move 36 (.int .i64 (i : Int)) _ (Or.inl rfl) rfl (lb_ I0.size) (wanted_none rfl) ((fa0_5.at_ 9).trans h9) (fun a0_6 fa0_6 => ?_)
  clear fa0_5
  have r_a0_7 : (execOp a0_6.eval { dst := some 37, op := Op.indexAddr 22 (Operand.tmp 35) (Operand.tmp 36), type := 0, pos := "ref.go:60", after := #[{ on := 0, ground := Ground.data }, { on := 1, ground := Ground.data }], guard := none }).run Try.prog (wr) = .ok (.value (.pointer (some ⟨gi, q + i, none⟩))) (wr) := by
    have e35 := (show a0_6.eval (.tmp 35) = .slice (some ⟨gi, q, none⟩) n ic from (fa0_6.at_ 35))
    have e36 := (show a0_6.eval (.tmp 36) = .int .i64 (i : Int) from (fa0_6.at_ 36))
    clear fa0_6 hQ h9 hr ho
    generalize a0_6.eval = ρ at *
    go_simp
  refine fa0_6.step 37 (.pointer (some ⟨gi, q + i, none⟩)) rfl (lb_ I0.size) (wanted_none rfl) r_a0_7 (fun a0_7 fa0_7 => ?_)
  clear r_a0_7
  clear fa0_6
  have r_a0_8 : (execOp a0_7.eval { dst := some 38, op := Op.load 9 (Operand.tmp 37), type := 9, pos := "ref.go:60", after := #[{ on := 2, ground := Ground.data }], guard := none }).run Try.prog (wr) = .ok (.value (.string s)) (wr) := by
    have e37 := (show a0_7.eval (.tmp 37) = .pointer (some ⟨gi, q + i, none⟩) from (fa0_7.at_ 37))
    clear fa0_7 hQ h9 hr ho
    generalize a0_7.eval = ρ at *
    go_simp
  refine fa0_7.step 38 (.string s) rfl (lb_ I0.size) (wanted_none rfl) r_a0_8 (fun a0_8 fa0_8 => ?_)
  clear r_a0_8
  clear fa0_7
  have r_a0_9 : (execOp a0_8.eval { dst := some 39, op := Op.call { callee := Callee.builtin Builtin.len, args := #[Operand.tmp 38], argTypes := #[9] }, type := 3, pos := "ref.go:60", after := #[{ on := 3, ground := Ground.data }], guard := none }).run Try.prog (wr) = .ok (.value (.int .i64 (s.size : Int))) (wr) := by
    have e38 := (show a0_8.eval (.tmp 38) = .string s from (fa0_8.at_ 38))
    clear fa0_8 hQ h9 hr ho
    generalize a0_8.eval = ρ at *
    go_simp
  refine fa0_8.step 39 (.int .i64 (s.size : Int)) rfl (lb_ I0.size) (wanted_none rfl) r_a0_9 (fun a0_9 fa0_9 => ?_)
  clear r_a0_9
  clear fa0_8
  refine fa0_9.move 40 (.int .i64 pg) _ (Or.inl rfl) rfl (lb_ I0.size) (wanted_none rfl) ((fa0_9.at_ 0).trans I0.s0) (fun a0_10 fa0_10 => ?_)
  clear fa0_9
  have r_a0_11 : (execOp a0_10.eval { dst := some 41, op := Op.binOp BinOp.neq 3 (Operand.tmp 39) (Operand.tmp 40) 3, type := 4, pos := "ref.go:60", after := #[{ on := 4, ground := Ground.data }, { on := 5, ground := Ground.data }], guard := none }).run Try.prog (wr) = .ok (.value (.bool false)) (wr) := by
    have e39 := (show a0_10.eval (.tmp 39) = .int .i64 (s.size : Int) from (fa0_10.at_ 39))
    have e40 := (show a0_10.eval (.tmp 40) = .int .i64 pg from (fa0_10.at_ 40))
    clear fa0_10 hQ h9 hr ho
    generalize a0_10.eval = ρ at *
    go_simp
  refine fa0_10.step 41 (.bool false) rfl (lb_ I0.size) (wanted_none rfl) r_a0_11 (fun a0_11 fa0_11 => ?_)
  clear r_a0_11
  clear fa0_10
  refine wpList_nil ?_
  change Code.wp _ _ _ _ _
  refine wp_cond_false (show a0_11.eval (.tmp 41) = .bool false from (fa0_11.at_ 41)) (wp_skip ?_)
  change Code.wp _ _ _ _ _
  have dd : Same wr wr.drew := (Fr.refl (fun _ => False) wr).drew
  have k2 : wr.cell? ⟨g, 2, none⟩ = some (.slice da i dc) := (cell_of_row _ _ _ _ _ _ hr).trans rfl
  refine wp_region_pop (ops := rDK11) (ops' := rDK11p) (F := rDK11f) (S := fun Z => Z.cell? ⟨g, 2, none⟩ = some (.slice da i dc) ∧ Z.cell? ⟨gi, q + i, none⟩ = some (.string s)) (by kernel_rfl) rfl (by kernel_rfl) rfl (by kernel_rfl) (by kernel_rfl) (by kernel_rfl) (⟨dd.keep k2, dd.keep cx⟩) (fun hS11 => ?_)
  refine fa0_11.takeMove 0 42 (.pointer (some ⟨g, 0, none⟩)) _ (Or.inl rfl) rfl (by kernel_rfl) (by kernel_rfl) (by kernel_rfl) (fun _ _ _ h => hQp _ _ _ _ _ h) rfl (lb_ I0.size) (wanted_none rfl) ((fa0_11.at_ 8).trans I0.s8) hS11 (fun a0_12 fa0_12 => ?_)
  clear fa0_11
  refine fa0_12.takeMove 1 43 (.pointer (some ⟨g, 0, none⟩)) _ (Or.inl rfl) rfl (by kernel_rfl) (by kernel_rfl) (by kernel_rfl) (fun _ _ _ h => hQp _ _ _ _ _ h) rfl (lb_ I0.size) (wanted_none rfl) ((fa0_12.at_ 8).trans I0.s8) hS11 (fun a0_13 fa0_13 => ?_)
  clear fa0_12
  have r_a0_14 : ∀ Z, (fun Z => Z.cell? ⟨g, 2, none⟩ = some (.slice da i dc) ∧ Z.cell? ⟨gi, q + i, none⟩ = some (.string s)) Z → (execOp a0_13.eval { dst := some 44, op := Op.nilCheck (Operand.tmp 43), type := 0, pos := "ref.go:63", after := #[{ on := 1, ground := Ground.data }], guard := none }).run Try.prog Z = .ok (.value (.pointer (some ⟨g, 0, none⟩))) Z := fun Z hZ => by
    have e43 := (show a0_13.eval (.tmp 43) = .pointer (some ⟨g, 0, none⟩) from (fa0_13.at_ 43))
    clear fa0_13 hQ h9 hr ho
    generalize a0_13.eval = ρ at *
    go_simp
  refine fa0_13.take 2 44 (.pointer (some ⟨g, 0, none⟩)) rfl (by kernel_rfl) (by kernel_rfl) (by kernel_rfl) (fun _ _ _ h => hQp _ _ _ _ _ h) rfl (lb_ I0.size) (wanted_none rfl) r_a0_14 hS11 (fun a0_14 fa0_14 => ?_)
  clear r_a0_14
  clear fa0_13
  have r_a0_15 : ∀ Z, (fun Z => Z.cell? ⟨g, 2, none⟩ = some (.slice da i dc) ∧ Z.cell? ⟨gi, q + i, none⟩ = some (.string s)) Z → (execOp a0_14.eval { dst := some 45, op := Op.fieldAddr 42 (Operand.tmp 44) 2, type := 0, pos := "ref.go:63", after := #[{ on := 2, ground := Ground.data }], guard := none }).run Try.prog Z = .ok (.value (.pointer (some ⟨g, 2, none⟩))) Z := fun Z hZ => by
    have e44 := (show a0_14.eval (.tmp 44) = .pointer (some ⟨g, 0, none⟩) from (fa0_14.at_ 44))
    clear fa0_14 hQ h9 hr ho
    generalize a0_14.eval = ρ at *
    go_simp
  refine fa0_14.take 3 45 (.pointer (some ⟨g, 2, none⟩)) rfl (by kernel_rfl) (by kernel_rfl) (by kernel_rfl) (fun _ _ _ h => hQp _ _ _ _ _ h) rfl (lb_ I0.size) (wanted_none rfl) r_a0_15 hS11 (fun a0_15 fa0_15 => ?_)
  clear r_a0_15
  clear fa0_14
  have r_a0_16 : ∀ Z, (fun Z => Z.cell? ⟨g, 2, none⟩ = some (.slice da i dc) ∧ Z.cell? ⟨gi, q + i, none⟩ = some (.string s)) Z → (execOp a0_15.eval { dst := some 46, op := Op.load 22 (Operand.tmp 45), type := 22, pos := "ref.go:63", after := #[{ on := 3, ground := Ground.data }], guard := none }).run Try.prog Z = .ok (.value (.slice da i dc)) Z := fun Z hZ => by
    obtain ⟨z0, z1⟩ := hZ
    have e45 := (show a0_15.eval (.tmp 45) = .pointer (some ⟨g, 2, none⟩) from (fa0_15.at_ 45))
    clear fa0_15 hQ h9 hr ho
    generalize a0_15.eval = ρ at *
    go_simp
  refine fa0_15.take 4 46 (.slice da i dc) rfl (by kernel_rfl) (by kernel_rfl) (by kernel_rfl) (fun _ _ _ h => hQp _ _ _ _ _ h) rfl (lb_ I0.size) (wanted_none rfl) r_a0_16 hS11 (fun a0_16 fa0_16 => ?_)
  clear r_a0_16
  clear fa0_15
  refine fa0_16.takeMove 5 47 (.slice (some ⟨gi, q, none⟩) n ic) _ (Or.inl rfl) rfl (by kernel_rfl) (by kernel_rfl) (by kernel_rfl) (fun _ _ _ h => hQp _ _ _ _ _ h) rfl (lb_ I0.size) (wanted_none rfl) ((fa0_16.at_ 2).trans I0.s2) hS11 (fun a0_17 fa0_17 => ?_)
  clear fa0_16
  refine fa0_17.takeMove 6 48 (.int .i64 (i : Int)) _ (Or.inl rfl) rfl (by kernel_rfl) (by kernel_rfl) (by kernel_rfl) (fun _ _ _ h => hQp _ _ _ _ _ h) rfl (lb_ I0.size) (wanted_none rfl) ((fa0_17.at_ 9).trans h9) hS11 (fun a0_18 fa0_18 => ?_)
  clear fa0_17
  have r_a0_19 : ∀ Z, (fun Z => Z.cell? ⟨g, 2, none⟩ = some (.slice da i dc) ∧ Z.cell? ⟨gi, q + i, none⟩ = some (.string s)) Z → (execOp a0_18.eval { dst := some 49, op := Op.indexAddr 22 (Operand.tmp 47) (Operand.tmp 48), type := 0, pos := "ref.go:63", after := #[{ on := 5, ground := Ground.data }, { on := 6, ground := Ground.data }], guard := none }).run Try.prog Z = .ok (.value (.pointer (some ⟨gi, q + i, none⟩))) Z := fun Z hZ => by
    have e47 := (show a0_18.eval (.tmp 47) = .slice (some ⟨gi, q, none⟩) n ic from (fa0_18.at_ 47))
    have e48 := (show a0_18.eval (.tmp 48) = .int .i64 (i : Int) from (fa0_18.at_ 48))
    clear fa0_18 hQ h9 hr ho
    generalize a0_18.eval = ρ at *
    go_simp
  refine fa0_18.take 7 49 (.pointer (some ⟨gi, q + i, none⟩)) rfl (by kernel_rfl) (by kernel_rfl) (by kernel_rfl) (fun _ _ _ h => hQp _ _ _ _ _ h) rfl (lb_ I0.size) (wanted_none rfl) r_a0_19 hS11 (fun a0_19 fa0_19 => ?_)
  clear r_a0_19
  clear fa0_18
  have r_a0_20 : ∀ Z, (fun Z => Z.cell? ⟨g, 2, none⟩ = some (.slice da i dc) ∧ Z.cell? ⟨gi, q + i, none⟩ = some (.string s)) Z → (execOp a0_19.eval { dst := some 50, op := Op.load 9 (Operand.tmp 49), type := 9, pos := "ref.go:63", after := #[{ on := 7, ground := Ground.data }], guard := none }).run Try.prog Z = .ok (.value (.string s)) Z := fun Z hZ => by
    obtain ⟨z0, z1⟩ := hZ
    have e49 := (show a0_19.eval (.tmp 49) = .pointer (some ⟨gi, q + i, none⟩) from (fa0_19.at_ 49))
    clear fa0_19 hQ h9 hr ho
    generalize a0_19.eval = ρ at *
    go_simp
  refine fa0_19.take 8 50 (.string s) rfl (by kernel_rfl) (by kernel_rfl) (by kernel_rfl) (fun _ _ _ h => hQp _ _ _ _ _ h) rfl (lb_ I0.size) (wanted_none rfl) r_a0_20 hS11 (fun a0_20 fa0_20 => ?_)
  clear r_a0_20
  clear fa0_19
  have ea : Same wr (World.alloc wr.drew (.cells #[.string s] 9)) := dd.trans ((Fr.refl _ wr.drew).alloc _)
  have r_a0_21 : (execOp a0_20.eval { dst := some 51, op := Op.buildSlice 22 1 #[(0, Operand.tmp 50)], type := 22, pos := "ref.go:63", after := #[{ on := 8, ground := Ground.data }], guard := none }).run Try.prog (wr.drew) = .ok (.value (.slice (some ⟨wr.drew.heap.size, 0, none⟩) 1 1)) (World.alloc wr.drew (.cells #[.string s] 9)) := by
    have e50 := (show a0_20.eval (.tmp 50) = .string s from (fa0_20.at_ 50))
    clear fa0_20 hQ h9 hr ho
    generalize a0_20.eval = ρ at *
    go_simp
  have hS21 : (fun Z => Z.cell? ⟨g, 2, none⟩ = some (.slice da i dc) ∧ Z.cell? ⟨gi, q + i, none⟩ = some (.string s)) (World.alloc wr.drew (.cells #[.string s] 9)) := ⟨ea.keep k2, ea.keep cx⟩
  refine fa0_20.one 9 51 (.slice (some ⟨wr.drew.heap.size, 0, none⟩) 1 1) (by kernel_rfl) rfl rfl (lb_ I0.size) (wanted_none rfl) r_a0_21 hS21 (fun a0_21 fa0_21 => ?_)
  clear r_a0_21
  have hva : (World.alloc wr.drew (.cells #[.string s] 9)).heap[wr.drew.heap.size]? = some (.cells #[.string s] 9 (0, 0)) := heap_alloc_new wr.drew _
  generalize World.alloc wr.drew (.cells #[.string s] 9) = V6 at *
  have oh6 := own_frameB ho ea (fun _ _ f => f)
  have hr6 := heap_fr hr ea (fun f => f)
  obtain ⟨gr, c3, V7, hr3, o3, f3, l3⟩ := appStrs (m := 1) (c := 1) (ad := ⟨wr.drew.heap.size, 0, none⟩) (news := [.string s]) V6 22 oh6 rfl (fun j u hj => by rw [WideShapes.add_plain, Nat.zero_add]; exact (cell_of_row _ _ _ _ _ _ hva).trans (by rw [← hj, ← List.getElem?_toArray])) (fun u hu => by rw [List.mem_singleton] at hu; rw [hu]; rfl) (by decide) (by omega)
  have ng : ¬ (Value.slice da i dc).ownBlock = some g := fun e => own_neT oh6 hr6 (by decide) g e rfl
  have hr7 := heap_fr hr6 f3 ng
  have k7 : V7.cell? ⟨g, 2, none⟩ = some (.slice da i dc) := (cell_of_row _ _ _ _ _ _ hr7).trans rfl
  have z7 : V7.frozen? ⟨g, 2, none⟩ = false := frozen_of_row V7 g 2 _ _ hr7
  have cx7 := (f3.cell (World.block_lt_of_cell? _ _ (ea.keep cx)) hgi).trans (ea.keep cx)
  clear fa0_20
  have r_a0_22 : (execOp a0_21.eval { dst := some 52, op := Op.call { callee := Callee.builtin Builtin.append, args := #[Operand.tmp 46, Operand.tmp 51], argTypes := #[22, 22] }, type := 22, pos := "ref.go:63", after := #[{ on := 4, ground := Ground.data }, { on := 9, ground := Ground.data }], guard := none }).run Try.prog (V6) = .ok (.value (.slice (some ⟨gr, 0, none⟩) (i + 1) c3)) (V7) := by
    refine exec_append rfl ?_
    rw [(show a0_21.eval (.tmp 46) = .slice da i dc from (fa0_21.at_ 46)), (show a0_21.eval (.tmp 51) = .slice (some ⟨wr.drew.heap.size, 0, none⟩) 1 1 from (fa0_21.at_ 51))]
    exact hr3
  have hS22 : (fun Z => Z.cell? ⟨g, 2, none⟩ = some (.slice da i dc) ∧ Z.cell? ⟨gi, q + i, none⟩ = some (.string s)) (V7) := ⟨k7, cx7⟩
  refine fa0_21.one 10 52 (.slice (some ⟨gr, 0, none⟩) (i + 1) c3) (by kernel_rfl) rfl rfl (lb_ I0.size) (wanted_none rfl) r_a0_22 hS22 (fun a0_22 fa0_22 => ?_)
  clear r_a0_22
  clear fa0_21
  have r_a0_23 : ∀ Z, (fun Z => Z.cell? ⟨g, 2, none⟩ = some (.slice da i dc) ∧ Z.cell? ⟨gi, q + i, none⟩ = some (.string s)) Z → (execOp a0_22.eval { dst := some 53, op := Op.nilCheck (Operand.tmp 42), type := 0, pos := "ref.go:63", after := #[{ on := 0, ground := Ground.data }, { on := 0, ground := Ground.phase }, { on := 1, ground := Ground.phase }, { on := 2, ground := Ground.phase }, { on := 3, ground := Ground.phase }, { on := 4, ground := Ground.phase }, { on := 5, ground := Ground.phase }, { on := 6, ground := Ground.phase }, { on := 7, ground := Ground.phase }, { on := 8, ground := Ground.phase }, { on := 9, ground := Ground.phase }, { on := 10, ground := Ground.phase }], guard := none }).run Try.prog Z = .ok (.value (.pointer (some ⟨g, 0, none⟩))) Z := fun Z hZ => by
    have e42 := (show a0_22.eval (.tmp 42) = .pointer (some ⟨g, 0, none⟩) from (fa0_22.at_ 42))
    clear fa0_22 hQ h9 hr ho
    generalize a0_22.eval = ρ at *
    go_simp
  refine fa0_22.take 11 53 (.pointer (some ⟨g, 0, none⟩)) rfl (by kernel_rfl) (by kernel_rfl) (by kernel_rfl) (fun _ _ _ h => hQp _ _ _ _ _ h) rfl (lb_ I0.size) (wanted_none rfl) r_a0_23 hS22 (fun a0_23 fa0_23 => ?_)
  clear r_a0_23
  clear fa0_22
  have r_a0_24 : ∀ Z, (fun Z => Z.cell? ⟨g, 2, none⟩ = some (.slice da i dc) ∧ Z.cell? ⟨gi, q + i, none⟩ = some (.string s)) Z → (execOp a0_23.eval { dst := some 54, op := Op.fieldAddr 42 (Operand.tmp 53) 2, type := 0, pos := "ref.go:63", after := #[{ on := 11, ground := Ground.data }, { on := 0, ground := Ground.phase }, { on := 1, ground := Ground.phase }, { on := 2, ground := Ground.phase }, { on := 3, ground := Ground.phase }, { on := 4, ground := Ground.phase }, { on := 5, ground := Ground.phase }, { on := 6, ground := Ground.phase }, { on := 7, ground := Ground.phase }, { on := 8, ground := Ground.phase }, { on := 9, ground := Ground.phase }, { on := 10, ground := Ground.phase }], guard := none }).run Try.prog Z = .ok (.value (.pointer (some ⟨g, 2, none⟩))) Z := fun Z hZ => by
    have e53 := (show a0_23.eval (.tmp 53) = .pointer (some ⟨g, 0, none⟩) from (fa0_23.at_ 53))
    clear fa0_23 hQ h9 hr ho
    generalize a0_23.eval = ρ at *
    go_simp
  refine fa0_23.take 12 54 (.pointer (some ⟨g, 2, none⟩)) rfl (by kernel_rfl) (by kernel_rfl) (by kernel_rfl) (fun _ _ _ h => hQp _ _ _ _ _ h) rfl (lb_ I0.size) (wanted_none rfl) r_a0_24 hS22 (fun a0_24 fa0_24 => ?_)
  clear r_a0_24
  clear fa0_23
  have r_a0_25 : (execOp a0_24.eval rDK11f).run Try.prog (V7) = .ok .skip (World.setCell V7 ⟨g, 2, none⟩ (.slice (some ⟨gr, 0, none⟩) (i + 1) c3)) := by
    unfold rDK11f
    have e54 := (show a0_24.eval (.tmp 54) = .pointer (some ⟨g, 2, none⟩) from (fa0_24.at_ 54))
    have e52 := (show a0_24.eval (.tmp 52) = .slice (some ⟨gr, 0, none⟩) (i + 1) c3 from (fa0_24.at_ 52))
    clear fa0_24 hQ h9 hr ho
    generalize a0_24.eval = ρ at *
    go_simp
  refine wpAnyH_done (by kernel_rfl) ?_ _
  refine fa0_24.last rfl r_a0_25 (fun a0_25 fa0_25 => ?_)
  clear r_a0_25 fa0_24
  have h8 : (World.setCell V7 ⟨g, 2, none⟩ (.slice (some ⟨gr, 0, none⟩) (i + 1) c3)).heap[g]? = some (.cells (rdC pg mo (.slice (some ⟨gr, 0, none⟩) (i + 1) c3)).toArray 42 (0, 0)) := by rw [heap_setCell_same V7 g 2 _ _ _ hr7]; simp [rdC]
  have f8 : Fr (fun k => k = g) V7 (World.setCell V7 ⟨g, 2, none⟩ (.slice (some ⟨gr, 0, none⟩) (i + 1) c3)) := Fr.setCell (S := fun k => k = g) (Fr.refl _ V7) (p := ⟨g, 2, none⟩) (fun _ => rfl) _
  generalize World.setCell V7 ⟨g, 2, none⟩ (.slice (some ⟨gr, 0, none⟩) (i + 1) c3) = V8 at *
  have o8 := own_frameB o3 f8 (fun k hk e => own_neT o3 hr7 (by decide) k hk e)
  have fA : Fr (fun k => (Value.slice da i dc).ownBlock = some k) wr V7 := Fr.trans (ea.mono (fun _ _ f => f.elim)) f3 (fun _ _ e => e)
  have fB : Fr (fun k => k = g ∨ (Value.slice da i dc).ownBlock = some k) wr V8 := Fr.trans (fA.mono (fun _ _ e => Or.inr e)) f8 (fun _ _ e => Or.inl e)
  change Code.wp _ _ _ _ _
  refine wp_region_list ?_
  unfold rDK8
  refine fa0_25.move 33 (.int .i64 (i : Int)) _ (Or.inl rfl) rfl (lb_ I0.size) (wanted_none rfl) ((fa0_25.at_ 9).trans h9) (fun a0_26 fa0_26 => ?_)
  clear fa0_25
  have r_a0_27 : (execOp a0_26.eval { dst := some 34, op := Op.binOp BinOp.add 3 (Operand.tmp 33) (Operand.const (Value.int IntKind.i64 1)) 3, type := 3, pos := "ref.go:59", after := #[{ on := 0, ground := Ground.data }], guard := none }).run Try.prog (V8) = .ok (.value (.int .i64 ((i : Int) + 1))) (V8) := by
    have kc : ∀ v, a0_26.eval (.const v) = v := fun _ => rfl
    have e33 := (show a0_26.eval (.tmp 33) = .int .i64 (i : Int) from (fa0_26.at_ 33))
    clear fa0_26 hQ h9 hr ho
    generalize a0_26.eval = ρ at *
    go_simp
  refine fa0_26.step 34 (.int .i64 ((i : Int) + 1)) rfl (lb_ I0.size) (wanted_none rfl) r_a0_27 (fun a0_27 fa0_27 => ?_)
  clear r_a0_27
  clear fa0_26
  refine fa0_27.move 9 (.int .i64 ((i : Int) + 1)) _ (Or.inr rfl) rfl (lb_ I0.size) (wanted_none rfl) (fa0_27.at_ 34) (fun a0_28 fa0_28 => ?_)
  clear fa0_27
  refine wpList_nil ?_
  exact hQ a0_28 V8 gr c3 (I0.keep fa0_28 rfl rfl rfl) (show a0_28.eval (.tmp 9) = .int .i64 ((i : Int) + 1) from (fa0_28.at_ 9)) h8 (by rw [scells_app]; exact o8) fB (l3.imp id (fun e => by have := ea.size; omega))
end Go.Proofs.Ytljlkcmjbjnihaa
