/- free: Lay. -/
import Derived.Test.YtneopkhkkfckcaaYM
import Derived.Test.YtneopkhkkfckcaaYH
namespace Go.Proofs.Ytneopkhkkfckcaa
open Go.RowKit Go.Maps

theorem Try.infPg : (Try.prog.info? 52).map (fun i => (i.zero, i.size, i.bytes)) = some (some (.agg #[.int .u8 0, .int .u32 0, .int .u64 0, .string ⟨#[]⟩]), 4, 32) := by kernel_rfl
theorem run_partPgs (w : World) (ty : TypeId) {B n : Nat} {v : Value} {xs : List Value} (hown : w.ownsRow B 52 4 v n xs) {x : Part} (hx : PartOk w 4 x) (hb : n + x.n ≤ 1099511627776) (hB : B ≤ w.heap.size) :
    ∃ v' w', (Builtin.append_ #[43, 43] ty #[v, .slice x.ao x.n x.c]).run Try.prog w = .ok v' w' ∧ w'.ownsRow B 52 4 v' (n + x.n) (xs ++ x.cells) ∧ w.grownBy w' v.ownBlock := by
  obtain ⟨i0, hi, hz0, hz1, hz2⟩ := info_parts Try.infPg
  obtain ⟨ao, m, c, cs⟩ := x
  cases ao with
  | none =>
    obtain ⟨e1, e2⟩ := hx.none rfl
    have e3 := hx.len
    simp only at e1 e2 e3
    subst e1 e2
    have e4 : cs = [] := List.eq_nil_of_length_eq_zero (by omega)
    subst e4
    refine ⟨v, w, run_append_owned_none (P := Try.prog) (w := w) B 43 ty 52 i0 4 Try.underlying43 hi v n xs hown, ?_, ⟨rfl, rfl, rfl, Nat.le_refl _, fun _ _ _ => rfl⟩⟩
    rw [List.append_nil]; exact hown
  | some a =>
    simp only at hb
    obtain ⟨v', w', h1, h2, h3, _⟩ := run_append_own (P := Try.prog) w B 43 ty 52 i0 (.agg #[.int .u8 0, .int .u32 0, .int .u64 0, .string ⟨#[]⟩]) 4 32 Try.underlying43 hi hz0 hz1 hz2 rfl (by decide) v n xs hown a m c cs hx.len (hx.at_ a rfl) hx.one (by unfold maxLen; omega) (by omega) hB
    exact ⟨v', w', h1, h2, h3⟩
def oYN0 : Oper := { dst := some 7, op := Op.call { callee := Callee.builtin Builtin.len, args := #[Operand.tmp 6], argTypes := #[22] }, type := 3, pos := "chain.go:82", after := #[{ on := 1, ground := Ground.data }], guard := none }
def oYN1 : Oper := { dst := some 8, op := Op.binOp BinOp.geq 3 (Operand.tmp 5) (Operand.tmp 7) 3, type := 4, pos := "chain.go:82", after := #[{ on := 0, ground := Ground.data }, { on := 2, ground := Ground.data }], guard := none }
def oYN2 : Oper := { dst := some 11, op := Op.indexAddr 22 (Operand.tmp 9) (Operand.tmp 10), type := 0, pos := "chain.go:85", after := #[{ on := 0, ground := Ground.data }, { on := 1, ground := Ground.data }], guard := none }
def oYN3 : Oper := { dst := some 12, op := Op.fieldAddr 55 (Operand.tmp 11) 0, type := 0, pos := "chain.go:85", after := #[{ on := 2, ground := Ground.data }], guard := none }
def oYN4 : Oper := { dst := some 13, op := Op.load 24 (Operand.tmp 12), type := 24, pos := "chain.go:85", after := #[{ on := 3, ground := Ground.data }], guard := none }
def rPA0 : Array Oper := #[{ dst := some 4, op := Op.assign (Operand.const (Value.int IntKind.u32 0)), type := 24, pos := "chain.go:81", after := #[], guard := none }]
def rPA1 : Array Oper := #[{ dst := some 5, op := Op.move (Operand.tmp 1), type := 3, pos := "chain.go:82", after := #[], guard := none },
  { dst := some 6, op := Op.move (Operand.tmp 0), type := 22, pos := "chain.go:82", after := #[], guard := none },
  oYN0,
  oYN1]
def rPA2 : Array Oper := #[{ dst := some 4, op := Op.assign (Operand.const (Value.int IntKind.u32 0)), type := 24, pos := "chain.go:83", after := #[], guard := none }]
def rPA3 : Array Oper := #[{ dst := some 9, op := Op.move (Operand.tmp 0), type := 22, pos := "chain.go:85", after := #[], guard := none },
  { dst := some 10, op := Op.move (Operand.tmp 1), type := 3, pos := "chain.go:85", after := #[], guard := none },
  oYN2,
  oYN3,
  oYN4,
  { dst := some 4, op := Op.assign (Operand.tmp 13), type := 24, pos := "chain.go:85", after := #[{ on := 4, ground := Ground.data }, { on := 0, ground := Ground.phase }, { on := 1, ground := Ground.phase }, { on := 2, ground := Ground.phase }, { on := 3, ground := Ground.phase }, { on := 4, ground := Ground.phase }], guard := none }]
def cPA : Code := (Code.seq (Code.region 0 rPA0 false) (Code.seq (Code.seq (Code.region 1 rPA1 false) (Code.cond (Operand.tmp 8) (Code.seq (Code.region 2 rPA2 false) Code.ret) Code.skip)) (Code.seq (Code.region 3 rPA3 false) Code.ret)))
def rLY0 : Array Oper := #[{ dst := some 4, op := Op.box 39 (Operand.tmp 0), type := 0, pos := "chain.go:64", after := #[], guard := none },
  { dst := some 7, op := Op.box 26 (Operand.tmp 3), type := 0, pos := "chain.go:64", after := #[], guard := none },
  { dst := some 8, op := Op.assign (Operand.const (Value.slice none 0 0)), type := 43, pos := "chain.go:64", after := #[], guard := none },
  { dst := some 9, op := Op.assign (Operand.const (Value.int IntKind.i64 0)), type := 46, pos := "chain.go:64", after := #[{ on := 2, ground := Ground.chain }], guard := none }]
def rLY1 : Array Oper := #[{ dst := some 16, op := Op.move (Operand.tmp 1), type := 40, pos := "chain.go:65", after := #[], guard := none },
  { dst := some 17, op := Op.binOp BinOp.lss 40 (Operand.tmp 16) (Operand.const (Value.int IntKind.u64 1)) 40, type := 4, pos := "chain.go:65", after := #[{ on := 0, ground := Ground.data }], guard := none },
  { dst := some 18, op := Op.move (Operand.tmp 17), type := 4, pos := "chain.go:65", after := #[{ on := 1, ground := Ground.data }], guard := none },
  { dst := some 19, op := Op.move (Operand.tmp 1), type := 40, pos := "chain.go:65", after := #[{ on := 2, ground := Ground.guard }], guard := some (2, false) },
  { dst := some 20, op := Op.binOp BinOp.gtr 40 (Operand.tmp 19) (Operand.const (Value.int IntKind.u64 1099511627776)) 40, type := 4, pos := "chain.go:65", after := #[{ on := 3, ground := Ground.data }, { on := 2, ground := Ground.guard }], guard := some (2, false) },
  { dst := some 21, op := Op.pick (Operand.tmp 18) (Operand.const (Value.bool true)) (Operand.tmp 20), type := 4, pos := "chain.go:65", after := #[{ on := 2, ground := Ground.data }, { on := 4, ground := Ground.data }], guard := none },
  { dst := some 22, op := Op.move (Operand.tmp 21), type := 4, pos := "chain.go:65", after := #[{ on := 5, ground := Ground.data }, { on := 2, ground := Ground.chain }], guard := none },
  { dst := some 23, op := Op.fieldAddr 26 (Operand.tmp 7) 2, type := 0, pos := "chain.go:65", after := #[{ on := 6, ground := Ground.guard }], guard := some (6, false) },
  { dst := some 24, op := Op.load 3 (Operand.tmp 23), type := 3, pos := "chain.go:65", after := #[{ on := 7, ground := Ground.data }, { on := 6, ground := Ground.guard }], guard := some (6, false) },
  { dst := some 25, op := Op.binOp BinOp.lss 3 (Operand.tmp 24) (Operand.const (Value.int IntKind.i64 0)) 3, type := 4, pos := "chain.go:65", after := #[{ on := 8, ground := Ground.data }, { on := 6, ground := Ground.guard }], guard := some (6, false) },
  { dst := some 26, op := Op.pick (Operand.tmp 22) (Operand.const (Value.bool true)) (Operand.tmp 25), type := 4, pos := "chain.go:65", after := #[{ on := 6, ground := Ground.data }, { on := 9, ground := Ground.data }], guard := none },
  { dst := some 27, op := Op.move (Operand.tmp 26), type := 4, pos := "chain.go:65", after := #[{ on := 10, ground := Ground.data }, { on := 6, ground := Ground.chain }], guard := none },
  { dst := some 28, op := Op.fieldAddr 26 (Operand.tmp 7) 2, type := 0, pos := "chain.go:65", after := #[{ on := 11, ground := Ground.guard }], guard := some (11, false) },
  { dst := some 29, op := Op.load 3 (Operand.tmp 28), type := 3, pos := "chain.go:65", after := #[{ on := 12, ground := Ground.data }, { on := 11, ground := Ground.guard }], guard := some (11, false) },
  { dst := some 30, op := Op.move (Operand.tmp 2), type := 22, pos := "chain.go:65", after := #[{ on := 11, ground := Ground.guard }], guard := some (11, false) },
  { dst := some 31, op := Op.call { callee := Callee.builtin Builtin.len, args := #[Operand.tmp 30], argTypes := #[22] }, type := 3, pos := "chain.go:65", after := #[{ on := 14, ground := Ground.data }, { on := 11, ground := Ground.guard }], guard := some (11, false) },
  { dst := some 32, op := Op.binOp BinOp.gtr 3 (Operand.tmp 29) (Operand.tmp 31) 3, type := 4, pos := "chain.go:65", after := #[{ on := 13, ground := Ground.data }, { on := 15, ground := Ground.data }, { on := 11, ground := Ground.guard }], guard := some (11, false) },
  { dst := some 33, op := Op.pick (Operand.tmp 27) (Operand.const (Value.bool true)) (Operand.tmp 32), type := 4, pos := "chain.go:65", after := #[{ on := 11, ground := Ground.data }, { on := 16, ground := Ground.data }], guard := none }]
def rLY2 : Array Oper := #[{ dst := some 8, op := Op.assign (Operand.const (Value.slice none 0 0)), type := 43, pos := "chain.go:66", after := #[], guard := none },
  { dst := some 9, op := Op.assign (Operand.const (Value.int IntKind.i64 2)), type := 46, pos := "chain.go:66", after := #[{ on := 0, ground := Ground.chain }, { on := 0, ground := Ground.phase }], guard := none }]
def rLY3 : Array Oper := #[{ dst := some 34, op := Op.move (Operand.tmp 2), type := 22, pos := "chain.go:68", after := #[], guard := none },
  { dst := some 35, op := Op.load 26 (Operand.tmp 7), type := 26, pos := "chain.go:68", after := #[], guard := none },
  { dst := some 36, op := Op.call { callee := Callee.value (Operand.func 8), args := #[Operand.tmp 34, Operand.tmp 35], argTypes := #[22, 26] }, type := 22, pos := "chain.go:68", after := #[{ on := 0, ground := Ground.data }, { on := 1, ground := Ground.data }], guard := none },
  { dst := some 10, op := Op.assign (Operand.tmp 36), type := 22, pos := "chain.go:68", after := #[{ on := 2, ground := Ground.data }, { on := 2, ground := Ground.chain }, { on := 0, ground := Ground.phase }, { on := 1, ground := Ground.phase }, { on := 2, ground := Ground.phase }], guard := none }]
def rLY4 : Array Oper := #[{ dst := some 37, op := Op.load 39 (Operand.tmp 4), type := 39, pos := "chain.go:69", after := #[], guard := none },
  { dst := some 38, op := Op.move (Operand.tmp 10), type := 22, pos := "chain.go:69", after := #[], guard := none },
  { dst := some 39, op := Op.fieldAddr 26 (Operand.tmp 7) 3, type := 0, pos := "chain.go:69", after := #[], guard := none },
  { dst := some 40, op := Op.load 24 (Operand.tmp 39), type := 24, pos := "chain.go:69", after := #[{ on := 2, ground := Ground.data }], guard := none },
  { dst := some 41, op := Op.call { callee := Callee.value (Operand.func 31), args := #[Operand.tmp 37, Operand.tmp 38, Operand.tmp 40], argTypes := #[39, 22, 24] }, type := 46, pos := "chain.go:69", after := #[{ on := 0, ground := Ground.data }, { on := 1, ground := Ground.data }, { on := 3, ground := Ground.data }], guard := none },
  { dst := some 42, op := Op.binOp BinOp.neq 46 (Operand.tmp 41) (Operand.const (Value.int IntKind.i64 0)) 46, type := 4, pos := "chain.go:69", after := #[{ on := 4, ground := Ground.data }], guard := none }]
def rLY5 : Array Oper := #[{ dst := some 8, op := Op.assign (Operand.const (Value.slice none 0 0)), type := 43, pos := "chain.go:70", after := #[], guard := none },
  { dst := some 9, op := Op.assign (Operand.const (Value.int IntKind.i64 2)), type := 46, pos := "chain.go:70", after := #[{ on := 0, ground := Ground.chain }, { on := 0, ground := Ground.phase }], guard := none }]
def rLY6 : Array Oper := #[{ dst := some 11, op := Op.assign (Operand.const (Value.slice none 0 0)), type := 43, pos := "chain.go:72", after := #[], guard := none }]
def rLY7 : Array Oper := #[{ dst := some 43, op := Op.move (Operand.tmp 10), type := 22, pos := "chain.go:73", after := #[], guard := none },
  { dst := some 44, op := Op.fieldAddr 26 (Operand.tmp 7) 1, type := 0, pos := "chain.go:73", after := #[], guard := none },
  { dst := some 45, op := Op.load 22 (Operand.tmp 44), type := 22, pos := "chain.go:73", after := #[{ on := 1, ground := Ground.data }], guard := none },
  { dst := some 46, op := Op.call { callee := Callee.builtin Builtin.len, args := #[Operand.tmp 45], argTypes := #[22] }, type := 3, pos := "chain.go:73", after := #[{ on := 2, ground := Ground.data }], guard := none },
  { dst := some 47, op := Op.slice 22 (Operand.tmp 43) none (some (Operand.tmp 46)) none, type := 22, pos := "chain.go:73", after := #[{ on := 0, ground := Ground.data }, { on := 3, ground := Ground.data }], guard := none },
  { dst := some 48, op := Op.call { callee := Callee.builtin Builtin.len, args := #[Operand.tmp 47], argTypes := #[22] }, type := 3, pos := "chain.go:73", after := #[{ on := 4, ground := Ground.data }], guard := none },
  { dst := some 49, op := Op.move (Operand.const (Value.int IntKind.i64 0)), type := 3, pos := "chain.go:73", after := #[], guard := none }]
def rLY8 : Array Oper := #[{ dst := some 50, op := Op.binOp BinOp.lss 3 (Operand.tmp 49) (Operand.tmp 48) 3, type := 0, pos := "chain.go:73", after := #[], guard := none }]
def rLY9 : Array Oper := #[{ dst := some 51, op := Op.move (Operand.tmp 49), type := 3, pos := "chain.go:73", after := #[], guard := none },
  { dst := some 52, op := Op.indexAddr 22 (Operand.tmp 47) (Operand.tmp 49), type := 0, pos := "chain.go:73", after := #[], guard := none },
  { dst := some 53, op := Op.load 55 (Operand.tmp 52), type := 55, pos := "chain.go:73", after := #[{ on := 1, ground := Ground.data }], guard := none },
  { dst := some 13, op := Op.alloc 55, type := 0, pos := "chain.go:73", after := #[], guard := none },
  { dst := some 12, op := Op.assign (Operand.tmp 51), type := 3, pos := "chain.go:73", after := #[{ on := 0, ground := Ground.data }, { on := 0, ground := Ground.phase }, { on := 1, ground := Ground.phase }, { on := 2, ground := Ground.phase }, { on := 3, ground := Ground.phase }], guard := none },
  { dst := none, op := Op.store 55 (Operand.tmp 13) (Operand.tmp 53), type := 0, pos := "chain.go:73", after := #[{ on := 3, ground := Ground.data }, { on := 2, ground := Ground.data }, { on := 4, ground := Ground.chain }, { on := 0, ground := Ground.phase }, { on := 1, ground := Ground.phase }, { on := 2, ground := Ground.phase }, { on := 3, ground := Ground.phase }, { on := 4, ground := Ground.phase }], guard := none }]
def rLY10 : Array Oper := #[{ dst := some 55, op := Op.load 39 (Operand.tmp 4), type := 39, pos := "chain.go:74", after := #[], guard := none },
  { dst := some 56, op := Op.move (Operand.tmp 10), type := 22, pos := "chain.go:74", after := #[], guard := none },
  { dst := some 57, op := Op.move (Operand.tmp 12), type := 3, pos := "chain.go:74", after := #[], guard := none },
  { dst := some 58, op := Op.binOp BinOp.add 3 (Operand.tmp 57) (Operand.const (Value.int IntKind.i64 1)) 3, type := 3, pos := "chain.go:74", after := #[{ on := 2, ground := Ground.data }], guard := none },
  { dst := some 59, op := Op.call { callee := Callee.value (Operand.func 32), args := #[Operand.tmp 56, Operand.tmp 58], argTypes := #[22, 3] }, type := 24, pos := "chain.go:74", after := #[{ on := 1, ground := Ground.data }, { on := 3, ground := Ground.data }], guard := none },
  { dst := some 60, op := Op.fieldAddr 55 (Operand.tmp 13) 1, type := 0, pos := "chain.go:74", after := #[], guard := none },
  { dst := some 61, op := Op.load 23 (Operand.tmp 60), type := 23, pos := "chain.go:74", after := #[{ on := 5, ground := Ground.data }], guard := none },
  { dst := some 62, op := Op.call { callee := Callee.value (Operand.func 22), args := #[Operand.tmp 55, Operand.tmp 59, Operand.tmp 61], argTypes := #[39, 24, 23] }, type := 58, pos := "chain.go:74", after := #[{ on := 0, ground := Ground.data }, { on := 4, ground := Ground.data }, { on := 6, ground := Ground.data }, { on := 4, ground := Ground.chain }], guard := none },
  { dst := some 54, op := Op.move (Operand.tmp 62), type := 58, pos := "chain.go:74", after := #[{ on := 7, ground := Ground.data }], guard := none },
  { dst := some 63, op := Op.extract (Operand.tmp 54) 0, type := 9, pos := "chain.go:74", after := #[{ on := 8, ground := Ground.data }], guard := none },
  { dst := some 64, op := Op.extract (Operand.tmp 54) 1, type := 46, pos := "chain.go:74", after := #[{ on := 8, ground := Ground.data }, { on := 11, ground := Ground.gcOnly Go.Departure.lateStores }], guard := none },
  { dst := some 14, op := Op.assign (Operand.tmp 63), type := 9, pos := "chain.go:74", after := #[{ on := 9, ground := Ground.data }, { on := 7, ground := Ground.chain }, { on := 0, ground := Ground.phase }, { on := 1, ground := Ground.phase }, { on := 2, ground := Ground.phase }, { on := 3, ground := Ground.phase }, { on := 4, ground := Ground.phase }, { on := 5, ground := Ground.phase }, { on := 6, ground := Ground.phase }, { on := 7, ground := Ground.phase }, { on := 8, ground := Ground.phase }, { on := 9, ground := Ground.phase }, { on := 10, ground := Ground.textOnly Go.Departure.lateStores }], guard := none },
  { dst := some 15, op := Op.assign (Operand.tmp 64), type := 46, pos := "chain.go:74", after := #[{ on := 10, ground := Ground.data }, { on := 11, ground := Ground.chain }, { on := 0, ground := Ground.phase }, { on := 1, ground := Ground.phase }, { on := 2, ground := Ground.phase }, { on := 3, ground := Ground.phase }, { on := 4, ground := Ground.phase }, { on := 5, ground := Ground.phase }, { on := 6, ground := Ground.phase }, { on := 7, ground := Ground.phase }, { on := 8, ground := Ground.phase }, { on := 9, ground := Ground.phase }, { on := 10, ground := Ground.phase }, { on := 11, ground := Ground.phase }], guard := none }]
def rLY11 : Array Oper := #[{ dst := some 65, op := Op.move (Operand.tmp 11), type := 43, pos := "chain.go:75", after := #[], guard := none },
  { dst := some 66, op := Op.fieldAddr 55 (Operand.tmp 13) 0, type := 0, pos := "chain.go:75", after := #[], guard := none },
  { dst := some 67, op := Op.load 24 (Operand.tmp 66), type := 24, pos := "chain.go:75", after := #[{ on := 1, ground := Ground.data }], guard := none },
  { dst := some 68, op := Op.move (Operand.tmp 1), type := 40, pos := "chain.go:75", after := #[], guard := none },
  { dst := some 69, op := Op.move (Operand.tmp 14), type := 9, pos := "chain.go:75", after := #[], guard := none },
  { dst := some 70, op := Op.build 52 #[(0, Operand.const (Value.int IntKind.u8 3)), (1, Operand.tmp 67), (2, Operand.tmp 68), (3, Operand.tmp 69)], type := 52, pos := "chain.go:75", after := #[{ on := 2, ground := Ground.data }, { on := 3, ground := Ground.data }, { on := 4, ground := Ground.data }], guard := none },
  { dst := some 71, op := Op.buildSlice 43 1 #[(0, Operand.tmp 70)], type := 43, pos := "chain.go:75", after := #[{ on := 5, ground := Ground.data }], guard := none },
  { dst := some 72, op := Op.call { callee := Callee.builtin Builtin.append, args := #[Operand.tmp 65, Operand.tmp 71], argTypes := #[43, 43] }, type := 43, pos := "chain.go:75", after := #[{ on := 0, ground := Ground.data }, { on := 6, ground := Ground.data }], guard := none },
  { dst := some 11, op := Op.assign (Operand.tmp 72), type := 43, pos := "chain.go:75", after := #[{ on := 7, ground := Ground.data }, { on := 7, ground := Ground.chain }, { on := 0, ground := Ground.phase }, { on := 1, ground := Ground.phase }, { on := 2, ground := Ground.phase }, { on := 3, ground := Ground.phase }, { on := 4, ground := Ground.phase }, { on := 5, ground := Ground.phase }, { on := 6, ground := Ground.phase }, { on := 7, ground := Ground.phase }], guard := none }]
def rLY12 : Array Oper := #[{ dst := some 73, op := Op.binOp BinOp.add 3 (Operand.tmp 49) (Operand.const (Value.int IntKind.i64 1)) 3, type := 3, pos := "chain.go:73", after := #[], guard := none },
  { dst := some 49, op := Op.move (Operand.tmp 73), type := 3, pos := "chain.go:73", after := #[{ on := 0, ground := Ground.data }], guard := none }]
def rLY13 : Array Oper := #[{ dst := some 74, op := Op.move (Operand.tmp 11), type := 43, pos := "chain.go:77", after := #[], guard := none },
  { dst := some 8, op := Op.assign (Operand.tmp 74), type := 43, pos := "chain.go:77", after := #[{ on := 0, ground := Ground.data }, { on := 0, ground := Ground.phase }], guard := none },
  { dst := some 9, op := Op.assign (Operand.const (Value.int IntKind.i64 0)), type := 46, pos := "chain.go:77", after := #[{ on := 1, ground := Ground.chain }, { on := 0, ground := Ground.phase }, { on := 1, ground := Ground.phase }], guard := none }]
def cLY1 : Code := (Code.seq (Code.region 8 rLY8 false) (Code.seq (Code.cond (Operand.tmp 50) Code.skip (Code.exit 0)) (Code.seq (Code.block 1 (Code.seq (Code.region 9 rLY9 false) (Code.seq (Code.region 10 rLY10 true) (Code.region 11 rLY11 false)))) (Code.region 12 rLY12 false))))
def cLY : Code := (Code.seq (Code.region 0 rLY0 false) (Code.seq (Code.seq (Code.region 1 rLY1 false) (Code.cond (Operand.tmp 33) (Code.seq (Code.region 2 rLY2 false) Code.ret) Code.skip)) (Code.seq (Code.region 3 rLY3 false) (Code.seq (Code.seq (Code.region 4 rLY4 false) (Code.cond (Operand.tmp 42) (Code.seq (Code.region 5 rLY5 false) Code.ret) Code.skip)) (Code.seq (Code.region 6 rLY6 false) (Code.seq (Code.seq (Code.region 7 rLY7 false) (Code.block 0 (Code.loop cLY1))) (Code.seq (Code.region 13 rLY13 false) Code.ret)))))))

/-- The page of a chain's batch. -/
def nextPg (A : List Bt) (j : Nat) : Nat := match A[j]? with | some x => x.pg | none => 0
abbrev Pgx := Nat × ByteArray
def pgC (vr : Nat) (x : Pgx) : List Value := [.int .u8 3, .int .u32 (x.1 : Int), .int .u64 (vr : Int), .string x.2]
def pgCs (vr : Nat) (l : List Pgx) : List Value := l.flatMap (pgC vr)
theorem pgCs_app (vr : Nat) (a b : List Pgx) : pgCs vr (a ++ b) = pgCs vr a ++ pgCs vr b := by simp [pgCs]
/-- The first m list pages of a chain. -/
def laidP (p q : Int) (A : List Bt) (m : Nat) : List Pgx := (List.range m).map fun i => (nextPg A i, bodyS p q (nextPg A (i + 1)) (match A[i]? with | some x => x.ns | none => []))
theorem laidP_len (p q : Int) (A : List Bt) (m : Nat) : (laidP p q A m).length = m := by simp [laidP]
theorem laidP_succ {p q : Int} {A : List Bt} {m : Nat} {x : Bt} (hx : A[m]? = some x) : laidP p q A (m + 1) = laidP p q A m ++ [(x.pg, bodyS p q (nextPg A (m + 1)) x.ns)] := by simp [laidP, List.range_succ, nextPg, hx]
theorem nextPg_key {A B : List Bt} (h : A.map Bt.key = B.map Bt.key) (j : Nat) : nextPg A j = nextPg B j := by
  have h1 : (A.map Bt.key)[j]? = (B.map Bt.key)[j]? := by rw [h]
  rw [List.getElem?_map, List.getElem?_map] at h1
  unfold nextPg
  cases ha : A[j]? with
  | none => rw [ha] at h1; cases hb : B[j]? with
            | none => rfl
            | some y => rw [hb] at h1; cases h1
  | some x => rw [ha] at h1; cases hb : B[j]? with
              | none => rw [hb] at h1; cases h1
              | some y => rw [hb] at h1; exact congrArg Prod.fst (Option.some.inj h1)
theorem laidP_key {p q : Int} {A B : List Bt} (h : A.map Bt.key = B.map Bt.key) (m : Nat) : laidP p q A m = laidP p q B m := by
  unfold laidP
  apply List.map_congr_left
  intro i _
  have h1 : (A.map Bt.key)[i]? = (B.map Bt.key)[i]? := by rw [h]
  rw [List.getElem?_map, List.getElem?_map] at h1
  rw [nextPg_key h, nextPg_key h]
  congr 2
  cases ha : A[i]? with
  | none => rw [ha] at h1; cases hb : B[i]? with
            | none => rfl
            | some y => rw [hb] at h1; cases h1
  | some x => rw [ha] at h1; cases hb : B[i]? with
              | none => rw [hb] at h1; cases h1
              | some y => rw [hb] at h1; exact congrArg Prod.snd (Option.some.inj h1)
theorem row_bv {w W w0 : World} {ao : Option Addr} {cc : Nat} {N A : List Bt} (hr : W.ownsRow w.heap.size 55 2 (.slice ao N.length cc) N.length (btCs N)) (hn : ∀ x ∈ N, NewX w W x) (hk : N.map Bt.key = A.map Bt.key) (hA : ∀ x ∈ A, BvOk w0 x) : ∃ g, BvRow W ao g 0 N := by
  by_cases h0 : N = []
  · subst h0
    exact ⟨0, fun e => absurd rfl e, fun j x hj => by simp at hj⟩
  · obtain ⟨g, rfl, hlt⟩ := own_some (own_base hr (Nat.zero_le _)) (by intro e; exact h0 (List.eq_nil_of_length_eq_zero e))
    refine ⟨g, fun _ => ⟨rfl, hlt⟩, fun j y hy => ?_⟩
    obtain ⟨b1, b2⟩ := btCs_at [] hy
    rw [List.append_nil] at b1 b2
    have hr0 := own_base hr (Nat.zero_le _)
    have hy2 := hn y (List.mem_of_getElem? hy)
    obtain ⟨x, hx, hkey⟩ : ∃ x, A[j]? = some x ∧ y.key = x.key := by
      have h1 : (N.map Bt.key)[j]? = (A.map Bt.key)[j]? := by rw [hk]
      rw [List.getElem?_map, List.getElem?_map, hy] at h1
      cases hx : A[j]? with
      | none => rw [hx] at h1; cases h1
      | some x => rw [hx] at h1; exact ⟨x, rfl, Option.some.inj h1⟩
    have hpg : y.pg = x.pg := congrArg Prod.fst hkey
    have hns : y.ns = x.ns := congrArg Prod.snd hkey
    have hx2 := hA x (List.mem_of_getElem? hx)
    rw [Nat.zero_add]
    exact ⟨own_cell hr0 b1, own_cell hr0 b2, by rw [hy2.no]; exact hy2.row, by rw [hpg]; exact hx2.hpg, by rw [hns]; exact hx2.hns⟩
set_option maxRecDepth 100000 in
theorem pageAt_in {n cc j g v : Nat} (w : World) (hj : j < n) (c1 : w.cell? ⟨g, j * 2, none⟩ = some (.int .u32 (v : Int))) :
    Calls Try.prog 32 #[.slice (some ⟨g, 0, none⟩) n cc, .int .i64 (j : Int)] w fun e w' => e = .returned (.int .u32 (v : Int)) ∧ Same w w' := by
  have hi : (j : Int) < (n : Int) := by omega
  have hid : decide ((n : Int) ≤ (j : Int)) = false := decide_eq_false (by omega)
  refine calls_abs (c := cPA) Try.func32 (by kernel_rfl) 14 rfl (by simp) (fun a0 hsz hd ha => ?_)
  have fa0_0 := Fe.refl a0
  unfold cPA
  refine wp_seq ?_
  refine wp_region_list ?_
  unfold rPA0
  refine fa0_0.move 4 (.int .u32 0) _ (Or.inr rfl) rfl (lb_ hsz) (wanted_none rfl) rfl (fun a0_1 fa0_1 => ?_)
  clear fa0_0
  refine wpList_nil ?_
  change Code.wp _ _ _ _ _
  refine wp_seq (wp_seq ?_)
  refine wp_region_list ?_
  unfold rPA1
  refine fa0_1.move 5 (.int .i64 (j : Int)) _ (Or.inl rfl) rfl (lb_ hsz) (wanted_none rfl) ((fa0_1.at_ 1).trans (ha 1 _ rfl)) (fun a0_2 fa0_2 => ?_)
  clear fa0_1
  refine fa0_2.move 6 (.slice (some ⟨g, 0, none⟩) n cc) _ (Or.inl rfl) rfl (lb_ hsz) (wanted_none rfl) ((fa0_2.at_ 0).trans (ha 0 _ rfl)) (fun a0_3 fa0_3 => ?_)
  clear fa0_2
  have r_a0_4 : (execOp a0_3.eval oYN0).run Try.prog (w) = .ok (.value (.int .i64 (n : Int))) (w) := by
    unfold oYN0
    have e6 := (show a0_3.eval (.tmp 6) = .slice (some ⟨g, 0, none⟩) n cc from (fa0_3.at_ 6))
    clear fa0_3 ha
    generalize a0_3.eval = ρ at *
    go_simp
  refine fa0_3.step 7 (.int .i64 (n : Int)) rfl (lb_ hsz) (wanted_none rfl) r_a0_4 (fun a0_4 fa0_4 => ?_)
  clear r_a0_4
  clear fa0_3
  have r_a0_5 : (execOp a0_4.eval oYN1).run Try.prog (w) = .ok (.value (.bool false)) (w) := by
    unfold oYN1
    have e5 := (show a0_4.eval (.tmp 5) = .int .i64 (j : Int) from (fa0_4.at_ 5))
    have e7 := (show a0_4.eval (.tmp 7) = .int .i64 (n : Int) from (fa0_4.at_ 7))
    clear fa0_4 ha
    generalize a0_4.eval = ρ at *
    go_simp
  refine fa0_4.step 8 (.bool false) rfl (lb_ hsz) (wanted_none rfl) r_a0_5 (fun a0_5 fa0_5 => ?_)
  clear r_a0_5
  clear fa0_4
  refine wpList_nil ?_
  change Code.wp _ _ _ _ _
  refine wp_cond_false (show a0_5.eval (.tmp 8) = .bool false from (fa0_5.at_ 8)) (wp_skip ?_)
  change Code.wp _ _ _ _ _
  refine wp_seq ?_
  refine wp_region_list ?_
  unfold rPA3
  refine fa0_5.move 9 (.slice (some ⟨g, 0, none⟩) n cc) _ (Or.inl rfl) rfl (lb_ hsz) (wanted_none rfl) ((fa0_5.at_ 0).trans (ha 0 _ rfl)) (fun a0_6 fa0_6 => ?_)
  clear fa0_5
  refine fa0_6.move 10 (.int .i64 (j : Int)) _ (Or.inl rfl) rfl (lb_ hsz) (wanted_none rfl) ((fa0_6.at_ 1).trans (ha 1 _ rfl)) (fun a0_7 fa0_7 => ?_)
  clear fa0_6
  have r_a0_8 : (execOp a0_7.eval oYN2).run Try.prog (w) = .ok (.value (.pointer (some ⟨g, j * 2, none⟩))) (w) := by
    unfold oYN2
    have e9 := (show a0_7.eval (.tmp 9) = .slice (some ⟨g, 0, none⟩) n cc from (fa0_7.at_ 9))
    have e10 := (show a0_7.eval (.tmp 10) = .int .i64 (j : Int) from (fa0_7.at_ 10))
    clear fa0_7 ha
    generalize a0_7.eval = ρ at *
    go_simp
  refine fa0_7.step 11 (.pointer (some ⟨g, j * 2, none⟩)) rfl (lb_ hsz) (wanted_none rfl) r_a0_8 (fun a0_8 fa0_8 => ?_)
  clear r_a0_8
  clear fa0_7
  have r_a0_9 : (execOp a0_8.eval oYN3).run Try.prog (w) = .ok (.value (.pointer (some ⟨g, j * 2, none⟩))) (w) := by
    unfold oYN3
    have e11 := (show a0_8.eval (.tmp 11) = .pointer (some ⟨g, j * 2, none⟩) from (fa0_8.at_ 11))
    clear fa0_8 ha
    generalize a0_8.eval = ρ at *
    go_simp
  refine fa0_8.step 12 (.pointer (some ⟨g, j * 2, none⟩)) rfl (lb_ hsz) (wanted_none rfl) r_a0_9 (fun a0_9 fa0_9 => ?_)
  clear r_a0_9
  clear fa0_8
  have r_a0_10 : (execOp a0_9.eval oYN4).run Try.prog (w) = .ok (.value (.int .u32 (v : Int))) (w) := by
    unfold oYN4
    have e12 := (show a0_9.eval (.tmp 12) = .pointer (some ⟨g, j * 2, none⟩) from (fa0_9.at_ 12))
    clear fa0_9 ha
    generalize a0_9.eval = ρ at *
    go_simp
  refine fa0_9.step 13 (.int .u32 (v : Int)) rfl (lb_ hsz) (wanted_none rfl) r_a0_10 (fun a0_10 fa0_10 => ?_)
  clear r_a0_10
  clear fa0_9
  refine fa0_10.move 4 (.int .u32 (v : Int)) _ (Or.inr rfl) rfl (lb_ hsz) (wanted_none rfl) (fa0_10.at_ 13) (fun a0_11 fa0_11 => ?_)
  clear fa0_10
  refine wpList_nil ?_
  change Code.wp _ _ _ _ _
  refine wp_ret ?_
  exact ret_abs rfl (fa0_11.defers.trans hd) (show a0_11.eval (.tmp 4) = .int .u32 (v : Int) from (fa0_11.at_ 4)) ⟨rfl, Fr.refl _ w⟩
set_option maxRecDepth 100000 in
theorem pageAt_out {n cc j : Nat} {ao : Option Addr} (w : World) (hj : n ≤ j) :
    Calls Try.prog 32 #[.slice ao n cc, .int .i64 (j : Int)] w fun e w' => e = .returned (.int .u32 0) ∧ Same w w' := by
  have hi : (n : Int) ≤ (j : Int) := by omega
  refine calls_abs (c := cPA) Try.func32 (by kernel_rfl) 14 rfl (by simp) (fun a0 hsz hd ha => ?_)
  have fa0_0 := Fe.refl a0
  unfold cPA
  refine wp_seq ?_
  refine wp_region_list ?_
  unfold rPA0
  refine fa0_0.move 4 (.int .u32 0) _ (Or.inr rfl) rfl (lb_ hsz) (wanted_none rfl) rfl (fun a0_1 fa0_1 => ?_)
  clear fa0_0
  refine wpList_nil ?_
  change Code.wp _ _ _ _ _
  refine wp_seq (wp_seq ?_)
  refine wp_region_list ?_
  unfold rPA1
  refine fa0_1.move 5 (.int .i64 (j : Int)) _ (Or.inl rfl) rfl (lb_ hsz) (wanted_none rfl) ((fa0_1.at_ 1).trans (ha 1 _ rfl)) (fun a0_2 fa0_2 => ?_)
  clear fa0_1
  refine fa0_2.move 6 (.slice ao n cc) _ (Or.inl rfl) rfl (lb_ hsz) (wanted_none rfl) ((fa0_2.at_ 0).trans (ha 0 _ rfl)) (fun a0_3 fa0_3 => ?_)
  clear fa0_2
  have r_a0_4 : (execOp a0_3.eval oYN0).run Try.prog (w) = .ok (.value (.int .i64 (n : Int))) (w) := by
    unfold oYN0
    have e6 := (show a0_3.eval (.tmp 6) = .slice ao n cc from (fa0_3.at_ 6))
    clear fa0_3 ha
    generalize a0_3.eval = ρ at *
    go_simp
  refine fa0_3.step 7 (.int .i64 (n : Int)) rfl (lb_ hsz) (wanted_none rfl) r_a0_4 (fun a0_4 fa0_4 => ?_)
  clear r_a0_4
  clear fa0_3
  have r_a0_5 : (execOp a0_4.eval oYN1).run Try.prog (w) = .ok (.value (.bool true)) (w) := by
    unfold oYN1
    have e5 := (show a0_4.eval (.tmp 5) = .int .i64 (j : Int) from (fa0_4.at_ 5))
    have e7 := (show a0_4.eval (.tmp 7) = .int .i64 (n : Int) from (fa0_4.at_ 7))
    clear fa0_4 ha
    generalize a0_4.eval = ρ at *
    go_simp
  refine fa0_4.step 8 (.bool true) rfl (lb_ hsz) (wanted_none rfl) r_a0_5 (fun a0_5 fa0_5 => ?_)
  clear r_a0_5
  clear fa0_4
  refine wpList_nil ?_
  change Code.wp _ _ _ _ _
  refine wp_cond_true (show a0_5.eval (.tmp 8) = .bool true from (fa0_5.at_ 8)) (wp_seq ?_)
  refine wp_region_list ?_
  unfold rPA2
  refine fa0_5.move 4 (.int .u32 0) _ (Or.inr rfl) rfl (lb_ hsz) (wanted_none rfl) rfl (fun a0_6 fa0_6 => ?_)
  clear fa0_5
  refine wpList_nil ?_
  change Code.wp _ _ _ _ _
  refine wp_ret ?_
  try simp only [Exit.then]
  exact ret_abs rfl (fa0_6.defers.trans hd) (show a0_6.eval (.tmp 4) = .int .u32 0 from (fa0_6.at_ 4)) ⟨rfl, Fr.refl _ w⟩
theorem pageAt_calls {cc j g : Nat} {ao : Option Addr} {N : List Bt} (w : World) (hb : BvRow w ao g 0 N) :
    Calls Try.prog 32 #[.slice ao N.length cc, .int .i64 (j : Int)] w fun e w' => e = .returned (.int .u32 (nextPg N j : Int)) ∧ Same w w' := by
  by_cases hj : j < N.length
  · obtain ⟨x, hx⟩ : ∃ x, N[j]? = some x := ⟨_, List.getElem?_eq_getElem hj⟩
    obtain ⟨hpa, _⟩ := hb.place (by intro e; rw [e] at hx; simp at hx)
    subst hpa
    have c1 := (hb.cells j x hx).1
    rw [Nat.zero_add] at c1
    have e : nextPg N j = x.pg := by unfold nextPg; rw [hx]
    rw [e]
    exact pageAt_in w hj c1
  · have e : nextPg N j = 0 := by unfold nextPg; rw [List.getElem?_eq_none (by omega)]
    rw [e]
    exact pageAt_out w (by omega)
end Go.Proofs.Ytneopkhkkfckcaa
