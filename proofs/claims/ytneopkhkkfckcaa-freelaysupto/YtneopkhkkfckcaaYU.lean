/- free: FreeLays: its loops, and all behind what is lent. -/
import Derived.Test.YtneopkhkkfckcaaYT
import Derived.Test.YtneopkhkkfckcaaYE
namespace Go.Proofs.Ytneopkhkkfckcaa
open Go.RowKit Go.Maps

def rFL0 : Array Oper := #[{ dst := some 2, op := Op.box 39 (Operand.tmp 0), type := 0, pos := "law.go:111", after := #[], guard := none },
  { dst := some 3, op := Op.box 42 (Operand.tmp 1), type := 0, pos := "law.go:111", after := #[], guard := none },
  { dst := some 4, op := Op.assign (Operand.const (Value.bool false)), type := 4, pos := "law.go:111", after := #[], guard := none }]
def rFL1 : Array Oper := #[{ dst := some 16, op := Op.load 39 (Operand.tmp 2), type := 39, pos := "law.go:112", after := #[], guard := none },
  { dst := some 17, op := Op.fieldAddr 42 (Operand.tmp 3) 0, type := 0, pos := "law.go:112", after := #[], guard := none },
  { dst := some 18, op := Op.load 40 (Operand.tmp 17), type := 40, pos := "law.go:112", after := #[{ on := 1, ground := Ground.data }], guard := none },
  { dst := some 19, op := Op.fieldAddr 42 (Operand.tmp 3) 1, type := 0, pos := "law.go:112", after := #[], guard := none },
  { dst := some 20, op := Op.load 22 (Operand.tmp 19), type := 22, pos := "law.go:112", after := #[{ on := 3, ground := Ground.data }], guard := none },
  { dst := some 21, op := Op.fieldAddr 42 (Operand.tmp 3) 2, type := 0, pos := "law.go:112", after := #[], guard := none },
  { dst := some 22, op := Op.load 26 (Operand.tmp 21), type := 26, pos := "law.go:112", after := #[{ on := 5, ground := Ground.data }], guard := none },
  { dst := some 23, op := Op.call { callee := Callee.value (Operand.func 15), args := #[Operand.tmp 16, Operand.tmp 18, Operand.tmp 20, Operand.tmp 22], argTypes := #[39, 40, 22, 26] }, type := 44, pos := "law.go:112", after := #[{ on := 0, ground := Ground.data }, { on := 2, ground := Ground.data }, { on := 4, ground := Ground.data }, { on := 6, ground := Ground.data }], guard := none },
  { dst := some 15, op := Op.move (Operand.tmp 23), type := 44, pos := "law.go:112", after := #[{ on := 7, ground := Ground.data }], guard := none },
  { dst := some 24, op := Op.extract (Operand.tmp 15) 0, type := 43, pos := "law.go:112", after := #[{ on := 8, ground := Ground.data }], guard := none },
  { dst := some 25, op := Op.extract (Operand.tmp 15) 1, type := 3, pos := "law.go:112", after := #[{ on := 8, ground := Ground.data }, { on := 11, ground := Ground.gcOnly Go.Departure.lateStores }], guard := none },
  { dst := some 5, op := Op.assign (Operand.tmp 24), type := 43, pos := "law.go:112", after := #[{ on := 9, ground := Ground.data }, { on := 7, ground := Ground.chain }, { on := 0, ground := Ground.phase }, { on := 1, ground := Ground.phase }, { on := 2, ground := Ground.phase }, { on := 3, ground := Ground.phase }, { on := 4, ground := Ground.phase }, { on := 5, ground := Ground.phase }, { on := 6, ground := Ground.phase }, { on := 7, ground := Ground.phase }, { on := 8, ground := Ground.phase }, { on := 9, ground := Ground.phase }, { on := 10, ground := Ground.textOnly Go.Departure.lateStores }], guard := none },
  { dst := some 6, op := Op.assign (Operand.tmp 25), type := 3, pos := "law.go:112", after := #[{ on := 10, ground := Ground.data }, { on := 11, ground := Ground.chain }, { on := 0, ground := Ground.phase }, { on := 1, ground := Ground.phase }, { on := 2, ground := Ground.phase }, { on := 3, ground := Ground.phase }, { on := 4, ground := Ground.phase }, { on := 5, ground := Ground.phase }, { on := 6, ground := Ground.phase }, { on := 7, ground := Ground.phase }, { on := 8, ground := Ground.phase }, { on := 9, ground := Ground.phase }, { on := 10, ground := Ground.phase }, { on := 11, ground := Ground.phase }], guard := none }]
def rFL2 : Array Oper := #[{ dst := some 26, op := Op.fieldAddr 42 (Operand.tmp 3) 1, type := 0, pos := "law.go:113", after := #[], guard := none },
  { dst := some 27, op := Op.load 22 (Operand.tmp 26), type := 22, pos := "law.go:113", after := #[{ on := 0, ground := Ground.data }], guard := none },
  { dst := some 28, op := Op.call { callee := Callee.value (Operand.func 6), args := #[Operand.tmp 27], argTypes := #[22] }, type := 22, pos := "law.go:113", after := #[{ on := 1, ground := Ground.data }], guard := none },
  { dst := some 7, op := Op.assign (Operand.tmp 28), type := 22, pos := "law.go:113", after := #[{ on := 2, ground := Ground.data }, { on := 2, ground := Ground.chain }, { on := 0, ground := Ground.phase }, { on := 1, ground := Ground.phase }, { on := 2, ground := Ground.phase }], guard := none }]
def rFL4 : Array Oper := #[{ dst := some 45, op := Op.load 39 (Operand.tmp 2), type := 39, pos := "law.go:115", after := #[], guard := none },
  { dst := some 46, op := Op.fieldAddr 42 (Operand.tmp 3) 0, type := 0, pos := "law.go:115", after := #[], guard := none },
  { dst := some 47, op := Op.load 40 (Operand.tmp 46), type := 40, pos := "law.go:115", after := #[{ on := 1, ground := Ground.data }], guard := none },
  { dst := some 48, op := Op.move (Operand.tmp 7), type := 22, pos := "law.go:115", after := #[], guard := none },
  { dst := some 49, op := Op.load 26 (Operand.tmp 8), type := 26, pos := "law.go:115", after := #[], guard := none },
  { dst := some 50, op := Op.call { callee := Callee.value (Operand.func 16), args := #[Operand.tmp 45, Operand.tmp 47, Operand.tmp 48, Operand.tmp 49], argTypes := #[39, 40, 22, 26] }, type := 47, pos := "law.go:115", after := #[{ on := 0, ground := Ground.data }, { on := 2, ground := Ground.data }, { on := 3, ground := Ground.data }, { on := 4, ground := Ground.data }], guard := none },
  { dst := some 44, op := Op.move (Operand.tmp 50), type := 47, pos := "law.go:115", after := #[{ on := 5, ground := Ground.data }], guard := none },
  { dst := some 51, op := Op.extract (Operand.tmp 44) 0, type := 43, pos := "law.go:115", after := #[{ on := 6, ground := Ground.data }], guard := none },
  { dst := some 52, op := Op.extract (Operand.tmp 44) 1, type := 46, pos := "law.go:115", after := #[{ on := 6, ground := Ground.data }, { on := 9, ground := Ground.gcOnly Go.Departure.lateStores }], guard := none },
  { dst := some 9, op := Op.assign (Operand.tmp 51), type := 43, pos := "law.go:115", after := #[{ on := 7, ground := Ground.data }, { on := 5, ground := Ground.chain }, { on := 0, ground := Ground.phase }, { on := 1, ground := Ground.phase }, { on := 2, ground := Ground.phase }, { on := 3, ground := Ground.phase }, { on := 4, ground := Ground.phase }, { on := 5, ground := Ground.phase }, { on := 6, ground := Ground.phase }, { on := 7, ground := Ground.phase }, { on := 8, ground := Ground.textOnly Go.Departure.lateStores }], guard := none },
  { dst := some 10, op := Op.assign (Operand.tmp 52), type := 46, pos := "law.go:115", after := #[{ on := 8, ground := Ground.data }, { on := 9, ground := Ground.chain }, { on := 0, ground := Ground.phase }, { on := 1, ground := Ground.phase }, { on := 2, ground := Ground.phase }, { on := 3, ground := Ground.phase }, { on := 4, ground := Ground.phase }, { on := 5, ground := Ground.phase }, { on := 6, ground := Ground.phase }, { on := 7, ground := Ground.phase }, { on := 8, ground := Ground.phase }, { on := 9, ground := Ground.phase }], guard := none }]
def rFL5 : Array Oper := #[{ dst := some 54, op := Op.load 39 (Operand.tmp 2), type := 39, pos := "law.go:116", after := #[], guard := none },
  { dst := some 55, op := Op.fieldAddr 42 (Operand.tmp 3) 0, type := 0, pos := "law.go:116", after := #[], guard := none },
  { dst := some 56, op := Op.load 40 (Operand.tmp 55), type := 40, pos := "law.go:116", after := #[{ on := 1, ground := Ground.data }], guard := none },
  { dst := some 57, op := Op.move (Operand.tmp 7), type := 22, pos := "law.go:116", after := #[], guard := none },
  { dst := some 58, op := Op.load 26 (Operand.tmp 8), type := 26, pos := "law.go:116", after := #[], guard := none },
  { dst := some 59, op := Op.call { callee := Callee.value (Operand.func 16), args := #[Operand.tmp 54, Operand.tmp 56, Operand.tmp 57, Operand.tmp 58], argTypes := #[39, 40, 22, 26] }, type := 47, pos := "law.go:116", after := #[{ on := 0, ground := Ground.data }, { on := 2, ground := Ground.data }, { on := 3, ground := Ground.data }, { on := 4, ground := Ground.data }], guard := none },
  { dst := some 53, op := Op.move (Operand.tmp 59), type := 47, pos := "law.go:116", after := #[{ on := 5, ground := Ground.data }], guard := none },
  { dst := some 60, op := Op.extract (Operand.tmp 53) 0, type := 43, pos := "law.go:116", after := #[{ on := 6, ground := Ground.data }], guard := none },
  { dst := some 61, op := Op.extract (Operand.tmp 53) 1, type := 46, pos := "law.go:116", after := #[{ on := 6, ground := Ground.data }, { on := 9, ground := Ground.gcOnly Go.Departure.lateStores }], guard := none },
  { dst := some 11, op := Op.assign (Operand.tmp 60), type := 43, pos := "law.go:116", after := #[{ on := 7, ground := Ground.data }, { on := 5, ground := Ground.chain }, { on := 0, ground := Ground.phase }, { on := 1, ground := Ground.phase }, { on := 2, ground := Ground.phase }, { on := 3, ground := Ground.phase }, { on := 4, ground := Ground.phase }, { on := 5, ground := Ground.phase }, { on := 6, ground := Ground.phase }, { on := 7, ground := Ground.phase }, { on := 8, ground := Ground.textOnly Go.Departure.lateStores }], guard := none },
  { dst := some 12, op := Op.assign (Operand.tmp 61), type := 46, pos := "law.go:116", after := #[{ on := 8, ground := Ground.data }, { on := 9, ground := Ground.chain }, { on := 0, ground := Ground.phase }, { on := 1, ground := Ground.phase }, { on := 2, ground := Ground.phase }, { on := 3, ground := Ground.phase }, { on := 4, ground := Ground.phase }, { on := 5, ground := Ground.phase }, { on := 6, ground := Ground.phase }, { on := 7, ground := Ground.phase }, { on := 8, ground := Ground.phase }, { on := 9, ground := Ground.phase }], guard := none }]
def rFL6 : Array Oper := #[{ dst := some 62, op := Op.move (Operand.tmp 10), type := 46, pos := "law.go:117", after := #[], guard := none },
  { dst := some 63, op := Op.move (Operand.tmp 6), type := 3, pos := "law.go:117", after := #[], guard := none },
  { dst := some 64, op := Op.binOp BinOp.neq 3 (Operand.tmp 62) (Operand.tmp 63) 3, type := 4, pos := "law.go:117", after := #[{ on := 0, ground := Ground.data }, { on := 1, ground := Ground.data }], guard := none },
  { dst := some 65, op := Op.move (Operand.tmp 64), type := 4, pos := "law.go:117", after := #[{ on := 2, ground := Ground.data }], guard := none },
  { dst := some 66, op := Op.move (Operand.tmp 12), type := 46, pos := "law.go:117", after := #[{ on := 3, ground := Ground.guard }], guard := some (3, false) },
  { dst := some 67, op := Op.move (Operand.tmp 6), type := 3, pos := "law.go:117", after := #[{ on := 3, ground := Ground.guard }], guard := some (3, false) },
  { dst := some 68, op := Op.binOp BinOp.neq 3 (Operand.tmp 66) (Operand.tmp 67) 3, type := 4, pos := "law.go:117", after := #[{ on := 4, ground := Ground.data }, { on := 5, ground := Ground.data }, { on := 3, ground := Ground.guard }], guard := some (3, false) },
  { dst := some 69, op := Op.pick (Operand.tmp 65) (Operand.const (Value.bool true)) (Operand.tmp 68), type := 4, pos := "law.go:117", after := #[{ on := 3, ground := Ground.data }, { on := 6, ground := Ground.data }], guard := none },
  { dst := some 70, op := Op.move (Operand.tmp 69), type := 4, pos := "law.go:117", after := #[{ on := 7, ground := Ground.data }, { on := 3, ground := Ground.chain }], guard := none },
  { dst := some 71, op := Op.move (Operand.tmp 9), type := 43, pos := "law.go:117", after := #[{ on := 8, ground := Ground.guard }], guard := some (8, false) },
  { dst := some 72, op := Op.move (Operand.tmp 5), type := 43, pos := "law.go:117", after := #[{ on := 8, ground := Ground.guard }], guard := some (8, false) },
  { dst := some 73, op := Op.call { callee := Callee.value (Operand.func 17), args := #[Operand.tmp 71, Operand.tmp 72], argTypes := #[43, 43] }, type := 4, pos := "law.go:117", after := #[{ on := 9, ground := Ground.data }, { on := 10, ground := Ground.data }, { on := 8, ground := Ground.chain }, { on := 8, ground := Ground.guard }], guard := some (8, false) },
  { dst := some 74, op := Op.unOp UnOp.not 4 (Operand.tmp 73), type := 4, pos := "law.go:117", after := #[{ on := 11, ground := Ground.data }, { on := 8, ground := Ground.guard }], guard := some (8, false) },
  { dst := some 75, op := Op.pick (Operand.tmp 70) (Operand.const (Value.bool true)) (Operand.tmp 74), type := 4, pos := "law.go:117", after := #[{ on := 8, ground := Ground.data }, { on := 12, ground := Ground.data }], guard := none },
  { dst := some 76, op := Op.move (Operand.tmp 75), type := 4, pos := "law.go:117", after := #[{ on := 13, ground := Ground.data }, { on := 11, ground := Ground.chain }], guard := none },
  { dst := some 77, op := Op.move (Operand.tmp 11), type := 43, pos := "law.go:117", after := #[{ on := 14, ground := Ground.guard }], guard := some (14, false) },
  { dst := some 78, op := Op.move (Operand.tmp 5), type := 43, pos := "law.go:117", after := #[{ on := 14, ground := Ground.guard }], guard := some (14, false) },
  { dst := some 79, op := Op.call { callee := Callee.value (Operand.func 17), args := #[Operand.tmp 77, Operand.tmp 78], argTypes := #[43, 43] }, type := 4, pos := "law.go:117", after := #[{ on := 15, ground := Ground.data }, { on := 16, ground := Ground.data }, { on := 14, ground := Ground.chain }, { on := 14, ground := Ground.guard }], guard := some (14, false) },
  { dst := some 80, op := Op.unOp UnOp.not 4 (Operand.tmp 79), type := 4, pos := "law.go:117", after := #[{ on := 17, ground := Ground.data }, { on := 14, ground := Ground.guard }], guard := some (14, false) },
  { dst := some 81, op := Op.pick (Operand.tmp 76) (Operand.const (Value.bool true)) (Operand.tmp 80), type := 4, pos := "law.go:117", after := #[{ on := 14, ground := Ground.data }, { on := 18, ground := Ground.data }], guard := none },
  { dst := some 82, op := Op.move (Operand.tmp 81), type := 4, pos := "law.go:117", after := #[{ on := 19, ground := Ground.data }, { on := 17, ground := Ground.chain }], guard := none },
  { dst := some 83, op := Op.move (Operand.tmp 7), type := 22, pos := "law.go:117", after := #[{ on := 20, ground := Ground.guard }], guard := some (20, false) },
  { dst := some 84, op := Op.fieldAddr 42 (Operand.tmp 3) 1, type := 0, pos := "law.go:117", after := #[{ on := 20, ground := Ground.guard }], guard := some (20, false) },
  { dst := some 85, op := Op.load 22 (Operand.tmp 84), type := 22, pos := "law.go:117", after := #[{ on := 22, ground := Ground.data }, { on := 20, ground := Ground.guard }], guard := some (20, false) },
  { dst := some 86, op := Op.call { callee := Callee.value (Operand.func 12), args := #[Operand.tmp 83, Operand.tmp 85], argTypes := #[22, 22] }, type := 4, pos := "law.go:117", after := #[{ on := 21, ground := Ground.data }, { on := 23, ground := Ground.data }, { on := 20, ground := Ground.chain }, { on := 20, ground := Ground.guard }], guard := some (20, false) },
  { dst := some 87, op := Op.unOp UnOp.not 4 (Operand.tmp 86), type := 4, pos := "law.go:117", after := #[{ on := 24, ground := Ground.data }, { on := 20, ground := Ground.guard }], guard := some (20, false) },
  { dst := some 88, op := Op.pick (Operand.tmp 82) (Operand.const (Value.bool true)) (Operand.tmp 87), type := 4, pos := "law.go:117", after := #[{ on := 20, ground := Ground.data }, { on := 25, ground := Ground.data }], guard := none },
  { dst := some 89, op := Op.move (Operand.tmp 88), type := 4, pos := "law.go:117", after := #[{ on := 26, ground := Ground.data }, { on := 24, ground := Ground.chain }], guard := none },
  { dst := some 90, op := Op.fieldAddr 26 (Operand.tmp 8) 1, type := 0, pos := "law.go:117", after := #[{ on := 27, ground := Ground.guard }], guard := some (27, false) },
  { dst := some 91, op := Op.load 22 (Operand.tmp 90), type := 22, pos := "law.go:117", after := #[{ on := 28, ground := Ground.data }, { on := 27, ground := Ground.guard }], guard := some (27, false) },
  { dst := some 92, op := Op.fieldAddr 42 (Operand.tmp 3) 2, type := 0, pos := "law.go:117", after := #[{ on := 27, ground := Ground.guard }], guard := some (27, false) },
  { dst := some 93, op := Op.fieldAddr 26 (Operand.tmp 92) 1, type := 0, pos := "law.go:117", after := #[{ on := 30, ground := Ground.data }, { on := 27, ground := Ground.guard }], guard := some (27, false) },
  { dst := some 94, op := Op.load 22 (Operand.tmp 93), type := 22, pos := "law.go:117", after := #[{ on := 31, ground := Ground.data }, { on := 27, ground := Ground.guard }], guard := some (27, false) },
  { dst := some 95, op := Op.call { callee := Callee.value (Operand.func 12), args := #[Operand.tmp 91, Operand.tmp 94], argTypes := #[22, 22] }, type := 4, pos := "law.go:117", after := #[{ on := 29, ground := Ground.data }, { on := 32, ground := Ground.data }, { on := 27, ground := Ground.chain }, { on := 27, ground := Ground.guard }], guard := some (27, false) },
  { dst := some 96, op := Op.unOp UnOp.not 4 (Operand.tmp 95), type := 4, pos := "law.go:117", after := #[{ on := 33, ground := Ground.data }, { on := 27, ground := Ground.guard }], guard := some (27, false) },
  { dst := some 97, op := Op.pick (Operand.tmp 89) (Operand.const (Value.bool true)) (Operand.tmp 96), type := 4, pos := "law.go:117", after := #[{ on := 27, ground := Ground.data }, { on := 34, ground := Ground.data }], guard := none }]
def rFL7 : Array Oper := #[{ dst := some 4, op := Op.assign (Operand.const (Value.bool false)), type := 4, pos := "law.go:118", after := #[], guard := none }]
def rFL8 : Array Oper := #[{ dst := some 13, op := Op.assign (Operand.const (Value.int IntKind.i64 0)), type := 3, pos := "law.go:120", after := #[], guard := none }]
def rFL9 : Array Oper := #[{ dst := some 98, op := Op.move (Operand.tmp 13), type := 3, pos := "law.go:120", after := #[], guard := none },
  { dst := some 99, op := Op.move (Operand.tmp 9), type := 43, pos := "law.go:120", after := #[], guard := none },
  { dst := some 100, op := Op.call { callee := Callee.builtin Builtin.len, args := #[Operand.tmp 99], argTypes := #[43] }, type := 3, pos := "law.go:120", after := #[{ on := 1, ground := Ground.data }], guard := none },
  { dst := some 101, op := Op.binOp BinOp.lss 3 (Operand.tmp 98) (Operand.tmp 100) 3, type := 4, pos := "law.go:120", after := #[{ on := 0, ground := Ground.data }, { on := 2, ground := Ground.data }], guard := none }]
def rFL10 : Array Oper := #[{ dst := some 102, op := Op.move (Operand.tmp 13), type := 3, pos := "law.go:120", after := #[], guard := none },
  { dst := some 103, op := Op.binOp BinOp.add 3 (Operand.tmp 102) (Operand.const (Value.int IntKind.i64 1)) 3, type := 3, pos := "law.go:120", after := #[{ on := 0, ground := Ground.data }], guard := none },
  { dst := some 13, op := Op.assign (Operand.tmp 103), type := 3, pos := "law.go:120", after := #[{ on := 1, ground := Ground.data }, { on := 0, ground := Ground.phase }, { on := 1, ground := Ground.phase }], guard := none }]
def rFL11 : Array Oper := #[{ dst := some 104, op := Op.move (Operand.tmp 9), type := 43, pos := "law.go:121", after := #[], guard := none },
  { dst := some 105, op := Op.move (Operand.tmp 13), type := 3, pos := "law.go:121", after := #[], guard := none },
  { dst := some 106, op := Op.build 52 #[(0, Operand.const (Value.int IntKind.u8 77))], type := 52, pos := "law.go:121", after := #[], guard := none },
  { dst := some 107, op := Op.indexAddr 43 (Operand.tmp 104) (Operand.tmp 105), type := 0, pos := "law.go:121", after := #[{ on := 0, ground := Ground.data }, { on := 1, ground := Ground.data }, { on := 0, ground := Ground.phase }, { on := 1, ground := Ground.phase }, { on := 2, ground := Ground.phase }], guard := none },
  { dst := none, op := Op.store 52 (Operand.tmp 107) (Operand.tmp 106), type := 0, pos := "law.go:121", after := #[{ on := 3, ground := Ground.data }, { on := 2, ground := Ground.data }, { on := 0, ground := Ground.phase }, { on := 1, ground := Ground.phase }, { on := 2, ground := Ground.phase }], guard := none }]
def rFL12 : Array Oper := #[{ dst := some 14, op := Op.assign (Operand.const (Value.int IntKind.i64 0)), type := 3, pos := "law.go:123", after := #[], guard := none }]
def rFL13 : Array Oper := #[{ dst := some 108, op := Op.move (Operand.tmp 14), type := 3, pos := "law.go:123", after := #[], guard := none },
  { dst := some 109, op := Op.binOp BinOp.lss 3 (Operand.tmp 108) (Operand.const (Value.int IntKind.i64 40)) 3, type := 4, pos := "law.go:123", after := #[{ on := 0, ground := Ground.data }], guard := none }]
def rFL14 : Array Oper := #[{ dst := some 110, op := Op.move (Operand.tmp 14), type := 3, pos := "law.go:123", after := #[], guard := none },
  { dst := some 111, op := Op.binOp BinOp.add 3 (Operand.tmp 110) (Operand.const (Value.int IntKind.i64 1)) 3, type := 3, pos := "law.go:123", after := #[{ on := 0, ground := Ground.data }], guard := none },
  { dst := some 14, op := Op.assign (Operand.tmp 111), type := 3, pos := "law.go:123", after := #[{ on := 1, ground := Ground.data }, { on := 0, ground := Ground.phase }, { on := 1, ground := Ground.phase }], guard := none }]
def rFL15 : Array Oper := #[{ dst := some 112, op := Op.move (Operand.tmp 9), type := 43, pos := "law.go:124", after := #[], guard := none },
  { dst := some 113, op := Op.build 52 #[(0, Operand.const (Value.int IntKind.u8 78))], type := 52, pos := "law.go:124", after := #[], guard := none },
  { dst := some 114, op := Op.buildSlice 43 1 #[(0, Operand.tmp 113)], type := 43, pos := "law.go:124", after := #[{ on := 1, ground := Ground.data }], guard := none },
  { dst := some 115, op := Op.call { callee := Callee.builtin Builtin.append, args := #[Operand.tmp 112, Operand.tmp 114], argTypes := #[43, 43] }, type := 43, pos := "law.go:124", after := #[{ on := 0, ground := Ground.data }, { on := 2, ground := Ground.data }], guard := none },
  { dst := some 9, op := Op.assign (Operand.tmp 115), type := 43, pos := "law.go:124", after := #[{ on := 3, ground := Ground.data }, { on := 3, ground := Ground.chain }, { on := 0, ground := Ground.phase }, { on := 1, ground := Ground.phase }, { on := 2, ground := Ground.phase }, { on := 3, ground := Ground.phase }], guard := none }]
def rFL16 : Array Oper := #[{ dst := some 116, op := Op.move (Operand.tmp 11), type := 43, pos := "law.go:126", after := #[], guard := none },
  { dst := some 117, op := Op.move (Operand.tmp 5), type := 43, pos := "law.go:126", after := #[], guard := none },
  { dst := some 118, op := Op.call { callee := Callee.value (Operand.func 17), args := #[Operand.tmp 116, Operand.tmp 117], argTypes := #[43, 43] }, type := 4, pos := "law.go:126", after := #[{ on := 0, ground := Ground.data }, { on := 1, ground := Ground.data }], guard := none },
  { dst := some 119, op := Op.move (Operand.tmp 118), type := 4, pos := "law.go:126", after := #[{ on := 2, ground := Ground.data }, { on := 2, ground := Ground.chain }], guard := none },
  { dst := some 120, op := Op.move (Operand.tmp 9), type := 43, pos := "law.go:126", after := #[{ on := 3, ground := Ground.guard }], guard := some (3, true) },
  { dst := some 121, op := Op.call { callee := Callee.builtin Builtin.len, args := #[Operand.tmp 120], argTypes := #[43] }, type := 3, pos := "law.go:126", after := #[{ on := 4, ground := Ground.data }, { on := 3, ground := Ground.guard }], guard := some (3, true) },
  { dst := some 122, op := Op.move (Operand.tmp 5), type := 43, pos := "law.go:126", after := #[{ on := 3, ground := Ground.guard }], guard := some (3, true) },
  { dst := some 123, op := Op.call { callee := Callee.builtin Builtin.len, args := #[Operand.tmp 122], argTypes := #[43] }, type := 3, pos := "law.go:126", after := #[{ on := 6, ground := Ground.data }, { on := 3, ground := Ground.guard }], guard := some (3, true) },
  { dst := some 124, op := Op.binOp BinOp.add 3 (Operand.tmp 123) (Operand.const (Value.int IntKind.i64 40)) 3, type := 3, pos := "law.go:126", after := #[{ on := 7, ground := Ground.data }, { on := 3, ground := Ground.guard }], guard := some (3, true) },
  { dst := some 125, op := Op.binOp BinOp.eql 3 (Operand.tmp 121) (Operand.tmp 124) 3, type := 4, pos := "law.go:126", after := #[{ on := 5, ground := Ground.data }, { on := 8, ground := Ground.data }, { on := 3, ground := Ground.guard }], guard := some (3, true) },
  { dst := some 126, op := Op.pick (Operand.tmp 119) (Operand.tmp 125) (Operand.const (Value.bool false)), type := 4, pos := "law.go:126", after := #[{ on := 3, ground := Ground.data }, { on := 9, ground := Ground.data }], guard := none },
  { dst := some 127, op := Op.move (Operand.tmp 126), type := 4, pos := "law.go:126", after := #[{ on := 10, ground := Ground.data }, { on := 3, ground := Ground.chain }], guard := none },
  { dst := some 128, op := Op.call { callee := Callee.value (Operand.func 14), args := #[], argTypes := #[] }, type := 4, pos := "law.go:126", after := #[{ on := 11, ground := Ground.chain }, { on := 11, ground := Ground.guard }], guard := some (11, true) },
  { dst := some 129, op := Op.pick (Operand.tmp 127) (Operand.tmp 128) (Operand.const (Value.bool false)), type := 4, pos := "law.go:126", after := #[{ on := 11, ground := Ground.data }, { on := 12, ground := Ground.data }], guard := none },
  { dst := some 4, op := Op.assign (Operand.tmp 129), type := 4, pos := "law.go:126", after := #[{ on := 13, ground := Ground.data }, { on := 12, ground := Ground.chain }, { on := 0, ground := Ground.phase }, { on := 1, ground := Ground.phase }, { on := 2, ground := Ground.phase }, { on := 3, ground := Ground.phase }, { on := 4, ground := Ground.phase }, { on := 5, ground := Ground.phase }, { on := 6, ground := Ground.phase }, { on := 7, ground := Ground.phase }, { on := 8, ground := Ground.phase }, { on := 9, ground := Ground.phase }, { on := 10, ground := Ground.phase }, { on := 11, ground := Ground.phase }, { on := 12, ground := Ground.phase }, { on := 13, ground := Ground.phase }], guard := none }]
def cFL1 : Code := (Code.seq (Code.seq (Code.region 9 rFL9 false) (Code.cond (Operand.tmp 101) Code.skip (Code.exit 0))) (Code.seq (Code.block 1 (Code.region 11 rFL11 false)) (Code.region 10 rFL10 false)))
def cFL2 : Code := (Code.seq (Code.seq (Code.region 13 rFL13 false) (Code.cond (Operand.tmp 109) Code.skip (Code.exit 2))) (Code.seq (Code.block 3 (Code.region 15 rFL15 false)) (Code.region 14 rFL14 false)))
def cFLB : Code := (Code.seq (Code.region 4 rFL4 false) (Code.seq (Code.region 5 rFL5 false) (Code.seq (Code.seq (Code.region 6 rFL6 false) (Code.cond (Operand.tmp 97) (Code.seq (Code.region 7 rFL7 false) Code.ret) Code.skip)) (Code.seq (Code.seq (Code.region 8 rFL8 false) (Code.block 0 (Code.loop cFL1))) (Code.seq (Code.seq (Code.region 12 rFL12 false) (Code.block 2 (Code.loop cFL2))) (Code.seq (Code.region 16 rFL16 false) Code.ret))))))
def cFL : Code := (Code.seq (Code.region 0 rFL0 false) (Code.seq (Code.region 1 rFL1 false) (Code.seq (Code.region 2 rFL2 false) (Code.seq (Code.region 3 rFL3 true) cFLB))))
theorem own_setsAny {B g cap n sz : Nat} {e : TypeId} : ∀ (vs : List Value) (o : Nat) (w : World) (xs : List Value), w.ownsRow B e sz (.slice (some ⟨g, 0, none⟩) n cap) n xs → ∃ xs', (w.setCells g o vs).ownsRow B e sz (.slice (some ⟨g, 0, none⟩) n cap) n xs'
  | [], _, _, xs, h => ⟨xs, h⟩
  | v :: vs, o, w, _, h => own_setsAny vs (o + 1) (w.setCell ⟨g, o, none⟩ v) _ (own_setN h v)
theorem own_there4 {w : World} {B g cap n i : Nat} {e : TypeId} {xs : List Value} (h : w.ownsRow B e 4 (.slice (some ⟨g, 0, none⟩) n cap) n xs) (hi : i < n) : w.there g (i * 4) 4 := by
  intro j hj
  refine ⟨?_, own_frozenN h⟩
  obtain ⟨hl, hn | ⟨g2, c2, cur, hv, hb, hh, hnc, hcm, hcs, htk⟩⟩ := h
  · exact absurd hn.1 (by simp)
  · injection hv with e1 _ e3
    injection e1 with e1
    injection e1 with e1
    subst e1 e3
    rw [cell_of_row _ _ _ _ _ _ hh, Array.getElem?_eq_getElem (by omega)]
    rfl
theorem exec_store {P : Program} {ρ : Operand → Value} {o : Oper} {x y : Operand} {ty : TypeId} {w w' : World} (ho : o.op = .store ty x y) (h : (Instr.storeAt ty (ρ x) (ρ y)).run P w = .ok () w') : (execOp ρ o).run P w = .ok .skip w' := by
  unfold execOp
  simp only [ho, Sem.run_bind, Sem.run_pure, Result.andThen_ok, h]
theorem run_pgs_at (w : World) (ty : TypeId) {B n ad : Nat} {v : Value} {xs cs : List Value} (hown : w.ownsRow B 52 4 v n xs) (hx : PartOk w 4 ⟨some ⟨ad, 0, none⟩, 1, 1, cs⟩) (hb : n + 1 ≤ 1099511627776) (hB : B ≤ w.heap.size) :
    ∃ g' cap' w', (Builtin.append_ #[43, 43] ty #[v, .slice (some ⟨ad, 0, none⟩) 1 1]).run Try.prog w = .ok (.slice (some ⟨g', 0, none⟩) (n + 1) cap') w' ∧ w'.ownsRow B 52 4 (.slice (some ⟨g', 0, none⟩) (n + 1) cap') (n + 1) (xs ++ cs) ∧ w.grownBy w' v.ownBlock ∧ (v.ownBlock = some g' ∨ g' = w.heap.size) := by
  obtain ⟨i0, hi, hz0, hz1, hz2⟩ := info_parts Try.infPg
  obtain ⟨g', cap', w', hr, ho, hg, hat, _⟩ := run_append_lies (P := Try.prog) w 43 ty B 52 i0 (.agg #[.int .u8 0, .int .u32 0, .int .u64 0, .string ⟨#[]⟩]) 4 32 Try.underlying43 hi hz0 hz1 hz2 rfl (by decide) v n xs hown ⟨ad, 0, none⟩ 1 1 cs hx.len (hx.at_ _ rfl) hx.one (by decide) (by unfold maxLen; omega) (by omega) hB w.heap.size rfl
  exact ⟨g', cap', w', hr, ho, hg, hat⟩
/-- What stays in the frame while the first answer is written over and grown. -/
structure IFL (vw vb : Value) (a : Act) : Prop where
  size : a.tmps.size = 130
  defers : a.defers = []
  s5 : a.eval (.tmp 5) = vw
  s11 : a.eval (.tmp 11) = vb
theorem IFL.keep {vw vb : Value} {a0 a : Act} {env : List (Nat × Value)} (h : IFL vw vb a0) (f : Fe a0 env a) (h5 : look env 5 (a0.eval (.tmp 5)) = a0.eval (.tmp 5)) (h11 : look env 11 (a0.eval (.tmp 11)) = a0.eval (.tmp 11)) : IFL vw vb a :=
  ⟨f.size.trans h.size, f.defers.trans h.defers, ((f.at_ 5).trans h5).trans h.s5, ((f.at_ 11).trans h11).trans h.s11⟩
set_option maxRecDepth 100000 in
set_option maxHeartbeats 1000000 in
theorem flR1 {vw vb : Value} {ga m c9 i B : Nat} {xs : List Value} {Q : Exit → Act → World → Prop} (a0 : Act) (wr : World) (I0 : IFL vw vb a0) (h9 : a0.eval (.tmp 9) = .slice (some ⟨ga, 0, none⟩) m c9) (h13 : a0.eval (.tmp 13) = .int .i64 (i : Int)) (hi : i < m) (hm : m ≤ 4000000)
    (ow : wr.ownsRow B 52 4 (.slice (some ⟨ga, 0, none⟩) m c9) m xs)
    (hQ : ∀ a W xs', IFL vw vb a → a.eval (.tmp 9) = .slice (some ⟨ga, 0, none⟩) m c9 → a.eval (.tmp 13) = .int .i64 ((i : Int) + 1) → W.ownsRow B 52 4 (.slice (some ⟨ga, 0, none⟩) m c9) m xs' → Fr (fun k => k = ga) wr W → Q .normal a W) : cFL1.wp Try.prog Q a0 wr := by
  have hii : (i : Int) < (m : Int) := by omega
  have w7 : IntKind.i64.wrap ((i : Int) + 1) = (i : Int) + 1 := by rw [IntKind.wrap_i64]; omega
  have fa0_0 := Fe.refl a0
  unfold cFL1
  refine wp_seq (wp_seq ?_)
  refine wp_region_list ?_
  unfold rFL9
  refine fa0_0.move 98 (.int .i64 (i : Int)) _ (Or.inl rfl) rfl (lb_ I0.size) (wanted_none rfl) ((fa0_0.at_ 13).trans h13) (fun a0_1 fa0_1 => ?_)
  clear fa0_0
  refine fa0_1.move 99 (.slice (some ⟨ga, 0, none⟩) m c9) _ (Or.inl rfl) rfl (lb_ I0.size) (wanted_none rfl) ((fa0_1.at_ 9).trans h9) (fun a0_2 fa0_2 => ?_)
  clear fa0_1
  have r_a0_3 : (execOp a0_2.eval { dst := some 100, op := Op.call { callee := Callee.builtin Builtin.len, args := #[Operand.tmp 99], argTypes := #[43] }, type := 3, pos := "law.go:120", after := #[{ on := 1, ground := Ground.data }], guard := none }).run Try.prog (wr) = .ok (.value (.int .i64 (m : Int))) (wr) := by
    have e99 := (show a0_2.eval (.tmp 99) = .slice (some ⟨ga, 0, none⟩) m c9 from (fa0_2.at_ 99))
    clear fa0_2 hQ h9 h13
    generalize a0_2.eval = ρ at *
    go_simp
  refine fa0_2.step 100 (.int .i64 (m : Int)) rfl (lb_ I0.size) (wanted_none rfl) r_a0_3 (fun a0_3 fa0_3 => ?_)
  clear r_a0_3
  clear fa0_2
  have r_a0_4 : (execOp a0_3.eval { dst := some 101, op := Op.binOp BinOp.lss 3 (Operand.tmp 98) (Operand.tmp 100) 3, type := 4, pos := "law.go:120", after := #[{ on := 0, ground := Ground.data }, { on := 2, ground := Ground.data }], guard := none }).run Try.prog (wr) = .ok (.value (.bool true)) (wr) := by
    have e98 := (show a0_3.eval (.tmp 98) = .int .i64 (i : Int) from (fa0_3.at_ 98))
    have e100 := (show a0_3.eval (.tmp 100) = .int .i64 (m : Int) from (fa0_3.at_ 100))
    clear fa0_3 hQ h9 h13
    generalize a0_3.eval = ρ at *
    go_simp
  refine fa0_3.step 101 (.bool true) rfl (lb_ I0.size) (wanted_none rfl) r_a0_4 (fun a0_4 fa0_4 => ?_)
  clear r_a0_4
  clear fa0_3
  refine wpList_nil ?_
  change Code.wp _ _ _ _ _
  refine wp_cond_true (show a0_4.eval (.tmp 101) = .bool true from (fa0_4.at_ 101)) (wp_skip ?_)
  change Code.wp _ _ _ _ _
  refine wp_seq (wp_block ?_)
  have hth := own_there4 ow hi
  obtain ⟨W2, hW2⟩ : ∃ W2, W2 = wr.setCells ga (i * 4) [.int .u8 77, .int .u32 0, .int .u64 0, .string ⟨#[]⟩] := ⟨_, rfl⟩
  obtain ⟨xs2, o2⟩ := own_setsAny [.int .u8 77, .int .u32 0, .int .u64 0, .string ⟨#[]⟩] (i * 4) wr xs ow
  rw [← hW2] at o2
  have f2 : Fr (fun k => k = ga) wr W2 := by rw [hW2]; exact Fr.setCells (S := fun k => k = ga) (fun _ => rfl) _ _ wr (Fr.refl _ wr)
  refine wp_region_list ?_
  unfold rFL11
  refine fa0_4.move 104 (.slice (some ⟨ga, 0, none⟩) m c9) _ (Or.inl rfl) rfl (lb_ I0.size) (wanted_none rfl) ((fa0_4.at_ 9).trans h9) (fun a0_5 fa0_5 => ?_)
  clear fa0_4
  refine fa0_5.move 105 (.int .i64 (i : Int)) _ (Or.inl rfl) rfl (lb_ I0.size) (wanted_none rfl) ((fa0_5.at_ 13).trans h13) (fun a0_6 fa0_6 => ?_)
  clear fa0_5
  have r_a0_7 : (execOp a0_6.eval { dst := some 106, op := Op.build 52 #[(0, Operand.const (Value.int IntKind.u8 77))], type := 52, pos := "law.go:121", after := #[], guard := none }).run Try.prog (wr) = .ok (.value (.agg #[.int .u8 77, .int .u32 0, .int .u64 0, .string ⟨#[]⟩])) (wr) := by
    have kc : ∀ v, a0_6.eval (.const v) = v := fun _ => rfl
    clear fa0_6 hQ h9 h13
    generalize a0_6.eval = ρ at *
    go_simp
  refine fa0_6.step 106 (.agg #[.int .u8 77, .int .u32 0, .int .u64 0, .string ⟨#[]⟩]) rfl (lb_ I0.size) (wanted_none rfl) r_a0_7 (fun a0_7 fa0_7 => ?_)
  clear r_a0_7
  clear fa0_6
  have r_a0_8 : (execOp a0_7.eval { dst := some 107, op := Op.indexAddr 43 (Operand.tmp 104) (Operand.tmp 105), type := 0, pos := "law.go:121", after := #[{ on := 0, ground := Ground.data }, { on := 1, ground := Ground.data }, { on := 0, ground := Ground.phase }, { on := 1, ground := Ground.phase }, { on := 2, ground := Ground.phase }], guard := none }).run Try.prog (wr) = .ok (.value (.pointer (some ⟨ga, i * 4, none⟩))) (wr) := by
    have e104 := (show a0_7.eval (.tmp 104) = .slice (some ⟨ga, 0, none⟩) m c9 from (fa0_7.at_ 104))
    have e105 := (show a0_7.eval (.tmp 105) = .int .i64 (i : Int) from (fa0_7.at_ 105))
    clear fa0_7 hQ h9 h13
    generalize a0_7.eval = ρ at *
    go_simp
  refine fa0_7.step 107 (.pointer (some ⟨ga, i * 4, none⟩)) rfl (lb_ I0.size) (wanted_none rfl) r_a0_8 (fun a0_8 fa0_8 => ?_)
  clear r_a0_8
  clear fa0_7
  have r_a0_9 : (execOp a0_8.eval { dst := none, op := Op.store 52 (Operand.tmp 107) (Operand.tmp 106), type := 0, pos := "law.go:121", after := #[{ on := 3, ground := Ground.data }, { on := 2, ground := Ground.data }, { on := 0, ground := Ground.phase }, { on := 1, ground := Ground.phase }, { on := 2, ground := Ground.phase }], guard := none }).run Try.prog (wr) = .ok .skip (W2) := by
    refine exec_store rfl ?_
    rw [(show a0_8.eval (.tmp 107) = .pointer (some ⟨ga, i * 4, none⟩) from (fa0_8.at_ 107)), (show a0_8.eval (.tmp 106) = .agg #[.int .u8 77, .int .u32 0, .int .u64 0, .string ⟨#[]⟩] from (fa0_8.at_ 106)), hW2]
    exact run_storeAt_mid wr ga (i * 4) 52 #[.int .u8 77, .int .u32 0, .int .u64 0, .string ⟨#[]⟩] hth (by kernel_rfl) (by kernel_rfl)
  refine fa0_8.store rfl (wanted_none rfl) r_a0_9 (fun a0_9 fa0_9 => ?_)
  clear r_a0_9
  clear fa0_8
  refine wpList_nil ?_
  change Code.wp _ _ _ _ _
  refine wp_region_list ?_
  unfold rFL10
  refine fa0_9.move 102 (.int .i64 (i : Int)) _ (Or.inl rfl) rfl (lb_ I0.size) (wanted_none rfl) ((fa0_9.at_ 13).trans h13) (fun a0_10 fa0_10 => ?_)
  clear fa0_9
  have r_a0_11 : (execOp a0_10.eval { dst := some 103, op := Op.binOp BinOp.add 3 (Operand.tmp 102) (Operand.const (Value.int IntKind.i64 1)) 3, type := 3, pos := "law.go:120", after := #[{ on := 0, ground := Ground.data }], guard := none }).run Try.prog (W2) = .ok (.value (.int .i64 ((i : Int) + 1))) (W2) := by
    have kc : ∀ v, a0_10.eval (.const v) = v := fun _ => rfl
    have e102 := (show a0_10.eval (.tmp 102) = .int .i64 (i : Int) from (fa0_10.at_ 102))
    clear fa0_10 hQ h9 h13
    generalize a0_10.eval = ρ at *
    go_simp
  refine fa0_10.step 103 (.int .i64 ((i : Int) + 1)) rfl (lb_ I0.size) (wanted_none rfl) r_a0_11 (fun a0_11 fa0_11 => ?_)
  clear r_a0_11
  clear fa0_10
  refine fa0_11.move 13 (.int .i64 ((i : Int) + 1)) _ (Or.inr rfl) rfl (lb_ I0.size) (wanted_none rfl) (fa0_11.at_ 103) (fun a0_12 fa0_12 => ?_)
  clear fa0_11
  refine wpList_nil ?_
  exact hQ a0_12 W2 xs2 (I0.keep fa0_12 rfl rfl) (show a0_12.eval (.tmp 9) = .slice (some ⟨ga, 0, none⟩) m c9 from ((fa0_12.at_ 9).trans h9)) (show a0_12.eval (.tmp 13) = .int .i64 ((i : Int) + 1) from (fa0_12.at_ 13)) o2 f2
set_option maxRecDepth 100000 in
theorem flE1 {vw vb : Value} {ao : Option Addr} {m c9 : Nat} {Q : Exit → Act → World → Prop} (a0 : Act) (wr : World) (I0 : IFL vw vb a0) (h9 : a0.eval (.tmp 9) = .slice ao m c9) (h13 : a0.eval (.tmp 13) = .int .i64 (m : Int))
    (hQ : ∀ a, IFL vw vb a → a.eval (.tmp 9) = .slice ao m c9 → Q (.exit 0) a wr) : cFL1.wp Try.prog Q a0 wr := by
  have fa0_0 := Fe.refl a0
  unfold cFL1
  refine wp_seq (wp_seq ?_)
  refine wp_region_list ?_
  unfold rFL9
  refine fa0_0.move 98 (.int .i64 (m : Int)) _ (Or.inl rfl) rfl (lb_ I0.size) (wanted_none rfl) ((fa0_0.at_ 13).trans h13) (fun a0_1 fa0_1 => ?_)
  clear fa0_0
  refine fa0_1.move 99 (.slice ao m c9) _ (Or.inl rfl) rfl (lb_ I0.size) (wanted_none rfl) ((fa0_1.at_ 9).trans h9) (fun a0_2 fa0_2 => ?_)
  clear fa0_1
  have r_a0_3 : (execOp a0_2.eval { dst := some 100, op := Op.call { callee := Callee.builtin Builtin.len, args := #[Operand.tmp 99], argTypes := #[43] }, type := 3, pos := "law.go:120", after := #[{ on := 1, ground := Ground.data }], guard := none }).run Try.prog (wr) = .ok (.value (.int .i64 (m : Int))) (wr) := by
    have e99 := (show a0_2.eval (.tmp 99) = .slice ao m c9 from (fa0_2.at_ 99))
    clear fa0_2 hQ h9 h13
    generalize a0_2.eval = ρ at *
    go_simp
  refine fa0_2.step 100 (.int .i64 (m : Int)) rfl (lb_ I0.size) (wanted_none rfl) r_a0_3 (fun a0_3 fa0_3 => ?_)
  clear r_a0_3
  clear fa0_2
  have r_a0_4 : (execOp a0_3.eval { dst := some 101, op := Op.binOp BinOp.lss 3 (Operand.tmp 98) (Operand.tmp 100) 3, type := 4, pos := "law.go:120", after := #[{ on := 0, ground := Ground.data }, { on := 2, ground := Ground.data }], guard := none }).run Try.prog (wr) = .ok (.value (.bool false)) (wr) := by
    have e98 := (show a0_3.eval (.tmp 98) = .int .i64 (m : Int) from (fa0_3.at_ 98))
    have e100 := (show a0_3.eval (.tmp 100) = .int .i64 (m : Int) from (fa0_3.at_ 100))
    clear fa0_3 hQ h9 h13
    generalize a0_3.eval = ρ at *
    go_simp
  refine fa0_3.step 101 (.bool false) rfl (lb_ I0.size) (wanted_none rfl) r_a0_4 (fun a0_4 fa0_4 => ?_)
  clear r_a0_4
  clear fa0_3
  refine wpList_nil ?_
  change Code.wp _ _ _ _ _
  refine wp_cond_false (show a0_4.eval (.tmp 101) = .bool false from (fa0_4.at_ 101)) (wp_exit ?_)
  exact hQ a0_4 (I0.keep fa0_4 rfl rfl) (show a0_4.eval (.tmp 9) = .slice ao m c9 from ((fa0_4.at_ 9).trans h9))
theorem flL1 {vw vb : Value} {ao : Option Addr} {m c9 B : Nat} {xs : List Value} {Q : Exit → Act → World → Prop} (a0 : Act) (wr : World) (I0 : IFL vw vb a0) (h9 : a0.eval (.tmp 9) = .slice ao m c9) (h13 : a0.eval (.tmp 13) = .int .i64 ((0 : Nat) : Int)) (hm : m ≤ 4000000)
    (ow : wr.ownsRow B 52 4 (.slice ao m c9) m xs)
    (hQ : ∀ a W xs', IFL vw vb a → a.eval (.tmp 9) = .slice ao m c9 → W.ownsRow B 52 4 (.slice ao m c9) m xs' → Fr (fun k => ao.map (·.block) = some k) wr W → Q (.exit 0) a W) : (Code.loop cFL1).wp Try.prog Q a0 wr := by
  refine wp_loop (fun a W => IFL vw vb a ∧ a.eval (.tmp 9) = .slice ao m c9 ∧ Fr (fun k => ao.map (·.block) = some k) wr W ∧ (∃ xs', W.ownsRow B 52 4 (.slice ao m c9) m xs') ∧ ∃ i : Nat, i ≤ m ∧ a.eval (.tmp 13) = .int .i64 (i : Int)) (fun a _ => m - kOf a 13) ⟨I0, h9, Fr.refl _ wr, ⟨xs, ow⟩, 0, Nat.zero_le _, h13⟩ ?_
  rintro a W ⟨I1, g9, f1, ⟨xs1, o1⟩, i, hi, g13⟩
  by_cases hgo : i < m
  · obtain ⟨ga, rfl, _⟩ := own_some (own_base o1 (Nat.zero_le _)) (by omega)
    refine flR1 a W I1 g9 g13 hgo hm o1 (fun a' W2 xs2 i2 k9 k13 o2 f2 => ?_)
    have h4 : a'.eval (.tmp 13) = .int .i64 ((i + 1 : Nat) : Int) := k13
    refine ⟨⟨i2, k9, Fr.trans f1 f2 (fun k _ e => by subst e; rfl), ⟨xs2, o2⟩, i + 1, hgo, h4⟩, ?_⟩
    show m - kOf a' 13 < m - kOf a 13
    rw [kOf_eq h4, kOf_eq g13]
    omega
  · obtain rfl : i = m := by omega
    exact flE1 a W I1 g9 g13 (fun a' i2 k9 => hQ a' W xs1 i2 k9 o1 f1)
set_option maxRecDepth 100000 in
set_option maxHeartbeats 1000000 in
theorem flR2 {vw vb : Value} {ao : Option Addr} {n c9 k B : Nat} {xs : List Value} {Q : Exit → Act → World → Prop} (a0 : Act) (wr : World) (I0 : IFL vw vb a0) (h9 : a0.eval (.tmp 9) = .slice ao n c9) (h14 : a0.eval (.tmp 14) = .int .i64 (k : Int)) (hk : k < 40) (hb : n + 1 ≤ 1099511627776) (hB : B ≤ wr.heap.size)
    (ow : wr.ownsRow B 52 4 (.slice ao n c9) n xs)
    (hQ : ∀ a W g4 c4 xs', IFL vw vb a → a.eval (.tmp 9) = .slice (some ⟨g4, 0, none⟩) (n + 1) c4 → a.eval (.tmp 14) = .int .i64 ((k : Int) + 1) → W.ownsRow B 52 4 (.slice (some ⟨g4, 0, none⟩) (n + 1) c4) (n + 1) xs' → Fr (fun b => ao.map (·.block) = some b) wr W → (ao.map (·.block) = some g4 ∨ wr.heap.size ≤ g4) → Q .normal a W) : cFL2.wp Try.prog Q a0 wr := by
  have hii : (k : Int) < 40 := by omega
  have w7 : IntKind.i64.wrap ((k : Int) + 1) = (k : Int) + 1 := by rw [IntKind.wrap_i64]; omega
  have fa0_0 := Fe.refl a0
  unfold cFL2
  refine wp_seq (wp_seq ?_)
  refine wp_region_list ?_
  unfold rFL13
  refine fa0_0.move 108 (.int .i64 (k : Int)) _ (Or.inl rfl) rfl (lb_ I0.size) (wanted_none rfl) ((fa0_0.at_ 14).trans h14) (fun a0_1 fa0_1 => ?_)
  clear fa0_0
  have r_a0_2 : (execOp a0_1.eval { dst := some 109, op := Op.binOp BinOp.lss 3 (Operand.tmp 108) (Operand.const (Value.int IntKind.i64 40)) 3, type := 4, pos := "law.go:123", after := #[{ on := 0, ground := Ground.data }], guard := none }).run Try.prog (wr) = .ok (.value (.bool true)) (wr) := by
    have kc : ∀ v, a0_1.eval (.const v) = v := fun _ => rfl
    have e108 := (show a0_1.eval (.tmp 108) = .int .i64 (k : Int) from (fa0_1.at_ 108))
    clear fa0_1 hQ h9 h14
    generalize a0_1.eval = ρ at *
    go_simp
  refine fa0_1.step 109 (.bool true) rfl (lb_ I0.size) (wanted_none rfl) r_a0_2 (fun a0_2 fa0_2 => ?_)
  clear r_a0_2
  clear fa0_1
  refine wpList_nil ?_
  change Code.wp _ _ _ _ _
  refine wp_cond_true (show a0_2.eval (.tmp 109) = .bool true from (fa0_2.at_ 109)) (wp_skip ?_)
  change Code.wp _ _ _ _ _
  refine wp_seq (wp_block ?_)
  refine wp_region_list ?_
  unfold rFL15
  refine fa0_2.move 112 (.slice ao n c9) _ (Or.inl rfl) rfl (lb_ I0.size) (wanted_none rfl) ((fa0_2.at_ 9).trans h9) (fun a0_3 fa0_3 => ?_)
  clear fa0_2
  have r_a0_4 : (execOp a0_3.eval { dst := some 113, op := Op.build 52 #[(0, Operand.const (Value.int IntKind.u8 78))], type := 52, pos := "law.go:124", after := #[], guard := none }).run Try.prog (wr) = .ok (.value (.agg #[.int .u8 78, .int .u32 0, .int .u64 0, .string ⟨#[]⟩])) (wr) := by
    have kc : ∀ v, a0_3.eval (.const v) = v := fun _ => rfl
    clear fa0_3 hQ h9 h14
    generalize a0_3.eval = ρ at *
    go_simp
  refine fa0_3.step 113 (.agg #[.int .u8 78, .int .u32 0, .int .u64 0, .string ⟨#[]⟩]) rfl (lb_ I0.size) (wanted_none rfl) r_a0_4 (fun a0_4 fa0_4 => ?_)
  clear r_a0_4
  clear fa0_3
  have r_a0_5 : (execOp a0_4.eval { dst := some 114, op := Op.buildSlice 43 1 #[(0, Operand.tmp 113)], type := 43, pos := "law.go:124", after := #[{ on := 1, ground := Ground.data }], guard := none }).run Try.prog (wr) = .ok (.value (.slice (some ⟨wr.heap.size, 0, none⟩) 1 1)) (wr.alloc (.cells #[.int .u8 78, .int .u32 0, .int .u64 0, .string ⟨#[]⟩] 52)) := by
    have e113 := (show a0_4.eval (.tmp 113) = .agg #[.int .u8 78, .int .u32 0, .int .u64 0, .string ⟨#[]⟩] from (fa0_4.at_ 113))
    clear fa0_4 hQ h9 h14
    generalize a0_4.eval = ρ at *
    go_simp
  refine fa0_4.stepW 114 (.slice (some ⟨wr.heap.size, 0, none⟩) 1 1) rfl (lb_ I0.size) (wanted_none rfl) r_a0_5 (fun a0_5 fa0_5 => ?_)
  clear r_a0_5
  obtain ⟨W3, hW3⟩ : ∃ W3, W3 = wr.alloc (.cells #[.int .u8 78, .int .u32 0, .int .u64 0, .string ⟨#[]⟩] 52) := ⟨_, rfl⟩
  rw [← hW3]
  have s3 : Same wr W3 := by rw [hW3]; exact (Fr.refl _ wr).alloc _
  have z3 : wr.heap.size ≤ W3.heap.size := s3.size
  have hh3 : W3.heap[wr.heap.size]? = some (.cells #[.int .u8 78, .int .u32 0, .int .u64 0, .string ⟨#[]⟩] 52 (0, 0)) := by rw [hW3]; exact heap_alloc_new wr _
  have ow3 := own_frameB ow s3 (fun _ _ f => f)
  obtain ⟨g4, c4, W4, hr4, o4, gr4, at4⟩ := run_pgs_at W3 43 ow3 (part_four _ _ hh3 rfl rfl rfl rfl) hb (Nat.le_trans hB z3)
  have f4 : Fr (fun b => ao.map (·.block) = some b) wr W4 := Fr.trans (S := fun b => ao.map (·.block) = some b) (Fr.mono s3 (fun _ _ f => f.elim)) (Fr.grown (Fr.refl _ _) gr4 (fun b e _ => (blk_of.symm.trans e : ao.map (·.block) = some b))) (fun b _ e => e)
  have a4 : ao.map (·.block) = some g4 ∨ wr.heap.size ≤ g4 := at4.elim (fun e => Or.inl (blk_of.symm.trans e)) (fun e => Or.inr (by omega))
  clear fa0_4
  have r_a0_6 : (execOp a0_5.eval { dst := some 115, op := Op.call { callee := Callee.builtin Builtin.append, args := #[Operand.tmp 112, Operand.tmp 114], argTypes := #[43, 43] }, type := 43, pos := "law.go:124", after := #[{ on := 0, ground := Ground.data }, { on := 2, ground := Ground.data }], guard := none }).run Try.prog (W3) = .ok (.value (.slice (some ⟨g4, 0, none⟩) (n + 1) c4)) (W4) := by
    refine exec_append rfl ?_
    rw [(show a0_5.eval (.tmp 112) = .slice ao n c9 from (fa0_5.at_ 112)), (show a0_5.eval (.tmp 114) = .slice (some ⟨wr.heap.size, 0, none⟩) 1 1 from (fa0_5.at_ 114))]
    exact hr4
  refine fa0_5.stepW 115 (.slice (some ⟨g4, 0, none⟩) (n + 1) c4) rfl (lb_ I0.size) (wanted_none rfl) r_a0_6 (fun a0_6 fa0_6 => ?_)
  clear r_a0_6
  clear fa0_5
  refine fa0_6.move 9 (.slice (some ⟨g4, 0, none⟩) (n + 1) c4) _ (Or.inr rfl) rfl (lb_ I0.size) (wanted_none rfl) (fa0_6.at_ 115) (fun a0_7 fa0_7 => ?_)
  clear fa0_6
  refine wpList_nil ?_
  change Code.wp _ _ _ _ _
  refine wp_region_list ?_
  unfold rFL14
  refine fa0_7.move 110 (.int .i64 (k : Int)) _ (Or.inl rfl) rfl (lb_ I0.size) (wanted_none rfl) ((fa0_7.at_ 14).trans h14) (fun a0_8 fa0_8 => ?_)
  clear fa0_7
  have r_a0_9 : (execOp a0_8.eval { dst := some 111, op := Op.binOp BinOp.add 3 (Operand.tmp 110) (Operand.const (Value.int IntKind.i64 1)) 3, type := 3, pos := "law.go:123", after := #[{ on := 0, ground := Ground.data }], guard := none }).run Try.prog (W4) = .ok (.value (.int .i64 ((k : Int) + 1))) (W4) := by
    have kc : ∀ v, a0_8.eval (.const v) = v := fun _ => rfl
    have e110 := (show a0_8.eval (.tmp 110) = .int .i64 (k : Int) from (fa0_8.at_ 110))
    clear fa0_8 hQ h9 h14
    generalize a0_8.eval = ρ at *
    go_simp
  refine fa0_8.step 111 (.int .i64 ((k : Int) + 1)) rfl (lb_ I0.size) (wanted_none rfl) r_a0_9 (fun a0_9 fa0_9 => ?_)
  clear r_a0_9
  clear fa0_8
  refine fa0_9.move 14 (.int .i64 ((k : Int) + 1)) _ (Or.inr rfl) rfl (lb_ I0.size) (wanted_none rfl) (fa0_9.at_ 111) (fun a0_10 fa0_10 => ?_)
  clear fa0_9
  refine wpList_nil ?_
  exact hQ a0_10 W4 g4 c4 _ (I0.keep fa0_10 rfl rfl) (show a0_10.eval (.tmp 9) = .slice (some ⟨g4, 0, none⟩) (n + 1) c4 from (fa0_10.at_ 9)) (show a0_10.eval (.tmp 14) = .int .i64 ((k : Int) + 1) from (fa0_10.at_ 14)) o4 f4 a4
set_option maxRecDepth 100000 in
theorem flE2 {vw vb : Value} {ao : Option Addr} {n c9 : Nat} {Q : Exit → Act → World → Prop} (a0 : Act) (wr : World) (I0 : IFL vw vb a0) (h9 : a0.eval (.tmp 9) = .slice ao n c9) (h14 : a0.eval (.tmp 14) = .int .i64 40)
    (hQ : ∀ a, IFL vw vb a → a.eval (.tmp 9) = .slice ao n c9 → Q (.exit 2) a wr) : cFL2.wp Try.prog Q a0 wr := by
  have fa0_0 := Fe.refl a0
  unfold cFL2
  refine wp_seq (wp_seq ?_)
  refine wp_region_list ?_
  unfold rFL13
  refine fa0_0.move 108 (.int .i64 40) _ (Or.inl rfl) rfl (lb_ I0.size) (wanted_none rfl) ((fa0_0.at_ 14).trans h14) (fun a0_1 fa0_1 => ?_)
  clear fa0_0
  have r_a0_2 : (execOp a0_1.eval { dst := some 109, op := Op.binOp BinOp.lss 3 (Operand.tmp 108) (Operand.const (Value.int IntKind.i64 40)) 3, type := 4, pos := "law.go:123", after := #[{ on := 0, ground := Ground.data }], guard := none }).run Try.prog (wr) = .ok (.value (.bool false)) (wr) := by
    have kc : ∀ v, a0_1.eval (.const v) = v := fun _ => rfl
    have e108 := (show a0_1.eval (.tmp 108) = .int .i64 40 from (fa0_1.at_ 108))
    clear fa0_1 hQ h9 h14
    generalize a0_1.eval = ρ at *
    go_simp
  refine fa0_1.step 109 (.bool false) rfl (lb_ I0.size) (wanted_none rfl) r_a0_2 (fun a0_2 fa0_2 => ?_)
  clear r_a0_2
  clear fa0_1
  refine wpList_nil ?_
  change Code.wp _ _ _ _ _
  refine wp_cond_false (show a0_2.eval (.tmp 109) = .bool false from (fa0_2.at_ 109)) (wp_exit ?_)
  exact hQ a0_2 (I0.keep fa0_2 rfl rfl) (show a0_2.eval (.tmp 9) = .slice ao n c9 from ((fa0_2.at_ 9).trans h9))
theorem flL2 {vw vb : Value} {ao : Option Addr} {m c9 B : Nat} {xs : List Value} {Q : Exit → Act → World → Prop} (a0 : Act) (wr : World) (I0 : IFL vw vb a0) (h9 : a0.eval (.tmp 9) = .slice ao m c9) (h14 : a0.eval (.tmp 14) = .int .i64 ((0 : Nat) : Int)) (hm : m ≤ 4000000) (hB : B ≤ wr.heap.size)
    (ow : wr.ownsRow B 52 4 (.slice ao m c9) m xs)
    (hQ : ∀ a W a2 N c2, IFL vw vb a → a.eval (.tmp 9) = .slice a2 N c2 → N = m + 40 → Fr (fun k => ao.map (·.block) = some k) wr W → Q (.exit 2) a W) : (Code.loop cFL2).wp Try.prog Q a0 wr := by
  refine wp_loop (fun a W => IFL vw vb a ∧ Fr (fun k => ao.map (·.block) = some k) wr W ∧ ∃ (k : Nat) (a2 : Option Addr) (c2 : Nat) (xs' : List Value), k ≤ 40 ∧ a.eval (.tmp 14) = .int .i64 (k : Int) ∧ a.eval (.tmp 9) = .slice a2 (m + k) c2 ∧ W.ownsRow B 52 4 (.slice a2 (m + k) c2) (m + k) xs' ∧ ∀ j, a2.map (·.block) = some j → ao.map (·.block) = some j ∨ wr.heap.size ≤ j) (fun a _ => 40 - kOf a 14) ⟨I0, Fr.refl _ wr, 0, ao, c9, xs, Nat.zero_le _, h14, h9, ow, fun j e => Or.inl e⟩ ?_
  rintro a W ⟨I1, f1, k, a2, c2, xs2, hk, g14, g9, o2, at2⟩
  have hz : wr.heap.size ≤ W.heap.size := f1.size
  by_cases hgo : k < 40
  · refine flR2 a W I1 g9 g14 hgo (by omega) (Nat.le_trans hB hz) o2 (fun a' W3 g3 c3 xs3 i3 k9 k14 o3 f3 at3 => ?_)
    have h4 : a'.eval (.tmp 14) = .int .i64 ((k + 1 : Nat) : Int) := k14
    refine ⟨⟨i3, Fr.trans f1 f3 (fun j hj e => (at2 j e).elim id (fun h => by omega)), k + 1, some ⟨g3, 0, none⟩, c3, xs3, hgo, h4, k9, o3, fun j e => ?_⟩, ?_⟩
    · have e1 : g3 = j := by simpa using e
      subst e1
      exact at3.elim (fun h => at2 _ h) (fun h => Or.inr (by omega))
    · show 40 - kOf a' 14 < 40 - kOf a 14
      rw [kOf_eq h4, kOf_eq g14]
      omega
  · obtain rfl : k = 40 := by omega
    exact flE2 a W I1 g9 g14 (fun a' i2 k9 => hQ a' W a2 (m + 40) c2 i2 k9 rfl f1)
/-- What Lay answers, m pages. -/
def LayM (vr m : Nat) (l : List Pgx) (er : Int) (w : World) (e : Ending) (w' : World) : Prop :=
  (∃ lo lc, e = .returned (.tuple #[.slice lo m lc, .int .i64 er]) ∧ w'.ownsRow w.heap.size 52 4 (.slice lo m lc) m (pgCs vr l)) ∧ Same w w'
set_option maxRecDepth 100000 in
set_option maxHeartbeats 2000000 in
theorem flB {fb tb bx g n cg m cw gw vr cp ln llc gt tn ct gl cl : Nat} {p q er op pgs : Int} {ow pa la : Option Addr} {l : List Pgx} {Q : Exit → Act → World → Prop} (a0 : Act) (wr : World) (hsz : a0.tmps.size = 130) (hd : a0.defers = [])
    (h2 : a0.eval (.tmp 2) = .pointer (some ⟨fb, 0, none⟩)) (h3 : a0.eval (.tmp 3) = .pointer (some ⟨tb, 0, none⟩)) (h5 : a0.eval (.tmp 5) = .slice ow m cw) (h6 : a0.eval (.tmp 6) = .int .i64 er) (h7 : a0.eval (.tmp 7) = .slice (some ⟨g, 0, none⟩) n cg) (h8 : a0.eval (.tmp 8) = .pointer (some ⟨bx, 0, none⟩))
    (d0 : wr.cell? ⟨fb, 0, none⟩ = some (.int .i64 p)) (d1 : wr.cell? ⟨fb, 1, none⟩ = some (.int .i64 q)) (c0 : wr.cell? ⟨tb, 0, none⟩ = some (.int .u64 (vr : Int))) (c1 : wr.cell? ⟨tb, 1, none⟩ = some (.slice pa n cp)) (c3 : wr.cell? ⟨tb, 3, none⟩ = some (.slice la ln llc))
    (b0 : wr.cell? ⟨bx, 0, none⟩ = some (.slice (some ⟨gt, 0, none⟩) tn ct)) (b1 : wr.cell? ⟨bx, 1, none⟩ = some (.slice (some ⟨gl, 0, none⟩) ln cl)) (b2 : wr.cell? ⟨bx, 2, none⟩ = some (.int .i64 op)) (b3 : wr.cell? ⟨bx, 3, none⟩ = some (.int .u32 pgs))
    (pw : PgRow wr ow gw vr l) (hl : m = l.length) (hm : m ≤ 4000000)
    (ky : ∀ Z, Same wr Z → Calls Try.prog 16 #[.agg #[.int .i64 p, .int .i64 q], .int .u64 (vr : Int), .slice (some ⟨g, 0, none⟩) n cg, .agg #[.slice (some ⟨gt, 0, none⟩) tn ct, .slice (some ⟨gl, 0, none⟩) ln cl, .int .i64 op, .int .u32 pgs]] Z fun e w' => LayM vr m l er Z e w')
    (k1 : ∀ Z, Same wr Z → Calls Try.prog 12 #[.slice (some ⟨g, 0, none⟩) n cg, .slice pa n cp] Z fun e w' => e = .returned (.bool true) ∧ Same Z w')
    (k2 : ∀ Z, Same wr Z → Calls Try.prog 12 #[.slice (some ⟨gl, 0, none⟩) ln cl, .slice la ln llc] Z fun e w' => e = .returned (.bool true) ∧ Same Z w')
    (ka : ∀ Z, Calls Try.prog 14 #[] Z fun e w' => e = .returned (.bool true) ∧ Same Z w')
    (hQ : ∀ a W, a.defers = [] → a.eval (.tmp 4) = .bool true → Same wr W → Q .ret a W) : cFLB.wp Try.prog Q a0 wr := by
  have fa0_0 := Fe.refl a0
  unfold cFLB
  refine wp_seq ?_
  refine wp_region_list ?_
  unfold rFL4
  have r_a0_1 : (execOp a0.eval { dst := some 45, op := Op.load 39 (Operand.tmp 2), type := 39, pos := "law.go:115", after := #[], guard := none }).run Try.prog (wr) = .ok (.value (.agg #[.int .i64 p, .int .i64 q])) (wr) := by
    have e2 := (show a0.eval (.tmp 2) = .pointer (some ⟨fb, 0, none⟩) from ((fa0_0.at_ 2).trans h2))
    clear fa0_0 hQ h2 h3 h5 h6 h7 h8 hl
    generalize a0.eval = ρ at *
    go_simp
  refine fa0_0.step 45 (.agg #[.int .i64 p, .int .i64 q]) rfl (lb_ hsz) (wanted_none rfl) r_a0_1 (fun a0_1 fa0_1 => ?_)
  clear r_a0_1
  clear fa0_0
  have r_a0_2 : (execOp a0_1.eval { dst := some 46, op := Op.fieldAddr 42 (Operand.tmp 3) 0, type := 0, pos := "law.go:115", after := #[], guard := none }).run Try.prog (wr) = .ok (.value (.pointer (some ⟨tb, 0, none⟩))) (wr) := by
    have e3 := (show a0_1.eval (.tmp 3) = .pointer (some ⟨tb, 0, none⟩) from ((fa0_1.at_ 3).trans h3))
    clear fa0_1 hQ h2 h3 h5 h6 h7 h8 hl
    generalize a0_1.eval = ρ at *
    go_simp
  refine fa0_1.step 46 (.pointer (some ⟨tb, 0, none⟩)) rfl (lb_ hsz) (wanted_none rfl) r_a0_2 (fun a0_2 fa0_2 => ?_)
  clear r_a0_2
  clear fa0_1
  have r_a0_3 : (execOp a0_2.eval { dst := some 47, op := Op.load 40 (Operand.tmp 46), type := 40, pos := "law.go:115", after := #[{ on := 1, ground := Ground.data }], guard := none }).run Try.prog (wr) = .ok (.value (.int .u64 (vr : Int))) (wr) := by
    have e46 := (show a0_2.eval (.tmp 46) = .pointer (some ⟨tb, 0, none⟩) from (fa0_2.at_ 46))
    clear fa0_2 hQ h2 h3 h5 h6 h7 h8 hl
    generalize a0_2.eval = ρ at *
    go_simp
  refine fa0_2.step 47 (.int .u64 (vr : Int)) rfl (lb_ hsz) (wanted_none rfl) r_a0_3 (fun a0_3 fa0_3 => ?_)
  clear r_a0_3
  clear fa0_2
  refine fa0_3.move 48 (.slice (some ⟨g, 0, none⟩) n cg) _ (Or.inl rfl) rfl (lb_ hsz) (wanted_none rfl) ((fa0_3.at_ 7).trans h7) (fun a0_4 fa0_4 => ?_)
  clear fa0_3
  have r_a0_5 : (execOp a0_4.eval { dst := some 49, op := Op.load 26 (Operand.tmp 8), type := 26, pos := "law.go:115", after := #[], guard := none }).run Try.prog (wr) = .ok (.value (.agg #[.slice (some ⟨gt, 0, none⟩) tn ct, .slice (some ⟨gl, 0, none⟩) ln cl, .int .i64 op, .int .u32 pgs])) (wr) := by
    have e8 := (show a0_4.eval (.tmp 8) = .pointer (some ⟨bx, 0, none⟩) from ((fa0_4.at_ 8).trans h8))
    clear fa0_4 hQ h2 h3 h5 h6 h7 h8 hl
    generalize a0_4.eval = ρ at *
    go_simp
  refine fa0_4.step 49 (.agg #[.slice (some ⟨gt, 0, none⟩) tn ct, .slice (some ⟨gl, 0, none⟩) ln cl, .int .i64 op, .int .u32 pgs]) rfl (lb_ hsz) (wanted_none rfl) r_a0_5 (fun a0_5 fa0_5 => ?_)
  clear r_a0_5
  clear fa0_4
  have r_a0_6 : (execOp a0_5.eval { dst := some 50, op := Op.call { callee := Callee.value (Operand.func 16), args := #[Operand.tmp 45, Operand.tmp 47, Operand.tmp 48, Operand.tmp 49], argTypes := #[39, 40, 22, 26] }, type := 47, pos := "law.go:115", after := #[{ on := 0, ground := Ground.data }, { on := 2, ground := Ground.data }, { on := 3, ground := Ground.data }, { on := 4, ground := Ground.data }], guard := none }).run Try.prog (wr) = .ok (.enter 16 #[.agg #[.int .i64 p, .int .i64 q], .int .u64 (vr : Int), .slice (some ⟨g, 0, none⟩) n cg, .agg #[.slice (some ⟨gt, 0, none⟩) tn ct, .slice (some ⟨gl, 0, none⟩) ln cl, .int .i64 op, .int .u32 pgs]]) (wr) := by
    have kf : ∀ f, a0_5.eval (.func f) = .func (.func f) #[] #[] := fun _ => rfl
    have e45 := (show a0_5.eval (.tmp 45) = .agg #[.int .i64 p, .int .i64 q] from (fa0_5.at_ 45))
    have e47 := (show a0_5.eval (.tmp 47) = .int .u64 (vr : Int) from (fa0_5.at_ 47))
    have e48 := (show a0_5.eval (.tmp 48) = .slice (some ⟨g, 0, none⟩) n cg from (fa0_5.at_ 48))
    have e49 := (show a0_5.eval (.tmp 49) = .agg #[.slice (some ⟨gt, 0, none⟩) tn ct, .slice (some ⟨gl, 0, none⟩) ln cl, .int .i64 op, .int .u32 pgs] from (fa0_5.at_ 49))
    clear fa0_5 hQ h2 h3 h5 h6 h7 h8 hl
    generalize a0_5.eval = ρ at *
    go_simp
  refine fa0_5.call 50 rfl (lb_ hsz) (wanted_none rfl) r_a0_6 (ky wr (Fr.refl _ wr)) (fun e W9 hR => ?_)
  obtain ⟨⟨a9, c9, rfl, o9⟩, s9⟩ := hR
  clear r_a0_6
  refine ⟨_, rfl, fun a0_6 fa0_6 => ?_⟩
  clear fa0_5
  refine fa0_6.move 44 (.tuple #[.slice a9 m c9, .int .i64 er]) _ (Or.inl rfl) rfl (lb_ hsz) (wanted_none rfl) (fa0_6.at_ 50) (fun a0_7 fa0_7 => ?_)
  clear fa0_6
  have r_a0_8 : (execOp a0_7.eval { dst := some 51, op := Op.extract (Operand.tmp 44) 0, type := 43, pos := "law.go:115", after := #[{ on := 6, ground := Ground.data }], guard := none }).run Try.prog (W9) = .ok (.value (.slice a9 m c9)) (W9) := by
    have e44 := (show a0_7.eval (.tmp 44) = .tuple #[.slice a9 m c9, .int .i64 er] from (fa0_7.at_ 44))
    clear fa0_7 hQ h2 h3 h5 h6 h7 h8 hl
    generalize a0_7.eval = ρ at *
    go_simp
  refine fa0_7.step 51 (.slice a9 m c9) rfl (lb_ hsz) (wanted_none rfl) r_a0_8 (fun a0_8 fa0_8 => ?_)
  clear r_a0_8
  clear fa0_7
  have r_a0_9 : (execOp a0_8.eval { dst := some 52, op := Op.extract (Operand.tmp 44) 1, type := 46, pos := "law.go:115", after := #[{ on := 6, ground := Ground.data }, { on := 9, ground := Ground.gcOnly Go.Departure.lateStores }], guard := none }).run Try.prog (W9) = .ok (.value (.int .i64 er)) (W9) := by
    have e44 := (show a0_8.eval (.tmp 44) = .tuple #[.slice a9 m c9, .int .i64 er] from (fa0_8.at_ 44))
    clear fa0_8 hQ h2 h3 h5 h6 h7 h8 hl
    generalize a0_8.eval = ρ at *
    go_simp
  refine fa0_8.step 52 (.int .i64 er) rfl (lb_ hsz) (wanted_none rfl) r_a0_9 (fun a0_9 fa0_9 => ?_)
  clear r_a0_9
  clear fa0_8
  refine fa0_9.move 9 (.slice a9 m c9) _ (Or.inr rfl) rfl (lb_ hsz) (wanted_none rfl) (fa0_9.at_ 51) (fun a0_10 fa0_10 => ?_)
  clear fa0_9
  refine fa0_10.move 10 (.int .i64 er) _ (Or.inr rfl) rfl (lb_ hsz) (wanted_none rfl) (fa0_10.at_ 52) (fun a0_11 fa0_11 => ?_)
  clear fa0_10
  refine wpList_nil ?_
  have d0x := s9.keep d0
  have d1x := s9.keep d1
  have c0x := s9.keep c0
  have c1x := s9.keep c1
  have c3x := s9.keep c3
  have b0x := s9.keep b0
  have b1x := s9.keep b1
  have b2x := s9.keep b2
  have b3x := s9.keep b3
  change Code.wp _ _ _ _ _
  refine wp_seq ?_
  refine wp_region_list ?_
  unfold rFL5
  have r_a0_12 : (execOp a0_11.eval { dst := some 54, op := Op.load 39 (Operand.tmp 2), type := 39, pos := "law.go:116", after := #[], guard := none }).run Try.prog (W9) = .ok (.value (.agg #[.int .i64 p, .int .i64 q])) (W9) := by
    have e2 := (show a0_11.eval (.tmp 2) = .pointer (some ⟨fb, 0, none⟩) from ((fa0_11.at_ 2).trans h2))
    clear fa0_11 hQ h2 h3 h5 h6 h7 h8 hl
    generalize a0_11.eval = ρ at *
    go_simp
  refine fa0_11.step 54 (.agg #[.int .i64 p, .int .i64 q]) rfl (lb_ hsz) (wanted_none rfl) r_a0_12 (fun a0_12 fa0_12 => ?_)
  clear r_a0_12
  clear fa0_11
  have r_a0_13 : (execOp a0_12.eval { dst := some 55, op := Op.fieldAddr 42 (Operand.tmp 3) 0, type := 0, pos := "law.go:116", after := #[], guard := none }).run Try.prog (W9) = .ok (.value (.pointer (some ⟨tb, 0, none⟩))) (W9) := by
    have e3 := (show a0_12.eval (.tmp 3) = .pointer (some ⟨tb, 0, none⟩) from ((fa0_12.at_ 3).trans h3))
    clear fa0_12 hQ h2 h3 h5 h6 h7 h8 hl
    generalize a0_12.eval = ρ at *
    go_simp
  refine fa0_12.step 55 (.pointer (some ⟨tb, 0, none⟩)) rfl (lb_ hsz) (wanted_none rfl) r_a0_13 (fun a0_13 fa0_13 => ?_)
  clear r_a0_13
  clear fa0_12
  have r_a0_14 : (execOp a0_13.eval { dst := some 56, op := Op.load 40 (Operand.tmp 55), type := 40, pos := "law.go:116", after := #[{ on := 1, ground := Ground.data }], guard := none }).run Try.prog (W9) = .ok (.value (.int .u64 (vr : Int))) (W9) := by
    have e55 := (show a0_13.eval (.tmp 55) = .pointer (some ⟨tb, 0, none⟩) from (fa0_13.at_ 55))
    clear fa0_13 hQ h2 h3 h5 h6 h7 h8 hl
    generalize a0_13.eval = ρ at *
    go_simp
  refine fa0_13.step 56 (.int .u64 (vr : Int)) rfl (lb_ hsz) (wanted_none rfl) r_a0_14 (fun a0_14 fa0_14 => ?_)
  clear r_a0_14
  clear fa0_13
  refine fa0_14.move 57 (.slice (some ⟨g, 0, none⟩) n cg) _ (Or.inl rfl) rfl (lb_ hsz) (wanted_none rfl) ((fa0_14.at_ 7).trans h7) (fun a0_15 fa0_15 => ?_)
  clear fa0_14
  have r_a0_16 : (execOp a0_15.eval { dst := some 58, op := Op.load 26 (Operand.tmp 8), type := 26, pos := "law.go:116", after := #[], guard := none }).run Try.prog (W9) = .ok (.value (.agg #[.slice (some ⟨gt, 0, none⟩) tn ct, .slice (some ⟨gl, 0, none⟩) ln cl, .int .i64 op, .int .u32 pgs])) (W9) := by
    have e8 := (show a0_15.eval (.tmp 8) = .pointer (some ⟨bx, 0, none⟩) from ((fa0_15.at_ 8).trans h8))
    clear fa0_15 hQ h2 h3 h5 h6 h7 h8 hl
    generalize a0_15.eval = ρ at *
    go_simp
  refine fa0_15.step 58 (.agg #[.slice (some ⟨gt, 0, none⟩) tn ct, .slice (some ⟨gl, 0, none⟩) ln cl, .int .i64 op, .int .u32 pgs]) rfl (lb_ hsz) (wanted_none rfl) r_a0_16 (fun a0_16 fa0_16 => ?_)
  clear r_a0_16
  clear fa0_15
  have r_a0_17 : (execOp a0_16.eval { dst := some 59, op := Op.call { callee := Callee.value (Operand.func 16), args := #[Operand.tmp 54, Operand.tmp 56, Operand.tmp 57, Operand.tmp 58], argTypes := #[39, 40, 22, 26] }, type := 47, pos := "law.go:116", after := #[{ on := 0, ground := Ground.data }, { on := 2, ground := Ground.data }, { on := 3, ground := Ground.data }, { on := 4, ground := Ground.data }], guard := none }).run Try.prog (W9) = .ok (.enter 16 #[.agg #[.int .i64 p, .int .i64 q], .int .u64 (vr : Int), .slice (some ⟨g, 0, none⟩) n cg, .agg #[.slice (some ⟨gt, 0, none⟩) tn ct, .slice (some ⟨gl, 0, none⟩) ln cl, .int .i64 op, .int .u32 pgs]]) (W9) := by
    have kf : ∀ f, a0_16.eval (.func f) = .func (.func f) #[] #[] := fun _ => rfl
    have e54 := (show a0_16.eval (.tmp 54) = .agg #[.int .i64 p, .int .i64 q] from (fa0_16.at_ 54))
    have e56 := (show a0_16.eval (.tmp 56) = .int .u64 (vr : Int) from (fa0_16.at_ 56))
    have e57 := (show a0_16.eval (.tmp 57) = .slice (some ⟨g, 0, none⟩) n cg from (fa0_16.at_ 57))
    have e58 := (show a0_16.eval (.tmp 58) = .agg #[.slice (some ⟨gt, 0, none⟩) tn ct, .slice (some ⟨gl, 0, none⟩) ln cl, .int .i64 op, .int .u32 pgs] from (fa0_16.at_ 58))
    clear fa0_16 hQ h2 h3 h5 h6 h7 h8 hl
    generalize a0_16.eval = ρ at *
    go_simp
  refine fa0_16.call 59 rfl (lb_ hsz) (wanted_none rfl) r_a0_17 (ky W9 s9) (fun e W11 hR => ?_)
  obtain ⟨⟨a11, c11, rfl, o11⟩, s11⟩ := hR
  clear r_a0_17
  refine ⟨_, rfl, fun a0_17 fa0_17 => ?_⟩
  clear fa0_16
  refine fa0_17.move 53 (.tuple #[.slice a11 m c11, .int .i64 er]) _ (Or.inl rfl) rfl (lb_ hsz) (wanted_none rfl) (fa0_17.at_ 59) (fun a0_18 fa0_18 => ?_)
  clear fa0_17
  have r_a0_19 : (execOp a0_18.eval { dst := some 60, op := Op.extract (Operand.tmp 53) 0, type := 43, pos := "law.go:116", after := #[{ on := 6, ground := Ground.data }], guard := none }).run Try.prog (W11) = .ok (.value (.slice a11 m c11)) (W11) := by
    have e53 := (show a0_18.eval (.tmp 53) = .tuple #[.slice a11 m c11, .int .i64 er] from (fa0_18.at_ 53))
    clear fa0_18 hQ h2 h3 h5 h6 h7 h8 hl
    generalize a0_18.eval = ρ at *
    go_simp
  refine fa0_18.step 60 (.slice a11 m c11) rfl (lb_ hsz) (wanted_none rfl) r_a0_19 (fun a0_19 fa0_19 => ?_)
  clear r_a0_19
  clear fa0_18
  have r_a0_20 : (execOp a0_19.eval { dst := some 61, op := Op.extract (Operand.tmp 53) 1, type := 46, pos := "law.go:116", after := #[{ on := 6, ground := Ground.data }, { on := 9, ground := Ground.gcOnly Go.Departure.lateStores }], guard := none }).run Try.prog (W11) = .ok (.value (.int .i64 er)) (W11) := by
    have e53 := (show a0_19.eval (.tmp 53) = .tuple #[.slice a11 m c11, .int .i64 er] from (fa0_19.at_ 53))
    clear fa0_19 hQ h2 h3 h5 h6 h7 h8 hl
    generalize a0_19.eval = ρ at *
    go_simp
  refine fa0_19.step 61 (.int .i64 er) rfl (lb_ hsz) (wanted_none rfl) r_a0_20 (fun a0_20 fa0_20 => ?_)
  clear r_a0_20
  clear fa0_19
  refine fa0_20.move 11 (.slice a11 m c11) _ (Or.inr rfl) rfl (lb_ hsz) (wanted_none rfl) (fa0_20.at_ 60) (fun a0_21 fa0_21 => ?_)
  clear fa0_20
  refine fa0_21.move 12 (.int .i64 er) _ (Or.inr rfl) rfl (lb_ hsz) (wanted_none rfl) (fa0_21.at_ 61) (fun a0_22 fa0_22 => ?_)
  clear fa0_21
  refine wpList_nil ?_
  have s_1 : Same wr W11 := s9.trans s11
  have o9b := own_frameB o9 s11 (fun _ _ f => f)
  obtain ⟨g9, p9⟩ := own_pgRow (l := l) (c := c9) (ao := a9) (hl ▸ o9b)
  obtain ⟨g11, p11⟩ := own_pgRow (l := l) (c := c11) (ao := a11) (hl ▸ o11)
  have pw1 := pw.same s_1
  have nEE : (er != er) = false := by simp
  change Code.wp _ _ _ _ _
  refine wp_seq (wp_seq ?_)
  refine wp_region_list ?_
  unfold rFL6
  refine fa0_22.move 62 (.int .i64 er) _ (Or.inl rfl) rfl (lb_ hsz) (wanted_none rfl) (fa0_22.at_ 10) (fun a0_23 fa0_23 => ?_)
  clear fa0_22
  refine fa0_23.move 63 (.int .i64 er) _ (Or.inl rfl) rfl (lb_ hsz) (wanted_none rfl) ((fa0_23.at_ 6).trans h6) (fun a0_24 fa0_24 => ?_)
  clear fa0_23
  have r_a0_25 : (execOp a0_24.eval { dst := some 64, op := Op.binOp BinOp.neq 3 (Operand.tmp 62) (Operand.tmp 63) 3, type := 4, pos := "law.go:117", after := #[{ on := 0, ground := Ground.data }, { on := 1, ground := Ground.data }], guard := none }).run Try.prog (W11) = .ok (.value (.bool false)) (W11) := by
    have e62 := (show a0_24.eval (.tmp 62) = .int .i64 er from (fa0_24.at_ 62))
    have e63 := (show a0_24.eval (.tmp 63) = .int .i64 er from (fa0_24.at_ 63))
    clear fa0_24 hQ h2 h3 h5 h6 h7 h8 hl
    generalize a0_24.eval = ρ at *
    go_simp
  refine fa0_24.step 64 (.bool false) rfl (lb_ hsz) (wanted_none rfl) r_a0_25 (fun a0_25 fa0_25 => ?_)
  clear r_a0_25
  clear fa0_24
  refine fa0_25.move 65 (.bool false) _ (Or.inl rfl) rfl (lb_ hsz) (wanted_none rfl) (fa0_25.at_ 64) (fun a0_26 fa0_26 => ?_)
  clear fa0_25
  refine fa0_26.move 66 (.int .i64 er) _ (Or.inl rfl) rfl (lb_ hsz) ((wanted_at (t := 65) (c := false) (b := false) rfl rfl rfl (lb_ (fa0_26.size.trans hsz)) (fa0_26.at_ 65)).trans (by rfl)) (fa0_26.at_ 12) (fun a0_27 fa0_27 => ?_)
  clear fa0_26
  refine fa0_27.move 67 (.int .i64 er) _ (Or.inl rfl) rfl (lb_ hsz) ((wanted_at (t := 65) (c := false) (b := false) rfl rfl rfl (lb_ (fa0_27.size.trans hsz)) (fa0_27.at_ 65)).trans (by rfl)) ((fa0_27.at_ 6).trans h6) (fun a0_28 fa0_28 => ?_)
  clear fa0_27
  have r_a0_29 : (execOp a0_28.eval { dst := some 68, op := Op.binOp BinOp.neq 3 (Operand.tmp 66) (Operand.tmp 67) 3, type := 4, pos := "law.go:117", after := #[{ on := 4, ground := Ground.data }, { on := 5, ground := Ground.data }, { on := 3, ground := Ground.guard }], guard := some (3, false) }).run Try.prog (W11) = .ok (.value (.bool false)) (W11) := by
    have e66 := (show a0_28.eval (.tmp 66) = .int .i64 er from (fa0_28.at_ 66))
    have e67 := (show a0_28.eval (.tmp 67) = .int .i64 er from (fa0_28.at_ 67))
    clear fa0_28 hQ h2 h3 h5 h6 h7 h8 hl
    generalize a0_28.eval = ρ at *
    go_simp
  refine fa0_28.step 68 (.bool false) rfl (lb_ hsz) ((wanted_at (t := 65) (c := false) (b := false) rfl rfl rfl (lb_ (fa0_28.size.trans hsz)) (fa0_28.at_ 65)).trans (by rfl)) r_a0_29 (fun a0_29 fa0_29 => ?_)
  clear r_a0_29
  clear fa0_28
  have r_a0_30 : (execOp a0_29.eval { dst := some 69, op := Op.pick (Operand.tmp 65) (Operand.const (Value.bool true)) (Operand.tmp 68), type := 4, pos := "law.go:117", after := #[{ on := 3, ground := Ground.data }, { on := 6, ground := Ground.data }], guard := none }).run Try.prog (W11) = .ok (.value (.bool false)) (W11) := by
    have kc : ∀ v, a0_29.eval (.const v) = v := fun _ => rfl
    have e65 := (show a0_29.eval (.tmp 65) = .bool false from (fa0_29.at_ 65))
    have e68 := (show a0_29.eval (.tmp 68) = .bool false from (fa0_29.at_ 68))
    clear fa0_29 hQ h2 h3 h5 h6 h7 h8 hl
    generalize a0_29.eval = ρ at *
    go_simp
  refine fa0_29.step 69 (.bool false) rfl (lb_ hsz) (wanted_none rfl) r_a0_30 (fun a0_30 fa0_30 => ?_)
  clear r_a0_30
  clear fa0_29
  refine fa0_30.move 70 (.bool false) _ (Or.inl rfl) rfl (lb_ hsz) (wanted_none rfl) (fa0_30.at_ 69) (fun a0_31 fa0_31 => ?_)
  clear fa0_30
  refine fa0_31.move 71 (.slice a9 m c9) _ (Or.inl rfl) rfl (lb_ hsz) ((wanted_at (t := 70) (c := false) (b := false) rfl rfl rfl (lb_ (fa0_31.size.trans hsz)) (fa0_31.at_ 70)).trans (by rfl)) (fa0_31.at_ 9) (fun a0_32 fa0_32 => ?_)
  clear fa0_31
  refine fa0_32.move 72 (.slice ow m cw) _ (Or.inl rfl) rfl (lb_ hsz) ((wanted_at (t := 70) (c := false) (b := false) rfl rfl rfl (lb_ (fa0_32.size.trans hsz)) (fa0_32.at_ 70)).trans (by rfl)) ((fa0_32.at_ 5).trans h5) (fun a0_33 fa0_33 => ?_)
  clear fa0_32
  have r_a0_34 : (execOp a0_33.eval { dst := some 73, op := Op.call { callee := Callee.value (Operand.func 17), args := #[Operand.tmp 71, Operand.tmp 72], argTypes := #[43, 43] }, type := 4, pos := "law.go:117", after := #[{ on := 9, ground := Ground.data }, { on := 10, ground := Ground.data }, { on := 8, ground := Ground.chain }, { on := 8, ground := Ground.guard }], guard := some (8, false) }).run Try.prog (W11) = .ok (.enter 17 #[.slice a9 m c9, .slice ow m cw]) (W11) := by
    have kf : ∀ f, a0_33.eval (.func f) = .func (.func f) #[] #[] := fun _ => rfl
    have e71 := (show a0_33.eval (.tmp 71) = .slice a9 m c9 from (fa0_33.at_ 71))
    have e72 := (show a0_33.eval (.tmp 72) = .slice ow m cw from (fa0_33.at_ 72))
    clear fa0_33 hQ h2 h3 h5 h6 h7 h8 hl
    generalize a0_33.eval = ρ at *
    go_simp
  refine fa0_33.call 73 rfl (lb_ hsz) ((wanted_at (t := 70) (c := false) (b := false) rfl rfl rfl (lb_ (fa0_33.size.trans hsz)) (fa0_33.at_ 70)).trans (by rfl)) r_a0_34 (samePg_true W11 p9 pw1 hl (by omega)) (fun e W12 hR => ?_)
  obtain ⟨rfl, s12⟩ := hR
  clear r_a0_34
  refine ⟨_, rfl, fun a0_34 fa0_34 => ?_⟩
  clear fa0_33
  have r_a0_35 : (execOp a0_34.eval { dst := some 74, op := Op.unOp UnOp.not 4 (Operand.tmp 73), type := 4, pos := "law.go:117", after := #[{ on := 11, ground := Ground.data }, { on := 8, ground := Ground.guard }], guard := some (8, false) }).run Try.prog (W12) = .ok (.value (.bool false)) (W12) := by
    have e73 := (show a0_34.eval (.tmp 73) = .bool true from (fa0_34.at_ 73))
    clear fa0_34 hQ h2 h3 h5 h6 h7 h8 hl
    generalize a0_34.eval = ρ at *
    go_simp
  refine fa0_34.step 74 (.bool false) rfl (lb_ hsz) ((wanted_at (t := 70) (c := false) (b := false) rfl rfl rfl (lb_ (fa0_34.size.trans hsz)) (fa0_34.at_ 70)).trans (by rfl)) r_a0_35 (fun a0_35 fa0_35 => ?_)
  clear r_a0_35
  clear fa0_34
  have r_a0_36 : (execOp a0_35.eval { dst := some 75, op := Op.pick (Operand.tmp 70) (Operand.const (Value.bool true)) (Operand.tmp 74), type := 4, pos := "law.go:117", after := #[{ on := 8, ground := Ground.data }, { on := 12, ground := Ground.data }], guard := none }).run Try.prog (W12) = .ok (.value (.bool false)) (W12) := by
    have kc : ∀ v, a0_35.eval (.const v) = v := fun _ => rfl
    have e70 := (show a0_35.eval (.tmp 70) = .bool false from (fa0_35.at_ 70))
    have e74 := (show a0_35.eval (.tmp 74) = .bool false from (fa0_35.at_ 74))
    clear fa0_35 hQ h2 h3 h5 h6 h7 h8 hl
    generalize a0_35.eval = ρ at *
    go_simp
  refine fa0_35.step 75 (.bool false) rfl (lb_ hsz) (wanted_none rfl) r_a0_36 (fun a0_36 fa0_36 => ?_)
  clear r_a0_36
  clear fa0_35
  refine fa0_36.move 76 (.bool false) _ (Or.inl rfl) rfl (lb_ hsz) (wanted_none rfl) (fa0_36.at_ 75) (fun a0_37 fa0_37 => ?_)
  clear fa0_36
  refine fa0_37.move 77 (.slice a11 m c11) _ (Or.inl rfl) rfl (lb_ hsz) ((wanted_at (t := 76) (c := false) (b := false) rfl rfl rfl (lb_ (fa0_37.size.trans hsz)) (fa0_37.at_ 76)).trans (by rfl)) (fa0_37.at_ 11) (fun a0_38 fa0_38 => ?_)
  clear fa0_37
  refine fa0_38.move 78 (.slice ow m cw) _ (Or.inl rfl) rfl (lb_ hsz) ((wanted_at (t := 76) (c := false) (b := false) rfl rfl rfl (lb_ (fa0_38.size.trans hsz)) (fa0_38.at_ 76)).trans (by rfl)) ((fa0_38.at_ 5).trans h5) (fun a0_39 fa0_39 => ?_)
  clear fa0_38
  have r_a0_40 : (execOp a0_39.eval { dst := some 79, op := Op.call { callee := Callee.value (Operand.func 17), args := #[Operand.tmp 77, Operand.tmp 78], argTypes := #[43, 43] }, type := 4, pos := "law.go:117", after := #[{ on := 15, ground := Ground.data }, { on := 16, ground := Ground.data }, { on := 14, ground := Ground.chain }, { on := 14, ground := Ground.guard }], guard := some (14, false) }).run Try.prog (W12) = .ok (.enter 17 #[.slice a11 m c11, .slice ow m cw]) (W12) := by
    have kf : ∀ f, a0_39.eval (.func f) = .func (.func f) #[] #[] := fun _ => rfl
    have e77 := (show a0_39.eval (.tmp 77) = .slice a11 m c11 from (fa0_39.at_ 77))
    have e78 := (show a0_39.eval (.tmp 78) = .slice ow m cw from (fa0_39.at_ 78))
    clear fa0_39 hQ h2 h3 h5 h6 h7 h8 hl
    generalize a0_39.eval = ρ at *
    go_simp
  refine fa0_39.call 79 rfl (lb_ hsz) ((wanted_at (t := 76) (c := false) (b := false) rfl rfl rfl (lb_ (fa0_39.size.trans hsz)) (fa0_39.at_ 76)).trans (by rfl)) r_a0_40 (samePg_true W12 (p11.same s12) (pw1.same s12) hl (by omega)) (fun e W13 hR => ?_)
  obtain ⟨rfl, s13⟩ := hR
  clear r_a0_40
  have s_3 : Same wr W13 := (s_1.trans s12).trans s13
  have c1z := s_3.keep c1
  refine ⟨_, rfl, fun a0_40 fa0_40 => ?_⟩
  clear fa0_39
  have r_a0_41 : (execOp a0_40.eval { dst := some 80, op := Op.unOp UnOp.not 4 (Operand.tmp 79), type := 4, pos := "law.go:117", after := #[{ on := 17, ground := Ground.data }, { on := 14, ground := Ground.guard }], guard := some (14, false) }).run Try.prog (W13) = .ok (.value (.bool false)) (W13) := by
    have e79 := (show a0_40.eval (.tmp 79) = .bool true from (fa0_40.at_ 79))
    clear fa0_40 hQ h2 h3 h5 h6 h7 h8 hl
    generalize a0_40.eval = ρ at *
    go_simp
  refine fa0_40.step 80 (.bool false) rfl (lb_ hsz) ((wanted_at (t := 76) (c := false) (b := false) rfl rfl rfl (lb_ (fa0_40.size.trans hsz)) (fa0_40.at_ 76)).trans (by rfl)) r_a0_41 (fun a0_41 fa0_41 => ?_)
  clear r_a0_41
  clear fa0_40
  have r_a0_42 : (execOp a0_41.eval { dst := some 81, op := Op.pick (Operand.tmp 76) (Operand.const (Value.bool true)) (Operand.tmp 80), type := 4, pos := "law.go:117", after := #[{ on := 14, ground := Ground.data }, { on := 18, ground := Ground.data }], guard := none }).run Try.prog (W13) = .ok (.value (.bool false)) (W13) := by
    have kc : ∀ v, a0_41.eval (.const v) = v := fun _ => rfl
    have e76 := (show a0_41.eval (.tmp 76) = .bool false from (fa0_41.at_ 76))
    have e80 := (show a0_41.eval (.tmp 80) = .bool false from (fa0_41.at_ 80))
    clear fa0_41 hQ h2 h3 h5 h6 h7 h8 hl
    generalize a0_41.eval = ρ at *
    go_simp
  refine fa0_41.step 81 (.bool false) rfl (lb_ hsz) (wanted_none rfl) r_a0_42 (fun a0_42 fa0_42 => ?_)
  clear r_a0_42
  clear fa0_41
  refine fa0_42.move 82 (.bool false) _ (Or.inl rfl) rfl (lb_ hsz) (wanted_none rfl) (fa0_42.at_ 81) (fun a0_43 fa0_43 => ?_)
  clear fa0_42
  refine fa0_43.move 83 (.slice (some ⟨g, 0, none⟩) n cg) _ (Or.inl rfl) rfl (lb_ hsz) ((wanted_at (t := 82) (c := false) (b := false) rfl rfl rfl (lb_ (fa0_43.size.trans hsz)) (fa0_43.at_ 82)).trans (by rfl)) ((fa0_43.at_ 7).trans h7) (fun a0_44 fa0_44 => ?_)
  clear fa0_43
  have r_a0_45 : (execOp a0_44.eval { dst := some 84, op := Op.fieldAddr 42 (Operand.tmp 3) 1, type := 0, pos := "law.go:117", after := #[{ on := 20, ground := Ground.guard }], guard := some (20, false) }).run Try.prog (W13) = .ok (.value (.pointer (some ⟨tb, 1, none⟩))) (W13) := by
    have e3 := (show a0_44.eval (.tmp 3) = .pointer (some ⟨tb, 0, none⟩) from ((fa0_44.at_ 3).trans h3))
    clear fa0_44 hQ h2 h3 h5 h6 h7 h8 hl
    generalize a0_44.eval = ρ at *
    go_simp
  refine fa0_44.step 84 (.pointer (some ⟨tb, 1, none⟩)) rfl (lb_ hsz) ((wanted_at (t := 82) (c := false) (b := false) rfl rfl rfl (lb_ (fa0_44.size.trans hsz)) (fa0_44.at_ 82)).trans (by rfl)) r_a0_45 (fun a0_45 fa0_45 => ?_)
  clear r_a0_45
  clear fa0_44
  have r_a0_46 : (execOp a0_45.eval { dst := some 85, op := Op.load 22 (Operand.tmp 84), type := 22, pos := "law.go:117", after := #[{ on := 22, ground := Ground.data }, { on := 20, ground := Ground.guard }], guard := some (20, false) }).run Try.prog (W13) = .ok (.value (.slice pa n cp)) (W13) := by
    have e84 := (show a0_45.eval (.tmp 84) = .pointer (some ⟨tb, 1, none⟩) from (fa0_45.at_ 84))
    clear fa0_45 hQ h2 h3 h5 h6 h7 h8 hl
    generalize a0_45.eval = ρ at *
    go_simp
  refine fa0_45.step 85 (.slice pa n cp) rfl (lb_ hsz) ((wanted_at (t := 82) (c := false) (b := false) rfl rfl rfl (lb_ (fa0_45.size.trans hsz)) (fa0_45.at_ 82)).trans (by rfl)) r_a0_46 (fun a0_46 fa0_46 => ?_)
  clear r_a0_46
  clear fa0_45
  have r_a0_47 : (execOp a0_46.eval { dst := some 86, op := Op.call { callee := Callee.value (Operand.func 12), args := #[Operand.tmp 83, Operand.tmp 85], argTypes := #[22, 22] }, type := 4, pos := "law.go:117", after := #[{ on := 21, ground := Ground.data }, { on := 23, ground := Ground.data }, { on := 20, ground := Ground.chain }, { on := 20, ground := Ground.guard }], guard := some (20, false) }).run Try.prog (W13) = .ok (.enter 12 #[.slice (some ⟨g, 0, none⟩) n cg, .slice pa n cp]) (W13) := by
    have kf : ∀ f, a0_46.eval (.func f) = .func (.func f) #[] #[] := fun _ => rfl
    have e83 := (show a0_46.eval (.tmp 83) = .slice (some ⟨g, 0, none⟩) n cg from (fa0_46.at_ 83))
    have e85 := (show a0_46.eval (.tmp 85) = .slice pa n cp from (fa0_46.at_ 85))
    clear fa0_46 hQ h2 h3 h5 h6 h7 h8 hl
    generalize a0_46.eval = ρ at *
    go_simp
  refine fa0_46.call 86 rfl (lb_ hsz) ((wanted_at (t := 82) (c := false) (b := false) rfl rfl rfl (lb_ (fa0_46.size.trans hsz)) (fa0_46.at_ 82)).trans (by rfl)) r_a0_47 (k1 _ s_3) (fun e W14 hR => ?_)
  obtain ⟨rfl, s14⟩ := hR
  clear r_a0_47
  have s_4 : Same wr W14 := s_3.trans s14
  have c3z := s_4.keep c3
  have b1z := s_4.keep b1
  refine ⟨_, rfl, fun a0_47 fa0_47 => ?_⟩
  clear fa0_46
  have r_a0_48 : (execOp a0_47.eval { dst := some 87, op := Op.unOp UnOp.not 4 (Operand.tmp 86), type := 4, pos := "law.go:117", after := #[{ on := 24, ground := Ground.data }, { on := 20, ground := Ground.guard }], guard := some (20, false) }).run Try.prog (W14) = .ok (.value (.bool false)) (W14) := by
    have e86 := (show a0_47.eval (.tmp 86) = .bool true from (fa0_47.at_ 86))
    clear fa0_47 hQ h2 h3 h5 h6 h7 h8 hl
    generalize a0_47.eval = ρ at *
    go_simp
  refine fa0_47.step 87 (.bool false) rfl (lb_ hsz) ((wanted_at (t := 82) (c := false) (b := false) rfl rfl rfl (lb_ (fa0_47.size.trans hsz)) (fa0_47.at_ 82)).trans (by rfl)) r_a0_48 (fun a0_48 fa0_48 => ?_)
  clear r_a0_48
  clear fa0_47
  have r_a0_49 : (execOp a0_48.eval { dst := some 88, op := Op.pick (Operand.tmp 82) (Operand.const (Value.bool true)) (Operand.tmp 87), type := 4, pos := "law.go:117", after := #[{ on := 20, ground := Ground.data }, { on := 25, ground := Ground.data }], guard := none }).run Try.prog (W14) = .ok (.value (.bool false)) (W14) := by
    have kc : ∀ v, a0_48.eval (.const v) = v := fun _ => rfl
    have e82 := (show a0_48.eval (.tmp 82) = .bool false from (fa0_48.at_ 82))
    have e87 := (show a0_48.eval (.tmp 87) = .bool false from (fa0_48.at_ 87))
    clear fa0_48 hQ h2 h3 h5 h6 h7 h8 hl
    generalize a0_48.eval = ρ at *
    go_simp
  refine fa0_48.step 88 (.bool false) rfl (lb_ hsz) (wanted_none rfl) r_a0_49 (fun a0_49 fa0_49 => ?_)
  clear r_a0_49
  clear fa0_48
  refine fa0_49.move 89 (.bool false) _ (Or.inl rfl) rfl (lb_ hsz) (wanted_none rfl) (fa0_49.at_ 88) (fun a0_50 fa0_50 => ?_)
  clear fa0_49
  have r_a0_51 : (execOp a0_50.eval { dst := some 90, op := Op.fieldAddr 26 (Operand.tmp 8) 1, type := 0, pos := "law.go:117", after := #[{ on := 27, ground := Ground.guard }], guard := some (27, false) }).run Try.prog (W14) = .ok (.value (.pointer (some ⟨bx, 1, none⟩))) (W14) := by
    have e8 := (show a0_50.eval (.tmp 8) = .pointer (some ⟨bx, 0, none⟩) from ((fa0_50.at_ 8).trans h8))
    clear fa0_50 hQ h2 h3 h5 h6 h7 h8 hl
    generalize a0_50.eval = ρ at *
    go_simp
  refine fa0_50.step 90 (.pointer (some ⟨bx, 1, none⟩)) rfl (lb_ hsz) ((wanted_at (t := 89) (c := false) (b := false) rfl rfl rfl (lb_ (fa0_50.size.trans hsz)) (fa0_50.at_ 89)).trans (by rfl)) r_a0_51 (fun a0_51 fa0_51 => ?_)
  clear r_a0_51
  clear fa0_50
  have r_a0_52 : (execOp a0_51.eval { dst := some 91, op := Op.load 22 (Operand.tmp 90), type := 22, pos := "law.go:117", after := #[{ on := 28, ground := Ground.data }, { on := 27, ground := Ground.guard }], guard := some (27, false) }).run Try.prog (W14) = .ok (.value (.slice (some ⟨gl, 0, none⟩) ln cl)) (W14) := by
    have e90 := (show a0_51.eval (.tmp 90) = .pointer (some ⟨bx, 1, none⟩) from (fa0_51.at_ 90))
    clear fa0_51 hQ h2 h3 h5 h6 h7 h8 hl
    generalize a0_51.eval = ρ at *
    go_simp
  refine fa0_51.step 91 (.slice (some ⟨gl, 0, none⟩) ln cl) rfl (lb_ hsz) ((wanted_at (t := 89) (c := false) (b := false) rfl rfl rfl (lb_ (fa0_51.size.trans hsz)) (fa0_51.at_ 89)).trans (by rfl)) r_a0_52 (fun a0_52 fa0_52 => ?_)
  clear r_a0_52
  clear fa0_51
  have r_a0_53 : (execOp a0_52.eval { dst := some 92, op := Op.fieldAddr 42 (Operand.tmp 3) 2, type := 0, pos := "law.go:117", after := #[{ on := 27, ground := Ground.guard }], guard := some (27, false) }).run Try.prog (W14) = .ok (.value (.pointer (some ⟨tb, 2, none⟩))) (W14) := by
    have e3 := (show a0_52.eval (.tmp 3) = .pointer (some ⟨tb, 0, none⟩) from ((fa0_52.at_ 3).trans h3))
    clear fa0_52 hQ h2 h3 h5 h6 h7 h8 hl
    generalize a0_52.eval = ρ at *
    go_simp
  refine fa0_52.step 92 (.pointer (some ⟨tb, 2, none⟩)) rfl (lb_ hsz) ((wanted_at (t := 89) (c := false) (b := false) rfl rfl rfl (lb_ (fa0_52.size.trans hsz)) (fa0_52.at_ 89)).trans (by rfl)) r_a0_53 (fun a0_53 fa0_53 => ?_)
  clear r_a0_53
  clear fa0_52
  have r_a0_54 : (execOp a0_53.eval { dst := some 93, op := Op.fieldAddr 26 (Operand.tmp 92) 1, type := 0, pos := "law.go:117", after := #[{ on := 30, ground := Ground.data }, { on := 27, ground := Ground.guard }], guard := some (27, false) }).run Try.prog (W14) = .ok (.value (.pointer (some ⟨tb, 3, none⟩))) (W14) := by
    have e92 := (show a0_53.eval (.tmp 92) = .pointer (some ⟨tb, 2, none⟩) from (fa0_53.at_ 92))
    clear fa0_53 hQ h2 h3 h5 h6 h7 h8 hl
    generalize a0_53.eval = ρ at *
    go_simp
  refine fa0_53.step 93 (.pointer (some ⟨tb, 3, none⟩)) rfl (lb_ hsz) ((wanted_at (t := 89) (c := false) (b := false) rfl rfl rfl (lb_ (fa0_53.size.trans hsz)) (fa0_53.at_ 89)).trans (by rfl)) r_a0_54 (fun a0_54 fa0_54 => ?_)
  clear r_a0_54
  clear fa0_53
  have r_a0_55 : (execOp a0_54.eval { dst := some 94, op := Op.load 22 (Operand.tmp 93), type := 22, pos := "law.go:117", after := #[{ on := 31, ground := Ground.data }, { on := 27, ground := Ground.guard }], guard := some (27, false) }).run Try.prog (W14) = .ok (.value (.slice la ln llc)) (W14) := by
    have e93 := (show a0_54.eval (.tmp 93) = .pointer (some ⟨tb, 3, none⟩) from (fa0_54.at_ 93))
    clear fa0_54 hQ h2 h3 h5 h6 h7 h8 hl
    generalize a0_54.eval = ρ at *
    go_simp
  refine fa0_54.step 94 (.slice la ln llc) rfl (lb_ hsz) ((wanted_at (t := 89) (c := false) (b := false) rfl rfl rfl (lb_ (fa0_54.size.trans hsz)) (fa0_54.at_ 89)).trans (by rfl)) r_a0_55 (fun a0_55 fa0_55 => ?_)
  clear r_a0_55
  clear fa0_54
  have r_a0_56 : (execOp a0_55.eval { dst := some 95, op := Op.call { callee := Callee.value (Operand.func 12), args := #[Operand.tmp 91, Operand.tmp 94], argTypes := #[22, 22] }, type := 4, pos := "law.go:117", after := #[{ on := 29, ground := Ground.data }, { on := 32, ground := Ground.data }, { on := 27, ground := Ground.chain }, { on := 27, ground := Ground.guard }], guard := some (27, false) }).run Try.prog (W14) = .ok (.enter 12 #[.slice (some ⟨gl, 0, none⟩) ln cl, .slice la ln llc]) (W14) := by
    have kf : ∀ f, a0_55.eval (.func f) = .func (.func f) #[] #[] := fun _ => rfl
    have e91 := (show a0_55.eval (.tmp 91) = .slice (some ⟨gl, 0, none⟩) ln cl from (fa0_55.at_ 91))
    have e94 := (show a0_55.eval (.tmp 94) = .slice la ln llc from (fa0_55.at_ 94))
    clear fa0_55 hQ h2 h3 h5 h6 h7 h8 hl
    generalize a0_55.eval = ρ at *
    go_simp
  refine fa0_55.call 95 rfl (lb_ hsz) ((wanted_at (t := 89) (c := false) (b := false) rfl rfl rfl (lb_ (fa0_55.size.trans hsz)) (fa0_55.at_ 89)).trans (by rfl)) r_a0_56 (k2 _ s_4) (fun e W15 hR => ?_)
  obtain ⟨rfl, s15⟩ := hR
  clear r_a0_56
  refine ⟨_, rfl, fun a0_56 fa0_56 => ?_⟩
  clear fa0_55
  have r_a0_57 : (execOp a0_56.eval { dst := some 96, op := Op.unOp UnOp.not 4 (Operand.tmp 95), type := 4, pos := "law.go:117", after := #[{ on := 33, ground := Ground.data }, { on := 27, ground := Ground.guard }], guard := some (27, false) }).run Try.prog (W15) = .ok (.value (.bool false)) (W15) := by
    have e95 := (show a0_56.eval (.tmp 95) = .bool true from (fa0_56.at_ 95))
    clear fa0_56 hQ h2 h3 h5 h6 h7 h8 hl
    generalize a0_56.eval = ρ at *
    go_simp
  refine fa0_56.step 96 (.bool false) rfl (lb_ hsz) ((wanted_at (t := 89) (c := false) (b := false) rfl rfl rfl (lb_ (fa0_56.size.trans hsz)) (fa0_56.at_ 89)).trans (by rfl)) r_a0_57 (fun a0_57 fa0_57 => ?_)
  clear r_a0_57
  clear fa0_56
  have r_a0_58 : (execOp a0_57.eval { dst := some 97, op := Op.pick (Operand.tmp 89) (Operand.const (Value.bool true)) (Operand.tmp 96), type := 4, pos := "law.go:117", after := #[{ on := 27, ground := Ground.data }, { on := 34, ground := Ground.data }], guard := none }).run Try.prog (W15) = .ok (.value (.bool false)) (W15) := by
    have kc : ∀ v, a0_57.eval (.const v) = v := fun _ => rfl
    have e89 := (show a0_57.eval (.tmp 89) = .bool false from (fa0_57.at_ 89))
    have e96 := (show a0_57.eval (.tmp 96) = .bool false from (fa0_57.at_ 96))
    clear fa0_57 hQ h2 h3 h5 h6 h7 h8 hl
    generalize a0_57.eval = ρ at *
    go_simp
  refine fa0_57.step 97 (.bool false) rfl (lb_ hsz) (wanted_none rfl) r_a0_58 (fun a0_58 fa0_58 => ?_)
  clear r_a0_58
  clear fa0_57
  refine wpList_nil ?_
  have s_5 : Same wr W15 := s_4.trans s15
  have s_6 : Same W11 W15 := ((s12.trans s13).trans s14).trans s15
  change Code.wp _ _ _ _ _
  refine wp_cond_false (show a0_58.eval (.tmp 97) = .bool false from (fa0_58.at_ 97)) (wp_skip ?_)
  change Code.wp _ _ _ _ _
  refine wp_seq (wp_seq ?_)
  refine wp_region_list ?_
  unfold rFL8
  refine fa0_58.move 13 (.int .i64 ((0 : Nat) : Int)) _ (Or.inr rfl) rfl (lb_ hsz) (wanted_none rfl) rfl (fun a0_59 fa0_59 => ?_)
  clear fa0_58
  refine wpList_nil ?_
  change Code.wp _ _ _ _ _
  refine wp_block ?_
  have o9c := own_frameB o9b s_6 (fun _ _ f => f)
  have IB : IFL (.slice ow m cw) (.slice a11 m c11) a0_59 := ⟨fa0_59.size.trans hsz, fa0_59.defers.trans hd, (show a0_59.eval (.tmp 5) = .slice ow m cw from ((fa0_59.at_ 5).trans h5)), (show a0_59.eval (.tmp 11) = .slice a11 m c11 from (fa0_59.at_ 11))⟩
  refine flL1 a0_59 W15 IB (show a0_59.eval (.tmp 9) = .slice a9 m c9 from (fa0_59.at_ 9)) (show a0_59.eval (.tmp 13) = .int .i64 ((0 : Nat) : Int) from (fa0_59.at_ 13)) hm o9c (fun b W16 xs16 i16 b9 o16 f16 => ?_)
  change Code.wp _ _ _ _ _
  refine wp_seq (wp_seq ?_)
  have fb_0 := Fe.refl b
  refine wp_region_list ?_
  unfold rFL12
  refine fb_0.move 14 (.int .i64 ((0 : Nat) : Int)) _ (Or.inr rfl) rfl (lb_ i16.size) (wanted_none rfl) rfl (fun b_1 fb_1 => ?_)
  clear fb_0
  refine wpList_nil ?_
  change Code.wp _ _ _ _ _
  refine wp_block ?_
  have hz9 : wr.heap.size ≤ W16.heap.size := Nat.le_trans s_5.size f16.size
  refine flL2 b_1 W16 (i16.keep fb_1 rfl rfl) (show b_1.eval (.tmp 9) = .slice a9 m c9 from ((fb_1.at_ 9).trans b9)) (show b_1.eval (.tmp 14) = .int .i64 ((0 : Nat) : Int) from (fb_1.at_ 14)) hm hz9 o16 (fun d W17 a17 N c17 i17 d9 hN f17 => ?_)
  change Code.wp _ _ _ _ _
  have hNi : IntKind.i64.wrap ((m : Int) + 40) = (N : Int) := by rw [IntKind.wrap_i64]; omega
  clear hN
  have f18 : Fr (fun k => a9.map (·.block) = some k) W15 W17 := Fr.trans f16 f17 (fun k _ e => e)
  have hg9 : ∀ k, a9.map (·.block) = some k → wr.heap.size ≤ k ∧ k < W9.heap.size := fun k e => by
    cases a9 with
    | none => cases e
    | some z =>
      have e1 : z.block = k := by simpa using e
      have := own_ge o9
      omega
  have t18 : Same wr W17 := Fr.trans s_5 f18 (fun k hk e => by have := (hg9 k e).1; omega)
  have o11c := own_frameB o11 s_6 (fun _ _ f => f)
  have o11d := own_frameB o11c f18 (fun k hk e => by have h1 := (hg9 k e).2; have h2 := own_blk o11 k hk; omega)
  obtain ⟨h11, p11d⟩ := own_pgRow (l := l) (c := c11) (ao := a11) (hl ▸ o11d)
  have pwd := pw.same t18
  refine wp_seq ?_
  have fd_0 := Fe.refl d
  refine wp_region_list ?_
  unfold rFL16
  refine fd_0.move 116 (.slice a11 m c11) _ (Or.inl rfl) rfl (lb_ i17.size) (wanted_none rfl) ((fd_0.at_ 11).trans i17.s11) (fun d_1 fd_1 => ?_)
  clear fd_0
  refine fd_1.move 117 (.slice ow m cw) _ (Or.inl rfl) rfl (lb_ i17.size) (wanted_none rfl) ((fd_1.at_ 5).trans i17.s5) (fun d_2 fd_2 => ?_)
  clear fd_1
  have r_d_3 : (execOp d_2.eval { dst := some 118, op := Op.call { callee := Callee.value (Operand.func 17), args := #[Operand.tmp 116, Operand.tmp 117], argTypes := #[43, 43] }, type := 4, pos := "law.go:126", after := #[{ on := 0, ground := Ground.data }, { on := 1, ground := Ground.data }], guard := none }).run Try.prog (W17) = .ok (.enter 17 #[.slice a11 m c11, .slice ow m cw]) (W17) := by
    have kf : ∀ f, d_2.eval (.func f) = .func (.func f) #[] #[] := fun _ => rfl
    have e116 := (show d_2.eval (.tmp 116) = .slice a11 m c11 from (fd_2.at_ 116))
    have e117 := (show d_2.eval (.tmp 117) = .slice ow m cw from (fd_2.at_ 117))
    clear fd_2 hQ d9 hl
    generalize d_2.eval = ρ at *
    go_simp
  refine fd_2.call 118 rfl (lb_ i17.size) (wanted_none rfl) r_d_3 (samePg_true W17 p11d pwd hl (by omega)) (fun e W19 hR => ?_)
  obtain ⟨rfl, s19⟩ := hR
  clear r_d_3
  refine ⟨_, rfl, fun d_3 fd_3 => ?_⟩
  clear fd_2
  refine fd_3.move 119 (.bool true) _ (Or.inl rfl) rfl (lb_ i17.size) (wanted_none rfl) (fd_3.at_ 118) (fun d_4 fd_4 => ?_)
  clear fd_3
  refine fd_4.move 120 (.slice a17 N c17) _ (Or.inl rfl) rfl (lb_ i17.size) ((wanted_at (t := 119) (c := true) (b := true) rfl rfl rfl (lb_ (fd_4.size.trans i17.size)) (fd_4.at_ 119)).trans (by rfl)) ((fd_4.at_ 9).trans d9) (fun d_5 fd_5 => ?_)
  clear fd_4
  have r_d_6 : (execOp d_5.eval { dst := some 121, op := Op.call { callee := Callee.builtin Builtin.len, args := #[Operand.tmp 120], argTypes := #[43] }, type := 3, pos := "law.go:126", after := #[{ on := 4, ground := Ground.data }, { on := 3, ground := Ground.guard }], guard := some (3, true) }).run Try.prog (W19) = .ok (.value (.int .i64 (N : Int))) (W19) := by
    have e120 := (show d_5.eval (.tmp 120) = .slice a17 N c17 from (fd_5.at_ 120))
    clear fd_5 hQ d9 hl
    generalize d_5.eval = ρ at *
    go_simp
  refine fd_5.step 121 (.int .i64 (N : Int)) rfl (lb_ i17.size) ((wanted_at (t := 119) (c := true) (b := true) rfl rfl rfl (lb_ (fd_5.size.trans i17.size)) (fd_5.at_ 119)).trans (by rfl)) r_d_6 (fun d_6 fd_6 => ?_)
  clear r_d_6
  clear fd_5
  refine fd_6.move 122 (.slice ow m cw) _ (Or.inl rfl) rfl (lb_ i17.size) ((wanted_at (t := 119) (c := true) (b := true) rfl rfl rfl (lb_ (fd_6.size.trans i17.size)) (fd_6.at_ 119)).trans (by rfl)) ((fd_6.at_ 5).trans i17.s5) (fun d_7 fd_7 => ?_)
  clear fd_6
  have r_d_8 : (execOp d_7.eval { dst := some 123, op := Op.call { callee := Callee.builtin Builtin.len, args := #[Operand.tmp 122], argTypes := #[43] }, type := 3, pos := "law.go:126", after := #[{ on := 6, ground := Ground.data }, { on := 3, ground := Ground.guard }], guard := some (3, true) }).run Try.prog (W19) = .ok (.value (.int .i64 (m : Int))) (W19) := by
    have e122 := (show d_7.eval (.tmp 122) = .slice ow m cw from (fd_7.at_ 122))
    clear fd_7 hQ d9 hl
    generalize d_7.eval = ρ at *
    go_simp
  refine fd_7.step 123 (.int .i64 (m : Int)) rfl (lb_ i17.size) ((wanted_at (t := 119) (c := true) (b := true) rfl rfl rfl (lb_ (fd_7.size.trans i17.size)) (fd_7.at_ 119)).trans (by rfl)) r_d_8 (fun d_8 fd_8 => ?_)
  clear r_d_8
  clear fd_7
  have r_d_9 : (execOp d_8.eval { dst := some 124, op := Op.binOp BinOp.add 3 (Operand.tmp 123) (Operand.const (Value.int IntKind.i64 40)) 3, type := 3, pos := "law.go:126", after := #[{ on := 7, ground := Ground.data }, { on := 3, ground := Ground.guard }], guard := some (3, true) }).run Try.prog (W19) = .ok (.value (.int .i64 (N : Int))) (W19) := by
    have kc : ∀ v, d_8.eval (.const v) = v := fun _ => rfl
    have e123 := (show d_8.eval (.tmp 123) = .int .i64 (m : Int) from (fd_8.at_ 123))
    clear fd_8 hQ d9 hl
    generalize d_8.eval = ρ at *
    go_simp
  refine fd_8.step 124 (.int .i64 (N : Int)) rfl (lb_ i17.size) ((wanted_at (t := 119) (c := true) (b := true) rfl rfl rfl (lb_ (fd_8.size.trans i17.size)) (fd_8.at_ 119)).trans (by rfl)) r_d_9 (fun d_9 fd_9 => ?_)
  clear r_d_9
  clear fd_8
  have r_d_10 : (execOp d_9.eval { dst := some 125, op := Op.binOp BinOp.eql 3 (Operand.tmp 121) (Operand.tmp 124) 3, type := 4, pos := "law.go:126", after := #[{ on := 5, ground := Ground.data }, { on := 8, ground := Ground.data }, { on := 3, ground := Ground.guard }], guard := some (3, true) }).run Try.prog (W19) = .ok (.value (.bool true)) (W19) := by
    have e121 := (show d_9.eval (.tmp 121) = .int .i64 (N : Int) from (fd_9.at_ 121))
    have e124 := (show d_9.eval (.tmp 124) = .int .i64 (N : Int) from (fd_9.at_ 124))
    clear fd_9 hQ d9 hl
    generalize d_9.eval = ρ at *
    go_simp
  refine fd_9.step 125 (.bool true) rfl (lb_ i17.size) ((wanted_at (t := 119) (c := true) (b := true) rfl rfl rfl (lb_ (fd_9.size.trans i17.size)) (fd_9.at_ 119)).trans (by rfl)) r_d_10 (fun d_10 fd_10 => ?_)
  clear r_d_10
  clear fd_9
  have r_d_11 : (execOp d_10.eval { dst := some 126, op := Op.pick (Operand.tmp 119) (Operand.tmp 125) (Operand.const (Value.bool false)), type := 4, pos := "law.go:126", after := #[{ on := 3, ground := Ground.data }, { on := 9, ground := Ground.data }], guard := none }).run Try.prog (W19) = .ok (.value (.bool true)) (W19) := by
    have kc : ∀ v, d_10.eval (.const v) = v := fun _ => rfl
    have e119 := (show d_10.eval (.tmp 119) = .bool true from (fd_10.at_ 119))
    have e125 := (show d_10.eval (.tmp 125) = .bool true from (fd_10.at_ 125))
    clear fd_10 hQ d9 hl
    generalize d_10.eval = ρ at *
    go_simp
  refine fd_10.step 126 (.bool true) rfl (lb_ i17.size) (wanted_none rfl) r_d_11 (fun d_11 fd_11 => ?_)
  clear r_d_11
  clear fd_10
  refine fd_11.move 127 (.bool true) _ (Or.inl rfl) rfl (lb_ i17.size) (wanted_none rfl) (fd_11.at_ 126) (fun d_12 fd_12 => ?_)
  clear fd_11
  have r_d_13 : (execOp d_12.eval { dst := some 128, op := Op.call { callee := Callee.value (Operand.func 14), args := #[], argTypes := #[] }, type := 4, pos := "law.go:126", after := #[{ on := 11, ground := Ground.chain }, { on := 11, ground := Ground.guard }], guard := some (11, true) }).run Try.prog (W19) = .ok (.enter 14 #[]) (W19) := by
    have kf : ∀ f, d_12.eval (.func f) = .func (.func f) #[] #[] := fun _ => rfl
    clear fd_12 hQ d9 hl
    generalize d_12.eval = ρ at *
    go_simp
  refine fd_12.call 128 rfl (lb_ i17.size) ((wanted_at (t := 127) (c := true) (b := true) rfl rfl rfl (lb_ (fd_12.size.trans i17.size)) (fd_12.at_ 127)).trans (by rfl)) r_d_13 (ka W19) (fun e W20 hR => ?_)
  obtain ⟨rfl, s20⟩ := hR
  clear r_d_13
  refine ⟨_, rfl, fun d_13 fd_13 => ?_⟩
  clear fd_12
  have r_d_14 : (execOp d_13.eval { dst := some 129, op := Op.pick (Operand.tmp 127) (Operand.tmp 128) (Operand.const (Value.bool false)), type := 4, pos := "law.go:126", after := #[{ on := 11, ground := Ground.data }, { on := 12, ground := Ground.data }], guard := none }).run Try.prog (W20) = .ok (.value (.bool true)) (W20) := by
    have kc : ∀ v, d_13.eval (.const v) = v := fun _ => rfl
    have e127 := (show d_13.eval (.tmp 127) = .bool true from (fd_13.at_ 127))
    have e128 := (show d_13.eval (.tmp 128) = .bool true from (fd_13.at_ 128))
    clear fd_13 hQ d9 hl
    generalize d_13.eval = ρ at *
    go_simp
  refine fd_13.step 129 (.bool true) rfl (lb_ i17.size) (wanted_none rfl) r_d_14 (fun d_14 fd_14 => ?_)
  clear r_d_14
  clear fd_13
  refine fd_14.move 4 (.bool true) _ (Or.inr rfl) rfl (lb_ i17.size) (wanted_none rfl) (fd_14.at_ 129) (fun d_15 fd_15 => ?_)
  clear fd_14
  refine wpList_nil ?_
  change Code.wp _ _ _ _ _
  refine wp_ret ?_
  exact hQ d_15 W20 (fd_15.defers.trans i17.defers) (show d_15.eval (.tmp 4) = .bool true from (fd_15.at_ 4)) ((t18.trans s19).trans s20)
end Go.Proofs.Ytneopkhkkfckcaa
