/- DiskSafe: its first loop, over the script. -/
import Derived.Test.YtjiaepeglghheaaPK
namespace Go.Proofs.Ytjiaepeglghheaa
open Go.RowKit

def oPL0 : Oper := { dst := some 43, op := Op.call { callee := Callee.builtin Builtin.len, args := #[Operand.tmp 42], argTypes := #[23] }, type := 3, pos := "outright.go:92", after := #[{ on := 1, ground := Ground.data }], guard := none }
def oPL1 : Oper := { dst := some 44, op := Op.binOp BinOp.lss 3 (Operand.tmp 41) (Operand.tmp 43) 3, type := 4, pos := "outright.go:92", after := #[{ on := 0, ground := Ground.data }, { on := 2, ground := Ground.data }], guard := none }
def oPL2 : Oper := { dst := some 46, op := Op.binOp BinOp.add 3 (Operand.tmp 45) (Operand.const (Value.int IntKind.i64 1)) 3, type := 3, pos := "outright.go:92", after := #[{ on := 0, ground := Ground.data }], guard := none }
def oPL3 : Oper := { dst := some 49, op := Op.indexAddr 23 (Operand.tmp 47) (Operand.tmp 48), type := 0, pos := "outright.go:93", after := #[{ on := 0, ground := Ground.data }, { on := 1, ground := Ground.data }], guard := none }
def oPL4 : Oper := { dst := some 50, op := Op.load 35 (Operand.tmp 49), type := 35, pos := "outright.go:93", after := #[{ on := 2, ground := Ground.data }], guard := none }
def oPL5 : Oper := { dst := some 10, op := Op.alloc 35, type := 0, pos := "outright.go:93", after := #[], guard := none }
def oPL6 : Oper := { dst := none, op := Op.store 35 (Operand.tmp 10) (Operand.tmp 50), type := 0, pos := "outright.go:93", after := #[{ on := 4, ground := Ground.data }, { on := 3, ground := Ground.data }, { on := 0, ground := Ground.phase }, { on := 1, ground := Ground.phase }, { on := 2, ground := Ground.phase }, { on := 3, ground := Ground.phase }, { on := 4, ground := Ground.phase }], guard := none }
def oPL7 : Oper := { dst := some 52, op := Op.load 35 (Operand.tmp 10), type := 35, pos := "outright.go:94", after := #[], guard := none }
def oPL8 : Oper := { dst := some 53, op := Op.call { callee := Callee.value (Operand.func 9), args := #[Operand.tmp 51, Operand.tmp 52], argTypes := #[24, 35] }, type := 4, pos := "outright.go:94", after := #[{ on := 0, ground := Ground.data }, { on := 1, ground := Ground.data }], guard := none }
def oPL9 : Oper := { dst := some 54, op := Op.fieldAddr 35 (Operand.tmp 10) 0, type := 0, pos := "outright.go:95", after := #[], guard := none }
def oPL10 : Oper := { dst := some 55, op := Op.load 3 (Operand.tmp 54), type := 3, pos := "outright.go:95", after := #[{ on := 0, ground := Ground.data }], guard := none }
def oPL11 : Oper := { dst := some 56, op := Op.binOp BinOp.eql 3 (Operand.tmp 55) (Operand.const (Value.int IntKind.i64 3)) 3, type := 4, pos := "outright.go:95", after := #[{ on := 1, ground := Ground.data }], guard := none }
def oPL12 : Oper := { dst := some 58, op := Op.unOp UnOp.not 4 (Operand.tmp 57), type := 4, pos := "outright.go:96", after := #[{ on := 0, ground := Ground.data }], guard := none }
def oPL13 : Oper := { dst := some 60, op := Op.call { callee := Callee.value (Operand.func 13), args := #[Operand.tmp 59], argTypes := #[24] }, type := 40, pos := "outright.go:99", after := #[{ on := 0, ground := Ground.data }], guard := none }
def oPL14 : Oper := { dst := some 61, op := Op.makeSlice 50 (Operand.const (Value.int IntKind.i64 8)) (Operand.const (Value.int IntKind.i64 8)), type := 50, pos := "outright.go:100", after := #[], guard := none }
def oPL15 : Oper := { dst := some 62, op := Op.fieldAddr 35 (Operand.tmp 10) 0, type := 0, pos := "outright.go:102", after := #[], guard := none }
def oPL16 : Oper := { dst := some 63, op := Op.load 3 (Operand.tmp 62), type := 3, pos := "outright.go:102", after := #[{ on := 0, ground := Ground.data }], guard := none }
def oPL17 : Oper := { dst := some 64, op := Op.binOp BinOp.eql 3 (Operand.tmp 63) (Operand.const (Value.int IntKind.i64 1)) 3, type := 4, pos := "outright.go:102", after := #[{ on := 1, ground := Ground.data }], guard := none }
def oPL18 : Oper := { dst := some 67, op := Op.pick (Operand.tmp 65) (Operand.tmp 66) (Operand.const (Value.bool false)), type := 4, pos := "outright.go:102", after := #[{ on := 3, ground := Ground.data }, { on := 4, ground := Ground.data }], guard := none }
def oPL19 : Oper := { dst := some 68, op := Op.fieldAddr 35 (Operand.tmp 10) 2, type := 0, pos := "outright.go:103", after := #[], guard := none }
def oPL20 : Oper := { dst := some 69, op := Op.load 29 (Operand.tmp 68), type := 29, pos := "outright.go:103", after := #[{ on := 0, ground := Ground.data }], guard := none }
def oPL21 : Oper := { dst := some 70, op := Op.binOp BinOp.rem 29 (Operand.tmp 69) (Operand.const (Value.int IntKind.u32 8)) 29, type := 29, pos := "outright.go:103", after := #[{ on := 1, ground := Ground.data }], guard := none }
def oPL22 : Oper := { dst := some 71, op := Op.convert 29 3 (Operand.tmp 70), type := 3, pos := "outright.go:103", after := #[{ on := 2, ground := Ground.data }], guard := none }
def oPL23 : Oper := { dst := some 72, op := Op.move (Operand.tmp 8), type := 50, pos := "outright.go:104", after := #[], guard := none }
def oPL24 : Oper := { dst := some 73, op := Op.move (Operand.tmp 12), type := 3, pos := "outright.go:104", after := #[], guard := none }
def oPL25 : Oper := { dst := some 74, op := Op.move (Operand.tmp 8), type := 50, pos := "outright.go:104", after := #[], guard := none }
def oPL26 : Oper := { dst := some 75, op := Op.move (Operand.tmp 12), type := 3, pos := "outright.go:104", after := #[], guard := none }
def oPL27 : Oper := { dst := some 76, op := Op.indexAddr 50 (Operand.tmp 74) (Operand.tmp 75), type := 0, pos := "outright.go:104", after := #[{ on := 2, ground := Ground.data }, { on := 3, ground := Ground.data }], guard := none }
def oPL28 : Oper := { dst := some 77, op := Op.load 40 (Operand.tmp 76), type := 40, pos := "outright.go:104", after := #[{ on := 4, ground := Ground.data }], guard := none }
def oPL29 : Oper := { dst := some 78, op := Op.fieldAddr 35 (Operand.tmp 10) 4, type := 0, pos := "outright.go:104", after := #[], guard := none }
def oPL30 : Oper := { dst := some 79, op := Op.load 31 (Operand.tmp 78), type := 31, pos := "outright.go:104", after := #[{ on := 6, ground := Ground.data }], guard := none }
def oPL31 : Oper := { dst := some 80, op := Op.call { callee := Callee.value (Operand.func 19), args := #[Operand.tmp 79, Operand.const (Value.int IntKind.i64 1024)], argTypes := #[31, 3] }, type := 9, pos := "outright.go:104", after := #[{ on := 7, ground := Ground.data }], guard := none }
def oPL32 : Oper := { dst := some 81, op := Op.buildSlice 40 1 #[(0, Operand.tmp 80)], type := 40, pos := "outright.go:104", after := #[{ on := 8, ground := Ground.data }], guard := none }
def oPL33 : Oper := { dst := some 82, op := Op.call { callee := Callee.builtin Builtin.append, args := #[Operand.tmp 77, Operand.tmp 81], argTypes := #[40, 40] }, type := 40, pos := "outright.go:104", after := #[{ on := 5, ground := Ground.data }, { on := 9, ground := Ground.data }, { on := 8, ground := Ground.chain }], guard := none }
def oPL34 : Oper := { dst := some 83, op := Op.indexAddr 50 (Operand.tmp 72) (Operand.tmp 73), type := 0, pos := "outright.go:104", after := #[{ on := 0, ground := Ground.data }, { on := 1, ground := Ground.data }, { on := 0, ground := Ground.phase }, { on := 1, ground := Ground.phase }, { on := 2, ground := Ground.phase }, { on := 3, ground := Ground.phase }, { on := 4, ground := Ground.phase }, { on := 5, ground := Ground.phase }, { on := 6, ground := Ground.phase }, { on := 7, ground := Ground.phase }, { on := 8, ground := Ground.phase }, { on := 9, ground := Ground.phase }, { on := 10, ground := Ground.phase }], guard := none }
def oPL35 : Oper := { dst := none, op := Op.store 40 (Operand.tmp 83) (Operand.tmp 82), type := 0, pos := "outright.go:104", after := #[{ on := 11, ground := Ground.data }, { on := 10, ground := Ground.data }, { on := 10, ground := Ground.chain }, { on := 0, ground := Ground.phase }, { on := 1, ground := Ground.phase }, { on := 2, ground := Ground.phase }, { on := 3, ground := Ground.phase }, { on := 4, ground := Ground.phase }, { on := 5, ground := Ground.phase }, { on := 6, ground := Ground.phase }, { on := 7, ground := Ground.phase }, { on := 8, ground := Ground.phase }, { on := 9, ground := Ground.phase }, { on := 10, ground := Ground.phase }], guard := none }
def rPL0 : Array Oper := #[{ dst := some 4, op := Op.assign (Operand.const (Value.bool false)), type := 4, pos := "outright.go:85", after := #[], guard := none }]
def rPL1 : Array Oper := #[{ dst := some 27, op := Op.call { callee := Callee.value (Operand.func 8), args := #[Operand.const (Value.int IntKind.i64 1024), Operand.const (Value.int IntKind.i64 8)], argTypes := #[3, 3] }, type := 26, pos := "outright.go:86", after := #[], guard := none },
  { dst := some 26, op := Op.move (Operand.tmp 27), type := 26, pos := "outright.go:86", after := #[{ on := 0, ground := Ground.data }], guard := none },
  { dst := some 28, op := Op.extract (Operand.tmp 26) 0, type := 24, pos := "outright.go:86", after := #[{ on := 1, ground := Ground.data }], guard := none },
  { dst := some 29, op := Op.extract (Operand.tmp 26) 1, type := 25, pos := "outright.go:86", after := #[{ on := 1, ground := Ground.data }, { on := 4, ground := Ground.gcOnly Go.Departure.lateStores }], guard := none },
  { dst := some 5, op := Op.assign (Operand.tmp 28), type := 24, pos := "outright.go:86", after := #[{ on := 2, ground := Ground.data }, { on := 0, ground := Ground.chain }, { on := 0, ground := Ground.phase }, { on := 1, ground := Ground.phase }, { on := 2, ground := Ground.phase }, { on := 3, ground := Ground.textOnly Go.Departure.lateStores }], guard := none },
  { dst := some 6, op := Op.assign (Operand.tmp 29), type := 25, pos := "outright.go:86", after := #[{ on := 3, ground := Ground.data }, { on := 4, ground := Ground.chain }, { on := 0, ground := Ground.phase }, { on := 1, ground := Ground.phase }, { on := 2, ground := Ground.phase }, { on := 3, ground := Ground.phase }, { on := 4, ground := Ground.phase }], guard := none }]
def rPL2 : Array Oper := #[{ dst := some 30, op := Op.move (Operand.tmp 6), type := 25, pos := "outright.go:87", after := #[], guard := none },
  { dst := some 31, op := Op.binOp BinOp.neq 25 (Operand.tmp 30) (Operand.const (Value.int IntKind.i64 0)) 25, type := 4, pos := "outright.go:87", after := #[{ on := 0, ground := Ground.data }], guard := none },
  { dst := some 32, op := Op.move (Operand.tmp 31), type := 4, pos := "outright.go:87", after := #[{ on := 1, ground := Ground.data }], guard := none },
  { dst := some 33, op := Op.move (Operand.tmp 5), type := 24, pos := "outright.go:87", after := #[{ on := 2, ground := Ground.guard }], guard := some (2, false) },
  { dst := some 34, op := Op.binOp BinOp.eql 24 (Operand.tmp 33) (Operand.const (Value.pointer none)) 24, type := 4, pos := "outright.go:87", after := #[{ on := 3, ground := Ground.data }, { on := 2, ground := Ground.guard }], guard := some (2, false) },
  { dst := some 35, op := Op.pick (Operand.tmp 32) (Operand.const (Value.bool true)) (Operand.tmp 34), type := 4, pos := "outright.go:87", after := #[{ on := 2, ground := Ground.data }, { on := 4, ground := Ground.data }], guard := none },
  { dst := some 36, op := Op.move (Operand.tmp 35), type := 4, pos := "outright.go:87", after := #[{ on := 5, ground := Ground.data }, { on := 2, ground := Ground.chain }], guard := none },
  { dst := some 37, op := Op.call { callee := Callee.value (Operand.func 7), args := #[], argTypes := #[] }, type := 4, pos := "outright.go:87", after := #[{ on := 6, ground := Ground.chain }, { on := 6, ground := Ground.guard }], guard := some (6, false) },
  { dst := some 38, op := Op.unOp UnOp.not 4 (Operand.tmp 37), type := 4, pos := "outright.go:87", after := #[{ on := 7, ground := Ground.data }, { on := 6, ground := Ground.guard }], guard := some (6, false) },
  { dst := some 39, op := Op.pick (Operand.tmp 36) (Operand.const (Value.bool true)) (Operand.tmp 38), type := 4, pos := "outright.go:87", after := #[{ on := 6, ground := Ground.data }, { on := 8, ground := Ground.data }], guard := none }]
def rPL3 : Array Oper := #[{ dst := some 4, op := Op.assign (Operand.const (Value.bool false)), type := 4, pos := "outright.go:88", after := #[], guard := none }]
def rPL4 : Array Oper := #[{ dst := some 7, op := Op.assign (Operand.const (Value.slice none 0 0)), type := 40, pos := "outright.go:90", after := #[], guard := none }]
def rPL5 : Array Oper := #[{ dst := some 40, op := Op.makeSlice 50 (Operand.const (Value.int IntKind.i64 8)) (Operand.const (Value.int IntKind.i64 8)), type := 50, pos := "outright.go:91", after := #[], guard := none },
  { dst := some 8, op := Op.assign (Operand.tmp 40), type := 50, pos := "outright.go:91", after := #[{ on := 0, ground := Ground.data }, { on := 0, ground := Ground.phase }], guard := none }]
def rPL6 : Array Oper := #[{ dst := some 9, op := Op.assign (Operand.const (Value.int IntKind.i64 0)), type := 3, pos := "outright.go:92", after := #[], guard := none }]
def rPL7 : Array Oper := #[{ dst := some 41, op := Op.move (Operand.tmp 9), type := 3, pos := "outright.go:92", after := #[], guard := none },
  { dst := some 42, op := Op.move (Operand.tmp 0), type := 23, pos := "outright.go:92", after := #[], guard := none },
  oPL0,
  oPL1]
def rPL8 : Array Oper := #[{ dst := some 45, op := Op.move (Operand.tmp 9), type := 3, pos := "outright.go:92", after := #[], guard := none },
  oPL2,
  { dst := some 9, op := Op.assign (Operand.tmp 46), type := 3, pos := "outright.go:92", after := #[{ on := 1, ground := Ground.data }, { on := 0, ground := Ground.phase }, { on := 1, ground := Ground.phase }], guard := none }]
def rPL9 : Array Oper := #[{ dst := some 47, op := Op.move (Operand.tmp 0), type := 23, pos := "outright.go:93", after := #[], guard := none },
  { dst := some 48, op := Op.move (Operand.tmp 9), type := 3, pos := "outright.go:93", after := #[], guard := none },
  oPL3,
  oPL4,
  oPL5,
  oPL6]
def rPL10 : Array Oper := #[{ dst := some 51, op := Op.move (Operand.tmp 5), type := 24, pos := "outright.go:94", after := #[], guard := none },
  oPL7,
  oPL8,
  { dst := some 11, op := Op.assign (Operand.tmp 53), type := 4, pos := "outright.go:94", after := #[{ on := 2, ground := Ground.data }, { on := 2, ground := Ground.chain }, { on := 0, ground := Ground.phase }, { on := 1, ground := Ground.phase }, { on := 2, ground := Ground.phase }], guard := none }]
def rPL11 : Array Oper := #[oPL9,
  oPL10,
  oPL11]
def rPL12 : Array Oper := #[{ dst := some 57, op := Op.move (Operand.tmp 11), type := 4, pos := "outright.go:96", after := #[], guard := none },
  oPL12]
def rPL13 : Array Oper := #[{ dst := some 4, op := Op.assign (Operand.const (Value.bool false)), type := 4, pos := "outright.go:97", after := #[], guard := none }]
def rPL14 : Array Oper := #[{ dst := some 59, op := Op.move (Operand.tmp 5), type := 24, pos := "outright.go:99", after := #[], guard := none },
  oPL13,
  { dst := some 7, op := Op.assign (Operand.tmp 60), type := 40, pos := "outright.go:99", after := #[{ on := 1, ground := Ground.data }, { on := 1, ground := Ground.chain }, { on := 0, ground := Ground.phase }, { on := 1, ground := Ground.phase }], guard := none }]
def rPL15 : Array Oper := #[oPL14,
  { dst := some 8, op := Op.assign (Operand.tmp 61), type := 50, pos := "outright.go:100", after := #[{ on := 0, ground := Ground.data }, { on := 0, ground := Ground.phase }], guard := none }]
def rPL16 : Array Oper := #[oPL15,
  oPL16,
  oPL17,
  { dst := some 65, op := Op.move (Operand.tmp 64), type := 4, pos := "outright.go:102", after := #[{ on := 2, ground := Ground.data }], guard := none },
  { dst := some 66, op := Op.move (Operand.tmp 11), type := 4, pos := "outright.go:102", after := #[{ on := 3, ground := Ground.guard }], guard := some (3, true) },
  oPL18]
def rPL17 : Array Oper := #[oPL19,
  oPL20,
  oPL21,
  oPL22,
  { dst := some 12, op := Op.assign (Operand.tmp 71), type := 3, pos := "outright.go:103", after := #[{ on := 3, ground := Ground.data }, { on := 0, ground := Ground.phase }, { on := 1, ground := Ground.phase }, { on := 2, ground := Ground.phase }, { on := 3, ground := Ground.phase }], guard := none }]
def rPL18 : Array Oper := #[oPL23,
  oPL24,
  oPL25,
  oPL26,
  oPL27,
  oPL28,
  oPL29,
  oPL30,
  oPL31,
  oPL32,
  oPL33,
  oPL34,
  oPL35]
def rPL19 : Array Oper := #[{ dst := some 84, op := Op.move (Operand.tmp 5), type := 24, pos := "outright.go:107", after := #[], guard := none },
  { dst := some 85, op := Op.call { callee := Callee.value (Operand.func 13), args := #[Operand.tmp 84], argTypes := #[24] }, type := 40, pos := "outright.go:107", after := #[{ on := 0, ground := Ground.data }], guard := none },
  { dst := some 13, op := Op.assign (Operand.tmp 85), type := 40, pos := "outright.go:107", after := #[{ on := 1, ground := Ground.data }, { on := 1, ground := Ground.chain }, { on := 0, ground := Ground.phase }, { on := 1, ground := Ground.phase }], guard := none }]
def rPL20 : Array Oper := #[{ dst := some 86, op := Op.move (Operand.tmp 5), type := 24, pos := "outright.go:108", after := #[], guard := none },
  { dst := some 87, op := Op.call { callee := Callee.value (Operand.func 16), args := #[Operand.tmp 86], argTypes := #[24] }, type := 46, pos := "outright.go:108", after := #[{ on := 0, ground := Ground.data }], guard := none },
  { dst := some 14, op := Op.assign (Operand.tmp 87), type := 46, pos := "outright.go:108", after := #[{ on := 1, ground := Ground.data }, { on := 1, ground := Ground.chain }, { on := 0, ground := Ground.phase }, { on := 1, ground := Ground.phase }], guard := none }]
def rPL21 : Array Oper := #[{ dst := some 88, op := Op.move (Operand.tmp 5), type := 24, pos := "outright.go:109", after := #[], guard := none },
  { dst := some 89, op := Op.call { callee := Callee.value (Operand.func 10), args := #[Operand.tmp 88], argTypes := #[24] }, type := 24, pos := "outright.go:109", after := #[{ on := 0, ground := Ground.data }], guard := none },
  { dst := some 90, op := Op.move (Operand.tmp 5), type := 24, pos := "outright.go:109", after := #[], guard := none },
  { dst := some 91, op := Op.call { callee := Callee.value (Operand.func 10), args := #[Operand.tmp 90], argTypes := #[24] }, type := 24, pos := "outright.go:109", after := #[{ on := 2, ground := Ground.data }, { on := 1, ground := Ground.chain }], guard := none },
  { dst := some 15, op := Op.assign (Operand.tmp 89), type := 24, pos := "outright.go:109", after := #[{ on := 1, ground := Ground.data }, { on := 3, ground := Ground.chain }, { on := 0, ground := Ground.phase }, { on := 1, ground := Ground.phase }, { on := 2, ground := Ground.textOnly Go.Departure.lateStores }, { on := 3, ground := Ground.textOnly Go.Departure.lateStoresUnsure }], guard := none },
  { dst := some 16, op := Op.assign (Operand.tmp 91), type := 24, pos := "outright.go:109", after := #[{ on := 3, ground := Ground.data }, { on := 4, ground := Ground.chain }, { on := 0, ground := Ground.phase }, { on := 1, ground := Ground.phase }, { on := 2, ground := Ground.phase }, { on := 3, ground := Ground.phase }, { on := 4, ground := Ground.phase }], guard := none }]
def rPL22 : Array Oper := #[{ dst := some 92, op := Op.move (Operand.tmp 15), type := 24, pos := "outright.go:110", after := #[], guard := none },
  { dst := some 93, op := Op.binOp BinOp.eql 24 (Operand.tmp 92) (Operand.const (Value.pointer none)) 24, type := 4, pos := "outright.go:110", after := #[{ on := 0, ground := Ground.data }], guard := none },
  { dst := some 94, op := Op.move (Operand.tmp 93), type := 4, pos := "outright.go:110", after := #[{ on := 1, ground := Ground.data }], guard := none },
  { dst := some 95, op := Op.move (Operand.tmp 16), type := 24, pos := "outright.go:110", after := #[{ on := 2, ground := Ground.guard }], guard := some (2, false) },
  { dst := some 96, op := Op.binOp BinOp.eql 24 (Operand.tmp 95) (Operand.const (Value.pointer none)) 24, type := 4, pos := "outright.go:110", after := #[{ on := 3, ground := Ground.data }, { on := 2, ground := Ground.guard }], guard := some (2, false) },
  { dst := some 97, op := Op.pick (Operand.tmp 94) (Operand.const (Value.bool true)) (Operand.tmp 96), type := 4, pos := "outright.go:110", after := #[{ on := 2, ground := Ground.data }, { on := 4, ground := Ground.data }], guard := none },
  { dst := some 98, op := Op.move (Operand.tmp 97), type := 4, pos := "outright.go:110", after := #[{ on := 5, ground := Ground.data }, { on := 2, ground := Ground.chain }], guard := none },
  { dst := some 99, op := Op.move (Operand.tmp 15), type := 24, pos := "outright.go:110", after := #[{ on := 6, ground := Ground.guard }], guard := some (6, false) },
  { dst := some 100, op := Op.call { callee := Callee.value (Operand.func 11), args := #[Operand.tmp 99, Operand.const (Value.slice none 0 0)], argTypes := #[24, 33] }, type := 25, pos := "outright.go:110", after := #[{ on := 7, ground := Ground.data }, { on := 6, ground := Ground.chain }, { on := 6, ground := Ground.guard }], guard := some (6, false) },
  { dst := some 101, op := Op.binOp BinOp.neq 25 (Operand.tmp 100) (Operand.const (Value.int IntKind.i64 0)) 25, type := 4, pos := "outright.go:110", after := #[{ on := 8, ground := Ground.data }, { on := 6, ground := Ground.guard }], guard := some (6, false) },
  { dst := some 102, op := Op.pick (Operand.tmp 98) (Operand.const (Value.bool true)) (Operand.tmp 101), type := 4, pos := "outright.go:110", after := #[{ on := 6, ground := Ground.data }, { on := 9, ground := Ground.data }], guard := none },
  { dst := some 103, op := Op.move (Operand.tmp 102), type := 4, pos := "outright.go:110", after := #[{ on := 10, ground := Ground.data }, { on := 8, ground := Ground.chain }], guard := none },
  { dst := some 104, op := Op.move (Operand.tmp 15), type := 24, pos := "outright.go:110", after := #[{ on := 11, ground := Ground.guard }], guard := some (11, false) },
  { dst := some 105, op := Op.call { callee := Callee.value (Operand.func 14), args := #[Operand.tmp 104], argTypes := #[24] }, type := 40, pos := "outright.go:110", after := #[{ on := 12, ground := Ground.data }, { on := 11, ground := Ground.chain }, { on := 11, ground := Ground.guard }], guard := some (11, false) },
  { dst := some 106, op := Op.move (Operand.tmp 7), type := 40, pos := "outright.go:110", after := #[{ on := 11, ground := Ground.guard }], guard := some (11, false) },
  { dst := some 107, op := Op.call { callee := Callee.value (Operand.func 12), args := #[Operand.tmp 105, Operand.tmp 106], argTypes := #[40, 40] }, type := 4, pos := "outright.go:110", after := #[{ on := 13, ground := Ground.data }, { on := 14, ground := Ground.data }, { on := 13, ground := Ground.chain }, { on := 11, ground := Ground.guard }], guard := some (11, false) },
  { dst := some 108, op := Op.unOp UnOp.not 4 (Operand.tmp 107), type := 4, pos := "outright.go:110", after := #[{ on := 15, ground := Ground.data }, { on := 11, ground := Ground.guard }], guard := some (11, false) },
  { dst := some 109, op := Op.pick (Operand.tmp 103) (Operand.const (Value.bool true)) (Operand.tmp 108), type := 4, pos := "outright.go:110", after := #[{ on := 11, ground := Ground.data }, { on := 16, ground := Ground.data }], guard := none }]
def rPL23 : Array Oper := #[{ dst := some 4, op := Op.assign (Operand.const (Value.bool false)), type := 4, pos := "outright.go:111", after := #[], guard := none }]
def rPL24 : Array Oper := #[{ dst := some 17, op := Op.assign (Operand.const (Value.slice none 0 0)), type := 33, pos := "outright.go:113", after := #[], guard := none }]
def rPL25 : Array Oper := #[{ dst := some 18, op := Op.assign (Operand.const (Value.int IntKind.i64 0)), type := 3, pos := "outright.go:114", after := #[], guard := none }]
def rPL26 : Array Oper := #[{ dst := some 110, op := Op.move (Operand.tmp 18), type := 3, pos := "outright.go:114", after := #[], guard := none },
  { dst := some 111, op := Op.move (Operand.tmp 14), type := 46, pos := "outright.go:114", after := #[], guard := none },
  { dst := some 112, op := Op.call { callee := Callee.builtin Builtin.len, args := #[Operand.tmp 111], argTypes := #[46] }, type := 3, pos := "outright.go:114", after := #[{ on := 1, ground := Ground.data }], guard := none },
  { dst := some 113, op := Op.binOp BinOp.lss 3 (Operand.tmp 110) (Operand.tmp 112) 3, type := 4, pos := "outright.go:114", after := #[{ on := 0, ground := Ground.data }, { on := 2, ground := Ground.data }], guard := none }]
def rPL27 : Array Oper := #[{ dst := some 114, op := Op.move (Operand.tmp 18), type := 3, pos := "outright.go:114", after := #[], guard := none },
  { dst := some 115, op := Op.binOp BinOp.add 3 (Operand.tmp 114) (Operand.const (Value.int IntKind.i64 1)) 3, type := 3, pos := "outright.go:114", after := #[{ on := 0, ground := Ground.data }], guard := none },
  { dst := some 18, op := Op.assign (Operand.tmp 115), type := 3, pos := "outright.go:114", after := #[{ on := 1, ground := Ground.data }, { on := 0, ground := Ground.phase }, { on := 1, ground := Ground.phase }], guard := none }]
def rPL28 : Array Oper := #[{ dst := some 116, op := Op.move (Operand.tmp 17), type := 33, pos := "outright.go:115", after := #[], guard := none },
  { dst := some 117, op := Op.buildSlice 33 1 #[(0, Operand.const (Value.int IntKind.u8 255))], type := 33, pos := "outright.go:115", after := #[], guard := none },
  { dst := some 118, op := Op.call { callee := Callee.builtin Builtin.append, args := #[Operand.tmp 116, Operand.tmp 117], argTypes := #[33, 33] }, type := 33, pos := "outright.go:115", after := #[{ on := 0, ground := Ground.data }, { on := 1, ground := Ground.data }], guard := none },
  { dst := some 17, op := Op.assign (Operand.tmp 118), type := 33, pos := "outright.go:115", after := #[{ on := 2, ground := Ground.data }, { on := 2, ground := Ground.chain }, { on := 0, ground := Ground.phase }, { on := 1, ground := Ground.phase }, { on := 2, ground := Ground.phase }], guard := none }]
def rPL29 : Array Oper := #[{ dst := some 119, op := Op.move (Operand.tmp 16), type := 24, pos := "outright.go:117", after := #[], guard := none },
  { dst := some 120, op := Op.move (Operand.tmp 17), type := 33, pos := "outright.go:117", after := #[], guard := none },
  { dst := some 121, op := Op.call { callee := Callee.value (Operand.func 11), args := #[Operand.tmp 119, Operand.tmp 120], argTypes := #[24, 33] }, type := 25, pos := "outright.go:117", after := #[{ on := 0, ground := Ground.data }, { on := 1, ground := Ground.data }], guard := none },
  { dst := some 122, op := Op.binOp BinOp.neq 25 (Operand.tmp 121) (Operand.const (Value.int IntKind.i64 0)) 25, type := 4, pos := "outright.go:117", after := #[{ on := 2, ground := Ground.data }], guard := none },
  { dst := some 123, op := Op.move (Operand.tmp 122), type := 4, pos := "outright.go:117", after := #[{ on := 3, ground := Ground.data }, { on := 2, ground := Ground.chain }], guard := none },
  { dst := some 124, op := Op.move (Operand.tmp 16), type := 24, pos := "outright.go:117", after := #[{ on := 4, ground := Ground.guard }], guard := some (4, false) },
  { dst := some 125, op := Op.call { callee := Callee.value (Operand.func 14), args := #[Operand.tmp 124], argTypes := #[24] }, type := 40, pos := "outright.go:117", after := #[{ on := 5, ground := Ground.data }, { on := 4, ground := Ground.chain }, { on := 4, ground := Ground.guard }], guard := some (4, false) },
  { dst := some 126, op := Op.move (Operand.tmp 13), type := 40, pos := "outright.go:117", after := #[{ on := 4, ground := Ground.guard }], guard := some (4, false) },
  { dst := some 127, op := Op.call { callee := Callee.value (Operand.func 12), args := #[Operand.tmp 125, Operand.tmp 126], argTypes := #[40, 40] }, type := 4, pos := "outright.go:117", after := #[{ on := 6, ground := Ground.data }, { on := 7, ground := Ground.data }, { on := 6, ground := Ground.chain }, { on := 4, ground := Ground.guard }], guard := some (4, false) },
  { dst := some 128, op := Op.unOp UnOp.not 4 (Operand.tmp 127), type := 4, pos := "outright.go:117", after := #[{ on := 8, ground := Ground.data }, { on := 4, ground := Ground.guard }], guard := some (4, false) },
  { dst := some 129, op := Op.pick (Operand.tmp 123) (Operand.const (Value.bool true)) (Operand.tmp 128), type := 4, pos := "outright.go:117", after := #[{ on := 4, ground := Ground.data }, { on := 9, ground := Ground.data }], guard := none },
  { dst := some 130, op := Op.move (Operand.tmp 129), type := 4, pos := "outright.go:117", after := #[{ on := 10, ground := Ground.data }, { on := 8, ground := Ground.chain }], guard := none },
  { dst := some 131, op := Op.move (Operand.tmp 5), type := 24, pos := "outright.go:117", after := #[{ on := 11, ground := Ground.guard }], guard := some (11, false) },
  { dst := some 132, op := Op.move (Operand.tmp 1), type := 33, pos := "outright.go:117", after := #[{ on := 11, ground := Ground.guard }], guard := some (11, false) },
  { dst := some 133, op := Op.call { callee := Callee.value (Operand.func 11), args := #[Operand.tmp 131, Operand.tmp 132], argTypes := #[24, 33] }, type := 25, pos := "outright.go:117", after := #[{ on := 12, ground := Ground.data }, { on := 13, ground := Ground.data }, { on := 11, ground := Ground.chain }, { on := 11, ground := Ground.guard }], guard := some (11, false) },
  { dst := some 134, op := Op.binOp BinOp.neq 25 (Operand.tmp 133) (Operand.const (Value.int IntKind.i64 0)) 25, type := 4, pos := "outright.go:117", after := #[{ on := 14, ground := Ground.data }, { on := 11, ground := Ground.guard }], guard := some (11, false) },
  { dst := some 135, op := Op.pick (Operand.tmp 130) (Operand.const (Value.bool true)) (Operand.tmp 134), type := 4, pos := "outright.go:117", after := #[{ on := 11, ground := Ground.data }, { on := 15, ground := Ground.data }], guard := none }]
def rPL30 : Array Oper := #[{ dst := some 4, op := Op.assign (Operand.const (Value.bool false)), type := 4, pos := "outright.go:118", after := #[], guard := none }]
def rPL31 : Array Oper := #[{ dst := some 136, op := Op.move (Operand.tmp 5), type := 24, pos := "outright.go:120", after := #[], guard := none },
  { dst := some 137, op := Op.call { callee := Callee.value (Operand.func 14), args := #[Operand.tmp 136], argTypes := #[24] }, type := 40, pos := "outright.go:120", after := #[{ on := 0, ground := Ground.data }], guard := none },
  { dst := some 19, op := Op.assign (Operand.tmp 137), type := 40, pos := "outright.go:120", after := #[{ on := 1, ground := Ground.data }, { on := 1, ground := Ground.chain }, { on := 0, ground := Ground.phase }, { on := 1, ground := Ground.phase }], guard := none }]
def rPL32 : Array Oper := #[{ dst := some 138, op := Op.move (Operand.tmp 7), type := 40, pos := "outright.go:121", after := #[], guard := none },
  { dst := some 139, op := Op.call { callee := Callee.builtin Builtin.len, args := #[Operand.tmp 138], argTypes := #[40] }, type := 3, pos := "outright.go:121", after := #[{ on := 0, ground := Ground.data }], guard := none },
  { dst := some 20, op := Op.assign (Operand.tmp 139), type := 3, pos := "outright.go:121", after := #[{ on := 1, ground := Ground.data }, { on := 0, ground := Ground.phase }, { on := 1, ground := Ground.phase }], guard := none }]
def rPL33 : Array Oper := #[{ dst := some 21, op := Op.assign (Operand.const (Value.int IntKind.i64 0)), type := 3, pos := "outright.go:122", after := #[], guard := none }]
def rPL34 : Array Oper := #[{ dst := some 140, op := Op.move (Operand.tmp 21), type := 3, pos := "outright.go:122", after := #[], guard := none },
  { dst := some 141, op := Op.move (Operand.tmp 14), type := 46, pos := "outright.go:122", after := #[], guard := none },
  { dst := some 142, op := Op.call { callee := Callee.builtin Builtin.len, args := #[Operand.tmp 141], argTypes := #[46] }, type := 3, pos := "outright.go:122", after := #[{ on := 1, ground := Ground.data }], guard := none },
  { dst := some 143, op := Op.binOp BinOp.lss 3 (Operand.tmp 140) (Operand.tmp 142) 3, type := 4, pos := "outright.go:122", after := #[{ on := 0, ground := Ground.data }, { on := 2, ground := Ground.data }], guard := none },
  { dst := some 144, op := Op.move (Operand.tmp 143), type := 4, pos := "outright.go:122", after := #[{ on := 3, ground := Ground.data }], guard := none },
  { dst := some 145, op := Op.move (Operand.tmp 21), type := 3, pos := "outright.go:122", after := #[{ on := 4, ground := Ground.guard }], guard := some (4, true) },
  { dst := some 146, op := Op.move (Operand.tmp 1), type := 33, pos := "outright.go:122", after := #[{ on := 4, ground := Ground.guard }], guard := some (4, true) },
  { dst := some 147, op := Op.call { callee := Callee.builtin Builtin.len, args := #[Operand.tmp 146], argTypes := #[33] }, type := 3, pos := "outright.go:122", after := #[{ on := 6, ground := Ground.data }, { on := 4, ground := Ground.guard }], guard := some (4, true) },
  { dst := some 148, op := Op.binOp BinOp.lss 3 (Operand.tmp 145) (Operand.tmp 147) 3, type := 4, pos := "outright.go:122", after := #[{ on := 5, ground := Ground.data }, { on := 7, ground := Ground.data }, { on := 4, ground := Ground.guard }], guard := some (4, true) },
  { dst := some 149, op := Op.pick (Operand.tmp 144) (Operand.tmp 148) (Operand.const (Value.bool false)), type := 4, pos := "outright.go:122", after := #[{ on := 4, ground := Ground.data }, { on := 8, ground := Ground.data }], guard := none }]
def rPL35 : Array Oper := #[{ dst := some 150, op := Op.move (Operand.tmp 21), type := 3, pos := "outright.go:122", after := #[], guard := none },
  { dst := some 151, op := Op.binOp BinOp.add 3 (Operand.tmp 150) (Operand.const (Value.int IntKind.i64 1)) 3, type := 3, pos := "outright.go:122", after := #[{ on := 0, ground := Ground.data }], guard := none },
  { dst := some 21, op := Op.assign (Operand.tmp 151), type := 3, pos := "outright.go:122", after := #[{ on := 1, ground := Ground.data }, { on := 0, ground := Ground.phase }, { on := 1, ground := Ground.phase }], guard := none }]
def rPL36 : Array Oper := #[{ dst := some 152, op := Op.move (Operand.tmp 1), type := 33, pos := "outright.go:123", after := #[], guard := none },
  { dst := some 153, op := Op.move (Operand.tmp 21), type := 3, pos := "outright.go:123", after := #[], guard := none },
  { dst := some 154, op := Op.indexAddr 33 (Operand.tmp 152) (Operand.tmp 153), type := 0, pos := "outright.go:123", after := #[{ on := 0, ground := Ground.data }, { on := 1, ground := Ground.data }], guard := none },
  { dst := some 155, op := Op.load 38 (Operand.tmp 154), type := 38, pos := "outright.go:123", after := #[{ on := 2, ground := Ground.data }], guard := none },
  { dst := some 156, op := Op.binOp BinOp.neq 38 (Operand.tmp 155) (Operand.const (Value.int IntKind.u8 0)) 38, type := 4, pos := "outright.go:123", after := #[{ on := 3, ground := Ground.data }], guard := none },
  { dst := some 157, op := Op.move (Operand.tmp 156), type := 4, pos := "outright.go:123", after := #[{ on := 4, ground := Ground.data }], guard := none },
  { dst := some 158, op := Op.move (Operand.tmp 14), type := 46, pos := "outright.go:123", after := #[{ on := 5, ground := Ground.guard }], guard := some (5, true) },
  { dst := some 159, op := Op.move (Operand.tmp 21), type := 3, pos := "outright.go:123", after := #[{ on := 5, ground := Ground.guard }], guard := some (5, true) },
  { dst := some 160, op := Op.indexAddr 46 (Operand.tmp 158) (Operand.tmp 159), type := 0, pos := "outright.go:123", after := #[{ on := 6, ground := Ground.data }, { on := 7, ground := Ground.data }, { on := 5, ground := Ground.guard }], guard := some (5, true) },
  { dst := some 161, op := Op.fieldAddr 54 (Operand.tmp 160) 0, type := 0, pos := "outright.go:123", after := #[{ on := 8, ground := Ground.data }, { on := 5, ground := Ground.guard }], guard := some (5, true) },
  { dst := some 162, op := Op.load 52 (Operand.tmp 161), type := 52, pos := "outright.go:123", after := #[{ on := 9, ground := Ground.data }, { on := 5, ground := Ground.guard }], guard := some (5, true) },
  { dst := some 163, op := Op.binOp BinOp.eql 52 (Operand.tmp 162) (Operand.const (Value.int IntKind.u8 2)) 52, type := 4, pos := "outright.go:123", after := #[{ on := 10, ground := Ground.data }, { on := 5, ground := Ground.guard }], guard := some (5, true) },
  { dst := some 164, op := Op.pick (Operand.tmp 157) (Operand.tmp 163) (Operand.const (Value.bool false)), type := 4, pos := "outright.go:123", after := #[{ on := 5, ground := Ground.data }, { on := 11, ground := Ground.data }], guard := none }]
def rPL37 : Array Oper := #[{ dst := some 165, op := Op.move (Operand.tmp 20), type := 3, pos := "outright.go:124", after := #[], guard := none },
  { dst := some 166, op := Op.move (Operand.tmp 14), type := 46, pos := "outright.go:124", after := #[], guard := none },
  { dst := some 167, op := Op.move (Operand.tmp 21), type := 3, pos := "outright.go:124", after := #[], guard := none },
  { dst := some 168, op := Op.indexAddr 46 (Operand.tmp 166) (Operand.tmp 167), type := 0, pos := "outright.go:124", after := #[{ on := 1, ground := Ground.data }, { on := 2, ground := Ground.data }], guard := none },
  { dst := some 169, op := Op.fieldAddr 54 (Operand.tmp 168) 2, type := 0, pos := "outright.go:124", after := #[{ on := 3, ground := Ground.data }], guard := none },
  { dst := some 170, op := Op.load 3 (Operand.tmp 169), type := 3, pos := "outright.go:124", after := #[{ on := 4, ground := Ground.data }], guard := none },
  { dst := some 171, op := Op.call { callee := Callee.builtin Builtin.max, args := #[Operand.tmp 165, Operand.tmp 170], argTypes := #[3, 3] }, type := 3, pos := "outright.go:124", after := #[{ on := 0, ground := Ground.data }, { on := 5, ground := Ground.data }], guard := none },
  { dst := some 20, op := Op.assign (Operand.tmp 171), type := 3, pos := "outright.go:124", after := #[{ on := 6, ground := Ground.data }, { on := 0, ground := Ground.phase }, { on := 1, ground := Ground.phase }, { on := 2, ground := Ground.phase }, { on := 3, ground := Ground.phase }, { on := 4, ground := Ground.phase }, { on := 5, ground := Ground.phase }, { on := 6, ground := Ground.phase }], guard := none }]
def rPL38 : Array Oper := #[{ dst := some 172, op := Op.move (Operand.tmp 1), type := 33, pos := "outright.go:126", after := #[], guard := none },
  { dst := some 173, op := Op.move (Operand.tmp 21), type := 3, pos := "outright.go:126", after := #[], guard := none },
  { dst := some 174, op := Op.indexAddr 33 (Operand.tmp 172) (Operand.tmp 173), type := 0, pos := "outright.go:126", after := #[{ on := 0, ground := Ground.data }, { on := 1, ground := Ground.data }], guard := none },
  { dst := some 175, op := Op.load 38 (Operand.tmp 174), type := 38, pos := "outright.go:126", after := #[{ on := 2, ground := Ground.data }], guard := none },
  { dst := some 176, op := Op.binOp BinOp.neq 38 (Operand.tmp 175) (Operand.const (Value.int IntKind.u8 0)) 38, type := 4, pos := "outright.go:126", after := #[{ on := 3, ground := Ground.data }], guard := none },
  { dst := some 177, op := Op.move (Operand.tmp 176), type := 4, pos := "outright.go:126", after := #[{ on := 4, ground := Ground.data }], guard := none },
  { dst := some 178, op := Op.move (Operand.tmp 14), type := 46, pos := "outright.go:126", after := #[{ on := 5, ground := Ground.guard }], guard := some (5, true) },
  { dst := some 179, op := Op.move (Operand.tmp 21), type := 3, pos := "outright.go:126", after := #[{ on := 5, ground := Ground.guard }], guard := some (5, true) },
  { dst := some 180, op := Op.indexAddr 46 (Operand.tmp 178) (Operand.tmp 179), type := 0, pos := "outright.go:126", after := #[{ on := 6, ground := Ground.data }, { on := 7, ground := Ground.data }, { on := 5, ground := Ground.guard }], guard := some (5, true) },
  { dst := some 181, op := Op.fieldAddr 54 (Operand.tmp 180) 0, type := 0, pos := "outright.go:126", after := #[{ on := 8, ground := Ground.data }, { on := 5, ground := Ground.guard }], guard := some (5, true) },
  { dst := some 182, op := Op.load 52 (Operand.tmp 181), type := 52, pos := "outright.go:126", after := #[{ on := 9, ground := Ground.data }, { on := 5, ground := Ground.guard }], guard := some (5, true) },
  { dst := some 183, op := Op.binOp BinOp.eql 52 (Operand.tmp 182) (Operand.const (Value.int IntKind.u8 1)) 52, type := 4, pos := "outright.go:126", after := #[{ on := 10, ground := Ground.data }, { on := 5, ground := Ground.guard }], guard := some (5, true) },
  { dst := some 184, op := Op.pick (Operand.tmp 177) (Operand.tmp 183) (Operand.const (Value.bool false)), type := 4, pos := "outright.go:126", after := #[{ on := 5, ground := Ground.data }, { on := 11, ground := Ground.data }], guard := none }]
def rPL39 : Array Oper := #[{ dst := some 185, op := Op.move (Operand.tmp 20), type := 3, pos := "outright.go:127", after := #[], guard := none },
  { dst := some 186, op := Op.move (Operand.tmp 14), type := 46, pos := "outright.go:127", after := #[], guard := none },
  { dst := some 187, op := Op.move (Operand.tmp 21), type := 3, pos := "outright.go:127", after := #[], guard := none },
  { dst := some 188, op := Op.indexAddr 46 (Operand.tmp 186) (Operand.tmp 187), type := 0, pos := "outright.go:127", after := #[{ on := 1, ground := Ground.data }, { on := 2, ground := Ground.data }], guard := none },
  { dst := some 189, op := Op.fieldAddr 54 (Operand.tmp 188) 1, type := 0, pos := "outright.go:127", after := #[{ on := 3, ground := Ground.data }], guard := none },
  { dst := some 190, op := Op.load 29 (Operand.tmp 189), type := 29, pos := "outright.go:127", after := #[{ on := 4, ground := Ground.data }], guard := none },
  { dst := some 191, op := Op.convert 29 3 (Operand.tmp 190), type := 3, pos := "outright.go:127", after := #[{ on := 5, ground := Ground.data }], guard := none },
  { dst := some 192, op := Op.binOp BinOp.add 3 (Operand.tmp 191) (Operand.const (Value.int IntKind.i64 1)) 3, type := 3, pos := "outright.go:127", after := #[{ on := 6, ground := Ground.data }], guard := none },
  { dst := some 193, op := Op.call { callee := Callee.builtin Builtin.max, args := #[Operand.tmp 185, Operand.tmp 192], argTypes := #[3, 3] }, type := 3, pos := "outright.go:127", after := #[{ on := 0, ground := Ground.data }, { on := 7, ground := Ground.data }], guard := none },
  { dst := some 20, op := Op.assign (Operand.tmp 193), type := 3, pos := "outright.go:127", after := #[{ on := 8, ground := Ground.data }, { on := 0, ground := Ground.phase }, { on := 1, ground := Ground.phase }, { on := 2, ground := Ground.phase }, { on := 3, ground := Ground.phase }, { on := 4, ground := Ground.phase }, { on := 5, ground := Ground.phase }, { on := 6, ground := Ground.phase }, { on := 7, ground := Ground.phase }, { on := 8, ground := Ground.phase }], guard := none }]
def rPL40 : Array Oper := #[{ dst := some 194, op := Op.move (Operand.tmp 19), type := 40, pos := "outright.go:130", after := #[], guard := none },
  { dst := some 195, op := Op.call { callee := Callee.builtin Builtin.len, args := #[Operand.tmp 194], argTypes := #[40] }, type := 3, pos := "outright.go:130", after := #[{ on := 0, ground := Ground.data }], guard := none },
  { dst := some 196, op := Op.move (Operand.tmp 20), type := 3, pos := "outright.go:130", after := #[], guard := none },
  { dst := some 197, op := Op.binOp BinOp.neq 3 (Operand.tmp 195) (Operand.tmp 196) 3, type := 4, pos := "outright.go:130", after := #[{ on := 1, ground := Ground.data }, { on := 2, ground := Ground.data }], guard := none },
  { dst := some 198, op := Op.move (Operand.tmp 197), type := 4, pos := "outright.go:130", after := #[{ on := 3, ground := Ground.data }], guard := none },
  { dst := some 199, op := Op.move (Operand.tmp 20), type := 3, pos := "outright.go:130", after := #[{ on := 4, ground := Ground.guard }], guard := some (4, false) },
  { dst := some 200, op := Op.move (Operand.tmp 13), type := 40, pos := "outright.go:130", after := #[{ on := 4, ground := Ground.guard }], guard := some (4, false) },
  { dst := some 201, op := Op.call { callee := Callee.builtin Builtin.len, args := #[Operand.tmp 200], argTypes := #[40] }, type := 3, pos := "outright.go:130", after := #[{ on := 6, ground := Ground.data }, { on := 4, ground := Ground.guard }], guard := some (4, false) },
  { dst := some 202, op := Op.binOp BinOp.gtr 3 (Operand.tmp 199) (Operand.tmp 201) 3, type := 4, pos := "outright.go:130", after := #[{ on := 5, ground := Ground.data }, { on := 7, ground := Ground.data }, { on := 4, ground := Ground.guard }], guard := some (4, false) },
  { dst := some 203, op := Op.pick (Operand.tmp 198) (Operand.const (Value.bool true)) (Operand.tmp 202), type := 4, pos := "outright.go:130", after := #[{ on := 4, ground := Ground.data }, { on := 8, ground := Ground.data }], guard := none }]
def rPL41 : Array Oper := #[{ dst := some 4, op := Op.assign (Operand.const (Value.bool false)), type := 4, pos := "outright.go:131", after := #[], guard := none }]
def rPL42 : Array Oper := #[{ dst := some 204, op := Op.build 31 #[(0, Operand.const (Value.int IntKind.i64 (-1)))], type := 31, pos := "outright.go:133", after := #[], guard := none },
  { dst := some 205, op := Op.call { callee := Callee.value (Operand.func 19), args := #[Operand.tmp 204, Operand.const (Value.int IntKind.i64 1024)], argTypes := #[31, 3] }, type := 9, pos := "outright.go:133", after := #[{ on := 0, ground := Ground.data }], guard := none },
  { dst := some 22, op := Op.assign (Operand.tmp 205), type := 9, pos := "outright.go:133", after := #[{ on := 1, ground := Ground.data }, { on := 1, ground := Ground.chain }, { on := 0, ground := Ground.phase }, { on := 1, ground := Ground.phase }], guard := none }]
def rPL43 : Array Oper := #[{ dst := some 23, op := Op.assign (Operand.const (Value.int IntKind.i64 0)), type := 3, pos := "outright.go:134", after := #[], guard := none }]
def rPL44 : Array Oper := #[{ dst := some 206, op := Op.move (Operand.tmp 23), type := 3, pos := "outright.go:134", after := #[], guard := none },
  { dst := some 207, op := Op.move (Operand.tmp 19), type := 40, pos := "outright.go:134", after := #[], guard := none },
  { dst := some 208, op := Op.call { callee := Callee.builtin Builtin.len, args := #[Operand.tmp 207], argTypes := #[40] }, type := 3, pos := "outright.go:134", after := #[{ on := 1, ground := Ground.data }], guard := none },
  { dst := some 209, op := Op.binOp BinOp.lss 3 (Operand.tmp 206) (Operand.tmp 208) 3, type := 4, pos := "outright.go:134", after := #[{ on := 0, ground := Ground.data }, { on := 2, ground := Ground.data }], guard := none }]
def rPL45 : Array Oper := #[{ dst := some 210, op := Op.move (Operand.tmp 23), type := 3, pos := "outright.go:134", after := #[], guard := none },
  { dst := some 211, op := Op.binOp BinOp.add 3 (Operand.tmp 210) (Operand.const (Value.int IntKind.i64 1)) 3, type := 3, pos := "outright.go:134", after := #[{ on := 0, ground := Ground.data }], guard := none },
  { dst := some 23, op := Op.assign (Operand.tmp 211), type := 3, pos := "outright.go:134", after := #[{ on := 1, ground := Ground.data }, { on := 0, ground := Ground.phase }, { on := 1, ground := Ground.phase }], guard := none }]
def rPL46 : Array Oper := #[{ dst := some 212, op := Op.move (Operand.tmp 22), type := 9, pos := "outright.go:135", after := #[], guard := none },
  { dst := some 24, op := Op.assign (Operand.tmp 212), type := 9, pos := "outright.go:135", after := #[{ on := 0, ground := Ground.data }, { on := 0, ground := Ground.phase }], guard := none }]
def rPL47 : Array Oper := #[{ dst := some 213, op := Op.move (Operand.tmp 23), type := 3, pos := "outright.go:136", after := #[], guard := none },
  { dst := some 214, op := Op.move (Operand.tmp 7), type := 40, pos := "outright.go:136", after := #[], guard := none },
  { dst := some 215, op := Op.call { callee := Callee.builtin Builtin.len, args := #[Operand.tmp 214], argTypes := #[40] }, type := 3, pos := "outright.go:136", after := #[{ on := 1, ground := Ground.data }], guard := none },
  { dst := some 216, op := Op.binOp BinOp.lss 3 (Operand.tmp 213) (Operand.tmp 215) 3, type := 4, pos := "outright.go:136", after := #[{ on := 0, ground := Ground.data }, { on := 2, ground := Ground.data }], guard := none }]
def rPL48 : Array Oper := #[{ dst := some 217, op := Op.move (Operand.tmp 7), type := 40, pos := "outright.go:137", after := #[], guard := none },
  { dst := some 218, op := Op.move (Operand.tmp 23), type := 3, pos := "outright.go:137", after := #[], guard := none },
  { dst := some 219, op := Op.indexAddr 40 (Operand.tmp 217) (Operand.tmp 218), type := 0, pos := "outright.go:137", after := #[{ on := 0, ground := Ground.data }, { on := 1, ground := Ground.data }], guard := none },
  { dst := some 220, op := Op.load 9 (Operand.tmp 219), type := 9, pos := "outright.go:137", after := #[{ on := 2, ground := Ground.data }], guard := none },
  { dst := some 24, op := Op.assign (Operand.tmp 220), type := 9, pos := "outright.go:137", after := #[{ on := 3, ground := Ground.data }, { on := 0, ground := Ground.phase }, { on := 1, ground := Ground.phase }, { on := 2, ground := Ground.phase }, { on := 3, ground := Ground.phase }], guard := none }]
def rPL49 : Array Oper := #[{ dst := some 221, op := Op.move (Operand.tmp 19), type := 40, pos := "outright.go:139", after := #[], guard := none },
  { dst := some 222, op := Op.move (Operand.tmp 23), type := 3, pos := "outright.go:139", after := #[], guard := none },
  { dst := some 223, op := Op.indexAddr 40 (Operand.tmp 221) (Operand.tmp 222), type := 0, pos := "outright.go:139", after := #[{ on := 0, ground := Ground.data }, { on := 1, ground := Ground.data }], guard := none },
  { dst := some 224, op := Op.load 9 (Operand.tmp 223), type := 9, pos := "outright.go:139", after := #[{ on := 2, ground := Ground.data }], guard := none },
  { dst := some 225, op := Op.call { callee := Callee.builtin Builtin.len, args := #[Operand.tmp 224], argTypes := #[9] }, type := 3, pos := "outright.go:139", after := #[{ on := 3, ground := Ground.data }], guard := none },
  { dst := some 226, op := Op.binOp BinOp.neq 3 (Operand.tmp 225) (Operand.const (Value.int IntKind.i64 1024)) 3, type := 4, pos := "outright.go:139", after := #[{ on := 4, ground := Ground.data }], guard := none },
  { dst := some 227, op := Op.move (Operand.tmp 226), type := 4, pos := "outright.go:139", after := #[{ on := 5, ground := Ground.data }], guard := none },
  { dst := some 228, op := Op.move (Operand.tmp 8), type := 50, pos := "outright.go:139", after := #[{ on := 6, ground := Ground.guard }], guard := some (6, false) },
  { dst := some 229, op := Op.move (Operand.tmp 23), type := 3, pos := "outright.go:139", after := #[{ on := 6, ground := Ground.guard }], guard := some (6, false) },
  { dst := some 230, op := Op.indexAddr 50 (Operand.tmp 228) (Operand.tmp 229), type := 0, pos := "outright.go:139", after := #[{ on := 7, ground := Ground.data }, { on := 8, ground := Ground.data }, { on := 6, ground := Ground.guard }], guard := some (6, false) },
  { dst := some 231, op := Op.load 40 (Operand.tmp 230), type := 40, pos := "outright.go:139", after := #[{ on := 9, ground := Ground.data }, { on := 6, ground := Ground.guard }], guard := some (6, false) },
  { dst := some 232, op := Op.call { callee := Callee.builtin Builtin.len, args := #[Operand.tmp 231], argTypes := #[40] }, type := 3, pos := "outright.go:139", after := #[{ on := 10, ground := Ground.data }, { on := 6, ground := Ground.guard }], guard := some (6, false) },
  { dst := some 233, op := Op.binOp BinOp.eql 3 (Operand.tmp 232) (Operand.const (Value.int IntKind.i64 0)) 3, type := 4, pos := "outright.go:139", after := #[{ on := 11, ground := Ground.data }, { on := 6, ground := Ground.guard }], guard := some (6, false) },
  { dst := some 234, op := Op.move (Operand.tmp 233), type := 4, pos := "outright.go:139", after := #[{ on := 12, ground := Ground.data }, { on := 6, ground := Ground.chain }, { on := 6, ground := Ground.guard }], guard := some (6, false) },
  { dst := some 235, op := Op.move (Operand.tmp 19), type := 40, pos := "outright.go:139", after := #[{ on := 13, ground := Ground.guard }], guard := some (13, true) },
  { dst := some 236, op := Op.move (Operand.tmp 23), type := 3, pos := "outright.go:139", after := #[{ on := 13, ground := Ground.guard }], guard := some (13, true) },
  { dst := some 237, op := Op.indexAddr 40 (Operand.tmp 235) (Operand.tmp 236), type := 0, pos := "outright.go:139", after := #[{ on := 14, ground := Ground.data }, { on := 15, ground := Ground.data }, { on := 13, ground := Ground.guard }], guard := some (13, true) },
  { dst := some 238, op := Op.load 9 (Operand.tmp 237), type := 9, pos := "outright.go:139", after := #[{ on := 16, ground := Ground.data }, { on := 13, ground := Ground.guard }], guard := some (13, true) },
  { dst := some 239, op := Op.move (Operand.tmp 24), type := 9, pos := "outright.go:139", after := #[{ on := 13, ground := Ground.guard }], guard := some (13, true) },
  { dst := some 240, op := Op.binOp BinOp.neq 9 (Operand.tmp 238) (Operand.tmp 239) 9, type := 4, pos := "outright.go:139", after := #[{ on := 17, ground := Ground.data }, { on := 18, ground := Ground.data }, { on := 13, ground := Ground.guard }], guard := some (13, true) },
  { dst := some 241, op := Op.pick (Operand.tmp 234) (Operand.tmp 240) (Operand.const (Value.bool false)), type := 4, pos := "outright.go:139", after := #[{ on := 13, ground := Ground.data }, { on := 19, ground := Ground.data }, { on := 6, ground := Ground.guard }], guard := some (6, false) },
  { dst := some 242, op := Op.pick (Operand.tmp 227) (Operand.const (Value.bool true)) (Operand.tmp 241), type := 4, pos := "outright.go:139", after := #[{ on := 6, ground := Ground.data }, { on := 20, ground := Ground.data }], guard := none }]
def rPL50 : Array Oper := #[{ dst := some 4, op := Op.assign (Operand.const (Value.bool false)), type := 4, pos := "outright.go:140", after := #[], guard := none }]
def rPL51 : Array Oper := #[{ dst := some 25, op := Op.assign (Operand.const (Value.int IntKind.i64 0)), type := 3, pos := "outright.go:142", after := #[], guard := none }]
def rPL52 : Array Oper := #[{ dst := some 243, op := Op.move (Operand.tmp 25), type := 3, pos := "outright.go:142", after := #[], guard := none },
  { dst := some 244, op := Op.binOp BinOp.lss 3 (Operand.tmp 243) (Operand.const (Value.int IntKind.i64 8)) 3, type := 4, pos := "outright.go:142", after := #[{ on := 0, ground := Ground.data }], guard := none }]
def rPL53 : Array Oper := #[{ dst := some 245, op := Op.move (Operand.tmp 25), type := 3, pos := "outright.go:142", after := #[], guard := none },
  { dst := some 246, op := Op.binOp BinOp.add 3 (Operand.tmp 245) (Operand.const (Value.int IntKind.i64 1)) 3, type := 3, pos := "outright.go:142", after := #[{ on := 0, ground := Ground.data }], guard := none },
  { dst := some 25, op := Op.assign (Operand.tmp 246), type := 3, pos := "outright.go:142", after := #[{ on := 1, ground := Ground.data }, { on := 0, ground := Ground.phase }, { on := 1, ground := Ground.phase }], guard := none }]
def rPL54 : Array Oper := #[{ dst := some 247, op := Op.move (Operand.tmp 25), type := 3, pos := "outright.go:143", after := #[], guard := none },
  { dst := some 248, op := Op.move (Operand.tmp 19), type := 40, pos := "outright.go:143", after := #[], guard := none },
  { dst := some 249, op := Op.move (Operand.tmp 23), type := 3, pos := "outright.go:143", after := #[], guard := none },
  { dst := some 250, op := Op.indexAddr 40 (Operand.tmp 248) (Operand.tmp 249), type := 0, pos := "outright.go:143", after := #[{ on := 1, ground := Ground.data }, { on := 2, ground := Ground.data }], guard := none },
  { dst := some 251, op := Op.load 9 (Operand.tmp 250), type := 9, pos := "outright.go:143", after := #[{ on := 3, ground := Ground.data }], guard := none },
  { dst := some 252, op := Op.move (Operand.tmp 24), type := 9, pos := "outright.go:143", after := #[], guard := none },
  { dst := some 253, op := Op.move (Operand.tmp 8), type := 50, pos := "outright.go:143", after := #[], guard := none },
  { dst := some 254, op := Op.move (Operand.tmp 23), type := 3, pos := "outright.go:143", after := #[], guard := none },
  { dst := some 255, op := Op.indexAddr 50 (Operand.tmp 253) (Operand.tmp 254), type := 0, pos := "outright.go:143", after := #[{ on := 6, ground := Ground.data }, { on := 7, ground := Ground.data }], guard := none },
  { dst := some 256, op := Op.load 40 (Operand.tmp 255), type := 40, pos := "outright.go:143", after := #[{ on := 8, ground := Ground.data }], guard := none },
  { dst := some 257, op := Op.call { callee := Callee.value (Operand.func 20), args := #[Operand.tmp 247, Operand.tmp 251, Operand.tmp 252, Operand.tmp 256], argTypes := #[3, 9, 9, 40] }, type := 4, pos := "outright.go:143", after := #[{ on := 0, ground := Ground.data }, { on := 4, ground := Ground.data }, { on := 5, ground := Ground.data }, { on := 9, ground := Ground.data }], guard := none },
  { dst := some 258, op := Op.unOp UnOp.not 4 (Operand.tmp 257), type := 4, pos := "outright.go:143", after := #[{ on := 10, ground := Ground.data }], guard := none }]
def rPL55 : Array Oper := #[{ dst := some 4, op := Op.assign (Operand.const (Value.bool false)), type := 4, pos := "outright.go:144", after := #[], guard := none }]
def rPL56 : Array Oper := #[{ dst := some 259, op := Op.move (Operand.tmp 5), type := 24, pos := "outright.go:148", after := #[], guard := none },
  { dst := some 260, op := Op.call { callee := Callee.value (Operand.func 21), args := #[Operand.tmp 259], argTypes := #[24] }, type := 25, pos := "outright.go:148", after := #[{ on := 0, ground := Ground.data }], guard := none },
  { dst := some 261, op := Op.binOp BinOp.eql 25 (Operand.tmp 260) (Operand.const (Value.int IntKind.i64 0)) 25, type := 4, pos := "outright.go:148", after := #[{ on := 1, ground := Ground.data }], guard := none },
  { dst := some 262, op := Op.move (Operand.tmp 261), type := 4, pos := "outright.go:148", after := #[{ on := 2, ground := Ground.data }, { on := 1, ground := Ground.chain }], guard := none },
  { dst := some 263, op := Op.move (Operand.tmp 5), type := 24, pos := "outright.go:148", after := #[{ on := 3, ground := Ground.guard }], guard := some (3, true) },
  { dst := some 264, op := Op.call { callee := Callee.value (Operand.func 13), args := #[Operand.tmp 263], argTypes := #[24] }, type := 40, pos := "outright.go:148", after := #[{ on := 4, ground := Ground.data }, { on := 3, ground := Ground.chain }, { on := 3, ground := Ground.guard }], guard := some (3, true) },
  { dst := some 265, op := Op.move (Operand.tmp 19), type := 40, pos := "outright.go:148", after := #[{ on := 3, ground := Ground.guard }], guard := some (3, true) },
  { dst := some 266, op := Op.call { callee := Callee.value (Operand.func 12), args := #[Operand.tmp 264, Operand.tmp 265], argTypes := #[40, 40] }, type := 4, pos := "outright.go:148", after := #[{ on := 5, ground := Ground.data }, { on := 6, ground := Ground.data }, { on := 5, ground := Ground.chain }, { on := 3, ground := Ground.guard }], guard := some (3, true) },
  { dst := some 267, op := Op.pick (Operand.tmp 262) (Operand.tmp 266) (Operand.const (Value.bool false)), type := 4, pos := "outright.go:148", after := #[{ on := 3, ground := Ground.data }, { on := 7, ground := Ground.data }], guard := none },
  { dst := some 268, op := Op.move (Operand.tmp 267), type := 4, pos := "outright.go:148", after := #[{ on := 8, ground := Ground.data }, { on := 7, ground := Ground.chain }], guard := none },
  { dst := some 269, op := Op.move (Operand.tmp 5), type := 24, pos := "outright.go:148", after := #[{ on := 9, ground := Ground.guard }], guard := some (9, true) },
  { dst := some 270, op := Op.call { callee := Callee.value (Operand.func 16), args := #[Operand.tmp 269], argTypes := #[24] }, type := 46, pos := "outright.go:148", after := #[{ on := 10, ground := Ground.data }, { on := 9, ground := Ground.chain }, { on := 9, ground := Ground.guard }], guard := some (9, true) },
  { dst := some 271, op := Op.call { callee := Callee.builtin Builtin.len, args := #[Operand.tmp 270], argTypes := #[46] }, type := 3, pos := "outright.go:148", after := #[{ on := 11, ground := Ground.data }, { on := 9, ground := Ground.guard }], guard := some (9, true) },
  { dst := some 272, op := Op.binOp BinOp.eql 3 (Operand.tmp 271) (Operand.const (Value.int IntKind.i64 0)) 3, type := 4, pos := "outright.go:148", after := #[{ on := 12, ground := Ground.data }, { on := 9, ground := Ground.guard }], guard := some (9, true) },
  { dst := some 273, op := Op.pick (Operand.tmp 268) (Operand.tmp 272) (Operand.const (Value.bool false)), type := 4, pos := "outright.go:148", after := #[{ on := 9, ground := Ground.data }, { on := 13, ground := Ground.data }], guard := none },
  { dst := some 4, op := Op.assign (Operand.tmp 273), type := 4, pos := "outright.go:148", after := #[{ on := 14, ground := Ground.data }, { on := 11, ground := Ground.chain }, { on := 0, ground := Ground.phase }, { on := 1, ground := Ground.phase }, { on := 2, ground := Ground.phase }, { on := 3, ground := Ground.phase }, { on := 4, ground := Ground.phase }, { on := 5, ground := Ground.phase }, { on := 6, ground := Ground.phase }, { on := 7, ground := Ground.phase }, { on := 8, ground := Ground.phase }, { on := 9, ground := Ground.phase }, { on := 10, ground := Ground.phase }, { on := 11, ground := Ground.phase }, { on := 12, ground := Ground.phase }, { on := 13, ground := Ground.phase }, { on := 14, ground := Ground.phase }], guard := none }]
def rPL18p : Array Oper := #[oPL23,
  oPL24,
  oPL25,
  oPL26,
  oPL27,
  oPL28,
  oPL29,
  oPL30,
  oPL31,
  oPL32,
  oPL33,
  oPL34]
def rPL18f : Oper := oPL35
def cPL1 : Code := (Code.seq (Code.seq (Code.region 7 rPL7 false) (Code.cond (Operand.tmp 44) Code.skip (Code.exit 0))) (Code.seq (Code.block 1 (Code.seq (Code.region 9 rPL9 false) (Code.seq (Code.region 10 rPL10 false) (Code.seq (Code.seq (Code.region 11 rPL11 false) (Code.cond (Operand.tmp 56) (Code.seq (Code.seq (Code.region 12 rPL12 false) (Code.cond (Operand.tmp 58) (Code.seq (Code.region 13 rPL13 false) Code.ret) Code.skip)) (Code.seq (Code.region 14 rPL14 false) (Code.region 15 rPL15 false))) Code.skip)) (Code.seq (Code.region 16 rPL16 false) (Code.cond (Operand.tmp 67) (Code.seq (Code.region 17 rPL17 false) (Code.region 18 rPL18 true)) Code.skip)))))) (Code.region 8 rPL8 false)))
def cPL2 : Code := (Code.seq (Code.seq (Code.region 26 rPL26 false) (Code.cond (Operand.tmp 113) Code.skip (Code.exit 2))) (Code.seq (Code.block 3 (Code.region 28 rPL28 false)) (Code.region 27 rPL27 false)))
def cPL3 : Code := (Code.seq (Code.seq (Code.region 34 rPL34 false) (Code.cond (Operand.tmp 149) Code.skip (Code.exit 4))) (Code.seq (Code.block 5 (Code.seq (Code.seq (Code.region 36 rPL36 false) (Code.cond (Operand.tmp 164) (Code.region 37 rPL37 false) Code.skip)) (Code.seq (Code.region 38 rPL38 false) (Code.cond (Operand.tmp 184) (Code.region 39 rPL39 false) Code.skip)))) (Code.region 35 rPL35 false)))
def cPL5 : Code := (Code.seq (Code.seq (Code.region 52 rPL52 false) (Code.cond (Operand.tmp 244) Code.skip (Code.exit 8))) (Code.seq (Code.block 9 (Code.seq (Code.region 54 rPL54 true) (Code.cond (Operand.tmp 258) (Code.seq (Code.region 55 rPL55 false) Code.ret) Code.skip))) (Code.region 53 rPL53 false)))
def cPL4 : Code := (Code.seq (Code.seq (Code.region 44 rPL44 false) (Code.cond (Operand.tmp 209) Code.skip (Code.exit 6))) (Code.seq (Code.block 7 (Code.seq (Code.region 46 rPL46 false) (Code.seq (Code.seq (Code.region 47 rPL47 false) (Code.cond (Operand.tmp 216) (Code.region 48 rPL48 false) Code.skip)) (Code.seq (Code.seq (Code.region 49 rPL49 false) (Code.cond (Operand.tmp 242) (Code.seq (Code.region 50 rPL50 false) Code.ret) Code.skip)) (Code.seq (Code.region 51 rPL51 false) (Code.block 8 (Code.loop cPL5))))))) (Code.region 45 rPL45 false)))
def cPL : Code := (Code.seq (Code.region 0 rPL0 false) (Code.seq (Code.region 1 rPL1 false) (Code.seq (Code.seq (Code.region 2 rPL2 false) (Code.cond (Operand.tmp 39) (Code.seq (Code.region 3 rPL3 false) Code.ret) Code.skip)) (Code.seq (Code.region 4 rPL4 false) (Code.seq (Code.region 5 rPL5 false) (Code.seq (Code.seq (Code.region 6 rPL6 false) (Code.block 0 (Code.loop cPL1))) (Code.seq (Code.region 19 rPL19 false) (Code.seq (Code.region 20 rPL20 false) (Code.seq (Code.region 21 rPL21 false) (Code.seq (Code.seq (Code.region 22 rPL22 false) (Code.cond (Operand.tmp 109) (Code.seq (Code.region 23 rPL23 false) Code.ret) Code.skip)) (Code.seq (Code.region 24 rPL24 false) (Code.seq (Code.seq (Code.region 25 rPL25 false) (Code.block 2 (Code.loop cPL2))) (Code.seq (Code.seq (Code.region 29 rPL29 false) (Code.cond (Operand.tmp 135) (Code.seq (Code.region 30 rPL30 false) Code.ret) Code.skip)) (Code.seq (Code.region 31 rPL31 false) (Code.seq (Code.region 32 rPL32 false) (Code.seq (Code.seq (Code.region 33 rPL33 false) (Code.block 4 (Code.loop cPL3))) (Code.seq (Code.seq (Code.region 40 rPL40 false) (Code.cond (Operand.tmp 203) (Code.seq (Code.region 41 rPL41 false) Code.ret) Code.skip)) (Code.seq (Code.region 42 rPL42 false) (Code.seq (Code.seq (Code.region 43 rPL43 false) (Code.block 6 (Code.loop cPL4))) (Code.seq (Code.region 56 rPL56 false) Code.ret))))))))))))))))))))
/-- What the loop over the script knows. -/
structure SfW (w W : World) (b bw : Nat) (D : Dk) (sa : Option Addr) (sc : Nat) (U V : Nat → Prop) : Prop where
  d : DkAt W b D U
  wr : WrAt W bw (wrOf D.W) V
  sy : W.ownsRow w.heap.size 9 1 (.slice sa D.I.length sc) D.I.length (scells D.I)
  u : ∀ k, U k → w.heap.size ≤ k
  v : ∀ k, V k → w.heap.size ≤ k
  uv : ∀ k, U k → ¬ V k
  su : ∀ k, (Value.slice sa D.I.length sc).ownBlock = some k → ¬ U k ∧ ¬ V k
  same : Same w W
theorem own_lt {W : World} {B n c sz : Nat} {e : TypeId} {ao : Option Addr} {xs : List Value} (h : W.ownsRow B e sz (.slice ao n c) n xs) {k : Nat} (hk : (Value.slice ao n c).ownBlock = some k) : k < W.heap.size := by
  obtain ⟨_, hc⟩ := own_cellsB h hk; exact lt_of_heap hc
/-- A world that went on. -/
theorem SfW.on {w W W' : World} {b bw : Nat} {D : Dk} {sa : Option Addr} {sc : Nat} {U V : Nat → Prop} (h : SfW w W b bw D sa sc U V) (s : Same W W') : SfW w W' b bw D sa sc U V :=
  ⟨h.d.same s, h.wr.fr s (fun _ _ f => f), own_frameB h.sy s (fun _ _ f => f), h.u, h.v, h.uv, h.su, h.same.trans s⟩
/-- A step was played: what waits and the image as they were, as far as the law's lists go. -/
theorem SfW.play {w W W' : World} {b bw : Nat} {D D' : Dk} {sa : Option Addr} {sc : Nat} {U V : Nat → Prop} (h : SfW w W b bw D sa sc U V) (hd : DkAt W' b D' (Land U W W')) (f : Fr U W W') (hI : D'.I = D.I) (hW : ∀ i, wrOf D'.W i = wrOf D.W i) : SfW w W' b bw D' sa sc (Land U W W') V where
  d := hd
  wr := by rw [show wrOf D'.W = wrOf D.W from funext hW]; exact h.wr.fr f (fun k hk hu => h.uv k hu hk)
  sy := by rw [hI]; exact own_frameB h.sy f (fun k hk => (h.su k hk).1)
  u := fun k hk => by rcases hk with e | e; exact h.u k e; have := h.same.size; omega
  v := h.v
  uv := fun k hk hv => by rcases hk with e | e; exact h.uv k e hv; have := h.wr.lt k hv; omega
  su := fun k hk => by
    rw [hI] at hk
    refine ⟨fun e => ?_, (h.su k hk).2⟩
    rcases e with e | e
    · exact (h.su k hk).1 e
    · have := own_lt h.sy hk; omega
  same := Fr.trans h.same f (fun k hl hk => by have := h.u k hk; omega)
theorem play_as {b n : Nat} {D : Dk} {S : Nat → Prop} {s : Sp} {pe : Bool} (w : World) (h : DkAt w b D S) (hi : DkIn D n) (hn : n ≤ 1048575) (hno : s.no < 4294967296) (hpe : playE D s = pe) :
    Calls Try.prog 9 #[.pointer (some ⟨b, 0, none⟩), .agg (spC s).toArray] w fun e w' => e = .returned (.bool pe) ∧ DkAt w' b (playD D s) (Land S w w') ∧ Fr S w w' := by
  have := play_calls w h hi hn hno
  rw [hpe] at this
  exact this
theorem play_I {D : Dk} {s : Sp} (h : s.do_ ≠ 3) : (playD D s).I = D.I := by
  unfold playD
  split
  · unfold dkWrite; split <;> rfl
  · split
    · unfold dkGrow; split <;> rfl
    · rfl
structure IPL (v0 v1 v5 v7 v8 : Value) (a : Act) : Prop where
  size : a.tmps.size = 274
  defers : a.defers = []
  s0 : a.eval (.tmp 0) = v0
  s1 : a.eval (.tmp 1) = v1
  s5 : a.eval (.tmp 5) = v5
  s7 : a.eval (.tmp 7) = v7
  s8 : a.eval (.tmp 8) = v8
theorem IPL.keep {v0 v1 v5 v7 v8 u7 u8 : Value} {a0 a : Act} {env : List (Nat × Value)} (h : IPL v0 v1 v5 v7 v8 a0) (f : Fe a0 env a) (h0 : look env 0 (a0.eval (.tmp 0)) = a0.eval (.tmp 0)) (h1 : look env 1 (a0.eval (.tmp 1)) = a0.eval (.tmp 1)) (h5 : look env 5 (a0.eval (.tmp 5)) = a0.eval (.tmp 5)) (h7 : a.eval (.tmp 7) = u7) (h8 : a.eval (.tmp 8) = u8) : IPL v0 v1 v5 u7 u8 a :=
  ⟨f.size.trans h.size, f.defers.trans h.defers, ((f.at_ 0).trans h0).trans h.s0, ((f.at_ 1).trans h1).trans h.s1, ((f.at_ 5).trans h5).trans h.s5, h7, h8⟩
theorem plE {n i xc : Nat} {xa : Option Addr} {v1 v5 v7 v8 : Value} {Q : Exit → Act → World → Prop} (a0 : Act) (wr : World) (I0 : IPL (.slice xa n xc) v1 v5 v7 v8 a0) (h9 : a0.eval (.tmp 9) = .int .i64 (i : Int)) (hi : n ≤ i) (hQ : ∀ a, IPL (.slice xa n xc) v1 v5 v7 v8 a → Q (.exit 0) a wr) : cPL1.wp Try.prog Q a0 wr := by
  have hii : ¬ (i : Int) < (n : Int) := by omega
  have hid : decide ((i : Int) < (n : Int)) = false := decide_eq_false hii
  clear hi
  have fa0_0 := Fe.refl a0
  unfold cPL1
  refine wp_seq (wp_seq ?_)
  refine wp_region_list ?_
  unfold rPL7
  refine fa0_0.move 41 (.int .i64 (i : Int)) _ (Or.inl rfl) rfl (lb_ I0.size) (wanted_none rfl) ((fa0_0.at_ 9).trans h9) (fun a0_1 fa0_1 => ?_)
  clear fa0_0
  refine fa0_1.move 42 (.slice xa n xc) _ (Or.inl rfl) rfl (lb_ I0.size) (wanted_none rfl) ((fa0_1.at_ 0).trans I0.s0) (fun a0_2 fa0_2 => ?_)
  clear fa0_1
  have r_a0_3 : (execOp a0_2.eval oPL0).run Try.prog (wr) = .ok (.value (.int .i64 (n : Int))) (wr) := by
    unfold oPL0
    have e42 := (show a0_2.eval (.tmp 42) = .slice xa n xc from (fa0_2.at_ 42))
    clear fa0_2 hQ h9
    generalize a0_2.eval = ρ at *
    go_simp
  refine fa0_2.step 43 (.int .i64 (n : Int)) rfl (lb_ I0.size) (wanted_none rfl) r_a0_3 (fun a0_3 fa0_3 => ?_)
  clear r_a0_3
  clear fa0_2
  have r_a0_4 : (execOp a0_3.eval oPL1).run Try.prog (wr) = .ok (.value (.bool false)) (wr) := by
    unfold oPL1
    have e41 := (show a0_3.eval (.tmp 41) = .int .i64 (i : Int) from (fa0_3.at_ 41))
    have e43 := (show a0_3.eval (.tmp 43) = .int .i64 (n : Int) from (fa0_3.at_ 43))
    clear fa0_3 hQ h9
    generalize a0_3.eval = ρ at *
    go_simp
  refine fa0_3.step 44 (.bool false) rfl (lb_ I0.size) (wanted_none rfl) r_a0_4 (fun a0_4 fa0_4 => ?_)
  clear r_a0_4
  clear fa0_3
  refine wpList_nil ?_
  change Code.wp _ _ _ _ _
  refine wp_cond_false (show a0_4.eval (.tmp 44) = .bool false from (fa0_4.at_ 44)) (wp_exit ?_)
  exact hQ a0_4 (I0.keep fa0_4 rfl rfl rfl (show a0_4.eval (.tmp 7) = v7 from ((fa0_4.at_ 7).trans I0.s7)) (show a0_4.eval (.tmp 8) = v8 from ((fa0_4.at_ 8).trans I0.s8)))
set_option maxRecDepth 100000 in
set_option maxHeartbeats 2000000 in
theorem plN {n i xc g o b bw m sc : Nat} {sa : Option Addr} {D : Dk} {s : Sp} {w : World} {U V : Nat → Prop} {v1 : Value} {Q : Exit → Act → World → Prop} (a0 : Act) (wr : World) (I0 : IPL (.slice (some ⟨g, o, none⟩) n xc) v1 (.pointer (some ⟨b, 0, none⟩)) (.slice sa D.I.length sc) (.slice (some ⟨bw, 0, none⟩) 8 8) a0) (h9 : a0.eval (.tmp 9) = .int .i64 (i : Int)) (hi : i < n) (hn : n ≤ 1048576) (hrow : wr.rangeAt g (o + i * 9) (spC s)) (hno : s.no < 4294967296) (h1c : (spC s).toArray.all (·.oneCell') = true) (hg : SfW w wr b bw D sa sc U V) (hI : DkIn D m) (hm : m ≤ 1048575) (hs : DkSafe D) {pe : Bool} (hpe : playE D s = pe) (hd1 : ¬ s.do_ = 1) (hd3 : ¬ s.do_ = 3)
    (hQ : ∀ a W bw' sa' sc' (U' V' : Nat → Prop), IPL (.slice (some ⟨g, o, none⟩) n xc) v1 (.pointer (some ⟨b, 0, none⟩)) (.slice sa' (playD D s).I.length sc') (.slice (some ⟨bw', 0, none⟩) 8 8) a → a.eval (.tmp 9) = .int .i64 ((i : Int) + 1) → SfW w W b bw' (playD D s) sa' sc' U' V' → Q .normal a W) : cPL1.wp Try.prog Q a0 wr := by
  have hii : (i : Int) < (n : Int) := by omega
  have w1 : IntKind.i64.wrap ((i : Int) + 1) = (i : Int) + 1 := by rw [IntKind.wrap_i64]; omega
  have hW : ∀ i, wrOf (playD D s).W i = wrOf D.W i := fun i => by rw [play_wr hs, if_neg hd3, if_neg (fun x => hd1 x.1)]
  have fa0_0 := Fe.refl a0
  unfold cPL1
  refine wp_seq (wp_seq ?_)
  refine wp_region_list ?_
  unfold rPL7
  refine fa0_0.move 41 (.int .i64 (i : Int)) _ (Or.inl rfl) rfl (lb_ I0.size) (wanted_none rfl) ((fa0_0.at_ 9).trans h9) (fun a0_1 fa0_1 => ?_)
  clear fa0_0
  refine fa0_1.move 42 (.slice (some ⟨g, o, none⟩) n xc) _ (Or.inl rfl) rfl (lb_ I0.size) (wanted_none rfl) ((fa0_1.at_ 0).trans I0.s0) (fun a0_2 fa0_2 => ?_)
  clear fa0_1
  have r_a0_3 : (execOp a0_2.eval oPL0).run Try.prog (wr) = .ok (.value (.int .i64 (n : Int))) (wr) := by
    unfold oPL0
    have e42 := (show a0_2.eval (.tmp 42) = .slice (some ⟨g, o, none⟩) n xc from (fa0_2.at_ 42))
    clear fa0_2 hQ h9 hg hs
    generalize a0_2.eval = ρ at *
    go_simp
  refine fa0_2.step 43 (.int .i64 (n : Int)) rfl (lb_ I0.size) (wanted_none rfl) r_a0_3 (fun a0_3 fa0_3 => ?_)
  clear r_a0_3
  clear fa0_2
  have r_a0_4 : (execOp a0_3.eval oPL1).run Try.prog (wr) = .ok (.value (.bool true)) (wr) := by
    unfold oPL1
    have e41 := (show a0_3.eval (.tmp 41) = .int .i64 (i : Int) from (fa0_3.at_ 41))
    have e43 := (show a0_3.eval (.tmp 43) = .int .i64 (n : Int) from (fa0_3.at_ 43))
    clear fa0_3 hQ h9 hg hs
    generalize a0_3.eval = ρ at *
    go_simp
  refine fa0_3.step 44 (.bool true) rfl (lb_ I0.size) (wanted_none rfl) r_a0_4 (fun a0_4 fa0_4 => ?_)
  clear r_a0_4
  clear fa0_3
  refine wpList_nil ?_
  change Code.wp _ _ _ _ _
  refine wp_cond_true (show a0_4.eval (.tmp 44) = .bool true from (fa0_4.at_ 44)) (wp_skip ?_)
  change Code.wp _ _ _ _ _
  refine wp_seq (wp_block (wp_seq ?_))
  refine wp_region_list ?_
  unfold rPL9
  refine fa0_4.move 47 (.slice (some ⟨g, o, none⟩) n xc) _ (Or.inl rfl) rfl (lb_ I0.size) (wanted_none rfl) ((fa0_4.at_ 0).trans I0.s0) (fun a0_5 fa0_5 => ?_)
  clear fa0_4
  refine fa0_5.move 48 (.int .i64 (i : Int)) _ (Or.inl rfl) rfl (lb_ I0.size) (wanted_none rfl) ((fa0_5.at_ 9).trans h9) (fun a0_6 fa0_6 => ?_)
  clear fa0_5
  have r_a0_7 : (execOp a0_6.eval oPL3).run Try.prog (wr) = .ok (.value (.pointer (some ⟨g, o + i * 9, none⟩))) (wr) := by
    unfold oPL3
    have e47 := (show a0_6.eval (.tmp 47) = .slice (some ⟨g, o, none⟩) n xc from (fa0_6.at_ 47))
    have e48 := (show a0_6.eval (.tmp 48) = .int .i64 (i : Int) from (fa0_6.at_ 48))
    clear fa0_6 hQ h9 hg hs
    generalize a0_6.eval = ρ at *
    go_simp
  refine fa0_6.step 49 (.pointer (some ⟨g, o + i * 9, none⟩)) rfl (lb_ I0.size) (wanted_none rfl) r_a0_7 (fun a0_7 fa0_7 => ?_)
  clear r_a0_7
  clear fa0_6
  have r_a0_8 : (execOp a0_7.eval oPL4).run Try.prog (wr) = .ok (.value (.agg (spC s).toArray)) (wr) := by
    unfold oPL4
    exact exec_load_mid 35 _ rfl g (o + i * 9) (show a0_7.eval (.tmp 49) = .pointer (some ⟨g, o + i * 9, none⟩) from (fa0_7.at_ 49)) (spC s) _ hrow Try.underlying35 rfl (by kernel_rfl)
  refine fa0_7.step 50 (.agg (spC s).toArray) rfl (lb_ I0.size) (wanted_none rfl) r_a0_8 (fun a0_8 fa0_8 => ?_)
  clear r_a0_8
  clear fa0_7
  have r_a0_9 : (execOp a0_8.eval oPL5).run Try.prog (wr) = .ok (.value (.pointer (some ⟨wr.heap.size, 0, none⟩))) (wr.alloc (.cells #[.int .i64 0, .int .i64 0, .int .u32 0, .int .i64 0, .int .i64 0, .int .u8 0, .int .u8 0, .slice none 0 0, .slice none 0 0] 35)) := by
    unfold oPL5
    clear fa0_8 hQ h9 hg hs
    generalize a0_8.eval = ρ at *
    go_simp
  refine fa0_8.stepW 10 (.pointer (some ⟨wr.heap.size, 0, none⟩)) rfl (lb_ I0.size) (wanted_none rfl) r_a0_9 (fun a0_9 fa0_9 => ?_)
  clear r_a0_9
  have s2 : Same wr (wr.alloc (.cells #[.int .i64 0, .int .i64 0, .int .u32 0, .int .i64 0, .int .i64 0, .int .u8 0, .int .u8 0, .slice none 0 0, .slice none 0 0] 35)) := (Fr.refl _ wr).alloc _
  have r2 : (wr.alloc (.cells #[.int .i64 0, .int .i64 0, .int .u32 0, .int .i64 0, .int .i64 0, .int .u8 0, .int .u8 0, .slice none 0 0, .slice none 0 0] 35)).heap[wr.heap.size]? = some (.cells #[.int .i64 0, .int .i64 0, .int .u32 0, .int .i64 0, .int .i64 0, .int .u8 0, .int .u8 0, .slice none 0 0, .slice none 0 0] 35 (0, 0)) := heap_alloc_new wr _
  generalize wr.alloc (.cells #[.int .i64 0, .int .i64 0, .int .u32 0, .int .i64 0, .int .i64 0, .int .u8 0, .int .u8 0, .slice none 0 0, .slice none 0 0] 35) = V2 at *
  clear fa0_8
  have r_a0_10 : (execOp a0_9.eval oPL6).run Try.prog (V2) = .ok .skip (World.setCells V2 wr.heap.size 0 (spC s)) := by
    unfold oPL6
    exact exec_store_mid 35 _ _ rfl wr.heap.size 0 (spC s).toArray (show a0_9.eval (.tmp 10) = .pointer (some ⟨wr.heap.size, 0, none⟩) from (fa0_9.at_ 10)) (show a0_9.eval (.tmp 50) = .agg (spC s).toArray from (fa0_9.at_ 50)) (there_row r2 rfl) (by kernel_rfl) h1c
  refine fa0_9.store rfl (wanted_none rfl) r_a0_10 (fun a0_10 fa0_10 => ?_)
  clear r_a0_10
  have s3 : Same wr (World.setCells V2 wr.heap.size 0 (spC s)) := Fr.trans s2 (Fr.setCells (S := fun k => k = wr.heap.size) (fun _ => rfl) _ 0 V2 (Fr.refl _ V2)) (fun k hk e => by have e2 : k = wr.heap.size := e; omega)
  have hB : (World.setCells V2 wr.heap.size 0 (spC s)).heap[wr.heap.size]? = some (.cells (spC s).toArray 35 (0, 0)) := setCells_whole (spC s) _ r2 rfl (there_row r2 rfl)
  generalize World.setCells V2 wr.heap.size 0 (spC s) = V3 at *
  have g3 := hg.on s3
  have hb := lt_of_heap hB
  have xb : ∀ j v, (spC s)[j]? = some v → V3.cell? ⟨wr.heap.size, j, none⟩ = some v := fun j v hj => (cell_of_row _ _ _ _ _ _ hB).trans (by rw [List.getElem?_toArray]; exact hj)
  have ub : ¬ U wr.heap.size := fun e => by have := hg.d.lt _ e; omega
  have rb : V3.rangeAt wr.heap.size 0 (spC s) := fun j v hj => by rw [Nat.zero_add]; exact xb j v hj
  clear fa0_9
  refine wpList_nil ?_
  change Code.wp _ _ _ _ _
  refine wp_seq ?_
  refine wp_region_list ?_
  unfold rPL10
  refine fa0_10.move 51 (.pointer (some ⟨b, 0, none⟩)) _ (Or.inl rfl) rfl (lb_ I0.size) (wanted_none rfl) ((fa0_10.at_ 5).trans I0.s5) (fun a0_11 fa0_11 => ?_)
  clear fa0_10
  have r_a0_12 : (execOp a0_11.eval oPL7).run Try.prog (V3) = .ok (.value (.agg (spC s).toArray)) (V3) := by
    unfold oPL7
    exact exec_load_mid 35 _ rfl wr.heap.size 0 (show a0_11.eval (.tmp 10) = .pointer (some ⟨wr.heap.size, 0, none⟩) from (fa0_11.at_ 10)) (spC s) _ rb Try.underlying35 rfl (by kernel_rfl)
  refine fa0_11.step 52 (.agg (spC s).toArray) rfl (lb_ I0.size) (wanted_none rfl) r_a0_12 (fun a0_12 fa0_12 => ?_)
  clear r_a0_12
  clear fa0_11
  have r_a0_13 : (execOp a0_12.eval oPL8).run Try.prog (V3) = .ok (.enter 9 #[.pointer (some ⟨b, 0, none⟩), .agg (spC s).toArray]) (V3) := by
    unfold oPL8
    have kf : ∀ f, a0_12.eval (.func f) = .func (.func f) #[] #[] := fun _ => rfl
    have e51 := (show a0_12.eval (.tmp 51) = .pointer (some ⟨b, 0, none⟩) from (fa0_12.at_ 51))
    have e52 := (show a0_12.eval (.tmp 52) = .agg (spC s).toArray from (fa0_12.at_ 52))
    clear fa0_12 hQ h9 hg hs
    generalize a0_12.eval = ρ at *
    go_simp
  refine fa0_12.call 53 rfl (lb_ I0.size) (wanted_none rfl) r_a0_13 (play_as (s := s) V3 g3.d hI hm hno hpe) (fun e V4 hR => ?_)
  obtain ⟨rfl, d4, f4⟩ := hR
  clear r_a0_13
  have hB4 : V4.heap[wr.heap.size]? = some (.cells (spC s).toArray 35 (0, 0)) := heap_fr hB f4 ub
  have x0 : V4.cell? ⟨wr.heap.size, 0, none⟩ = some (.int .i64 s.do_) := (cell_of_row _ _ _ _ _ _ hB4).trans rfl
  have x2 : V4.cell? ⟨wr.heap.size, 2, none⟩ = some (.int .u32 (s.no : Int)) := (cell_of_row _ _ _ _ _ _ hB4).trans rfl
  refine ⟨_, rfl, fun a0_13 fa0_13 => ?_⟩
  clear fa0_12
  refine fa0_13.move 11 (.bool pe) _ (Or.inr rfl) rfl (lb_ I0.size) (wanted_none rfl) (fa0_13.at_ 53) (fun a0_14 fa0_14 => ?_)
  clear fa0_13
  refine wpList_nil ?_
  change Code.wp _ _ _ _ _
  refine wp_seq (wp_seq ?_)
  refine wp_region_list ?_
  unfold rPL11
  have r_a0_15 : (execOp a0_14.eval oPL9).run Try.prog (V4) = .ok (.value (.pointer (some ⟨wr.heap.size, 0, none⟩))) (V4) := by
    unfold oPL9
    have e10 := (show a0_14.eval (.tmp 10) = .pointer (some ⟨wr.heap.size, 0, none⟩) from (fa0_14.at_ 10))
    clear fa0_14 hQ h9 hg hs
    generalize a0_14.eval = ρ at *
    go_simp
  refine fa0_14.step 54 (.pointer (some ⟨wr.heap.size, 0, none⟩)) rfl (lb_ I0.size) (wanted_none rfl) r_a0_15 (fun a0_15 fa0_15 => ?_)
  clear r_a0_15
  clear fa0_14
  have r_a0_16 : (execOp a0_15.eval oPL10).run Try.prog (V4) = .ok (.value (.int .i64 s.do_)) (V4) := by
    unfold oPL10
    have e54 := (show a0_15.eval (.tmp 54) = .pointer (some ⟨wr.heap.size, 0, none⟩) from (fa0_15.at_ 54))
    clear fa0_15 hQ h9 hg hs
    generalize a0_15.eval = ρ at *
    go_simp
  refine fa0_15.step 55 (.int .i64 s.do_) rfl (lb_ I0.size) (wanted_none rfl) r_a0_16 (fun a0_16 fa0_16 => ?_)
  clear r_a0_16
  clear fa0_15
  have r_a0_17 : (execOp a0_16.eval oPL11).run Try.prog (V4) = .ok (.value (.bool false)) (V4) := by
    unfold oPL11
    have kc : ∀ v, a0_16.eval (.const v) = v := fun _ => rfl
    have e55 := (show a0_16.eval (.tmp 55) = .int .i64 s.do_ from (fa0_16.at_ 55))
    clear fa0_16 hQ h9 hg hs
    generalize a0_16.eval = ρ at *
    go_simp
  refine fa0_16.step 56 (.bool false) rfl (lb_ I0.size) (wanted_none rfl) r_a0_17 (fun a0_17 fa0_17 => ?_)
  clear r_a0_17
  clear fa0_16
  refine wpList_nil ?_
  change Code.wp _ _ _ _ _
  refine wp_cond_false (show a0_17.eval (.tmp 56) = .bool false from (fa0_17.at_ 56)) (wp_skip ?_)
  change Code.wp _ _ _ _ _
  refine wp_seq ?_
  refine wp_region_list ?_
  unfold rPL16
  have r_a0_18 : (execOp a0_17.eval oPL15).run Try.prog (V4) = .ok (.value (.pointer (some ⟨wr.heap.size, 0, none⟩))) (V4) := by
    unfold oPL15
    have e10 := (show a0_17.eval (.tmp 10) = .pointer (some ⟨wr.heap.size, 0, none⟩) from (fa0_17.at_ 10))
    clear fa0_17 hQ h9 hg hs
    generalize a0_17.eval = ρ at *
    go_simp
  refine fa0_17.step 62 (.pointer (some ⟨wr.heap.size, 0, none⟩)) rfl (lb_ I0.size) (wanted_none rfl) r_a0_18 (fun a0_18 fa0_18 => ?_)
  clear r_a0_18
  clear fa0_17
  have r_a0_19 : (execOp a0_18.eval oPL16).run Try.prog (V4) = .ok (.value (.int .i64 s.do_)) (V4) := by
    unfold oPL16
    have e62 := (show a0_18.eval (.tmp 62) = .pointer (some ⟨wr.heap.size, 0, none⟩) from (fa0_18.at_ 62))
    clear fa0_18 hQ h9 hg hs
    generalize a0_18.eval = ρ at *
    go_simp
  refine fa0_18.step 63 (.int .i64 s.do_) rfl (lb_ I0.size) (wanted_none rfl) r_a0_19 (fun a0_19 fa0_19 => ?_)
  clear r_a0_19
  clear fa0_18
  have r_a0_20 : (execOp a0_19.eval oPL17).run Try.prog (V4) = .ok (.value (.bool false)) (V4) := by
    unfold oPL17
    have kc : ∀ v, a0_19.eval (.const v) = v := fun _ => rfl
    have e63 := (show a0_19.eval (.tmp 63) = .int .i64 s.do_ from (fa0_19.at_ 63))
    clear fa0_19 hQ h9 hg hs
    generalize a0_19.eval = ρ at *
    go_simp
  refine fa0_19.step 64 (.bool false) rfl (lb_ I0.size) (wanted_none rfl) r_a0_20 (fun a0_20 fa0_20 => ?_)
  clear r_a0_20
  clear fa0_19
  refine fa0_20.move 65 (.bool false) _ (Or.inl rfl) rfl (lb_ I0.size) (wanted_none rfl) (fa0_20.at_ 64) (fun a0_21 fa0_21 => ?_)
  clear fa0_20
  refine fa0_21.skip 66 rfl (lb_ I0.size) ((wanted_at (t := 65) (c := false) (b := true) rfl rfl rfl (lb_ (fa0_21.size.trans I0.size)) (fa0_21.at_ 65)).trans (by rfl)) (fun a0_22 fa0_22 => ?_)
  clear fa0_21
  have r_a0_23 : (execOp a0_22.eval oPL18).run Try.prog (V4) = .ok (.value (.bool false)) (V4) := by
    unfold oPL18
    have kc : ∀ v, a0_22.eval (.const v) = v := fun _ => rfl
    have e65 := (show a0_22.eval (.tmp 65) = .bool false from (fa0_22.at_ 65))
    have e66 := (show a0_22.eval (.tmp 66) = undef from (fa0_22.at_ 66))
    clear fa0_22 hQ h9 hg hs
    generalize a0_22.eval = ρ at *
    go_simp
  refine fa0_22.step 67 (.bool false) rfl (lb_ I0.size) (wanted_none rfl) r_a0_23 (fun a0_23 fa0_23 => ?_)
  clear r_a0_23
  clear fa0_22
  refine wpList_nil ?_
  change Code.wp _ _ _ _ _
  refine wp_cond_false (show a0_23.eval (.tmp 67) = .bool false from (fa0_23.at_ 67)) (wp_skip ?_)
  change Code.wp _ _ _ _ _
  refine wp_region_list ?_
  unfold rPL8
  refine fa0_23.move 45 (.int .i64 (i : Int)) _ (Or.inl rfl) rfl (lb_ I0.size) (wanted_none rfl) ((fa0_23.at_ 9).trans h9) (fun a0_24 fa0_24 => ?_)
  clear fa0_23
  have r_a0_25 : (execOp a0_24.eval oPL2).run Try.prog (V4) = .ok (.value (.int .i64 ((i : Int) + 1))) (V4) := by
    unfold oPL2
    have kc : ∀ v, a0_24.eval (.const v) = v := fun _ => rfl
    have e45 := (show a0_24.eval (.tmp 45) = .int .i64 (i : Int) from (fa0_24.at_ 45))
    clear fa0_24 hQ h9 hg hs
    generalize a0_24.eval = ρ at *
    go_simp
  refine fa0_24.step 46 (.int .i64 ((i : Int) + 1)) rfl (lb_ I0.size) (wanted_none rfl) r_a0_25 (fun a0_25 fa0_25 => ?_)
  clear r_a0_25
  clear fa0_24
  refine fa0_25.move 9 (.int .i64 ((i : Int) + 1)) _ (Or.inr rfl) rfl (lb_ I0.size) (wanted_none rfl) (fa0_25.at_ 46) (fun a0_26 fa0_26 => ?_)
  clear fa0_25
  refine wpList_nil ?_
  exact hQ a0_26 V4 bw sa sc _ _ (I0.keep fa0_26 rfl rfl rfl (by rw [play_I hd3]; exact (show a0_26.eval (.tmp 7) = .slice sa D.I.length sc from ((fa0_26.at_ 7).trans I0.s7))) (show a0_26.eval (.tmp 8) = .slice (some ⟨bw, 0, none⟩) 8 8 from ((fa0_26.at_ 8).trans I0.s8))) (show a0_26.eval (.tmp 9) = .int .i64 ((i : Int) + 1) from (fa0_26.at_ 9)) (g3.play d4 f4 (play_I hd3) hW)
set_option maxRecDepth 100000 in
set_option maxHeartbeats 2000000 in
theorem plF {n i xc g o b bw m sc : Nat} {sa : Option Addr} {D : Dk} {s : Sp} {w : World} {U V : Nat → Prop} {v1 : Value} {Q : Exit → Act → World → Prop} (a0 : Act) (wr : World) (I0 : IPL (.slice (some ⟨g, o, none⟩) n xc) v1 (.pointer (some ⟨b, 0, none⟩)) (.slice sa D.I.length sc) (.slice (some ⟨bw, 0, none⟩) 8 8) a0) (h9 : a0.eval (.tmp 9) = .int .i64 (i : Int)) (hi : i < n) (hn : n ≤ 1048576) (hrow : wr.rangeAt g (o + i * 9) (spC s)) (hno : s.no < 4294967296) (h1c : (spC s).toArray.all (·.oneCell') = true) (hg : SfW w wr b bw D sa sc U V) (hI : DkIn D m) (hm : m ≤ 1048575) (hs : DkSafe D) (hpe : playE D s = false) (hd1 : s.do_ = 1)
    (hQ : ∀ a W bw' sa' sc' (U' V' : Nat → Prop), IPL (.slice (some ⟨g, o, none⟩) n xc) v1 (.pointer (some ⟨b, 0, none⟩)) (.slice sa' (playD D s).I.length sc') (.slice (some ⟨bw', 0, none⟩) 8 8) a → a.eval (.tmp 9) = .int .i64 ((i : Int) + 1) → SfW w W b bw' (playD D s) sa' sc' U' V' → Q .normal a W) : cPL1.wp Try.prog Q a0 wr := by
  have hii : (i : Int) < (n : Int) := by omega
  have w1 : IntKind.i64.wrap ((i : Int) + 1) = (i : Int) + 1 := by rw [IntKind.wrap_i64]; omega
  have hd3 : ¬ s.do_ = 3 := by omega
  have hW : ∀ i, wrOf (playD D s).W i = wrOf D.W i := fun i => by rw [play_wr hs, if_neg hd3, if_neg (fun x => by rw [hpe] at x; exact absurd x.2.1 (by decide))]
  have fa0_0 := Fe.refl a0
  unfold cPL1
  refine wp_seq (wp_seq ?_)
  refine wp_region_list ?_
  unfold rPL7
  refine fa0_0.move 41 (.int .i64 (i : Int)) _ (Or.inl rfl) rfl (lb_ I0.size) (wanted_none rfl) ((fa0_0.at_ 9).trans h9) (fun a0_1 fa0_1 => ?_)
  clear fa0_0
  refine fa0_1.move 42 (.slice (some ⟨g, o, none⟩) n xc) _ (Or.inl rfl) rfl (lb_ I0.size) (wanted_none rfl) ((fa0_1.at_ 0).trans I0.s0) (fun a0_2 fa0_2 => ?_)
  clear fa0_1
  have r_a0_3 : (execOp a0_2.eval oPL0).run Try.prog (wr) = .ok (.value (.int .i64 (n : Int))) (wr) := by
    unfold oPL0
    have e42 := (show a0_2.eval (.tmp 42) = .slice (some ⟨g, o, none⟩) n xc from (fa0_2.at_ 42))
    clear fa0_2 hQ h9 hg hs
    generalize a0_2.eval = ρ at *
    go_simp
  refine fa0_2.step 43 (.int .i64 (n : Int)) rfl (lb_ I0.size) (wanted_none rfl) r_a0_3 (fun a0_3 fa0_3 => ?_)
  clear r_a0_3
  clear fa0_2
  have r_a0_4 : (execOp a0_3.eval oPL1).run Try.prog (wr) = .ok (.value (.bool true)) (wr) := by
    unfold oPL1
    have e41 := (show a0_3.eval (.tmp 41) = .int .i64 (i : Int) from (fa0_3.at_ 41))
    have e43 := (show a0_3.eval (.tmp 43) = .int .i64 (n : Int) from (fa0_3.at_ 43))
    clear fa0_3 hQ h9 hg hs
    generalize a0_3.eval = ρ at *
    go_simp
  refine fa0_3.step 44 (.bool true) rfl (lb_ I0.size) (wanted_none rfl) r_a0_4 (fun a0_4 fa0_4 => ?_)
  clear r_a0_4
  clear fa0_3
  refine wpList_nil ?_
  change Code.wp _ _ _ _ _
  refine wp_cond_true (show a0_4.eval (.tmp 44) = .bool true from (fa0_4.at_ 44)) (wp_skip ?_)
  change Code.wp _ _ _ _ _
  refine wp_seq (wp_block (wp_seq ?_))
  refine wp_region_list ?_
  unfold rPL9
  refine fa0_4.move 47 (.slice (some ⟨g, o, none⟩) n xc) _ (Or.inl rfl) rfl (lb_ I0.size) (wanted_none rfl) ((fa0_4.at_ 0).trans I0.s0) (fun a0_5 fa0_5 => ?_)
  clear fa0_4
  refine fa0_5.move 48 (.int .i64 (i : Int)) _ (Or.inl rfl) rfl (lb_ I0.size) (wanted_none rfl) ((fa0_5.at_ 9).trans h9) (fun a0_6 fa0_6 => ?_)
  clear fa0_5
  have r_a0_7 : (execOp a0_6.eval oPL3).run Try.prog (wr) = .ok (.value (.pointer (some ⟨g, o + i * 9, none⟩))) (wr) := by
    unfold oPL3
    have e47 := (show a0_6.eval (.tmp 47) = .slice (some ⟨g, o, none⟩) n xc from (fa0_6.at_ 47))
    have e48 := (show a0_6.eval (.tmp 48) = .int .i64 (i : Int) from (fa0_6.at_ 48))
    clear fa0_6 hQ h9 hg hs
    generalize a0_6.eval = ρ at *
    go_simp
  refine fa0_6.step 49 (.pointer (some ⟨g, o + i * 9, none⟩)) rfl (lb_ I0.size) (wanted_none rfl) r_a0_7 (fun a0_7 fa0_7 => ?_)
  clear r_a0_7
  clear fa0_6
  have r_a0_8 : (execOp a0_7.eval oPL4).run Try.prog (wr) = .ok (.value (.agg (spC s).toArray)) (wr) := by
    unfold oPL4
    exact exec_load_mid 35 _ rfl g (o + i * 9) (show a0_7.eval (.tmp 49) = .pointer (some ⟨g, o + i * 9, none⟩) from (fa0_7.at_ 49)) (spC s) _ hrow Try.underlying35 rfl (by kernel_rfl)
  refine fa0_7.step 50 (.agg (spC s).toArray) rfl (lb_ I0.size) (wanted_none rfl) r_a0_8 (fun a0_8 fa0_8 => ?_)
  clear r_a0_8
  clear fa0_7
  have r_a0_9 : (execOp a0_8.eval oPL5).run Try.prog (wr) = .ok (.value (.pointer (some ⟨wr.heap.size, 0, none⟩))) (wr.alloc (.cells #[.int .i64 0, .int .i64 0, .int .u32 0, .int .i64 0, .int .i64 0, .int .u8 0, .int .u8 0, .slice none 0 0, .slice none 0 0] 35)) := by
    unfold oPL5
    clear fa0_8 hQ h9 hg hs
    generalize a0_8.eval = ρ at *
    go_simp
  refine fa0_8.stepW 10 (.pointer (some ⟨wr.heap.size, 0, none⟩)) rfl (lb_ I0.size) (wanted_none rfl) r_a0_9 (fun a0_9 fa0_9 => ?_)
  clear r_a0_9
  have s2 : Same wr (wr.alloc (.cells #[.int .i64 0, .int .i64 0, .int .u32 0, .int .i64 0, .int .i64 0, .int .u8 0, .int .u8 0, .slice none 0 0, .slice none 0 0] 35)) := (Fr.refl _ wr).alloc _
  have r2 : (wr.alloc (.cells #[.int .i64 0, .int .i64 0, .int .u32 0, .int .i64 0, .int .i64 0, .int .u8 0, .int .u8 0, .slice none 0 0, .slice none 0 0] 35)).heap[wr.heap.size]? = some (.cells #[.int .i64 0, .int .i64 0, .int .u32 0, .int .i64 0, .int .i64 0, .int .u8 0, .int .u8 0, .slice none 0 0, .slice none 0 0] 35 (0, 0)) := heap_alloc_new wr _
  generalize wr.alloc (.cells #[.int .i64 0, .int .i64 0, .int .u32 0, .int .i64 0, .int .i64 0, .int .u8 0, .int .u8 0, .slice none 0 0, .slice none 0 0] 35) = V2 at *
  clear fa0_8
  have r_a0_10 : (execOp a0_9.eval oPL6).run Try.prog (V2) = .ok .skip (World.setCells V2 wr.heap.size 0 (spC s)) := by
    unfold oPL6
    exact exec_store_mid 35 _ _ rfl wr.heap.size 0 (spC s).toArray (show a0_9.eval (.tmp 10) = .pointer (some ⟨wr.heap.size, 0, none⟩) from (fa0_9.at_ 10)) (show a0_9.eval (.tmp 50) = .agg (spC s).toArray from (fa0_9.at_ 50)) (there_row r2 rfl) (by kernel_rfl) h1c
  refine fa0_9.store rfl (wanted_none rfl) r_a0_10 (fun a0_10 fa0_10 => ?_)
  clear r_a0_10
  have s3 : Same wr (World.setCells V2 wr.heap.size 0 (spC s)) := Fr.trans s2 (Fr.setCells (S := fun k => k = wr.heap.size) (fun _ => rfl) _ 0 V2 (Fr.refl _ V2)) (fun k hk e => by have e2 : k = wr.heap.size := e; omega)
  have hB : (World.setCells V2 wr.heap.size 0 (spC s)).heap[wr.heap.size]? = some (.cells (spC s).toArray 35 (0, 0)) := setCells_whole (spC s) _ r2 rfl (there_row r2 rfl)
  generalize World.setCells V2 wr.heap.size 0 (spC s) = V3 at *
  have g3 := hg.on s3
  have hb := lt_of_heap hB
  have xb : ∀ j v, (spC s)[j]? = some v → V3.cell? ⟨wr.heap.size, j, none⟩ = some v := fun j v hj => (cell_of_row _ _ _ _ _ _ hB).trans (by rw [List.getElem?_toArray]; exact hj)
  have ub : ¬ U wr.heap.size := fun e => by have := hg.d.lt _ e; omega
  have rb : V3.rangeAt wr.heap.size 0 (spC s) := fun j v hj => by rw [Nat.zero_add]; exact xb j v hj
  clear fa0_9
  refine wpList_nil ?_
  change Code.wp _ _ _ _ _
  refine wp_seq ?_
  refine wp_region_list ?_
  unfold rPL10
  refine fa0_10.move 51 (.pointer (some ⟨b, 0, none⟩)) _ (Or.inl rfl) rfl (lb_ I0.size) (wanted_none rfl) ((fa0_10.at_ 5).trans I0.s5) (fun a0_11 fa0_11 => ?_)
  clear fa0_10
  have r_a0_12 : (execOp a0_11.eval oPL7).run Try.prog (V3) = .ok (.value (.agg (spC s).toArray)) (V3) := by
    unfold oPL7
    exact exec_load_mid 35 _ rfl wr.heap.size 0 (show a0_11.eval (.tmp 10) = .pointer (some ⟨wr.heap.size, 0, none⟩) from (fa0_11.at_ 10)) (spC s) _ rb Try.underlying35 rfl (by kernel_rfl)
  refine fa0_11.step 52 (.agg (spC s).toArray) rfl (lb_ I0.size) (wanted_none rfl) r_a0_12 (fun a0_12 fa0_12 => ?_)
  clear r_a0_12
  clear fa0_11
  have r_a0_13 : (execOp a0_12.eval oPL8).run Try.prog (V3) = .ok (.enter 9 #[.pointer (some ⟨b, 0, none⟩), .agg (spC s).toArray]) (V3) := by
    unfold oPL8
    have kf : ∀ f, a0_12.eval (.func f) = .func (.func f) #[] #[] := fun _ => rfl
    have e51 := (show a0_12.eval (.tmp 51) = .pointer (some ⟨b, 0, none⟩) from (fa0_12.at_ 51))
    have e52 := (show a0_12.eval (.tmp 52) = .agg (spC s).toArray from (fa0_12.at_ 52))
    clear fa0_12 hQ h9 hg hs
    generalize a0_12.eval = ρ at *
    go_simp
  refine fa0_12.call 53 rfl (lb_ I0.size) (wanted_none rfl) r_a0_13 (play_as (s := s) V3 g3.d hI hm hno hpe) (fun e V4 hR => ?_)
  obtain ⟨rfl, d4, f4⟩ := hR
  clear r_a0_13
  have hB4 : V4.heap[wr.heap.size]? = some (.cells (spC s).toArray 35 (0, 0)) := heap_fr hB f4 ub
  have x0 : V4.cell? ⟨wr.heap.size, 0, none⟩ = some (.int .i64 s.do_) := (cell_of_row _ _ _ _ _ _ hB4).trans rfl
  have x2 : V4.cell? ⟨wr.heap.size, 2, none⟩ = some (.int .u32 (s.no : Int)) := (cell_of_row _ _ _ _ _ _ hB4).trans rfl
  refine ⟨_, rfl, fun a0_13 fa0_13 => ?_⟩
  clear fa0_12
  refine fa0_13.move 11 (.bool false) _ (Or.inr rfl) rfl (lb_ I0.size) (wanted_none rfl) (fa0_13.at_ 53) (fun a0_14 fa0_14 => ?_)
  clear fa0_13
  refine wpList_nil ?_
  change Code.wp _ _ _ _ _
  refine wp_seq (wp_seq ?_)
  refine wp_region_list ?_
  unfold rPL11
  have r_a0_15 : (execOp a0_14.eval oPL9).run Try.prog (V4) = .ok (.value (.pointer (some ⟨wr.heap.size, 0, none⟩))) (V4) := by
    unfold oPL9
    have e10 := (show a0_14.eval (.tmp 10) = .pointer (some ⟨wr.heap.size, 0, none⟩) from (fa0_14.at_ 10))
    clear fa0_14 hQ h9 hg hs
    generalize a0_14.eval = ρ at *
    go_simp
  refine fa0_14.step 54 (.pointer (some ⟨wr.heap.size, 0, none⟩)) rfl (lb_ I0.size) (wanted_none rfl) r_a0_15 (fun a0_15 fa0_15 => ?_)
  clear r_a0_15
  clear fa0_14
  have r_a0_16 : (execOp a0_15.eval oPL10).run Try.prog (V4) = .ok (.value (.int .i64 s.do_)) (V4) := by
    unfold oPL10
    have e54 := (show a0_15.eval (.tmp 54) = .pointer (some ⟨wr.heap.size, 0, none⟩) from (fa0_15.at_ 54))
    clear fa0_15 hQ h9 hg hs
    generalize a0_15.eval = ρ at *
    go_simp
  refine fa0_15.step 55 (.int .i64 s.do_) rfl (lb_ I0.size) (wanted_none rfl) r_a0_16 (fun a0_16 fa0_16 => ?_)
  clear r_a0_16
  clear fa0_15
  have r_a0_17 : (execOp a0_16.eval oPL11).run Try.prog (V4) = .ok (.value (.bool false)) (V4) := by
    unfold oPL11
    have kc : ∀ v, a0_16.eval (.const v) = v := fun _ => rfl
    have e55 := (show a0_16.eval (.tmp 55) = .int .i64 s.do_ from (fa0_16.at_ 55))
    clear fa0_16 hQ h9 hg hs
    generalize a0_16.eval = ρ at *
    go_simp
  refine fa0_16.step 56 (.bool false) rfl (lb_ I0.size) (wanted_none rfl) r_a0_17 (fun a0_17 fa0_17 => ?_)
  clear r_a0_17
  clear fa0_16
  refine wpList_nil ?_
  change Code.wp _ _ _ _ _
  refine wp_cond_false (show a0_17.eval (.tmp 56) = .bool false from (fa0_17.at_ 56)) (wp_skip ?_)
  change Code.wp _ _ _ _ _
  refine wp_seq ?_
  refine wp_region_list ?_
  unfold rPL16
  have r_a0_18 : (execOp a0_17.eval oPL15).run Try.prog (V4) = .ok (.value (.pointer (some ⟨wr.heap.size, 0, none⟩))) (V4) := by
    unfold oPL15
    have e10 := (show a0_17.eval (.tmp 10) = .pointer (some ⟨wr.heap.size, 0, none⟩) from (fa0_17.at_ 10))
    clear fa0_17 hQ h9 hg hs
    generalize a0_17.eval = ρ at *
    go_simp
  refine fa0_17.step 62 (.pointer (some ⟨wr.heap.size, 0, none⟩)) rfl (lb_ I0.size) (wanted_none rfl) r_a0_18 (fun a0_18 fa0_18 => ?_)
  clear r_a0_18
  clear fa0_17
  have r_a0_19 : (execOp a0_18.eval oPL16).run Try.prog (V4) = .ok (.value (.int .i64 s.do_)) (V4) := by
    unfold oPL16
    have e62 := (show a0_18.eval (.tmp 62) = .pointer (some ⟨wr.heap.size, 0, none⟩) from (fa0_18.at_ 62))
    clear fa0_18 hQ h9 hg hs
    generalize a0_18.eval = ρ at *
    go_simp
  refine fa0_18.step 63 (.int .i64 s.do_) rfl (lb_ I0.size) (wanted_none rfl) r_a0_19 (fun a0_19 fa0_19 => ?_)
  clear r_a0_19
  clear fa0_18
  have r_a0_20 : (execOp a0_19.eval oPL17).run Try.prog (V4) = .ok (.value (.bool true)) (V4) := by
    unfold oPL17
    have kc : ∀ v, a0_19.eval (.const v) = v := fun _ => rfl
    have e63 := (show a0_19.eval (.tmp 63) = .int .i64 s.do_ from (fa0_19.at_ 63))
    clear fa0_19 hQ h9 hg hs
    generalize a0_19.eval = ρ at *
    go_simp
  refine fa0_19.step 64 (.bool true) rfl (lb_ I0.size) (wanted_none rfl) r_a0_20 (fun a0_20 fa0_20 => ?_)
  clear r_a0_20
  clear fa0_19
  refine fa0_20.move 65 (.bool true) _ (Or.inl rfl) rfl (lb_ I0.size) (wanted_none rfl) (fa0_20.at_ 64) (fun a0_21 fa0_21 => ?_)
  clear fa0_20
  refine fa0_21.move 66 (.bool false) _ (Or.inl rfl) rfl (lb_ I0.size) ((wanted_at (t := 65) (c := true) (b := true) rfl rfl rfl (lb_ (fa0_21.size.trans I0.size)) (fa0_21.at_ 65)).trans (by rfl)) (fa0_21.at_ 11) (fun a0_22 fa0_22 => ?_)
  clear fa0_21
  have r_a0_23 : (execOp a0_22.eval oPL18).run Try.prog (V4) = .ok (.value (.bool false)) (V4) := by
    unfold oPL18
    have kc : ∀ v, a0_22.eval (.const v) = v := fun _ => rfl
    have e65 := (show a0_22.eval (.tmp 65) = .bool true from (fa0_22.at_ 65))
    have e66 := (show a0_22.eval (.tmp 66) = .bool false from (fa0_22.at_ 66))
    clear fa0_22 hQ h9 hg hs
    generalize a0_22.eval = ρ at *
    go_simp
  refine fa0_22.step 67 (.bool false) rfl (lb_ I0.size) (wanted_none rfl) r_a0_23 (fun a0_23 fa0_23 => ?_)
  clear r_a0_23
  clear fa0_22
  refine wpList_nil ?_
  change Code.wp _ _ _ _ _
  refine wp_cond_false (show a0_23.eval (.tmp 67) = .bool false from (fa0_23.at_ 67)) (wp_skip ?_)
  change Code.wp _ _ _ _ _
  refine wp_region_list ?_
  unfold rPL8
  refine fa0_23.move 45 (.int .i64 (i : Int)) _ (Or.inl rfl) rfl (lb_ I0.size) (wanted_none rfl) ((fa0_23.at_ 9).trans h9) (fun a0_24 fa0_24 => ?_)
  clear fa0_23
  have r_a0_25 : (execOp a0_24.eval oPL2).run Try.prog (V4) = .ok (.value (.int .i64 ((i : Int) + 1))) (V4) := by
    unfold oPL2
    have kc : ∀ v, a0_24.eval (.const v) = v := fun _ => rfl
    have e45 := (show a0_24.eval (.tmp 45) = .int .i64 (i : Int) from (fa0_24.at_ 45))
    clear fa0_24 hQ h9 hg hs
    generalize a0_24.eval = ρ at *
    go_simp
  refine fa0_24.step 46 (.int .i64 ((i : Int) + 1)) rfl (lb_ I0.size) (wanted_none rfl) r_a0_25 (fun a0_25 fa0_25 => ?_)
  clear r_a0_25
  clear fa0_24
  refine fa0_25.move 9 (.int .i64 ((i : Int) + 1)) _ (Or.inr rfl) rfl (lb_ I0.size) (wanted_none rfl) (fa0_25.at_ 46) (fun a0_26 fa0_26 => ?_)
  clear fa0_25
  refine wpList_nil ?_
  exact hQ a0_26 V4 bw sa sc _ _ (I0.keep fa0_26 rfl rfl rfl (by rw [play_I hd3]; exact (show a0_26.eval (.tmp 7) = .slice sa D.I.length sc from ((fa0_26.at_ 7).trans I0.s7))) (show a0_26.eval (.tmp 8) = .slice (some ⟨bw, 0, none⟩) 8 8 from ((fa0_26.at_ 8).trans I0.s8))) (show a0_26.eval (.tmp 9) = .int .i64 ((i : Int) + 1) from (fa0_26.at_ 9)) (g3.play d4 f4 (play_I hd3) hW)
set_option maxRecDepth 100000 in
set_option maxHeartbeats 2000000 in
theorem plS {n i xc g o b bw m sc : Nat} {sa : Option Addr} {D : Dk} {s : Sp} {w : World} {U V : Nat → Prop} {v1 : Value} {Q : Exit → Act → World → Prop} (a0 : Act) (wr : World) (I0 : IPL (.slice (some ⟨g, o, none⟩) n xc) v1 (.pointer (some ⟨b, 0, none⟩)) (.slice sa D.I.length sc) (.slice (some ⟨bw, 0, none⟩) 8 8) a0) (h9 : a0.eval (.tmp 9) = .int .i64 (i : Int)) (hi : i < n) (hn : n ≤ 1048576) (hrow : wr.rangeAt g (o + i * 9) (spC s)) (hno : s.no < 4294967296) (h1c : (spC s).toArray.all (·.oneCell') = true) (hg : SfW w wr b bw D sa sc U V) (hI : DkIn D m) (hm : m ≤ 1048575) (hs : DkSafe D) (hd3 : s.do_ = 3)
    (hQ : ∀ a W bw' sa' sc' (U' V' : Nat → Prop), IPL (.slice (some ⟨g, o, none⟩) n xc) v1 (.pointer (some ⟨b, 0, none⟩)) (.slice sa' (playD D s).I.length sc') (.slice (some ⟨bw', 0, none⟩) 8 8) a → a.eval (.tmp 9) = .int .i64 ((i : Int) + 1) → SfW w W b bw' (playD D s) sa' sc' U' V' → Q .normal a W) : cPL1.wp Try.prog Q a0 wr := by
  have hii : (i : Int) < (n : Int) := by omega
  have w1 : IntKind.i64.wrap ((i : Int) + 1) = (i : Int) + 1 := by rw [IntKind.wrap_i64]; omega
  have hpe : playE D s = true := by unfold playE; rw [if_neg (by omega), if_neg (by omega), if_pos hd3, hs.off]; rfl
  have hW : wrOf (playD D s).W = fun _ => [] := funext fun i => by rw [play_wr hs, if_pos hd3]
  have hPI : (playD D s).P = (playD D s).I := by unfold playD; rw [if_neg (by omega), if_neg (by omega), if_pos hd3, hs.off]; exact (sync_safe hs).2
  have hI5 := play_in (s := s) hI
  have hoff5 := (play_off D s).1.trans hs.off
  have q5 := hI5.sm (m := 1048576) (by omega) (by decide)
  have fa0_0 := Fe.refl a0
  unfold cPL1
  refine wp_seq (wp_seq ?_)
  refine wp_region_list ?_
  unfold rPL7
  refine fa0_0.move 41 (.int .i64 (i : Int)) _ (Or.inl rfl) rfl (lb_ I0.size) (wanted_none rfl) ((fa0_0.at_ 9).trans h9) (fun a0_1 fa0_1 => ?_)
  clear fa0_0
  refine fa0_1.move 42 (.slice (some ⟨g, o, none⟩) n xc) _ (Or.inl rfl) rfl (lb_ I0.size) (wanted_none rfl) ((fa0_1.at_ 0).trans I0.s0) (fun a0_2 fa0_2 => ?_)
  clear fa0_1
  have r_a0_3 : (execOp a0_2.eval oPL0).run Try.prog (wr) = .ok (.value (.int .i64 (n : Int))) (wr) := by
    unfold oPL0
    have e42 := (show a0_2.eval (.tmp 42) = .slice (some ⟨g, o, none⟩) n xc from (fa0_2.at_ 42))
    clear fa0_2 hQ h9 hg hs
    generalize a0_2.eval = ρ at *
    go_simp
  refine fa0_2.step 43 (.int .i64 (n : Int)) rfl (lb_ I0.size) (wanted_none rfl) r_a0_3 (fun a0_3 fa0_3 => ?_)
  clear r_a0_3
  clear fa0_2
  have r_a0_4 : (execOp a0_3.eval oPL1).run Try.prog (wr) = .ok (.value (.bool true)) (wr) := by
    unfold oPL1
    have e41 := (show a0_3.eval (.tmp 41) = .int .i64 (i : Int) from (fa0_3.at_ 41))
    have e43 := (show a0_3.eval (.tmp 43) = .int .i64 (n : Int) from (fa0_3.at_ 43))
    clear fa0_3 hQ h9 hg hs
    generalize a0_3.eval = ρ at *
    go_simp
  refine fa0_3.step 44 (.bool true) rfl (lb_ I0.size) (wanted_none rfl) r_a0_4 (fun a0_4 fa0_4 => ?_)
  clear r_a0_4
  clear fa0_3
  refine wpList_nil ?_
  change Code.wp _ _ _ _ _
  refine wp_cond_true (show a0_4.eval (.tmp 44) = .bool true from (fa0_4.at_ 44)) (wp_skip ?_)
  change Code.wp _ _ _ _ _
  refine wp_seq (wp_block (wp_seq ?_))
  refine wp_region_list ?_
  unfold rPL9
  refine fa0_4.move 47 (.slice (some ⟨g, o, none⟩) n xc) _ (Or.inl rfl) rfl (lb_ I0.size) (wanted_none rfl) ((fa0_4.at_ 0).trans I0.s0) (fun a0_5 fa0_5 => ?_)
  clear fa0_4
  refine fa0_5.move 48 (.int .i64 (i : Int)) _ (Or.inl rfl) rfl (lb_ I0.size) (wanted_none rfl) ((fa0_5.at_ 9).trans h9) (fun a0_6 fa0_6 => ?_)
  clear fa0_5
  have r_a0_7 : (execOp a0_6.eval oPL3).run Try.prog (wr) = .ok (.value (.pointer (some ⟨g, o + i * 9, none⟩))) (wr) := by
    unfold oPL3
    have e47 := (show a0_6.eval (.tmp 47) = .slice (some ⟨g, o, none⟩) n xc from (fa0_6.at_ 47))
    have e48 := (show a0_6.eval (.tmp 48) = .int .i64 (i : Int) from (fa0_6.at_ 48))
    clear fa0_6 hQ h9 hg hs
    generalize a0_6.eval = ρ at *
    go_simp
  refine fa0_6.step 49 (.pointer (some ⟨g, o + i * 9, none⟩)) rfl (lb_ I0.size) (wanted_none rfl) r_a0_7 (fun a0_7 fa0_7 => ?_)
  clear r_a0_7
  clear fa0_6
  have r_a0_8 : (execOp a0_7.eval oPL4).run Try.prog (wr) = .ok (.value (.agg (spC s).toArray)) (wr) := by
    unfold oPL4
    exact exec_load_mid 35 _ rfl g (o + i * 9) (show a0_7.eval (.tmp 49) = .pointer (some ⟨g, o + i * 9, none⟩) from (fa0_7.at_ 49)) (spC s) _ hrow Try.underlying35 rfl (by kernel_rfl)
  refine fa0_7.step 50 (.agg (spC s).toArray) rfl (lb_ I0.size) (wanted_none rfl) r_a0_8 (fun a0_8 fa0_8 => ?_)
  clear r_a0_8
  clear fa0_7
  have r_a0_9 : (execOp a0_8.eval oPL5).run Try.prog (wr) = .ok (.value (.pointer (some ⟨wr.heap.size, 0, none⟩))) (wr.alloc (.cells #[.int .i64 0, .int .i64 0, .int .u32 0, .int .i64 0, .int .i64 0, .int .u8 0, .int .u8 0, .slice none 0 0, .slice none 0 0] 35)) := by
    unfold oPL5
    clear fa0_8 hQ h9 hg hs
    generalize a0_8.eval = ρ at *
    go_simp
  refine fa0_8.stepW 10 (.pointer (some ⟨wr.heap.size, 0, none⟩)) rfl (lb_ I0.size) (wanted_none rfl) r_a0_9 (fun a0_9 fa0_9 => ?_)
  clear r_a0_9
  have s2 : Same wr (wr.alloc (.cells #[.int .i64 0, .int .i64 0, .int .u32 0, .int .i64 0, .int .i64 0, .int .u8 0, .int .u8 0, .slice none 0 0, .slice none 0 0] 35)) := (Fr.refl _ wr).alloc _
  have r2 : (wr.alloc (.cells #[.int .i64 0, .int .i64 0, .int .u32 0, .int .i64 0, .int .i64 0, .int .u8 0, .int .u8 0, .slice none 0 0, .slice none 0 0] 35)).heap[wr.heap.size]? = some (.cells #[.int .i64 0, .int .i64 0, .int .u32 0, .int .i64 0, .int .i64 0, .int .u8 0, .int .u8 0, .slice none 0 0, .slice none 0 0] 35 (0, 0)) := heap_alloc_new wr _
  generalize wr.alloc (.cells #[.int .i64 0, .int .i64 0, .int .u32 0, .int .i64 0, .int .i64 0, .int .u8 0, .int .u8 0, .slice none 0 0, .slice none 0 0] 35) = V2 at *
  clear fa0_8
  have r_a0_10 : (execOp a0_9.eval oPL6).run Try.prog (V2) = .ok .skip (World.setCells V2 wr.heap.size 0 (spC s)) := by
    unfold oPL6
    exact exec_store_mid 35 _ _ rfl wr.heap.size 0 (spC s).toArray (show a0_9.eval (.tmp 10) = .pointer (some ⟨wr.heap.size, 0, none⟩) from (fa0_9.at_ 10)) (show a0_9.eval (.tmp 50) = .agg (spC s).toArray from (fa0_9.at_ 50)) (there_row r2 rfl) (by kernel_rfl) h1c
  refine fa0_9.store rfl (wanted_none rfl) r_a0_10 (fun a0_10 fa0_10 => ?_)
  clear r_a0_10
  have s3 : Same wr (World.setCells V2 wr.heap.size 0 (spC s)) := Fr.trans s2 (Fr.setCells (S := fun k => k = wr.heap.size) (fun _ => rfl) _ 0 V2 (Fr.refl _ V2)) (fun k hk e => by have e2 : k = wr.heap.size := e; omega)
  have hB : (World.setCells V2 wr.heap.size 0 (spC s)).heap[wr.heap.size]? = some (.cells (spC s).toArray 35 (0, 0)) := setCells_whole (spC s) _ r2 rfl (there_row r2 rfl)
  generalize World.setCells V2 wr.heap.size 0 (spC s) = V3 at *
  have g3 := hg.on s3
  have hb := lt_of_heap hB
  have xb : ∀ j v, (spC s)[j]? = some v → V3.cell? ⟨wr.heap.size, j, none⟩ = some v := fun j v hj => (cell_of_row _ _ _ _ _ _ hB).trans (by rw [List.getElem?_toArray]; exact hj)
  have ub : ¬ U wr.heap.size := fun e => by have := hg.d.lt _ e; omega
  have rb : V3.rangeAt wr.heap.size 0 (spC s) := fun j v hj => by rw [Nat.zero_add]; exact xb j v hj
  clear fa0_9
  refine wpList_nil ?_
  change Code.wp _ _ _ _ _
  refine wp_seq ?_
  refine wp_region_list ?_
  unfold rPL10
  refine fa0_10.move 51 (.pointer (some ⟨b, 0, none⟩)) _ (Or.inl rfl) rfl (lb_ I0.size) (wanted_none rfl) ((fa0_10.at_ 5).trans I0.s5) (fun a0_11 fa0_11 => ?_)
  clear fa0_10
  have r_a0_12 : (execOp a0_11.eval oPL7).run Try.prog (V3) = .ok (.value (.agg (spC s).toArray)) (V3) := by
    unfold oPL7
    exact exec_load_mid 35 _ rfl wr.heap.size 0 (show a0_11.eval (.tmp 10) = .pointer (some ⟨wr.heap.size, 0, none⟩) from (fa0_11.at_ 10)) (spC s) _ rb Try.underlying35 rfl (by kernel_rfl)
  refine fa0_11.step 52 (.agg (spC s).toArray) rfl (lb_ I0.size) (wanted_none rfl) r_a0_12 (fun a0_12 fa0_12 => ?_)
  clear r_a0_12
  clear fa0_11
  have r_a0_13 : (execOp a0_12.eval oPL8).run Try.prog (V3) = .ok (.enter 9 #[.pointer (some ⟨b, 0, none⟩), .agg (spC s).toArray]) (V3) := by
    unfold oPL8
    have kf : ∀ f, a0_12.eval (.func f) = .func (.func f) #[] #[] := fun _ => rfl
    have e51 := (show a0_12.eval (.tmp 51) = .pointer (some ⟨b, 0, none⟩) from (fa0_12.at_ 51))
    have e52 := (show a0_12.eval (.tmp 52) = .agg (spC s).toArray from (fa0_12.at_ 52))
    clear fa0_12 hQ h9 hg hs
    generalize a0_12.eval = ρ at *
    go_simp
  refine fa0_12.call 53 rfl (lb_ I0.size) (wanted_none rfl) r_a0_13 (play_as (s := s) V3 g3.d hI hm hno hpe) (fun e V4 hR => ?_)
  obtain ⟨rfl, d4, f4⟩ := hR
  clear r_a0_13
  have hB4 : V4.heap[wr.heap.size]? = some (.cells (spC s).toArray 35 (0, 0)) := heap_fr hB f4 ub
  have x0 : V4.cell? ⟨wr.heap.size, 0, none⟩ = some (.int .i64 s.do_) := (cell_of_row _ _ _ _ _ _ hB4).trans rfl
  have x2 : V4.cell? ⟨wr.heap.size, 2, none⟩ = some (.int .u32 (s.no : Int)) := (cell_of_row _ _ _ _ _ _ hB4).trans rfl
  refine ⟨_, rfl, fun a0_13 fa0_13 => ?_⟩
  clear fa0_12
  refine fa0_13.move 11 (.bool true) _ (Or.inr rfl) rfl (lb_ I0.size) (wanted_none rfl) (fa0_13.at_ 53) (fun a0_14 fa0_14 => ?_)
  clear fa0_13
  refine wpList_nil ?_
  change Code.wp _ _ _ _ _
  refine wp_seq (wp_seq ?_)
  refine wp_region_list ?_
  unfold rPL11
  have r_a0_15 : (execOp a0_14.eval oPL9).run Try.prog (V4) = .ok (.value (.pointer (some ⟨wr.heap.size, 0, none⟩))) (V4) := by
    unfold oPL9
    have e10 := (show a0_14.eval (.tmp 10) = .pointer (some ⟨wr.heap.size, 0, none⟩) from (fa0_14.at_ 10))
    clear fa0_14 hQ h9 hg hs
    generalize a0_14.eval = ρ at *
    go_simp
  refine fa0_14.step 54 (.pointer (some ⟨wr.heap.size, 0, none⟩)) rfl (lb_ I0.size) (wanted_none rfl) r_a0_15 (fun a0_15 fa0_15 => ?_)
  clear r_a0_15
  clear fa0_14
  have r_a0_16 : (execOp a0_15.eval oPL10).run Try.prog (V4) = .ok (.value (.int .i64 s.do_)) (V4) := by
    unfold oPL10
    have e54 := (show a0_15.eval (.tmp 54) = .pointer (some ⟨wr.heap.size, 0, none⟩) from (fa0_15.at_ 54))
    clear fa0_15 hQ h9 hg hs
    generalize a0_15.eval = ρ at *
    go_simp
  refine fa0_15.step 55 (.int .i64 s.do_) rfl (lb_ I0.size) (wanted_none rfl) r_a0_16 (fun a0_16 fa0_16 => ?_)
  clear r_a0_16
  clear fa0_15
  have r_a0_17 : (execOp a0_16.eval oPL11).run Try.prog (V4) = .ok (.value (.bool true)) (V4) := by
    unfold oPL11
    have kc : ∀ v, a0_16.eval (.const v) = v := fun _ => rfl
    have e55 := (show a0_16.eval (.tmp 55) = .int .i64 s.do_ from (fa0_16.at_ 55))
    clear fa0_16 hQ h9 hg hs
    generalize a0_16.eval = ρ at *
    go_simp
  refine fa0_16.step 56 (.bool true) rfl (lb_ I0.size) (wanted_none rfl) r_a0_17 (fun a0_17 fa0_17 => ?_)
  clear r_a0_17
  clear fa0_16
  refine wpList_nil ?_
  change Code.wp _ _ _ _ _
  refine wp_cond_true (show a0_17.eval (.tmp 56) = .bool true from (fa0_17.at_ 56)) (wp_seq (wp_seq ?_))
  refine wp_region_list ?_
  unfold rPL12
  refine fa0_17.move 57 (.bool true) _ (Or.inl rfl) rfl (lb_ I0.size) (wanted_none rfl) (fa0_17.at_ 11) (fun a0_18 fa0_18 => ?_)
  clear fa0_17
  have r_a0_19 : (execOp a0_18.eval oPL12).run Try.prog (V4) = .ok (.value (.bool false)) (V4) := by
    unfold oPL12
    have e57 := (show a0_18.eval (.tmp 57) = .bool true from (fa0_18.at_ 57))
    clear fa0_18 hQ h9 hg hs
    generalize a0_18.eval = ρ at *
    go_simp
  refine fa0_18.step 58 (.bool false) rfl (lb_ I0.size) (wanted_none rfl) r_a0_19 (fun a0_19 fa0_19 => ?_)
  clear r_a0_19
  clear fa0_18
  refine wpList_nil ?_
  change Code.wp _ _ _ _ _
  refine wp_cond_false (show a0_19.eval (.tmp 58) = .bool false from (fa0_19.at_ 58)) (wp_skip ?_)
  change Code.wp _ _ _ _ _
  refine wp_seq ?_
  refine wp_region_list ?_
  unfold rPL14
  refine fa0_19.move 59 (.pointer (some ⟨b, 0, none⟩)) _ (Or.inl rfl) rfl (lb_ I0.size) (wanted_none rfl) ((fa0_19.at_ 5).trans I0.s5) (fun a0_20 fa0_20 => ?_)
  clear fa0_19
  have r_a0_21 : (execOp a0_20.eval oPL13).run Try.prog (V4) = .ok (.enter 13 #[.pointer (some ⟨b, 0, none⟩)]) (V4) := by
    unfold oPL13
    have kf : ∀ f, a0_20.eval (.func f) = .func (.func f) #[] #[] := fun _ => rfl
    have e59 := (show a0_20.eval (.tmp 59) = .pointer (some ⟨b, 0, none⟩) from (fa0_20.at_ 59))
    clear fa0_20 hQ h9 hg hs
    generalize a0_20.eval = ρ at *
    go_simp
  refine fa0_20.call 60 rfl (lb_ I0.size) (wanted_none rfl) r_a0_21 (seen_calls V4 d4 hI5.ok.hp0 hoff5 q5.P) (fun e V5 hR => ?_)
  obtain ⟨ya, yc, rfl, o5, s5⟩ := hR
  clear r_a0_21
  have z5 := s5.size
  refine ⟨_, rfl, fun a0_21 fa0_21 => ?_⟩
  clear fa0_20
  refine fa0_21.move 7 (.slice ya (playD D s).P.length yc) _ (Or.inr rfl) rfl (lb_ I0.size) (wanted_none rfl) (fa0_21.at_ 60) (fun a0_22 fa0_22 => ?_)
  clear fa0_21
  refine wpList_nil ?_
  change Code.wp _ _ _ _ _
  refine wp_region_list ?_
  unfold rPL15
  have r_a0_23 : (execOp a0_22.eval oPL14).run Try.prog (V5) = .ok (.value (.slice (some ⟨V5.heap.size, 0, none⟩) 8 8)) (World.alloc V5 wrZ) := by
    unfold oPL14
    refine exec_make rfl ?_
    exact run_wrs V5
  refine fa0_22.stepW 61 (.slice (some ⟨V5.heap.size, 0, none⟩) 8 8) rfl (lb_ I0.size) (wanted_none rfl) r_a0_23 (fun a0_23 fa0_23 => ?_)
  clear r_a0_23
  have s6 : Same V5 (World.alloc V5 wrZ) := (Fr.refl _ V5).alloc _
  have wr6 := WrAt.new V5
  generalize World.alloc V5 wrZ = V6 at *
  have x6 : V6.cell? ⟨wr.heap.size, 0, none⟩ = some (.int .i64 s.do_) := (s5.trans s6).keep x0
  clear fa0_22
  refine fa0_23.move 8 (.slice (some ⟨V5.heap.size, 0, none⟩) 8 8) _ (Or.inr rfl) rfl (lb_ I0.size) (wanted_none rfl) (fa0_23.at_ 61) (fun a0_24 fa0_24 => ?_)
  clear fa0_23
  refine wpList_nil ?_
  change Code.wp _ _ _ _ _
  refine wp_seq ?_
  refine wp_region_list ?_
  unfold rPL16
  have r_a0_25 : (execOp a0_24.eval oPL15).run Try.prog (V6) = .ok (.value (.pointer (some ⟨wr.heap.size, 0, none⟩))) (V6) := by
    unfold oPL15
    have e10 := (show a0_24.eval (.tmp 10) = .pointer (some ⟨wr.heap.size, 0, none⟩) from (fa0_24.at_ 10))
    clear fa0_24 hQ h9 hg hs
    generalize a0_24.eval = ρ at *
    go_simp
  refine fa0_24.step 62 (.pointer (some ⟨wr.heap.size, 0, none⟩)) rfl (lb_ I0.size) (wanted_none rfl) r_a0_25 (fun a0_25 fa0_25 => ?_)
  clear r_a0_25
  clear fa0_24
  have r_a0_26 : (execOp a0_25.eval oPL16).run Try.prog (V6) = .ok (.value (.int .i64 s.do_)) (V6) := by
    unfold oPL16
    have e62 := (show a0_25.eval (.tmp 62) = .pointer (some ⟨wr.heap.size, 0, none⟩) from (fa0_25.at_ 62))
    clear fa0_25 hQ h9 hg hs
    generalize a0_25.eval = ρ at *
    go_simp
  refine fa0_25.step 63 (.int .i64 s.do_) rfl (lb_ I0.size) (wanted_none rfl) r_a0_26 (fun a0_26 fa0_26 => ?_)
  clear r_a0_26
  clear fa0_25
  have r_a0_27 : (execOp a0_26.eval oPL17).run Try.prog (V6) = .ok (.value (.bool false)) (V6) := by
    unfold oPL17
    have kc : ∀ v, a0_26.eval (.const v) = v := fun _ => rfl
    have e63 := (show a0_26.eval (.tmp 63) = .int .i64 s.do_ from (fa0_26.at_ 63))
    clear fa0_26 hQ h9 hg hs
    generalize a0_26.eval = ρ at *
    go_simp
  refine fa0_26.step 64 (.bool false) rfl (lb_ I0.size) (wanted_none rfl) r_a0_27 (fun a0_27 fa0_27 => ?_)
  clear r_a0_27
  clear fa0_26
  refine fa0_27.move 65 (.bool false) _ (Or.inl rfl) rfl (lb_ I0.size) (wanted_none rfl) (fa0_27.at_ 64) (fun a0_28 fa0_28 => ?_)
  clear fa0_27
  refine fa0_28.skip 66 rfl (lb_ I0.size) ((wanted_at (t := 65) (c := false) (b := true) rfl rfl rfl (lb_ (fa0_28.size.trans I0.size)) (fa0_28.at_ 65)).trans (by rfl)) (fun a0_29 fa0_29 => ?_)
  clear fa0_28
  have r_a0_30 : (execOp a0_29.eval oPL18).run Try.prog (V6) = .ok (.value (.bool false)) (V6) := by
    unfold oPL18
    have kc : ∀ v, a0_29.eval (.const v) = v := fun _ => rfl
    have e65 := (show a0_29.eval (.tmp 65) = .bool false from (fa0_29.at_ 65))
    have e66 := (show a0_29.eval (.tmp 66) = undef from (fa0_29.at_ 66))
    clear fa0_29 hQ h9 hg hs
    generalize a0_29.eval = ρ at *
    go_simp
  refine fa0_29.step 67 (.bool false) rfl (lb_ I0.size) (wanted_none rfl) r_a0_30 (fun a0_30 fa0_30 => ?_)
  clear r_a0_30
  clear fa0_29
  refine wpList_nil ?_
  change Code.wp _ _ _ _ _
  refine wp_cond_false (show a0_30.eval (.tmp 67) = .bool false from (fa0_30.at_ 67)) (wp_skip ?_)
  change Code.wp _ _ _ _ _
  refine wp_region_list ?_
  unfold rPL8
  refine fa0_30.move 45 (.int .i64 (i : Int)) _ (Or.inl rfl) rfl (lb_ I0.size) (wanted_none rfl) ((fa0_30.at_ 9).trans h9) (fun a0_31 fa0_31 => ?_)
  clear fa0_30
  have r_a0_32 : (execOp a0_31.eval oPL2).run Try.prog (V6) = .ok (.value (.int .i64 ((i : Int) + 1))) (V6) := by
    unfold oPL2
    have kc : ∀ v, a0_31.eval (.const v) = v := fun _ => rfl
    have e45 := (show a0_31.eval (.tmp 45) = .int .i64 (i : Int) from (fa0_31.at_ 45))
    clear fa0_31 hQ h9 hg hs
    generalize a0_31.eval = ρ at *
    go_simp
  refine fa0_31.step 46 (.int .i64 ((i : Int) + 1)) rfl (lb_ I0.size) (wanted_none rfl) r_a0_32 (fun a0_32 fa0_32 => ?_)
  clear r_a0_32
  clear fa0_31
  refine fa0_32.move 9 (.int .i64 ((i : Int) + 1)) _ (Or.inr rfl) rfl (lb_ I0.size) (wanted_none rfl) (fa0_32.at_ 46) (fun a0_33 fa0_33 => ?_)
  clear fa0_32
  refine wpList_nil ?_
  have z3 := s3.size
  have z4 := f4.size
  have z6 := s6.size
  have zw := g3.same.size
  have fw : Same w V4 := Fr.trans g3.same f4 (fun k hl hk => by have := g3.u k hk; omega)
  refine hQ a0_33 V6 V5.heap.size ya yc (Land U V3 V4) (fun k => V5.heap.size ≤ k ∧ k < V6.heap.size) (I0.keep fa0_33 rfl rfl rfl (by rw [← hPI]; exact (show a0_33.eval (.tmp 7) = .slice ya (playD D s).P.length yc from (fa0_33.at_ 7))) (show a0_33.eval (.tmp 8) = .slice (some ⟨V5.heap.size, 0, none⟩) 8 8 from (fa0_33.at_ 8))) (show a0_33.eval (.tmp 9) = .int .i64 ((i : Int) + 1) from (fa0_33.at_ 9)) ⟨(d4.same s5).same s6, by rw [hW]; exact wr6, ?_, ?_, ?_, ?_, ?_, fw.trans (s5.trans s6)⟩
  · rw [← hPI]; exact own_frameB (own_base o5 (by omega)) s6 (fun _ _ f => f)
  · exact fun k hk => by rcases hk with e | e; exact g3.u k e; have := e.1; omega
  · exact fun k hk => by have := hk.1; omega
  · exact fun k hk hv => by have := d4.lt k hk; have := hv.1; omega
  · intro k hk
    rw [← hPI] at hk
    have h1 := own_lt o5 hk
    have h2 : V4.heap.size ≤ k := by
      cases ya with
      | none => cases hk
      | some z => have := (own_ge o5).1; simp [Value.ownBlock] at hk; omega
    exact ⟨fun e => by have := d4.lt k e; omega, fun e => by have := e.1; omega⟩
theorem wrOf_len (W : List Wt) (i : Nat) : (wrOf W i).length ≤ W.length := by unfold wrOf; rw [List.length_map]; exact List.length_filter_le _ _
theorem wr_frozen {w w1 : World} {bw j : Nat} {T : Nat → List ByteArray} {S X : Nat → Prop} (h : WrAt w bw T S) (f : Fr X w w1) (hn : ¬ X bw) : w1.frozen? ⟨bw, j, none⟩ = false := by
  obtain ⟨⟨ao, c, h1, _⟩, _, _⟩ := h
  exact frozen_of_row _ _ _ _ _ (heap_fr h1 f hn)
set_option maxRecDepth 100000 in
set_option maxHeartbeats 2000000 in
theorem plW {n i xc g o b bw m sc : Nat} {sa : Option Addr} {D : Dk} {s : Sp} {w : World} {U V : Nat → Prop} {v1 : Value} {Q : Exit → Act → World → Prop} (hQp : ∀ c (a : Act) d v w, Q (.panic c) (a.put d v) w → Q (.panic c) a w) (a0 : Act) (wr : World) (I0 : IPL (.slice (some ⟨g, o, none⟩) n xc) v1 (.pointer (some ⟨b, 0, none⟩)) (.slice sa D.I.length sc) (.slice (some ⟨bw, 0, none⟩) 8 8) a0) (h9 : a0.eval (.tmp 9) = .int .i64 (i : Int)) (hi : i < n) (hn : n ≤ 1048576) (hrow : wr.rangeAt g (o + i * 9) (spC s)) (hno : s.no < 4294967296) (h1c : (spC s).toArray.all (·.oneCell') = true) (hg : SfW w wr b bw D sa sc U V) (hI : DkIn D m) (hm : m ≤ 1048575) (hs : DkSafe D) (hpe : playE D s = true) (hd1 : s.do_ = 1)
    (hQ : ∀ a W bw' sa' sc' (U' V' : Nat → Prop), IPL (.slice (some ⟨g, o, none⟩) n xc) v1 (.pointer (some ⟨b, 0, none⟩)) (.slice sa' (playD D s).I.length sc') (.slice (some ⟨bw', 0, none⟩) 8 8) a → a.eval (.tmp 9) = .int .i64 ((i : Int) + 1) → SfW w W b bw' (playD D s) sa' sc' U' V' → Q .normal a W) : cPL1.wp Try.prog Q a0 wr := by
  have hii : (i : Int) < (n : Int) := by omega
  have w1 : IntKind.i64.wrap ((i : Int) + 1) = (i : Int) + 1 := by rw [IntKind.wrap_i64]; omega
  have hrem : ((s.no : Int)).tmod 8 = (s.no : Int) % 8 := Int.tmod_eq_emod_of_nonneg (by omega)
  have hw8 : IntKind.i64.wrap ((s.no : Int) % 8) = (s.no : Int) % 8 := by rw [IntKind.wrap_i64]; omega
  have hd3 : ¬ s.do_ = 3 := by omega
  have hW : ∀ j, s.no % 8 = j → wrOf (playD D s).W = fun i => if i = j then wrOf D.W j ++ [spT s] else wrOf D.W i := fun j hj => funext fun i => by
    rw [play_wr hs, if_neg hd3]
    by_cases e : i = j
    · subst e; rw [if_pos rfl, if_pos ⟨hd1, hpe, hj⟩]
    · rw [if_neg e, if_neg (fun x => e (x.2.2.symm.trans hj))]
  have fa0_0 := Fe.refl a0
  unfold cPL1
  refine wp_seq (wp_seq ?_)
  refine wp_region_list ?_
  unfold rPL7
  refine fa0_0.move 41 (.int .i64 (i : Int)) _ (Or.inl rfl) rfl (lb_ I0.size) (wanted_none rfl) ((fa0_0.at_ 9).trans h9) (fun a0_1 fa0_1 => ?_)
  clear fa0_0
  refine fa0_1.move 42 (.slice (some ⟨g, o, none⟩) n xc) _ (Or.inl rfl) rfl (lb_ I0.size) (wanted_none rfl) ((fa0_1.at_ 0).trans I0.s0) (fun a0_2 fa0_2 => ?_)
  clear fa0_1
  have r_a0_3 : (execOp a0_2.eval oPL0).run Try.prog (wr) = .ok (.value (.int .i64 (n : Int))) (wr) := by
    unfold oPL0
    have e42 := (show a0_2.eval (.tmp 42) = .slice (some ⟨g, o, none⟩) n xc from (fa0_2.at_ 42))
    clear fa0_2 hQ h9 hg hs
    generalize a0_2.eval = ρ at *
    go_simp
  refine fa0_2.step 43 (.int .i64 (n : Int)) rfl (lb_ I0.size) (wanted_none rfl) r_a0_3 (fun a0_3 fa0_3 => ?_)
  clear r_a0_3
  clear fa0_2
  have r_a0_4 : (execOp a0_3.eval oPL1).run Try.prog (wr) = .ok (.value (.bool true)) (wr) := by
    unfold oPL1
    have e41 := (show a0_3.eval (.tmp 41) = .int .i64 (i : Int) from (fa0_3.at_ 41))
    have e43 := (show a0_3.eval (.tmp 43) = .int .i64 (n : Int) from (fa0_3.at_ 43))
    clear fa0_3 hQ h9 hg hs
    generalize a0_3.eval = ρ at *
    go_simp
  refine fa0_3.step 44 (.bool true) rfl (lb_ I0.size) (wanted_none rfl) r_a0_4 (fun a0_4 fa0_4 => ?_)
  clear r_a0_4
  clear fa0_3
  refine wpList_nil ?_
  change Code.wp _ _ _ _ _
  refine wp_cond_true (show a0_4.eval (.tmp 44) = .bool true from (fa0_4.at_ 44)) (wp_skip ?_)
  change Code.wp _ _ _ _ _
  refine wp_seq (wp_block (wp_seq ?_))
  refine wp_region_list ?_
  unfold rPL9
  refine fa0_4.move 47 (.slice (some ⟨g, o, none⟩) n xc) _ (Or.inl rfl) rfl (lb_ I0.size) (wanted_none rfl) ((fa0_4.at_ 0).trans I0.s0) (fun a0_5 fa0_5 => ?_)
  clear fa0_4
  refine fa0_5.move 48 (.int .i64 (i : Int)) _ (Or.inl rfl) rfl (lb_ I0.size) (wanted_none rfl) ((fa0_5.at_ 9).trans h9) (fun a0_6 fa0_6 => ?_)
  clear fa0_5
  have r_a0_7 : (execOp a0_6.eval oPL3).run Try.prog (wr) = .ok (.value (.pointer (some ⟨g, o + i * 9, none⟩))) (wr) := by
    unfold oPL3
    have e47 := (show a0_6.eval (.tmp 47) = .slice (some ⟨g, o, none⟩) n xc from (fa0_6.at_ 47))
    have e48 := (show a0_6.eval (.tmp 48) = .int .i64 (i : Int) from (fa0_6.at_ 48))
    clear fa0_6 hQ h9 hg hs
    generalize a0_6.eval = ρ at *
    go_simp
  refine fa0_6.step 49 (.pointer (some ⟨g, o + i * 9, none⟩)) rfl (lb_ I0.size) (wanted_none rfl) r_a0_7 (fun a0_7 fa0_7 => ?_)
  clear r_a0_7
  clear fa0_6
  have r_a0_8 : (execOp a0_7.eval oPL4).run Try.prog (wr) = .ok (.value (.agg (spC s).toArray)) (wr) := by
    unfold oPL4
    exact exec_load_mid 35 _ rfl g (o + i * 9) (show a0_7.eval (.tmp 49) = .pointer (some ⟨g, o + i * 9, none⟩) from (fa0_7.at_ 49)) (spC s) _ hrow Try.underlying35 rfl (by kernel_rfl)
  refine fa0_7.step 50 (.agg (spC s).toArray) rfl (lb_ I0.size) (wanted_none rfl) r_a0_8 (fun a0_8 fa0_8 => ?_)
  clear r_a0_8
  clear fa0_7
  have r_a0_9 : (execOp a0_8.eval oPL5).run Try.prog (wr) = .ok (.value (.pointer (some ⟨wr.heap.size, 0, none⟩))) (wr.alloc (.cells #[.int .i64 0, .int .i64 0, .int .u32 0, .int .i64 0, .int .i64 0, .int .u8 0, .int .u8 0, .slice none 0 0, .slice none 0 0] 35)) := by
    unfold oPL5
    clear fa0_8 hQ h9 hg hs
    generalize a0_8.eval = ρ at *
    go_simp
  refine fa0_8.stepW 10 (.pointer (some ⟨wr.heap.size, 0, none⟩)) rfl (lb_ I0.size) (wanted_none rfl) r_a0_9 (fun a0_9 fa0_9 => ?_)
  clear r_a0_9
  have s2 : Same wr (wr.alloc (.cells #[.int .i64 0, .int .i64 0, .int .u32 0, .int .i64 0, .int .i64 0, .int .u8 0, .int .u8 0, .slice none 0 0, .slice none 0 0] 35)) := (Fr.refl _ wr).alloc _
  have r2 : (wr.alloc (.cells #[.int .i64 0, .int .i64 0, .int .u32 0, .int .i64 0, .int .i64 0, .int .u8 0, .int .u8 0, .slice none 0 0, .slice none 0 0] 35)).heap[wr.heap.size]? = some (.cells #[.int .i64 0, .int .i64 0, .int .u32 0, .int .i64 0, .int .i64 0, .int .u8 0, .int .u8 0, .slice none 0 0, .slice none 0 0] 35 (0, 0)) := heap_alloc_new wr _
  generalize wr.alloc (.cells #[.int .i64 0, .int .i64 0, .int .u32 0, .int .i64 0, .int .i64 0, .int .u8 0, .int .u8 0, .slice none 0 0, .slice none 0 0] 35) = V2 at *
  clear fa0_8
  have r_a0_10 : (execOp a0_9.eval oPL6).run Try.prog (V2) = .ok .skip (World.setCells V2 wr.heap.size 0 (spC s)) := by
    unfold oPL6
    exact exec_store_mid 35 _ _ rfl wr.heap.size 0 (spC s).toArray (show a0_9.eval (.tmp 10) = .pointer (some ⟨wr.heap.size, 0, none⟩) from (fa0_9.at_ 10)) (show a0_9.eval (.tmp 50) = .agg (spC s).toArray from (fa0_9.at_ 50)) (there_row r2 rfl) (by kernel_rfl) h1c
  refine fa0_9.store rfl (wanted_none rfl) r_a0_10 (fun a0_10 fa0_10 => ?_)
  clear r_a0_10
  have s3 : Same wr (World.setCells V2 wr.heap.size 0 (spC s)) := Fr.trans s2 (Fr.setCells (S := fun k => k = wr.heap.size) (fun _ => rfl) _ 0 V2 (Fr.refl _ V2)) (fun k hk e => by have e2 : k = wr.heap.size := e; omega)
  have hB : (World.setCells V2 wr.heap.size 0 (spC s)).heap[wr.heap.size]? = some (.cells (spC s).toArray 35 (0, 0)) := setCells_whole (spC s) _ r2 rfl (there_row r2 rfl)
  generalize World.setCells V2 wr.heap.size 0 (spC s) = V3 at *
  have g3 := hg.on s3
  have hb := lt_of_heap hB
  have xb : ∀ j v, (spC s)[j]? = some v → V3.cell? ⟨wr.heap.size, j, none⟩ = some v := fun j v hj => (cell_of_row _ _ _ _ _ _ hB).trans (by rw [List.getElem?_toArray]; exact hj)
  have ub : ¬ U wr.heap.size := fun e => by have := hg.d.lt _ e; omega
  have rb : V3.rangeAt wr.heap.size 0 (spC s) := fun j v hj => by rw [Nat.zero_add]; exact xb j v hj
  clear fa0_9
  refine wpList_nil ?_
  change Code.wp _ _ _ _ _
  refine wp_seq ?_
  refine wp_region_list ?_
  unfold rPL10
  refine fa0_10.move 51 (.pointer (some ⟨b, 0, none⟩)) _ (Or.inl rfl) rfl (lb_ I0.size) (wanted_none rfl) ((fa0_10.at_ 5).trans I0.s5) (fun a0_11 fa0_11 => ?_)
  clear fa0_10
  have r_a0_12 : (execOp a0_11.eval oPL7).run Try.prog (V3) = .ok (.value (.agg (spC s).toArray)) (V3) := by
    unfold oPL7
    exact exec_load_mid 35 _ rfl wr.heap.size 0 (show a0_11.eval (.tmp 10) = .pointer (some ⟨wr.heap.size, 0, none⟩) from (fa0_11.at_ 10)) (spC s) _ rb Try.underlying35 rfl (by kernel_rfl)
  refine fa0_11.step 52 (.agg (spC s).toArray) rfl (lb_ I0.size) (wanted_none rfl) r_a0_12 (fun a0_12 fa0_12 => ?_)
  clear r_a0_12
  clear fa0_11
  have r_a0_13 : (execOp a0_12.eval oPL8).run Try.prog (V3) = .ok (.enter 9 #[.pointer (some ⟨b, 0, none⟩), .agg (spC s).toArray]) (V3) := by
    unfold oPL8
    have kf : ∀ f, a0_12.eval (.func f) = .func (.func f) #[] #[] := fun _ => rfl
    have e51 := (show a0_12.eval (.tmp 51) = .pointer (some ⟨b, 0, none⟩) from (fa0_12.at_ 51))
    have e52 := (show a0_12.eval (.tmp 52) = .agg (spC s).toArray from (fa0_12.at_ 52))
    clear fa0_12 hQ h9 hg hs
    generalize a0_12.eval = ρ at *
    go_simp
  refine fa0_12.call 53 rfl (lb_ I0.size) (wanted_none rfl) r_a0_13 (play_as (s := s) V3 g3.d hI hm hno hpe) (fun e V4 hR => ?_)
  obtain ⟨rfl, d4, f4⟩ := hR
  clear r_a0_13
  have hB4 : V4.heap[wr.heap.size]? = some (.cells (spC s).toArray 35 (0, 0)) := heap_fr hB f4 ub
  have x0 : V4.cell? ⟨wr.heap.size, 0, none⟩ = some (.int .i64 s.do_) := (cell_of_row _ _ _ _ _ _ hB4).trans rfl
  have x2 : V4.cell? ⟨wr.heap.size, 2, none⟩ = some (.int .u32 (s.no : Int)) := (cell_of_row _ _ _ _ _ _ hB4).trans rfl
  refine ⟨_, rfl, fun a0_13 fa0_13 => ?_⟩
  clear fa0_12
  refine fa0_13.move 11 (.bool true) _ (Or.inr rfl) rfl (lb_ I0.size) (wanted_none rfl) (fa0_13.at_ 53) (fun a0_14 fa0_14 => ?_)
  clear fa0_13
  refine wpList_nil ?_
  change Code.wp _ _ _ _ _
  refine wp_seq (wp_seq ?_)
  refine wp_region_list ?_
  unfold rPL11
  have r_a0_15 : (execOp a0_14.eval oPL9).run Try.prog (V4) = .ok (.value (.pointer (some ⟨wr.heap.size, 0, none⟩))) (V4) := by
    unfold oPL9
    have e10 := (show a0_14.eval (.tmp 10) = .pointer (some ⟨wr.heap.size, 0, none⟩) from (fa0_14.at_ 10))
    clear fa0_14 hQ h9 hg hs
    generalize a0_14.eval = ρ at *
    go_simp
  refine fa0_14.step 54 (.pointer (some ⟨wr.heap.size, 0, none⟩)) rfl (lb_ I0.size) (wanted_none rfl) r_a0_15 (fun a0_15 fa0_15 => ?_)
  clear r_a0_15
  clear fa0_14
  have r_a0_16 : (execOp a0_15.eval oPL10).run Try.prog (V4) = .ok (.value (.int .i64 s.do_)) (V4) := by
    unfold oPL10
    have e54 := (show a0_15.eval (.tmp 54) = .pointer (some ⟨wr.heap.size, 0, none⟩) from (fa0_15.at_ 54))
    clear fa0_15 hQ h9 hg hs
    generalize a0_15.eval = ρ at *
    go_simp
  refine fa0_15.step 55 (.int .i64 s.do_) rfl (lb_ I0.size) (wanted_none rfl) r_a0_16 (fun a0_16 fa0_16 => ?_)
  clear r_a0_16
  clear fa0_15
  have r_a0_17 : (execOp a0_16.eval oPL11).run Try.prog (V4) = .ok (.value (.bool false)) (V4) := by
    unfold oPL11
    have kc : ∀ v, a0_16.eval (.const v) = v := fun _ => rfl
    have e55 := (show a0_16.eval (.tmp 55) = .int .i64 s.do_ from (fa0_16.at_ 55))
    clear fa0_16 hQ h9 hg hs
    generalize a0_16.eval = ρ at *
    go_simp
  refine fa0_16.step 56 (.bool false) rfl (lb_ I0.size) (wanted_none rfl) r_a0_17 (fun a0_17 fa0_17 => ?_)
  clear r_a0_17
  clear fa0_16
  refine wpList_nil ?_
  change Code.wp _ _ _ _ _
  refine wp_cond_false (show a0_17.eval (.tmp 56) = .bool false from (fa0_17.at_ 56)) (wp_skip ?_)
  change Code.wp _ _ _ _ _
  refine wp_seq ?_
  refine wp_region_list ?_
  unfold rPL16
  have r_a0_18 : (execOp a0_17.eval oPL15).run Try.prog (V4) = .ok (.value (.pointer (some ⟨wr.heap.size, 0, none⟩))) (V4) := by
    unfold oPL15
    have e10 := (show a0_17.eval (.tmp 10) = .pointer (some ⟨wr.heap.size, 0, none⟩) from (fa0_17.at_ 10))
    clear fa0_17 hQ h9 hg hs
    generalize a0_17.eval = ρ at *
    go_simp
  refine fa0_17.step 62 (.pointer (some ⟨wr.heap.size, 0, none⟩)) rfl (lb_ I0.size) (wanted_none rfl) r_a0_18 (fun a0_18 fa0_18 => ?_)
  clear r_a0_18
  clear fa0_17
  have r_a0_19 : (execOp a0_18.eval oPL16).run Try.prog (V4) = .ok (.value (.int .i64 s.do_)) (V4) := by
    unfold oPL16
    have e62 := (show a0_18.eval (.tmp 62) = .pointer (some ⟨wr.heap.size, 0, none⟩) from (fa0_18.at_ 62))
    clear fa0_18 hQ h9 hg hs
    generalize a0_18.eval = ρ at *
    go_simp
  refine fa0_18.step 63 (.int .i64 s.do_) rfl (lb_ I0.size) (wanted_none rfl) r_a0_19 (fun a0_19 fa0_19 => ?_)
  clear r_a0_19
  clear fa0_18
  have r_a0_20 : (execOp a0_19.eval oPL17).run Try.prog (V4) = .ok (.value (.bool true)) (V4) := by
    unfold oPL17
    have kc : ∀ v, a0_19.eval (.const v) = v := fun _ => rfl
    have e63 := (show a0_19.eval (.tmp 63) = .int .i64 s.do_ from (fa0_19.at_ 63))
    clear fa0_19 hQ h9 hg hs
    generalize a0_19.eval = ρ at *
    go_simp
  refine fa0_19.step 64 (.bool true) rfl (lb_ I0.size) (wanted_none rfl) r_a0_20 (fun a0_20 fa0_20 => ?_)
  clear r_a0_20
  clear fa0_19
  refine fa0_20.move 65 (.bool true) _ (Or.inl rfl) rfl (lb_ I0.size) (wanted_none rfl) (fa0_20.at_ 64) (fun a0_21 fa0_21 => ?_)
  clear fa0_20
  refine fa0_21.move 66 (.bool true) _ (Or.inl rfl) rfl (lb_ I0.size) ((wanted_at (t := 65) (c := true) (b := true) rfl rfl rfl (lb_ (fa0_21.size.trans I0.size)) (fa0_21.at_ 65)).trans (by rfl)) (fa0_21.at_ 11) (fun a0_22 fa0_22 => ?_)
  clear fa0_21
  have r_a0_23 : (execOp a0_22.eval oPL18).run Try.prog (V4) = .ok (.value (.bool true)) (V4) := by
    unfold oPL18
    have kc : ∀ v, a0_22.eval (.const v) = v := fun _ => rfl
    have e65 := (show a0_22.eval (.tmp 65) = .bool true from (fa0_22.at_ 65))
    have e66 := (show a0_22.eval (.tmp 66) = .bool true from (fa0_22.at_ 66))
    clear fa0_22 hQ h9 hg hs
    generalize a0_22.eval = ρ at *
    go_simp
  refine fa0_22.step 67 (.bool true) rfl (lb_ I0.size) (wanted_none rfl) r_a0_23 (fun a0_23 fa0_23 => ?_)
  clear r_a0_23
  clear fa0_22
  refine wpList_nil ?_
  change Code.wp _ _ _ _ _
  refine wp_cond_true (show a0_23.eval (.tmp 67) = .bool true from (fa0_23.at_ 67)) (wp_seq ?_)
  refine wp_region_list ?_
  unfold rPL17
  have r_a0_24 : (execOp a0_23.eval oPL19).run Try.prog (V4) = .ok (.value (.pointer (some ⟨wr.heap.size, 2, none⟩))) (V4) := by
    unfold oPL19
    have e10 := (show a0_23.eval (.tmp 10) = .pointer (some ⟨wr.heap.size, 0, none⟩) from (fa0_23.at_ 10))
    clear fa0_23 hQ h9 hg hs
    generalize a0_23.eval = ρ at *
    go_simp
  refine fa0_23.step 68 (.pointer (some ⟨wr.heap.size, 2, none⟩)) rfl (lb_ I0.size) (wanted_none rfl) r_a0_24 (fun a0_24 fa0_24 => ?_)
  clear r_a0_24
  clear fa0_23
  have r_a0_25 : (execOp a0_24.eval oPL20).run Try.prog (V4) = .ok (.value (.int .u32 (s.no : Int))) (V4) := by
    unfold oPL20
    have e68 := (show a0_24.eval (.tmp 68) = .pointer (some ⟨wr.heap.size, 2, none⟩) from (fa0_24.at_ 68))
    clear fa0_24 hQ h9 hg hs
    generalize a0_24.eval = ρ at *
    go_simp
  refine fa0_24.step 69 (.int .u32 (s.no : Int)) rfl (lb_ I0.size) (wanted_none rfl) r_a0_25 (fun a0_25 fa0_25 => ?_)
  clear r_a0_25
  clear fa0_24
  have r_a0_26 : (execOp a0_25.eval oPL21).run Try.prog (V4) = .ok (.value (.int .u32 ((s.no % 8 : Nat) : Int))) (V4) := by
    unfold oPL21
    have kc : ∀ v, a0_25.eval (.const v) = v := fun _ => rfl
    have e69 := (show a0_25.eval (.tmp 69) = .int .u32 (s.no : Int) from (fa0_25.at_ 69))
    clear fa0_25 hQ h9 hg hs
    generalize a0_25.eval = ρ at *
    go_simp
  refine fa0_25.step 70 (.int .u32 ((s.no % 8 : Nat) : Int)) rfl (lb_ I0.size) (wanted_none rfl) r_a0_26 (fun a0_26 fa0_26 => ?_)
  clear r_a0_26
  clear fa0_25
  have r_a0_27 : (execOp a0_26.eval oPL22).run Try.prog (V4) = .ok (.value (.int .i64 ((s.no % 8 : Nat) : Int))) (V4) := by
    unfold oPL22
    have e70 := (show a0_26.eval (.tmp 70) = .int .u32 ((s.no % 8 : Nat) : Int) from (fa0_26.at_ 70))
    clear fa0_26 hQ h9 hg hs
    generalize a0_26.eval = ρ at *
    go_simp
  refine fa0_26.step 71 (.int .i64 ((s.no % 8 : Nat) : Int)) rfl (lb_ I0.size) (wanted_none rfl) r_a0_27 (fun a0_27 fa0_27 => ?_)
  clear r_a0_27
  clear fa0_26
  refine fa0_27.move 12 (.int .i64 ((s.no % 8 : Nat) : Int)) _ (Or.inr rfl) rfl (lb_ I0.size) (wanted_none rfl) (fa0_27.at_ 71) (fun a0_28 fa0_28 => ?_)
  clear fa0_27
  refine wpList_nil ?_
  change Code.wp _ _ _ _ _
  have J := I0.keep fa0_28 rfl rfl rfl (show a0_28.eval (.tmp 7) = .slice sa D.I.length sc from ((fa0_28.at_ 7).trans I0.s7)) (show a0_28.eval (.tmp 8) = .slice (some ⟨bw, 0, none⟩) 8 8 from ((fa0_28.at_ 8).trans I0.s8))
  have q9 := (show a0_28.eval (.tmp 9) = .int .i64 (i : Int) from ((fa0_28.at_ 9).trans h9))
  have q10 := (show a0_28.eval (.tmp 10) = .pointer (some ⟨wr.heap.size, 0, none⟩) from (fa0_28.at_ 10))
  have q12 := (show a0_28.eval (.tmp 12) = .int .i64 ((s.no % 8 : Nat) : Int) from (fa0_28.at_ 12))
  clear fa0_28
  generalize a0_28 = c0 at *
  obtain ⟨j, hj⟩ : ∃ j, j = s.no % 8 := ⟨_, rfl⟩
  rw [← hj] at q12
  have hj8 : j < 8 := by omega
  have hjj : Hid (s.no % 8 = j) := hj.symm
  have hj8H : Hid (j < 8) := hj8
  have hji : (j : Int) < 8 := by omega
  clear hj
  have wr4 : WrAt V4 bw (wrOf D.W) V := g3.wr.fr f4 (fun k hk hu => g3.uv k hu hk)
  obtain ⟨ai, ci, kh, oh, sh⟩ := wr4.hdr hj8
  have dd : Same V4 V4.drew := (Fr.refl (fun _ => False) V4).drew
  have hlw : (wrOf D.W j).length ≤ 1048576 := Nat.le_trans (wrOf_len D.W j) (Nat.le_trans hI.wl (Nat.le_succ_of_le hm))
  clear hrem hw8
  have fc0_0 := Fe.refl c0
  refine wp_region_pop (ops := rPL18) (ops' := rPL18p) (F := rPL18f) (S := fun Z => Z.cell? ⟨bw, j, none⟩ = some (.slice ai (wrOf D.W j).length ci) ∧ Z.heap[wr.heap.size]? = some (.cells (spC s).toArray 35 (0, 0))) (by kernel_rfl) rfl (by kernel_rfl) rfl (by kernel_rfl) (by kernel_rfl) (by kernel_rfl) (⟨kh, hB4⟩) (fun hS0 => ?_)
  refine fc0_0.takeMove 0 72 (.slice (some ⟨bw, 0, none⟩) 8 8) _ (Or.inl rfl) rfl (by kernel_rfl) (by kernel_rfl) (by kernel_rfl) (fun _ _ _ h => hQp _ _ _ _ _ h) rfl (lb_ J.size) (wanted_none rfl) ((fc0_0.at_ 8).trans J.s8) hS0 (fun c0_1 fc0_1 => ?_)
  clear fc0_0
  refine fc0_1.takeMove 1 73 (.int .i64 (j : Int)) _ (Or.inl rfl) rfl (by kernel_rfl) (by kernel_rfl) (by kernel_rfl) (fun _ _ _ h => hQp _ _ _ _ _ h) rfl (lb_ J.size) (wanted_none rfl) ((fc0_1.at_ 12).trans q12) hS0 (fun c0_2 fc0_2 => ?_)
  clear fc0_1
  refine fc0_2.takeMove 2 74 (.slice (some ⟨bw, 0, none⟩) 8 8) _ (Or.inl rfl) rfl (by kernel_rfl) (by kernel_rfl) (by kernel_rfl) (fun _ _ _ h => hQp _ _ _ _ _ h) rfl (lb_ J.size) (wanted_none rfl) ((fc0_2.at_ 8).trans J.s8) hS0 (fun c0_3 fc0_3 => ?_)
  clear fc0_2
  refine fc0_3.takeMove 3 75 (.int .i64 (j : Int)) _ (Or.inl rfl) rfl (by kernel_rfl) (by kernel_rfl) (by kernel_rfl) (fun _ _ _ h => hQp _ _ _ _ _ h) rfl (lb_ J.size) (wanted_none rfl) ((fc0_3.at_ 12).trans q12) hS0 (fun c0_4 fc0_4 => ?_)
  clear fc0_3
  have r_c0_5 : ∀ Z, (fun Z => Z.cell? ⟨bw, j, none⟩ = some (.slice ai (wrOf D.W j).length ci) ∧ Z.heap[wr.heap.size]? = some (.cells (spC s).toArray 35 (0, 0))) Z → (execOp c0_4.eval oPL27).run Try.prog Z = .ok (.value (.pointer (some ⟨bw, j, none⟩))) Z := fun Z hZ => by
    unfold oPL27
    have e74 := (show c0_4.eval (.tmp 74) = .slice (some ⟨bw, 0, none⟩) 8 8 from (fc0_4.at_ 74))
    have e75 := (show c0_4.eval (.tmp 75) = .int .i64 (j : Int) from (fc0_4.at_ 75))
    clear fc0_4 hQ h9 hg hs hlw
    generalize c0_4.eval = ρ at *
    go_simp
  refine fc0_4.take 4 76 (.pointer (some ⟨bw, j, none⟩)) rfl (by kernel_rfl) (by kernel_rfl) (by kernel_rfl) (fun _ _ _ h => hQp _ _ _ _ _ h) rfl (lb_ J.size) (wanted_none rfl) r_c0_5 hS0 (fun c0_5 fc0_5 => ?_)
  clear r_c0_5
  clear fc0_4
  have r_c0_6 : ∀ Z, (fun Z => Z.cell? ⟨bw, j, none⟩ = some (.slice ai (wrOf D.W j).length ci) ∧ Z.heap[wr.heap.size]? = some (.cells (spC s).toArray 35 (0, 0))) Z → (execOp c0_5.eval oPL28).run Try.prog Z = .ok (.value (.slice ai (wrOf D.W j).length ci)) Z := fun Z hZ => by
    unfold oPL28
    obtain ⟨z0, zb⟩ := hZ
    have z4 : Z.cell? ⟨wr.heap.size, 4, none⟩ = some (.int .i64 s.len) := (cell_of_row _ _ _ _ _ _ zb).trans rfl
    have z5 : Z.cell? ⟨wr.heap.size, 5, none⟩ = some (.int .u8 (s.x.toNat : Int)) := (cell_of_row _ _ _ _ _ _ zb).trans rfl
    have z6 : Z.cell? ⟨wr.heap.size, 6, none⟩ = some (.int .u8 (s.st.toNat : Int)) := (cell_of_row _ _ _ _ _ _ zb).trans rfl
    have e76 := (show c0_5.eval (.tmp 76) = .pointer (some ⟨bw, j, none⟩) from (fc0_5.at_ 76))
    clear fc0_5 hQ h9 hg hs hlw
    generalize c0_5.eval = ρ at *
    go_simp
  refine fc0_5.take 5 77 (.slice ai (wrOf D.W j).length ci) rfl (by kernel_rfl) (by kernel_rfl) (by kernel_rfl) (fun _ _ _ h => hQp _ _ _ _ _ h) rfl (lb_ J.size) (wanted_none rfl) r_c0_6 hS0 (fun c0_6 fc0_6 => ?_)
  clear r_c0_6
  clear fc0_5
  have r_c0_7 : ∀ Z, (fun Z => Z.cell? ⟨bw, j, none⟩ = some (.slice ai (wrOf D.W j).length ci) ∧ Z.heap[wr.heap.size]? = some (.cells (spC s).toArray 35 (0, 0))) Z → (execOp c0_6.eval oPL29).run Try.prog Z = .ok (.value (.pointer (some ⟨wr.heap.size, 4, none⟩))) Z := fun Z hZ => by
    unfold oPL29
    have e10 := (show c0_6.eval (.tmp 10) = .pointer (some ⟨wr.heap.size, 0, none⟩) from ((fc0_6.at_ 10).trans q10))
    clear fc0_6 hQ h9 hg hs hlw
    generalize c0_6.eval = ρ at *
    go_simp
  refine fc0_6.take 6 78 (.pointer (some ⟨wr.heap.size, 4, none⟩)) rfl (by kernel_rfl) (by kernel_rfl) (by kernel_rfl) (fun _ _ _ h => hQp _ _ _ _ _ h) rfl (lb_ J.size) (wanted_none rfl) r_c0_7 hS0 (fun c0_7 fc0_7 => ?_)
  clear r_c0_7
  clear fc0_6
  have r_c0_8 : ∀ Z, (fun Z => Z.cell? ⟨bw, j, none⟩ = some (.slice ai (wrOf D.W j).length ci) ∧ Z.heap[wr.heap.size]? = some (.cells (spC s).toArray 35 (0, 0))) Z → (execOp c0_7.eval oPL30).run Try.prog Z = .ok (.value (.agg #[.int .i64 s.len, .int .u8 (s.x.toNat : Int), .int .u8 (s.st.toNat : Int)])) Z := fun Z hZ => by
    unfold oPL30
    obtain ⟨z0, zb⟩ := hZ
    have z4 : Z.cell? ⟨wr.heap.size, 4, none⟩ = some (.int .i64 s.len) := (cell_of_row _ _ _ _ _ _ zb).trans rfl
    have z5 : Z.cell? ⟨wr.heap.size, 5, none⟩ = some (.int .u8 (s.x.toNat : Int)) := (cell_of_row _ _ _ _ _ _ zb).trans rfl
    have z6 : Z.cell? ⟨wr.heap.size, 6, none⟩ = some (.int .u8 (s.st.toNat : Int)) := (cell_of_row _ _ _ _ _ _ zb).trans rfl
    have e78 := (show c0_7.eval (.tmp 78) = .pointer (some ⟨wr.heap.size, 4, none⟩) from (fc0_7.at_ 78))
    clear fc0_7 hQ h9 hg hs hlw
    generalize c0_7.eval = ρ at *
    go_simp
  refine fc0_7.take 7 79 (.agg #[.int .i64 s.len, .int .u8 (s.x.toNat : Int), .int .u8 (s.st.toNat : Int)]) rfl (by kernel_rfl) (by kernel_rfl) (by kernel_rfl) (fun _ _ _ h => hQp _ _ _ _ _ h) rfl (lb_ J.size) (wanted_none rfl) r_c0_8 hS0 (fun c0_8 fc0_8 => ?_)
  clear r_c0_8
  clear fc0_7
  have r_c0_9 : (execOp c0_8.eval oPL31).run Try.prog (V4.drew) = .ok (.enter 19 #[.agg #[.int .i64 s.len, .int .u8 (s.x.toNat : Int), .int .u8 (s.st.toNat : Int)], Value.int IntKind.i64 1024]) (V4.drew) := by
    unfold oPL31
    have kc : ∀ v, c0_8.eval (.const v) = v := fun _ => rfl
    have kf : ∀ f, c0_8.eval (.func f) = .func (.func f) #[] #[] := fun _ => rfl
    have e79 := (show c0_8.eval (.tmp 79) = .agg #[.int .i64 s.len, .int .u8 (s.x.toNat : Int), .int .u8 (s.st.toNat : Int)] from (fc0_8.at_ 79))
    clear fc0_8 hQ h9 hg hs hlw
    generalize c0_8.eval = ρ at *
    go_simp
  refine fc0_8.oneCall 8 80 (by kernel_rfl) rfl rfl (lb_ J.size) (wanted_none rfl) r_c0_9 (text_calls V4.drew (by decide)) (fun e V5 hR => ?_)
  obtain ⟨rfl, s5⟩ := hR
  clear r_c0_9
  have s5d : Same V4 V5 := dd.trans s5
  have hS9 : (fun Z => Z.cell? ⟨bw, j, none⟩ = some (.slice ai (wrOf D.W j).length ci) ∧ Z.heap[wr.heap.size]? = some (.cells (spC s).toArray 35 (0, 0))) V5 := ⟨s5d.keep kh, heap_fr hB4 s5d (fun f => f)⟩
  refine ⟨_, rfl, hS9, fun c0_9 fc0_9 => ?_⟩
  clear fc0_8
  have ea : Same V4 (World.alloc V5 (.cells #[.string (spT s)] 9)) := s5d.trans ((Fr.refl _ V5).alloc _)
  have r_c0_10 : (execOp c0_9.eval oPL32).run Try.prog (V5) = .ok (.value (.slice (some ⟨V5.heap.size, 0, none⟩) 1 1)) (World.alloc V5 (.cells #[.string (spT s)] 9)) := by
    unfold oPL32
    have e80 := (show c0_9.eval (.tmp 80) = .string (spT s) from (fc0_9.at_ 80))
    clear fc0_9 hQ h9 hg hs hlw
    generalize c0_9.eval = ρ at *
    go_simp
  have hS10 : (fun Z => Z.cell? ⟨bw, j, none⟩ = some (.slice ai (wrOf D.W j).length ci) ∧ Z.heap[wr.heap.size]? = some (.cells (spC s).toArray 35 (0, 0))) (World.alloc V5 (.cells #[.string (spT s)] 9)) := ⟨ea.keep kh, heap_fr hB4 ea (fun f => f)⟩
  refine fc0_9.one 9 81 (.slice (some ⟨V5.heap.size, 0, none⟩) 1 1) (by kernel_rfl) rfl rfl (lb_ J.size) (wanted_none rfl) r_c0_10 hS10 (fun c0_10 fc0_10 => ?_)
  clear r_c0_10
  have hva : (World.alloc V5 (.cells #[.string (spT s)] 9)).heap[V5.heap.size]? = some (.cells #[.string (spT s)] 9 (0, 0)) := heap_alloc_new V5 _
  generalize World.alloc V5 (.cells #[.string (spT s)] 9) = V6 at *
  have wr6 := wr4.fr ea (fun _ _ f => f)
  have oh6 := own_frameB oh ea (fun _ _ f => f)
  obtain ⟨gr, c3, V7, hr3, o3, f3, l3⟩ := appStrs (m := 1) (c := 1) (ad := ⟨V5.heap.size, 0, none⟩) (news := [.string (spT s)]) V6 40 oh6 rfl (fun j u hj => by rw [WideShapes.add_plain, Nat.zero_add]; exact (cell_of_row _ _ _ _ _ _ hva).trans (by rw [← hj, ← List.getElem?_toArray])) (fun u hu => by rw [List.mem_singleton] at hu; rw [hu]; rfl) (by decide) (by omega)
  have nbw : ¬ (Value.slice ai (wrOf D.W j).length ci).ownBlock = some bw := fun e => (sh bw e).2 rfl
  have nbx : ¬ (Value.slice ai (wrOf D.W j).length ci).ownBlock = some wr.heap.size := fun e => by have := hg.wr.lt _ (sh _ e).1; omega
  have k6 : V6.cell? ⟨bw, j, none⟩ = some (.slice ai (wrOf D.W j).length ci) := ea.keep kh
  have c7 : V7.cell? ⟨bw, j, none⟩ = some (.slice ai (wrOf D.W j).length ci) := (f3.cell (World.block_lt_of_cell? _ _ k6) nbw).trans k6
  have hB7 := heap_fr (heap_fr hB4 ea (fun f => f)) f3 nbx
  have z7 : V7.frozen? ⟨bw, j, none⟩ = false := wr_frozen wr6 f3 nbw
  clear fc0_9
  have r_c0_11 : (execOp c0_10.eval oPL33).run Try.prog (V6) = .ok (.value (.slice (some ⟨gr, 0, none⟩) ((wrOf D.W j).length + 1) c3)) (V7) := by
    unfold oPL33
    refine exec_append rfl ?_
    rw [(show c0_10.eval (.tmp 77) = .slice ai (wrOf D.W j).length ci from (fc0_10.at_ 77)), (show c0_10.eval (.tmp 81) = .slice (some ⟨V5.heap.size, 0, none⟩) 1 1 from (fc0_10.at_ 81))]
    exact hr3
  have hS11 : (fun Z => Z.cell? ⟨bw, j, none⟩ = some (.slice ai (wrOf D.W j).length ci) ∧ Z.heap[wr.heap.size]? = some (.cells (spC s).toArray 35 (0, 0))) (V7) := ⟨c7, hB7⟩
  refine fc0_10.one 10 82 (.slice (some ⟨gr, 0, none⟩) ((wrOf D.W j).length + 1) c3) (by kernel_rfl) rfl rfl (lb_ J.size) (wanted_none rfl) r_c0_11 hS11 (fun c0_11 fc0_11 => ?_)
  clear r_c0_11
  clear fc0_10
  have r_c0_12 : ∀ Z, (fun Z => Z.cell? ⟨bw, j, none⟩ = some (.slice ai (wrOf D.W j).length ci) ∧ Z.heap[wr.heap.size]? = some (.cells (spC s).toArray 35 (0, 0))) Z → (execOp c0_11.eval oPL34).run Try.prog Z = .ok (.value (.pointer (some ⟨bw, j, none⟩))) Z := fun Z hZ => by
    unfold oPL34
    have e72 := (show c0_11.eval (.tmp 72) = .slice (some ⟨bw, 0, none⟩) 8 8 from (fc0_11.at_ 72))
    have e73 := (show c0_11.eval (.tmp 73) = .int .i64 (j : Int) from (fc0_11.at_ 73))
    clear fc0_11 hQ h9 hg hs hlw
    generalize c0_11.eval = ρ at *
    go_simp
  refine fc0_11.take 11 83 (.pointer (some ⟨bw, j, none⟩)) rfl (by kernel_rfl) (by kernel_rfl) (by kernel_rfl) (fun _ _ _ h => hQp _ _ _ _ _ h) rfl (lb_ J.size) (wanted_none rfl) r_c0_12 hS11 (fun c0_12 fc0_12 => ?_)
  clear r_c0_12
  clear fc0_11
  have r_c0_13 : (execOp c0_12.eval rPL18f).run Try.prog (V7) = .ok .skip (World.setCell V7 ⟨bw, j, none⟩ (.slice (some ⟨gr, 0, none⟩) ((wrOf D.W j).length + 1) c3)) := by
    unfold rPL18f oPL35
    have e83 := (show c0_12.eval (.tmp 83) = .pointer (some ⟨bw, j, none⟩) from (fc0_12.at_ 83))
    have e82 := (show c0_12.eval (.tmp 82) = .slice (some ⟨gr, 0, none⟩) ((wrOf D.W j).length + 1) c3 from (fc0_12.at_ 82))
    clear fc0_12 hQ h9 hg hs hlw
    generalize c0_12.eval = ρ at *
    go_simp
  refine wpAnyH_done (by kernel_rfl) ?_ _
  refine fc0_12.last rfl r_c0_13 (fun c0_13 fc0_13 => ?_)
  clear r_c0_13 fc0_12
  have o3 : V7.ownsRow 0 9 1 (.slice (some ⟨gr, 0, none⟩) ((wrOf D.W j).length + 1) c3) ((wrOf D.W j).length + 1) (scells (wrOf D.W j ++ [spT s])) := by rw [scells_app]; exact o3
  have hp := wr6.put hj8H.out k6 f3 o3 (by simp) (l3.imp id (fun e => Nat.le_of_eq e.symm))
  generalize World.setCell V7 ⟨bw, j, none⟩ (.slice (some ⟨gr, 0, none⟩) ((wrOf D.W j).length + 1) c3) = V8 at *
  obtain ⟨wr8, f8⟩ := hp
  change Code.wp _ _ _ _ _
  refine wp_region_list ?_
  unfold rPL8
  refine fc0_13.move 45 (.int .i64 (i : Int)) _ (Or.inl rfl) rfl (lb_ J.size) (wanted_none rfl) ((fc0_13.at_ 9).trans q9) (fun c0_14 fc0_14 => ?_)
  clear fc0_13
  have r_c0_15 : (execOp c0_14.eval oPL2).run Try.prog (V8) = .ok (.value (.int .i64 ((i : Int) + 1))) (V8) := by
    unfold oPL2
    have kc : ∀ v, c0_14.eval (.const v) = v := fun _ => rfl
    have e45 := (show c0_14.eval (.tmp 45) = .int .i64 (i : Int) from (fc0_14.at_ 45))
    clear fc0_14 hQ h9 hg hs hlw
    generalize c0_14.eval = ρ at *
    go_simp
  refine fc0_14.step 46 (.int .i64 ((i : Int) + 1)) rfl (lb_ J.size) (wanted_none rfl) r_c0_15 (fun c0_15 fc0_15 => ?_)
  clear r_c0_15
  clear fc0_14
  refine fc0_15.move 9 (.int .i64 ((i : Int) + 1)) _ (Or.inr rfl) rfl (lb_ J.size) (wanted_none rfl) (fc0_15.at_ 46) (fun c0_16 fc0_16 => ?_)
  clear fc0_15
  refine wpList_nil ?_
  have z3 := s3.size
  have z4 := f4.size
  have za := ea.size
  have z8 := f8.size
  have zw := g3.same.size
  have fw : Same w V4 := Fr.trans g3.same f4 (fun k hl hk => by have := g3.u k hk; omega)
  have hU4 : ∀ k, Land U V3 V4 k → w.heap.size ≤ k := fun k hk => by rcases hk with e | e; exact g3.u k e; have := e.1; omega
  have hUV : ∀ k, Land U V3 V4 k → ¬ V k := fun k hk hv => by rcases hk with e | e; exact g3.uv k e hv; have := g3.wr.lt k hv; have := e.1; omega
  refine hQ c0_16 V8 bw sa sc (Land U V3 V4) (Land V V6 V8) (J.keep fc0_16 rfl rfl rfl (by rw [play_I hd3]; exact (show c0_16.eval (.tmp 7) = .slice sa D.I.length sc from ((fc0_16.at_ 7).trans J.s7))) (show c0_16.eval (.tmp 8) = .slice (some ⟨bw, 0, none⟩) 8 8 from ((fc0_16.at_ 8).trans J.s8))) (show c0_16.eval (.tmp 9) = .int .i64 ((i : Int) + 1) from (fc0_16.at_ 9)) ⟨(d4.same ea).fr f8 hUV, by rw [hW _ hjj.out]; exact wr8, ?_, hU4, ?_, ?_, ?_, ?_⟩
  · rw [play_I hd3]; exact own_frameB (own_frameB (own_frameB g3.sy f4 (fun k hk => (g3.su k hk).1)) ea (fun _ _ f => f)) f8 (fun k hk => (g3.su k hk).2)
  · exact fun k hk => by rcases hk with e | e; exact g3.v k e; have := e.1; omega
  · exact fun k hk hv => by rcases hv with e | e; exact hUV k hk e; have := d4.lt k hk; have := e.1; omega
  · intro k hk
    rw [play_I hd3] at hk
    have h1 := own_lt g3.sy hk
    have h2 := g3.su k hk
    exact ⟨fun e => by rcases e with e | e; exact h2.1 e; have := e.1; omega, fun e => by rcases e with e | e; exact h2.2 e; have := e.1; omega⟩
  · exact Fr.trans (fw.trans ea) f8 (fun k hl hk => by have := g3.v k hk; omega)
end Go.Proofs.Ytjiaepeglghheaa
