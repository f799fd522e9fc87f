/- free: the document's Lay. -/
import Derived.Test.YtneopkhkkfckcaaYO
import Derived.Test.YtneopkhkkfckcaaII
namespace Go.Proofs.Ytneopkhkkfckcaa
open Go.RowKit Go.Maps

def oYP0 : Oper := { dst := some 4, op := Op.box 39 (Operand.tmp 0), type := 0, pos := "ref.go:296", after := #[], guard := none }
def oYP1 : Oper := { dst := some 7, op := Op.box 26 (Operand.tmp 3), type := 0, pos := "ref.go:296", after := #[], guard := none }
def oYP2 : Oper := { dst := some 16, op := Op.load 39 (Operand.tmp 4), type := 39, pos := "ref.go:297", after := #[], guard := none }
def oYP3 : Oper := { dst := some 17, op := Op.call { callee := Callee.value (Operand.func 28), args := #[Operand.tmp 16], argTypes := #[39] }, type := 4, pos := "ref.go:297", after := #[{ on := 0, ground := Ground.data }], guard := none }
def oYP4 : Oper := { dst := some 18, op := Op.unOp UnOp.not 4 (Operand.tmp 17), type := 4, pos := "ref.go:297", after := #[{ on := 1, ground := Ground.data }], guard := none }
def oYP5 : Oper := { dst := some 21, op := Op.binOp BinOp.lss 40 (Operand.tmp 20) (Operand.const (Value.int IntKind.u64 1)) 40, type := 4, pos := "ref.go:297", after := #[{ on := 4, ground := Ground.data }, { on := 3, ground := Ground.guard }], guard := some (3, false) }
def oYP6 : Oper := { dst := some 22, op := Op.pick (Operand.tmp 19) (Operand.const (Value.bool true)) (Operand.tmp 21), type := 4, pos := "ref.go:297", after := #[{ on := 3, ground := Ground.data }, { on := 5, ground := Ground.data }], guard := none }
def oYP7 : Oper := { dst := some 25, op := Op.binOp BinOp.gtr 40 (Operand.tmp 24) (Operand.const (Value.int IntKind.u64 1099511627776)) 40, type := 4, pos := "ref.go:297", after := #[{ on := 8, ground := Ground.data }, { on := 7, ground := Ground.guard }], guard := some (7, false) }
def oYP8 : Oper := { dst := some 26, op := Op.pick (Operand.tmp 23) (Operand.const (Value.bool true)) (Operand.tmp 25), type := 4, pos := "ref.go:297", after := #[{ on := 7, ground := Ground.data }, { on := 9, ground := Ground.data }], guard := none }
def oYP9 : Oper := { dst := some 28, op := Op.fieldAddr 26 (Operand.tmp 7) 2, type := 0, pos := "ref.go:297", after := #[{ on := 11, ground := Ground.guard }], guard := some (11, false) }
def oYP10 : Oper := { dst := some 29, op := Op.load 3 (Operand.tmp 28), type := 3, pos := "ref.go:297", after := #[{ on := 12, ground := Ground.data }, { on := 11, ground := Ground.guard }], guard := some (11, false) }
def oYP11 : Oper := { dst := some 30, op := Op.binOp BinOp.lss 3 (Operand.tmp 29) (Operand.const (Value.int IntKind.i64 0)) 3, type := 4, pos := "ref.go:297", after := #[{ on := 13, ground := Ground.data }, { on := 11, ground := Ground.guard }], guard := some (11, false) }
def oYP12 : Oper := { dst := some 31, op := Op.pick (Operand.tmp 27) (Operand.const (Value.bool true)) (Operand.tmp 30), type := 4, pos := "ref.go:297", after := #[{ on := 11, ground := Ground.data }, { on := 14, ground := Ground.data }], guard := none }
def oYP13 : Oper := { dst := some 33, op := Op.fieldAddr 26 (Operand.tmp 7) 2, type := 0, pos := "ref.go:297", after := #[{ on := 16, ground := Ground.guard }], guard := some (16, false) }
def oYP14 : Oper := { dst := some 34, op := Op.load 3 (Operand.tmp 33), type := 3, pos := "ref.go:297", after := #[{ on := 17, ground := Ground.data }, { on := 16, ground := Ground.guard }], guard := some (16, false) }
def oYP15 : Oper := { dst := some 36, op := Op.call { callee := Callee.builtin Builtin.len, args := #[Operand.tmp 35], argTypes := #[22] }, type := 3, pos := "ref.go:297", after := #[{ on := 19, ground := Ground.data }, { on := 16, ground := Ground.guard }], guard := some (16, false) }
def oYP16 : Oper := { dst := some 37, op := Op.binOp BinOp.gtr 3 (Operand.tmp 34) (Operand.tmp 36) 3, type := 4, pos := "ref.go:297", after := #[{ on := 18, ground := Ground.data }, { on := 20, ground := Ground.data }, { on := 16, ground := Ground.guard }], guard := some (16, false) }
def oYP17 : Oper := { dst := some 38, op := Op.pick (Operand.tmp 32) (Operand.const (Value.bool true)) (Operand.tmp 37), type := 4, pos := "ref.go:297", after := #[{ on := 16, ground := Ground.data }, { on := 21, ground := Ground.data }], guard := none }
def oYP18 : Oper := { dst := some 40, op := Op.load 26 (Operand.tmp 7), type := 26, pos := "ref.go:300", after := #[], guard := none }
def oYP19 : Oper := { dst := some 41, op := Op.call { callee := Callee.value (Operand.func 5), args := #[Operand.tmp 39, Operand.tmp 40], argTypes := #[22, 26] }, type := 22, pos := "ref.go:300", after := #[{ on := 0, ground := Ground.data }, { on := 1, ground := Ground.data }], guard := none }
def oYP20 : Oper := { dst := some 42, op := Op.load 39 (Operand.tmp 4), type := 39, pos := "ref.go:301", after := #[], guard := none }
def oYP21 : Oper := { dst := some 44, op := Op.fieldAddr 26 (Operand.tmp 7) 3, type := 0, pos := "ref.go:301", after := #[], guard := none }
def oYP22 : Oper := { dst := some 45, op := Op.load 24 (Operand.tmp 44), type := 24, pos := "ref.go:301", after := #[{ on := 2, ground := Ground.data }], guard := none }
def oYP23 : Oper := { dst := some 46, op := Op.call { callee := Callee.value (Operand.func 29), args := #[Operand.tmp 42, Operand.tmp 43, Operand.tmp 45], argTypes := #[39, 22, 24] }, type := 3, pos := "ref.go:301", after := #[{ on := 0, ground := Ground.data }, { on := 1, ground := Ground.data }, { on := 3, ground := Ground.data }], guard := none }
def oYP24 : Oper := { dst := some 47, op := Op.binOp BinOp.neq 3 (Operand.tmp 46) (Operand.const (Value.int IntKind.i64 0)) 3, type := 4, pos := "ref.go:301", after := #[{ on := 4, ground := Ground.data }], guard := none }
def oYP25 : Oper := { dst := some 49, op := Op.fieldAddr 26 (Operand.tmp 7) 1, type := 0, pos := "ref.go:305", after := #[], guard := none }
def oYP26 : Oper := { dst := some 50, op := Op.load 22 (Operand.tmp 49), type := 22, pos := "ref.go:305", after := #[{ on := 1, ground := Ground.data }], guard := none }
def oYP27 : Oper := { dst := some 51, op := Op.call { callee := Callee.builtin Builtin.len, args := #[Operand.tmp 50], argTypes := #[22] }, type := 3, pos := "ref.go:305", after := #[{ on := 2, ground := Ground.data }], guard := none }
def oYP28 : Oper := { dst := some 52, op := Op.binOp BinOp.lss 3 (Operand.tmp 48) (Operand.tmp 51) 3, type := 4, pos := "ref.go:305", after := #[{ on := 0, ground := Ground.data }, { on := 3, ground := Ground.data }], guard := none }
def oYP29 : Oper := { dst := some 54, op := Op.binOp BinOp.add 3 (Operand.tmp 53) (Operand.const (Value.int IntKind.i64 1)) 3, type := 3, pos := "ref.go:305", after := #[{ on := 0, ground := Ground.data }], guard := none }
def oYP30 : Oper := { dst := some 56, op := Op.binOp BinOp.add 3 (Operand.tmp 55) (Operand.const (Value.int IntKind.i64 1)) 3, type := 3, pos := "ref.go:307", after := #[{ on := 0, ground := Ground.data }], guard := none }
def oYP31 : Oper := { dst := some 58, op := Op.call { callee := Callee.builtin Builtin.len, args := #[Operand.tmp 57], argTypes := #[22] }, type := 3, pos := "ref.go:307", after := #[{ on := 2, ground := Ground.data }], guard := none }
def oYP32 : Oper := { dst := some 59, op := Op.binOp BinOp.lss 3 (Operand.tmp 56) (Operand.tmp 58) 3, type := 4, pos := "ref.go:307", after := #[{ on := 1, ground := Ground.data }, { on := 3, ground := Ground.data }], guard := none }
def oYP33 : Oper := { dst := some 62, op := Op.binOp BinOp.add 3 (Operand.tmp 61) (Operand.const (Value.int IntKind.i64 1)) 3, type := 3, pos := "ref.go:308", after := #[{ on := 1, ground := Ground.data }], guard := none }
def oYP34 : Oper := { dst := some 63, op := Op.indexAddr 22 (Operand.tmp 60) (Operand.tmp 62), type := 0, pos := "ref.go:308", after := #[{ on := 0, ground := Ground.data }, { on := 2, ground := Ground.data }], guard := none }
def oYP35 : Oper := { dst := some 64, op := Op.fieldAddr 55 (Operand.tmp 63) 0, type := 0, pos := "ref.go:308", after := #[{ on := 3, ground := Ground.data }], guard := none }
def oYP36 : Oper := { dst := some 65, op := Op.load 24 (Operand.tmp 64), type := 24, pos := "ref.go:308", after := #[{ on := 4, ground := Ground.data }], guard := none }
def oYP37 : Oper := { dst := some 67, op := Op.load 39 (Operand.tmp 4), type := 39, pos := "ref.go:310", after := #[], guard := none }
def oYP38 : Oper := { dst := some 71, op := Op.indexAddr 22 (Operand.tmp 69) (Operand.tmp 70), type := 0, pos := "ref.go:310", after := #[{ on := 2, ground := Ground.data }, { on := 3, ground := Ground.data }], guard := none }
def oYP39 : Oper := { dst := some 72, op := Op.fieldAddr 55 (Operand.tmp 71) 1, type := 0, pos := "ref.go:310", after := #[{ on := 4, ground := Ground.data }], guard := none }
def oYP40 : Oper := { dst := some 73, op := Op.load 23 (Operand.tmp 72), type := 23, pos := "ref.go:310", after := #[{ on := 5, ground := Ground.data }], guard := none }
def oYP41 : Oper := { dst := some 74, op := Op.call { callee := Callee.value (Operand.func 30), args := #[Operand.tmp 67, Operand.tmp 68, Operand.tmp 73], argTypes := #[39, 24, 23] }, type := 71, pos := "ref.go:310", after := #[{ on := 0, ground := Ground.data }, { on := 1, ground := Ground.data }, { on := 6, ground := Ground.data }], guard := none }
def oYP42 : Oper := { dst := some 75, op := Op.extract (Operand.tmp 66) 0, type := 9, pos := "ref.go:310", after := #[{ on := 8, ground := Ground.data }], guard := none }
def oYP43 : Oper := { dst := some 76, op := Op.extract (Operand.tmp 66) 1, type := 3, pos := "ref.go:310", after := #[{ on := 8, ground := Ground.data }, { on := 11, ground := Ground.gcOnly Go.Departure.lateStores }], guard := none }
def oYP44 : Oper := { dst := some 80, op := Op.indexAddr 22 (Operand.tmp 78) (Operand.tmp 79), type := 0, pos := "ref.go:311", after := #[{ on := 1, ground := Ground.data }, { on := 2, ground := Ground.data }], guard := none }
def oYP45 : Oper := { dst := some 81, op := Op.fieldAddr 55 (Operand.tmp 80) 0, type := 0, pos := "ref.go:311", after := #[{ on := 3, ground := Ground.data }], guard := none }
def oYP46 : Oper := { dst := some 82, op := Op.load 24 (Operand.tmp 81), type := 24, pos := "ref.go:311", after := #[{ on := 4, ground := Ground.data }], guard := none }
def oYP47 : Oper := { dst := some 85, op := Op.build 52 #[(0, Operand.const (Value.int IntKind.u8 3)), (1, Operand.tmp 82), (2, Operand.tmp 83), (3, Operand.tmp 84)], type := 52, pos := "ref.go:311", after := #[{ on := 5, ground := Ground.data }, { on := 6, ground := Ground.data }, { on := 7, ground := Ground.data }], guard := none }
def oYP48 : Oper := { dst := some 86, op := Op.buildSlice 43 1 #[(0, Operand.tmp 85)], type := 43, pos := "ref.go:311", after := #[{ on := 8, ground := Ground.data }], guard := none }
def oYP49 : Oper := { dst := some 87, op := Op.call { callee := Callee.builtin Builtin.append, args := #[Operand.tmp 77, Operand.tmp 86], argTypes := #[43, 43] }, type := 43, pos := "ref.go:311", after := #[{ on := 0, ground := Ground.data }, { on := 9, ground := Ground.data }], guard := none }
def rDL0 : Array Oper := #[oYP0,
  oYP1,
  { dst := some 8, op := Op.assign (Operand.const (Value.slice none 0 0)), type := 43, pos := "ref.go:296", after := #[], guard := none },
  { dst := some 9, op := Op.assign (Operand.const (Value.int IntKind.i64 0)), type := 3, pos := "ref.go:296", after := #[{ on := 2, ground := Ground.chain }], guard := none }]
def rDL1 : Array Oper := #[oYP2,
  oYP3,
  oYP4,
  { dst := some 19, op := Op.move (Operand.tmp 18), type := 4, pos := "ref.go:297", after := #[{ on := 2, ground := Ground.data }, { on := 1, ground := Ground.chain }], guard := none },
  { dst := some 20, op := Op.move (Operand.tmp 1), type := 40, pos := "ref.go:297", after := #[{ on := 3, ground := Ground.guard }], guard := some (3, false) },
  oYP5,
  oYP6,
  { dst := some 23, op := Op.move (Operand.tmp 22), type := 4, pos := "ref.go:297", after := #[{ on := 6, ground := Ground.data }, { on := 3, ground := Ground.chain }], guard := none },
  { dst := some 24, op := Op.move (Operand.tmp 1), type := 40, pos := "ref.go:297", after := #[{ on := 7, ground := Ground.guard }], guard := some (7, false) },
  oYP7,
  oYP8,
  { dst := some 27, op := Op.move (Operand.tmp 26), type := 4, pos := "ref.go:297", after := #[{ on := 10, ground := Ground.data }, { on := 7, ground := Ground.chain }], guard := none },
  oYP9,
  oYP10,
  oYP11,
  oYP12,
  { dst := some 32, op := Op.move (Operand.tmp 31), type := 4, pos := "ref.go:297", after := #[{ on := 15, ground := Ground.data }, { on := 11, ground := Ground.chain }], guard := none },
  oYP13,
  oYP14,
  { dst := some 35, op := Op.move (Operand.tmp 2), type := 22, pos := "ref.go:297", after := #[{ on := 16, ground := Ground.guard }], guard := some (16, false) },
  oYP15,
  oYP16,
  oYP17]
def rDL2 : Array Oper := #[{ dst := some 8, op := Op.assign (Operand.const (Value.slice none 0 0)), type := 43, pos := "ref.go:298", after := #[], guard := none },
  { dst := some 9, op := Op.assign (Operand.const (Value.int IntKind.i64 2)), type := 3, pos := "ref.go:298", after := #[{ on := 0, ground := Ground.chain }, { on := 0, ground := Ground.phase }], guard := none }]
def rDL3 : Array Oper := #[{ dst := some 39, op := Op.move (Operand.tmp 2), type := 22, pos := "ref.go:300", after := #[], guard := none },
  oYP18,
  oYP19,
  { dst := some 10, op := Op.assign (Operand.tmp 41), type := 22, pos := "ref.go:300", after := #[{ on := 2, ground := Ground.data }, { on := 2, ground := Ground.chain }, { on := 0, ground := Ground.phase }, { on := 1, ground := Ground.phase }, { on := 2, ground := Ground.phase }], guard := none }]
def rDL4 : Array Oper := #[oYP20,
  { dst := some 43, op := Op.move (Operand.tmp 10), type := 22, pos := "ref.go:301", after := #[], guard := none },
  oYP21,
  oYP22,
  oYP23,
  oYP24]
def rDL5 : Array Oper := #[{ dst := some 8, op := Op.assign (Operand.const (Value.slice none 0 0)), type := 43, pos := "ref.go:302", after := #[], guard := none },
  { dst := some 9, op := Op.assign (Operand.const (Value.int IntKind.i64 2)), type := 3, pos := "ref.go:302", after := #[{ on := 0, ground := Ground.chain }, { on := 0, ground := Ground.phase }], guard := none }]
def rDL6 : Array Oper := #[{ dst := some 11, op := Op.assign (Operand.const (Value.slice none 0 0)), type := 43, pos := "ref.go:304", after := #[], guard := none }]
def rDL7 : Array Oper := #[{ dst := some 12, op := Op.assign (Operand.const (Value.int IntKind.i64 0)), type := 3, pos := "ref.go:305", after := #[], guard := none }]
def rDL8 : Array Oper := #[{ dst := some 48, op := Op.move (Operand.tmp 12), type := 3, pos := "ref.go:305", after := #[], guard := none },
  oYP25,
  oYP26,
  oYP27,
  oYP28]
def rDL9 : Array Oper := #[{ dst := some 53, op := Op.move (Operand.tmp 12), type := 3, pos := "ref.go:305", after := #[], guard := none },
  oYP29,
  { dst := some 12, op := Op.assign (Operand.tmp 54), type := 3, pos := "ref.go:305", after := #[{ on := 1, ground := Ground.data }, { on := 0, ground := Ground.phase }, { on := 1, ground := Ground.phase }], guard := none }]
def rDL10 : Array Oper := #[{ dst := some 13, op := Op.assign (Operand.const (Value.int IntKind.u32 0)), type := 24, pos := "ref.go:306", after := #[], guard := none }]
def rDL11 : Array Oper := #[{ dst := some 55, op := Op.move (Operand.tmp 12), type := 3, pos := "ref.go:307", after := #[], guard := none },
  oYP30,
  { dst := some 57, op := Op.move (Operand.tmp 10), type := 22, pos := "ref.go:307", after := #[], guard := none },
  oYP31,
  oYP32]
def rDL12 : Array Oper := #[{ dst := some 60, op := Op.move (Operand.tmp 10), type := 22, pos := "ref.go:308", after := #[], guard := none },
  { dst := some 61, op := Op.move (Operand.tmp 12), type := 3, pos := "ref.go:308", after := #[], guard := none },
  oYP33,
  oYP34,
  oYP35,
  oYP36,
  { dst := some 13, op := Op.assign (Operand.tmp 65), type := 24, pos := "ref.go:308", after := #[{ on := 5, ground := Ground.data }, { on := 0, ground := Ground.phase }, { on := 1, ground := Ground.phase }, { on := 2, ground := Ground.phase }, { on := 3, ground := Ground.phase }, { on := 4, ground := Ground.phase }, { on := 5, ground := Ground.phase }], guard := none }]
def rDL13 : Array Oper := #[oYP37,
  { dst := some 68, op := Op.move (Operand.tmp 13), type := 24, pos := "ref.go:310", after := #[], guard := none },
  { dst := some 69, op := Op.move (Operand.tmp 10), type := 22, pos := "ref.go:310", after := #[], guard := none },
  { dst := some 70, op := Op.move (Operand.tmp 12), type := 3, pos := "ref.go:310", after := #[], guard := none },
  oYP38,
  oYP39,
  oYP40,
  oYP41,
  { dst := some 66, op := Op.move (Operand.tmp 74), type := 71, pos := "ref.go:310", after := #[{ on := 7, ground := Ground.data }], guard := none },
  oYP42,
  oYP43,
  { dst := some 14, op := Op.assign (Operand.tmp 75), type := 9, pos := "ref.go:310", after := #[{ on := 9, ground := Ground.data }, { on := 7, ground := Ground.chain }, { on := 0, ground := Ground.phase }, { on := 1, ground := Ground.phase }, { on := 2, ground := Ground.phase }, { on := 3, ground := Ground.phase }, { on := 4, ground := Ground.phase }, { on := 5, ground := Ground.phase }, { on := 6, ground := Ground.phase }, { on := 7, ground := Ground.phase }, { on := 8, ground := Ground.phase }, { on := 9, ground := Ground.phase }, { on := 10, ground := Ground.textOnly Go.Departure.lateStores }], guard := none },
  { dst := some 15, op := Op.assign (Operand.tmp 76), type := 3, pos := "ref.go:310", after := #[{ on := 10, ground := Ground.data }, { on := 11, ground := Ground.chain }, { on := 0, ground := Ground.phase }, { on := 1, ground := Ground.phase }, { on := 2, ground := Ground.phase }, { on := 3, ground := Ground.phase }, { on := 4, ground := Ground.phase }, { on := 5, ground := Ground.phase }, { on := 6, ground := Ground.phase }, { on := 7, ground := Ground.phase }, { on := 8, ground := Ground.phase }, { on := 9, ground := Ground.phase }, { on := 10, ground := Ground.phase }, { on := 11, ground := Ground.phase }], guard := none }]
def rDL14 : Array Oper := #[{ dst := some 77, op := Op.move (Operand.tmp 11), type := 43, pos := "ref.go:311", after := #[], guard := none },
  { dst := some 78, op := Op.move (Operand.tmp 10), type := 22, pos := "ref.go:311", after := #[], guard := none },
  { dst := some 79, op := Op.move (Operand.tmp 12), type := 3, pos := "ref.go:311", after := #[], guard := none },
  oYP44,
  oYP45,
  oYP46,
  { dst := some 83, op := Op.move (Operand.tmp 1), type := 40, pos := "ref.go:311", after := #[], guard := none },
  { dst := some 84, op := Op.move (Operand.tmp 14), type := 9, pos := "ref.go:311", after := #[], guard := none },
  oYP47,
  oYP48,
  oYP49,
  { dst := some 11, op := Op.assign (Operand.tmp 87), type := 43, pos := "ref.go:311", after := #[{ on := 10, ground := Ground.data }, { on := 10, ground := Ground.chain }, { on := 0, ground := Ground.phase }, { on := 1, ground := Ground.phase }, { on := 2, ground := Ground.phase }, { on := 3, ground := Ground.phase }, { on := 4, ground := Ground.phase }, { on := 5, ground := Ground.phase }, { on := 6, ground := Ground.phase }, { on := 7, ground := Ground.phase }, { on := 8, ground := Ground.phase }, { on := 9, ground := Ground.phase }, { on := 10, ground := Ground.phase }], guard := none }]
def rDL15 : Array Oper := #[{ dst := some 88, op := Op.move (Operand.tmp 11), type := 43, pos := "ref.go:313", after := #[], guard := none },
  { dst := some 8, op := Op.assign (Operand.tmp 88), type := 43, pos := "ref.go:313", after := #[{ on := 0, ground := Ground.data }, { on := 0, ground := Ground.phase }], guard := none },
  { dst := some 9, op := Op.assign (Operand.const (Value.int IntKind.i64 0)), type := 3, pos := "ref.go:313", after := #[{ on := 1, ground := Ground.chain }, { on := 0, ground := Ground.phase }, { on := 1, ground := Ground.phase }], guard := none }]
def cDL1 : Code := (Code.seq (Code.seq (Code.region 8 rDL8 false) (Code.cond (Operand.tmp 52) Code.skip (Code.exit 0))) (Code.seq (Code.block 1 (Code.seq (Code.region 10 rDL10 false) (Code.seq (Code.seq (Code.region 11 rDL11 false) (Code.cond (Operand.tmp 59) (Code.region 12 rDL12 false) Code.skip)) (Code.seq (Code.region 13 rDL13 true) (Code.region 14 rDL14 false))))) (Code.region 9 rDL9 false)))
def cDL : Code := (Code.seq (Code.region 0 rDL0 false) (Code.seq (Code.seq (Code.region 1 rDL1 false) (Code.cond (Operand.tmp 38) (Code.seq (Code.region 2 rDL2 false) Code.ret) Code.skip)) (Code.seq (Code.region 3 rDL3 false) (Code.seq (Code.seq (Code.region 4 rDL4 false) (Code.cond (Operand.tmp 47) (Code.seq (Code.region 5 rDL5 false) Code.ret) Code.skip)) (Code.seq (Code.region 6 rDL6 false) (Code.seq (Code.seq (Code.region 7 rDL7 false) (Code.block 0 (Code.loop cDL1))) (Code.seq (Code.region 15 rDL15 false) Code.ret)))))))

structure IDL (hz vr : Nat) (af : Value) (a : Act) : Prop where
  size : a.tmps.size = 89
  defers : a.defers = []
  s1 : a.eval (.tmp 1) = .int .u64 (vr : Int)
  s4 : a.eval (.tmp 4) = .pointer (some ⟨hz, 0, none⟩)
  s7 : a.eval (.tmp 7) = .pointer (some ⟨hz + 1, 0, none⟩)
  s10 : a.eval (.tmp 10) = af
theorem IDL.keep {hz vr : Nat} {af : Value} {a0 a : Act} {env : List (Nat × Value)} (h : IDL hz vr af a0) (f : Fe a0 env a) (hk : ∀ t, t = 1 ∨ t = 4 ∨ t = 7 ∨ t = 10 → look env t (a0.eval (.tmp t)) = a0.eval (.tmp t)) : IDL hz vr af a :=
  ⟨f.size.trans h.size, f.defers.trans h.defers, ((f.at_ 1).trans (hk 1 (by simp))).trans h.s1, ((f.at_ 4).trans (hk 4 (by simp))).trans h.s4, ((f.at_ 7).trans (hk 7 (by simp))).trans h.s7, ((f.at_ 10).trans (hk 10 (by simp))).trans h.s10⟩
set_option maxRecDepth 100000 in
set_option maxHeartbeats 1000000 in
theorem dlI {p q be : Int} {bs : ByteArray} {hz vr ga T cc ln llc i lc nl nx : Nat} {lo la : Option Addr} {l : List Pgx} {x : Bt} {Q : Exit → Act → World → Prop} (hQp : ∀ c (a : Act) d v w, Q (.panic c) (a.put d v) w → Q (.panic c) a w) (a0 : Act) (V wr : World) (I0 : IDL hz vr (.slice (some ⟨ga, 0, none⟩) T cc) a0) (h12 : a0.eval (.tmp 12) = .int .i64 (i : Int)) (h11 : a0.eval (.tmp 11) = .slice lo nl lc) (hnl : nl = l.length)
    (hc : LYw V wr vr l lo lc) (hi : i < ln) (hln : ln ≤ T) (hT : T ≤ 2000000) (hnb : nl ≤ 2000000) (hin : i + 1 < T) (d0 : wr.cell? ⟨hz, 0, none⟩ = some (.int .i64 p)) (d1 : wr.cell? ⟨hz, 1, none⟩ = some (.int .i64 q)) (d2 : wr.cell? ⟨hz + 1, 1, none⟩ = some (.slice la ln llc))
    (c1 : wr.cell? ⟨ga, i * 2, none⟩ = some (.int .u32 (x.pg : Int))) (c2 : wr.cell? ⟨ga, i * 2 + 1, none⟩ = some (.slice x.na x.ns.length x.nc)) (c3 : wr.cell? ⟨ga, (i + 1) * 2, none⟩ = some (.int .u32 (nx : Int)))
    (kb : ∀ Z, Same wr Z → Calls Try.prog 30 #[.agg #[.int .i64 p, .int .i64 q], .int .u32 (nx : Int), .slice x.na x.ns.length x.nc] Z fun e w' => e = .returned (.tuple #[.string bs, .int .i64 be]) ∧ Same Z w')
    (hQ : ∀ a W a4 c4, IDL hz vr (.slice (some ⟨ga, 0, none⟩) T cc) a → a.eval (.tmp 12) = .int .i64 ((i : Int) + 1) → a.eval (.tmp 11) = .slice a4 (l ++ [(x.pg, bs)]).length c4 → LYw V W vr (l ++ [(x.pg, bs)]) a4 c4 → Q .normal a W) : cDL1.wp Try.prog Q a0 wr := by
  have hln := hln
  have hii : (i : Int) < (ln : Int) := by omega
  have hiT : (i : Int) < (T : Int) := by omega
  have w7 : IntKind.i64.wrap ((i : Int) + 1) = (i : Int) + 1 := by rw [IntKind.wrap_i64]; omega
  have w8 : RowKit.wrap64 ((i : Int) + 1) = (i : Int) + 1 := by unfold RowKit.wrap64; omega
  have hi1 : (i : Int) + 1 < (T : Int) := by omega
  have hi0 : (0 : Int) ≤ (i : Int) + 1 := by omega
  have htn : ((i : Int) + 1).toNat = i + 1 := by omega
  have fa0_0 := Fe.refl a0
  unfold cDL1
  refine wp_seq (wp_seq ?_)
  refine wp_region_list ?_
  unfold rDL8
  refine fa0_0.move 48 (.int .i64 (i : Int)) _ (Or.inl rfl) rfl (lb_ I0.size) (wanted_none rfl) ((fa0_0.at_ 12).trans h12) (fun a0_1 fa0_1 => ?_)
  clear fa0_0
  have r_a0_2 : (execOp a0_1.eval oYP25).run Try.prog (wr) = .ok (.value (.pointer (some ⟨hz + 1, 1, none⟩))) (wr) := by
    unfold oYP25
    have e7 := (show a0_1.eval (.tmp 7) = .pointer (some ⟨hz + 1, 0, none⟩) from ((fa0_1.at_ 7).trans I0.s7))
    clear fa0_1 hQ h12 h11
    generalize a0_1.eval = ρ at *
    go_simp
  refine fa0_1.step 49 (.pointer (some ⟨hz + 1, 1, none⟩)) rfl (lb_ I0.size) (wanted_none rfl) r_a0_2 (fun a0_2 fa0_2 => ?_)
  clear r_a0_2
  clear fa0_1
  have r_a0_3 : (execOp a0_2.eval oYP26).run Try.prog (wr) = .ok (.value (.slice la ln llc)) (wr) := by
    unfold oYP26
    have e49 := (show a0_2.eval (.tmp 49) = .pointer (some ⟨hz + 1, 1, none⟩) from (fa0_2.at_ 49))
    clear fa0_2 hQ h12 h11
    generalize a0_2.eval = ρ at *
    go_simp
  refine fa0_2.step 50 (.slice la ln llc) rfl (lb_ I0.size) (wanted_none rfl) r_a0_3 (fun a0_3 fa0_3 => ?_)
  clear r_a0_3
  clear fa0_2
  have r_a0_4 : (execOp a0_3.eval oYP27).run Try.prog (wr) = .ok (.value (.int .i64 (ln : Int))) (wr) := by
    unfold oYP27
    have e50 := (show a0_3.eval (.tmp 50) = .slice la ln llc from (fa0_3.at_ 50))
    clear fa0_3 hQ h12 h11
    generalize a0_3.eval = ρ at *
    go_simp
  refine fa0_3.step 51 (.int .i64 (ln : Int)) rfl (lb_ I0.size) (wanted_none rfl) r_a0_4 (fun a0_4 fa0_4 => ?_)
  clear r_a0_4
  clear fa0_3
  have r_a0_5 : (execOp a0_4.eval oYP28).run Try.prog (wr) = .ok (.value (.bool true)) (wr) := by
    unfold oYP28
    have e48 := (show a0_4.eval (.tmp 48) = .int .i64 (i : Int) from (fa0_4.at_ 48))
    have e51 := (show a0_4.eval (.tmp 51) = .int .i64 (ln : Int) from (fa0_4.at_ 51))
    clear fa0_4 hQ h12 h11
    generalize a0_4.eval = ρ at *
    go_simp
  refine fa0_4.step 52 (.bool true) rfl (lb_ I0.size) (wanted_none rfl) r_a0_5 (fun a0_5 fa0_5 => ?_)
  clear r_a0_5
  clear fa0_4
  refine wpList_nil ?_
  change Code.wp _ _ _ _ _
  refine wp_cond_true (show a0_5.eval (.tmp 52) = .bool true from (fa0_5.at_ 52)) (wp_skip ?_)
  change Code.wp _ _ _ _ _
  refine wp_seq (wp_block (wp_seq ?_))
  refine wp_region_list ?_
  unfold rDL10
  refine fa0_5.move 13 (.int .u32 0) _ (Or.inr rfl) rfl (lb_ I0.size) (wanted_none rfl) rfl (fun a0_6 fa0_6 => ?_)
  clear fa0_5
  refine wpList_nil ?_
  change Code.wp _ _ _ _ _
  refine wp_seq (wp_seq ?_)
  refine wp_region_list ?_
  unfold rDL11
  refine fa0_6.move 55 (.int .i64 (i : Int)) _ (Or.inl rfl) rfl (lb_ I0.size) (wanted_none rfl) ((fa0_6.at_ 12).trans h12) (fun a0_7 fa0_7 => ?_)
  clear fa0_6
  have r_a0_8 : (execOp a0_7.eval oYP30).run Try.prog (wr) = .ok (.value (.int .i64 ((i : Int) + 1))) (wr) := by
    unfold oYP30
    have kc : ∀ v, a0_7.eval (.const v) = v := fun _ => rfl
    have e55 := (show a0_7.eval (.tmp 55) = .int .i64 (i : Int) from (fa0_7.at_ 55))
    clear fa0_7 hQ h12 h11
    generalize a0_7.eval = ρ at *
    go_simp
  refine fa0_7.step 56 (.int .i64 ((i : Int) + 1)) rfl (lb_ I0.size) (wanted_none rfl) r_a0_8 (fun a0_8 fa0_8 => ?_)
  clear r_a0_8
  clear fa0_7
  refine fa0_8.move 57 (.slice (some ⟨ga, 0, none⟩) T cc) _ (Or.inl rfl) rfl (lb_ I0.size) (wanted_none rfl) ((fa0_8.at_ 10).trans I0.s10) (fun a0_9 fa0_9 => ?_)
  clear fa0_8
  have r_a0_10 : (execOp a0_9.eval oYP31).run Try.prog (wr) = .ok (.value (.int .i64 (T : Int))) (wr) := by
    unfold oYP31
    have e57 := (show a0_9.eval (.tmp 57) = .slice (some ⟨ga, 0, none⟩) T cc from (fa0_9.at_ 57))
    clear fa0_9 hQ h12 h11
    generalize a0_9.eval = ρ at *
    go_simp
  refine fa0_9.step 58 (.int .i64 (T : Int)) rfl (lb_ I0.size) (wanted_none rfl) r_a0_10 (fun a0_10 fa0_10 => ?_)
  clear r_a0_10
  clear fa0_9
  have r_a0_11 : (execOp a0_10.eval oYP32).run Try.prog (wr) = .ok (.value (.bool true)) (wr) := by
    unfold oYP32
    have e56 := (show a0_10.eval (.tmp 56) = .int .i64 ((i : Int) + 1) from (fa0_10.at_ 56))
    have e58 := (show a0_10.eval (.tmp 58) = .int .i64 (T : Int) from (fa0_10.at_ 58))
    clear fa0_10 hQ h12 h11
    generalize a0_10.eval = ρ at *
    go_simp
  refine fa0_10.step 59 (.bool true) rfl (lb_ I0.size) (wanted_none rfl) r_a0_11 (fun a0_11 fa0_11 => ?_)
  clear r_a0_11
  clear fa0_10
  refine wpList_nil ?_
  change Code.wp _ _ _ _ _
  refine wp_cond_true (show a0_11.eval (.tmp 59) = .bool true from (fa0_11.at_ 59)) ?_
  refine wp_region_list ?_
  unfold rDL12
  refine fa0_11.move 60 (.slice (some ⟨ga, 0, none⟩) T cc) _ (Or.inl rfl) rfl (lb_ I0.size) (wanted_none rfl) ((fa0_11.at_ 10).trans I0.s10) (fun a0_12 fa0_12 => ?_)
  clear fa0_11
  refine fa0_12.move 61 (.int .i64 (i : Int)) _ (Or.inl rfl) rfl (lb_ I0.size) (wanted_none rfl) ((fa0_12.at_ 12).trans h12) (fun a0_13 fa0_13 => ?_)
  clear fa0_12
  have r_a0_14 : (execOp a0_13.eval oYP33).run Try.prog (wr) = .ok (.value (.int .i64 ((i : Int) + 1))) (wr) := by
    unfold oYP33
    have kc : ∀ v, a0_13.eval (.const v) = v := fun _ => rfl
    have e61 := (show a0_13.eval (.tmp 61) = .int .i64 (i : Int) from (fa0_13.at_ 61))
    clear fa0_13 hQ h12 h11
    generalize a0_13.eval = ρ at *
    go_simp
  refine fa0_13.step 62 (.int .i64 ((i : Int) + 1)) rfl (lb_ I0.size) (wanted_none rfl) r_a0_14 (fun a0_14 fa0_14 => ?_)
  clear r_a0_14
  clear fa0_13
  have r_a0_15 : (execOp a0_14.eval oYP34).run Try.prog (wr) = .ok (.value (.pointer (some ⟨ga, (i + 1) * 2, none⟩))) (wr) := by
    unfold oYP34
    have e60 := (show a0_14.eval (.tmp 60) = .slice (some ⟨ga, 0, none⟩) T cc from (fa0_14.at_ 60))
    have e62 := (show a0_14.eval (.tmp 62) = .int .i64 ((i : Int) + 1) from (fa0_14.at_ 62))
    clear fa0_14 hQ h12 h11
    generalize a0_14.eval = ρ at *
    go_simp
  refine fa0_14.step 63 (.pointer (some ⟨ga, (i + 1) * 2, none⟩)) rfl (lb_ I0.size) (wanted_none rfl) r_a0_15 (fun a0_15 fa0_15 => ?_)
  clear r_a0_15
  clear fa0_14
  have r_a0_16 : (execOp a0_15.eval oYP35).run Try.prog (wr) = .ok (.value (.pointer (some ⟨ga, (i + 1) * 2, none⟩))) (wr) := by
    unfold oYP35
    have e63 := (show a0_15.eval (.tmp 63) = .pointer (some ⟨ga, (i + 1) * 2, none⟩) from (fa0_15.at_ 63))
    clear fa0_15 hQ h12 h11
    generalize a0_15.eval = ρ at *
    go_simp
  refine fa0_15.step 64 (.pointer (some ⟨ga, (i + 1) * 2, none⟩)) rfl (lb_ I0.size) (wanted_none rfl) r_a0_16 (fun a0_16 fa0_16 => ?_)
  clear r_a0_16
  clear fa0_15
  have r_a0_17 : (execOp a0_16.eval oYP36).run Try.prog (wr) = .ok (.value (.int .u32 (nx : Int))) (wr) := by
    unfold oYP36
    have e64 := (show a0_16.eval (.tmp 64) = .pointer (some ⟨ga, (i + 1) * 2, none⟩) from (fa0_16.at_ 64))
    clear fa0_16 hQ h12 h11
    generalize a0_16.eval = ρ at *
    go_simp
  refine fa0_16.step 65 (.int .u32 (nx : Int)) rfl (lb_ I0.size) (wanted_none rfl) r_a0_17 (fun a0_17 fa0_17 => ?_)
  clear r_a0_17
  clear fa0_16
  refine fa0_17.move 13 (.int .u32 (nx : Int)) _ (Or.inr rfl) rfl (lb_ I0.size) (wanted_none rfl) (fa0_17.at_ 65) (fun a0_18 fa0_18 => ?_)
  clear fa0_17
  refine wpList_nil ?_
  change Code.wp _ _ _ _ _
  refine wp_seq ?_
  have dd : Same wr wr.drew := (Fr.refl (fun _ => False) wr).drew
  refine wp_region_held_drew (ops := rDL13) (S := fun Z => Same wr Z) (by kernel_rfl) (dd) (fun hS18 => ?_)
  have r_a0_19 : ∀ Z, (fun Z => Same wr Z) Z → (execOp a0_18.eval oYP37).run Try.prog Z = .ok (.value (.agg #[.int .i64 p, .int .i64 q])) Z := fun Z hZ => by
    unfold oYP37
    have z0 := hZ.keep d0
    have z1 := hZ.keep d1
    have z2 := hZ.keep c2
    have e4 := (show a0_18.eval (.tmp 4) = .pointer (some ⟨hz, 0, none⟩) from ((fa0_18.at_ 4).trans I0.s4))
    clear fa0_18 hQ h12 h11
    generalize a0_18.eval = ρ at *
    go_simp
  refine fa0_18.take 0 67 (.agg #[.int .i64 p, .int .i64 q]) rfl (by kernel_rfl) (by kernel_rfl) (by kernel_rfl) (fun _ _ _ h => hQp _ _ _ _ _ h) rfl (lb_ I0.size) (wanted_none rfl) r_a0_19 hS18 (fun a0_19 fa0_19 => ?_)
  clear r_a0_19
  clear fa0_18
  refine fa0_19.takeMove 1 68 (.int .u32 (nx : Int)) _ (Or.inl rfl) rfl (by kernel_rfl) (by kernel_rfl) (by kernel_rfl) (fun _ _ _ h => hQp _ _ _ _ _ h) rfl (lb_ I0.size) (wanted_none rfl) (fa0_19.at_ 13) hS18 (fun a0_20 fa0_20 => ?_)
  clear fa0_19
  refine fa0_20.takeMove 2 69 (.slice (some ⟨ga, 0, none⟩) T cc) _ (Or.inl rfl) rfl (by kernel_rfl) (by kernel_rfl) (by kernel_rfl) (fun _ _ _ h => hQp _ _ _ _ _ h) rfl (lb_ I0.size) (wanted_none rfl) ((fa0_20.at_ 10).trans I0.s10) hS18 (fun a0_21 fa0_21 => ?_)
  clear fa0_20
  refine fa0_21.takeMove 3 70 (.int .i64 (i : Int)) _ (Or.inl rfl) rfl (by kernel_rfl) (by kernel_rfl) (by kernel_rfl) (fun _ _ _ h => hQp _ _ _ _ _ h) rfl (lb_ I0.size) (wanted_none rfl) ((fa0_21.at_ 12).trans h12) hS18 (fun a0_22 fa0_22 => ?_)
  clear fa0_21
  have r_a0_23 : ∀ Z, (fun Z => Same wr Z) Z → (execOp a0_22.eval oYP38).run Try.prog Z = .ok (.value (.pointer (some ⟨ga, i * 2, none⟩))) Z := fun Z hZ => by
    unfold oYP38
    have e69 := (show a0_22.eval (.tmp 69) = .slice (some ⟨ga, 0, none⟩) T cc from (fa0_22.at_ 69))
    have e70 := (show a0_22.eval (.tmp 70) = .int .i64 (i : Int) from (fa0_22.at_ 70))
    clear fa0_22 hQ h12 h11
    generalize a0_22.eval = ρ at *
    go_simp
  refine fa0_22.take 4 71 (.pointer (some ⟨ga, i * 2, none⟩)) rfl (by kernel_rfl) (by kernel_rfl) (by kernel_rfl) (fun _ _ _ h => hQp _ _ _ _ _ h) rfl (lb_ I0.size) (wanted_none rfl) r_a0_23 hS18 (fun a0_23 fa0_23 => ?_)
  clear r_a0_23
  clear fa0_22
  have r_a0_24 : ∀ Z, (fun Z => Same wr Z) Z → (execOp a0_23.eval oYP39).run Try.prog Z = .ok (.value (.pointer (some ⟨ga, i * 2 + 1, none⟩))) Z := fun Z hZ => by
    unfold oYP39
    have e71 := (show a0_23.eval (.tmp 71) = .pointer (some ⟨ga, i * 2, none⟩) from (fa0_23.at_ 71))
    clear fa0_23 hQ h12 h11
    generalize a0_23.eval = ρ at *
    go_simp
  refine fa0_23.take 5 72 (.pointer (some ⟨ga, i * 2 + 1, none⟩)) rfl (by kernel_rfl) (by kernel_rfl) (by kernel_rfl) (fun _ _ _ h => hQp _ _ _ _ _ h) rfl (lb_ I0.size) (wanted_none rfl) r_a0_24 hS18 (fun a0_24 fa0_24 => ?_)
  clear r_a0_24
  clear fa0_23
  have r_a0_25 : ∀ Z, (fun Z => Same wr Z) Z → (execOp a0_24.eval oYP40).run Try.prog Z = .ok (.value (.slice x.na x.ns.length x.nc)) Z := fun Z hZ => by
    unfold oYP40
    have z0 := hZ.keep d0
    have z1 := hZ.keep d1
    have z2 := hZ.keep c2
    have e72 := (show a0_24.eval (.tmp 72) = .pointer (some ⟨ga, i * 2 + 1, none⟩) from (fa0_24.at_ 72))
    clear fa0_24 hQ h12 h11
    generalize a0_24.eval = ρ at *
    go_simp
  refine fa0_24.take 6 73 (.slice x.na x.ns.length x.nc) rfl (by kernel_rfl) (by kernel_rfl) (by kernel_rfl) (fun _ _ _ h => hQp _ _ _ _ _ h) rfl (lb_ I0.size) (wanted_none rfl) r_a0_25 hS18 (fun a0_25 fa0_25 => ?_)
  clear r_a0_25
  clear fa0_24
  have r_a0_26 : (execOp a0_25.eval oYP41).run Try.prog (wr.drew) = .ok (.enter 30 #[.agg #[.int .i64 p, .int .i64 q], .int .u32 (nx : Int), .slice x.na x.ns.length x.nc]) (wr.drew) := by
    unfold oYP41
    have kf : ∀ f, a0_25.eval (.func f) = .func (.func f) #[] #[] := fun _ => rfl
    have e67 := (show a0_25.eval (.tmp 67) = .agg #[.int .i64 p, .int .i64 q] from (fa0_25.at_ 67))
    have e68 := (show a0_25.eval (.tmp 68) = .int .u32 (nx : Int) from (fa0_25.at_ 68))
    have e73 := (show a0_25.eval (.tmp 73) = .slice x.na x.ns.length x.nc from (fa0_25.at_ 73))
    clear fa0_25 hQ h12 h11
    generalize a0_25.eval = ρ at *
    go_simp
  refine fa0_25.oneCall 7 74 (by kernel_rfl) rfl rfl (lb_ I0.size) (wanted_none rfl) r_a0_26 (kb _ dd) (fun e W2 hR => ?_)
  obtain ⟨rfl, s2⟩ := hR
  clear r_a0_26
  have hS26 : (fun Z => Same wr Z) W2 := dd.trans s2
  refine ⟨_, rfl, hS26, fun a0_26 fa0_26 => ?_⟩
  clear fa0_25
  refine fa0_26.takeMove 8 66 (.tuple #[.string bs, .int .i64 be]) _ (Or.inl rfl) rfl (by kernel_rfl) (by kernel_rfl) (by kernel_rfl) (fun _ _ _ h => hQp _ _ _ _ _ h) rfl (lb_ I0.size) (wanted_none rfl) (fa0_26.at_ 74) hS26 (fun a0_27 fa0_27 => ?_)
  clear fa0_26
  have r_a0_28 : ∀ Z, (fun Z => Same wr Z) Z → (execOp a0_27.eval oYP42).run Try.prog Z = .ok (.value (.string bs)) Z := fun Z hZ => by
    unfold oYP42
    have e66 := (show a0_27.eval (.tmp 66) = .tuple #[.string bs, .int .i64 be] from (fa0_27.at_ 66))
    clear fa0_27 hQ h12 h11
    generalize a0_27.eval = ρ at *
    go_simp
  refine fa0_27.take 9 75 (.string bs) rfl (by kernel_rfl) (by kernel_rfl) (by kernel_rfl) (fun _ _ _ h => hQp _ _ _ _ _ h) rfl (lb_ I0.size) (wanted_none rfl) r_a0_28 hS26 (fun a0_28 fa0_28 => ?_)
  clear r_a0_28
  clear fa0_27
  have r_a0_29 : ∀ Z, (fun Z => Same wr Z) Z → (execOp a0_28.eval oYP43).run Try.prog Z = .ok (.value (.int .i64 be)) Z := fun Z hZ => by
    unfold oYP43
    have e66 := (show a0_28.eval (.tmp 66) = .tuple #[.string bs, .int .i64 be] from (fa0_28.at_ 66))
    clear fa0_28 hQ h12 h11
    generalize a0_28.eval = ρ at *
    go_simp
  refine fa0_28.take 10 76 (.int .i64 be) rfl (by kernel_rfl) (by kernel_rfl) (by kernel_rfl) (fun _ _ _ h => hQp _ _ _ _ _ h) rfl (lb_ I0.size) (wanted_none rfl) r_a0_29 hS26 (fun a0_29 fa0_29 => ?_)
  clear r_a0_29
  clear fa0_28
  refine fa0_29.takeMove 11 14 (.string bs) _ (Or.inr rfl) rfl (by kernel_rfl) (by kernel_rfl) (by kernel_rfl) (fun _ _ _ h => hQp _ _ _ _ _ h) rfl (lb_ I0.size) (wanted_none rfl) (fa0_29.at_ 75) hS26 (fun a0_30 fa0_30 => ?_)
  clear fa0_29
  refine fa0_30.takeMove 12 15 (.int .i64 be) _ (Or.inr rfl) rfl (by kernel_rfl) (by kernel_rfl) (by kernel_rfl) (fun _ _ _ h => hQp _ _ _ _ _ h) rfl (lb_ I0.size) (wanted_none rfl) (fa0_30.at_ 76) hS26 (fun a0_31 fa0_31 => ?_)
  clear fa0_30
  refine wpAnyH_done (by kernel_rfl) ?_ _
  have s02 : Same wr W2 := dd.trans s2
  have z3 := s02.keep c1
  change Code.wp _ _ _ _ _
  refine wp_region_list ?_
  unfold rDL14
  refine fa0_31.move 77 (.slice lo nl lc) _ (Or.inl rfl) rfl (lb_ I0.size) (wanted_none rfl) ((fa0_31.at_ 11).trans h11) (fun a0_32 fa0_32 => ?_)
  clear fa0_31
  refine fa0_32.move 78 (.slice (some ⟨ga, 0, none⟩) T cc) _ (Or.inl rfl) rfl (lb_ I0.size) (wanted_none rfl) ((fa0_32.at_ 10).trans I0.s10) (fun a0_33 fa0_33 => ?_)
  clear fa0_32
  refine fa0_33.move 79 (.int .i64 (i : Int)) _ (Or.inl rfl) rfl (lb_ I0.size) (wanted_none rfl) ((fa0_33.at_ 12).trans h12) (fun a0_34 fa0_34 => ?_)
  clear fa0_33
  have r_a0_35 : (execOp a0_34.eval oYP44).run Try.prog (W2) = .ok (.value (.pointer (some ⟨ga, i * 2, none⟩))) (W2) := by
    unfold oYP44
    have e78 := (show a0_34.eval (.tmp 78) = .slice (some ⟨ga, 0, none⟩) T cc from (fa0_34.at_ 78))
    have e79 := (show a0_34.eval (.tmp 79) = .int .i64 (i : Int) from (fa0_34.at_ 79))
    clear fa0_34 hQ h12 h11
    generalize a0_34.eval = ρ at *
    go_simp
  refine fa0_34.step 80 (.pointer (some ⟨ga, i * 2, none⟩)) rfl (lb_ I0.size) (wanted_none rfl) r_a0_35 (fun a0_35 fa0_35 => ?_)
  clear r_a0_35
  clear fa0_34
  have r_a0_36 : (execOp a0_35.eval oYP45).run Try.prog (W2) = .ok (.value (.pointer (some ⟨ga, i * 2, none⟩))) (W2) := by
    unfold oYP45
    have e80 := (show a0_35.eval (.tmp 80) = .pointer (some ⟨ga, i * 2, none⟩) from (fa0_35.at_ 80))
    clear fa0_35 hQ h12 h11
    generalize a0_35.eval = ρ at *
    go_simp
  refine fa0_35.step 81 (.pointer (some ⟨ga, i * 2, none⟩)) rfl (lb_ I0.size) (wanted_none rfl) r_a0_36 (fun a0_36 fa0_36 => ?_)
  clear r_a0_36
  clear fa0_35
  have r_a0_37 : (execOp a0_36.eval oYP46).run Try.prog (W2) = .ok (.value (.int .u32 (x.pg : Int))) (W2) := by
    unfold oYP46
    have e81 := (show a0_36.eval (.tmp 81) = .pointer (some ⟨ga, i * 2, none⟩) from (fa0_36.at_ 81))
    clear fa0_36 hQ h12 h11
    generalize a0_36.eval = ρ at *
    go_simp
  refine fa0_36.step 82 (.int .u32 (x.pg : Int)) rfl (lb_ I0.size) (wanted_none rfl) r_a0_37 (fun a0_37 fa0_37 => ?_)
  clear r_a0_37
  clear fa0_36
  refine fa0_37.move 83 (.int .u64 (vr : Int)) _ (Or.inl rfl) rfl (lb_ I0.size) (wanted_none rfl) ((fa0_37.at_ 1).trans I0.s1) (fun a0_38 fa0_38 => ?_)
  clear fa0_37
  refine fa0_38.move 84 (.string bs) _ (Or.inl rfl) rfl (lb_ I0.size) (wanted_none rfl) (fa0_38.at_ 14) (fun a0_39 fa0_39 => ?_)
  clear fa0_38
  have r_a0_40 : (execOp a0_39.eval oYP47).run Try.prog (W2) = .ok (.value (.agg #[.int .u8 3, .int .u32 (x.pg : Int), .int .u64 (vr : Int), .string bs])) (W2) := by
    unfold oYP47
    have kc : ∀ v, a0_39.eval (.const v) = v := fun _ => rfl
    have e82 := (show a0_39.eval (.tmp 82) = .int .u32 (x.pg : Int) from (fa0_39.at_ 82))
    have e83 := (show a0_39.eval (.tmp 83) = .int .u64 (vr : Int) from (fa0_39.at_ 83))
    have e84 := (show a0_39.eval (.tmp 84) = .string bs from (fa0_39.at_ 84))
    clear fa0_39 hQ h12 h11
    generalize a0_39.eval = ρ at *
    go_simp
  refine fa0_39.step 85 (.agg #[.int .u8 3, .int .u32 (x.pg : Int), .int .u64 (vr : Int), .string bs]) rfl (lb_ I0.size) (wanted_none rfl) r_a0_40 (fun a0_40 fa0_40 => ?_)
  clear r_a0_40
  clear fa0_39
  have r_a0_41 : (execOp a0_40.eval oYP48).run Try.prog (W2) = .ok (.value (.slice (some ⟨W2.heap.size, 0, none⟩) 1 1)) (W2.alloc (.cells #[.int .u8 3, .int .u32 (x.pg : Int), .int .u64 (vr : Int), .string bs] 52)) := by
    unfold oYP48
    have e85 := (show a0_40.eval (.tmp 85) = .agg #[.int .u8 3, .int .u32 (x.pg : Int), .int .u64 (vr : Int), .string bs] from (fa0_40.at_ 85))
    clear fa0_40 hQ h12 h11
    generalize a0_40.eval = ρ at *
    go_simp
  refine fa0_40.stepW 86 (.slice (some ⟨W2.heap.size, 0, none⟩) 1 1) rfl (lb_ I0.size) (wanted_none rfl) r_a0_41 (fun a0_41 fa0_41 => ?_)
  clear r_a0_41
  obtain ⟨W3, hW3⟩ : ∃ W3, W3 = W2.alloc (.cells #[.int .u8 3, .int .u32 (x.pg : Int), .int .u64 (vr : Int), .string bs] 52) := ⟨_, rfl⟩
  rw [← hW3]
  have s3 : Same wr W3 := by rw [hW3]; exact s02.trans ((Fr.refl _ W2).alloc _)
  have hh3 : W3.heap[W2.heap.size]? = some (.cells #[.int .u8 3, .int .u32 (x.pg : Int), .int .u64 (vr : Int), .string bs] 52 (0, 0)) := by rw [hW3]; exact heap_alloc_new W2 _
  have ow : W3.ownsRow V.heap.size 52 4 (.slice lo nl lc) nl (pgCs vr l) := by rw [hnl]; exact own_frameB hc.row s3 (fun _ _ f => f)
  obtain ⟨v4, W4, hr4, o4, g4⟩ := run_partPgs W3 43 ow (part_four _ _ hh3 rfl rfl rfl rfl) (by show nl + 1 ≤ _; omega) (Nat.le_trans hc.same.size s3.size)
  obtain ⟨a4, c4, rfl⟩ := own_shape o4
  have hc4 : LYw V W4 vr (l ++ [(x.pg, bs)]) a4 c4 := hc.next s3 (hnl ▸ g4) (hnl ▸ o4)
  clear fa0_40
  have r_a0_42 : (execOp a0_41.eval oYP49).run Try.prog (W3) = .ok (.value (.slice a4 (nl + 1) c4)) (W4) := by
    unfold oYP49
    refine exec_append rfl ?_
    rw [(show a0_41.eval (.tmp 77) = .slice lo nl lc from (fa0_41.at_ 77)), (show a0_41.eval (.tmp 86) = .slice (some ⟨W2.heap.size, 0, none⟩) 1 1 from (fa0_41.at_ 86))]
    exact hr4
  refine fa0_41.stepW 87 (.slice a4 (nl + 1) c4) rfl (lb_ I0.size) (wanted_none rfl) r_a0_42 (fun a0_42 fa0_42 => ?_)
  clear r_a0_42
  clear fa0_41
  refine fa0_42.move 11 (.slice a4 (nl + 1) c4) _ (Or.inr rfl) rfl (lb_ I0.size) (wanted_none rfl) (fa0_42.at_ 87) (fun a0_43 fa0_43 => ?_)
  clear fa0_42
  refine wpList_nil ?_
  change Code.wp _ _ _ _ _
  refine wp_region_list ?_
  unfold rDL9
  refine fa0_43.move 53 (.int .i64 (i : Int)) _ (Or.inl rfl) rfl (lb_ I0.size) (wanted_none rfl) ((fa0_43.at_ 12).trans h12) (fun a0_44 fa0_44 => ?_)
  clear fa0_43
  have r_a0_45 : (execOp a0_44.eval oYP29).run Try.prog (W4) = .ok (.value (.int .i64 ((i : Int) + 1))) (W4) := by
    unfold oYP29
    have kc : ∀ v, a0_44.eval (.const v) = v := fun _ => rfl
    have e53 := (show a0_44.eval (.tmp 53) = .int .i64 (i : Int) from (fa0_44.at_ 53))
    clear fa0_44 hQ h12 h11
    generalize a0_44.eval = ρ at *
    go_simp
  refine fa0_44.step 54 (.int .i64 ((i : Int) + 1)) rfl (lb_ I0.size) (wanted_none rfl) r_a0_45 (fun a0_45 fa0_45 => ?_)
  clear r_a0_45
  clear fa0_44
  refine fa0_45.move 12 (.int .i64 ((i : Int) + 1)) _ (Or.inr rfl) rfl (lb_ I0.size) (wanted_none rfl) (fa0_45.at_ 54) (fun a0_46 fa0_46 => ?_)
  clear fa0_45
  refine wpList_nil ?_
  exact hQ a0_46 W4 a4 c4 (I0.keep fa0_46 (fun t ht => by rcases ht with rfl | rfl | rfl | rfl <;> rfl)) (show a0_46.eval (.tmp 12) = .int .i64 ((i : Int) + 1) from (fa0_46.at_ 12)) (by rw [List.length_append, List.length_singleton, ← hnl]; exact (show a0_46.eval (.tmp 11) = .slice a4 (nl + 1) c4 from (fa0_46.at_ 11))) hc4
set_option maxRecDepth 100000 in
set_option maxHeartbeats 1000000 in
theorem dlO {p q be : Int} {bs : ByteArray} {hz vr ga T cc ln llc i lc nl : Nat} {lo la : Option Addr} {l : List Pgx} {x : Bt} {Q : Exit → Act → World → Prop} (hQp : ∀ c (a : Act) d v w, Q (.panic c) (a.put d v) w → Q (.panic c) a w) (a0 : Act) (V wr : World) (I0 : IDL hz vr (.slice (some ⟨ga, 0, none⟩) T cc) a0) (h12 : a0.eval (.tmp 12) = .int .i64 (i : Int)) (h11 : a0.eval (.tmp 11) = .slice lo nl lc) (hnl : nl = l.length)
    (hc : LYw V wr vr l lo lc) (hi : i < ln) (hln : ln ≤ T) (hT : T ≤ 2000000) (hnb : nl ≤ 2000000) (hin : T ≤ i + 1) (d0 : wr.cell? ⟨hz, 0, none⟩ = some (.int .i64 p)) (d1 : wr.cell? ⟨hz, 1, none⟩ = some (.int .i64 q)) (d2 : wr.cell? ⟨hz + 1, 1, none⟩ = some (.slice la ln llc))
    (c1 : wr.cell? ⟨ga, i * 2, none⟩ = some (.int .u32 (x.pg : Int))) (c2 : wr.cell? ⟨ga, i * 2 + 1, none⟩ = some (.slice x.na x.ns.length x.nc)) 
    (kb : ∀ Z, Same wr Z → Calls Try.prog 30 #[.agg #[.int .i64 p, .int .i64 q], .int .u32 0, .slice x.na x.ns.length x.nc] Z fun e w' => e = .returned (.tuple #[.string bs, .int .i64 be]) ∧ Same Z w')
    (hQ : ∀ a W a4 c4, IDL hz vr (.slice (some ⟨ga, 0, none⟩) T cc) a → a.eval (.tmp 12) = .int .i64 ((i : Int) + 1) → a.eval (.tmp 11) = .slice a4 (l ++ [(x.pg, bs)]).length c4 → LYw V W vr (l ++ [(x.pg, bs)]) a4 c4 → Q .normal a W) : cDL1.wp Try.prog Q a0 wr := by
  have hln := hln
  have hii : (i : Int) < (ln : Int) := by omega
  have hiT : (i : Int) < (T : Int) := by omega
  have w7 : IntKind.i64.wrap ((i : Int) + 1) = (i : Int) + 1 := by rw [IntKind.wrap_i64]; omega
  have w8 : RowKit.wrap64 ((i : Int) + 1) = (i : Int) + 1 := by unfold RowKit.wrap64; omega
  have hi1 : decide ((i : Int) + 1 < (T : Int)) = false := decide_eq_false (by omega)
  have hi2 : ¬ (i : Int) + 1 < (T : Int) := by omega
  have fa0_0 := Fe.refl a0
  unfold cDL1
  refine wp_seq (wp_seq ?_)
  refine wp_region_list ?_
  unfold rDL8
  refine fa0_0.move 48 (.int .i64 (i : Int)) _ (Or.inl rfl) rfl (lb_ I0.size) (wanted_none rfl) ((fa0_0.at_ 12).trans h12) (fun a0_1 fa0_1 => ?_)
  clear fa0_0
  have r_a0_2 : (execOp a0_1.eval oYP25).run Try.prog (wr) = .ok (.value (.pointer (some ⟨hz + 1, 1, none⟩))) (wr) := by
    unfold oYP25
    have e7 := (show a0_1.eval (.tmp 7) = .pointer (some ⟨hz + 1, 0, none⟩) from ((fa0_1.at_ 7).trans I0.s7))
    clear fa0_1 hQ h12 h11
    generalize a0_1.eval = ρ at *
    go_simp
  refine fa0_1.step 49 (.pointer (some ⟨hz + 1, 1, none⟩)) rfl (lb_ I0.size) (wanted_none rfl) r_a0_2 (fun a0_2 fa0_2 => ?_)
  clear r_a0_2
  clear fa0_1
  have r_a0_3 : (execOp a0_2.eval oYP26).run Try.prog (wr) = .ok (.value (.slice la ln llc)) (wr) := by
    unfold oYP26
    have e49 := (show a0_2.eval (.tmp 49) = .pointer (some ⟨hz + 1, 1, none⟩) from (fa0_2.at_ 49))
    clear fa0_2 hQ h12 h11
    generalize a0_2.eval = ρ at *
    go_simp
  refine fa0_2.step 50 (.slice la ln llc) rfl (lb_ I0.size) (wanted_none rfl) r_a0_3 (fun a0_3 fa0_3 => ?_)
  clear r_a0_3
  clear fa0_2
  have r_a0_4 : (execOp a0_3.eval oYP27).run Try.prog (wr) = .ok (.value (.int .i64 (ln : Int))) (wr) := by
    unfold oYP27
    have e50 := (show a0_3.eval (.tmp 50) = .slice la ln llc from (fa0_3.at_ 50))
    clear fa0_3 hQ h12 h11
    generalize a0_3.eval = ρ at *
    go_simp
  refine fa0_3.step 51 (.int .i64 (ln : Int)) rfl (lb_ I0.size) (wanted_none rfl) r_a0_4 (fun a0_4 fa0_4 => ?_)
  clear r_a0_4
  clear fa0_3
  have r_a0_5 : (execOp a0_4.eval oYP28).run Try.prog (wr) = .ok (.value (.bool true)) (wr) := by
    unfold oYP28
    have e48 := (show a0_4.eval (.tmp 48) = .int .i64 (i : Int) from (fa0_4.at_ 48))
    have e51 := (show a0_4.eval (.tmp 51) = .int .i64 (ln : Int) from (fa0_4.at_ 51))
    clear fa0_4 hQ h12 h11
    generalize a0_4.eval = ρ at *
    go_simp
  refine fa0_4.step 52 (.bool true) rfl (lb_ I0.size) (wanted_none rfl) r_a0_5 (fun a0_5 fa0_5 => ?_)
  clear r_a0_5
  clear fa0_4
  refine wpList_nil ?_
  change Code.wp _ _ _ _ _
  refine wp_cond_true (show a0_5.eval (.tmp 52) = .bool true from (fa0_5.at_ 52)) (wp_skip ?_)
  change Code.wp _ _ _ _ _
  refine wp_seq (wp_block (wp_seq ?_))
  refine wp_region_list ?_
  unfold rDL10
  refine fa0_5.move 13 (.int .u32 0) _ (Or.inr rfl) rfl (lb_ I0.size) (wanted_none rfl) rfl (fun a0_6 fa0_6 => ?_)
  clear fa0_5
  refine wpList_nil ?_
  change Code.wp _ _ _ _ _
  refine wp_seq (wp_seq ?_)
  refine wp_region_list ?_
  unfold rDL11
  refine fa0_6.move 55 (.int .i64 (i : Int)) _ (Or.inl rfl) rfl (lb_ I0.size) (wanted_none rfl) ((fa0_6.at_ 12).trans h12) (fun a0_7 fa0_7 => ?_)
  clear fa0_6
  have r_a0_8 : (execOp a0_7.eval oYP30).run Try.prog (wr) = .ok (.value (.int .i64 ((i : Int) + 1))) (wr) := by
    unfold oYP30
    have kc : ∀ v, a0_7.eval (.const v) = v := fun _ => rfl
    have e55 := (show a0_7.eval (.tmp 55) = .int .i64 (i : Int) from (fa0_7.at_ 55))
    clear fa0_7 hQ h12 h11
    generalize a0_7.eval = ρ at *
    go_simp
  refine fa0_7.step 56 (.int .i64 ((i : Int) + 1)) rfl (lb_ I0.size) (wanted_none rfl) r_a0_8 (fun a0_8 fa0_8 => ?_)
  clear r_a0_8
  clear fa0_7
  refine fa0_8.move 57 (.slice (some ⟨ga, 0, none⟩) T cc) _ (Or.inl rfl) rfl (lb_ I0.size) (wanted_none rfl) ((fa0_8.at_ 10).trans I0.s10) (fun a0_9 fa0_9 => ?_)
  clear fa0_8
  have r_a0_10 : (execOp a0_9.eval oYP31).run Try.prog (wr) = .ok (.value (.int .i64 (T : Int))) (wr) := by
    unfold oYP31
    have e57 := (show a0_9.eval (.tmp 57) = .slice (some ⟨ga, 0, none⟩) T cc from (fa0_9.at_ 57))
    clear fa0_9 hQ h12 h11
    generalize a0_9.eval = ρ at *
    go_simp
  refine fa0_9.step 58 (.int .i64 (T : Int)) rfl (lb_ I0.size) (wanted_none rfl) r_a0_10 (fun a0_10 fa0_10 => ?_)
  clear r_a0_10
  clear fa0_9
  have r_a0_11 : (execOp a0_10.eval oYP32).run Try.prog (wr) = .ok (.value (.bool false)) (wr) := by
    unfold oYP32
    have e56 := (show a0_10.eval (.tmp 56) = .int .i64 ((i : Int) + 1) from (fa0_10.at_ 56))
    have e58 := (show a0_10.eval (.tmp 58) = .int .i64 (T : Int) from (fa0_10.at_ 58))
    clear fa0_10 hQ h12 h11
    generalize a0_10.eval = ρ at *
    go_simp
  refine fa0_10.step 59 (.bool false) rfl (lb_ I0.size) (wanted_none rfl) r_a0_11 (fun a0_11 fa0_11 => ?_)
  clear r_a0_11
  clear fa0_10
  refine wpList_nil ?_
  change Code.wp _ _ _ _ _
  refine wp_cond_false (show a0_11.eval (.tmp 59) = .bool false from (fa0_11.at_ 59)) (wp_skip ?_)
  change Code.wp _ _ _ _ _
  refine wp_seq ?_
  have dd : Same wr wr.drew := (Fr.refl (fun _ => False) wr).drew
  refine wp_region_held_drew (ops := rDL13) (S := fun Z => Same wr Z) (by kernel_rfl) (dd) (fun hS11 => ?_)
  have r_a0_12 : ∀ Z, (fun Z => Same wr Z) Z → (execOp a0_11.eval oYP37).run Try.prog Z = .ok (.value (.agg #[.int .i64 p, .int .i64 q])) Z := fun Z hZ => by
    unfold oYP37
    have z0 := hZ.keep d0
    have z1 := hZ.keep d1
    have z2 := hZ.keep c2
    have e4 := (show a0_11.eval (.tmp 4) = .pointer (some ⟨hz, 0, none⟩) from ((fa0_11.at_ 4).trans I0.s4))
    clear fa0_11 hQ h12 h11
    generalize a0_11.eval = ρ at *
    go_simp
  refine fa0_11.take 0 67 (.agg #[.int .i64 p, .int .i64 q]) rfl (by kernel_rfl) (by kernel_rfl) (by kernel_rfl) (fun _ _ _ h => hQp _ _ _ _ _ h) rfl (lb_ I0.size) (wanted_none rfl) r_a0_12 hS11 (fun a0_12 fa0_12 => ?_)
  clear r_a0_12
  clear fa0_11
  refine fa0_12.takeMove 1 68 (.int .u32 0) _ (Or.inl rfl) rfl (by kernel_rfl) (by kernel_rfl) (by kernel_rfl) (fun _ _ _ h => hQp _ _ _ _ _ h) rfl (lb_ I0.size) (wanted_none rfl) (fa0_12.at_ 13) hS11 (fun a0_13 fa0_13 => ?_)
  clear fa0_12
  refine fa0_13.takeMove 2 69 (.slice (some ⟨ga, 0, none⟩) T cc) _ (Or.inl rfl) rfl (by kernel_rfl) (by kernel_rfl) (by kernel_rfl) (fun _ _ _ h => hQp _ _ _ _ _ h) rfl (lb_ I0.size) (wanted_none rfl) ((fa0_13.at_ 10).trans I0.s10) hS11 (fun a0_14 fa0_14 => ?_)
  clear fa0_13
  refine fa0_14.takeMove 3 70 (.int .i64 (i : Int)) _ (Or.inl rfl) rfl (by kernel_rfl) (by kernel_rfl) (by kernel_rfl) (fun _ _ _ h => hQp _ _ _ _ _ h) rfl (lb_ I0.size) (wanted_none rfl) ((fa0_14.at_ 12).trans h12) hS11 (fun a0_15 fa0_15 => ?_)
  clear fa0_14
  have r_a0_16 : ∀ Z, (fun Z => Same wr Z) Z → (execOp a0_15.eval oYP38).run Try.prog Z = .ok (.value (.pointer (some ⟨ga, i * 2, none⟩))) Z := fun Z hZ => by
    unfold oYP38
    have e69 := (show a0_15.eval (.tmp 69) = .slice (some ⟨ga, 0, none⟩) T cc from (fa0_15.at_ 69))
    have e70 := (show a0_15.eval (.tmp 70) = .int .i64 (i : Int) from (fa0_15.at_ 70))
    clear fa0_15 hQ h12 h11
    generalize a0_15.eval = ρ at *
    go_simp
  refine fa0_15.take 4 71 (.pointer (some ⟨ga, i * 2, none⟩)) rfl (by kernel_rfl) (by kernel_rfl) (by kernel_rfl) (fun _ _ _ h => hQp _ _ _ _ _ h) rfl (lb_ I0.size) (wanted_none rfl) r_a0_16 hS11 (fun a0_16 fa0_16 => ?_)
  clear r_a0_16
  clear fa0_15
  have r_a0_17 : ∀ Z, (fun Z => Same wr Z) Z → (execOp a0_16.eval oYP39).run Try.prog Z = .ok (.value (.pointer (some ⟨ga, i * 2 + 1, none⟩))) Z := fun Z hZ => by
    unfold oYP39
    have e71 := (show a0_16.eval (.tmp 71) = .pointer (some ⟨ga, i * 2, none⟩) from (fa0_16.at_ 71))
    clear fa0_16 hQ h12 h11
    generalize a0_16.eval = ρ at *
    go_simp
  refine fa0_16.take 5 72 (.pointer (some ⟨ga, i * 2 + 1, none⟩)) rfl (by kernel_rfl) (by kernel_rfl) (by kernel_rfl) (fun _ _ _ h => hQp _ _ _ _ _ h) rfl (lb_ I0.size) (wanted_none rfl) r_a0_17 hS11 (fun a0_17 fa0_17 => ?_)
  clear r_a0_17
  clear fa0_16
  have r_a0_18 : ∀ Z, (fun Z => Same wr Z) Z → (execOp a0_17.eval oYP40).run Try.prog Z = .ok (.value (.slice x.na x.ns.length x.nc)) Z := fun Z hZ => by
    unfold oYP40
    have z0 := hZ.keep d0
    have z1 := hZ.keep d1
    have z2 := hZ.keep c2
    have e72 := (show a0_17.eval (.tmp 72) = .pointer (some ⟨ga, i * 2 + 1, none⟩) from (fa0_17.at_ 72))
    clear fa0_17 hQ h12 h11
    generalize a0_17.eval = ρ at *
    go_simp
  refine fa0_17.take 6 73 (.slice x.na x.ns.length x.nc) rfl (by kernel_rfl) (by kernel_rfl) (by kernel_rfl) (fun _ _ _ h => hQp _ _ _ _ _ h) rfl (lb_ I0.size) (wanted_none rfl) r_a0_18 hS11 (fun a0_18 fa0_18 => ?_)
  clear r_a0_18
  clear fa0_17
  have r_a0_19 : (execOp a0_18.eval oYP41).run Try.prog (wr.drew) = .ok (.enter 30 #[.agg #[.int .i64 p, .int .i64 q], .int .u32 0, .slice x.na x.ns.length x.nc]) (wr.drew) := by
    unfold oYP41
    have kf : ∀ f, a0_18.eval (.func f) = .func (.func f) #[] #[] := fun _ => rfl
    have e67 := (show a0_18.eval (.tmp 67) = .agg #[.int .i64 p, .int .i64 q] from (fa0_18.at_ 67))
    have e68 := (show a0_18.eval (.tmp 68) = .int .u32 0 from (fa0_18.at_ 68))
    have e73 := (show a0_18.eval (.tmp 73) = .slice x.na x.ns.length x.nc from (fa0_18.at_ 73))
    clear fa0_18 hQ h12 h11
    generalize a0_18.eval = ρ at *
    go_simp
  refine fa0_18.oneCall 7 74 (by kernel_rfl) rfl rfl (lb_ I0.size) (wanted_none rfl) r_a0_19 (kb _ dd) (fun e W2 hR => ?_)
  obtain ⟨rfl, s2⟩ := hR
  clear r_a0_19
  have hS19 : (fun Z => Same wr Z) W2 := dd.trans s2
  refine ⟨_, rfl, hS19, fun a0_19 fa0_19 => ?_⟩
  clear fa0_18
  refine fa0_19.takeMove 8 66 (.tuple #[.string bs, .int .i64 be]) _ (Or.inl rfl) rfl (by kernel_rfl) (by kernel_rfl) (by kernel_rfl) (fun _ _ _ h => hQp _ _ _ _ _ h) rfl (lb_ I0.size) (wanted_none rfl) (fa0_19.at_ 74) hS19 (fun a0_20 fa0_20 => ?_)
  clear fa0_19
  have r_a0_21 : ∀ Z, (fun Z => Same wr Z) Z → (execOp a0_20.eval oYP42).run Try.prog Z = .ok (.value (.string bs)) Z := fun Z hZ => by
    unfold oYP42
    have e66 := (show a0_20.eval (.tmp 66) = .tuple #[.string bs, .int .i64 be] from (fa0_20.at_ 66))
    clear fa0_20 hQ h12 h11
    generalize a0_20.eval = ρ at *
    go_simp
  refine fa0_20.take 9 75 (.string bs) rfl (by kernel_rfl) (by kernel_rfl) (by kernel_rfl) (fun _ _ _ h => hQp _ _ _ _ _ h) rfl (lb_ I0.size) (wanted_none rfl) r_a0_21 hS19 (fun a0_21 fa0_21 => ?_)
  clear r_a0_21
  clear fa0_20
  have r_a0_22 : ∀ Z, (fun Z => Same wr Z) Z → (execOp a0_21.eval oYP43).run Try.prog Z = .ok (.value (.int .i64 be)) Z := fun Z hZ => by
    unfold oYP43
    have e66 := (show a0_21.eval (.tmp 66) = .tuple #[.string bs, .int .i64 be] from (fa0_21.at_ 66))
    clear fa0_21 hQ h12 h11
    generalize a0_21.eval = ρ at *
    go_simp
  refine fa0_21.take 10 76 (.int .i64 be) rfl (by kernel_rfl) (by kernel_rfl) (by kernel_rfl) (fun _ _ _ h => hQp _ _ _ _ _ h) rfl (lb_ I0.size) (wanted_none rfl) r_a0_22 hS19 (fun a0_22 fa0_22 => ?_)
  clear r_a0_22
  clear fa0_21
  refine fa0_22.takeMove 11 14 (.string bs) _ (Or.inr rfl) rfl (by kernel_rfl) (by kernel_rfl) (by kernel_rfl) (fun _ _ _ h => hQp _ _ _ _ _ h) rfl (lb_ I0.size) (wanted_none rfl) (fa0_22.at_ 75) hS19 (fun a0_23 fa0_23 => ?_)
  clear fa0_22
  refine fa0_23.takeMove 12 15 (.int .i64 be) _ (Or.inr rfl) rfl (by kernel_rfl) (by kernel_rfl) (by kernel_rfl) (fun _ _ _ h => hQp _ _ _ _ _ h) rfl (lb_ I0.size) (wanted_none rfl) (fa0_23.at_ 76) hS19 (fun a0_24 fa0_24 => ?_)
  clear fa0_23
  refine wpAnyH_done (by kernel_rfl) ?_ _
  have s02 : Same wr W2 := dd.trans s2
  have z3 := s02.keep c1
  change Code.wp _ _ _ _ _
  refine wp_region_list ?_
  unfold rDL14
  refine fa0_24.move 77 (.slice lo nl lc) _ (Or.inl rfl) rfl (lb_ I0.size) (wanted_none rfl) ((fa0_24.at_ 11).trans h11) (fun a0_25 fa0_25 => ?_)
  clear fa0_24
  refine fa0_25.move 78 (.slice (some ⟨ga, 0, none⟩) T cc) _ (Or.inl rfl) rfl (lb_ I0.size) (wanted_none rfl) ((fa0_25.at_ 10).trans I0.s10) (fun a0_26 fa0_26 => ?_)
  clear fa0_25
  refine fa0_26.move 79 (.int .i64 (i : Int)) _ (Or.inl rfl) rfl (lb_ I0.size) (wanted_none rfl) ((fa0_26.at_ 12).trans h12) (fun a0_27 fa0_27 => ?_)
  clear fa0_26
  have r_a0_28 : (execOp a0_27.eval oYP44).run Try.prog (W2) = .ok (.value (.pointer (some ⟨ga, i * 2, none⟩))) (W2) := by
    unfold oYP44
    have e78 := (show a0_27.eval (.tmp 78) = .slice (some ⟨ga, 0, none⟩) T cc from (fa0_27.at_ 78))
    have e79 := (show a0_27.eval (.tmp 79) = .int .i64 (i : Int) from (fa0_27.at_ 79))
    clear fa0_27 hQ h12 h11
    generalize a0_27.eval = ρ at *
    go_simp
  refine fa0_27.step 80 (.pointer (some ⟨ga, i * 2, none⟩)) rfl (lb_ I0.size) (wanted_none rfl) r_a0_28 (fun a0_28 fa0_28 => ?_)
  clear r_a0_28
  clear fa0_27
  have r_a0_29 : (execOp a0_28.eval oYP45).run Try.prog (W2) = .ok (.value (.pointer (some ⟨ga, i * 2, none⟩))) (W2) := by
    unfold oYP45
    have e80 := (show a0_28.eval (.tmp 80) = .pointer (some ⟨ga, i * 2, none⟩) from (fa0_28.at_ 80))
    clear fa0_28 hQ h12 h11
    generalize a0_28.eval = ρ at *
    go_simp
  refine fa0_28.step 81 (.pointer (some ⟨ga, i * 2, none⟩)) rfl (lb_ I0.size) (wanted_none rfl) r_a0_29 (fun a0_29 fa0_29 => ?_)
  clear r_a0_29
  clear fa0_28
  have r_a0_30 : (execOp a0_29.eval oYP46).run Try.prog (W2) = .ok (.value (.int .u32 (x.pg : Int))) (W2) := by
    unfold oYP46
    have e81 := (show a0_29.eval (.tmp 81) = .pointer (some ⟨ga, i * 2, none⟩) from (fa0_29.at_ 81))
    clear fa0_29 hQ h12 h11
    generalize a0_29.eval = ρ at *
    go_simp
  refine fa0_29.step 82 (.int .u32 (x.pg : Int)) rfl (lb_ I0.size) (wanted_none rfl) r_a0_30 (fun a0_30 fa0_30 => ?_)
  clear r_a0_30
  clear fa0_29
  refine fa0_30.move 83 (.int .u64 (vr : Int)) _ (Or.inl rfl) rfl (lb_ I0.size) (wanted_none rfl) ((fa0_30.at_ 1).trans I0.s1) (fun a0_31 fa0_31 => ?_)
  clear fa0_30
  refine fa0_31.move 84 (.string bs) _ (Or.inl rfl) rfl (lb_ I0.size) (wanted_none rfl) (fa0_31.at_ 14) (fun a0_32 fa0_32 => ?_)
  clear fa0_31
  have r_a0_33 : (execOp a0_32.eval oYP47).run Try.prog (W2) = .ok (.value (.agg #[.int .u8 3, .int .u32 (x.pg : Int), .int .u64 (vr : Int), .string bs])) (W2) := by
    unfold oYP47
    have kc : ∀ v, a0_32.eval (.const v) = v := fun _ => rfl
    have e82 := (show a0_32.eval (.tmp 82) = .int .u32 (x.pg : Int) from (fa0_32.at_ 82))
    have e83 := (show a0_32.eval (.tmp 83) = .int .u64 (vr : Int) from (fa0_32.at_ 83))
    have e84 := (show a0_32.eval (.tmp 84) = .string bs from (fa0_32.at_ 84))
    clear fa0_32 hQ h12 h11
    generalize a0_32.eval = ρ at *
    go_simp
  refine fa0_32.step 85 (.agg #[.int .u8 3, .int .u32 (x.pg : Int), .int .u64 (vr : Int), .string bs]) rfl (lb_ I0.size) (wanted_none rfl) r_a0_33 (fun a0_33 fa0_33 => ?_)
  clear r_a0_33
  clear fa0_32
  have r_a0_34 : (execOp a0_33.eval oYP48).run Try.prog (W2) = .ok (.value (.slice (some ⟨W2.heap.size, 0, none⟩) 1 1)) (W2.alloc (.cells #[.int .u8 3, .int .u32 (x.pg : Int), .int .u64 (vr : Int), .string bs] 52)) := by
    unfold oYP48
    have e85 := (show a0_33.eval (.tmp 85) = .agg #[.int .u8 3, .int .u32 (x.pg : Int), .int .u64 (vr : Int), .string bs] from (fa0_33.at_ 85))
    clear fa0_33 hQ h12 h11
    generalize a0_33.eval = ρ at *
    go_simp
  refine fa0_33.stepW 86 (.slice (some ⟨W2.heap.size, 0, none⟩) 1 1) rfl (lb_ I0.size) (wanted_none rfl) r_a0_34 (fun a0_34 fa0_34 => ?_)
  clear r_a0_34
  obtain ⟨W3, hW3⟩ : ∃ W3, W3 = W2.alloc (.cells #[.int .u8 3, .int .u32 (x.pg : Int), .int .u64 (vr : Int), .string bs] 52) := ⟨_, rfl⟩
  rw [← hW3]
  have s3 : Same wr W3 := by rw [hW3]; exact s02.trans ((Fr.refl _ W2).alloc _)
  have hh3 : W3.heap[W2.heap.size]? = some (.cells #[.int .u8 3, .int .u32 (x.pg : Int), .int .u64 (vr : Int), .string bs] 52 (0, 0)) := by rw [hW3]; exact heap_alloc_new W2 _
  have ow : W3.ownsRow V.heap.size 52 4 (.slice lo nl lc) nl (pgCs vr l) := by rw [hnl]; exact own_frameB hc.row s3 (fun _ _ f => f)
  obtain ⟨v4, W4, hr4, o4, g4⟩ := run_partPgs W3 43 ow (part_four _ _ hh3 rfl rfl rfl rfl) (by show nl + 1 ≤ _; omega) (Nat.le_trans hc.same.size s3.size)
  obtain ⟨a4, c4, rfl⟩ := own_shape o4
  have hc4 : LYw V W4 vr (l ++ [(x.pg, bs)]) a4 c4 := hc.next s3 (hnl ▸ g4) (hnl ▸ o4)
  clear fa0_33
  have r_a0_35 : (execOp a0_34.eval oYP49).run Try.prog (W3) = .ok (.value (.slice a4 (nl + 1) c4)) (W4) := by
    unfold oYP49
    refine exec_append rfl ?_
    rw [(show a0_34.eval (.tmp 77) = .slice lo nl lc from (fa0_34.at_ 77)), (show a0_34.eval (.tmp 86) = .slice (some ⟨W2.heap.size, 0, none⟩) 1 1 from (fa0_34.at_ 86))]
    exact hr4
  refine fa0_34.stepW 87 (.slice a4 (nl + 1) c4) rfl (lb_ I0.size) (wanted_none rfl) r_a0_35 (fun a0_35 fa0_35 => ?_)
  clear r_a0_35
  clear fa0_34
  refine fa0_35.move 11 (.slice a4 (nl + 1) c4) _ (Or.inr rfl) rfl (lb_ I0.size) (wanted_none rfl) (fa0_35.at_ 87) (fun a0_36 fa0_36 => ?_)
  clear fa0_35
  refine wpList_nil ?_
  change Code.wp _ _ _ _ _
  refine wp_region_list ?_
  unfold rDL9
  refine fa0_36.move 53 (.int .i64 (i : Int)) _ (Or.inl rfl) rfl (lb_ I0.size) (wanted_none rfl) ((fa0_36.at_ 12).trans h12) (fun a0_37 fa0_37 => ?_)
  clear fa0_36
  have r_a0_38 : (execOp a0_37.eval oYP29).run Try.prog (W4) = .ok (.value (.int .i64 ((i : Int) + 1))) (W4) := by
    unfold oYP29
    have kc : ∀ v, a0_37.eval (.const v) = v := fun _ => rfl
    have e53 := (show a0_37.eval (.tmp 53) = .int .i64 (i : Int) from (fa0_37.at_ 53))
    clear fa0_37 hQ h12 h11
    generalize a0_37.eval = ρ at *
    go_simp
  refine fa0_37.step 54 (.int .i64 ((i : Int) + 1)) rfl (lb_ I0.size) (wanted_none rfl) r_a0_38 (fun a0_38 fa0_38 => ?_)
  clear r_a0_38
  clear fa0_37
  refine fa0_38.move 12 (.int .i64 ((i : Int) + 1)) _ (Or.inr rfl) rfl (lb_ I0.size) (wanted_none rfl) (fa0_38.at_ 54) (fun a0_39 fa0_39 => ?_)
  clear fa0_38
  refine wpList_nil ?_
  exact hQ a0_39 W4 a4 c4 (I0.keep fa0_39 (fun t ht => by rcases ht with rfl | rfl | rfl | rfl <;> rfl)) (show a0_39.eval (.tmp 12) = .int .i64 ((i : Int) + 1) from (fa0_39.at_ 12)) (by rw [List.length_append, List.length_singleton, ← hnl]; exact (show a0_39.eval (.tmp 11) = .slice a4 (nl + 1) c4 from (fa0_39.at_ 11))) hc4
set_option maxRecDepth 100000 in
theorem dlE {hz vr ln llc lc nl : Nat} {lo la : Option Addr} {af : Value} {Q : Exit → Act → World → Prop} (a0 : Act) (wr : World) (I0 : IDL hz vr af a0) (h12 : a0.eval (.tmp 12) = .int .i64 (ln : Int)) (h11 : a0.eval (.tmp 11) = .slice lo nl lc) (d2 : wr.cell? ⟨hz + 1, 1, none⟩ = some (.slice la ln llc))
    (hQ : ∀ a, IDL hz vr af a → a.eval (.tmp 11) = .slice lo nl lc → Q (.exit 0) a wr) : cDL1.wp Try.prog Q a0 wr := by
  have fa0_0 := Fe.refl a0
  unfold cDL1
  refine wp_seq (wp_seq ?_)
  refine wp_region_list ?_
  unfold rDL8
  refine fa0_0.move 48 (.int .i64 (ln : Int)) _ (Or.inl rfl) rfl (lb_ I0.size) (wanted_none rfl) ((fa0_0.at_ 12).trans h12) (fun a0_1 fa0_1 => ?_)
  clear fa0_0
  have r_a0_2 : (execOp a0_1.eval oYP25).run Try.prog (wr) = .ok (.value (.pointer (some ⟨hz + 1, 1, none⟩))) (wr) := by
    unfold oYP25
    have e7 := (show a0_1.eval (.tmp 7) = .pointer (some ⟨hz + 1, 0, none⟩) from ((fa0_1.at_ 7).trans I0.s7))
    clear fa0_1 hQ h12 h11
    generalize a0_1.eval = ρ at *
    go_simp
  refine fa0_1.step 49 (.pointer (some ⟨hz + 1, 1, none⟩)) rfl (lb_ I0.size) (wanted_none rfl) r_a0_2 (fun a0_2 fa0_2 => ?_)
  clear r_a0_2
  clear fa0_1
  have r_a0_3 : (execOp a0_2.eval oYP26).run Try.prog (wr) = .ok (.value (.slice la ln llc)) (wr) := by
    unfold oYP26
    have e49 := (show a0_2.eval (.tmp 49) = .pointer (some ⟨hz + 1, 1, none⟩) from (fa0_2.at_ 49))
    clear fa0_2 hQ h12 h11
    generalize a0_2.eval = ρ at *
    go_simp
  refine fa0_2.step 50 (.slice la ln llc) rfl (lb_ I0.size) (wanted_none rfl) r_a0_3 (fun a0_3 fa0_3 => ?_)
  clear r_a0_3
  clear fa0_2
  have r_a0_4 : (execOp a0_3.eval oYP27).run Try.prog (wr) = .ok (.value (.int .i64 (ln : Int))) (wr) := by
    unfold oYP27
    have e50 := (show a0_3.eval (.tmp 50) = .slice la ln llc from (fa0_3.at_ 50))
    clear fa0_3 hQ h12 h11
    generalize a0_3.eval = ρ at *
    go_simp
  refine fa0_3.step 51 (.int .i64 (ln : Int)) rfl (lb_ I0.size) (wanted_none rfl) r_a0_4 (fun a0_4 fa0_4 => ?_)
  clear r_a0_4
  clear fa0_3
  have r_a0_5 : (execOp a0_4.eval oYP28).run Try.prog (wr) = .ok (.value (.bool false)) (wr) := by
    unfold oYP28
    have e48 := (show a0_4.eval (.tmp 48) = .int .i64 (ln : Int) from (fa0_4.at_ 48))
    have e51 := (show a0_4.eval (.tmp 51) = .int .i64 (ln : Int) from (fa0_4.at_ 51))
    clear fa0_4 hQ h12 h11
    generalize a0_4.eval = ρ at *
    go_simp
  refine fa0_4.step 52 (.bool false) rfl (lb_ I0.size) (wanted_none rfl) r_a0_5 (fun a0_5 fa0_5 => ?_)
  clear r_a0_5
  clear fa0_4
  refine wpList_nil ?_
  change Code.wp _ _ _ _ _
  refine wp_cond_false (show a0_5.eval (.tmp 52) = .bool false from (fa0_5.at_ 52)) (wp_exit ?_)
  exact hQ a0_5 (I0.keep fa0_5 (fun t ht => by rcases ht with rfl | rfl | rfl | rfl <;> rfl)) (show a0_5.eval (.tmp 11) = .slice lo nl lc from ((fa0_5.at_ 11).trans h11))
theorem dlL {p q : Int} {hz vr cc ln llc g : Nat} {ao la : Option Addr} {N : List Bt} {Q : Exit → Act → World → Prop} (hQp : ∀ c (a : Act) d v w, Q (.panic c) (a.put d v) w → Q (.panic c) a w) (a0 : Act) (V : World) (I0 : IDL hz vr (.slice ao N.length cc) a0) (h12 : a0.eval (.tmp 12) = .int .i64 ((0 : Nat) : Int)) (h11 : a0.eval (.tmp 11) = .slice none 0 0)
    (hb : BvRow V ao g 0 N) (hl : ln ≤ N.length) (hN : wt N ≤ 2000000) (d0 : V.cell? ⟨hz, 0, none⟩ = some (.int .i64 p)) (d1 : V.cell? ⟨hz, 1, none⟩ = some (.int .i64 q)) (d2 : V.cell? ⟨hz + 1, 1, none⟩ = some (.slice la ln llc))
    (hQ : ∀ a W lo lc, a.defers = [] → a.tmps.size = 89 → a.eval (.tmp 11) = .slice lo (laidP p q N ln).length lc → LYw V W vr (laidP p q N ln) lo lc → Q (.exit 0) a W) : (Code.loop cDL1).wp Try.prog Q a0 V := by
  have hT : N.length ≤ 2000000 := Nat.le_trans (wt_len N) hN
  refine wp_loop (fun a W => IDL hz vr (.slice ao N.length cc) a ∧ ∃ (i : Nat) (lo : Option Addr) (lc : Nat), i ≤ ln ∧ a.eval (.tmp 12) = .int .i64 (i : Int) ∧ a.eval (.tmp 11) = .slice lo (laidP p q N i).length lc ∧ LYw V W vr (laidP p q N i) lo lc) (fun a _ => ln - kOf a 12) ⟨I0, 0, none, 0, Nat.zero_le _, h12, h11, Fr.refl _ V, own_nil⟩ ?_
  rintro a W ⟨I1, i, lo, lc, hi, g12, g11, hc⟩
  by_cases hgo : i < ln
  · obtain ⟨x, hx⟩ : ∃ x, N[i]? = some x := ⟨_, List.getElem?_eq_getElem (by omega)⟩
    obtain ⟨hpa, _⟩ := hb.place (by intro e; rw [e] at hx; simp at hx)
    subst hpa
    have hb1 := hb.same hc.same
    obtain ⟨e1, e2, e3⟩ := hb1.cells i x hx
    rw [Nat.zero_add] at e1 e2
    have hxl : x.ns.length ≤ 2000000 := by have := wt_mem (List.mem_of_getElem? hx); omega
    have hnb : (laidP p q N i).length ≤ 2000000 := by rw [laidP_len]; omega
    have nxt : ∀ a', ∀ W3 a4 c4, IDL hz vr (.slice (some ⟨g, 0, none⟩) N.length cc) a' → a'.eval (.tmp 12) = .int .i64 ((i : Int) + 1) → a'.eval (.tmp 11) = .slice a4 (laidP p q N i ++ [(x.pg, bodyS p q (nextPg N (i + 1)) x.ns)]).length c4 → LYw V W3 vr (laidP p q N i ++ [(x.pg, bodyS p q (nextPg N (i + 1)) x.ns)]) a4 c4 → Exit.then (fun a' W' => (IDL hz vr (.slice (some ⟨g, 0, none⟩) N.length cc) a' ∧ ∃ (i : Nat) (lo : Option Addr) (lc : Nat), i ≤ ln ∧ a'.eval (.tmp 12) = .int .i64 (i : Int) ∧ a'.eval (.tmp 11) = .slice lo (laidP p q N i).length lc ∧ LYw V W' vr (laidP p q N i) lo lc) ∧ ln - kOf a' 12 < ln - kOf a 12) Q .normal a' W3 := fun a' W3 a4 c4 i3 h1 h2 h3 => by
      have h4 : a'.eval (.tmp 12) = .int .i64 ((i + 1 : Nat) : Int) := h1
      rw [← laidP_succ hx] at h2 h3
      refine ⟨⟨i3, i + 1, a4, c4, hgo, h4, h2, h3⟩, ?_⟩
      show ln - kOf a' 12 < ln - kOf a 12
      rw [kOf_eq h4, kOf_eq g12]
      omega
    by_cases hin : i + 1 < N.length
    · obtain ⟨y, hy⟩ : ∃ y, N[i + 1]? = some y := ⟨_, List.getElem?_eq_getElem hin⟩
      obtain ⟨f1, _, f3⟩ := hb1.cells (i + 1) y hy
      rw [Nat.zero_add] at f1
      have en : nextPg N (i + 1) = y.pg := by unfold nextPg; rw [hy]
      rw [en] at nxt
      exact dlI (Q := Exit.then _ Q) hQp a V W I1 g12 g11 rfl hc hgo hl hT hnb hin (hc.same.keep d0) (hc.same.keep d1) (hc.same.keep d2) e1 e2 f1 (fun Z s => rbody_calls Z ((hb1.same s).cells i x hx).2.2.row (by omega) f3.hpg) nxt
    · have en : nextPg N (i + 1) = 0 := by unfold nextPg; rw [List.getElem?_eq_none (by omega)]
      rw [en] at nxt
      exact dlO (Q := Exit.then _ Q) hQp a V W I1 g12 g11 rfl hc hgo hl hT hnb (by omega) (hc.same.keep d0) (hc.same.keep d1) (hc.same.keep d2) e1 e2 (fun Z s => rbody_calls (next := 0) Z ((hb1.same s).cells i x hx).2.2.row (by omega) (by decide)) nxt
  · obtain rfl : i = ln := by omega
    exact dlE a W I1 g12 g11 (hc.same.keep d2) (fun a' i2 h2 => hQ a' W lo lc i2.defers i2.size h2 hc)
theorem wt_app (a b : List Bt) : wt (a ++ b) = wt a + wt b := by
  induction a with
  | nil => simp [wt]
  | cons x a ih => simp only [List.cons_append, wt, ih]; omega
theorem wt_drop (M : List Bt) (k : Nat) : wt (M.drop k) ≤ wt M := by
  have := wt_app (M.take k) (M.drop k)
  rw [List.take_append_drop] at this
  omega
set_option maxRecDepth 100000 in
set_option maxHeartbeats 1000000 in
theorem dlya {p q op : Int} {vr n c ln llc pgs : Nat} {pa la : Option Addr} {tr : Value} (w : World) (hmay : ∀ W, Calls Try.prog 28 #[.agg #[.int .i64 p, .int .i64 q]] W fun e w' => e = .returned (.bool false) ∧ Same W w')  :
    Calls Try.prog 15 #[frameV p q, .int .u64 (vr : Int), .slice pa n c, .agg #[tr, .slice la ln llc, .int .i64 op, .int .u32 (pgs : Int)]] w fun e w' => ∃ lo lc, e = .returned (.tuple #[.slice lo ([] : List Pgx).length lc, .int .i64 2]) ∧ w'.ownsRow w.heap.size 52 4 (.slice lo ([] : List Pgx).length lc) ([] : List Pgx).length (pgCs vr []) ∧ Same w w' := by
  refine calls_abs (c := cDL) Try.func15 (by kernel_rfl) 89 rfl (by simp) (fun a0 hsz hd ha => ?_)
  have fa0_0 := Fe.refl a0
  unfold cDL
  refine wp_seq ?_
  refine wp_region_list ?_
  unfold rDL0
  have r_a0_1 : (execOp a0.eval oYP0).run Try.prog (w) = .ok (.value (.pointer (some ⟨w.heap.size, 0, none⟩))) (w.alloc (.cells #[.int .i64 p, .int .i64 q] 39)) := by
    unfold oYP0
    have e0 := (show a0.eval (.tmp 0) = .agg #[.int .i64 p, .int .i64 q] from ((fa0_0.at_ 0).trans (ha 0 _ rfl)))
    clear fa0_0 ha
    generalize a0.eval = ρ at *
    go_simp
  refine fa0_0.stepW 4 (.pointer (some ⟨w.heap.size, 0, none⟩)) rfl (lb_ hsz) (wanted_none rfl) r_a0_1 (fun a0_1 fa0_1 => ?_)
  clear r_a0_1
  clear fa0_0
  have r_a0_2 : (execOp a0_1.eval oYP1).run Try.prog (w.alloc (.cells #[.int .i64 p, .int .i64 q] 39)) = .ok (.value (.pointer (some ⟨w.heap.size + 1, 0, none⟩))) ((w.alloc (.cells #[.int .i64 p, .int .i64 q] 39)).alloc (.cells #[tr, .slice la ln llc, .int .i64 op, .int .u32 (pgs : Int)] 26)) := by
    unfold oYP1
    have e3 := (show a0_1.eval (.tmp 3) = .agg #[tr, .slice la ln llc, .int .i64 op, .int .u32 (pgs : Int)] from ((fa0_1.at_ 3).trans (ha 3 _ rfl)))
    clear fa0_1 ha
    generalize a0_1.eval = ρ at *
    go_simp
  refine fa0_1.stepW 7 (.pointer (some ⟨w.heap.size + 1, 0, none⟩)) rfl (lb_ hsz) (wanted_none rfl) r_a0_2 (fun a0_2 fa0_2 => ?_)
  clear r_a0_2
  clear fa0_1
  refine fa0_2.move 8 (.slice none 0 0) _ (Or.inr rfl) rfl (lb_ hsz) (wanted_none rfl) rfl (fun a0_3 fa0_3 => ?_)
  clear fa0_2
  refine fa0_3.move 9 (.int .i64 0) _ (Or.inr rfl) rfl (lb_ hsz) (wanted_none rfl) rfl (fun a0_4 fa0_4 => ?_)
  clear fa0_3
  refine wpList_nil ?_
  obtain ⟨V, hV⟩ : ∃ V, V = (w.alloc (.cells #[.int .i64 p, .int .i64 q] 39)).alloc (.cells #[tr, .slice la ln llc, .int .i64 op, .int .u32 (pgs : Int)] 26) := ⟨_, rfl⟩
  rw [← hV]
  have sV : Same w V := by rw [hV]; exact ((Fr.refl _ w).alloc _).alloc _
  have r0 : V.heap[w.heap.size]? = some (.cells #[.int .i64 p, .int .i64 q] 39 (0, 0)) := by rw [hV]; exact (((Fr.refl (fun _ => False) (w.alloc (.cells #[.int .i64 p, .int .i64 q] 39))).alloc _).block _ (by simp) (fun f => f)).trans (heap_alloc_new w _)
  have r1 : V.heap[w.heap.size + 1]? = some (.cells #[tr, .slice la ln llc, .int .i64 op, .int .u32 (pgs : Int)] 26 (0, 0)) := by
    rw [hV]
    have := heap_alloc_new (w.alloc (.cells #[.int .i64 p, .int .i64 q] 39)) (.cells #[tr, .slice la ln llc, .int .i64 op, .int .u32 (pgs : Int)] 26)
    simpa using this
  have c0 : V.cell? ⟨w.heap.size, 0, none⟩ = some (.int .i64 p) := (cell_of_row _ _ _ _ _ _ r0).trans rfl
  have c1 : V.cell? ⟨w.heap.size, 1, none⟩ = some (.int .i64 q) := (cell_of_row _ _ _ _ _ _ r0).trans rfl
  change Code.wp _ _ _ _ _
  refine wp_seq (wp_seq ?_)
  refine wp_region_list ?_
  unfold rDL1
  have r_a0_5 : (execOp a0_4.eval oYP2).run Try.prog (V) = .ok (.value (.agg #[.int .i64 p, .int .i64 q])) (V) := by
    unfold oYP2
    have e4 := (show a0_4.eval (.tmp 4) = .pointer (some ⟨w.heap.size, 0, none⟩) from (fa0_4.at_ 4))
    clear fa0_4 ha
    generalize a0_4.eval = ρ at *
    go_simp
  refine fa0_4.step 16 (.agg #[.int .i64 p, .int .i64 q]) rfl (lb_ hsz) (wanted_none rfl) r_a0_5 (fun a0_5 fa0_5 => ?_)
  clear r_a0_5
  clear fa0_4
  have r_a0_6 : (execOp a0_5.eval oYP3).run Try.prog (V) = .ok (.enter 28 #[.agg #[.int .i64 p, .int .i64 q]]) (V) := by
    unfold oYP3
    have kf : ∀ f, a0_5.eval (.func f) = .func (.func f) #[] #[] := fun _ => rfl
    have e16 := (show a0_5.eval (.tmp 16) = .agg #[.int .i64 p, .int .i64 q] from (fa0_5.at_ 16))
    clear fa0_5 ha
    generalize a0_5.eval = ρ at *
    go_simp
  refine fa0_5.call 17 rfl (lb_ hsz) (wanted_none rfl) r_a0_6 (hmay V) (fun e W1 hR => ?_)
  obtain ⟨rfl, s1⟩ := hR
  clear r_a0_6
  have r2 := (s1.block _ (lt_of_heap r1) (fun f => f)).trans r1
  have b0 : W1.cell? ⟨w.heap.size + 1, 0, none⟩ = some tr := (cell_of_row _ _ _ _ _ _ r2).trans rfl
  have b1 : W1.cell? ⟨w.heap.size + 1, 1, none⟩ = some (.slice la ln llc) := (cell_of_row _ _ _ _ _ _ r2).trans rfl
  have b2 : W1.cell? ⟨w.heap.size + 1, 2, none⟩ = some (.int .i64 op) := (cell_of_row _ _ _ _ _ _ r2).trans rfl
  have b3 : W1.cell? ⟨w.heap.size + 1, 3, none⟩ = some (.int .u32 (pgs : Int)) := (cell_of_row _ _ _ _ _ _ r2).trans rfl
  refine ⟨_, rfl, fun a0_6 fa0_6 => ?_⟩
  clear fa0_5
  have r_a0_7 : (execOp a0_6.eval oYP4).run Try.prog (W1) = .ok (.value (.bool true)) (W1) := by
    unfold oYP4
    have e17 := (show a0_6.eval (.tmp 17) = .bool false from (fa0_6.at_ 17))
    clear fa0_6 ha
    generalize a0_6.eval = ρ at *
    go_simp
  refine fa0_6.step 18 (.bool true) rfl (lb_ hsz) (wanted_none rfl) r_a0_7 (fun a0_7 fa0_7 => ?_)
  clear r_a0_7
  clear fa0_6
  refine fa0_7.move 19 (.bool true) _ (Or.inl rfl) rfl (lb_ hsz) (wanted_none rfl) (fa0_7.at_ 18) (fun a0_8 fa0_8 => ?_)
  clear fa0_7
  refine fa0_8.skip 20 rfl (lb_ hsz) ((wanted_at (t := 19) (c := true) (b := false) rfl rfl rfl (lb_ (fa0_8.size.trans hsz)) (fa0_8.at_ 19)).trans (by rfl)) (fun a0_9 fa0_9 => ?_)
  clear fa0_8
  refine fa0_9.skip 21 rfl (lb_ hsz) ((wanted_at (t := 19) (c := true) (b := false) rfl rfl rfl (lb_ (fa0_9.size.trans hsz)) (fa0_9.at_ 19)).trans (by rfl)) (fun a0_10 fa0_10 => ?_)
  clear fa0_9
  have r_a0_11 : (execOp a0_10.eval oYP6).run Try.prog (W1) = .ok (.value (.bool true)) (W1) := by
    unfold oYP6
    have kc : ∀ v, a0_10.eval (.const v) = v := fun _ => rfl
    have e19 := (show a0_10.eval (.tmp 19) = .bool true from (fa0_10.at_ 19))
    have e21 := (show a0_10.eval (.tmp 21) = undef from (fa0_10.at_ 21))
    clear fa0_10 ha
    generalize a0_10.eval = ρ at *
    go_simp
  refine fa0_10.step 22 (.bool true) rfl (lb_ hsz) (wanted_none rfl) r_a0_11 (fun a0_11 fa0_11 => ?_)
  clear r_a0_11
  clear fa0_10
  refine fa0_11.move 23 (.bool true) _ (Or.inl rfl) rfl (lb_ hsz) (wanted_none rfl) (fa0_11.at_ 22) (fun a0_12 fa0_12 => ?_)
  clear fa0_11
  refine fa0_12.skip 24 rfl (lb_ hsz) ((wanted_at (t := 23) (c := true) (b := false) rfl rfl rfl (lb_ (fa0_12.size.trans hsz)) (fa0_12.at_ 23)).trans (by rfl)) (fun a0_13 fa0_13 => ?_)
  clear fa0_12
  refine fa0_13.skip 25 rfl (lb_ hsz) ((wanted_at (t := 23) (c := true) (b := false) rfl rfl rfl (lb_ (fa0_13.size.trans hsz)) (fa0_13.at_ 23)).trans (by rfl)) (fun a0_14 fa0_14 => ?_)
  clear fa0_13
  have r_a0_15 : (execOp a0_14.eval oYP8).run Try.prog (W1) = .ok (.value (.bool true)) (W1) := by
    unfold oYP8
    have kc : ∀ v, a0_14.eval (.const v) = v := fun _ => rfl
    have e23 := (show a0_14.eval (.tmp 23) = .bool true from (fa0_14.at_ 23))
    have e25 := (show a0_14.eval (.tmp 25) = undef from (fa0_14.at_ 25))
    clear fa0_14 ha
    generalize a0_14.eval = ρ at *
    go_simp
  refine fa0_14.step 26 (.bool true) rfl (lb_ hsz) (wanted_none rfl) r_a0_15 (fun a0_15 fa0_15 => ?_)
  clear r_a0_15
  clear fa0_14
  refine fa0_15.move 27 (.bool true) _ (Or.inl rfl) rfl (lb_ hsz) (wanted_none rfl) (fa0_15.at_ 26) (fun a0_16 fa0_16 => ?_)
  clear fa0_15
  refine fa0_16.skip 28 rfl (lb_ hsz) ((wanted_at (t := 27) (c := true) (b := false) rfl rfl rfl (lb_ (fa0_16.size.trans hsz)) (fa0_16.at_ 27)).trans (by rfl)) (fun a0_17 fa0_17 => ?_)
  clear fa0_16
  refine fa0_17.skip 29 rfl (lb_ hsz) ((wanted_at (t := 27) (c := true) (b := false) rfl rfl rfl (lb_ (fa0_17.size.trans hsz)) (fa0_17.at_ 27)).trans (by rfl)) (fun a0_18 fa0_18 => ?_)
  clear fa0_17
  refine fa0_18.skip 30 rfl (lb_ hsz) ((wanted_at (t := 27) (c := true) (b := false) rfl rfl rfl (lb_ (fa0_18.size.trans hsz)) (fa0_18.at_ 27)).trans (by rfl)) (fun a0_19 fa0_19 => ?_)
  clear fa0_18
  have r_a0_20 : (execOp a0_19.eval oYP12).run Try.prog (W1) = .ok (.value (.bool true)) (W1) := by
    unfold oYP12
    have kc : ∀ v, a0_19.eval (.const v) = v := fun _ => rfl
    have e27 := (show a0_19.eval (.tmp 27) = .bool true from (fa0_19.at_ 27))
    have e30 := (show a0_19.eval (.tmp 30) = undef from (fa0_19.at_ 30))
    clear fa0_19 ha
    generalize a0_19.eval = ρ at *
    go_simp
  refine fa0_19.step 31 (.bool true) rfl (lb_ hsz) (wanted_none rfl) r_a0_20 (fun a0_20 fa0_20 => ?_)
  clear r_a0_20
  clear fa0_19
  refine fa0_20.move 32 (.bool true) _ (Or.inl rfl) rfl (lb_ hsz) (wanted_none rfl) (fa0_20.at_ 31) (fun a0_21 fa0_21 => ?_)
  clear fa0_20
  refine fa0_21.skip 33 rfl (lb_ hsz) ((wanted_at (t := 32) (c := true) (b := false) rfl rfl rfl (lb_ (fa0_21.size.trans hsz)) (fa0_21.at_ 32)).trans (by rfl)) (fun a0_22 fa0_22 => ?_)
  clear fa0_21
  refine fa0_22.skip 34 rfl (lb_ hsz) ((wanted_at (t := 32) (c := true) (b := false) rfl rfl rfl (lb_ (fa0_22.size.trans hsz)) (fa0_22.at_ 32)).trans (by rfl)) (fun a0_23 fa0_23 => ?_)
  clear fa0_22
  refine fa0_23.skip 35 rfl (lb_ hsz) ((wanted_at (t := 32) (c := true) (b := false) rfl rfl rfl (lb_ (fa0_23.size.trans hsz)) (fa0_23.at_ 32)).trans (by rfl)) (fun a0_24 fa0_24 => ?_)
  clear fa0_23
  refine fa0_24.skip 36 rfl (lb_ hsz) ((wanted_at (t := 32) (c := true) (b := false) rfl rfl rfl (lb_ (fa0_24.size.trans hsz)) (fa0_24.at_ 32)).trans (by rfl)) (fun a0_25 fa0_25 => ?_)
  clear fa0_24
  refine fa0_25.skip 37 rfl (lb_ hsz) ((wanted_at (t := 32) (c := true) (b := false) rfl rfl rfl (lb_ (fa0_25.size.trans hsz)) (fa0_25.at_ 32)).trans (by rfl)) (fun a0_26 fa0_26 => ?_)
  clear fa0_25
  have r_a0_27 : (execOp a0_26.eval oYP17).run Try.prog (W1) = .ok (.value (.bool true)) (W1) := by
    unfold oYP17
    have kc : ∀ v, a0_26.eval (.const v) = v := fun _ => rfl
    have e32 := (show a0_26.eval (.tmp 32) = .bool true from (fa0_26.at_ 32))
    have e37 := (show a0_26.eval (.tmp 37) = undef from (fa0_26.at_ 37))
    clear fa0_26 ha
    generalize a0_26.eval = ρ at *
    go_simp
  refine fa0_26.step 38 (.bool true) rfl (lb_ hsz) (wanted_none rfl) r_a0_27 (fun a0_27 fa0_27 => ?_)
  clear r_a0_27
  clear fa0_26
  refine wpList_nil ?_
  change Code.wp _ _ _ _ _
  refine wp_cond_true (show a0_27.eval (.tmp 38) = .bool true from (fa0_27.at_ 38)) (wp_seq ?_)
  refine wp_region_list ?_
  unfold rDL2
  refine fa0_27.move 8 (.slice none 0 0) _ (Or.inr rfl) rfl (lb_ hsz) (wanted_none rfl) rfl (fun a0_28 fa0_28 => ?_)
  clear fa0_27
  refine fa0_28.move 9 (.int .i64 2) _ (Or.inr rfl) rfl (lb_ hsz) (wanted_none rfl) rfl (fun a0_29 fa0_29 => ?_)
  clear fa0_28
  refine wpList_nil ?_
  change Code.wp _ _ _ _ _
  refine wp_ret ?_
  try simp only [Exit.then]
  exact ret_abs2 rfl (fa0_29.defers.trans hd) (show a0_29.eval (.tmp 8) = .slice none 0 0 from (fa0_29.at_ 8)) (show a0_29.eval (.tmp 9) = .int .i64 2 from (fa0_29.at_ 9)) ⟨none, 0, rfl, own_nil, sV.trans s1⟩
set_option maxRecDepth 100000 in
set_option maxHeartbeats 1000000 in
theorem dlyb {p q op : Int} {vr n c ln llc pgs : Nat} {pa la : Option Addr} {tr : Value} (w : World) (hmay : ∀ W, Calls Try.prog 28 #[.agg #[.int .i64 p, .int .i64 q]] W fun e w' => e = .returned (.bool true) ∧ Same W w') (h1 : vr < 1) :
    Calls Try.prog 15 #[frameV p q, .int .u64 (vr : Int), .slice pa n c, .agg #[tr, .slice la ln llc, .int .i64 op, .int .u32 (pgs : Int)]] w fun e w' => ∃ lo lc, e = .returned (.tuple #[.slice lo ([] : List Pgx).length lc, .int .i64 2]) ∧ w'.ownsRow w.heap.size 52 4 (.slice lo ([] : List Pgx).length lc) ([] : List Pgx).length (pgCs vr []) ∧ Same w w' := by
  have e1 : (vr : Int) < 1 := by omega
  refine calls_abs (c := cDL) Try.func15 (by kernel_rfl) 89 rfl (by simp) (fun a0 hsz hd ha => ?_)
  have fa0_0 := Fe.refl a0
  unfold cDL
  refine wp_seq ?_
  refine wp_region_list ?_
  unfold rDL0
  have r_a0_1 : (execOp a0.eval oYP0).run Try.prog (w) = .ok (.value (.pointer (some ⟨w.heap.size, 0, none⟩))) (w.alloc (.cells #[.int .i64 p, .int .i64 q] 39)) := by
    unfold oYP0
    have e0 := (show a0.eval (.tmp 0) = .agg #[.int .i64 p, .int .i64 q] from ((fa0_0.at_ 0).trans (ha 0 _ rfl)))
    clear fa0_0 ha
    generalize a0.eval = ρ at *
    go_simp
  refine fa0_0.stepW 4 (.pointer (some ⟨w.heap.size, 0, none⟩)) rfl (lb_ hsz) (wanted_none rfl) r_a0_1 (fun a0_1 fa0_1 => ?_)
  clear r_a0_1
  clear fa0_0
  have r_a0_2 : (execOp a0_1.eval oYP1).run Try.prog (w.alloc (.cells #[.int .i64 p, .int .i64 q] 39)) = .ok (.value (.pointer (some ⟨w.heap.size + 1, 0, none⟩))) ((w.alloc (.cells #[.int .i64 p, .int .i64 q] 39)).alloc (.cells #[tr, .slice la ln llc, .int .i64 op, .int .u32 (pgs : Int)] 26)) := by
    unfold oYP1
    have e3 := (show a0_1.eval (.tmp 3) = .agg #[tr, .slice la ln llc, .int .i64 op, .int .u32 (pgs : Int)] from ((fa0_1.at_ 3).trans (ha 3 _ rfl)))
    clear fa0_1 ha
    generalize a0_1.eval = ρ at *
    go_simp
  refine fa0_1.stepW 7 (.pointer (some ⟨w.heap.size + 1, 0, none⟩)) rfl (lb_ hsz) (wanted_none rfl) r_a0_2 (fun a0_2 fa0_2 => ?_)
  clear r_a0_2
  clear fa0_1
  refine fa0_2.move 8 (.slice none 0 0) _ (Or.inr rfl) rfl (lb_ hsz) (wanted_none rfl) rfl (fun a0_3 fa0_3 => ?_)
  clear fa0_2
  refine fa0_3.move 9 (.int .i64 0) _ (Or.inr rfl) rfl (lb_ hsz) (wanted_none rfl) rfl (fun a0_4 fa0_4 => ?_)
  clear fa0_3
  refine wpList_nil ?_
  obtain ⟨V, hV⟩ : ∃ V, V = (w.alloc (.cells #[.int .i64 p, .int .i64 q] 39)).alloc (.cells #[tr, .slice la ln llc, .int .i64 op, .int .u32 (pgs : Int)] 26) := ⟨_, rfl⟩
  rw [← hV]
  have sV : Same w V := by rw [hV]; exact ((Fr.refl _ w).alloc _).alloc _
  have r0 : V.heap[w.heap.size]? = some (.cells #[.int .i64 p, .int .i64 q] 39 (0, 0)) := by rw [hV]; exact (((Fr.refl (fun _ => False) (w.alloc (.cells #[.int .i64 p, .int .i64 q] 39))).alloc _).block _ (by simp) (fun f => f)).trans (heap_alloc_new w _)
  have r1 : V.heap[w.heap.size + 1]? = some (.cells #[tr, .slice la ln llc, .int .i64 op, .int .u32 (pgs : Int)] 26 (0, 0)) := by
    rw [hV]
    have := heap_alloc_new (w.alloc (.cells #[.int .i64 p, .int .i64 q] 39)) (.cells #[tr, .slice la ln llc, .int .i64 op, .int .u32 (pgs : Int)] 26)
    simpa using this
  have c0 : V.cell? ⟨w.heap.size, 0, none⟩ = some (.int .i64 p) := (cell_of_row _ _ _ _ _ _ r0).trans rfl
  have c1 : V.cell? ⟨w.heap.size, 1, none⟩ = some (.int .i64 q) := (cell_of_row _ _ _ _ _ _ r0).trans rfl
  change Code.wp _ _ _ _ _
  refine wp_seq (wp_seq ?_)
  refine wp_region_list ?_
  unfold rDL1
  have r_a0_5 : (execOp a0_4.eval oYP2).run Try.prog (V) = .ok (.value (.agg #[.int .i64 p, .int .i64 q])) (V) := by
    unfold oYP2
    have e4 := (show a0_4.eval (.tmp 4) = .pointer (some ⟨w.heap.size, 0, none⟩) from (fa0_4.at_ 4))
    clear fa0_4 ha
    generalize a0_4.eval = ρ at *
    go_simp
  refine fa0_4.step 16 (.agg #[.int .i64 p, .int .i64 q]) rfl (lb_ hsz) (wanted_none rfl) r_a0_5 (fun a0_5 fa0_5 => ?_)
  clear r_a0_5
  clear fa0_4
  have r_a0_6 : (execOp a0_5.eval oYP3).run Try.prog (V) = .ok (.enter 28 #[.agg #[.int .i64 p, .int .i64 q]]) (V) := by
    unfold oYP3
    have kf : ∀ f, a0_5.eval (.func f) = .func (.func f) #[] #[] := fun _ => rfl
    have e16 := (show a0_5.eval (.tmp 16) = .agg #[.int .i64 p, .int .i64 q] from (fa0_5.at_ 16))
    clear fa0_5 ha
    generalize a0_5.eval = ρ at *
    go_simp
  refine fa0_5.call 17 rfl (lb_ hsz) (wanted_none rfl) r_a0_6 (hmay V) (fun e W1 hR => ?_)
  obtain ⟨rfl, s1⟩ := hR
  clear r_a0_6
  have r2 := (s1.block _ (lt_of_heap r1) (fun f => f)).trans r1
  have b0 : W1.cell? ⟨w.heap.size + 1, 0, none⟩ = some tr := (cell_of_row _ _ _ _ _ _ r2).trans rfl
  have b1 : W1.cell? ⟨w.heap.size + 1, 1, none⟩ = some (.slice la ln llc) := (cell_of_row _ _ _ _ _ _ r2).trans rfl
  have b2 : W1.cell? ⟨w.heap.size + 1, 2, none⟩ = some (.int .i64 op) := (cell_of_row _ _ _ _ _ _ r2).trans rfl
  have b3 : W1.cell? ⟨w.heap.size + 1, 3, none⟩ = some (.int .u32 (pgs : Int)) := (cell_of_row _ _ _ _ _ _ r2).trans rfl
  refine ⟨_, rfl, fun a0_6 fa0_6 => ?_⟩
  clear fa0_5
  have r_a0_7 : (execOp a0_6.eval oYP4).run Try.prog (W1) = .ok (.value (.bool false)) (W1) := by
    unfold oYP4
    have e17 := (show a0_6.eval (.tmp 17) = .bool true from (fa0_6.at_ 17))
    clear fa0_6 ha
    generalize a0_6.eval = ρ at *
    go_simp
  refine fa0_6.step 18 (.bool false) rfl (lb_ hsz) (wanted_none rfl) r_a0_7 (fun a0_7 fa0_7 => ?_)
  clear r_a0_7
  clear fa0_6
  refine fa0_7.move 19 (.bool false) _ (Or.inl rfl) rfl (lb_ hsz) (wanted_none rfl) (fa0_7.at_ 18) (fun a0_8 fa0_8 => ?_)
  clear fa0_7
  refine fa0_8.move 20 (.int .u64 (vr : Int)) _ (Or.inl rfl) rfl (lb_ hsz) ((wanted_at (t := 19) (c := false) (b := false) rfl rfl rfl (lb_ (fa0_8.size.trans hsz)) (fa0_8.at_ 19)).trans (by rfl)) ((fa0_8.at_ 1).trans (ha 1 _ rfl)) (fun a0_9 fa0_9 => ?_)
  clear fa0_8
  have r_a0_10 : (execOp a0_9.eval oYP5).run Try.prog (W1) = .ok (.value (.bool true)) (W1) := by
    unfold oYP5
    have kc : ∀ v, a0_9.eval (.const v) = v := fun _ => rfl
    have e20 := (show a0_9.eval (.tmp 20) = .int .u64 (vr : Int) from (fa0_9.at_ 20))
    clear fa0_9 ha
    generalize a0_9.eval = ρ at *
    go_simp
  refine fa0_9.step 21 (.bool true) rfl (lb_ hsz) ((wanted_at (t := 19) (c := false) (b := false) rfl rfl rfl (lb_ (fa0_9.size.trans hsz)) (fa0_9.at_ 19)).trans (by rfl)) r_a0_10 (fun a0_10 fa0_10 => ?_)
  clear r_a0_10
  clear fa0_9
  have r_a0_11 : (execOp a0_10.eval oYP6).run Try.prog (W1) = .ok (.value (.bool true)) (W1) := by
    unfold oYP6
    have kc : ∀ v, a0_10.eval (.const v) = v := fun _ => rfl
    have e19 := (show a0_10.eval (.tmp 19) = .bool false from (fa0_10.at_ 19))
    have e21 := (show a0_10.eval (.tmp 21) = .bool true from (fa0_10.at_ 21))
    clear fa0_10 ha
    generalize a0_10.eval = ρ at *
    go_simp
  refine fa0_10.step 22 (.bool true) rfl (lb_ hsz) (wanted_none rfl) r_a0_11 (fun a0_11 fa0_11 => ?_)
  clear r_a0_11
  clear fa0_10
  refine fa0_11.move 23 (.bool true) _ (Or.inl rfl) rfl (lb_ hsz) (wanted_none rfl) (fa0_11.at_ 22) (fun a0_12 fa0_12 => ?_)
  clear fa0_11
  refine fa0_12.skip 24 rfl (lb_ hsz) ((wanted_at (t := 23) (c := true) (b := false) rfl rfl rfl (lb_ (fa0_12.size.trans hsz)) (fa0_12.at_ 23)).trans (by rfl)) (fun a0_13 fa0_13 => ?_)
  clear fa0_12
  refine fa0_13.skip 25 rfl (lb_ hsz) ((wanted_at (t := 23) (c := true) (b := false) rfl rfl rfl (lb_ (fa0_13.size.trans hsz)) (fa0_13.at_ 23)).trans (by rfl)) (fun a0_14 fa0_14 => ?_)
  clear fa0_13
  have r_a0_15 : (execOp a0_14.eval oYP8).run Try.prog (W1) = .ok (.value (.bool true)) (W1) := by
    unfold oYP8
    have kc : ∀ v, a0_14.eval (.const v) = v := fun _ => rfl
    have e23 := (show a0_14.eval (.tmp 23) = .bool true from (fa0_14.at_ 23))
    have e25 := (show a0_14.eval (.tmp 25) = undef from (fa0_14.at_ 25))
    clear fa0_14 ha
    generalize a0_14.eval = ρ at *
    go_simp
  refine fa0_14.step 26 (.bool true) rfl (lb_ hsz) (wanted_none rfl) r_a0_15 (fun a0_15 fa0_15 => ?_)
  clear r_a0_15
  clear fa0_14
  refine fa0_15.move 27 (.bool true) _ (Or.inl rfl) rfl (lb_ hsz) (wanted_none rfl) (fa0_15.at_ 26) (fun a0_16 fa0_16 => ?_)
  clear fa0_15
  refine fa0_16.skip 28 rfl (lb_ hsz) ((wanted_at (t := 27) (c := true) (b := false) rfl rfl rfl (lb_ (fa0_16.size.trans hsz)) (fa0_16.at_ 27)).trans (by rfl)) (fun a0_17 fa0_17 => ?_)
  clear fa0_16
  refine fa0_17.skip 29 rfl (lb_ hsz) ((wanted_at (t := 27) (c := true) (b := false) rfl rfl rfl (lb_ (fa0_17.size.trans hsz)) (fa0_17.at_ 27)).trans (by rfl)) (fun a0_18 fa0_18 => ?_)
  clear fa0_17
  refine fa0_18.skip 30 rfl (lb_ hsz) ((wanted_at (t := 27) (c := true) (b := false) rfl rfl rfl (lb_ (fa0_18.size.trans hsz)) (fa0_18.at_ 27)).trans (by rfl)) (fun a0_19 fa0_19 => ?_)
  clear fa0_18
  have r_a0_20 : (execOp a0_19.eval oYP12).run Try.prog (W1) = .ok (.value (.bool true)) (W1) := by
    unfold oYP12
    have kc : ∀ v, a0_19.eval (.const v) = v := fun _ => rfl
    have e27 := (show a0_19.eval (.tmp 27) = .bool true from (fa0_19.at_ 27))
    have e30 := (show a0_19.eval (.tmp 30) = undef from (fa0_19.at_ 30))
    clear fa0_19 ha
    generalize a0_19.eval = ρ at *
    go_simp
  refine fa0_19.step 31 (.bool true) rfl (lb_ hsz) (wanted_none rfl) r_a0_20 (fun a0_20 fa0_20 => ?_)
  clear r_a0_20
  clear fa0_19
  refine fa0_20.move 32 (.bool true) _ (Or.inl rfl) rfl (lb_ hsz) (wanted_none rfl) (fa0_20.at_ 31) (fun a0_21 fa0_21 => ?_)
  clear fa0_20
  refine fa0_21.skip 33 rfl (lb_ hsz) ((wanted_at (t := 32) (c := true) (b := false) rfl rfl rfl (lb_ (fa0_21.size.trans hsz)) (fa0_21.at_ 32)).trans (by rfl)) (fun a0_22 fa0_22 => ?_)
  clear fa0_21
  refine fa0_22.skip 34 rfl (lb_ hsz) ((wanted_at (t := 32) (c := true) (b := false) rfl rfl rfl (lb_ (fa0_22.size.trans hsz)) (fa0_22.at_ 32)).trans (by rfl)) (fun a0_23 fa0_23 => ?_)
  clear fa0_22
  refine fa0_23.skip 35 rfl (lb_ hsz) ((wanted_at (t := 32) (c := true) (b := false) rfl rfl rfl (lb_ (fa0_23.size.trans hsz)) (fa0_23.at_ 32)).trans (by rfl)) (fun a0_24 fa0_24 => ?_)
  clear fa0_23
  refine fa0_24.skip 36 rfl (lb_ hsz) ((wanted_at (t := 32) (c := true) (b := false) rfl rfl rfl (lb_ (fa0_24.size.trans hsz)) (fa0_24.at_ 32)).trans (by rfl)) (fun a0_25 fa0_25 => ?_)
  clear fa0_24
  refine fa0_25.skip 37 rfl (lb_ hsz) ((wanted_at (t := 32) (c := true) (b := false) rfl rfl rfl (lb_ (fa0_25.size.trans hsz)) (fa0_25.at_ 32)).trans (by rfl)) (fun a0_26 fa0_26 => ?_)
  clear fa0_25
  have r_a0_27 : (execOp a0_26.eval oYP17).run Try.prog (W1) = .ok (.value (.bool true)) (W1) := by
    unfold oYP17
    have kc : ∀ v, a0_26.eval (.const v) = v := fun _ => rfl
    have e32 := (show a0_26.eval (.tmp 32) = .bool true from (fa0_26.at_ 32))
    have e37 := (show a0_26.eval (.tmp 37) = undef from (fa0_26.at_ 37))
    clear fa0_26 ha
    generalize a0_26.eval = ρ at *
    go_simp
  refine fa0_26.step 38 (.bool true) rfl (lb_ hsz) (wanted_none rfl) r_a0_27 (fun a0_27 fa0_27 => ?_)
  clear r_a0_27
  clear fa0_26
  refine wpList_nil ?_
  change Code.wp _ _ _ _ _
  refine wp_cond_true (show a0_27.eval (.tmp 38) = .bool true from (fa0_27.at_ 38)) (wp_seq ?_)
  refine wp_region_list ?_
  unfold rDL2
  refine fa0_27.move 8 (.slice none 0 0) _ (Or.inr rfl) rfl (lb_ hsz) (wanted_none rfl) rfl (fun a0_28 fa0_28 => ?_)
  clear fa0_27
  refine fa0_28.move 9 (.int .i64 2) _ (Or.inr rfl) rfl (lb_ hsz) (wanted_none rfl) rfl (fun a0_29 fa0_29 => ?_)
  clear fa0_28
  refine wpList_nil ?_
  change Code.wp _ _ _ _ _
  refine wp_ret ?_
  try simp only [Exit.then]
  exact ret_abs2 rfl (fa0_29.defers.trans hd) (show a0_29.eval (.tmp 8) = .slice none 0 0 from (fa0_29.at_ 8)) (show a0_29.eval (.tmp 9) = .int .i64 2 from (fa0_29.at_ 9)) ⟨none, 0, rfl, own_nil, sV.trans s1⟩
set_option maxRecDepth 100000 in
set_option maxHeartbeats 1000000 in
theorem dlyc {p q op : Int} {vr n c ln llc pgs : Nat} {pa la : Option Addr} {tr : Value} (w : World) (hmay : ∀ W, Calls Try.prog 28 #[.agg #[.int .i64 p, .int .i64 q]] W fun e w' => e = .returned (.bool true) ∧ Same W w') (h1 : 1099511627776 < vr) :
    Calls Try.prog 15 #[frameV p q, .int .u64 (vr : Int), .slice pa n c, .agg #[tr, .slice la ln llc, .int .i64 op, .int .u32 (pgs : Int)]] w fun e w' => ∃ lo lc, e = .returned (.tuple #[.slice lo ([] : List Pgx).length lc, .int .i64 2]) ∧ w'.ownsRow w.heap.size 52 4 (.slice lo ([] : List Pgx).length lc) ([] : List Pgx).length (pgCs vr []) ∧ Same w w' := by
  have e1 : decide ((vr : Int) < 1) = false := decide_eq_false (by omega)
  have e2 : (1099511627776 : Int) < (vr : Int) := by omega
  refine calls_abs (c := cDL) Try.func15 (by kernel_rfl) 89 rfl (by simp) (fun a0 hsz hd ha => ?_)
  have fa0_0 := Fe.refl a0
  unfold cDL
  refine wp_seq ?_
  refine wp_region_list ?_
  unfold rDL0
  have r_a0_1 : (execOp a0.eval oYP0).run Try.prog (w) = .ok (.value (.pointer (some ⟨w.heap.size, 0, none⟩))) (w.alloc (.cells #[.int .i64 p, .int .i64 q] 39)) := by
    unfold oYP0
    have e0 := (show a0.eval (.tmp 0) = .agg #[.int .i64 p, .int .i64 q] from ((fa0_0.at_ 0).trans (ha 0 _ rfl)))
    clear fa0_0 ha
    generalize a0.eval = ρ at *
    go_simp
  refine fa0_0.stepW 4 (.pointer (some ⟨w.heap.size, 0, none⟩)) rfl (lb_ hsz) (wanted_none rfl) r_a0_1 (fun a0_1 fa0_1 => ?_)
  clear r_a0_1
  clear fa0_0
  have r_a0_2 : (execOp a0_1.eval oYP1).run Try.prog (w.alloc (.cells #[.int .i64 p, .int .i64 q] 39)) = .ok (.value (.pointer (some ⟨w.heap.size + 1, 0, none⟩))) ((w.alloc (.cells #[.int .i64 p, .int .i64 q] 39)).alloc (.cells #[tr, .slice la ln llc, .int .i64 op, .int .u32 (pgs : Int)] 26)) := by
    unfold oYP1
    have e3 := (show a0_1.eval (.tmp 3) = .agg #[tr, .slice la ln llc, .int .i64 op, .int .u32 (pgs : Int)] from ((fa0_1.at_ 3).trans (ha 3 _ rfl)))
    clear fa0_1 ha
    generalize a0_1.eval = ρ at *
    go_simp
  refine fa0_1.stepW 7 (.pointer (some ⟨w.heap.size + 1, 0, none⟩)) rfl (lb_ hsz) (wanted_none rfl) r_a0_2 (fun a0_2 fa0_2 => ?_)
  clear r_a0_2
  clear fa0_1
  refine fa0_2.move 8 (.slice none 0 0) _ (Or.inr rfl) rfl (lb_ hsz) (wanted_none rfl) rfl (fun a0_3 fa0_3 => ?_)
  clear fa0_2
  refine fa0_3.move 9 (.int .i64 0) _ (Or.inr rfl) rfl (lb_ hsz) (wanted_none rfl) rfl (fun a0_4 fa0_4 => ?_)
  clear fa0_3
  refine wpList_nil ?_
  obtain ⟨V, hV⟩ : ∃ V, V = (w.alloc (.cells #[.int .i64 p, .int .i64 q] 39)).alloc (.cells #[tr, .slice la ln llc, .int .i64 op, .int .u32 (pgs : Int)] 26) := ⟨_, rfl⟩
  rw [← hV]
  have sV : Same w V := by rw [hV]; exact ((Fr.refl _ w).alloc _).alloc _
  have r0 : V.heap[w.heap.size]? = some (.cells #[.int .i64 p, .int .i64 q] 39 (0, 0)) := by rw [hV]; exact (((Fr.refl (fun _ => False) (w.alloc (.cells #[.int .i64 p, .int .i64 q] 39))).alloc _).block _ (by simp) (fun f => f)).trans (heap_alloc_new w _)
  have r1 : V.heap[w.heap.size + 1]? = some (.cells #[tr, .slice la ln llc, .int .i64 op, .int .u32 (pgs : Int)] 26 (0, 0)) := by
    rw [hV]
    have := heap_alloc_new (w.alloc (.cells #[.int .i64 p, .int .i64 q] 39)) (.cells #[tr, .slice la ln llc, .int .i64 op, .int .u32 (pgs : Int)] 26)
    simpa using this
  have c0 : V.cell? ⟨w.heap.size, 0, none⟩ = some (.int .i64 p) := (cell_of_row _ _ _ _ _ _ r0).trans rfl
  have c1 : V.cell? ⟨w.heap.size, 1, none⟩ = some (.int .i64 q) := (cell_of_row _ _ _ _ _ _ r0).trans rfl
  change Code.wp _ _ _ _ _
  refine wp_seq (wp_seq ?_)
  refine wp_region_list ?_
  unfold rDL1
  have r_a0_5 : (execOp a0_4.eval oYP2).run Try.prog (V) = .ok (.value (.agg #[.int .i64 p, .int .i64 q])) (V) := by
    unfold oYP2
    have e4 := (show a0_4.eval (.tmp 4) = .pointer (some ⟨w.heap.size, 0, none⟩) from (fa0_4.at_ 4))
    clear fa0_4 ha
    generalize a0_4.eval = ρ at *
    go_simp
  refine fa0_4.step 16 (.agg #[.int .i64 p, .int .i64 q]) rfl (lb_ hsz) (wanted_none rfl) r_a0_5 (fun a0_5 fa0_5 => ?_)
  clear r_a0_5
  clear fa0_4
  have r_a0_6 : (execOp a0_5.eval oYP3).run Try.prog (V) = .ok (.enter 28 #[.agg #[.int .i64 p, .int .i64 q]]) (V) := by
    unfold oYP3
    have kf : ∀ f, a0_5.eval (.func f) = .func (.func f) #[] #[] := fun _ => rfl
    have e16 := (show a0_5.eval (.tmp 16) = .agg #[.int .i64 p, .int .i64 q] from (fa0_5.at_ 16))
    clear fa0_5 ha
    generalize a0_5.eval = ρ at *
    go_simp
  refine fa0_5.call 17 rfl (lb_ hsz) (wanted_none rfl) r_a0_6 (hmay V) (fun e W1 hR => ?_)
  obtain ⟨rfl, s1⟩ := hR
  clear r_a0_6
  have r2 := (s1.block _ (lt_of_heap r1) (fun f => f)).trans r1
  have b0 : W1.cell? ⟨w.heap.size + 1, 0, none⟩ = some tr := (cell_of_row _ _ _ _ _ _ r2).trans rfl
  have b1 : W1.cell? ⟨w.heap.size + 1, 1, none⟩ = some (.slice la ln llc) := (cell_of_row _ _ _ _ _ _ r2).trans rfl
  have b2 : W1.cell? ⟨w.heap.size + 1, 2, none⟩ = some (.int .i64 op) := (cell_of_row _ _ _ _ _ _ r2).trans rfl
  have b3 : W1.cell? ⟨w.heap.size + 1, 3, none⟩ = some (.int .u32 (pgs : Int)) := (cell_of_row _ _ _ _ _ _ r2).trans rfl
  refine ⟨_, rfl, fun a0_6 fa0_6 => ?_⟩
  clear fa0_5
  have r_a0_7 : (execOp a0_6.eval oYP4).run Try.prog (W1) = .ok (.value (.bool false)) (W1) := by
    unfold oYP4
    have e17 := (show a0_6.eval (.tmp 17) = .bool true from (fa0_6.at_ 17))
    clear fa0_6 ha
    generalize a0_6.eval = ρ at *
    go_simp
  refine fa0_6.step 18 (.bool false) rfl (lb_ hsz) (wanted_none rfl) r_a0_7 (fun a0_7 fa0_7 => ?_)
  clear r_a0_7
  clear fa0_6
  refine fa0_7.move 19 (.bool false) _ (Or.inl rfl) rfl (lb_ hsz) (wanted_none rfl) (fa0_7.at_ 18) (fun a0_8 fa0_8 => ?_)
  clear fa0_7
  refine fa0_8.move 20 (.int .u64 (vr : Int)) _ (Or.inl rfl) rfl (lb_ hsz) ((wanted_at (t := 19) (c := false) (b := false) rfl rfl rfl (lb_ (fa0_8.size.trans hsz)) (fa0_8.at_ 19)).trans (by rfl)) ((fa0_8.at_ 1).trans (ha 1 _ rfl)) (fun a0_9 fa0_9 => ?_)
  clear fa0_8
  have r_a0_10 : (execOp a0_9.eval oYP5).run Try.prog (W1) = .ok (.value (.bool false)) (W1) := by
    unfold oYP5
    have kc : ∀ v, a0_9.eval (.const v) = v := fun _ => rfl
    have e20 := (show a0_9.eval (.tmp 20) = .int .u64 (vr : Int) from (fa0_9.at_ 20))
    clear fa0_9 ha
    generalize a0_9.eval = ρ at *
    go_simp
  refine fa0_9.step 21 (.bool false) rfl (lb_ hsz) ((wanted_at (t := 19) (c := false) (b := false) rfl rfl rfl (lb_ (fa0_9.size.trans hsz)) (fa0_9.at_ 19)).trans (by rfl)) r_a0_10 (fun a0_10 fa0_10 => ?_)
  clear r_a0_10
  clear fa0_9
  have r_a0_11 : (execOp a0_10.eval oYP6).run Try.prog (W1) = .ok (.value (.bool false)) (W1) := by
    unfold oYP6
    have kc : ∀ v, a0_10.eval (.const v) = v := fun _ => rfl
    have e19 := (show a0_10.eval (.tmp 19) = .bool false from (fa0_10.at_ 19))
    have e21 := (show a0_10.eval (.tmp 21) = .bool false from (fa0_10.at_ 21))
    clear fa0_10 ha
    generalize a0_10.eval = ρ at *
    go_simp
  refine fa0_10.step 22 (.bool false) rfl (lb_ hsz) (wanted_none rfl) r_a0_11 (fun a0_11 fa0_11 => ?_)
  clear r_a0_11
  clear fa0_10
  refine fa0_11.move 23 (.bool false) _ (Or.inl rfl) rfl (lb_ hsz) (wanted_none rfl) (fa0_11.at_ 22) (fun a0_12 fa0_12 => ?_)
  clear fa0_11
  refine fa0_12.move 24 (.int .u64 (vr : Int)) _ (Or.inl rfl) rfl (lb_ hsz) ((wanted_at (t := 23) (c := false) (b := false) rfl rfl rfl (lb_ (fa0_12.size.trans hsz)) (fa0_12.at_ 23)).trans (by rfl)) ((fa0_12.at_ 1).trans (ha 1 _ rfl)) (fun a0_13 fa0_13 => ?_)
  clear fa0_12
  have r_a0_14 : (execOp a0_13.eval oYP7).run Try.prog (W1) = .ok (.value (.bool true)) (W1) := by
    unfold oYP7
    have kc : ∀ v, a0_13.eval (.const v) = v := fun _ => rfl
    have e24 := (show a0_13.eval (.tmp 24) = .int .u64 (vr : Int) from (fa0_13.at_ 24))
    clear fa0_13 ha
    generalize a0_13.eval = ρ at *
    go_simp
  refine fa0_13.step 25 (.bool true) rfl (lb_ hsz) ((wanted_at (t := 23) (c := false) (b := false) rfl rfl rfl (lb_ (fa0_13.size.trans hsz)) (fa0_13.at_ 23)).trans (by rfl)) r_a0_14 (fun a0_14 fa0_14 => ?_)
  clear r_a0_14
  clear fa0_13
  have r_a0_15 : (execOp a0_14.eval oYP8).run Try.prog (W1) = .ok (.value (.bool true)) (W1) := by
    unfold oYP8
    have kc : ∀ v, a0_14.eval (.const v) = v := fun _ => rfl
    have e23 := (show a0_14.eval (.tmp 23) = .bool false from (fa0_14.at_ 23))
    have e25 := (show a0_14.eval (.tmp 25) = .bool true from (fa0_14.at_ 25))
    clear fa0_14 ha
    generalize a0_14.eval = ρ at *
    go_simp
  refine fa0_14.step 26 (.bool true) rfl (lb_ hsz) (wanted_none rfl) r_a0_15 (fun a0_15 fa0_15 => ?_)
  clear r_a0_15
  clear fa0_14
  refine fa0_15.move 27 (.bool true) _ (Or.inl rfl) rfl (lb_ hsz) (wanted_none rfl) (fa0_15.at_ 26) (fun a0_16 fa0_16 => ?_)
  clear fa0_15
  refine fa0_16.skip 28 rfl (lb_ hsz) ((wanted_at (t := 27) (c := true) (b := false) rfl rfl rfl (lb_ (fa0_16.size.trans hsz)) (fa0_16.at_ 27)).trans (by rfl)) (fun a0_17 fa0_17 => ?_)
  clear fa0_16
  refine fa0_17.skip 29 rfl (lb_ hsz) ((wanted_at (t := 27) (c := true) (b := false) rfl rfl rfl (lb_ (fa0_17.size.trans hsz)) (fa0_17.at_ 27)).trans (by rfl)) (fun a0_18 fa0_18 => ?_)
  clear fa0_17
  refine fa0_18.skip 30 rfl (lb_ hsz) ((wanted_at (t := 27) (c := true) (b := false) rfl rfl rfl (lb_ (fa0_18.size.trans hsz)) (fa0_18.at_ 27)).trans (by rfl)) (fun a0_19 fa0_19 => ?_)
  clear fa0_18
  have r_a0_20 : (execOp a0_19.eval oYP12).run Try.prog (W1) = .ok (.value (.bool true)) (W1) := by
    unfold oYP12
    have kc : ∀ v, a0_19.eval (.const v) = v := fun _ => rfl
    have e27 := (show a0_19.eval (.tmp 27) = .bool true from (fa0_19.at_ 27))
    have e30 := (show a0_19.eval (.tmp 30) = undef from (fa0_19.at_ 30))
    clear fa0_19 ha
    generalize a0_19.eval = ρ at *
    go_simp
  refine fa0_19.step 31 (.bool true) rfl (lb_ hsz) (wanted_none rfl) r_a0_20 (fun a0_20 fa0_20 => ?_)
  clear r_a0_20
  clear fa0_19
  refine fa0_20.move 32 (.bool true) _ (Or.inl rfl) rfl (lb_ hsz) (wanted_none rfl) (fa0_20.at_ 31) (fun a0_21 fa0_21 => ?_)
  clear fa0_20
  refine fa0_21.skip 33 rfl (lb_ hsz) ((wanted_at (t := 32) (c := true) (b := false) rfl rfl rfl (lb_ (fa0_21.size.trans hsz)) (fa0_21.at_ 32)).trans (by rfl)) (fun a0_22 fa0_22 => ?_)
  clear fa0_21
  refine fa0_22.skip 34 rfl (lb_ hsz) ((wanted_at (t := 32) (c := true) (b := false) rfl rfl rfl (lb_ (fa0_22.size.trans hsz)) (fa0_22.at_ 32)).trans (by rfl)) (fun a0_23 fa0_23 => ?_)
  clear fa0_22
  refine fa0_23.skip 35 rfl (lb_ hsz) ((wanted_at (t := 32) (c := true) (b := false) rfl rfl rfl (lb_ (fa0_23.size.trans hsz)) (fa0_23.at_ 32)).trans (by rfl)) (fun a0_24 fa0_24 => ?_)
  clear fa0_23
  refine fa0_24.skip 36 rfl (lb_ hsz) ((wanted_at (t := 32) (c := true) (b := false) rfl rfl rfl (lb_ (fa0_24.size.trans hsz)) (fa0_24.at_ 32)).trans (by rfl)) (fun a0_25 fa0_25 => ?_)
  clear fa0_24
  refine fa0_25.skip 37 rfl (lb_ hsz) ((wanted_at (t := 32) (c := true) (b := false) rfl rfl rfl (lb_ (fa0_25.size.trans hsz)) (fa0_25.at_ 32)).trans (by rfl)) (fun a0_26 fa0_26 => ?_)
  clear fa0_25
  have r_a0_27 : (execOp a0_26.eval oYP17).run Try.prog (W1) = .ok (.value (.bool true)) (W1) := by
    unfold oYP17
    have kc : ∀ v, a0_26.eval (.const v) = v := fun _ => rfl
    have e32 := (show a0_26.eval (.tmp 32) = .bool true from (fa0_26.at_ 32))
    have e37 := (show a0_26.eval (.tmp 37) = undef from (fa0_26.at_ 37))
    clear fa0_26 ha
    generalize a0_26.eval = ρ at *
    go_simp
  refine fa0_26.step 38 (.bool true) rfl (lb_ hsz) (wanted_none rfl) r_a0_27 (fun a0_27 fa0_27 => ?_)
  clear r_a0_27
  clear fa0_26
  refine wpList_nil ?_
  change Code.wp _ _ _ _ _
  refine wp_cond_true (show a0_27.eval (.tmp 38) = .bool true from (fa0_27.at_ 38)) (wp_seq ?_)
  refine wp_region_list ?_
  unfold rDL2
  refine fa0_27.move 8 (.slice none 0 0) _ (Or.inr rfl) rfl (lb_ hsz) (wanted_none rfl) rfl (fun a0_28 fa0_28 => ?_)
  clear fa0_27
  refine fa0_28.move 9 (.int .i64 2) _ (Or.inr rfl) rfl (lb_ hsz) (wanted_none rfl) rfl (fun a0_29 fa0_29 => ?_)
  clear fa0_28
  refine wpList_nil ?_
  change Code.wp _ _ _ _ _
  refine wp_ret ?_
  try simp only [Exit.then]
  exact ret_abs2 rfl (fa0_29.defers.trans hd) (show a0_29.eval (.tmp 8) = .slice none 0 0 from (fa0_29.at_ 8)) (show a0_29.eval (.tmp 9) = .int .i64 2 from (fa0_29.at_ 9)) ⟨none, 0, rfl, own_nil, sV.trans s1⟩
set_option maxRecDepth 100000 in
set_option maxHeartbeats 1000000 in
theorem dlyd {p q op : Int} {vr n c ln llc pgs : Nat} {pa la : Option Addr} {tr : Value} (w : World) (hmay : ∀ W, Calls Try.prog 28 #[.agg #[.int .i64 p, .int .i64 q]] W fun e w' => e = .returned (.bool true) ∧ Same W w') (h1 : 1 ≤ vr) (h2 : vr ≤ 1099511627776) (h3 : op < 0) :
    Calls Try.prog 15 #[frameV p q, .int .u64 (vr : Int), .slice pa n c, .agg #[tr, .slice la ln llc, .int .i64 op, .int .u32 (pgs : Int)]] w fun e w' => ∃ lo lc, e = .returned (.tuple #[.slice lo ([] : List Pgx).length lc, .int .i64 2]) ∧ w'.ownsRow w.heap.size 52 4 (.slice lo ([] : List Pgx).length lc) ([] : List Pgx).length (pgCs vr []) ∧ Same w w' := by
  have e1 : decide ((vr : Int) < 1) = false := decide_eq_false (by omega)
  have e2 : decide ((1099511627776 : Int) < (vr : Int)) = false := decide_eq_false (by omega)
  refine calls_abs (c := cDL) Try.func15 (by kernel_rfl) 89 rfl (by simp) (fun a0 hsz hd ha => ?_)
  have fa0_0 := Fe.refl a0
  unfold cDL
  refine wp_seq ?_
  refine wp_region_list ?_
  unfold rDL0
  have r_a0_1 : (execOp a0.eval oYP0).run Try.prog (w) = .ok (.value (.pointer (some ⟨w.heap.size, 0, none⟩))) (w.alloc (.cells #[.int .i64 p, .int .i64 q] 39)) := by
    unfold oYP0
    have e0 := (show a0.eval (.tmp 0) = .agg #[.int .i64 p, .int .i64 q] from ((fa0_0.at_ 0).trans (ha 0 _ rfl)))
    clear fa0_0 ha
    generalize a0.eval = ρ at *
    go_simp
  refine fa0_0.stepW 4 (.pointer (some ⟨w.heap.size, 0, none⟩)) rfl (lb_ hsz) (wanted_none rfl) r_a0_1 (fun a0_1 fa0_1 => ?_)
  clear r_a0_1
  clear fa0_0
  have r_a0_2 : (execOp a0_1.eval oYP1).run Try.prog (w.alloc (.cells #[.int .i64 p, .int .i64 q] 39)) = .ok (.value (.pointer (some ⟨w.heap.size + 1, 0, none⟩))) ((w.alloc (.cells #[.int .i64 p, .int .i64 q] 39)).alloc (.cells #[tr, .slice la ln llc, .int .i64 op, .int .u32 (pgs : Int)] 26)) := by
    unfold oYP1
    have e3 := (show a0_1.eval (.tmp 3) = .agg #[tr, .slice la ln llc, .int .i64 op, .int .u32 (pgs : Int)] from ((fa0_1.at_ 3).trans (ha 3 _ rfl)))
    clear fa0_1 ha
    generalize a0_1.eval = ρ at *
    go_simp
  refine fa0_1.stepW 7 (.pointer (some ⟨w.heap.size + 1, 0, none⟩)) rfl (lb_ hsz) (wanted_none rfl) r_a0_2 (fun a0_2 fa0_2 => ?_)
  clear r_a0_2
  clear fa0_1
  refine fa0_2.move 8 (.slice none 0 0) _ (Or.inr rfl) rfl (lb_ hsz) (wanted_none rfl) rfl (fun a0_3 fa0_3 => ?_)
  clear fa0_2
  refine fa0_3.move 9 (.int .i64 0) _ (Or.inr rfl) rfl (lb_ hsz) (wanted_none rfl) rfl (fun a0_4 fa0_4 => ?_)
  clear fa0_3
  refine wpList_nil ?_
  obtain ⟨V, hV⟩ : ∃ V, V = (w.alloc (.cells #[.int .i64 p, .int .i64 q] 39)).alloc (.cells #[tr, .slice la ln llc, .int .i64 op, .int .u32 (pgs : Int)] 26) := ⟨_, rfl⟩
  rw [← hV]
  have sV : Same w V := by rw [hV]; exact ((Fr.refl _ w).alloc _).alloc _
  have r0 : V.heap[w.heap.size]? = some (.cells #[.int .i64 p, .int .i64 q] 39 (0, 0)) := by rw [hV]; exact (((Fr.refl (fun _ => False) (w.alloc (.cells #[.int .i64 p, .int .i64 q] 39))).alloc _).block _ (by simp) (fun f => f)).trans (heap_alloc_new w _)
  have r1 : V.heap[w.heap.size + 1]? = some (.cells #[tr, .slice la ln llc, .int .i64 op, .int .u32 (pgs : Int)] 26 (0, 0)) := by
    rw [hV]
    have := heap_alloc_new (w.alloc (.cells #[.int .i64 p, .int .i64 q] 39)) (.cells #[tr, .slice la ln llc, .int .i64 op, .int .u32 (pgs : Int)] 26)
    simpa using this
  have c0 : V.cell? ⟨w.heap.size, 0, none⟩ = some (.int .i64 p) := (cell_of_row _ _ _ _ _ _ r0).trans rfl
  have c1 : V.cell? ⟨w.heap.size, 1, none⟩ = some (.int .i64 q) := (cell_of_row _ _ _ _ _ _ r0).trans rfl
  change Code.wp _ _ _ _ _
  refine wp_seq (wp_seq ?_)
  refine wp_region_list ?_
  unfold rDL1
  have r_a0_5 : (execOp a0_4.eval oYP2).run Try.prog (V) = .ok (.value (.agg #[.int .i64 p, .int .i64 q])) (V) := by
    unfold oYP2
    have e4 := (show a0_4.eval (.tmp 4) = .pointer (some ⟨w.heap.size, 0, none⟩) from (fa0_4.at_ 4))
    clear fa0_4 ha
    generalize a0_4.eval = ρ at *
    go_simp
  refine fa0_4.step 16 (.agg #[.int .i64 p, .int .i64 q]) rfl (lb_ hsz) (wanted_none rfl) r_a0_5 (fun a0_5 fa0_5 => ?_)
  clear r_a0_5
  clear fa0_4
  have r_a0_6 : (execOp a0_5.eval oYP3).run Try.prog (V) = .ok (.enter 28 #[.agg #[.int .i64 p, .int .i64 q]]) (V) := by
    unfold oYP3
    have kf : ∀ f, a0_5.eval (.func f) = .func (.func f) #[] #[] := fun _ => rfl
    have e16 := (show a0_5.eval (.tmp 16) = .agg #[.int .i64 p, .int .i64 q] from (fa0_5.at_ 16))
    clear fa0_5 ha
    generalize a0_5.eval = ρ at *
    go_simp
  refine fa0_5.call 17 rfl (lb_ hsz) (wanted_none rfl) r_a0_6 (hmay V) (fun e W1 hR => ?_)
  obtain ⟨rfl, s1⟩ := hR
  clear r_a0_6
  have r2 := (s1.block _ (lt_of_heap r1) (fun f => f)).trans r1
  have b0 : W1.cell? ⟨w.heap.size + 1, 0, none⟩ = some tr := (cell_of_row _ _ _ _ _ _ r2).trans rfl
  have b1 : W1.cell? ⟨w.heap.size + 1, 1, none⟩ = some (.slice la ln llc) := (cell_of_row _ _ _ _ _ _ r2).trans rfl
  have b2 : W1.cell? ⟨w.heap.size + 1, 2, none⟩ = some (.int .i64 op) := (cell_of_row _ _ _ _ _ _ r2).trans rfl
  have b3 : W1.cell? ⟨w.heap.size + 1, 3, none⟩ = some (.int .u32 (pgs : Int)) := (cell_of_row _ _ _ _ _ _ r2).trans rfl
  refine ⟨_, rfl, fun a0_6 fa0_6 => ?_⟩
  clear fa0_5
  have r_a0_7 : (execOp a0_6.eval oYP4).run Try.prog (W1) = .ok (.value (.bool false)) (W1) := by
    unfold oYP4
    have e17 := (show a0_6.eval (.tmp 17) = .bool true from (fa0_6.at_ 17))
    clear fa0_6 ha
    generalize a0_6.eval = ρ at *
    go_simp
  refine fa0_6.step 18 (.bool false) rfl (lb_ hsz) (wanted_none rfl) r_a0_7 (fun a0_7 fa0_7 => ?_)
  clear r_a0_7
  clear fa0_6
  refine fa0_7.move 19 (.bool false) _ (Or.inl rfl) rfl (lb_ hsz) (wanted_none rfl) (fa0_7.at_ 18) (fun a0_8 fa0_8 => ?_)
  clear fa0_7
  refine fa0_8.move 20 (.int .u64 (vr : Int)) _ (Or.inl rfl) rfl (lb_ hsz) ((wanted_at (t := 19) (c := false) (b := false) rfl rfl rfl (lb_ (fa0_8.size.trans hsz)) (fa0_8.at_ 19)).trans (by rfl)) ((fa0_8.at_ 1).trans (ha 1 _ rfl)) (fun a0_9 fa0_9 => ?_)
  clear fa0_8
  have r_a0_10 : (execOp a0_9.eval oYP5).run Try.prog (W1) = .ok (.value (.bool false)) (W1) := by
    unfold oYP5
    have kc : ∀ v, a0_9.eval (.const v) = v := fun _ => rfl
    have e20 := (show a0_9.eval (.tmp 20) = .int .u64 (vr : Int) from (fa0_9.at_ 20))
    clear fa0_9 ha
    generalize a0_9.eval = ρ at *
    go_simp
  refine fa0_9.step 21 (.bool false) rfl (lb_ hsz) ((wanted_at (t := 19) (c := false) (b := false) rfl rfl rfl (lb_ (fa0_9.size.trans hsz)) (fa0_9.at_ 19)).trans (by rfl)) r_a0_10 (fun a0_10 fa0_10 => ?_)
  clear r_a0_10
  clear fa0_9
  have r_a0_11 : (execOp a0_10.eval oYP6).run Try.prog (W1) = .ok (.value (.bool false)) (W1) := by
    unfold oYP6
    have kc : ∀ v, a0_10.eval (.const v) = v := fun _ => rfl
    have e19 := (show a0_10.eval (.tmp 19) = .bool false from (fa0_10.at_ 19))
    have e21 := (show a0_10.eval (.tmp 21) = .bool false from (fa0_10.at_ 21))
    clear fa0_10 ha
    generalize a0_10.eval = ρ at *
    go_simp
  refine fa0_10.step 22 (.bool false) rfl (lb_ hsz) (wanted_none rfl) r_a0_11 (fun a0_11 fa0_11 => ?_)
  clear r_a0_11
  clear fa0_10
  refine fa0_11.move 23 (.bool false) _ (Or.inl rfl) rfl (lb_ hsz) (wanted_none rfl) (fa0_11.at_ 22) (fun a0_12 fa0_12 => ?_)
  clear fa0_11
  refine fa0_12.move 24 (.int .u64 (vr : Int)) _ (Or.inl rfl) rfl (lb_ hsz) ((wanted_at (t := 23) (c := false) (b := false) rfl rfl rfl (lb_ (fa0_12.size.trans hsz)) (fa0_12.at_ 23)).trans (by rfl)) ((fa0_12.at_ 1).trans (ha 1 _ rfl)) (fun a0_13 fa0_13 => ?_)
  clear fa0_12
  have r_a0_14 : (execOp a0_13.eval oYP7).run Try.prog (W1) = .ok (.value (.bool false)) (W1) := by
    unfold oYP7
    have kc : ∀ v, a0_13.eval (.const v) = v := fun _ => rfl
    have e24 := (show a0_13.eval (.tmp 24) = .int .u64 (vr : Int) from (fa0_13.at_ 24))
    clear fa0_13 ha
    generalize a0_13.eval = ρ at *
    go_simp
  refine fa0_13.step 25 (.bool false) rfl (lb_ hsz) ((wanted_at (t := 23) (c := false) (b := false) rfl rfl rfl (lb_ (fa0_13.size.trans hsz)) (fa0_13.at_ 23)).trans (by rfl)) r_a0_14 (fun a0_14 fa0_14 => ?_)
  clear r_a0_14
  clear fa0_13
  have r_a0_15 : (execOp a0_14.eval oYP8).run Try.prog (W1) = .ok (.value (.bool false)) (W1) := by
    unfold oYP8
    have kc : ∀ v, a0_14.eval (.const v) = v := fun _ => rfl
    have e23 := (show a0_14.eval (.tmp 23) = .bool false from (fa0_14.at_ 23))
    have e25 := (show a0_14.eval (.tmp 25) = .bool false from (fa0_14.at_ 25))
    clear fa0_14 ha
    generalize a0_14.eval = ρ at *
    go_simp
  refine fa0_14.step 26 (.bool false) rfl (lb_ hsz) (wanted_none rfl) r_a0_15 (fun a0_15 fa0_15 => ?_)
  clear r_a0_15
  clear fa0_14
  refine fa0_15.move 27 (.bool false) _ (Or.inl rfl) rfl (lb_ hsz) (wanted_none rfl) (fa0_15.at_ 26) (fun a0_16 fa0_16 => ?_)
  clear fa0_15
  have r_a0_17 : (execOp a0_16.eval oYP9).run Try.prog (W1) = .ok (.value (.pointer (some ⟨w.heap.size + 1, 2, none⟩))) (W1) := by
    unfold oYP9
    have e7 := (show a0_16.eval (.tmp 7) = .pointer (some ⟨w.heap.size + 1, 0, none⟩) from (fa0_16.at_ 7))
    clear fa0_16 ha
    generalize a0_16.eval = ρ at *
    go_simp
  refine fa0_16.step 28 (.pointer (some ⟨w.heap.size + 1, 2, none⟩)) rfl (lb_ hsz) ((wanted_at (t := 27) (c := false) (b := false) rfl rfl rfl (lb_ (fa0_16.size.trans hsz)) (fa0_16.at_ 27)).trans (by rfl)) r_a0_17 (fun a0_17 fa0_17 => ?_)
  clear r_a0_17
  clear fa0_16
  have r_a0_18 : (execOp a0_17.eval oYP10).run Try.prog (W1) = .ok (.value (.int .i64 op)) (W1) := by
    unfold oYP10
    have e28 := (show a0_17.eval (.tmp 28) = .pointer (some ⟨w.heap.size + 1, 2, none⟩) from (fa0_17.at_ 28))
    clear fa0_17 ha
    generalize a0_17.eval = ρ at *
    go_simp
  refine fa0_17.step 29 (.int .i64 op) rfl (lb_ hsz) ((wanted_at (t := 27) (c := false) (b := false) rfl rfl rfl (lb_ (fa0_17.size.trans hsz)) (fa0_17.at_ 27)).trans (by rfl)) r_a0_18 (fun a0_18 fa0_18 => ?_)
  clear r_a0_18
  clear fa0_17
  have r_a0_19 : (execOp a0_18.eval oYP11).run Try.prog (W1) = .ok (.value (.bool true)) (W1) := by
    unfold oYP11
    have kc : ∀ v, a0_18.eval (.const v) = v := fun _ => rfl
    have e29 := (show a0_18.eval (.tmp 29) = .int .i64 op from (fa0_18.at_ 29))
    clear fa0_18 ha
    generalize a0_18.eval = ρ at *
    go_simp
  refine fa0_18.step 30 (.bool true) rfl (lb_ hsz) ((wanted_at (t := 27) (c := false) (b := false) rfl rfl rfl (lb_ (fa0_18.size.trans hsz)) (fa0_18.at_ 27)).trans (by rfl)) r_a0_19 (fun a0_19 fa0_19 => ?_)
  clear r_a0_19
  clear fa0_18
  have r_a0_20 : (execOp a0_19.eval oYP12).run Try.prog (W1) = .ok (.value (.bool true)) (W1) := by
    unfold oYP12
    have kc : ∀ v, a0_19.eval (.const v) = v := fun _ => rfl
    have e27 := (show a0_19.eval (.tmp 27) = .bool false from (fa0_19.at_ 27))
    have e30 := (show a0_19.eval (.tmp 30) = .bool true from (fa0_19.at_ 30))
    clear fa0_19 ha
    generalize a0_19.eval = ρ at *
    go_simp
  refine fa0_19.step 31 (.bool true) rfl (lb_ hsz) (wanted_none rfl) r_a0_20 (fun a0_20 fa0_20 => ?_)
  clear r_a0_20
  clear fa0_19
  refine fa0_20.move 32 (.bool true) _ (Or.inl rfl) rfl (lb_ hsz) (wanted_none rfl) (fa0_20.at_ 31) (fun a0_21 fa0_21 => ?_)
  clear fa0_20
  refine fa0_21.skip 33 rfl (lb_ hsz) ((wanted_at (t := 32) (c := true) (b := false) rfl rfl rfl (lb_ (fa0_21.size.trans hsz)) (fa0_21.at_ 32)).trans (by rfl)) (fun a0_22 fa0_22 => ?_)
  clear fa0_21
  refine fa0_22.skip 34 rfl (lb_ hsz) ((wanted_at (t := 32) (c := true) (b := false) rfl rfl rfl (lb_ (fa0_22.size.trans hsz)) (fa0_22.at_ 32)).trans (by rfl)) (fun a0_23 fa0_23 => ?_)
  clear fa0_22
  refine fa0_23.skip 35 rfl (lb_ hsz) ((wanted_at (t := 32) (c := true) (b := false) rfl rfl rfl (lb_ (fa0_23.size.trans hsz)) (fa0_23.at_ 32)).trans (by rfl)) (fun a0_24 fa0_24 => ?_)
  clear fa0_23
  refine fa0_24.skip 36 rfl (lb_ hsz) ((wanted_at (t := 32) (c := true) (b := false) rfl rfl rfl (lb_ (fa0_24.size.trans hsz)) (fa0_24.at_ 32)).trans (by rfl)) (fun a0_25 fa0_25 => ?_)
  clear fa0_24
  refine fa0_25.skip 37 rfl (lb_ hsz) ((wanted_at (t := 32) (c := true) (b := false) rfl rfl rfl (lb_ (fa0_25.size.trans hsz)) (fa0_25.at_ 32)).trans (by rfl)) (fun a0_26 fa0_26 => ?_)
  clear fa0_25
  have r_a0_27 : (execOp a0_26.eval oYP17).run Try.prog (W1) = .ok (.value (.bool true)) (W1) := by
    unfold oYP17
    have kc : ∀ v, a0_26.eval (.const v) = v := fun _ => rfl
    have e32 := (show a0_26.eval (.tmp 32) = .bool true from (fa0_26.at_ 32))
    have e37 := (show a0_26.eval (.tmp 37) = undef from (fa0_26.at_ 37))
    clear fa0_26 ha
    generalize a0_26.eval = ρ at *
    go_simp
  refine fa0_26.step 38 (.bool true) rfl (lb_ hsz) (wanted_none rfl) r_a0_27 (fun a0_27 fa0_27 => ?_)
  clear r_a0_27
  clear fa0_26
  refine wpList_nil ?_
  change Code.wp _ _ _ _ _
  refine wp_cond_true (show a0_27.eval (.tmp 38) = .bool true from (fa0_27.at_ 38)) (wp_seq ?_)
  refine wp_region_list ?_
  unfold rDL2
  refine fa0_27.move 8 (.slice none 0 0) _ (Or.inr rfl) rfl (lb_ hsz) (wanted_none rfl) rfl (fun a0_28 fa0_28 => ?_)
  clear fa0_27
  refine fa0_28.move 9 (.int .i64 2) _ (Or.inr rfl) rfl (lb_ hsz) (wanted_none rfl) rfl (fun a0_29 fa0_29 => ?_)
  clear fa0_28
  refine wpList_nil ?_
  change Code.wp _ _ _ _ _
  refine wp_ret ?_
  try simp only [Exit.then]
  exact ret_abs2 rfl (fa0_29.defers.trans hd) (show a0_29.eval (.tmp 8) = .slice none 0 0 from (fa0_29.at_ 8)) (show a0_29.eval (.tmp 9) = .int .i64 2 from (fa0_29.at_ 9)) ⟨none, 0, rfl, own_nil, sV.trans s1⟩
set_option maxRecDepth 100000 in
set_option maxHeartbeats 1000000 in
theorem dlye {p q op : Int} {vr n c ln llc pgs : Nat} {pa la : Option Addr} {tr : Value} (w : World) (hmay : ∀ W, Calls Try.prog 28 #[.agg #[.int .i64 p, .int .i64 q]] W fun e w' => e = .returned (.bool true) ∧ Same W w') (h1 : 1 ≤ vr) (h2 : vr ≤ 1099511627776) (h4 : (n : Int) < op) :
    Calls Try.prog 15 #[frameV p q, .int .u64 (vr : Int), .slice pa n c, .agg #[tr, .slice la ln llc, .int .i64 op, .int .u32 (pgs : Int)]] w fun e w' => ∃ lo lc, e = .returned (.tuple #[.slice lo ([] : List Pgx).length lc, .int .i64 2]) ∧ w'.ownsRow w.heap.size 52 4 (.slice lo ([] : List Pgx).length lc) ([] : List Pgx).length (pgCs vr []) ∧ Same w w' := by
  have e1 : decide ((vr : Int) < 1) = false := decide_eq_false (by omega)
  have e2 : decide ((1099511627776 : Int) < (vr : Int)) = false := decide_eq_false (by omega)
  have e3 : decide (op < 0) = false := decide_eq_false (by omega)
  refine calls_abs (c := cDL) Try.func15 (by kernel_rfl) 89 rfl (by simp) (fun a0 hsz hd ha => ?_)
  have fa0_0 := Fe.refl a0
  unfold cDL
  refine wp_seq ?_
  refine wp_region_list ?_
  unfold rDL0
  have r_a0_1 : (execOp a0.eval oYP0).run Try.prog (w) = .ok (.value (.pointer (some ⟨w.heap.size, 0, none⟩))) (w.alloc (.cells #[.int .i64 p, .int .i64 q] 39)) := by
    unfold oYP0
    have e0 := (show a0.eval (.tmp 0) = .agg #[.int .i64 p, .int .i64 q] from ((fa0_0.at_ 0).trans (ha 0 _ rfl)))
    clear fa0_0 ha
    generalize a0.eval = ρ at *
    go_simp
  refine fa0_0.stepW 4 (.pointer (some ⟨w.heap.size, 0, none⟩)) rfl (lb_ hsz) (wanted_none rfl) r_a0_1 (fun a0_1 fa0_1 => ?_)
  clear r_a0_1
  clear fa0_0
  have r_a0_2 : (execOp a0_1.eval oYP1).run Try.prog (w.alloc (.cells #[.int .i64 p, .int .i64 q] 39)) = .ok (.value (.pointer (some ⟨w.heap.size + 1, 0, none⟩))) ((w.alloc (.cells #[.int .i64 p, .int .i64 q] 39)).alloc (.cells #[tr, .slice la ln llc, .int .i64 op, .int .u32 (pgs : Int)] 26)) := by
    unfold oYP1
    have e3 := (show a0_1.eval (.tmp 3) = .agg #[tr, .slice la ln llc, .int .i64 op, .int .u32 (pgs : Int)] from ((fa0_1.at_ 3).trans (ha 3 _ rfl)))
    clear fa0_1 ha
    generalize a0_1.eval = ρ at *
    go_simp
  refine fa0_1.stepW 7 (.pointer (some ⟨w.heap.size + 1, 0, none⟩)) rfl (lb_ hsz) (wanted_none rfl) r_a0_2 (fun a0_2 fa0_2 => ?_)
  clear r_a0_2
  clear fa0_1
  refine fa0_2.move 8 (.slice none 0 0) _ (Or.inr rfl) rfl (lb_ hsz) (wanted_none rfl) rfl (fun a0_3 fa0_3 => ?_)
  clear fa0_2
  refine fa0_3.move 9 (.int .i64 0) _ (Or.inr rfl) rfl (lb_ hsz) (wanted_none rfl) rfl (fun a0_4 fa0_4 => ?_)
  clear fa0_3
  refine wpList_nil ?_
  obtain ⟨V, hV⟩ : ∃ V, V = (w.alloc (.cells #[.int .i64 p, .int .i64 q] 39)).alloc (.cells #[tr, .slice la ln llc, .int .i64 op, .int .u32 (pgs : Int)] 26) := ⟨_, rfl⟩
  rw [← hV]
  have sV : Same w V := by rw [hV]; exact ((Fr.refl _ w).alloc _).alloc _
  have r0 : V.heap[w.heap.size]? = some (.cells #[.int .i64 p, .int .i64 q] 39 (0, 0)) := by rw [hV]; exact (((Fr.refl (fun _ => False) (w.alloc (.cells #[.int .i64 p, .int .i64 q] 39))).alloc _).block _ (by simp) (fun f => f)).trans (heap_alloc_new w _)
  have r1 : V.heap[w.heap.size + 1]? = some (.cells #[tr, .slice la ln llc, .int .i64 op, .int .u32 (pgs : Int)] 26 (0, 0)) := by
    rw [hV]
    have := heap_alloc_new (w.alloc (.cells #[.int .i64 p, .int .i64 q] 39)) (.cells #[tr, .slice la ln llc, .int .i64 op, .int .u32 (pgs : Int)] 26)
    simpa using this
  have c0 : V.cell? ⟨w.heap.size, 0, none⟩ = some (.int .i64 p) := (cell_of_row _ _ _ _ _ _ r0).trans rfl
  have c1 : V.cell? ⟨w.heap.size, 1, none⟩ = some (.int .i64 q) := (cell_of_row _ _ _ _ _ _ r0).trans rfl
  change Code.wp _ _ _ _ _
  refine wp_seq (wp_seq ?_)
  refine wp_region_list ?_
  unfold rDL1
  have r_a0_5 : (execOp a0_4.eval oYP2).run Try.prog (V) = .ok (.value (.agg #[.int .i64 p, .int .i64 q])) (V) := by
    unfold oYP2
    have e4 := (show a0_4.eval (.tmp 4) = .pointer (some ⟨w.heap.size, 0, none⟩) from (fa0_4.at_ 4))
    clear fa0_4 ha
    generalize a0_4.eval = ρ at *
    go_simp
  refine fa0_4.step 16 (.agg #[.int .i64 p, .int .i64 q]) rfl (lb_ hsz) (wanted_none rfl) r_a0_5 (fun a0_5 fa0_5 => ?_)
  clear r_a0_5
  clear fa0_4
  have r_a0_6 : (execOp a0_5.eval oYP3).run Try.prog (V) = .ok (.enter 28 #[.agg #[.int .i64 p, .int .i64 q]]) (V) := by
    unfold oYP3
    have kf : ∀ f, a0_5.eval (.func f) = .func (.func f) #[] #[] := fun _ => rfl
    have e16 := (show a0_5.eval (.tmp 16) = .agg #[.int .i64 p, .int .i64 q] from (fa0_5.at_ 16))
    clear fa0_5 ha
    generalize a0_5.eval = ρ at *
    go_simp
  refine fa0_5.call 17 rfl (lb_ hsz) (wanted_none rfl) r_a0_6 (hmay V) (fun e W1 hR => ?_)
  obtain ⟨rfl, s1⟩ := hR
  clear r_a0_6
  have r2 := (s1.block _ (lt_of_heap r1) (fun f => f)).trans r1
  have b0 : W1.cell? ⟨w.heap.size + 1, 0, none⟩ = some tr := (cell_of_row _ _ _ _ _ _ r2).trans rfl
  have b1 : W1.cell? ⟨w.heap.size + 1, 1, none⟩ = some (.slice la ln llc) := (cell_of_row _ _ _ _ _ _ r2).trans rfl
  have b2 : W1.cell? ⟨w.heap.size + 1, 2, none⟩ = some (.int .i64 op) := (cell_of_row _ _ _ _ _ _ r2).trans rfl
  have b3 : W1.cell? ⟨w.heap.size + 1, 3, none⟩ = some (.int .u32 (pgs : Int)) := (cell_of_row _ _ _ _ _ _ r2).trans rfl
  refine ⟨_, rfl, fun a0_6 fa0_6 => ?_⟩
  clear fa0_5
  have r_a0_7 : (execOp a0_6.eval oYP4).run Try.prog (W1) = .ok (.value (.bool false)) (W1) := by
    unfold oYP4
    have e17 := (show a0_6.eval (.tmp 17) = .bool true from (fa0_6.at_ 17))
    clear fa0_6 ha
    generalize a0_6.eval = ρ at *
    go_simp
  refine fa0_6.step 18 (.bool false) rfl (lb_ hsz) (wanted_none rfl) r_a0_7 (fun a0_7 fa0_7 => ?_)
  clear r_a0_7
  clear fa0_6
  refine fa0_7.move 19 (.bool false) _ (Or.inl rfl) rfl (lb_ hsz) (wanted_none rfl) (fa0_7.at_ 18) (fun a0_8 fa0_8 => ?_)
  clear fa0_7
  refine fa0_8.move 20 (.int .u64 (vr : Int)) _ (Or.inl rfl) rfl (lb_ hsz) ((wanted_at (t := 19) (c := false) (b := false) rfl rfl rfl (lb_ (fa0_8.size.trans hsz)) (fa0_8.at_ 19)).trans (by rfl)) ((fa0_8.at_ 1).trans (ha 1 _ rfl)) (fun a0_9 fa0_9 => ?_)
  clear fa0_8
  have r_a0_10 : (execOp a0_9.eval oYP5).run Try.prog (W1) = .ok (.value (.bool false)) (W1) := by
    unfold oYP5
    have kc : ∀ v, a0_9.eval (.const v) = v := fun _ => rfl
    have e20 := (show a0_9.eval (.tmp 20) = .int .u64 (vr : Int) from (fa0_9.at_ 20))
    clear fa0_9 ha
    generalize a0_9.eval = ρ at *
    go_simp
  refine fa0_9.step 21 (.bool false) rfl (lb_ hsz) ((wanted_at (t := 19) (c := false) (b := false) rfl rfl rfl (lb_ (fa0_9.size.trans hsz)) (fa0_9.at_ 19)).trans (by rfl)) r_a0_10 (fun a0_10 fa0_10 => ?_)
  clear r_a0_10
  clear fa0_9
  have r_a0_11 : (execOp a0_10.eval oYP6).run Try.prog (W1) = .ok (.value (.bool false)) (W1) := by
    unfold oYP6
    have kc : ∀ v, a0_10.eval (.const v) = v := fun _ => rfl
    have e19 := (show a0_10.eval (.tmp 19) = .bool false from (fa0_10.at_ 19))
    have e21 := (show a0_10.eval (.tmp 21) = .bool false from (fa0_10.at_ 21))
    clear fa0_10 ha
    generalize a0_10.eval = ρ at *
    go_simp
  refine fa0_10.step 22 (.bool false) rfl (lb_ hsz) (wanted_none rfl) r_a0_11 (fun a0_11 fa0_11 => ?_)
  clear r_a0_11
  clear fa0_10
  refine fa0_11.move 23 (.bool false) _ (Or.inl rfl) rfl (lb_ hsz) (wanted_none rfl) (fa0_11.at_ 22) (fun a0_12 fa0_12 => ?_)
  clear fa0_11
  refine fa0_12.move 24 (.int .u64 (vr : Int)) _ (Or.inl rfl) rfl (lb_ hsz) ((wanted_at (t := 23) (c := false) (b := false) rfl rfl rfl (lb_ (fa0_12.size.trans hsz)) (fa0_12.at_ 23)).trans (by rfl)) ((fa0_12.at_ 1).trans (ha 1 _ rfl)) (fun a0_13 fa0_13 => ?_)
  clear fa0_12
  have r_a0_14 : (execOp a0_13.eval oYP7).run Try.prog (W1) = .ok (.value (.bool false)) (W1) := by
    unfold oYP7
    have kc : ∀ v, a0_13.eval (.const v) = v := fun _ => rfl
    have e24 := (show a0_13.eval (.tmp 24) = .int .u64 (vr : Int) from (fa0_13.at_ 24))
    clear fa0_13 ha
    generalize a0_13.eval = ρ at *
    go_simp
  refine fa0_13.step 25 (.bool false) rfl (lb_ hsz) ((wanted_at (t := 23) (c := false) (b := false) rfl rfl rfl (lb_ (fa0_13.size.trans hsz)) (fa0_13.at_ 23)).trans (by rfl)) r_a0_14 (fun a0_14 fa0_14 => ?_)
  clear r_a0_14
  clear fa0_13
  have r_a0_15 : (execOp a0_14.eval oYP8).run Try.prog (W1) = .ok (.value (.bool false)) (W1) := by
    unfold oYP8
    have kc : ∀ v, a0_14.eval (.const v) = v := fun _ => rfl
    have e23 := (show a0_14.eval (.tmp 23) = .bool false from (fa0_14.at_ 23))
    have e25 := (show a0_14.eval (.tmp 25) = .bool false from (fa0_14.at_ 25))
    clear fa0_14 ha
    generalize a0_14.eval = ρ at *
    go_simp
  refine fa0_14.step 26 (.bool false) rfl (lb_ hsz) (wanted_none rfl) r_a0_15 (fun a0_15 fa0_15 => ?_)
  clear r_a0_15
  clear fa0_14
  refine fa0_15.move 27 (.bool false) _ (Or.inl rfl) rfl (lb_ hsz) (wanted_none rfl) (fa0_15.at_ 26) (fun a0_16 fa0_16 => ?_)
  clear fa0_15
  have r_a0_17 : (execOp a0_16.eval oYP9).run Try.prog (W1) = .ok (.value (.pointer (some ⟨w.heap.size + 1, 2, none⟩))) (W1) := by
    unfold oYP9
    have e7 := (show a0_16.eval (.tmp 7) = .pointer (some ⟨w.heap.size + 1, 0, none⟩) from (fa0_16.at_ 7))
    clear fa0_16 ha
    generalize a0_16.eval = ρ at *
    go_simp
  refine fa0_16.step 28 (.pointer (some ⟨w.heap.size + 1, 2, none⟩)) rfl (lb_ hsz) ((wanted_at (t := 27) (c := false) (b := false) rfl rfl rfl (lb_ (fa0_16.size.trans hsz)) (fa0_16.at_ 27)).trans (by rfl)) r_a0_17 (fun a0_17 fa0_17 => ?_)
  clear r_a0_17
  clear fa0_16
  have r_a0_18 : (execOp a0_17.eval oYP10).run Try.prog (W1) = .ok (.value (.int .i64 op)) (W1) := by
    unfold oYP10
    have e28 := (show a0_17.eval (.tmp 28) = .pointer (some ⟨w.heap.size + 1, 2, none⟩) from (fa0_17.at_ 28))
    clear fa0_17 ha
    generalize a0_17.eval = ρ at *
    go_simp
  refine fa0_17.step 29 (.int .i64 op) rfl (lb_ hsz) ((wanted_at (t := 27) (c := false) (b := false) rfl rfl rfl (lb_ (fa0_17.size.trans hsz)) (fa0_17.at_ 27)).trans (by rfl)) r_a0_18 (fun a0_18 fa0_18 => ?_)
  clear r_a0_18
  clear fa0_17
  have r_a0_19 : (execOp a0_18.eval oYP11).run Try.prog (W1) = .ok (.value (.bool false)) (W1) := by
    unfold oYP11
    have kc : ∀ v, a0_18.eval (.const v) = v := fun _ => rfl
    have e29 := (show a0_18.eval (.tmp 29) = .int .i64 op from (fa0_18.at_ 29))
    clear fa0_18 ha
    generalize a0_18.eval = ρ at *
    go_simp
  refine fa0_18.step 30 (.bool false) rfl (lb_ hsz) ((wanted_at (t := 27) (c := false) (b := false) rfl rfl rfl (lb_ (fa0_18.size.trans hsz)) (fa0_18.at_ 27)).trans (by rfl)) r_a0_19 (fun a0_19 fa0_19 => ?_)
  clear r_a0_19
  clear fa0_18
  have r_a0_20 : (execOp a0_19.eval oYP12).run Try.prog (W1) = .ok (.value (.bool false)) (W1) := by
    unfold oYP12
    have kc : ∀ v, a0_19.eval (.const v) = v := fun _ => rfl
    have e27 := (show a0_19.eval (.tmp 27) = .bool false from (fa0_19.at_ 27))
    have e30 := (show a0_19.eval (.tmp 30) = .bool false from (fa0_19.at_ 30))
    clear fa0_19 ha
    generalize a0_19.eval = ρ at *
    go_simp
  refine fa0_19.step 31 (.bool false) rfl (lb_ hsz) (wanted_none rfl) r_a0_20 (fun a0_20 fa0_20 => ?_)
  clear r_a0_20
  clear fa0_19
  refine fa0_20.move 32 (.bool false) _ (Or.inl rfl) rfl (lb_ hsz) (wanted_none rfl) (fa0_20.at_ 31) (fun a0_21 fa0_21 => ?_)
  clear fa0_20
  have r_a0_22 : (execOp a0_21.eval oYP13).run Try.prog (W1) = .ok (.value (.pointer (some ⟨w.heap.size + 1, 2, none⟩))) (W1) := by
    unfold oYP13
    have e7 := (show a0_21.eval (.tmp 7) = .pointer (some ⟨w.heap.size + 1, 0, none⟩) from (fa0_21.at_ 7))
    clear fa0_21 ha
    generalize a0_21.eval = ρ at *
    go_simp
  refine fa0_21.step 33 (.pointer (some ⟨w.heap.size + 1, 2, none⟩)) rfl (lb_ hsz) ((wanted_at (t := 32) (c := false) (b := false) rfl rfl rfl (lb_ (fa0_21.size.trans hsz)) (fa0_21.at_ 32)).trans (by rfl)) r_a0_22 (fun a0_22 fa0_22 => ?_)
  clear r_a0_22
  clear fa0_21
  have r_a0_23 : (execOp a0_22.eval oYP14).run Try.prog (W1) = .ok (.value (.int .i64 op)) (W1) := by
    unfold oYP14
    have e33 := (show a0_22.eval (.tmp 33) = .pointer (some ⟨w.heap.size + 1, 2, none⟩) from (fa0_22.at_ 33))
    clear fa0_22 ha
    generalize a0_22.eval = ρ at *
    go_simp
  refine fa0_22.step 34 (.int .i64 op) rfl (lb_ hsz) ((wanted_at (t := 32) (c := false) (b := false) rfl rfl rfl (lb_ (fa0_22.size.trans hsz)) (fa0_22.at_ 32)).trans (by rfl)) r_a0_23 (fun a0_23 fa0_23 => ?_)
  clear r_a0_23
  clear fa0_22
  refine fa0_23.move 35 (.slice pa n c) _ (Or.inl rfl) rfl (lb_ hsz) ((wanted_at (t := 32) (c := false) (b := false) rfl rfl rfl (lb_ (fa0_23.size.trans hsz)) (fa0_23.at_ 32)).trans (by rfl)) ((fa0_23.at_ 2).trans (ha 2 _ rfl)) (fun a0_24 fa0_24 => ?_)
  clear fa0_23
  have r_a0_25 : (execOp a0_24.eval oYP15).run Try.prog (W1) = .ok (.value (.int .i64 (n : Int))) (W1) := by
    unfold oYP15
    have e35 := (show a0_24.eval (.tmp 35) = .slice pa n c from (fa0_24.at_ 35))
    clear fa0_24 ha
    generalize a0_24.eval = ρ at *
    go_simp
  refine fa0_24.step 36 (.int .i64 (n : Int)) rfl (lb_ hsz) ((wanted_at (t := 32) (c := false) (b := false) rfl rfl rfl (lb_ (fa0_24.size.trans hsz)) (fa0_24.at_ 32)).trans (by rfl)) r_a0_25 (fun a0_25 fa0_25 => ?_)
  clear r_a0_25
  clear fa0_24
  have r_a0_26 : (execOp a0_25.eval oYP16).run Try.prog (W1) = .ok (.value (.bool true)) (W1) := by
    unfold oYP16
    have e34 := (show a0_25.eval (.tmp 34) = .int .i64 op from (fa0_25.at_ 34))
    have e36 := (show a0_25.eval (.tmp 36) = .int .i64 (n : Int) from (fa0_25.at_ 36))
    clear fa0_25 ha
    generalize a0_25.eval = ρ at *
    go_simp
  refine fa0_25.step 37 (.bool true) rfl (lb_ hsz) ((wanted_at (t := 32) (c := false) (b := false) rfl rfl rfl (lb_ (fa0_25.size.trans hsz)) (fa0_25.at_ 32)).trans (by rfl)) r_a0_26 (fun a0_26 fa0_26 => ?_)
  clear r_a0_26
  clear fa0_25
  have r_a0_27 : (execOp a0_26.eval oYP17).run Try.prog (W1) = .ok (.value (.bool true)) (W1) := by
    unfold oYP17
    have kc : ∀ v, a0_26.eval (.const v) = v := fun _ => rfl
    have e32 := (show a0_26.eval (.tmp 32) = .bool false from (fa0_26.at_ 32))
    have e37 := (show a0_26.eval (.tmp 37) = .bool true from (fa0_26.at_ 37))
    clear fa0_26 ha
    generalize a0_26.eval = ρ at *
    go_simp
  refine fa0_26.step 38 (.bool true) rfl (lb_ hsz) (wanted_none rfl) r_a0_27 (fun a0_27 fa0_27 => ?_)
  clear r_a0_27
  clear fa0_26
  refine wpList_nil ?_
  change Code.wp _ _ _ _ _
  refine wp_cond_true (show a0_27.eval (.tmp 38) = .bool true from (fa0_27.at_ 38)) (wp_seq ?_)
  refine wp_region_list ?_
  unfold rDL2
  refine fa0_27.move 8 (.slice none 0 0) _ (Or.inr rfl) rfl (lb_ hsz) (wanted_none rfl) rfl (fun a0_28 fa0_28 => ?_)
  clear fa0_27
  refine fa0_28.move 9 (.int .i64 2) _ (Or.inr rfl) rfl (lb_ hsz) (wanted_none rfl) rfl (fun a0_29 fa0_29 => ?_)
  clear fa0_28
  refine wpList_nil ?_
  change Code.wp _ _ _ _ _
  refine wp_ret ?_
  try simp only [Exit.then]
  exact ret_abs2 rfl (fa0_29.defers.trans hd) (show a0_29.eval (.tmp 8) = .slice none 0 0 from (fa0_29.at_ 8)) (show a0_29.eval (.tmp 9) = .int .i64 2 from (fa0_29.at_ 9)) ⟨none, 0, rfl, own_nil, sV.trans s1⟩
set_option maxRecDepth 100000 in
set_option maxHeartbeats 1000000 in
theorem dlyf {p q : Int} {vr n c pb po lb lo0 ln llc pgs k : Nat} {pa la : Option Addr} {tr : Value} {M ML : List Bt} (w : World) (hmay : ∀ W, Calls Try.prog 28 #[.agg #[.int .i64 p, .int .i64 q]] W fun e w' => e = .returned (.bool true) ∧ Same W w') (hM : BiRow w pa pb po M) (hML : BiRow w la lb lo0 ML) (hn : n = M.length) (hln : ln = ML.length) (hwt : wt M + wt ML ≤ 1048576) (h1 : 1 ≤ vr) (h2 : vr ≤ 1099511627776) (hkn : k ≤ n) (hce : ¬ chkE p q pgs (ML ++ M.drop k) = 0) :
    Calls Try.prog 15 #[frameV p q, .int .u64 (vr : Int), .slice pa n c, .agg #[tr, .slice la ln llc, .int .i64 (k : Int), .int .u32 (pgs : Int)]] w fun e w' => ∃ lo lc, e = .returned (.tuple #[.slice lo ([] : List Pgx).length lc, .int .i64 2]) ∧ w'.ownsRow w.heap.size 52 4 (.slice lo ([] : List Pgx).length lc) ([] : List Pgx).length (pgCs vr []) ∧ Same w w' := by
  have e1 : decide ((vr : Int) < 1) = false := decide_eq_false (by omega)
  have e2 : decide ((1099511627776 : Int) < (vr : Int)) = false := decide_eq_false (by omega)
  have e3 : decide ((k : Int) < 0) = false := decide_eq_false (by omega)
  have e4 : decide ((n : Int) < (k : Int)) = false := decide_eq_false (by omega)
  have hk2 : (k : Int) = min (max (k : Int) 0) (n : Int) := by omega
  refine calls_abs (c := cDL) Try.func15 (by kernel_rfl) 89 rfl (by simp) (fun a0 hsz hd ha => ?_)
  have fa0_0 := Fe.refl a0
  unfold cDL
  refine wp_seq ?_
  refine wp_region_list ?_
  unfold rDL0
  have r_a0_1 : (execOp a0.eval oYP0).run Try.prog (w) = .ok (.value (.pointer (some ⟨w.heap.size, 0, none⟩))) (w.alloc (.cells #[.int .i64 p, .int .i64 q] 39)) := by
    unfold oYP0
    have e0 := (show a0.eval (.tmp 0) = .agg #[.int .i64 p, .int .i64 q] from ((fa0_0.at_ 0).trans (ha 0 _ rfl)))
    clear fa0_0 ha hk2 hn hln
    generalize a0.eval = ρ at *
    go_simp
  refine fa0_0.stepW 4 (.pointer (some ⟨w.heap.size, 0, none⟩)) rfl (lb_ hsz) (wanted_none rfl) r_a0_1 (fun a0_1 fa0_1 => ?_)
  clear r_a0_1
  clear fa0_0
  have r_a0_2 : (execOp a0_1.eval oYP1).run Try.prog (w.alloc (.cells #[.int .i64 p, .int .i64 q] 39)) = .ok (.value (.pointer (some ⟨w.heap.size + 1, 0, none⟩))) ((w.alloc (.cells #[.int .i64 p, .int .i64 q] 39)).alloc (.cells #[tr, .slice la ln llc, .int .i64 (k : Int), .int .u32 (pgs : Int)] 26)) := by
    unfold oYP1
    have e3 := (show a0_1.eval (.tmp 3) = .agg #[tr, .slice la ln llc, .int .i64 (k : Int), .int .u32 (pgs : Int)] from ((fa0_1.at_ 3).trans (ha 3 _ rfl)))
    clear fa0_1 ha hk2 hn hln
    generalize a0_1.eval = ρ at *
    go_simp
  refine fa0_1.stepW 7 (.pointer (some ⟨w.heap.size + 1, 0, none⟩)) rfl (lb_ hsz) (wanted_none rfl) r_a0_2 (fun a0_2 fa0_2 => ?_)
  clear r_a0_2
  clear fa0_1
  refine fa0_2.move 8 (.slice none 0 0) _ (Or.inr rfl) rfl (lb_ hsz) (wanted_none rfl) rfl (fun a0_3 fa0_3 => ?_)
  clear fa0_2
  refine fa0_3.move 9 (.int .i64 0) _ (Or.inr rfl) rfl (lb_ hsz) (wanted_none rfl) rfl (fun a0_4 fa0_4 => ?_)
  clear fa0_3
  refine wpList_nil ?_
  obtain ⟨V, hV⟩ : ∃ V, V = (w.alloc (.cells #[.int .i64 p, .int .i64 q] 39)).alloc (.cells #[tr, .slice la ln llc, .int .i64 (k : Int), .int .u32 (pgs : Int)] 26) := ⟨_, rfl⟩
  rw [← hV]
  have sV : Same w V := by rw [hV]; exact ((Fr.refl _ w).alloc _).alloc _
  have r0 : V.heap[w.heap.size]? = some (.cells #[.int .i64 p, .int .i64 q] 39 (0, 0)) := by rw [hV]; exact (((Fr.refl (fun _ => False) (w.alloc (.cells #[.int .i64 p, .int .i64 q] 39))).alloc _).block _ (by simp) (fun f => f)).trans (heap_alloc_new w _)
  have r1 : V.heap[w.heap.size + 1]? = some (.cells #[tr, .slice la ln llc, .int .i64 (k : Int), .int .u32 (pgs : Int)] 26 (0, 0)) := by
    rw [hV]
    have := heap_alloc_new (w.alloc (.cells #[.int .i64 p, .int .i64 q] 39)) (.cells #[tr, .slice la ln llc, .int .i64 (k : Int), .int .u32 (pgs : Int)] 26)
    simpa using this
  have c0 : V.cell? ⟨w.heap.size, 0, none⟩ = some (.int .i64 p) := (cell_of_row _ _ _ _ _ _ r0).trans rfl
  have c1 : V.cell? ⟨w.heap.size, 1, none⟩ = some (.int .i64 q) := (cell_of_row _ _ _ _ _ _ r0).trans rfl
  change Code.wp _ _ _ _ _
  refine wp_seq (wp_seq ?_)
  refine wp_region_list ?_
  unfold rDL1
  have r_a0_5 : (execOp a0_4.eval oYP2).run Try.prog (V) = .ok (.value (.agg #[.int .i64 p, .int .i64 q])) (V) := by
    unfold oYP2
    have e4 := (show a0_4.eval (.tmp 4) = .pointer (some ⟨w.heap.size, 0, none⟩) from (fa0_4.at_ 4))
    clear fa0_4 ha hk2 hn hln
    generalize a0_4.eval = ρ at *
    go_simp
  refine fa0_4.step 16 (.agg #[.int .i64 p, .int .i64 q]) rfl (lb_ hsz) (wanted_none rfl) r_a0_5 (fun a0_5 fa0_5 => ?_)
  clear r_a0_5
  clear fa0_4
  have r_a0_6 : (execOp a0_5.eval oYP3).run Try.prog (V) = .ok (.enter 28 #[.agg #[.int .i64 p, .int .i64 q]]) (V) := by
    unfold oYP3
    have kf : ∀ f, a0_5.eval (.func f) = .func (.func f) #[] #[] := fun _ => rfl
    have e16 := (show a0_5.eval (.tmp 16) = .agg #[.int .i64 p, .int .i64 q] from (fa0_5.at_ 16))
    clear fa0_5 ha hk2 hn hln
    generalize a0_5.eval = ρ at *
    go_simp
  refine fa0_5.call 17 rfl (lb_ hsz) (wanted_none rfl) r_a0_6 (hmay V) (fun e W1 hR => ?_)
  obtain ⟨rfl, s1⟩ := hR
  clear r_a0_6
  have r2 := (s1.block _ (lt_of_heap r1) (fun f => f)).trans r1
  have b0 : W1.cell? ⟨w.heap.size + 1, 0, none⟩ = some tr := (cell_of_row _ _ _ _ _ _ r2).trans rfl
  have b1 : W1.cell? ⟨w.heap.size + 1, 1, none⟩ = some (.slice la ln llc) := (cell_of_row _ _ _ _ _ _ r2).trans rfl
  have b2 : W1.cell? ⟨w.heap.size + 1, 2, none⟩ = some (.int .i64 (k : Int)) := (cell_of_row _ _ _ _ _ _ r2).trans rfl
  have b3 : W1.cell? ⟨w.heap.size + 1, 3, none⟩ = some (.int .u32 (pgs : Int)) := (cell_of_row _ _ _ _ _ _ r2).trans rfl
  refine ⟨_, rfl, fun a0_6 fa0_6 => ?_⟩
  clear fa0_5
  have r_a0_7 : (execOp a0_6.eval oYP4).run Try.prog (W1) = .ok (.value (.bool false)) (W1) := by
    unfold oYP4
    have e17 := (show a0_6.eval (.tmp 17) = .bool true from (fa0_6.at_ 17))
    clear fa0_6 ha hk2 hn hln
    generalize a0_6.eval = ρ at *
    go_simp
  refine fa0_6.step 18 (.bool false) rfl (lb_ hsz) (wanted_none rfl) r_a0_7 (fun a0_7 fa0_7 => ?_)
  clear r_a0_7
  clear fa0_6
  refine fa0_7.move 19 (.bool false) _ (Or.inl rfl) rfl (lb_ hsz) (wanted_none rfl) (fa0_7.at_ 18) (fun a0_8 fa0_8 => ?_)
  clear fa0_7
  refine fa0_8.move 20 (.int .u64 (vr : Int)) _ (Or.inl rfl) rfl (lb_ hsz) ((wanted_at (t := 19) (c := false) (b := false) rfl rfl rfl (lb_ (fa0_8.size.trans hsz)) (fa0_8.at_ 19)).trans (by rfl)) ((fa0_8.at_ 1).trans (ha 1 _ rfl)) (fun a0_9 fa0_9 => ?_)
  clear fa0_8
  have r_a0_10 : (execOp a0_9.eval oYP5).run Try.prog (W1) = .ok (.value (.bool false)) (W1) := by
    unfold oYP5
    have kc : ∀ v, a0_9.eval (.const v) = v := fun _ => rfl
    have e20 := (show a0_9.eval (.tmp 20) = .int .u64 (vr : Int) from (fa0_9.at_ 20))
    clear fa0_9 ha hk2 hn hln
    generalize a0_9.eval = ρ at *
    go_simp
  refine fa0_9.step 21 (.bool false) rfl (lb_ hsz) ((wanted_at (t := 19) (c := false) (b := false) rfl rfl rfl (lb_ (fa0_9.size.trans hsz)) (fa0_9.at_ 19)).trans (by rfl)) r_a0_10 (fun a0_10 fa0_10 => ?_)
  clear r_a0_10
  clear fa0_9
  have r_a0_11 : (execOp a0_10.eval oYP6).run Try.prog (W1) = .ok (.value (.bool false)) (W1) := by
    unfold oYP6
    have kc : ∀ v, a0_10.eval (.const v) = v := fun _ => rfl
    have e19 := (show a0_10.eval (.tmp 19) = .bool false from (fa0_10.at_ 19))
    have e21 := (show a0_10.eval (.tmp 21) = .bool false from (fa0_10.at_ 21))
    clear fa0_10 ha hk2 hn hln
    generalize a0_10.eval = ρ at *
    go_simp
  refine fa0_10.step 22 (.bool false) rfl (lb_ hsz) (wanted_none rfl) r_a0_11 (fun a0_11 fa0_11 => ?_)
  clear r_a0_11
  clear fa0_10
  refine fa0_11.move 23 (.bool false) _ (Or.inl rfl) rfl (lb_ hsz) (wanted_none rfl) (fa0_11.at_ 22) (fun a0_12 fa0_12 => ?_)
  clear fa0_11
  refine fa0_12.move 24 (.int .u64 (vr : Int)) _ (Or.inl rfl) rfl (lb_ hsz) ((wanted_at (t := 23) (c := false) (b := false) rfl rfl rfl (lb_ (fa0_12.size.trans hsz)) (fa0_12.at_ 23)).trans (by rfl)) ((fa0_12.at_ 1).trans (ha 1 _ rfl)) (fun a0_13 fa0_13 => ?_)
  clear fa0_12
  have r_a0_14 : (execOp a0_13.eval oYP7).run Try.prog (W1) = .ok (.value (.bool false)) (W1) := by
    unfold oYP7
    have kc : ∀ v, a0_13.eval (.const v) = v := fun _ => rfl
    have e24 := (show a0_13.eval (.tmp 24) = .int .u64 (vr : Int) from (fa0_13.at_ 24))
    clear fa0_13 ha hk2 hn hln
    generalize a0_13.eval = ρ at *
    go_simp
  refine fa0_13.step 25 (.bool false) rfl (lb_ hsz) ((wanted_at (t := 23) (c := false) (b := false) rfl rfl rfl (lb_ (fa0_13.size.trans hsz)) (fa0_13.at_ 23)).trans (by rfl)) r_a0_14 (fun a0_14 fa0_14 => ?_)
  clear r_a0_14
  clear fa0_13
  have r_a0_15 : (execOp a0_14.eval oYP8).run Try.prog (W1) = .ok (.value (.bool false)) (W1) := by
    unfold oYP8
    have kc : ∀ v, a0_14.eval (.const v) = v := fun _ => rfl
    have e23 := (show a0_14.eval (.tmp 23) = .bool false from (fa0_14.at_ 23))
    have e25 := (show a0_14.eval (.tmp 25) = .bool false from (fa0_14.at_ 25))
    clear fa0_14 ha hk2 hn hln
    generalize a0_14.eval = ρ at *
    go_simp
  refine fa0_14.step 26 (.bool false) rfl (lb_ hsz) (wanted_none rfl) r_a0_15 (fun a0_15 fa0_15 => ?_)
  clear r_a0_15
  clear fa0_14
  refine fa0_15.move 27 (.bool false) _ (Or.inl rfl) rfl (lb_ hsz) (wanted_none rfl) (fa0_15.at_ 26) (fun a0_16 fa0_16 => ?_)
  clear fa0_15
  have r_a0_17 : (execOp a0_16.eval oYP9).run Try.prog (W1) = .ok (.value (.pointer (some ⟨w.heap.size + 1, 2, none⟩))) (W1) := by
    unfold oYP9
    have e7 := (show a0_16.eval (.tmp 7) = .pointer (some ⟨w.heap.size + 1, 0, none⟩) from (fa0_16.at_ 7))
    clear fa0_16 ha hk2 hn hln
    generalize a0_16.eval = ρ at *
    go_simp
  refine fa0_16.step 28 (.pointer (some ⟨w.heap.size + 1, 2, none⟩)) rfl (lb_ hsz) ((wanted_at (t := 27) (c := false) (b := false) rfl rfl rfl (lb_ (fa0_16.size.trans hsz)) (fa0_16.at_ 27)).trans (by rfl)) r_a0_17 (fun a0_17 fa0_17 => ?_)
  clear r_a0_17
  clear fa0_16
  have r_a0_18 : (execOp a0_17.eval oYP10).run Try.prog (W1) = .ok (.value (.int .i64 (k : Int))) (W1) := by
    unfold oYP10
    have e28 := (show a0_17.eval (.tmp 28) = .pointer (some ⟨w.heap.size + 1, 2, none⟩) from (fa0_17.at_ 28))
    clear fa0_17 ha hk2 hn hln
    generalize a0_17.eval = ρ at *
    go_simp
  refine fa0_17.step 29 (.int .i64 (k : Int)) rfl (lb_ hsz) ((wanted_at (t := 27) (c := false) (b := false) rfl rfl rfl (lb_ (fa0_17.size.trans hsz)) (fa0_17.at_ 27)).trans (by rfl)) r_a0_18 (fun a0_18 fa0_18 => ?_)
  clear r_a0_18
  clear fa0_17
  have r_a0_19 : (execOp a0_18.eval oYP11).run Try.prog (W1) = .ok (.value (.bool false)) (W1) := by
    unfold oYP11
    have kc : ∀ v, a0_18.eval (.const v) = v := fun _ => rfl
    have e29 := (show a0_18.eval (.tmp 29) = .int .i64 (k : Int) from (fa0_18.at_ 29))
    clear fa0_18 ha hk2 hn hln
    generalize a0_18.eval = ρ at *
    go_simp
  refine fa0_18.step 30 (.bool false) rfl (lb_ hsz) ((wanted_at (t := 27) (c := false) (b := false) rfl rfl rfl (lb_ (fa0_18.size.trans hsz)) (fa0_18.at_ 27)).trans (by rfl)) r_a0_19 (fun a0_19 fa0_19 => ?_)
  clear r_a0_19
  clear fa0_18
  have r_a0_20 : (execOp a0_19.eval oYP12).run Try.prog (W1) = .ok (.value (.bool false)) (W1) := by
    unfold oYP12
    have kc : ∀ v, a0_19.eval (.const v) = v := fun _ => rfl
    have e27 := (show a0_19.eval (.tmp 27) = .bool false from (fa0_19.at_ 27))
    have e30 := (show a0_19.eval (.tmp 30) = .bool false from (fa0_19.at_ 30))
    clear fa0_19 ha hk2 hn hln
    generalize a0_19.eval = ρ at *
    go_simp
  refine fa0_19.step 31 (.bool false) rfl (lb_ hsz) (wanted_none rfl) r_a0_20 (fun a0_20 fa0_20 => ?_)
  clear r_a0_20
  clear fa0_19
  refine fa0_20.move 32 (.bool false) _ (Or.inl rfl) rfl (lb_ hsz) (wanted_none rfl) (fa0_20.at_ 31) (fun a0_21 fa0_21 => ?_)
  clear fa0_20
  have r_a0_22 : (execOp a0_21.eval oYP13).run Try.prog (W1) = .ok (.value (.pointer (some ⟨w.heap.size + 1, 2, none⟩))) (W1) := by
    unfold oYP13
    have e7 := (show a0_21.eval (.tmp 7) = .pointer (some ⟨w.heap.size + 1, 0, none⟩) from (fa0_21.at_ 7))
    clear fa0_21 ha hk2 hn hln
    generalize a0_21.eval = ρ at *
    go_simp
  refine fa0_21.step 33 (.pointer (some ⟨w.heap.size + 1, 2, none⟩)) rfl (lb_ hsz) ((wanted_at (t := 32) (c := false) (b := false) rfl rfl rfl (lb_ (fa0_21.size.trans hsz)) (fa0_21.at_ 32)).trans (by rfl)) r_a0_22 (fun a0_22 fa0_22 => ?_)
  clear r_a0_22
  clear fa0_21
  have r_a0_23 : (execOp a0_22.eval oYP14).run Try.prog (W1) = .ok (.value (.int .i64 (k : Int))) (W1) := by
    unfold oYP14
    have e33 := (show a0_22.eval (.tmp 33) = .pointer (some ⟨w.heap.size + 1, 2, none⟩) from (fa0_22.at_ 33))
    clear fa0_22 ha hk2 hn hln
    generalize a0_22.eval = ρ at *
    go_simp
  refine fa0_22.step 34 (.int .i64 (k : Int)) rfl (lb_ hsz) ((wanted_at (t := 32) (c := false) (b := false) rfl rfl rfl (lb_ (fa0_22.size.trans hsz)) (fa0_22.at_ 32)).trans (by rfl)) r_a0_23 (fun a0_23 fa0_23 => ?_)
  clear r_a0_23
  clear fa0_22
  refine fa0_23.move 35 (.slice pa n c) _ (Or.inl rfl) rfl (lb_ hsz) ((wanted_at (t := 32) (c := false) (b := false) rfl rfl rfl (lb_ (fa0_23.size.trans hsz)) (fa0_23.at_ 32)).trans (by rfl)) ((fa0_23.at_ 2).trans (ha 2 _ rfl)) (fun a0_24 fa0_24 => ?_)
  clear fa0_23
  have r_a0_25 : (execOp a0_24.eval oYP15).run Try.prog (W1) = .ok (.value (.int .i64 (n : Int))) (W1) := by
    unfold oYP15
    have e35 := (show a0_24.eval (.tmp 35) = .slice pa n c from (fa0_24.at_ 35))
    clear fa0_24 ha hk2 hn hln
    generalize a0_24.eval = ρ at *
    go_simp
  refine fa0_24.step 36 (.int .i64 (n : Int)) rfl (lb_ hsz) ((wanted_at (t := 32) (c := false) (b := false) rfl rfl rfl (lb_ (fa0_24.size.trans hsz)) (fa0_24.at_ 32)).trans (by rfl)) r_a0_25 (fun a0_25 fa0_25 => ?_)
  clear r_a0_25
  clear fa0_24
  have r_a0_26 : (execOp a0_25.eval oYP16).run Try.prog (W1) = .ok (.value (.bool false)) (W1) := by
    unfold oYP16
    have e34 := (show a0_25.eval (.tmp 34) = .int .i64 (k : Int) from (fa0_25.at_ 34))
    have e36 := (show a0_25.eval (.tmp 36) = .int .i64 (n : Int) from (fa0_25.at_ 36))
    clear fa0_25 ha hk2 hn hln
    generalize a0_25.eval = ρ at *
    go_simp
  refine fa0_25.step 37 (.bool false) rfl (lb_ hsz) ((wanted_at (t := 32) (c := false) (b := false) rfl rfl rfl (lb_ (fa0_25.size.trans hsz)) (fa0_25.at_ 32)).trans (by rfl)) r_a0_26 (fun a0_26 fa0_26 => ?_)
  clear r_a0_26
  clear fa0_25
  have r_a0_27 : (execOp a0_26.eval oYP17).run Try.prog (W1) = .ok (.value (.bool false)) (W1) := by
    unfold oYP17
    have kc : ∀ v, a0_26.eval (.const v) = v := fun _ => rfl
    have e32 := (show a0_26.eval (.tmp 32) = .bool false from (fa0_26.at_ 32))
    have e37 := (show a0_26.eval (.tmp 37) = .bool false from (fa0_26.at_ 37))
    clear fa0_26 ha hk2 hn hln
    generalize a0_26.eval = ρ at *
    go_simp
  refine fa0_26.step 38 (.bool false) rfl (lb_ hsz) (wanted_none rfl) r_a0_27 (fun a0_27 fa0_27 => ?_)
  clear r_a0_27
  clear fa0_26
  refine wpList_nil ?_
  change Code.wp _ _ _ _ _
  refine wp_cond_false (show a0_27.eval (.tmp 38) = .bool false from (fa0_27.at_ 38)) (wp_skip ?_)
  change Code.wp _ _ _ _ _
  refine wp_seq ?_
  refine wp_region_list ?_
  unfold rDL3
  refine fa0_27.move 39 (.slice pa n c) _ (Or.inl rfl) rfl (lb_ hsz) (wanted_none rfl) ((fa0_27.at_ 2).trans (ha 2 _ rfl)) (fun a0_28 fa0_28 => ?_)
  clear fa0_27
  have r_a0_29 : (execOp a0_28.eval oYP18).run Try.prog (W1) = .ok (.value (.agg #[tr, .slice la ln llc, .int .i64 (k : Int), .int .u32 (pgs : Int)])) (W1) := by
    unfold oYP18
    have e7 := (show a0_28.eval (.tmp 7) = .pointer (some ⟨w.heap.size + 1, 0, none⟩) from (fa0_28.at_ 7))
    clear fa0_28 ha hk2 hn hln
    generalize a0_28.eval = ρ at *
    go_simp
  refine fa0_28.step 40 (.agg #[tr, .slice la ln llc, .int .i64 (k : Int), .int .u32 (pgs : Int)]) rfl (lb_ hsz) (wanted_none rfl) r_a0_29 (fun a0_29 fa0_29 => ?_)
  clear r_a0_29
  clear fa0_28
  have r_a0_30 : (execOp a0_29.eval oYP19).run Try.prog (W1) = .ok (.enter 5 #[.slice pa n c, .agg #[tr, .slice la ln llc, .int .i64 (k : Int), .int .u32 (pgs : Int)]]) (W1) := by
    unfold oYP19
    have kf : ∀ f, a0_29.eval (.func f) = .func (.func f) #[] #[] := fun _ => rfl
    have e39 := (show a0_29.eval (.tmp 39) = .slice pa n c from (fa0_29.at_ 39))
    have e40 := (show a0_29.eval (.tmp 40) = .agg #[tr, .slice la ln llc, .int .i64 (k : Int), .int .u32 (pgs : Int)] from (fa0_29.at_ 40))
    clear fa0_29 ha hk2 hn hln
    generalize a0_29.eval = ρ at *
    go_simp
  refine fa0_29.call 41 rfl (lb_ hsz) (wanted_none rfl) r_a0_30 (dafter_calls W1 (hM.same (sV.trans s1)) (hML.same (sV.trans s1)) hn hln hk2 hwt) (fun e W2 hR => ?_)
  obtain ⟨ao, cc, N, rfl, af, hkey, s2⟩ := hR
  clear r_a0_30
  refine ⟨_, rfl, fun a0_30 fa0_30 => ?_⟩
  clear fa0_29
  refine fa0_30.move 10 (.slice ao N.length cc) _ (Or.inr rfl) rfl (lb_ hsz) (wanted_none rfl) (fa0_30.at_ 41) (fun a0_31 fa0_31 => ?_)
  clear fa0_30
  refine wpList_nil ?_
  have s12 := s1.trans s2
  have e0 := s12.keep c0
  have e1 := s12.keep c1
  have g1 := s2.keep b1
  have g3 := s2.keep b3
  obtain ⟨gn, hbv⟩ := row_bv af.row af.new_ hkey (fun x hx => (List.mem_append.1 hx).elim (fun h => bv_mem hML.row h) (fun h => bv_mem hM.row (List.mem_of_mem_drop h)))
  have hwN : wt N ≤ 2000000 := by rw [wt_key _ _ hkey, wt_app]; have := wt_drop M k; omega
  have hcN : dchkE p q pgs N = chkE p q pgs (ML ++ M.drop k) := by rw [← chk_both]; exact chkE_key hkey
  change Code.wp _ _ _ _ _
  refine wp_seq (wp_seq ?_)
  refine wp_region_list ?_
  unfold rDL4
  have r_a0_32 : (execOp a0_31.eval oYP20).run Try.prog (W2) = .ok (.value (.agg #[.int .i64 p, .int .i64 q])) (W2) := by
    unfold oYP20
    have e4 := (show a0_31.eval (.tmp 4) = .pointer (some ⟨w.heap.size, 0, none⟩) from (fa0_31.at_ 4))
    clear fa0_31 ha hk2 hn hln hkey hcN
    generalize a0_31.eval = ρ at *
    go_simp
  refine fa0_31.step 42 (.agg #[.int .i64 p, .int .i64 q]) rfl (lb_ hsz) (wanted_none rfl) r_a0_32 (fun a0_32 fa0_32 => ?_)
  clear r_a0_32
  clear fa0_31
  refine fa0_32.move 43 (.slice ao N.length cc) _ (Or.inl rfl) rfl (lb_ hsz) (wanted_none rfl) (fa0_32.at_ 10) (fun a0_33 fa0_33 => ?_)
  clear fa0_32
  have r_a0_34 : (execOp a0_33.eval oYP21).run Try.prog (W2) = .ok (.value (.pointer (some ⟨w.heap.size + 1, 3, none⟩))) (W2) := by
    unfold oYP21
    have e7 := (show a0_33.eval (.tmp 7) = .pointer (some ⟨w.heap.size + 1, 0, none⟩) from (fa0_33.at_ 7))
    clear fa0_33 ha hk2 hn hln hkey hcN
    generalize a0_33.eval = ρ at *
    go_simp
  refine fa0_33.step 44 (.pointer (some ⟨w.heap.size + 1, 3, none⟩)) rfl (lb_ hsz) (wanted_none rfl) r_a0_34 (fun a0_34 fa0_34 => ?_)
  clear r_a0_34
  clear fa0_33
  have r_a0_35 : (execOp a0_34.eval oYP22).run Try.prog (W2) = .ok (.value (.int .u32 (pgs : Int))) (W2) := by
    unfold oYP22
    have e44 := (show a0_34.eval (.tmp 44) = .pointer (some ⟨w.heap.size + 1, 3, none⟩) from (fa0_34.at_ 44))
    clear fa0_34 ha hk2 hn hln hkey hcN
    generalize a0_34.eval = ρ at *
    go_simp
  refine fa0_34.step 45 (.int .u32 (pgs : Int)) rfl (lb_ hsz) (wanted_none rfl) r_a0_35 (fun a0_35 fa0_35 => ?_)
  clear r_a0_35
  clear fa0_34
  have r_a0_36 : (execOp a0_35.eval oYP23).run Try.prog (W2) = .ok (.enter 29 #[.agg #[.int .i64 p, .int .i64 q], .slice ao N.length cc, .int .u32 (pgs : Int)]) (W2) := by
    unfold oYP23
    have kf : ∀ f, a0_35.eval (.func f) = .func (.func f) #[] #[] := fun _ => rfl
    have e42 := (show a0_35.eval (.tmp 42) = .agg #[.int .i64 p, .int .i64 q] from (fa0_35.at_ 42))
    have e43 := (show a0_35.eval (.tmp 43) = .slice ao N.length cc from (fa0_35.at_ 43))
    have e45 := (show a0_35.eval (.tmp 45) = .int .u32 (pgs : Int) from (fa0_35.at_ 45))
    clear fa0_35 ha hk2 hn hln hkey hcN
    generalize a0_35.eval = ρ at *
    go_simp
  refine fa0_35.call 46 rfl (lb_ hsz) (wanted_none rfl) r_a0_36 (dcheck9_calls W2 hbv rfl hwN) (fun e W3 hR => ?_)
  obtain ⟨rfl, s3⟩ := hR
  clear r_a0_36
  have hce0 : ¬ dchkE p q pgs N = 0 := by rw [hcN]; exact hce
  have hce1 : decide (dchkE p q pgs N = 0) = false := decide_eq_false hce0
  refine ⟨_, rfl, fun a0_36 fa0_36 => ?_⟩
  clear fa0_35
  have r_a0_37 : (execOp a0_36.eval oYP24).run Try.prog (W3) = .ok (.value (.bool true)) (W3) := by
    unfold oYP24
    have kc : ∀ v, a0_36.eval (.const v) = v := fun _ => rfl
    have e46 := (show a0_36.eval (.tmp 46) = .int .i64 (dchkE p q pgs N) from (fa0_36.at_ 46))
    clear fa0_36 ha hk2 hn hln hkey hcN
    generalize a0_36.eval = ρ at *
    go_simp
  refine fa0_36.step 47 (.bool true) rfl (lb_ hsz) (wanted_none rfl) r_a0_37 (fun a0_37 fa0_37 => ?_)
  clear r_a0_37
  clear fa0_36
  refine wpList_nil ?_
  change Code.wp _ _ _ _ _
  refine wp_cond_true (show a0_37.eval (.tmp 47) = .bool true from (fa0_37.at_ 47)) (wp_seq ?_)
  refine wp_region_list ?_
  unfold rDL5
  refine fa0_37.move 8 (.slice none 0 0) _ (Or.inr rfl) rfl (lb_ hsz) (wanted_none rfl) rfl (fun a0_38 fa0_38 => ?_)
  clear fa0_37
  refine fa0_38.move 9 (.int .i64 2) _ (Or.inr rfl) rfl (lb_ hsz) (wanted_none rfl) rfl (fun a0_39 fa0_39 => ?_)
  clear fa0_38
  refine wpList_nil ?_
  change Code.wp _ _ _ _ _
  refine wp_ret ?_
  try simp only [Exit.then]
  exact ret_abs2 rfl (fa0_39.defers.trans hd) (show a0_39.eval (.tmp 8) = .slice none 0 0 from (fa0_39.at_ 8)) (show a0_39.eval (.tmp 9) = .int .i64 2 from (fa0_39.at_ 9)) ⟨none, 0, rfl, own_nil, (sV.trans s12).trans s3⟩
set_option maxRecDepth 100000 in
set_option maxHeartbeats 1000000 in
theorem dlyg {p q : Int} {vr n c pb po lb lo0 ln llc pgs k : Nat} {pa la : Option Addr} {tr : Value} {M ML : List Bt} (w : World) (hmay : ∀ W, Calls Try.prog 28 #[.agg #[.int .i64 p, .int .i64 q]] W fun e w' => e = .returned (.bool true) ∧ Same W w') (hM : BiRow w pa pb po M) (hML : BiRow w la lb lo0 ML) (hn : n = M.length) (hln : ln = ML.length) (hwt : wt M + wt ML ≤ 1048576) (h1 : 1 ≤ vr) (h2 : vr ≤ 1099511627776) (hkn : k ≤ n) (hce : chkE p q pgs (ML ++ M.drop k) = 0) :
    Calls Try.prog 15 #[frameV p q, .int .u64 (vr : Int), .slice pa n c, .agg #[tr, .slice la ln llc, .int .i64 (k : Int), .int .u32 (pgs : Int)]] w fun e w' => ∃ lo lc, e = .returned (.tuple #[.slice lo (laidP p q (ML ++ M.drop k) ln).length lc, .int .i64 0]) ∧ w'.ownsRow w.heap.size 52 4 (.slice lo (laidP p q (ML ++ M.drop k) ln).length lc) (laidP p q (ML ++ M.drop k) ln).length (pgCs vr (laidP p q (ML ++ M.drop k) ln)) ∧ Same w w' := by
  have e1 : decide ((vr : Int) < 1) = false := decide_eq_false (by omega)
  have e2 : decide ((1099511627776 : Int) < (vr : Int)) = false := decide_eq_false (by omega)
  have e3 : decide ((k : Int) < 0) = false := decide_eq_false (by omega)
  have e4 : decide ((n : Int) < (k : Int)) = false := decide_eq_false (by omega)
  have hk2 : (k : Int) = min (max (k : Int) 0) (n : Int) := by omega
  refine calls_abs (c := cDL) Try.func15 (by kernel_rfl) 89 rfl (by simp) (fun a0 hsz hd ha => ?_)
  have fa0_0 := Fe.refl a0
  unfold cDL
  refine wp_seq ?_
  refine wp_region_list ?_
  unfold rDL0
  have r_a0_1 : (execOp a0.eval oYP0).run Try.prog (w) = .ok (.value (.pointer (some ⟨w.heap.size, 0, none⟩))) (w.alloc (.cells #[.int .i64 p, .int .i64 q] 39)) := by
    unfold oYP0
    have e0 := (show a0.eval (.tmp 0) = .agg #[.int .i64 p, .int .i64 q] from ((fa0_0.at_ 0).trans (ha 0 _ rfl)))
    clear fa0_0 ha hk2 hn hln
    generalize a0.eval = ρ at *
    go_simp
  refine fa0_0.stepW 4 (.pointer (some ⟨w.heap.size, 0, none⟩)) rfl (lb_ hsz) (wanted_none rfl) r_a0_1 (fun a0_1 fa0_1 => ?_)
  clear r_a0_1
  clear fa0_0
  have r_a0_2 : (execOp a0_1.eval oYP1).run Try.prog (w.alloc (.cells #[.int .i64 p, .int .i64 q] 39)) = .ok (.value (.pointer (some ⟨w.heap.size + 1, 0, none⟩))) ((w.alloc (.cells #[.int .i64 p, .int .i64 q] 39)).alloc (.cells #[tr, .slice la ln llc, .int .i64 (k : Int), .int .u32 (pgs : Int)] 26)) := by
    unfold oYP1
    have e3 := (show a0_1.eval (.tmp 3) = .agg #[tr, .slice la ln llc, .int .i64 (k : Int), .int .u32 (pgs : Int)] from ((fa0_1.at_ 3).trans (ha 3 _ rfl)))
    clear fa0_1 ha hk2 hn hln
    generalize a0_1.eval = ρ at *
    go_simp
  refine fa0_1.stepW 7 (.pointer (some ⟨w.heap.size + 1, 0, none⟩)) rfl (lb_ hsz) (wanted_none rfl) r_a0_2 (fun a0_2 fa0_2 => ?_)
  clear r_a0_2
  clear fa0_1
  refine fa0_2.move 8 (.slice none 0 0) _ (Or.inr rfl) rfl (lb_ hsz) (wanted_none rfl) rfl (fun a0_3 fa0_3 => ?_)
  clear fa0_2
  refine fa0_3.move 9 (.int .i64 0) _ (Or.inr rfl) rfl (lb_ hsz) (wanted_none rfl) rfl (fun a0_4 fa0_4 => ?_)
  clear fa0_3
  refine wpList_nil ?_
  obtain ⟨V, hV⟩ : ∃ V, V = (w.alloc (.cells #[.int .i64 p, .int .i64 q] 39)).alloc (.cells #[tr, .slice la ln llc, .int .i64 (k : Int), .int .u32 (pgs : Int)] 26) := ⟨_, rfl⟩
  rw [← hV]
  have sV : Same w V := by rw [hV]; exact ((Fr.refl _ w).alloc _).alloc _
  have r0 : V.heap[w.heap.size]? = some (.cells #[.int .i64 p, .int .i64 q] 39 (0, 0)) := by rw [hV]; exact (((Fr.refl (fun _ => False) (w.alloc (.cells #[.int .i64 p, .int .i64 q] 39))).alloc _).block _ (by simp) (fun f => f)).trans (heap_alloc_new w _)
  have r1 : V.heap[w.heap.size + 1]? = some (.cells #[tr, .slice la ln llc, .int .i64 (k : Int), .int .u32 (pgs : Int)] 26 (0, 0)) := by
    rw [hV]
    have := heap_alloc_new (w.alloc (.cells #[.int .i64 p, .int .i64 q] 39)) (.cells #[tr, .slice la ln llc, .int .i64 (k : Int), .int .u32 (pgs : Int)] 26)
    simpa using this
  have c0 : V.cell? ⟨w.heap.size, 0, none⟩ = some (.int .i64 p) := (cell_of_row _ _ _ _ _ _ r0).trans rfl
  have c1 : V.cell? ⟨w.heap.size, 1, none⟩ = some (.int .i64 q) := (cell_of_row _ _ _ _ _ _ r0).trans rfl
  change Code.wp _ _ _ _ _
  refine wp_seq (wp_seq ?_)
  refine wp_region_list ?_
  unfold rDL1
  have r_a0_5 : (execOp a0_4.eval oYP2).run Try.prog (V) = .ok (.value (.agg #[.int .i64 p, .int .i64 q])) (V) := by
    unfold oYP2
    have e4 := (show a0_4.eval (.tmp 4) = .pointer (some ⟨w.heap.size, 0, none⟩) from (fa0_4.at_ 4))
    clear fa0_4 ha hk2 hn hln
    generalize a0_4.eval = ρ at *
    go_simp
  refine fa0_4.step 16 (.agg #[.int .i64 p, .int .i64 q]) rfl (lb_ hsz) (wanted_none rfl) r_a0_5 (fun a0_5 fa0_5 => ?_)
  clear r_a0_5
  clear fa0_4
  have r_a0_6 : (execOp a0_5.eval oYP3).run Try.prog (V) = .ok (.enter 28 #[.agg #[.int .i64 p, .int .i64 q]]) (V) := by
    unfold oYP3
    have kf : ∀ f, a0_5.eval (.func f) = .func (.func f) #[] #[] := fun _ => rfl
    have e16 := (show a0_5.eval (.tmp 16) = .agg #[.int .i64 p, .int .i64 q] from (fa0_5.at_ 16))
    clear fa0_5 ha hk2 hn hln
    generalize a0_5.eval = ρ at *
    go_simp
  refine fa0_5.call 17 rfl (lb_ hsz) (wanted_none rfl) r_a0_6 (hmay V) (fun e W1 hR => ?_)
  obtain ⟨rfl, s1⟩ := hR
  clear r_a0_6
  have r2 := (s1.block _ (lt_of_heap r1) (fun f => f)).trans r1
  have b0 : W1.cell? ⟨w.heap.size + 1, 0, none⟩ = some tr := (cell_of_row _ _ _ _ _ _ r2).trans rfl
  have b1 : W1.cell? ⟨w.heap.size + 1, 1, none⟩ = some (.slice la ln llc) := (cell_of_row _ _ _ _ _ _ r2).trans rfl
  have b2 : W1.cell? ⟨w.heap.size + 1, 2, none⟩ = some (.int .i64 (k : Int)) := (cell_of_row _ _ _ _ _ _ r2).trans rfl
  have b3 : W1.cell? ⟨w.heap.size + 1, 3, none⟩ = some (.int .u32 (pgs : Int)) := (cell_of_row _ _ _ _ _ _ r2).trans rfl
  refine ⟨_, rfl, fun a0_6 fa0_6 => ?_⟩
  clear fa0_5
  have r_a0_7 : (execOp a0_6.eval oYP4).run Try.prog (W1) = .ok (.value (.bool false)) (W1) := by
    unfold oYP4
    have e17 := (show a0_6.eval (.tmp 17) = .bool true from (fa0_6.at_ 17))
    clear fa0_6 ha hk2 hn hln
    generalize a0_6.eval = ρ at *
    go_simp
  refine fa0_6.step 18 (.bool false) rfl (lb_ hsz) (wanted_none rfl) r_a0_7 (fun a0_7 fa0_7 => ?_)
  clear r_a0_7
  clear fa0_6
  refine fa0_7.move 19 (.bool false) _ (Or.inl rfl) rfl (lb_ hsz) (wanted_none rfl) (fa0_7.at_ 18) (fun a0_8 fa0_8 => ?_)
  clear fa0_7
  refine fa0_8.move 20 (.int .u64 (vr : Int)) _ (Or.inl rfl) rfl (lb_ hsz) ((wanted_at (t := 19) (c := false) (b := false) rfl rfl rfl (lb_ (fa0_8.size.trans hsz)) (fa0_8.at_ 19)).trans (by rfl)) ((fa0_8.at_ 1).trans (ha 1 _ rfl)) (fun a0_9 fa0_9 => ?_)
  clear fa0_8
  have r_a0_10 : (execOp a0_9.eval oYP5).run Try.prog (W1) = .ok (.value (.bool false)) (W1) := by
    unfold oYP5
    have kc : ∀ v, a0_9.eval (.const v) = v := fun _ => rfl
    have e20 := (show a0_9.eval (.tmp 20) = .int .u64 (vr : Int) from (fa0_9.at_ 20))
    clear fa0_9 ha hk2 hn hln
    generalize a0_9.eval = ρ at *
    go_simp
  refine fa0_9.step 21 (.bool false) rfl (lb_ hsz) ((wanted_at (t := 19) (c := false) (b := false) rfl rfl rfl (lb_ (fa0_9.size.trans hsz)) (fa0_9.at_ 19)).trans (by rfl)) r_a0_10 (fun a0_10 fa0_10 => ?_)
  clear r_a0_10
  clear fa0_9
  have r_a0_11 : (execOp a0_10.eval oYP6).run Try.prog (W1) = .ok (.value (.bool false)) (W1) := by
    unfold oYP6
    have kc : ∀ v, a0_10.eval (.const v) = v := fun _ => rfl
    have e19 := (show a0_10.eval (.tmp 19) = .bool false from (fa0_10.at_ 19))
    have e21 := (show a0_10.eval (.tmp 21) = .bool false from (fa0_10.at_ 21))
    clear fa0_10 ha hk2 hn hln
    generalize a0_10.eval = ρ at *
    go_simp
  refine fa0_10.step 22 (.bool false) rfl (lb_ hsz) (wanted_none rfl) r_a0_11 (fun a0_11 fa0_11 => ?_)
  clear r_a0_11
  clear fa0_10
  refine fa0_11.move 23 (.bool false) _ (Or.inl rfl) rfl (lb_ hsz) (wanted_none rfl) (fa0_11.at_ 22) (fun a0_12 fa0_12 => ?_)
  clear fa0_11
  refine fa0_12.move 24 (.int .u64 (vr : Int)) _ (Or.inl rfl) rfl (lb_ hsz) ((wanted_at (t := 23) (c := false) (b := false) rfl rfl rfl (lb_ (fa0_12.size.trans hsz)) (fa0_12.at_ 23)).trans (by rfl)) ((fa0_12.at_ 1).trans (ha 1 _ rfl)) (fun a0_13 fa0_13 => ?_)
  clear fa0_12
  have r_a0_14 : (execOp a0_13.eval oYP7).run Try.prog (W1) = .ok (.value (.bool false)) (W1) := by
    unfold oYP7
    have kc : ∀ v, a0_13.eval (.const v) = v := fun _ => rfl
    have e24 := (show a0_13.eval (.tmp 24) = .int .u64 (vr : Int) from (fa0_13.at_ 24))
    clear fa0_13 ha hk2 hn hln
    generalize a0_13.eval = ρ at *
    go_simp
  refine fa0_13.step 25 (.bool false) rfl (lb_ hsz) ((wanted_at (t := 23) (c := false) (b := false) rfl rfl rfl (lb_ (fa0_13.size.trans hsz)) (fa0_13.at_ 23)).trans (by rfl)) r_a0_14 (fun a0_14 fa0_14 => ?_)
  clear r_a0_14
  clear fa0_13
  have r_a0_15 : (execOp a0_14.eval oYP8).run Try.prog (W1) = .ok (.value (.bool false)) (W1) := by
    unfold oYP8
    have kc : ∀ v, a0_14.eval (.const v) = v := fun _ => rfl
    have e23 := (show a0_14.eval (.tmp 23) = .bool false from (fa0_14.at_ 23))
    have e25 := (show a0_14.eval (.tmp 25) = .bool false from (fa0_14.at_ 25))
    clear fa0_14 ha hk2 hn hln
    generalize a0_14.eval = ρ at *
    go_simp
  refine fa0_14.step 26 (.bool false) rfl (lb_ hsz) (wanted_none rfl) r_a0_15 (fun a0_15 fa0_15 => ?_)
  clear r_a0_15
  clear fa0_14
  refine fa0_15.move 27 (.bool false) _ (Or.inl rfl) rfl (lb_ hsz) (wanted_none rfl) (fa0_15.at_ 26) (fun a0_16 fa0_16 => ?_)
  clear fa0_15
  have r_a0_17 : (execOp a0_16.eval oYP9).run Try.prog (W1) = .ok (.value (.pointer (some ⟨w.heap.size + 1, 2, none⟩))) (W1) := by
    unfold oYP9
    have e7 := (show a0_16.eval (.tmp 7) = .pointer (some ⟨w.heap.size + 1, 0, none⟩) from (fa0_16.at_ 7))
    clear fa0_16 ha hk2 hn hln
    generalize a0_16.eval = ρ at *
    go_simp
  refine fa0_16.step 28 (.pointer (some ⟨w.heap.size + 1, 2, none⟩)) rfl (lb_ hsz) ((wanted_at (t := 27) (c := false) (b := false) rfl rfl rfl (lb_ (fa0_16.size.trans hsz)) (fa0_16.at_ 27)).trans (by rfl)) r_a0_17 (fun a0_17 fa0_17 => ?_)
  clear r_a0_17
  clear fa0_16
  have r_a0_18 : (execOp a0_17.eval oYP10).run Try.prog (W1) = .ok (.value (.int .i64 (k : Int))) (W1) := by
    unfold oYP10
    have e28 := (show a0_17.eval (.tmp 28) = .pointer (some ⟨w.heap.size + 1, 2, none⟩) from (fa0_17.at_ 28))
    clear fa0_17 ha hk2 hn hln
    generalize a0_17.eval = ρ at *
    go_simp
  refine fa0_17.step 29 (.int .i64 (k : Int)) rfl (lb_ hsz) ((wanted_at (t := 27) (c := false) (b := false) rfl rfl rfl (lb_ (fa0_17.size.trans hsz)) (fa0_17.at_ 27)).trans (by rfl)) r_a0_18 (fun a0_18 fa0_18 => ?_)
  clear r_a0_18
  clear fa0_17
  have r_a0_19 : (execOp a0_18.eval oYP11).run Try.prog (W1) = .ok (.value (.bool false)) (W1) := by
    unfold oYP11
    have kc : ∀ v, a0_18.eval (.const v) = v := fun _ => rfl
    have e29 := (show a0_18.eval (.tmp 29) = .int .i64 (k : Int) from (fa0_18.at_ 29))
    clear fa0_18 ha hk2 hn hln
    generalize a0_18.eval = ρ at *
    go_simp
  refine fa0_18.step 30 (.bool false) rfl (lb_ hsz) ((wanted_at (t := 27) (c := false) (b := false) rfl rfl rfl (lb_ (fa0_18.size.trans hsz)) (fa0_18.at_ 27)).trans (by rfl)) r_a0_19 (fun a0_19 fa0_19 => ?_)
  clear r_a0_19
  clear fa0_18
  have r_a0_20 : (execOp a0_19.eval oYP12).run Try.prog (W1) = .ok (.value (.bool false)) (W1) := by
    unfold oYP12
    have kc : ∀ v, a0_19.eval (.const v) = v := fun _ => rfl
    have e27 := (show a0_19.eval (.tmp 27) = .bool false from (fa0_19.at_ 27))
    have e30 := (show a0_19.eval (.tmp 30) = .bool false from (fa0_19.at_ 30))
    clear fa0_19 ha hk2 hn hln
    generalize a0_19.eval = ρ at *
    go_simp
  refine fa0_19.step 31 (.bool false) rfl (lb_ hsz) (wanted_none rfl) r_a0_20 (fun a0_20 fa0_20 => ?_)
  clear r_a0_20
  clear fa0_19
  refine fa0_20.move 32 (.bool false) _ (Or.inl rfl) rfl (lb_ hsz) (wanted_none rfl) (fa0_20.at_ 31) (fun a0_21 fa0_21 => ?_)
  clear fa0_20
  have r_a0_22 : (execOp a0_21.eval oYP13).run Try.prog (W1) = .ok (.value (.pointer (some ⟨w.heap.size + 1, 2, none⟩))) (W1) := by
    unfold oYP13
    have e7 := (show a0_21.eval (.tmp 7) = .pointer (some ⟨w.heap.size + 1, 0, none⟩) from (fa0_21.at_ 7))
    clear fa0_21 ha hk2 hn hln
    generalize a0_21.eval = ρ at *
    go_simp
  refine fa0_21.step 33 (.pointer (some ⟨w.heap.size + 1, 2, none⟩)) rfl (lb_ hsz) ((wanted_at (t := 32) (c := false) (b := false) rfl rfl rfl (lb_ (fa0_21.size.trans hsz)) (fa0_21.at_ 32)).trans (by rfl)) r_a0_22 (fun a0_22 fa0_22 => ?_)
  clear r_a0_22
  clear fa0_21
  have r_a0_23 : (execOp a0_22.eval oYP14).run Try.prog (W1) = .ok (.value (.int .i64 (k : Int))) (W1) := by
    unfold oYP14
    have e33 := (show a0_22.eval (.tmp 33) = .pointer (some ⟨w.heap.size + 1, 2, none⟩) from (fa0_22.at_ 33))
    clear fa0_22 ha hk2 hn hln
    generalize a0_22.eval = ρ at *
    go_simp
  refine fa0_22.step 34 (.int .i64 (k : Int)) rfl (lb_ hsz) ((wanted_at (t := 32) (c := false) (b := false) rfl rfl rfl (lb_ (fa0_22.size.trans hsz)) (fa0_22.at_ 32)).trans (by rfl)) r_a0_23 (fun a0_23 fa0_23 => ?_)
  clear r_a0_23
  clear fa0_22
  refine fa0_23.move 35 (.slice pa n c) _ (Or.inl rfl) rfl (lb_ hsz) ((wanted_at (t := 32) (c := false) (b := false) rfl rfl rfl (lb_ (fa0_23.size.trans hsz)) (fa0_23.at_ 32)).trans (by rfl)) ((fa0_23.at_ 2).trans (ha 2 _ rfl)) (fun a0_24 fa0_24 => ?_)
  clear fa0_23
  have r_a0_25 : (execOp a0_24.eval oYP15).run Try.prog (W1) = .ok (.value (.int .i64 (n : Int))) (W1) := by
    unfold oYP15
    have e35 := (show a0_24.eval (.tmp 35) = .slice pa n c from (fa0_24.at_ 35))
    clear fa0_24 ha hk2 hn hln
    generalize a0_24.eval = ρ at *
    go_simp
  refine fa0_24.step 36 (.int .i64 (n : Int)) rfl (lb_ hsz) ((wanted_at (t := 32) (c := false) (b := false) rfl rfl rfl (lb_ (fa0_24.size.trans hsz)) (fa0_24.at_ 32)).trans (by rfl)) r_a0_25 (fun a0_25 fa0_25 => ?_)
  clear r_a0_25
  clear fa0_24
  have r_a0_26 : (execOp a0_25.eval oYP16).run Try.prog (W1) = .ok (.value (.bool false)) (W1) := by
    unfold oYP16
    have e34 := (show a0_25.eval (.tmp 34) = .int .i64 (k : Int) from (fa0_25.at_ 34))
    have e36 := (show a0_25.eval (.tmp 36) = .int .i64 (n : Int) from (fa0_25.at_ 36))
    clear fa0_25 ha hk2 hn hln
    generalize a0_25.eval = ρ at *
    go_simp
  refine fa0_25.step 37 (.bool false) rfl (lb_ hsz) ((wanted_at (t := 32) (c := false) (b := false) rfl rfl rfl (lb_ (fa0_25.size.trans hsz)) (fa0_25.at_ 32)).trans (by rfl)) r_a0_26 (fun a0_26 fa0_26 => ?_)
  clear r_a0_26
  clear fa0_25
  have r_a0_27 : (execOp a0_26.eval oYP17).run Try.prog (W1) = .ok (.value (.bool false)) (W1) := by
    unfold oYP17
    have kc : ∀ v, a0_26.eval (.const v) = v := fun _ => rfl
    have e32 := (show a0_26.eval (.tmp 32) = .bool false from (fa0_26.at_ 32))
    have e37 := (show a0_26.eval (.tmp 37) = .bool false from (fa0_26.at_ 37))
    clear fa0_26 ha hk2 hn hln
    generalize a0_26.eval = ρ at *
    go_simp
  refine fa0_26.step 38 (.bool false) rfl (lb_ hsz) (wanted_none rfl) r_a0_27 (fun a0_27 fa0_27 => ?_)
  clear r_a0_27
  clear fa0_26
  refine wpList_nil ?_
  change Code.wp _ _ _ _ _
  refine wp_cond_false (show a0_27.eval (.tmp 38) = .bool false from (fa0_27.at_ 38)) (wp_skip ?_)
  change Code.wp _ _ _ _ _
  refine wp_seq ?_
  refine wp_region_list ?_
  unfold rDL3
  refine fa0_27.move 39 (.slice pa n c) _ (Or.inl rfl) rfl (lb_ hsz) (wanted_none rfl) ((fa0_27.at_ 2).trans (ha 2 _ rfl)) (fun a0_28 fa0_28 => ?_)
  clear fa0_27
  have r_a0_29 : (execOp a0_28.eval oYP18).run Try.prog (W1) = .ok (.value (.agg #[tr, .slice la ln llc, .int .i64 (k : Int), .int .u32 (pgs : Int)])) (W1) := by
    unfold oYP18
    have e7 := (show a0_28.eval (.tmp 7) = .pointer (some ⟨w.heap.size + 1, 0, none⟩) from (fa0_28.at_ 7))
    clear fa0_28 ha hk2 hn hln
    generalize a0_28.eval = ρ at *
    go_simp
  refine fa0_28.step 40 (.agg #[tr, .slice la ln llc, .int .i64 (k : Int), .int .u32 (pgs : Int)]) rfl (lb_ hsz) (wanted_none rfl) r_a0_29 (fun a0_29 fa0_29 => ?_)
  clear r_a0_29
  clear fa0_28
  have r_a0_30 : (execOp a0_29.eval oYP19).run Try.prog (W1) = .ok (.enter 5 #[.slice pa n c, .agg #[tr, .slice la ln llc, .int .i64 (k : Int), .int .u32 (pgs : Int)]]) (W1) := by
    unfold oYP19
    have kf : ∀ f, a0_29.eval (.func f) = .func (.func f) #[] #[] := fun _ => rfl
    have e39 := (show a0_29.eval (.tmp 39) = .slice pa n c from (fa0_29.at_ 39))
    have e40 := (show a0_29.eval (.tmp 40) = .agg #[tr, .slice la ln llc, .int .i64 (k : Int), .int .u32 (pgs : Int)] from (fa0_29.at_ 40))
    clear fa0_29 ha hk2 hn hln
    generalize a0_29.eval = ρ at *
    go_simp
  refine fa0_29.call 41 rfl (lb_ hsz) (wanted_none rfl) r_a0_30 (dafter_calls W1 (hM.same (sV.trans s1)) (hML.same (sV.trans s1)) hn hln hk2 hwt) (fun e W2 hR => ?_)
  obtain ⟨ao, cc, N, rfl, af, hkey, s2⟩ := hR
  clear r_a0_30
  refine ⟨_, rfl, fun a0_30 fa0_30 => ?_⟩
  clear fa0_29
  refine fa0_30.move 10 (.slice ao N.length cc) _ (Or.inr rfl) rfl (lb_ hsz) (wanted_none rfl) (fa0_30.at_ 41) (fun a0_31 fa0_31 => ?_)
  clear fa0_30
  refine wpList_nil ?_
  have s12 := s1.trans s2
  have e0 := s12.keep c0
  have e1 := s12.keep c1
  have g1 := s2.keep b1
  have g3 := s2.keep b3
  obtain ⟨gn, hbv⟩ := row_bv af.row af.new_ hkey (fun x hx => (List.mem_append.1 hx).elim (fun h => bv_mem hML.row h) (fun h => bv_mem hM.row (List.mem_of_mem_drop h)))
  have hwN : wt N ≤ 2000000 := by rw [wt_key _ _ hkey, wt_app]; have := wt_drop M k; omega
  have hcN : dchkE p q pgs N = chkE p q pgs (ML ++ M.drop k) := by rw [← chk_both]; exact chkE_key hkey
  change Code.wp _ _ _ _ _
  refine wp_seq (wp_seq ?_)
  refine wp_region_list ?_
  unfold rDL4
  have r_a0_32 : (execOp a0_31.eval oYP20).run Try.prog (W2) = .ok (.value (.agg #[.int .i64 p, .int .i64 q])) (W2) := by
    unfold oYP20
    have e4 := (show a0_31.eval (.tmp 4) = .pointer (some ⟨w.heap.size, 0, none⟩) from (fa0_31.at_ 4))
    clear fa0_31 ha hk2 hn hln hkey hcN
    generalize a0_31.eval = ρ at *
    go_simp
  refine fa0_31.step 42 (.agg #[.int .i64 p, .int .i64 q]) rfl (lb_ hsz) (wanted_none rfl) r_a0_32 (fun a0_32 fa0_32 => ?_)
  clear r_a0_32
  clear fa0_31
  refine fa0_32.move 43 (.slice ao N.length cc) _ (Or.inl rfl) rfl (lb_ hsz) (wanted_none rfl) (fa0_32.at_ 10) (fun a0_33 fa0_33 => ?_)
  clear fa0_32
  have r_a0_34 : (execOp a0_33.eval oYP21).run Try.prog (W2) = .ok (.value (.pointer (some ⟨w.heap.size + 1, 3, none⟩))) (W2) := by
    unfold oYP21
    have e7 := (show a0_33.eval (.tmp 7) = .pointer (some ⟨w.heap.size + 1, 0, none⟩) from (fa0_33.at_ 7))
    clear fa0_33 ha hk2 hn hln hkey hcN
    generalize a0_33.eval = ρ at *
    go_simp
  refine fa0_33.step 44 (.pointer (some ⟨w.heap.size + 1, 3, none⟩)) rfl (lb_ hsz) (wanted_none rfl) r_a0_34 (fun a0_34 fa0_34 => ?_)
  clear r_a0_34
  clear fa0_33
  have r_a0_35 : (execOp a0_34.eval oYP22).run Try.prog (W2) = .ok (.value (.int .u32 (pgs : Int))) (W2) := by
    unfold oYP22
    have e44 := (show a0_34.eval (.tmp 44) = .pointer (some ⟨w.heap.size + 1, 3, none⟩) from (fa0_34.at_ 44))
    clear fa0_34 ha hk2 hn hln hkey hcN
    generalize a0_34.eval = ρ at *
    go_simp
  refine fa0_34.step 45 (.int .u32 (pgs : Int)) rfl (lb_ hsz) (wanted_none rfl) r_a0_35 (fun a0_35 fa0_35 => ?_)
  clear r_a0_35
  clear fa0_34
  have r_a0_36 : (execOp a0_35.eval oYP23).run Try.prog (W2) = .ok (.enter 29 #[.agg #[.int .i64 p, .int .i64 q], .slice ao N.length cc, .int .u32 (pgs : Int)]) (W2) := by
    unfold oYP23
    have kf : ∀ f, a0_35.eval (.func f) = .func (.func f) #[] #[] := fun _ => rfl
    have e42 := (show a0_35.eval (.tmp 42) = .agg #[.int .i64 p, .int .i64 q] from (fa0_35.at_ 42))
    have e43 := (show a0_35.eval (.tmp 43) = .slice ao N.length cc from (fa0_35.at_ 43))
    have e45 := (show a0_35.eval (.tmp 45) = .int .u32 (pgs : Int) from (fa0_35.at_ 45))
    clear fa0_35 ha hk2 hn hln hkey hcN
    generalize a0_35.eval = ρ at *
    go_simp
  refine fa0_35.call 46 rfl (lb_ hsz) (wanted_none rfl) r_a0_36 (dcheck9_calls W2 hbv rfl hwN) (fun e W3 hR => ?_)
  obtain ⟨rfl, s3⟩ := hR
  clear r_a0_36
  have hce0 := hcN.trans hce
  rw [hce0]
  refine ⟨_, rfl, fun a0_36 fa0_36 => ?_⟩
  clear fa0_35
  have r_a0_37 : (execOp a0_36.eval oYP24).run Try.prog (W3) = .ok (.value (.bool false)) (W3) := by
    unfold oYP24
    have kc : ∀ v, a0_36.eval (.const v) = v := fun _ => rfl
    have e46 := (show a0_36.eval (.tmp 46) = .int .i64 0 from (fa0_36.at_ 46))
    clear fa0_36 ha hk2 hn hln hkey hcN
    generalize a0_36.eval = ρ at *
    go_simp
  refine fa0_36.step 47 (.bool false) rfl (lb_ hsz) (wanted_none rfl) r_a0_37 (fun a0_37 fa0_37 => ?_)
  clear r_a0_37
  clear fa0_36
  refine wpList_nil ?_
  change Code.wp _ _ _ _ _
  refine wp_cond_false (show a0_37.eval (.tmp 47) = .bool false from (fa0_37.at_ 47)) (wp_skip ?_)
  change Code.wp _ _ _ _ _
  refine wp_seq ?_
  refine wp_region_list ?_
  unfold rDL6
  refine fa0_37.move 11 (.slice none 0 0) _ (Or.inr rfl) rfl (lb_ hsz) (wanted_none rfl) rfl (fun a0_38 fa0_38 => ?_)
  clear fa0_37
  refine wpList_nil ?_
  have hlN : ln ≤ N.length := by have := congrArg List.length hkey; simp only [List.length_map, List.length_append] at this; omega
  change Code.wp _ _ _ _ _
  refine wp_seq (wp_seq ?_)
  refine wp_region_list ?_
  unfold rDL7
  refine fa0_38.move 12 (.int .i64 ((0 : Nat) : Int)) _ (Or.inr rfl) rfl (lb_ hsz) (wanted_none rfl) rfl (fun a0_39 fa0_39 => ?_)
  clear fa0_38
  refine wpList_nil ?_
  change Code.wp _ _ _ _ _
  refine wp_block ?_
  refine dlL (p := p) (q := q) (by intro c a d v w h; cases d <;> exact h) a0_39 W3 ⟨fa0_39.size.trans hsz, fa0_39.defers.trans hd, (show a0_39.eval (.tmp 1) = .int .u64 (vr : Int) from ((fa0_39.at_ 1).trans (ha 1 _ rfl))), (show a0_39.eval (.tmp 4) = .pointer (some ⟨w.heap.size, 0, none⟩) from (fa0_39.at_ 4)), (show a0_39.eval (.tmp 7) = .pointer (some ⟨w.heap.size + 1, 0, none⟩) from (fa0_39.at_ 7)), (show a0_39.eval (.tmp 10) = .slice ao N.length cc from (fa0_39.at_ 10))⟩ (show a0_39.eval (.tmp 12) = .int .i64 ((0 : Nat) : Int) from (fa0_39.at_ 12)) (show a0_39.eval (.tmp 11) = .slice none 0 0 from (fa0_39.at_ 11)) (hbv.same s3) hlN hwN (s3.keep e0) (s3.keep e1) (s3.keep g1) (fun b W lo lc4 hbd hbs b11 hc => ?_)
  change Code.wp _ _ _ _ _
  refine wp_seq ?_
  have fb_0 := Fe.refl b
  refine wp_region_list ?_
  unfold rDL15
  refine fb_0.move 88 (.slice lo (laidP p q N ln).length lc4) _ (Or.inl rfl) rfl (lb_ hbs) (wanted_none rfl) ((fb_0.at_ 11).trans b11) (fun b_1 fb_1 => ?_)
  clear fb_0
  refine fb_1.move 8 (.slice lo (laidP p q N ln).length lc4) _ (Or.inr rfl) rfl (lb_ hbs) (wanted_none rfl) (fb_1.at_ 88) (fun b_2 fb_2 => ?_)
  clear fb_1
  refine fb_2.move 9 (.int .i64 0) _ (Or.inr rfl) rfl (lb_ hbs) (wanted_none rfl) rfl (fun b_3 fb_3 => ?_)
  clear fb_2
  refine wpList_nil ?_
  change Code.wp _ _ _ _ _
  refine wp_ret ?_
  rw [laidP_key hkey] at hc
  refine ret_abs2 rfl (fb_3.defers.trans hbd) (show b_3.eval (.tmp 8) = .slice lo (laidP p q N ln).length lc4 from (fb_3.at_ 8)) (show b_3.eval (.tmp 9) = .int .i64 0 from (fb_3.at_ 9)) ⟨lo, lc4, by rw [laidP_key hkey], own_base hc.row ((sV.trans s12).trans s3).size, ((sV.trans s12).trans s3).trans hc.same⟩
end Go.Proofs.Ytneopkhkkfckcaa
