/- free: the walk of FreeReads. -/
import Derived.Test.YtajbifblbmlffaaQG
import Derived.Test.YtajbifblbmlffaaZF
import Derived.Test.YtajbifblbmlffaaIC
namespace Go.Proofs.Ytajbifblbmlffaa
open Go.RowKit Go.Maps

def oQH0 : Oper := { dst := some 23, op := .indexAddr 29 (.tmp 5) (.const (.int .i64 0)), type := 0, pos := "law.go:149", after := #[], guard := none }
def oQH1 : Oper := { dst := some 24, op := .load 28 (.tmp 23), type := 28, pos := "law.go:149", after := #[{ on := 0, ground := .data }], guard := none }
def oQH2 : Oper := { dst := some 25, op := .indexAddr 29 (.tmp 5) (.const (.int .i64 1)), type := 0, pos := "law.go:149", after := #[{ on := 4, ground := .gcOnly .lateStores }], guard := none }
def oQH3 : Oper := { dst := some 26, op := .load 28 (.tmp 25), type := 28, pos := "law.go:149", after := #[{ on := 2, ground := .data }, { on := 4, ground := .gcOnly .lateStores }], guard := none }
def oQH4 : Oper := { dst := some 28, op := .load 23 (.tmp 3), type := 23, pos := "law.go:150", after := #[], guard := none }
def oQH5 : Oper := { dst := some 29, op := .makeInterface 33 (.tmp 4), type := 45, pos := "law.go:150", after := #[], guard := none }
def oQH6 : Oper := { dst := some 32, op := .call { callee := .value (.func 4), args := #[.tmp 28, .tmp 29, .tmp 30, .tmp 31], argTypes := #[23, 45, 28, 28] }, type := 31, pos := "law.go:150", after := #[{ on := 0, ground := .data }, { on := 1, ground := .data }, { on := 2, ground := .data }, { on := 3, ground := .data }], guard := none }
def oQH7 : Oper := { dst := some 33, op := .extract (.tmp 27) 0, type := 30, pos := "law.go:150", after := #[{ on := 5, ground := .data }], guard := none }
def oQH8 : Oper := { dst := some 34, op := .extract (.tmp 27) 1, type := 25, pos := "law.go:150", after := #[{ on := 5, ground := .data }, { on := 8, ground := .gcOnly .lateStores }], guard := none }
def oQH9 : Oper := { dst := some 36, op := .load 23 (.tmp 3), type := 23, pos := "law.go:151", after := #[], guard := none }
def oQH10 : Oper := { dst := some 37, op := .makeInterface 33 (.tmp 4), type := 45, pos := "law.go:151", after := #[], guard := none }
def oQH11 : Oper := { dst := some 40, op := .call { callee := .value (.func 4), args := #[.tmp 36, .tmp 37, .tmp 38, .tmp 39], argTypes := #[23, 45, 28, 28] }, type := 31, pos := "law.go:151", after := #[{ on := 0, ground := .data }, { on := 1, ground := .data }, { on := 2, ground := .data }, { on := 3, ground := .data }], guard := none }
def oQH12 : Oper := { dst := some 41, op := .extract (.tmp 35) 0, type := 30, pos := "law.go:151", after := #[{ on := 5, ground := .data }], guard := none }
def oQH13 : Oper := { dst := some 42, op := .extract (.tmp 35) 1, type := 25, pos := "law.go:151", after := #[{ on := 5, ground := .data }, { on := 8, ground := .gcOnly .lateStores }], guard := none }
def oQH14 : Oper := { dst := some 44, op := .load 23 (.tmp 3), type := 23, pos := "law.go:152", after := #[], guard := none }
def oQH15 : Oper := { dst := some 47, op := .call { callee := .value (.func 4), args := #[.tmp 44, .const .nilIface, .tmp 45, .tmp 46], argTypes := #[23, 45, 28, 28] }, type := 31, pos := "law.go:152", after := #[{ on := 0, ground := .data }, { on := 1, ground := .data }, { on := 2, ground := .data }], guard := none }
def oQH16 : Oper := { dst := some 48, op := .extract (.tmp 43) 0, type := 30, pos := "law.go:152", after := #[{ on := 4, ground := .data }], guard := none }
def oQH17 : Oper := { dst := some 49, op := .extract (.tmp 43) 1, type := 25, pos := "law.go:152", after := #[{ on := 4, ground := .data }, { on := 7, ground := .gcOnly .lateStores }], guard := none }
def oQH18 : Oper := { dst := some 51, op := .binOp .neq 25 (.tmp 50) (.const (.int .i64 1)) 25, type := 4, pos := "law.go:153", after := #[{ on := 0, ground := .data }], guard := none }
def oQH19 : Oper := { dst := some 53, op := .call { callee := .value (.func 5), args := #[], argTypes := #[] }, type := 4, pos := "law.go:153", after := #[{ on := 2, ground := .chain }, { on := 2, ground := .guard }], guard := some (2, false) }
def oQH20 : Oper := { dst := some 54, op := .unOp .not 4 (.tmp 53), type := 4, pos := "law.go:153", after := #[{ on := 3, ground := .data }, { on := 2, ground := .guard }], guard := some (2, false) }
def oQH21 : Oper := { dst := some 55, op := .pick (.tmp 52) (.const (.bool true)) (.tmp 54), type := 4, pos := "law.go:153", after := #[{ on := 2, ground := .data }, { on := 4, ground := .data }], guard := none }
def oQH22 : Oper := { dst := some 59, op := .binOp .neq 25 (.tmp 57) (.tmp 58) 25, type := 4, pos := "law.go:153", after := #[{ on := 7, ground := .data }, { on := 8, ground := .data }, { on := 6, ground := .guard }], guard := some (6, false) }
def oQH23 : Oper := { dst := some 60, op := .pick (.tmp 56) (.const (.bool true)) (.tmp 59), type := 4, pos := "law.go:153", after := #[{ on := 6, ground := .data }, { on := 9, ground := .data }], guard := none }
def oQH24 : Oper := { dst := some 61, op := .load 23 (.tmp 3), type := 23, pos := "law.go:156", after := #[], guard := none }
def oQH25 : Oper := { dst := some 63, op := .call { callee := .value (.func 6), args := #[.tmp 61, .const (.slice none 0 0), .tmp 62], argTypes := #[23, 30, 28] }, type := 3, pos := "law.go:156", after := #[{ on := 0, ground := .data }, { on := 1, ground := .data }], guard := none }
def oQH26 : Oper := { dst := some 64, op := .binOp .neq 3 (.tmp 63) (.const (.int .i64 0)) 3, type := 4, pos := "law.go:156", after := #[{ on := 2, ground := .data }], guard := none }
def oQH27 : Oper := { dst := some 66, op := .binOp .eql 25 (.tmp 65) (.const (.int .i64 2)) 25, type := 4, pos := "law.go:157", after := #[{ on := 0, ground := .data }], guard := none }
def oQH28 : Oper := { dst := some 69, op := .call { callee := .builtin .len, args := #[.tmp 68], argTypes := #[30] }, type := 3, pos := "law.go:157", after := #[{ on := 3, ground := .data }, { on := 2, ground := .guard }], guard := some (2, true) }
def oQH29 : Oper := { dst := some 70, op := .binOp .eql 3 (.tmp 69) (.const (.int .i64 0)) 3, type := 4, pos := "law.go:157", after := #[{ on := 4, ground := .data }, { on := 2, ground := .guard }], guard := some (2, true) }
def oQH30 : Oper := { dst := some 71, op := .pick (.tmp 67) (.tmp 70) (.const (.bool false)), type := 4, pos := "law.go:157", after := #[{ on := 2, ground := .data }, { on := 5, ground := .data }], guard := none }
def oQH31 : Oper := { dst := some 73, op := .load 23 (.tmp 3), type := 23, pos := "law.go:159", after := #[], guard := none }
def oQH32 : Oper := { dst := some 74, op := .fieldAddr 27 (.tmp 4) 0, type := 0, pos := "law.go:159", after := #[], guard := none }
def oQH33 : Oper := { dst := some 75, op := .load 24 (.tmp 74), type := 24, pos := "law.go:159", after := #[{ on := 1, ground := .data }], guard := none }
def oQH34 : Oper := { dst := some 78, op := .call { callee := .value (.func 7), args := #[.tmp 73, .tmp 75, .tmp 76, .tmp 77], argTypes := #[23, 24, 28, 28] }, type := 36, pos := "law.go:159", after := #[{ on := 0, ground := .data }, { on := 2, ground := .data }, { on := 3, ground := .data }, { on := 4, ground := .data }], guard := none }
def oQH35 : Oper := { dst := some 79, op := .extract (.tmp 72) 0, type := 30, pos := "law.go:159", after := #[{ on := 6, ground := .data }], guard := none }
def oQH36 : Oper := { dst := some 80, op := .extract (.tmp 72) 1, type := 3, pos := "law.go:159", after := #[{ on := 6, ground := .data }, { on := 9, ground := .gcOnly .lateStores }], guard := none }
def oQH37 : Oper := { dst := some 82, op := .binOp .eql 3 (.tmp 81) (.const (.int .i64 (-1))) 3, type := 4, pos := "law.go:160", after := #[{ on := 0, ground := .data }], guard := none }
def oQH38 : Oper := { dst := some 84, op := .fieldAddr 27 (.tmp 4) 1, type := 0, pos := "law.go:161", after := #[], guard := none }
def oQH39 : Oper := { dst := some 85, op := .load 25 (.tmp 84), type := 25, pos := "law.go:161", after := #[{ on := 1, ground := .data }], guard := none }
def oQH40 : Oper := { dst := some 86, op := .binOp .eql 25 (.tmp 83) (.tmp 85) 25, type := 4, pos := "law.go:161", after := #[{ on := 0, ground := .data }, { on := 2, ground := .data }], guard := none }
def oQH41 : Oper := { dst := some 89, op := .call { callee := .builtin .len, args := #[.tmp 88], argTypes := #[30] }, type := 3, pos := "law.go:161", after := #[{ on := 5, ground := .data }, { on := 4, ground := .guard }], guard := some (4, true) }
def oQH42 : Oper := { dst := some 90, op := .binOp .eql 3 (.tmp 89) (.const (.int .i64 0)) 3, type := 4, pos := "law.go:161", after := #[{ on := 6, ground := .data }, { on := 4, ground := .guard }], guard := some (4, true) }
def oQH43 : Oper := { dst := some 91, op := .pick (.tmp 87) (.tmp 90) (.const (.bool false)), type := 4, pos := "law.go:161", after := #[{ on := 4, ground := .data }, { on := 7, ground := .data }], guard := none }
def oQH44 : Oper := { dst := some 94, op := .binOp .neq 3 (.tmp 92) (.tmp 93) 3, type := 4, pos := "law.go:163", after := #[{ on := 0, ground := .data }, { on := 1, ground := .data }], guard := none }
def oQH45 : Oper := { dst := some 98, op := .call { callee := .value (.func 8), args := #[.tmp 96, .tmp 97], argTypes := #[30, 30] }, type := 4, pos := "law.go:163", after := #[{ on := 4, ground := .data }, { on := 5, ground := .data }, { on := 3, ground := .chain }, { on := 3, ground := .guard }], guard := some (3, false) }
def oQH46 : Oper := { dst := some 99, op := .unOp .not 4 (.tmp 98), type := 4, pos := "law.go:163", after := #[{ on := 6, ground := .data }, { on := 3, ground := .guard }], guard := some (3, false) }
def oQH47 : Oper := { dst := some 100, op := .pick (.tmp 95) (.const (.bool true)) (.tmp 99), type := 4, pos := "law.go:163", after := #[{ on := 3, ground := .data }, { on := 7, ground := .data }], guard := none }
def oQH48 : Oper := { dst := some 104, op := .call { callee := .value (.func 8), args := #[.tmp 102, .tmp 103], argTypes := #[30, 30] }, type := 4, pos := "law.go:163", after := #[{ on := 10, ground := .data }, { on := 11, ground := .data }, { on := 9, ground := .chain }, { on := 9, ground := .guard }], guard := some (9, false) }
def oQH49 : Oper := { dst := some 105, op := .unOp .not 4 (.tmp 104), type := 4, pos := "law.go:163", after := #[{ on := 12, ground := .data }, { on := 9, ground := .guard }], guard := some (9, false) }
def oQH50 : Oper := { dst := some 106, op := .pick (.tmp 101) (.const (.bool true)) (.tmp 105), type := 4, pos := "law.go:163", after := #[{ on := 9, ground := .data }, { on := 13, ground := .data }], guard := none }
def oQH51 : Oper := { dst := some 109, op := .call { callee := .value (.func 10), args := #[.tmp 108], argTypes := #[30] }, type := 40, pos := "law.go:163", after := #[{ on := 16, ground := .data }, { on := 15, ground := .chain }, { on := 15, ground := .guard }], guard := some (15, false) }
def oQH52 : Oper := { dst := some 111, op := .call { callee := .value (.func 10), args := #[.tmp 110], argTypes := #[30] }, type := 40, pos := "law.go:163", after := #[{ on := 18, ground := .data }, { on := 17, ground := .chain }, { on := 15, ground := .guard }], guard := some (15, false) }
def oQH53 : Oper := { dst := some 112, op := .call { callee := .builtin .append, args := #[.tmp 109, .tmp 111], argTypes := #[40, 40] }, type := 40, pos := "law.go:163", after := #[{ on := 17, ground := .data }, { on := 19, ground := .data }, { on := 19, ground := .chain }, { on := 15, ground := .guard }], guard := some (15, false) }
def oQH54 : Oper := { dst := some 115, op := .buildSlice 42 2 #[(0, .tmp 113), (1, .tmp 114)], type := 42, pos := "law.go:163", after := #[{ on := 21, ground := .data }, { on := 22, ground := .data }, { on := 15, ground := .guard }], guard := some (15, false) }
def oQH55 : Oper := { dst := some 116, op := .call { callee := .value (.func 9), args := #[.tmp 112, .tmp 115], argTypes := #[40, 42] }, type := 4, pos := "law.go:163", after := #[{ on := 20, ground := .data }, { on := 23, ground := .data }, { on := 20, ground := .chain }, { on := 15, ground := .guard }], guard := some (15, false) }
def oQH56 : Oper := { dst := some 117, op := .unOp .not 4 (.tmp 116), type := 4, pos := "law.go:163", after := #[{ on := 24, ground := .data }, { on := 15, ground := .guard }], guard := some (15, false) }
def oQH57 : Oper := { dst := some 118, op := .pick (.tmp 107) (.const (.bool true)) (.tmp 117), type := 4, pos := "law.go:163", after := #[{ on := 15, ground := .data }, { on := 25, ground := .data }], guard := none }
def oQH58 : Oper := { dst := some 120, op := .load 23 (.tmp 3), type := 23, pos := "law.go:166", after := #[], guard := none }
def oQH59 : Oper := { dst := some 121, op := .makeInterface 33 (.tmp 4), type := 45, pos := "law.go:166", after := #[], guard := none }
def oQH60 : Oper := { dst := some 124, op := .call { callee := .value (.func 4), args := #[.tmp 120, .tmp 121, .tmp 122, .tmp 123], argTypes := #[23, 45, 28, 28] }, type := 31, pos := "law.go:166", after := #[{ on := 0, ground := .data }, { on := 1, ground := .data }, { on := 2, ground := .data }, { on := 3, ground := .data }], guard := none }
def oQH61 : Oper := { dst := some 125, op := .extract (.tmp 119) 0, type := 30, pos := "law.go:166", after := #[{ on := 5, ground := .data }], guard := none }
def oQH62 : Oper := { dst := some 126, op := .extract (.tmp 119) 1, type := 25, pos := "law.go:166", after := #[{ on := 5, ground := .data }, { on := 8, ground := .gcOnly .lateStores }], guard := none }
def oQH63 : Oper := { dst := some 129, op := .call { callee := .value (.func 8), args := #[.tmp 127, .tmp 128], argTypes := #[30, 30] }, type := 4, pos := "law.go:167", after := #[{ on := 0, ground := .data }, { on := 1, ground := .data }], guard := none }
def rFR0 : Array Oper := #[{ dst := some 3, op := .box 23 (.tmp 0), type := 0, pos := "law.go:145", after := #[], guard := none },
  { dst := some 4, op := .box 27 (.tmp 1), type := 0, pos := "law.go:145", after := #[], guard := none },
  { dst := some 5, op := .box 29 (.tmp 2), type := 0, pos := "law.go:145", after := #[], guard := none },
  { dst := some 6, op := .assign (.const (.bool false)), type := 4, pos := "law.go:145", after := #[], guard := none }]
def rFR1 : Array Oper := #[{ dst := some 19, op := .fieldAddr 27 (.tmp 4) 1, type := 0, pos := "law.go:146", after := #[], guard := none },
  { dst := some 20, op := .load 25 (.tmp 19), type := 25, pos := "law.go:146", after := #[{ on := 0, ground := .data }], guard := none },
  { dst := some 21, op := .binOp .eql 25 (.tmp 20) (.const (.int .i64 0)) 25, type := 4, pos := "law.go:146", after := #[{ on := 1, ground := .data }], guard := none }]
def rFR2 : Array Oper := #[{ dst := some 22, op := .fieldAddr 27 (.tmp 4) 1, type := 0, pos := "law.go:147", after := #[], guard := none },
  { dst := none, op := .store 25 (.tmp 22) (.const (.int .i64 7)), type := 0, pos := "law.go:147", after := #[{ on := 0, ground := .data }], guard := none }]
def rFR3 : Array Oper := #[oQH0,
  oQH1,
  oQH2,
  oQH3,
  { dst := some 7, op := .assign (.tmp 24), type := 28, pos := "law.go:149", after := #[{ on := 1, ground := .data }, { on := 0, ground := .phase }, { on := 1, ground := .phase }, { on := 2, ground := .textOnly .lateStores }, { on := 3, ground := .textOnly .lateStores }], guard := none },
  { dst := some 8, op := .assign (.tmp 26), type := 28, pos := "law.go:149", after := #[{ on := 3, ground := .data }, { on := 4, ground := .chain }, { on := 0, ground := .phase }, { on := 1, ground := .phase }, { on := 2, ground := .phase }, { on := 3, ground := .phase }, { on := 4, ground := .phase }], guard := none }]
def rFR4 : Array Oper := #[oQH4,
  oQH5,
  { dst := some 30, op := .move (.tmp 7), type := 28, pos := "law.go:150", after := #[], guard := none },
  { dst := some 31, op := .move (.tmp 8), type := 28, pos := "law.go:150", after := #[], guard := none },
  oQH6,
  { dst := some 27, op := .move (.tmp 32), type := 31, pos := "law.go:150", after := #[{ on := 4, ground := .data }], guard := none },
  oQH7,
  oQH8,
  { dst := some 9, op := .assign (.tmp 33), type := 30, pos := "law.go:150", after := #[{ on := 6, ground := .data }, { on := 4, ground := .chain }, { on := 0, ground := .phase }, { on := 1, ground := .phase }, { on := 2, ground := .phase }, { on := 3, ground := .phase }, { on := 4, ground := .phase }, { on := 5, ground := .phase }, { on := 6, ground := .phase }, { on := 7, ground := .textOnly .lateStores }], guard := none },
  { dst := some 10, op := .assign (.tmp 34), type := 25, pos := "law.go:150", after := #[{ on := 7, ground := .data }, { on := 8, ground := .chain }, { on := 0, ground := .phase }, { on := 1, ground := .phase }, { on := 2, ground := .phase }, { on := 3, ground := .phase }, { on := 4, ground := .phase }, { on := 5, ground := .phase }, { on := 6, ground := .phase }, { on := 7, ground := .phase }, { on := 8, ground := .phase }], guard := none }]
def rFR5 : Array Oper := #[oQH9,
  oQH10,
  { dst := some 38, op := .move (.tmp 7), type := 28, pos := "law.go:151", after := #[], guard := none },
  { dst := some 39, op := .move (.tmp 8), type := 28, pos := "law.go:151", after := #[], guard := none },
  oQH11,
  { dst := some 35, op := .move (.tmp 40), type := 31, pos := "law.go:151", after := #[{ on := 4, ground := .data }], guard := none },
  oQH12,
  oQH13,
  { dst := some 11, op := .assign (.tmp 41), type := 30, pos := "law.go:151", after := #[{ on := 6, ground := .data }, { on := 4, ground := .chain }, { on := 0, ground := .phase }, { on := 1, ground := .phase }, { on := 2, ground := .phase }, { on := 3, ground := .phase }, { on := 4, ground := .phase }, { on := 5, ground := .phase }, { on := 6, ground := .phase }, { on := 7, ground := .textOnly .lateStores }], guard := none },
  { dst := some 12, op := .assign (.tmp 42), type := 25, pos := "law.go:151", after := #[{ on := 7, ground := .data }, { on := 8, ground := .chain }, { on := 0, ground := .phase }, { on := 1, ground := .phase }, { on := 2, ground := .phase }, { on := 3, ground := .phase }, { on := 4, ground := .phase }, { on := 5, ground := .phase }, { on := 6, ground := .phase }, { on := 7, ground := .phase }, { on := 8, ground := .phase }], guard := none }]
def rFR6 : Array Oper := #[oQH14,
  { dst := some 45, op := .move (.tmp 7), type := 28, pos := "law.go:152", after := #[], guard := none },
  { dst := some 46, op := .move (.tmp 8), type := 28, pos := "law.go:152", after := #[], guard := none },
  oQH15,
  { dst := some 43, op := .move (.tmp 47), type := 31, pos := "law.go:152", after := #[{ on := 3, ground := .data }], guard := none },
  oQH16,
  oQH17,
  { dst := some 13, op := .assign (.tmp 48), type := 30, pos := "law.go:152", after := #[{ on := 5, ground := .data }, { on := 3, ground := .chain }, { on := 0, ground := .phase }, { on := 1, ground := .phase }, { on := 2, ground := .phase }, { on := 3, ground := .phase }, { on := 4, ground := .phase }, { on := 5, ground := .phase }, { on := 6, ground := .textOnly .lateStores }], guard := none },
  { dst := some 14, op := .assign (.tmp 49), type := 25, pos := "law.go:152", after := #[{ on := 6, ground := .data }, { on := 7, ground := .chain }, { on := 0, ground := .phase }, { on := 1, ground := .phase }, { on := 2, ground := .phase }, { on := 3, ground := .phase }, { on := 4, ground := .phase }, { on := 5, ground := .phase }, { on := 6, ground := .phase }, { on := 7, ground := .phase }], guard := none }]
def rFR7 : Array Oper := #[{ dst := some 50, op := .move (.tmp 14), type := 25, pos := "law.go:153", after := #[], guard := none },
  oQH18,
  { dst := some 52, op := .move (.tmp 51), type := 4, pos := "law.go:153", after := #[{ on := 1, ground := .data }], guard := none },
  oQH19,
  oQH20,
  oQH21,
  { dst := some 56, op := .move (.tmp 55), type := 4, pos := "law.go:153", after := #[{ on := 5, ground := .data }, { on := 3, ground := .chain }], guard := none },
  { dst := some 57, op := .move (.tmp 10), type := 25, pos := "law.go:153", after := #[{ on := 6, ground := .guard }], guard := some (6, false) },
  { dst := some 58, op := .move (.tmp 12), type := 25, pos := "law.go:153", after := #[{ on := 6, ground := .guard }], guard := some (6, false) },
  oQH22,
  oQH23]
def rFR8 : Array Oper := #[{ dst := some 6, op := .assign (.const (.bool false)), type := 4, pos := "law.go:154", after := #[], guard := none }]
def rFR9 : Array Oper := #[oQH24,
  { dst := some 62, op := .move (.tmp 8), type := 28, pos := "law.go:156", after := #[], guard := none },
  oQH25,
  oQH26]
def rFR10 : Array Oper := #[{ dst := some 65, op := .move (.tmp 10), type := 25, pos := "law.go:157", after := #[], guard := none },
  oQH27,
  { dst := some 67, op := .move (.tmp 66), type := 4, pos := "law.go:157", after := #[{ on := 1, ground := .data }], guard := none },
  { dst := some 68, op := .move (.tmp 9), type := 30, pos := "law.go:157", after := #[{ on := 2, ground := .guard }], guard := some (2, true) },
  oQH28,
  oQH29,
  oQH30,
  { dst := some 6, op := .assign (.tmp 71), type := 4, pos := "law.go:157", after := #[{ on := 6, ground := .data }, { on := 2, ground := .chain }, { on := 0, ground := .phase }, { on := 1, ground := .phase }, { on := 2, ground := .phase }, { on := 3, ground := .phase }, { on := 4, ground := .phase }, { on := 5, ground := .phase }, { on := 6, ground := .phase }], guard := none }]
def rFR11 : Array Oper := #[oQH31,
  oQH32,
  oQH33,
  { dst := some 76, op := .move (.tmp 7), type := 28, pos := "law.go:159", after := #[], guard := none },
  { dst := some 77, op := .move (.tmp 8), type := 28, pos := "law.go:159", after := #[], guard := none },
  oQH34,
  { dst := some 72, op := .move (.tmp 78), type := 36, pos := "law.go:159", after := #[{ on := 5, ground := .data }], guard := none },
  oQH35,
  oQH36,
  { dst := some 15, op := .assign (.tmp 79), type := 30, pos := "law.go:159", after := #[{ on := 7, ground := .data }, { on := 5, ground := .chain }, { on := 0, ground := .phase }, { on := 1, ground := .phase }, { on := 2, ground := .phase }, { on := 3, ground := .phase }, { on := 4, ground := .phase }, { on := 5, ground := .phase }, { on := 6, ground := .phase }, { on := 7, ground := .phase }, { on := 8, ground := .textOnly .lateStores }], guard := none },
  { dst := some 16, op := .assign (.tmp 80), type := 3, pos := "law.go:159", after := #[{ on := 8, ground := .data }, { on := 9, ground := .chain }, { on := 0, ground := .phase }, { on := 1, ground := .phase }, { on := 2, ground := .phase }, { on := 3, ground := .phase }, { on := 4, ground := .phase }, { on := 5, ground := .phase }, { on := 6, ground := .phase }, { on := 7, ground := .phase }, { on := 8, ground := .phase }, { on := 9, ground := .phase }], guard := none }]
def rFR12 : Array Oper := #[{ dst := some 81, op := .move (.tmp 16), type := 3, pos := "law.go:160", after := #[], guard := none },
  oQH37]
def rFR13 : Array Oper := #[{ dst := some 83, op := .move (.tmp 10), type := 25, pos := "law.go:161", after := #[], guard := none },
  oQH38,
  oQH39,
  oQH40,
  { dst := some 87, op := .move (.tmp 86), type := 4, pos := "law.go:161", after := #[{ on := 3, ground := .data }], guard := none },
  { dst := some 88, op := .move (.tmp 9), type := 30, pos := "law.go:161", after := #[{ on := 4, ground := .guard }], guard := some (4, true) },
  oQH41,
  oQH42,
  oQH43,
  { dst := some 6, op := .assign (.tmp 91), type := 4, pos := "law.go:161", after := #[{ on := 8, ground := .data }, { on := 4, ground := .chain }, { on := 0, ground := .phase }, { on := 1, ground := .phase }, { on := 2, ground := .phase }, { on := 3, ground := .phase }, { on := 4, ground := .phase }, { on := 5, ground := .phase }, { on := 6, ground := .phase }, { on := 7, ground := .phase }, { on := 8, ground := .phase }], guard := none }]
def rFR14 : Array Oper := #[{ dst := some 92, op := .move (.tmp 10), type := 25, pos := "law.go:163", after := #[], guard := none },
  { dst := some 93, op := .move (.tmp 16), type := 3, pos := "law.go:163", after := #[], guard := none },
  oQH44,
  { dst := some 95, op := .move (.tmp 94), type := 4, pos := "law.go:163", after := #[{ on := 2, ground := .data }], guard := none },
  { dst := some 96, op := .move (.tmp 9), type := 30, pos := "law.go:163", after := #[{ on := 3, ground := .guard }], guard := some (3, false) },
  { dst := some 97, op := .move (.tmp 15), type := 30, pos := "law.go:163", after := #[{ on := 3, ground := .guard }], guard := some (3, false) },
  oQH45,
  oQH46,
  oQH47,
  { dst := some 101, op := .move (.tmp 100), type := 4, pos := "law.go:163", after := #[{ on := 8, ground := .data }, { on := 6, ground := .chain }], guard := none },
  { dst := some 102, op := .move (.tmp 11), type := 30, pos := "law.go:163", after := #[{ on := 9, ground := .guard }], guard := some (9, false) },
  { dst := some 103, op := .move (.tmp 15), type := 30, pos := "law.go:163", after := #[{ on := 9, ground := .guard }], guard := some (9, false) },
  oQH48,
  oQH49,
  oQH50,
  { dst := some 107, op := .move (.tmp 106), type := 4, pos := "law.go:163", after := #[{ on := 14, ground := .data }, { on := 12, ground := .chain }], guard := none },
  { dst := some 108, op := .move (.tmp 9), type := 30, pos := "law.go:163", after := #[{ on := 15, ground := .guard }], guard := some (15, false) },
  oQH51,
  { dst := some 110, op := .move (.tmp 11), type := 30, pos := "law.go:163", after := #[{ on := 15, ground := .guard }], guard := some (15, false) },
  oQH52,
  oQH53,
  { dst := some 113, op := .move (.tmp 9), type := 30, pos := "law.go:163", after := #[{ on := 15, ground := .guard }], guard := some (15, false) },
  { dst := some 114, op := .move (.tmp 11), type := 30, pos := "law.go:163", after := #[{ on := 15, ground := .guard }], guard := some (15, false) },
  oQH54,
  oQH55,
  oQH56,
  oQH57]
def rFR15 : Array Oper := #[{ dst := some 6, op := .assign (.const (.bool false)), type := 4, pos := "law.go:164", after := #[], guard := none }]
def rFR16 : Array Oper := #[oQH58,
  oQH59,
  { dst := some 122, op := .move (.tmp 7), type := 28, pos := "law.go:166", after := #[], guard := none },
  { dst := some 123, op := .move (.tmp 8), type := 28, pos := "law.go:166", after := #[], guard := none },
  oQH60,
  { dst := some 119, op := .move (.tmp 124), type := 31, pos := "law.go:166", after := #[{ on := 4, ground := .data }], guard := none },
  oQH61,
  oQH62,
  { dst := some 17, op := .assign (.tmp 125), type := 30, pos := "law.go:166", after := #[{ on := 6, ground := .data }, { on := 4, ground := .chain }, { on := 0, ground := .phase }, { on := 1, ground := .phase }, { on := 2, ground := .phase }, { on := 3, ground := .phase }, { on := 4, ground := .phase }, { on := 5, ground := .phase }, { on := 6, ground := .phase }, { on := 7, ground := .textOnly .lateStores }], guard := none },
  { dst := some 18, op := .assign (.tmp 126), type := 25, pos := "law.go:166", after := #[{ on := 7, ground := .data }, { on := 8, ground := .chain }, { on := 0, ground := .phase }, { on := 1, ground := .phase }, { on := 2, ground := .phase }, { on := 3, ground := .phase }, { on := 4, ground := .phase }, { on := 5, ground := .phase }, { on := 6, ground := .phase }, { on := 7, ground := .phase }, { on := 8, ground := .phase }], guard := none }]
def rFR17 : Array Oper := #[{ dst := some 127, op := .move (.tmp 17), type := 30, pos := "law.go:167", after := #[], guard := none },
  { dst := some 128, op := .move (.tmp 15), type := 30, pos := "law.go:167", after := #[], guard := none },
  oQH63,
  { dst := some 6, op := .assign (.tmp 129), type := 4, pos := "law.go:167", after := #[{ on := 2, ground := .data }, { on := 2, ground := .chain }, { on := 0, ground := .phase }, { on := 1, ground := .phase }, { on := 2, ground := .phase }], guard := none }]
def cFRB : Code := (.seq (.region 3 rFR3 true) (.seq (.region 4 rFR4 false) (.seq (.region 5 rFR5 false) (.seq (.region 6 rFR6 false) (.seq (.seq (.region 7 rFR7 false) (.cond (.tmp 60) (.seq (.region 8 rFR8 false) .ret) .skip)) (.seq (.seq (.region 9 rFR9 false) (.cond (.tmp 64) (.seq (.region 10 rFR10 false) .ret) .skip)) (.seq (.region 11 rFR11 false) (.seq (.seq (.region 12 rFR12 false) (.cond (.tmp 82) (.seq (.region 13 rFR13 false) .ret) .skip)) (.seq (.seq (.region 14 rFR14 false) (.cond (.tmp 118) (.seq (.region 15 rFR15 false) .ret) .skip)) (.seq (.region 16 rFR16 false) (.seq (.region 17 rFR17 false) .ret)))))))))))
def cFR : Code := (.seq (.region 0 rFR0 false) (.seq (.seq (.region 1 rFR1 false) (.cond (.tmp 21) (.region 2 rFR2 false) .skip)) cFRB))
theorem keyLen {N : List Bt} {KEY : List (Nat × List Nat)} {b : Nat} (h : N.map Bt.key = KEY) (hl : ∀ y ∈ KEY, y.2.length ≤ b) : ∀ x ∈ N, x.ns.length ≤ b := fun x hx => hl x.key (by rw [← h]; exact List.mem_map.2 ⟨x, hx, rfl⟩)
theorem new_br {w W : World} {B cc : Nat} {ao : Option Addr} {N : List Bt} (hr : W.ownsRow B 53 2 (.slice ao N.length cc) N.length (btCs N)) (hn : ∀ x ∈ N, NewX w W x) (hl : ∀ x ∈ N, x.ns.length ≤ 1099511627000) : ∃ g, BrRow W ao g 0 N := by
  by_cases h0 : N = []
  · subst h0
    exact ⟨0, fun e => absurd rfl e, fun j x hj => by simp at hj⟩
  · obtain ⟨g, rfl, hlt⟩ := own_some (own_base hr (Nat.zero_le _)) (by intro e; exact h0 (List.eq_nil_of_length_eq_zero e))
    refine ⟨g, fun _ => ⟨rfl, hlt⟩, fun j y hy => ?_⟩
    obtain ⟨b1, b2⟩ := btCs_at [] hy
    rw [List.append_nil] at b1 b2
    have hr0 := own_base hr (Nat.zero_le _)
    have hy1 := List.mem_of_getElem? hy
    have hy2 := hn y hy1
    have := hl y hy1
    rw [Nat.zero_add]
    exact ⟨own_cell hr0 b1, own_cell hr0 b2, by rw [hy2.no]; exact hy2.row, by omega⟩
theorem marks_ge {wr W8 W9 : World} {a8 a9 : Option Addr} {c8 c9 m : Nat} {N8 N9 : List Bt} (A8 : AftAt wr W8 a8 c8 N8) (A9 : AftAt W8 W9 a9 c9 N9) (hz : wr.heap.size ≤ W8.heap.size) : ∀ k, inB (N8.map slB ++ N9.map slB) k ∨ inB [⟨a8, m, c8⟩, ⟨a9, m, c9⟩] k → wr.heap.size ≤ k := by
  rintro k (⟨i, x, hx, hk⟩ | ⟨i, x, hx, hk⟩)
  · rcases List.mem_append.1 (List.mem_of_getElem? hx) with h | h
    · obtain ⟨y, hy, rfl⟩ := List.mem_map.1 h
      exact own_blk (A8.new_ y hy).own k (blk_of.trans hk)
    · obtain ⟨y, hy, rfl⟩ := List.mem_map.1 h
      have := own_blk (A9.new_ y hy).own k (blk_of.trans hk)
      omega
  · have h := List.mem_of_getElem? hx
    simp only [List.mem_cons, List.not_mem_nil, or_false] at h
    rcases h with rfl | rfl
    · exact own_blk A8.row k (blk_of.trans hk)
    · have := own_blk A9.row k (blk_of.trans hk)
      omega
/-- Where a chain lies: not below b. -/
structure BrGe (b g : Nat) (N : List Bt) : Prop where
  row : N ≠ [] → b ≤ g
  nums : ∀ x ∈ N, x.ns ≠ [] → b ≤ x.nb
theorem BrRow.frs {W W' : World} {S : Nat → Prop} {ao : Option Addr} {g b : Nat} {N : List Bt} (h : BrRow W ao g 0 N) (f : Fr S W W') (hg : BrGe b g N) (hS : ∀ k, S k → k < b) : BrRow W' ao g 0 N := by
  have hb : N ≠ [] → ¬ S g := fun e hs => by have h1 := hS g hs; have h2 := hg.row e; omega
  refine ⟨fun e => ⟨(h.place e).1, Nat.lt_of_lt_of_le (h.place e).2 f.size⟩, fun j x hx => ?_⟩
  have hne : N ≠ [] := by intro e; rw [e] at hx; simp at hx
  obtain ⟨h1, h2, h3⟩ := h.cells j x hx
  exact ⟨(f.cell (World.block_lt_of_cell? _ _ h1) (hb hne)).trans h1, (f.cell (World.block_lt_of_cell? _ _ h2) (hb hne)).trans h2, h3.row.fr f (fun e hs => by have q1 := hS _ hs; have q2 := hg.nums x (List.mem_of_getElem? hx) e; omega), h3.hl⟩
theorem marks_lt {w1 w2 W : World} {a1 a2 : Option Addr} {c1 c2 m : Nat} {N1 N2 : List Bt} (A1 : AftAt w1 W a1 c1 N1) (A2 : AftAt w2 W a2 c2 N2) (L1 : N1.length = m) (L2 : N2.length = m) : ∀ k, inB (N1.map slB ++ N2.map slB) k ∨ inB [⟨a1, m, c1⟩, ⟨a2, m, c2⟩] k → k < W.heap.size := by
  subst L1
  have own_lt : ∀ {B n c sz k : Nat} {e : TypeId} {ao : Option Addr} {xs : List Value}, W.ownsRow B e sz (.slice ao n c) n xs → ao.map (·.block) = some k → k < W.heap.size := fun {_ _ _ _ k _ ao _} h hk => by
    cases ao with
    | none => cases hk
    | some a =>
      have := own_ge h
      have e2 : a.block = k := Option.some.inj hk
      omega
  rintro k (⟨i, x, hx, hk⟩ | ⟨i, x, hx, hk⟩)
  · rcases List.mem_append.1 (List.mem_of_getElem? hx) with h | h
    · obtain ⟨y, hy, rfl⟩ := List.mem_map.1 h
      exact own_lt (A1.new_ y hy).own hk
    · obtain ⟨y, hy, rfl⟩ := List.mem_map.1 h
      exact own_lt (A2.new_ y hy).own hk
  · have h := List.mem_of_getElem? hx
    simp only [List.mem_cons, List.not_mem_nil, or_false] at h
    rcases h with rfl | rfl
    · exact own_lt A1.row hk
    · exact own_lt (L2 ▸ A2.row) hk
/-- What Read answers. -/
def RdOut (m : Nat) (KEY : List (Nat × List Nat)) (ge : Int) (w : World) (e : Ending) (w' : World) : Prop :=
  ∃ ao cc N, e = .returned (.tuple #[.slice ao m cc, .int .i64 ge]) ∧ AftAt w w' ao cc N ∧ N.map Bt.key = KEY ∧ N.length = m ∧ Same w w'
set_option maxRecDepth 100000 in
set_option maxHeartbeats 2000000 in
theorem fr_bad {p q : Int} {fb bb ab first pages n cp : Nat} {pa : Option Addr} {er : Int} {Q : Exit → Act → World → Prop} (hQp : ∀ c (a : Act) d v w, Q (.panic c) (a.put d v) w → Q (.panic c) a w) (a0 : Act) (wr : World) (hsz : a0.tmps.size = 130) (hd : a0.defers = [])
    (h3 : a0.eval (.tmp 3) = .pointer (some ⟨fb, 0, none⟩)) (h4 : a0.eval (.tmp 4) = .pointer (some ⟨bb, 0, none⟩)) (h5 : a0.eval (.tmp 5) = .pointer (some ⟨ab, 0, none⟩))
    (d0 : wr.cell? ⟨fb, 0, none⟩ = some (.int .i64 p)) (d1 : wr.cell? ⟨fb, 1, none⟩ = some (.int .i64 q)) (b0 : wr.cell? ⟨bb, 0, none⟩ = some (.slice pa n cp)) (b1 : wr.cell? ⟨bb, 1, none⟩ = some (.int .i64 er)) (e0 : wr.cell? ⟨ab, 0, none⟩ = some (.int .u32 (first : Int))) (e1 : wr.cell? ⟨ab, 1, none⟩ = some (.int .u32 (pages : Int))) 
    (kR : ∀ Z, Same wr Z → Calls Try.prog 4 #[.agg #[.int .i64 p, .int .i64 q], .iface 33 (.pointer (some ⟨bb, 0, none⟩)), .int .u32 (first : Int), .int .u32 (pages : Int)] Z fun e w' => e = .returned (.tuple #[.slice none 0 0, .int .i64 2]) ∧ Same Z w')
    (kN : ∀ Z, Calls Try.prog 4 #[.agg #[.int .i64 p, .int .i64 q], .nilIface, .int .u32 (first : Int), .int .u32 (pages : Int)] Z fun e w' => e = .returned (.tuple #[.slice none 0 0, .int .i64 1]) ∧ Same Z w')
    (kC : ∀ Z, Same wr Z → Calls Try.prog 6 #[.agg #[.int .i64 p, .int .i64 q], .slice none 0 0, .int .u32 (pages : Int)] Z fun e w' => e = .returned (.int .i64 2) ∧ Same Z w')
    (ka : ∀ Z, Calls Try.prog 5 #[] Z fun e w' => e = .returned (.bool true) ∧ Same Z w')
    (hQ : ∀ a W, a.defers = [] → a.eval (.tmp 6) = .bool true → Same wr W → Q .ret a W) : cFRB.wp Try.prog Q a0 wr := by
  have g_0 := Fe.refl a0
  unfold cFRB
  have dd : Same wr wr.drew := (Fr.refl (fun _ => False) wr).drew
  refine wp_seq ?_
  refine wp_region_held_drew (ops := rFR3) (S := fun Z => Same wr Z) (by kernel_rfl) (dd) (fun hS0 => ?_)
  have r_1 : ∀ Z, (fun Z => Same wr Z) Z → (execOp a0.eval oQH0).run Try.prog Z = .ok (.value (.pointer (some ⟨ab, 0, none⟩))) Z := fun Z hZ => by
    unfold oQH0
    have kc : ∀ v, a0.eval (.const v) = v := fun _ => rfl
    have e5 := (show a0.eval (.tmp 5) = .pointer (some ⟨ab, 0, none⟩) from ((g_0.at_ 5).trans h5))
    clear g_0 hQ h3 h4 h5
    generalize a0.eval = ρ at *
    go_simp
  refine g_0.take 0 23 _ rfl (by kernel_rfl) (by kernel_rfl) (by kernel_rfl) (fun _ _ _ h => hQp _ _ _ _ _ h) rfl (lb_ hsz) (wn rfl) r_1 hS0 (fun x_1 g_1 => ?_)
  clear r_1 g_0
  have r_2 : ∀ Z, (fun Z => Same wr Z) Z → (execOp x_1.eval oQH1).run Try.prog Z = .ok (.value (.int .u32 (first : Int))) Z := fun Z hZ => by
    unfold oQH1
    have z0 := hZ.keep e0
    have z1 := hZ.keep e1
    have e23 : x_1.eval (.tmp 23) = .pointer (some ⟨ab, 0, none⟩) := g_1.at_ 23
    clear g_1 hQ h3 h4 h5
    generalize x_1.eval = ρ at *
    go_simp
  refine g_1.take 1 24 _ rfl (by kernel_rfl) (by kernel_rfl) (by kernel_rfl) (fun _ _ _ h => hQp _ _ _ _ _ h) rfl (lb_ hsz) (wn rfl) r_2 hS0 (fun x_2 g_2 => ?_)
  clear r_2 g_1
  have r_3 : ∀ Z, (fun Z => Same wr Z) Z → (execOp x_2.eval oQH2).run Try.prog Z = .ok (.value (.pointer (some ⟨ab, 1, none⟩))) Z := fun Z hZ => by
    unfold oQH2
    have kc : ∀ v, x_2.eval (.const v) = v := fun _ => rfl
    have e5 := (show x_2.eval (.tmp 5) = .pointer (some ⟨ab, 0, none⟩) from ((g_2.at_ 5).trans h5))
    clear g_2 hQ h3 h4 h5
    generalize x_2.eval = ρ at *
    go_simp
  refine g_2.take 2 25 _ rfl (by kernel_rfl) (by kernel_rfl) (by kernel_rfl) (fun _ _ _ h => hQp _ _ _ _ _ h) rfl (lb_ hsz) (wn rfl) r_3 hS0 (fun x_3 g_3 => ?_)
  clear r_3 g_2
  have r_4 : ∀ Z, (fun Z => Same wr Z) Z → (execOp x_3.eval oQH3).run Try.prog Z = .ok (.value (.int .u32 (pages : Int))) Z := fun Z hZ => by
    unfold oQH3
    have z0 := hZ.keep e0
    have z1 := hZ.keep e1
    have e25 : x_3.eval (.tmp 25) = .pointer (some ⟨ab, 1, none⟩) := g_3.at_ 25
    clear g_3 hQ h3 h4 h5
    generalize x_3.eval = ρ at *
    go_simp
  refine g_3.take 3 26 _ rfl (by kernel_rfl) (by kernel_rfl) (by kernel_rfl) (fun _ _ _ h => hQp _ _ _ _ _ h) rfl (lb_ hsz) (wn rfl) r_4 hS0 (fun x_4 g_4 => ?_)
  clear r_4 g_3
  refine g_4.takeMove 4 7 (.int .u32 (first : Int)) _ (Or.inr rfl) rfl (by kernel_rfl) (by kernel_rfl) (by kernel_rfl) (fun _ _ _ h => hQp _ _ _ _ _ h) rfl (lb_ hsz) (wn rfl) (g_4.at_ 24) hS0 (fun x_5 g_5 => ?_)
  clear g_4
  refine g_5.takeMove 5 8 (.int .u32 (pages : Int)) _ (Or.inr rfl) rfl (by kernel_rfl) (by kernel_rfl) (by kernel_rfl) (fun _ _ _ h => hQp _ _ _ _ _ h) rfl (lb_ hsz) (wn rfl) (g_5.at_ 26) hS0 (fun x_6 g_6 => ?_)
  clear g_5
  refine wpAnyH_done (by kernel_rfl) ?_ _
  have u1 := dd
  have d0_1 := dd.keep d0
  have d1_1 := dd.keep d1
  have b0_1 := dd.keep b0
  have b1_1 := dd.keep b1
  change Code.wp _ _ _ _ _
  refine wp_seq ?_
  refine wp_region_list ?_
  unfold rFR4
  have r_7 : (execOp x_6.eval oQH4).run Try.prog (wr.drew) = .ok (.value (.agg #[.int .i64 p, .int .i64 q])) (wr.drew) := by
    unfold oQH4
    have e3 := (show x_6.eval (.tmp 3) = .pointer (some ⟨fb, 0, none⟩) from ((g_6.at_ 3).trans h3))
    clear g_6 hQ h3 h4 h5
    generalize x_6.eval = ρ at *
    go_simp
  refine g_6.step 28 _ rfl (lb_ hsz) (wn rfl) r_7 (fun x_7 g_7 => ?_)
  clear r_7 g_6
  have r_8 : (execOp x_7.eval oQH5).run Try.prog (wr.drew) = .ok (.value (.iface 33 (.pointer (some ⟨bb, 0, none⟩)))) (wr.drew) := by
    unfold oQH5
    have e4 := (show x_7.eval (.tmp 4) = .pointer (some ⟨bb, 0, none⟩) from ((g_7.at_ 4).trans h4))
    clear g_7 hQ h3 h4 h5
    generalize x_7.eval = ρ at *
    go_simp
  refine g_7.step 29 _ rfl (lb_ hsz) (wn rfl) r_8 (fun x_8 g_8 => ?_)
  clear r_8 g_7
  refine g_8.move 30 (.int .u32 (first : Int)) _ (Or.inl rfl) rfl (lb_ hsz) (wn rfl) (g_8.at_ 7) (fun x_9 g_9 => ?_)
  clear g_8
  refine g_9.move 31 (.int .u32 (pages : Int)) _ (Or.inl rfl) rfl (lb_ hsz) (wn rfl) (g_9.at_ 8) (fun x_10 g_10 => ?_)
  clear g_9
  have r_11 : (execOp x_10.eval oQH6).run Try.prog (wr.drew) = .ok (.enter 4 #[.agg #[.int .i64 p, .int .i64 q], .iface 33 (.pointer (some ⟨bb, 0, none⟩)), .int .u32 (first : Int), .int .u32 (pages : Int)]) (wr.drew) := by
    unfold oQH6
    have kf : ∀ f, x_10.eval (.func f) = .func (.func f) #[] #[] := fun _ => rfl
    have e28 : x_10.eval (.tmp 28) = .agg #[.int .i64 p, .int .i64 q] := g_10.at_ 28
    have e29 : x_10.eval (.tmp 29) = .iface 33 (.pointer (some ⟨bb, 0, none⟩)) := g_10.at_ 29
    have e30 : x_10.eval (.tmp 30) = .int .u32 (first : Int) := g_10.at_ 30
    have e31 : x_10.eval (.tmp 31) = .int .u32 (pages : Int) := g_10.at_ 31
    clear g_10 hQ h3 h4 h5
    generalize x_10.eval = ρ at *
    go_simp
  refine g_10.call 32 rfl (lb_ hsz) (wn rfl) r_11 (kR wr.drew dd) (fun e W1 hR => ?_)
  obtain ⟨rfl, s1⟩ := hR
  clear r_11
  refine ⟨_, rfl, fun x_11 g_11 => ?_⟩
  clear g_10
  refine g_11.move 27 (.tuple #[.slice none 0 0, .int .i64 2]) _ (Or.inl rfl) rfl (lb_ hsz) (wn rfl) (g_11.at_ 32) (fun x_12 g_12 => ?_)
  clear g_11
  have r_13 : (execOp x_12.eval oQH7).run Try.prog (W1) = .ok (.value (.slice none 0 0)) (W1) := by
    unfold oQH7
    have e27 : x_12.eval (.tmp 27) = .tuple #[.slice none 0 0, .int .i64 2] := g_12.at_ 27
    clear g_12 hQ h3 h4 h5
    generalize x_12.eval = ρ at *
    go_simp
  refine g_12.step 33 _ rfl (lb_ hsz) (wn rfl) r_13 (fun x_13 g_13 => ?_)
  clear r_13 g_12
  have r_14 : (execOp x_13.eval oQH8).run Try.prog (W1) = .ok (.value (.int .i64 2)) (W1) := by
    unfold oQH8
    have e27 : x_13.eval (.tmp 27) = .tuple #[.slice none 0 0, .int .i64 2] := g_13.at_ 27
    clear g_13 hQ h3 h4 h5
    generalize x_13.eval = ρ at *
    go_simp
  refine g_13.step 34 _ rfl (lb_ hsz) (wn rfl) r_14 (fun x_14 g_14 => ?_)
  clear r_14 g_13
  refine g_14.move 9 (.slice none 0 0) _ (Or.inr rfl) rfl (lb_ hsz) (wn rfl) (g_14.at_ 33) (fun x_15 g_15 => ?_)
  clear g_14
  refine g_15.move 10 (.int .i64 2) _ (Or.inr rfl) rfl (lb_ hsz) (wn rfl) (g_15.at_ 34) (fun x_16 g_16 => ?_)
  clear g_15
  refine wpList_nil ?_
  have t1 : Same wr W1 := dd.trans s1
  have d0_2 := t1.keep d0
  have d1_2 := t1.keep d1
  have b0_2 := t1.keep b0
  have b1_2 := t1.keep b1
  change Code.wp _ _ _ _ _
  refine wp_seq ?_
  refine wp_region_list ?_
  unfold rFR5
  have r_17 : (execOp x_16.eval oQH9).run Try.prog (W1) = .ok (.value (.agg #[.int .i64 p, .int .i64 q])) (W1) := by
    unfold oQH9
    have e3 := (show x_16.eval (.tmp 3) = .pointer (some ⟨fb, 0, none⟩) from ((g_16.at_ 3).trans h3))
    clear g_16 hQ h3 h4 h5
    generalize x_16.eval = ρ at *
    go_simp
  refine g_16.step 36 _ rfl (lb_ hsz) (wn rfl) r_17 (fun x_17 g_17 => ?_)
  clear r_17 g_16
  have r_18 : (execOp x_17.eval oQH10).run Try.prog (W1) = .ok (.value (.iface 33 (.pointer (some ⟨bb, 0, none⟩)))) (W1) := by
    unfold oQH10
    have e4 := (show x_17.eval (.tmp 4) = .pointer (some ⟨bb, 0, none⟩) from ((g_17.at_ 4).trans h4))
    clear g_17 hQ h3 h4 h5
    generalize x_17.eval = ρ at *
    go_simp
  refine g_17.step 37 _ rfl (lb_ hsz) (wn rfl) r_18 (fun x_18 g_18 => ?_)
  clear r_18 g_17
  refine g_18.move 38 (.int .u32 (first : Int)) _ (Or.inl rfl) rfl (lb_ hsz) (wn rfl) (g_18.at_ 7) (fun x_19 g_19 => ?_)
  clear g_18
  refine g_19.move 39 (.int .u32 (pages : Int)) _ (Or.inl rfl) rfl (lb_ hsz) (wn rfl) (g_19.at_ 8) (fun x_20 g_20 => ?_)
  clear g_19
  have r_21 : (execOp x_20.eval oQH11).run Try.prog (W1) = .ok (.enter 4 #[.agg #[.int .i64 p, .int .i64 q], .iface 33 (.pointer (some ⟨bb, 0, none⟩)), .int .u32 (first : Int), .int .u32 (pages : Int)]) (W1) := by
    unfold oQH11
    have kf : ∀ f, x_20.eval (.func f) = .func (.func f) #[] #[] := fun _ => rfl
    have e36 : x_20.eval (.tmp 36) = .agg #[.int .i64 p, .int .i64 q] := g_20.at_ 36
    have e37 : x_20.eval (.tmp 37) = .iface 33 (.pointer (some ⟨bb, 0, none⟩)) := g_20.at_ 37
    have e38 : x_20.eval (.tmp 38) = .int .u32 (first : Int) := g_20.at_ 38
    have e39 : x_20.eval (.tmp 39) = .int .u32 (pages : Int) := g_20.at_ 39
    clear g_20 hQ h3 h4 h5
    generalize x_20.eval = ρ at *
    go_simp
  refine g_20.call 40 rfl (lb_ hsz) (wn rfl) r_21 (kR W1 t1) (fun e W2 hR => ?_)
  obtain ⟨rfl, s2⟩ := hR
  clear r_21
  refine ⟨_, rfl, fun x_21 g_21 => ?_⟩
  clear g_20
  refine g_21.move 35 (.tuple #[.slice none 0 0, .int .i64 2]) _ (Or.inl rfl) rfl (lb_ hsz) (wn rfl) (g_21.at_ 40) (fun x_22 g_22 => ?_)
  clear g_21
  have r_23 : (execOp x_22.eval oQH12).run Try.prog (W2) = .ok (.value (.slice none 0 0)) (W2) := by
    unfold oQH12
    have e35 : x_22.eval (.tmp 35) = .tuple #[.slice none 0 0, .int .i64 2] := g_22.at_ 35
    clear g_22 hQ h3 h4 h5
    generalize x_22.eval = ρ at *
    go_simp
  refine g_22.step 41 _ rfl (lb_ hsz) (wn rfl) r_23 (fun x_23 g_23 => ?_)
  clear r_23 g_22
  have r_24 : (execOp x_23.eval oQH13).run Try.prog (W2) = .ok (.value (.int .i64 2)) (W2) := by
    unfold oQH13
    have e35 : x_23.eval (.tmp 35) = .tuple #[.slice none 0 0, .int .i64 2] := g_23.at_ 35
    clear g_23 hQ h3 h4 h5
    generalize x_23.eval = ρ at *
    go_simp
  refine g_23.step 42 _ rfl (lb_ hsz) (wn rfl) r_24 (fun x_24 g_24 => ?_)
  clear r_24 g_23
  refine g_24.move 11 (.slice none 0 0) _ (Or.inr rfl) rfl (lb_ hsz) (wn rfl) (g_24.at_ 41) (fun x_25 g_25 => ?_)
  clear g_24
  refine g_25.move 12 (.int .i64 2) _ (Or.inr rfl) rfl (lb_ hsz) (wn rfl) (g_25.at_ 42) (fun x_26 g_26 => ?_)
  clear g_25
  refine wpList_nil ?_
  have t2 : Same wr W2 := t1.trans s2
  have d0_3 := t2.keep d0
  have d1_3 := t2.keep d1
  have b0_3 := t2.keep b0
  have b1_3 := t2.keep b1
  change Code.wp _ _ _ _ _
  refine wp_seq ?_
  refine wp_region_list ?_
  unfold rFR6
  have r_27 : (execOp x_26.eval oQH14).run Try.prog (W2) = .ok (.value (.agg #[.int .i64 p, .int .i64 q])) (W2) := by
    unfold oQH14
    have e3 := (show x_26.eval (.tmp 3) = .pointer (some ⟨fb, 0, none⟩) from ((g_26.at_ 3).trans h3))
    clear g_26 hQ h3 h4 h5
    generalize x_26.eval = ρ at *
    go_simp
  refine g_26.step 44 _ rfl (lb_ hsz) (wn rfl) r_27 (fun x_27 g_27 => ?_)
  clear r_27 g_26
  refine g_27.move 45 (.int .u32 (first : Int)) _ (Or.inl rfl) rfl (lb_ hsz) (wn rfl) (g_27.at_ 7) (fun x_28 g_28 => ?_)
  clear g_27
  refine g_28.move 46 (.int .u32 (pages : Int)) _ (Or.inl rfl) rfl (lb_ hsz) (wn rfl) (g_28.at_ 8) (fun x_29 g_29 => ?_)
  clear g_28
  have r_30 : (execOp x_29.eval oQH15).run Try.prog (W2) = .ok (.enter 4 #[.agg #[.int .i64 p, .int .i64 q], Value.nilIface, .int .u32 (first : Int), .int .u32 (pages : Int)]) (W2) := by
    unfold oQH15
    have kc : ∀ v, x_29.eval (.const v) = v := fun _ => rfl
    have kf : ∀ f, x_29.eval (.func f) = .func (.func f) #[] #[] := fun _ => rfl
    have e44 : x_29.eval (.tmp 44) = .agg #[.int .i64 p, .int .i64 q] := g_29.at_ 44
    have e45 : x_29.eval (.tmp 45) = .int .u32 (first : Int) := g_29.at_ 45
    have e46 : x_29.eval (.tmp 46) = .int .u32 (pages : Int) := g_29.at_ 46
    clear g_29 hQ h3 h4 h5
    generalize x_29.eval = ρ at *
    go_simp
  refine g_29.call 47 rfl (lb_ hsz) (wn rfl) r_30 (kN W2) (fun e W3 hR => ?_)
  obtain ⟨rfl, s3⟩ := hR
  clear r_30
  refine ⟨_, rfl, fun x_30 g_30 => ?_⟩
  clear g_29
  refine g_30.move 43 (.tuple #[.slice none 0 0, .int .i64 1]) _ (Or.inl rfl) rfl (lb_ hsz) (wn rfl) (g_30.at_ 47) (fun x_31 g_31 => ?_)
  clear g_30
  have r_32 : (execOp x_31.eval oQH16).run Try.prog (W3) = .ok (.value (.slice none 0 0)) (W3) := by
    unfold oQH16
    have e43 : x_31.eval (.tmp 43) = .tuple #[.slice none 0 0, .int .i64 1] := g_31.at_ 43
    clear g_31 hQ h3 h4 h5
    generalize x_31.eval = ρ at *
    go_simp
  refine g_31.step 48 _ rfl (lb_ hsz) (wn rfl) r_32 (fun x_32 g_32 => ?_)
  clear r_32 g_31
  have r_33 : (execOp x_32.eval oQH17).run Try.prog (W3) = .ok (.value (.int .i64 1)) (W3) := by
    unfold oQH17
    have e43 : x_32.eval (.tmp 43) = .tuple #[.slice none 0 0, .int .i64 1] := g_32.at_ 43
    clear g_32 hQ h3 h4 h5
    generalize x_32.eval = ρ at *
    go_simp
  refine g_32.step 49 _ rfl (lb_ hsz) (wn rfl) r_33 (fun x_33 g_33 => ?_)
  clear r_33 g_32
  refine g_33.move 13 (.slice none 0 0) _ (Or.inr rfl) rfl (lb_ hsz) (wn rfl) (g_33.at_ 48) (fun x_34 g_34 => ?_)
  clear g_33
  refine g_34.move 14 (.int .i64 1) _ (Or.inr rfl) rfl (lb_ hsz) (wn rfl) (g_34.at_ 49) (fun x_35 g_35 => ?_)
  clear g_34
  refine wpList_nil ?_
  have t3 : Same wr W3 := t2.trans s3
  have nGG : ((2 : Int) != 2) = false := by simp
  change Code.wp _ _ _ _ _
  refine wp_seq (wp_seq ?_)
  refine wp_region_list ?_
  unfold rFR7
  refine g_35.move 50 (.int .i64 1) _ (Or.inl rfl) rfl (lb_ hsz) (wn rfl) (g_35.at_ 14) (fun x_36 g_36 => ?_)
  clear g_35
  have r_37 : (execOp x_36.eval oQH18).run Try.prog (W3) = .ok (.value (.bool false)) (W3) := by
    unfold oQH18
    have kc : ∀ v, x_36.eval (.const v) = v := fun _ => rfl
    have e50 : x_36.eval (.tmp 50) = .int .i64 1 := g_36.at_ 50
    clear g_36 hQ h3 h4 h5
    generalize x_36.eval = ρ at *
    go_simp
  refine g_36.step 51 _ rfl (lb_ hsz) (wn rfl) r_37 (fun x_37 g_37 => ?_)
  clear r_37 g_36
  refine g_37.move 52 (.bool false) _ (Or.inl rfl) rfl (lb_ hsz) (wn rfl) (g_37.at_ 51) (fun x_38 g_38 => ?_)
  clear g_37
  have r_39 : (execOp x_38.eval oQH19).run Try.prog (W3) = .ok (.enter 5 #[]) (W3) := by
    unfold oQH19
    have kf : ∀ f, x_38.eval (.func f) = .func (.func f) #[] #[] := fun _ => rfl
    clear g_38 hQ h3 h4 h5
    generalize x_38.eval = ρ at *
    go_simp
  refine g_38.call 53 rfl (lb_ hsz) ((wanted_at (t := 52) (c := false) (b := false) rfl rfl rfl (lb_ (g_38.size.trans hsz)) (g_38.at_ 52)).trans (by rfl)) r_39 (ka W3) (fun e W4 hR => ?_)
  obtain ⟨rfl, s4⟩ := hR
  clear r_39
  refine ⟨_, rfl, fun x_39 g_39 => ?_⟩
  clear g_38
  have r_40 : (execOp x_39.eval oQH20).run Try.prog (W4) = .ok (.value (.bool false)) (W4) := by
    unfold oQH20
    have e53 : x_39.eval (.tmp 53) = .bool true := g_39.at_ 53
    clear g_39 hQ h3 h4 h5
    generalize x_39.eval = ρ at *
    go_simp
  refine g_39.step 54 _ rfl (lb_ hsz) ((wanted_at (t := 52) (c := false) (b := false) rfl rfl rfl (lb_ (g_39.size.trans hsz)) (g_39.at_ 52)).trans (by rfl)) r_40 (fun x_40 g_40 => ?_)
  clear r_40 g_39
  have r_41 : (execOp x_40.eval oQH21).run Try.prog (W4) = .ok (.value (.bool false)) (W4) := by
    unfold oQH21
    have kc : ∀ v, x_40.eval (.const v) = v := fun _ => rfl
    have e52 : x_40.eval (.tmp 52) = .bool false := g_40.at_ 52
    have e54 : x_40.eval (.tmp 54) = .bool false := g_40.at_ 54
    clear g_40 hQ h3 h4 h5
    generalize x_40.eval = ρ at *
    go_simp
  refine g_40.step 55 _ rfl (lb_ hsz) (wn rfl) r_41 (fun x_41 g_41 => ?_)
  clear r_41 g_40
  refine g_41.move 56 (.bool false) _ (Or.inl rfl) rfl (lb_ hsz) (wn rfl) (g_41.at_ 55) (fun x_42 g_42 => ?_)
  clear g_41
  refine g_42.move 57 (.int .i64 2) _ (Or.inl rfl) rfl (lb_ hsz) ((wanted_at (t := 56) (c := false) (b := false) rfl rfl rfl (lb_ (g_42.size.trans hsz)) (g_42.at_ 56)).trans (by rfl)) (g_42.at_ 10) (fun x_43 g_43 => ?_)
  clear g_42
  refine g_43.move 58 (.int .i64 2) _ (Or.inl rfl) rfl (lb_ hsz) ((wanted_at (t := 56) (c := false) (b := false) rfl rfl rfl (lb_ (g_43.size.trans hsz)) (g_43.at_ 56)).trans (by rfl)) (g_43.at_ 12) (fun x_44 g_44 => ?_)
  clear g_43
  have r_45 : (execOp x_44.eval oQH22).run Try.prog (W4) = .ok (.value (.bool false)) (W4) := by
    unfold oQH22
    have e57 : x_44.eval (.tmp 57) = .int .i64 2 := g_44.at_ 57
    have e58 : x_44.eval (.tmp 58) = .int .i64 2 := g_44.at_ 58
    clear g_44 hQ h3 h4 h5
    generalize x_44.eval = ρ at *
    go_simp
  refine g_44.step 59 _ rfl (lb_ hsz) ((wanted_at (t := 56) (c := false) (b := false) rfl rfl rfl (lb_ (g_44.size.trans hsz)) (g_44.at_ 56)).trans (by rfl)) r_45 (fun x_45 g_45 => ?_)
  clear r_45 g_44
  have r_46 : (execOp x_45.eval oQH23).run Try.prog (W4) = .ok (.value (.bool false)) (W4) := by
    unfold oQH23
    have kc : ∀ v, x_45.eval (.const v) = v := fun _ => rfl
    have e56 : x_45.eval (.tmp 56) = .bool false := g_45.at_ 56
    have e59 : x_45.eval (.tmp 59) = .bool false := g_45.at_ 59
    clear g_45 hQ h3 h4 h5
    generalize x_45.eval = ρ at *
    go_simp
  refine g_45.step 60 _ rfl (lb_ hsz) (wn rfl) r_46 (fun x_46 g_46 => ?_)
  clear r_46 g_45
  refine wpList_nil ?_
  have t4 : Same wr W4 := t3.trans s4
  have d0_4 := t4.keep d0
  have d1_4 := t4.keep d1
  have b0_4 := t4.keep b0
  have b1_4 := t4.keep b1
  change Code.wp _ _ _ _ _
  refine wp_cond_false (show x_46.eval (.tmp 60) = .bool false from (g_46.at_ 60)) (wp_skip ?_)
  change Code.wp _ _ _ _ _
  refine wp_seq (wp_seq ?_)
  refine wp_region_list ?_
  unfold rFR9
  have r_47 : (execOp x_46.eval oQH24).run Try.prog (W4) = .ok (.value (.agg #[.int .i64 p, .int .i64 q])) (W4) := by
    unfold oQH24
    have e3 := (show x_46.eval (.tmp 3) = .pointer (some ⟨fb, 0, none⟩) from ((g_46.at_ 3).trans h3))
    clear g_46 hQ h3 h4 h5
    generalize x_46.eval = ρ at *
    go_simp
  refine g_46.step 61 _ rfl (lb_ hsz) (wn rfl) r_47 (fun x_47 g_47 => ?_)
  clear r_47 g_46
  refine g_47.move 62 (.int .u32 (pages : Int)) _ (Or.inl rfl) rfl (lb_ hsz) (wn rfl) (g_47.at_ 8) (fun x_48 g_48 => ?_)
  clear g_47
  have r_49 : (execOp x_48.eval oQH25).run Try.prog (W4) = .ok (.enter 6 #[.agg #[.int .i64 p, .int .i64 q], Value.slice none 0 0, .int .u32 (pages : Int)]) (W4) := by
    unfold oQH25
    have kc : ∀ v, x_48.eval (.const v) = v := fun _ => rfl
    have kf : ∀ f, x_48.eval (.func f) = .func (.func f) #[] #[] := fun _ => rfl
    have e61 : x_48.eval (.tmp 61) = .agg #[.int .i64 p, .int .i64 q] := g_48.at_ 61
    have e62 : x_48.eval (.tmp 62) = .int .u32 (pages : Int) := g_48.at_ 62
    clear g_48 hQ h3 h4 h5
    generalize x_48.eval = ρ at *
    go_simp
  refine g_48.call 63 rfl (lb_ hsz) (wn rfl) r_49 (kC W4 t4) (fun e W5 hR => ?_)
  obtain ⟨rfl, s5⟩ := hR
  clear r_49
  refine ⟨_, rfl, fun x_49 g_49 => ?_⟩
  clear g_48
  have r_50 : (execOp x_49.eval oQH26).run Try.prog (W5) = .ok (.value (.bool true)) (W5) := by
    unfold oQH26
    have kc : ∀ v, x_49.eval (.const v) = v := fun _ => rfl
    have e63 : x_49.eval (.tmp 63) = .int .i64 2 := g_49.at_ 63
    clear g_49 hQ h3 h4 h5
    generalize x_49.eval = ρ at *
    go_simp
  refine g_49.step 64 _ rfl (lb_ hsz) (wn rfl) r_50 (fun x_50 g_50 => ?_)
  clear r_50 g_49
  refine wpList_nil ?_
  have t5 : Same wr W5 := t4.trans s5
  change Code.wp _ _ _ _ _
  refine wp_cond_true (show x_50.eval (.tmp 64) = .bool true from (g_50.at_ 64)) (wp_seq ?_)
  refine wp_region_list ?_
  unfold rFR10
  refine g_50.move 65 (.int .i64 2) _ (Or.inl rfl) rfl (lb_ hsz) (wn rfl) (g_50.at_ 10) (fun x_51 g_51 => ?_)
  clear g_50
  have r_52 : (execOp x_51.eval oQH27).run Try.prog (W5) = .ok (.value (.bool true)) (W5) := by
    unfold oQH27
    have kc : ∀ v, x_51.eval (.const v) = v := fun _ => rfl
    have e65 : x_51.eval (.tmp 65) = .int .i64 2 := g_51.at_ 65
    clear g_51 hQ h3 h4 h5
    generalize x_51.eval = ρ at *
    go_simp
  refine g_51.step 66 _ rfl (lb_ hsz) (wn rfl) r_52 (fun x_52 g_52 => ?_)
  clear r_52 g_51
  refine g_52.move 67 (.bool true) _ (Or.inl rfl) rfl (lb_ hsz) (wn rfl) (g_52.at_ 66) (fun x_53 g_53 => ?_)
  clear g_52
  refine g_53.move 68 (.slice none 0 0) _ (Or.inl rfl) rfl (lb_ hsz) ((wanted_at (t := 67) (c := true) (b := true) rfl rfl rfl (lb_ (g_53.size.trans hsz)) (g_53.at_ 67)).trans (by rfl)) (g_53.at_ 9) (fun x_54 g_54 => ?_)
  clear g_53
  have r_55 : (execOp x_54.eval oQH28).run Try.prog (W5) = .ok (.value (.int .i64 0)) (W5) := by
    unfold oQH28
    have e68 : x_54.eval (.tmp 68) = .slice none 0 0 := g_54.at_ 68
    clear g_54 hQ h3 h4 h5
    generalize x_54.eval = ρ at *
    go_simp
  refine g_54.step 69 _ rfl (lb_ hsz) ((wanted_at (t := 67) (c := true) (b := true) rfl rfl rfl (lb_ (g_54.size.trans hsz)) (g_54.at_ 67)).trans (by rfl)) r_55 (fun x_55 g_55 => ?_)
  clear r_55 g_54
  have r_56 : (execOp x_55.eval oQH29).run Try.prog (W5) = .ok (.value (.bool true)) (W5) := by
    unfold oQH29
    have kc : ∀ v, x_55.eval (.const v) = v := fun _ => rfl
    have e69 : x_55.eval (.tmp 69) = .int .i64 0 := g_55.at_ 69
    clear g_55 hQ h3 h4 h5
    generalize x_55.eval = ρ at *
    go_simp
  refine g_55.step 70 _ rfl (lb_ hsz) ((wanted_at (t := 67) (c := true) (b := true) rfl rfl rfl (lb_ (g_55.size.trans hsz)) (g_55.at_ 67)).trans (by rfl)) r_56 (fun x_56 g_56 => ?_)
  clear r_56 g_55
  have r_57 : (execOp x_56.eval oQH30).run Try.prog (W5) = .ok (.value (.bool true)) (W5) := by
    unfold oQH30
    have kc : ∀ v, x_56.eval (.const v) = v := fun _ => rfl
    have e67 : x_56.eval (.tmp 67) = .bool true := g_56.at_ 67
    have e70 : x_56.eval (.tmp 70) = .bool true := g_56.at_ 70
    clear g_56 hQ h3 h4 h5
    generalize x_56.eval = ρ at *
    go_simp
  refine g_56.step 71 _ rfl (lb_ hsz) (wn rfl) r_57 (fun x_57 g_57 => ?_)
  clear r_57 g_56
  refine g_57.move 6 (.bool true) _ (Or.inr rfl) rfl (lb_ hsz) (wn rfl) (g_57.at_ 71) (fun x_58 g_58 => ?_)
  clear g_57
  refine wpList_nil ?_
  change Code.wp _ _ _ _ _
  refine wp_ret ?_
  exact hQ x_58 W5 (g_58.defers.trans hd) (show x_58.eval (.tmp 6) = .bool true from (g_58.at_ 6)) t5
set_option maxRecDepth 100000 in
set_option maxHeartbeats 2000000 in
theorem fr_none {p q : Int} {fb bb ab first pages n cp : Nat} {pa : Option Addr} {er : Int} {Q : Exit → Act → World → Prop} (hQp : ∀ c (a : Act) d v w, Q (.panic c) (a.put d v) w → Q (.panic c) a w) (a0 : Act) (wr : World) (hsz : a0.tmps.size = 130) (hd : a0.defers = [])
    (h3 : a0.eval (.tmp 3) = .pointer (some ⟨fb, 0, none⟩)) (h4 : a0.eval (.tmp 4) = .pointer (some ⟨bb, 0, none⟩)) (h5 : a0.eval (.tmp 5) = .pointer (some ⟨ab, 0, none⟩))
    (d0 : wr.cell? ⟨fb, 0, none⟩ = some (.int .i64 p)) (d1 : wr.cell? ⟨fb, 1, none⟩ = some (.int .i64 q)) (b0 : wr.cell? ⟨bb, 0, none⟩ = some (.slice pa n cp)) (b1 : wr.cell? ⟨bb, 1, none⟩ = some (.int .i64 er)) (e0 : wr.cell? ⟨ab, 0, none⟩ = some (.int .u32 (first : Int))) (e1 : wr.cell? ⟨ab, 1, none⟩ = some (.int .u32 (pages : Int))) 
    (kR : ∀ Z, Same wr Z → Calls Try.prog 4 #[.agg #[.int .i64 p, .int .i64 q], .iface 33 (.pointer (some ⟨bb, 0, none⟩)), .int .u32 (first : Int), .int .u32 (pages : Int)] Z fun e w' => RdOut 0 [] er Z e w')
    (kN : ∀ Z, Calls Try.prog 4 #[.agg #[.int .i64 p, .int .i64 q], .nilIface, .int .u32 (first : Int), .int .u32 (pages : Int)] Z fun e w' => e = .returned (.tuple #[.slice none 0 0, .int .i64 1]) ∧ Same Z w')
    (kC : ∀ Z, Same wr Z → Calls Try.prog 6 #[.agg #[.int .i64 p, .int .i64 q], .slice none 0 0, .int .u32 (pages : Int)] Z fun e w' => e = .returned (.int .i64 0) ∧ Same Z w')
    (kD : ∀ Z, Same wr Z → Calls Try.prog 7 #[.agg #[.int .i64 p, .int .i64 q], .slice pa n cp, .int .u32 (first : Int), .int .u32 (pages : Int)] Z fun e w' => (∃ ow cw, e = .returned (.tuple #[.slice ow 0 cw, .int .i64 (-1)])) ∧ Same Z w')
    (ka : ∀ Z, Calls Try.prog 5 #[] Z fun e w' => e = .returned (.bool true) ∧ Same Z w')
    (hQ : ∀ a W, a.defers = [] → a.eval (.tmp 6) = .bool true → Same wr W → Q .ret a W) : cFRB.wp Try.prog Q a0 wr := by
  have g_0 := Fe.refl a0
  unfold cFRB
  have dd : Same wr wr.drew := (Fr.refl (fun _ => False) wr).drew
  refine wp_seq ?_
  refine wp_region_held_drew (ops := rFR3) (S := fun Z => Same wr Z) (by kernel_rfl) (dd) (fun hS0 => ?_)
  have r_1 : ∀ Z, (fun Z => Same wr Z) Z → (execOp a0.eval oQH0).run Try.prog Z = .ok (.value (.pointer (some ⟨ab, 0, none⟩))) Z := fun Z hZ => by
    unfold oQH0
    have kc : ∀ v, a0.eval (.const v) = v := fun _ => rfl
    have e5 := (show a0.eval (.tmp 5) = .pointer (some ⟨ab, 0, none⟩) from ((g_0.at_ 5).trans h5))
    clear g_0 hQ h3 h4 h5
    generalize a0.eval = ρ at *
    go_simp
  refine g_0.take 0 23 _ rfl (by kernel_rfl) (by kernel_rfl) (by kernel_rfl) (fun _ _ _ h => hQp _ _ _ _ _ h) rfl (lb_ hsz) (wn rfl) r_1 hS0 (fun x_1 g_1 => ?_)
  clear r_1 g_0
  have r_2 : ∀ Z, (fun Z => Same wr Z) Z → (execOp x_1.eval oQH1).run Try.prog Z = .ok (.value (.int .u32 (first : Int))) Z := fun Z hZ => by
    unfold oQH1
    have z0 := hZ.keep e0
    have z1 := hZ.keep e1
    have e23 : x_1.eval (.tmp 23) = .pointer (some ⟨ab, 0, none⟩) := g_1.at_ 23
    clear g_1 hQ h3 h4 h5
    generalize x_1.eval = ρ at *
    go_simp
  refine g_1.take 1 24 _ rfl (by kernel_rfl) (by kernel_rfl) (by kernel_rfl) (fun _ _ _ h => hQp _ _ _ _ _ h) rfl (lb_ hsz) (wn rfl) r_2 hS0 (fun x_2 g_2 => ?_)
  clear r_2 g_1
  have r_3 : ∀ Z, (fun Z => Same wr Z) Z → (execOp x_2.eval oQH2).run Try.prog Z = .ok (.value (.pointer (some ⟨ab, 1, none⟩))) Z := fun Z hZ => by
    unfold oQH2
    have kc : ∀ v, x_2.eval (.const v) = v := fun _ => rfl
    have e5 := (show x_2.eval (.tmp 5) = .pointer (some ⟨ab, 0, none⟩) from ((g_2.at_ 5).trans h5))
    clear g_2 hQ h3 h4 h5
    generalize x_2.eval = ρ at *
    go_simp
  refine g_2.take 2 25 _ rfl (by kernel_rfl) (by kernel_rfl) (by kernel_rfl) (fun _ _ _ h => hQp _ _ _ _ _ h) rfl (lb_ hsz) (wn rfl) r_3 hS0 (fun x_3 g_3 => ?_)
  clear r_3 g_2
  have r_4 : ∀ Z, (fun Z => Same wr Z) Z → (execOp x_3.eval oQH3).run Try.prog Z = .ok (.value (.int .u32 (pages : Int))) Z := fun Z hZ => by
    unfold oQH3
    have z0 := hZ.keep e0
    have z1 := hZ.keep e1
    have e25 : x_3.eval (.tmp 25) = .pointer (some ⟨ab, 1, none⟩) := g_3.at_ 25
    clear g_3 hQ h3 h4 h5
    generalize x_3.eval = ρ at *
    go_simp
  refine g_3.take 3 26 _ rfl (by kernel_rfl) (by kernel_rfl) (by kernel_rfl) (fun _ _ _ h => hQp _ _ _ _ _ h) rfl (lb_ hsz) (wn rfl) r_4 hS0 (fun x_4 g_4 => ?_)
  clear r_4 g_3
  refine g_4.takeMove 4 7 (.int .u32 (first : Int)) _ (Or.inr rfl) rfl (by kernel_rfl) (by kernel_rfl) (by kernel_rfl) (fun _ _ _ h => hQp _ _ _ _ _ h) rfl (lb_ hsz) (wn rfl) (g_4.at_ 24) hS0 (fun x_5 g_5 => ?_)
  clear g_4
  refine g_5.takeMove 5 8 (.int .u32 (pages : Int)) _ (Or.inr rfl) rfl (by kernel_rfl) (by kernel_rfl) (by kernel_rfl) (fun _ _ _ h => hQp _ _ _ _ _ h) rfl (lb_ hsz) (wn rfl) (g_5.at_ 26) hS0 (fun x_6 g_6 => ?_)
  clear g_5
  refine wpAnyH_done (by kernel_rfl) ?_ _
  have u1 := dd
  have d0_1 := dd.keep d0
  have d1_1 := dd.keep d1
  have b0_1 := dd.keep b0
  have b1_1 := dd.keep b1
  change Code.wp _ _ _ _ _
  refine wp_seq ?_
  refine wp_region_list ?_
  unfold rFR4
  have r_7 : (execOp x_6.eval oQH4).run Try.prog (wr.drew) = .ok (.value (.agg #[.int .i64 p, .int .i64 q])) (wr.drew) := by
    unfold oQH4
    have e3 := (show x_6.eval (.tmp 3) = .pointer (some ⟨fb, 0, none⟩) from ((g_6.at_ 3).trans h3))
    clear g_6 hQ h3 h4 h5
    generalize x_6.eval = ρ at *
    go_simp
  refine g_6.step 28 _ rfl (lb_ hsz) (wn rfl) r_7 (fun x_7 g_7 => ?_)
  clear r_7 g_6
  have r_8 : (execOp x_7.eval oQH5).run Try.prog (wr.drew) = .ok (.value (.iface 33 (.pointer (some ⟨bb, 0, none⟩)))) (wr.drew) := by
    unfold oQH5
    have e4 := (show x_7.eval (.tmp 4) = .pointer (some ⟨bb, 0, none⟩) from ((g_7.at_ 4).trans h4))
    clear g_7 hQ h3 h4 h5
    generalize x_7.eval = ρ at *
    go_simp
  refine g_7.step 29 _ rfl (lb_ hsz) (wn rfl) r_8 (fun x_8 g_8 => ?_)
  clear r_8 g_7
  refine g_8.move 30 (.int .u32 (first : Int)) _ (Or.inl rfl) rfl (lb_ hsz) (wn rfl) (g_8.at_ 7) (fun x_9 g_9 => ?_)
  clear g_8
  refine g_9.move 31 (.int .u32 (pages : Int)) _ (Or.inl rfl) rfl (lb_ hsz) (wn rfl) (g_9.at_ 8) (fun x_10 g_10 => ?_)
  clear g_9
  have r_11 : (execOp x_10.eval oQH6).run Try.prog (wr.drew) = .ok (.enter 4 #[.agg #[.int .i64 p, .int .i64 q], .iface 33 (.pointer (some ⟨bb, 0, none⟩)), .int .u32 (first : Int), .int .u32 (pages : Int)]) (wr.drew) := by
    unfold oQH6
    have kf : ∀ f, x_10.eval (.func f) = .func (.func f) #[] #[] := fun _ => rfl
    have e28 : x_10.eval (.tmp 28) = .agg #[.int .i64 p, .int .i64 q] := g_10.at_ 28
    have e29 : x_10.eval (.tmp 29) = .iface 33 (.pointer (some ⟨bb, 0, none⟩)) := g_10.at_ 29
    have e30 : x_10.eval (.tmp 30) = .int .u32 (first : Int) := g_10.at_ 30
    have e31 : x_10.eval (.tmp 31) = .int .u32 (pages : Int) := g_10.at_ 31
    clear g_10 hQ h3 h4 h5
    generalize x_10.eval = ρ at *
    go_simp
  refine g_10.call 32 rfl (lb_ hsz) (wn rfl) r_11 (kR wr.drew dd) (fun e W1 hR => ?_)
  obtain ⟨a1, c1, N1, rfl, A1, K1, L1, s1⟩ := hR
  clear r_11
  refine ⟨_, rfl, fun x_11 g_11 => ?_⟩
  clear g_10
  refine g_11.move 27 (.tuple #[.slice a1 0 c1, .int .i64 er]) _ (Or.inl rfl) rfl (lb_ hsz) (wn rfl) (g_11.at_ 32) (fun x_12 g_12 => ?_)
  clear g_11
  have r_13 : (execOp x_12.eval oQH7).run Try.prog (W1) = .ok (.value (.slice a1 0 c1)) (W1) := by
    unfold oQH7
    have e27 : x_12.eval (.tmp 27) = .tuple #[.slice a1 0 c1, .int .i64 er] := g_12.at_ 27
    clear g_12 hQ h3 h4 h5
    generalize x_12.eval = ρ at *
    go_simp
  refine g_12.step 33 _ rfl (lb_ hsz) (wn rfl) r_13 (fun x_13 g_13 => ?_)
  clear r_13 g_12
  have r_14 : (execOp x_13.eval oQH8).run Try.prog (W1) = .ok (.value (.int .i64 er)) (W1) := by
    unfold oQH8
    have e27 : x_13.eval (.tmp 27) = .tuple #[.slice a1 0 c1, .int .i64 er] := g_13.at_ 27
    clear g_13 hQ h3 h4 h5
    generalize x_13.eval = ρ at *
    go_simp
  refine g_13.step 34 _ rfl (lb_ hsz) (wn rfl) r_14 (fun x_14 g_14 => ?_)
  clear r_14 g_13
  refine g_14.move 9 (.slice a1 0 c1) _ (Or.inr rfl) rfl (lb_ hsz) (wn rfl) (g_14.at_ 33) (fun x_15 g_15 => ?_)
  clear g_14
  refine g_15.move 10 (.int .i64 er) _ (Or.inr rfl) rfl (lb_ hsz) (wn rfl) (g_15.at_ 34) (fun x_16 g_16 => ?_)
  clear g_15
  refine wpList_nil ?_
  have t1 : Same wr W1 := dd.trans s1
  have d0_2 := t1.keep d0
  have d1_2 := t1.keep d1
  have b0_2 := t1.keep b0
  have b1_2 := t1.keep b1
  change Code.wp _ _ _ _ _
  refine wp_seq ?_
  refine wp_region_list ?_
  unfold rFR5
  have r_17 : (execOp x_16.eval oQH9).run Try.prog (W1) = .ok (.value (.agg #[.int .i64 p, .int .i64 q])) (W1) := by
    unfold oQH9
    have e3 := (show x_16.eval (.tmp 3) = .pointer (some ⟨fb, 0, none⟩) from ((g_16.at_ 3).trans h3))
    clear g_16 hQ h3 h4 h5
    generalize x_16.eval = ρ at *
    go_simp
  refine g_16.step 36 _ rfl (lb_ hsz) (wn rfl) r_17 (fun x_17 g_17 => ?_)
  clear r_17 g_16
  have r_18 : (execOp x_17.eval oQH10).run Try.prog (W1) = .ok (.value (.iface 33 (.pointer (some ⟨bb, 0, none⟩)))) (W1) := by
    unfold oQH10
    have e4 := (show x_17.eval (.tmp 4) = .pointer (some ⟨bb, 0, none⟩) from ((g_17.at_ 4).trans h4))
    clear g_17 hQ h3 h4 h5
    generalize x_17.eval = ρ at *
    go_simp
  refine g_17.step 37 _ rfl (lb_ hsz) (wn rfl) r_18 (fun x_18 g_18 => ?_)
  clear r_18 g_17
  refine g_18.move 38 (.int .u32 (first : Int)) _ (Or.inl rfl) rfl (lb_ hsz) (wn rfl) (g_18.at_ 7) (fun x_19 g_19 => ?_)
  clear g_18
  refine g_19.move 39 (.int .u32 (pages : Int)) _ (Or.inl rfl) rfl (lb_ hsz) (wn rfl) (g_19.at_ 8) (fun x_20 g_20 => ?_)
  clear g_19
  have r_21 : (execOp x_20.eval oQH11).run Try.prog (W1) = .ok (.enter 4 #[.agg #[.int .i64 p, .int .i64 q], .iface 33 (.pointer (some ⟨bb, 0, none⟩)), .int .u32 (first : Int), .int .u32 (pages : Int)]) (W1) := by
    unfold oQH11
    have kf : ∀ f, x_20.eval (.func f) = .func (.func f) #[] #[] := fun _ => rfl
    have e36 : x_20.eval (.tmp 36) = .agg #[.int .i64 p, .int .i64 q] := g_20.at_ 36
    have e37 : x_20.eval (.tmp 37) = .iface 33 (.pointer (some ⟨bb, 0, none⟩)) := g_20.at_ 37
    have e38 : x_20.eval (.tmp 38) = .int .u32 (first : Int) := g_20.at_ 38
    have e39 : x_20.eval (.tmp 39) = .int .u32 (pages : Int) := g_20.at_ 39
    clear g_20 hQ h3 h4 h5
    generalize x_20.eval = ρ at *
    go_simp
  refine g_20.call 40 rfl (lb_ hsz) (wn rfl) r_21 (kR W1 t1) (fun e W2 hR => ?_)
  obtain ⟨a2, c2, N2, rfl, A2, K2, L2, s2⟩ := hR
  clear r_21
  refine ⟨_, rfl, fun x_21 g_21 => ?_⟩
  clear g_20
  refine g_21.move 35 (.tuple #[.slice a2 0 c2, .int .i64 er]) _ (Or.inl rfl) rfl (lb_ hsz) (wn rfl) (g_21.at_ 40) (fun x_22 g_22 => ?_)
  clear g_21
  have r_23 : (execOp x_22.eval oQH12).run Try.prog (W2) = .ok (.value (.slice a2 0 c2)) (W2) := by
    unfold oQH12
    have e35 : x_22.eval (.tmp 35) = .tuple #[.slice a2 0 c2, .int .i64 er] := g_22.at_ 35
    clear g_22 hQ h3 h4 h5
    generalize x_22.eval = ρ at *
    go_simp
  refine g_22.step 41 _ rfl (lb_ hsz) (wn rfl) r_23 (fun x_23 g_23 => ?_)
  clear r_23 g_22
  have r_24 : (execOp x_23.eval oQH13).run Try.prog (W2) = .ok (.value (.int .i64 er)) (W2) := by
    unfold oQH13
    have e35 : x_23.eval (.tmp 35) = .tuple #[.slice a2 0 c2, .int .i64 er] := g_23.at_ 35
    clear g_23 hQ h3 h4 h5
    generalize x_23.eval = ρ at *
    go_simp
  refine g_23.step 42 _ rfl (lb_ hsz) (wn rfl) r_24 (fun x_24 g_24 => ?_)
  clear r_24 g_23
  refine g_24.move 11 (.slice a2 0 c2) _ (Or.inr rfl) rfl (lb_ hsz) (wn rfl) (g_24.at_ 41) (fun x_25 g_25 => ?_)
  clear g_24
  refine g_25.move 12 (.int .i64 er) _ (Or.inr rfl) rfl (lb_ hsz) (wn rfl) (g_25.at_ 42) (fun x_26 g_26 => ?_)
  clear g_25
  refine wpList_nil ?_
  have t2 : Same wr W2 := t1.trans s2
  have d0_3 := t2.keep d0
  have d1_3 := t2.keep d1
  have b0_3 := t2.keep b0
  have b1_3 := t2.keep b1
  change Code.wp _ _ _ _ _
  refine wp_seq ?_
  refine wp_region_list ?_
  unfold rFR6
  have r_27 : (execOp x_26.eval oQH14).run Try.prog (W2) = .ok (.value (.agg #[.int .i64 p, .int .i64 q])) (W2) := by
    unfold oQH14
    have e3 := (show x_26.eval (.tmp 3) = .pointer (some ⟨fb, 0, none⟩) from ((g_26.at_ 3).trans h3))
    clear g_26 hQ h3 h4 h5
    generalize x_26.eval = ρ at *
    go_simp
  refine g_26.step 44 _ rfl (lb_ hsz) (wn rfl) r_27 (fun x_27 g_27 => ?_)
  clear r_27 g_26
  refine g_27.move 45 (.int .u32 (first : Int)) _ (Or.inl rfl) rfl (lb_ hsz) (wn rfl) (g_27.at_ 7) (fun x_28 g_28 => ?_)
  clear g_27
  refine g_28.move 46 (.int .u32 (pages : Int)) _ (Or.inl rfl) rfl (lb_ hsz) (wn rfl) (g_28.at_ 8) (fun x_29 g_29 => ?_)
  clear g_28
  have r_30 : (execOp x_29.eval oQH15).run Try.prog (W2) = .ok (.enter 4 #[.agg #[.int .i64 p, .int .i64 q], Value.nilIface, .int .u32 (first : Int), .int .u32 (pages : Int)]) (W2) := by
    unfold oQH15
    have kc : ∀ v, x_29.eval (.const v) = v := fun _ => rfl
    have kf : ∀ f, x_29.eval (.func f) = .func (.func f) #[] #[] := fun _ => rfl
    have e44 : x_29.eval (.tmp 44) = .agg #[.int .i64 p, .int .i64 q] := g_29.at_ 44
    have e45 : x_29.eval (.tmp 45) = .int .u32 (first : Int) := g_29.at_ 45
    have e46 : x_29.eval (.tmp 46) = .int .u32 (pages : Int) := g_29.at_ 46
    clear g_29 hQ h3 h4 h5
    generalize x_29.eval = ρ at *
    go_simp
  refine g_29.call 47 rfl (lb_ hsz) (wn rfl) r_30 (kN W2) (fun e W3 hR => ?_)
  obtain ⟨rfl, s3⟩ := hR
  clear r_30
  refine ⟨_, rfl, fun x_30 g_30 => ?_⟩
  clear g_29
  refine g_30.move 43 (.tuple #[.slice none 0 0, .int .i64 1]) _ (Or.inl rfl) rfl (lb_ hsz) (wn rfl) (g_30.at_ 47) (fun x_31 g_31 => ?_)
  clear g_30
  have r_32 : (execOp x_31.eval oQH16).run Try.prog (W3) = .ok (.value (.slice none 0 0)) (W3) := by
    unfold oQH16
    have e43 : x_31.eval (.tmp 43) = .tuple #[.slice none 0 0, .int .i64 1] := g_31.at_ 43
    clear g_31 hQ h3 h4 h5
    generalize x_31.eval = ρ at *
    go_simp
  refine g_31.step 48 _ rfl (lb_ hsz) (wn rfl) r_32 (fun x_32 g_32 => ?_)
  clear r_32 g_31
  have r_33 : (execOp x_32.eval oQH17).run Try.prog (W3) = .ok (.value (.int .i64 1)) (W3) := by
    unfold oQH17
    have e43 : x_32.eval (.tmp 43) = .tuple #[.slice none 0 0, .int .i64 1] := g_32.at_ 43
    clear g_32 hQ h3 h4 h5
    generalize x_32.eval = ρ at *
    go_simp
  refine g_32.step 49 _ rfl (lb_ hsz) (wn rfl) r_33 (fun x_33 g_33 => ?_)
  clear r_33 g_32
  refine g_33.move 13 (.slice none 0 0) _ (Or.inr rfl) rfl (lb_ hsz) (wn rfl) (g_33.at_ 48) (fun x_34 g_34 => ?_)
  clear g_33
  refine g_34.move 14 (.int .i64 1) _ (Or.inr rfl) rfl (lb_ hsz) (wn rfl) (g_34.at_ 49) (fun x_35 g_35 => ?_)
  clear g_34
  refine wpList_nil ?_
  have t3 : Same wr W3 := t2.trans s3
  have nGG : (er != er) = false := by simp
  change Code.wp _ _ _ _ _
  refine wp_seq (wp_seq ?_)
  refine wp_region_list ?_
  unfold rFR7
  refine g_35.move 50 (.int .i64 1) _ (Or.inl rfl) rfl (lb_ hsz) (wn rfl) (g_35.at_ 14) (fun x_36 g_36 => ?_)
  clear g_35
  have r_37 : (execOp x_36.eval oQH18).run Try.prog (W3) = .ok (.value (.bool false)) (W3) := by
    unfold oQH18
    have kc : ∀ v, x_36.eval (.const v) = v := fun _ => rfl
    have e50 : x_36.eval (.tmp 50) = .int .i64 1 := g_36.at_ 50
    clear g_36 hQ h3 h4 h5
    generalize x_36.eval = ρ at *
    go_simp
  refine g_36.step 51 _ rfl (lb_ hsz) (wn rfl) r_37 (fun x_37 g_37 => ?_)
  clear r_37 g_36
  refine g_37.move 52 (.bool false) _ (Or.inl rfl) rfl (lb_ hsz) (wn rfl) (g_37.at_ 51) (fun x_38 g_38 => ?_)
  clear g_37
  have r_39 : (execOp x_38.eval oQH19).run Try.prog (W3) = .ok (.enter 5 #[]) (W3) := by
    unfold oQH19
    have kf : ∀ f, x_38.eval (.func f) = .func (.func f) #[] #[] := fun _ => rfl
    clear g_38 hQ h3 h4 h5
    generalize x_38.eval = ρ at *
    go_simp
  refine g_38.call 53 rfl (lb_ hsz) ((wanted_at (t := 52) (c := false) (b := false) rfl rfl rfl (lb_ (g_38.size.trans hsz)) (g_38.at_ 52)).trans (by rfl)) r_39 (ka W3) (fun e W4 hR => ?_)
  obtain ⟨rfl, s4⟩ := hR
  clear r_39
  refine ⟨_, rfl, fun x_39 g_39 => ?_⟩
  clear g_38
  have r_40 : (execOp x_39.eval oQH20).run Try.prog (W4) = .ok (.value (.bool false)) (W4) := by
    unfold oQH20
    have e53 : x_39.eval (.tmp 53) = .bool true := g_39.at_ 53
    clear g_39 hQ h3 h4 h5
    generalize x_39.eval = ρ at *
    go_simp
  refine g_39.step 54 _ rfl (lb_ hsz) ((wanted_at (t := 52) (c := false) (b := false) rfl rfl rfl (lb_ (g_39.size.trans hsz)) (g_39.at_ 52)).trans (by rfl)) r_40 (fun x_40 g_40 => ?_)
  clear r_40 g_39
  have r_41 : (execOp x_40.eval oQH21).run Try.prog (W4) = .ok (.value (.bool false)) (W4) := by
    unfold oQH21
    have kc : ∀ v, x_40.eval (.const v) = v := fun _ => rfl
    have e52 : x_40.eval (.tmp 52) = .bool false := g_40.at_ 52
    have e54 : x_40.eval (.tmp 54) = .bool false := g_40.at_ 54
    clear g_40 hQ h3 h4 h5
    generalize x_40.eval = ρ at *
    go_simp
  refine g_40.step 55 _ rfl (lb_ hsz) (wn rfl) r_41 (fun x_41 g_41 => ?_)
  clear r_41 g_40
  refine g_41.move 56 (.bool false) _ (Or.inl rfl) rfl (lb_ hsz) (wn rfl) (g_41.at_ 55) (fun x_42 g_42 => ?_)
  clear g_41
  refine g_42.move 57 (.int .i64 er) _ (Or.inl rfl) rfl (lb_ hsz) ((wanted_at (t := 56) (c := false) (b := false) rfl rfl rfl (lb_ (g_42.size.trans hsz)) (g_42.at_ 56)).trans (by rfl)) (g_42.at_ 10) (fun x_43 g_43 => ?_)
  clear g_42
  refine g_43.move 58 (.int .i64 er) _ (Or.inl rfl) rfl (lb_ hsz) ((wanted_at (t := 56) (c := false) (b := false) rfl rfl rfl (lb_ (g_43.size.trans hsz)) (g_43.at_ 56)).trans (by rfl)) (g_43.at_ 12) (fun x_44 g_44 => ?_)
  clear g_43
  have r_45 : (execOp x_44.eval oQH22).run Try.prog (W4) = .ok (.value (.bool false)) (W4) := by
    unfold oQH22
    have e57 : x_44.eval (.tmp 57) = .int .i64 er := g_44.at_ 57
    have e58 : x_44.eval (.tmp 58) = .int .i64 er := g_44.at_ 58
    clear g_44 hQ h3 h4 h5
    generalize x_44.eval = ρ at *
    go_simp
  refine g_44.step 59 _ rfl (lb_ hsz) ((wanted_at (t := 56) (c := false) (b := false) rfl rfl rfl (lb_ (g_44.size.trans hsz)) (g_44.at_ 56)).trans (by rfl)) r_45 (fun x_45 g_45 => ?_)
  clear r_45 g_44
  have r_46 : (execOp x_45.eval oQH23).run Try.prog (W4) = .ok (.value (.bool false)) (W4) := by
    unfold oQH23
    have kc : ∀ v, x_45.eval (.const v) = v := fun _ => rfl
    have e56 : x_45.eval (.tmp 56) = .bool false := g_45.at_ 56
    have e59 : x_45.eval (.tmp 59) = .bool false := g_45.at_ 59
    clear g_45 hQ h3 h4 h5
    generalize x_45.eval = ρ at *
    go_simp
  refine g_45.step 60 _ rfl (lb_ hsz) (wn rfl) r_46 (fun x_46 g_46 => ?_)
  clear r_46 g_45
  refine wpList_nil ?_
  have t4 : Same wr W4 := t3.trans s4
  have d0_4 := t4.keep d0
  have d1_4 := t4.keep d1
  have b0_4 := t4.keep b0
  have b1_4 := t4.keep b1
  change Code.wp _ _ _ _ _
  refine wp_cond_false (show x_46.eval (.tmp 60) = .bool false from (g_46.at_ 60)) (wp_skip ?_)
  change Code.wp _ _ _ _ _
  refine wp_seq (wp_seq ?_)
  refine wp_region_list ?_
  unfold rFR9
  have r_47 : (execOp x_46.eval oQH24).run Try.prog (W4) = .ok (.value (.agg #[.int .i64 p, .int .i64 q])) (W4) := by
    unfold oQH24
    have e3 := (show x_46.eval (.tmp 3) = .pointer (some ⟨fb, 0, none⟩) from ((g_46.at_ 3).trans h3))
    clear g_46 hQ h3 h4 h5
    generalize x_46.eval = ρ at *
    go_simp
  refine g_46.step 61 _ rfl (lb_ hsz) (wn rfl) r_47 (fun x_47 g_47 => ?_)
  clear r_47 g_46
  refine g_47.move 62 (.int .u32 (pages : Int)) _ (Or.inl rfl) rfl (lb_ hsz) (wn rfl) (g_47.at_ 8) (fun x_48 g_48 => ?_)
  clear g_47
  have r_49 : (execOp x_48.eval oQH25).run Try.prog (W4) = .ok (.enter 6 #[.agg #[.int .i64 p, .int .i64 q], Value.slice none 0 0, .int .u32 (pages : Int)]) (W4) := by
    unfold oQH25
    have kc : ∀ v, x_48.eval (.const v) = v := fun _ => rfl
    have kf : ∀ f, x_48.eval (.func f) = .func (.func f) #[] #[] := fun _ => rfl
    have e61 : x_48.eval (.tmp 61) = .agg #[.int .i64 p, .int .i64 q] := g_48.at_ 61
    have e62 : x_48.eval (.tmp 62) = .int .u32 (pages : Int) := g_48.at_ 62
    clear g_48 hQ h3 h4 h5
    generalize x_48.eval = ρ at *
    go_simp
  refine g_48.call 63 rfl (lb_ hsz) (wn rfl) r_49 (kC W4 t4) (fun e W5 hR => ?_)
  obtain ⟨rfl, s5⟩ := hR
  clear r_49
  refine ⟨_, rfl, fun x_49 g_49 => ?_⟩
  clear g_48
  have r_50 : (execOp x_49.eval oQH26).run Try.prog (W5) = .ok (.value (.bool false)) (W5) := by
    unfold oQH26
    have kc : ∀ v, x_49.eval (.const v) = v := fun _ => rfl
    have e63 : x_49.eval (.tmp 63) = .int .i64 0 := g_49.at_ 63
    clear g_49 hQ h3 h4 h5
    generalize x_49.eval = ρ at *
    go_simp
  refine g_49.step 64 _ rfl (lb_ hsz) (wn rfl) r_50 (fun x_50 g_50 => ?_)
  clear r_50 g_49
  refine wpList_nil ?_
  have t5 : Same wr W5 := t4.trans s5
  have d0_5 := t5.keep d0
  have d1_5 := t5.keep d1
  have b0_5 := t5.keep b0
  have b1_5 := t5.keep b1
  change Code.wp _ _ _ _ _
  refine wp_cond_false (show x_50.eval (.tmp 64) = .bool false from (g_50.at_ 64)) (wp_skip ?_)
  change Code.wp _ _ _ _ _
  refine wp_seq ?_
  refine wp_region_list ?_
  unfold rFR11
  have r_51 : (execOp x_50.eval oQH31).run Try.prog (W5) = .ok (.value (.agg #[.int .i64 p, .int .i64 q])) (W5) := by
    unfold oQH31
    have e3 := (show x_50.eval (.tmp 3) = .pointer (some ⟨fb, 0, none⟩) from ((g_50.at_ 3).trans h3))
    clear g_50 hQ h3 h4 h5
    generalize x_50.eval = ρ at *
    go_simp
  refine g_50.step 73 _ rfl (lb_ hsz) (wn rfl) r_51 (fun x_51 g_51 => ?_)
  clear r_51 g_50
  have r_52 : (execOp x_51.eval oQH32).run Try.prog (W5) = .ok (.value (.pointer (some ⟨bb, 0, none⟩))) (W5) := by
    unfold oQH32
    have e4 := (show x_51.eval (.tmp 4) = .pointer (some ⟨bb, 0, none⟩) from ((g_51.at_ 4).trans h4))
    clear g_51 hQ h3 h4 h5
    generalize x_51.eval = ρ at *
    go_simp
  refine g_51.step 74 _ rfl (lb_ hsz) (wn rfl) r_52 (fun x_52 g_52 => ?_)
  clear r_52 g_51
  have r_53 : (execOp x_52.eval oQH33).run Try.prog (W5) = .ok (.value (.slice pa n cp)) (W5) := by
    unfold oQH33
    have e74 : x_52.eval (.tmp 74) = .pointer (some ⟨bb, 0, none⟩) := g_52.at_ 74
    clear g_52 hQ h3 h4 h5
    generalize x_52.eval = ρ at *
    go_simp
  refine g_52.step 75 _ rfl (lb_ hsz) (wn rfl) r_53 (fun x_53 g_53 => ?_)
  clear r_53 g_52
  refine g_53.move 76 (.int .u32 (first : Int)) _ (Or.inl rfl) rfl (lb_ hsz) (wn rfl) (g_53.at_ 7) (fun x_54 g_54 => ?_)
  clear g_53
  refine g_54.move 77 (.int .u32 (pages : Int)) _ (Or.inl rfl) rfl (lb_ hsz) (wn rfl) (g_54.at_ 8) (fun x_55 g_55 => ?_)
  clear g_54
  have r_56 : (execOp x_55.eval oQH34).run Try.prog (W5) = .ok (.enter 7 #[.agg #[.int .i64 p, .int .i64 q], .slice pa n cp, .int .u32 (first : Int), .int .u32 (pages : Int)]) (W5) := by
    unfold oQH34
    have kf : ∀ f, x_55.eval (.func f) = .func (.func f) #[] #[] := fun _ => rfl
    have e73 : x_55.eval (.tmp 73) = .agg #[.int .i64 p, .int .i64 q] := g_55.at_ 73
    have e75 : x_55.eval (.tmp 75) = .slice pa n cp := g_55.at_ 75
    have e76 : x_55.eval (.tmp 76) = .int .u32 (first : Int) := g_55.at_ 76
    have e77 : x_55.eval (.tmp 77) = .int .u32 (pages : Int) := g_55.at_ 77
    clear g_55 hQ h3 h4 h5
    generalize x_55.eval = ρ at *
    go_simp
  refine g_55.call 78 rfl (lb_ hsz) (wn rfl) r_56 (kD W5 t5) (fun e W6 hR => ?_)
  obtain ⟨⟨ow, cw, rfl⟩, s6⟩ := hR
  clear r_56
  refine ⟨_, rfl, fun x_56 g_56 => ?_⟩
  clear g_55
  refine g_56.move 72 (.tuple #[.slice ow 0 cw, .int .i64 (-1)]) _ (Or.inl rfl) rfl (lb_ hsz) (wn rfl) (g_56.at_ 78) (fun x_57 g_57 => ?_)
  clear g_56
  have r_58 : (execOp x_57.eval oQH35).run Try.prog (W6) = .ok (.value (.slice ow 0 cw)) (W6) := by
    unfold oQH35
    have e72 : x_57.eval (.tmp 72) = .tuple #[.slice ow 0 cw, .int .i64 (-1)] := g_57.at_ 72
    clear g_57 hQ h3 h4 h5
    generalize x_57.eval = ρ at *
    go_simp
  refine g_57.step 79 _ rfl (lb_ hsz) (wn rfl) r_58 (fun x_58 g_58 => ?_)
  clear r_58 g_57
  have r_59 : (execOp x_58.eval oQH36).run Try.prog (W6) = .ok (.value (.int .i64 (-1))) (W6) := by
    unfold oQH36
    have e72 : x_58.eval (.tmp 72) = .tuple #[.slice ow 0 cw, .int .i64 (-1)] := g_58.at_ 72
    clear g_58 hQ h3 h4 h5
    generalize x_58.eval = ρ at *
    go_simp
  refine g_58.step 80 _ rfl (lb_ hsz) (wn rfl) r_59 (fun x_59 g_59 => ?_)
  clear r_59 g_58
  refine g_59.move 15 (.slice ow 0 cw) _ (Or.inr rfl) rfl (lb_ hsz) (wn rfl) (g_59.at_ 79) (fun x_60 g_60 => ?_)
  clear g_59
  refine g_60.move 16 (.int .i64 (-1)) _ (Or.inr rfl) rfl (lb_ hsz) (wn rfl) (g_60.at_ 80) (fun x_61 g_61 => ?_)
  clear g_60
  refine wpList_nil ?_
  have t6 : Same wr W6 := t5.trans s6
  change Code.wp _ _ _ _ _
  refine wp_seq (wp_seq ?_)
  refine wp_region_list ?_
  unfold rFR12
  refine g_61.move 81 (.int .i64 (-1)) _ (Or.inl rfl) rfl (lb_ hsz) (wn rfl) (g_61.at_ 16) (fun x_62 g_62 => ?_)
  clear g_61
  have r_63 : (execOp x_62.eval oQH37).run Try.prog (W6) = .ok (.value (.bool true)) (W6) := by
    unfold oQH37
    have kc : ∀ v, x_62.eval (.const v) = v := fun _ => rfl
    have e81 : x_62.eval (.tmp 81) = .int .i64 (-1) := g_62.at_ 81
    clear g_62 hQ h3 h4 h5
    generalize x_62.eval = ρ at *
    go_simp
  refine g_62.step 82 _ rfl (lb_ hsz) (wn rfl) r_63 (fun x_63 g_63 => ?_)
  clear r_63 g_62
  refine wpList_nil ?_
  have b1_6 := t6.keep b1
  have eEE : (er == er) = true := by simp
  change Code.wp _ _ _ _ _
  refine wp_cond_true (show x_63.eval (.tmp 82) = .bool true from (g_63.at_ 82)) (wp_seq ?_)
  refine wp_region_list ?_
  unfold rFR13
  refine g_63.move 83 (.int .i64 er) _ (Or.inl rfl) rfl (lb_ hsz) (wn rfl) (g_63.at_ 10) (fun x_64 g_64 => ?_)
  clear g_63
  have r_65 : (execOp x_64.eval oQH38).run Try.prog (W6) = .ok (.value (.pointer (some ⟨bb, 1, none⟩))) (W6) := by
    unfold oQH38
    have e4 := (show x_64.eval (.tmp 4) = .pointer (some ⟨bb, 0, none⟩) from ((g_64.at_ 4).trans h4))
    clear g_64 hQ h3 h4 h5
    generalize x_64.eval = ρ at *
    go_simp
  refine g_64.step 84 _ rfl (lb_ hsz) (wn rfl) r_65 (fun x_65 g_65 => ?_)
  clear r_65 g_64
  have r_66 : (execOp x_65.eval oQH39).run Try.prog (W6) = .ok (.value (.int .i64 er)) (W6) := by
    unfold oQH39
    have e84 : x_65.eval (.tmp 84) = .pointer (some ⟨bb, 1, none⟩) := g_65.at_ 84
    clear g_65 hQ h3 h4 h5
    generalize x_65.eval = ρ at *
    go_simp
  refine g_65.step 85 _ rfl (lb_ hsz) (wn rfl) r_66 (fun x_66 g_66 => ?_)
  clear r_66 g_65
  have r_67 : (execOp x_66.eval oQH40).run Try.prog (W6) = .ok (.value (.bool true)) (W6) := by
    unfold oQH40
    have e83 : x_66.eval (.tmp 83) = .int .i64 er := g_66.at_ 83
    have e85 : x_66.eval (.tmp 85) = .int .i64 er := g_66.at_ 85
    clear g_66 hQ h3 h4 h5
    generalize x_66.eval = ρ at *
    go_simp
  refine g_66.step 86 _ rfl (lb_ hsz) (wn rfl) r_67 (fun x_67 g_67 => ?_)
  clear r_67 g_66
  refine g_67.move 87 (.bool true) _ (Or.inl rfl) rfl (lb_ hsz) (wn rfl) (g_67.at_ 86) (fun x_68 g_68 => ?_)
  clear g_67
  refine g_68.move 88 (.slice a1 0 c1) _ (Or.inl rfl) rfl (lb_ hsz) ((wanted_at (t := 87) (c := true) (b := true) rfl rfl rfl (lb_ (g_68.size.trans hsz)) (g_68.at_ 87)).trans (by rfl)) (g_68.at_ 9) (fun x_69 g_69 => ?_)
  clear g_68
  have r_70 : (execOp x_69.eval oQH41).run Try.prog (W6) = .ok (.value (.int .i64 0)) (W6) := by
    unfold oQH41
    have e88 : x_69.eval (.tmp 88) = .slice a1 0 c1 := g_69.at_ 88
    clear g_69 hQ h3 h4 h5
    generalize x_69.eval = ρ at *
    go_simp
  refine g_69.step 89 _ rfl (lb_ hsz) ((wanted_at (t := 87) (c := true) (b := true) rfl rfl rfl (lb_ (g_69.size.trans hsz)) (g_69.at_ 87)).trans (by rfl)) r_70 (fun x_70 g_70 => ?_)
  clear r_70 g_69
  have r_71 : (execOp x_70.eval oQH42).run Try.prog (W6) = .ok (.value (.bool true)) (W6) := by
    unfold oQH42
    have kc : ∀ v, x_70.eval (.const v) = v := fun _ => rfl
    have e89 : x_70.eval (.tmp 89) = .int .i64 0 := g_70.at_ 89
    clear g_70 hQ h3 h4 h5
    generalize x_70.eval = ρ at *
    go_simp
  refine g_70.step 90 _ rfl (lb_ hsz) ((wanted_at (t := 87) (c := true) (b := true) rfl rfl rfl (lb_ (g_70.size.trans hsz)) (g_70.at_ 87)).trans (by rfl)) r_71 (fun x_71 g_71 => ?_)
  clear r_71 g_70
  have r_72 : (execOp x_71.eval oQH43).run Try.prog (W6) = .ok (.value (.bool true)) (W6) := by
    unfold oQH43
    have kc : ∀ v, x_71.eval (.const v) = v := fun _ => rfl
    have e87 : x_71.eval (.tmp 87) = .bool true := g_71.at_ 87
    have e90 : x_71.eval (.tmp 90) = .bool true := g_71.at_ 90
    clear g_71 hQ h3 h4 h5
    generalize x_71.eval = ρ at *
    go_simp
  refine g_71.step 91 _ rfl (lb_ hsz) (wn rfl) r_72 (fun x_72 g_72 => ?_)
  clear r_72 g_71
  refine g_72.move 6 (.bool true) _ (Or.inr rfl) rfl (lb_ hsz) (wn rfl) (g_72.at_ 91) (fun x_73 g_73 => ?_)
  clear g_72
  refine wpList_nil ?_
  change Code.wp _ _ _ _ _
  refine wp_ret ?_
  exact hQ x_73 W6 (g_73.defers.trans hd) (show x_73.eval (.tmp 6) = .bool true from (g_73.at_ 6)) t6
set_option maxRecDepth 100000 in
set_option maxHeartbeats 2000000 in
theorem fr_good {p q : Int} {fb bb ab first pages n cp : Nat} {pa : Option Addr} {er ge : Int} {m : Nat} {KEY : List (Nat × List Nat)} {Q : Exit → Act → World → Prop} (hQp : ∀ c (a : Act) d v w, Q (.panic c) (a.put d v) w → Q (.panic c) a w) (a0 : Act) (wr : World) (hsz : a0.tmps.size = 130) (hd : a0.defers = [])
    (h3 : a0.eval (.tmp 3) = .pointer (some ⟨fb, 0, none⟩)) (h4 : a0.eval (.tmp 4) = .pointer (some ⟨bb, 0, none⟩)) (h5 : a0.eval (.tmp 5) = .pointer (some ⟨ab, 0, none⟩))
    (d0 : wr.cell? ⟨fb, 0, none⟩ = some (.int .i64 p)) (d1 : wr.cell? ⟨fb, 1, none⟩ = some (.int .i64 q)) (b0 : wr.cell? ⟨bb, 0, none⟩ = some (.slice pa n cp)) (b1 : wr.cell? ⟨bb, 1, none⟩ = some (.int .i64 er)) (e0 : wr.cell? ⟨ab, 0, none⟩ = some (.int .u32 (first : Int))) (e1 : wr.cell? ⟨ab, 1, none⟩ = some (.int .u32 (pages : Int))) (hge : ¬ ge = -1) (hm2 : m ≤ 1100000) (hKl : ∀ y ∈ KEY, y.2.length ≤ 1099511627000) 
    (kR : ∀ Z, Same wr Z → Calls Try.prog 4 #[.agg #[.int .i64 p, .int .i64 q], .iface 33 (.pointer (some ⟨bb, 0, none⟩)), .int .u32 (first : Int), .int .u32 (pages : Int)] Z fun e w' => RdOut m KEY ge Z e w')
    (kN : ∀ Z, Calls Try.prog 4 #[.agg #[.int .i64 p, .int .i64 q], .nilIface, .int .u32 (first : Int), .int .u32 (pages : Int)] Z fun e w' => e = .returned (.tuple #[.slice none 0 0, .int .i64 1]) ∧ Same Z w')
    (kC : ∀ Z, Same wr Z → Calls Try.prog 6 #[.agg #[.int .i64 p, .int .i64 q], .slice none 0 0, .int .u32 (pages : Int)] Z fun e w' => e = .returned (.int .i64 0) ∧ Same Z w')
    (kD : ∀ Z, Same wr Z → Calls Try.prog 7 #[.agg #[.int .i64 p, .int .i64 q], .slice pa n cp, .int .u32 (first : Int), .int .u32 (pages : Int)] Z fun e w' => ∃ ow cw NW, e = .returned (.tuple #[.slice ow m cw, .int .i64 ge]) ∧ (∃ gw, BrRow w' ow gw 0 NW ∧ BrGe Z.heap.size gw NW) ∧ NW.map Bt.key = KEY ∧ NW.length = m ∧ Same Z w')
    (ka : ∀ Z, Calls Try.prog 5 #[] Z fun e w' => e = .returned (.bool true) ∧ Same Z w')
    (hQ : ∀ a W, a.defers = [] → a.eval (.tmp 6) = .bool true → Same wr W → Q .ret a W) : cFRB.wp Try.prog Q a0 wr := by
  have hged : (ge == -1) = false := by simpa using hge
  have g_0 := Fe.refl a0
  unfold cFRB
  have dd : Same wr wr.drew := (Fr.refl (fun _ => False) wr).drew
  refine wp_seq ?_
  refine wp_region_held_drew (ops := rFR3) (S := fun Z => Same wr Z) (by kernel_rfl) (dd) (fun hS0 => ?_)
  have r_1 : ∀ Z, (fun Z => Same wr Z) Z → (execOp a0.eval oQH0).run Try.prog Z = .ok (.value (.pointer (some ⟨ab, 0, none⟩))) Z := fun Z hZ => by
    unfold oQH0
    have kc : ∀ v, a0.eval (.const v) = v := fun _ => rfl
    have e5 := (show a0.eval (.tmp 5) = .pointer (some ⟨ab, 0, none⟩) from ((g_0.at_ 5).trans h5))
    clear g_0 hQ h3 h4 h5 hm2 hKl
    generalize a0.eval = ρ at *
    go_simp
  refine g_0.take 0 23 _ rfl (by kernel_rfl) (by kernel_rfl) (by kernel_rfl) (fun _ _ _ h => hQp _ _ _ _ _ h) rfl (lb_ hsz) (wn rfl) r_1 hS0 (fun x_1 g_1 => ?_)
  clear r_1 g_0
  have r_2 : ∀ Z, (fun Z => Same wr Z) Z → (execOp x_1.eval oQH1).run Try.prog Z = .ok (.value (.int .u32 (first : Int))) Z := fun Z hZ => by
    unfold oQH1
    have z0 := hZ.keep e0
    have z1 := hZ.keep e1
    have e23 : x_1.eval (.tmp 23) = .pointer (some ⟨ab, 0, none⟩) := g_1.at_ 23
    clear g_1 hQ h3 h4 h5 hm2 hKl
    generalize x_1.eval = ρ at *
    go_simp
  refine g_1.take 1 24 _ rfl (by kernel_rfl) (by kernel_rfl) (by kernel_rfl) (fun _ _ _ h => hQp _ _ _ _ _ h) rfl (lb_ hsz) (wn rfl) r_2 hS0 (fun x_2 g_2 => ?_)
  clear r_2 g_1
  have r_3 : ∀ Z, (fun Z => Same wr Z) Z → (execOp x_2.eval oQH2).run Try.prog Z = .ok (.value (.pointer (some ⟨ab, 1, none⟩))) Z := fun Z hZ => by
    unfold oQH2
    have kc : ∀ v, x_2.eval (.const v) = v := fun _ => rfl
    have e5 := (show x_2.eval (.tmp 5) = .pointer (some ⟨ab, 0, none⟩) from ((g_2.at_ 5).trans h5))
    clear g_2 hQ h3 h4 h5 hm2 hKl
    generalize x_2.eval = ρ at *
    go_simp
  refine g_2.take 2 25 _ rfl (by kernel_rfl) (by kernel_rfl) (by kernel_rfl) (fun _ _ _ h => hQp _ _ _ _ _ h) rfl (lb_ hsz) (wn rfl) r_3 hS0 (fun x_3 g_3 => ?_)
  clear r_3 g_2
  have r_4 : ∀ Z, (fun Z => Same wr Z) Z → (execOp x_3.eval oQH3).run Try.prog Z = .ok (.value (.int .u32 (pages : Int))) Z := fun Z hZ => by
    unfold oQH3
    have z0 := hZ.keep e0
    have z1 := hZ.keep e1
    have e25 : x_3.eval (.tmp 25) = .pointer (some ⟨ab, 1, none⟩) := g_3.at_ 25
    clear g_3 hQ h3 h4 h5 hm2 hKl
    generalize x_3.eval = ρ at *
    go_simp
  refine g_3.take 3 26 _ rfl (by kernel_rfl) (by kernel_rfl) (by kernel_rfl) (fun _ _ _ h => hQp _ _ _ _ _ h) rfl (lb_ hsz) (wn rfl) r_4 hS0 (fun x_4 g_4 => ?_)
  clear r_4 g_3
  refine g_4.takeMove 4 7 (.int .u32 (first : Int)) _ (Or.inr rfl) rfl (by kernel_rfl) (by kernel_rfl) (by kernel_rfl) (fun _ _ _ h => hQp _ _ _ _ _ h) rfl (lb_ hsz) (wn rfl) (g_4.at_ 24) hS0 (fun x_5 g_5 => ?_)
  clear g_4
  refine g_5.takeMove 5 8 (.int .u32 (pages : Int)) _ (Or.inr rfl) rfl (by kernel_rfl) (by kernel_rfl) (by kernel_rfl) (fun _ _ _ h => hQp _ _ _ _ _ h) rfl (lb_ hsz) (wn rfl) (g_5.at_ 26) hS0 (fun x_6 g_6 => ?_)
  clear g_5
  refine wpAnyH_done (by kernel_rfl) ?_ _
  have u1 := dd
  have d0_1 := dd.keep d0
  have d1_1 := dd.keep d1
  have b0_1 := dd.keep b0
  have b1_1 := dd.keep b1
  change Code.wp _ _ _ _ _
  refine wp_seq ?_
  refine wp_region_list ?_
  unfold rFR4
  have r_7 : (execOp x_6.eval oQH4).run Try.prog (wr.drew) = .ok (.value (.agg #[.int .i64 p, .int .i64 q])) (wr.drew) := by
    unfold oQH4
    have e3 := (show x_6.eval (.tmp 3) = .pointer (some ⟨fb, 0, none⟩) from ((g_6.at_ 3).trans h3))
    clear g_6 hQ h3 h4 h5 hm2 hKl
    generalize x_6.eval = ρ at *
    go_simp
  refine g_6.step 28 _ rfl (lb_ hsz) (wn rfl) r_7 (fun x_7 g_7 => ?_)
  clear r_7 g_6
  have r_8 : (execOp x_7.eval oQH5).run Try.prog (wr.drew) = .ok (.value (.iface 33 (.pointer (some ⟨bb, 0, none⟩)))) (wr.drew) := by
    unfold oQH5
    have e4 := (show x_7.eval (.tmp 4) = .pointer (some ⟨bb, 0, none⟩) from ((g_7.at_ 4).trans h4))
    clear g_7 hQ h3 h4 h5 hm2 hKl
    generalize x_7.eval = ρ at *
    go_simp
  refine g_7.step 29 _ rfl (lb_ hsz) (wn rfl) r_8 (fun x_8 g_8 => ?_)
  clear r_8 g_7
  refine g_8.move 30 (.int .u32 (first : Int)) _ (Or.inl rfl) rfl (lb_ hsz) (wn rfl) (g_8.at_ 7) (fun x_9 g_9 => ?_)
  clear g_8
  refine g_9.move 31 (.int .u32 (pages : Int)) _ (Or.inl rfl) rfl (lb_ hsz) (wn rfl) (g_9.at_ 8) (fun x_10 g_10 => ?_)
  clear g_9
  have r_11 : (execOp x_10.eval oQH6).run Try.prog (wr.drew) = .ok (.enter 4 #[.agg #[.int .i64 p, .int .i64 q], .iface 33 (.pointer (some ⟨bb, 0, none⟩)), .int .u32 (first : Int), .int .u32 (pages : Int)]) (wr.drew) := by
    unfold oQH6
    have kf : ∀ f, x_10.eval (.func f) = .func (.func f) #[] #[] := fun _ => rfl
    have e28 : x_10.eval (.tmp 28) = .agg #[.int .i64 p, .int .i64 q] := g_10.at_ 28
    have e29 : x_10.eval (.tmp 29) = .iface 33 (.pointer (some ⟨bb, 0, none⟩)) := g_10.at_ 29
    have e30 : x_10.eval (.tmp 30) = .int .u32 (first : Int) := g_10.at_ 30
    have e31 : x_10.eval (.tmp 31) = .int .u32 (pages : Int) := g_10.at_ 31
    clear g_10 hQ h3 h4 h5 hm2 hKl
    generalize x_10.eval = ρ at *
    go_simp
  refine g_10.call 32 rfl (lb_ hsz) (wn rfl) r_11 (kR wr.drew dd) (fun e W1 hR => ?_)
  obtain ⟨a1, c1, N1, rfl, A1, K1, L1, s1⟩ := hR
  clear r_11
  refine ⟨_, rfl, fun x_11 g_11 => ?_⟩
  clear g_10
  refine g_11.move 27 (.tuple #[.slice a1 m c1, .int .i64 ge]) _ (Or.inl rfl) rfl (lb_ hsz) (wn rfl) (g_11.at_ 32) (fun x_12 g_12 => ?_)
  clear g_11
  have r_13 : (execOp x_12.eval oQH7).run Try.prog (W1) = .ok (.value (.slice a1 m c1)) (W1) := by
    unfold oQH7
    have e27 : x_12.eval (.tmp 27) = .tuple #[.slice a1 m c1, .int .i64 ge] := g_12.at_ 27
    clear g_12 hQ h3 h4 h5 hm2 hKl
    generalize x_12.eval = ρ at *
    go_simp
  refine g_12.step 33 _ rfl (lb_ hsz) (wn rfl) r_13 (fun x_13 g_13 => ?_)
  clear r_13 g_12
  have r_14 : (execOp x_13.eval oQH8).run Try.prog (W1) = .ok (.value (.int .i64 ge)) (W1) := by
    unfold oQH8
    have e27 : x_13.eval (.tmp 27) = .tuple #[.slice a1 m c1, .int .i64 ge] := g_13.at_ 27
    clear g_13 hQ h3 h4 h5 hm2 hKl
    generalize x_13.eval = ρ at *
    go_simp
  refine g_13.step 34 _ rfl (lb_ hsz) (wn rfl) r_14 (fun x_14 g_14 => ?_)
  clear r_14 g_13
  refine g_14.move 9 (.slice a1 m c1) _ (Or.inr rfl) rfl (lb_ hsz) (wn rfl) (g_14.at_ 33) (fun x_15 g_15 => ?_)
  clear g_14
  refine g_15.move 10 (.int .i64 ge) _ (Or.inr rfl) rfl (lb_ hsz) (wn rfl) (g_15.at_ 34) (fun x_16 g_16 => ?_)
  clear g_15
  refine wpList_nil ?_
  have t1 : Same wr W1 := dd.trans s1
  have d0_2 := t1.keep d0
  have d1_2 := t1.keep d1
  have b0_2 := t1.keep b0
  have b1_2 := t1.keep b1
  change Code.wp _ _ _ _ _
  refine wp_seq ?_
  refine wp_region_list ?_
  unfold rFR5
  have r_17 : (execOp x_16.eval oQH9).run Try.prog (W1) = .ok (.value (.agg #[.int .i64 p, .int .i64 q])) (W1) := by
    unfold oQH9
    have e3 := (show x_16.eval (.tmp 3) = .pointer (some ⟨fb, 0, none⟩) from ((g_16.at_ 3).trans h3))
    clear g_16 hQ h3 h4 h5 hm2 hKl
    generalize x_16.eval = ρ at *
    go_simp
  refine g_16.step 36 _ rfl (lb_ hsz) (wn rfl) r_17 (fun x_17 g_17 => ?_)
  clear r_17 g_16
  have r_18 : (execOp x_17.eval oQH10).run Try.prog (W1) = .ok (.value (.iface 33 (.pointer (some ⟨bb, 0, none⟩)))) (W1) := by
    unfold oQH10
    have e4 := (show x_17.eval (.tmp 4) = .pointer (some ⟨bb, 0, none⟩) from ((g_17.at_ 4).trans h4))
    clear g_17 hQ h3 h4 h5 hm2 hKl
    generalize x_17.eval = ρ at *
    go_simp
  refine g_17.step 37 _ rfl (lb_ hsz) (wn rfl) r_18 (fun x_18 g_18 => ?_)
  clear r_18 g_17
  refine g_18.move 38 (.int .u32 (first : Int)) _ (Or.inl rfl) rfl (lb_ hsz) (wn rfl) (g_18.at_ 7) (fun x_19 g_19 => ?_)
  clear g_18
  refine g_19.move 39 (.int .u32 (pages : Int)) _ (Or.inl rfl) rfl (lb_ hsz) (wn rfl) (g_19.at_ 8) (fun x_20 g_20 => ?_)
  clear g_19
  have r_21 : (execOp x_20.eval oQH11).run Try.prog (W1) = .ok (.enter 4 #[.agg #[.int .i64 p, .int .i64 q], .iface 33 (.pointer (some ⟨bb, 0, none⟩)), .int .u32 (first : Int), .int .u32 (pages : Int)]) (W1) := by
    unfold oQH11
    have kf : ∀ f, x_20.eval (.func f) = .func (.func f) #[] #[] := fun _ => rfl
    have e36 : x_20.eval (.tmp 36) = .agg #[.int .i64 p, .int .i64 q] := g_20.at_ 36
    have e37 : x_20.eval (.tmp 37) = .iface 33 (.pointer (some ⟨bb, 0, none⟩)) := g_20.at_ 37
    have e38 : x_20.eval (.tmp 38) = .int .u32 (first : Int) := g_20.at_ 38
    have e39 : x_20.eval (.tmp 39) = .int .u32 (pages : Int) := g_20.at_ 39
    clear g_20 hQ h3 h4 h5 hm2 hKl
    generalize x_20.eval = ρ at *
    go_simp
  refine g_20.call 40 rfl (lb_ hsz) (wn rfl) r_21 (kR W1 t1) (fun e W2 hR => ?_)
  obtain ⟨a2, c2, N2, rfl, A2, K2, L2, s2⟩ := hR
  clear r_21
  refine ⟨_, rfl, fun x_21 g_21 => ?_⟩
  clear g_20
  refine g_21.move 35 (.tuple #[.slice a2 m c2, .int .i64 ge]) _ (Or.inl rfl) rfl (lb_ hsz) (wn rfl) (g_21.at_ 40) (fun x_22 g_22 => ?_)
  clear g_21
  have r_23 : (execOp x_22.eval oQH12).run Try.prog (W2) = .ok (.value (.slice a2 m c2)) (W2) := by
    unfold oQH12
    have e35 : x_22.eval (.tmp 35) = .tuple #[.slice a2 m c2, .int .i64 ge] := g_22.at_ 35
    clear g_22 hQ h3 h4 h5 hm2 hKl
    generalize x_22.eval = ρ at *
    go_simp
  refine g_22.step 41 _ rfl (lb_ hsz) (wn rfl) r_23 (fun x_23 g_23 => ?_)
  clear r_23 g_22
  have r_24 : (execOp x_23.eval oQH13).run Try.prog (W2) = .ok (.value (.int .i64 ge)) (W2) := by
    unfold oQH13
    have e35 : x_23.eval (.tmp 35) = .tuple #[.slice a2 m c2, .int .i64 ge] := g_23.at_ 35
    clear g_23 hQ h3 h4 h5 hm2 hKl
    generalize x_23.eval = ρ at *
    go_simp
  refine g_23.step 42 _ rfl (lb_ hsz) (wn rfl) r_24 (fun x_24 g_24 => ?_)
  clear r_24 g_23
  refine g_24.move 11 (.slice a2 m c2) _ (Or.inr rfl) rfl (lb_ hsz) (wn rfl) (g_24.at_ 41) (fun x_25 g_25 => ?_)
  clear g_24
  refine g_25.move 12 (.int .i64 ge) _ (Or.inr rfl) rfl (lb_ hsz) (wn rfl) (g_25.at_ 42) (fun x_26 g_26 => ?_)
  clear g_25
  refine wpList_nil ?_
  have t2 : Same wr W2 := t1.trans s2
  have d0_3 := t2.keep d0
  have d1_3 := t2.keep d1
  have b0_3 := t2.keep b0
  have b1_3 := t2.keep b1
  change Code.wp _ _ _ _ _
  refine wp_seq ?_
  refine wp_region_list ?_
  unfold rFR6
  have r_27 : (execOp x_26.eval oQH14).run Try.prog (W2) = .ok (.value (.agg #[.int .i64 p, .int .i64 q])) (W2) := by
    unfold oQH14
    have e3 := (show x_26.eval (.tmp 3) = .pointer (some ⟨fb, 0, none⟩) from ((g_26.at_ 3).trans h3))
    clear g_26 hQ h3 h4 h5 hm2 hKl
    generalize x_26.eval = ρ at *
    go_simp
  refine g_26.step 44 _ rfl (lb_ hsz) (wn rfl) r_27 (fun x_27 g_27 => ?_)
  clear r_27 g_26
  refine g_27.move 45 (.int .u32 (first : Int)) _ (Or.inl rfl) rfl (lb_ hsz) (wn rfl) (g_27.at_ 7) (fun x_28 g_28 => ?_)
  clear g_27
  refine g_28.move 46 (.int .u32 (pages : Int)) _ (Or.inl rfl) rfl (lb_ hsz) (wn rfl) (g_28.at_ 8) (fun x_29 g_29 => ?_)
  clear g_28
  have r_30 : (execOp x_29.eval oQH15).run Try.prog (W2) = .ok (.enter 4 #[.agg #[.int .i64 p, .int .i64 q], Value.nilIface, .int .u32 (first : Int), .int .u32 (pages : Int)]) (W2) := by
    unfold oQH15
    have kc : ∀ v, x_29.eval (.const v) = v := fun _ => rfl
    have kf : ∀ f, x_29.eval (.func f) = .func (.func f) #[] #[] := fun _ => rfl
    have e44 : x_29.eval (.tmp 44) = .agg #[.int .i64 p, .int .i64 q] := g_29.at_ 44
    have e45 : x_29.eval (.tmp 45) = .int .u32 (first : Int) := g_29.at_ 45
    have e46 : x_29.eval (.tmp 46) = .int .u32 (pages : Int) := g_29.at_ 46
    clear g_29 hQ h3 h4 h5 hm2 hKl
    generalize x_29.eval = ρ at *
    go_simp
  refine g_29.call 47 rfl (lb_ hsz) (wn rfl) r_30 (kN W2) (fun e W3 hR => ?_)
  obtain ⟨rfl, s3⟩ := hR
  clear r_30
  refine ⟨_, rfl, fun x_30 g_30 => ?_⟩
  clear g_29
  refine g_30.move 43 (.tuple #[.slice none 0 0, .int .i64 1]) _ (Or.inl rfl) rfl (lb_ hsz) (wn rfl) (g_30.at_ 47) (fun x_31 g_31 => ?_)
  clear g_30
  have r_32 : (execOp x_31.eval oQH16).run Try.prog (W3) = .ok (.value (.slice none 0 0)) (W3) := by
    unfold oQH16
    have e43 : x_31.eval (.tmp 43) = .tuple #[.slice none 0 0, .int .i64 1] := g_31.at_ 43
    clear g_31 hQ h3 h4 h5 hm2 hKl
    generalize x_31.eval = ρ at *
    go_simp
  refine g_31.step 48 _ rfl (lb_ hsz) (wn rfl) r_32 (fun x_32 g_32 => ?_)
  clear r_32 g_31
  have r_33 : (execOp x_32.eval oQH17).run Try.prog (W3) = .ok (.value (.int .i64 1)) (W3) := by
    unfold oQH17
    have e43 : x_32.eval (.tmp 43) = .tuple #[.slice none 0 0, .int .i64 1] := g_32.at_ 43
    clear g_32 hQ h3 h4 h5 hm2 hKl
    generalize x_32.eval = ρ at *
    go_simp
  refine g_32.step 49 _ rfl (lb_ hsz) (wn rfl) r_33 (fun x_33 g_33 => ?_)
  clear r_33 g_32
  refine g_33.move 13 (.slice none 0 0) _ (Or.inr rfl) rfl (lb_ hsz) (wn rfl) (g_33.at_ 48) (fun x_34 g_34 => ?_)
  clear g_33
  refine g_34.move 14 (.int .i64 1) _ (Or.inr rfl) rfl (lb_ hsz) (wn rfl) (g_34.at_ 49) (fun x_35 g_35 => ?_)
  clear g_34
  refine wpList_nil ?_
  have t3 : Same wr W3 := t2.trans s3
  have nGG : (ge != ge) = false := by simp
  change Code.wp _ _ _ _ _
  refine wp_seq (wp_seq ?_)
  refine wp_region_list ?_
  unfold rFR7
  refine g_35.move 50 (.int .i64 1) _ (Or.inl rfl) rfl (lb_ hsz) (wn rfl) (g_35.at_ 14) (fun x_36 g_36 => ?_)
  clear g_35
  have r_37 : (execOp x_36.eval oQH18).run Try.prog (W3) = .ok (.value (.bool false)) (W3) := by
    unfold oQH18
    have kc : ∀ v, x_36.eval (.const v) = v := fun _ => rfl
    have e50 : x_36.eval (.tmp 50) = .int .i64 1 := g_36.at_ 50
    clear g_36 hQ h3 h4 h5 hm2 hKl
    generalize x_36.eval = ρ at *
    go_simp
  refine g_36.step 51 _ rfl (lb_ hsz) (wn rfl) r_37 (fun x_37 g_37 => ?_)
  clear r_37 g_36
  refine g_37.move 52 (.bool false) _ (Or.inl rfl) rfl (lb_ hsz) (wn rfl) (g_37.at_ 51) (fun x_38 g_38 => ?_)
  clear g_37
  have r_39 : (execOp x_38.eval oQH19).run Try.prog (W3) = .ok (.enter 5 #[]) (W3) := by
    unfold oQH19
    have kf : ∀ f, x_38.eval (.func f) = .func (.func f) #[] #[] := fun _ => rfl
    clear g_38 hQ h3 h4 h5 hm2 hKl
    generalize x_38.eval = ρ at *
    go_simp
  refine g_38.call 53 rfl (lb_ hsz) ((wanted_at (t := 52) (c := false) (b := false) rfl rfl rfl (lb_ (g_38.size.trans hsz)) (g_38.at_ 52)).trans (by rfl)) r_39 (ka W3) (fun e W4 hR => ?_)
  obtain ⟨rfl, s4⟩ := hR
  clear r_39
  refine ⟨_, rfl, fun x_39 g_39 => ?_⟩
  clear g_38
  have r_40 : (execOp x_39.eval oQH20).run Try.prog (W4) = .ok (.value (.bool false)) (W4) := by
    unfold oQH20
    have e53 : x_39.eval (.tmp 53) = .bool true := g_39.at_ 53
    clear g_39 hQ h3 h4 h5 hm2 hKl
    generalize x_39.eval = ρ at *
    go_simp
  refine g_39.step 54 _ rfl (lb_ hsz) ((wanted_at (t := 52) (c := false) (b := false) rfl rfl rfl (lb_ (g_39.size.trans hsz)) (g_39.at_ 52)).trans (by rfl)) r_40 (fun x_40 g_40 => ?_)
  clear r_40 g_39
  have r_41 : (execOp x_40.eval oQH21).run Try.prog (W4) = .ok (.value (.bool false)) (W4) := by
    unfold oQH21
    have kc : ∀ v, x_40.eval (.const v) = v := fun _ => rfl
    have e52 : x_40.eval (.tmp 52) = .bool false := g_40.at_ 52
    have e54 : x_40.eval (.tmp 54) = .bool false := g_40.at_ 54
    clear g_40 hQ h3 h4 h5 hm2 hKl
    generalize x_40.eval = ρ at *
    go_simp
  refine g_40.step 55 _ rfl (lb_ hsz) (wn rfl) r_41 (fun x_41 g_41 => ?_)
  clear r_41 g_40
  refine g_41.move 56 (.bool false) _ (Or.inl rfl) rfl (lb_ hsz) (wn rfl) (g_41.at_ 55) (fun x_42 g_42 => ?_)
  clear g_41
  refine g_42.move 57 (.int .i64 ge) _ (Or.inl rfl) rfl (lb_ hsz) ((wanted_at (t := 56) (c := false) (b := false) rfl rfl rfl (lb_ (g_42.size.trans hsz)) (g_42.at_ 56)).trans (by rfl)) (g_42.at_ 10) (fun x_43 g_43 => ?_)
  clear g_42
  refine g_43.move 58 (.int .i64 ge) _ (Or.inl rfl) rfl (lb_ hsz) ((wanted_at (t := 56) (c := false) (b := false) rfl rfl rfl (lb_ (g_43.size.trans hsz)) (g_43.at_ 56)).trans (by rfl)) (g_43.at_ 12) (fun x_44 g_44 => ?_)
  clear g_43
  have r_45 : (execOp x_44.eval oQH22).run Try.prog (W4) = .ok (.value (.bool false)) (W4) := by
    unfold oQH22
    have e57 : x_44.eval (.tmp 57) = .int .i64 ge := g_44.at_ 57
    have e58 : x_44.eval (.tmp 58) = .int .i64 ge := g_44.at_ 58
    clear g_44 hQ h3 h4 h5 hm2 hKl
    generalize x_44.eval = ρ at *
    go_simp
  refine g_44.step 59 _ rfl (lb_ hsz) ((wanted_at (t := 56) (c := false) (b := false) rfl rfl rfl (lb_ (g_44.size.trans hsz)) (g_44.at_ 56)).trans (by rfl)) r_45 (fun x_45 g_45 => ?_)
  clear r_45 g_44
  have r_46 : (execOp x_45.eval oQH23).run Try.prog (W4) = .ok (.value (.bool false)) (W4) := by
    unfold oQH23
    have kc : ∀ v, x_45.eval (.const v) = v := fun _ => rfl
    have e56 : x_45.eval (.tmp 56) = .bool false := g_45.at_ 56
    have e59 : x_45.eval (.tmp 59) = .bool false := g_45.at_ 59
    clear g_45 hQ h3 h4 h5 hm2 hKl
    generalize x_45.eval = ρ at *
    go_simp
  refine g_45.step 60 _ rfl (lb_ hsz) (wn rfl) r_46 (fun x_46 g_46 => ?_)
  clear r_46 g_45
  refine wpList_nil ?_
  have t4 : Same wr W4 := t3.trans s4
  have d0_4 := t4.keep d0
  have d1_4 := t4.keep d1
  have b0_4 := t4.keep b0
  have b1_4 := t4.keep b1
  change Code.wp _ _ _ _ _
  refine wp_cond_false (show x_46.eval (.tmp 60) = .bool false from (g_46.at_ 60)) (wp_skip ?_)
  change Code.wp _ _ _ _ _
  refine wp_seq (wp_seq ?_)
  refine wp_region_list ?_
  unfold rFR9
  have r_47 : (execOp x_46.eval oQH24).run Try.prog (W4) = .ok (.value (.agg #[.int .i64 p, .int .i64 q])) (W4) := by
    unfold oQH24
    have e3 := (show x_46.eval (.tmp 3) = .pointer (some ⟨fb, 0, none⟩) from ((g_46.at_ 3).trans h3))
    clear g_46 hQ h3 h4 h5 hm2 hKl
    generalize x_46.eval = ρ at *
    go_simp
  refine g_46.step 61 _ rfl (lb_ hsz) (wn rfl) r_47 (fun x_47 g_47 => ?_)
  clear r_47 g_46
  refine g_47.move 62 (.int .u32 (pages : Int)) _ (Or.inl rfl) rfl (lb_ hsz) (wn rfl) (g_47.at_ 8) (fun x_48 g_48 => ?_)
  clear g_47
  have r_49 : (execOp x_48.eval oQH25).run Try.prog (W4) = .ok (.enter 6 #[.agg #[.int .i64 p, .int .i64 q], Value.slice none 0 0, .int .u32 (pages : Int)]) (W4) := by
    unfold oQH25
    have kc : ∀ v, x_48.eval (.const v) = v := fun _ => rfl
    have kf : ∀ f, x_48.eval (.func f) = .func (.func f) #[] #[] := fun _ => rfl
    have e61 : x_48.eval (.tmp 61) = .agg #[.int .i64 p, .int .i64 q] := g_48.at_ 61
    have e62 : x_48.eval (.tmp 62) = .int .u32 (pages : Int) := g_48.at_ 62
    clear g_48 hQ h3 h4 h5 hm2 hKl
    generalize x_48.eval = ρ at *
    go_simp
  refine g_48.call 63 rfl (lb_ hsz) (wn rfl) r_49 (kC W4 t4) (fun e W5 hR => ?_)
  obtain ⟨rfl, s5⟩ := hR
  clear r_49
  refine ⟨_, rfl, fun x_49 g_49 => ?_⟩
  clear g_48
  have r_50 : (execOp x_49.eval oQH26).run Try.prog (W5) = .ok (.value (.bool false)) (W5) := by
    unfold oQH26
    have kc : ∀ v, x_49.eval (.const v) = v := fun _ => rfl
    have e63 : x_49.eval (.tmp 63) = .int .i64 0 := g_49.at_ 63
    clear g_49 hQ h3 h4 h5 hm2 hKl
    generalize x_49.eval = ρ at *
    go_simp
  refine g_49.step 64 _ rfl (lb_ hsz) (wn rfl) r_50 (fun x_50 g_50 => ?_)
  clear r_50 g_49
  refine wpList_nil ?_
  have t5 : Same wr W5 := t4.trans s5
  have d0_5 := t5.keep d0
  have d1_5 := t5.keep d1
  have b0_5 := t5.keep b0
  have b1_5 := t5.keep b1
  change Code.wp _ _ _ _ _
  refine wp_cond_false (show x_50.eval (.tmp 64) = .bool false from (g_50.at_ 64)) (wp_skip ?_)
  change Code.wp _ _ _ _ _
  refine wp_seq ?_
  refine wp_region_list ?_
  unfold rFR11
  have r_51 : (execOp x_50.eval oQH31).run Try.prog (W5) = .ok (.value (.agg #[.int .i64 p, .int .i64 q])) (W5) := by
    unfold oQH31
    have e3 := (show x_50.eval (.tmp 3) = .pointer (some ⟨fb, 0, none⟩) from ((g_50.at_ 3).trans h3))
    clear g_50 hQ h3 h4 h5 hm2 hKl
    generalize x_50.eval = ρ at *
    go_simp
  refine g_50.step 73 _ rfl (lb_ hsz) (wn rfl) r_51 (fun x_51 g_51 => ?_)
  clear r_51 g_50
  have r_52 : (execOp x_51.eval oQH32).run Try.prog (W5) = .ok (.value (.pointer (some ⟨bb, 0, none⟩))) (W5) := by
    unfold oQH32
    have e4 := (show x_51.eval (.tmp 4) = .pointer (some ⟨bb, 0, none⟩) from ((g_51.at_ 4).trans h4))
    clear g_51 hQ h3 h4 h5 hm2 hKl
    generalize x_51.eval = ρ at *
    go_simp
  refine g_51.step 74 _ rfl (lb_ hsz) (wn rfl) r_52 (fun x_52 g_52 => ?_)
  clear r_52 g_51
  have r_53 : (execOp x_52.eval oQH33).run Try.prog (W5) = .ok (.value (.slice pa n cp)) (W5) := by
    unfold oQH33
    have e74 : x_52.eval (.tmp 74) = .pointer (some ⟨bb, 0, none⟩) := g_52.at_ 74
    clear g_52 hQ h3 h4 h5 hm2 hKl
    generalize x_52.eval = ρ at *
    go_simp
  refine g_52.step 75 _ rfl (lb_ hsz) (wn rfl) r_53 (fun x_53 g_53 => ?_)
  clear r_53 g_52
  refine g_53.move 76 (.int .u32 (first : Int)) _ (Or.inl rfl) rfl (lb_ hsz) (wn rfl) (g_53.at_ 7) (fun x_54 g_54 => ?_)
  clear g_53
  refine g_54.move 77 (.int .u32 (pages : Int)) _ (Or.inl rfl) rfl (lb_ hsz) (wn rfl) (g_54.at_ 8) (fun x_55 g_55 => ?_)
  clear g_54
  have r_56 : (execOp x_55.eval oQH34).run Try.prog (W5) = .ok (.enter 7 #[.agg #[.int .i64 p, .int .i64 q], .slice pa n cp, .int .u32 (first : Int), .int .u32 (pages : Int)]) (W5) := by
    unfold oQH34
    have kf : ∀ f, x_55.eval (.func f) = .func (.func f) #[] #[] := fun _ => rfl
    have e73 : x_55.eval (.tmp 73) = .agg #[.int .i64 p, .int .i64 q] := g_55.at_ 73
    have e75 : x_55.eval (.tmp 75) = .slice pa n cp := g_55.at_ 75
    have e76 : x_55.eval (.tmp 76) = .int .u32 (first : Int) := g_55.at_ 76
    have e77 : x_55.eval (.tmp 77) = .int .u32 (pages : Int) := g_55.at_ 77
    clear g_55 hQ h3 h4 h5 hm2 hKl
    generalize x_55.eval = ρ at *
    go_simp
  refine g_55.call 78 rfl (lb_ hsz) (wn rfl) r_56 (kD W5 t5) (fun e W6 hR => ?_)
  obtain ⟨ow, cw, NW, rfl, ⟨gw, hw, hwg⟩, hwK, hwm, s6⟩ := hR
  clear r_56
  refine ⟨_, rfl, fun x_56 g_56 => ?_⟩
  clear g_55
  refine g_56.move 72 (.tuple #[.slice ow m cw, .int .i64 ge]) _ (Or.inl rfl) rfl (lb_ hsz) (wn rfl) (g_56.at_ 78) (fun x_57 g_57 => ?_)
  clear g_56
  have r_58 : (execOp x_57.eval oQH35).run Try.prog (W6) = .ok (.value (.slice ow m cw)) (W6) := by
    unfold oQH35
    have e72 : x_57.eval (.tmp 72) = .tuple #[.slice ow m cw, .int .i64 ge] := g_57.at_ 72
    clear g_57 hQ h3 h4 h5 hm2 hKl
    generalize x_57.eval = ρ at *
    go_simp
  refine g_57.step 79 _ rfl (lb_ hsz) (wn rfl) r_58 (fun x_58 g_58 => ?_)
  clear r_58 g_57
  have r_59 : (execOp x_58.eval oQH36).run Try.prog (W6) = .ok (.value (.int .i64 ge)) (W6) := by
    unfold oQH36
    have e72 : x_58.eval (.tmp 72) = .tuple #[.slice ow m cw, .int .i64 ge] := g_58.at_ 72
    clear g_58 hQ h3 h4 h5 hm2 hKl
    generalize x_58.eval = ρ at *
    go_simp
  refine g_58.step 80 _ rfl (lb_ hsz) (wn rfl) r_59 (fun x_59 g_59 => ?_)
  clear r_59 g_58
  refine g_59.move 15 (.slice ow m cw) _ (Or.inr rfl) rfl (lb_ hsz) (wn rfl) (g_59.at_ 79) (fun x_60 g_60 => ?_)
  clear g_59
  refine g_60.move 16 (.int .i64 ge) _ (Or.inr rfl) rfl (lb_ hsz) (wn rfl) (g_60.at_ 80) (fun x_61 g_61 => ?_)
  clear g_60
  refine wpList_nil ?_
  have t6 : Same wr W6 := t5.trans s6
  change Code.wp _ _ _ _ _
  refine wp_seq (wp_seq ?_)
  refine wp_region_list ?_
  unfold rFR12
  refine g_61.move 81 (.int .i64 ge) _ (Or.inl rfl) rfl (lb_ hsz) (wn rfl) (g_61.at_ 16) (fun x_62 g_62 => ?_)
  clear g_61
  have r_63 : (execOp x_62.eval oQH37).run Try.prog (W6) = .ok (.value (.bool false)) (W6) := by
    unfold oQH37
    have kc : ∀ v, x_62.eval (.const v) = v := fun _ => rfl
    have e81 : x_62.eval (.tmp 81) = .int .i64 ge := g_62.at_ 81
    clear g_62 hQ h3 h4 h5 hm2 hKl
    generalize x_62.eval = ρ at *
    go_simp
  refine g_62.step 82 _ rfl (lb_ hsz) (wn rfl) r_63 (fun x_63 g_63 => ?_)
  clear r_63 g_62
  refine wpList_nil ?_
  have t62 : Same W2 W6 := ((s3.trans s4).trans s5).trans s6
  have t61 : Same W1 W6 := s2.trans t62
  have A1b := A1.same t61
  have A2b := A2.same t62
  have hl1 : ∀ x ∈ N1, x.ns.length ≤ 1099511627000 := keyLen K1 hKl
  have hl2 : ∀ x ∈ N2, x.ns.length ≤ 1099511627000 := keyLen K2 hKl
  obtain ⟨g1, br1⟩ := new_br A1b.row A1b.new_ hl1
  obtain ⟨g2, br2⟩ := new_br A2b.row A2b.new_ hl2
  have kS1 : ∀ Z, Same W6 Z → Calls Try.prog 8 #[.slice a1 m c1, .slice ow m cw] Z fun e w' => e = .returned (.bool true) ∧ Same Z w' := fun Z s => by
    have := sameB_true (cp := c1) (cp2 := cw) Z (br1.same s) (hw.same s) (K1.trans hwK.symm) (by omega)
    rw [L1, hwm] at this
    exact this
  have kS2 : ∀ Z, Same W6 Z → Calls Try.prog 8 #[.slice a2 m c2, .slice ow m cw] Z fun e w' => e = .returned (.bool true) ∧ Same Z w' := fun Z s => by
    have := sameB_true (cp := c2) (cp2 := cw) Z (br2.same s) (hw.same s) (K2.trans hwK.symm) (by omega)
    rw [L2, hwm] at this
    exact this
  change Code.wp _ _ _ _ _
  refine wp_cond_false (show x_63.eval (.tmp 82) = .bool false from (g_63.at_ 82)) (wp_skip ?_)
  change Code.wp _ _ _ _ _
  refine wp_seq (wp_seq ?_)
  refine wp_region_list ?_
  unfold rFR14
  refine g_63.move 92 (.int .i64 ge) _ (Or.inl rfl) rfl (lb_ hsz) (wn rfl) (g_63.at_ 10) (fun x_64 g_64 => ?_)
  clear g_63
  refine g_64.move 93 (.int .i64 ge) _ (Or.inl rfl) rfl (lb_ hsz) (wn rfl) (g_64.at_ 16) (fun x_65 g_65 => ?_)
  clear g_64
  have r_66 : (execOp x_65.eval oQH44).run Try.prog (W6) = .ok (.value (.bool false)) (W6) := by
    unfold oQH44
    have e92 : x_65.eval (.tmp 92) = .int .i64 ge := g_65.at_ 92
    have e93 : x_65.eval (.tmp 93) = .int .i64 ge := g_65.at_ 93
    clear g_65 hQ h3 h4 h5 hm2 hKl
    generalize x_65.eval = ρ at *
    go_simp
  refine g_65.step 94 _ rfl (lb_ hsz) (wn rfl) r_66 (fun x_66 g_66 => ?_)
  clear r_66 g_65
  refine g_66.move 95 (.bool false) _ (Or.inl rfl) rfl (lb_ hsz) (wn rfl) (g_66.at_ 94) (fun x_67 g_67 => ?_)
  clear g_66
  refine g_67.move 96 (.slice a1 m c1) _ (Or.inl rfl) rfl (lb_ hsz) ((wanted_at (t := 95) (c := false) (b := false) rfl rfl rfl (lb_ (g_67.size.trans hsz)) (g_67.at_ 95)).trans (by rfl)) (g_67.at_ 9) (fun x_68 g_68 => ?_)
  clear g_67
  refine g_68.move 97 (.slice ow m cw) _ (Or.inl rfl) rfl (lb_ hsz) ((wanted_at (t := 95) (c := false) (b := false) rfl rfl rfl (lb_ (g_68.size.trans hsz)) (g_68.at_ 95)).trans (by rfl)) (g_68.at_ 15) (fun x_69 g_69 => ?_)
  clear g_68
  have r_70 : (execOp x_69.eval oQH45).run Try.prog (W6) = .ok (.enter 8 #[.slice a1 m c1, .slice ow m cw]) (W6) := by
    unfold oQH45
    have kf : ∀ f, x_69.eval (.func f) = .func (.func f) #[] #[] := fun _ => rfl
    have e96 : x_69.eval (.tmp 96) = .slice a1 m c1 := g_69.at_ 96
    have e97 : x_69.eval (.tmp 97) = .slice ow m cw := g_69.at_ 97
    clear g_69 hQ h3 h4 h5 hm2 hKl
    generalize x_69.eval = ρ at *
    go_simp
  refine g_69.call 98 rfl (lb_ hsz) ((wanted_at (t := 95) (c := false) (b := false) rfl rfl rfl (lb_ (g_69.size.trans hsz)) (g_69.at_ 95)).trans (by rfl)) r_70 (kS1 W6 (Fr.refl _ W6)) (fun e W10 hR => ?_)
  obtain ⟨rfl, s10⟩ := hR
  clear r_70
  refine ⟨_, rfl, fun x_70 g_70 => ?_⟩
  clear g_69
  have r_71 : (execOp x_70.eval oQH46).run Try.prog (W10) = .ok (.value (.bool false)) (W10) := by
    unfold oQH46
    have e98 : x_70.eval (.tmp 98) = .bool true := g_70.at_ 98
    clear g_70 hQ h3 h4 h5 hm2 hKl
    generalize x_70.eval = ρ at *
    go_simp
  refine g_70.step 99 _ rfl (lb_ hsz) ((wanted_at (t := 95) (c := false) (b := false) rfl rfl rfl (lb_ (g_70.size.trans hsz)) (g_70.at_ 95)).trans (by rfl)) r_71 (fun x_71 g_71 => ?_)
  clear r_71 g_70
  have r_72 : (execOp x_71.eval oQH47).run Try.prog (W10) = .ok (.value (.bool false)) (W10) := by
    unfold oQH47
    have kc : ∀ v, x_71.eval (.const v) = v := fun _ => rfl
    have e95 : x_71.eval (.tmp 95) = .bool false := g_71.at_ 95
    have e99 : x_71.eval (.tmp 99) = .bool false := g_71.at_ 99
    clear g_71 hQ h3 h4 h5 hm2 hKl
    generalize x_71.eval = ρ at *
    go_simp
  refine g_71.step 100 _ rfl (lb_ hsz) (wn rfl) r_72 (fun x_72 g_72 => ?_)
  clear r_72 g_71
  refine g_72.move 101 (.bool false) _ (Or.inl rfl) rfl (lb_ hsz) (wn rfl) (g_72.at_ 100) (fun x_73 g_73 => ?_)
  clear g_72
  refine g_73.move 102 (.slice a2 m c2) _ (Or.inl rfl) rfl (lb_ hsz) ((wanted_at (t := 101) (c := false) (b := false) rfl rfl rfl (lb_ (g_73.size.trans hsz)) (g_73.at_ 101)).trans (by rfl)) (g_73.at_ 11) (fun x_74 g_74 => ?_)
  clear g_73
  refine g_74.move 103 (.slice ow m cw) _ (Or.inl rfl) rfl (lb_ hsz) ((wanted_at (t := 101) (c := false) (b := false) rfl rfl rfl (lb_ (g_74.size.trans hsz)) (g_74.at_ 101)).trans (by rfl)) (g_74.at_ 15) (fun x_75 g_75 => ?_)
  clear g_74
  have r_76 : (execOp x_75.eval oQH48).run Try.prog (W10) = .ok (.enter 8 #[.slice a2 m c2, .slice ow m cw]) (W10) := by
    unfold oQH48
    have kf : ∀ f, x_75.eval (.func f) = .func (.func f) #[] #[] := fun _ => rfl
    have e102 : x_75.eval (.tmp 102) = .slice a2 m c2 := g_75.at_ 102
    have e103 : x_75.eval (.tmp 103) = .slice ow m cw := g_75.at_ 103
    clear g_75 hQ h3 h4 h5 hm2 hKl
    generalize x_75.eval = ρ at *
    go_simp
  refine g_75.call 104 rfl (lb_ hsz) ((wanted_at (t := 101) (c := false) (b := false) rfl rfl rfl (lb_ (g_75.size.trans hsz)) (g_75.at_ 101)).trans (by rfl)) r_76 (kS2 W10 s10) (fun e W11 hR => ?_)
  obtain ⟨rfl, s11⟩ := hR
  clear r_76
  have s_2 : Same W6 W11 := s10.trans s11
  refine ⟨_, rfl, fun x_76 g_76 => ?_⟩
  clear g_75
  have r_77 : (execOp x_76.eval oQH49).run Try.prog (W11) = .ok (.value (.bool false)) (W11) := by
    unfold oQH49
    have e104 : x_76.eval (.tmp 104) = .bool true := g_76.at_ 104
    clear g_76 hQ h3 h4 h5 hm2 hKl
    generalize x_76.eval = ρ at *
    go_simp
  refine g_76.step 105 _ rfl (lb_ hsz) ((wanted_at (t := 101) (c := false) (b := false) rfl rfl rfl (lb_ (g_76.size.trans hsz)) (g_76.at_ 101)).trans (by rfl)) r_77 (fun x_77 g_77 => ?_)
  clear r_77 g_76
  have r_78 : (execOp x_77.eval oQH50).run Try.prog (W11) = .ok (.value (.bool false)) (W11) := by
    unfold oQH50
    have kc : ∀ v, x_77.eval (.const v) = v := fun _ => rfl
    have e101 : x_77.eval (.tmp 101) = .bool false := g_77.at_ 101
    have e105 : x_77.eval (.tmp 105) = .bool false := g_77.at_ 105
    clear g_77 hQ h3 h4 h5 hm2 hKl
    generalize x_77.eval = ρ at *
    go_simp
  refine g_77.step 106 _ rfl (lb_ hsz) (wn rfl) r_78 (fun x_78 g_78 => ?_)
  clear r_78 g_77
  refine g_78.move 107 (.bool false) _ (Or.inl rfl) rfl (lb_ hsz) (wn rfl) (g_78.at_ 106) (fun x_79 g_79 => ?_)
  clear g_78
  refine g_79.move 108 (.slice a1 m c1) _ (Or.inl rfl) rfl (lb_ hsz) ((wanted_at (t := 107) (c := false) (b := false) rfl rfl rfl (lb_ (g_79.size.trans hsz)) (g_79.at_ 107)).trans (by rfl)) (g_79.at_ 9) (fun x_80 g_80 => ?_)
  clear g_79
  have r_81 : (execOp x_80.eval oQH51).run Try.prog (W11) = .ok (.enter 10 #[.slice a1 m c1]) (W11) := by
    unfold oQH51
    have kf : ∀ f, x_80.eval (.func f) = .func (.func f) #[] #[] := fun _ => rfl
    have e108 : x_80.eval (.tmp 108) = .slice a1 m c1 := g_80.at_ 108
    clear g_80 hQ h3 h4 h5 hm2 hKl
    generalize x_80.eval = ρ at *
    go_simp
  refine g_80.call 109 rfl (lb_ hsz) ((wanted_at (t := 107) (c := false) (b := false) rfl rfl rfl (lb_ (g_80.size.trans hsz)) (g_80.at_ 107)).trans (by rfl)) r_81 (inner_calls W11 (br1.same s_2) L1.symm (by omega)) (fun e W12 hR => ?_)
  obtain ⟨x1, y1, rfl, o1, s12⟩ := hR
  clear r_81
  have s_3 : Same W6 W12 := s_2.trans s12
  refine ⟨_, rfl, fun x_81 g_81 => ?_⟩
  clear g_80
  refine g_81.move 110 (.slice a2 m c2) _ (Or.inl rfl) rfl (lb_ hsz) ((wanted_at (t := 107) (c := false) (b := false) rfl rfl rfl (lb_ (g_81.size.trans hsz)) (g_81.at_ 107)).trans (by rfl)) (g_81.at_ 11) (fun x_82 g_82 => ?_)
  clear g_81
  have r_83 : (execOp x_82.eval oQH52).run Try.prog (W12) = .ok (.enter 10 #[.slice a2 m c2]) (W12) := by
    unfold oQH52
    have kf : ∀ f, x_82.eval (.func f) = .func (.func f) #[] #[] := fun _ => rfl
    have e110 : x_82.eval (.tmp 110) = .slice a2 m c2 := g_82.at_ 110
    clear g_82 hQ h3 h4 h5 hm2 hKl
    generalize x_82.eval = ρ at *
    go_simp
  refine g_82.call 111 rfl (lb_ hsz) ((wanted_at (t := 107) (c := false) (b := false) rfl rfl rfl (lb_ (g_82.size.trans hsz)) (g_82.at_ 107)).trans (by rfl)) r_83 (inner_calls W12 (br2.same s_3) L2.symm (by omega)) (fun e W13 hR => ?_)
  obtain ⟨x2, y2, rfl, o2, s13⟩ := hR
  clear r_83
  have s_4 : Same W6 W13 := s_3.trans s13
  have o1b := own_frameB o1 s13 (fun _ _ f => f)
  obtain ⟨v5, W14, hr5, o5, g5⟩ := run_partNss W13 40 o1b (own_slPart o2) (by show m + m ≤ _; omega) (Nat.le_trans s12.size s13.size)
  obtain ⟨a5, c5, rfl⟩ := own_shape o5
  have s14 : Same W11 W14 := Fr.trans (s12.trans s13) (Fr.grown (S := fun k => (Value.slice x1 m y1).ownBlock = some k) (Fr.refl _ _) g5 (fun k e _ => e)) (fun k hk e => by have := own_blk o1 k e; omega)
  refine ⟨_, rfl, fun x_83 g_83 => ?_⟩
  clear g_82
  have r_84 : (execOp x_83.eval oQH53).run Try.prog (W13) = .ok (.value (.slice a5 (m + m) c5)) (W14) := by
    unfold oQH53
    refine exec_append rfl ?_
    rw [(show x_83.eval (.tmp 109) = .slice x1 m y1 from (g_83.at_ 109)), (show x_83.eval (.tmp 111) = .slice x2 m y2 from (g_83.at_ 111))]
    exact hr5
  refine g_83.stepW 112 (.slice a5 (m + m) c5) rfl (lb_ hsz) ((wanted_at (t := 107) (c := false) (b := false) rfl rfl rfl (lb_ (g_83.size.trans hsz)) (g_83.at_ 107)).trans (by rfl)) r_84 (fun x_84 g_84 => ?_)
  clear r_84 g_83
  refine g_84.move 113 (.slice a1 m c1) _ (Or.inl rfl) rfl (lb_ hsz) ((wanted_at (t := 107) (c := false) (b := false) rfl rfl rfl (lb_ (g_84.size.trans hsz)) (g_84.at_ 107)).trans (by rfl)) (g_84.at_ 9) (fun x_85 g_85 => ?_)
  clear g_84
  refine g_85.move 114 (.slice a2 m c2) _ (Or.inl rfl) rfl (lb_ hsz) ((wanted_at (t := 107) (c := false) (b := false) rfl rfl rfl (lb_ (g_85.size.trans hsz)) (g_85.at_ 107)).trans (by rfl)) (g_85.at_ 11) (fun x_86 g_86 => ?_)
  clear g_85
  have r_87 : (execOp x_86.eval oQH54).run Try.prog (W14) = .ok (.value (.slice (some ⟨W14.heap.size, 0, none⟩) 2 2)) (W14.alloc (.cells #[.slice a1 m c1, .slice a2 m c2] 30)) := by
    unfold oQH54
    have e113 : x_86.eval (.tmp 113) = .slice a1 m c1 := g_86.at_ 113
    have e114 : x_86.eval (.tmp 114) = .slice a2 m c2 := g_86.at_ 114
    clear g_86 hQ h3 h4 h5 hm2 hKl
    generalize x_86.eval = ρ at *
    go_simp
  refine g_86.stepW 115 (.slice (some ⟨W14.heap.size, 0, none⟩) 2 2) rfl (lb_ hsz) ((wanted_at (t := 107) (c := false) (b := false) rfl rfl rfl (lb_ (g_86.size.trans hsz)) (g_86.at_ 107)).trans (by rfl)) r_87 (fun x_87 g_87 => ?_)
  clear r_87
  obtain ⟨W15, hW15⟩ : ∃ W15, W15 = W14.alloc (.cells #[.slice a1 m c1, .slice a2 m c2] 30) := ⟨_, rfl⟩
  rw [← hW15]
  have s15 : Same W14 W15 := by rw [hW15]; exact (Fr.refl _ W14).alloc _
  have hh15 : W15.heap[W14.heap.size]? = some (.cells #[.slice a1 m c1, .slice a2 m c2] 30 (0, 0)) := by rw [hW15]; exact heap_alloc_new W14 _
  have s_5 : Same W6 W15 := (s_2.trans s14).trans s15
  have s_6 : Same W1 W15 := t61.trans s_5
  have A2c := A2b.same s_5
  have o5b : W15.ownsRow W11.heap.size 51 1 (.slice a5 (m + m) c5) (m + m) ((N1.map slB ++ N2.map slB).map Sl.v) := by rw [List.map_append]; exact own_frameB o5 s15 (fun _ _ f => f)
  obtain ⟨lb5, oL5⟩ := own_sls o5b
  have aL5 := apt_two A1 s_6 A2c hl1 hl2
  have aC5 := apt_chains A1 s_6 A2c (by omega) (by omega)
  rw [L1, L2] at aC5
  have oC5 : OutAt 30 W15 (some ⟨W14.heap.size, 0, none⟩) W14.heap.size 0 [⟨a1, m, c1⟩, ⟨a2, m, c2⟩] := ⟨fun _ => ⟨rfl, _, _, hh15⟩, fun i x hx => by
    rw [Nat.zero_add, cell_of_row _ _ _ _ _ _ hh15]
    match i, hx with
    | 0, hx => simpa using congrArg (Option.map Sl.v) hx
    | 1, hx => simpa using congrArg (Option.map Sl.v) hx⟩
  have hmk : ∀ k, inB (N1.map slB ++ N2.map slB) k ∨ inB [⟨a1, m, c1⟩, ⟨a2, m, c2⟩] k → wr.drew.heap.size ≤ k := marks_ge A1 A2 s1.size
  clear g_86
  have r_88 : (execOp x_87.eval oQH55).run Try.prog (W15) = .ok (.enter 9 #[.slice a5 (m + m) c5, .slice (some ⟨W14.heap.size, 0, none⟩) 2 2]) (W15) := by
    unfold oQH55
    have kf : ∀ f, x_87.eval (.func f) = .func (.func f) #[] #[] := fun _ => rfl
    have e112 : x_87.eval (.tmp 112) = .slice a5 (m + m) c5 := g_87.at_ 112
    have e115 : x_87.eval (.tmp 115) = .slice (some ⟨W14.heap.size, 0, none⟩) 2 2 := g_87.at_ 115
    clear g_87 hQ h3 h4 h5 hm2 hKl
    generalize x_87.eval = ρ at *
    go_simp
  refine g_87.call 116 rfl (lb_ hsz) ((wanted_at (t := 107) (c := false) (b := false) rfl rfl rfl (lb_ (g_87.size.trans hsz)) (g_87.at_ 107)).trans (by rfl)) r_88 (apart_true (n := m + m) (m := 2) W15 (by rw [List.length_append, List.length_map, List.length_map, L1, L2]) rfl oL5 oC5 aL5 aC5 (by omega) (by decide)) (fun e W16 hR => ?_)
  obtain ⟨rfl, f16⟩ := hR
  clear r_88
  refine ⟨_, rfl, fun x_88 g_88 => ?_⟩
  clear g_87
  have r_89 : (execOp x_88.eval oQH56).run Try.prog (W16) = .ok (.value (.bool false)) (W16) := by
    unfold oQH56
    have e116 : x_88.eval (.tmp 116) = .bool true := g_88.at_ 116
    clear g_88 hQ h3 h4 h5 hm2 hKl
    generalize x_88.eval = ρ at *
    go_simp
  refine g_88.step 117 _ rfl (lb_ hsz) ((wanted_at (t := 107) (c := false) (b := false) rfl rfl rfl (lb_ (g_88.size.trans hsz)) (g_88.at_ 107)).trans (by rfl)) r_89 (fun x_89 g_89 => ?_)
  clear r_89 g_88
  have r_90 : (execOp x_89.eval oQH57).run Try.prog (W16) = .ok (.value (.bool false)) (W16) := by
    unfold oQH57
    have kc : ∀ v, x_89.eval (.const v) = v := fun _ => rfl
    have e107 : x_89.eval (.tmp 107) = .bool false := g_89.at_ 107
    have e117 : x_89.eval (.tmp 117) = .bool false := g_89.at_ 117
    clear g_89 hQ h3 h4 h5 hm2 hKl
    generalize x_89.eval = ρ at *
    go_simp
  refine g_89.step 118 _ rfl (lb_ hsz) (wn rfl) r_90 (fun x_90 g_90 => ?_)
  clear r_90 g_89
  refine wpList_nil ?_
  have hzd : wr.drew.heap.size = wr.heap.size := rfl
  have t16 : Same wr W16 := Fr.trans (t1.trans s_6) f16 (fun k hk e => by have := hmk k e; omega)
  have d0_7 := t16.keep d0
  have d1_7 := t16.keep d1
  have b0_7 := t16.keep b0
  have b1_7 := t16.keep b1
  change Code.wp _ _ _ _ _
  refine wp_cond_false (show x_90.eval (.tmp 118) = .bool false from (g_90.at_ 118)) (wp_skip ?_)
  change Code.wp _ _ _ _ _
  refine wp_seq ?_
  refine wp_region_list ?_
  unfold rFR16
  have r_91 : (execOp x_90.eval oQH58).run Try.prog (W16) = .ok (.value (.agg #[.int .i64 p, .int .i64 q])) (W16) := by
    unfold oQH58
    have e3 := (show x_90.eval (.tmp 3) = .pointer (some ⟨fb, 0, none⟩) from ((g_90.at_ 3).trans h3))
    clear g_90 hQ h3 h4 h5 hm2 hKl
    generalize x_90.eval = ρ at *
    go_simp
  refine g_90.step 120 _ rfl (lb_ hsz) (wn rfl) r_91 (fun x_91 g_91 => ?_)
  clear r_91 g_90
  have r_92 : (execOp x_91.eval oQH59).run Try.prog (W16) = .ok (.value (.iface 33 (.pointer (some ⟨bb, 0, none⟩)))) (W16) := by
    unfold oQH59
    have e4 := (show x_91.eval (.tmp 4) = .pointer (some ⟨bb, 0, none⟩) from ((g_91.at_ 4).trans h4))
    clear g_91 hQ h3 h4 h5 hm2 hKl
    generalize x_91.eval = ρ at *
    go_simp
  refine g_91.step 121 _ rfl (lb_ hsz) (wn rfl) r_92 (fun x_92 g_92 => ?_)
  clear r_92 g_91
  refine g_92.move 122 (.int .u32 (first : Int)) _ (Or.inl rfl) rfl (lb_ hsz) (wn rfl) (g_92.at_ 7) (fun x_93 g_93 => ?_)
  clear g_92
  refine g_93.move 123 (.int .u32 (pages : Int)) _ (Or.inl rfl) rfl (lb_ hsz) (wn rfl) (g_93.at_ 8) (fun x_94 g_94 => ?_)
  clear g_93
  have r_95 : (execOp x_94.eval oQH60).run Try.prog (W16) = .ok (.enter 4 #[.agg #[.int .i64 p, .int .i64 q], .iface 33 (.pointer (some ⟨bb, 0, none⟩)), .int .u32 (first : Int), .int .u32 (pages : Int)]) (W16) := by
    unfold oQH60
    have kf : ∀ f, x_94.eval (.func f) = .func (.func f) #[] #[] := fun _ => rfl
    have e120 : x_94.eval (.tmp 120) = .agg #[.int .i64 p, .int .i64 q] := g_94.at_ 120
    have e121 : x_94.eval (.tmp 121) = .iface 33 (.pointer (some ⟨bb, 0, none⟩)) := g_94.at_ 121
    have e122 : x_94.eval (.tmp 122) = .int .u32 (first : Int) := g_94.at_ 122
    have e123 : x_94.eval (.tmp 123) = .int .u32 (pages : Int) := g_94.at_ 123
    clear g_94 hQ h3 h4 h5 hm2 hKl
    generalize x_94.eval = ρ at *
    go_simp
  refine g_94.call 124 rfl (lb_ hsz) (wn rfl) r_95 (kR W16 t16) (fun e W20 hR => ?_)
  obtain ⟨a20, c20, N20, rfl, A20, K20, L20, s20⟩ := hR
  clear r_95
  refine ⟨_, rfl, fun x_95 g_95 => ?_⟩
  clear g_94
  refine g_95.move 119 (.tuple #[.slice a20 m c20, .int .i64 ge]) _ (Or.inl rfl) rfl (lb_ hsz) (wn rfl) (g_95.at_ 124) (fun x_96 g_96 => ?_)
  clear g_95
  have r_97 : (execOp x_96.eval oQH61).run Try.prog (W20) = .ok (.value (.slice a20 m c20)) (W20) := by
    unfold oQH61
    have e119 : x_96.eval (.tmp 119) = .tuple #[.slice a20 m c20, .int .i64 ge] := g_96.at_ 119
    clear g_96 hQ h3 h4 h5 hm2 hKl
    generalize x_96.eval = ρ at *
    go_simp
  refine g_96.step 125 _ rfl (lb_ hsz) (wn rfl) r_97 (fun x_97 g_97 => ?_)
  clear r_97 g_96
  have r_98 : (execOp x_97.eval oQH62).run Try.prog (W20) = .ok (.value (.int .i64 ge)) (W20) := by
    unfold oQH62
    have e119 : x_97.eval (.tmp 119) = .tuple #[.slice a20 m c20, .int .i64 ge] := g_97.at_ 119
    clear g_97 hQ h3 h4 h5 hm2 hKl
    generalize x_97.eval = ρ at *
    go_simp
  refine g_97.step 126 _ rfl (lb_ hsz) (wn rfl) r_98 (fun x_98 g_98 => ?_)
  clear r_98 g_97
  refine g_98.move 17 (.slice a20 m c20) _ (Or.inr rfl) rfl (lb_ hsz) (wn rfl) (g_98.at_ 125) (fun x_99 g_99 => ?_)
  clear g_98
  refine g_99.move 18 (.int .i64 ge) _ (Or.inr rfl) rfl (lb_ hsz) (wn rfl) (g_99.at_ 126) (fun x_100 g_100 => ?_)
  clear g_99
  refine wpList_nil ?_
  obtain ⟨g20, br20⟩ := new_br A20.row A20.new_ (keyLen K20 hKl)
  have hfw : Fr (fun k => inB (N1.map slB ++ N2.map slB) k ∨ inB [⟨a1, m, c1⟩, ⟨a2, m, c2⟩] k) W6 W20 := Fr.trans (Fr.trans (Fr.mono s_5 (fun _ _ e => e.elim)) f16 (fun _ _ e => e)) s20 (fun _ _ e => e.elim)
  have hmu : ∀ k, inB (N1.map slB ++ N2.map slB) k ∨ inB [⟨a1, m, c1⟩, ⟨a2, m, c2⟩] k → k < W2.heap.size := marks_lt (A1.same s2) A2 L1 L2
  have h35 := ((s3.trans s4).trans s5).size
  have hw20 : BrRow W20 ow gw 0 NW := hw.frs hfw hwg (fun k e => Nat.lt_of_lt_of_le (hmu k e) h35)
  have kS20 : Calls Try.prog 8 #[.slice a20 m c20, .slice ow m cw] W20 fun e w' => e = .returned (.bool true) ∧ Same W20 w' := by
    have := sameB_true (cp := c20) (cp2 := cw) W20 br20 hw20 (K20.trans hwK.symm) (by omega)
    rw [L20, hwm] at this
    exact this
  change Code.wp _ _ _ _ _
  refine wp_seq ?_
  refine wp_region_list ?_
  unfold rFR17
  refine g_100.move 127 (.slice a20 m c20) _ (Or.inl rfl) rfl (lb_ hsz) (wn rfl) (g_100.at_ 17) (fun x_101 g_101 => ?_)
  clear g_100
  refine g_101.move 128 (.slice ow m cw) _ (Or.inl rfl) rfl (lb_ hsz) (wn rfl) (g_101.at_ 15) (fun x_102 g_102 => ?_)
  clear g_101
  have r_103 : (execOp x_102.eval oQH63).run Try.prog (W20) = .ok (.enter 8 #[.slice a20 m c20, .slice ow m cw]) (W20) := by
    unfold oQH63
    have kf : ∀ f, x_102.eval (.func f) = .func (.func f) #[] #[] := fun _ => rfl
    have e127 : x_102.eval (.tmp 127) = .slice a20 m c20 := g_102.at_ 127
    have e128 : x_102.eval (.tmp 128) = .slice ow m cw := g_102.at_ 128
    clear g_102 hQ h3 h4 h5 hm2 hKl
    generalize x_102.eval = ρ at *
    go_simp
  refine g_102.call 129 rfl (lb_ hsz) (wn rfl) r_103 (kS20) (fun e W21 hR => ?_)
  obtain ⟨rfl, s21⟩ := hR
  clear r_103
  refine ⟨_, rfl, fun x_103 g_103 => ?_⟩
  clear g_102
  refine g_103.move 6 (.bool true) _ (Or.inr rfl) rfl (lb_ hsz) (wn rfl) (g_103.at_ 129) (fun x_104 g_104 => ?_)
  clear g_103
  refine wpList_nil ?_
  change Code.wp _ _ _ _ _
  refine wp_ret ?_
  exact hQ x_104 W21 (g_104.defers.trans hd) (show x_104.eval (.tmp 6) = .bool true from (g_104.at_ 6)) ((t16.trans s20).trans s21)
end Go.Proofs.Ytajbifblbmlffaa
