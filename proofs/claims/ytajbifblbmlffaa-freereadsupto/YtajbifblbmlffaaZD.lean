/- apart: lists and chains are looked at. -/
import Derived.Test.YtajbifblbmlffaaZC
namespace Go.Proofs.Ytajbifblbmlffaa
open Go.RowKit Go.Maps

/-- The frame while lists and chains are looked at. -/
structure IZ (v0 v1 v9 v13 : Value) (a : Act) : Prop where
  size : a.tmps.size = 262
  defers : a.defers = []
  s0 : a.eval (.tmp 0) = v0
  s1 : a.eval (.tmp 1) = v1
  s9 : a.eval (.tmp 9) = v9
  s13 : a.eval (.tmp 13) = v13
theorem IZ.keep {v0 v1 v9 v13 : Value} {a0 a : Act} {env : List (Nat × Value)} (h : IZ v0 v1 v9 v13 a0) (f : Fe a0 env a) (h0 : look env 0 (a0.eval (.tmp 0)) = a0.eval (.tmp 0)) (h1 : look env 1 (a0.eval (.tmp 1)) = a0.eval (.tmp 1)) (h9 : look env 9 (a0.eval (.tmp 9)) = a0.eval (.tmp 9)) (h13 : look env 13 (a0.eval (.tmp 13)) = a0.eval (.tmp 13)) : IZ v0 v1 v9 v13 a :=
  ⟨f.size.trans h.size, f.defers.trans h.defers, ((f.at_ 0).trans h0).trans h.s0, ((f.at_ 1).trans h1).trans h.s1, ((f.at_ 9).trans h9).trans h.s9, ((f.at_ 13).trans h13).trans h.s13⟩
def oZD0 : Oper := { dst := some 121, op := .call { callee := .builtin .len, args := #[.tmp 120], argTypes := #[40] }, type := 3, pos := "memory.go:112", after := #[{ on := 1, ground := .data }], guard := none }
def oZD1 : Oper := { dst := some 122, op := .binOp .lss 3 (.tmp 119) (.tmp 121) 3, type := 4, pos := "memory.go:112", after := #[{ on := 0, ground := .data }, { on := 2, ground := .data }], guard := none }
def oZD2 : Oper := { dst := some 124, op := .binOp .add 3 (.tmp 123) (.const (.int .i64 1)) 3, type := 3, pos := "memory.go:112", after := #[{ on := 0, ground := .data }], guard := none }
def oZD3 : Oper := { dst := some 128, op := .indexAddr 40 (.tmp 126) (.tmp 127), type := 0, pos := "memory.go:113", after := #[{ on := 1, ground := .data }, { on := 2, ground := .data }], guard := none }
def oZD4 : Oper := { dst := some 129, op := .load 51 (.tmp 128), type := 51, pos := "memory.go:113", after := #[{ on := 3, ground := .data }], guard := none }
def oZD5 : Oper := { dst := some 130, op := .call { callee := .builtin .len, args := #[.tmp 129], argTypes := #[51] }, type := 3, pos := "memory.go:113", after := #[{ on := 4, ground := .data }], guard := none }
def oZD6 : Oper := { dst := some 131, op := .binOp .lss 3 (.tmp 125) (.tmp 130) 3, type := 4, pos := "memory.go:113", after := #[{ on := 0, ground := .data }, { on := 5, ground := .data }], guard := none }
def oZD7 : Oper := { dst := some 133, op := .binOp .add 3 (.tmp 132) (.const (.int .i64 1)) 3, type := 3, pos := "memory.go:113", after := #[{ on := 0, ground := .data }], guard := none }
def oZD8 : Oper := { dst := some 137, op := .indexAddr 40 (.tmp 135) (.tmp 136), type := 0, pos := "memory.go:114", after := #[{ on := 1, ground := .data }, { on := 2, ground := .data }], guard := none }
def oZD9 : Oper := { dst := some 138, op := .load 51 (.tmp 137), type := 51, pos := "memory.go:114", after := #[{ on := 3, ground := .data }], guard := none }
def oZD10 : Oper := { dst := some 139, op := .call { callee := .builtin .len, args := #[.tmp 138], argTypes := #[51] }, type := 3, pos := "memory.go:114", after := #[{ on := 4, ground := .data }], guard := none }
def oZD11 : Oper := { dst := some 140, op := .binOp .lss 3 (.tmp 134) (.tmp 139) 3, type := 4, pos := "memory.go:114", after := #[{ on := 0, ground := .data }, { on := 5, ground := .data }], guard := none }
def oZD12 : Oper := { dst := some 144, op := .indexAddr 40 (.tmp 142) (.tmp 143), type := 0, pos := "memory.go:114", after := #[{ on := 8, ground := .data }, { on := 9, ground := .data }, { on := 7, ground := .guard }], guard := some (7, true) }
def oZD13 : Oper := { dst := some 145, op := .load 51 (.tmp 144), type := 51, pos := "memory.go:114", after := #[{ on := 10, ground := .data }, { on := 7, ground := .guard }], guard := some (7, true) }
def oZD14 : Oper := { dst := some 147, op := .indexAddr 51 (.tmp 145) (.tmp 146), type := 0, pos := "memory.go:114", after := #[{ on := 11, ground := .data }, { on := 12, ground := .data }, { on := 7, ground := .guard }], guard := some (7, true) }
def oZD15 : Oper := { dst := some 148, op := .load 28 (.tmp 147), type := 28, pos := "memory.go:114", after := #[{ on := 13, ground := .data }, { on := 7, ground := .guard }], guard := some (7, true) }
def oZD16 : Oper := { dst := some 150, op := .binOp .add 3 (.const (.int .i64 100000)) (.tmp 149) 3, type := 3, pos := "memory.go:114", after := #[{ on := 15, ground := .data }, { on := 7, ground := .guard }], guard := some (7, true) }
def oZD17 : Oper := { dst := some 151, op := .convert 3 28 (.tmp 150), type := 28, pos := "memory.go:114", after := #[{ on := 16, ground := .data }, { on := 7, ground := .guard }], guard := some (7, true) }
def oZD18 : Oper := { dst := some 152, op := .binOp .neq 28 (.tmp 148) (.tmp 151) 28, type := 4, pos := "memory.go:114", after := #[{ on := 14, ground := .data }, { on := 17, ground := .data }, { on := 7, ground := .guard }], guard := some (7, true) }
def oZD19 : Oper := { dst := some 156, op := .indexAddr 40 (.tmp 154) (.tmp 155), type := 0, pos := "memory.go:114", after := #[{ on := 20, ground := .data }, { on := 21, ground := .data }, { on := 19, ground := .guard }], guard := some (19, false) }
def oZD20 : Oper := { dst := some 157, op := .load 51 (.tmp 156), type := 51, pos := "memory.go:114", after := #[{ on := 22, ground := .data }, { on := 19, ground := .guard }], guard := some (19, false) }
def oZD21 : Oper := { dst := some 159, op := .indexAddr 51 (.tmp 157) (.tmp 158), type := 0, pos := "memory.go:114", after := #[{ on := 23, ground := .data }, { on := 24, ground := .data }, { on := 19, ground := .guard }], guard := some (19, false) }
def oZD22 : Oper := { dst := some 160, op := .load 28 (.tmp 159), type := 28, pos := "memory.go:114", after := #[{ on := 25, ground := .data }, { on := 19, ground := .guard }], guard := some (19, false) }
def oZD23 : Oper := { dst := some 162, op := .binOp .add 3 (.const (.int .i64 100000)) (.tmp 161) 3, type := 3, pos := "memory.go:114", after := #[{ on := 27, ground := .data }, { on := 19, ground := .guard }], guard := some (19, false) }
def oZD24 : Oper := { dst := some 163, op := .convert 3 28 (.tmp 162), type := 28, pos := "memory.go:114", after := #[{ on := 28, ground := .data }, { on := 19, ground := .guard }], guard := some (19, false) }
def oZD25 : Oper := { dst := some 164, op := .binOp .neq 28 (.tmp 160) (.tmp 163) 28, type := 4, pos := "memory.go:114", after := #[{ on := 26, ground := .data }, { on := 29, ground := .data }, { on := 19, ground := .guard }], guard := some (19, false) }
def oZD26 : Oper := { dst := some 165, op := .pick (.tmp 153) (.const (.bool true)) (.tmp 164), type := 4, pos := "memory.go:114", after := #[{ on := 19, ground := .data }, { on := 30, ground := .data }, { on := 7, ground := .guard }], guard := some (7, true) }
def oZD27 : Oper := { dst := some 166, op := .pick (.tmp 141) (.tmp 165) (.const (.bool false)), type := 4, pos := "memory.go:114", after := #[{ on := 7, ground := .data }, { on := 31, ground := .data }], guard := none }
def oZD28 : Oper := { dst := some 171, op := .indexAddr 40 (.tmp 169) (.tmp 170), type := 0, pos := "memory.go:114", after := #[{ on := 35, ground := .data }, { on := 36, ground := .data }, { on := 33, ground := .guard }], guard := some (33, false) }
def oZD29 : Oper := { dst := some 172, op := .load 51 (.tmp 171), type := 51, pos := "memory.go:114", after := #[{ on := 37, ground := .data }, { on := 33, ground := .guard }], guard := some (33, false) }
def oZD30 : Oper := { dst := some 173, op := .call { callee := .builtin .len, args := #[.tmp 172], argTypes := #[51] }, type := 3, pos := "memory.go:114", after := #[{ on := 38, ground := .data }, { on := 33, ground := .guard }], guard := some (33, false) }
def oZD31 : Oper := { dst := some 174, op := .binOp .geq 3 (.tmp 168) (.tmp 173) 3, type := 4, pos := "memory.go:114", after := #[{ on := 34, ground := .data }, { on := 39, ground := .data }, { on := 33, ground := .guard }], guard := some (33, false) }
def oZD32 : Oper := { dst := some 178, op := .indexAddr 40 (.tmp 176) (.tmp 177), type := 0, pos := "memory.go:114", after := #[{ on := 42, ground := .data }, { on := 43, ground := .data }, { on := 41, ground := .guard }], guard := some (41, true) }
def oZD33 : Oper := { dst := some 179, op := .load 51 (.tmp 178), type := 51, pos := "memory.go:114", after := #[{ on := 44, ground := .data }, { on := 41, ground := .guard }], guard := some (41, true) }
def oZD34 : Oper := { dst := some 181, op := .indexAddr 51 (.tmp 179) (.tmp 180), type := 0, pos := "memory.go:114", after := #[{ on := 45, ground := .data }, { on := 46, ground := .data }, { on := 41, ground := .guard }], guard := some (41, true) }
def oZD35 : Oper := { dst := some 182, op := .load 28 (.tmp 181), type := 28, pos := "memory.go:114", after := #[{ on := 47, ground := .data }, { on := 41, ground := .guard }], guard := some (41, true) }
def oZD36 : Oper := { dst := some 184, op := .binOp .add 3 (.const (.int .i64 300000)) (.tmp 183) 3, type := 3, pos := "memory.go:114", after := #[{ on := 49, ground := .data }, { on := 41, ground := .guard }], guard := some (41, true) }
def oZD37 : Oper := { dst := some 185, op := .convert 3 28 (.tmp 184), type := 28, pos := "memory.go:114", after := #[{ on := 50, ground := .data }, { on := 41, ground := .guard }], guard := some (41, true) }
def oZD38 : Oper := { dst := some 186, op := .binOp .neq 28 (.tmp 182) (.tmp 185) 28, type := 4, pos := "memory.go:114", after := #[{ on := 48, ground := .data }, { on := 51, ground := .data }, { on := 41, ground := .guard }], guard := some (41, true) }
def oZD39 : Oper := { dst := some 187, op := .pick (.tmp 175) (.tmp 186) (.const (.bool false)), type := 4, pos := "memory.go:114", after := #[{ on := 41, ground := .data }, { on := 52, ground := .data }, { on := 33, ground := .guard }], guard := some (33, false) }
def oZD40 : Oper := { dst := some 188, op := .pick (.tmp 167) (.const (.bool true)) (.tmp 187), type := 4, pos := "memory.go:114", after := #[{ on := 33, ground := .data }, { on := 53, ground := .data }], guard := none }
def oZD41 : Oper := { dst := some 191, op := .call { callee := .builtin .len, args := #[.tmp 190], argTypes := #[42] }, type := 3, pos := "memory.go:119", after := #[{ on := 1, ground := .data }], guard := none }
def oZD42 : Oper := { dst := some 192, op := .binOp .lss 3 (.tmp 189) (.tmp 191) 3, type := 4, pos := "memory.go:119", after := #[{ on := 0, ground := .data }, { on := 2, ground := .data }], guard := none }
def oZD43 : Oper := { dst := some 194, op := .binOp .add 3 (.tmp 193) (.const (.int .i64 1)) 3, type := 3, pos := "memory.go:119", after := #[{ on := 0, ground := .data }], guard := none }
def oZD44 : Oper := { dst := some 198, op := .indexAddr 42 (.tmp 196) (.tmp 197), type := 0, pos := "memory.go:120", after := #[{ on := 1, ground := .data }, { on := 2, ground := .data }], guard := none }
def oZD45 : Oper := { dst := some 199, op := .load 30 (.tmp 198), type := 30, pos := "memory.go:120", after := #[{ on := 3, ground := .data }], guard := none }
def oZD46 : Oper := { dst := some 200, op := .call { callee := .builtin .len, args := #[.tmp 199], argTypes := #[30] }, type := 3, pos := "memory.go:120", after := #[{ on := 4, ground := .data }], guard := none }
def oZD47 : Oper := { dst := some 201, op := .binOp .lss 3 (.tmp 195) (.tmp 200) 3, type := 4, pos := "memory.go:120", after := #[{ on := 0, ground := .data }, { on := 5, ground := .data }], guard := none }
def oZD48 : Oper := { dst := some 203, op := .binOp .add 3 (.tmp 202) (.const (.int .i64 1)) 3, type := 3, pos := "memory.go:120", after := #[{ on := 0, ground := .data }], guard := none }
def oZD49 : Oper := { dst := some 207, op := .indexAddr 42 (.tmp 205) (.tmp 206), type := 0, pos := "memory.go:121", after := #[{ on := 1, ground := .data }, { on := 2, ground := .data }], guard := none }
def oZD50 : Oper := { dst := some 208, op := .load 30 (.tmp 207), type := 30, pos := "memory.go:121", after := #[{ on := 3, ground := .data }], guard := none }
def oZD51 : Oper := { dst := some 209, op := .call { callee := .builtin .len, args := #[.tmp 208], argTypes := #[30] }, type := 3, pos := "memory.go:121", after := #[{ on := 4, ground := .data }], guard := none }
def oZD52 : Oper := { dst := some 210, op := .binOp .lss 3 (.tmp 204) (.tmp 209) 3, type := 4, pos := "memory.go:121", after := #[{ on := 0, ground := .data }, { on := 5, ground := .data }], guard := none }
def oZD53 : Oper := { dst := some 214, op := .indexAddr 42 (.tmp 212) (.tmp 213), type := 0, pos := "memory.go:121", after := #[{ on := 8, ground := .data }, { on := 9, ground := .data }, { on := 7, ground := .guard }], guard := some (7, true) }
def oZD54 : Oper := { dst := some 215, op := .load 30 (.tmp 214), type := 30, pos := "memory.go:121", after := #[{ on := 10, ground := .data }, { on := 7, ground := .guard }], guard := some (7, true) }
def oZD55 : Oper := { dst := some 217, op := .indexAddr 30 (.tmp 215) (.tmp 216), type := 0, pos := "memory.go:121", after := #[{ on := 11, ground := .data }, { on := 12, ground := .data }, { on := 7, ground := .guard }], guard := some (7, true) }
def oZD56 : Oper := { dst := some 218, op := .fieldAddr 53 (.tmp 217) 0, type := 0, pos := "memory.go:121", after := #[{ on := 13, ground := .data }, { on := 7, ground := .guard }], guard := some (7, true) }
def oZD57 : Oper := { dst := some 219, op := .load 28 (.tmp 218), type := 28, pos := "memory.go:121", after := #[{ on := 14, ground := .data }, { on := 7, ground := .guard }], guard := some (7, true) }
def oZD58 : Oper := { dst := some 221, op := .binOp .add 3 (.const (.int .i64 200000)) (.tmp 220) 3, type := 3, pos := "memory.go:121", after := #[{ on := 16, ground := .data }, { on := 7, ground := .guard }], guard := some (7, true) }
def oZD59 : Oper := { dst := some 222, op := .convert 3 28 (.tmp 221), type := 28, pos := "memory.go:121", after := #[{ on := 17, ground := .data }, { on := 7, ground := .guard }], guard := some (7, true) }
def oZD60 : Oper := { dst := some 223, op := .binOp .neq 28 (.tmp 219) (.tmp 222) 28, type := 4, pos := "memory.go:121", after := #[{ on := 15, ground := .data }, { on := 18, ground := .data }, { on := 7, ground := .guard }], guard := some (7, true) }
def oZD61 : Oper := { dst := some 227, op := .indexAddr 42 (.tmp 225) (.tmp 226), type := 0, pos := "memory.go:121", after := #[{ on := 21, ground := .data }, { on := 22, ground := .data }, { on := 20, ground := .guard }], guard := some (20, false) }
def oZD62 : Oper := { dst := some 228, op := .load 30 (.tmp 227), type := 30, pos := "memory.go:121", after := #[{ on := 23, ground := .data }, { on := 20, ground := .guard }], guard := some (20, false) }
def oZD63 : Oper := { dst := some 230, op := .indexAddr 30 (.tmp 228) (.tmp 229), type := 0, pos := "memory.go:121", after := #[{ on := 24, ground := .data }, { on := 25, ground := .data }, { on := 20, ground := .guard }], guard := some (20, false) }
def oZD64 : Oper := { dst := some 231, op := .fieldAddr 53 (.tmp 230) 0, type := 0, pos := "memory.go:121", after := #[{ on := 26, ground := .data }, { on := 20, ground := .guard }], guard := some (20, false) }
def oZD65 : Oper := { dst := some 232, op := .load 28 (.tmp 231), type := 28, pos := "memory.go:121", after := #[{ on := 27, ground := .data }, { on := 20, ground := .guard }], guard := some (20, false) }
def oZD66 : Oper := { dst := some 234, op := .binOp .add 3 (.const (.int .i64 200000)) (.tmp 233) 3, type := 3, pos := "memory.go:121", after := #[{ on := 29, ground := .data }, { on := 20, ground := .guard }], guard := some (20, false) }
def oZD67 : Oper := { dst := some 235, op := .convert 3 28 (.tmp 234), type := 28, pos := "memory.go:121", after := #[{ on := 30, ground := .data }, { on := 20, ground := .guard }], guard := some (20, false) }
def oZD68 : Oper := { dst := some 236, op := .binOp .neq 28 (.tmp 232) (.tmp 235) 28, type := 4, pos := "memory.go:121", after := #[{ on := 28, ground := .data }, { on := 31, ground := .data }, { on := 20, ground := .guard }], guard := some (20, false) }
def oZD69 : Oper := { dst := some 237, op := .pick (.tmp 224) (.const (.bool true)) (.tmp 236), type := 4, pos := "memory.go:121", after := #[{ on := 20, ground := .data }, { on := 32, ground := .data }, { on := 7, ground := .guard }], guard := some (7, true) }
def oZD70 : Oper := { dst := some 238, op := .pick (.tmp 211) (.tmp 237) (.const (.bool false)), type := 4, pos := "memory.go:121", after := #[{ on := 7, ground := .data }, { on := 33, ground := .data }], guard := none }
def oZD71 : Oper := { dst := some 243, op := .indexAddr 42 (.tmp 241) (.tmp 242), type := 0, pos := "memory.go:121", after := #[{ on := 37, ground := .data }, { on := 38, ground := .data }, { on := 35, ground := .guard }], guard := some (35, false) }
def oZD72 : Oper := { dst := some 244, op := .load 30 (.tmp 243), type := 30, pos := "memory.go:121", after := #[{ on := 39, ground := .data }, { on := 35, ground := .guard }], guard := some (35, false) }
def oZD73 : Oper := { dst := some 245, op := .call { callee := .builtin .len, args := #[.tmp 244], argTypes := #[30] }, type := 3, pos := "memory.go:121", after := #[{ on := 40, ground := .data }, { on := 35, ground := .guard }], guard := some (35, false) }
def oZD74 : Oper := { dst := some 246, op := .binOp .geq 3 (.tmp 240) (.tmp 245) 3, type := 4, pos := "memory.go:121", after := #[{ on := 36, ground := .data }, { on := 41, ground := .data }, { on := 35, ground := .guard }], guard := some (35, false) }
def oZD75 : Oper := { dst := some 250, op := .indexAddr 42 (.tmp 248) (.tmp 249), type := 0, pos := "memory.go:121", after := #[{ on := 44, ground := .data }, { on := 45, ground := .data }, { on := 43, ground := .guard }], guard := some (43, true) }
def oZD76 : Oper := { dst := some 251, op := .load 30 (.tmp 250), type := 30, pos := "memory.go:121", after := #[{ on := 46, ground := .data }, { on := 43, ground := .guard }], guard := some (43, true) }
def oZD77 : Oper := { dst := some 253, op := .indexAddr 30 (.tmp 251) (.tmp 252), type := 0, pos := "memory.go:121", after := #[{ on := 47, ground := .data }, { on := 48, ground := .data }, { on := 43, ground := .guard }], guard := some (43, true) }
def oZD78 : Oper := { dst := some 254, op := .fieldAddr 53 (.tmp 253) 0, type := 0, pos := "memory.go:121", after := #[{ on := 49, ground := .data }, { on := 43, ground := .guard }], guard := some (43, true) }
def oZD79 : Oper := { dst := some 255, op := .load 28 (.tmp 254), type := 28, pos := "memory.go:121", after := #[{ on := 50, ground := .data }, { on := 43, ground := .guard }], guard := some (43, true) }
def oZD80 : Oper := { dst := some 257, op := .binOp .add 3 (.const (.int .i64 400000)) (.tmp 256) 3, type := 3, pos := "memory.go:121", after := #[{ on := 52, ground := .data }, { on := 43, ground := .guard }], guard := some (43, true) }
def oZD81 : Oper := { dst := some 258, op := .convert 3 28 (.tmp 257), type := 28, pos := "memory.go:121", after := #[{ on := 53, ground := .data }, { on := 43, ground := .guard }], guard := some (43, true) }
def oZD82 : Oper := { dst := some 259, op := .binOp .neq 28 (.tmp 255) (.tmp 258) 28, type := 4, pos := "memory.go:121", after := #[{ on := 51, ground := .data }, { on := 54, ground := .data }, { on := 43, ground := .guard }], guard := some (43, true) }
def oZD83 : Oper := { dst := some 260, op := .pick (.tmp 247) (.tmp 259) (.const (.bool false)), type := 4, pos := "memory.go:121", after := #[{ on := 43, ground := .data }, { on := 55, ground := .data }, { on := 35, ground := .guard }], guard := some (35, false) }
def oZD84 : Oper := { dst := some 261, op := .pick (.tmp 239) (.const (.bool true)) (.tmp 260), type := 4, pos := "memory.go:121", after := #[{ on := 35, ground := .data }, { on := 56, ground := .data }], guard := none }
def rAP36 : Array Oper := #[{ dst := some 119, op := .move (.tmp 17), type := 3, pos := "memory.go:112", after := #[], guard := none },
  { dst := some 120, op := .move (.tmp 0), type := 40, pos := "memory.go:112", after := #[], guard := none },
  oZD0,
  oZD1]
def rAP37 : Array Oper := #[{ dst := some 123, op := .move (.tmp 17), type := 3, pos := "memory.go:112", after := #[], guard := none },
  oZD2,
  { dst := some 17, op := .assign (.tmp 124), type := 3, pos := "memory.go:112", after := #[{ on := 1, ground := .data }, { on := 0, ground := .phase }, { on := 1, ground := .phase }], guard := none }]
def rAP38 : Array Oper := #[{ dst := some 18, op := .assign (.const (.int .i64 0)), type := 3, pos := "memory.go:113", after := #[], guard := none }]
def rAP39 : Array Oper := #[{ dst := some 125, op := .move (.tmp 18), type := 3, pos := "memory.go:113", after := #[], guard := none },
  { dst := some 126, op := .move (.tmp 9), type := 40, pos := "memory.go:113", after := #[], guard := none },
  { dst := some 127, op := .move (.tmp 17), type := 3, pos := "memory.go:113", after := #[], guard := none },
  oZD3,
  oZD4,
  oZD5,
  oZD6]
def rAP40 : Array Oper := #[{ dst := some 132, op := .move (.tmp 18), type := 3, pos := "memory.go:113", after := #[], guard := none },
  oZD7,
  { dst := some 18, op := .assign (.tmp 133), type := 3, pos := "memory.go:113", after := #[{ on := 1, ground := .data }, { on := 0, ground := .phase }, { on := 1, ground := .phase }], guard := none }]
def rAP41 : Array Oper := #[{ dst := some 134, op := .move (.tmp 18), type := 3, pos := "memory.go:114", after := #[], guard := none },
  { dst := some 135, op := .move (.tmp 0), type := 40, pos := "memory.go:114", after := #[], guard := none },
  { dst := some 136, op := .move (.tmp 17), type := 3, pos := "memory.go:114", after := #[], guard := none },
  oZD8,
  oZD9,
  oZD10,
  oZD11,
  { dst := some 141, op := .move (.tmp 140), type := 4, pos := "memory.go:114", after := #[{ on := 6, ground := .data }], guard := none },
  { dst := some 142, op := .move (.tmp 0), type := 40, pos := "memory.go:114", after := #[{ on := 7, ground := .guard }], guard := some (7, true) },
  { dst := some 143, op := .move (.tmp 17), type := 3, pos := "memory.go:114", after := #[{ on := 7, ground := .guard }], guard := some (7, true) },
  oZD12,
  oZD13,
  { dst := some 146, op := .move (.tmp 18), type := 3, pos := "memory.go:114", after := #[{ on := 7, ground := .guard }], guard := some (7, true) },
  oZD14,
  oZD15,
  { dst := some 149, op := .move (.tmp 17), type := 3, pos := "memory.go:114", after := #[{ on := 7, ground := .guard }], guard := some (7, true) },
  oZD16,
  oZD17,
  oZD18,
  { dst := some 153, op := .move (.tmp 152), type := 4, pos := "memory.go:114", after := #[{ on := 18, ground := .data }, { on := 7, ground := .chain }, { on := 7, ground := .guard }], guard := some (7, true) },
  { dst := some 154, op := .move (.tmp 9), type := 40, pos := "memory.go:114", after := #[{ on := 19, ground := .guard }], guard := some (19, false) },
  { dst := some 155, op := .move (.tmp 17), type := 3, pos := "memory.go:114", after := #[{ on := 19, ground := .guard }], guard := some (19, false) },
  oZD19,
  oZD20,
  { dst := some 158, op := .move (.tmp 18), type := 3, pos := "memory.go:114", after := #[{ on := 19, ground := .guard }], guard := some (19, false) },
  oZD21,
  oZD22,
  { dst := some 161, op := .move (.tmp 17), type := 3, pos := "memory.go:114", after := #[{ on := 19, ground := .guard }], guard := some (19, false) },
  oZD23,
  oZD24,
  oZD25,
  oZD26,
  oZD27,
  { dst := some 167, op := .move (.tmp 166), type := 4, pos := "memory.go:114", after := #[{ on := 32, ground := .data }, { on := 19, ground := .chain }], guard := none },
  { dst := some 168, op := .move (.tmp 18), type := 3, pos := "memory.go:114", after := #[{ on := 33, ground := .guard }], guard := some (33, false) },
  { dst := some 169, op := .move (.tmp 0), type := 40, pos := "memory.go:114", after := #[{ on := 33, ground := .guard }], guard := some (33, false) },
  { dst := some 170, op := .move (.tmp 17), type := 3, pos := "memory.go:114", after := #[{ on := 33, ground := .guard }], guard := some (33, false) },
  oZD28,
  oZD29,
  oZD30,
  oZD31,
  { dst := some 175, op := .move (.tmp 174), type := 4, pos := "memory.go:114", after := #[{ on := 40, ground := .data }, { on := 33, ground := .chain }, { on := 33, ground := .guard }], guard := some (33, false) },
  { dst := some 176, op := .move (.tmp 9), type := 40, pos := "memory.go:114", after := #[{ on := 41, ground := .guard }], guard := some (41, true) },
  { dst := some 177, op := .move (.tmp 17), type := 3, pos := "memory.go:114", after := #[{ on := 41, ground := .guard }], guard := some (41, true) },
  oZD32,
  oZD33,
  { dst := some 180, op := .move (.tmp 18), type := 3, pos := "memory.go:114", after := #[{ on := 41, ground := .guard }], guard := some (41, true) },
  oZD34,
  oZD35,
  { dst := some 183, op := .move (.tmp 17), type := 3, pos := "memory.go:114", after := #[{ on := 41, ground := .guard }], guard := some (41, true) },
  oZD36,
  oZD37,
  oZD38,
  oZD39,
  oZD40]
def rAP42 : Array Oper := #[{ dst := some 4, op := .assign (.const (.bool false)), type := 4, pos := "memory.go:115", after := #[], guard := none }]
def rAP44 : Array Oper := #[{ dst := some 189, op := .move (.tmp 19), type := 3, pos := "memory.go:119", after := #[], guard := none },
  { dst := some 190, op := .move (.tmp 1), type := 42, pos := "memory.go:119", after := #[], guard := none },
  oZD41,
  oZD42]
def rAP45 : Array Oper := #[{ dst := some 193, op := .move (.tmp 19), type := 3, pos := "memory.go:119", after := #[], guard := none },
  oZD43,
  { dst := some 19, op := .assign (.tmp 194), type := 3, pos := "memory.go:119", after := #[{ on := 1, ground := .data }, { on := 0, ground := .phase }, { on := 1, ground := .phase }], guard := none }]
def rAP46 : Array Oper := #[{ dst := some 20, op := .assign (.const (.int .i64 0)), type := 3, pos := "memory.go:120", after := #[], guard := none }]
def rAP47 : Array Oper := #[{ dst := some 195, op := .move (.tmp 20), type := 3, pos := "memory.go:120", after := #[], guard := none },
  { dst := some 196, op := .move (.tmp 13), type := 42, pos := "memory.go:120", after := #[], guard := none },
  { dst := some 197, op := .move (.tmp 19), type := 3, pos := "memory.go:120", after := #[], guard := none },
  oZD44,
  oZD45,
  oZD46,
  oZD47]
def rAP48 : Array Oper := #[{ dst := some 202, op := .move (.tmp 20), type := 3, pos := "memory.go:120", after := #[], guard := none },
  oZD48,
  { dst := some 20, op := .assign (.tmp 203), type := 3, pos := "memory.go:120", after := #[{ on := 1, ground := .data }, { on := 0, ground := .phase }, { on := 1, ground := .phase }], guard := none }]
def rAP49 : Array Oper := #[{ dst := some 204, op := .move (.tmp 20), type := 3, pos := "memory.go:121", after := #[], guard := none },
  { dst := some 205, op := .move (.tmp 1), type := 42, pos := "memory.go:121", after := #[], guard := none },
  { dst := some 206, op := .move (.tmp 19), type := 3, pos := "memory.go:121", after := #[], guard := none },
  oZD49,
  oZD50,
  oZD51,
  oZD52,
  { dst := some 211, op := .move (.tmp 210), type := 4, pos := "memory.go:121", after := #[{ on := 6, ground := .data }], guard := none },
  { dst := some 212, op := .move (.tmp 1), type := 42, pos := "memory.go:121", after := #[{ on := 7, ground := .guard }], guard := some (7, true) },
  { dst := some 213, op := .move (.tmp 19), type := 3, pos := "memory.go:121", after := #[{ on := 7, ground := .guard }], guard := some (7, true) },
  oZD53,
  oZD54,
  { dst := some 216, op := .move (.tmp 20), type := 3, pos := "memory.go:121", after := #[{ on := 7, ground := .guard }], guard := some (7, true) },
  oZD55,
  oZD56,
  oZD57,
  { dst := some 220, op := .move (.tmp 19), type := 3, pos := "memory.go:121", after := #[{ on := 7, ground := .guard }], guard := some (7, true) },
  oZD58,
  oZD59,
  oZD60,
  { dst := some 224, op := .move (.tmp 223), type := 4, pos := "memory.go:121", after := #[{ on := 19, ground := .data }, { on := 7, ground := .chain }, { on := 7, ground := .guard }], guard := some (7, true) },
  { dst := some 225, op := .move (.tmp 13), type := 42, pos := "memory.go:121", after := #[{ on := 20, ground := .guard }], guard := some (20, false) },
  { dst := some 226, op := .move (.tmp 19), type := 3, pos := "memory.go:121", after := #[{ on := 20, ground := .guard }], guard := some (20, false) },
  oZD61,
  oZD62,
  { dst := some 229, op := .move (.tmp 20), type := 3, pos := "memory.go:121", after := #[{ on := 20, ground := .guard }], guard := some (20, false) },
  oZD63,
  oZD64,
  oZD65,
  { dst := some 233, op := .move (.tmp 19), type := 3, pos := "memory.go:121", after := #[{ on := 20, ground := .guard }], guard := some (20, false) },
  oZD66,
  oZD67,
  oZD68,
  oZD69,
  oZD70,
  { dst := some 239, op := .move (.tmp 238), type := 4, pos := "memory.go:121", after := #[{ on := 34, ground := .data }, { on := 20, ground := .chain }], guard := none },
  { dst := some 240, op := .move (.tmp 20), type := 3, pos := "memory.go:121", after := #[{ on := 35, ground := .guard }], guard := some (35, false) },
  { dst := some 241, op := .move (.tmp 1), type := 42, pos := "memory.go:121", after := #[{ on := 35, ground := .guard }], guard := some (35, false) },
  { dst := some 242, op := .move (.tmp 19), type := 3, pos := "memory.go:121", after := #[{ on := 35, ground := .guard }], guard := some (35, false) },
  oZD71,
  oZD72,
  oZD73,
  oZD74,
  { dst := some 247, op := .move (.tmp 246), type := 4, pos := "memory.go:121", after := #[{ on := 42, ground := .data }, { on := 35, ground := .chain }, { on := 35, ground := .guard }], guard := some (35, false) },
  { dst := some 248, op := .move (.tmp 13), type := 42, pos := "memory.go:121", after := #[{ on := 43, ground := .guard }], guard := some (43, true) },
  { dst := some 249, op := .move (.tmp 19), type := 3, pos := "memory.go:121", after := #[{ on := 43, ground := .guard }], guard := some (43, true) },
  oZD75,
  oZD76,
  { dst := some 252, op := .move (.tmp 20), type := 3, pos := "memory.go:121", after := #[{ on := 43, ground := .guard }], guard := some (43, true) },
  oZD77,
  oZD78,
  oZD79,
  { dst := some 256, op := .move (.tmp 19), type := 3, pos := "memory.go:121", after := #[{ on := 43, ground := .guard }], guard := some (43, true) },
  oZD80,
  oZD81,
  oZD82,
  oZD83,
  oZD84]
def rAP50 : Array Oper := #[{ dst := some 4, op := .assign (.const (.bool false)), type := 4, pos := "memory.go:122", after := #[], guard := none }]
def cEU2 : Code := (.seq (.seq (.region 39 rAP39 false) (.cond (.tmp 131) .skip (.exit 18))) (.seq (.block 19 (.seq (.region 41 rAP41 false) (.cond (.tmp 188) (.seq (.region 42 rAP42 false) .ret) .skip))) (.region 40 rAP40 false)))
def cEU1 : Code := (.seq (.seq (.region 36 rAP36 false) (.cond (.tmp 122) .skip (.exit 16))) (.seq (.block 17 (.seq (.region 38 rAP38 false) (.block 18 (.loop cEU2)))) (.region 37 rAP37 false)))
set_option maxRecDepth 100000 in
set_option maxHeartbeats 1000000 in
theorem eUR {v1 v13 : Value} {lb lo n lc gm mc gy yn yc i k a b gx xn xc : Nat} {Q : Exit → Act → World → Prop} (a0 : Act) (wr : World) (I0 : IZ (.slice (some ⟨lb, lo, none⟩) n lc) v1 (.slice (some ⟨gm, 0, none⟩) n mc) v13 a0) (h17 : a0.eval (.tmp 17) = .int .i64 (i : Int)) (h18 : a0.eval (.tmp 18) = .int .i64 (k : Int))
    (hi : i < n) (hn : n ≤ 4000000) (ha : a = 100000 + i) (hb : b = 300000 + i) (hkx : k < xn) (hky : k < yn) (hyb : yn ≤ 1099511627776) (c1 : wr.cell? ⟨lb, lo + i, none⟩ = some (.slice (some ⟨gx, 0, none⟩) xn xc)) (c2 : wr.cell? ⟨gm, i, none⟩ = some (.slice (some ⟨gy, 0, none⟩) yn yc)) (c3 : wr.cell? ⟨gy, k, none⟩ = some (.int .u32 (a : Int))) (c4 : wr.cell? ⟨gx, k, none⟩ = some (.int .u32 (a : Int)))
    (hQ : ∀ a', IZ (.slice (some ⟨lb, lo, none⟩) n lc) v1 (.slice (some ⟨gm, 0, none⟩) n mc) v13 a' → a'.eval (.tmp 17) = .int .i64 (i : Int) → a'.eval (.tmp 18) = .int .i64 ((k : Int) + 1) → Q .normal a' wr) : cEU2.wp Try.prog Q a0 wr := by
  have hii : (i : Int) < (n : Int) := by omega
  have hki : (k : Int) < (yn : Int) := by omega
  have w1 : RowKit.wrap64 (100000 + (i : Int)) = (a : Int) := by unfold RowKit.wrap64; omega
  have w2 : IntKind.u32.wrap (a : Int) = (a : Int) := by rw [IntKind.wrap_u32]; omega
  have w3 : RowKit.wrap64 (300000 + (i : Int)) = (b : Int) := by unfold RowKit.wrap64; omega
  have w4 : IntKind.u32.wrap (b : Int) = (b : Int) := by rw [IntKind.wrap_u32]; omega
  have w5 : IntKind.i64.wrap (100000 + (i : Int)) = (a : Int) := by rw [IntKind.wrap_i64]; omega
  have w6 : IntKind.i64.wrap (300000 + (i : Int)) = (b : Int) := by rw [IntKind.wrap_i64]; omega
  have w7 : IntKind.i64.wrap ((k : Int) + 1) = (k : Int) + 1 := by rw [IntKind.wrap_i64]; omega
  have hkxi : (k : Int) < (xn : Int) := by omega
  have hkxd : decide ((xn : Int) ≤ (k : Int)) = false := decide_eq_false (by omega)
  clear hi hky hyb ha hb
  have g_0 := Fe.refl a0
  unfold cEU2
  refine wp_seq (wp_seq ?_)
  refine wp_region_list ?_
  unfold rAP39
  refine g_0.move 125 (.int .i64 (k : Int)) _ (Or.inl rfl) rfl (lb_ I0.size) (wn rfl) ((g_0.at_ 18).trans h18) (fun x_1 g_1 => ?_)
  clear g_0
  refine g_1.move 126 (.slice (some ⟨gm, 0, none⟩) n mc) _ (Or.inl rfl) rfl (lb_ I0.size) (wn rfl) ((g_1.at_ 9).trans I0.s9) (fun x_2 g_2 => ?_)
  clear g_1
  refine g_2.move 127 (.int .i64 (i : Int)) _ (Or.inl rfl) rfl (lb_ I0.size) (wn rfl) ((g_2.at_ 17).trans h17) (fun x_3 g_3 => ?_)
  clear g_2
  have r_4 : (execOp x_3.eval oZD3).run Try.prog (wr) = .ok (.value (.pointer (some ⟨gm, i, none⟩))) (wr) := by
    unfold oZD3
    have e126 : x_3.eval (.tmp 126) = .slice (some ⟨gm, 0, none⟩) n mc := g_3.at_ 126
    have e127 : x_3.eval (.tmp 127) = .int .i64 (i : Int) := g_3.at_ 127
    clear g_3 hQ h17 h18
    generalize x_3.eval = ρ at *
    go_simp
  refine g_3.step 128 _ rfl (lb_ I0.size) (wn rfl) r_4 (fun x_4 g_4 => ?_)
  clear r_4 g_3
  have r_5 : (execOp x_4.eval oZD4).run Try.prog (wr) = .ok (.value (.slice (some ⟨gy, 0, none⟩) yn yc)) (wr) := by
    unfold oZD4
    have e128 : x_4.eval (.tmp 128) = .pointer (some ⟨gm, i, none⟩) := g_4.at_ 128
    clear g_4 hQ h17 h18
    generalize x_4.eval = ρ at *
    go_simp
  refine g_4.step 129 _ rfl (lb_ I0.size) (wn rfl) r_5 (fun x_5 g_5 => ?_)
  clear r_5 g_4
  have r_6 : (execOp x_5.eval oZD5).run Try.prog (wr) = .ok (.value (.int .i64 (yn : Int))) (wr) := by
    unfold oZD5
    have e129 : x_5.eval (.tmp 129) = .slice (some ⟨gy, 0, none⟩) yn yc := g_5.at_ 129
    clear g_5 hQ h17 h18
    generalize x_5.eval = ρ at *
    go_simp
  refine g_5.step 130 _ rfl (lb_ I0.size) (wn rfl) r_6 (fun x_6 g_6 => ?_)
  clear r_6 g_5
  have r_7 : (execOp x_6.eval oZD6).run Try.prog (wr) = .ok (.value (.bool true)) (wr) := by
    unfold oZD6
    have e125 : x_6.eval (.tmp 125) = .int .i64 (k : Int) := g_6.at_ 125
    have e130 : x_6.eval (.tmp 130) = .int .i64 (yn : Int) := g_6.at_ 130
    clear g_6 hQ h17 h18
    generalize x_6.eval = ρ at *
    go_simp
  refine g_6.step 131 _ rfl (lb_ I0.size) (wn rfl) r_7 (fun x_7 g_7 => ?_)
  clear r_7 g_6
  refine wpList_nil ?_
  change Code.wp _ _ _ _ _
  refine wp_cond_true (show x_7.eval (.tmp 131) = .bool true from (g_7.at_ 131)) (wp_skip ?_)
  change Code.wp _ _ _ _ _
  refine wp_seq (wp_block (wp_seq ?_))
  refine wp_region_list ?_
  unfold rAP41
  refine g_7.move 134 (.int .i64 (k : Int)) _ (Or.inl rfl) rfl (lb_ I0.size) (wn rfl) ((g_7.at_ 18).trans h18) (fun x_8 g_8 => ?_)
  clear g_7
  refine g_8.move 135 (.slice (some ⟨lb, lo, none⟩) n lc) _ (Or.inl rfl) rfl (lb_ I0.size) (wn rfl) ((g_8.at_ 0).trans I0.s0) (fun x_9 g_9 => ?_)
  clear g_8
  refine g_9.move 136 (.int .i64 (i : Int)) _ (Or.inl rfl) rfl (lb_ I0.size) (wn rfl) ((g_9.at_ 17).trans h17) (fun x_10 g_10 => ?_)
  clear g_9
  have r_11 : (execOp x_10.eval oZD8).run Try.prog (wr) = .ok (.value (.pointer (some ⟨lb, lo + i, none⟩))) (wr) := by
    unfold oZD8
    have e135 : x_10.eval (.tmp 135) = .slice (some ⟨lb, lo, none⟩) n lc := g_10.at_ 135
    have e136 : x_10.eval (.tmp 136) = .int .i64 (i : Int) := g_10.at_ 136
    clear g_10 hQ h17 h18
    generalize x_10.eval = ρ at *
    go_simp
  refine g_10.step 137 _ rfl (lb_ I0.size) (wn rfl) r_11 (fun x_11 g_11 => ?_)
  clear r_11 g_10
  have r_12 : (execOp x_11.eval oZD9).run Try.prog (wr) = .ok (.value (.slice (some ⟨gx, 0, none⟩) xn xc)) (wr) := by
    unfold oZD9
    have e137 : x_11.eval (.tmp 137) = .pointer (some ⟨lb, lo + i, none⟩) := g_11.at_ 137
    clear g_11 hQ h17 h18
    generalize x_11.eval = ρ at *
    go_simp
  refine g_11.step 138 _ rfl (lb_ I0.size) (wn rfl) r_12 (fun x_12 g_12 => ?_)
  clear r_12 g_11
  have r_13 : (execOp x_12.eval oZD10).run Try.prog (wr) = .ok (.value (.int .i64 (xn : Int))) (wr) := by
    unfold oZD10
    have e138 : x_12.eval (.tmp 138) = .slice (some ⟨gx, 0, none⟩) xn xc := g_12.at_ 138
    clear g_12 hQ h17 h18
    generalize x_12.eval = ρ at *
    go_simp
  refine g_12.step 139 _ rfl (lb_ I0.size) (wn rfl) r_13 (fun x_13 g_13 => ?_)
  clear r_13 g_12
  have r_14 : (execOp x_13.eval oZD11).run Try.prog (wr) = .ok (.value (.bool true)) (wr) := by
    unfold oZD11
    have e134 : x_13.eval (.tmp 134) = .int .i64 (k : Int) := g_13.at_ 134
    have e139 : x_13.eval (.tmp 139) = .int .i64 (xn : Int) := g_13.at_ 139
    clear g_13 hQ h17 h18
    generalize x_13.eval = ρ at *
    go_simp
  refine g_13.step 140 _ rfl (lb_ I0.size) (wn rfl) r_14 (fun x_14 g_14 => ?_)
  clear r_14 g_13
  refine g_14.move 141 (.bool true) _ (Or.inl rfl) rfl (lb_ I0.size) (wn rfl) (g_14.at_ 140) (fun x_15 g_15 => ?_)
  clear g_14
  refine g_15.move 142 (.slice (some ⟨lb, lo, none⟩) n lc) _ (Or.inl rfl) rfl (lb_ I0.size) ((wanted_at (t := 141) (c := true) (b := true) rfl rfl rfl (lb_ (g_15.size.trans I0.size)) (g_15.at_ 141)).trans (by rfl)) ((g_15.at_ 0).trans I0.s0) (fun x_16 g_16 => ?_)
  clear g_15
  refine g_16.move 143 (.int .i64 (i : Int)) _ (Or.inl rfl) rfl (lb_ I0.size) ((wanted_at (t := 141) (c := true) (b := true) rfl rfl rfl (lb_ (g_16.size.trans I0.size)) (g_16.at_ 141)).trans (by rfl)) ((g_16.at_ 17).trans h17) (fun x_17 g_17 => ?_)
  clear g_16
  have r_18 : (execOp x_17.eval oZD12).run Try.prog (wr) = .ok (.value (.pointer (some ⟨lb, lo + i, none⟩))) (wr) := by
    unfold oZD12
    have e142 : x_17.eval (.tmp 142) = .slice (some ⟨lb, lo, none⟩) n lc := g_17.at_ 142
    have e143 : x_17.eval (.tmp 143) = .int .i64 (i : Int) := g_17.at_ 143
    clear g_17 hQ h17 h18
    generalize x_17.eval = ρ at *
    go_simp
  refine g_17.step 144 _ rfl (lb_ I0.size) ((wanted_at (t := 141) (c := true) (b := true) rfl rfl rfl (lb_ (g_17.size.trans I0.size)) (g_17.at_ 141)).trans (by rfl)) r_18 (fun x_18 g_18 => ?_)
  clear r_18 g_17
  have r_19 : (execOp x_18.eval oZD13).run Try.prog (wr) = .ok (.value (.slice (some ⟨gx, 0, none⟩) xn xc)) (wr) := by
    unfold oZD13
    have e144 : x_18.eval (.tmp 144) = .pointer (some ⟨lb, lo + i, none⟩) := g_18.at_ 144
    clear g_18 hQ h17 h18
    generalize x_18.eval = ρ at *
    go_simp
  refine g_18.step 145 _ rfl (lb_ I0.size) ((wanted_at (t := 141) (c := true) (b := true) rfl rfl rfl (lb_ (g_18.size.trans I0.size)) (g_18.at_ 141)).trans (by rfl)) r_19 (fun x_19 g_19 => ?_)
  clear r_19 g_18
  refine g_19.move 146 (.int .i64 (k : Int)) _ (Or.inl rfl) rfl (lb_ I0.size) ((wanted_at (t := 141) (c := true) (b := true) rfl rfl rfl (lb_ (g_19.size.trans I0.size)) (g_19.at_ 141)).trans (by rfl)) ((g_19.at_ 18).trans h18) (fun x_20 g_20 => ?_)
  clear g_19
  have r_21 : (execOp x_20.eval oZD14).run Try.prog (wr) = .ok (.value (.pointer (some ⟨gx, k, none⟩))) (wr) := by
    unfold oZD14
    have e145 : x_20.eval (.tmp 145) = .slice (some ⟨gx, 0, none⟩) xn xc := g_20.at_ 145
    have e146 : x_20.eval (.tmp 146) = .int .i64 (k : Int) := g_20.at_ 146
    clear g_20 hQ h17 h18
    generalize x_20.eval = ρ at *
    go_simp
  refine g_20.step 147 _ rfl (lb_ I0.size) ((wanted_at (t := 141) (c := true) (b := true) rfl rfl rfl (lb_ (g_20.size.trans I0.size)) (g_20.at_ 141)).trans (by rfl)) r_21 (fun x_21 g_21 => ?_)
  clear r_21 g_20
  have r_22 : (execOp x_21.eval oZD15).run Try.prog (wr) = .ok (.value (.int .u32 (a : Int))) (wr) := by
    unfold oZD15
    have e147 : x_21.eval (.tmp 147) = .pointer (some ⟨gx, k, none⟩) := g_21.at_ 147
    clear g_21 hQ h17 h18
    generalize x_21.eval = ρ at *
    go_simp
  refine g_21.step 148 _ rfl (lb_ I0.size) ((wanted_at (t := 141) (c := true) (b := true) rfl rfl rfl (lb_ (g_21.size.trans I0.size)) (g_21.at_ 141)).trans (by rfl)) r_22 (fun x_22 g_22 => ?_)
  clear r_22 g_21
  refine g_22.move 149 (.int .i64 (i : Int)) _ (Or.inl rfl) rfl (lb_ I0.size) ((wanted_at (t := 141) (c := true) (b := true) rfl rfl rfl (lb_ (g_22.size.trans I0.size)) (g_22.at_ 141)).trans (by rfl)) ((g_22.at_ 17).trans h17) (fun x_23 g_23 => ?_)
  clear g_22
  have r_24 : (execOp x_23.eval oZD16).run Try.prog (wr) = .ok (.value (.int .i64 (a : Int))) (wr) := by
    unfold oZD16
    have kc : ∀ v, x_23.eval (.const v) = v := fun _ => rfl
    have e149 : x_23.eval (.tmp 149) = .int .i64 (i : Int) := g_23.at_ 149
    clear g_23 hQ h17 h18
    generalize x_23.eval = ρ at *
    go_simp
  refine g_23.step 150 _ rfl (lb_ I0.size) ((wanted_at (t := 141) (c := true) (b := true) rfl rfl rfl (lb_ (g_23.size.trans I0.size)) (g_23.at_ 141)).trans (by rfl)) r_24 (fun x_24 g_24 => ?_)
  clear r_24 g_23
  have r_25 : (execOp x_24.eval oZD17).run Try.prog (wr) = .ok (.value (.int .u32 (a : Int))) (wr) := by
    unfold oZD17
    have e150 : x_24.eval (.tmp 150) = .int .i64 (a : Int) := g_24.at_ 150
    clear g_24 hQ h17 h18
    generalize x_24.eval = ρ at *
    go_simp
  refine g_24.step 151 _ rfl (lb_ I0.size) ((wanted_at (t := 141) (c := true) (b := true) rfl rfl rfl (lb_ (g_24.size.trans I0.size)) (g_24.at_ 141)).trans (by rfl)) r_25 (fun x_25 g_25 => ?_)
  clear r_25 g_24
  have r_26 : (execOp x_25.eval oZD18).run Try.prog (wr) = .ok (.value (.bool false)) (wr) := by
    unfold oZD18
    have e148 : x_25.eval (.tmp 148) = .int .u32 (a : Int) := g_25.at_ 148
    have e151 : x_25.eval (.tmp 151) = .int .u32 (a : Int) := g_25.at_ 151
    clear g_25 hQ h17 h18
    generalize x_25.eval = ρ at *
    go_simp
  refine g_25.step 152 _ rfl (lb_ I0.size) ((wanted_at (t := 141) (c := true) (b := true) rfl rfl rfl (lb_ (g_25.size.trans I0.size)) (g_25.at_ 141)).trans (by rfl)) r_26 (fun x_26 g_26 => ?_)
  clear r_26 g_25
  refine g_26.move 153 (.bool false) _ (Or.inl rfl) rfl (lb_ I0.size) ((wanted_at (t := 141) (c := true) (b := true) rfl rfl rfl (lb_ (g_26.size.trans I0.size)) (g_26.at_ 141)).trans (by rfl)) (g_26.at_ 152) (fun x_27 g_27 => ?_)
  clear g_26
  refine g_27.move 154 (.slice (some ⟨gm, 0, none⟩) n mc) _ (Or.inl rfl) rfl (lb_ I0.size) ((wanted_at (t := 153) (c := false) (b := false) rfl rfl rfl (lb_ (g_27.size.trans I0.size)) (g_27.at_ 153)).trans (by rfl)) ((g_27.at_ 9).trans I0.s9) (fun x_28 g_28 => ?_)
  clear g_27
  refine g_28.move 155 (.int .i64 (i : Int)) _ (Or.inl rfl) rfl (lb_ I0.size) ((wanted_at (t := 153) (c := false) (b := false) rfl rfl rfl (lb_ (g_28.size.trans I0.size)) (g_28.at_ 153)).trans (by rfl)) ((g_28.at_ 17).trans h17) (fun x_29 g_29 => ?_)
  clear g_28
  have r_30 : (execOp x_29.eval oZD19).run Try.prog (wr) = .ok (.value (.pointer (some ⟨gm, i, none⟩))) (wr) := by
    unfold oZD19
    have e154 : x_29.eval (.tmp 154) = .slice (some ⟨gm, 0, none⟩) n mc := g_29.at_ 154
    have e155 : x_29.eval (.tmp 155) = .int .i64 (i : Int) := g_29.at_ 155
    clear g_29 hQ h17 h18
    generalize x_29.eval = ρ at *
    go_simp
  refine g_29.step 156 _ rfl (lb_ I0.size) ((wanted_at (t := 153) (c := false) (b := false) rfl rfl rfl (lb_ (g_29.size.trans I0.size)) (g_29.at_ 153)).trans (by rfl)) r_30 (fun x_30 g_30 => ?_)
  clear r_30 g_29
  have r_31 : (execOp x_30.eval oZD20).run Try.prog (wr) = .ok (.value (.slice (some ⟨gy, 0, none⟩) yn yc)) (wr) := by
    unfold oZD20
    have e156 : x_30.eval (.tmp 156) = .pointer (some ⟨gm, i, none⟩) := g_30.at_ 156
    clear g_30 hQ h17 h18
    generalize x_30.eval = ρ at *
    go_simp
  refine g_30.step 157 _ rfl (lb_ I0.size) ((wanted_at (t := 153) (c := false) (b := false) rfl rfl rfl (lb_ (g_30.size.trans I0.size)) (g_30.at_ 153)).trans (by rfl)) r_31 (fun x_31 g_31 => ?_)
  clear r_31 g_30
  refine g_31.move 158 (.int .i64 (k : Int)) _ (Or.inl rfl) rfl (lb_ I0.size) ((wanted_at (t := 153) (c := false) (b := false) rfl rfl rfl (lb_ (g_31.size.trans I0.size)) (g_31.at_ 153)).trans (by rfl)) ((g_31.at_ 18).trans h18) (fun x_32 g_32 => ?_)
  clear g_31
  have r_33 : (execOp x_32.eval oZD21).run Try.prog (wr) = .ok (.value (.pointer (some ⟨gy, k, none⟩))) (wr) := by
    unfold oZD21
    have e157 : x_32.eval (.tmp 157) = .slice (some ⟨gy, 0, none⟩) yn yc := g_32.at_ 157
    have e158 : x_32.eval (.tmp 158) = .int .i64 (k : Int) := g_32.at_ 158
    clear g_32 hQ h17 h18
    generalize x_32.eval = ρ at *
    go_simp
  refine g_32.step 159 _ rfl (lb_ I0.size) ((wanted_at (t := 153) (c := false) (b := false) rfl rfl rfl (lb_ (g_32.size.trans I0.size)) (g_32.at_ 153)).trans (by rfl)) r_33 (fun x_33 g_33 => ?_)
  clear r_33 g_32
  have r_34 : (execOp x_33.eval oZD22).run Try.prog (wr) = .ok (.value (.int .u32 (a : Int))) (wr) := by
    unfold oZD22
    have e159 : x_33.eval (.tmp 159) = .pointer (some ⟨gy, k, none⟩) := g_33.at_ 159
    clear g_33 hQ h17 h18
    generalize x_33.eval = ρ at *
    go_simp
  refine g_33.step 160 _ rfl (lb_ I0.size) ((wanted_at (t := 153) (c := false) (b := false) rfl rfl rfl (lb_ (g_33.size.trans I0.size)) (g_33.at_ 153)).trans (by rfl)) r_34 (fun x_34 g_34 => ?_)
  clear r_34 g_33
  refine g_34.move 161 (.int .i64 (i : Int)) _ (Or.inl rfl) rfl (lb_ I0.size) ((wanted_at (t := 153) (c := false) (b := false) rfl rfl rfl (lb_ (g_34.size.trans I0.size)) (g_34.at_ 153)).trans (by rfl)) ((g_34.at_ 17).trans h17) (fun x_35 g_35 => ?_)
  clear g_34
  have r_36 : (execOp x_35.eval oZD23).run Try.prog (wr) = .ok (.value (.int .i64 (a : Int))) (wr) := by
    unfold oZD23
    have kc : ∀ v, x_35.eval (.const v) = v := fun _ => rfl
    have e161 : x_35.eval (.tmp 161) = .int .i64 (i : Int) := g_35.at_ 161
    clear g_35 hQ h17 h18
    generalize x_35.eval = ρ at *
    go_simp
  refine g_35.step 162 _ rfl (lb_ I0.size) ((wanted_at (t := 153) (c := false) (b := false) rfl rfl rfl (lb_ (g_35.size.trans I0.size)) (g_35.at_ 153)).trans (by rfl)) r_36 (fun x_36 g_36 => ?_)
  clear r_36 g_35
  have r_37 : (execOp x_36.eval oZD24).run Try.prog (wr) = .ok (.value (.int .u32 (a : Int))) (wr) := by
    unfold oZD24
    have e162 : x_36.eval (.tmp 162) = .int .i64 (a : Int) := g_36.at_ 162
    clear g_36 hQ h17 h18
    generalize x_36.eval = ρ at *
    go_simp
  refine g_36.step 163 _ rfl (lb_ I0.size) ((wanted_at (t := 153) (c := false) (b := false) rfl rfl rfl (lb_ (g_36.size.trans I0.size)) (g_36.at_ 153)).trans (by rfl)) r_37 (fun x_37 g_37 => ?_)
  clear r_37 g_36
  have r_38 : (execOp x_37.eval oZD25).run Try.prog (wr) = .ok (.value (.bool false)) (wr) := by
    unfold oZD25
    have e160 : x_37.eval (.tmp 160) = .int .u32 (a : Int) := g_37.at_ 160
    have e163 : x_37.eval (.tmp 163) = .int .u32 (a : Int) := g_37.at_ 163
    clear g_37 hQ h17 h18
    generalize x_37.eval = ρ at *
    go_simp
  refine g_37.step 164 _ rfl (lb_ I0.size) ((wanted_at (t := 153) (c := false) (b := false) rfl rfl rfl (lb_ (g_37.size.trans I0.size)) (g_37.at_ 153)).trans (by rfl)) r_38 (fun x_38 g_38 => ?_)
  clear r_38 g_37
  have r_39 : (execOp x_38.eval oZD26).run Try.prog (wr) = .ok (.value (.bool false)) (wr) := by
    unfold oZD26
    have kc : ∀ v, x_38.eval (.const v) = v := fun _ => rfl
    have e153 : x_38.eval (.tmp 153) = .bool false := g_38.at_ 153
    have e164 : x_38.eval (.tmp 164) = .bool false := g_38.at_ 164
    clear g_38 hQ h17 h18
    generalize x_38.eval = ρ at *
    go_simp
  refine g_38.step 165 _ rfl (lb_ I0.size) ((wanted_at (t := 141) (c := true) (b := true) rfl rfl rfl (lb_ (g_38.size.trans I0.size)) (g_38.at_ 141)).trans (by rfl)) r_39 (fun x_39 g_39 => ?_)
  clear r_39 g_38
  have r_40 : (execOp x_39.eval oZD27).run Try.prog (wr) = .ok (.value (.bool false)) (wr) := by
    unfold oZD27
    have kc : ∀ v, x_39.eval (.const v) = v := fun _ => rfl
    have e141 : x_39.eval (.tmp 141) = .bool true := g_39.at_ 141
    have e165 : x_39.eval (.tmp 165) = .bool false := g_39.at_ 165
    clear g_39 hQ h17 h18
    generalize x_39.eval = ρ at *
    go_simp
  refine g_39.step 166 _ rfl (lb_ I0.size) (wn rfl) r_40 (fun x_40 g_40 => ?_)
  clear r_40 g_39
  refine g_40.move 167 (.bool false) _ (Or.inl rfl) rfl (lb_ I0.size) (wn rfl) (g_40.at_ 166) (fun x_41 g_41 => ?_)
  clear g_40
  refine g_41.move 168 (.int .i64 (k : Int)) _ (Or.inl rfl) rfl (lb_ I0.size) ((wanted_at (t := 167) (c := false) (b := false) rfl rfl rfl (lb_ (g_41.size.trans I0.size)) (g_41.at_ 167)).trans (by rfl)) ((g_41.at_ 18).trans h18) (fun x_42 g_42 => ?_)
  clear g_41
  refine g_42.move 169 (.slice (some ⟨lb, lo, none⟩) n lc) _ (Or.inl rfl) rfl (lb_ I0.size) ((wanted_at (t := 167) (c := false) (b := false) rfl rfl rfl (lb_ (g_42.size.trans I0.size)) (g_42.at_ 167)).trans (by rfl)) ((g_42.at_ 0).trans I0.s0) (fun x_43 g_43 => ?_)
  clear g_42
  refine g_43.move 170 (.int .i64 (i : Int)) _ (Or.inl rfl) rfl (lb_ I0.size) ((wanted_at (t := 167) (c := false) (b := false) rfl rfl rfl (lb_ (g_43.size.trans I0.size)) (g_43.at_ 167)).trans (by rfl)) ((g_43.at_ 17).trans h17) (fun x_44 g_44 => ?_)
  clear g_43
  have r_45 : (execOp x_44.eval oZD28).run Try.prog (wr) = .ok (.value (.pointer (some ⟨lb, lo + i, none⟩))) (wr) := by
    unfold oZD28
    have e169 : x_44.eval (.tmp 169) = .slice (some ⟨lb, lo, none⟩) n lc := g_44.at_ 169
    have e170 : x_44.eval (.tmp 170) = .int .i64 (i : Int) := g_44.at_ 170
    clear g_44 hQ h17 h18
    generalize x_44.eval = ρ at *
    go_simp
  refine g_44.step 171 _ rfl (lb_ I0.size) ((wanted_at (t := 167) (c := false) (b := false) rfl rfl rfl (lb_ (g_44.size.trans I0.size)) (g_44.at_ 167)).trans (by rfl)) r_45 (fun x_45 g_45 => ?_)
  clear r_45 g_44
  have r_46 : (execOp x_45.eval oZD29).run Try.prog (wr) = .ok (.value (.slice (some ⟨gx, 0, none⟩) xn xc)) (wr) := by
    unfold oZD29
    have e171 : x_45.eval (.tmp 171) = .pointer (some ⟨lb, lo + i, none⟩) := g_45.at_ 171
    clear g_45 hQ h17 h18
    generalize x_45.eval = ρ at *
    go_simp
  refine g_45.step 172 _ rfl (lb_ I0.size) ((wanted_at (t := 167) (c := false) (b := false) rfl rfl rfl (lb_ (g_45.size.trans I0.size)) (g_45.at_ 167)).trans (by rfl)) r_46 (fun x_46 g_46 => ?_)
  clear r_46 g_45
  have r_47 : (execOp x_46.eval oZD30).run Try.prog (wr) = .ok (.value (.int .i64 (xn : Int))) (wr) := by
    unfold oZD30
    have e172 : x_46.eval (.tmp 172) = .slice (some ⟨gx, 0, none⟩) xn xc := g_46.at_ 172
    clear g_46 hQ h17 h18
    generalize x_46.eval = ρ at *
    go_simp
  refine g_46.step 173 _ rfl (lb_ I0.size) ((wanted_at (t := 167) (c := false) (b := false) rfl rfl rfl (lb_ (g_46.size.trans I0.size)) (g_46.at_ 167)).trans (by rfl)) r_47 (fun x_47 g_47 => ?_)
  clear r_47 g_46
  have r_48 : (execOp x_47.eval oZD31).run Try.prog (wr) = .ok (.value (.bool false)) (wr) := by
    unfold oZD31
    have e168 : x_47.eval (.tmp 168) = .int .i64 (k : Int) := g_47.at_ 168
    have e173 : x_47.eval (.tmp 173) = .int .i64 (xn : Int) := g_47.at_ 173
    clear g_47 hQ h17 h18
    generalize x_47.eval = ρ at *
    go_simp
  refine g_47.step 174 _ rfl (lb_ I0.size) ((wanted_at (t := 167) (c := false) (b := false) rfl rfl rfl (lb_ (g_47.size.trans I0.size)) (g_47.at_ 167)).trans (by rfl)) r_48 (fun x_48 g_48 => ?_)
  clear r_48 g_47
  refine g_48.move 175 (.bool false) _ (Or.inl rfl) rfl (lb_ I0.size) ((wanted_at (t := 167) (c := false) (b := false) rfl rfl rfl (lb_ (g_48.size.trans I0.size)) (g_48.at_ 167)).trans (by rfl)) (g_48.at_ 174) (fun x_49 g_49 => ?_)
  clear g_48
  refine g_49.skip 176 rfl (lb_ I0.size) ((wanted_at (t := 175) (c := false) (b := true) rfl rfl rfl (lb_ (g_49.size.trans I0.size)) (g_49.at_ 175)).trans (by rfl)) (fun x_50 g_50 => ?_)
  clear g_49
  refine g_50.skip 177 rfl (lb_ I0.size) ((wanted_at (t := 175) (c := false) (b := true) rfl rfl rfl (lb_ (g_50.size.trans I0.size)) (g_50.at_ 175)).trans (by rfl)) (fun x_51 g_51 => ?_)
  clear g_50
  refine g_51.skip 178 rfl (lb_ I0.size) ((wanted_at (t := 175) (c := false) (b := true) rfl rfl rfl (lb_ (g_51.size.trans I0.size)) (g_51.at_ 175)).trans (by rfl)) (fun x_52 g_52 => ?_)
  clear g_51
  refine g_52.skip 179 rfl (lb_ I0.size) ((wanted_at (t := 175) (c := false) (b := true) rfl rfl rfl (lb_ (g_52.size.trans I0.size)) (g_52.at_ 175)).trans (by rfl)) (fun x_53 g_53 => ?_)
  clear g_52
  refine g_53.skip 180 rfl (lb_ I0.size) ((wanted_at (t := 175) (c := false) (b := true) rfl rfl rfl (lb_ (g_53.size.trans I0.size)) (g_53.at_ 175)).trans (by rfl)) (fun x_54 g_54 => ?_)
  clear g_53
  refine g_54.skip 181 rfl (lb_ I0.size) ((wanted_at (t := 175) (c := false) (b := true) rfl rfl rfl (lb_ (g_54.size.trans I0.size)) (g_54.at_ 175)).trans (by rfl)) (fun x_55 g_55 => ?_)
  clear g_54
  refine g_55.skip 182 rfl (lb_ I0.size) ((wanted_at (t := 175) (c := false) (b := true) rfl rfl rfl (lb_ (g_55.size.trans I0.size)) (g_55.at_ 175)).trans (by rfl)) (fun x_56 g_56 => ?_)
  clear g_55
  refine g_56.skip 183 rfl (lb_ I0.size) ((wanted_at (t := 175) (c := false) (b := true) rfl rfl rfl (lb_ (g_56.size.trans I0.size)) (g_56.at_ 175)).trans (by rfl)) (fun x_57 g_57 => ?_)
  clear g_56
  refine g_57.skip 184 rfl (lb_ I0.size) ((wanted_at (t := 175) (c := false) (b := true) rfl rfl rfl (lb_ (g_57.size.trans I0.size)) (g_57.at_ 175)).trans (by rfl)) (fun x_58 g_58 => ?_)
  clear g_57
  refine g_58.skip 185 rfl (lb_ I0.size) ((wanted_at (t := 175) (c := false) (b := true) rfl rfl rfl (lb_ (g_58.size.trans I0.size)) (g_58.at_ 175)).trans (by rfl)) (fun x_59 g_59 => ?_)
  clear g_58
  refine g_59.skip 186 rfl (lb_ I0.size) ((wanted_at (t := 175) (c := false) (b := true) rfl rfl rfl (lb_ (g_59.size.trans I0.size)) (g_59.at_ 175)).trans (by rfl)) (fun x_60 g_60 => ?_)
  clear g_59
  have r_61 : (execOp x_60.eval oZD39).run Try.prog (wr) = .ok (.value (.bool false)) (wr) := by
    unfold oZD39
    have kc : ∀ v, x_60.eval (.const v) = v := fun _ => rfl
    have e175 : x_60.eval (.tmp 175) = .bool false := g_60.at_ 175
    have e186 : x_60.eval (.tmp 186) = undef := g_60.at_ 186
    clear g_60 hQ h17 h18
    generalize x_60.eval = ρ at *
    go_simp
  refine g_60.step 187 _ rfl (lb_ I0.size) ((wanted_at (t := 167) (c := false) (b := false) rfl rfl rfl (lb_ (g_60.size.trans I0.size)) (g_60.at_ 167)).trans (by rfl)) r_61 (fun x_61 g_61 => ?_)
  clear r_61 g_60
  have r_62 : (execOp x_61.eval oZD40).run Try.prog (wr) = .ok (.value (.bool false)) (wr) := by
    unfold oZD40
    have kc : ∀ v, x_61.eval (.const v) = v := fun _ => rfl
    have e167 : x_61.eval (.tmp 167) = .bool false := g_61.at_ 167
    have e187 : x_61.eval (.tmp 187) = .bool false := g_61.at_ 187
    clear g_61 hQ h17 h18
    generalize x_61.eval = ρ at *
    go_simp
  refine g_61.step 188 _ rfl (lb_ I0.size) (wn rfl) r_62 (fun x_62 g_62 => ?_)
  clear r_62 g_61
  refine wpList_nil ?_
  change Code.wp _ _ _ _ _
  refine wp_cond_false (show x_62.eval (.tmp 188) = .bool false from (g_62.at_ 188)) (wp_skip ?_)
  change Code.wp _ _ _ _ _
  refine wp_region_list ?_
  unfold rAP40
  refine g_62.move 132 (.int .i64 (k : Int)) _ (Or.inl rfl) rfl (lb_ I0.size) (wn rfl) ((g_62.at_ 18).trans h18) (fun x_63 g_63 => ?_)
  clear g_62
  have r_64 : (execOp x_63.eval oZD7).run Try.prog (wr) = .ok (.value (.int .i64 ((k : Int) + 1))) (wr) := by
    unfold oZD7
    have kc : ∀ v, x_63.eval (.const v) = v := fun _ => rfl
    have e132 : x_63.eval (.tmp 132) = .int .i64 (k : Int) := g_63.at_ 132
    clear g_63 hQ h17 h18
    generalize x_63.eval = ρ at *
    go_simp
  refine g_63.step 133 _ rfl (lb_ I0.size) (wn rfl) r_64 (fun x_64 g_64 => ?_)
  clear r_64 g_63
  refine g_64.move 18 (.int .i64 ((k : Int) + 1)) _ (Or.inr rfl) rfl (lb_ I0.size) (wn rfl) (g_64.at_ 133) (fun x_65 g_65 => ?_)
  clear g_64
  refine wpList_nil ?_
  exact hQ x_65 (I0.keep g_65 rfl rfl rfl rfl) (show x_65.eval (.tmp 17) = .int .i64 (i : Int) from ((g_65.at_ 17).trans h17)) (show x_65.eval (.tmp 18) = .int .i64 ((k : Int) + 1) from (g_65.at_ 18))
set_option maxRecDepth 100000 in
set_option maxHeartbeats 1000000 in
theorem eUM {v1 v13 : Value} {lb lo n lc gm mc gy yn yc i k a b xn xc : Nat} {xa : Option Addr} {Q : Exit → Act → World → Prop} (a0 : Act) (wr : World) (I0 : IZ (.slice (some ⟨lb, lo, none⟩) n lc) v1 (.slice (some ⟨gm, 0, none⟩) n mc) v13 a0) (h17 : a0.eval (.tmp 17) = .int .i64 (i : Int)) (h18 : a0.eval (.tmp 18) = .int .i64 (k : Int))
    (hi : i < n) (hn : n ≤ 4000000) (ha : a = 100000 + i) (hb : b = 300000 + i) (hkx : xn ≤ k) (hky : k < yn) (hyb : yn ≤ 1099511627776) (c1 : wr.cell? ⟨lb, lo + i, none⟩ = some (.slice xa xn xc)) (c2 : wr.cell? ⟨gm, i, none⟩ = some (.slice (some ⟨gy, 0, none⟩) yn yc)) (c3 : wr.cell? ⟨gy, k, none⟩ = some (.int .u32 (b : Int)))
    (hQ : ∀ a', IZ (.slice (some ⟨lb, lo, none⟩) n lc) v1 (.slice (some ⟨gm, 0, none⟩) n mc) v13 a' → a'.eval (.tmp 17) = .int .i64 (i : Int) → a'.eval (.tmp 18) = .int .i64 ((k : Int) + 1) → Q .normal a' wr) : cEU2.wp Try.prog Q a0 wr := by
  have hii : (i : Int) < (n : Int) := by omega
  have hki : (k : Int) < (yn : Int) := by omega
  have w1 : RowKit.wrap64 (100000 + (i : Int)) = (a : Int) := by unfold RowKit.wrap64; omega
  have w2 : IntKind.u32.wrap (a : Int) = (a : Int) := by rw [IntKind.wrap_u32]; omega
  have w3 : RowKit.wrap64 (300000 + (i : Int)) = (b : Int) := by unfold RowKit.wrap64; omega
  have w4 : IntKind.u32.wrap (b : Int) = (b : Int) := by rw [IntKind.wrap_u32]; omega
  have w5 : IntKind.i64.wrap (100000 + (i : Int)) = (a : Int) := by rw [IntKind.wrap_i64]; omega
  have w6 : IntKind.i64.wrap (300000 + (i : Int)) = (b : Int) := by rw [IntKind.wrap_i64]; omega
  have w7 : IntKind.i64.wrap ((k : Int) + 1) = (k : Int) + 1 := by rw [IntKind.wrap_i64]; omega
  have hkxi : (xn : Int) ≤ (k : Int) := by omega
  have hkxd : decide ((k : Int) < (xn : Int)) = false := decide_eq_false (by omega)
  clear hi hky hyb ha hb
  have g_0 := Fe.refl a0
  unfold cEU2
  refine wp_seq (wp_seq ?_)
  refine wp_region_list ?_
  unfold rAP39
  refine g_0.move 125 (.int .i64 (k : Int)) _ (Or.inl rfl) rfl (lb_ I0.size) (wn rfl) ((g_0.at_ 18).trans h18) (fun x_1 g_1 => ?_)
  clear g_0
  refine g_1.move 126 (.slice (some ⟨gm, 0, none⟩) n mc) _ (Or.inl rfl) rfl (lb_ I0.size) (wn rfl) ((g_1.at_ 9).trans I0.s9) (fun x_2 g_2 => ?_)
  clear g_1
  refine g_2.move 127 (.int .i64 (i : Int)) _ (Or.inl rfl) rfl (lb_ I0.size) (wn rfl) ((g_2.at_ 17).trans h17) (fun x_3 g_3 => ?_)
  clear g_2
  have r_4 : (execOp x_3.eval oZD3).run Try.prog (wr) = .ok (.value (.pointer (some ⟨gm, i, none⟩))) (wr) := by
    unfold oZD3
    have e126 : x_3.eval (.tmp 126) = .slice (some ⟨gm, 0, none⟩) n mc := g_3.at_ 126
    have e127 : x_3.eval (.tmp 127) = .int .i64 (i : Int) := g_3.at_ 127
    clear g_3 hQ h17 h18
    generalize x_3.eval = ρ at *
    go_simp
  refine g_3.step 128 _ rfl (lb_ I0.size) (wn rfl) r_4 (fun x_4 g_4 => ?_)
  clear r_4 g_3
  have r_5 : (execOp x_4.eval oZD4).run Try.prog (wr) = .ok (.value (.slice (some ⟨gy, 0, none⟩) yn yc)) (wr) := by
    unfold oZD4
    have e128 : x_4.eval (.tmp 128) = .pointer (some ⟨gm, i, none⟩) := g_4.at_ 128
    clear g_4 hQ h17 h18
    generalize x_4.eval = ρ at *
    go_simp
  refine g_4.step 129 _ rfl (lb_ I0.size) (wn rfl) r_5 (fun x_5 g_5 => ?_)
  clear r_5 g_4
  have r_6 : (execOp x_5.eval oZD5).run Try.prog (wr) = .ok (.value (.int .i64 (yn : Int))) (wr) := by
    unfold oZD5
    have e129 : x_5.eval (.tmp 129) = .slice (some ⟨gy, 0, none⟩) yn yc := g_5.at_ 129
    clear g_5 hQ h17 h18
    generalize x_5.eval = ρ at *
    go_simp
  refine g_5.step 130 _ rfl (lb_ I0.size) (wn rfl) r_6 (fun x_6 g_6 => ?_)
  clear r_6 g_5
  have r_7 : (execOp x_6.eval oZD6).run Try.prog (wr) = .ok (.value (.bool true)) (wr) := by
    unfold oZD6
    have e125 : x_6.eval (.tmp 125) = .int .i64 (k : Int) := g_6.at_ 125
    have e130 : x_6.eval (.tmp 130) = .int .i64 (yn : Int) := g_6.at_ 130
    clear g_6 hQ h17 h18
    generalize x_6.eval = ρ at *
    go_simp
  refine g_6.step 131 _ rfl (lb_ I0.size) (wn rfl) r_7 (fun x_7 g_7 => ?_)
  clear r_7 g_6
  refine wpList_nil ?_
  change Code.wp _ _ _ _ _
  refine wp_cond_true (show x_7.eval (.tmp 131) = .bool true from (g_7.at_ 131)) (wp_skip ?_)
  change Code.wp _ _ _ _ _
  refine wp_seq (wp_block (wp_seq ?_))
  refine wp_region_list ?_
  unfold rAP41
  refine g_7.move 134 (.int .i64 (k : Int)) _ (Or.inl rfl) rfl (lb_ I0.size) (wn rfl) ((g_7.at_ 18).trans h18) (fun x_8 g_8 => ?_)
  clear g_7
  refine g_8.move 135 (.slice (some ⟨lb, lo, none⟩) n lc) _ (Or.inl rfl) rfl (lb_ I0.size) (wn rfl) ((g_8.at_ 0).trans I0.s0) (fun x_9 g_9 => ?_)
  clear g_8
  refine g_9.move 136 (.int .i64 (i : Int)) _ (Or.inl rfl) rfl (lb_ I0.size) (wn rfl) ((g_9.at_ 17).trans h17) (fun x_10 g_10 => ?_)
  clear g_9
  have r_11 : (execOp x_10.eval oZD8).run Try.prog (wr) = .ok (.value (.pointer (some ⟨lb, lo + i, none⟩))) (wr) := by
    unfold oZD8
    have e135 : x_10.eval (.tmp 135) = .slice (some ⟨lb, lo, none⟩) n lc := g_10.at_ 135
    have e136 : x_10.eval (.tmp 136) = .int .i64 (i : Int) := g_10.at_ 136
    clear g_10 hQ h17 h18
    generalize x_10.eval = ρ at *
    go_simp
  refine g_10.step 137 _ rfl (lb_ I0.size) (wn rfl) r_11 (fun x_11 g_11 => ?_)
  clear r_11 g_10
  have r_12 : (execOp x_11.eval oZD9).run Try.prog (wr) = .ok (.value (.slice xa xn xc)) (wr) := by
    unfold oZD9
    have e137 : x_11.eval (.tmp 137) = .pointer (some ⟨lb, lo + i, none⟩) := g_11.at_ 137
    clear g_11 hQ h17 h18
    generalize x_11.eval = ρ at *
    go_simp
  refine g_11.step 138 _ rfl (lb_ I0.size) (wn rfl) r_12 (fun x_12 g_12 => ?_)
  clear r_12 g_11
  have r_13 : (execOp x_12.eval oZD10).run Try.prog (wr) = .ok (.value (.int .i64 (xn : Int))) (wr) := by
    unfold oZD10
    have e138 : x_12.eval (.tmp 138) = .slice xa xn xc := g_12.at_ 138
    clear g_12 hQ h17 h18
    generalize x_12.eval = ρ at *
    go_simp
  refine g_12.step 139 _ rfl (lb_ I0.size) (wn rfl) r_13 (fun x_13 g_13 => ?_)
  clear r_13 g_12
  have r_14 : (execOp x_13.eval oZD11).run Try.prog (wr) = .ok (.value (.bool false)) (wr) := by
    unfold oZD11
    have e134 : x_13.eval (.tmp 134) = .int .i64 (k : Int) := g_13.at_ 134
    have e139 : x_13.eval (.tmp 139) = .int .i64 (xn : Int) := g_13.at_ 139
    clear g_13 hQ h17 h18
    generalize x_13.eval = ρ at *
    go_simp
  refine g_13.step 140 _ rfl (lb_ I0.size) (wn rfl) r_14 (fun x_14 g_14 => ?_)
  clear r_14 g_13
  refine g_14.move 141 (.bool false) _ (Or.inl rfl) rfl (lb_ I0.size) (wn rfl) (g_14.at_ 140) (fun x_15 g_15 => ?_)
  clear g_14
  refine g_15.skip 142 rfl (lb_ I0.size) ((wanted_at (t := 141) (c := false) (b := true) rfl rfl rfl (lb_ (g_15.size.trans I0.size)) (g_15.at_ 141)).trans (by rfl)) (fun x_16 g_16 => ?_)
  clear g_15
  refine g_16.skip 143 rfl (lb_ I0.size) ((wanted_at (t := 141) (c := false) (b := true) rfl rfl rfl (lb_ (g_16.size.trans I0.size)) (g_16.at_ 141)).trans (by rfl)) (fun x_17 g_17 => ?_)
  clear g_16
  refine g_17.skip 144 rfl (lb_ I0.size) ((wanted_at (t := 141) (c := false) (b := true) rfl rfl rfl (lb_ (g_17.size.trans I0.size)) (g_17.at_ 141)).trans (by rfl)) (fun x_18 g_18 => ?_)
  clear g_17
  refine g_18.skip 145 rfl (lb_ I0.size) ((wanted_at (t := 141) (c := false) (b := true) rfl rfl rfl (lb_ (g_18.size.trans I0.size)) (g_18.at_ 141)).trans (by rfl)) (fun x_19 g_19 => ?_)
  clear g_18
  refine g_19.skip 146 rfl (lb_ I0.size) ((wanted_at (t := 141) (c := false) (b := true) rfl rfl rfl (lb_ (g_19.size.trans I0.size)) (g_19.at_ 141)).trans (by rfl)) (fun x_20 g_20 => ?_)
  clear g_19
  refine g_20.skip 147 rfl (lb_ I0.size) ((wanted_at (t := 141) (c := false) (b := true) rfl rfl rfl (lb_ (g_20.size.trans I0.size)) (g_20.at_ 141)).trans (by rfl)) (fun x_21 g_21 => ?_)
  clear g_20
  refine g_21.skip 148 rfl (lb_ I0.size) ((wanted_at (t := 141) (c := false) (b := true) rfl rfl rfl (lb_ (g_21.size.trans I0.size)) (g_21.at_ 141)).trans (by rfl)) (fun x_22 g_22 => ?_)
  clear g_21
  refine g_22.skip 149 rfl (lb_ I0.size) ((wanted_at (t := 141) (c := false) (b := true) rfl rfl rfl (lb_ (g_22.size.trans I0.size)) (g_22.at_ 141)).trans (by rfl)) (fun x_23 g_23 => ?_)
  clear g_22
  refine g_23.skip 150 rfl (lb_ I0.size) ((wanted_at (t := 141) (c := false) (b := true) rfl rfl rfl (lb_ (g_23.size.trans I0.size)) (g_23.at_ 141)).trans (by rfl)) (fun x_24 g_24 => ?_)
  clear g_23
  refine g_24.skip 151 rfl (lb_ I0.size) ((wanted_at (t := 141) (c := false) (b := true) rfl rfl rfl (lb_ (g_24.size.trans I0.size)) (g_24.at_ 141)).trans (by rfl)) (fun x_25 g_25 => ?_)
  clear g_24
  refine g_25.skip 152 rfl (lb_ I0.size) ((wanted_at (t := 141) (c := false) (b := true) rfl rfl rfl (lb_ (g_25.size.trans I0.size)) (g_25.at_ 141)).trans (by rfl)) (fun x_26 g_26 => ?_)
  clear g_25
  refine g_26.skip 153 rfl (lb_ I0.size) ((wanted_at (t := 141) (c := false) (b := true) rfl rfl rfl (lb_ (g_26.size.trans I0.size)) (g_26.at_ 141)).trans (by rfl)) (fun x_27 g_27 => ?_)
  clear g_26
  refine g_27.skip 154 rfl (lb_ I0.size) (wanted_undef (t := 153) rfl rfl rfl (lb_ (g_27.size.trans I0.size)) (g_27.at_ 153)) (fun x_28 g_28 => ?_)
  clear g_27
  refine g_28.skip 155 rfl (lb_ I0.size) (wanted_undef (t := 153) rfl rfl rfl (lb_ (g_28.size.trans I0.size)) (g_28.at_ 153)) (fun x_29 g_29 => ?_)
  clear g_28
  refine g_29.skip 156 rfl (lb_ I0.size) (wanted_undef (t := 153) rfl rfl rfl (lb_ (g_29.size.trans I0.size)) (g_29.at_ 153)) (fun x_30 g_30 => ?_)
  clear g_29
  refine g_30.skip 157 rfl (lb_ I0.size) (wanted_undef (t := 153) rfl rfl rfl (lb_ (g_30.size.trans I0.size)) (g_30.at_ 153)) (fun x_31 g_31 => ?_)
  clear g_30
  refine g_31.skip 158 rfl (lb_ I0.size) (wanted_undef (t := 153) rfl rfl rfl (lb_ (g_31.size.trans I0.size)) (g_31.at_ 153)) (fun x_32 g_32 => ?_)
  clear g_31
  refine g_32.skip 159 rfl (lb_ I0.size) (wanted_undef (t := 153) rfl rfl rfl (lb_ (g_32.size.trans I0.size)) (g_32.at_ 153)) (fun x_33 g_33 => ?_)
  clear g_32
  refine g_33.skip 160 rfl (lb_ I0.size) (wanted_undef (t := 153) rfl rfl rfl (lb_ (g_33.size.trans I0.size)) (g_33.at_ 153)) (fun x_34 g_34 => ?_)
  clear g_33
  refine g_34.skip 161 rfl (lb_ I0.size) (wanted_undef (t := 153) rfl rfl rfl (lb_ (g_34.size.trans I0.size)) (g_34.at_ 153)) (fun x_35 g_35 => ?_)
  clear g_34
  refine g_35.skip 162 rfl (lb_ I0.size) (wanted_undef (t := 153) rfl rfl rfl (lb_ (g_35.size.trans I0.size)) (g_35.at_ 153)) (fun x_36 g_36 => ?_)
  clear g_35
  refine g_36.skip 163 rfl (lb_ I0.size) (wanted_undef (t := 153) rfl rfl rfl (lb_ (g_36.size.trans I0.size)) (g_36.at_ 153)) (fun x_37 g_37 => ?_)
  clear g_36
  refine g_37.skip 164 rfl (lb_ I0.size) (wanted_undef (t := 153) rfl rfl rfl (lb_ (g_37.size.trans I0.size)) (g_37.at_ 153)) (fun x_38 g_38 => ?_)
  clear g_37
  refine g_38.skip 165 rfl (lb_ I0.size) ((wanted_at (t := 141) (c := false) (b := true) rfl rfl rfl (lb_ (g_38.size.trans I0.size)) (g_38.at_ 141)).trans (by rfl)) (fun x_39 g_39 => ?_)
  clear g_38
  have r_40 : (execOp x_39.eval oZD27).run Try.prog (wr) = .ok (.value (.bool false)) (wr) := by
    unfold oZD27
    have kc : ∀ v, x_39.eval (.const v) = v := fun _ => rfl
    have e141 : x_39.eval (.tmp 141) = .bool false := g_39.at_ 141
    have e165 : x_39.eval (.tmp 165) = undef := g_39.at_ 165
    clear g_39 hQ h17 h18
    generalize x_39.eval = ρ at *
    go_simp
  refine g_39.step 166 _ rfl (lb_ I0.size) (wn rfl) r_40 (fun x_40 g_40 => ?_)
  clear r_40 g_39
  refine g_40.move 167 (.bool false) _ (Or.inl rfl) rfl (lb_ I0.size) (wn rfl) (g_40.at_ 166) (fun x_41 g_41 => ?_)
  clear g_40
  refine g_41.move 168 (.int .i64 (k : Int)) _ (Or.inl rfl) rfl (lb_ I0.size) ((wanted_at (t := 167) (c := false) (b := false) rfl rfl rfl (lb_ (g_41.size.trans I0.size)) (g_41.at_ 167)).trans (by rfl)) ((g_41.at_ 18).trans h18) (fun x_42 g_42 => ?_)
  clear g_41
  refine g_42.move 169 (.slice (some ⟨lb, lo, none⟩) n lc) _ (Or.inl rfl) rfl (lb_ I0.size) ((wanted_at (t := 167) (c := false) (b := false) rfl rfl rfl (lb_ (g_42.size.trans I0.size)) (g_42.at_ 167)).trans (by rfl)) ((g_42.at_ 0).trans I0.s0) (fun x_43 g_43 => ?_)
  clear g_42
  refine g_43.move 170 (.int .i64 (i : Int)) _ (Or.inl rfl) rfl (lb_ I0.size) ((wanted_at (t := 167) (c := false) (b := false) rfl rfl rfl (lb_ (g_43.size.trans I0.size)) (g_43.at_ 167)).trans (by rfl)) ((g_43.at_ 17).trans h17) (fun x_44 g_44 => ?_)
  clear g_43
  have r_45 : (execOp x_44.eval oZD28).run Try.prog (wr) = .ok (.value (.pointer (some ⟨lb, lo + i, none⟩))) (wr) := by
    unfold oZD28
    have e169 : x_44.eval (.tmp 169) = .slice (some ⟨lb, lo, none⟩) n lc := g_44.at_ 169
    have e170 : x_44.eval (.tmp 170) = .int .i64 (i : Int) := g_44.at_ 170
    clear g_44 hQ h17 h18
    generalize x_44.eval = ρ at *
    go_simp
  refine g_44.step 171 _ rfl (lb_ I0.size) ((wanted_at (t := 167) (c := false) (b := false) rfl rfl rfl (lb_ (g_44.size.trans I0.size)) (g_44.at_ 167)).trans (by rfl)) r_45 (fun x_45 g_45 => ?_)
  clear r_45 g_44
  have r_46 : (execOp x_45.eval oZD29).run Try.prog (wr) = .ok (.value (.slice xa xn xc)) (wr) := by
    unfold oZD29
    have e171 : x_45.eval (.tmp 171) = .pointer (some ⟨lb, lo + i, none⟩) := g_45.at_ 171
    clear g_45 hQ h17 h18
    generalize x_45.eval = ρ at *
    go_simp
  refine g_45.step 172 _ rfl (lb_ I0.size) ((wanted_at (t := 167) (c := false) (b := false) rfl rfl rfl (lb_ (g_45.size.trans I0.size)) (g_45.at_ 167)).trans (by rfl)) r_46 (fun x_46 g_46 => ?_)
  clear r_46 g_45
  have r_47 : (execOp x_46.eval oZD30).run Try.prog (wr) = .ok (.value (.int .i64 (xn : Int))) (wr) := by
    unfold oZD30
    have e172 : x_46.eval (.tmp 172) = .slice xa xn xc := g_46.at_ 172
    clear g_46 hQ h17 h18
    generalize x_46.eval = ρ at *
    go_simp
  refine g_46.step 173 _ rfl (lb_ I0.size) ((wanted_at (t := 167) (c := false) (b := false) rfl rfl rfl (lb_ (g_46.size.trans I0.size)) (g_46.at_ 167)).trans (by rfl)) r_47 (fun x_47 g_47 => ?_)
  clear r_47 g_46
  have r_48 : (execOp x_47.eval oZD31).run Try.prog (wr) = .ok (.value (.bool true)) (wr) := by
    unfold oZD31
    have e168 : x_47.eval (.tmp 168) = .int .i64 (k : Int) := g_47.at_ 168
    have e173 : x_47.eval (.tmp 173) = .int .i64 (xn : Int) := g_47.at_ 173
    clear g_47 hQ h17 h18
    generalize x_47.eval = ρ at *
    go_simp
  refine g_47.step 174 _ rfl (lb_ I0.size) ((wanted_at (t := 167) (c := false) (b := false) rfl rfl rfl (lb_ (g_47.size.trans I0.size)) (g_47.at_ 167)).trans (by rfl)) r_48 (fun x_48 g_48 => ?_)
  clear r_48 g_47
  refine g_48.move 175 (.bool true) _ (Or.inl rfl) rfl (lb_ I0.size) ((wanted_at (t := 167) (c := false) (b := false) rfl rfl rfl (lb_ (g_48.size.trans I0.size)) (g_48.at_ 167)).trans (by rfl)) (g_48.at_ 174) (fun x_49 g_49 => ?_)
  clear g_48
  refine g_49.move 176 (.slice (some ⟨gm, 0, none⟩) n mc) _ (Or.inl rfl) rfl (lb_ I0.size) ((wanted_at (t := 175) (c := true) (b := true) rfl rfl rfl (lb_ (g_49.size.trans I0.size)) (g_49.at_ 175)).trans (by rfl)) ((g_49.at_ 9).trans I0.s9) (fun x_50 g_50 => ?_)
  clear g_49
  refine g_50.move 177 (.int .i64 (i : Int)) _ (Or.inl rfl) rfl (lb_ I0.size) ((wanted_at (t := 175) (c := true) (b := true) rfl rfl rfl (lb_ (g_50.size.trans I0.size)) (g_50.at_ 175)).trans (by rfl)) ((g_50.at_ 17).trans h17) (fun x_51 g_51 => ?_)
  clear g_50
  have r_52 : (execOp x_51.eval oZD32).run Try.prog (wr) = .ok (.value (.pointer (some ⟨gm, i, none⟩))) (wr) := by
    unfold oZD32
    have e176 : x_51.eval (.tmp 176) = .slice (some ⟨gm, 0, none⟩) n mc := g_51.at_ 176
    have e177 : x_51.eval (.tmp 177) = .int .i64 (i : Int) := g_51.at_ 177
    clear g_51 hQ h17 h18
    generalize x_51.eval = ρ at *
    go_simp
  refine g_51.step 178 _ rfl (lb_ I0.size) ((wanted_at (t := 175) (c := true) (b := true) rfl rfl rfl (lb_ (g_51.size.trans I0.size)) (g_51.at_ 175)).trans (by rfl)) r_52 (fun x_52 g_52 => ?_)
  clear r_52 g_51
  have r_53 : (execOp x_52.eval oZD33).run Try.prog (wr) = .ok (.value (.slice (some ⟨gy, 0, none⟩) yn yc)) (wr) := by
    unfold oZD33
    have e178 : x_52.eval (.tmp 178) = .pointer (some ⟨gm, i, none⟩) := g_52.at_ 178
    clear g_52 hQ h17 h18
    generalize x_52.eval = ρ at *
    go_simp
  refine g_52.step 179 _ rfl (lb_ I0.size) ((wanted_at (t := 175) (c := true) (b := true) rfl rfl rfl (lb_ (g_52.size.trans I0.size)) (g_52.at_ 175)).trans (by rfl)) r_53 (fun x_53 g_53 => ?_)
  clear r_53 g_52
  refine g_53.move 180 (.int .i64 (k : Int)) _ (Or.inl rfl) rfl (lb_ I0.size) ((wanted_at (t := 175) (c := true) (b := true) rfl rfl rfl (lb_ (g_53.size.trans I0.size)) (g_53.at_ 175)).trans (by rfl)) ((g_53.at_ 18).trans h18) (fun x_54 g_54 => ?_)
  clear g_53
  have r_55 : (execOp x_54.eval oZD34).run Try.prog (wr) = .ok (.value (.pointer (some ⟨gy, k, none⟩))) (wr) := by
    unfold oZD34
    have e179 : x_54.eval (.tmp 179) = .slice (some ⟨gy, 0, none⟩) yn yc := g_54.at_ 179
    have e180 : x_54.eval (.tmp 180) = .int .i64 (k : Int) := g_54.at_ 180
    clear g_54 hQ h17 h18
    generalize x_54.eval = ρ at *
    go_simp
  refine g_54.step 181 _ rfl (lb_ I0.size) ((wanted_at (t := 175) (c := true) (b := true) rfl rfl rfl (lb_ (g_54.size.trans I0.size)) (g_54.at_ 175)).trans (by rfl)) r_55 (fun x_55 g_55 => ?_)
  clear r_55 g_54
  have r_56 : (execOp x_55.eval oZD35).run Try.prog (wr) = .ok (.value (.int .u32 (b : Int))) (wr) := by
    unfold oZD35
    have e181 : x_55.eval (.tmp 181) = .pointer (some ⟨gy, k, none⟩) := g_55.at_ 181
    clear g_55 hQ h17 h18
    generalize x_55.eval = ρ at *
    go_simp
  refine g_55.step 182 _ rfl (lb_ I0.size) ((wanted_at (t := 175) (c := true) (b := true) rfl rfl rfl (lb_ (g_55.size.trans I0.size)) (g_55.at_ 175)).trans (by rfl)) r_56 (fun x_56 g_56 => ?_)
  clear r_56 g_55
  refine g_56.move 183 (.int .i64 (i : Int)) _ (Or.inl rfl) rfl (lb_ I0.size) ((wanted_at (t := 175) (c := true) (b := true) rfl rfl rfl (lb_ (g_56.size.trans I0.size)) (g_56.at_ 175)).trans (by rfl)) ((g_56.at_ 17).trans h17) (fun x_57 g_57 => ?_)
  clear g_56
  have r_58 : (execOp x_57.eval oZD36).run Try.prog (wr) = .ok (.value (.int .i64 (b : Int))) (wr) := by
    unfold oZD36
    have kc : ∀ v, x_57.eval (.const v) = v := fun _ => rfl
    have e183 : x_57.eval (.tmp 183) = .int .i64 (i : Int) := g_57.at_ 183
    clear g_57 hQ h17 h18
    generalize x_57.eval = ρ at *
    go_simp
  refine g_57.step 184 _ rfl (lb_ I0.size) ((wanted_at (t := 175) (c := true) (b := true) rfl rfl rfl (lb_ (g_57.size.trans I0.size)) (g_57.at_ 175)).trans (by rfl)) r_58 (fun x_58 g_58 => ?_)
  clear r_58 g_57
  have r_59 : (execOp x_58.eval oZD37).run Try.prog (wr) = .ok (.value (.int .u32 (b : Int))) (wr) := by
    unfold oZD37
    have e184 : x_58.eval (.tmp 184) = .int .i64 (b : Int) := g_58.at_ 184
    clear g_58 hQ h17 h18
    generalize x_58.eval = ρ at *
    go_simp
  refine g_58.step 185 _ rfl (lb_ I0.size) ((wanted_at (t := 175) (c := true) (b := true) rfl rfl rfl (lb_ (g_58.size.trans I0.size)) (g_58.at_ 175)).trans (by rfl)) r_59 (fun x_59 g_59 => ?_)
  clear r_59 g_58
  have r_60 : (execOp x_59.eval oZD38).run Try.prog (wr) = .ok (.value (.bool false)) (wr) := by
    unfold oZD38
    have e182 : x_59.eval (.tmp 182) = .int .u32 (b : Int) := g_59.at_ 182
    have e185 : x_59.eval (.tmp 185) = .int .u32 (b : Int) := g_59.at_ 185
    clear g_59 hQ h17 h18
    generalize x_59.eval = ρ at *
    go_simp
  refine g_59.step 186 _ rfl (lb_ I0.size) ((wanted_at (t := 175) (c := true) (b := true) rfl rfl rfl (lb_ (g_59.size.trans I0.size)) (g_59.at_ 175)).trans (by rfl)) r_60 (fun x_60 g_60 => ?_)
  clear r_60 g_59
  have r_61 : (execOp x_60.eval oZD39).run Try.prog (wr) = .ok (.value (.bool false)) (wr) := by
    unfold oZD39
    have kc : ∀ v, x_60.eval (.const v) = v := fun _ => rfl
    have e175 : x_60.eval (.tmp 175) = .bool true := g_60.at_ 175
    have e186 : x_60.eval (.tmp 186) = .bool false := g_60.at_ 186
    clear g_60 hQ h17 h18
    generalize x_60.eval = ρ at *
    go_simp
  refine g_60.step 187 _ rfl (lb_ I0.size) ((wanted_at (t := 167) (c := false) (b := false) rfl rfl rfl (lb_ (g_60.size.trans I0.size)) (g_60.at_ 167)).trans (by rfl)) r_61 (fun x_61 g_61 => ?_)
  clear r_61 g_60
  have r_62 : (execOp x_61.eval oZD40).run Try.prog (wr) = .ok (.value (.bool false)) (wr) := by
    unfold oZD40
    have kc : ∀ v, x_61.eval (.const v) = v := fun _ => rfl
    have e167 : x_61.eval (.tmp 167) = .bool false := g_61.at_ 167
    have e187 : x_61.eval (.tmp 187) = .bool false := g_61.at_ 187
    clear g_61 hQ h17 h18
    generalize x_61.eval = ρ at *
    go_simp
  refine g_61.step 188 _ rfl (lb_ I0.size) (wn rfl) r_62 (fun x_62 g_62 => ?_)
  clear r_62 g_61
  refine wpList_nil ?_
  change Code.wp _ _ _ _ _
  refine wp_cond_false (show x_62.eval (.tmp 188) = .bool false from (g_62.at_ 188)) (wp_skip ?_)
  change Code.wp _ _ _ _ _
  refine wp_region_list ?_
  unfold rAP40
  refine g_62.move 132 (.int .i64 (k : Int)) _ (Or.inl rfl) rfl (lb_ I0.size) (wn rfl) ((g_62.at_ 18).trans h18) (fun x_63 g_63 => ?_)
  clear g_62
  have r_64 : (execOp x_63.eval oZD7).run Try.prog (wr) = .ok (.value (.int .i64 ((k : Int) + 1))) (wr) := by
    unfold oZD7
    have kc : ∀ v, x_63.eval (.const v) = v := fun _ => rfl
    have e132 : x_63.eval (.tmp 132) = .int .i64 (k : Int) := g_63.at_ 132
    clear g_63 hQ h17 h18
    generalize x_63.eval = ρ at *
    go_simp
  refine g_63.step 133 _ rfl (lb_ I0.size) (wn rfl) r_64 (fun x_64 g_64 => ?_)
  clear r_64 g_63
  refine g_64.move 18 (.int .i64 ((k : Int) + 1)) _ (Or.inr rfl) rfl (lb_ I0.size) (wn rfl) (g_64.at_ 133) (fun x_65 g_65 => ?_)
  clear g_64
  refine wpList_nil ?_
  exact hQ x_65 (I0.keep g_65 rfl rfl rfl rfl) (show x_65.eval (.tmp 17) = .int .i64 (i : Int) from ((g_65.at_ 17).trans h17)) (show x_65.eval (.tmp 18) = .int .i64 ((k : Int) + 1) from (g_65.at_ 18))
set_option maxRecDepth 100000 in
theorem eUE {v1 v13 : Value} {lb lo n lc gm mc gy yn yc i k : Nat} {Q : Exit → Act → World → Prop} (a0 : Act) (wr : World) (I0 : IZ (.slice (some ⟨lb, lo, none⟩) n lc) v1 (.slice (some ⟨gm, 0, none⟩) n mc) v13 a0) (h17 : a0.eval (.tmp 17) = .int .i64 (i : Int)) (h18 : a0.eval (.tmp 18) = .int .i64 (k : Int))
    (hi : i < n) (hky : yn ≤ k) (c2 : wr.cell? ⟨gm, i, none⟩ = some (.slice (some ⟨gy, 0, none⟩) yn yc))
    (hQ : ∀ a', IZ (.slice (some ⟨lb, lo, none⟩) n lc) v1 (.slice (some ⟨gm, 0, none⟩) n mc) v13 a' → a'.eval (.tmp 17) = .int .i64 (i : Int) → Q (.exit 18) a' wr) : cEU2.wp Try.prog Q a0 wr := by
  have hii : (i : Int) < (n : Int) := by omega
  have hki : decide ((k : Int) < (yn : Int)) = false := decide_eq_false (by omega)
  have hki2 : ¬ (k : Int) < (yn : Int) := by omega
  clear hi hky
  have g_0 := Fe.refl a0
  unfold cEU2
  refine wp_seq (wp_seq ?_)
  refine wp_region_list ?_
  unfold rAP39
  refine g_0.move 125 (.int .i64 (k : Int)) _ (Or.inl rfl) rfl (lb_ I0.size) (wn rfl) ((g_0.at_ 18).trans h18) (fun x_1 g_1 => ?_)
  clear g_0
  refine g_1.move 126 (.slice (some ⟨gm, 0, none⟩) n mc) _ (Or.inl rfl) rfl (lb_ I0.size) (wn rfl) ((g_1.at_ 9).trans I0.s9) (fun x_2 g_2 => ?_)
  clear g_1
  refine g_2.move 127 (.int .i64 (i : Int)) _ (Or.inl rfl) rfl (lb_ I0.size) (wn rfl) ((g_2.at_ 17).trans h17) (fun x_3 g_3 => ?_)
  clear g_2
  have r_4 : (execOp x_3.eval oZD3).run Try.prog (wr) = .ok (.value (.pointer (some ⟨gm, i, none⟩))) (wr) := by
    unfold oZD3
    have e126 : x_3.eval (.tmp 126) = .slice (some ⟨gm, 0, none⟩) n mc := g_3.at_ 126
    have e127 : x_3.eval (.tmp 127) = .int .i64 (i : Int) := g_3.at_ 127
    clear g_3 hQ h17 h18
    generalize x_3.eval = ρ at *
    go_simp
  refine g_3.step 128 _ rfl (lb_ I0.size) (wn rfl) r_4 (fun x_4 g_4 => ?_)
  clear r_4 g_3
  have r_5 : (execOp x_4.eval oZD4).run Try.prog (wr) = .ok (.value (.slice (some ⟨gy, 0, none⟩) yn yc)) (wr) := by
    unfold oZD4
    have e128 : x_4.eval (.tmp 128) = .pointer (some ⟨gm, i, none⟩) := g_4.at_ 128
    clear g_4 hQ h17 h18
    generalize x_4.eval = ρ at *
    go_simp
  refine g_4.step 129 _ rfl (lb_ I0.size) (wn rfl) r_5 (fun x_5 g_5 => ?_)
  clear r_5 g_4
  have r_6 : (execOp x_5.eval oZD5).run Try.prog (wr) = .ok (.value (.int .i64 (yn : Int))) (wr) := by
    unfold oZD5
    have e129 : x_5.eval (.tmp 129) = .slice (some ⟨gy, 0, none⟩) yn yc := g_5.at_ 129
    clear g_5 hQ h17 h18
    generalize x_5.eval = ρ at *
    go_simp
  refine g_5.step 130 _ rfl (lb_ I0.size) (wn rfl) r_6 (fun x_6 g_6 => ?_)
  clear r_6 g_5
  have r_7 : (execOp x_6.eval oZD6).run Try.prog (wr) = .ok (.value (.bool false)) (wr) := by
    unfold oZD6
    have e125 : x_6.eval (.tmp 125) = .int .i64 (k : Int) := g_6.at_ 125
    have e130 : x_6.eval (.tmp 130) = .int .i64 (yn : Int) := g_6.at_ 130
    clear g_6 hQ h17 h18
    generalize x_6.eval = ρ at *
    go_simp
  refine g_6.step 131 _ rfl (lb_ I0.size) (wn rfl) r_7 (fun x_7 g_7 => ?_)
  clear r_7 g_6
  refine wpList_nil ?_
  change Code.wp _ _ _ _ _
  refine wp_cond_false (show x_7.eval (.tmp 131) = .bool false from (g_7.at_ 131)) (wp_exit ?_)
  exact hQ x_7 (I0.keep g_7 rfl rfl rfl rfl) (show x_7.eval (.tmp 17) = .int .i64 (i : Int) from ((g_7.at_ 17).trans h17))
theorem eUL2 {v1 v13 : Value} {lb lo n lc gm mc i a b : Nat} {x y : Sl} {Q : Exit → Act → World → Prop} (a0 : Act) (w : World) (I0 : IZ (.slice (some ⟨lb, lo, none⟩) n lc) v1 (.slice (some ⟨gm, 0, none⟩) n mc) v13 a0) (h5 : a0.eval (.tmp 17) = .int .i64 (i : Int)) (h6 : a0.eval (.tmp 18) = .int .i64 ((0 : Nat) : Int))
    (hi : i < n) (hn : n ≤ 4000000) (ha : a = 100000 + i) (hb : b = 300000 + i) (hF : Fnd fU w lb lo gm i x y a b)
    (hQ : ∀ a', IZ (.slice (some ⟨lb, lo, none⟩) n lc) v1 (.slice (some ⟨gm, 0, none⟩) n mc) v13 a' → a'.eval (.tmp 17) = .int .i64 (i : Int) → Q (.exit 18) a' w) : (Code.loop cEU2).wp Try.prog Q a0 w := by
  obtain ⟨gy, hgy, _⟩ := hF.c4.at2 (k := x.n) (i := 0) (Nat.le_refl _) (by omega) rfl
  obtain ⟨xa, xn, xc⟩ := x
  obtain ⟨ya, yn, yc⟩ := y
  obtain rfl : ya = some ⟨gy, 0, none⟩ := hgy
  obtain rfl : yn = xn + 70 := hF.yn
  have hle : xn ≤ 1099511627000 := hF.le
  refine wp_loop (fun a' w' => w' = w ∧ IZ (.slice (some ⟨lb, lo, none⟩) n lc) v1 (.slice (some ⟨gm, 0, none⟩) n mc) v13 a' ∧ a'.eval (.tmp 17) = .int .i64 (i : Int) ∧ ∃ k : Nat, k ≤ xn + 70 ∧ a'.eval (.tmp 18) = .int .i64 (k : Int)) (fun a' _ => xn + 70 - kOf a' 18) ⟨rfl, I0, h5, 0, Nat.zero_le _, h6⟩ ?_
  rintro a1 w' ⟨rfl, I1, g5, k, hk, g6⟩
  by_cases hgo : k < xn + 70
  · have nx : ∀ a', IZ (.slice (some ⟨lb, lo, none⟩) n lc) v1 (.slice (some ⟨gm, 0, none⟩) n mc) v13 a' → a'.eval (.tmp 17) = .int .i64 (i : Int) → a'.eval (.tmp 18) = .int .i64 ((k : Int) + 1) → Exit.then (fun a' w'' => (w'' = w' ∧ IZ (.slice (some ⟨lb, lo, none⟩) n lc) v1 (.slice (some ⟨gm, 0, none⟩) n mc) v13 a' ∧ a'.eval (.tmp 17) = .int .i64 (i : Int) ∧ ∃ k : Nat, k ≤ xn + 70 ∧ a'.eval (.tmp 18) = .int .i64 (k : Int)) ∧ xn + 70 - kOf a' 18 < xn + 70 - kOf a1 18) Q .normal a' w' := fun a' h1 h2 h3 => by
      have h4 : a'.eval (.tmp 18) = .int .i64 ((k + 1 : Nat) : Int) := h3
      refine ⟨⟨rfl, h1, h2, k + 1, hgo, h4⟩, ?_⟩
      rw [kOf_eq h4, kOf_eq g6]
      omega
    by_cases hx : k < xn
    · obtain ⟨gx, e, d1⟩ := Hold.at_ (F := fU) (t := []) (i := 0) (by rw [List.append_nil]; exact hF.c3) hx rfl
      obtain rfl : xa = some ⟨gx, 0, none⟩ := e
      obtain ⟨gz, e2, d2⟩ := Hold.at_ (F := fU) (i := 0) hF.c4 hx rfl
      obtain rfl : gy = gz := by simpa using e2
      rw [Nat.mul_one, Nat.add_zero] at d1 d2
      exact eUR a1 w' I1 g5 g6 hi hn ha hb hx hgo (by omega) hF.c1 hF.c2 d2 d1 nx
    · obtain ⟨gz, e2, d2⟩ := Hold.at2 (F := fU) (k := k) (i := 0) hF.c4 (Nat.le_of_not_lt hx) hgo rfl
      obtain rfl : gy = gz := by simpa using e2
      rw [Nat.mul_one, Nat.add_zero] at d2
      exact eUM a1 w' I1 g5 g6 hi hn ha hb (Nat.le_of_not_lt hx) hgo (by omega) hF.c1 hF.c2 d2 nx
  · exact eUE a1 w' I1 g5 g6 hi (Nat.le_of_not_lt hgo) hF.c2 hQ
set_option maxRecDepth 100000 in
theorem eUO {v1 v13 : Value} {lb lo n lc gm mc i : Nat} {x y : Sl} {Q : Exit → Act → World → Prop} (a0 : Act) (wr : World) (I0 : IZ (.slice (some ⟨lb, lo, none⟩) n lc) v1 (.slice (some ⟨gm, 0, none⟩) n mc) v13 a0) (h17 : a0.eval (.tmp 17) = .int .i64 (i : Int))
    (hi : i < n) (hn : n ≤ 4000000) (hF : Fnd fU wr lb lo gm i x y (100000 + i) (300000 + i)) (hQ : ∀ a', IZ (.slice (some ⟨lb, lo, none⟩) n lc) v1 (.slice (some ⟨gm, 0, none⟩) n mc) v13 a' → a'.eval (.tmp 17) = .int .i64 ((i : Int) + 1) → Q .normal a' wr) : cEU1.wp Try.prog Q a0 wr := by
  have hii : (i : Int) < (n : Int) := by omega
  have w7 : IntKind.i64.wrap ((i : Int) + 1) = (i : Int) + 1 := by rw [IntKind.wrap_i64]; omega
  have g_0 := Fe.refl a0
  unfold cEU1
  refine wp_seq (wp_seq ?_)
  refine wp_region_list ?_
  unfold rAP36
  refine g_0.move 119 (.int .i64 (i : Int)) _ (Or.inl rfl) rfl (lb_ I0.size) (wn rfl) ((g_0.at_ 17).trans h17) (fun x_1 g_1 => ?_)
  clear g_0
  refine g_1.move 120 (.slice (some ⟨lb, lo, none⟩) n lc) _ (Or.inl rfl) rfl (lb_ I0.size) (wn rfl) ((g_1.at_ 0).trans I0.s0) (fun x_2 g_2 => ?_)
  clear g_1
  have r_3 : (execOp x_2.eval oZD0).run Try.prog (wr) = .ok (.value (.int .i64 (n : Int))) (wr) := by
    unfold oZD0
    have e120 : x_2.eval (.tmp 120) = .slice (some ⟨lb, lo, none⟩) n lc := g_2.at_ 120
    clear g_2 hQ h17 hF
    generalize x_2.eval = ρ at *
    go_simp
  refine g_2.step 121 _ rfl (lb_ I0.size) (wn rfl) r_3 (fun x_3 g_3 => ?_)
  clear r_3 g_2
  have r_4 : (execOp x_3.eval oZD1).run Try.prog (wr) = .ok (.value (.bool true)) (wr) := by
    unfold oZD1
    have e119 : x_3.eval (.tmp 119) = .int .i64 (i : Int) := g_3.at_ 119
    have e121 : x_3.eval (.tmp 121) = .int .i64 (n : Int) := g_3.at_ 121
    clear g_3 hQ h17 hF
    generalize x_3.eval = ρ at *
    go_simp
  refine g_3.step 122 _ rfl (lb_ I0.size) (wn rfl) r_4 (fun x_4 g_4 => ?_)
  clear r_4 g_3
  refine wpList_nil ?_
  change Code.wp _ _ _ _ _
  refine wp_cond_true (show x_4.eval (.tmp 122) = .bool true from (g_4.at_ 122)) (wp_skip ?_)
  change Code.wp _ _ _ _ _
  refine wp_seq (wp_block (wp_seq ?_))
  refine wp_region_list ?_
  unfold rAP38
  refine g_4.move 18 (.int .i64 ((0 : Nat) : Int)) _ (Or.inr rfl) rfl (lb_ I0.size) (wn rfl) rfl (fun x_5 g_5 => ?_)
  clear g_4
  refine wpList_nil ?_
  change Code.wp _ _ _ _ _
  refine wp_block ?_
  refine eUL2 (a := 100000 + i) (b := 300000 + i) x_5 wr (I0.keep g_5 rfl rfl rfl rfl) (show x_5.eval (.tmp 17) = .int .i64 (i : Int) from ((g_5.at_ 17).trans h17)) (show x_5.eval (.tmp 18) = .int .i64 ((0 : Nat) : Int) from (g_5.at_ 18)) hi hn rfl rfl hF (fun d i2 d5 => ?_)
  change Code.wp _ _ _ _ _
  have fd_0 := Fe.refl d
  refine wp_region_list ?_
  unfold rAP37
  refine fd_0.move 123 (.int .i64 (i : Int)) _ (Or.inl rfl) rfl (lb_ i2.size) (wn rfl) ((fd_0.at_ 17).trans d5) (fun d_1 fd_1 => ?_)
  clear fd_0
  have r_d_2 : (execOp d_1.eval oZD2).run Try.prog (wr) = .ok (.value (.int .i64 ((i : Int) + 1))) (wr) := by
    unfold oZD2
    have kc : ∀ v, d_1.eval (.const v) = v := fun _ => rfl
    have e123 : d_1.eval (.tmp 123) = .int .i64 (i : Int) := fd_1.at_ 123
    clear fd_1 hQ d5 hF h17
    generalize d_1.eval = ρ at *
    go_simp
  refine fd_1.step 124 _ rfl (lb_ i2.size) (wn rfl) r_d_2 (fun d_2 fd_2 => ?_)
  clear r_d_2 fd_1
  refine fd_2.move 17 (.int .i64 ((i : Int) + 1)) _ (Or.inr rfl) rfl (lb_ i2.size) (wn rfl) (fd_2.at_ 124) (fun d_3 fd_3 => ?_)
  clear fd_2
  refine wpList_nil ?_
  exact hQ d_3 (i2.keep fd_3 rfl rfl rfl rfl) (show d_3.eval (.tmp 17) = .int .i64 ((i : Int) + 1) from (fd_3.at_ 17))
set_option maxRecDepth 100000 in
theorem eUX {v1 v13 : Value} {la ma : Option Addr} {n lc mc : Nat} {Q : Exit → Act → World → Prop} (a0 : Act) (wr : World) (I0 : IZ (.slice la n lc) v1 (.slice ma n mc) v13 a0) (h17 : a0.eval (.tmp 17) = .int .i64 (n : Int))
    (hQ : ∀ a, IZ (.slice la n lc) v1 (.slice ma n mc) v13 a → Q (.exit 16) a wr) : cEU1.wp Try.prog Q a0 wr := by
  have g_0 := Fe.refl a0
  unfold cEU1
  refine wp_seq (wp_seq ?_)
  refine wp_region_list ?_
  unfold rAP36
  refine g_0.move 119 (.int .i64 (n : Int)) _ (Or.inl rfl) rfl (lb_ I0.size) (wn rfl) ((g_0.at_ 17).trans h17) (fun x_1 g_1 => ?_)
  clear g_0
  refine g_1.move 120 (.slice la n lc) _ (Or.inl rfl) rfl (lb_ I0.size) (wn rfl) ((g_1.at_ 0).trans I0.s0) (fun x_2 g_2 => ?_)
  clear g_1
  have r_3 : (execOp x_2.eval oZD0).run Try.prog (wr) = .ok (.value (.int .i64 (n : Int))) (wr) := by
    unfold oZD0
    have e120 : x_2.eval (.tmp 120) = .slice la n lc := g_2.at_ 120
    clear g_2 hQ h17
    generalize x_2.eval = ρ at *
    go_simp
  refine g_2.step 121 _ rfl (lb_ I0.size) (wn rfl) r_3 (fun x_3 g_3 => ?_)
  clear r_3 g_2
  have r_4 : (execOp x_3.eval oZD1).run Try.prog (wr) = .ok (.value (.bool false)) (wr) := by
    unfold oZD1
    have e119 : x_3.eval (.tmp 119) = .int .i64 (n : Int) := g_3.at_ 119
    have e121 : x_3.eval (.tmp 121) = .int .i64 (n : Int) := g_3.at_ 121
    clear g_3 hQ h17
    generalize x_3.eval = ρ at *
    go_simp
  refine g_3.step 122 _ rfl (lb_ I0.size) (wn rfl) r_4 (fun x_4 g_4 => ?_)
  clear r_4 g_3
  refine wpList_nil ?_
  change Code.wp _ _ _ _ _
  refine wp_cond_false (show x_4.eval (.tmp 122) = .bool false from (g_4.at_ 122)) (wp_exit ?_)
  exact hQ x_4 (I0.keep g_4 rfl rfl rfl rfl)
theorem eUL {v1 v13 : Value} {la ma : Option Addr} {lb lo gm n lc mc : Nat} {Q : Exit → Act → World → Prop} (a0 : Act) (w : World) (I0 : IZ (.slice la n lc) v1 (.slice ma n mc) v13 a0) (h5 : a0.eval (.tmp 17) = .int .i64 ((0 : Nat) : Int))
    (hn : n ≤ 4000000) (hla : n ≠ 0 → la = some ⟨lb, lo, none⟩ ∧ ma = some ⟨gm, 0, none⟩) (hF : ∀ i, i < n → ∃ x y, Fnd fU w lb lo gm i x y (100000 + i) (300000 + i))
    (hQ : ∀ a, IZ (.slice la n lc) v1 (.slice ma n mc) v13 a → Q (.exit 16) a w) : (Code.loop cEU1).wp Try.prog Q a0 w := by
  refine wp_loop (fun a w' => w' = w ∧ IZ (.slice la n lc) v1 (.slice ma n mc) v13 a ∧ ∃ i : Nat, i ≤ n ∧ a.eval (.tmp 17) = .int .i64 (i : Int)) (fun a _ => n - kOf a 17) ⟨rfl, I0, 0, Nat.zero_le _, h5⟩ ?_
  rintro a w' ⟨rfl, I1, i, hi, g5⟩
  by_cases hgo : i < n
  · obtain ⟨rfl, rfl⟩ := hla (by omega)
    obtain ⟨x, y, hf⟩ := hF i hgo
    refine eUO a w' I1 g5 hgo hn hf (fun a' i2 k5 => ?_)
    have h4 : a'.eval (.tmp 17) = .int .i64 ((i + 1 : Nat) : Int) := k5
    refine ⟨⟨rfl, i2, i + 1, hgo, h4⟩, ?_⟩
    show n - kOf a' 17 < n - kOf a 17
    rw [kOf_eq h4, kOf_eq g5]
    omega
  · obtain rfl : i = n := by omega
    exact eUX a w' I1 g5 hQ
def cEB2 : Code := (.seq (.seq (.region 47 rAP47 false) (.cond (.tmp 201) .skip (.exit 22))) (.seq (.block 23 (.seq (.region 49 rAP49 false) (.cond (.tmp 261) (.seq (.region 50 rAP50 false) .ret) .skip))) (.region 48 rAP48 false)))
def cEB1 : Code := (.seq (.seq (.region 44 rAP44 false) (.cond (.tmp 192) .skip (.exit 20))) (.seq (.block 21 (.seq (.region 46 rAP46 false) (.block 22 (.loop cEB2)))) (.region 45 rAP45 false)))
set_option maxRecDepth 100000 in
set_option maxHeartbeats 1000000 in
theorem eBR {v0 v9 : Value} {lb lo n lc gm mc gy yn yc i k a b gx xn xc : Nat} {Q : Exit → Act → World → Prop} (a0 : Act) (wr : World) (I0 : IZ v0 (.slice (some ⟨lb, lo, none⟩) n lc) v9 (.slice (some ⟨gm, 0, none⟩) n mc) a0) (h19 : a0.eval (.tmp 19) = .int .i64 (i : Int)) (h20 : a0.eval (.tmp 20) = .int .i64 (k : Int))
    (hi : i < n) (hn : n ≤ 4000000) (ha : a = 200000 + i) (hb : b = 400000 + i) (hkx : k < xn) (hky : k < yn) (hyb : yn ≤ 1099511627776) (c1 : wr.cell? ⟨lb, lo + i, none⟩ = some (.slice (some ⟨gx, 0, none⟩) xn xc)) (c2 : wr.cell? ⟨gm, i, none⟩ = some (.slice (some ⟨gy, 0, none⟩) yn yc)) (c3 : wr.cell? ⟨gy, k * 2, none⟩ = some (.int .u32 (a : Int))) (c4 : wr.cell? ⟨gx, k * 2, none⟩ = some (.int .u32 (a : Int)))
    (hQ : ∀ a', IZ v0 (.slice (some ⟨lb, lo, none⟩) n lc) v9 (.slice (some ⟨gm, 0, none⟩) n mc) a' → a'.eval (.tmp 19) = .int .i64 (i : Int) → a'.eval (.tmp 20) = .int .i64 ((k : Int) + 1) → Q .normal a' wr) : cEB2.wp Try.prog Q a0 wr := by
  have hii : (i : Int) < (n : Int) := by omega
  have hki : (k : Int) < (yn : Int) := by omega
  have w1 : RowKit.wrap64 (200000 + (i : Int)) = (a : Int) := by unfold RowKit.wrap64; omega
  have w2 : IntKind.u32.wrap (a : Int) = (a : Int) := by rw [IntKind.wrap_u32]; omega
  have w3 : RowKit.wrap64 (400000 + (i : Int)) = (b : Int) := by unfold RowKit.wrap64; omega
  have w4 : IntKind.u32.wrap (b : Int) = (b : Int) := by rw [IntKind.wrap_u32]; omega
  have w5 : IntKind.i64.wrap (200000 + (i : Int)) = (a : Int) := by rw [IntKind.wrap_i64]; omega
  have w6 : IntKind.i64.wrap (400000 + (i : Int)) = (b : Int) := by rw [IntKind.wrap_i64]; omega
  have w7 : IntKind.i64.wrap ((k : Int) + 1) = (k : Int) + 1 := by rw [IntKind.wrap_i64]; omega
  have hkxi : (k : Int) < (xn : Int) := by omega
  have hkxd : decide ((xn : Int) ≤ (k : Int)) = false := decide_eq_false (by omega)
  clear hi hky hyb ha hb
  have g_0 := Fe.refl a0
  unfold cEB2
  refine wp_seq (wp_seq ?_)
  refine wp_region_list ?_
  unfold rAP47
  refine g_0.move 195 (.int .i64 (k : Int)) _ (Or.inl rfl) rfl (lb_ I0.size) (wn rfl) ((g_0.at_ 20).trans h20) (fun x_1 g_1 => ?_)
  clear g_0
  refine g_1.move 196 (.slice (some ⟨gm, 0, none⟩) n mc) _ (Or.inl rfl) rfl (lb_ I0.size) (wn rfl) ((g_1.at_ 13).trans I0.s13) (fun x_2 g_2 => ?_)
  clear g_1
  refine g_2.move 197 (.int .i64 (i : Int)) _ (Or.inl rfl) rfl (lb_ I0.size) (wn rfl) ((g_2.at_ 19).trans h19) (fun x_3 g_3 => ?_)
  clear g_2
  have r_4 : (execOp x_3.eval oZD44).run Try.prog (wr) = .ok (.value (.pointer (some ⟨gm, i, none⟩))) (wr) := by
    unfold oZD44
    have e196 : x_3.eval (.tmp 196) = .slice (some ⟨gm, 0, none⟩) n mc := g_3.at_ 196
    have e197 : x_3.eval (.tmp 197) = .int .i64 (i : Int) := g_3.at_ 197
    clear g_3 hQ h19 h20
    generalize x_3.eval = ρ at *
    go_simp
  refine g_3.step 198 _ rfl (lb_ I0.size) (wn rfl) r_4 (fun x_4 g_4 => ?_)
  clear r_4 g_3
  have r_5 : (execOp x_4.eval oZD45).run Try.prog (wr) = .ok (.value (.slice (some ⟨gy, 0, none⟩) yn yc)) (wr) := by
    unfold oZD45
    have e198 : x_4.eval (.tmp 198) = .pointer (some ⟨gm, i, none⟩) := g_4.at_ 198
    clear g_4 hQ h19 h20
    generalize x_4.eval = ρ at *
    go_simp
  refine g_4.step 199 _ rfl (lb_ I0.size) (wn rfl) r_5 (fun x_5 g_5 => ?_)
  clear r_5 g_4
  have r_6 : (execOp x_5.eval oZD46).run Try.prog (wr) = .ok (.value (.int .i64 (yn : Int))) (wr) := by
    unfold oZD46
    have e199 : x_5.eval (.tmp 199) = .slice (some ⟨gy, 0, none⟩) yn yc := g_5.at_ 199
    clear g_5 hQ h19 h20
    generalize x_5.eval = ρ at *
    go_simp
  refine g_5.step 200 _ rfl (lb_ I0.size) (wn rfl) r_6 (fun x_6 g_6 => ?_)
  clear r_6 g_5
  have r_7 : (execOp x_6.eval oZD47).run Try.prog (wr) = .ok (.value (.bool true)) (wr) := by
    unfold oZD47
    have e195 : x_6.eval (.tmp 195) = .int .i64 (k : Int) := g_6.at_ 195
    have e200 : x_6.eval (.tmp 200) = .int .i64 (yn : Int) := g_6.at_ 200
    clear g_6 hQ h19 h20
    generalize x_6.eval = ρ at *
    go_simp
  refine g_6.step 201 _ rfl (lb_ I0.size) (wn rfl) r_7 (fun x_7 g_7 => ?_)
  clear r_7 g_6
  refine wpList_nil ?_
  change Code.wp _ _ _ _ _
  refine wp_cond_true (show x_7.eval (.tmp 201) = .bool true from (g_7.at_ 201)) (wp_skip ?_)
  change Code.wp _ _ _ _ _
  refine wp_seq (wp_block (wp_seq ?_))
  refine wp_region_list ?_
  unfold rAP49
  refine g_7.move 204 (.int .i64 (k : Int)) _ (Or.inl rfl) rfl (lb_ I0.size) (wn rfl) ((g_7.at_ 20).trans h20) (fun x_8 g_8 => ?_)
  clear g_7
  refine g_8.move 205 (.slice (some ⟨lb, lo, none⟩) n lc) _ (Or.inl rfl) rfl (lb_ I0.size) (wn rfl) ((g_8.at_ 1).trans I0.s1) (fun x_9 g_9 => ?_)
  clear g_8
  refine g_9.move 206 (.int .i64 (i : Int)) _ (Or.inl rfl) rfl (lb_ I0.size) (wn rfl) ((g_9.at_ 19).trans h19) (fun x_10 g_10 => ?_)
  clear g_9
  have r_11 : (execOp x_10.eval oZD49).run Try.prog (wr) = .ok (.value (.pointer (some ⟨lb, lo + i, none⟩))) (wr) := by
    unfold oZD49
    have e205 : x_10.eval (.tmp 205) = .slice (some ⟨lb, lo, none⟩) n lc := g_10.at_ 205
    have e206 : x_10.eval (.tmp 206) = .int .i64 (i : Int) := g_10.at_ 206
    clear g_10 hQ h19 h20
    generalize x_10.eval = ρ at *
    go_simp
  refine g_10.step 207 _ rfl (lb_ I0.size) (wn rfl) r_11 (fun x_11 g_11 => ?_)
  clear r_11 g_10
  have r_12 : (execOp x_11.eval oZD50).run Try.prog (wr) = .ok (.value (.slice (some ⟨gx, 0, none⟩) xn xc)) (wr) := by
    unfold oZD50
    have e207 : x_11.eval (.tmp 207) = .pointer (some ⟨lb, lo + i, none⟩) := g_11.at_ 207
    clear g_11 hQ h19 h20
    generalize x_11.eval = ρ at *
    go_simp
  refine g_11.step 208 _ rfl (lb_ I0.size) (wn rfl) r_12 (fun x_12 g_12 => ?_)
  clear r_12 g_11
  have r_13 : (execOp x_12.eval oZD51).run Try.prog (wr) = .ok (.value (.int .i64 (xn : Int))) (wr) := by
    unfold oZD51
    have e208 : x_12.eval (.tmp 208) = .slice (some ⟨gx, 0, none⟩) xn xc := g_12.at_ 208
    clear g_12 hQ h19 h20
    generalize x_12.eval = ρ at *
    go_simp
  refine g_12.step 209 _ rfl (lb_ I0.size) (wn rfl) r_13 (fun x_13 g_13 => ?_)
  clear r_13 g_12
  have r_14 : (execOp x_13.eval oZD52).run Try.prog (wr) = .ok (.value (.bool true)) (wr) := by
    unfold oZD52
    have e204 : x_13.eval (.tmp 204) = .int .i64 (k : Int) := g_13.at_ 204
    have e209 : x_13.eval (.tmp 209) = .int .i64 (xn : Int) := g_13.at_ 209
    clear g_13 hQ h19 h20
    generalize x_13.eval = ρ at *
    go_simp
  refine g_13.step 210 _ rfl (lb_ I0.size) (wn rfl) r_14 (fun x_14 g_14 => ?_)
  clear r_14 g_13
  refine g_14.move 211 (.bool true) _ (Or.inl rfl) rfl (lb_ I0.size) (wn rfl) (g_14.at_ 210) (fun x_15 g_15 => ?_)
  clear g_14
  refine g_15.move 212 (.slice (some ⟨lb, lo, none⟩) n lc) _ (Or.inl rfl) rfl (lb_ I0.size) ((wanted_at (t := 211) (c := true) (b := true) rfl rfl rfl (lb_ (g_15.size.trans I0.size)) (g_15.at_ 211)).trans (by rfl)) ((g_15.at_ 1).trans I0.s1) (fun x_16 g_16 => ?_)
  clear g_15
  refine g_16.move 213 (.int .i64 (i : Int)) _ (Or.inl rfl) rfl (lb_ I0.size) ((wanted_at (t := 211) (c := true) (b := true) rfl rfl rfl (lb_ (g_16.size.trans I0.size)) (g_16.at_ 211)).trans (by rfl)) ((g_16.at_ 19).trans h19) (fun x_17 g_17 => ?_)
  clear g_16
  have r_18 : (execOp x_17.eval oZD53).run Try.prog (wr) = .ok (.value (.pointer (some ⟨lb, lo + i, none⟩))) (wr) := by
    unfold oZD53
    have e212 : x_17.eval (.tmp 212) = .slice (some ⟨lb, lo, none⟩) n lc := g_17.at_ 212
    have e213 : x_17.eval (.tmp 213) = .int .i64 (i : Int) := g_17.at_ 213
    clear g_17 hQ h19 h20
    generalize x_17.eval = ρ at *
    go_simp
  refine g_17.step 214 _ rfl (lb_ I0.size) ((wanted_at (t := 211) (c := true) (b := true) rfl rfl rfl (lb_ (g_17.size.trans I0.size)) (g_17.at_ 211)).trans (by rfl)) r_18 (fun x_18 g_18 => ?_)
  clear r_18 g_17
  have r_19 : (execOp x_18.eval oZD54).run Try.prog (wr) = .ok (.value (.slice (some ⟨gx, 0, none⟩) xn xc)) (wr) := by
    unfold oZD54
    have e214 : x_18.eval (.tmp 214) = .pointer (some ⟨lb, lo + i, none⟩) := g_18.at_ 214
    clear g_18 hQ h19 h20
    generalize x_18.eval = ρ at *
    go_simp
  refine g_18.step 215 _ rfl (lb_ I0.size) ((wanted_at (t := 211) (c := true) (b := true) rfl rfl rfl (lb_ (g_18.size.trans I0.size)) (g_18.at_ 211)).trans (by rfl)) r_19 (fun x_19 g_19 => ?_)
  clear r_19 g_18
  refine g_19.move 216 (.int .i64 (k : Int)) _ (Or.inl rfl) rfl (lb_ I0.size) ((wanted_at (t := 211) (c := true) (b := true) rfl rfl rfl (lb_ (g_19.size.trans I0.size)) (g_19.at_ 211)).trans (by rfl)) ((g_19.at_ 20).trans h20) (fun x_20 g_20 => ?_)
  clear g_19
  have r_21 : (execOp x_20.eval oZD55).run Try.prog (wr) = .ok (.value (.pointer (some ⟨gx, k * 2, none⟩))) (wr) := by
    unfold oZD55
    have e215 : x_20.eval (.tmp 215) = .slice (some ⟨gx, 0, none⟩) xn xc := g_20.at_ 215
    have e216 : x_20.eval (.tmp 216) = .int .i64 (k : Int) := g_20.at_ 216
    clear g_20 hQ h19 h20
    generalize x_20.eval = ρ at *
    go_simp
  refine g_20.step 217 _ rfl (lb_ I0.size) ((wanted_at (t := 211) (c := true) (b := true) rfl rfl rfl (lb_ (g_20.size.trans I0.size)) (g_20.at_ 211)).trans (by rfl)) r_21 (fun x_21 g_21 => ?_)
  clear r_21 g_20
  have r_22 : (execOp x_21.eval oZD56).run Try.prog (wr) = .ok (.value (.pointer (some ⟨gx, k * 2, none⟩))) (wr) := by
    unfold oZD56
    have e217 : x_21.eval (.tmp 217) = .pointer (some ⟨gx, k * 2, none⟩) := g_21.at_ 217
    clear g_21 hQ h19 h20
    generalize x_21.eval = ρ at *
    go_simp
  refine g_21.step 218 _ rfl (lb_ I0.size) ((wanted_at (t := 211) (c := true) (b := true) rfl rfl rfl (lb_ (g_21.size.trans I0.size)) (g_21.at_ 211)).trans (by rfl)) r_22 (fun x_22 g_22 => ?_)
  clear r_22 g_21
  have r_23 : (execOp x_22.eval oZD57).run Try.prog (wr) = .ok (.value (.int .u32 (a : Int))) (wr) := by
    unfold oZD57
    have e218 : x_22.eval (.tmp 218) = .pointer (some ⟨gx, k * 2, none⟩) := g_22.at_ 218
    clear g_22 hQ h19 h20
    generalize x_22.eval = ρ at *
    go_simp
  refine g_22.step 219 _ rfl (lb_ I0.size) ((wanted_at (t := 211) (c := true) (b := true) rfl rfl rfl (lb_ (g_22.size.trans I0.size)) (g_22.at_ 211)).trans (by rfl)) r_23 (fun x_23 g_23 => ?_)
  clear r_23 g_22
  refine g_23.move 220 (.int .i64 (i : Int)) _ (Or.inl rfl) rfl (lb_ I0.size) ((wanted_at (t := 211) (c := true) (b := true) rfl rfl rfl (lb_ (g_23.size.trans I0.size)) (g_23.at_ 211)).trans (by rfl)) ((g_23.at_ 19).trans h19) (fun x_24 g_24 => ?_)
  clear g_23
  have r_25 : (execOp x_24.eval oZD58).run Try.prog (wr) = .ok (.value (.int .i64 (a : Int))) (wr) := by
    unfold oZD58
    have kc : ∀ v, x_24.eval (.const v) = v := fun _ => rfl
    have e220 : x_24.eval (.tmp 220) = .int .i64 (i : Int) := g_24.at_ 220
    clear g_24 hQ h19 h20
    generalize x_24.eval = ρ at *
    go_simp
  refine g_24.step 221 _ rfl (lb_ I0.size) ((wanted_at (t := 211) (c := true) (b := true) rfl rfl rfl (lb_ (g_24.size.trans I0.size)) (g_24.at_ 211)).trans (by rfl)) r_25 (fun x_25 g_25 => ?_)
  clear r_25 g_24
  have r_26 : (execOp x_25.eval oZD59).run Try.prog (wr) = .ok (.value (.int .u32 (a : Int))) (wr) := by
    unfold oZD59
    have e221 : x_25.eval (.tmp 221) = .int .i64 (a : Int) := g_25.at_ 221
    clear g_25 hQ h19 h20
    generalize x_25.eval = ρ at *
    go_simp
  refine g_25.step 222 _ rfl (lb_ I0.size) ((wanted_at (t := 211) (c := true) (b := true) rfl rfl rfl (lb_ (g_25.size.trans I0.size)) (g_25.at_ 211)).trans (by rfl)) r_26 (fun x_26 g_26 => ?_)
  clear r_26 g_25
  have r_27 : (execOp x_26.eval oZD60).run Try.prog (wr) = .ok (.value (.bool false)) (wr) := by
    unfold oZD60
    have e219 : x_26.eval (.tmp 219) = .int .u32 (a : Int) := g_26.at_ 219
    have e222 : x_26.eval (.tmp 222) = .int .u32 (a : Int) := g_26.at_ 222
    clear g_26 hQ h19 h20
    generalize x_26.eval = ρ at *
    go_simp
  refine g_26.step 223 _ rfl (lb_ I0.size) ((wanted_at (t := 211) (c := true) (b := true) rfl rfl rfl (lb_ (g_26.size.trans I0.size)) (g_26.at_ 211)).trans (by rfl)) r_27 (fun x_27 g_27 => ?_)
  clear r_27 g_26
  refine g_27.move 224 (.bool false) _ (Or.inl rfl) rfl (lb_ I0.size) ((wanted_at (t := 211) (c := true) (b := true) rfl rfl rfl (lb_ (g_27.size.trans I0.size)) (g_27.at_ 211)).trans (by rfl)) (g_27.at_ 223) (fun x_28 g_28 => ?_)
  clear g_27
  refine g_28.move 225 (.slice (some ⟨gm, 0, none⟩) n mc) _ (Or.inl rfl) rfl (lb_ I0.size) ((wanted_at (t := 224) (c := false) (b := false) rfl rfl rfl (lb_ (g_28.size.trans I0.size)) (g_28.at_ 224)).trans (by rfl)) ((g_28.at_ 13).trans I0.s13) (fun x_29 g_29 => ?_)
  clear g_28
  refine g_29.move 226 (.int .i64 (i : Int)) _ (Or.inl rfl) rfl (lb_ I0.size) ((wanted_at (t := 224) (c := false) (b := false) rfl rfl rfl (lb_ (g_29.size.trans I0.size)) (g_29.at_ 224)).trans (by rfl)) ((g_29.at_ 19).trans h19) (fun x_30 g_30 => ?_)
  clear g_29
  have r_31 : (execOp x_30.eval oZD61).run Try.prog (wr) = .ok (.value (.pointer (some ⟨gm, i, none⟩))) (wr) := by
    unfold oZD61
    have e225 : x_30.eval (.tmp 225) = .slice (some ⟨gm, 0, none⟩) n mc := g_30.at_ 225
    have e226 : x_30.eval (.tmp 226) = .int .i64 (i : Int) := g_30.at_ 226
    clear g_30 hQ h19 h20
    generalize x_30.eval = ρ at *
    go_simp
  refine g_30.step 227 _ rfl (lb_ I0.size) ((wanted_at (t := 224) (c := false) (b := false) rfl rfl rfl (lb_ (g_30.size.trans I0.size)) (g_30.at_ 224)).trans (by rfl)) r_31 (fun x_31 g_31 => ?_)
  clear r_31 g_30
  have r_32 : (execOp x_31.eval oZD62).run Try.prog (wr) = .ok (.value (.slice (some ⟨gy, 0, none⟩) yn yc)) (wr) := by
    unfold oZD62
    have e227 : x_31.eval (.tmp 227) = .pointer (some ⟨gm, i, none⟩) := g_31.at_ 227
    clear g_31 hQ h19 h20
    generalize x_31.eval = ρ at *
    go_simp
  refine g_31.step 228 _ rfl (lb_ I0.size) ((wanted_at (t := 224) (c := false) (b := false) rfl rfl rfl (lb_ (g_31.size.trans I0.size)) (g_31.at_ 224)).trans (by rfl)) r_32 (fun x_32 g_32 => ?_)
  clear r_32 g_31
  refine g_32.move 229 (.int .i64 (k : Int)) _ (Or.inl rfl) rfl (lb_ I0.size) ((wanted_at (t := 224) (c := false) (b := false) rfl rfl rfl (lb_ (g_32.size.trans I0.size)) (g_32.at_ 224)).trans (by rfl)) ((g_32.at_ 20).trans h20) (fun x_33 g_33 => ?_)
  clear g_32
  have r_34 : (execOp x_33.eval oZD63).run Try.prog (wr) = .ok (.value (.pointer (some ⟨gy, k * 2, none⟩))) (wr) := by
    unfold oZD63
    have e228 : x_33.eval (.tmp 228) = .slice (some ⟨gy, 0, none⟩) yn yc := g_33.at_ 228
    have e229 : x_33.eval (.tmp 229) = .int .i64 (k : Int) := g_33.at_ 229
    clear g_33 hQ h19 h20
    generalize x_33.eval = ρ at *
    go_simp
  refine g_33.step 230 _ rfl (lb_ I0.size) ((wanted_at (t := 224) (c := false) (b := false) rfl rfl rfl (lb_ (g_33.size.trans I0.size)) (g_33.at_ 224)).trans (by rfl)) r_34 (fun x_34 g_34 => ?_)
  clear r_34 g_33
  have r_35 : (execOp x_34.eval oZD64).run Try.prog (wr) = .ok (.value (.pointer (some ⟨gy, k * 2, none⟩))) (wr) := by
    unfold oZD64
    have e230 : x_34.eval (.tmp 230) = .pointer (some ⟨gy, k * 2, none⟩) := g_34.at_ 230
    clear g_34 hQ h19 h20
    generalize x_34.eval = ρ at *
    go_simp
  refine g_34.step 231 _ rfl (lb_ I0.size) ((wanted_at (t := 224) (c := false) (b := false) rfl rfl rfl (lb_ (g_34.size.trans I0.size)) (g_34.at_ 224)).trans (by rfl)) r_35 (fun x_35 g_35 => ?_)
  clear r_35 g_34
  have r_36 : (execOp x_35.eval oZD65).run Try.prog (wr) = .ok (.value (.int .u32 (a : Int))) (wr) := by
    unfold oZD65
    have e231 : x_35.eval (.tmp 231) = .pointer (some ⟨gy, k * 2, none⟩) := g_35.at_ 231
    clear g_35 hQ h19 h20
    generalize x_35.eval = ρ at *
    go_simp
  refine g_35.step 232 _ rfl (lb_ I0.size) ((wanted_at (t := 224) (c := false) (b := false) rfl rfl rfl (lb_ (g_35.size.trans I0.size)) (g_35.at_ 224)).trans (by rfl)) r_36 (fun x_36 g_36 => ?_)
  clear r_36 g_35
  refine g_36.move 233 (.int .i64 (i : Int)) _ (Or.inl rfl) rfl (lb_ I0.size) ((wanted_at (t := 224) (c := false) (b := false) rfl rfl rfl (lb_ (g_36.size.trans I0.size)) (g_36.at_ 224)).trans (by rfl)) ((g_36.at_ 19).trans h19) (fun x_37 g_37 => ?_)
  clear g_36
  have r_38 : (execOp x_37.eval oZD66).run Try.prog (wr) = .ok (.value (.int .i64 (a : Int))) (wr) := by
    unfold oZD66
    have kc : ∀ v, x_37.eval (.const v) = v := fun _ => rfl
    have e233 : x_37.eval (.tmp 233) = .int .i64 (i : Int) := g_37.at_ 233
    clear g_37 hQ h19 h20
    generalize x_37.eval = ρ at *
    go_simp
  refine g_37.step 234 _ rfl (lb_ I0.size) ((wanted_at (t := 224) (c := false) (b := false) rfl rfl rfl (lb_ (g_37.size.trans I0.size)) (g_37.at_ 224)).trans (by rfl)) r_38 (fun x_38 g_38 => ?_)
  clear r_38 g_37
  have r_39 : (execOp x_38.eval oZD67).run Try.prog (wr) = .ok (.value (.int .u32 (a : Int))) (wr) := by
    unfold oZD67
    have e234 : x_38.eval (.tmp 234) = .int .i64 (a : Int) := g_38.at_ 234
    clear g_38 hQ h19 h20
    generalize x_38.eval = ρ at *
    go_simp
  refine g_38.step 235 _ rfl (lb_ I0.size) ((wanted_at (t := 224) (c := false) (b := false) rfl rfl rfl (lb_ (g_38.size.trans I0.size)) (g_38.at_ 224)).trans (by rfl)) r_39 (fun x_39 g_39 => ?_)
  clear r_39 g_38
  have r_40 : (execOp x_39.eval oZD68).run Try.prog (wr) = .ok (.value (.bool false)) (wr) := by
    unfold oZD68
    have e232 : x_39.eval (.tmp 232) = .int .u32 (a : Int) := g_39.at_ 232
    have e235 : x_39.eval (.tmp 235) = .int .u32 (a : Int) := g_39.at_ 235
    clear g_39 hQ h19 h20
    generalize x_39.eval = ρ at *
    go_simp
  refine g_39.step 236 _ rfl (lb_ I0.size) ((wanted_at (t := 224) (c := false) (b := false) rfl rfl rfl (lb_ (g_39.size.trans I0.size)) (g_39.at_ 224)).trans (by rfl)) r_40 (fun x_40 g_40 => ?_)
  clear r_40 g_39
  have r_41 : (execOp x_40.eval oZD69).run Try.prog (wr) = .ok (.value (.bool false)) (wr) := by
    unfold oZD69
    have kc : ∀ v, x_40.eval (.const v) = v := fun _ => rfl
    have e224 : x_40.eval (.tmp 224) = .bool false := g_40.at_ 224
    have e236 : x_40.eval (.tmp 236) = .bool false := g_40.at_ 236
    clear g_40 hQ h19 h20
    generalize x_40.eval = ρ at *
    go_simp
  refine g_40.step 237 _ rfl (lb_ I0.size) ((wanted_at (t := 211) (c := true) (b := true) rfl rfl rfl (lb_ (g_40.size.trans I0.size)) (g_40.at_ 211)).trans (by rfl)) r_41 (fun x_41 g_41 => ?_)
  clear r_41 g_40
  have r_42 : (execOp x_41.eval oZD70).run Try.prog (wr) = .ok (.value (.bool false)) (wr) := by
    unfold oZD70
    have kc : ∀ v, x_41.eval (.const v) = v := fun _ => rfl
    have e211 : x_41.eval (.tmp 211) = .bool true := g_41.at_ 211
    have e237 : x_41.eval (.tmp 237) = .bool false := g_41.at_ 237
    clear g_41 hQ h19 h20
    generalize x_41.eval = ρ at *
    go_simp
  refine g_41.step 238 _ rfl (lb_ I0.size) (wn rfl) r_42 (fun x_42 g_42 => ?_)
  clear r_42 g_41
  refine g_42.move 239 (.bool false) _ (Or.inl rfl) rfl (lb_ I0.size) (wn rfl) (g_42.at_ 238) (fun x_43 g_43 => ?_)
  clear g_42
  refine g_43.move 240 (.int .i64 (k : Int)) _ (Or.inl rfl) rfl (lb_ I0.size) ((wanted_at (t := 239) (c := false) (b := false) rfl rfl rfl (lb_ (g_43.size.trans I0.size)) (g_43.at_ 239)).trans (by rfl)) ((g_43.at_ 20).trans h20) (fun x_44 g_44 => ?_)
  clear g_43
  refine g_44.move 241 (.slice (some ⟨lb, lo, none⟩) n lc) _ (Or.inl rfl) rfl (lb_ I0.size) ((wanted_at (t := 239) (c := false) (b := false) rfl rfl rfl (lb_ (g_44.size.trans I0.size)) (g_44.at_ 239)).trans (by rfl)) ((g_44.at_ 1).trans I0.s1) (fun x_45 g_45 => ?_)
  clear g_44
  refine g_45.move 242 (.int .i64 (i : Int)) _ (Or.inl rfl) rfl (lb_ I0.size) ((wanted_at (t := 239) (c := false) (b := false) rfl rfl rfl (lb_ (g_45.size.trans I0.size)) (g_45.at_ 239)).trans (by rfl)) ((g_45.at_ 19).trans h19) (fun x_46 g_46 => ?_)
  clear g_45
  have r_47 : (execOp x_46.eval oZD71).run Try.prog (wr) = .ok (.value (.pointer (some ⟨lb, lo + i, none⟩))) (wr) := by
    unfold oZD71
    have e241 : x_46.eval (.tmp 241) = .slice (some ⟨lb, lo, none⟩) n lc := g_46.at_ 241
    have e242 : x_46.eval (.tmp 242) = .int .i64 (i : Int) := g_46.at_ 242
    clear g_46 hQ h19 h20
    generalize x_46.eval = ρ at *
    go_simp
  refine g_46.step 243 _ rfl (lb_ I0.size) ((wanted_at (t := 239) (c := false) (b := false) rfl rfl rfl (lb_ (g_46.size.trans I0.size)) (g_46.at_ 239)).trans (by rfl)) r_47 (fun x_47 g_47 => ?_)
  clear r_47 g_46
  have r_48 : (execOp x_47.eval oZD72).run Try.prog (wr) = .ok (.value (.slice (some ⟨gx, 0, none⟩) xn xc)) (wr) := by
    unfold oZD72
    have e243 : x_47.eval (.tmp 243) = .pointer (some ⟨lb, lo + i, none⟩) := g_47.at_ 243
    clear g_47 hQ h19 h20
    generalize x_47.eval = ρ at *
    go_simp
  refine g_47.step 244 _ rfl (lb_ I0.size) ((wanted_at (t := 239) (c := false) (b := false) rfl rfl rfl (lb_ (g_47.size.trans I0.size)) (g_47.at_ 239)).trans (by rfl)) r_48 (fun x_48 g_48 => ?_)
  clear r_48 g_47
  have r_49 : (execOp x_48.eval oZD73).run Try.prog (wr) = .ok (.value (.int .i64 (xn : Int))) (wr) := by
    unfold oZD73
    have e244 : x_48.eval (.tmp 244) = .slice (some ⟨gx, 0, none⟩) xn xc := g_48.at_ 244
    clear g_48 hQ h19 h20
    generalize x_48.eval = ρ at *
    go_simp
  refine g_48.step 245 _ rfl (lb_ I0.size) ((wanted_at (t := 239) (c := false) (b := false) rfl rfl rfl (lb_ (g_48.size.trans I0.size)) (g_48.at_ 239)).trans (by rfl)) r_49 (fun x_49 g_49 => ?_)
  clear r_49 g_48
  have r_50 : (execOp x_49.eval oZD74).run Try.prog (wr) = .ok (.value (.bool false)) (wr) := by
    unfold oZD74
    have e240 : x_49.eval (.tmp 240) = .int .i64 (k : Int) := g_49.at_ 240
    have e245 : x_49.eval (.tmp 245) = .int .i64 (xn : Int) := g_49.at_ 245
    clear g_49 hQ h19 h20
    generalize x_49.eval = ρ at *
    go_simp
  refine g_49.step 246 _ rfl (lb_ I0.size) ((wanted_at (t := 239) (c := false) (b := false) rfl rfl rfl (lb_ (g_49.size.trans I0.size)) (g_49.at_ 239)).trans (by rfl)) r_50 (fun x_50 g_50 => ?_)
  clear r_50 g_49
  refine g_50.move 247 (.bool false) _ (Or.inl rfl) rfl (lb_ I0.size) ((wanted_at (t := 239) (c := false) (b := false) rfl rfl rfl (lb_ (g_50.size.trans I0.size)) (g_50.at_ 239)).trans (by rfl)) (g_50.at_ 246) (fun x_51 g_51 => ?_)
  clear g_50
  refine g_51.skip 248 rfl (lb_ I0.size) ((wanted_at (t := 247) (c := false) (b := true) rfl rfl rfl (lb_ (g_51.size.trans I0.size)) (g_51.at_ 247)).trans (by rfl)) (fun x_52 g_52 => ?_)
  clear g_51
  refine g_52.skip 249 rfl (lb_ I0.size) ((wanted_at (t := 247) (c := false) (b := true) rfl rfl rfl (lb_ (g_52.size.trans I0.size)) (g_52.at_ 247)).trans (by rfl)) (fun x_53 g_53 => ?_)
  clear g_52
  refine g_53.skip 250 rfl (lb_ I0.size) ((wanted_at (t := 247) (c := false) (b := true) rfl rfl rfl (lb_ (g_53.size.trans I0.size)) (g_53.at_ 247)).trans (by rfl)) (fun x_54 g_54 => ?_)
  clear g_53
  refine g_54.skip 251 rfl (lb_ I0.size) ((wanted_at (t := 247) (c := false) (b := true) rfl rfl rfl (lb_ (g_54.size.trans I0.size)) (g_54.at_ 247)).trans (by rfl)) (fun x_55 g_55 => ?_)
  clear g_54
  refine g_55.skip 252 rfl (lb_ I0.size) ((wanted_at (t := 247) (c := false) (b := true) rfl rfl rfl (lb_ (g_55.size.trans I0.size)) (g_55.at_ 247)).trans (by rfl)) (fun x_56 g_56 => ?_)
  clear g_55
  refine g_56.skip 253 rfl (lb_ I0.size) ((wanted_at (t := 247) (c := false) (b := true) rfl rfl rfl (lb_ (g_56.size.trans I0.size)) (g_56.at_ 247)).trans (by rfl)) (fun x_57 g_57 => ?_)
  clear g_56
  refine g_57.skip 254 rfl (lb_ I0.size) ((wanted_at (t := 247) (c := false) (b := true) rfl rfl rfl (lb_ (g_57.size.trans I0.size)) (g_57.at_ 247)).trans (by rfl)) (fun x_58 g_58 => ?_)
  clear g_57
  refine g_58.skip 255 rfl (lb_ I0.size) ((wanted_at (t := 247) (c := false) (b := true) rfl rfl rfl (lb_ (g_58.size.trans I0.size)) (g_58.at_ 247)).trans (by rfl)) (fun x_59 g_59 => ?_)
  clear g_58
  refine g_59.skip 256 rfl (lb_ I0.size) ((wanted_at (t := 247) (c := false) (b := true) rfl rfl rfl (lb_ (g_59.size.trans I0.size)) (g_59.at_ 247)).trans (by rfl)) (fun x_60 g_60 => ?_)
  clear g_59
  refine g_60.skip 257 rfl (lb_ I0.size) ((wanted_at (t := 247) (c := false) (b := true) rfl rfl rfl (lb_ (g_60.size.trans I0.size)) (g_60.at_ 247)).trans (by rfl)) (fun x_61 g_61 => ?_)
  clear g_60
  refine g_61.skip 258 rfl (lb_ I0.size) ((wanted_at (t := 247) (c := false) (b := true) rfl rfl rfl (lb_ (g_61.size.trans I0.size)) (g_61.at_ 247)).trans (by rfl)) (fun x_62 g_62 => ?_)
  clear g_61
  refine g_62.skip 259 rfl (lb_ I0.size) ((wanted_at (t := 247) (c := false) (b := true) rfl rfl rfl (lb_ (g_62.size.trans I0.size)) (g_62.at_ 247)).trans (by rfl)) (fun x_63 g_63 => ?_)
  clear g_62
  have r_64 : (execOp x_63.eval oZD83).run Try.prog (wr) = .ok (.value (.bool false)) (wr) := by
    unfold oZD83
    have kc : ∀ v, x_63.eval (.const v) = v := fun _ => rfl
    have e247 : x_63.eval (.tmp 247) = .bool false := g_63.at_ 247
    have e259 : x_63.eval (.tmp 259) = undef := g_63.at_ 259
    clear g_63 hQ h19 h20
    generalize x_63.eval = ρ at *
    go_simp
  refine g_63.step 260 _ rfl (lb_ I0.size) ((wanted_at (t := 239) (c := false) (b := false) rfl rfl rfl (lb_ (g_63.size.trans I0.size)) (g_63.at_ 239)).trans (by rfl)) r_64 (fun x_64 g_64 => ?_)
  clear r_64 g_63
  have r_65 : (execOp x_64.eval oZD84).run Try.prog (wr) = .ok (.value (.bool false)) (wr) := by
    unfold oZD84
    have kc : ∀ v, x_64.eval (.const v) = v := fun _ => rfl
    have e239 : x_64.eval (.tmp 239) = .bool false := g_64.at_ 239
    have e260 : x_64.eval (.tmp 260) = .bool false := g_64.at_ 260
    clear g_64 hQ h19 h20
    generalize x_64.eval = ρ at *
    go_simp
  refine g_64.step 261 _ rfl (lb_ I0.size) (wn rfl) r_65 (fun x_65 g_65 => ?_)
  clear r_65 g_64
  refine wpList_nil ?_
  change Code.wp _ _ _ _ _
  refine wp_cond_false (show x_65.eval (.tmp 261) = .bool false from (g_65.at_ 261)) (wp_skip ?_)
  change Code.wp _ _ _ _ _
  refine wp_region_list ?_
  unfold rAP48
  refine g_65.move 202 (.int .i64 (k : Int)) _ (Or.inl rfl) rfl (lb_ I0.size) (wn rfl) ((g_65.at_ 20).trans h20) (fun x_66 g_66 => ?_)
  clear g_65
  have r_67 : (execOp x_66.eval oZD48).run Try.prog (wr) = .ok (.value (.int .i64 ((k : Int) + 1))) (wr) := by
    unfold oZD48
    have kc : ∀ v, x_66.eval (.const v) = v := fun _ => rfl
    have e202 : x_66.eval (.tmp 202) = .int .i64 (k : Int) := g_66.at_ 202
    clear g_66 hQ h19 h20
    generalize x_66.eval = ρ at *
    go_simp
  refine g_66.step 203 _ rfl (lb_ I0.size) (wn rfl) r_67 (fun x_67 g_67 => ?_)
  clear r_67 g_66
  refine g_67.move 20 (.int .i64 ((k : Int) + 1)) _ (Or.inr rfl) rfl (lb_ I0.size) (wn rfl) (g_67.at_ 203) (fun x_68 g_68 => ?_)
  clear g_67
  refine wpList_nil ?_
  exact hQ x_68 (I0.keep g_68 rfl rfl rfl rfl) (show x_68.eval (.tmp 19) = .int .i64 (i : Int) from ((g_68.at_ 19).trans h19)) (show x_68.eval (.tmp 20) = .int .i64 ((k : Int) + 1) from (g_68.at_ 20))
set_option maxRecDepth 100000 in
set_option maxHeartbeats 1000000 in
theorem eBM {v0 v9 : Value} {lb lo n lc gm mc gy yn yc i k a b xn xc : Nat} {xa : Option Addr} {Q : Exit → Act → World → Prop} (a0 : Act) (wr : World) (I0 : IZ v0 (.slice (some ⟨lb, lo, none⟩) n lc) v9 (.slice (some ⟨gm, 0, none⟩) n mc) a0) (h19 : a0.eval (.tmp 19) = .int .i64 (i : Int)) (h20 : a0.eval (.tmp 20) = .int .i64 (k : Int))
    (hi : i < n) (hn : n ≤ 4000000) (ha : a = 200000 + i) (hb : b = 400000 + i) (hkx : xn ≤ k) (hky : k < yn) (hyb : yn ≤ 1099511627776) (c1 : wr.cell? ⟨lb, lo + i, none⟩ = some (.slice xa xn xc)) (c2 : wr.cell? ⟨gm, i, none⟩ = some (.slice (some ⟨gy, 0, none⟩) yn yc)) (c3 : wr.cell? ⟨gy, k * 2, none⟩ = some (.int .u32 (b : Int)))
    (hQ : ∀ a', IZ v0 (.slice (some ⟨lb, lo, none⟩) n lc) v9 (.slice (some ⟨gm, 0, none⟩) n mc) a' → a'.eval (.tmp 19) = .int .i64 (i : Int) → a'.eval (.tmp 20) = .int .i64 ((k : Int) + 1) → Q .normal a' wr) : cEB2.wp Try.prog Q a0 wr := by
  have hii : (i : Int) < (n : Int) := by omega
  have hki : (k : Int) < (yn : Int) := by omega
  have w1 : RowKit.wrap64 (200000 + (i : Int)) = (a : Int) := by unfold RowKit.wrap64; omega
  have w2 : IntKind.u32.wrap (a : Int) = (a : Int) := by rw [IntKind.wrap_u32]; omega
  have w3 : RowKit.wrap64 (400000 + (i : Int)) = (b : Int) := by unfold RowKit.wrap64; omega
  have w4 : IntKind.u32.wrap (b : Int) = (b : Int) := by rw [IntKind.wrap_u32]; omega
  have w5 : IntKind.i64.wrap (200000 + (i : Int)) = (a : Int) := by rw [IntKind.wrap_i64]; omega
  have w6 : IntKind.i64.wrap (400000 + (i : Int)) = (b : Int) := by rw [IntKind.wrap_i64]; omega
  have w7 : IntKind.i64.wrap ((k : Int) + 1) = (k : Int) + 1 := by rw [IntKind.wrap_i64]; omega
  have hkxi : (xn : Int) ≤ (k : Int) := by omega
  have hkxd : decide ((k : Int) < (xn : Int)) = false := decide_eq_false (by omega)
  clear hi hky hyb ha hb
  have g_0 := Fe.refl a0
  unfold cEB2
  refine wp_seq (wp_seq ?_)
  refine wp_region_list ?_
  unfold rAP47
  refine g_0.move 195 (.int .i64 (k : Int)) _ (Or.inl rfl) rfl (lb_ I0.size) (wn rfl) ((g_0.at_ 20).trans h20) (fun x_1 g_1 => ?_)
  clear g_0
  refine g_1.move 196 (.slice (some ⟨gm, 0, none⟩) n mc) _ (Or.inl rfl) rfl (lb_ I0.size) (wn rfl) ((g_1.at_ 13).trans I0.s13) (fun x_2 g_2 => ?_)
  clear g_1
  refine g_2.move 197 (.int .i64 (i : Int)) _ (Or.inl rfl) rfl (lb_ I0.size) (wn rfl) ((g_2.at_ 19).trans h19) (fun x_3 g_3 => ?_)
  clear g_2
  have r_4 : (execOp x_3.eval oZD44).run Try.prog (wr) = .ok (.value (.pointer (some ⟨gm, i, none⟩))) (wr) := by
    unfold oZD44
    have e196 : x_3.eval (.tmp 196) = .slice (some ⟨gm, 0, none⟩) n mc := g_3.at_ 196
    have e197 : x_3.eval (.tmp 197) = .int .i64 (i : Int) := g_3.at_ 197
    clear g_3 hQ h19 h20
    generalize x_3.eval = ρ at *
    go_simp
  refine g_3.step 198 _ rfl (lb_ I0.size) (wn rfl) r_4 (fun x_4 g_4 => ?_)
  clear r_4 g_3
  have r_5 : (execOp x_4.eval oZD45).run Try.prog (wr) = .ok (.value (.slice (some ⟨gy, 0, none⟩) yn yc)) (wr) := by
    unfold oZD45
    have e198 : x_4.eval (.tmp 198) = .pointer (some ⟨gm, i, none⟩) := g_4.at_ 198
    clear g_4 hQ h19 h20
    generalize x_4.eval = ρ at *
    go_simp
  refine g_4.step 199 _ rfl (lb_ I0.size) (wn rfl) r_5 (fun x_5 g_5 => ?_)
  clear r_5 g_4
  have r_6 : (execOp x_5.eval oZD46).run Try.prog (wr) = .ok (.value (.int .i64 (yn : Int))) (wr) := by
    unfold oZD46
    have e199 : x_5.eval (.tmp 199) = .slice (some ⟨gy, 0, none⟩) yn yc := g_5.at_ 199
    clear g_5 hQ h19 h20
    generalize x_5.eval = ρ at *
    go_simp
  refine g_5.step 200 _ rfl (lb_ I0.size) (wn rfl) r_6 (fun x_6 g_6 => ?_)
  clear r_6 g_5
  have r_7 : (execOp x_6.eval oZD47).run Try.prog (wr) = .ok (.value (.bool true)) (wr) := by
    unfold oZD47
    have e195 : x_6.eval (.tmp 195) = .int .i64 (k : Int) := g_6.at_ 195
    have e200 : x_6.eval (.tmp 200) = .int .i64 (yn : Int) := g_6.at_ 200
    clear g_6 hQ h19 h20
    generalize x_6.eval = ρ at *
    go_simp
  refine g_6.step 201 _ rfl (lb_ I0.size) (wn rfl) r_7 (fun x_7 g_7 => ?_)
  clear r_7 g_6
  refine wpList_nil ?_
  change Code.wp _ _ _ _ _
  refine wp_cond_true (show x_7.eval (.tmp 201) = .bool true from (g_7.at_ 201)) (wp_skip ?_)
  change Code.wp _ _ _ _ _
  refine wp_seq (wp_block (wp_seq ?_))
  refine wp_region_list ?_
  unfold rAP49
  refine g_7.move 204 (.int .i64 (k : Int)) _ (Or.inl rfl) rfl (lb_ I0.size) (wn rfl) ((g_7.at_ 20).trans h20) (fun x_8 g_8 => ?_)
  clear g_7
  refine g_8.move 205 (.slice (some ⟨lb, lo, none⟩) n lc) _ (Or.inl rfl) rfl (lb_ I0.size) (wn rfl) ((g_8.at_ 1).trans I0.s1) (fun x_9 g_9 => ?_)
  clear g_8
  refine g_9.move 206 (.int .i64 (i : Int)) _ (Or.inl rfl) rfl (lb_ I0.size) (wn rfl) ((g_9.at_ 19).trans h19) (fun x_10 g_10 => ?_)
  clear g_9
  have r_11 : (execOp x_10.eval oZD49).run Try.prog (wr) = .ok (.value (.pointer (some ⟨lb, lo + i, none⟩))) (wr) := by
    unfold oZD49
    have e205 : x_10.eval (.tmp 205) = .slice (some ⟨lb, lo, none⟩) n lc := g_10.at_ 205
    have e206 : x_10.eval (.tmp 206) = .int .i64 (i : Int) := g_10.at_ 206
    clear g_10 hQ h19 h20
    generalize x_10.eval = ρ at *
    go_simp
  refine g_10.step 207 _ rfl (lb_ I0.size) (wn rfl) r_11 (fun x_11 g_11 => ?_)
  clear r_11 g_10
  have r_12 : (execOp x_11.eval oZD50).run Try.prog (wr) = .ok (.value (.slice xa xn xc)) (wr) := by
    unfold oZD50
    have e207 : x_11.eval (.tmp 207) = .pointer (some ⟨lb, lo + i, none⟩) := g_11.at_ 207
    clear g_11 hQ h19 h20
    generalize x_11.eval = ρ at *
    go_simp
  refine g_11.step 208 _ rfl (lb_ I0.size) (wn rfl) r_12 (fun x_12 g_12 => ?_)
  clear r_12 g_11
  have r_13 : (execOp x_12.eval oZD51).run Try.prog (wr) = .ok (.value (.int .i64 (xn : Int))) (wr) := by
    unfold oZD51
    have e208 : x_12.eval (.tmp 208) = .slice xa xn xc := g_12.at_ 208
    clear g_12 hQ h19 h20
    generalize x_12.eval = ρ at *
    go_simp
  refine g_12.step 209 _ rfl (lb_ I0.size) (wn rfl) r_13 (fun x_13 g_13 => ?_)
  clear r_13 g_12
  have r_14 : (execOp x_13.eval oZD52).run Try.prog (wr) = .ok (.value (.bool false)) (wr) := by
    unfold oZD52
    have e204 : x_13.eval (.tmp 204) = .int .i64 (k : Int) := g_13.at_ 204
    have e209 : x_13.eval (.tmp 209) = .int .i64 (xn : Int) := g_13.at_ 209
    clear g_13 hQ h19 h20
    generalize x_13.eval = ρ at *
    go_simp
  refine g_13.step 210 _ rfl (lb_ I0.size) (wn rfl) r_14 (fun x_14 g_14 => ?_)
  clear r_14 g_13
  refine g_14.move 211 (.bool false) _ (Or.inl rfl) rfl (lb_ I0.size) (wn rfl) (g_14.at_ 210) (fun x_15 g_15 => ?_)
  clear g_14
  refine g_15.skip 212 rfl (lb_ I0.size) ((wanted_at (t := 211) (c := false) (b := true) rfl rfl rfl (lb_ (g_15.size.trans I0.size)) (g_15.at_ 211)).trans (by rfl)) (fun x_16 g_16 => ?_)
  clear g_15
  refine g_16.skip 213 rfl (lb_ I0.size) ((wanted_at (t := 211) (c := false) (b := true) rfl rfl rfl (lb_ (g_16.size.trans I0.size)) (g_16.at_ 211)).trans (by rfl)) (fun x_17 g_17 => ?_)
  clear g_16
  refine g_17.skip 214 rfl (lb_ I0.size) ((wanted_at (t := 211) (c := false) (b := true) rfl rfl rfl (lb_ (g_17.size.trans I0.size)) (g_17.at_ 211)).trans (by rfl)) (fun x_18 g_18 => ?_)
  clear g_17
  refine g_18.skip 215 rfl (lb_ I0.size) ((wanted_at (t := 211) (c := false) (b := true) rfl rfl rfl (lb_ (g_18.size.trans I0.size)) (g_18.at_ 211)).trans (by rfl)) (fun x_19 g_19 => ?_)
  clear g_18
  refine g_19.skip 216 rfl (lb_ I0.size) ((wanted_at (t := 211) (c := false) (b := true) rfl rfl rfl (lb_ (g_19.size.trans I0.size)) (g_19.at_ 211)).trans (by rfl)) (fun x_20 g_20 => ?_)
  clear g_19
  refine g_20.skip 217 rfl (lb_ I0.size) ((wanted_at (t := 211) (c := false) (b := true) rfl rfl rfl (lb_ (g_20.size.trans I0.size)) (g_20.at_ 211)).trans (by rfl)) (fun x_21 g_21 => ?_)
  clear g_20
  refine g_21.skip 218 rfl (lb_ I0.size) ((wanted_at (t := 211) (c := false) (b := true) rfl rfl rfl (lb_ (g_21.size.trans I0.size)) (g_21.at_ 211)).trans (by rfl)) (fun x_22 g_22 => ?_)
  clear g_21
  refine g_22.skip 219 rfl (lb_ I0.size) ((wanted_at (t := 211) (c := false) (b := true) rfl rfl rfl (lb_ (g_22.size.trans I0.size)) (g_22.at_ 211)).trans (by rfl)) (fun x_23 g_23 => ?_)
  clear g_22
  refine g_23.skip 220 rfl (lb_ I0.size) ((wanted_at (t := 211) (c := false) (b := true) rfl rfl rfl (lb_ (g_23.size.trans I0.size)) (g_23.at_ 211)).trans (by rfl)) (fun x_24 g_24 => ?_)
  clear g_23
  refine g_24.skip 221 rfl (lb_ I0.size) ((wanted_at (t := 211) (c := false) (b := true) rfl rfl rfl (lb_ (g_24.size.trans I0.size)) (g_24.at_ 211)).trans (by rfl)) (fun x_25 g_25 => ?_)
  clear g_24
  refine g_25.skip 222 rfl (lb_ I0.size) ((wanted_at (t := 211) (c := false) (b := true) rfl rfl rfl (lb_ (g_25.size.trans I0.size)) (g_25.at_ 211)).trans (by rfl)) (fun x_26 g_26 => ?_)
  clear g_25
  refine g_26.skip 223 rfl (lb_ I0.size) ((wanted_at (t := 211) (c := false) (b := true) rfl rfl rfl (lb_ (g_26.size.trans I0.size)) (g_26.at_ 211)).trans (by rfl)) (fun x_27 g_27 => ?_)
  clear g_26
  refine g_27.skip 224 rfl (lb_ I0.size) ((wanted_at (t := 211) (c := false) (b := true) rfl rfl rfl (lb_ (g_27.size.trans I0.size)) (g_27.at_ 211)).trans (by rfl)) (fun x_28 g_28 => ?_)
  clear g_27
  refine g_28.skip 225 rfl (lb_ I0.size) (wanted_undef (t := 224) rfl rfl rfl (lb_ (g_28.size.trans I0.size)) (g_28.at_ 224)) (fun x_29 g_29 => ?_)
  clear g_28
  refine g_29.skip 226 rfl (lb_ I0.size) (wanted_undef (t := 224) rfl rfl rfl (lb_ (g_29.size.trans I0.size)) (g_29.at_ 224)) (fun x_30 g_30 => ?_)
  clear g_29
  refine g_30.skip 227 rfl (lb_ I0.size) (wanted_undef (t := 224) rfl rfl rfl (lb_ (g_30.size.trans I0.size)) (g_30.at_ 224)) (fun x_31 g_31 => ?_)
  clear g_30
  refine g_31.skip 228 rfl (lb_ I0.size) (wanted_undef (t := 224) rfl rfl rfl (lb_ (g_31.size.trans I0.size)) (g_31.at_ 224)) (fun x_32 g_32 => ?_)
  clear g_31
  refine g_32.skip 229 rfl (lb_ I0.size) (wanted_undef (t := 224) rfl rfl rfl (lb_ (g_32.size.trans I0.size)) (g_32.at_ 224)) (fun x_33 g_33 => ?_)
  clear g_32
  refine g_33.skip 230 rfl (lb_ I0.size) (wanted_undef (t := 224) rfl rfl rfl (lb_ (g_33.size.trans I0.size)) (g_33.at_ 224)) (fun x_34 g_34 => ?_)
  clear g_33
  refine g_34.skip 231 rfl (lb_ I0.size) (wanted_undef (t := 224) rfl rfl rfl (lb_ (g_34.size.trans I0.size)) (g_34.at_ 224)) (fun x_35 g_35 => ?_)
  clear g_34
  refine g_35.skip 232 rfl (lb_ I0.size) (wanted_undef (t := 224) rfl rfl rfl (lb_ (g_35.size.trans I0.size)) (g_35.at_ 224)) (fun x_36 g_36 => ?_)
  clear g_35
  refine g_36.skip 233 rfl (lb_ I0.size) (wanted_undef (t := 224) rfl rfl rfl (lb_ (g_36.size.trans I0.size)) (g_36.at_ 224)) (fun x_37 g_37 => ?_)
  clear g_36
  refine g_37.skip 234 rfl (lb_ I0.size) (wanted_undef (t := 224) rfl rfl rfl (lb_ (g_37.size.trans I0.size)) (g_37.at_ 224)) (fun x_38 g_38 => ?_)
  clear g_37
  refine g_38.skip 235 rfl (lb_ I0.size) (wanted_undef (t := 224) rfl rfl rfl (lb_ (g_38.size.trans I0.size)) (g_38.at_ 224)) (fun x_39 g_39 => ?_)
  clear g_38
  refine g_39.skip 236 rfl (lb_ I0.size) (wanted_undef (t := 224) rfl rfl rfl (lb_ (g_39.size.trans I0.size)) (g_39.at_ 224)) (fun x_40 g_40 => ?_)
  clear g_39
  refine g_40.skip 237 rfl (lb_ I0.size) ((wanted_at (t := 211) (c := false) (b := true) rfl rfl rfl (lb_ (g_40.size.trans I0.size)) (g_40.at_ 211)).trans (by rfl)) (fun x_41 g_41 => ?_)
  clear g_40
  have r_42 : (execOp x_41.eval oZD70).run Try.prog (wr) = .ok (.value (.bool false)) (wr) := by
    unfold oZD70
    have kc : ∀ v, x_41.eval (.const v) = v := fun _ => rfl
    have e211 : x_41.eval (.tmp 211) = .bool false := g_41.at_ 211
    have e237 : x_41.eval (.tmp 237) = undef := g_41.at_ 237
    clear g_41 hQ h19 h20
    generalize x_41.eval = ρ at *
    go_simp
  refine g_41.step 238 _ rfl (lb_ I0.size) (wn rfl) r_42 (fun x_42 g_42 => ?_)
  clear r_42 g_41
  refine g_42.move 239 (.bool false) _ (Or.inl rfl) rfl (lb_ I0.size) (wn rfl) (g_42.at_ 238) (fun x_43 g_43 => ?_)
  clear g_42
  refine g_43.move 240 (.int .i64 (k : Int)) _ (Or.inl rfl) rfl (lb_ I0.size) ((wanted_at (t := 239) (c := false) (b := false) rfl rfl rfl (lb_ (g_43.size.trans I0.size)) (g_43.at_ 239)).trans (by rfl)) ((g_43.at_ 20).trans h20) (fun x_44 g_44 => ?_)
  clear g_43
  refine g_44.move 241 (.slice (some ⟨lb, lo, none⟩) n lc) _ (Or.inl rfl) rfl (lb_ I0.size) ((wanted_at (t := 239) (c := false) (b := false) rfl rfl rfl (lb_ (g_44.size.trans I0.size)) (g_44.at_ 239)).trans (by rfl)) ((g_44.at_ 1).trans I0.s1) (fun x_45 g_45 => ?_)
  clear g_44
  refine g_45.move 242 (.int .i64 (i : Int)) _ (Or.inl rfl) rfl (lb_ I0.size) ((wanted_at (t := 239) (c := false) (b := false) rfl rfl rfl (lb_ (g_45.size.trans I0.size)) (g_45.at_ 239)).trans (by rfl)) ((g_45.at_ 19).trans h19) (fun x_46 g_46 => ?_)
  clear g_45
  have r_47 : (execOp x_46.eval oZD71).run Try.prog (wr) = .ok (.value (.pointer (some ⟨lb, lo + i, none⟩))) (wr) := by
    unfold oZD71
    have e241 : x_46.eval (.tmp 241) = .slice (some ⟨lb, lo, none⟩) n lc := g_46.at_ 241
    have e242 : x_46.eval (.tmp 242) = .int .i64 (i : Int) := g_46.at_ 242
    clear g_46 hQ h19 h20
    generalize x_46.eval = ρ at *
    go_simp
  refine g_46.step 243 _ rfl (lb_ I0.size) ((wanted_at (t := 239) (c := false) (b := false) rfl rfl rfl (lb_ (g_46.size.trans I0.size)) (g_46.at_ 239)).trans (by rfl)) r_47 (fun x_47 g_47 => ?_)
  clear r_47 g_46
  have r_48 : (execOp x_47.eval oZD72).run Try.prog (wr) = .ok (.value (.slice xa xn xc)) (wr) := by
    unfold oZD72
    have e243 : x_47.eval (.tmp 243) = .pointer (some ⟨lb, lo + i, none⟩) := g_47.at_ 243
    clear g_47 hQ h19 h20
    generalize x_47.eval = ρ at *
    go_simp
  refine g_47.step 244 _ rfl (lb_ I0.size) ((wanted_at (t := 239) (c := false) (b := false) rfl rfl rfl (lb_ (g_47.size.trans I0.size)) (g_47.at_ 239)).trans (by rfl)) r_48 (fun x_48 g_48 => ?_)
  clear r_48 g_47
  have r_49 : (execOp x_48.eval oZD73).run Try.prog (wr) = .ok (.value (.int .i64 (xn : Int))) (wr) := by
    unfold oZD73
    have e244 : x_48.eval (.tmp 244) = .slice xa xn xc := g_48.at_ 244
    clear g_48 hQ h19 h20
    generalize x_48.eval = ρ at *
    go_simp
  refine g_48.step 245 _ rfl (lb_ I0.size) ((wanted_at (t := 239) (c := false) (b := false) rfl rfl rfl (lb_ (g_48.size.trans I0.size)) (g_48.at_ 239)).trans (by rfl)) r_49 (fun x_49 g_49 => ?_)
  clear r_49 g_48
  have r_50 : (execOp x_49.eval oZD74).run Try.prog (wr) = .ok (.value (.bool true)) (wr) := by
    unfold oZD74
    have e240 : x_49.eval (.tmp 240) = .int .i64 (k : Int) := g_49.at_ 240
    have e245 : x_49.eval (.tmp 245) = .int .i64 (xn : Int) := g_49.at_ 245
    clear g_49 hQ h19 h20
    generalize x_49.eval = ρ at *
    go_simp
  refine g_49.step 246 _ rfl (lb_ I0.size) ((wanted_at (t := 239) (c := false) (b := false) rfl rfl rfl (lb_ (g_49.size.trans I0.size)) (g_49.at_ 239)).trans (by rfl)) r_50 (fun x_50 g_50 => ?_)
  clear r_50 g_49
  refine g_50.move 247 (.bool true) _ (Or.inl rfl) rfl (lb_ I0.size) ((wanted_at (t := 239) (c := false) (b := false) rfl rfl rfl (lb_ (g_50.size.trans I0.size)) (g_50.at_ 239)).trans (by rfl)) (g_50.at_ 246) (fun x_51 g_51 => ?_)
  clear g_50
  refine g_51.move 248 (.slice (some ⟨gm, 0, none⟩) n mc) _ (Or.inl rfl) rfl (lb_ I0.size) ((wanted_at (t := 247) (c := true) (b := true) rfl rfl rfl (lb_ (g_51.size.trans I0.size)) (g_51.at_ 247)).trans (by rfl)) ((g_51.at_ 13).trans I0.s13) (fun x_52 g_52 => ?_)
  clear g_51
  refine g_52.move 249 (.int .i64 (i : Int)) _ (Or.inl rfl) rfl (lb_ I0.size) ((wanted_at (t := 247) (c := true) (b := true) rfl rfl rfl (lb_ (g_52.size.trans I0.size)) (g_52.at_ 247)).trans (by rfl)) ((g_52.at_ 19).trans h19) (fun x_53 g_53 => ?_)
  clear g_52
  have r_54 : (execOp x_53.eval oZD75).run Try.prog (wr) = .ok (.value (.pointer (some ⟨gm, i, none⟩))) (wr) := by
    unfold oZD75
    have e248 : x_53.eval (.tmp 248) = .slice (some ⟨gm, 0, none⟩) n mc := g_53.at_ 248
    have e249 : x_53.eval (.tmp 249) = .int .i64 (i : Int) := g_53.at_ 249
    clear g_53 hQ h19 h20
    generalize x_53.eval = ρ at *
    go_simp
  refine g_53.step 250 _ rfl (lb_ I0.size) ((wanted_at (t := 247) (c := true) (b := true) rfl rfl rfl (lb_ (g_53.size.trans I0.size)) (g_53.at_ 247)).trans (by rfl)) r_54 (fun x_54 g_54 => ?_)
  clear r_54 g_53
  have r_55 : (execOp x_54.eval oZD76).run Try.prog (wr) = .ok (.value (.slice (some ⟨gy, 0, none⟩) yn yc)) (wr) := by
    unfold oZD76
    have e250 : x_54.eval (.tmp 250) = .pointer (some ⟨gm, i, none⟩) := g_54.at_ 250
    clear g_54 hQ h19 h20
    generalize x_54.eval = ρ at *
    go_simp
  refine g_54.step 251 _ rfl (lb_ I0.size) ((wanted_at (t := 247) (c := true) (b := true) rfl rfl rfl (lb_ (g_54.size.trans I0.size)) (g_54.at_ 247)).trans (by rfl)) r_55 (fun x_55 g_55 => ?_)
  clear r_55 g_54
  refine g_55.move 252 (.int .i64 (k : Int)) _ (Or.inl rfl) rfl (lb_ I0.size) ((wanted_at (t := 247) (c := true) (b := true) rfl rfl rfl (lb_ (g_55.size.trans I0.size)) (g_55.at_ 247)).trans (by rfl)) ((g_55.at_ 20).trans h20) (fun x_56 g_56 => ?_)
  clear g_55
  have r_57 : (execOp x_56.eval oZD77).run Try.prog (wr) = .ok (.value (.pointer (some ⟨gy, k * 2, none⟩))) (wr) := by
    unfold oZD77
    have e251 : x_56.eval (.tmp 251) = .slice (some ⟨gy, 0, none⟩) yn yc := g_56.at_ 251
    have e252 : x_56.eval (.tmp 252) = .int .i64 (k : Int) := g_56.at_ 252
    clear g_56 hQ h19 h20
    generalize x_56.eval = ρ at *
    go_simp
  refine g_56.step 253 _ rfl (lb_ I0.size) ((wanted_at (t := 247) (c := true) (b := true) rfl rfl rfl (lb_ (g_56.size.trans I0.size)) (g_56.at_ 247)).trans (by rfl)) r_57 (fun x_57 g_57 => ?_)
  clear r_57 g_56
  have r_58 : (execOp x_57.eval oZD78).run Try.prog (wr) = .ok (.value (.pointer (some ⟨gy, k * 2, none⟩))) (wr) := by
    unfold oZD78
    have e253 : x_57.eval (.tmp 253) = .pointer (some ⟨gy, k * 2, none⟩) := g_57.at_ 253
    clear g_57 hQ h19 h20
    generalize x_57.eval = ρ at *
    go_simp
  refine g_57.step 254 _ rfl (lb_ I0.size) ((wanted_at (t := 247) (c := true) (b := true) rfl rfl rfl (lb_ (g_57.size.trans I0.size)) (g_57.at_ 247)).trans (by rfl)) r_58 (fun x_58 g_58 => ?_)
  clear r_58 g_57
  have r_59 : (execOp x_58.eval oZD79).run Try.prog (wr) = .ok (.value (.int .u32 (b : Int))) (wr) := by
    unfold oZD79
    have e254 : x_58.eval (.tmp 254) = .pointer (some ⟨gy, k * 2, none⟩) := g_58.at_ 254
    clear g_58 hQ h19 h20
    generalize x_58.eval = ρ at *
    go_simp
  refine g_58.step 255 _ rfl (lb_ I0.size) ((wanted_at (t := 247) (c := true) (b := true) rfl rfl rfl (lb_ (g_58.size.trans I0.size)) (g_58.at_ 247)).trans (by rfl)) r_59 (fun x_59 g_59 => ?_)
  clear r_59 g_58
  refine g_59.move 256 (.int .i64 (i : Int)) _ (Or.inl rfl) rfl (lb_ I0.size) ((wanted_at (t := 247) (c := true) (b := true) rfl rfl rfl (lb_ (g_59.size.trans I0.size)) (g_59.at_ 247)).trans (by rfl)) ((g_59.at_ 19).trans h19) (fun x_60 g_60 => ?_)
  clear g_59
  have r_61 : (execOp x_60.eval oZD80).run Try.prog (wr) = .ok (.value (.int .i64 (b : Int))) (wr) := by
    unfold oZD80
    have kc : ∀ v, x_60.eval (.const v) = v := fun _ => rfl
    have e256 : x_60.eval (.tmp 256) = .int .i64 (i : Int) := g_60.at_ 256
    clear g_60 hQ h19 h20
    generalize x_60.eval = ρ at *
    go_simp
  refine g_60.step 257 _ rfl (lb_ I0.size) ((wanted_at (t := 247) (c := true) (b := true) rfl rfl rfl (lb_ (g_60.size.trans I0.size)) (g_60.at_ 247)).trans (by rfl)) r_61 (fun x_61 g_61 => ?_)
  clear r_61 g_60
  have r_62 : (execOp x_61.eval oZD81).run Try.prog (wr) = .ok (.value (.int .u32 (b : Int))) (wr) := by
    unfold oZD81
    have e257 : x_61.eval (.tmp 257) = .int .i64 (b : Int) := g_61.at_ 257
    clear g_61 hQ h19 h20
    generalize x_61.eval = ρ at *
    go_simp
  refine g_61.step 258 _ rfl (lb_ I0.size) ((wanted_at (t := 247) (c := true) (b := true) rfl rfl rfl (lb_ (g_61.size.trans I0.size)) (g_61.at_ 247)).trans (by rfl)) r_62 (fun x_62 g_62 => ?_)
  clear r_62 g_61
  have r_63 : (execOp x_62.eval oZD82).run Try.prog (wr) = .ok (.value (.bool false)) (wr) := by
    unfold oZD82
    have e255 : x_62.eval (.tmp 255) = .int .u32 (b : Int) := g_62.at_ 255
    have e258 : x_62.eval (.tmp 258) = .int .u32 (b : Int) := g_62.at_ 258
    clear g_62 hQ h19 h20
    generalize x_62.eval = ρ at *
    go_simp
  refine g_62.step 259 _ rfl (lb_ I0.size) ((wanted_at (t := 247) (c := true) (b := true) rfl rfl rfl (lb_ (g_62.size.trans I0.size)) (g_62.at_ 247)).trans (by rfl)) r_63 (fun x_63 g_63 => ?_)
  clear r_63 g_62
  have r_64 : (execOp x_63.eval oZD83).run Try.prog (wr) = .ok (.value (.bool false)) (wr) := by
    unfold oZD83
    have kc : ∀ v, x_63.eval (.const v) = v := fun _ => rfl
    have e247 : x_63.eval (.tmp 247) = .bool true := g_63.at_ 247
    have e259 : x_63.eval (.tmp 259) = .bool false := g_63.at_ 259
    clear g_63 hQ h19 h20
    generalize x_63.eval = ρ at *
    go_simp
  refine g_63.step 260 _ rfl (lb_ I0.size) ((wanted_at (t := 239) (c := false) (b := false) rfl rfl rfl (lb_ (g_63.size.trans I0.size)) (g_63.at_ 239)).trans (by rfl)) r_64 (fun x_64 g_64 => ?_)
  clear r_64 g_63
  have r_65 : (execOp x_64.eval oZD84).run Try.prog (wr) = .ok (.value (.bool false)) (wr) := by
    unfold oZD84
    have kc : ∀ v, x_64.eval (.const v) = v := fun _ => rfl
    have e239 : x_64.eval (.tmp 239) = .bool false := g_64.at_ 239
    have e260 : x_64.eval (.tmp 260) = .bool false := g_64.at_ 260
    clear g_64 hQ h19 h20
    generalize x_64.eval = ρ at *
    go_simp
  refine g_64.step 261 _ rfl (lb_ I0.size) (wn rfl) r_65 (fun x_65 g_65 => ?_)
  clear r_65 g_64
  refine wpList_nil ?_
  change Code.wp _ _ _ _ _
  refine wp_cond_false (show x_65.eval (.tmp 261) = .bool false from (g_65.at_ 261)) (wp_skip ?_)
  change Code.wp _ _ _ _ _
  refine wp_region_list ?_
  unfold rAP48
  refine g_65.move 202 (.int .i64 (k : Int)) _ (Or.inl rfl) rfl (lb_ I0.size) (wn rfl) ((g_65.at_ 20).trans h20) (fun x_66 g_66 => ?_)
  clear g_65
  have r_67 : (execOp x_66.eval oZD48).run Try.prog (wr) = .ok (.value (.int .i64 ((k : Int) + 1))) (wr) := by
    unfold oZD48
    have kc : ∀ v, x_66.eval (.const v) = v := fun _ => rfl
    have e202 : x_66.eval (.tmp 202) = .int .i64 (k : Int) := g_66.at_ 202
    clear g_66 hQ h19 h20
    generalize x_66.eval = ρ at *
    go_simp
  refine g_66.step 203 _ rfl (lb_ I0.size) (wn rfl) r_67 (fun x_67 g_67 => ?_)
  clear r_67 g_66
  refine g_67.move 20 (.int .i64 ((k : Int) + 1)) _ (Or.inr rfl) rfl (lb_ I0.size) (wn rfl) (g_67.at_ 203) (fun x_68 g_68 => ?_)
  clear g_67
  refine wpList_nil ?_
  exact hQ x_68 (I0.keep g_68 rfl rfl rfl rfl) (show x_68.eval (.tmp 19) = .int .i64 (i : Int) from ((g_68.at_ 19).trans h19)) (show x_68.eval (.tmp 20) = .int .i64 ((k : Int) + 1) from (g_68.at_ 20))
set_option maxRecDepth 100000 in
theorem eBE {v0 v9 : Value} {lb lo n lc gm mc gy yn yc i k : Nat} {Q : Exit → Act → World → Prop} (a0 : Act) (wr : World) (I0 : IZ v0 (.slice (some ⟨lb, lo, none⟩) n lc) v9 (.slice (some ⟨gm, 0, none⟩) n mc) a0) (h19 : a0.eval (.tmp 19) = .int .i64 (i : Int)) (h20 : a0.eval (.tmp 20) = .int .i64 (k : Int))
    (hi : i < n) (hky : yn ≤ k) (c2 : wr.cell? ⟨gm, i, none⟩ = some (.slice (some ⟨gy, 0, none⟩) yn yc))
    (hQ : ∀ a', IZ v0 (.slice (some ⟨lb, lo, none⟩) n lc) v9 (.slice (some ⟨gm, 0, none⟩) n mc) a' → a'.eval (.tmp 19) = .int .i64 (i : Int) → Q (.exit 22) a' wr) : cEB2.wp Try.prog Q a0 wr := by
  have hii : (i : Int) < (n : Int) := by omega
  have hki : decide ((k : Int) < (yn : Int)) = false := decide_eq_false (by omega)
  have hki2 : ¬ (k : Int) < (yn : Int) := by omega
  clear hi hky
  have g_0 := Fe.refl a0
  unfold cEB2
  refine wp_seq (wp_seq ?_)
  refine wp_region_list ?_
  unfold rAP47
  refine g_0.move 195 (.int .i64 (k : Int)) _ (Or.inl rfl) rfl (lb_ I0.size) (wn rfl) ((g_0.at_ 20).trans h20) (fun x_1 g_1 => ?_)
  clear g_0
  refine g_1.move 196 (.slice (some ⟨gm, 0, none⟩) n mc) _ (Or.inl rfl) rfl (lb_ I0.size) (wn rfl) ((g_1.at_ 13).trans I0.s13) (fun x_2 g_2 => ?_)
  clear g_1
  refine g_2.move 197 (.int .i64 (i : Int)) _ (Or.inl rfl) rfl (lb_ I0.size) (wn rfl) ((g_2.at_ 19).trans h19) (fun x_3 g_3 => ?_)
  clear g_2
  have r_4 : (execOp x_3.eval oZD44).run Try.prog (wr) = .ok (.value (.pointer (some ⟨gm, i, none⟩))) (wr) := by
    unfold oZD44
    have e196 : x_3.eval (.tmp 196) = .slice (some ⟨gm, 0, none⟩) n mc := g_3.at_ 196
    have e197 : x_3.eval (.tmp 197) = .int .i64 (i : Int) := g_3.at_ 197
    clear g_3 hQ h19 h20
    generalize x_3.eval = ρ at *
    go_simp
  refine g_3.step 198 _ rfl (lb_ I0.size) (wn rfl) r_4 (fun x_4 g_4 => ?_)
  clear r_4 g_3
  have r_5 : (execOp x_4.eval oZD45).run Try.prog (wr) = .ok (.value (.slice (some ⟨gy, 0, none⟩) yn yc)) (wr) := by
    unfold oZD45
    have e198 : x_4.eval (.tmp 198) = .pointer (some ⟨gm, i, none⟩) := g_4.at_ 198
    clear g_4 hQ h19 h20
    generalize x_4.eval = ρ at *
    go_simp
  refine g_4.step 199 _ rfl (lb_ I0.size) (wn rfl) r_5 (fun x_5 g_5 => ?_)
  clear r_5 g_4
  have r_6 : (execOp x_5.eval oZD46).run Try.prog (wr) = .ok (.value (.int .i64 (yn : Int))) (wr) := by
    unfold oZD46
    have e199 : x_5.eval (.tmp 199) = .slice (some ⟨gy, 0, none⟩) yn yc := g_5.at_ 199
    clear g_5 hQ h19 h20
    generalize x_5.eval = ρ at *
    go_simp
  refine g_5.step 200 _ rfl (lb_ I0.size) (wn rfl) r_6 (fun x_6 g_6 => ?_)
  clear r_6 g_5
  have r_7 : (execOp x_6.eval oZD47).run Try.prog (wr) = .ok (.value (.bool false)) (wr) := by
    unfold oZD47
    have e195 : x_6.eval (.tmp 195) = .int .i64 (k : Int) := g_6.at_ 195
    have e200 : x_6.eval (.tmp 200) = .int .i64 (yn : Int) := g_6.at_ 200
    clear g_6 hQ h19 h20
    generalize x_6.eval = ρ at *
    go_simp
  refine g_6.step 201 _ rfl (lb_ I0.size) (wn rfl) r_7 (fun x_7 g_7 => ?_)
  clear r_7 g_6
  refine wpList_nil ?_
  change Code.wp _ _ _ _ _
  refine wp_cond_false (show x_7.eval (.tmp 201) = .bool false from (g_7.at_ 201)) (wp_exit ?_)
  exact hQ x_7 (I0.keep g_7 rfl rfl rfl rfl) (show x_7.eval (.tmp 19) = .int .i64 (i : Int) from ((g_7.at_ 19).trans h19))
theorem eBL2 {v0 v9 : Value} {lb lo n lc gm mc i a b : Nat} {x y : Sl} {Q : Exit → Act → World → Prop} (a0 : Act) (w : World) (I0 : IZ v0 (.slice (some ⟨lb, lo, none⟩) n lc) v9 (.slice (some ⟨gm, 0, none⟩) n mc) a0) (h5 : a0.eval (.tmp 19) = .int .i64 (i : Int)) (h6 : a0.eval (.tmp 20) = .int .i64 ((0 : Nat) : Int))
    (hi : i < n) (hn : n ≤ 4000000) (ha : a = 200000 + i) (hb : b = 400000 + i) (hF : Fnd fB w lb lo gm i x y a b)
    (hQ : ∀ a', IZ v0 (.slice (some ⟨lb, lo, none⟩) n lc) v9 (.slice (some ⟨gm, 0, none⟩) n mc) a' → a'.eval (.tmp 19) = .int .i64 (i : Int) → Q (.exit 22) a' w) : (Code.loop cEB2).wp Try.prog Q a0 w := by
  obtain ⟨gy, hgy, _⟩ := hF.c4.at2 (k := x.n) (i := 0) (Nat.le_refl _) (by omega) rfl
  obtain ⟨xa, xn, xc⟩ := x
  obtain ⟨ya, yn, yc⟩ := y
  obtain rfl : ya = some ⟨gy, 0, none⟩ := hgy
  obtain rfl : yn = xn + 70 := hF.yn
  have hle : xn ≤ 1099511627000 := hF.le
  refine wp_loop (fun a' w' => w' = w ∧ IZ v0 (.slice (some ⟨lb, lo, none⟩) n lc) v9 (.slice (some ⟨gm, 0, none⟩) n mc) a' ∧ a'.eval (.tmp 19) = .int .i64 (i : Int) ∧ ∃ k : Nat, k ≤ xn + 70 ∧ a'.eval (.tmp 20) = .int .i64 (k : Int)) (fun a' _ => xn + 70 - kOf a' 20) ⟨rfl, I0, h5, 0, Nat.zero_le _, h6⟩ ?_
  rintro a1 w' ⟨rfl, I1, g5, k, hk, g6⟩
  by_cases hgo : k < xn + 70
  · have nx : ∀ a', IZ v0 (.slice (some ⟨lb, lo, none⟩) n lc) v9 (.slice (some ⟨gm, 0, none⟩) n mc) a' → a'.eval (.tmp 19) = .int .i64 (i : Int) → a'.eval (.tmp 20) = .int .i64 ((k : Int) + 1) → Exit.then (fun a' w'' => (w'' = w' ∧ IZ v0 (.slice (some ⟨lb, lo, none⟩) n lc) v9 (.slice (some ⟨gm, 0, none⟩) n mc) a' ∧ a'.eval (.tmp 19) = .int .i64 (i : Int) ∧ ∃ k : Nat, k ≤ xn + 70 ∧ a'.eval (.tmp 20) = .int .i64 (k : Int)) ∧ xn + 70 - kOf a' 20 < xn + 70 - kOf a1 20) Q .normal a' w' := fun a' h1 h2 h3 => by
      have h4 : a'.eval (.tmp 20) = .int .i64 ((k + 1 : Nat) : Int) := h3
      refine ⟨⟨rfl, h1, h2, k + 1, hgo, h4⟩, ?_⟩
      rw [kOf_eq h4, kOf_eq g6]
      omega
    by_cases hx : k < xn
    · obtain ⟨gx, e, d1⟩ := Hold.at_ (F := fB) (t := []) (i := 0) (by rw [List.append_nil]; exact hF.c3) hx rfl
      obtain rfl : xa = some ⟨gx, 0, none⟩ := e
      obtain ⟨gz, e2, d2⟩ := Hold.at_ (F := fB) (i := 0) hF.c4 hx rfl
      obtain rfl : gy = gz := by simpa using e2
      rw [Nat.add_zero] at d1 d2
      exact eBR a1 w' I1 g5 g6 hi hn ha hb hx hgo (by omega) hF.c1 hF.c2 d2 d1 nx
    · obtain ⟨gz, e2, d2⟩ := Hold.at2 (F := fB) (k := k) (i := 0) hF.c4 (Nat.le_of_not_lt hx) hgo rfl
      obtain rfl : gy = gz := by simpa using e2
      rw [Nat.add_zero] at d2
      exact eBM a1 w' I1 g5 g6 hi hn ha hb (Nat.le_of_not_lt hx) hgo (by omega) hF.c1 hF.c2 d2 nx
  · exact eBE a1 w' I1 g5 g6 hi (Nat.le_of_not_lt hgo) hF.c2 hQ
set_option maxRecDepth 100000 in
theorem eBO {v0 v9 : Value} {lb lo n lc gm mc i : Nat} {x y : Sl} {Q : Exit → Act → World → Prop} (a0 : Act) (wr : World) (I0 : IZ v0 (.slice (some ⟨lb, lo, none⟩) n lc) v9 (.slice (some ⟨gm, 0, none⟩) n mc) a0) (h19 : a0.eval (.tmp 19) = .int .i64 (i : Int))
    (hi : i < n) (hn : n ≤ 4000000) (hF : Fnd fB wr lb lo gm i x y (200000 + i) (400000 + i)) (hQ : ∀ a', IZ v0 (.slice (some ⟨lb, lo, none⟩) n lc) v9 (.slice (some ⟨gm, 0, none⟩) n mc) a' → a'.eval (.tmp 19) = .int .i64 ((i : Int) + 1) → Q .normal a' wr) : cEB1.wp Try.prog Q a0 wr := by
  have hii : (i : Int) < (n : Int) := by omega
  have w7 : IntKind.i64.wrap ((i : Int) + 1) = (i : Int) + 1 := by rw [IntKind.wrap_i64]; omega
  have g_0 := Fe.refl a0
  unfold cEB1
  refine wp_seq (wp_seq ?_)
  refine wp_region_list ?_
  unfold rAP44
  refine g_0.move 189 (.int .i64 (i : Int)) _ (Or.inl rfl) rfl (lb_ I0.size) (wn rfl) ((g_0.at_ 19).trans h19) (fun x_1 g_1 => ?_)
  clear g_0
  refine g_1.move 190 (.slice (some ⟨lb, lo, none⟩) n lc) _ (Or.inl rfl) rfl (lb_ I0.size) (wn rfl) ((g_1.at_ 1).trans I0.s1) (fun x_2 g_2 => ?_)
  clear g_1
  have r_3 : (execOp x_2.eval oZD41).run Try.prog (wr) = .ok (.value (.int .i64 (n : Int))) (wr) := by
    unfold oZD41
    have e190 : x_2.eval (.tmp 190) = .slice (some ⟨lb, lo, none⟩) n lc := g_2.at_ 190
    clear g_2 hQ h19 hF
    generalize x_2.eval = ρ at *
    go_simp
  refine g_2.step 191 _ rfl (lb_ I0.size) (wn rfl) r_3 (fun x_3 g_3 => ?_)
  clear r_3 g_2
  have r_4 : (execOp x_3.eval oZD42).run Try.prog (wr) = .ok (.value (.bool true)) (wr) := by
    unfold oZD42
    have e189 : x_3.eval (.tmp 189) = .int .i64 (i : Int) := g_3.at_ 189
    have e191 : x_3.eval (.tmp 191) = .int .i64 (n : Int) := g_3.at_ 191
    clear g_3 hQ h19 hF
    generalize x_3.eval = ρ at *
    go_simp
  refine g_3.step 192 _ rfl (lb_ I0.size) (wn rfl) r_4 (fun x_4 g_4 => ?_)
  clear r_4 g_3
  refine wpList_nil ?_
  change Code.wp _ _ _ _ _
  refine wp_cond_true (show x_4.eval (.tmp 192) = .bool true from (g_4.at_ 192)) (wp_skip ?_)
  change Code.wp _ _ _ _ _
  refine wp_seq (wp_block (wp_seq ?_))
  refine wp_region_list ?_
  unfold rAP46
  refine g_4.move 20 (.int .i64 ((0 : Nat) : Int)) _ (Or.inr rfl) rfl (lb_ I0.size) (wn rfl) rfl (fun x_5 g_5 => ?_)
  clear g_4
  refine wpList_nil ?_
  change Code.wp _ _ _ _ _
  refine wp_block ?_
  refine eBL2 (a := 200000 + i) (b := 400000 + i) x_5 wr (I0.keep g_5 rfl rfl rfl rfl) (show x_5.eval (.tmp 19) = .int .i64 (i : Int) from ((g_5.at_ 19).trans h19)) (show x_5.eval (.tmp 20) = .int .i64 ((0 : Nat) : Int) from (g_5.at_ 20)) hi hn rfl rfl hF (fun d i2 d5 => ?_)
  change Code.wp _ _ _ _ _
  have fd_0 := Fe.refl d
  refine wp_region_list ?_
  unfold rAP45
  refine fd_0.move 193 (.int .i64 (i : Int)) _ (Or.inl rfl) rfl (lb_ i2.size) (wn rfl) ((fd_0.at_ 19).trans d5) (fun d_1 fd_1 => ?_)
  clear fd_0
  have r_d_2 : (execOp d_1.eval oZD43).run Try.prog (wr) = .ok (.value (.int .i64 ((i : Int) + 1))) (wr) := by
    unfold oZD43
    have kc : ∀ v, d_1.eval (.const v) = v := fun _ => rfl
    have e193 : d_1.eval (.tmp 193) = .int .i64 (i : Int) := fd_1.at_ 193
    clear fd_1 hQ d5 hF h19
    generalize d_1.eval = ρ at *
    go_simp
  refine fd_1.step 194 _ rfl (lb_ i2.size) (wn rfl) r_d_2 (fun d_2 fd_2 => ?_)
  clear r_d_2 fd_1
  refine fd_2.move 19 (.int .i64 ((i : Int) + 1)) _ (Or.inr rfl) rfl (lb_ i2.size) (wn rfl) (fd_2.at_ 194) (fun d_3 fd_3 => ?_)
  clear fd_2
  refine wpList_nil ?_
  exact hQ d_3 (i2.keep fd_3 rfl rfl rfl rfl) (show d_3.eval (.tmp 19) = .int .i64 ((i : Int) + 1) from (fd_3.at_ 19))
set_option maxRecDepth 100000 in
theorem eBX {v0 v9 : Value} {la ma : Option Addr} {n lc mc : Nat} {Q : Exit → Act → World → Prop} (a0 : Act) (wr : World) (I0 : IZ v0 (.slice la n lc) v9 (.slice ma n mc) a0) (h19 : a0.eval (.tmp 19) = .int .i64 (n : Int))
    (hQ : ∀ a, IZ v0 (.slice la n lc) v9 (.slice ma n mc) a → Q (.exit 20) a wr) : cEB1.wp Try.prog Q a0 wr := by
  have g_0 := Fe.refl a0
  unfold cEB1
  refine wp_seq (wp_seq ?_)
  refine wp_region_list ?_
  unfold rAP44
  refine g_0.move 189 (.int .i64 (n : Int)) _ (Or.inl rfl) rfl (lb_ I0.size) (wn rfl) ((g_0.at_ 19).trans h19) (fun x_1 g_1 => ?_)
  clear g_0
  refine g_1.move 190 (.slice la n lc) _ (Or.inl rfl) rfl (lb_ I0.size) (wn rfl) ((g_1.at_ 1).trans I0.s1) (fun x_2 g_2 => ?_)
  clear g_1
  have r_3 : (execOp x_2.eval oZD41).run Try.prog (wr) = .ok (.value (.int .i64 (n : Int))) (wr) := by
    unfold oZD41
    have e190 : x_2.eval (.tmp 190) = .slice la n lc := g_2.at_ 190
    clear g_2 hQ h19
    generalize x_2.eval = ρ at *
    go_simp
  refine g_2.step 191 _ rfl (lb_ I0.size) (wn rfl) r_3 (fun x_3 g_3 => ?_)
  clear r_3 g_2
  have r_4 : (execOp x_3.eval oZD42).run Try.prog (wr) = .ok (.value (.bool false)) (wr) := by
    unfold oZD42
    have e189 : x_3.eval (.tmp 189) = .int .i64 (n : Int) := g_3.at_ 189
    have e191 : x_3.eval (.tmp 191) = .int .i64 (n : Int) := g_3.at_ 191
    clear g_3 hQ h19
    generalize x_3.eval = ρ at *
    go_simp
  refine g_3.step 192 _ rfl (lb_ I0.size) (wn rfl) r_4 (fun x_4 g_4 => ?_)
  clear r_4 g_3
  refine wpList_nil ?_
  change Code.wp _ _ _ _ _
  refine wp_cond_false (show x_4.eval (.tmp 192) = .bool false from (g_4.at_ 192)) (wp_exit ?_)
  exact hQ x_4 (I0.keep g_4 rfl rfl rfl rfl)
theorem eBL {v0 v9 : Value} {la ma : Option Addr} {lb lo gm n lc mc : Nat} {Q : Exit → Act → World → Prop} (a0 : Act) (w : World) (I0 : IZ v0 (.slice la n lc) v9 (.slice ma n mc) a0) (h5 : a0.eval (.tmp 19) = .int .i64 ((0 : Nat) : Int))
    (hn : n ≤ 4000000) (hla : n ≠ 0 → la = some ⟨lb, lo, none⟩ ∧ ma = some ⟨gm, 0, none⟩) (hF : ∀ i, i < n → ∃ x y, Fnd fB w lb lo gm i x y (200000 + i) (400000 + i))
    (hQ : ∀ a, IZ v0 (.slice la n lc) v9 (.slice ma n mc) a → Q (.exit 20) a w) : (Code.loop cEB1).wp Try.prog Q a0 w := by
  refine wp_loop (fun a w' => w' = w ∧ IZ v0 (.slice la n lc) v9 (.slice ma n mc) a ∧ ∃ i : Nat, i ≤ n ∧ a.eval (.tmp 19) = .int .i64 (i : Int)) (fun a _ => n - kOf a 19) ⟨rfl, I0, 0, Nat.zero_le _, h5⟩ ?_
  rintro a w' ⟨rfl, I1, i, hi, g5⟩
  by_cases hgo : i < n
  · obtain ⟨rfl, rfl⟩ := hla (by omega)
    obtain ⟨x, y, hf⟩ := hF i hgo
    refine eBO a w' I1 g5 hgo hn hf (fun a' i2 k5 => ?_)
    have h4 : a'.eval (.tmp 19) = .int .i64 ((i + 1 : Nat) : Int) := k5
    refine ⟨⟨rfl, i2, i + 1, hgo, h4⟩, ?_⟩
    show n - kOf a' 19 < n - kOf a 19
    rw [kOf_eq h4, kOf_eq g5]
    omega
  · obtain rfl : i = n := by omega
    exact eBX a w' I1 g5 hQ
end Go.Proofs.Ytajbifblbmlffaa
