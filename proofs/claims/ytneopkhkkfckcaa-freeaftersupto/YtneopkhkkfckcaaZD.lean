/- apart: lists and chains are looked at. -/
import Derived.Test.YtneopkhkkfckcaaZC
namespace Go.Proofs.Ytneopkhkkfckcaa
open Go.RowKit Go.Maps

/-- The frame while lists and chains are looked at. -/
structure IZ (v0 v1 v9 v13 : Value) (a : Act) : Prop where
  size : a.tmps.size = 262
  defers : a.defers = []
  s0 : a.eval (.tmp 0) = v0
  s1 : a.eval (.tmp 1) = v1
  s9 : a.eval (.tmp 9) = v9
  s13 : a.eval (.tmp 13) = v13
theorem IZ.keep {v0 v1 v9 v13 : Value} {a0 a : Act} {env : List (Nat × Value)} (h : IZ v0 v1 v9 v13 a0) (f : Fe a0 env a) (h0 : look env 0 (a0.eval (.tmp 0)) = a0.eval (.tmp 0)) (h1 : look env 1 (a0.eval (.tmp 1)) = a0.eval (.tmp 1)) (h9 : look env 9 (a0.eval (.tmp 9)) = a0.eval (.tmp 9)) (h13 : look env 13 (a0.eval (.tmp 13)) = a0.eval (.tmp 13)) : IZ v0 v1 v9 v13 a :=
  ⟨f.size.trans h.size, f.defers.trans h.defers, ((f.at_ 0).trans h0).trans h.s0, ((f.at_ 1).trans h1).trans h.s1, ((f.at_ 9).trans h9).trans h.s9, ((f.at_ 13).trans h13).trans h.s13⟩
def oZD0 : Oper := { dst := some 121, op := Op.call { callee := Callee.builtin Builtin.len, args := #[Operand.tmp 120], argTypes := #[32] }, type := 3, pos := "memory.go:112", after := #[{ on := 1, ground := Ground.data }], guard := none }
def oZD1 : Oper := { dst := some 122, op := Op.binOp BinOp.lss 3 (Operand.tmp 119) (Operand.tmp 121) 3, type := 4, pos := "memory.go:112", after := #[{ on := 0, ground := Ground.data }, { on := 2, ground := Ground.data }], guard := none }
def oZD2 : Oper := { dst := some 124, op := Op.binOp BinOp.add 3 (Operand.tmp 123) (Operand.const (Value.int IntKind.i64 1)) 3, type := 3, pos := "memory.go:112", after := #[{ on := 0, ground := Ground.data }], guard := none }
def oZD3 : Oper := { dst := some 128, op := Op.indexAddr 32 (Operand.tmp 126) (Operand.tmp 127), type := 0, pos := "memory.go:113", after := #[{ on := 1, ground := Ground.data }, { on := 2, ground := Ground.data }], guard := none }
def oZD4 : Oper := { dst := some 129, op := Op.load 23 (Operand.tmp 128), type := 23, pos := "memory.go:113", after := #[{ on := 3, ground := Ground.data }], guard := none }
def oZD5 : Oper := { dst := some 130, op := Op.call { callee := Callee.builtin Builtin.len, args := #[Operand.tmp 129], argTypes := #[23] }, type := 3, pos := "memory.go:113", after := #[{ on := 4, ground := Ground.data }], guard := none }
def oZD6 : Oper := { dst := some 131, op := Op.binOp BinOp.lss 3 (Operand.tmp 125) (Operand.tmp 130) 3, type := 4, pos := "memory.go:113", after := #[{ on := 0, ground := Ground.data }, { on := 5, ground := Ground.data }], guard := none }
def oZD7 : Oper := { dst := some 133, op := Op.binOp BinOp.add 3 (Operand.tmp 132) (Operand.const (Value.int IntKind.i64 1)) 3, type := 3, pos := "memory.go:113", after := #[{ on := 0, ground := Ground.data }], guard := none }
def oZD8 : Oper := { dst := some 137, op := Op.indexAddr 32 (Operand.tmp 135) (Operand.tmp 136), type := 0, pos := "memory.go:114", after := #[{ on := 1, ground := Ground.data }, { on := 2, ground := Ground.data }], guard := none }
def oZD9 : Oper := { dst := some 138, op := Op.load 23 (Operand.tmp 137), type := 23, pos := "memory.go:114", after := #[{ on := 3, ground := Ground.data }], guard := none }
def oZD10 : Oper := { dst := some 139, op := Op.call { callee := Callee.builtin Builtin.len, args := #[Operand.tmp 138], argTypes := #[23] }, type := 3, pos := "memory.go:114", after := #[{ on := 4, ground := Ground.data }], guard := none }
def oZD11 : Oper := { dst := some 140, op := Op.binOp BinOp.lss 3 (Operand.tmp 134) (Operand.tmp 139) 3, type := 4, pos := "memory.go:114", after := #[{ on := 0, ground := Ground.data }, { on := 5, ground := Ground.data }], guard := none }
def oZD12 : Oper := { dst := some 144, op := Op.indexAddr 32 (Operand.tmp 142) (Operand.tmp 143), type := 0, pos := "memory.go:114", after := #[{ on := 8, ground := Ground.data }, { on := 9, ground := Ground.data }, { on := 7, ground := Ground.guard }], guard := some (7, true) }
def oZD13 : Oper := { dst := some 145, op := Op.load 23 (Operand.tmp 144), type := 23, pos := "memory.go:114", after := #[{ on := 10, ground := Ground.data }, { on := 7, ground := Ground.guard }], guard := some (7, true) }
def oZD14 : Oper := { dst := some 147, op := Op.indexAddr 23 (Operand.tmp 145) (Operand.tmp 146), type := 0, pos := "memory.go:114", after := #[{ on := 11, ground := Ground.data }, { on := 12, ground := Ground.data }, { on := 7, ground := Ground.guard }], guard := some (7, true) }
def oZD15 : Oper := { dst := some 148, op := Op.load 24 (Operand.tmp 147), type := 24, pos := "memory.go:114", after := #[{ on := 13, ground := Ground.data }, { on := 7, ground := Ground.guard }], guard := some (7, true) }
def oZD16 : Oper := { dst := some 150, op := Op.binOp BinOp.add 3 (Operand.const (Value.int IntKind.i64 100000)) (Operand.tmp 149) 3, type := 3, pos := "memory.go:114", after := #[{ on := 15, ground := Ground.data }, { on := 7, ground := Ground.guard }], guard := some (7, true) }
def oZD17 : Oper := { dst := some 151, op := Op.convert 3 24 (Operand.tmp 150), type := 24, pos := "memory.go:114", after := #[{ on := 16, ground := Ground.data }, { on := 7, ground := Ground.guard }], guard := some (7, true) }
def oZD18 : Oper := { dst := some 152, op := Op.binOp BinOp.neq 24 (Operand.tmp 148) (Operand.tmp 151) 24, type := 4, pos := "memory.go:114", after := #[{ on := 14, ground := Ground.data }, { on := 17, ground := Ground.data }, { on := 7, ground := Ground.guard }], guard := some (7, true) }
def oZD19 : Oper := { dst := some 156, op := Op.indexAddr 32 (Operand.tmp 154) (Operand.tmp 155), type := 0, pos := "memory.go:114", after := #[{ on := 20, ground := Ground.data }, { on := 21, ground := Ground.data }, { on := 19, ground := Ground.guard }], guard := some (19, false) }
def oZD20 : Oper := { dst := some 157, op := Op.load 23 (Operand.tmp 156), type := 23, pos := "memory.go:114", after := #[{ on := 22, ground := Ground.data }, { on := 19, ground := Ground.guard }], guard := some (19, false) }
def oZD21 : Oper := { dst := some 159, op := Op.indexAddr 23 (Operand.tmp 157) (Operand.tmp 158), type := 0, pos := "memory.go:114", after := #[{ on := 23, ground := Ground.data }, { on := 24, ground := Ground.data }, { on := 19, ground := Ground.guard }], guard := some (19, false) }
def oZD22 : Oper := { dst := some 160, op := Op.load 24 (Operand.tmp 159), type := 24, pos := "memory.go:114", after := #[{ on := 25, ground := Ground.data }, { on := 19, ground := Ground.guard }], guard := some (19, false) }
def oZD23 : Oper := { dst := some 162, op := Op.binOp BinOp.add 3 (Operand.const (Value.int IntKind.i64 100000)) (Operand.tmp 161) 3, type := 3, pos := "memory.go:114", after := #[{ on := 27, ground := Ground.data }, { on := 19, ground := Ground.guard }], guard := some (19, false) }
def oZD24 : Oper := { dst := some 163, op := Op.convert 3 24 (Operand.tmp 162), type := 24, pos := "memory.go:114", after := #[{ on := 28, ground := Ground.data }, { on := 19, ground := Ground.guard }], guard := some (19, false) }
def oZD25 : Oper := { dst := some 164, op := Op.binOp BinOp.neq 24 (Operand.tmp 160) (Operand.tmp 163) 24, type := 4, pos := "memory.go:114", after := #[{ on := 26, ground := Ground.data }, { on := 29, ground := Ground.data }, { on := 19, ground := Ground.guard }], guard := some (19, false) }
def oZD26 : Oper := { dst := some 165, op := Op.pick (Operand.tmp 153) (Operand.const (Value.bool true)) (Operand.tmp 164), type := 4, pos := "memory.go:114", after := #[{ on := 19, ground := Ground.data }, { on := 30, ground := Ground.data }, { on := 7, ground := Ground.guard }], guard := some (7, true) }
def oZD27 : Oper := { dst := some 166, op := Op.pick (Operand.tmp 141) (Operand.tmp 165) (Operand.const (Value.bool false)), type := 4, pos := "memory.go:114", after := #[{ on := 7, ground := Ground.data }, { on := 31, ground := Ground.data }], guard := none }
def oZD28 : Oper := { dst := some 171, op := Op.indexAddr 32 (Operand.tmp 169) (Operand.tmp 170), type := 0, pos := "memory.go:114", after := #[{ on := 35, ground := Ground.data }, { on := 36, ground := Ground.data }, { on := 33, ground := Ground.guard }], guard := some (33, false) }
def oZD29 : Oper := { dst := some 172, op := Op.load 23 (Operand.tmp 171), type := 23, pos := "memory.go:114", after := #[{ on := 37, ground := Ground.data }, { on := 33, ground := Ground.guard }], guard := some (33, false) }
def oZD30 : Oper := { dst := some 173, op := Op.call { callee := Callee.builtin Builtin.len, args := #[Operand.tmp 172], argTypes := #[23] }, type := 3, pos := "memory.go:114", after := #[{ on := 38, ground := Ground.data }, { on := 33, ground := Ground.guard }], guard := some (33, false) }
def oZD31 : Oper := { dst := some 174, op := Op.binOp BinOp.geq 3 (Operand.tmp 168) (Operand.tmp 173) 3, type := 4, pos := "memory.go:114", after := #[{ on := 34, ground := Ground.data }, { on := 39, ground := Ground.data }, { on := 33, ground := Ground.guard }], guard := some (33, false) }
def oZD32 : Oper := { dst := some 178, op := Op.indexAddr 32 (Operand.tmp 176) (Operand.tmp 177), type := 0, pos := "memory.go:114", after := #[{ on := 42, ground := Ground.data }, { on := 43, ground := Ground.data }, { on := 41, ground := Ground.guard }], guard := some (41, true) }
def oZD33 : Oper := { dst := some 179, op := Op.load 23 (Operand.tmp 178), type := 23, pos := "memory.go:114", after := #[{ on := 44, ground := Ground.data }, { on := 41, ground := Ground.guard }], guard := some (41, true) }
def oZD34 : Oper := { dst := some 181, op := Op.indexAddr 23 (Operand.tmp 179) (Operand.tmp 180), type := 0, pos := "memory.go:114", after := #[{ on := 45, ground := Ground.data }, { on := 46, ground := Ground.data }, { on := 41, ground := Ground.guard }], guard := some (41, true) }
def oZD35 : Oper := { dst := some 182, op := Op.load 24 (Operand.tmp 181), type := 24, pos := "memory.go:114", after := #[{ on := 47, ground := Ground.data }, { on := 41, ground := Ground.guard }], guard := some (41, true) }
def oZD36 : Oper := { dst := some 184, op := Op.binOp BinOp.add 3 (Operand.const (Value.int IntKind.i64 300000)) (Operand.tmp 183) 3, type := 3, pos := "memory.go:114", after := #[{ on := 49, ground := Ground.data }, { on := 41, ground := Ground.guard }], guard := some (41, true) }
def oZD37 : Oper := { dst := some 185, op := Op.convert 3 24 (Operand.tmp 184), type := 24, pos := "memory.go:114", after := #[{ on := 50, ground := Ground.data }, { on := 41, ground := Ground.guard }], guard := some (41, true) }
def oZD38 : Oper := { dst := some 186, op := Op.binOp BinOp.neq 24 (Operand.tmp 182) (Operand.tmp 185) 24, type := 4, pos := "memory.go:114", after := #[{ on := 48, ground := Ground.data }, { on := 51, ground := Ground.data }, { on := 41, ground := Ground.guard }], guard := some (41, true) }
def oZD39 : Oper := { dst := some 187, op := Op.pick (Operand.tmp 175) (Operand.tmp 186) (Operand.const (Value.bool false)), type := 4, pos := "memory.go:114", after := #[{ on := 41, ground := Ground.data }, { on := 52, ground := Ground.data }, { on := 33, ground := Ground.guard }], guard := some (33, false) }
def oZD40 : Oper := { dst := some 188, op := Op.pick (Operand.tmp 167) (Operand.const (Value.bool true)) (Operand.tmp 187), type := 4, pos := "memory.go:114", after := #[{ on := 33, ground := Ground.data }, { on := 53, ground := Ground.data }], guard := none }
def oZD41 : Oper := { dst := some 191, op := Op.call { callee := Callee.builtin Builtin.len, args := #[Operand.tmp 190], argTypes := #[34] }, type := 3, pos := "memory.go:119", after := #[{ on := 1, ground := Ground.data }], guard := none }
def oZD42 : Oper := { dst := some 192, op := Op.binOp BinOp.lss 3 (Operand.tmp 189) (Operand.tmp 191) 3, type := 4, pos := "memory.go:119", after := #[{ on := 0, ground := Ground.data }, { on := 2, ground := Ground.data }], guard := none }
def oZD43 : Oper := { dst := some 194, op := Op.binOp BinOp.add 3 (Operand.tmp 193) (Operand.const (Value.int IntKind.i64 1)) 3, type := 3, pos := "memory.go:119", after := #[{ on := 0, ground := Ground.data }], guard := none }
def oZD44 : Oper := { dst := some 198, op := Op.indexAddr 34 (Operand.tmp 196) (Operand.tmp 197), type := 0, pos := "memory.go:120", after := #[{ on := 1, ground := Ground.data }, { on := 2, ground := Ground.data }], guard := none }
def oZD45 : Oper := { dst := some 199, op := Op.load 22 (Operand.tmp 198), type := 22, pos := "memory.go:120", after := #[{ on := 3, ground := Ground.data }], guard := none }
def oZD46 : Oper := { dst := some 200, op := Op.call { callee := Callee.builtin Builtin.len, args := #[Operand.tmp 199], argTypes := #[22] }, type := 3, pos := "memory.go:120", after := #[{ on := 4, ground := Ground.data }], guard := none }
def oZD47 : Oper := { dst := some 201, op := Op.binOp BinOp.lss 3 (Operand.tmp 195) (Operand.tmp 200) 3, type := 4, pos := "memory.go:120", after := #[{ on := 0, ground := Ground.data }, { on := 5, ground := Ground.data }], guard := none }
def oZD48 : Oper := { dst := some 203, op := Op.binOp BinOp.add 3 (Operand.tmp 202) (Operand.const (Value.int IntKind.i64 1)) 3, type := 3, pos := "memory.go:120", after := #[{ on := 0, ground := Ground.data }], guard := none }
def oZD49 : Oper := { dst := some 207, op := Op.indexAddr 34 (Operand.tmp 205) (Operand.tmp 206), type := 0, pos := "memory.go:121", after := #[{ on := 1, ground := Ground.data }, { on := 2, ground := Ground.data }], guard := none }
def oZD50 : Oper := { dst := some 208, op := Op.load 22 (Operand.tmp 207), type := 22, pos := "memory.go:121", after := #[{ on := 3, ground := Ground.data }], guard := none }
def oZD51 : Oper := { dst := some 209, op := Op.call { callee := Callee.builtin Builtin.len, args := #[Operand.tmp 208], argTypes := #[22] }, type := 3, pos := "memory.go:121", after := #[{ on := 4, ground := Ground.data }], guard := none }
def oZD52 : Oper := { dst := some 210, op := Op.binOp BinOp.lss 3 (Operand.tmp 204) (Operand.tmp 209) 3, type := 4, pos := "memory.go:121", after := #[{ on := 0, ground := Ground.data }, { on := 5, ground := Ground.data }], guard := none }
def oZD53 : Oper := { dst := some 214, op := Op.indexAddr 34 (Operand.tmp 212) (Operand.tmp 213), type := 0, pos := "memory.go:121", after := #[{ on := 8, ground := Ground.data }, { on := 9, ground := Ground.data }, { on := 7, ground := Ground.guard }], guard := some (7, true) }
def oZD54 : Oper := { dst := some 215, op := Op.load 22 (Operand.tmp 214), type := 22, pos := "memory.go:121", after := #[{ on := 10, ground := Ground.data }, { on := 7, ground := Ground.guard }], guard := some (7, true) }
def oZD55 : Oper := { dst := some 217, op := Op.indexAddr 22 (Operand.tmp 215) (Operand.tmp 216), type := 0, pos := "memory.go:121", after := #[{ on := 11, ground := Ground.data }, { on := 12, ground := Ground.data }, { on := 7, ground := Ground.guard }], guard := some (7, true) }
def oZD56 : Oper := { dst := some 218, op := Op.fieldAddr 55 (Operand.tmp 217) 0, type := 0, pos := "memory.go:121", after := #[{ on := 13, ground := Ground.data }, { on := 7, ground := Ground.guard }], guard := some (7, true) }
def oZD57 : Oper := { dst := some 219, op := Op.load 24 (Operand.tmp 218), type := 24, pos := "memory.go:121", after := #[{ on := 14, ground := Ground.data }, { on := 7, ground := Ground.guard }], guard := some (7, true) }
def oZD58 : Oper := { dst := some 221, op := Op.binOp BinOp.add 3 (Operand.const (Value.int IntKind.i64 200000)) (Operand.tmp 220) 3, type := 3, pos := "memory.go:121", after := #[{ on := 16, ground := Ground.data }, { on := 7, ground := Ground.guard }], guard := some (7, true) }
def oZD59 : Oper := { dst := some 222, op := Op.convert 3 24 (Operand.tmp 221), type := 24, pos := "memory.go:121", after := #[{ on := 17, ground := Ground.data }, { on := 7, ground := Ground.guard }], guard := some (7, true) }
def oZD60 : Oper := { dst := some 223, op := Op.binOp BinOp.neq 24 (Operand.tmp 219) (Operand.tmp 222) 24, type := 4, pos := "memory.go:121", after := #[{ on := 15, ground := Ground.data }, { on := 18, ground := Ground.data }, { on := 7, ground := Ground.guard }], guard := some (7, true) }
def oZD61 : Oper := { dst := some 227, op := Op.indexAddr 34 (Operand.tmp 225) (Operand.tmp 226), type := 0, pos := "memory.go:121", after := #[{ on := 21, ground := Ground.data }, { on := 22, ground := Ground.data }, { on := 20, ground := Ground.guard }], guard := some (20, false) }
def oZD62 : Oper := { dst := some 228, op := Op.load 22 (Operand.tmp 227), type := 22, pos := "memory.go:121", after := #[{ on := 23, ground := Ground.data }, { on := 20, ground := Ground.guard }], guard := some (20, false) }
def oZD63 : Oper := { dst := some 230, op := Op.indexAddr 22 (Operand.tmp 228) (Operand.tmp 229), type := 0, pos := "memory.go:121", after := #[{ on := 24, ground := Ground.data }, { on := 25, ground := Ground.data }, { on := 20, ground := Ground.guard }], guard := some (20, false) }
def oZD64 : Oper := { dst := some 231, op := Op.fieldAddr 55 (Operand.tmp 230) 0, type := 0, pos := "memory.go:121", after := #[{ on := 26, ground := Ground.data }, { on := 20, ground := Ground.guard }], guard := some (20, false) }
def oZD65 : Oper := { dst := some 232, op := Op.load 24 (Operand.tmp 231), type := 24, pos := "memory.go:121", after := #[{ on := 27, ground := Ground.data }, { on := 20, ground := Ground.guard }], guard := some (20, false) }
def oZD66 : Oper := { dst := some 234, op := Op.binOp BinOp.add 3 (Operand.const (Value.int IntKind.i64 200000)) (Operand.tmp 233) 3, type := 3, pos := "memory.go:121", after := #[{ on := 29, ground := Ground.data }, { on := 20, ground := Ground.guard }], guard := some (20, false) }
def oZD67 : Oper := { dst := some 235, op := Op.convert 3 24 (Operand.tmp 234), type := 24, pos := "memory.go:121", after := #[{ on := 30, ground := Ground.data }, { on := 20, ground := Ground.guard }], guard := some (20, false) }
def oZD68 : Oper := { dst := some 236, op := Op.binOp BinOp.neq 24 (Operand.tmp 232) (Operand.tmp 235) 24, type := 4, pos := "memory.go:121", after := #[{ on := 28, ground := Ground.data }, { on := 31, ground := Ground.data }, { on := 20, ground := Ground.guard }], guard := some (20, false) }
def oZD69 : Oper := { dst := some 237, op := Op.pick (Operand.tmp 224) (Operand.const (Value.bool true)) (Operand.tmp 236), type := 4, pos := "memory.go:121", after := #[{ on := 20, ground := Ground.data }, { on := 32, ground := Ground.data }, { on := 7, ground := Ground.guard }], guard := some (7, true) }
def oZD70 : Oper := { dst := some 238, op := Op.pick (Operand.tmp 211) (Operand.tmp 237) (Operand.const (Value.bool false)), type := 4, pos := "memory.go:121", after := #[{ on := 7, ground := Ground.data }, { on := 33, ground := Ground.data }], guard := none }
def oZD71 : Oper := { dst := some 243, op := Op.indexAddr 34 (Operand.tmp 241) (Operand.tmp 242), type := 0, pos := "memory.go:121", after := #[{ on := 37, ground := Ground.data }, { on := 38, ground := Ground.data }, { on := 35, ground := Ground.guard }], guard := some (35, false) }
def oZD72 : Oper := { dst := some 244, op := Op.load 22 (Operand.tmp 243), type := 22, pos := "memory.go:121", after := #[{ on := 39, ground := Ground.data }, { on := 35, ground := Ground.guard }], guard := some (35, false) }
def oZD73 : Oper := { dst := some 245, op := Op.call { callee := Callee.builtin Builtin.len, args := #[Operand.tmp 244], argTypes := #[22] }, type := 3, pos := "memory.go:121", after := #[{ on := 40, ground := Ground.data }, { on := 35, ground := Ground.guard }], guard := some (35, false) }
def oZD74 : Oper := { dst := some 246, op := Op.binOp BinOp.geq 3 (Operand.tmp 240) (Operand.tmp 245) 3, type := 4, pos := "memory.go:121", after := #[{ on := 36, ground := Ground.data }, { on := 41, ground := Ground.data }, { on := 35, ground := Ground.guard }], guard := some (35, false) }
def oZD75 : Oper := { dst := some 250, op := Op.indexAddr 34 (Operand.tmp 248) (Operand.tmp 249), type := 0, pos := "memory.go:121", after := #[{ on := 44, ground := Ground.data }, { on := 45, ground := Ground.data }, { on := 43, ground := Ground.guard }], guard := some (43, true) }
def oZD76 : Oper := { dst := some 251, op := Op.load 22 (Operand.tmp 250), type := 22, pos := "memory.go:121", after := #[{ on := 46, ground := Ground.data }, { on := 43, ground := Ground.guard }], guard := some (43, true) }
def oZD77 : Oper := { dst := some 253, op := Op.indexAddr 22 (Operand.tmp 251) (Operand.tmp 252), type := 0, pos := "memory.go:121", after := #[{ on := 47, ground := Ground.data }, { on := 48, ground := Ground.data }, { on := 43, ground := Ground.guard }], guard := some (43, true) }
def oZD78 : Oper := { dst := some 254, op := Op.fieldAddr 55 (Operand.tmp 253) 0, type := 0, pos := "memory.go:121", after := #[{ on := 49, ground := Ground.data }, { on := 43, ground := Ground.guard }], guard := some (43, true) }
def oZD79 : Oper := { dst := some 255, op := Op.load 24 (Operand.tmp 254), type := 24, pos := "memory.go:121", after := #[{ on := 50, ground := Ground.data }, { on := 43, ground := Ground.guard }], guard := some (43, true) }
def oZD80 : Oper := { dst := some 257, op := Op.binOp BinOp.add 3 (Operand.const (Value.int IntKind.i64 400000)) (Operand.tmp 256) 3, type := 3, pos := "memory.go:121", after := #[{ on := 52, ground := Ground.data }, { on := 43, ground := Ground.guard }], guard := some (43, true) }
def oZD81 : Oper := { dst := some 258, op := Op.convert 3 24 (Operand.tmp 257), type := 24, pos := "memory.go:121", after := #[{ on := 53, ground := Ground.data }, { on := 43, ground := Ground.guard }], guard := some (43, true) }
def oZD82 : Oper := { dst := some 259, op := Op.binOp BinOp.neq 24 (Operand.tmp 255) (Operand.tmp 258) 24, type := 4, pos := "memory.go:121", after := #[{ on := 51, ground := Ground.data }, { on := 54, ground := Ground.data }, { on := 43, ground := Ground.guard }], guard := some (43, true) }
def oZD83 : Oper := { dst := some 260, op := Op.pick (Operand.tmp 247) (Operand.tmp 259) (Operand.const (Value.bool false)), type := 4, pos := "memory.go:121", after := #[{ on := 43, ground := Ground.data }, { on := 55, ground := Ground.data }, { on := 35, ground := Ground.guard }], guard := some (35, false) }
def oZD84 : Oper := { dst := some 261, op := Op.pick (Operand.tmp 239) (Operand.const (Value.bool true)) (Operand.tmp 260), type := 4, pos := "memory.go:121", after := #[{ on := 35, ground := Ground.data }, { on := 56, ground := Ground.data }], guard := none }
def rAP36 : Array Oper := #[{ dst := some 119, op := Op.move (Operand.tmp 17), type := 3, pos := "memory.go:112", after := #[], guard := none },
  { dst := some 120, op := Op.move (Operand.tmp 0), type := 32, pos := "memory.go:112", after := #[], guard := none },
  oZD0,
  oZD1]
def rAP37 : Array Oper := #[{ dst := some 123, op := Op.move (Operand.tmp 17), type := 3, pos := "memory.go:112", after := #[], guard := none },
  oZD2,
  { dst := some 17, op := Op.assign (Operand.tmp 124), type := 3, pos := "memory.go:112", after := #[{ on := 1, ground := Ground.data }, { on := 0, ground := Ground.phase }, { on := 1, ground := Ground.phase }], guard := none }]
def rAP38 : Array Oper := #[{ dst := some 18, op := Op.assign (Operand.const (Value.int IntKind.i64 0)), type := 3, pos := "memory.go:113", after := #[], guard := none }]
def rAP39 : Array Oper := #[{ dst := some 125, op := Op.move (Operand.tmp 18), type := 3, pos := "memory.go:113", after := #[], guard := none },
  { dst := some 126, op := Op.move (Operand.tmp 9), type := 32, pos := "memory.go:113", after := #[], guard := none },
  { dst := some 127, op := Op.move (Operand.tmp 17), type := 3, pos := "memory.go:113", after := #[], guard := none },
  oZD3,
  oZD4,
  oZD5,
  oZD6]
def rAP40 : Array Oper := #[{ dst := some 132, op := Op.move (Operand.tmp 18), type := 3, pos := "memory.go:113", after := #[], guard := none },
  oZD7,
  { dst := some 18, op := Op.assign (Operand.tmp 133), type := 3, pos := "memory.go:113", after := #[{ on := 1, ground := Ground.data }, { on := 0, ground := Ground.phase }, { on := 1, ground := Ground.phase }], guard := none }]
def rAP41 : Array Oper := #[{ dst := some 134, op := Op.move (Operand.tmp 18), type := 3, pos := "memory.go:114", after := #[], guard := none },
  { dst := some 135, op := Op.move (Operand.tmp 0), type := 32, pos := "memory.go:114", after := #[], guard := none },
  { dst := some 136, op := Op.move (Operand.tmp 17), type := 3, pos := "memory.go:114", after := #[], guard := none },
  oZD8,
  oZD9,
  oZD10,
  oZD11,
  { dst := some 141, op := Op.move (Operand.tmp 140), type := 4, pos := "memory.go:114", after := #[{ on := 6, ground := Ground.data }], guard := none },
  { dst := some 142, op := Op.move (Operand.tmp 0), type := 32, pos := "memory.go:114", after := #[{ on := 7, ground := Ground.guard }], guard := some (7, true) },
  { dst := some 143, op := Op.move (Operand.tmp 17), type := 3, pos := "memory.go:114", after := #[{ on := 7, ground := Ground.guard }], guard := some (7, true) },
  oZD12,
  oZD13,
  { dst := some 146, op := Op.move (Operand.tmp 18), type := 3, pos := "memory.go:114", after := #[{ on := 7, ground := Ground.guard }], guard := some (7, true) },
  oZD14,
  oZD15,
  { dst := some 149, op := Op.move (Operand.tmp 17), type := 3, pos := "memory.go:114", after := #[{ on := 7, ground := Ground.guard }], guard := some (7, true) },
  oZD16,
  oZD17,
  oZD18,
  { dst := some 153, op := Op.move (Operand.tmp 152), type := 4, pos := "memory.go:114", after := #[{ on := 18, ground := Ground.data }, { on := 7, ground := Ground.chain }, { on := 7, ground := Ground.guard }], guard := some (7, true) },
  { dst := some 154, op := Op.move (Operand.tmp 9), type := 32, pos := "memory.go:114", after := #[{ on := 19, ground := Ground.guard }], guard := some (19, false) },
  { dst := some 155, op := Op.move (Operand.tmp 17), type := 3, pos := "memory.go:114", after := #[{ on := 19, ground := Ground.guard }], guard := some (19, false) },
  oZD19,
  oZD20,
  { dst := some 158, op := Op.move (Operand.tmp 18), type := 3, pos := "memory.go:114", after := #[{ on := 19, ground := Ground.guard }], guard := some (19, false) },
  oZD21,
  oZD22,
  { dst := some 161, op := Op.move (Operand.tmp 17), type := 3, pos := "memory.go:114", after := #[{ on := 19, ground := Ground.guard }], guard := some (19, false) },
  oZD23,
  oZD24,
  oZD25,
  oZD26,
  oZD27,
  { dst := some 167, op := Op.move (Operand.tmp 166), type := 4, pos := "memory.go:114", after := #[{ on := 32, ground := Ground.data }, { on := 19, ground := Ground.chain }], guard := none },
  { dst := some 168, op := Op.move (Operand.tmp 18), type := 3, pos := "memory.go:114", after := #[{ on := 33, ground := Ground.guard }], guard := some (33, false) },
  { dst := some 169, op := Op.move (Operand.tmp 0), type := 32, pos := "memory.go:114", after := #[{ on := 33, ground := Ground.guard }], guard := some (33, false) },
  { dst := some 170, op := Op.move (Operand.tmp 17), type := 3, pos := "memory.go:114", after := #[{ on := 33, ground := Ground.guard }], guard := some (33, false) },
  oZD28,
  oZD29,
  oZD30,
  oZD31,
  { dst := some 175, op := Op.move (Operand.tmp 174), type := 4, pos := "memory.go:114", after := #[{ on := 40, ground := Ground.data }, { on := 33, ground := Ground.chain }, { on := 33, ground := Ground.guard }], guard := some (33, false) },
  { dst := some 176, op := Op.move (Operand.tmp 9), type := 32, pos := "memory.go:114", after := #[{ on := 41, ground := Ground.guard }], guard := some (41, true) },
  { dst := some 177, op := Op.move (Operand.tmp 17), type := 3, pos := "memory.go:114", after := #[{ on := 41, ground := Ground.guard }], guard := some (41, true) },
  oZD32,
  oZD33,
  { dst := some 180, op := Op.move (Operand.tmp 18), type := 3, pos := "memory.go:114", after := #[{ on := 41, ground := Ground.guard }], guard := some (41, true) },
  oZD34,
  oZD35,
  { dst := some 183, op := Op.move (Operand.tmp 17), type := 3, pos := "memory.go:114", after := #[{ on := 41, ground := Ground.guard }], guard := some (41, true) },
  oZD36,
  oZD37,
  oZD38,
  oZD39,
  oZD40]
def rAP42 : Array Oper := #[{ dst := some 4, op := Op.assign (Operand.const (Value.bool false)), type := 4, pos := "memory.go:115", after := #[], guard := none }]
def rAP44 : Array Oper := #[{ dst := some 189, op := Op.move (Operand.tmp 19), type := 3, pos := "memory.go:119", after := #[], guard := none },
  { dst := some 190, op := Op.move (Operand.tmp 1), type := 34, pos := "memory.go:119", after := #[], guard := none },
  oZD41,
  oZD42]
def rAP45 : Array Oper := #[{ dst := some 193, op := Op.move (Operand.tmp 19), type := 3, pos := "memory.go:119", after := #[], guard := none },
  oZD43,
  { dst := some 19, op := Op.assign (Operand.tmp 194), type := 3, pos := "memory.go:119", after := #[{ on := 1, ground := Ground.data }, { on := 0, ground := Ground.phase }, { on := 1, ground := Ground.phase }], guard := none }]
def rAP46 : Array Oper := #[{ dst := some 20, op := Op.assign (Operand.const (Value.int IntKind.i64 0)), type := 3, pos := "memory.go:120", after := #[], guard := none }]
def rAP47 : Array Oper := #[{ dst := some 195, op := Op.move (Operand.tmp 20), type := 3, pos := "memory.go:120", after := #[], guard := none },
  { dst := some 196, op := Op.move (Operand.tmp 13), type := 34, pos := "memory.go:120", after := #[], guard := none },
  { dst := some 197, op := Op.move (Operand.tmp 19), type := 3, pos := "memory.go:120", after := #[], guard := none },
  oZD44,
  oZD45,
  oZD46,
  oZD47]
def rAP48 : Array Oper := #[{ dst := some 202, op := Op.move (Operand.tmp 20), type := 3, pos := "memory.go:120", after := #[], guard := none },
  oZD48,
  { dst := some 20, op := Op.assign (Operand.tmp 203), type := 3, pos := "memory.go:120", after := #[{ on := 1, ground := Ground.data }, { on := 0, ground := Ground.phase }, { on := 1, ground := Ground.phase }], guard := none }]
def rAP49 : Array Oper := #[{ dst := some 204, op := Op.move (Operand.tmp 20), type := 3, pos := "memory.go:121", after := #[], guard := none },
  { dst := some 205, op := Op.move (Operand.tmp 1), type := 34, pos := "memory.go:121", after := #[], guard := none },
  { dst := some 206, op := Op.move (Operand.tmp 19), type := 3, pos := "memory.go:121", after := #[], guard := none },
  oZD49,
  oZD50,
  oZD51,
  oZD52,
  { dst := some 211, op := Op.move (Operand.tmp 210), type := 4, pos := "memory.go:121", after := #[{ on := 6, ground := Ground.data }], guard := none },
  { dst := some 212, op := Op.move (Operand.tmp 1), type := 34, pos := "memory.go:121", after := #[{ on := 7, ground := Ground.guard }], guard := some (7, true) },
  { dst := some 213, op := Op.move (Operand.tmp 19), type := 3, pos := "memory.go:121", after := #[{ on := 7, ground := Ground.guard }], guard := some (7, true) },
  oZD53,
  oZD54,
  { dst := some 216, op := Op.move (Operand.tmp 20), type := 3, pos := "memory.go:121", after := #[{ on := 7, ground := Ground.guard }], guard := some (7, true) },
  oZD55,
  oZD56,
  oZD57,
  { dst := some 220, op := Op.move (Operand.tmp 19), type := 3, pos := "memory.go:121", after := #[{ on := 7, ground := Ground.guard }], guard := some (7, true) },
  oZD58,
  oZD59,
  oZD60,
  { dst := some 224, op := Op.move (Operand.tmp 223), type := 4, pos := "memory.go:121", after := #[{ on := 19, ground := Ground.data }, { on := 7, ground := Ground.chain }, { on := 7, ground := Ground.guard }], guard := some (7, true) },
  { dst := some 225, op := Op.move (Operand.tmp 13), type := 34, pos := "memory.go:121", after := #[{ on := 20, ground := Ground.guard }], guard := some (20, false) },
  { dst := some 226, op := Op.move (Operand.tmp 19), type := 3, pos := "memory.go:121", after := #[{ on := 20, ground := Ground.guard }], guard := some (20, false) },
  oZD61,
  oZD62,
  { dst := some 229, op := Op.move (Operand.tmp 20), type := 3, pos := "memory.go:121", after := #[{ on := 20, ground := Ground.guard }], guard := some (20, false) },
  oZD63,
  oZD64,
  oZD65,
  { dst := some 233, op := Op.move (Operand.tmp 19), type := 3, pos := "memory.go:121", after := #[{ on := 20, ground := Ground.guard }], guard := some (20, false) },
  oZD66,
  oZD67,
  oZD68,
  oZD69,
  oZD70,
  { dst := some 239, op := Op.move (Operand.tmp 238), type := 4, pos := "memory.go:121", after := #[{ on := 34, ground := Ground.data }, { on := 20, ground := Ground.chain }], guard := none },
  { dst := some 240, op := Op.move (Operand.tmp 20), type := 3, pos := "memory.go:121", after := #[{ on := 35, ground := Ground.guard }], guard := some (35, false) },
  { dst := some 241, op := Op.move (Operand.tmp 1), type := 34, pos := "memory.go:121", after := #[{ on := 35, ground := Ground.guard }], guard := some (35, false) },
  { dst := some 242, op := Op.move (Operand.tmp 19), type := 3, pos := "memory.go:121", after := #[{ on := 35, ground := Ground.guard }], guard := some (35, false) },
  oZD71,
  oZD72,
  oZD73,
  oZD74,
  { dst := some 247, op := Op.move (Operand.tmp 246), type := 4, pos := "memory.go:121", after := #[{ on := 42, ground := Ground.data }, { on := 35, ground := Ground.chain }, { on := 35, ground := Ground.guard }], guard := some (35, false) },
  { dst := some 248, op := Op.move (Operand.tmp 13), type := 34, pos := "memory.go:121", after := #[{ on := 43, ground := Ground.guard }], guard := some (43, true) },
  { dst := some 249, op := Op.move (Operand.tmp 19), type := 3, pos := "memory.go:121", after := #[{ on := 43, ground := Ground.guard }], guard := some (43, true) },
  oZD75,
  oZD76,
  { dst := some 252, op := Op.move (Operand.tmp 20), type := 3, pos := "memory.go:121", after := #[{ on := 43, ground := Ground.guard }], guard := some (43, true) },
  oZD77,
  oZD78,
  oZD79,
  { dst := some 256, op := Op.move (Operand.tmp 19), type := 3, pos := "memory.go:121", after := #[{ on := 43, ground := Ground.guard }], guard := some (43, true) },
  oZD80,
  oZD81,
  oZD82,
  oZD83,
  oZD84]
def rAP50 : Array Oper := #[{ dst := some 4, op := Op.assign (Operand.const (Value.bool false)), type := 4, pos := "memory.go:122", after := #[], guard := none }]
def cEU2 : Code := (Code.seq (Code.seq (Code.region 39 rAP39 false) (Code.cond (Operand.tmp 131) Code.skip (Code.exit 18))) (Code.seq (Code.block 19 (Code.seq (Code.region 41 rAP41 false) (Code.cond (Operand.tmp 188) (Code.seq (Code.region 42 rAP42 false) Code.ret) Code.skip))) (Code.region 40 rAP40 false)))
def cEU1 : Code := (Code.seq (Code.seq (Code.region 36 rAP36 false) (Code.cond (Operand.tmp 122) Code.skip (Code.exit 16))) (Code.seq (Code.block 17 (Code.seq (Code.region 38 rAP38 false) (Code.block 18 (Code.loop cEU2)))) (Code.region 37 rAP37 false)))
set_option maxRecDepth 100000 in
set_option maxHeartbeats 1000000 in
theorem eUR {v1 v13 : Value} {lb lo n lc gm mc gy yn yc i k a b gx xn xc : Nat} {Q : Exit → Act → World → Prop} (a0 : Act) (wr : World) (I0 : IZ (.slice (some ⟨lb, lo, none⟩) n lc) v1 (.slice (some ⟨gm, 0, none⟩) n mc) v13 a0) (h17 : a0.eval (.tmp 17) = .int .i64 (i : Int)) (h18 : a0.eval (.tmp 18) = .int .i64 (k : Int))
    (hi : i < n) (hn : n ≤ 4000000) (ha : a = 100000 + i) (hb : b = 300000 + i) (hkx : k < xn) (hky : k < yn) (hyb : yn ≤ 1099511627776) (c1 : wr.cell? ⟨lb, lo + i, none⟩ = some (.slice (some ⟨gx, 0, none⟩) xn xc)) (c2 : wr.cell? ⟨gm, i, none⟩ = some (.slice (some ⟨gy, 0, none⟩) yn yc)) (c3 : wr.cell? ⟨gy, k, none⟩ = some (.int .u32 (a : Int))) (c4 : wr.cell? ⟨gx, k, none⟩ = some (.int .u32 (a : Int)))
    (hQ : ∀ a', IZ (.slice (some ⟨lb, lo, none⟩) n lc) v1 (.slice (some ⟨gm, 0, none⟩) n mc) v13 a' → a'.eval (.tmp 17) = .int .i64 (i : Int) → a'.eval (.tmp 18) = .int .i64 ((k : Int) + 1) → Q .normal a' wr) : cEU2.wp Try.prog Q a0 wr := by
  have hii : (i : Int) < (n : Int) := by omega
  have hki : (k : Int) < (yn : Int) := by omega
  have w1 : RowKit.wrap64 (100000 + (i : Int)) = (a : Int) := by unfold RowKit.wrap64; omega
  have w2 : IntKind.u32.wrap (a : Int) = (a : Int) := by rw [IntKind.wrap_u32]; omega
  have w3 : RowKit.wrap64 (300000 + (i : Int)) = (b : Int) := by unfold RowKit.wrap64; omega
  have w4 : IntKind.u32.wrap (b : Int) = (b : Int) := by rw [IntKind.wrap_u32]; omega
  have w5 : IntKind.i64.wrap (100000 + (i : Int)) = (a : Int) := by rw [IntKind.wrap_i64]; omega
  have w6 : IntKind.i64.wrap (300000 + (i : Int)) = (b : Int) := by rw [IntKind.wrap_i64]; omega
  have w7 : IntKind.i64.wrap ((k : Int) + 1) = (k : Int) + 1 := by rw [IntKind.wrap_i64]; omega
  have hkxi : (k : Int) < (xn : Int) := by omega
  have hkxd : decide ((xn : Int) ≤ (k : Int)) = false := decide_eq_false (by omega)
  clear hi hky hyb ha hb
  have fa0_0 := Fe.refl a0
  unfold cEU2
  refine wp_seq (wp_seq ?_)
  refine wp_region_list ?_
  unfold rAP39
  refine fa0_0.move 125 (.int .i64 (k : Int)) _ (Or.inl rfl) rfl (lb_ I0.size) (wanted_none rfl) ((fa0_0.at_ 18).trans h18) (fun a0_1 fa0_1 => ?_)
  clear fa0_0
  refine fa0_1.move 126 (.slice (some ⟨gm, 0, none⟩) n mc) _ (Or.inl rfl) rfl (lb_ I0.size) (wanted_none rfl) ((fa0_1.at_ 9).trans I0.s9) (fun a0_2 fa0_2 => ?_)
  clear fa0_1
  refine fa0_2.move 127 (.int .i64 (i : Int)) _ (Or.inl rfl) rfl (lb_ I0.size) (wanted_none rfl) ((fa0_2.at_ 17).trans h17) (fun a0_3 fa0_3 => ?_)
  clear fa0_2
  have r_a0_4 : (execOp a0_3.eval oZD3).run Try.prog (wr) = .ok (.value (.pointer (some ⟨gm, i, none⟩))) (wr) := by
    unfold oZD3
    have e126 := (show a0_3.eval (.tmp 126) = .slice (some ⟨gm, 0, none⟩) n mc from (fa0_3.at_ 126))
    have e127 := (show a0_3.eval (.tmp 127) = .int .i64 (i : Int) from (fa0_3.at_ 127))
    clear fa0_3 hQ h17 h18
    generalize a0_3.eval = ρ at *
    go_simp
  refine fa0_3.step 128 (.pointer (some ⟨gm, i, none⟩)) rfl (lb_ I0.size) (wanted_none rfl) r_a0_4 (fun a0_4 fa0_4 => ?_)
  clear r_a0_4
  clear fa0_3
  have r_a0_5 : (execOp a0_4.eval oZD4).run Try.prog (wr) = .ok (.value (.slice (some ⟨gy, 0, none⟩) yn yc)) (wr) := by
    unfold oZD4
    have e128 := (show a0_4.eval (.tmp 128) = .pointer (some ⟨gm, i, none⟩) from (fa0_4.at_ 128))
    clear fa0_4 hQ h17 h18
    generalize a0_4.eval = ρ at *
    go_simp
  refine fa0_4.step 129 (.slice (some ⟨gy, 0, none⟩) yn yc) rfl (lb_ I0.size) (wanted_none rfl) r_a0_5 (fun a0_5 fa0_5 => ?_)
  clear r_a0_5
  clear fa0_4
  have r_a0_6 : (execOp a0_5.eval oZD5).run Try.prog (wr) = .ok (.value (.int .i64 (yn : Int))) (wr) := by
    unfold oZD5
    have e129 := (show a0_5.eval (.tmp 129) = .slice (some ⟨gy, 0, none⟩) yn yc from (fa0_5.at_ 129))
    clear fa0_5 hQ h17 h18
    generalize a0_5.eval = ρ at *
    go_simp
  refine fa0_5.step 130 (.int .i64 (yn : Int)) rfl (lb_ I0.size) (wanted_none rfl) r_a0_6 (fun a0_6 fa0_6 => ?_)
  clear r_a0_6
  clear fa0_5
  have r_a0_7 : (execOp a0_6.eval oZD6).run Try.prog (wr) = .ok (.value (.bool true)) (wr) := by
    unfold oZD6
    have e125 := (show a0_6.eval (.tmp 125) = .int .i64 (k : Int) from (fa0_6.at_ 125))
    have e130 := (show a0_6.eval (.tmp 130) = .int .i64 (yn : Int) from (fa0_6.at_ 130))
    clear fa0_6 hQ h17 h18
    generalize a0_6.eval = ρ at *
    go_simp
  refine fa0_6.step 131 (.bool true) rfl (lb_ I0.size) (wanted_none rfl) r_a0_7 (fun a0_7 fa0_7 => ?_)
  clear r_a0_7
  clear fa0_6
  refine wpList_nil ?_
  change Code.wp _ _ _ _ _
  refine wp_cond_true (show a0_7.eval (.tmp 131) = .bool true from (fa0_7.at_ 131)) (wp_skip ?_)
  change Code.wp _ _ _ _ _
  refine wp_seq (wp_block (wp_seq ?_))
  refine wp_region_list ?_
  unfold rAP41
  refine fa0_7.move 134 (.int .i64 (k : Int)) _ (Or.inl rfl) rfl (lb_ I0.size) (wanted_none rfl) ((fa0_7.at_ 18).trans h18) (fun a0_8 fa0_8 => ?_)
  clear fa0_7
  refine fa0_8.move 135 (.slice (some ⟨lb, lo, none⟩) n lc) _ (Or.inl rfl) rfl (lb_ I0.size) (wanted_none rfl) ((fa0_8.at_ 0).trans I0.s0) (fun a0_9 fa0_9 => ?_)
  clear fa0_8
  refine fa0_9.move 136 (.int .i64 (i : Int)) _ (Or.inl rfl) rfl (lb_ I0.size) (wanted_none rfl) ((fa0_9.at_ 17).trans h17) (fun a0_10 fa0_10 => ?_)
  clear fa0_9
  have r_a0_11 : (execOp a0_10.eval oZD8).run Try.prog (wr) = .ok (.value (.pointer (some ⟨lb, lo + i, none⟩))) (wr) := by
    unfold oZD8
    have e135 := (show a0_10.eval (.tmp 135) = .slice (some ⟨lb, lo, none⟩) n lc from (fa0_10.at_ 135))
    have e136 := (show a0_10.eval (.tmp 136) = .int .i64 (i : Int) from (fa0_10.at_ 136))
    clear fa0_10 hQ h17 h18
    generalize a0_10.eval = ρ at *
    go_simp
  refine fa0_10.step 137 (.pointer (some ⟨lb, lo + i, none⟩)) rfl (lb_ I0.size) (wanted_none rfl) r_a0_11 (fun a0_11 fa0_11 => ?_)
  clear r_a0_11
  clear fa0_10
  have r_a0_12 : (execOp a0_11.eval oZD9).run Try.prog (wr) = .ok (.value (.slice (some ⟨gx, 0, none⟩) xn xc)) (wr) := by
    unfold oZD9
    have e137 := (show a0_11.eval (.tmp 137) = .pointer (some ⟨lb, lo + i, none⟩) from (fa0_11.at_ 137))
    clear fa0_11 hQ h17 h18
    generalize a0_11.eval = ρ at *
    go_simp
  refine fa0_11.step 138 (.slice (some ⟨gx, 0, none⟩) xn xc) rfl (lb_ I0.size) (wanted_none rfl) r_a0_12 (fun a0_12 fa0_12 => ?_)
  clear r_a0_12
  clear fa0_11
  have r_a0_13 : (execOp a0_12.eval oZD10).run Try.prog (wr) = .ok (.value (.int .i64 (xn : Int))) (wr) := by
    unfold oZD10
    have e138 := (show a0_12.eval (.tmp 138) = .slice (some ⟨gx, 0, none⟩) xn xc from (fa0_12.at_ 138))
    clear fa0_12 hQ h17 h18
    generalize a0_12.eval = ρ at *
    go_simp
  refine fa0_12.step 139 (.int .i64 (xn : Int)) rfl (lb_ I0.size) (wanted_none rfl) r_a0_13 (fun a0_13 fa0_13 => ?_)
  clear r_a0_13
  clear fa0_12
  have r_a0_14 : (execOp a0_13.eval oZD11).run Try.prog (wr) = .ok (.value (.bool true)) (wr) := by
    unfold oZD11
    have e134 := (show a0_13.eval (.tmp 134) = .int .i64 (k : Int) from (fa0_13.at_ 134))
    have e139 := (show a0_13.eval (.tmp 139) = .int .i64 (xn : Int) from (fa0_13.at_ 139))
    clear fa0_13 hQ h17 h18
    generalize a0_13.eval = ρ at *
    go_simp
  refine fa0_13.step 140 (.bool true) rfl (lb_ I0.size) (wanted_none rfl) r_a0_14 (fun a0_14 fa0_14 => ?_)
  clear r_a0_14
  clear fa0_13
  refine fa0_14.move 141 (.bool true) _ (Or.inl rfl) rfl (lb_ I0.size) (wanted_none rfl) (fa0_14.at_ 140) (fun a0_15 fa0_15 => ?_)
  clear fa0_14
  refine fa0_15.move 142 (.slice (some ⟨lb, lo, none⟩) n lc) _ (Or.inl rfl) rfl (lb_ I0.size) ((wanted_at (t := 141) (c := true) (b := true) rfl rfl rfl (lb_ (fa0_15.size.trans I0.size)) (fa0_15.at_ 141)).trans (by rfl)) ((fa0_15.at_ 0).trans I0.s0) (fun a0_16 fa0_16 => ?_)
  clear fa0_15
  refine fa0_16.move 143 (.int .i64 (i : Int)) _ (Or.inl rfl) rfl (lb_ I0.size) ((wanted_at (t := 141) (c := true) (b := true) rfl rfl rfl (lb_ (fa0_16.size.trans I0.size)) (fa0_16.at_ 141)).trans (by rfl)) ((fa0_16.at_ 17).trans h17) (fun a0_17 fa0_17 => ?_)
  clear fa0_16
  have r_a0_18 : (execOp a0_17.eval oZD12).run Try.prog (wr) = .ok (.value (.pointer (some ⟨lb, lo + i, none⟩))) (wr) := by
    unfold oZD12
    have e142 := (show a0_17.eval (.tmp 142) = .slice (some ⟨lb, lo, none⟩) n lc from (fa0_17.at_ 142))
    have e143 := (show a0_17.eval (.tmp 143) = .int .i64 (i : Int) from (fa0_17.at_ 143))
    clear fa0_17 hQ h17 h18
    generalize a0_17.eval = ρ at *
    go_simp
  refine fa0_17.step 144 (.pointer (some ⟨lb, lo + i, none⟩)) rfl (lb_ I0.size) ((wanted_at (t := 141) (c := true) (b := true) rfl rfl rfl (lb_ (fa0_17.size.trans I0.size)) (fa0_17.at_ 141)).trans (by rfl)) r_a0_18 (fun a0_18 fa0_18 => ?_)
  clear r_a0_18
  clear fa0_17
  have r_a0_19 : (execOp a0_18.eval oZD13).run Try.prog (wr) = .ok (.value (.slice (some ⟨gx, 0, none⟩) xn xc)) (wr) := by
    unfold oZD13
    have e144 := (show a0_18.eval (.tmp 144) = .pointer (some ⟨lb, lo + i, none⟩) from (fa0_18.at_ 144))
    clear fa0_18 hQ h17 h18
    generalize a0_18.eval = ρ at *
    go_simp
  refine fa0_18.step 145 (.slice (some ⟨gx, 0, none⟩) xn xc) rfl (lb_ I0.size) ((wanted_at (t := 141) (c := true) (b := true) rfl rfl rfl (lb_ (fa0_18.size.trans I0.size)) (fa0_18.at_ 141)).trans (by rfl)) r_a0_19 (fun a0_19 fa0_19 => ?_)
  clear r_a0_19
  clear fa0_18
  refine fa0_19.move 146 (.int .i64 (k : Int)) _ (Or.inl rfl) rfl (lb_ I0.size) ((wanted_at (t := 141) (c := true) (b := true) rfl rfl rfl (lb_ (fa0_19.size.trans I0.size)) (fa0_19.at_ 141)).trans (by rfl)) ((fa0_19.at_ 18).trans h18) (fun a0_20 fa0_20 => ?_)
  clear fa0_19
  have r_a0_21 : (execOp a0_20.eval oZD14).run Try.prog (wr) = .ok (.value (.pointer (some ⟨gx, k, none⟩))) (wr) := by
    unfold oZD14
    have e145 := (show a0_20.eval (.tmp 145) = .slice (some ⟨gx, 0, none⟩) xn xc from (fa0_20.at_ 145))
    have e146 := (show a0_20.eval (.tmp 146) = .int .i64 (k : Int) from (fa0_20.at_ 146))
    clear fa0_20 hQ h17 h18
    generalize a0_20.eval = ρ at *
    go_simp
  refine fa0_20.step 147 (.pointer (some ⟨gx, k, none⟩)) rfl (lb_ I0.size) ((wanted_at (t := 141) (c := true) (b := true) rfl rfl rfl (lb_ (fa0_20.size.trans I0.size)) (fa0_20.at_ 141)).trans (by rfl)) r_a0_21 (fun a0_21 fa0_21 => ?_)
  clear r_a0_21
  clear fa0_20
  have r_a0_22 : (execOp a0_21.eval oZD15).run Try.prog (wr) = .ok (.value (.int .u32 (a : Int))) (wr) := by
    unfold oZD15
    have e147 := (show a0_21.eval (.tmp 147) = .pointer (some ⟨gx, k, none⟩) from (fa0_21.at_ 147))
    clear fa0_21 hQ h17 h18
    generalize a0_21.eval = ρ at *
    go_simp
  refine fa0_21.step 148 (.int .u32 (a : Int)) rfl (lb_ I0.size) ((wanted_at (t := 141) (c := true) (b := true) rfl rfl rfl (lb_ (fa0_21.size.trans I0.size)) (fa0_21.at_ 141)).trans (by rfl)) r_a0_22 (fun a0_22 fa0_22 => ?_)
  clear r_a0_22
  clear fa0_21
  refine fa0_22.move 149 (.int .i64 (i : Int)) _ (Or.inl rfl) rfl (lb_ I0.size) ((wanted_at (t := 141) (c := true) (b := true) rfl rfl rfl (lb_ (fa0_22.size.trans I0.size)) (fa0_22.at_ 141)).trans (by rfl)) ((fa0_22.at_ 17).trans h17) (fun a0_23 fa0_23 => ?_)
  clear fa0_22
  have r_a0_24 : (execOp a0_23.eval oZD16).run Try.prog (wr) = .ok (.value (.int .i64 (a : Int))) (wr) := by
    unfold oZD16
    have kc : ∀ v, a0_23.eval (.const v) = v := fun _ => rfl
    have e149 := (show a0_23.eval (.tmp 149) = .int .i64 (i : Int) from (fa0_23.at_ 149))
    clear fa0_23 hQ h17 h18
    generalize a0_23.eval = ρ at *
    go_simp
  refine fa0_23.step 150 (.int .i64 (a : Int)) rfl (lb_ I0.size) ((wanted_at (t := 141) (c := true) (b := true) rfl rfl rfl (lb_ (fa0_23.size.trans I0.size)) (fa0_23.at_ 141)).trans (by rfl)) r_a0_24 (fun a0_24 fa0_24 => ?_)
  clear r_a0_24
  clear fa0_23
  have r_a0_25 : (execOp a0_24.eval oZD17).run Try.prog (wr) = .ok (.value (.int .u32 (a : Int))) (wr) := by
    unfold oZD17
    have e150 := (show a0_24.eval (.tmp 150) = .int .i64 (a : Int) from (fa0_24.at_ 150))
    clear fa0_24 hQ h17 h18
    generalize a0_24.eval = ρ at *
    go_simp
  refine fa0_24.step 151 (.int .u32 (a : Int)) rfl (lb_ I0.size) ((wanted_at (t := 141) (c := true) (b := true) rfl rfl rfl (lb_ (fa0_24.size.trans I0.size)) (fa0_24.at_ 141)).trans (by rfl)) r_a0_25 (fun a0_25 fa0_25 => ?_)
  clear r_a0_25
  clear fa0_24
  have r_a0_26 : (execOp a0_25.eval oZD18).run Try.prog (wr) = .ok (.value (.bool false)) (wr) := by
    unfold oZD18
    have e148 := (show a0_25.eval (.tmp 148) = .int .u32 (a : Int) from (fa0_25.at_ 148))
    have e151 := (show a0_25.eval (.tmp 151) = .int .u32 (a : Int) from (fa0_25.at_ 151))
    clear fa0_25 hQ h17 h18
    generalize a0_25.eval = ρ at *
    go_simp
  refine fa0_25.step 152 (.bool false) rfl (lb_ I0.size) ((wanted_at (t := 141) (c := true) (b := true) rfl rfl rfl (lb_ (fa0_25.size.trans I0.size)) (fa0_25.at_ 141)).trans (by rfl)) r_a0_26 (fun a0_26 fa0_26 => ?_)
  clear r_a0_26
  clear fa0_25
  refine fa0_26.move 153 (.bool false) _ (Or.inl rfl) rfl (lb_ I0.size) ((wanted_at (t := 141) (c := true) (b := true) rfl rfl rfl (lb_ (fa0_26.size.trans I0.size)) (fa0_26.at_ 141)).trans (by rfl)) (fa0_26.at_ 152) (fun a0_27 fa0_27 => ?_)
  clear fa0_26
  refine fa0_27.move 154 (.slice (some ⟨gm, 0, none⟩) n mc) _ (Or.inl rfl) rfl (lb_ I0.size) ((wanted_at (t := 153) (c := false) (b := false) rfl rfl rfl (lb_ (fa0_27.size.trans I0.size)) (fa0_27.at_ 153)).trans (by rfl)) ((fa0_27.at_ 9).trans I0.s9) (fun a0_28 fa0_28 => ?_)
  clear fa0_27
  refine fa0_28.move 155 (.int .i64 (i : Int)) _ (Or.inl rfl) rfl (lb_ I0.size) ((wanted_at (t := 153) (c := false) (b := false) rfl rfl rfl (lb_ (fa0_28.size.trans I0.size)) (fa0_28.at_ 153)).trans (by rfl)) ((fa0_28.at_ 17).trans h17) (fun a0_29 fa0_29 => ?_)
  clear fa0_28
  have r_a0_30 : (execOp a0_29.eval oZD19).run Try.prog (wr) = .ok (.value (.pointer (some ⟨gm, i, none⟩))) (wr) := by
    unfold oZD19
    have e154 := (show a0_29.eval (.tmp 154) = .slice (some ⟨gm, 0, none⟩) n mc from (fa0_29.at_ 154))
    have e155 := (show a0_29.eval (.tmp 155) = .int .i64 (i : Int) from (fa0_29.at_ 155))
    clear fa0_29 hQ h17 h18
    generalize a0_29.eval = ρ at *
    go_simp
  refine fa0_29.step 156 (.pointer (some ⟨gm, i, none⟩)) rfl (lb_ I0.size) ((wanted_at (t := 153) (c := false) (b := false) rfl rfl rfl (lb_ (fa0_29.size.trans I0.size)) (fa0_29.at_ 153)).trans (by rfl)) r_a0_30 (fun a0_30 fa0_30 => ?_)
  clear r_a0_30
  clear fa0_29
  have r_a0_31 : (execOp a0_30.eval oZD20).run Try.prog (wr) = .ok (.value (.slice (some ⟨gy, 0, none⟩) yn yc)) (wr) := by
    unfold oZD20
    have e156 := (show a0_30.eval (.tmp 156) = .pointer (some ⟨gm, i, none⟩) from (fa0_30.at_ 156))
    clear fa0_30 hQ h17 h18
    generalize a0_30.eval = ρ at *
    go_simp
  refine fa0_30.step 157 (.slice (some ⟨gy, 0, none⟩) yn yc) rfl (lb_ I0.size) ((wanted_at (t := 153) (c := false) (b := false) rfl rfl rfl (lb_ (fa0_30.size.trans I0.size)) (fa0_30.at_ 153)).trans (by rfl)) r_a0_31 (fun a0_31 fa0_31 => ?_)
  clear r_a0_31
  clear fa0_30
  refine fa0_31.move 158 (.int .i64 (k : Int)) _ (Or.inl rfl) rfl (lb_ I0.size) ((wanted_at (t := 153) (c := false) (b := false) rfl rfl rfl (lb_ (fa0_31.size.trans I0.size)) (fa0_31.at_ 153)).trans (by rfl)) ((fa0_31.at_ 18).trans h18) (fun a0_32 fa0_32 => ?_)
  clear fa0_31
  have r_a0_33 : (execOp a0_32.eval oZD21).run Try.prog (wr) = .ok (.value (.pointer (some ⟨gy, k, none⟩))) (wr) := by
    unfold oZD21
    have e157 := (show a0_32.eval (.tmp 157) = .slice (some ⟨gy, 0, none⟩) yn yc from (fa0_32.at_ 157))
    have e158 := (show a0_32.eval (.tmp 158) = .int .i64 (k : Int) from (fa0_32.at_ 158))
    clear fa0_32 hQ h17 h18
    generalize a0_32.eval = ρ at *
    go_simp
  refine fa0_32.step 159 (.pointer (some ⟨gy, k, none⟩)) rfl (lb_ I0.size) ((wanted_at (t := 153) (c := false) (b := false) rfl rfl rfl (lb_ (fa0_32.size.trans I0.size)) (fa0_32.at_ 153)).trans (by rfl)) r_a0_33 (fun a0_33 fa0_33 => ?_)
  clear r_a0_33
  clear fa0_32
  have r_a0_34 : (execOp a0_33.eval oZD22).run Try.prog (wr) = .ok (.value (.int .u32 (a : Int))) (wr) := by
    unfold oZD22
    have e159 := (show a0_33.eval (.tmp 159) = .pointer (some ⟨gy, k, none⟩) from (fa0_33.at_ 159))
    clear fa0_33 hQ h17 h18
    generalize a0_33.eval = ρ at *
    go_simp
  refine fa0_33.step 160 (.int .u32 (a : Int)) rfl (lb_ I0.size) ((wanted_at (t := 153) (c := false) (b := false) rfl rfl rfl (lb_ (fa0_33.size.trans I0.size)) (fa0_33.at_ 153)).trans (by rfl)) r_a0_34 (fun a0_34 fa0_34 => ?_)
  clear r_a0_34
  clear fa0_33
  refine fa0_34.move 161 (.int .i64 (i : Int)) _ (Or.inl rfl) rfl (lb_ I0.size) ((wanted_at (t := 153) (c := false) (b := false) rfl rfl rfl (lb_ (fa0_34.size.trans I0.size)) (fa0_34.at_ 153)).trans (by rfl)) ((fa0_34.at_ 17).trans h17) (fun a0_35 fa0_35 => ?_)
  clear fa0_34
  have r_a0_36 : (execOp a0_35.eval oZD23).run Try.prog (wr) = .ok (.value (.int .i64 (a : Int))) (wr) := by
    unfold oZD23
    have kc : ∀ v, a0_35.eval (.const v) = v := fun _ => rfl
    have e161 := (show a0_35.eval (.tmp 161) = .int .i64 (i : Int) from (fa0_35.at_ 161))
    clear fa0_35 hQ h17 h18
    generalize a0_35.eval = ρ at *
    go_simp
  refine fa0_35.step 162 (.int .i64 (a : Int)) rfl (lb_ I0.size) ((wanted_at (t := 153) (c := false) (b := false) rfl rfl rfl (lb_ (fa0_35.size.trans I0.size)) (fa0_35.at_ 153)).trans (by rfl)) r_a0_36 (fun a0_36 fa0_36 => ?_)
  clear r_a0_36
  clear fa0_35
  have r_a0_37 : (execOp a0_36.eval oZD24).run Try.prog (wr) = .ok (.value (.int .u32 (a : Int))) (wr) := by
    unfold oZD24
    have e162 := (show a0_36.eval (.tmp 162) = .int .i64 (a : Int) from (fa0_36.at_ 162))
    clear fa0_36 hQ h17 h18
    generalize a0_36.eval = ρ at *
    go_simp
  refine fa0_36.step 163 (.int .u32 (a : Int)) rfl (lb_ I0.size) ((wanted_at (t := 153) (c := false) (b := false) rfl rfl rfl (lb_ (fa0_36.size.trans I0.size)) (fa0_36.at_ 153)).trans (by rfl)) r_a0_37 (fun a0_37 fa0_37 => ?_)
  clear r_a0_37
  clear fa0_36
  have r_a0_38 : (execOp a0_37.eval oZD25).run Try.prog (wr) = .ok (.value (.bool false)) (wr) := by
    unfold oZD25
    have e160 := (show a0_37.eval (.tmp 160) = .int .u32 (a : Int) from (fa0_37.at_ 160))
    have e163 := (show a0_37.eval (.tmp 163) = .int .u32 (a : Int) from (fa0_37.at_ 163))
    clear fa0_37 hQ h17 h18
    generalize a0_37.eval = ρ at *
    go_simp
  refine fa0_37.step 164 (.bool false) rfl (lb_ I0.size) ((wanted_at (t := 153) (c := false) (b := false) rfl rfl rfl (lb_ (fa0_37.size.trans I0.size)) (fa0_37.at_ 153)).trans (by rfl)) r_a0_38 (fun a0_38 fa0_38 => ?_)
  clear r_a0_38
  clear fa0_37
  have r_a0_39 : (execOp a0_38.eval oZD26).run Try.prog (wr) = .ok (.value (.bool false)) (wr) := by
    unfold oZD26
    have kc : ∀ v, a0_38.eval (.const v) = v := fun _ => rfl
    have e153 := (show a0_38.eval (.tmp 153) = .bool false from (fa0_38.at_ 153))
    have e164 := (show a0_38.eval (.tmp 164) = .bool false from (fa0_38.at_ 164))
    clear fa0_38 hQ h17 h18
    generalize a0_38.eval = ρ at *
    go_simp
  refine fa0_38.step 165 (.bool false) rfl (lb_ I0.size) ((wanted_at (t := 141) (c := true) (b := true) rfl rfl rfl (lb_ (fa0_38.size.trans I0.size)) (fa0_38.at_ 141)).trans (by rfl)) r_a0_39 (fun a0_39 fa0_39 => ?_)
  clear r_a0_39
  clear fa0_38
  have r_a0_40 : (execOp a0_39.eval oZD27).run Try.prog (wr) = .ok (.value (.bool false)) (wr) := by
    unfold oZD27
    have kc : ∀ v, a0_39.eval (.const v) = v := fun _ => rfl
    have e141 := (show a0_39.eval (.tmp 141) = .bool true from (fa0_39.at_ 141))
    have e165 := (show a0_39.eval (.tmp 165) = .bool false from (fa0_39.at_ 165))
    clear fa0_39 hQ h17 h18
    generalize a0_39.eval = ρ at *
    go_simp
  refine fa0_39.step 166 (.bool false) rfl (lb_ I0.size) (wanted_none rfl) r_a0_40 (fun a0_40 fa0_40 => ?_)
  clear r_a0_40
  clear fa0_39
  refine fa0_40.move 167 (.bool false) _ (Or.inl rfl) rfl (lb_ I0.size) (wanted_none rfl) (fa0_40.at_ 166) (fun a0_41 fa0_41 => ?_)
  clear fa0_40
  refine fa0_41.move 168 (.int .i64 (k : Int)) _ (Or.inl rfl) rfl (lb_ I0.size) ((wanted_at (t := 167) (c := false) (b := false) rfl rfl rfl (lb_ (fa0_41.size.trans I0.size)) (fa0_41.at_ 167)).trans (by rfl)) ((fa0_41.at_ 18).trans h18) (fun a0_42 fa0_42 => ?_)
  clear fa0_41
  refine fa0_42.move 169 (.slice (some ⟨lb, lo, none⟩) n lc) _ (Or.inl rfl) rfl (lb_ I0.size) ((wanted_at (t := 167) (c := false) (b := false) rfl rfl rfl (lb_ (fa0_42.size.trans I0.size)) (fa0_42.at_ 167)).trans (by rfl)) ((fa0_42.at_ 0).trans I0.s0) (fun a0_43 fa0_43 => ?_)
  clear fa0_42
  refine fa0_43.move 170 (.int .i64 (i : Int)) _ (Or.inl rfl) rfl (lb_ I0.size) ((wanted_at (t := 167) (c := false) (b := false) rfl rfl rfl (lb_ (fa0_43.size.trans I0.size)) (fa0_43.at_ 167)).trans (by rfl)) ((fa0_43.at_ 17).trans h17) (fun a0_44 fa0_44 => ?_)
  clear fa0_43
  have r_a0_45 : (execOp a0_44.eval oZD28).run Try.prog (wr) = .ok (.value (.pointer (some ⟨lb, lo + i, none⟩))) (wr) := by
    unfold oZD28
    have e169 := (show a0_44.eval (.tmp 169) = .slice (some ⟨lb, lo, none⟩) n lc from (fa0_44.at_ 169))
    have e170 := (show a0_44.eval (.tmp 170) = .int .i64 (i : Int) from (fa0_44.at_ 170))
    clear fa0_44 hQ h17 h18
    generalize a0_44.eval = ρ at *
    go_simp
  refine fa0_44.step 171 (.pointer (some ⟨lb, lo + i, none⟩)) rfl (lb_ I0.size) ((wanted_at (t := 167) (c := false) (b := false) rfl rfl rfl (lb_ (fa0_44.size.trans I0.size)) (fa0_44.at_ 167)).trans (by rfl)) r_a0_45 (fun a0_45 fa0_45 => ?_)
  clear r_a0_45
  clear fa0_44
  have r_a0_46 : (execOp a0_45.eval oZD29).run Try.prog (wr) = .ok (.value (.slice (some ⟨gx, 0, none⟩) xn xc)) (wr) := by
    unfold oZD29
    have e171 := (show a0_45.eval (.tmp 171) = .pointer (some ⟨lb, lo + i, none⟩) from (fa0_45.at_ 171))
    clear fa0_45 hQ h17 h18
    generalize a0_45.eval = ρ at *
    go_simp
  refine fa0_45.step 172 (.slice (some ⟨gx, 0, none⟩) xn xc) rfl (lb_ I0.size) ((wanted_at (t := 167) (c := false) (b := false) rfl rfl rfl (lb_ (fa0_45.size.trans I0.size)) (fa0_45.at_ 167)).trans (by rfl)) r_a0_46 (fun a0_46 fa0_46 => ?_)
  clear r_a0_46
  clear fa0_45
  have r_a0_47 : (execOp a0_46.eval oZD30).run Try.prog (wr) = .ok (.value (.int .i64 (xn : Int))) (wr) := by
    unfold oZD30
    have e172 := (show a0_46.eval (.tmp 172) = .slice (some ⟨gx, 0, none⟩) xn xc from (fa0_46.at_ 172))
    clear fa0_46 hQ h17 h18
    generalize a0_46.eval = ρ at *
    go_simp
  refine fa0_46.step 173 (.int .i64 (xn : Int)) rfl (lb_ I0.size) ((wanted_at (t := 167) (c := false) (b := false) rfl rfl rfl (lb_ (fa0_46.size.trans I0.size)) (fa0_46.at_ 167)).trans (by rfl)) r_a0_47 (fun a0_47 fa0_47 => ?_)
  clear r_a0_47
  clear fa0_46
  have r_a0_48 : (execOp a0_47.eval oZD31).run Try.prog (wr) = .ok (.value (.bool false)) (wr) := by
    unfold oZD31
    have e168 := (show a0_47.eval (.tmp 168) = .int .i64 (k : Int) from (fa0_47.at_ 168))
    have e173 := (show a0_47.eval (.tmp 173) = .int .i64 (xn : Int) from (fa0_47.at_ 173))
    clear fa0_47 hQ h17 h18
    generalize a0_47.eval = ρ at *
    go_simp
  refine fa0_47.step 174 (.bool false) rfl (lb_ I0.size) ((wanted_at (t := 167) (c := false) (b := false) rfl rfl rfl (lb_ (fa0_47.size.trans I0.size)) (fa0_47.at_ 167)).trans (by rfl)) r_a0_48 (fun a0_48 fa0_48 => ?_)
  clear r_a0_48
  clear fa0_47
  refine fa0_48.move 175 (.bool false) _ (Or.inl rfl) rfl (lb_ I0.size) ((wanted_at (t := 167) (c := false) (b := false) rfl rfl rfl (lb_ (fa0_48.size.trans I0.size)) (fa0_48.at_ 167)).trans (by rfl)) (fa0_48.at_ 174) (fun a0_49 fa0_49 => ?_)
  clear fa0_48
  refine fa0_49.skip 176 rfl (lb_ I0.size) ((wanted_at (t := 175) (c := false) (b := true) rfl rfl rfl (lb_ (fa0_49.size.trans I0.size)) (fa0_49.at_ 175)).trans (by rfl)) (fun a0_50 fa0_50 => ?_)
  clear fa0_49
  refine fa0_50.skip 177 rfl (lb_ I0.size) ((wanted_at (t := 175) (c := false) (b := true) rfl rfl rfl (lb_ (fa0_50.size.trans I0.size)) (fa0_50.at_ 175)).trans (by rfl)) (fun a0_51 fa0_51 => ?_)
  clear fa0_50
  refine fa0_51.skip 178 rfl (lb_ I0.size) ((wanted_at (t := 175) (c := false) (b := true) rfl rfl rfl (lb_ (fa0_51.size.trans I0.size)) (fa0_51.at_ 175)).trans (by rfl)) (fun a0_52 fa0_52 => ?_)
  clear fa0_51
  refine fa0_52.skip 179 rfl (lb_ I0.size) ((wanted_at (t := 175) (c := false) (b := true) rfl rfl rfl (lb_ (fa0_52.size.trans I0.size)) (fa0_52.at_ 175)).trans (by rfl)) (fun a0_53 fa0_53 => ?_)
  clear fa0_52
  refine fa0_53.skip 180 rfl (lb_ I0.size) ((wanted_at (t := 175) (c := false) (b := true) rfl rfl rfl (lb_ (fa0_53.size.trans I0.size)) (fa0_53.at_ 175)).trans (by rfl)) (fun a0_54 fa0_54 => ?_)
  clear fa0_53
  refine fa0_54.skip 181 rfl (lb_ I0.size) ((wanted_at (t := 175) (c := false) (b := true) rfl rfl rfl (lb_ (fa0_54.size.trans I0.size)) (fa0_54.at_ 175)).trans (by rfl)) (fun a0_55 fa0_55 => ?_)
  clear fa0_54
  refine fa0_55.skip 182 rfl (lb_ I0.size) ((wanted_at (t := 175) (c := false) (b := true) rfl rfl rfl (lb_ (fa0_55.size.trans I0.size)) (fa0_55.at_ 175)).trans (by rfl)) (fun a0_56 fa0_56 => ?_)
  clear fa0_55
  refine fa0_56.skip 183 rfl (lb_ I0.size) ((wanted_at (t := 175) (c := false) (b := true) rfl rfl rfl (lb_ (fa0_56.size.trans I0.size)) (fa0_56.at_ 175)).trans (by rfl)) (fun a0_57 fa0_57 => ?_)
  clear fa0_56
  refine fa0_57.skip 184 rfl (lb_ I0.size) ((wanted_at (t := 175) (c := false) (b := true) rfl rfl rfl (lb_ (fa0_57.size.trans I0.size)) (fa0_57.at_ 175)).trans (by rfl)) (fun a0_58 fa0_58 => ?_)
  clear fa0_57
  refine fa0_58.skip 185 rfl (lb_ I0.size) ((wanted_at (t := 175) (c := false) (b := true) rfl rfl rfl (lb_ (fa0_58.size.trans I0.size)) (fa0_58.at_ 175)).trans (by rfl)) (fun a0_59 fa0_59 => ?_)
  clear fa0_58
  refine fa0_59.skip 186 rfl (lb_ I0.size) ((wanted_at (t := 175) (c := false) (b := true) rfl rfl rfl (lb_ (fa0_59.size.trans I0.size)) (fa0_59.at_ 175)).trans (by rfl)) (fun a0_60 fa0_60 => ?_)
  clear fa0_59
  have r_a0_61 : (execOp a0_60.eval oZD39).run Try.prog (wr) = .ok (.value (.bool false)) (wr) := by
    unfold oZD39
    have kc : ∀ v, a0_60.eval (.const v) = v := fun _ => rfl
    have e175 := (show a0_60.eval (.tmp 175) = .bool false from (fa0_60.at_ 175))
    have e186 := (show a0_60.eval (.tmp 186) = undef from (fa0_60.at_ 186))
    clear fa0_60 hQ h17 h18
    generalize a0_60.eval = ρ at *
    go_simp
  refine fa0_60.step 187 (.bool false) rfl (lb_ I0.size) ((wanted_at (t := 167) (c := false) (b := false) rfl rfl rfl (lb_ (fa0_60.size.trans I0.size)) (fa0_60.at_ 167)).trans (by rfl)) r_a0_61 (fun a0_61 fa0_61 => ?_)
  clear r_a0_61
  clear fa0_60
  have r_a0_62 : (execOp a0_61.eval oZD40).run Try.prog (wr) = .ok (.value (.bool false)) (wr) := by
    unfold oZD40
    have kc : ∀ v, a0_61.eval (.const v) = v := fun _ => rfl
    have e167 := (show a0_61.eval (.tmp 167) = .bool false from (fa0_61.at_ 167))
    have e187 := (show a0_61.eval (.tmp 187) = .bool false from (fa0_61.at_ 187))
    clear fa0_61 hQ h17 h18
    generalize a0_61.eval = ρ at *
    go_simp
  refine fa0_61.step 188 (.bool false) rfl (lb_ I0.size) (wanted_none rfl) r_a0_62 (fun a0_62 fa0_62 => ?_)
  clear r_a0_62
  clear fa0_61
  refine wpList_nil ?_
  change Code.wp _ _ _ _ _
  refine wp_cond_false (show a0_62.eval (.tmp 188) = .bool false from (fa0_62.at_ 188)) (wp_skip ?_)
  change Code.wp _ _ _ _ _
  refine wp_region_list ?_
  unfold rAP40
  refine fa0_62.move 132 (.int .i64 (k : Int)) _ (Or.inl rfl) rfl (lb_ I0.size) (wanted_none rfl) ((fa0_62.at_ 18).trans h18) (fun a0_63 fa0_63 => ?_)
  clear fa0_62
  have r_a0_64 : (execOp a0_63.eval oZD7).run Try.prog (wr) = .ok (.value (.int .i64 ((k : Int) + 1))) (wr) := by
    unfold oZD7
    have kc : ∀ v, a0_63.eval (.const v) = v := fun _ => rfl
    have e132 := (show a0_63.eval (.tmp 132) = .int .i64 (k : Int) from (fa0_63.at_ 132))
    clear fa0_63 hQ h17 h18
    generalize a0_63.eval = ρ at *
    go_simp
  refine fa0_63.step 133 (.int .i64 ((k : Int) + 1)) rfl (lb_ I0.size) (wanted_none rfl) r_a0_64 (fun a0_64 fa0_64 => ?_)
  clear r_a0_64
  clear fa0_63
  refine fa0_64.move 18 (.int .i64 ((k : Int) + 1)) _ (Or.inr rfl) rfl (lb_ I0.size) (wanted_none rfl) (fa0_64.at_ 133) (fun a0_65 fa0_65 => ?_)
  clear fa0_64
  refine wpList_nil ?_
  exact hQ a0_65 (I0.keep fa0_65 rfl rfl rfl rfl) (show a0_65.eval (.tmp 17) = .int .i64 (i : Int) from ((fa0_65.at_ 17).trans h17)) (show a0_65.eval (.tmp 18) = .int .i64 ((k : Int) + 1) from (fa0_65.at_ 18))
set_option maxRecDepth 100000 in
set_option maxHeartbeats 1000000 in
theorem eUM {v1 v13 : Value} {lb lo n lc gm mc gy yn yc i k a b xn xc : Nat} {xa : Option Addr} {Q : Exit → Act → World → Prop} (a0 : Act) (wr : World) (I0 : IZ (.slice (some ⟨lb, lo, none⟩) n lc) v1 (.slice (some ⟨gm, 0, none⟩) n mc) v13 a0) (h17 : a0.eval (.tmp 17) = .int .i64 (i : Int)) (h18 : a0.eval (.tmp 18) = .int .i64 (k : Int))
    (hi : i < n) (hn : n ≤ 4000000) (ha : a = 100000 + i) (hb : b = 300000 + i) (hkx : xn ≤ k) (hky : k < yn) (hyb : yn ≤ 1099511627776) (c1 : wr.cell? ⟨lb, lo + i, none⟩ = some (.slice xa xn xc)) (c2 : wr.cell? ⟨gm, i, none⟩ = some (.slice (some ⟨gy, 0, none⟩) yn yc)) (c3 : wr.cell? ⟨gy, k, none⟩ = some (.int .u32 (b : Int)))
    (hQ : ∀ a', IZ (.slice (some ⟨lb, lo, none⟩) n lc) v1 (.slice (some ⟨gm, 0, none⟩) n mc) v13 a' → a'.eval (.tmp 17) = .int .i64 (i : Int) → a'.eval (.tmp 18) = .int .i64 ((k : Int) + 1) → Q .normal a' wr) : cEU2.wp Try.prog Q a0 wr := by
  have hii : (i : Int) < (n : Int) := by omega
  have hki : (k : Int) < (yn : Int) := by omega
  have w1 : RowKit.wrap64 (100000 + (i : Int)) = (a : Int) := by unfold RowKit.wrap64; omega
  have w2 : IntKind.u32.wrap (a : Int) = (a : Int) := by rw [IntKind.wrap_u32]; omega
  have w3 : RowKit.wrap64 (300000 + (i : Int)) = (b : Int) := by unfold RowKit.wrap64; omega
  have w4 : IntKind.u32.wrap (b : Int) = (b : Int) := by rw [IntKind.wrap_u32]; omega
  have w5 : IntKind.i64.wrap (100000 + (i : Int)) = (a : Int) := by rw [IntKind.wrap_i64]; omega
  have w6 : IntKind.i64.wrap (300000 + (i : Int)) = (b : Int) := by rw [IntKind.wrap_i64]; omega
  have w7 : IntKind.i64.wrap ((k : Int) + 1) = (k : Int) + 1 := by rw [IntKind.wrap_i64]; omega
  have hkxi : (xn : Int) ≤ (k : Int) := by omega
  have hkxd : decide ((k : Int) < (xn : Int)) = false := decide_eq_false (by omega)
  clear hi hky hyb ha hb
  have fa0_0 := Fe.refl a0
  unfold cEU2
  refine wp_seq (wp_seq ?_)
  refine wp_region_list ?_
  unfold rAP39
  refine fa0_0.move 125 (.int .i64 (k : Int)) _ (Or.inl rfl) rfl (lb_ I0.size) (wanted_none rfl) ((fa0_0.at_ 18).trans h18) (fun a0_1 fa0_1 => ?_)
  clear fa0_0
  refine fa0_1.move 126 (.slice (some ⟨gm, 0, none⟩) n mc) _ (Or.inl rfl) rfl (lb_ I0.size) (wanted_none rfl) ((fa0_1.at_ 9).trans I0.s9) (fun a0_2 fa0_2 => ?_)
  clear fa0_1
  refine fa0_2.move 127 (.int .i64 (i : Int)) _ (Or.inl rfl) rfl (lb_ I0.size) (wanted_none rfl) ((fa0_2.at_ 17).trans h17) (fun a0_3 fa0_3 => ?_)
  clear fa0_2
  have r_a0_4 : (execOp a0_3.eval oZD3).run Try.prog (wr) = .ok (.value (.pointer (some ⟨gm, i, none⟩))) (wr) := by
    unfold oZD3
    have e126 := (show a0_3.eval (.tmp 126) = .slice (some ⟨gm, 0, none⟩) n mc from (fa0_3.at_ 126))
    have e127 := (show a0_3.eval (.tmp 127) = .int .i64 (i : Int) from (fa0_3.at_ 127))
    clear fa0_3 hQ h17 h18
    generalize a0_3.eval = ρ at *
    go_simp
  refine fa0_3.step 128 (.pointer (some ⟨gm, i, none⟩)) rfl (lb_ I0.size) (wanted_none rfl) r_a0_4 (fun a0_4 fa0_4 => ?_)
  clear r_a0_4
  clear fa0_3
  have r_a0_5 : (execOp a0_4.eval oZD4).run Try.prog (wr) = .ok (.value (.slice (some ⟨gy, 0, none⟩) yn yc)) (wr) := by
    unfold oZD4
    have e128 := (show a0_4.eval (.tmp 128) = .pointer (some ⟨gm, i, none⟩) from (fa0_4.at_ 128))
    clear fa0_4 hQ h17 h18
    generalize a0_4.eval = ρ at *
    go_simp
  refine fa0_4.step 129 (.slice (some ⟨gy, 0, none⟩) yn yc) rfl (lb_ I0.size) (wanted_none rfl) r_a0_5 (fun a0_5 fa0_5 => ?_)
  clear r_a0_5
  clear fa0_4
  have r_a0_6 : (execOp a0_5.eval oZD5).run Try.prog (wr) = .ok (.value (.int .i64 (yn : Int))) (wr) := by
    unfold oZD5
    have e129 := (show a0_5.eval (.tmp 129) = .slice (some ⟨gy, 0, none⟩) yn yc from (fa0_5.at_ 129))
    clear fa0_5 hQ h17 h18
    generalize a0_5.eval = ρ at *
    go_simp
  refine fa0_5.step 130 (.int .i64 (yn : Int)) rfl (lb_ I0.size) (wanted_none rfl) r_a0_6 (fun a0_6 fa0_6 => ?_)
  clear r_a0_6
  clear fa0_5
  have r_a0_7 : (execOp a0_6.eval oZD6).run Try.prog (wr) = .ok (.value (.bool true)) (wr) := by
    unfold oZD6
    have e125 := (show a0_6.eval (.tmp 125) = .int .i64 (k : Int) from (fa0_6.at_ 125))
    have e130 := (show a0_6.eval (.tmp 130) = .int .i64 (yn : Int) from (fa0_6.at_ 130))
    clear fa0_6 hQ h17 h18
    generalize a0_6.eval = ρ at *
    go_simp
  refine fa0_6.step 131 (.bool true) rfl (lb_ I0.size) (wanted_none rfl) r_a0_7 (fun a0_7 fa0_7 => ?_)
  clear r_a0_7
  clear fa0_6
  refine wpList_nil ?_
  change Code.wp _ _ _ _ _
  refine wp_cond_true (show a0_7.eval (.tmp 131) = .bool true from (fa0_7.at_ 131)) (wp_skip ?_)
  change Code.wp _ _ _ _ _
  refine wp_seq (wp_block (wp_seq ?_))
  refine wp_region_list ?_
  unfold rAP41
  refine fa0_7.move 134 (.int .i64 (k : Int)) _ (Or.inl rfl) rfl (lb_ I0.size) (wanted_none rfl) ((fa0_7.at_ 18).trans h18) (fun a0_8 fa0_8 => ?_)
  clear fa0_7
  refine fa0_8.move 135 (.slice (some ⟨lb, lo, none⟩) n lc) _ (Or.inl rfl) rfl (lb_ I0.size) (wanted_none rfl) ((fa0_8.at_ 0).trans I0.s0) (fun a0_9 fa0_9 => ?_)
  clear fa0_8
  refine fa0_9.move 136 (.int .i64 (i : Int)) _ (Or.inl rfl) rfl (lb_ I0.size) (wanted_none rfl) ((fa0_9.at_ 17).trans h17) (fun a0_10 fa0_10 => ?_)
  clear fa0_9
  have r_a0_11 : (execOp a0_10.eval oZD8).run Try.prog (wr) = .ok (.value (.pointer (some ⟨lb, lo + i, none⟩))) (wr) := by
    unfold oZD8
    have e135 := (show a0_10.eval (.tmp 135) = .slice (some ⟨lb, lo, none⟩) n lc from (fa0_10.at_ 135))
    have e136 := (show a0_10.eval (.tmp 136) = .int .i64 (i : Int) from (fa0_10.at_ 136))
    clear fa0_10 hQ h17 h18
    generalize a0_10.eval = ρ at *
    go_simp
  refine fa0_10.step 137 (.pointer (some ⟨lb, lo + i, none⟩)) rfl (lb_ I0.size) (wanted_none rfl) r_a0_11 (fun a0_11 fa0_11 => ?_)
  clear r_a0_11
  clear fa0_10
  have r_a0_12 : (execOp a0_11.eval oZD9).run Try.prog (wr) = .ok (.value (.slice xa xn xc)) (wr) := by
    unfold oZD9
    have e137 := (show a0_11.eval (.tmp 137) = .pointer (some ⟨lb, lo + i, none⟩) from (fa0_11.at_ 137))
    clear fa0_11 hQ h17 h18
    generalize a0_11.eval = ρ at *
    go_simp
  refine fa0_11.step 138 (.slice xa xn xc) rfl (lb_ I0.size) (wanted_none rfl) r_a0_12 (fun a0_12 fa0_12 => ?_)
  clear r_a0_12
  clear fa0_11
  have r_a0_13 : (execOp a0_12.eval oZD10).run Try.prog (wr) = .ok (.value (.int .i64 (xn : Int))) (wr) := by
    unfold oZD10
    have e138 := (show a0_12.eval (.tmp 138) = .slice xa xn xc from (fa0_12.at_ 138))
    clear fa0_12 hQ h17 h18
    generalize a0_12.eval = ρ at *
    go_simp
  refine fa0_12.step 139 (.int .i64 (xn : Int)) rfl (lb_ I0.size) (wanted_none rfl) r_a0_13 (fun a0_13 fa0_13 => ?_)
  clear r_a0_13
  clear fa0_12
  have r_a0_14 : (execOp a0_13.eval oZD11).run Try.prog (wr) = .ok (.value (.bool false)) (wr) := by
    unfold oZD11
    have e134 := (show a0_13.eval (.tmp 134) = .int .i64 (k : Int) from (fa0_13.at_ 134))
    have e139 := (show a0_13.eval (.tmp 139) = .int .i64 (xn : Int) from (fa0_13.at_ 139))
    clear fa0_13 hQ h17 h18
    generalize a0_13.eval = ρ at *
    go_simp
  refine fa0_13.step 140 (.bool false) rfl (lb_ I0.size) (wanted_none rfl) r_a0_14 (fun a0_14 fa0_14 => ?_)
  clear r_a0_14
  clear fa0_13
  refine fa0_14.move 141 (.bool false) _ (Or.inl rfl) rfl (lb_ I0.size) (wanted_none rfl) (fa0_14.at_ 140) (fun a0_15 fa0_15 => ?_)
  clear fa0_14
  refine fa0_15.skip 142 rfl (lb_ I0.size) ((wanted_at (t := 141) (c := false) (b := true) rfl rfl rfl (lb_ (fa0_15.size.trans I0.size)) (fa0_15.at_ 141)).trans (by rfl)) (fun a0_16 fa0_16 => ?_)
  clear fa0_15
  refine fa0_16.skip 143 rfl (lb_ I0.size) ((wanted_at (t := 141) (c := false) (b := true) rfl rfl rfl (lb_ (fa0_16.size.trans I0.size)) (fa0_16.at_ 141)).trans (by rfl)) (fun a0_17 fa0_17 => ?_)
  clear fa0_16
  refine fa0_17.skip 144 rfl (lb_ I0.size) ((wanted_at (t := 141) (c := false) (b := true) rfl rfl rfl (lb_ (fa0_17.size.trans I0.size)) (fa0_17.at_ 141)).trans (by rfl)) (fun a0_18 fa0_18 => ?_)
  clear fa0_17
  refine fa0_18.skip 145 rfl (lb_ I0.size) ((wanted_at (t := 141) (c := false) (b := true) rfl rfl rfl (lb_ (fa0_18.size.trans I0.size)) (fa0_18.at_ 141)).trans (by rfl)) (fun a0_19 fa0_19 => ?_)
  clear fa0_18
  refine fa0_19.skip 146 rfl (lb_ I0.size) ((wanted_at (t := 141) (c := false) (b := true) rfl rfl rfl (lb_ (fa0_19.size.trans I0.size)) (fa0_19.at_ 141)).trans (by rfl)) (fun a0_20 fa0_20 => ?_)
  clear fa0_19
  refine fa0_20.skip 147 rfl (lb_ I0.size) ((wanted_at (t := 141) (c := false) (b := true) rfl rfl rfl (lb_ (fa0_20.size.trans I0.size)) (fa0_20.at_ 141)).trans (by rfl)) (fun a0_21 fa0_21 => ?_)
  clear fa0_20
  refine fa0_21.skip 148 rfl (lb_ I0.size) ((wanted_at (t := 141) (c := false) (b := true) rfl rfl rfl (lb_ (fa0_21.size.trans I0.size)) (fa0_21.at_ 141)).trans (by rfl)) (fun a0_22 fa0_22 => ?_)
  clear fa0_21
  refine fa0_22.skip 149 rfl (lb_ I0.size) ((wanted_at (t := 141) (c := false) (b := true) rfl rfl rfl (lb_ (fa0_22.size.trans I0.size)) (fa0_22.at_ 141)).trans (by rfl)) (fun a0_23 fa0_23 => ?_)
  clear fa0_22
  refine fa0_23.skip 150 rfl (lb_ I0.size) ((wanted_at (t := 141) (c := false) (b := true) rfl rfl rfl (lb_ (fa0_23.size.trans I0.size)) (fa0_23.at_ 141)).trans (by rfl)) (fun a0_24 fa0_24 => ?_)
  clear fa0_23
  refine fa0_24.skip 151 rfl (lb_ I0.size) ((wanted_at (t := 141) (c := false) (b := true) rfl rfl rfl (lb_ (fa0_24.size.trans I0.size)) (fa0_24.at_ 141)).trans (by rfl)) (fun a0_25 fa0_25 => ?_)
  clear fa0_24
  refine fa0_25.skip 152 rfl (lb_ I0.size) ((wanted_at (t := 141) (c := false) (b := true) rfl rfl rfl (lb_ (fa0_25.size.trans I0.size)) (fa0_25.at_ 141)).trans (by rfl)) (fun a0_26 fa0_26 => ?_)
  clear fa0_25
  refine fa0_26.skip 153 rfl (lb_ I0.size) ((wanted_at (t := 141) (c := false) (b := true) rfl rfl rfl (lb_ (fa0_26.size.trans I0.size)) (fa0_26.at_ 141)).trans (by rfl)) (fun a0_27 fa0_27 => ?_)
  clear fa0_26
  refine fa0_27.skip 154 rfl (lb_ I0.size) (wanted_undef (t := 153) rfl rfl rfl (lb_ (fa0_27.size.trans I0.size)) (fa0_27.at_ 153)) (fun a0_28 fa0_28 => ?_)
  clear fa0_27
  refine fa0_28.skip 155 rfl (lb_ I0.size) (wanted_undef (t := 153) rfl rfl rfl (lb_ (fa0_28.size.trans I0.size)) (fa0_28.at_ 153)) (fun a0_29 fa0_29 => ?_)
  clear fa0_28
  refine fa0_29.skip 156 rfl (lb_ I0.size) (wanted_undef (t := 153) rfl rfl rfl (lb_ (fa0_29.size.trans I0.size)) (fa0_29.at_ 153)) (fun a0_30 fa0_30 => ?_)
  clear fa0_29
  refine fa0_30.skip 157 rfl (lb_ I0.size) (wanted_undef (t := 153) rfl rfl rfl (lb_ (fa0_30.size.trans I0.size)) (fa0_30.at_ 153)) (fun a0_31 fa0_31 => ?_)
  clear fa0_30
  refine fa0_31.skip 158 rfl (lb_ I0.size) (wanted_undef (t := 153) rfl rfl rfl (lb_ (fa0_31.size.trans I0.size)) (fa0_31.at_ 153)) (fun a0_32 fa0_32 => ?_)
  clear fa0_31
  refine fa0_32.skip 159 rfl (lb_ I0.size) (wanted_undef (t := 153) rfl rfl rfl (lb_ (fa0_32.size.trans I0.size)) (fa0_32.at_ 153)) (fun a0_33 fa0_33 => ?_)
  clear fa0_32
  refine fa0_33.skip 160 rfl (lb_ I0.size) (wanted_undef (t := 153) rfl rfl rfl (lb_ (fa0_33.size.trans I0.size)) (fa0_33.at_ 153)) (fun a0_34 fa0_34 => ?_)
  clear fa0_33
  refine fa0_34.skip 161 rfl (lb_ I0.size) (wanted_undef (t := 153) rfl rfl rfl (lb_ (fa0_34.size.trans I0.size)) (fa0_34.at_ 153)) (fun a0_35 fa0_35 => ?_)
  clear fa0_34
  refine fa0_35.skip 162 rfl (lb_ I0.size) (wanted_undef (t := 153) rfl rfl rfl (lb_ (fa0_35.size.trans I0.size)) (fa0_35.at_ 153)) (fun a0_36 fa0_36 => ?_)
  clear fa0_35
  refine fa0_36.skip 163 rfl (lb_ I0.size) (wanted_undef (t := 153) rfl rfl rfl (lb_ (fa0_36.size.trans I0.size)) (fa0_36.at_ 153)) (fun a0_37 fa0_37 => ?_)
  clear fa0_36
  refine fa0_37.skip 164 rfl (lb_ I0.size) (wanted_undef (t := 153) rfl rfl rfl (lb_ (fa0_37.size.trans I0.size)) (fa0_37.at_ 153)) (fun a0_38 fa0_38 => ?_)
  clear fa0_37
  refine fa0_38.skip 165 rfl (lb_ I0.size) ((wanted_at (t := 141) (c := false) (b := true) rfl rfl rfl (lb_ (fa0_38.size.trans I0.size)) (fa0_38.at_ 141)).trans (by rfl)) (fun a0_39 fa0_39 => ?_)
  clear fa0_38
  have r_a0_40 : (execOp a0_39.eval oZD27).run Try.prog (wr) = .ok (.value (.bool false)) (wr) := by
    unfold oZD27
    have kc : ∀ v, a0_39.eval (.const v) = v := fun _ => rfl
    have e141 := (show a0_39.eval (.tmp 141) = .bool false from (fa0_39.at_ 141))
    have e165 := (show a0_39.eval (.tmp 165) = undef from (fa0_39.at_ 165))
    clear fa0_39 hQ h17 h18
    generalize a0_39.eval = ρ at *
    go_simp
  refine fa0_39.step 166 (.bool false) rfl (lb_ I0.size) (wanted_none rfl) r_a0_40 (fun a0_40 fa0_40 => ?_)
  clear r_a0_40
  clear fa0_39
  refine fa0_40.move 167 (.bool false) _ (Or.inl rfl) rfl (lb_ I0.size) (wanted_none rfl) (fa0_40.at_ 166) (fun a0_41 fa0_41 => ?_)
  clear fa0_40
  refine fa0_41.move 168 (.int .i64 (k : Int)) _ (Or.inl rfl) rfl (lb_ I0.size) ((wanted_at (t := 167) (c := false) (b := false) rfl rfl rfl (lb_ (fa0_41.size.trans I0.size)) (fa0_41.at_ 167)).trans (by rfl)) ((fa0_41.at_ 18).trans h18) (fun a0_42 fa0_42 => ?_)
  clear fa0_41
  refine fa0_42.move 169 (.slice (some ⟨lb, lo, none⟩) n lc) _ (Or.inl rfl) rfl (lb_ I0.size) ((wanted_at (t := 167) (c := false) (b := false) rfl rfl rfl (lb_ (fa0_42.size.trans I0.size)) (fa0_42.at_ 167)).trans (by rfl)) ((fa0_42.at_ 0).trans I0.s0) (fun a0_43 fa0_43 => ?_)
  clear fa0_42
  refine fa0_43.move 170 (.int .i64 (i : Int)) _ (Or.inl rfl) rfl (lb_ I0.size) ((wanted_at (t := 167) (c := false) (b := false) rfl rfl rfl (lb_ (fa0_43.size.trans I0.size)) (fa0_43.at_ 167)).trans (by rfl)) ((fa0_43.at_ 17).trans h17) (fun a0_44 fa0_44 => ?_)
  clear fa0_43
  have r_a0_45 : (execOp a0_44.eval oZD28).run Try.prog (wr) = .ok (.value (.pointer (some ⟨lb, lo + i, none⟩))) (wr) := by
    unfold oZD28
    have e169 := (show a0_44.eval (.tmp 169) = .slice (some ⟨lb, lo, none⟩) n lc from (fa0_44.at_ 169))
    have e170 := (show a0_44.eval (.tmp 170) = .int .i64 (i : Int) from (fa0_44.at_ 170))
    clear fa0_44 hQ h17 h18
    generalize a0_44.eval = ρ at *
    go_simp
  refine fa0_44.step 171 (.pointer (some ⟨lb, lo + i, none⟩)) rfl (lb_ I0.size) ((wanted_at (t := 167) (c := false) (b := false) rfl rfl rfl (lb_ (fa0_44.size.trans I0.size)) (fa0_44.at_ 167)).trans (by rfl)) r_a0_45 (fun a0_45 fa0_45 => ?_)
  clear r_a0_45
  clear fa0_44
  have r_a0_46 : (execOp a0_45.eval oZD29).run Try.prog (wr) = .ok (.value (.slice xa xn xc)) (wr) := by
    unfold oZD29
    have e171 := (show a0_45.eval (.tmp 171) = .pointer (some ⟨lb, lo + i, none⟩) from (fa0_45.at_ 171))
    clear fa0_45 hQ h17 h18
    generalize a0_45.eval = ρ at *
    go_simp
  refine fa0_45.step 172 (.slice xa xn xc) rfl (lb_ I0.size) ((wanted_at (t := 167) (c := false) (b := false) rfl rfl rfl (lb_ (fa0_45.size.trans I0.size)) (fa0_45.at_ 167)).trans (by rfl)) r_a0_46 (fun a0_46 fa0_46 => ?_)
  clear r_a0_46
  clear fa0_45
  have r_a0_47 : (execOp a0_46.eval oZD30).run Try.prog (wr) = .ok (.value (.int .i64 (xn : Int))) (wr) := by
    unfold oZD30
    have e172 := (show a0_46.eval (.tmp 172) = .slice xa xn xc from (fa0_46.at_ 172))
    clear fa0_46 hQ h17 h18
    generalize a0_46.eval = ρ at *
    go_simp
  refine fa0_46.step 173 (.int .i64 (xn : Int)) rfl (lb_ I0.size) ((wanted_at (t := 167) (c := false) (b := false) rfl rfl rfl (lb_ (fa0_46.size.trans I0.size)) (fa0_46.at_ 167)).trans (by rfl)) r_a0_47 (fun a0_47 fa0_47 => ?_)
  clear r_a0_47
  clear fa0_46
  have r_a0_48 : (execOp a0_47.eval oZD31).run Try.prog (wr) = .ok (.value (.bool true)) (wr) := by
    unfold oZD31
    have e168 := (show a0_47.eval (.tmp 168) = .int .i64 (k : Int) from (fa0_47.at_ 168))
    have e173 := (show a0_47.eval (.tmp 173) = .int .i64 (xn : Int) from (fa0_47.at_ 173))
    clear fa0_47 hQ h17 h18
    generalize a0_47.eval = ρ at *
    go_simp
  refine fa0_47.step 174 (.bool true) rfl (lb_ I0.size) ((wanted_at (t := 167) (c := false) (b := false) rfl rfl rfl (lb_ (fa0_47.size.trans I0.size)) (fa0_47.at_ 167)).trans (by rfl)) r_a0_48 (fun a0_48 fa0_48 => ?_)
  clear r_a0_48
  clear fa0_47
  refine fa0_48.move 175 (.bool true) _ (Or.inl rfl) rfl (lb_ I0.size) ((wanted_at (t := 167) (c := false) (b := false) rfl rfl rfl (lb_ (fa0_48.size.trans I0.size)) (fa0_48.at_ 167)).trans (by rfl)) (fa0_48.at_ 174) (fun a0_49 fa0_49 => ?_)
  clear fa0_48
  refine fa0_49.move 176 (.slice (some ⟨gm, 0, none⟩) n mc) _ (Or.inl rfl) rfl (lb_ I0.size) ((wanted_at (t := 175) (c := true) (b := true) rfl rfl rfl (lb_ (fa0_49.size.trans I0.size)) (fa0_49.at_ 175)).trans (by rfl)) ((fa0_49.at_ 9).trans I0.s9) (fun a0_50 fa0_50 => ?_)
  clear fa0_49
  refine fa0_50.move 177 (.int .i64 (i : Int)) _ (Or.inl rfl) rfl (lb_ I0.size) ((wanted_at (t := 175) (c := true) (b := true) rfl rfl rfl (lb_ (fa0_50.size.trans I0.size)) (fa0_50.at_ 175)).trans (by rfl)) ((fa0_50.at_ 17).trans h17) (fun a0_51 fa0_51 => ?_)
  clear fa0_50
  have r_a0_52 : (execOp a0_51.eval oZD32).run Try.prog (wr) = .ok (.value (.pointer (some ⟨gm, i, none⟩))) (wr) := by
    unfold oZD32
    have e176 := (show a0_51.eval (.tmp 176) = .slice (some ⟨gm, 0, none⟩) n mc from (fa0_51.at_ 176))
    have e177 := (show a0_51.eval (.tmp 177) = .int .i64 (i : Int) from (fa0_51.at_ 177))
    clear fa0_51 hQ h17 h18
    generalize a0_51.eval = ρ at *
    go_simp
  refine fa0_51.step 178 (.pointer (some ⟨gm, i, none⟩)) rfl (lb_ I0.size) ((wanted_at (t := 175) (c := true) (b := true) rfl rfl rfl (lb_ (fa0_51.size.trans I0.size)) (fa0_51.at_ 175)).trans (by rfl)) r_a0_52 (fun a0_52 fa0_52 => ?_)
  clear r_a0_52
  clear fa0_51
  have r_a0_53 : (execOp a0_52.eval oZD33).run Try.prog (wr) = .ok (.value (.slice (some ⟨gy, 0, none⟩) yn yc)) (wr) := by
    unfold oZD33
    have e178 := (show a0_52.eval (.tmp 178) = .pointer (some ⟨gm, i, none⟩) from (fa0_52.at_ 178))
    clear fa0_52 hQ h17 h18
    generalize a0_52.eval = ρ at *
    go_simp
  refine fa0_52.step 179 (.slice (some ⟨gy, 0, none⟩) yn yc) rfl (lb_ I0.size) ((wanted_at (t := 175) (c := true) (b := true) rfl rfl rfl (lb_ (fa0_52.size.trans I0.size)) (fa0_52.at_ 175)).trans (by rfl)) r_a0_53 (fun a0_53 fa0_53 => ?_)
  clear r_a0_53
  clear fa0_52
  refine fa0_53.move 180 (.int .i64 (k : Int)) _ (Or.inl rfl) rfl (lb_ I0.size) ((wanted_at (t := 175) (c := true) (b := true) rfl rfl rfl (lb_ (fa0_53.size.trans I0.size)) (fa0_53.at_ 175)).trans (by rfl)) ((fa0_53.at_ 18).trans h18) (fun a0_54 fa0_54 => ?_)
  clear fa0_53
  have r_a0_55 : (execOp a0_54.eval oZD34).run Try.prog (wr) = .ok (.value (.pointer (some ⟨gy, k, none⟩))) (wr) := by
    unfold oZD34
    have e179 := (show a0_54.eval (.tmp 179) = .slice (some ⟨gy, 0, none⟩) yn yc from (fa0_54.at_ 179))
    have e180 := (show a0_54.eval (.tmp 180) = .int .i64 (k : Int) from (fa0_54.at_ 180))
    clear fa0_54 hQ h17 h18
    generalize a0_54.eval = ρ at *
    go_simp
  refine fa0_54.step 181 (.pointer (some ⟨gy, k, none⟩)) rfl (lb_ I0.size) ((wanted_at (t := 175) (c := true) (b := true) rfl rfl rfl (lb_ (fa0_54.size.trans I0.size)) (fa0_54.at_ 175)).trans (by rfl)) r_a0_55 (fun a0_55 fa0_55 => ?_)
  clear r_a0_55
  clear fa0_54
  have r_a0_56 : (execOp a0_55.eval oZD35).run Try.prog (wr) = .ok (.value (.int .u32 (b : Int))) (wr) := by
    unfold oZD35
    have e181 := (show a0_55.eval (.tmp 181) = .pointer (some ⟨gy, k, none⟩) from (fa0_55.at_ 181))
    clear fa0_55 hQ h17 h18
    generalize a0_55.eval = ρ at *
    go_simp
  refine fa0_55.step 182 (.int .u32 (b : Int)) rfl (lb_ I0.size) ((wanted_at (t := 175) (c := true) (b := true) rfl rfl rfl (lb_ (fa0_55.size.trans I0.size)) (fa0_55.at_ 175)).trans (by rfl)) r_a0_56 (fun a0_56 fa0_56 => ?_)
  clear r_a0_56
  clear fa0_55
  refine fa0_56.move 183 (.int .i64 (i : Int)) _ (Or.inl rfl) rfl (lb_ I0.size) ((wanted_at (t := 175) (c := true) (b := true) rfl rfl rfl (lb_ (fa0_56.size.trans I0.size)) (fa0_56.at_ 175)).trans (by rfl)) ((fa0_56.at_ 17).trans h17) (fun a0_57 fa0_57 => ?_)
  clear fa0_56
  have r_a0_58 : (execOp a0_57.eval oZD36).run Try.prog (wr) = .ok (.value (.int .i64 (b : Int))) (wr) := by
    unfold oZD36
    have kc : ∀ v, a0_57.eval (.const v) = v := fun _ => rfl
    have e183 := (show a0_57.eval (.tmp 183) = .int .i64 (i : Int) from (fa0_57.at_ 183))
    clear fa0_57 hQ h17 h18
    generalize a0_57.eval = ρ at *
    go_simp
  refine fa0_57.step 184 (.int .i64 (b : Int)) rfl (lb_ I0.size) ((wanted_at (t := 175) (c := true) (b := true) rfl rfl rfl (lb_ (fa0_57.size.trans I0.size)) (fa0_57.at_ 175)).trans (by rfl)) r_a0_58 (fun a0_58 fa0_58 => ?_)
  clear r_a0_58
  clear fa0_57
  have r_a0_59 : (execOp a0_58.eval oZD37).run Try.prog (wr) = .ok (.value (.int .u32 (b : Int))) (wr) := by
    unfold oZD37
    have e184 := (show a0_58.eval (.tmp 184) = .int .i64 (b : Int) from (fa0_58.at_ 184))
    clear fa0_58 hQ h17 h18
    generalize a0_58.eval = ρ at *
    go_simp
  refine fa0_58.step 185 (.int .u32 (b : Int)) rfl (lb_ I0.size) ((wanted_at (t := 175) (c := true) (b := true) rfl rfl rfl (lb_ (fa0_58.size.trans I0.size)) (fa0_58.at_ 175)).trans (by rfl)) r_a0_59 (fun a0_59 fa0_59 => ?_)
  clear r_a0_59
  clear fa0_58
  have r_a0_60 : (execOp a0_59.eval oZD38).run Try.prog (wr) = .ok (.value (.bool false)) (wr) := by
    unfold oZD38
    have e182 := (show a0_59.eval (.tmp 182) = .int .u32 (b : Int) from (fa0_59.at_ 182))
    have e185 := (show a0_59.eval (.tmp 185) = .int .u32 (b : Int) from (fa0_59.at_ 185))
    clear fa0_59 hQ h17 h18
    generalize a0_59.eval = ρ at *
    go_simp
  refine fa0_59.step 186 (.bool false) rfl (lb_ I0.size) ((wanted_at (t := 175) (c := true) (b := true) rfl rfl rfl (lb_ (fa0_59.size.trans I0.size)) (fa0_59.at_ 175)).trans (by rfl)) r_a0_60 (fun a0_60 fa0_60 => ?_)
  clear r_a0_60
  clear fa0_59
  have r_a0_61 : (execOp a0_60.eval oZD39).run Try.prog (wr) = .ok (.value (.bool false)) (wr) := by
    unfold oZD39
    have kc : ∀ v, a0_60.eval (.const v) = v := fun _ => rfl
    have e175 := (show a0_60.eval (.tmp 175) = .bool true from (fa0_60.at_ 175))
    have e186 := (show a0_60.eval (.tmp 186) = .bool false from (fa0_60.at_ 186))
    clear fa0_60 hQ h17 h18
    generalize a0_60.eval = ρ at *
    go_simp
  refine fa0_60.step 187 (.bool false) rfl (lb_ I0.size) ((wanted_at (t := 167) (c := false) (b := false) rfl rfl rfl (lb_ (fa0_60.size.trans I0.size)) (fa0_60.at_ 167)).trans (by rfl)) r_a0_61 (fun a0_61 fa0_61 => ?_)
  clear r_a0_61
  clear fa0_60
  have r_a0_62 : (execOp a0_61.eval oZD40).run Try.prog (wr) = .ok (.value (.bool false)) (wr) := by
    unfold oZD40
    have kc : ∀ v, a0_61.eval (.const v) = v := fun _ => rfl
    have e167 := (show a0_61.eval (.tmp 167) = .bool false from (fa0_61.at_ 167))
    have e187 := (show a0_61.eval (.tmp 187) = .bool false from (fa0_61.at_ 187))
    clear fa0_61 hQ h17 h18
    generalize a0_61.eval = ρ at *
    go_simp
  refine fa0_61.step 188 (.bool false) rfl (lb_ I0.size) (wanted_none rfl) r_a0_62 (fun a0_62 fa0_62 => ?_)
  clear r_a0_62
  clear fa0_61
  refine wpList_nil ?_
  change Code.wp _ _ _ _ _
  refine wp_cond_false (show a0_62.eval (.tmp 188) = .bool false from (fa0_62.at_ 188)) (wp_skip ?_)
  change Code.wp _ _ _ _ _
  refine wp_region_list ?_
  unfold rAP40
  refine fa0_62.move 132 (.int .i64 (k : Int)) _ (Or.inl rfl) rfl (lb_ I0.size) (wanted_none rfl) ((fa0_62.at_ 18).trans h18) (fun a0_63 fa0_63 => ?_)
  clear fa0_62
  have r_a0_64 : (execOp a0_63.eval oZD7).run Try.prog (wr) = .ok (.value (.int .i64 ((k : Int) + 1))) (wr) := by
    unfold oZD7
    have kc : ∀ v, a0_63.eval (.const v) = v := fun _ => rfl
    have e132 := (show a0_63.eval (.tmp 132) = .int .i64 (k : Int) from (fa0_63.at_ 132))
    clear fa0_63 hQ h17 h18
    generalize a0_63.eval = ρ at *
    go_simp
  refine fa0_63.step 133 (.int .i64 ((k : Int) + 1)) rfl (lb_ I0.size) (wanted_none rfl) r_a0_64 (fun a0_64 fa0_64 => ?_)
  clear r_a0_64
  clear fa0_63
  refine fa0_64.move 18 (.int .i64 ((k : Int) + 1)) _ (Or.inr rfl) rfl (lb_ I0.size) (wanted_none rfl) (fa0_64.at_ 133) (fun a0_65 fa0_65 => ?_)
  clear fa0_64
  refine wpList_nil ?_
  exact hQ a0_65 (I0.keep fa0_65 rfl rfl rfl rfl) (show a0_65.eval (.tmp 17) = .int .i64 (i : Int) from ((fa0_65.at_ 17).trans h17)) (show a0_65.eval (.tmp 18) = .int .i64 ((k : Int) + 1) from (fa0_65.at_ 18))
set_option maxRecDepth 100000 in
theorem eUE {v1 v13 : Value} {lb lo n lc gm mc gy yn yc i k : Nat} {Q : Exit → Act → World → Prop} (a0 : Act) (wr : World) (I0 : IZ (.slice (some ⟨lb, lo, none⟩) n lc) v1 (.slice (some ⟨gm, 0, none⟩) n mc) v13 a0) (h17 : a0.eval (.tmp 17) = .int .i64 (i : Int)) (h18 : a0.eval (.tmp 18) = .int .i64 (k : Int))
    (hi : i < n) (hky : yn ≤ k) (c2 : wr.cell? ⟨gm, i, none⟩ = some (.slice (some ⟨gy, 0, none⟩) yn yc))
    (hQ : ∀ a', IZ (.slice (some ⟨lb, lo, none⟩) n lc) v1 (.slice (some ⟨gm, 0, none⟩) n mc) v13 a' → a'.eval (.tmp 17) = .int .i64 (i : Int) → Q (.exit 18) a' wr) : cEU2.wp Try.prog Q a0 wr := by
  have hii : (i : Int) < (n : Int) := by omega
  have hki : decide ((k : Int) < (yn : Int)) = false := decide_eq_false (by omega)
  have hki2 : ¬ (k : Int) < (yn : Int) := by omega
  clear hi hky
  have fa0_0 := Fe.refl a0
  unfold cEU2
  refine wp_seq (wp_seq ?_)
  refine wp_region_list ?_
  unfold rAP39
  refine fa0_0.move 125 (.int .i64 (k : Int)) _ (Or.inl rfl) rfl (lb_ I0.size) (wanted_none rfl) ((fa0_0.at_ 18).trans h18) (fun a0_1 fa0_1 => ?_)
  clear fa0_0
  refine fa0_1.move 126 (.slice (some ⟨gm, 0, none⟩) n mc) _ (Or.inl rfl) rfl (lb_ I0.size) (wanted_none rfl) ((fa0_1.at_ 9).trans I0.s9) (fun a0_2 fa0_2 => ?_)
  clear fa0_1
  refine fa0_2.move 127 (.int .i64 (i : Int)) _ (Or.inl rfl) rfl (lb_ I0.size) (wanted_none rfl) ((fa0_2.at_ 17).trans h17) (fun a0_3 fa0_3 => ?_)
  clear fa0_2
  have r_a0_4 : (execOp a0_3.eval oZD3).run Try.prog (wr) = .ok (.value (.pointer (some ⟨gm, i, none⟩))) (wr) := by
    unfold oZD3
    have e126 := (show a0_3.eval (.tmp 126) = .slice (some ⟨gm, 0, none⟩) n mc from (fa0_3.at_ 126))
    have e127 := (show a0_3.eval (.tmp 127) = .int .i64 (i : Int) from (fa0_3.at_ 127))
    clear fa0_3 hQ h17 h18
    generalize a0_3.eval = ρ at *
    go_simp
  refine fa0_3.step 128 (.pointer (some ⟨gm, i, none⟩)) rfl (lb_ I0.size) (wanted_none rfl) r_a0_4 (fun a0_4 fa0_4 => ?_)
  clear r_a0_4
  clear fa0_3
  have r_a0_5 : (execOp a0_4.eval oZD4).run Try.prog (wr) = .ok (.value (.slice (some ⟨gy, 0, none⟩) yn yc)) (wr) := by
    unfold oZD4
    have e128 := (show a0_4.eval (.tmp 128) = .pointer (some ⟨gm, i, none⟩) from (fa0_4.at_ 128))
    clear fa0_4 hQ h17 h18
    generalize a0_4.eval = ρ at *
    go_simp
  refine fa0_4.step 129 (.slice (some ⟨gy, 0, none⟩) yn yc) rfl (lb_ I0.size) (wanted_none rfl) r_a0_5 (fun a0_5 fa0_5 => ?_)
  clear r_a0_5
  clear fa0_4
  have r_a0_6 : (execOp a0_5.eval oZD5).run Try.prog (wr) = .ok (.value (.int .i64 (yn : Int))) (wr) := by
    unfold oZD5
    have e129 := (show a0_5.eval (.tmp 129) = .slice (some ⟨gy, 0, none⟩) yn yc from (fa0_5.at_ 129))
    clear fa0_5 hQ h17 h18
    generalize a0_5.eval = ρ at *
    go_simp
  refine fa0_5.step 130 (.int .i64 (yn : Int)) rfl (lb_ I0.size) (wanted_none rfl) r_a0_6 (fun a0_6 fa0_6 => ?_)
  clear r_a0_6
  clear fa0_5
  have r_a0_7 : (execOp a0_6.eval oZD6).run Try.prog (wr) = .ok (.value (.bool false)) (wr) := by
    unfold oZD6
    have e125 := (show a0_6.eval (.tmp 125) = .int .i64 (k : Int) from (fa0_6.at_ 125))
    have e130 := (show a0_6.eval (.tmp 130) = .int .i64 (yn : Int) from (fa0_6.at_ 130))
    clear fa0_6 hQ h17 h18
    generalize a0_6.eval = ρ at *
    go_simp
  refine fa0_6.step 131 (.bool false) rfl (lb_ I0.size) (wanted_none rfl) r_a0_7 (fun a0_7 fa0_7 => ?_)
  clear r_a0_7
  clear fa0_6
  refine wpList_nil ?_
  change Code.wp _ _ _ _ _
  refine wp_cond_false (show a0_7.eval (.tmp 131) = .bool false from (fa0_7.at_ 131)) (wp_exit ?_)
  exact hQ a0_7 (I0.keep fa0_7 rfl rfl rfl rfl) (show a0_7.eval (.tmp 17) = .int .i64 (i : Int) from ((fa0_7.at_ 17).trans h17))
theorem eUL2 {v1 v13 : Value} {lb lo n lc gm mc i a b : Nat} {x y : Sl} {Q : Exit → Act → World → Prop} (a0 : Act) (w : World) (I0 : IZ (.slice (some ⟨lb, lo, none⟩) n lc) v1 (.slice (some ⟨gm, 0, none⟩) n mc) v13 a0) (h5 : a0.eval (.tmp 17) = .int .i64 (i : Int)) (h6 : a0.eval (.tmp 18) = .int .i64 ((0 : Nat) : Int))
    (hi : i < n) (hn : n ≤ 4000000) (ha : a = 100000 + i) (hb : b = 300000 + i) (hF : Fnd fU w lb lo gm i x y a b)
    (hQ : ∀ a', IZ (.slice (some ⟨lb, lo, none⟩) n lc) v1 (.slice (some ⟨gm, 0, none⟩) n mc) v13 a' → a'.eval (.tmp 17) = .int .i64 (i : Int) → Q (.exit 18) a' w) : (Code.loop cEU2).wp Try.prog Q a0 w := by
  obtain ⟨gy, hgy, _⟩ := hF.c4.at2 (k := x.n) (i := 0) (Nat.le_refl _) (by omega) rfl
  obtain ⟨xa, xn, xc⟩ := x
  obtain ⟨ya, yn, yc⟩ := y
  obtain rfl : ya = some ⟨gy, 0, none⟩ := hgy
  obtain rfl : yn = xn + 70 := hF.yn
  have hle : xn ≤ 1099511627000 := hF.le
  refine wp_loop (fun a' w' => w' = w ∧ IZ (.slice (some ⟨lb, lo, none⟩) n lc) v1 (.slice (some ⟨gm, 0, none⟩) n mc) v13 a' ∧ a'.eval (.tmp 17) = .int .i64 (i : Int) ∧ ∃ k : Nat, k ≤ xn + 70 ∧ a'.eval (.tmp 18) = .int .i64 (k : Int)) (fun a' _ => xn + 70 - kOf a' 18) ⟨rfl, I0, h5, 0, Nat.zero_le _, h6⟩ ?_
  rintro a1 w' ⟨rfl, I1, g5, k, hk, g6⟩
  by_cases hgo : k < xn + 70
  · have nx : ∀ a', IZ (.slice (some ⟨lb, lo, none⟩) n lc) v1 (.slice (some ⟨gm, 0, none⟩) n mc) v13 a' → a'.eval (.tmp 17) = .int .i64 (i : Int) → a'.eval (.tmp 18) = .int .i64 ((k : Int) + 1) → Exit.then (fun a' w'' => (w'' = w' ∧ IZ (.slice (some ⟨lb, lo, none⟩) n lc) v1 (.slice (some ⟨gm, 0, none⟩) n mc) v13 a' ∧ a'.eval (.tmp 17) = .int .i64 (i : Int) ∧ ∃ k : Nat, k ≤ xn + 70 ∧ a'.eval (.tmp 18) = .int .i64 (k : Int)) ∧ xn + 70 - kOf a' 18 < xn + 70 - kOf a1 18) Q .normal a' w' := fun a' h1 h2 h3 => by
      have h4 : a'.eval (.tmp 18) = .int .i64 ((k + 1 : Nat) : Int) := h3
      refine ⟨⟨rfl, h1, h2, k + 1, hgo, h4⟩, ?_⟩
      rw [kOf_eq h4, kOf_eq g6]
      omega
    by_cases hx : k < xn
    · obtain ⟨gx, e, d1⟩ := Hold.at_ (F := fU) (t := []) (i := 0) (by rw [List.append_nil]; exact hF.c3) hx rfl
      obtain rfl : xa = some ⟨gx, 0, none⟩ := e
      obtain ⟨gz, e2, d2⟩ := Hold.at_ (F := fU) (i := 0) hF.c4 hx rfl
      obtain rfl : gy = gz := by simpa using e2
      rw [Nat.mul_one, Nat.add_zero] at d1 d2
      exact eUR a1 w' I1 g5 g6 hi hn ha hb hx hgo (by omega) hF.c1 hF.c2 d2 d1 nx
    · obtain ⟨gz, e2, d2⟩ := Hold.at2 (F := fU) (k := k) (i := 0) hF.c4 (Nat.le_of_not_lt hx) hgo rfl
      obtain rfl : gy = gz := by simpa using e2
      rw [Nat.mul_one, Nat.add_zero] at d2
      exact eUM a1 w' I1 g5 g6 hi hn ha hb (Nat.le_of_not_lt hx) hgo (by omega) hF.c1 hF.c2 d2 nx
  · exact eUE a1 w' I1 g5 g6 hi (Nat.le_of_not_lt hgo) hF.c2 hQ
set_option maxRecDepth 100000 in
theorem eUO {v1 v13 : Value} {lb lo n lc gm mc i : Nat} {x y : Sl} {Q : Exit → Act → World → Prop} (a0 : Act) (wr : World) (I0 : IZ (.slice (some ⟨lb, lo, none⟩) n lc) v1 (.slice (some ⟨gm, 0, none⟩) n mc) v13 a0) (h17 : a0.eval (.tmp 17) = .int .i64 (i : Int))
    (hi : i < n) (hn : n ≤ 4000000) (hF : Fnd fU wr lb lo gm i x y (100000 + i) (300000 + i)) (hQ : ∀ a', IZ (.slice (some ⟨lb, lo, none⟩) n lc) v1 (.slice (some ⟨gm, 0, none⟩) n mc) v13 a' → a'.eval (.tmp 17) = .int .i64 ((i : Int) + 1) → Q .normal a' wr) : cEU1.wp Try.prog Q a0 wr := by
  have hii : (i : Int) < (n : Int) := by omega
  have w7 : IntKind.i64.wrap ((i : Int) + 1) = (i : Int) + 1 := by rw [IntKind.wrap_i64]; omega
  have fa0_0 := Fe.refl a0
  unfold cEU1
  refine wp_seq (wp_seq ?_)
  refine wp_region_list ?_
  unfold rAP36
  refine fa0_0.move 119 (.int .i64 (i : Int)) _ (Or.inl rfl) rfl (lb_ I0.size) (wanted_none rfl) ((fa0_0.at_ 17).trans h17) (fun a0_1 fa0_1 => ?_)
  clear fa0_0
  refine fa0_1.move 120 (.slice (some ⟨lb, lo, none⟩) n lc) _ (Or.inl rfl) rfl (lb_ I0.size) (wanted_none rfl) ((fa0_1.at_ 0).trans I0.s0) (fun a0_2 fa0_2 => ?_)
  clear fa0_1
  have r_a0_3 : (execOp a0_2.eval oZD0).run Try.prog (wr) = .ok (.value (.int .i64 (n : Int))) (wr) := by
    unfold oZD0
    have e120 := (show a0_2.eval (.tmp 120) = .slice (some ⟨lb, lo, none⟩) n lc from (fa0_2.at_ 120))
    clear fa0_2 hQ h17 hF
    generalize a0_2.eval = ρ at *
    go_simp
  refine fa0_2.step 121 (.int .i64 (n : Int)) rfl (lb_ I0.size) (wanted_none rfl) r_a0_3 (fun a0_3 fa0_3 => ?_)
  clear r_a0_3
  clear fa0_2
  have r_a0_4 : (execOp a0_3.eval oZD1).run Try.prog (wr) = .ok (.value (.bool true)) (wr) := by
    unfold oZD1
    have e119 := (show a0_3.eval (.tmp 119) = .int .i64 (i : Int) from (fa0_3.at_ 119))
    have e121 := (show a0_3.eval (.tmp 121) = .int .i64 (n : Int) from (fa0_3.at_ 121))
    clear fa0_3 hQ h17 hF
    generalize a0_3.eval = ρ at *
    go_simp
  refine fa0_3.step 122 (.bool true) rfl (lb_ I0.size) (wanted_none rfl) r_a0_4 (fun a0_4 fa0_4 => ?_)
  clear r_a0_4
  clear fa0_3
  refine wpList_nil ?_
  change Code.wp _ _ _ _ _
  refine wp_cond_true (show a0_4.eval (.tmp 122) = .bool true from (fa0_4.at_ 122)) (wp_skip ?_)
  change Code.wp _ _ _ _ _
  refine wp_seq (wp_block (wp_seq ?_))
  refine wp_region_list ?_
  unfold rAP38
  refine fa0_4.move 18 (.int .i64 ((0 : Nat) : Int)) _ (Or.inr rfl) rfl (lb_ I0.size) (wanted_none rfl) rfl (fun a0_5 fa0_5 => ?_)
  clear fa0_4
  refine wpList_nil ?_
  change Code.wp _ _ _ _ _
  refine wp_block ?_
  refine eUL2 (a := 100000 + i) (b := 300000 + i) a0_5 wr (I0.keep fa0_5 rfl rfl rfl rfl) (show a0_5.eval (.tmp 17) = .int .i64 (i : Int) from ((fa0_5.at_ 17).trans h17)) (show a0_5.eval (.tmp 18) = .int .i64 ((0 : Nat) : Int) from (fa0_5.at_ 18)) hi hn rfl rfl hF (fun d i2 d5 => ?_)
  change Code.wp _ _ _ _ _
  have fd_0 := Fe.refl d
  refine wp_region_list ?_
  unfold rAP37
  refine fd_0.move 123 (.int .i64 (i : Int)) _ (Or.inl rfl) rfl (lb_ i2.size) (wanted_none rfl) ((fd_0.at_ 17).trans d5) (fun d_1 fd_1 => ?_)
  clear fd_0
  have r_d_2 : (execOp d_1.eval oZD2).run Try.prog (wr) = .ok (.value (.int .i64 ((i : Int) + 1))) (wr) := by
    unfold oZD2
    have kc : ∀ v, d_1.eval (.const v) = v := fun _ => rfl
    have e123 := (show d_1.eval (.tmp 123) = .int .i64 (i : Int) from (fd_1.at_ 123))
    clear fd_1 hQ d5 hF h17
    generalize d_1.eval = ρ at *
    go_simp
  refine fd_1.step 124 (.int .i64 ((i : Int) + 1)) rfl (lb_ i2.size) (wanted_none rfl) r_d_2 (fun d_2 fd_2 => ?_)
  clear r_d_2
  clear fd_1
  refine fd_2.move 17 (.int .i64 ((i : Int) + 1)) _ (Or.inr rfl) rfl (lb_ i2.size) (wanted_none rfl) (fd_2.at_ 124) (fun d_3 fd_3 => ?_)
  clear fd_2
  refine wpList_nil ?_
  exact hQ d_3 (i2.keep fd_3 rfl rfl rfl rfl) (show d_3.eval (.tmp 17) = .int .i64 ((i : Int) + 1) from (fd_3.at_ 17))
set_option maxRecDepth 100000 in
theorem eUX {v1 v13 : Value} {la ma : Option Addr} {n lc mc : Nat} {Q : Exit → Act → World → Prop} (a0 : Act) (wr : World) (I0 : IZ (.slice la n lc) v1 (.slice ma n mc) v13 a0) (h17 : a0.eval (.tmp 17) = .int .i64 (n : Int))
    (hQ : ∀ a, IZ (.slice la n lc) v1 (.slice ma n mc) v13 a → Q (.exit 16) a wr) : cEU1.wp Try.prog Q a0 wr := by
  have fa0_0 := Fe.refl a0
  unfold cEU1
  refine wp_seq (wp_seq ?_)
  refine wp_region_list ?_
  unfold rAP36
  refine fa0_0.move 119 (.int .i64 (n : Int)) _ (Or.inl rfl) rfl (lb_ I0.size) (wanted_none rfl) ((fa0_0.at_ 17).trans h17) (fun a0_1 fa0_1 => ?_)
  clear fa0_0
  refine fa0_1.move 120 (.slice la n lc) _ (Or.inl rfl) rfl (lb_ I0.size) (wanted_none rfl) ((fa0_1.at_ 0).trans I0.s0) (fun a0_2 fa0_2 => ?_)
  clear fa0_1
  have r_a0_3 : (execOp a0_2.eval oZD0).run Try.prog (wr) = .ok (.value (.int .i64 (n : Int))) (wr) := by
    unfold oZD0
    have e120 := (show a0_2.eval (.tmp 120) = .slice la n lc from (fa0_2.at_ 120))
    clear fa0_2 hQ h17
    generalize a0_2.eval = ρ at *
    go_simp
  refine fa0_2.step 121 (.int .i64 (n : Int)) rfl (lb_ I0.size) (wanted_none rfl) r_a0_3 (fun a0_3 fa0_3 => ?_)
  clear r_a0_3
  clear fa0_2
  have r_a0_4 : (execOp a0_3.eval oZD1).run Try.prog (wr) = .ok (.value (.bool false)) (wr) := by
    unfold oZD1
    have e119 := (show a0_3.eval (.tmp 119) = .int .i64 (n : Int) from (fa0_3.at_ 119))
    have e121 := (show a0_3.eval (.tmp 121) = .int .i64 (n : Int) from (fa0_3.at_ 121))
    clear fa0_3 hQ h17
    generalize a0_3.eval = ρ at *
    go_simp
  refine fa0_3.step 122 (.bool false) rfl (lb_ I0.size) (wanted_none rfl) r_a0_4 (fun a0_4 fa0_4 => ?_)
  clear r_a0_4
  clear fa0_3
  refine wpList_nil ?_
  change Code.wp _ _ _ _ _
  refine wp_cond_false (show a0_4.eval (.tmp 122) = .bool false from (fa0_4.at_ 122)) (wp_exit ?_)
  exact hQ a0_4 (I0.keep fa0_4 rfl rfl rfl rfl)
theorem eUL {v1 v13 : Value} {la ma : Option Addr} {lb lo gm n lc mc : Nat} {Q : Exit → Act → World → Prop} (a0 : Act) (w : World) (I0 : IZ (.slice la n lc) v1 (.slice ma n mc) v13 a0) (h5 : a0.eval (.tmp 17) = .int .i64 ((0 : Nat) : Int))
    (hn : n ≤ 4000000) (hla : n ≠ 0 → la = some ⟨lb, lo, none⟩ ∧ ma = some ⟨gm, 0, none⟩) (hF : ∀ i, i < n → ∃ x y, Fnd fU w lb lo gm i x y (100000 + i) (300000 + i))
    (hQ : ∀ a, IZ (.slice la n lc) v1 (.slice ma n mc) v13 a → Q (.exit 16) a w) : (Code.loop cEU1).wp Try.prog Q a0 w := by
  refine wp_loop (fun a w' => w' = w ∧ IZ (.slice la n lc) v1 (.slice ma n mc) v13 a ∧ ∃ i : Nat, i ≤ n ∧ a.eval (.tmp 17) = .int .i64 (i : Int)) (fun a _ => n - kOf a 17) ⟨rfl, I0, 0, Nat.zero_le _, h5⟩ ?_
  rintro a w' ⟨rfl, I1, i, hi, g5⟩
  by_cases hgo : i < n
  · obtain ⟨rfl, rfl⟩ := hla (by omega)
    obtain ⟨x, y, hf⟩ := hF i hgo
    refine eUO a w' I1 g5 hgo hn hf (fun a' i2 k5 => ?_)
    have h4 : a'.eval (.tmp 17) = .int .i64 ((i + 1 : Nat) : Int) := k5
    refine ⟨⟨rfl, i2, i + 1, hgo, h4⟩, ?_⟩
    show n - kOf a' 17 < n - kOf a 17
    rw [kOf_eq h4, kOf_eq g5]
    omega
  · obtain rfl : i = n := by omega
    exact eUX a w' I1 g5 hQ
def cEB2 : Code := (Code.seq (Code.seq (Code.region 47 rAP47 false) (Code.cond (Operand.tmp 201) Code.skip (Code.exit 22))) (Code.seq (Code.block 23 (Code.seq (Code.region 49 rAP49 false) (Code.cond (Operand.tmp 261) (Code.seq (Code.region 50 rAP50 false) Code.ret) Code.skip))) (Code.region 48 rAP48 false)))
def cEB1 : Code := (Code.seq (Code.seq (Code.region 44 rAP44 false) (Code.cond (Operand.tmp 192) Code.skip (Code.exit 20))) (Code.seq (Code.block 21 (Code.seq (Code.region 46 rAP46 false) (Code.block 22 (Code.loop cEB2)))) (Code.region 45 rAP45 false)))
set_option maxRecDepth 100000 in
set_option maxHeartbeats 1000000 in
theorem eBR {v0 v9 : Value} {lb lo n lc gm mc gy yn yc i k a b gx xn xc : Nat} {Q : Exit → Act → World → Prop} (a0 : Act) (wr : World) (I0 : IZ v0 (.slice (some ⟨lb, lo, none⟩) n lc) v9 (.slice (some ⟨gm, 0, none⟩) n mc) a0) (h19 : a0.eval (.tmp 19) = .int .i64 (i : Int)) (h20 : a0.eval (.tmp 20) = .int .i64 (k : Int))
    (hi : i < n) (hn : n ≤ 4000000) (ha : a = 200000 + i) (hb : b = 400000 + i) (hkx : k < xn) (hky : k < yn) (hyb : yn ≤ 1099511627776) (c1 : wr.cell? ⟨lb, lo + i, none⟩ = some (.slice (some ⟨gx, 0, none⟩) xn xc)) (c2 : wr.cell? ⟨gm, i, none⟩ = some (.slice (some ⟨gy, 0, none⟩) yn yc)) (c3 : wr.cell? ⟨gy, k * 2, none⟩ = some (.int .u32 (a : Int))) (c4 : wr.cell? ⟨gx, k * 2, none⟩ = some (.int .u32 (a : Int)))
    (hQ : ∀ a', IZ v0 (.slice (some ⟨lb, lo, none⟩) n lc) v9 (.slice (some ⟨gm, 0, none⟩) n mc) a' → a'.eval (.tmp 19) = .int .i64 (i : Int) → a'.eval (.tmp 20) = .int .i64 ((k : Int) + 1) → Q .normal a' wr) : cEB2.wp Try.prog Q a0 wr := by
  have hii : (i : Int) < (n : Int) := by omega
  have hki : (k : Int) < (yn : Int) := by omega
  have w1 : RowKit.wrap64 (200000 + (i : Int)) = (a : Int) := by unfold RowKit.wrap64; omega
  have w2 : IntKind.u32.wrap (a : Int) = (a : Int) := by rw [IntKind.wrap_u32]; omega
  have w3 : RowKit.wrap64 (400000 + (i : Int)) = (b : Int) := by unfold RowKit.wrap64; omega
  have w4 : IntKind.u32.wrap (b : Int) = (b : Int) := by rw [IntKind.wrap_u32]; omega
  have w5 : IntKind.i64.wrap (200000 + (i : Int)) = (a : Int) := by rw [IntKind.wrap_i64]; omega
  have w6 : IntKind.i64.wrap (400000 + (i : Int)) = (b : Int) := by rw [IntKind.wrap_i64]; omega
  have w7 : IntKind.i64.wrap ((k : Int) + 1) = (k : Int) + 1 := by rw [IntKind.wrap_i64]; omega
  have hkxi : (k : Int) < (xn : Int) := by omega
  have hkxd : decide ((xn : Int) ≤ (k : Int)) = false := decide_eq_false (by omega)
  clear hi hky hyb ha hb
  have fa0_0 := Fe.refl a0
  unfold cEB2
  refine wp_seq (wp_seq ?_)
  refine wp_region_list ?_
  unfold rAP47
  refine fa0_0.move 195 (.int .i64 (k : Int)) _ (Or.inl rfl) rfl (lb_ I0.size) (wanted_none rfl) ((fa0_0.at_ 20).trans h20) (fun a0_1 fa0_1 => ?_)
  clear fa0_0
  refine fa0_1.move 196 (.slice (some ⟨gm, 0, none⟩) n mc) _ (Or.inl rfl) rfl (lb_ I0.size) (wanted_none rfl) ((fa0_1.at_ 13).trans I0.s13) (fun a0_2 fa0_2 => ?_)
  clear fa0_1
  refine fa0_2.move 197 (.int .i64 (i : Int)) _ (Or.inl rfl) rfl (lb_ I0.size) (wanted_none rfl) ((fa0_2.at_ 19).trans h19) (fun a0_3 fa0_3 => ?_)
  clear fa0_2
  have r_a0_4 : (execOp a0_3.eval oZD44).run Try.prog (wr) = .ok (.value (.pointer (some ⟨gm, i, none⟩))) (wr) := by
    unfold oZD44
    have e196 := (show a0_3.eval (.tmp 196) = .slice (some ⟨gm, 0, none⟩) n mc from (fa0_3.at_ 196))
    have e197 := (show a0_3.eval (.tmp 197) = .int .i64 (i : Int) from (fa0_3.at_ 197))
    clear fa0_3 hQ h19 h20
    generalize a0_3.eval = ρ at *
    go_simp
  refine fa0_3.step 198 (.pointer (some ⟨gm, i, none⟩)) rfl (lb_ I0.size) (wanted_none rfl) r_a0_4 (fun a0_4 fa0_4 => ?_)
  clear r_a0_4
  clear fa0_3
  have r_a0_5 : (execOp a0_4.eval oZD45).run Try.prog (wr) = .ok (.value (.slice (some ⟨gy, 0, none⟩) yn yc)) (wr) := by
    unfold oZD45
    have e198 := (show a0_4.eval (.tmp 198) = .pointer (some ⟨gm, i, none⟩) from (fa0_4.at_ 198))
    clear fa0_4 hQ h19 h20
    generalize a0_4.eval = ρ at *
    go_simp
  refine fa0_4.step 199 (.slice (some ⟨gy, 0, none⟩) yn yc) rfl (lb_ I0.size) (wanted_none rfl) r_a0_5 (fun a0_5 fa0_5 => ?_)
  clear r_a0_5
  clear fa0_4
  have r_a0_6 : (execOp a0_5.eval oZD46).run Try.prog (wr) = .ok (.value (.int .i64 (yn : Int))) (wr) := by
    unfold oZD46
    have e199 := (show a0_5.eval (.tmp 199) = .slice (some ⟨gy, 0, none⟩) yn yc from (fa0_5.at_ 199))
    clear fa0_5 hQ h19 h20
    generalize a0_5.eval = ρ at *
    go_simp
  refine fa0_5.step 200 (.int .i64 (yn : Int)) rfl (lb_ I0.size) (wanted_none rfl) r_a0_6 (fun a0_6 fa0_6 => ?_)
  clear r_a0_6
  clear fa0_5
  have r_a0_7 : (execOp a0_6.eval oZD47).run Try.prog (wr) = .ok (.value (.bool true)) (wr) := by
    unfold oZD47
    have e195 := (show a0_6.eval (.tmp 195) = .int .i64 (k : Int) from (fa0_6.at_ 195))
    have e200 := (show a0_6.eval (.tmp 200) = .int .i64 (yn : Int) from (fa0_6.at_ 200))
    clear fa0_6 hQ h19 h20
    generalize a0_6.eval = ρ at *
    go_simp
  refine fa0_6.step 201 (.bool true) rfl (lb_ I0.size) (wanted_none rfl) r_a0_7 (fun a0_7 fa0_7 => ?_)
  clear r_a0_7
  clear fa0_6
  refine wpList_nil ?_
  change Code.wp _ _ _ _ _
  refine wp_cond_true (show a0_7.eval (.tmp 201) = .bool true from (fa0_7.at_ 201)) (wp_skip ?_)
  change Code.wp _ _ _ _ _
  refine wp_seq (wp_block (wp_seq ?_))
  refine wp_region_list ?_
  unfold rAP49
  refine fa0_7.move 204 (.int .i64 (k : Int)) _ (Or.inl rfl) rfl (lb_ I0.size) (wanted_none rfl) ((fa0_7.at_ 20).trans h20) (fun a0_8 fa0_8 => ?_)
  clear fa0_7
  refine fa0_8.move 205 (.slice (some ⟨lb, lo, none⟩) n lc) _ (Or.inl rfl) rfl (lb_ I0.size) (wanted_none rfl) ((fa0_8.at_ 1).trans I0.s1) (fun a0_9 fa0_9 => ?_)
  clear fa0_8
  refine fa0_9.move 206 (.int .i64 (i : Int)) _ (Or.inl rfl) rfl (lb_ I0.size) (wanted_none rfl) ((fa0_9.at_ 19).trans h19) (fun a0_10 fa0_10 => ?_)
  clear fa0_9
  have r_a0_11 : (execOp a0_10.eval oZD49).run Try.prog (wr) = .ok (.value (.pointer (some ⟨lb, lo + i, none⟩))) (wr) := by
    unfold oZD49
    have e205 := (show a0_10.eval (.tmp 205) = .slice (some ⟨lb, lo, none⟩) n lc from (fa0_10.at_ 205))
    have e206 := (show a0_10.eval (.tmp 206) = .int .i64 (i : Int) from (fa0_10.at_ 206))
    clear fa0_10 hQ h19 h20
    generalize a0_10.eval = ρ at *
    go_simp
  refine fa0_10.step 207 (.pointer (some ⟨lb, lo + i, none⟩)) rfl (lb_ I0.size) (wanted_none rfl) r_a0_11 (fun a0_11 fa0_11 => ?_)
  clear r_a0_11
  clear fa0_10
  have r_a0_12 : (execOp a0_11.eval oZD50).run Try.prog (wr) = .ok (.value (.slice (some ⟨gx, 0, none⟩) xn xc)) (wr) := by
    unfold oZD50
    have e207 := (show a0_11.eval (.tmp 207) = .pointer (some ⟨lb, lo + i, none⟩) from (fa0_11.at_ 207))
    clear fa0_11 hQ h19 h20
    generalize a0_11.eval = ρ at *
    go_simp
  refine fa0_11.step 208 (.slice (some ⟨gx, 0, none⟩) xn xc) rfl (lb_ I0.size) (wanted_none rfl) r_a0_12 (fun a0_12 fa0_12 => ?_)
  clear r_a0_12
  clear fa0_11
  have r_a0_13 : (execOp a0_12.eval oZD51).run Try.prog (wr) = .ok (.value (.int .i64 (xn : Int))) (wr) := by
    unfold oZD51
    have e208 := (show a0_12.eval (.tmp 208) = .slice (some ⟨gx, 0, none⟩) xn xc from (fa0_12.at_ 208))
    clear fa0_12 hQ h19 h20
    generalize a0_12.eval = ρ at *
    go_simp
  refine fa0_12.step 209 (.int .i64 (xn : Int)) rfl (lb_ I0.size) (wanted_none rfl) r_a0_13 (fun a0_13 fa0_13 => ?_)
  clear r_a0_13
  clear fa0_12
  have r_a0_14 : (execOp a0_13.eval oZD52).run Try.prog (wr) = .ok (.value (.bool true)) (wr) := by
    unfold oZD52
    have e204 := (show a0_13.eval (.tmp 204) = .int .i64 (k : Int) from (fa0_13.at_ 204))
    have e209 := (show a0_13.eval (.tmp 209) = .int .i64 (xn : Int) from (fa0_13.at_ 209))
    clear fa0_13 hQ h19 h20
    generalize a0_13.eval = ρ at *
    go_simp
  refine fa0_13.step 210 (.bool true) rfl (lb_ I0.size) (wanted_none rfl) r_a0_14 (fun a0_14 fa0_14 => ?_)
  clear r_a0_14
  clear fa0_13
  refine fa0_14.move 211 (.bool true) _ (Or.inl rfl) rfl (lb_ I0.size) (wanted_none rfl) (fa0_14.at_ 210) (fun a0_15 fa0_15 => ?_)
  clear fa0_14
  refine fa0_15.move 212 (.slice (some ⟨lb, lo, none⟩) n lc) _ (Or.inl rfl) rfl (lb_ I0.size) ((wanted_at (t := 211) (c := true) (b := true) rfl rfl rfl (lb_ (fa0_15.size.trans I0.size)) (fa0_15.at_ 211)).trans (by rfl)) ((fa0_15.at_ 1).trans I0.s1) (fun a0_16 fa0_16 => ?_)
  clear fa0_15
  refine fa0_16.move 213 (.int .i64 (i : Int)) _ (Or.inl rfl) rfl (lb_ I0.size) ((wanted_at (t := 211) (c := true) (b := true) rfl rfl rfl (lb_ (fa0_16.size.trans I0.size)) (fa0_16.at_ 211)).trans (by rfl)) ((fa0_16.at_ 19).trans h19) (fun a0_17 fa0_17 => ?_)
  clear fa0_16
  have r_a0_18 : (execOp a0_17.eval oZD53).run Try.prog (wr) = .ok (.value (.pointer (some ⟨lb, lo + i, none⟩))) (wr) := by
    unfold oZD53
    have e212 := (show a0_17.eval (.tmp 212) = .slice (some ⟨lb, lo, none⟩) n lc from (fa0_17.at_ 212))
    have e213 := (show a0_17.eval (.tmp 213) = .int .i64 (i : Int) from (fa0_17.at_ 213))
    clear fa0_17 hQ h19 h20
    generalize a0_17.eval = ρ at *
    go_simp
  refine fa0_17.step 214 (.pointer (some ⟨lb, lo + i, none⟩)) rfl (lb_ I0.size) ((wanted_at (t := 211) (c := true) (b := true) rfl rfl rfl (lb_ (fa0_17.size.trans I0.size)) (fa0_17.at_ 211)).trans (by rfl)) r_a0_18 (fun a0_18 fa0_18 => ?_)
  clear r_a0_18
  clear fa0_17
  have r_a0_19 : (execOp a0_18.eval oZD54).run Try.prog (wr) = .ok (.value (.slice (some ⟨gx, 0, none⟩) xn xc)) (wr) := by
    unfold oZD54
    have e214 := (show a0_18.eval (.tmp 214) = .pointer (some ⟨lb, lo + i, none⟩) from (fa0_18.at_ 214))
    clear fa0_18 hQ h19 h20
    generalize a0_18.eval = ρ at *
    go_simp
  refine fa0_18.step 215 (.slice (some ⟨gx, 0, none⟩) xn xc) rfl (lb_ I0.size) ((wanted_at (t := 211) (c := true) (b := true) rfl rfl rfl (lb_ (fa0_18.size.trans I0.size)) (fa0_18.at_ 211)).trans (by rfl)) r_a0_19 (fun a0_19 fa0_19 => ?_)
  clear r_a0_19
  clear fa0_18
  refine fa0_19.move 216 (.int .i64 (k : Int)) _ (Or.inl rfl) rfl (lb_ I0.size) ((wanted_at (t := 211) (c := true) (b := true) rfl rfl rfl (lb_ (fa0_19.size.trans I0.size)) (fa0_19.at_ 211)).trans (by rfl)) ((fa0_19.at_ 20).trans h20) (fun a0_20 fa0_20 => ?_)
  clear fa0_19
  have r_a0_21 : (execOp a0_20.eval oZD55).run Try.prog (wr) = .ok (.value (.pointer (some ⟨gx, k * 2, none⟩))) (wr) := by
    unfold oZD55
    have e215 := (show a0_20.eval (.tmp 215) = .slice (some ⟨gx, 0, none⟩) xn xc from (fa0_20.at_ 215))
    have e216 := (show a0_20.eval (.tmp 216) = .int .i64 (k : Int) from (fa0_20.at_ 216))
    clear fa0_20 hQ h19 h20
    generalize a0_20.eval = ρ at *
    go_simp
  refine fa0_20.step 217 (.pointer (some ⟨gx, k * 2, none⟩)) rfl (lb_ I0.size) ((wanted_at (t := 211) (c := true) (b := true) rfl rfl rfl (lb_ (fa0_20.size.trans I0.size)) (fa0_20.at_ 211)).trans (by rfl)) r_a0_21 (fun a0_21 fa0_21 => ?_)
  clear r_a0_21
  clear fa0_20
  have r_a0_22 : (execOp a0_21.eval oZD56).run Try.prog (wr) = .ok (.value (.pointer (some ⟨gx, k * 2, none⟩))) (wr) := by
    unfold oZD56
    have e217 := (show a0_21.eval (.tmp 217) = .pointer (some ⟨gx, k * 2, none⟩) from (fa0_21.at_ 217))
    clear fa0_21 hQ h19 h20
    generalize a0_21.eval = ρ at *
    go_simp
  refine fa0_21.step 218 (.pointer (some ⟨gx, k * 2, none⟩)) rfl (lb_ I0.size) ((wanted_at (t := 211) (c := true) (b := true) rfl rfl rfl (lb_ (fa0_21.size.trans I0.size)) (fa0_21.at_ 211)).trans (by rfl)) r_a0_22 (fun a0_22 fa0_22 => ?_)
  clear r_a0_22
  clear fa0_21
  have r_a0_23 : (execOp a0_22.eval oZD57).run Try.prog (wr) = .ok (.value (.int .u32 (a : Int))) (wr) := by
    unfold oZD57
    have e218 := (show a0_22.eval (.tmp 218) = .pointer (some ⟨gx, k * 2, none⟩) from (fa0_22.at_ 218))
    clear fa0_22 hQ h19 h20
    generalize a0_22.eval = ρ at *
    go_simp
  refine fa0_22.step 219 (.int .u32 (a : Int)) rfl (lb_ I0.size) ((wanted_at (t := 211) (c := true) (b := true) rfl rfl rfl (lb_ (fa0_22.size.trans I0.size)) (fa0_22.at_ 211)).trans (by rfl)) r_a0_23 (fun a0_23 fa0_23 => ?_)
  clear r_a0_23
  clear fa0_22
  refine fa0_23.move 220 (.int .i64 (i : Int)) _ (Or.inl rfl) rfl (lb_ I0.size) ((wanted_at (t := 211) (c := true) (b := true) rfl rfl rfl (lb_ (fa0_23.size.trans I0.size)) (fa0_23.at_ 211)).trans (by rfl)) ((fa0_23.at_ 19).trans h19) (fun a0_24 fa0_24 => ?_)
  clear fa0_23
  have r_a0_25 : (execOp a0_24.eval oZD58).run Try.prog (wr) = .ok (.value (.int .i64 (a : Int))) (wr) := by
    unfold oZD58
    have kc : ∀ v, a0_24.eval (.const v) = v := fun _ => rfl
    have e220 := (show a0_24.eval (.tmp 220) = .int .i64 (i : Int) from (fa0_24.at_ 220))
    clear fa0_24 hQ h19 h20
    generalize a0_24.eval = ρ at *
    go_simp
  refine fa0_24.step 221 (.int .i64 (a : Int)) rfl (lb_ I0.size) ((wanted_at (t := 211) (c := true) (b := true) rfl rfl rfl (lb_ (fa0_24.size.trans I0.size)) (fa0_24.at_ 211)).trans (by rfl)) r_a0_25 (fun a0_25 fa0_25 => ?_)
  clear r_a0_25
  clear fa0_24
  have r_a0_26 : (execOp a0_25.eval oZD59).run Try.prog (wr) = .ok (.value (.int .u32 (a : Int))) (wr) := by
    unfold oZD59
    have e221 := (show a0_25.eval (.tmp 221) = .int .i64 (a : Int) from (fa0_25.at_ 221))
    clear fa0_25 hQ h19 h20
    generalize a0_25.eval = ρ at *
    go_simp
  refine fa0_25.step 222 (.int .u32 (a : Int)) rfl (lb_ I0.size) ((wanted_at (t := 211) (c := true) (b := true) rfl rfl rfl (lb_ (fa0_25.size.trans I0.size)) (fa0_25.at_ 211)).trans (by rfl)) r_a0_26 (fun a0_26 fa0_26 => ?_)
  clear r_a0_26
  clear fa0_25
  have r_a0_27 : (execOp a0_26.eval oZD60).run Try.prog (wr) = .ok (.value (.bool false)) (wr) := by
    unfold oZD60
    have e219 := (show a0_26.eval (.tmp 219) = .int .u32 (a : Int) from (fa0_26.at_ 219))
    have e222 := (show a0_26.eval (.tmp 222) = .int .u32 (a : Int) from (fa0_26.at_ 222))
    clear fa0_26 hQ h19 h20
    generalize a0_26.eval = ρ at *
    go_simp
  refine fa0_26.step 223 (.bool false) rfl (lb_ I0.size) ((wanted_at (t := 211) (c := true) (b := true) rfl rfl rfl (lb_ (fa0_26.size.trans I0.size)) (fa0_26.at_ 211)).trans (by rfl)) r_a0_27 (fun a0_27 fa0_27 => ?_)
  clear r_a0_27
  clear fa0_26
  refine fa0_27.move 224 (.bool false) _ (Or.inl rfl) rfl (lb_ I0.size) ((wanted_at (t := 211) (c := true) (b := true) rfl rfl rfl (lb_ (fa0_27.size.trans I0.size)) (fa0_27.at_ 211)).trans (by rfl)) (fa0_27.at_ 223) (fun a0_28 fa0_28 => ?_)
  clear fa0_27
  refine fa0_28.move 225 (.slice (some ⟨gm, 0, none⟩) n mc) _ (Or.inl rfl) rfl (lb_ I0.size) ((wanted_at (t := 224) (c := false) (b := false) rfl rfl rfl (lb_ (fa0_28.size.trans I0.size)) (fa0_28.at_ 224)).trans (by rfl)) ((fa0_28.at_ 13).trans I0.s13) (fun a0_29 fa0_29 => ?_)
  clear fa0_28
  refine fa0_29.move 226 (.int .i64 (i : Int)) _ (Or.inl rfl) rfl (lb_ I0.size) ((wanted_at (t := 224) (c := false) (b := false) rfl rfl rfl (lb_ (fa0_29.size.trans I0.size)) (fa0_29.at_ 224)).trans (by rfl)) ((fa0_29.at_ 19).trans h19) (fun a0_30 fa0_30 => ?_)
  clear fa0_29
  have r_a0_31 : (execOp a0_30.eval oZD61).run Try.prog (wr) = .ok (.value (.pointer (some ⟨gm, i, none⟩))) (wr) := by
    unfold oZD61
    have e225 := (show a0_30.eval (.tmp 225) = .slice (some ⟨gm, 0, none⟩) n mc from (fa0_30.at_ 225))
    have e226 := (show a0_30.eval (.tmp 226) = .int .i64 (i : Int) from (fa0_30.at_ 226))
    clear fa0_30 hQ h19 h20
    generalize a0_30.eval = ρ at *
    go_simp
  refine fa0_30.step 227 (.pointer (some ⟨gm, i, none⟩)) rfl (lb_ I0.size) ((wanted_at (t := 224) (c := false) (b := false) rfl rfl rfl (lb_ (fa0_30.size.trans I0.size)) (fa0_30.at_ 224)).trans (by rfl)) r_a0_31 (fun a0_31 fa0_31 => ?_)
  clear r_a0_31
  clear fa0_30
  have r_a0_32 : (execOp a0_31.eval oZD62).run Try.prog (wr) = .ok (.value (.slice (some ⟨gy, 0, none⟩) yn yc)) (wr) := by
    unfold oZD62
    have e227 := (show a0_31.eval (.tmp 227) = .pointer (some ⟨gm, i, none⟩) from (fa0_31.at_ 227))
    clear fa0_31 hQ h19 h20
    generalize a0_31.eval = ρ at *
    go_simp
  refine fa0_31.step 228 (.slice (some ⟨gy, 0, none⟩) yn yc) rfl (lb_ I0.size) ((wanted_at (t := 224) (c := false) (b := false) rfl rfl rfl (lb_ (fa0_31.size.trans I0.size)) (fa0_31.at_ 224)).trans (by rfl)) r_a0_32 (fun a0_32 fa0_32 => ?_)
  clear r_a0_32
  clear fa0_31
  refine fa0_32.move 229 (.int .i64 (k : Int)) _ (Or.inl rfl) rfl (lb_ I0.size) ((wanted_at (t := 224) (c := false) (b := false) rfl rfl rfl (lb_ (fa0_32.size.trans I0.size)) (fa0_32.at_ 224)).trans (by rfl)) ((fa0_32.at_ 20).trans h20) (fun a0_33 fa0_33 => ?_)
  clear fa0_32
  have r_a0_34 : (execOp a0_33.eval oZD63).run Try.prog (wr) = .ok (.value (.pointer (some ⟨gy, k * 2, none⟩))) (wr) := by
    unfold oZD63
    have e228 := (show a0_33.eval (.tmp 228) = .slice (some ⟨gy, 0, none⟩) yn yc from (fa0_33.at_ 228))
    have e229 := (show a0_33.eval (.tmp 229) = .int .i64 (k : Int) from (fa0_33.at_ 229))
    clear fa0_33 hQ h19 h20
    generalize a0_33.eval = ρ at *
    go_simp
  refine fa0_33.step 230 (.pointer (some ⟨gy, k * 2, none⟩)) rfl (lb_ I0.size) ((wanted_at (t := 224) (c := false) (b := false) rfl rfl rfl (lb_ (fa0_33.size.trans I0.size)) (fa0_33.at_ 224)).trans (by rfl)) r_a0_34 (fun a0_34 fa0_34 => ?_)
  clear r_a0_34
  clear fa0_33
  have r_a0_35 : (execOp a0_34.eval oZD64).run Try.prog (wr) = .ok (.value (.pointer (some ⟨gy, k * 2, none⟩))) (wr) := by
    unfold oZD64
    have e230 := (show a0_34.eval (.tmp 230) = .pointer (some ⟨gy, k * 2, none⟩) from (fa0_34.at_ 230))
    clear fa0_34 hQ h19 h20
    generalize a0_34.eval = ρ at *
    go_simp
  refine fa0_34.step 231 (.pointer (some ⟨gy, k * 2, none⟩)) rfl (lb_ I0.size) ((wanted_at (t := 224) (c := false) (b := false) rfl rfl rfl (lb_ (fa0_34.size.trans I0.size)) (fa0_34.at_ 224)).trans (by rfl)) r_a0_35 (fun a0_35 fa0_35 => ?_)
  clear r_a0_35
  clear fa0_34
  have r_a0_36 : (execOp a0_35.eval oZD65).run Try.prog (wr) = .ok (.value (.int .u32 (a : Int))) (wr) := by
    unfold oZD65
    have e231 := (show a0_35.eval (.tmp 231) = .pointer (some ⟨gy, k * 2, none⟩) from (fa0_35.at_ 231))
    clear fa0_35 hQ h19 h20
    generalize a0_35.eval = ρ at *
    go_simp
  refine fa0_35.step 232 (.int .u32 (a : Int)) rfl (lb_ I0.size) ((wanted_at (t := 224) (c := false) (b := false) rfl rfl rfl (lb_ (fa0_35.size.trans I0.size)) (fa0_35.at_ 224)).trans (by rfl)) r_a0_36 (fun a0_36 fa0_36 => ?_)
  clear r_a0_36
  clear fa0_35
  refine fa0_36.move 233 (.int .i64 (i : Int)) _ (Or.inl rfl) rfl (lb_ I0.size) ((wanted_at (t := 224) (c := false) (b := false) rfl rfl rfl (lb_ (fa0_36.size.trans I0.size)) (fa0_36.at_ 224)).trans (by rfl)) ((fa0_36.at_ 19).trans h19) (fun a0_37 fa0_37 => ?_)
  clear fa0_36
  have r_a0_38 : (execOp a0_37.eval oZD66).run Try.prog (wr) = .ok (.value (.int .i64 (a : Int))) (wr) := by
    unfold oZD66
    have kc : ∀ v, a0_37.eval (.const v) = v := fun _ => rfl
    have e233 := (show a0_37.eval (.tmp 233) = .int .i64 (i : Int) from (fa0_37.at_ 233))
    clear fa0_37 hQ h19 h20
    generalize a0_37.eval = ρ at *
    go_simp
  refine fa0_37.step 234 (.int .i64 (a : Int)) rfl (lb_ I0.size) ((wanted_at (t := 224) (c := false) (b := false) rfl rfl rfl (lb_ (fa0_37.size.trans I0.size)) (fa0_37.at_ 224)).trans (by rfl)) r_a0_38 (fun a0_38 fa0_38 => ?_)
  clear r_a0_38
  clear fa0_37
  have r_a0_39 : (execOp a0_38.eval oZD67).run Try.prog (wr) = .ok (.value (.int .u32 (a : Int))) (wr) := by
    unfold oZD67
    have e234 := (show a0_38.eval (.tmp 234) = .int .i64 (a : Int) from (fa0_38.at_ 234))
    clear fa0_38 hQ h19 h20
    generalize a0_38.eval = ρ at *
    go_simp
  refine fa0_38.step 235 (.int .u32 (a : Int)) rfl (lb_ I0.size) ((wanted_at (t := 224) (c := false) (b := false) rfl rfl rfl (lb_ (fa0_38.size.trans I0.size)) (fa0_38.at_ 224)).trans (by rfl)) r_a0_39 (fun a0_39 fa0_39 => ?_)
  clear r_a0_39
  clear fa0_38
  have r_a0_40 : (execOp a0_39.eval oZD68).run Try.prog (wr) = .ok (.value (.bool false)) (wr) := by
    unfold oZD68
    have e232 := (show a0_39.eval (.tmp 232) = .int .u32 (a : Int) from (fa0_39.at_ 232))
    have e235 := (show a0_39.eval (.tmp 235) = .int .u32 (a : Int) from (fa0_39.at_ 235))
    clear fa0_39 hQ h19 h20
    generalize a0_39.eval = ρ at *
    go_simp
  refine fa0_39.step 236 (.bool false) rfl (lb_ I0.size) ((wanted_at (t := 224) (c := false) (b := false) rfl rfl rfl (lb_ (fa0_39.size.trans I0.size)) (fa0_39.at_ 224)).trans (by rfl)) r_a0_40 (fun a0_40 fa0_40 => ?_)
  clear r_a0_40
  clear fa0_39
  have r_a0_41 : (execOp a0_40.eval oZD69).run Try.prog (wr) = .ok (.value (.bool false)) (wr) := by
    unfold oZD69
    have kc : ∀ v, a0_40.eval (.const v) = v := fun _ => rfl
    have e224 := (show a0_40.eval (.tmp 224) = .bool false from (fa0_40.at_ 224))
    have e236 := (show a0_40.eval (.tmp 236) = .bool false from (fa0_40.at_ 236))
    clear fa0_40 hQ h19 h20
    generalize a0_40.eval = ρ at *
    go_simp
  refine fa0_40.step 237 (.bool false) rfl (lb_ I0.size) ((wanted_at (t := 211) (c := true) (b := true) rfl rfl rfl (lb_ (fa0_40.size.trans I0.size)) (fa0_40.at_ 211)).trans (by rfl)) r_a0_41 (fun a0_41 fa0_41 => ?_)
  clear r_a0_41
  clear fa0_40
  have r_a0_42 : (execOp a0_41.eval oZD70).run Try.prog (wr) = .ok (.value (.bool false)) (wr) := by
    unfold oZD70
    have kc : ∀ v, a0_41.eval (.const v) = v := fun _ => rfl
    have e211 := (show a0_41.eval (.tmp 211) = .bool true from (fa0_41.at_ 211))
    have e237 := (show a0_41.eval (.tmp 237) = .bool false from (fa0_41.at_ 237))
    clear fa0_41 hQ h19 h20
    generalize a0_41.eval = ρ at *
    go_simp
  refine fa0_41.step 238 (.bool false) rfl (lb_ I0.size) (wanted_none rfl) r_a0_42 (fun a0_42 fa0_42 => ?_)
  clear r_a0_42
  clear fa0_41
  refine fa0_42.move 239 (.bool false) _ (Or.inl rfl) rfl (lb_ I0.size) (wanted_none rfl) (fa0_42.at_ 238) (fun a0_43 fa0_43 => ?_)
  clear fa0_42
  refine fa0_43.move 240 (.int .i64 (k : Int)) _ (Or.inl rfl) rfl (lb_ I0.size) ((wanted_at (t := 239) (c := false) (b := false) rfl rfl rfl (lb_ (fa0_43.size.trans I0.size)) (fa0_43.at_ 239)).trans (by rfl)) ((fa0_43.at_ 20).trans h20) (fun a0_44 fa0_44 => ?_)
  clear fa0_43
  refine fa0_44.move 241 (.slice (some ⟨lb, lo, none⟩) n lc) _ (Or.inl rfl) rfl (lb_ I0.size) ((wanted_at (t := 239) (c := false) (b := false) rfl rfl rfl (lb_ (fa0_44.size.trans I0.size)) (fa0_44.at_ 239)).trans (by rfl)) ((fa0_44.at_ 1).trans I0.s1) (fun a0_45 fa0_45 => ?_)
  clear fa0_44
  refine fa0_45.move 242 (.int .i64 (i : Int)) _ (Or.inl rfl) rfl (lb_ I0.size) ((wanted_at (t := 239) (c := false) (b := false) rfl rfl rfl (lb_ (fa0_45.size.trans I0.size)) (fa0_45.at_ 239)).trans (by rfl)) ((fa0_45.at_ 19).trans h19) (fun a0_46 fa0_46 => ?_)
  clear fa0_45
  have r_a0_47 : (execOp a0_46.eval oZD71).run Try.prog (wr) = .ok (.value (.pointer (some ⟨lb, lo + i, none⟩))) (wr) := by
    unfold oZD71
    have e241 := (show a0_46.eval (.tmp 241) = .slice (some ⟨lb, lo, none⟩) n lc from (fa0_46.at_ 241))
    have e242 := (show a0_46.eval (.tmp 242) = .int .i64 (i : Int) from (fa0_46.at_ 242))
    clear fa0_46 hQ h19 h20
    generalize a0_46.eval = ρ at *
    go_simp
  refine fa0_46.step 243 (.pointer (some ⟨lb, lo + i, none⟩)) rfl (lb_ I0.size) ((wanted_at (t := 239) (c := false) (b := false) rfl rfl rfl (lb_ (fa0_46.size.trans I0.size)) (fa0_46.at_ 239)).trans (by rfl)) r_a0_47 (fun a0_47 fa0_47 => ?_)
  clear r_a0_47
  clear fa0_46
  have r_a0_48 : (execOp a0_47.eval oZD72).run Try.prog (wr) = .ok (.value (.slice (some ⟨gx, 0, none⟩) xn xc)) (wr) := by
    unfold oZD72
    have e243 := (show a0_47.eval (.tmp 243) = .pointer (some ⟨lb, lo + i, none⟩) from (fa0_47.at_ 243))
    clear fa0_47 hQ h19 h20
    generalize a0_47.eval = ρ at *
    go_simp
  refine fa0_47.step 244 (.slice (some ⟨gx, 0, none⟩) xn xc) rfl (lb_ I0.size) ((wanted_at (t := 239) (c := false) (b := false) rfl rfl rfl (lb_ (fa0_47.size.trans I0.size)) (fa0_47.at_ 239)).trans (by rfl)) r_a0_48 (fun a0_48 fa0_48 => ?_)
  clear r_a0_48
  clear fa0_47
  have r_a0_49 : (execOp a0_48.eval oZD73).run Try.prog (wr) = .ok (.value (.int .i64 (xn : Int))) (wr) := by
    unfold oZD73
    have e244 := (show a0_48.eval (.tmp 244) = .slice (some ⟨gx, 0, none⟩) xn xc from (fa0_48.at_ 244))
    clear fa0_48 hQ h19 h20
    generalize a0_48.eval = ρ at *
    go_simp
  refine fa0_48.step 245 (.int .i64 (xn : Int)) rfl (lb_ I0.size) ((wanted_at (t := 239) (c := false) (b := false) rfl rfl rfl (lb_ (fa0_48.size.trans I0.size)) (fa0_48.at_ 239)).trans (by rfl)) r_a0_49 (fun a0_49 fa0_49 => ?_)
  clear r_a0_49
  clear fa0_48
  have r_a0_50 : (execOp a0_49.eval oZD74).run Try.prog (wr) = .ok (.value (.bool false)) (wr) := by
    unfold oZD74
    have e240 := (show a0_49.eval (.tmp 240) = .int .i64 (k : Int) from (fa0_49.at_ 240))
    have e245 := (show a0_49.eval (.tmp 245) = .int .i64 (xn : Int) from (fa0_49.at_ 245))
    clear fa0_49 hQ h19 h20
    generalize a0_49.eval = ρ at *
    go_simp
  refine fa0_49.step 246 (.bool false) rfl (lb_ I0.size) ((wanted_at (t := 239) (c := false) (b := false) rfl rfl rfl (lb_ (fa0_49.size.trans I0.size)) (fa0_49.at_ 239)).trans (by rfl)) r_a0_50 (fun a0_50 fa0_50 => ?_)
  clear r_a0_50
  clear fa0_49
  refine fa0_50.move 247 (.bool false) _ (Or.inl rfl) rfl (lb_ I0.size) ((wanted_at (t := 239) (c := false) (b := false) rfl rfl rfl (lb_ (fa0_50.size.trans I0.size)) (fa0_50.at_ 239)).trans (by rfl)) (fa0_50.at_ 246) (fun a0_51 fa0_51 => ?_)
  clear fa0_50
  refine fa0_51.skip 248 rfl (lb_ I0.size) ((wanted_at (t := 247) (c := false) (b := true) rfl rfl rfl (lb_ (fa0_51.size.trans I0.size)) (fa0_51.at_ 247)).trans (by rfl)) (fun a0_52 fa0_52 => ?_)
  clear fa0_51
  refine fa0_52.skip 249 rfl (lb_ I0.size) ((wanted_at (t := 247) (c := false) (b := true) rfl rfl rfl (lb_ (fa0_52.size.trans I0.size)) (fa0_52.at_ 247)).trans (by rfl)) (fun a0_53 fa0_53 => ?_)
  clear fa0_52
  refine fa0_53.skip 250 rfl (lb_ I0.size) ((wanted_at (t := 247) (c := false) (b := true) rfl rfl rfl (lb_ (fa0_53.size.trans I0.size)) (fa0_53.at_ 247)).trans (by rfl)) (fun a0_54 fa0_54 => ?_)
  clear fa0_53
  refine fa0_54.skip 251 rfl (lb_ I0.size) ((wanted_at (t := 247) (c := false) (b := true) rfl rfl rfl (lb_ (fa0_54.size.trans I0.size)) (fa0_54.at_ 247)).trans (by rfl)) (fun a0_55 fa0_55 => ?_)
  clear fa0_54
  refine fa0_55.skip 252 rfl (lb_ I0.size) ((wanted_at (t := 247) (c := false) (b := true) rfl rfl rfl (lb_ (fa0_55.size.trans I0.size)) (fa0_55.at_ 247)).trans (by rfl)) (fun a0_56 fa0_56 => ?_)
  clear fa0_55
  refine fa0_56.skip 253 rfl (lb_ I0.size) ((wanted_at (t := 247) (c := false) (b := true) rfl rfl rfl (lb_ (fa0_56.size.trans I0.size)) (fa0_56.at_ 247)).trans (by rfl)) (fun a0_57 fa0_57 => ?_)
  clear fa0_56
  refine fa0_57.skip 254 rfl (lb_ I0.size) ((wanted_at (t := 247) (c := false) (b := true) rfl rfl rfl (lb_ (fa0_57.size.trans I0.size)) (fa0_57.at_ 247)).trans (by rfl)) (fun a0_58 fa0_58 => ?_)
  clear fa0_57
  refine fa0_58.skip 255 rfl (lb_ I0.size) ((wanted_at (t := 247) (c := false) (b := true) rfl rfl rfl (lb_ (fa0_58.size.trans I0.size)) (fa0_58.at_ 247)).trans (by rfl)) (fun a0_59 fa0_59 => ?_)
  clear fa0_58
  refine fa0_59.skip 256 rfl (lb_ I0.size) ((wanted_at (t := 247) (c := false) (b := true) rfl rfl rfl (lb_ (fa0_59.size.trans I0.size)) (fa0_59.at_ 247)).trans (by rfl)) (fun a0_60 fa0_60 => ?_)
  clear fa0_59
  refine fa0_60.skip 257 rfl (lb_ I0.size) ((wanted_at (t := 247) (c := false) (b := true) rfl rfl rfl (lb_ (fa0_60.size.trans I0.size)) (fa0_60.at_ 247)).trans (by rfl)) (fun a0_61 fa0_61 => ?_)
  clear fa0_60
  refine fa0_61.skip 258 rfl (lb_ I0.size) ((wanted_at (t := 247) (c := false) (b := true) rfl rfl rfl (lb_ (fa0_61.size.trans I0.size)) (fa0_61.at_ 247)).trans (by rfl)) (fun a0_62 fa0_62 => ?_)
  clear fa0_61
  refine fa0_62.skip 259 rfl (lb_ I0.size) ((wanted_at (t := 247) (c := false) (b := true) rfl rfl rfl (lb_ (fa0_62.size.trans I0.size)) (fa0_62.at_ 247)).trans (by rfl)) (fun a0_63 fa0_63 => ?_)
  clear fa0_62
  have r_a0_64 : (execOp a0_63.eval oZD83).run Try.prog (wr) = .ok (.value (.bool false)) (wr) := by
    unfold oZD83
    have kc : ∀ v, a0_63.eval (.const v) = v := fun _ => rfl
    have e247 := (show a0_63.eval (.tmp 247) = .bool false from (fa0_63.at_ 247))
    have e259 := (show a0_63.eval (.tmp 259) = undef from (fa0_63.at_ 259))
    clear fa0_63 hQ h19 h20
    generalize a0_63.eval = ρ at *
    go_simp
  refine fa0_63.step 260 (.bool false) rfl (lb_ I0.size) ((wanted_at (t := 239) (c := false) (b := false) rfl rfl rfl (lb_ (fa0_63.size.trans I0.size)) (fa0_63.at_ 239)).trans (by rfl)) r_a0_64 (fun a0_64 fa0_64 => ?_)
  clear r_a0_64
  clear fa0_63
  have r_a0_65 : (execOp a0_64.eval oZD84).run Try.prog (wr) = .ok (.value (.bool false)) (wr) := by
    unfold oZD84
    have kc : ∀ v, a0_64.eval (.const v) = v := fun _ => rfl
    have e239 := (show a0_64.eval (.tmp 239) = .bool false from (fa0_64.at_ 239))
    have e260 := (show a0_64.eval (.tmp 260) = .bool false from (fa0_64.at_ 260))
    clear fa0_64 hQ h19 h20
    generalize a0_64.eval = ρ at *
    go_simp
  refine fa0_64.step 261 (.bool false) rfl (lb_ I0.size) (wanted_none rfl) r_a0_65 (fun a0_65 fa0_65 => ?_)
  clear r_a0_65
  clear fa0_64
  refine wpList_nil ?_
  change Code.wp _ _ _ _ _
  refine wp_cond_false (show a0_65.eval (.tmp 261) = .bool false from (fa0_65.at_ 261)) (wp_skip ?_)
  change Code.wp _ _ _ _ _
  refine wp_region_list ?_
  unfold rAP48
  refine fa0_65.move 202 (.int .i64 (k : Int)) _ (Or.inl rfl) rfl (lb_ I0.size) (wanted_none rfl) ((fa0_65.at_ 20).trans h20) (fun a0_66 fa0_66 => ?_)
  clear fa0_65
  have r_a0_67 : (execOp a0_66.eval oZD48).run Try.prog (wr) = .ok (.value (.int .i64 ((k : Int) + 1))) (wr) := by
    unfold oZD48
    have kc : ∀ v, a0_66.eval (.const v) = v := fun _ => rfl
    have e202 := (show a0_66.eval (.tmp 202) = .int .i64 (k : Int) from (fa0_66.at_ 202))
    clear fa0_66 hQ h19 h20
    generalize a0_66.eval = ρ at *
    go_simp
  refine fa0_66.step 203 (.int .i64 ((k : Int) + 1)) rfl (lb_ I0.size) (wanted_none rfl) r_a0_67 (fun a0_67 fa0_67 => ?_)
  clear r_a0_67
  clear fa0_66
  refine fa0_67.move 20 (.int .i64 ((k : Int) + 1)) _ (Or.inr rfl) rfl (lb_ I0.size) (wanted_none rfl) (fa0_67.at_ 203) (fun a0_68 fa0_68 => ?_)
  clear fa0_67
  refine wpList_nil ?_
  exact hQ a0_68 (I0.keep fa0_68 rfl rfl rfl rfl) (show a0_68.eval (.tmp 19) = .int .i64 (i : Int) from ((fa0_68.at_ 19).trans h19)) (show a0_68.eval (.tmp 20) = .int .i64 ((k : Int) + 1) from (fa0_68.at_ 20))
set_option maxRecDepth 100000 in
set_option maxHeartbeats 1000000 in
theorem eBM {v0 v9 : Value} {lb lo n lc gm mc gy yn yc i k a b xn xc : Nat} {xa : Option Addr} {Q : Exit → Act → World → Prop} (a0 : Act) (wr : World) (I0 : IZ v0 (.slice (some ⟨lb, lo, none⟩) n lc) v9 (.slice (some ⟨gm, 0, none⟩) n mc) a0) (h19 : a0.eval (.tmp 19) = .int .i64 (i : Int)) (h20 : a0.eval (.tmp 20) = .int .i64 (k : Int))
    (hi : i < n) (hn : n ≤ 4000000) (ha : a = 200000 + i) (hb : b = 400000 + i) (hkx : xn ≤ k) (hky : k < yn) (hyb : yn ≤ 1099511627776) (c1 : wr.cell? ⟨lb, lo + i, none⟩ = some (.slice xa xn xc)) (c2 : wr.cell? ⟨gm, i, none⟩ = some (.slice (some ⟨gy, 0, none⟩) yn yc)) (c3 : wr.cell? ⟨gy, k * 2, none⟩ = some (.int .u32 (b : Int)))
    (hQ : ∀ a', IZ v0 (.slice (some ⟨lb, lo, none⟩) n lc) v9 (.slice (some ⟨gm, 0, none⟩) n mc) a' → a'.eval (.tmp 19) = .int .i64 (i : Int) → a'.eval (.tmp 20) = .int .i64 ((k : Int) + 1) → Q .normal a' wr) : cEB2.wp Try.prog Q a0 wr := by
  have hii : (i : Int) < (n : Int) := by omega
  have hki : (k : Int) < (yn : Int) := by omega
  have w1 : RowKit.wrap64 (200000 + (i : Int)) = (a : Int) := by unfold RowKit.wrap64; omega
  have w2 : IntKind.u32.wrap (a : Int) = (a : Int) := by rw [IntKind.wrap_u32]; omega
  have w3 : RowKit.wrap64 (400000 + (i : Int)) = (b : Int) := by unfold RowKit.wrap64; omega
  have w4 : IntKind.u32.wrap (b : Int) = (b : Int) := by rw [IntKind.wrap_u32]; omega
  have w5 : IntKind.i64.wrap (200000 + (i : Int)) = (a : Int) := by rw [IntKind.wrap_i64]; omega
  have w6 : IntKind.i64.wrap (400000 + (i : Int)) = (b : Int) := by rw [IntKind.wrap_i64]; omega
  have w7 : IntKind.i64.wrap ((k : Int) + 1) = (k : Int) + 1 := by rw [IntKind.wrap_i64]; omega
  have hkxi : (xn : Int) ≤ (k : Int) := by omega
  have hkxd : decide ((k : Int) < (xn : Int)) = false := decide_eq_false (by omega)
  clear hi hky hyb ha hb
  have fa0_0 := Fe.refl a0
  unfold cEB2
  refine wp_seq (wp_seq ?_)
  refine wp_region_list ?_
  unfold rAP47
  refine fa0_0.move 195 (.int .i64 (k : Int)) _ (Or.inl rfl) rfl (lb_ I0.size) (wanted_none rfl) ((fa0_0.at_ 20).trans h20) (fun a0_1 fa0_1 => ?_)
  clear fa0_0
  refine fa0_1.move 196 (.slice (some ⟨gm, 0, none⟩) n mc) _ (Or.inl rfl) rfl (lb_ I0.size) (wanted_none rfl) ((fa0_1.at_ 13).trans I0.s13) (fun a0_2 fa0_2 => ?_)
  clear fa0_1
  refine fa0_2.move 197 (.int .i64 (i : Int)) _ (Or.inl rfl) rfl (lb_ I0.size) (wanted_none rfl) ((fa0_2.at_ 19).trans h19) (fun a0_3 fa0_3 => ?_)
  clear fa0_2
  have r_a0_4 : (execOp a0_3.eval oZD44).run Try.prog (wr) = .ok (.value (.pointer (some ⟨gm, i, none⟩))) (wr) := by
    unfold oZD44
    have e196 := (show a0_3.eval (.tmp 196) = .slice (some ⟨gm, 0, none⟩) n mc from (fa0_3.at_ 196))
    have e197 := (show a0_3.eval (.tmp 197) = .int .i64 (i : Int) from (fa0_3.at_ 197))
    clear fa0_3 hQ h19 h20
    generalize a0_3.eval = ρ at *
    go_simp
  refine fa0_3.step 198 (.pointer (some ⟨gm, i, none⟩)) rfl (lb_ I0.size) (wanted_none rfl) r_a0_4 (fun a0_4 fa0_4 => ?_)
  clear r_a0_4
  clear fa0_3
  have r_a0_5 : (execOp a0_4.eval oZD45).run Try.prog (wr) = .ok (.value (.slice (some ⟨gy, 0, none⟩) yn yc)) (wr) := by
    unfold oZD45
    have e198 := (show a0_4.eval (.tmp 198) = .pointer (some ⟨gm, i, none⟩) from (fa0_4.at_ 198))
    clear fa0_4 hQ h19 h20
    generalize a0_4.eval = ρ at *
    go_simp
  refine fa0_4.step 199 (.slice (some ⟨gy, 0, none⟩) yn yc) rfl (lb_ I0.size) (wanted_none rfl) r_a0_5 (fun a0_5 fa0_5 => ?_)
  clear r_a0_5
  clear fa0_4
  have r_a0_6 : (execOp a0_5.eval oZD46).run Try.prog (wr) = .ok (.value (.int .i64 (yn : Int))) (wr) := by
    unfold oZD46
    have e199 := (show a0_5.eval (.tmp 199) = .slice (some ⟨gy, 0, none⟩) yn yc from (fa0_5.at_ 199))
    clear fa0_5 hQ h19 h20
    generalize a0_5.eval = ρ at *
    go_simp
  refine fa0_5.step 200 (.int .i64 (yn : Int)) rfl (lb_ I0.size) (wanted_none rfl) r_a0_6 (fun a0_6 fa0_6 => ?_)
  clear r_a0_6
  clear fa0_5
  have r_a0_7 : (execOp a0_6.eval oZD47).run Try.prog (wr) = .ok (.value (.bool true)) (wr) := by
    unfold oZD47
    have e195 := (show a0_6.eval (.tmp 195) = .int .i64 (k : Int) from (fa0_6.at_ 195))
    have e200 := (show a0_6.eval (.tmp 200) = .int .i64 (yn : Int) from (fa0_6.at_ 200))
    clear fa0_6 hQ h19 h20
    generalize a0_6.eval = ρ at *
    go_simp
  refine fa0_6.step 201 (.bool true) rfl (lb_ I0.size) (wanted_none rfl) r_a0_7 (fun a0_7 fa0_7 => ?_)
  clear r_a0_7
  clear fa0_6
  refine wpList_nil ?_
  change Code.wp _ _ _ _ _
  refine wp_cond_true (show a0_7.eval (.tmp 201) = .bool true from (fa0_7.at_ 201)) (wp_skip ?_)
  change Code.wp _ _ _ _ _
  refine wp_seq (wp_block (wp_seq ?_))
  refine wp_region_list ?_
  unfold rAP49
  refine fa0_7.move 204 (.int .i64 (k : Int)) _ (Or.inl rfl) rfl (lb_ I0.size) (wanted_none rfl) ((fa0_7.at_ 20).trans h20) (fun a0_8 fa0_8 => ?_)
  clear fa0_7
  refine fa0_8.move 205 (.slice (some ⟨lb, lo, none⟩) n lc) _ (Or.inl rfl) rfl (lb_ I0.size) (wanted_none rfl) ((fa0_8.at_ 1).trans I0.s1) (fun a0_9 fa0_9 => ?_)
  clear fa0_8
  refine fa0_9.move 206 (.int .i64 (i : Int)) _ (Or.inl rfl) rfl (lb_ I0.size) (wanted_none rfl) ((fa0_9.at_ 19).trans h19) (fun a0_10 fa0_10 => ?_)
  clear fa0_9
  have r_a0_11 : (execOp a0_10.eval oZD49).run Try.prog (wr) = .ok (.value (.pointer (some ⟨lb, lo + i, none⟩))) (wr) := by
    unfold oZD49
    have e205 := (show a0_10.eval (.tmp 205) = .slice (some ⟨lb, lo, none⟩) n lc from (fa0_10.at_ 205))
    have e206 := (show a0_10.eval (.tmp 206) = .int .i64 (i : Int) from (fa0_10.at_ 206))
    clear fa0_10 hQ h19 h20
    generalize a0_10.eval = ρ at *
    go_simp
  refine fa0_10.step 207 (.pointer (some ⟨lb, lo + i, none⟩)) rfl (lb_ I0.size) (wanted_none rfl) r_a0_11 (fun a0_11 fa0_11 => ?_)
  clear r_a0_11
  clear fa0_10
  have r_a0_12 : (execOp a0_11.eval oZD50).run Try.prog (wr) = .ok (.value (.slice xa xn xc)) (wr) := by
    unfold oZD50
    have e207 := (show a0_11.eval (.tmp 207) = .pointer (some ⟨lb, lo + i, none⟩) from (fa0_11.at_ 207))
    clear fa0_11 hQ h19 h20
    generalize a0_11.eval = ρ at *
    go_simp
  refine fa0_11.step 208 (.slice xa xn xc) rfl (lb_ I0.size) (wanted_none rfl) r_a0_12 (fun a0_12 fa0_12 => ?_)
  clear r_a0_12
  clear fa0_11
  have r_a0_13 : (execOp a0_12.eval oZD51).run Try.prog (wr) = .ok (.value (.int .i64 (xn : Int))) (wr) := by
    unfold oZD51
    have e208 := (show a0_12.eval (.tmp 208) = .slice xa xn xc from (fa0_12.at_ 208))
    clear fa0_12 hQ h19 h20
    generalize a0_12.eval = ρ at *
    go_simp
  refine fa0_12.step 209 (.int .i64 (xn : Int)) rfl (lb_ I0.size) (wanted_none rfl) r_a0_13 (fun a0_13 fa0_13 => ?_)
  clear r_a0_13
  clear fa0_12
  have r_a0_14 : (execOp a0_13.eval oZD52).run Try.prog (wr) = .ok (.value (.bool false)) (wr) := by
    unfold oZD52
    have e204 := (show a0_13.eval (.tmp 204) = .int .i64 (k : Int) from (fa0_13.at_ 204))
    have e209 := (show a0_13.eval (.tmp 209) = .int .i64 (xn : Int) from (fa0_13.at_ 209))
    clear fa0_13 hQ h19 h20
    generalize a0_13.eval = ρ at *
    go_simp
  refine fa0_13.step 210 (.bool false) rfl (lb_ I0.size) (wanted_none rfl) r_a0_14 (fun a0_14 fa0_14 => ?_)
  clear r_a0_14
  clear fa0_13
  refine fa0_14.move 211 (.bool false) _ (Or.inl rfl) rfl (lb_ I0.size) (wanted_none rfl) (fa0_14.at_ 210) (fun a0_15 fa0_15 => ?_)
  clear fa0_14
  refine fa0_15.skip 212 rfl (lb_ I0.size) ((wanted_at (t := 211) (c := false) (b := true) rfl rfl rfl (lb_ (fa0_15.size.trans I0.size)) (fa0_15.at_ 211)).trans (by rfl)) (fun a0_16 fa0_16 => ?_)
  clear fa0_15
  refine fa0_16.skip 213 rfl (lb_ I0.size) ((wanted_at (t := 211) (c := false) (b := true) rfl rfl rfl (lb_ (fa0_16.size.trans I0.size)) (fa0_16.at_ 211)).trans (by rfl)) (fun a0_17 fa0_17 => ?_)
  clear fa0_16
  refine fa0_17.skip 214 rfl (lb_ I0.size) ((wanted_at (t := 211) (c := false) (b := true) rfl rfl rfl (lb_ (fa0_17.size.trans I0.size)) (fa0_17.at_ 211)).trans (by rfl)) (fun a0_18 fa0_18 => ?_)
  clear fa0_17
  refine fa0_18.skip 215 rfl (lb_ I0.size) ((wanted_at (t := 211) (c := false) (b := true) rfl rfl rfl (lb_ (fa0_18.size.trans I0.size)) (fa0_18.at_ 211)).trans (by rfl)) (fun a0_19 fa0_19 => ?_)
  clear fa0_18
  refine fa0_19.skip 216 rfl (lb_ I0.size) ((wanted_at (t := 211) (c := false) (b := true) rfl rfl rfl (lb_ (fa0_19.size.trans I0.size)) (fa0_19.at_ 211)).trans (by rfl)) (fun a0_20 fa0_20 => ?_)
  clear fa0_19
  refine fa0_20.skip 217 rfl (lb_ I0.size) ((wanted_at (t := 211) (c := false) (b := true) rfl rfl rfl (lb_ (fa0_20.size.trans I0.size)) (fa0_20.at_ 211)).trans (by rfl)) (fun a0_21 fa0_21 => ?_)
  clear fa0_20
  refine fa0_21.skip 218 rfl (lb_ I0.size) ((wanted_at (t := 211) (c := false) (b := true) rfl rfl rfl (lb_ (fa0_21.size.trans I0.size)) (fa0_21.at_ 211)).trans (by rfl)) (fun a0_22 fa0_22 => ?_)
  clear fa0_21
  refine fa0_22.skip 219 rfl (lb_ I0.size) ((wanted_at (t := 211) (c := false) (b := true) rfl rfl rfl (lb_ (fa0_22.size.trans I0.size)) (fa0_22.at_ 211)).trans (by rfl)) (fun a0_23 fa0_23 => ?_)
  clear fa0_22
  refine fa0_23.skip 220 rfl (lb_ I0.size) ((wanted_at (t := 211) (c := false) (b := true) rfl rfl rfl (lb_ (fa0_23.size.trans I0.size)) (fa0_23.at_ 211)).trans (by rfl)) (fun a0_24 fa0_24 => ?_)
  clear fa0_23
  refine fa0_24.skip 221 rfl (lb_ I0.size) ((wanted_at (t := 211) (c := false) (b := true) rfl rfl rfl (lb_ (fa0_24.size.trans I0.size)) (fa0_24.at_ 211)).trans (by rfl)) (fun a0_25 fa0_25 => ?_)
  clear fa0_24
  refine fa0_25.skip 222 rfl (lb_ I0.size) ((wanted_at (t := 211) (c := false) (b := true) rfl rfl rfl (lb_ (fa0_25.size.trans I0.size)) (fa0_25.at_ 211)).trans (by rfl)) (fun a0_26 fa0_26 => ?_)
  clear fa0_25
  refine fa0_26.skip 223 rfl (lb_ I0.size) ((wanted_at (t := 211) (c := false) (b := true) rfl rfl rfl (lb_ (fa0_26.size.trans I0.size)) (fa0_26.at_ 211)).trans (by rfl)) (fun a0_27 fa0_27 => ?_)
  clear fa0_26
  refine fa0_27.skip 224 rfl (lb_ I0.size) ((wanted_at (t := 211) (c := false) (b := true) rfl rfl rfl (lb_ (fa0_27.size.trans I0.size)) (fa0_27.at_ 211)).trans (by rfl)) (fun a0_28 fa0_28 => ?_)
  clear fa0_27
  refine fa0_28.skip 225 rfl (lb_ I0.size) (wanted_undef (t := 224) rfl rfl rfl (lb_ (fa0_28.size.trans I0.size)) (fa0_28.at_ 224)) (fun a0_29 fa0_29 => ?_)
  clear fa0_28
  refine fa0_29.skip 226 rfl (lb_ I0.size) (wanted_undef (t := 224) rfl rfl rfl (lb_ (fa0_29.size.trans I0.size)) (fa0_29.at_ 224)) (fun a0_30 fa0_30 => ?_)
  clear fa0_29
  refine fa0_30.skip 227 rfl (lb_ I0.size) (wanted_undef (t := 224) rfl rfl rfl (lb_ (fa0_30.size.trans I0.size)) (fa0_30.at_ 224)) (fun a0_31 fa0_31 => ?_)
  clear fa0_30
  refine fa0_31.skip 228 rfl (lb_ I0.size) (wanted_undef (t := 224) rfl rfl rfl (lb_ (fa0_31.size.trans I0.size)) (fa0_31.at_ 224)) (fun a0_32 fa0_32 => ?_)
  clear fa0_31
  refine fa0_32.skip 229 rfl (lb_ I0.size) (wanted_undef (t := 224) rfl rfl rfl (lb_ (fa0_32.size.trans I0.size)) (fa0_32.at_ 224)) (fun a0_33 fa0_33 => ?_)
  clear fa0_32
  refine fa0_33.skip 230 rfl (lb_ I0.size) (wanted_undef (t := 224) rfl rfl rfl (lb_ (fa0_33.size.trans I0.size)) (fa0_33.at_ 224)) (fun a0_34 fa0_34 => ?_)
  clear fa0_33
  refine fa0_34.skip 231 rfl (lb_ I0.size) (wanted_undef (t := 224) rfl rfl rfl (lb_ (fa0_34.size.trans I0.size)) (fa0_34.at_ 224)) (fun a0_35 fa0_35 => ?_)
  clear fa0_34
  refine fa0_35.skip 232 rfl (lb_ I0.size) (wanted_undef (t := 224) rfl rfl rfl (lb_ (fa0_35.size.trans I0.size)) (fa0_35.at_ 224)) (fun a0_36 fa0_36 => ?_)
  clear fa0_35
  refine fa0_36.skip 233 rfl (lb_ I0.size) (wanted_undef (t := 224) rfl rfl rfl (lb_ (fa0_36.size.trans I0.size)) (fa0_36.at_ 224)) (fun a0_37 fa0_37 => ?_)
  clear fa0_36
  refine fa0_37.skip 234 rfl (lb_ I0.size) (wanted_undef (t := 224) rfl rfl rfl (lb_ (fa0_37.size.trans I0.size)) (fa0_37.at_ 224)) (fun a0_38 fa0_38 => ?_)
  clear fa0_37
  refine fa0_38.skip 235 rfl (lb_ I0.size) (wanted_undef (t := 224) rfl rfl rfl (lb_ (fa0_38.size.trans I0.size)) (fa0_38.at_ 224)) (fun a0_39 fa0_39 => ?_)
  clear fa0_38
  refine fa0_39.skip 236 rfl (lb_ I0.size) (wanted_undef (t := 224) rfl rfl rfl (lb_ (fa0_39.size.trans I0.size)) (fa0_39.at_ 224)) (fun a0_40 fa0_40 => ?_)
  clear fa0_39
  refine fa0_40.skip 237 rfl (lb_ I0.size) ((wanted_at (t := 211) (c := false) (b := true) rfl rfl rfl (lb_ (fa0_40.size.trans I0.size)) (fa0_40.at_ 211)).trans (by rfl)) (fun a0_41 fa0_41 => ?_)
  clear fa0_40
  have r_a0_42 : (execOp a0_41.eval oZD70).run Try.prog (wr) = .ok (.value (.bool false)) (wr) := by
    unfold oZD70
    have kc : ∀ v, a0_41.eval (.const v) = v := fun _ => rfl
    have e211 := (show a0_41.eval (.tmp 211) = .bool false from (fa0_41.at_ 211))
    have e237 := (show a0_41.eval (.tmp 237) = undef from (fa0_41.at_ 237))
    clear fa0_41 hQ h19 h20
    generalize a0_41.eval = ρ at *
    go_simp
  refine fa0_41.step 238 (.bool false) rfl (lb_ I0.size) (wanted_none rfl) r_a0_42 (fun a0_42 fa0_42 => ?_)
  clear r_a0_42
  clear fa0_41
  refine fa0_42.move 239 (.bool false) _ (Or.inl rfl) rfl (lb_ I0.size) (wanted_none rfl) (fa0_42.at_ 238) (fun a0_43 fa0_43 => ?_)
  clear fa0_42
  refine fa0_43.move 240 (.int .i64 (k : Int)) _ (Or.inl rfl) rfl (lb_ I0.size) ((wanted_at (t := 239) (c := false) (b := false) rfl rfl rfl (lb_ (fa0_43.size.trans I0.size)) (fa0_43.at_ 239)).trans (by rfl)) ((fa0_43.at_ 20).trans h20) (fun a0_44 fa0_44 => ?_)
  clear fa0_43
  refine fa0_44.move 241 (.slice (some ⟨lb, lo, none⟩) n lc) _ (Or.inl rfl) rfl (lb_ I0.size) ((wanted_at (t := 239) (c := false) (b := false) rfl rfl rfl (lb_ (fa0_44.size.trans I0.size)) (fa0_44.at_ 239)).trans (by rfl)) ((fa0_44.at_ 1).trans I0.s1) (fun a0_45 fa0_45 => ?_)
  clear fa0_44
  refine fa0_45.move 242 (.int .i64 (i : Int)) _ (Or.inl rfl) rfl (lb_ I0.size) ((wanted_at (t := 239) (c := false) (b := false) rfl rfl rfl (lb_ (fa0_45.size.trans I0.size)) (fa0_45.at_ 239)).trans (by rfl)) ((fa0_45.at_ 19).trans h19) (fun a0_46 fa0_46 => ?_)
  clear fa0_45
  have r_a0_47 : (execOp a0_46.eval oZD71).run Try.prog (wr) = .ok (.value (.pointer (some ⟨lb, lo + i, none⟩))) (wr) := by
    unfold oZD71
    have e241 := (show a0_46.eval (.tmp 241) = .slice (some ⟨lb, lo, none⟩) n lc from (fa0_46.at_ 241))
    have e242 := (show a0_46.eval (.tmp 242) = .int .i64 (i : Int) from (fa0_46.at_ 242))
    clear fa0_46 hQ h19 h20
    generalize a0_46.eval = ρ at *
    go_simp
  refine fa0_46.step 243 (.pointer (some ⟨lb, lo + i, none⟩)) rfl (lb_ I0.size) ((wanted_at (t := 239) (c := false) (b := false) rfl rfl rfl (lb_ (fa0_46.size.trans I0.size)) (fa0_46.at_ 239)).trans (by rfl)) r_a0_47 (fun a0_47 fa0_47 => ?_)
  clear r_a0_47
  clear fa0_46
  have r_a0_48 : (execOp a0_47.eval oZD72).run Try.prog (wr) = .ok (.value (.slice xa xn xc)) (wr) := by
    unfold oZD72
    have e243 := (show a0_47.eval (.tmp 243) = .pointer (some ⟨lb, lo + i, none⟩) from (fa0_47.at_ 243))
    clear fa0_47 hQ h19 h20
    generalize a0_47.eval = ρ at *
    go_simp
  refine fa0_47.step 244 (.slice xa xn xc) rfl (lb_ I0.size) ((wanted_at (t := 239) (c := false) (b := false) rfl rfl rfl (lb_ (fa0_47.size.trans I0.size)) (fa0_47.at_ 239)).trans (by rfl)) r_a0_48 (fun a0_48 fa0_48 => ?_)
  clear r_a0_48
  clear fa0_47
  have r_a0_49 : (execOp a0_48.eval oZD73).run Try.prog (wr) = .ok (.value (.int .i64 (xn : Int))) (wr) := by
    unfold oZD73
    have e244 := (show a0_48.eval (.tmp 244) = .slice xa xn xc from (fa0_48.at_ 244))
    clear fa0_48 hQ h19 h20
    generalize a0_48.eval = ρ at *
    go_simp
  refine fa0_48.step 245 (.int .i64 (xn : Int)) rfl (lb_ I0.size) ((wanted_at (t := 239) (c := false) (b := false) rfl rfl rfl (lb_ (fa0_48.size.trans I0.size)) (fa0_48.at_ 239)).trans (by rfl)) r_a0_49 (fun a0_49 fa0_49 => ?_)
  clear r_a0_49
  clear fa0_48
  have r_a0_50 : (execOp a0_49.eval oZD74).run Try.prog (wr) = .ok (.value (.bool true)) (wr) := by
    unfold oZD74
    have e240 := (show a0_49.eval (.tmp 240) = .int .i64 (k : Int) from (fa0_49.at_ 240))
    have e245 := (show a0_49.eval (.tmp 245) = .int .i64 (xn : Int) from (fa0_49.at_ 245))
    clear fa0_49 hQ h19 h20
    generalize a0_49.eval = ρ at *
    go_simp
  refine fa0_49.step 246 (.bool true) rfl (lb_ I0.size) ((wanted_at (t := 239) (c := false) (b := false) rfl rfl rfl (lb_ (fa0_49.size.trans I0.size)) (fa0_49.at_ 239)).trans (by rfl)) r_a0_50 (fun a0_50 fa0_50 => ?_)
  clear r_a0_50
  clear fa0_49
  refine fa0_50.move 247 (.bool true) _ (Or.inl rfl) rfl (lb_ I0.size) ((wanted_at (t := 239) (c := false) (b := false) rfl rfl rfl (lb_ (fa0_50.size.trans I0.size)) (fa0_50.at_ 239)).trans (by rfl)) (fa0_50.at_ 246) (fun a0_51 fa0_51 => ?_)
  clear fa0_50
  refine fa0_51.move 248 (.slice (some ⟨gm, 0, none⟩) n mc) _ (Or.inl rfl) rfl (lb_ I0.size) ((wanted_at (t := 247) (c := true) (b := true) rfl rfl rfl (lb_ (fa0_51.size.trans I0.size)) (fa0_51.at_ 247)).trans (by rfl)) ((fa0_51.at_ 13).trans I0.s13) (fun a0_52 fa0_52 => ?_)
  clear fa0_51
  refine fa0_52.move 249 (.int .i64 (i : Int)) _ (Or.inl rfl) rfl (lb_ I0.size) ((wanted_at (t := 247) (c := true) (b := true) rfl rfl rfl (lb_ (fa0_52.size.trans I0.size)) (fa0_52.at_ 247)).trans (by rfl)) ((fa0_52.at_ 19).trans h19) (fun a0_53 fa0_53 => ?_)
  clear fa0_52
  have r_a0_54 : (execOp a0_53.eval oZD75).run Try.prog (wr) = .ok (.value (.pointer (some ⟨gm, i, none⟩))) (wr) := by
    unfold oZD75
    have e248 := (show a0_53.eval (.tmp 248) = .slice (some ⟨gm, 0, none⟩) n mc from (fa0_53.at_ 248))
    have e249 := (show a0_53.eval (.tmp 249) = .int .i64 (i : Int) from (fa0_53.at_ 249))
    clear fa0_53 hQ h19 h20
    generalize a0_53.eval = ρ at *
    go_simp
  refine fa0_53.step 250 (.pointer (some ⟨gm, i, none⟩)) rfl (lb_ I0.size) ((wanted_at (t := 247) (c := true) (b := true) rfl rfl rfl (lb_ (fa0_53.size.trans I0.size)) (fa0_53.at_ 247)).trans (by rfl)) r_a0_54 (fun a0_54 fa0_54 => ?_)
  clear r_a0_54
  clear fa0_53
  have r_a0_55 : (execOp a0_54.eval oZD76).run Try.prog (wr) = .ok (.value (.slice (some ⟨gy, 0, none⟩) yn yc)) (wr) := by
    unfold oZD76
    have e250 := (show a0_54.eval (.tmp 250) = .pointer (some ⟨gm, i, none⟩) from (fa0_54.at_ 250))
    clear fa0_54 hQ h19 h20
    generalize a0_54.eval = ρ at *
    go_simp
  refine fa0_54.step 251 (.slice (some ⟨gy, 0, none⟩) yn yc) rfl (lb_ I0.size) ((wanted_at (t := 247) (c := true) (b := true) rfl rfl rfl (lb_ (fa0_54.size.trans I0.size)) (fa0_54.at_ 247)).trans (by rfl)) r_a0_55 (fun a0_55 fa0_55 => ?_)
  clear r_a0_55
  clear fa0_54
  refine fa0_55.move 252 (.int .i64 (k : Int)) _ (Or.inl rfl) rfl (lb_ I0.size) ((wanted_at (t := 247) (c := true) (b := true) rfl rfl rfl (lb_ (fa0_55.size.trans I0.size)) (fa0_55.at_ 247)).trans (by rfl)) ((fa0_55.at_ 20).trans h20) (fun a0_56 fa0_56 => ?_)
  clear fa0_55
  have r_a0_57 : (execOp a0_56.eval oZD77).run Try.prog (wr) = .ok (.value (.pointer (some ⟨gy, k * 2, none⟩))) (wr) := by
    unfold oZD77
    have e251 := (show a0_56.eval (.tmp 251) = .slice (some ⟨gy, 0, none⟩) yn yc from (fa0_56.at_ 251))
    have e252 := (show a0_56.eval (.tmp 252) = .int .i64 (k : Int) from (fa0_56.at_ 252))
    clear fa0_56 hQ h19 h20
    generalize a0_56.eval = ρ at *
    go_simp
  refine fa0_56.step 253 (.pointer (some ⟨gy, k * 2, none⟩)) rfl (lb_ I0.size) ((wanted_at (t := 247) (c := true) (b := true) rfl rfl rfl (lb_ (fa0_56.size.trans I0.size)) (fa0_56.at_ 247)).trans (by rfl)) r_a0_57 (fun a0_57 fa0_57 => ?_)
  clear r_a0_57
  clear fa0_56
  have r_a0_58 : (execOp a0_57.eval oZD78).run Try.prog (wr) = .ok (.value (.pointer (some ⟨gy, k * 2, none⟩))) (wr) := by
    unfold oZD78
    have e253 := (show a0_57.eval (.tmp 253) = .pointer (some ⟨gy, k * 2, none⟩) from (fa0_57.at_ 253))
    clear fa0_57 hQ h19 h20
    generalize a0_57.eval = ρ at *
    go_simp
  refine fa0_57.step 254 (.pointer (some ⟨gy, k * 2, none⟩)) rfl (lb_ I0.size) ((wanted_at (t := 247) (c := true) (b := true) rfl rfl rfl (lb_ (fa0_57.size.trans I0.size)) (fa0_57.at_ 247)).trans (by rfl)) r_a0_58 (fun a0_58 fa0_58 => ?_)
  clear r_a0_58
  clear fa0_57
  have r_a0_59 : (execOp a0_58.eval oZD79).run Try.prog (wr) = .ok (.value (.int .u32 (b : Int))) (wr) := by
    unfold oZD79
    have e254 := (show a0_58.eval (.tmp 254) = .pointer (some ⟨gy, k * 2, none⟩) from (fa0_58.at_ 254))
    clear fa0_58 hQ h19 h20
    generalize a0_58.eval = ρ at *
    go_simp
  refine fa0_58.step 255 (.int .u32 (b : Int)) rfl (lb_ I0.size) ((wanted_at (t := 247) (c := true) (b := true) rfl rfl rfl (lb_ (fa0_58.size.trans I0.size)) (fa0_58.at_ 247)).trans (by rfl)) r_a0_59 (fun a0_59 fa0_59 => ?_)
  clear r_a0_59
  clear fa0_58
  refine fa0_59.move 256 (.int .i64 (i : Int)) _ (Or.inl rfl) rfl (lb_ I0.size) ((wanted_at (t := 247) (c := true) (b := true) rfl rfl rfl (lb_ (fa0_59.size.trans I0.size)) (fa0_59.at_ 247)).trans (by rfl)) ((fa0_59.at_ 19).trans h19) (fun a0_60 fa0_60 => ?_)
  clear fa0_59
  have r_a0_61 : (execOp a0_60.eval oZD80).run Try.prog (wr) = .ok (.value (.int .i64 (b : Int))) (wr) := by
    unfold oZD80
    have kc : ∀ v, a0_60.eval (.const v) = v := fun _ => rfl
    have e256 := (show a0_60.eval (.tmp 256) = .int .i64 (i : Int) from (fa0_60.at_ 256))
    clear fa0_60 hQ h19 h20
    generalize a0_60.eval = ρ at *
    go_simp
  refine fa0_60.step 257 (.int .i64 (b : Int)) rfl (lb_ I0.size) ((wanted_at (t := 247) (c := true) (b := true) rfl rfl rfl (lb_ (fa0_60.size.trans I0.size)) (fa0_60.at_ 247)).trans (by rfl)) r_a0_61 (fun a0_61 fa0_61 => ?_)
  clear r_a0_61
  clear fa0_60
  have r_a0_62 : (execOp a0_61.eval oZD81).run Try.prog (wr) = .ok (.value (.int .u32 (b : Int))) (wr) := by
    unfold oZD81
    have e257 := (show a0_61.eval (.tmp 257) = .int .i64 (b : Int) from (fa0_61.at_ 257))
    clear fa0_61 hQ h19 h20
    generalize a0_61.eval = ρ at *
    go_simp
  refine fa0_61.step 258 (.int .u32 (b : Int)) rfl (lb_ I0.size) ((wanted_at (t := 247) (c := true) (b := true) rfl rfl rfl (lb_ (fa0_61.size.trans I0.size)) (fa0_61.at_ 247)).trans (by rfl)) r_a0_62 (fun a0_62 fa0_62 => ?_)
  clear r_a0_62
  clear fa0_61
  have r_a0_63 : (execOp a0_62.eval oZD82).run Try.prog (wr) = .ok (.value (.bool false)) (wr) := by
    unfold oZD82
    have e255 := (show a0_62.eval (.tmp 255) = .int .u32 (b : Int) from (fa0_62.at_ 255))
    have e258 := (show a0_62.eval (.tmp 258) = .int .u32 (b : Int) from (fa0_62.at_ 258))
    clear fa0_62 hQ h19 h20
    generalize a0_62.eval = ρ at *
    go_simp
  refine fa0_62.step 259 (.bool false) rfl (lb_ I0.size) ((wanted_at (t := 247) (c := true) (b := true) rfl rfl rfl (lb_ (fa0_62.size.trans I0.size)) (fa0_62.at_ 247)).trans (by rfl)) r_a0_63 (fun a0_63 fa0_63 => ?_)
  clear r_a0_63
  clear fa0_62
  have r_a0_64 : (execOp a0_63.eval oZD83).run Try.prog (wr) = .ok (.value (.bool false)) (wr) := by
    unfold oZD83
    have kc : ∀ v, a0_63.eval (.const v) = v := fun _ => rfl
    have e247 := (show a0_63.eval (.tmp 247) = .bool true from (fa0_63.at_ 247))
    have e259 := (show a0_63.eval (.tmp 259) = .bool false from (fa0_63.at_ 259))
    clear fa0_63 hQ h19 h20
    generalize a0_63.eval = ρ at *
    go_simp
  refine fa0_63.step 260 (.bool false) rfl (lb_ I0.size) ((wanted_at (t := 239) (c := false) (b := false) rfl rfl rfl (lb_ (fa0_63.size.trans I0.size)) (fa0_63.at_ 239)).trans (by rfl)) r_a0_64 (fun a0_64 fa0_64 => ?_)
  clear r_a0_64
  clear fa0_63
  have r_a0_65 : (execOp a0_64.eval oZD84).run Try.prog (wr) = .ok (.value (.bool false)) (wr) := by
    unfold oZD84
    have kc : ∀ v, a0_64.eval (.const v) = v := fun _ => rfl
    have e239 := (show a0_64.eval (.tmp 239) = .bool false from (fa0_64.at_ 239))
    have e260 := (show a0_64.eval (.tmp 260) = .bool false from (fa0_64.at_ 260))
    clear fa0_64 hQ h19 h20
    generalize a0_64.eval = ρ at *
    go_simp
  refine fa0_64.step 261 (.bool false) rfl (lb_ I0.size) (wanted_none rfl) r_a0_65 (fun a0_65 fa0_65 => ?_)
  clear r_a0_65
  clear fa0_64
  refine wpList_nil ?_
  change Code.wp _ _ _ _ _
  refine wp_cond_false (show a0_65.eval (.tmp 261) = .bool false from (fa0_65.at_ 261)) (wp_skip ?_)
  change Code.wp _ _ _ _ _
  refine wp_region_list ?_
  unfold rAP48
  refine fa0_65.move 202 (.int .i64 (k : Int)) _ (Or.inl rfl) rfl (lb_ I0.size) (wanted_none rfl) ((fa0_65.at_ 20).trans h20) (fun a0_66 fa0_66 => ?_)
  clear fa0_65
  have r_a0_67 : (execOp a0_66.eval oZD48).run Try.prog (wr) = .ok (.value (.int .i64 ((k : Int) + 1))) (wr) := by
    unfold oZD48
    have kc : ∀ v, a0_66.eval (.const v) = v := fun _ => rfl
    have e202 := (show a0_66.eval (.tmp 202) = .int .i64 (k : Int) from (fa0_66.at_ 202))
    clear fa0_66 hQ h19 h20
    generalize a0_66.eval = ρ at *
    go_simp
  refine fa0_66.step 203 (.int .i64 ((k : Int) + 1)) rfl (lb_ I0.size) (wanted_none rfl) r_a0_67 (fun a0_67 fa0_67 => ?_)
  clear r_a0_67
  clear fa0_66
  refine fa0_67.move 20 (.int .i64 ((k : Int) + 1)) _ (Or.inr rfl) rfl (lb_ I0.size) (wanted_none rfl) (fa0_67.at_ 203) (fun a0_68 fa0_68 => ?_)
  clear fa0_67
  refine wpList_nil ?_
  exact hQ a0_68 (I0.keep fa0_68 rfl rfl rfl rfl) (show a0_68.eval (.tmp 19) = .int .i64 (i : Int) from ((fa0_68.at_ 19).trans h19)) (show a0_68.eval (.tmp 20) = .int .i64 ((k : Int) + 1) from (fa0_68.at_ 20))
set_option maxRecDepth 100000 in
theorem eBE {v0 v9 : Value} {lb lo n lc gm mc gy yn yc i k : Nat} {Q : Exit → Act → World → Prop} (a0 : Act) (wr : World) (I0 : IZ v0 (.slice (some ⟨lb, lo, none⟩) n lc) v9 (.slice (some ⟨gm, 0, none⟩) n mc) a0) (h19 : a0.eval (.tmp 19) = .int .i64 (i : Int)) (h20 : a0.eval (.tmp 20) = .int .i64 (k : Int))
    (hi : i < n) (hky : yn ≤ k) (c2 : wr.cell? ⟨gm, i, none⟩ = some (.slice (some ⟨gy, 0, none⟩) yn yc))
    (hQ : ∀ a', IZ v0 (.slice (some ⟨lb, lo, none⟩) n lc) v9 (.slice (some ⟨gm, 0, none⟩) n mc) a' → a'.eval (.tmp 19) = .int .i64 (i : Int) → Q (.exit 22) a' wr) : cEB2.wp Try.prog Q a0 wr := by
  have hii : (i : Int) < (n : Int) := by omega
  have hki : decide ((k : Int) < (yn : Int)) = false := decide_eq_false (by omega)
  have hki2 : ¬ (k : Int) < (yn : Int) := by omega
  clear hi hky
  have fa0_0 := Fe.refl a0
  unfold cEB2
  refine wp_seq (wp_seq ?_)
  refine wp_region_list ?_
  unfold rAP47
  refine fa0_0.move 195 (.int .i64 (k : Int)) _ (Or.inl rfl) rfl (lb_ I0.size) (wanted_none rfl) ((fa0_0.at_ 20).trans h20) (fun a0_1 fa0_1 => ?_)
  clear fa0_0
  refine fa0_1.move 196 (.slice (some ⟨gm, 0, none⟩) n mc) _ (Or.inl rfl) rfl (lb_ I0.size) (wanted_none rfl) ((fa0_1.at_ 13).trans I0.s13) (fun a0_2 fa0_2 => ?_)
  clear fa0_1
  refine fa0_2.move 197 (.int .i64 (i : Int)) _ (Or.inl rfl) rfl (lb_ I0.size) (wanted_none rfl) ((fa0_2.at_ 19).trans h19) (fun a0_3 fa0_3 => ?_)
  clear fa0_2
  have r_a0_4 : (execOp a0_3.eval oZD44).run Try.prog (wr) = .ok (.value (.pointer (some ⟨gm, i, none⟩))) (wr) := by
    unfold oZD44
    have e196 := (show a0_3.eval (.tmp 196) = .slice (some ⟨gm, 0, none⟩) n mc from (fa0_3.at_ 196))
    have e197 := (show a0_3.eval (.tmp 197) = .int .i64 (i : Int) from (fa0_3.at_ 197))
    clear fa0_3 hQ h19 h20
    generalize a0_3.eval = ρ at *
    go_simp
  refine fa0_3.step 198 (.pointer (some ⟨gm, i, none⟩)) rfl (lb_ I0.size) (wanted_none rfl) r_a0_4 (fun a0_4 fa0_4 => ?_)
  clear r_a0_4
  clear fa0_3
  have r_a0_5 : (execOp a0_4.eval oZD45).run Try.prog (wr) = .ok (.value (.slice (some ⟨gy, 0, none⟩) yn yc)) (wr) := by
    unfold oZD45
    have e198 := (show a0_4.eval (.tmp 198) = .pointer (some ⟨gm, i, none⟩) from (fa0_4.at_ 198))
    clear fa0_4 hQ h19 h20
    generalize a0_4.eval = ρ at *
    go_simp
  refine fa0_4.step 199 (.slice (some ⟨gy, 0, none⟩) yn yc) rfl (lb_ I0.size) (wanted_none rfl) r_a0_5 (fun a0_5 fa0_5 => ?_)
  clear r_a0_5
  clear fa0_4
  have r_a0_6 : (execOp a0_5.eval oZD46).run Try.prog (wr) = .ok (.value (.int .i64 (yn : Int))) (wr) := by
    unfold oZD46
    have e199 := (show a0_5.eval (.tmp 199) = .slice (some ⟨gy, 0, none⟩) yn yc from (fa0_5.at_ 199))
    clear fa0_5 hQ h19 h20
    generalize a0_5.eval = ρ at *
    go_simp
  refine fa0_5.step 200 (.int .i64 (yn : Int)) rfl (lb_ I0.size) (wanted_none rfl) r_a0_6 (fun a0_6 fa0_6 => ?_)
  clear r_a0_6
  clear fa0_5
  have r_a0_7 : (execOp a0_6.eval oZD47).run Try.prog (wr) = .ok (.value (.bool false)) (wr) := by
    unfold oZD47
    have e195 := (show a0_6.eval (.tmp 195) = .int .i64 (k : Int) from (fa0_6.at_ 195))
    have e200 := (show a0_6.eval (.tmp 200) = .int .i64 (yn : Int) from (fa0_6.at_ 200))
    clear fa0_6 hQ h19 h20
    generalize a0_6.eval = ρ at *
    go_simp
  refine fa0_6.step 201 (.bool false) rfl (lb_ I0.size) (wanted_none rfl) r_a0_7 (fun a0_7 fa0_7 => ?_)
  clear r_a0_7
  clear fa0_6
  refine wpList_nil ?_
  change Code.wp _ _ _ _ _
  refine wp_cond_false (show a0_7.eval (.tmp 201) = .bool false from (fa0_7.at_ 201)) (wp_exit ?_)
  exact hQ a0_7 (I0.keep fa0_7 rfl rfl rfl rfl) (show a0_7.eval (.tmp 19) = .int .i64 (i : Int) from ((fa0_7.at_ 19).trans h19))
theorem eBL2 {v0 v9 : Value} {lb lo n lc gm mc i a b : Nat} {x y : Sl} {Q : Exit → Act → World → Prop} (a0 : Act) (w : World) (I0 : IZ v0 (.slice (some ⟨lb, lo, none⟩) n lc) v9 (.slice (some ⟨gm, 0, none⟩) n mc) a0) (h5 : a0.eval (.tmp 19) = .int .i64 (i : Int)) (h6 : a0.eval (.tmp 20) = .int .i64 ((0 : Nat) : Int))
    (hi : i < n) (hn : n ≤ 4000000) (ha : a = 200000 + i) (hb : b = 400000 + i) (hF : Fnd fB w lb lo gm i x y a b)
    (hQ : ∀ a', IZ v0 (.slice (some ⟨lb, lo, none⟩) n lc) v9 (.slice (some ⟨gm, 0, none⟩) n mc) a' → a'.eval (.tmp 19) = .int .i64 (i : Int) → Q (.exit 22) a' w) : (Code.loop cEB2).wp Try.prog Q a0 w := by
  obtain ⟨gy, hgy, _⟩ := hF.c4.at2 (k := x.n) (i := 0) (Nat.le_refl _) (by omega) rfl
  obtain ⟨xa, xn, xc⟩ := x
  obtain ⟨ya, yn, yc⟩ := y
  obtain rfl : ya = some ⟨gy, 0, none⟩ := hgy
  obtain rfl : yn = xn + 70 := hF.yn
  have hle : xn ≤ 1099511627000 := hF.le
  refine wp_loop (fun a' w' => w' = w ∧ IZ v0 (.slice (some ⟨lb, lo, none⟩) n lc) v9 (.slice (some ⟨gm, 0, none⟩) n mc) a' ∧ a'.eval (.tmp 19) = .int .i64 (i : Int) ∧ ∃ k : Nat, k ≤ xn + 70 ∧ a'.eval (.tmp 20) = .int .i64 (k : Int)) (fun a' _ => xn + 70 - kOf a' 20) ⟨rfl, I0, h5, 0, Nat.zero_le _, h6⟩ ?_
  rintro a1 w' ⟨rfl, I1, g5, k, hk, g6⟩
  by_cases hgo : k < xn + 70
  · have nx : ∀ a', IZ v0 (.slice (some ⟨lb, lo, none⟩) n lc) v9 (.slice (some ⟨gm, 0, none⟩) n mc) a' → a'.eval (.tmp 19) = .int .i64 (i : Int) → a'.eval (.tmp 20) = .int .i64 ((k : Int) + 1) → Exit.then (fun a' w'' => (w'' = w' ∧ IZ v0 (.slice (some ⟨lb, lo, none⟩) n lc) v9 (.slice (some ⟨gm, 0, none⟩) n mc) a' ∧ a'.eval (.tmp 19) = .int .i64 (i : Int) ∧ ∃ k : Nat, k ≤ xn + 70 ∧ a'.eval (.tmp 20) = .int .i64 (k : Int)) ∧ xn + 70 - kOf a' 20 < xn + 70 - kOf a1 20) Q .normal a' w' := fun a' h1 h2 h3 => by
      have h4 : a'.eval (.tmp 20) = .int .i64 ((k + 1 : Nat) : Int) := h3
      refine ⟨⟨rfl, h1, h2, k + 1, hgo, h4⟩, ?_⟩
      rw [kOf_eq h4, kOf_eq g6]
      omega
    by_cases hx : k < xn
    · obtain ⟨gx, e, d1⟩ := Hold.at_ (F := fB) (t := []) (i := 0) (by rw [List.append_nil]; exact hF.c3) hx rfl
      obtain rfl : xa = some ⟨gx, 0, none⟩ := e
      obtain ⟨gz, e2, d2⟩ := Hold.at_ (F := fB) (i := 0) hF.c4 hx rfl
      obtain rfl : gy = gz := by simpa using e2
      rw [Nat.add_zero] at d1 d2
      exact eBR a1 w' I1 g5 g6 hi hn ha hb hx hgo (by omega) hF.c1 hF.c2 d2 d1 nx
    · obtain ⟨gz, e2, d2⟩ := Hold.at2 (F := fB) (k := k) (i := 0) hF.c4 (Nat.le_of_not_lt hx) hgo rfl
      obtain rfl : gy = gz := by simpa using e2
      rw [Nat.add_zero] at d2
      exact eBM a1 w' I1 g5 g6 hi hn ha hb (Nat.le_of_not_lt hx) hgo (by omega) hF.c1 hF.c2 d2 nx
  · exact eBE a1 w' I1 g5 g6 hi (Nat.le_of_not_lt hgo) hF.c2 hQ
set_option maxRecDepth 100000 in
theorem eBO {v0 v9 : Value} {lb lo n lc gm mc i : Nat} {x y : Sl} {Q : Exit → Act → World → Prop} (a0 : Act) (wr : World) (I0 : IZ v0 (.slice (some ⟨lb, lo, none⟩) n lc) v9 (.slice (some ⟨gm, 0, none⟩) n mc) a0) (h19 : a0.eval (.tmp 19) = .int .i64 (i : Int))
    (hi : i < n) (hn : n ≤ 4000000) (hF : Fnd fB wr lb lo gm i x y (200000 + i) (400000 + i)) (hQ : ∀ a', IZ v0 (.slice (some ⟨lb, lo, none⟩) n lc) v9 (.slice (some ⟨gm, 0, none⟩) n mc) a' → a'.eval (.tmp 19) = .int .i64 ((i : Int) + 1) → Q .normal a' wr) : cEB1.wp Try.prog Q a0 wr := by
  have hii : (i : Int) < (n : Int) := by omega
  have w7 : IntKind.i64.wrap ((i : Int) + 1) = (i : Int) + 1 := by rw [IntKind.wrap_i64]; omega
  have fa0_0 := Fe.refl a0
  unfold cEB1
  refine wp_seq (wp_seq ?_)
  refine wp_region_list ?_
  unfold rAP44
  refine fa0_0.move 189 (.int .i64 (i : Int)) _ (Or.inl rfl) rfl (lb_ I0.size) (wanted_none rfl) ((fa0_0.at_ 19).trans h19) (fun a0_1 fa0_1 => ?_)
  clear fa0_0
  refine fa0_1.move 190 (.slice (some ⟨lb, lo, none⟩) n lc) _ (Or.inl rfl) rfl (lb_ I0.size) (wanted_none rfl) ((fa0_1.at_ 1).trans I0.s1) (fun a0_2 fa0_2 => ?_)
  clear fa0_1
  have r_a0_3 : (execOp a0_2.eval oZD41).run Try.prog (wr) = .ok (.value (.int .i64 (n : Int))) (wr) := by
    unfold oZD41
    have e190 := (show a0_2.eval (.tmp 190) = .slice (some ⟨lb, lo, none⟩) n lc from (fa0_2.at_ 190))
    clear fa0_2 hQ h19 hF
    generalize a0_2.eval = ρ at *
    go_simp
  refine fa0_2.step 191 (.int .i64 (n : Int)) rfl (lb_ I0.size) (wanted_none rfl) r_a0_3 (fun a0_3 fa0_3 => ?_)
  clear r_a0_3
  clear fa0_2
  have r_a0_4 : (execOp a0_3.eval oZD42).run Try.prog (wr) = .ok (.value (.bool true)) (wr) := by
    unfold oZD42
    have e189 := (show a0_3.eval (.tmp 189) = .int .i64 (i : Int) from (fa0_3.at_ 189))
    have e191 := (show a0_3.eval (.tmp 191) = .int .i64 (n : Int) from (fa0_3.at_ 191))
    clear fa0_3 hQ h19 hF
    generalize a0_3.eval = ρ at *
    go_simp
  refine fa0_3.step 192 (.bool true) rfl (lb_ I0.size) (wanted_none rfl) r_a0_4 (fun a0_4 fa0_4 => ?_)
  clear r_a0_4
  clear fa0_3
  refine wpList_nil ?_
  change Code.wp _ _ _ _ _
  refine wp_cond_true (show a0_4.eval (.tmp 192) = .bool true from (fa0_4.at_ 192)) (wp_skip ?_)
  change Code.wp _ _ _ _ _
  refine wp_seq (wp_block (wp_seq ?_))
  refine wp_region_list ?_
  unfold rAP46
  refine fa0_4.move 20 (.int .i64 ((0 : Nat) : Int)) _ (Or.inr rfl) rfl (lb_ I0.size) (wanted_none rfl) rfl (fun a0_5 fa0_5 => ?_)
  clear fa0_4
  refine wpList_nil ?_
  change Code.wp _ _ _ _ _
  refine wp_block ?_
  refine eBL2 (a := 200000 + i) (b := 400000 + i) a0_5 wr (I0.keep fa0_5 rfl rfl rfl rfl) (show a0_5.eval (.tmp 19) = .int .i64 (i : Int) from ((fa0_5.at_ 19).trans h19)) (show a0_5.eval (.tmp 20) = .int .i64 ((0 : Nat) : Int) from (fa0_5.at_ 20)) hi hn rfl rfl hF (fun d i2 d5 => ?_)
  change Code.wp _ _ _ _ _
  have fd_0 := Fe.refl d
  refine wp_region_list ?_
  unfold rAP45
  refine fd_0.move 193 (.int .i64 (i : Int)) _ (Or.inl rfl) rfl (lb_ i2.size) (wanted_none rfl) ((fd_0.at_ 19).trans d5) (fun d_1 fd_1 => ?_)
  clear fd_0
  have r_d_2 : (execOp d_1.eval oZD43).run Try.prog (wr) = .ok (.value (.int .i64 ((i : Int) + 1))) (wr) := by
    unfold oZD43
    have kc : ∀ v, d_1.eval (.const v) = v := fun _ => rfl
    have e193 := (show d_1.eval (.tmp 193) = .int .i64 (i : Int) from (fd_1.at_ 193))
    clear fd_1 hQ d5 hF h19
    generalize d_1.eval = ρ at *
    go_simp
  refine fd_1.step 194 (.int .i64 ((i : Int) + 1)) rfl (lb_ i2.size) (wanted_none rfl) r_d_2 (fun d_2 fd_2 => ?_)
  clear r_d_2
  clear fd_1
  refine fd_2.move 19 (.int .i64 ((i : Int) + 1)) _ (Or.inr rfl) rfl (lb_ i2.size) (wanted_none rfl) (fd_2.at_ 194) (fun d_3 fd_3 => ?_)
  clear fd_2
  refine wpList_nil ?_
  exact hQ d_3 (i2.keep fd_3 rfl rfl rfl rfl) (show d_3.eval (.tmp 19) = .int .i64 ((i : Int) + 1) from (fd_3.at_ 19))
set_option maxRecDepth 100000 in
theorem eBX {v0 v9 : Value} {la ma : Option Addr} {n lc mc : Nat} {Q : Exit → Act → World → Prop} (a0 : Act) (wr : World) (I0 : IZ v0 (.slice la n lc) v9 (.slice ma n mc) a0) (h19 : a0.eval (.tmp 19) = .int .i64 (n : Int))
    (hQ : ∀ a, IZ v0 (.slice la n lc) v9 (.slice ma n mc) a → Q (.exit 20) a wr) : cEB1.wp Try.prog Q a0 wr := by
  have fa0_0 := Fe.refl a0
  unfold cEB1
  refine wp_seq (wp_seq ?_)
  refine wp_region_list ?_
  unfold rAP44
  refine fa0_0.move 189 (.int .i64 (n : Int)) _ (Or.inl rfl) rfl (lb_ I0.size) (wanted_none rfl) ((fa0_0.at_ 19).trans h19) (fun a0_1 fa0_1 => ?_)
  clear fa0_0
  refine fa0_1.move 190 (.slice la n lc) _ (Or.inl rfl) rfl (lb_ I0.size) (wanted_none rfl) ((fa0_1.at_ 1).trans I0.s1) (fun a0_2 fa0_2 => ?_)
  clear fa0_1
  have r_a0_3 : (execOp a0_2.eval oZD41).run Try.prog (wr) = .ok (.value (.int .i64 (n : Int))) (wr) := by
    unfold oZD41
    have e190 := (show a0_2.eval (.tmp 190) = .slice la n lc from (fa0_2.at_ 190))
    clear fa0_2 hQ h19
    generalize a0_2.eval = ρ at *
    go_simp
  refine fa0_2.step 191 (.int .i64 (n : Int)) rfl (lb_ I0.size) (wanted_none rfl) r_a0_3 (fun a0_3 fa0_3 => ?_)
  clear r_a0_3
  clear fa0_2
  have r_a0_4 : (execOp a0_3.eval oZD42).run Try.prog (wr) = .ok (.value (.bool false)) (wr) := by
    unfold oZD42
    have e189 := (show a0_3.eval (.tmp 189) = .int .i64 (n : Int) from (fa0_3.at_ 189))
    have e191 := (show a0_3.eval (.tmp 191) = .int .i64 (n : Int) from (fa0_3.at_ 191))
    clear fa0_3 hQ h19
    generalize a0_3.eval = ρ at *
    go_simp
  refine fa0_3.step 192 (.bool false) rfl (lb_ I0.size) (wanted_none rfl) r_a0_4 (fun a0_4 fa0_4 => ?_)
  clear r_a0_4
  clear fa0_3
  refine wpList_nil ?_
  change Code.wp _ _ _ _ _
  refine wp_cond_false (show a0_4.eval (.tmp 192) = .bool false from (fa0_4.at_ 192)) (wp_exit ?_)
  exact hQ a0_4 (I0.keep fa0_4 rfl rfl rfl rfl)
theorem eBL {v0 v9 : Value} {la ma : Option Addr} {lb lo gm n lc mc : Nat} {Q : Exit → Act → World → Prop} (a0 : Act) (w : World) (I0 : IZ v0 (.slice la n lc) v9 (.slice ma n mc) a0) (h5 : a0.eval (.tmp 19) = .int .i64 ((0 : Nat) : Int))
    (hn : n ≤ 4000000) (hla : n ≠ 0 → la = some ⟨lb, lo, none⟩ ∧ ma = some ⟨gm, 0, none⟩) (hF : ∀ i, i < n → ∃ x y, Fnd fB w lb lo gm i x y (200000 + i) (400000 + i))
    (hQ : ∀ a, IZ v0 (.slice la n lc) v9 (.slice ma n mc) a → Q (.exit 20) a w) : (Code.loop cEB1).wp Try.prog Q a0 w := by
  refine wp_loop (fun a w' => w' = w ∧ IZ v0 (.slice la n lc) v9 (.slice ma n mc) a ∧ ∃ i : Nat, i ≤ n ∧ a.eval (.tmp 19) = .int .i64 (i : Int)) (fun a _ => n - kOf a 19) ⟨rfl, I0, 0, Nat.zero_le _, h5⟩ ?_
  rintro a w' ⟨rfl, I1, i, hi, g5⟩
  by_cases hgo : i < n
  · obtain ⟨rfl, rfl⟩ := hla (by omega)
    obtain ⟨x, y, hf⟩ := hF i hgo
    refine eBO a w' I1 g5 hgo hn hf (fun a' i2 k5 => ?_)
    have h4 : a'.eval (.tmp 19) = .int .i64 ((i + 1 : Nat) : Int) := k5
    refine ⟨⟨rfl, i2, i + 1, hgo, h4⟩, ?_⟩
    show n - kOf a' 19 < n - kOf a 19
    rw [kOf_eq h4, kOf_eq g5]
    omega
  · obtain rfl : i = n := by omega
    exact eBX a w' I1 g5 hQ
end Go.Proofs.Ytneopkhkkfckcaa
