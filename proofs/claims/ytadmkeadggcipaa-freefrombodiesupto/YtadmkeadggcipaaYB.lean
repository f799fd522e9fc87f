/- free: apart's last loops, over a frame that is a letter. -/
import Derived.Test.YtadmkeadggcipaaYA
import Derived.Test.YtadmkeadggcipaaIO
namespace Go.Proofs.Ytadmkeadggcipaa
open Go.RowKit Go.Maps

def r36 : Array Oper := #[{ dst := some 119, op := Op.move (Operand.tmp 17), type := 3, pos := "memory.go:112", after := #[], guard := none },
  { dst := some 120, op := Op.move (Operand.tmp 0), type := 42, pos := "memory.go:112", after := #[], guard := none },
  { dst := some 121, op := Op.call { callee := Go.Callee.builtin Go.Builtin.len, args := #[Operand.tmp 120], argTypes := #[42] }, type := 3, pos := "memory.go:112", after := #[{ on := 1, ground := Go.Ground.data }], guard := none },
  { dst := some 122, op := Op.binOp Go.BinOp.lss 3 (Operand.tmp 119) (Operand.tmp 121) 3, type := 4, pos := "memory.go:112", after := #[{ on := 0, ground := Go.Ground.data }, { on := 2, ground := Go.Ground.data }], guard := none }]
def r38 : Array Oper := #[{ dst := some 18, op := Op.assign (Operand.const (Go.Value.int Go.IntKind.i64 0)), type := 3, pos := "memory.go:113", after := #[], guard := none }]
def r39 : Array Oper := #[{ dst := some 125, op := Op.move (Operand.tmp 18), type := 3, pos := "memory.go:113", after := #[], guard := none },
  { dst := some 126, op := Op.move (Operand.tmp 9), type := 42, pos := "memory.go:113", after := #[], guard := none },
  { dst := some 127, op := Op.move (Operand.tmp 17), type := 3, pos := "memory.go:113", after := #[], guard := none },
  { dst := some 128, op := Op.indexAddr 42 (Operand.tmp 126) (Operand.tmp 127), type := 0, pos := "memory.go:113", after := #[{ on := 1, ground := Go.Ground.data }, { on := 2, ground := Go.Ground.data }], guard := none },
  { dst := some 129, op := Op.load 28 (Operand.tmp 128), type := 28, pos := "memory.go:113", after := #[{ on := 3, ground := Go.Ground.data }], guard := none },
  { dst := some 130, op := Op.call { callee := Go.Callee.builtin Go.Builtin.len, args := #[Operand.tmp 129], argTypes := #[28] }, type := 3, pos := "memory.go:113", after := #[{ on := 4, ground := Go.Ground.data }], guard := none },
  { dst := some 131, op := Op.binOp Go.BinOp.lss 3 (Operand.tmp 125) (Operand.tmp 130) 3, type := 4, pos := "memory.go:113", after := #[{ on := 0, ground := Go.Ground.data }, { on := 5, ground := Go.Ground.data }], guard := none }]
def r41 : Array Oper := #[{ dst := some 134, op := Op.move (Operand.tmp 18), type := 3, pos := "memory.go:114", after := #[], guard := none },
  { dst := some 135, op := Op.move (Operand.tmp 0), type := 42, pos := "memory.go:114", after := #[], guard := none },
  { dst := some 136, op := Op.move (Operand.tmp 17), type := 3, pos := "memory.go:114", after := #[], guard := none },
  { dst := some 137, op := Op.indexAddr 42 (Operand.tmp 135) (Operand.tmp 136), type := 0, pos := "memory.go:114", after := #[{ on := 1, ground := Go.Ground.data }, { on := 2, ground := Go.Ground.data }], guard := none },
  { dst := some 138, op := Op.load 28 (Operand.tmp 137), type := 28, pos := "memory.go:114", after := #[{ on := 3, ground := Go.Ground.data }], guard := none },
  { dst := some 139, op := Op.call { callee := Go.Callee.builtin Go.Builtin.len, args := #[Operand.tmp 138], argTypes := #[28] }, type := 3, pos := "memory.go:114", after := #[{ on := 4, ground := Go.Ground.data }], guard := none },
  { dst := some 140, op := Op.binOp Go.BinOp.lss 3 (Operand.tmp 134) (Operand.tmp 139) 3, type := 4, pos := "memory.go:114", after := #[{ on := 0, ground := Go.Ground.data }, { on := 5, ground := Go.Ground.data }], guard := none },
  { dst := some 141, op := Op.move (Operand.tmp 140), type := 4, pos := "memory.go:114", after := #[{ on := 6, ground := Go.Ground.data }], guard := none },
  { dst := some 142, op := Op.move (Operand.tmp 0), type := 42, pos := "memory.go:114", after := #[{ on := 7, ground := Go.Ground.guard }], guard := some (7, true) },
  { dst := some 143, op := Op.move (Operand.tmp 17), type := 3, pos := "memory.go:114", after := #[{ on := 7, ground := Go.Ground.guard }], guard := some (7, true) },
  { dst := some 144, op := Op.indexAddr 42 (Operand.tmp 142) (Operand.tmp 143), type := 0, pos := "memory.go:114", after := #[{ on := 8, ground := Go.Ground.data }, { on := 9, ground := Go.Ground.data }, { on := 7, ground := Go.Ground.guard }], guard := some (7, true) },
  { dst := some 145, op := Op.load 28 (Operand.tmp 144), type := 28, pos := "memory.go:114", after := #[{ on := 10, ground := Go.Ground.data }, { on := 7, ground := Go.Ground.guard }], guard := some (7, true) },
  { dst := some 146, op := Op.move (Operand.tmp 18), type := 3, pos := "memory.go:114", after := #[{ on := 7, ground := Go.Ground.guard }], guard := some (7, true) },
  { dst := some 147, op := Op.indexAddr 28 (Operand.tmp 145) (Operand.tmp 146), type := 0, pos := "memory.go:114", after := #[{ on := 11, ground := Go.Ground.data }, { on := 12, ground := Go.Ground.data }, { on := 7, ground := Go.Ground.guard }], guard := some (7, true) },
  { dst := some 148, op := Op.load 27 (Operand.tmp 147), type := 27, pos := "memory.go:114", after := #[{ on := 13, ground := Go.Ground.data }, { on := 7, ground := Go.Ground.guard }], guard := some (7, true) },
  { dst := some 149, op := Op.move (Operand.tmp 17), type := 3, pos := "memory.go:114", after := #[{ on := 7, ground := Go.Ground.guard }], guard := some (7, true) },
  { dst := some 150, op := Op.binOp Go.BinOp.add 3 (Operand.const (Go.Value.int Go.IntKind.i64 100000)) (Operand.tmp 149) 3, type := 3, pos := "memory.go:114", after := #[{ on := 15, ground := Go.Ground.data }, { on := 7, ground := Go.Ground.guard }], guard := some (7, true) },
  { dst := some 151, op := Op.convert 3 27 (Operand.tmp 150), type := 27, pos := "memory.go:114", after := #[{ on := 16, ground := Go.Ground.data }, { on := 7, ground := Go.Ground.guard }], guard := some (7, true) },
  { dst := some 152, op := Op.binOp Go.BinOp.neq 27 (Operand.tmp 148) (Operand.tmp 151) 27, type := 4, pos := "memory.go:114", after := #[{ on := 14, ground := Go.Ground.data }, { on := 17, ground := Go.Ground.data }, { on := 7, ground := Go.Ground.guard }], guard := some (7, true) },
  { dst := some 153, op := Op.move (Operand.tmp 152), type := 4, pos := "memory.go:114", after := #[{ on := 18, ground := Go.Ground.data }, { on := 7, ground := Go.Ground.chain }, { on := 7, ground := Go.Ground.guard }], guard := some (7, true) },
  { dst := some 154, op := Op.move (Operand.tmp 9), type := 42, pos := "memory.go:114", after := #[{ on := 19, ground := Go.Ground.guard }], guard := some (19, false) },
  { dst := some 155, op := Op.move (Operand.tmp 17), type := 3, pos := "memory.go:114", after := #[{ on := 19, ground := Go.Ground.guard }], guard := some (19, false) },
  { dst := some 156, op := Op.indexAddr 42 (Operand.tmp 154) (Operand.tmp 155), type := 0, pos := "memory.go:114", after := #[{ on := 20, ground := Go.Ground.data }, { on := 21, ground := Go.Ground.data }, { on := 19, ground := Go.Ground.guard }], guard := some (19, false) },
  { dst := some 157, op := Op.load 28 (Operand.tmp 156), type := 28, pos := "memory.go:114", after := #[{ on := 22, ground := Go.Ground.data }, { on := 19, ground := Go.Ground.guard }], guard := some (19, false) },
  { dst := some 158, op := Op.move (Operand.tmp 18), type := 3, pos := "memory.go:114", after := #[{ on := 19, ground := Go.Ground.guard }], guard := some (19, false) },
  { dst := some 159, op := Op.indexAddr 28 (Operand.tmp 157) (Operand.tmp 158), type := 0, pos := "memory.go:114", after := #[{ on := 23, ground := Go.Ground.data }, { on := 24, ground := Go.Ground.data }, { on := 19, ground := Go.Ground.guard }], guard := some (19, false) },
  { dst := some 160, op := Op.load 27 (Operand.tmp 159), type := 27, pos := "memory.go:114", after := #[{ on := 25, ground := Go.Ground.data }, { on := 19, ground := Go.Ground.guard }], guard := some (19, false) },
  { dst := some 161, op := Op.move (Operand.tmp 17), type := 3, pos := "memory.go:114", after := #[{ on := 19, ground := Go.Ground.guard }], guard := some (19, false) },
  { dst := some 162, op := Op.binOp Go.BinOp.add 3 (Operand.const (Go.Value.int Go.IntKind.i64 100000)) (Operand.tmp 161) 3, type := 3, pos := "memory.go:114", after := #[{ on := 27, ground := Go.Ground.data }, { on := 19, ground := Go.Ground.guard }], guard := some (19, false) },
  { dst := some 163, op := Op.convert 3 27 (Operand.tmp 162), type := 27, pos := "memory.go:114", after := #[{ on := 28, ground := Go.Ground.data }, { on := 19, ground := Go.Ground.guard }], guard := some (19, false) },
  { dst := some 164, op := Op.binOp Go.BinOp.neq 27 (Operand.tmp 160) (Operand.tmp 163) 27, type := 4, pos := "memory.go:114", after := #[{ on := 26, ground := Go.Ground.data }, { on := 29, ground := Go.Ground.data }, { on := 19, ground := Go.Ground.guard }], guard := some (19, false) },
  { dst := some 165, op := Op.pick (Operand.tmp 153) (Operand.const (Go.Value.bool true)) (Operand.tmp 164), type := 4, pos := "memory.go:114", after := #[{ on := 19, ground := Go.Ground.data }, { on := 30, ground := Go.Ground.data }, { on := 7, ground := Go.Ground.guard }], guard := some (7, true) },
  { dst := some 166, op := Op.pick (Operand.tmp 141) (Operand.tmp 165) (Operand.const (Go.Value.bool false)), type := 4, pos := "memory.go:114", after := #[{ on := 7, ground := Go.Ground.data }, { on := 31, ground := Go.Ground.data }], guard := none },
  { dst := some 167, op := Op.move (Operand.tmp 166), type := 4, pos := "memory.go:114", after := #[{ on := 32, ground := Go.Ground.data }, { on := 19, ground := Go.Ground.chain }], guard := none },
  { dst := some 168, op := Op.move (Operand.tmp 18), type := 3, pos := "memory.go:114", after := #[{ on := 33, ground := Go.Ground.guard }], guard := some (33, false) },
  { dst := some 169, op := Op.move (Operand.tmp 0), type := 42, pos := "memory.go:114", after := #[{ on := 33, ground := Go.Ground.guard }], guard := some (33, false) },
  { dst := some 170, op := Op.move (Operand.tmp 17), type := 3, pos := "memory.go:114", after := #[{ on := 33, ground := Go.Ground.guard }], guard := some (33, false) },
  { dst := some 171, op := Op.indexAddr 42 (Operand.tmp 169) (Operand.tmp 170), type := 0, pos := "memory.go:114", after := #[{ on := 35, ground := Go.Ground.data }, { on := 36, ground := Go.Ground.data }, { on := 33, ground := Go.Ground.guard }], guard := some (33, false) },
  { dst := some 172, op := Op.load 28 (Operand.tmp 171), type := 28, pos := "memory.go:114", after := #[{ on := 37, ground := Go.Ground.data }, { on := 33, ground := Go.Ground.guard }], guard := some (33, false) },
  { dst := some 173, op := Op.call { callee := Go.Callee.builtin Go.Builtin.len, args := #[Operand.tmp 172], argTypes := #[28] }, type := 3, pos := "memory.go:114", after := #[{ on := 38, ground := Go.Ground.data }, { on := 33, ground := Go.Ground.guard }], guard := some (33, false) },
  { dst := some 174, op := Op.binOp Go.BinOp.geq 3 (Operand.tmp 168) (Operand.tmp 173) 3, type := 4, pos := "memory.go:114", after := #[{ on := 34, ground := Go.Ground.data }, { on := 39, ground := Go.Ground.data }, { on := 33, ground := Go.Ground.guard }], guard := some (33, false) },
  { dst := some 175, op := Op.move (Operand.tmp 174), type := 4, pos := "memory.go:114", after := #[{ on := 40, ground := Go.Ground.data }, { on := 33, ground := Go.Ground.chain }, { on := 33, ground := Go.Ground.guard }], guard := some (33, false) },
  { dst := some 176, op := Op.move (Operand.tmp 9), type := 42, pos := "memory.go:114", after := #[{ on := 41, ground := Go.Ground.guard }], guard := some (41, true) },
  { dst := some 177, op := Op.move (Operand.tmp 17), type := 3, pos := "memory.go:114", after := #[{ on := 41, ground := Go.Ground.guard }], guard := some (41, true) },
  { dst := some 178, op := Op.indexAddr 42 (Operand.tmp 176) (Operand.tmp 177), type := 0, pos := "memory.go:114", after := #[{ on := 42, ground := Go.Ground.data }, { on := 43, ground := Go.Ground.data }, { on := 41, ground := Go.Ground.guard }], guard := some (41, true) },
  { dst := some 179, op := Op.load 28 (Operand.tmp 178), type := 28, pos := "memory.go:114", after := #[{ on := 44, ground := Go.Ground.data }, { on := 41, ground := Go.Ground.guard }], guard := some (41, true) },
  { dst := some 180, op := Op.move (Operand.tmp 18), type := 3, pos := "memory.go:114", after := #[{ on := 41, ground := Go.Ground.guard }], guard := some (41, true) },
  { dst := some 181, op := Op.indexAddr 28 (Operand.tmp 179) (Operand.tmp 180), type := 0, pos := "memory.go:114", after := #[{ on := 45, ground := Go.Ground.data }, { on := 46, ground := Go.Ground.data }, { on := 41, ground := Go.Ground.guard }], guard := some (41, true) },
  { dst := some 182, op := Op.load 27 (Operand.tmp 181), type := 27, pos := "memory.go:114", after := #[{ on := 47, ground := Go.Ground.data }, { on := 41, ground := Go.Ground.guard }], guard := some (41, true) },
  { dst := some 183, op := Op.move (Operand.tmp 17), type := 3, pos := "memory.go:114", after := #[{ on := 41, ground := Go.Ground.guard }], guard := some (41, true) },
  { dst := some 184, op := Op.binOp Go.BinOp.add 3 (Operand.const (Go.Value.int Go.IntKind.i64 300000)) (Operand.tmp 183) 3, type := 3, pos := "memory.go:114", after := #[{ on := 49, ground := Go.Ground.data }, { on := 41, ground := Go.Ground.guard }], guard := some (41, true) },
  { dst := some 185, op := Op.convert 3 27 (Operand.tmp 184), type := 27, pos := "memory.go:114", after := #[{ on := 50, ground := Go.Ground.data }, { on := 41, ground := Go.Ground.guard }], guard := some (41, true) },
  { dst := some 186, op := Op.binOp Go.BinOp.neq 27 (Operand.tmp 182) (Operand.tmp 185) 27, type := 4, pos := "memory.go:114", after := #[{ on := 48, ground := Go.Ground.data }, { on := 51, ground := Go.Ground.data }, { on := 41, ground := Go.Ground.guard }], guard := some (41, true) },
  { dst := some 187, op := Op.pick (Operand.tmp 175) (Operand.tmp 186) (Operand.const (Go.Value.bool false)), type := 4, pos := "memory.go:114", after := #[{ on := 41, ground := Go.Ground.data }, { on := 52, ground := Go.Ground.data }, { on := 33, ground := Go.Ground.guard }], guard := some (33, false) },
  { dst := some 188, op := Op.pick (Operand.tmp 167) (Operand.const (Go.Value.bool true)) (Operand.tmp 187), type := 4, pos := "memory.go:114", after := #[{ on := 33, ground := Go.Ground.data }, { on := 53, ground := Go.Ground.data }], guard := none }]
def r42 : Array Oper := #[{ dst := some 4, op := Op.assign (Operand.const (Go.Value.bool false)), type := 4, pos := "memory.go:115", after := #[], guard := none }]
def r40 : Array Oper := #[{ dst := some 132, op := Op.move (Operand.tmp 18), type := 3, pos := "memory.go:113", after := #[], guard := none },
  { dst := some 133, op := Op.binOp Go.BinOp.add 3 (Operand.tmp 132) (Operand.const (Go.Value.int Go.IntKind.i64 1)) 3, type := 3, pos := "memory.go:113", after := #[{ on := 0, ground := Go.Ground.data }], guard := none },
  { dst := some 18, op := Op.assign (Operand.tmp 133), type := 3, pos := "memory.go:113", after := #[{ on := 1, ground := Go.Ground.data }, { on := 0, ground := Go.Ground.phase }, { on := 1, ground := Go.Ground.phase }], guard := none }]
def r37 : Array Oper := #[{ dst := some 123, op := Op.move (Operand.tmp 17), type := 3, pos := "memory.go:112", after := #[], guard := none },
  { dst := some 124, op := Op.binOp Go.BinOp.add 3 (Operand.tmp 123) (Operand.const (Go.Value.int Go.IntKind.i64 1)) 3, type := 3, pos := "memory.go:112", after := #[{ on := 0, ground := Go.Ground.data }], guard := none },
  { dst := some 17, op := Op.assign (Operand.tmp 124), type := 3, pos := "memory.go:112", after := #[{ on := 1, ground := Go.Ground.data }, { on := 0, ground := Go.Ground.phase }, { on := 1, ground := Go.Ground.phase }], guard := none }]
def r43 : Array Oper := #[{ dst := some 19, op := Op.assign (Operand.const (Go.Value.int Go.IntKind.i64 0)), type := 3, pos := "memory.go:119", after := #[], guard := none }]
def r44 : Array Oper := #[{ dst := some 189, op := Op.move (Operand.tmp 19), type := 3, pos := "memory.go:119", after := #[], guard := none },
  { dst := some 190, op := Op.move (Operand.tmp 1), type := 69, pos := "memory.go:119", after := #[], guard := none },
  { dst := some 191, op := Op.call { callee := Go.Callee.builtin Go.Builtin.len, args := #[Operand.tmp 190], argTypes := #[69] }, type := 3, pos := "memory.go:119", after := #[{ on := 1, ground := Go.Ground.data }], guard := none },
  { dst := some 192, op := Op.binOp Go.BinOp.lss 3 (Operand.tmp 189) (Operand.tmp 191) 3, type := 4, pos := "memory.go:119", after := #[{ on := 0, ground := Go.Ground.data }, { on := 2, ground := Go.Ground.data }], guard := none }]
def r51 : Array Oper := #[{ dst := some 4, op := Op.assign (Operand.const (Go.Value.bool true)), type := 4, pos := "memory.go:126", after := #[], guard := none }]
def cIn : Code := (Code.seq (Code.seq (Code.region 39 r39 false) (Code.cond (Operand.tmp 131) Code.skip (Code.exit 18))) (Code.seq (Code.block 19 (Code.seq (Code.region 41 r41 false) (Code.cond (Operand.tmp 188) (Code.seq (Code.region 42 r42 false) Code.ret) Code.skip))) (Code.region 40 r40 false)))
def cOut : Code := (Code.seq (Code.seq (Code.region 36 r36 false) (Code.cond (Operand.tmp 122) Code.skip (Code.exit 16))) (Code.seq (Code.block 17 (Code.seq (Code.region 38 r38 false) (Code.block 18 (Code.loop cIn)))) (Code.region 37 r37 false)))
def cEnd (X : Code) : Code := (Code.seq (Code.seq (Code.region 43 r43 false) (Code.block 20 (Code.loop (Code.seq (Code.seq (Code.region 44 r44 false) (Code.cond (Operand.tmp 192) Code.skip (Code.exit 20))) X)))) (Code.seq (Code.region 51 r51 false) Code.ret))
/-- What the frame holds while the lists are looked at. -/
structure IA (lb lo n lc gm mc : Nat) (a : Act) : Prop where
  size : a.tmps.size = 262
  defers : a.defers = []
  s0 : a.eval (.tmp 0) = .slice (some ⟨lb, lo, none⟩) n lc
  s1 : a.eval (.tmp 1) = .slice none 0 0
  s9 : a.eval (.tmp 9) = .slice (some ⟨gm, 0, none⟩) n mc
theorem IA.keep {lb lo n lc gm mc : Nat} {a0 a : Act} {env : List (Nat × Value)} (h : IA lb lo n lc gm mc a0) (f : Fe a0 env a) (hk : ∀ t, t = 0 ∨ t = 1 ∨ t = 9 ∨ t = 0 → look env t (a0.eval (.tmp t)) = a0.eval (.tmp t)) : IA lb lo n lc gm mc a :=
  ⟨f.size.trans h.size, f.defers.trans h.defers, ((f.at_ 0).trans (hk 0 (by simp))).trans h.s0, ((f.at_ 1).trans (hk 1 (by simp))).trans h.s1, ((f.at_ 9).trans (hk 9 (by simp))).trans h.s9⟩
set_option maxRecDepth 100000 in
set_option maxHeartbeats 1000000 in
theorem inL {lb lo n lc gm mc gy yn yc i k : Nat} {gx xn xc : Nat} {Q : Exit → Act → World → Prop} (a0 : Act) (w : World) (I0 : IA lb lo n lc gm mc a0) (h17 : a0.eval (.tmp 17) = .int .i64 (i : Int)) (h18 : a0.eval (.tmp 18) = .int .i64 (k : Int))
    (hi : i < n) (hn : n ≤ 1000000) (hkx : k < xn) (hky : k < yn) (hyb : yn ≤ 1099511627776) (c1 : w.cell? ⟨lb, lo + i, none⟩ = some (.slice (some ⟨gx, 0, none⟩) xn xc)) (c2 : w.cell? ⟨gm, i, none⟩ = some (.slice (some ⟨gy, 0, none⟩) yn yc)) (c3 : w.cell? ⟨gy, k, none⟩ = some (.int .u32 (100000 + (i : Int)))) (c4 : w.cell? ⟨gx, k, none⟩ = some (.int .u32 (100000 + (i : Int))))
    (hQ : ∀ a, IA lb lo n lc gm mc a → a.eval (.tmp 17) = .int .i64 (i : Int) → a.eval (.tmp 18) = .int .i64 ((k : Int) + 1) → Q .normal a w) : cIn.wp Try.prog Q a0 w := by
  have hii : (i : Int) < (n : Int) := by omega
  have hki : (k : Int) < (yn : Int) := by omega
  have w1 : RowKit.wrap64 (100000 + (i : Int)) = 100000 + (i : Int) := by unfold RowKit.wrap64; omega
  have w2 : IntKind.u32.wrap (100000 + (i : Int)) = 100000 + (i : Int) := by rw [IntKind.wrap_u32]; omega
  have w3 : RowKit.wrap64 (300000 + (i : Int)) = 300000 + (i : Int) := by unfold RowKit.wrap64; omega
  have w4 : IntKind.u32.wrap (300000 + (i : Int)) = 300000 + (i : Int) := by rw [IntKind.wrap_u32]; omega
  have w5 : IntKind.i64.wrap (100000 + (i : Int)) = 100000 + (i : Int) := by rw [IntKind.wrap_i64]; omega
  have w6 : IntKind.i64.wrap (300000 + (i : Int)) = 300000 + (i : Int) := by rw [IntKind.wrap_i64]; omega
  have w7 : IntKind.i64.wrap ((k : Int) + 1) = (k : Int) + 1 := by rw [IntKind.wrap_i64]; omega
  have hkxi : (k : Int) < (xn : Int) := by omega
  have hkxd : decide ((xn : Int) ≤ (k : Int)) = false := decide_eq_false (by omega)
  clear hi hky hyb
  have f0 := Fe.refl a0
  unfold cIn
  refine wp_seq (wp_seq ?_)
  refine wp_region_list ?_
  unfold r39
  refine f0.move 125 (.int .i64 (k : Int)) _ (Or.inl rfl) rfl (Nat.lt_of_lt_of_eq (by decide) I0.size.symm) (wanted_none rfl) ((f0.at_ 18).trans h18) (fun a1 f1 => ?_)
  clear f0
  refine f1.move 126 (.slice (some ⟨gm, 0, none⟩) n mc) _ (Or.inl rfl) rfl (Nat.lt_of_lt_of_eq (by decide) I0.size.symm) (wanted_none rfl) ((f1.at_ 9).trans I0.s9) (fun a2 f2 => ?_)
  clear f1
  refine f2.move 127 (.int .i64 (i : Int)) _ (Or.inl rfl) rfl (Nat.lt_of_lt_of_eq (by decide) I0.size.symm) (wanted_none rfl) ((f2.at_ 17).trans h17) (fun a3 f3 => ?_)
  clear f2
  have r_3 : (execOp a3.eval { dst := some 128, op := Op.indexAddr 42 (Operand.tmp 126) (Operand.tmp 127), type := 0, pos := "memory.go:113", after := #[{ on := 1, ground := Go.Ground.data }, { on := 2, ground := Go.Ground.data }], guard := none }).run Try.prog w = .ok (.value (.pointer (some ⟨gm, i, none⟩))) w := by
    have kc : ∀ v, a3.eval (.const v) = v := fun _ => rfl
    have e126 := (show a3.eval (.tmp 126) = .slice (some ⟨gm, 0, none⟩) n mc from (f3.at_ 126))
    have e127 := (show a3.eval (.tmp 127) = .int .i64 (i : Int) from (f3.at_ 127))
    clear f3 hQ h17 h18
    generalize a3.eval = ρ at *
    go_simp
  refine f3.step 128 (.pointer (some ⟨gm, i, none⟩)) rfl (Nat.lt_of_lt_of_eq (by decide) I0.size.symm) (wanted_none rfl) r_3 (fun a4 f4 => ?_)
  clear r_3
  clear f3
  have r_4 : (execOp a4.eval { dst := some 129, op := Op.load 28 (Operand.tmp 128), type := 28, pos := "memory.go:113", after := #[{ on := 3, ground := Go.Ground.data }], guard := none }).run Try.prog w = .ok (.value (.slice (some ⟨gy, 0, none⟩) yn yc)) w := by
    have kc : ∀ v, a4.eval (.const v) = v := fun _ => rfl
    have e128 := (show a4.eval (.tmp 128) = .pointer (some ⟨gm, i, none⟩) from (f4.at_ 128))
    clear f4 hQ h17 h18
    generalize a4.eval = ρ at *
    go_simp
  refine f4.step 129 (.slice (some ⟨gy, 0, none⟩) yn yc) rfl (Nat.lt_of_lt_of_eq (by decide) I0.size.symm) (wanted_none rfl) r_4 (fun a5 f5 => ?_)
  clear r_4
  clear f4
  have r_5 : (execOp a5.eval { dst := some 130, op := Op.call { callee := Go.Callee.builtin Go.Builtin.len, args := #[Operand.tmp 129], argTypes := #[28] }, type := 3, pos := "memory.go:113", after := #[{ on := 4, ground := Go.Ground.data }], guard := none }).run Try.prog w = .ok (.value (.int .i64 (yn : Int))) w := by
    have kc : ∀ v, a5.eval (.const v) = v := fun _ => rfl
    have e129 := (show a5.eval (.tmp 129) = .slice (some ⟨gy, 0, none⟩) yn yc from (f5.at_ 129))
    clear f5 hQ h17 h18
    generalize a5.eval = ρ at *
    go_simp
  refine f5.step 130 (.int .i64 (yn : Int)) rfl (Nat.lt_of_lt_of_eq (by decide) I0.size.symm) (wanted_none rfl) r_5 (fun a6 f6 => ?_)
  clear r_5
  clear f5
  have r_6 : (execOp a6.eval { dst := some 131, op := Op.binOp Go.BinOp.lss 3 (Operand.tmp 125) (Operand.tmp 130) 3, type := 4, pos := "memory.go:113", after := #[{ on := 0, ground := Go.Ground.data }, { on := 5, ground := Go.Ground.data }], guard := none }).run Try.prog w = .ok (.value (.bool true)) w := by
    have kc : ∀ v, a6.eval (.const v) = v := fun _ => rfl
    have e125 := (show a6.eval (.tmp 125) = .int .i64 (k : Int) from (f6.at_ 125))
    have e130 := (show a6.eval (.tmp 130) = .int .i64 (yn : Int) from (f6.at_ 130))
    clear f6 hQ h17 h18
    generalize a6.eval = ρ at *
    go_simp
  refine f6.step 131 (.bool true) rfl (Nat.lt_of_lt_of_eq (by decide) I0.size.symm) (wanted_none rfl) r_6 (fun a7 f7 => ?_)
  clear r_6
  clear f6
  refine wpList_nil ?_
  change Code.wp _ _ _ _ _
  refine wp_cond_true (show a7.eval (.tmp 131) = .bool true from (f7.at_ 131)) (wp_skip ?_)
  change Code.wp _ _ _ _ _
  refine wp_seq (wp_block (wp_seq ?_))
  refine wp_region_list ?_
  unfold r41
  refine f7.move 134 (.int .i64 (k : Int)) _ (Or.inl rfl) rfl (Nat.lt_of_lt_of_eq (by decide) I0.size.symm) (wanted_none rfl) ((f7.at_ 18).trans h18) (fun a8 f8 => ?_)
  clear f7
  refine f8.move 135 (.slice (some ⟨lb, lo, none⟩) n lc) _ (Or.inl rfl) rfl (Nat.lt_of_lt_of_eq (by decide) I0.size.symm) (wanted_none rfl) ((f8.at_ 0).trans I0.s0) (fun a9 f9 => ?_)
  clear f8
  refine f9.move 136 (.int .i64 (i : Int)) _ (Or.inl rfl) rfl (Nat.lt_of_lt_of_eq (by decide) I0.size.symm) (wanted_none rfl) ((f9.at_ 17).trans h17) (fun a10 f10 => ?_)
  clear f9
  have r_10 : (execOp a10.eval { dst := some 137, op := Op.indexAddr 42 (Operand.tmp 135) (Operand.tmp 136), type := 0, pos := "memory.go:114", after := #[{ on := 1, ground := Go.Ground.data }, { on := 2, ground := Go.Ground.data }], guard := none }).run Try.prog w = .ok (.value (.pointer (some ⟨lb, lo + i, none⟩))) w := by
    have kc : ∀ v, a10.eval (.const v) = v := fun _ => rfl
    have e135 := (show a10.eval (.tmp 135) = .slice (some ⟨lb, lo, none⟩) n lc from (f10.at_ 135))
    have e136 := (show a10.eval (.tmp 136) = .int .i64 (i : Int) from (f10.at_ 136))
    clear f10 hQ h17 h18
    generalize a10.eval = ρ at *
    go_simp
  refine f10.step 137 (.pointer (some ⟨lb, lo + i, none⟩)) rfl (Nat.lt_of_lt_of_eq (by decide) I0.size.symm) (wanted_none rfl) r_10 (fun a11 f11 => ?_)
  clear r_10
  clear f10
  have r_11 : (execOp a11.eval { dst := some 138, op := Op.load 28 (Operand.tmp 137), type := 28, pos := "memory.go:114", after := #[{ on := 3, ground := Go.Ground.data }], guard := none }).run Try.prog w = .ok (.value (.slice (some ⟨gx, 0, none⟩) xn xc)) w := by
    have kc : ∀ v, a11.eval (.const v) = v := fun _ => rfl
    have e137 := (show a11.eval (.tmp 137) = .pointer (some ⟨lb, lo + i, none⟩) from (f11.at_ 137))
    clear f11 hQ h17 h18
    generalize a11.eval = ρ at *
    go_simp
  refine f11.step 138 (.slice (some ⟨gx, 0, none⟩) xn xc) rfl (Nat.lt_of_lt_of_eq (by decide) I0.size.symm) (wanted_none rfl) r_11 (fun a12 f12 => ?_)
  clear r_11
  clear f11
  have r_12 : (execOp a12.eval { dst := some 139, op := Op.call { callee := Go.Callee.builtin Go.Builtin.len, args := #[Operand.tmp 138], argTypes := #[28] }, type := 3, pos := "memory.go:114", after := #[{ on := 4, ground := Go.Ground.data }], guard := none }).run Try.prog w = .ok (.value (.int .i64 (xn : Int))) w := by
    have kc : ∀ v, a12.eval (.const v) = v := fun _ => rfl
    have e138 := (show a12.eval (.tmp 138) = .slice (some ⟨gx, 0, none⟩) xn xc from (f12.at_ 138))
    clear f12 hQ h17 h18
    generalize a12.eval = ρ at *
    go_simp
  refine f12.step 139 (.int .i64 (xn : Int)) rfl (Nat.lt_of_lt_of_eq (by decide) I0.size.symm) (wanted_none rfl) r_12 (fun a13 f13 => ?_)
  clear r_12
  clear f12
  have r_13 : (execOp a13.eval { dst := some 140, op := Op.binOp Go.BinOp.lss 3 (Operand.tmp 134) (Operand.tmp 139) 3, type := 4, pos := "memory.go:114", after := #[{ on := 0, ground := Go.Ground.data }, { on := 5, ground := Go.Ground.data }], guard := none }).run Try.prog w = .ok (.value (.bool true)) w := by
    have kc : ∀ v, a13.eval (.const v) = v := fun _ => rfl
    have e134 := (show a13.eval (.tmp 134) = .int .i64 (k : Int) from (f13.at_ 134))
    have e139 := (show a13.eval (.tmp 139) = .int .i64 (xn : Int) from (f13.at_ 139))
    clear f13 hQ h17 h18
    generalize a13.eval = ρ at *
    go_simp
  refine f13.step 140 (.bool true) rfl (Nat.lt_of_lt_of_eq (by decide) I0.size.symm) (wanted_none rfl) r_13 (fun a14 f14 => ?_)
  clear r_13
  clear f13
  refine f14.move 141 (.bool true) _ (Or.inl rfl) rfl (Nat.lt_of_lt_of_eq (by decide) I0.size.symm) (wanted_none rfl) (f14.at_ 140) (fun a15 f15 => ?_)
  clear f14
  refine f15.move 142 (.slice (some ⟨lb, lo, none⟩) n lc) _ (Or.inl rfl) rfl (Nat.lt_of_lt_of_eq (by decide) I0.size.symm) ((wanted_at (t := 141) (c := true) (b := true) rfl rfl rfl (Nat.lt_of_lt_of_eq (by decide) (f15.size.trans I0.size).symm) (f15.at_ 141)).trans (by rfl)) ((f15.at_ 0).trans I0.s0) (fun a16 f16 => ?_)
  clear f15
  refine f16.move 143 (.int .i64 (i : Int)) _ (Or.inl rfl) rfl (Nat.lt_of_lt_of_eq (by decide) I0.size.symm) ((wanted_at (t := 141) (c := true) (b := true) rfl rfl rfl (Nat.lt_of_lt_of_eq (by decide) (f16.size.trans I0.size).symm) (f16.at_ 141)).trans (by rfl)) ((f16.at_ 17).trans h17) (fun a17 f17 => ?_)
  clear f16
  have r_17 : (execOp a17.eval { dst := some 144, op := Op.indexAddr 42 (Operand.tmp 142) (Operand.tmp 143), type := 0, pos := "memory.go:114", after := #[{ on := 8, ground := Go.Ground.data }, { on := 9, ground := Go.Ground.data }, { on := 7, ground := Go.Ground.guard }], guard := some (7, true) }).run Try.prog w = .ok (.value (.pointer (some ⟨lb, lo + i, none⟩))) w := by
    have kc : ∀ v, a17.eval (.const v) = v := fun _ => rfl
    have e142 := (show a17.eval (.tmp 142) = .slice (some ⟨lb, lo, none⟩) n lc from (f17.at_ 142))
    have e143 := (show a17.eval (.tmp 143) = .int .i64 (i : Int) from (f17.at_ 143))
    clear f17 hQ h17 h18
    generalize a17.eval = ρ at *
    go_simp
  refine f17.step 144 (.pointer (some ⟨lb, lo + i, none⟩)) rfl (Nat.lt_of_lt_of_eq (by decide) I0.size.symm) ((wanted_at (t := 141) (c := true) (b := true) rfl rfl rfl (Nat.lt_of_lt_of_eq (by decide) (f17.size.trans I0.size).symm) (f17.at_ 141)).trans (by rfl)) r_17 (fun a18 f18 => ?_)
  clear r_17
  clear f17
  have r_18 : (execOp a18.eval { dst := some 145, op := Op.load 28 (Operand.tmp 144), type := 28, pos := "memory.go:114", after := #[{ on := 10, ground := Go.Ground.data }, { on := 7, ground := Go.Ground.guard }], guard := some (7, true) }).run Try.prog w = .ok (.value (.slice (some ⟨gx, 0, none⟩) xn xc)) w := by
    have kc : ∀ v, a18.eval (.const v) = v := fun _ => rfl
    have e144 := (show a18.eval (.tmp 144) = .pointer (some ⟨lb, lo + i, none⟩) from (f18.at_ 144))
    clear f18 hQ h17 h18
    generalize a18.eval = ρ at *
    go_simp
  refine f18.step 145 (.slice (some ⟨gx, 0, none⟩) xn xc) rfl (Nat.lt_of_lt_of_eq (by decide) I0.size.symm) ((wanted_at (t := 141) (c := true) (b := true) rfl rfl rfl (Nat.lt_of_lt_of_eq (by decide) (f18.size.trans I0.size).symm) (f18.at_ 141)).trans (by rfl)) r_18 (fun a19 f19 => ?_)
  clear r_18
  clear f18
  refine f19.move 146 (.int .i64 (k : Int)) _ (Or.inl rfl) rfl (Nat.lt_of_lt_of_eq (by decide) I0.size.symm) ((wanted_at (t := 141) (c := true) (b := true) rfl rfl rfl (Nat.lt_of_lt_of_eq (by decide) (f19.size.trans I0.size).symm) (f19.at_ 141)).trans (by rfl)) ((f19.at_ 18).trans h18) (fun a20 f20 => ?_)
  clear f19
  have r_20 : (execOp a20.eval { dst := some 147, op := Op.indexAddr 28 (Operand.tmp 145) (Operand.tmp 146), type := 0, pos := "memory.go:114", after := #[{ on := 11, ground := Go.Ground.data }, { on := 12, ground := Go.Ground.data }, { on := 7, ground := Go.Ground.guard }], guard := some (7, true) }).run Try.prog w = .ok (.value (.pointer (some ⟨gx, k, none⟩))) w := by
    have kc : ∀ v, a20.eval (.const v) = v := fun _ => rfl
    have e145 := (show a20.eval (.tmp 145) = .slice (some ⟨gx, 0, none⟩) xn xc from (f20.at_ 145))
    have e146 := (show a20.eval (.tmp 146) = .int .i64 (k : Int) from (f20.at_ 146))
    clear f20 hQ h17 h18
    generalize a20.eval = ρ at *
    go_simp
  refine f20.step 147 (.pointer (some ⟨gx, k, none⟩)) rfl (Nat.lt_of_lt_of_eq (by decide) I0.size.symm) ((wanted_at (t := 141) (c := true) (b := true) rfl rfl rfl (Nat.lt_of_lt_of_eq (by decide) (f20.size.trans I0.size).symm) (f20.at_ 141)).trans (by rfl)) r_20 (fun a21 f21 => ?_)
  clear r_20
  clear f20
  have r_21 : (execOp a21.eval { dst := some 148, op := Op.load 27 (Operand.tmp 147), type := 27, pos := "memory.go:114", after := #[{ on := 13, ground := Go.Ground.data }, { on := 7, ground := Go.Ground.guard }], guard := some (7, true) }).run Try.prog w = .ok (.value (.int .u32 (100000 + (i : Int)))) w := by
    have kc : ∀ v, a21.eval (.const v) = v := fun _ => rfl
    have e147 := (show a21.eval (.tmp 147) = .pointer (some ⟨gx, k, none⟩) from (f21.at_ 147))
    clear f21 hQ h17 h18
    generalize a21.eval = ρ at *
    go_simp
  refine f21.step 148 (.int .u32 (100000 + (i : Int))) rfl (Nat.lt_of_lt_of_eq (by decide) I0.size.symm) ((wanted_at (t := 141) (c := true) (b := true) rfl rfl rfl (Nat.lt_of_lt_of_eq (by decide) (f21.size.trans I0.size).symm) (f21.at_ 141)).trans (by rfl)) r_21 (fun a22 f22 => ?_)
  clear r_21
  clear f21
  refine f22.move 149 (.int .i64 (i : Int)) _ (Or.inl rfl) rfl (Nat.lt_of_lt_of_eq (by decide) I0.size.symm) ((wanted_at (t := 141) (c := true) (b := true) rfl rfl rfl (Nat.lt_of_lt_of_eq (by decide) (f22.size.trans I0.size).symm) (f22.at_ 141)).trans (by rfl)) ((f22.at_ 17).trans h17) (fun a23 f23 => ?_)
  clear f22
  have r_23 : (execOp a23.eval { dst := some 150, op := Op.binOp Go.BinOp.add 3 (Operand.const (Go.Value.int Go.IntKind.i64 100000)) (Operand.tmp 149) 3, type := 3, pos := "memory.go:114", after := #[{ on := 15, ground := Go.Ground.data }, { on := 7, ground := Go.Ground.guard }], guard := some (7, true) }).run Try.prog w = .ok (.value (.int .i64 (100000 + (i : Int)))) w := by
    have kc : ∀ v, a23.eval (.const v) = v := fun _ => rfl
    have e149 := (show a23.eval (.tmp 149) = .int .i64 (i : Int) from (f23.at_ 149))
    clear f23 hQ h17 h18
    generalize a23.eval = ρ at *
    go_simp
  refine f23.step 150 (.int .i64 (100000 + (i : Int))) rfl (Nat.lt_of_lt_of_eq (by decide) I0.size.symm) ((wanted_at (t := 141) (c := true) (b := true) rfl rfl rfl (Nat.lt_of_lt_of_eq (by decide) (f23.size.trans I0.size).symm) (f23.at_ 141)).trans (by rfl)) r_23 (fun a24 f24 => ?_)
  clear r_23
  clear f23
  have r_24 : (execOp a24.eval { dst := some 151, op := Op.convert 3 27 (Operand.tmp 150), type := 27, pos := "memory.go:114", after := #[{ on := 16, ground := Go.Ground.data }, { on := 7, ground := Go.Ground.guard }], guard := some (7, true) }).run Try.prog w = .ok (.value (.int .u32 (100000 + (i : Int)))) w := by
    have kc : ∀ v, a24.eval (.const v) = v := fun _ => rfl
    have e150 := (show a24.eval (.tmp 150) = .int .i64 (100000 + (i : Int)) from (f24.at_ 150))
    clear f24 hQ h17 h18
    generalize a24.eval = ρ at *
    go_simp
  refine f24.step 151 (.int .u32 (100000 + (i : Int))) rfl (Nat.lt_of_lt_of_eq (by decide) I0.size.symm) ((wanted_at (t := 141) (c := true) (b := true) rfl rfl rfl (Nat.lt_of_lt_of_eq (by decide) (f24.size.trans I0.size).symm) (f24.at_ 141)).trans (by rfl)) r_24 (fun a25 f25 => ?_)
  clear r_24
  clear f24
  have r_25 : (execOp a25.eval { dst := some 152, op := Op.binOp Go.BinOp.neq 27 (Operand.tmp 148) (Operand.tmp 151) 27, type := 4, pos := "memory.go:114", after := #[{ on := 14, ground := Go.Ground.data }, { on := 17, ground := Go.Ground.data }, { on := 7, ground := Go.Ground.guard }], guard := some (7, true) }).run Try.prog w = .ok (.value (.bool false)) w := by
    have kc : ∀ v, a25.eval (.const v) = v := fun _ => rfl
    have e148 := (show a25.eval (.tmp 148) = .int .u32 (100000 + (i : Int)) from (f25.at_ 148))
    have e151 := (show a25.eval (.tmp 151) = .int .u32 (100000 + (i : Int)) from (f25.at_ 151))
    clear f25 hQ h17 h18
    generalize a25.eval = ρ at *
    go_simp
  refine f25.step 152 (.bool false) rfl (Nat.lt_of_lt_of_eq (by decide) I0.size.symm) ((wanted_at (t := 141) (c := true) (b := true) rfl rfl rfl (Nat.lt_of_lt_of_eq (by decide) (f25.size.trans I0.size).symm) (f25.at_ 141)).trans (by rfl)) r_25 (fun a26 f26 => ?_)
  clear r_25
  clear f25
  refine f26.move 153 (.bool false) _ (Or.inl rfl) rfl (Nat.lt_of_lt_of_eq (by decide) I0.size.symm) ((wanted_at (t := 141) (c := true) (b := true) rfl rfl rfl (Nat.lt_of_lt_of_eq (by decide) (f26.size.trans I0.size).symm) (f26.at_ 141)).trans (by rfl)) (f26.at_ 152) (fun a27 f27 => ?_)
  clear f26
  refine f27.move 154 (.slice (some ⟨gm, 0, none⟩) n mc) _ (Or.inl rfl) rfl (Nat.lt_of_lt_of_eq (by decide) I0.size.symm) ((wanted_at (t := 153) (c := false) (b := false) rfl rfl rfl (Nat.lt_of_lt_of_eq (by decide) (f27.size.trans I0.size).symm) (f27.at_ 153)).trans (by rfl)) ((f27.at_ 9).trans I0.s9) (fun a28 f28 => ?_)
  clear f27
  refine f28.move 155 (.int .i64 (i : Int)) _ (Or.inl rfl) rfl (Nat.lt_of_lt_of_eq (by decide) I0.size.symm) ((wanted_at (t := 153) (c := false) (b := false) rfl rfl rfl (Nat.lt_of_lt_of_eq (by decide) (f28.size.trans I0.size).symm) (f28.at_ 153)).trans (by rfl)) ((f28.at_ 17).trans h17) (fun a29 f29 => ?_)
  clear f28
  have r_29 : (execOp a29.eval { dst := some 156, op := Op.indexAddr 42 (Operand.tmp 154) (Operand.tmp 155), type := 0, pos := "memory.go:114", after := #[{ on := 20, ground := Go.Ground.data }, { on := 21, ground := Go.Ground.data }, { on := 19, ground := Go.Ground.guard }], guard := some (19, false) }).run Try.prog w = .ok (.value (.pointer (some ⟨gm, i, none⟩))) w := by
    have kc : ∀ v, a29.eval (.const v) = v := fun _ => rfl
    have e154 := (show a29.eval (.tmp 154) = .slice (some ⟨gm, 0, none⟩) n mc from (f29.at_ 154))
    have e155 := (show a29.eval (.tmp 155) = .int .i64 (i : Int) from (f29.at_ 155))
    clear f29 hQ h17 h18
    generalize a29.eval = ρ at *
    go_simp
  refine f29.step 156 (.pointer (some ⟨gm, i, none⟩)) rfl (Nat.lt_of_lt_of_eq (by decide) I0.size.symm) ((wanted_at (t := 153) (c := false) (b := false) rfl rfl rfl (Nat.lt_of_lt_of_eq (by decide) (f29.size.trans I0.size).symm) (f29.at_ 153)).trans (by rfl)) r_29 (fun a30 f30 => ?_)
  clear r_29
  clear f29
  have r_30 : (execOp a30.eval { dst := some 157, op := Op.load 28 (Operand.tmp 156), type := 28, pos := "memory.go:114", after := #[{ on := 22, ground := Go.Ground.data }, { on := 19, ground := Go.Ground.guard }], guard := some (19, false) }).run Try.prog w = .ok (.value (.slice (some ⟨gy, 0, none⟩) yn yc)) w := by
    have kc : ∀ v, a30.eval (.const v) = v := fun _ => rfl
    have e156 := (show a30.eval (.tmp 156) = .pointer (some ⟨gm, i, none⟩) from (f30.at_ 156))
    clear f30 hQ h17 h18
    generalize a30.eval = ρ at *
    go_simp
  refine f30.step 157 (.slice (some ⟨gy, 0, none⟩) yn yc) rfl (Nat.lt_of_lt_of_eq (by decide) I0.size.symm) ((wanted_at (t := 153) (c := false) (b := false) rfl rfl rfl (Nat.lt_of_lt_of_eq (by decide) (f30.size.trans I0.size).symm) (f30.at_ 153)).trans (by rfl)) r_30 (fun a31 f31 => ?_)
  clear r_30
  clear f30
  refine f31.move 158 (.int .i64 (k : Int)) _ (Or.inl rfl) rfl (Nat.lt_of_lt_of_eq (by decide) I0.size.symm) ((wanted_at (t := 153) (c := false) (b := false) rfl rfl rfl (Nat.lt_of_lt_of_eq (by decide) (f31.size.trans I0.size).symm) (f31.at_ 153)).trans (by rfl)) ((f31.at_ 18).trans h18) (fun a32 f32 => ?_)
  clear f31
  have r_32 : (execOp a32.eval { dst := some 159, op := Op.indexAddr 28 (Operand.tmp 157) (Operand.tmp 158), type := 0, pos := "memory.go:114", after := #[{ on := 23, ground := Go.Ground.data }, { on := 24, ground := Go.Ground.data }, { on := 19, ground := Go.Ground.guard }], guard := some (19, false) }).run Try.prog w = .ok (.value (.pointer (some ⟨gy, k, none⟩))) w := by
    have kc : ∀ v, a32.eval (.const v) = v := fun _ => rfl
    have e157 := (show a32.eval (.tmp 157) = .slice (some ⟨gy, 0, none⟩) yn yc from (f32.at_ 157))
    have e158 := (show a32.eval (.tmp 158) = .int .i64 (k : Int) from (f32.at_ 158))
    clear f32 hQ h17 h18
    generalize a32.eval = ρ at *
    go_simp
  refine f32.step 159 (.pointer (some ⟨gy, k, none⟩)) rfl (Nat.lt_of_lt_of_eq (by decide) I0.size.symm) ((wanted_at (t := 153) (c := false) (b := false) rfl rfl rfl (Nat.lt_of_lt_of_eq (by decide) (f32.size.trans I0.size).symm) (f32.at_ 153)).trans (by rfl)) r_32 (fun a33 f33 => ?_)
  clear r_32
  clear f32
  have r_33 : (execOp a33.eval { dst := some 160, op := Op.load 27 (Operand.tmp 159), type := 27, pos := "memory.go:114", after := #[{ on := 25, ground := Go.Ground.data }, { on := 19, ground := Go.Ground.guard }], guard := some (19, false) }).run Try.prog w = .ok (.value (.int .u32 (100000 + (i : Int)))) w := by
    have kc : ∀ v, a33.eval (.const v) = v := fun _ => rfl
    have e159 := (show a33.eval (.tmp 159) = .pointer (some ⟨gy, k, none⟩) from (f33.at_ 159))
    clear f33 hQ h17 h18
    generalize a33.eval = ρ at *
    go_simp
  refine f33.step 160 (.int .u32 (100000 + (i : Int))) rfl (Nat.lt_of_lt_of_eq (by decide) I0.size.symm) ((wanted_at (t := 153) (c := false) (b := false) rfl rfl rfl (Nat.lt_of_lt_of_eq (by decide) (f33.size.trans I0.size).symm) (f33.at_ 153)).trans (by rfl)) r_33 (fun a34 f34 => ?_)
  clear r_33
  clear f33
  refine f34.move 161 (.int .i64 (i : Int)) _ (Or.inl rfl) rfl (Nat.lt_of_lt_of_eq (by decide) I0.size.symm) ((wanted_at (t := 153) (c := false) (b := false) rfl rfl rfl (Nat.lt_of_lt_of_eq (by decide) (f34.size.trans I0.size).symm) (f34.at_ 153)).trans (by rfl)) ((f34.at_ 17).trans h17) (fun a35 f35 => ?_)
  clear f34
  have r_35 : (execOp a35.eval { dst := some 162, op := Op.binOp Go.BinOp.add 3 (Operand.const (Go.Value.int Go.IntKind.i64 100000)) (Operand.tmp 161) 3, type := 3, pos := "memory.go:114", after := #[{ on := 27, ground := Go.Ground.data }, { on := 19, ground := Go.Ground.guard }], guard := some (19, false) }).run Try.prog w = .ok (.value (.int .i64 (100000 + (i : Int)))) w := by
    have kc : ∀ v, a35.eval (.const v) = v := fun _ => rfl
    have e161 := (show a35.eval (.tmp 161) = .int .i64 (i : Int) from (f35.at_ 161))
    clear f35 hQ h17 h18
    generalize a35.eval = ρ at *
    go_simp
  refine f35.step 162 (.int .i64 (100000 + (i : Int))) rfl (Nat.lt_of_lt_of_eq (by decide) I0.size.symm) ((wanted_at (t := 153) (c := false) (b := false) rfl rfl rfl (Nat.lt_of_lt_of_eq (by decide) (f35.size.trans I0.size).symm) (f35.at_ 153)).trans (by rfl)) r_35 (fun a36 f36 => ?_)
  clear r_35
  clear f35
  have r_36 : (execOp a36.eval { dst := some 163, op := Op.convert 3 27 (Operand.tmp 162), type := 27, pos := "memory.go:114", after := #[{ on := 28, ground := Go.Ground.data }, { on := 19, ground := Go.Ground.guard }], guard := some (19, false) }).run Try.prog w = .ok (.value (.int .u32 (100000 + (i : Int)))) w := by
    have kc : ∀ v, a36.eval (.const v) = v := fun _ => rfl
    have e162 := (show a36.eval (.tmp 162) = .int .i64 (100000 + (i : Int)) from (f36.at_ 162))
    clear f36 hQ h17 h18
    generalize a36.eval = ρ at *
    go_simp
  refine f36.step 163 (.int .u32 (100000 + (i : Int))) rfl (Nat.lt_of_lt_of_eq (by decide) I0.size.symm) ((wanted_at (t := 153) (c := false) (b := false) rfl rfl rfl (Nat.lt_of_lt_of_eq (by decide) (f36.size.trans I0.size).symm) (f36.at_ 153)).trans (by rfl)) r_36 (fun a37 f37 => ?_)
  clear r_36
  clear f36
  have r_37 : (execOp a37.eval { dst := some 164, op := Op.binOp Go.BinOp.neq 27 (Operand.tmp 160) (Operand.tmp 163) 27, type := 4, pos := "memory.go:114", after := #[{ on := 26, ground := Go.Ground.data }, { on := 29, ground := Go.Ground.data }, { on := 19, ground := Go.Ground.guard }], guard := some (19, false) }).run Try.prog w = .ok (.value (.bool false)) w := by
    have kc : ∀ v, a37.eval (.const v) = v := fun _ => rfl
    have e160 := (show a37.eval (.tmp 160) = .int .u32 (100000 + (i : Int)) from (f37.at_ 160))
    have e163 := (show a37.eval (.tmp 163) = .int .u32 (100000 + (i : Int)) from (f37.at_ 163))
    clear f37 hQ h17 h18
    generalize a37.eval = ρ at *
    go_simp
  refine f37.step 164 (.bool false) rfl (Nat.lt_of_lt_of_eq (by decide) I0.size.symm) ((wanted_at (t := 153) (c := false) (b := false) rfl rfl rfl (Nat.lt_of_lt_of_eq (by decide) (f37.size.trans I0.size).symm) (f37.at_ 153)).trans (by rfl)) r_37 (fun a38 f38 => ?_)
  clear r_37
  clear f37
  have r_38 : (execOp a38.eval { dst := some 165, op := Op.pick (Operand.tmp 153) (Operand.const (Go.Value.bool true)) (Operand.tmp 164), type := 4, pos := "memory.go:114", after := #[{ on := 19, ground := Go.Ground.data }, { on := 30, ground := Go.Ground.data }, { on := 7, ground := Go.Ground.guard }], guard := some (7, true) }).run Try.prog w = .ok (.value (.bool false)) w := by
    have kc : ∀ v, a38.eval (.const v) = v := fun _ => rfl
    have e153 := (show a38.eval (.tmp 153) = .bool false from (f38.at_ 153))
    have e164 := (show a38.eval (.tmp 164) = .bool false from (f38.at_ 164))
    clear f38 hQ h17 h18
    generalize a38.eval = ρ at *
    go_simp
  refine f38.step 165 (.bool false) rfl (Nat.lt_of_lt_of_eq (by decide) I0.size.symm) ((wanted_at (t := 141) (c := true) (b := true) rfl rfl rfl (Nat.lt_of_lt_of_eq (by decide) (f38.size.trans I0.size).symm) (f38.at_ 141)).trans (by rfl)) r_38 (fun a39 f39 => ?_)
  clear r_38
  clear f38
  have r_39 : (execOp a39.eval { dst := some 166, op := Op.pick (Operand.tmp 141) (Operand.tmp 165) (Operand.const (Go.Value.bool false)), type := 4, pos := "memory.go:114", after := #[{ on := 7, ground := Go.Ground.data }, { on := 31, ground := Go.Ground.data }], guard := none }).run Try.prog w = .ok (.value (.bool false)) w := by
    have kc : ∀ v, a39.eval (.const v) = v := fun _ => rfl
    have e141 := (show a39.eval (.tmp 141) = .bool true from (f39.at_ 141))
    have e165 := (show a39.eval (.tmp 165) = .bool false from (f39.at_ 165))
    clear f39 hQ h17 h18
    generalize a39.eval = ρ at *
    go_simp
  refine f39.step 166 (.bool false) rfl (Nat.lt_of_lt_of_eq (by decide) I0.size.symm) (wanted_none rfl) r_39 (fun a40 f40 => ?_)
  clear r_39
  clear f39
  refine f40.move 167 (.bool false) _ (Or.inl rfl) rfl (Nat.lt_of_lt_of_eq (by decide) I0.size.symm) (wanted_none rfl) (f40.at_ 166) (fun a41 f41 => ?_)
  clear f40
  refine f41.move 168 (.int .i64 (k : Int)) _ (Or.inl rfl) rfl (Nat.lt_of_lt_of_eq (by decide) I0.size.symm) ((wanted_at (t := 167) (c := false) (b := false) rfl rfl rfl (Nat.lt_of_lt_of_eq (by decide) (f41.size.trans I0.size).symm) (f41.at_ 167)).trans (by rfl)) ((f41.at_ 18).trans h18) (fun a42 f42 => ?_)
  clear f41
  refine f42.move 169 (.slice (some ⟨lb, lo, none⟩) n lc) _ (Or.inl rfl) rfl (Nat.lt_of_lt_of_eq (by decide) I0.size.symm) ((wanted_at (t := 167) (c := false) (b := false) rfl rfl rfl (Nat.lt_of_lt_of_eq (by decide) (f42.size.trans I0.size).symm) (f42.at_ 167)).trans (by rfl)) ((f42.at_ 0).trans I0.s0) (fun a43 f43 => ?_)
  clear f42
  refine f43.move 170 (.int .i64 (i : Int)) _ (Or.inl rfl) rfl (Nat.lt_of_lt_of_eq (by decide) I0.size.symm) ((wanted_at (t := 167) (c := false) (b := false) rfl rfl rfl (Nat.lt_of_lt_of_eq (by decide) (f43.size.trans I0.size).symm) (f43.at_ 167)).trans (by rfl)) ((f43.at_ 17).trans h17) (fun a44 f44 => ?_)
  clear f43
  have r_44 : (execOp a44.eval { dst := some 171, op := Op.indexAddr 42 (Operand.tmp 169) (Operand.tmp 170), type := 0, pos := "memory.go:114", after := #[{ on := 35, ground := Go.Ground.data }, { on := 36, ground := Go.Ground.data }, { on := 33, ground := Go.Ground.guard }], guard := some (33, false) }).run Try.prog w = .ok (.value (.pointer (some ⟨lb, lo + i, none⟩))) w := by
    have kc : ∀ v, a44.eval (.const v) = v := fun _ => rfl
    have e169 := (show a44.eval (.tmp 169) = .slice (some ⟨lb, lo, none⟩) n lc from (f44.at_ 169))
    have e170 := (show a44.eval (.tmp 170) = .int .i64 (i : Int) from (f44.at_ 170))
    clear f44 hQ h17 h18
    generalize a44.eval = ρ at *
    go_simp
  refine f44.step 171 (.pointer (some ⟨lb, lo + i, none⟩)) rfl (Nat.lt_of_lt_of_eq (by decide) I0.size.symm) ((wanted_at (t := 167) (c := false) (b := false) rfl rfl rfl (Nat.lt_of_lt_of_eq (by decide) (f44.size.trans I0.size).symm) (f44.at_ 167)).trans (by rfl)) r_44 (fun a45 f45 => ?_)
  clear r_44
  clear f44
  have r_45 : (execOp a45.eval { dst := some 172, op := Op.load 28 (Operand.tmp 171), type := 28, pos := "memory.go:114", after := #[{ on := 37, ground := Go.Ground.data }, { on := 33, ground := Go.Ground.guard }], guard := some (33, false) }).run Try.prog w = .ok (.value (.slice (some ⟨gx, 0, none⟩) xn xc)) w := by
    have kc : ∀ v, a45.eval (.const v) = v := fun _ => rfl
    have e171 := (show a45.eval (.tmp 171) = .pointer (some ⟨lb, lo + i, none⟩) from (f45.at_ 171))
    clear f45 hQ h17 h18
    generalize a45.eval = ρ at *
    go_simp
  refine f45.step 172 (.slice (some ⟨gx, 0, none⟩) xn xc) rfl (Nat.lt_of_lt_of_eq (by decide) I0.size.symm) ((wanted_at (t := 167) (c := false) (b := false) rfl rfl rfl (Nat.lt_of_lt_of_eq (by decide) (f45.size.trans I0.size).symm) (f45.at_ 167)).trans (by rfl)) r_45 (fun a46 f46 => ?_)
  clear r_45
  clear f45
  have r_46 : (execOp a46.eval { dst := some 173, op := Op.call { callee := Go.Callee.builtin Go.Builtin.len, args := #[Operand.tmp 172], argTypes := #[28] }, type := 3, pos := "memory.go:114", after := #[{ on := 38, ground := Go.Ground.data }, { on := 33, ground := Go.Ground.guard }], guard := some (33, false) }).run Try.prog w = .ok (.value (.int .i64 (xn : Int))) w := by
    have kc : ∀ v, a46.eval (.const v) = v := fun _ => rfl
    have e172 := (show a46.eval (.tmp 172) = .slice (some ⟨gx, 0, none⟩) xn xc from (f46.at_ 172))
    clear f46 hQ h17 h18
    generalize a46.eval = ρ at *
    go_simp
  refine f46.step 173 (.int .i64 (xn : Int)) rfl (Nat.lt_of_lt_of_eq (by decide) I0.size.symm) ((wanted_at (t := 167) (c := false) (b := false) rfl rfl rfl (Nat.lt_of_lt_of_eq (by decide) (f46.size.trans I0.size).symm) (f46.at_ 167)).trans (by rfl)) r_46 (fun a47 f47 => ?_)
  clear r_46
  clear f46
  have r_47 : (execOp a47.eval { dst := some 174, op := Op.binOp Go.BinOp.geq 3 (Operand.tmp 168) (Operand.tmp 173) 3, type := 4, pos := "memory.go:114", after := #[{ on := 34, ground := Go.Ground.data }, { on := 39, ground := Go.Ground.data }, { on := 33, ground := Go.Ground.guard }], guard := some (33, false) }).run Try.prog w = .ok (.value (.bool false)) w := by
    have kc : ∀ v, a47.eval (.const v) = v := fun _ => rfl
    have e168 := (show a47.eval (.tmp 168) = .int .i64 (k : Int) from (f47.at_ 168))
    have e173 := (show a47.eval (.tmp 173) = .int .i64 (xn : Int) from (f47.at_ 173))
    clear f47 hQ h17 h18
    generalize a47.eval = ρ at *
    go_simp
  refine f47.step 174 (.bool false) rfl (Nat.lt_of_lt_of_eq (by decide) I0.size.symm) ((wanted_at (t := 167) (c := false) (b := false) rfl rfl rfl (Nat.lt_of_lt_of_eq (by decide) (f47.size.trans I0.size).symm) (f47.at_ 167)).trans (by rfl)) r_47 (fun a48 f48 => ?_)
  clear r_47
  clear f47
  refine f48.move 175 (.bool false) _ (Or.inl rfl) rfl (Nat.lt_of_lt_of_eq (by decide) I0.size.symm) ((wanted_at (t := 167) (c := false) (b := false) rfl rfl rfl (Nat.lt_of_lt_of_eq (by decide) (f48.size.trans I0.size).symm) (f48.at_ 167)).trans (by rfl)) (f48.at_ 174) (fun a49 f49 => ?_)
  clear f48
  refine f49.skip 176 rfl (Nat.lt_of_lt_of_eq (by decide) I0.size.symm) ((wanted_at (t := 175) (c := false) (b := true) rfl rfl rfl (Nat.lt_of_lt_of_eq (by decide) (f49.size.trans I0.size).symm) (f49.at_ 175)).trans (by rfl)) (fun a50 f50 => ?_)
  clear f49
  refine f50.skip 177 rfl (Nat.lt_of_lt_of_eq (by decide) I0.size.symm) ((wanted_at (t := 175) (c := false) (b := true) rfl rfl rfl (Nat.lt_of_lt_of_eq (by decide) (f50.size.trans I0.size).symm) (f50.at_ 175)).trans (by rfl)) (fun a51 f51 => ?_)
  clear f50
  refine f51.skip 178 rfl (Nat.lt_of_lt_of_eq (by decide) I0.size.symm) ((wanted_at (t := 175) (c := false) (b := true) rfl rfl rfl (Nat.lt_of_lt_of_eq (by decide) (f51.size.trans I0.size).symm) (f51.at_ 175)).trans (by rfl)) (fun a52 f52 => ?_)
  clear f51
  refine f52.skip 179 rfl (Nat.lt_of_lt_of_eq (by decide) I0.size.symm) ((wanted_at (t := 175) (c := false) (b := true) rfl rfl rfl (Nat.lt_of_lt_of_eq (by decide) (f52.size.trans I0.size).symm) (f52.at_ 175)).trans (by rfl)) (fun a53 f53 => ?_)
  clear f52
  refine f53.skip 180 rfl (Nat.lt_of_lt_of_eq (by decide) I0.size.symm) ((wanted_at (t := 175) (c := false) (b := true) rfl rfl rfl (Nat.lt_of_lt_of_eq (by decide) (f53.size.trans I0.size).symm) (f53.at_ 175)).trans (by rfl)) (fun a54 f54 => ?_)
  clear f53
  refine f54.skip 181 rfl (Nat.lt_of_lt_of_eq (by decide) I0.size.symm) ((wanted_at (t := 175) (c := false) (b := true) rfl rfl rfl (Nat.lt_of_lt_of_eq (by decide) (f54.size.trans I0.size).symm) (f54.at_ 175)).trans (by rfl)) (fun a55 f55 => ?_)
  clear f54
  refine f55.skip 182 rfl (Nat.lt_of_lt_of_eq (by decide) I0.size.symm) ((wanted_at (t := 175) (c := false) (b := true) rfl rfl rfl (Nat.lt_of_lt_of_eq (by decide) (f55.size.trans I0.size).symm) (f55.at_ 175)).trans (by rfl)) (fun a56 f56 => ?_)
  clear f55
  refine f56.skip 183 rfl (Nat.lt_of_lt_of_eq (by decide) I0.size.symm) ((wanted_at (t := 175) (c := false) (b := true) rfl rfl rfl (Nat.lt_of_lt_of_eq (by decide) (f56.size.trans I0.size).symm) (f56.at_ 175)).trans (by rfl)) (fun a57 f57 => ?_)
  clear f56
  refine f57.skip 184 rfl (Nat.lt_of_lt_of_eq (by decide) I0.size.symm) ((wanted_at (t := 175) (c := false) (b := true) rfl rfl rfl (Nat.lt_of_lt_of_eq (by decide) (f57.size.trans I0.size).symm) (f57.at_ 175)).trans (by rfl)) (fun a58 f58 => ?_)
  clear f57
  refine f58.skip 185 rfl (Nat.lt_of_lt_of_eq (by decide) I0.size.symm) ((wanted_at (t := 175) (c := false) (b := true) rfl rfl rfl (Nat.lt_of_lt_of_eq (by decide) (f58.size.trans I0.size).symm) (f58.at_ 175)).trans (by rfl)) (fun a59 f59 => ?_)
  clear f58
  refine f59.skip 186 rfl (Nat.lt_of_lt_of_eq (by decide) I0.size.symm) ((wanted_at (t := 175) (c := false) (b := true) rfl rfl rfl (Nat.lt_of_lt_of_eq (by decide) (f59.size.trans I0.size).symm) (f59.at_ 175)).trans (by rfl)) (fun a60 f60 => ?_)
  clear f59
  have r_60 : (execOp a60.eval { dst := some 187, op := Op.pick (Operand.tmp 175) (Operand.tmp 186) (Operand.const (Go.Value.bool false)), type := 4, pos := "memory.go:114", after := #[{ on := 41, ground := Go.Ground.data }, { on := 52, ground := Go.Ground.data }, { on := 33, ground := Go.Ground.guard }], guard := some (33, false) }).run Try.prog w = .ok (.value (.bool false)) w := by
    have kc : ∀ v, a60.eval (.const v) = v := fun _ => rfl
    have e175 := (show a60.eval (.tmp 175) = .bool false from (f60.at_ 175))
    have e186 := (show a60.eval (.tmp 186) = undef from (f60.at_ 186))
    clear f60 hQ h17 h18
    generalize a60.eval = ρ at *
    go_simp
  refine f60.step 187 (.bool false) rfl (Nat.lt_of_lt_of_eq (by decide) I0.size.symm) ((wanted_at (t := 167) (c := false) (b := false) rfl rfl rfl (Nat.lt_of_lt_of_eq (by decide) (f60.size.trans I0.size).symm) (f60.at_ 167)).trans (by rfl)) r_60 (fun a61 f61 => ?_)
  clear r_60
  clear f60
  have r_61 : (execOp a61.eval { dst := some 188, op := Op.pick (Operand.tmp 167) (Operand.const (Go.Value.bool true)) (Operand.tmp 187), type := 4, pos := "memory.go:114", after := #[{ on := 33, ground := Go.Ground.data }, { on := 53, ground := Go.Ground.data }], guard := none }).run Try.prog w = .ok (.value (.bool false)) w := by
    have kc : ∀ v, a61.eval (.const v) = v := fun _ => rfl
    have e167 := (show a61.eval (.tmp 167) = .bool false from (f61.at_ 167))
    have e187 := (show a61.eval (.tmp 187) = .bool false from (f61.at_ 187))
    clear f61 hQ h17 h18
    generalize a61.eval = ρ at *
    go_simp
  refine f61.step 188 (.bool false) rfl (Nat.lt_of_lt_of_eq (by decide) I0.size.symm) (wanted_none rfl) r_61 (fun a62 f62 => ?_)
  clear r_61
  clear f61
  refine wpList_nil ?_
  change Code.wp _ _ _ _ _
  refine wp_cond_false (show a62.eval (.tmp 188) = .bool false from (f62.at_ 188)) (wp_skip ?_)
  change Code.wp _ _ _ _ _
  refine wp_region_list ?_
  unfold r40
  refine f62.move 132 (.int .i64 (k : Int)) _ (Or.inl rfl) rfl (Nat.lt_of_lt_of_eq (by decide) I0.size.symm) (wanted_none rfl) ((f62.at_ 18).trans h18) (fun a63 f63 => ?_)
  clear f62
  have r_63 : (execOp a63.eval { dst := some 133, op := Op.binOp Go.BinOp.add 3 (Operand.tmp 132) (Operand.const (Go.Value.int Go.IntKind.i64 1)) 3, type := 3, pos := "memory.go:113", after := #[{ on := 0, ground := Go.Ground.data }], guard := none }).run Try.prog w = .ok (.value (.int .i64 ((k : Int) + 1))) w := by
    have kc : ∀ v, a63.eval (.const v) = v := fun _ => rfl
    have e132 := (show a63.eval (.tmp 132) = .int .i64 (k : Int) from (f63.at_ 132))
    clear f63 hQ h17 h18
    generalize a63.eval = ρ at *
    go_simp
  refine f63.step 133 (.int .i64 ((k : Int) + 1)) rfl (Nat.lt_of_lt_of_eq (by decide) I0.size.symm) (wanted_none rfl) r_63 (fun a64 f64 => ?_)
  clear r_63
  clear f63
  refine f64.move 18 (.int .i64 ((k : Int) + 1)) _ (Or.inr rfl) rfl (Nat.lt_of_lt_of_eq (by decide) I0.size.symm) (wanted_none rfl) (f64.at_ 133) (fun a65 f65 => ?_)
  clear f64
  refine wpList_nil ?_
  exact hQ a65 (I0.keep f65 (fun t ht => by rcases ht with rfl | rfl | rfl | rfl <;> rfl)) (show a65.eval (.tmp 17) = .int .i64 (i : Int) from ((f65.at_ 17).trans h17)) (show a65.eval (.tmp 18) = .int .i64 ((k : Int) + 1) from (f65.at_ 18))
set_option maxRecDepth 100000 in
set_option maxHeartbeats 1000000 in
theorem inM {lb lo n lc gm mc gy yn yc i k : Nat} {xa : Option Addr} {xn xc : Nat} {Q : Exit → Act → World → Prop} (a0 : Act) (w : World) (I0 : IA lb lo n lc gm mc a0) (h17 : a0.eval (.tmp 17) = .int .i64 (i : Int)) (h18 : a0.eval (.tmp 18) = .int .i64 (k : Int))
    (hi : i < n) (hn : n ≤ 1000000) (hkx : xn ≤ k) (hky : k < yn) (hyb : yn ≤ 1099511627776) (c1 : w.cell? ⟨lb, lo + i, none⟩ = some (.slice xa xn xc)) (c2 : w.cell? ⟨gm, i, none⟩ = some (.slice (some ⟨gy, 0, none⟩) yn yc)) (c3 : w.cell? ⟨gy, k, none⟩ = some (.int .u32 (300000 + (i : Int))))
    (hQ : ∀ a, IA lb lo n lc gm mc a → a.eval (.tmp 17) = .int .i64 (i : Int) → a.eval (.tmp 18) = .int .i64 ((k : Int) + 1) → Q .normal a w) : cIn.wp Try.prog Q a0 w := by
  have hii : (i : Int) < (n : Int) := by omega
  have hki : (k : Int) < (yn : Int) := by omega
  have w1 : RowKit.wrap64 (100000 + (i : Int)) = 100000 + (i : Int) := by unfold RowKit.wrap64; omega
  have w2 : IntKind.u32.wrap (100000 + (i : Int)) = 100000 + (i : Int) := by rw [IntKind.wrap_u32]; omega
  have w3 : RowKit.wrap64 (300000 + (i : Int)) = 300000 + (i : Int) := by unfold RowKit.wrap64; omega
  have w4 : IntKind.u32.wrap (300000 + (i : Int)) = 300000 + (i : Int) := by rw [IntKind.wrap_u32]; omega
  have w5 : IntKind.i64.wrap (100000 + (i : Int)) = 100000 + (i : Int) := by rw [IntKind.wrap_i64]; omega
  have w6 : IntKind.i64.wrap (300000 + (i : Int)) = 300000 + (i : Int) := by rw [IntKind.wrap_i64]; omega
  have w7 : IntKind.i64.wrap ((k : Int) + 1) = (k : Int) + 1 := by rw [IntKind.wrap_i64]; omega
  have hkxi : (xn : Int) ≤ (k : Int) := by omega
  have hkxd : decide ((k : Int) < (xn : Int)) = false := decide_eq_false (by omega)
  clear hi hky hyb
  have f0 := Fe.refl a0
  unfold cIn
  refine wp_seq (wp_seq ?_)
  refine wp_region_list ?_
  unfold r39
  refine f0.move 125 (.int .i64 (k : Int)) _ (Or.inl rfl) rfl (Nat.lt_of_lt_of_eq (by decide) I0.size.symm) (wanted_none rfl) ((f0.at_ 18).trans h18) (fun a1 f1 => ?_)
  clear f0
  refine f1.move 126 (.slice (some ⟨gm, 0, none⟩) n mc) _ (Or.inl rfl) rfl (Nat.lt_of_lt_of_eq (by decide) I0.size.symm) (wanted_none rfl) ((f1.at_ 9).trans I0.s9) (fun a2 f2 => ?_)
  clear f1
  refine f2.move 127 (.int .i64 (i : Int)) _ (Or.inl rfl) rfl (Nat.lt_of_lt_of_eq (by decide) I0.size.symm) (wanted_none rfl) ((f2.at_ 17).trans h17) (fun a3 f3 => ?_)
  clear f2
  have r_3 : (execOp a3.eval { dst := some 128, op := Op.indexAddr 42 (Operand.tmp 126) (Operand.tmp 127), type := 0, pos := "memory.go:113", after := #[{ on := 1, ground := Go.Ground.data }, { on := 2, ground := Go.Ground.data }], guard := none }).run Try.prog w = .ok (.value (.pointer (some ⟨gm, i, none⟩))) w := by
    have kc : ∀ v, a3.eval (.const v) = v := fun _ => rfl
    have e126 := (show a3.eval (.tmp 126) = .slice (some ⟨gm, 0, none⟩) n mc from (f3.at_ 126))
    have e127 := (show a3.eval (.tmp 127) = .int .i64 (i : Int) from (f3.at_ 127))
    clear f3 hQ h17 h18
    generalize a3.eval = ρ at *
    go_simp
  refine f3.step 128 (.pointer (some ⟨gm, i, none⟩)) rfl (Nat.lt_of_lt_of_eq (by decide) I0.size.symm) (wanted_none rfl) r_3 (fun a4 f4 => ?_)
  clear r_3
  clear f3
  have r_4 : (execOp a4.eval { dst := some 129, op := Op.load 28 (Operand.tmp 128), type := 28, pos := "memory.go:113", after := #[{ on := 3, ground := Go.Ground.data }], guard := none }).run Try.prog w = .ok (.value (.slice (some ⟨gy, 0, none⟩) yn yc)) w := by
    have kc : ∀ v, a4.eval (.const v) = v := fun _ => rfl
    have e128 := (show a4.eval (.tmp 128) = .pointer (some ⟨gm, i, none⟩) from (f4.at_ 128))
    clear f4 hQ h17 h18
    generalize a4.eval = ρ at *
    go_simp
  refine f4.step 129 (.slice (some ⟨gy, 0, none⟩) yn yc) rfl (Nat.lt_of_lt_of_eq (by decide) I0.size.symm) (wanted_none rfl) r_4 (fun a5 f5 => ?_)
  clear r_4
  clear f4
  have r_5 : (execOp a5.eval { dst := some 130, op := Op.call { callee := Go.Callee.builtin Go.Builtin.len, args := #[Operand.tmp 129], argTypes := #[28] }, type := 3, pos := "memory.go:113", after := #[{ on := 4, ground := Go.Ground.data }], guard := none }).run Try.prog w = .ok (.value (.int .i64 (yn : Int))) w := by
    have kc : ∀ v, a5.eval (.const v) = v := fun _ => rfl
    have e129 := (show a5.eval (.tmp 129) = .slice (some ⟨gy, 0, none⟩) yn yc from (f5.at_ 129))
    clear f5 hQ h17 h18
    generalize a5.eval = ρ at *
    go_simp
  refine f5.step 130 (.int .i64 (yn : Int)) rfl (Nat.lt_of_lt_of_eq (by decide) I0.size.symm) (wanted_none rfl) r_5 (fun a6 f6 => ?_)
  clear r_5
  clear f5
  have r_6 : (execOp a6.eval { dst := some 131, op := Op.binOp Go.BinOp.lss 3 (Operand.tmp 125) (Operand.tmp 130) 3, type := 4, pos := "memory.go:113", after := #[{ on := 0, ground := Go.Ground.data }, { on := 5, ground := Go.Ground.data }], guard := none }).run Try.prog w = .ok (.value (.bool true)) w := by
    have kc : ∀ v, a6.eval (.const v) = v := fun _ => rfl
    have e125 := (show a6.eval (.tmp 125) = .int .i64 (k : Int) from (f6.at_ 125))
    have e130 := (show a6.eval (.tmp 130) = .int .i64 (yn : Int) from (f6.at_ 130))
    clear f6 hQ h17 h18
    generalize a6.eval = ρ at *
    go_simp
  refine f6.step 131 (.bool true) rfl (Nat.lt_of_lt_of_eq (by decide) I0.size.symm) (wanted_none rfl) r_6 (fun a7 f7 => ?_)
  clear r_6
  clear f6
  refine wpList_nil ?_
  change Code.wp _ _ _ _ _
  refine wp_cond_true (show a7.eval (.tmp 131) = .bool true from (f7.at_ 131)) (wp_skip ?_)
  change Code.wp _ _ _ _ _
  refine wp_seq (wp_block (wp_seq ?_))
  refine wp_region_list ?_
  unfold r41
  refine f7.move 134 (.int .i64 (k : Int)) _ (Or.inl rfl) rfl (Nat.lt_of_lt_of_eq (by decide) I0.size.symm) (wanted_none rfl) ((f7.at_ 18).trans h18) (fun a8 f8 => ?_)
  clear f7
  refine f8.move 135 (.slice (some ⟨lb, lo, none⟩) n lc) _ (Or.inl rfl) rfl (Nat.lt_of_lt_of_eq (by decide) I0.size.symm) (wanted_none rfl) ((f8.at_ 0).trans I0.s0) (fun a9 f9 => ?_)
  clear f8
  refine f9.move 136 (.int .i64 (i : Int)) _ (Or.inl rfl) rfl (Nat.lt_of_lt_of_eq (by decide) I0.size.symm) (wanted_none rfl) ((f9.at_ 17).trans h17) (fun a10 f10 => ?_)
  clear f9
  have r_10 : (execOp a10.eval { dst := some 137, op := Op.indexAddr 42 (Operand.tmp 135) (Operand.tmp 136), type := 0, pos := "memory.go:114", after := #[{ on := 1, ground := Go.Ground.data }, { on := 2, ground := Go.Ground.data }], guard := none }).run Try.prog w = .ok (.value (.pointer (some ⟨lb, lo + i, none⟩))) w := by
    have kc : ∀ v, a10.eval (.const v) = v := fun _ => rfl
    have e135 := (show a10.eval (.tmp 135) = .slice (some ⟨lb, lo, none⟩) n lc from (f10.at_ 135))
    have e136 := (show a10.eval (.tmp 136) = .int .i64 (i : Int) from (f10.at_ 136))
    clear f10 hQ h17 h18
    generalize a10.eval = ρ at *
    go_simp
  refine f10.step 137 (.pointer (some ⟨lb, lo + i, none⟩)) rfl (Nat.lt_of_lt_of_eq (by decide) I0.size.symm) (wanted_none rfl) r_10 (fun a11 f11 => ?_)
  clear r_10
  clear f10
  have r_11 : (execOp a11.eval { dst := some 138, op := Op.load 28 (Operand.tmp 137), type := 28, pos := "memory.go:114", after := #[{ on := 3, ground := Go.Ground.data }], guard := none }).run Try.prog w = .ok (.value (.slice xa xn xc)) w := by
    have kc : ∀ v, a11.eval (.const v) = v := fun _ => rfl
    have e137 := (show a11.eval (.tmp 137) = .pointer (some ⟨lb, lo + i, none⟩) from (f11.at_ 137))
    clear f11 hQ h17 h18
    generalize a11.eval = ρ at *
    go_simp
  refine f11.step 138 (.slice xa xn xc) rfl (Nat.lt_of_lt_of_eq (by decide) I0.size.symm) (wanted_none rfl) r_11 (fun a12 f12 => ?_)
  clear r_11
  clear f11
  have r_12 : (execOp a12.eval { dst := some 139, op := Op.call { callee := Go.Callee.builtin Go.Builtin.len, args := #[Operand.tmp 138], argTypes := #[28] }, type := 3, pos := "memory.go:114", after := #[{ on := 4, ground := Go.Ground.data }], guard := none }).run Try.prog w = .ok (.value (.int .i64 (xn : Int))) w := by
    have kc : ∀ v, a12.eval (.const v) = v := fun _ => rfl
    have e138 := (show a12.eval (.tmp 138) = .slice xa xn xc from (f12.at_ 138))
    clear f12 hQ h17 h18
    generalize a12.eval = ρ at *
    go_simp
  refine f12.step 139 (.int .i64 (xn : Int)) rfl (Nat.lt_of_lt_of_eq (by decide) I0.size.symm) (wanted_none rfl) r_12 (fun a13 f13 => ?_)
  clear r_12
  clear f12
  have r_13 : (execOp a13.eval { dst := some 140, op := Op.binOp Go.BinOp.lss 3 (Operand.tmp 134) (Operand.tmp 139) 3, type := 4, pos := "memory.go:114", after := #[{ on := 0, ground := Go.Ground.data }, { on := 5, ground := Go.Ground.data }], guard := none }).run Try.prog w = .ok (.value (.bool false)) w := by
    have kc : ∀ v, a13.eval (.const v) = v := fun _ => rfl
    have e134 := (show a13.eval (.tmp 134) = .int .i64 (k : Int) from (f13.at_ 134))
    have e139 := (show a13.eval (.tmp 139) = .int .i64 (xn : Int) from (f13.at_ 139))
    clear f13 hQ h17 h18
    generalize a13.eval = ρ at *
    go_simp
  refine f13.step 140 (.bool false) rfl (Nat.lt_of_lt_of_eq (by decide) I0.size.symm) (wanted_none rfl) r_13 (fun a14 f14 => ?_)
  clear r_13
  clear f13
  refine f14.move 141 (.bool false) _ (Or.inl rfl) rfl (Nat.lt_of_lt_of_eq (by decide) I0.size.symm) (wanted_none rfl) (f14.at_ 140) (fun a15 f15 => ?_)
  clear f14
  refine f15.skip 142 rfl (Nat.lt_of_lt_of_eq (by decide) I0.size.symm) ((wanted_at (t := 141) (c := false) (b := true) rfl rfl rfl (Nat.lt_of_lt_of_eq (by decide) (f15.size.trans I0.size).symm) (f15.at_ 141)).trans (by rfl)) (fun a16 f16 => ?_)
  clear f15
  refine f16.skip 143 rfl (Nat.lt_of_lt_of_eq (by decide) I0.size.symm) ((wanted_at (t := 141) (c := false) (b := true) rfl rfl rfl (Nat.lt_of_lt_of_eq (by decide) (f16.size.trans I0.size).symm) (f16.at_ 141)).trans (by rfl)) (fun a17 f17 => ?_)
  clear f16
  refine f17.skip 144 rfl (Nat.lt_of_lt_of_eq (by decide) I0.size.symm) ((wanted_at (t := 141) (c := false) (b := true) rfl rfl rfl (Nat.lt_of_lt_of_eq (by decide) (f17.size.trans I0.size).symm) (f17.at_ 141)).trans (by rfl)) (fun a18 f18 => ?_)
  clear f17
  refine f18.skip 145 rfl (Nat.lt_of_lt_of_eq (by decide) I0.size.symm) ((wanted_at (t := 141) (c := false) (b := true) rfl rfl rfl (Nat.lt_of_lt_of_eq (by decide) (f18.size.trans I0.size).symm) (f18.at_ 141)).trans (by rfl)) (fun a19 f19 => ?_)
  clear f18
  refine f19.skip 146 rfl (Nat.lt_of_lt_of_eq (by decide) I0.size.symm) ((wanted_at (t := 141) (c := false) (b := true) rfl rfl rfl (Nat.lt_of_lt_of_eq (by decide) (f19.size.trans I0.size).symm) (f19.at_ 141)).trans (by rfl)) (fun a20 f20 => ?_)
  clear f19
  refine f20.skip 147 rfl (Nat.lt_of_lt_of_eq (by decide) I0.size.symm) ((wanted_at (t := 141) (c := false) (b := true) rfl rfl rfl (Nat.lt_of_lt_of_eq (by decide) (f20.size.trans I0.size).symm) (f20.at_ 141)).trans (by rfl)) (fun a21 f21 => ?_)
  clear f20
  refine f21.skip 148 rfl (Nat.lt_of_lt_of_eq (by decide) I0.size.symm) ((wanted_at (t := 141) (c := false) (b := true) rfl rfl rfl (Nat.lt_of_lt_of_eq (by decide) (f21.size.trans I0.size).symm) (f21.at_ 141)).trans (by rfl)) (fun a22 f22 => ?_)
  clear f21
  refine f22.skip 149 rfl (Nat.lt_of_lt_of_eq (by decide) I0.size.symm) ((wanted_at (t := 141) (c := false) (b := true) rfl rfl rfl (Nat.lt_of_lt_of_eq (by decide) (f22.size.trans I0.size).symm) (f22.at_ 141)).trans (by rfl)) (fun a23 f23 => ?_)
  clear f22
  refine f23.skip 150 rfl (Nat.lt_of_lt_of_eq (by decide) I0.size.symm) ((wanted_at (t := 141) (c := false) (b := true) rfl rfl rfl (Nat.lt_of_lt_of_eq (by decide) (f23.size.trans I0.size).symm) (f23.at_ 141)).trans (by rfl)) (fun a24 f24 => ?_)
  clear f23
  refine f24.skip 151 rfl (Nat.lt_of_lt_of_eq (by decide) I0.size.symm) ((wanted_at (t := 141) (c := false) (b := true) rfl rfl rfl (Nat.lt_of_lt_of_eq (by decide) (f24.size.trans I0.size).symm) (f24.at_ 141)).trans (by rfl)) (fun a25 f25 => ?_)
  clear f24
  refine f25.skip 152 rfl (Nat.lt_of_lt_of_eq (by decide) I0.size.symm) ((wanted_at (t := 141) (c := false) (b := true) rfl rfl rfl (Nat.lt_of_lt_of_eq (by decide) (f25.size.trans I0.size).symm) (f25.at_ 141)).trans (by rfl)) (fun a26 f26 => ?_)
  clear f25
  refine f26.skip 153 rfl (Nat.lt_of_lt_of_eq (by decide) I0.size.symm) ((wanted_at (t := 141) (c := false) (b := true) rfl rfl rfl (Nat.lt_of_lt_of_eq (by decide) (f26.size.trans I0.size).symm) (f26.at_ 141)).trans (by rfl)) (fun a27 f27 => ?_)
  clear f26
  refine f27.skip 154 rfl (Nat.lt_of_lt_of_eq (by decide) I0.size.symm) (wanted_undef (t := 153) rfl rfl rfl (Nat.lt_of_lt_of_eq (by decide) (f27.size.trans I0.size).symm) (f27.at_ 153)) (fun a28 f28 => ?_)
  clear f27
  refine f28.skip 155 rfl (Nat.lt_of_lt_of_eq (by decide) I0.size.symm) (wanted_undef (t := 153) rfl rfl rfl (Nat.lt_of_lt_of_eq (by decide) (f28.size.trans I0.size).symm) (f28.at_ 153)) (fun a29 f29 => ?_)
  clear f28
  refine f29.skip 156 rfl (Nat.lt_of_lt_of_eq (by decide) I0.size.symm) (wanted_undef (t := 153) rfl rfl rfl (Nat.lt_of_lt_of_eq (by decide) (f29.size.trans I0.size).symm) (f29.at_ 153)) (fun a30 f30 => ?_)
  clear f29
  refine f30.skip 157 rfl (Nat.lt_of_lt_of_eq (by decide) I0.size.symm) (wanted_undef (t := 153) rfl rfl rfl (Nat.lt_of_lt_of_eq (by decide) (f30.size.trans I0.size).symm) (f30.at_ 153)) (fun a31 f31 => ?_)
  clear f30
  refine f31.skip 158 rfl (Nat.lt_of_lt_of_eq (by decide) I0.size.symm) (wanted_undef (t := 153) rfl rfl rfl (Nat.lt_of_lt_of_eq (by decide) (f31.size.trans I0.size).symm) (f31.at_ 153)) (fun a32 f32 => ?_)
  clear f31
  refine f32.skip 159 rfl (Nat.lt_of_lt_of_eq (by decide) I0.size.symm) (wanted_undef (t := 153) rfl rfl rfl (Nat.lt_of_lt_of_eq (by decide) (f32.size.trans I0.size).symm) (f32.at_ 153)) (fun a33 f33 => ?_)
  clear f32
  refine f33.skip 160 rfl (Nat.lt_of_lt_of_eq (by decide) I0.size.symm) (wanted_undef (t := 153) rfl rfl rfl (Nat.lt_of_lt_of_eq (by decide) (f33.size.trans I0.size).symm) (f33.at_ 153)) (fun a34 f34 => ?_)
  clear f33
  refine f34.skip 161 rfl (Nat.lt_of_lt_of_eq (by decide) I0.size.symm) (wanted_undef (t := 153) rfl rfl rfl (Nat.lt_of_lt_of_eq (by decide) (f34.size.trans I0.size).symm) (f34.at_ 153)) (fun a35 f35 => ?_)
  clear f34
  refine f35.skip 162 rfl (Nat.lt_of_lt_of_eq (by decide) I0.size.symm) (wanted_undef (t := 153) rfl rfl rfl (Nat.lt_of_lt_of_eq (by decide) (f35.size.trans I0.size).symm) (f35.at_ 153)) (fun a36 f36 => ?_)
  clear f35
  refine f36.skip 163 rfl (Nat.lt_of_lt_of_eq (by decide) I0.size.symm) (wanted_undef (t := 153) rfl rfl rfl (Nat.lt_of_lt_of_eq (by decide) (f36.size.trans I0.size).symm) (f36.at_ 153)) (fun a37 f37 => ?_)
  clear f36
  refine f37.skip 164 rfl (Nat.lt_of_lt_of_eq (by decide) I0.size.symm) (wanted_undef (t := 153) rfl rfl rfl (Nat.lt_of_lt_of_eq (by decide) (f37.size.trans I0.size).symm) (f37.at_ 153)) (fun a38 f38 => ?_)
  clear f37
  refine f38.skip 165 rfl (Nat.lt_of_lt_of_eq (by decide) I0.size.symm) ((wanted_at (t := 141) (c := false) (b := true) rfl rfl rfl (Nat.lt_of_lt_of_eq (by decide) (f38.size.trans I0.size).symm) (f38.at_ 141)).trans (by rfl)) (fun a39 f39 => ?_)
  clear f38
  have r_39 : (execOp a39.eval { dst := some 166, op := Op.pick (Operand.tmp 141) (Operand.tmp 165) (Operand.const (Go.Value.bool false)), type := 4, pos := "memory.go:114", after := #[{ on := 7, ground := Go.Ground.data }, { on := 31, ground := Go.Ground.data }], guard := none }).run Try.prog w = .ok (.value (.bool false)) w := by
    have kc : ∀ v, a39.eval (.const v) = v := fun _ => rfl
    have e141 := (show a39.eval (.tmp 141) = .bool false from (f39.at_ 141))
    have e165 := (show a39.eval (.tmp 165) = undef from (f39.at_ 165))
    clear f39 hQ h17 h18
    generalize a39.eval = ρ at *
    go_simp
  refine f39.step 166 (.bool false) rfl (Nat.lt_of_lt_of_eq (by decide) I0.size.symm) (wanted_none rfl) r_39 (fun a40 f40 => ?_)
  clear r_39
  clear f39
  refine f40.move 167 (.bool false) _ (Or.inl rfl) rfl (Nat.lt_of_lt_of_eq (by decide) I0.size.symm) (wanted_none rfl) (f40.at_ 166) (fun a41 f41 => ?_)
  clear f40
  refine f41.move 168 (.int .i64 (k : Int)) _ (Or.inl rfl) rfl (Nat.lt_of_lt_of_eq (by decide) I0.size.symm) ((wanted_at (t := 167) (c := false) (b := false) rfl rfl rfl (Nat.lt_of_lt_of_eq (by decide) (f41.size.trans I0.size).symm) (f41.at_ 167)).trans (by rfl)) ((f41.at_ 18).trans h18) (fun a42 f42 => ?_)
  clear f41
  refine f42.move 169 (.slice (some ⟨lb, lo, none⟩) n lc) _ (Or.inl rfl) rfl (Nat.lt_of_lt_of_eq (by decide) I0.size.symm) ((wanted_at (t := 167) (c := false) (b := false) rfl rfl rfl (Nat.lt_of_lt_of_eq (by decide) (f42.size.trans I0.size).symm) (f42.at_ 167)).trans (by rfl)) ((f42.at_ 0).trans I0.s0) (fun a43 f43 => ?_)
  clear f42
  refine f43.move 170 (.int .i64 (i : Int)) _ (Or.inl rfl) rfl (Nat.lt_of_lt_of_eq (by decide) I0.size.symm) ((wanted_at (t := 167) (c := false) (b := false) rfl rfl rfl (Nat.lt_of_lt_of_eq (by decide) (f43.size.trans I0.size).symm) (f43.at_ 167)).trans (by rfl)) ((f43.at_ 17).trans h17) (fun a44 f44 => ?_)
  clear f43
  have r_44 : (execOp a44.eval { dst := some 171, op := Op.indexAddr 42 (Operand.tmp 169) (Operand.tmp 170), type := 0, pos := "memory.go:114", after := #[{ on := 35, ground := Go.Ground.data }, { on := 36, ground := Go.Ground.data }, { on := 33, ground := Go.Ground.guard }], guard := some (33, false) }).run Try.prog w = .ok (.value (.pointer (some ⟨lb, lo + i, none⟩))) w := by
    have kc : ∀ v, a44.eval (.const v) = v := fun _ => rfl
    have e169 := (show a44.eval (.tmp 169) = .slice (some ⟨lb, lo, none⟩) n lc from (f44.at_ 169))
    have e170 := (show a44.eval (.tmp 170) = .int .i64 (i : Int) from (f44.at_ 170))
    clear f44 hQ h17 h18
    generalize a44.eval = ρ at *
    go_simp
  refine f44.step 171 (.pointer (some ⟨lb, lo + i, none⟩)) rfl (Nat.lt_of_lt_of_eq (by decide) I0.size.symm) ((wanted_at (t := 167) (c := false) (b := false) rfl rfl rfl (Nat.lt_of_lt_of_eq (by decide) (f44.size.trans I0.size).symm) (f44.at_ 167)).trans (by rfl)) r_44 (fun a45 f45 => ?_)
  clear r_44
  clear f44
  have r_45 : (execOp a45.eval { dst := some 172, op := Op.load 28 (Operand.tmp 171), type := 28, pos := "memory.go:114", after := #[{ on := 37, ground := Go.Ground.data }, { on := 33, ground := Go.Ground.guard }], guard := some (33, false) }).run Try.prog w = .ok (.value (.slice xa xn xc)) w := by
    have kc : ∀ v, a45.eval (.const v) = v := fun _ => rfl
    have e171 := (show a45.eval (.tmp 171) = .pointer (some ⟨lb, lo + i, none⟩) from (f45.at_ 171))
    clear f45 hQ h17 h18
    generalize a45.eval = ρ at *
    go_simp
  refine f45.step 172 (.slice xa xn xc) rfl (Nat.lt_of_lt_of_eq (by decide) I0.size.symm) ((wanted_at (t := 167) (c := false) (b := false) rfl rfl rfl (Nat.lt_of_lt_of_eq (by decide) (f45.size.trans I0.size).symm) (f45.at_ 167)).trans (by rfl)) r_45 (fun a46 f46 => ?_)
  clear r_45
  clear f45
  have r_46 : (execOp a46.eval { dst := some 173, op := Op.call { callee := Go.Callee.builtin Go.Builtin.len, args := #[Operand.tmp 172], argTypes := #[28] }, type := 3, pos := "memory.go:114", after := #[{ on := 38, ground := Go.Ground.data }, { on := 33, ground := Go.Ground.guard }], guard := some (33, false) }).run Try.prog w = .ok (.value (.int .i64 (xn : Int))) w := by
    have kc : ∀ v, a46.eval (.const v) = v := fun _ => rfl
    have e172 := (show a46.eval (.tmp 172) = .slice xa xn xc from (f46.at_ 172))
    clear f46 hQ h17 h18
    generalize a46.eval = ρ at *
    go_simp
  refine f46.step 173 (.int .i64 (xn : Int)) rfl (Nat.lt_of_lt_of_eq (by decide) I0.size.symm) ((wanted_at (t := 167) (c := false) (b := false) rfl rfl rfl (Nat.lt_of_lt_of_eq (by decide) (f46.size.trans I0.size).symm) (f46.at_ 167)).trans (by rfl)) r_46 (fun a47 f47 => ?_)
  clear r_46
  clear f46
  have r_47 : (execOp a47.eval { dst := some 174, op := Op.binOp Go.BinOp.geq 3 (Operand.tmp 168) (Operand.tmp 173) 3, type := 4, pos := "memory.go:114", after := #[{ on := 34, ground := Go.Ground.data }, { on := 39, ground := Go.Ground.data }, { on := 33, ground := Go.Ground.guard }], guard := some (33, false) }).run Try.prog w = .ok (.value (.bool true)) w := by
    have kc : ∀ v, a47.eval (.const v) = v := fun _ => rfl
    have e168 := (show a47.eval (.tmp 168) = .int .i64 (k : Int) from (f47.at_ 168))
    have e173 := (show a47.eval (.tmp 173) = .int .i64 (xn : Int) from (f47.at_ 173))
    clear f47 hQ h17 h18
    generalize a47.eval = ρ at *
    go_simp
  refine f47.step 174 (.bool true) rfl (Nat.lt_of_lt_of_eq (by decide) I0.size.symm) ((wanted_at (t := 167) (c := false) (b := false) rfl rfl rfl (Nat.lt_of_lt_of_eq (by decide) (f47.size.trans I0.size).symm) (f47.at_ 167)).trans (by rfl)) r_47 (fun a48 f48 => ?_)
  clear r_47
  clear f47
  refine f48.move 175 (.bool true) _ (Or.inl rfl) rfl (Nat.lt_of_lt_of_eq (by decide) I0.size.symm) ((wanted_at (t := 167) (c := false) (b := false) rfl rfl rfl (Nat.lt_of_lt_of_eq (by decide) (f48.size.trans I0.size).symm) (f48.at_ 167)).trans (by rfl)) (f48.at_ 174) (fun a49 f49 => ?_)
  clear f48
  refine f49.move 176 (.slice (some ⟨gm, 0, none⟩) n mc) _ (Or.inl rfl) rfl (Nat.lt_of_lt_of_eq (by decide) I0.size.symm) ((wanted_at (t := 175) (c := true) (b := true) rfl rfl rfl (Nat.lt_of_lt_of_eq (by decide) (f49.size.trans I0.size).symm) (f49.at_ 175)).trans (by rfl)) ((f49.at_ 9).trans I0.s9) (fun a50 f50 => ?_)
  clear f49
  refine f50.move 177 (.int .i64 (i : Int)) _ (Or.inl rfl) rfl (Nat.lt_of_lt_of_eq (by decide) I0.size.symm) ((wanted_at (t := 175) (c := true) (b := true) rfl rfl rfl (Nat.lt_of_lt_of_eq (by decide) (f50.size.trans I0.size).symm) (f50.at_ 175)).trans (by rfl)) ((f50.at_ 17).trans h17) (fun a51 f51 => ?_)
  clear f50
  have r_51 : (execOp a51.eval { dst := some 178, op := Op.indexAddr 42 (Operand.tmp 176) (Operand.tmp 177), type := 0, pos := "memory.go:114", after := #[{ on := 42, ground := Go.Ground.data }, { on := 43, ground := Go.Ground.data }, { on := 41, ground := Go.Ground.guard }], guard := some (41, true) }).run Try.prog w = .ok (.value (.pointer (some ⟨gm, i, none⟩))) w := by
    have kc : ∀ v, a51.eval (.const v) = v := fun _ => rfl
    have e176 := (show a51.eval (.tmp 176) = .slice (some ⟨gm, 0, none⟩) n mc from (f51.at_ 176))
    have e177 := (show a51.eval (.tmp 177) = .int .i64 (i : Int) from (f51.at_ 177))
    clear f51 hQ h17 h18
    generalize a51.eval = ρ at *
    go_simp
  refine f51.step 178 (.pointer (some ⟨gm, i, none⟩)) rfl (Nat.lt_of_lt_of_eq (by decide) I0.size.symm) ((wanted_at (t := 175) (c := true) (b := true) rfl rfl rfl (Nat.lt_of_lt_of_eq (by decide) (f51.size.trans I0.size).symm) (f51.at_ 175)).trans (by rfl)) r_51 (fun a52 f52 => ?_)
  clear r_51
  clear f51
  have r_52 : (execOp a52.eval { dst := some 179, op := Op.load 28 (Operand.tmp 178), type := 28, pos := "memory.go:114", after := #[{ on := 44, ground := Go.Ground.data }, { on := 41, ground := Go.Ground.guard }], guard := some (41, true) }).run Try.prog w = .ok (.value (.slice (some ⟨gy, 0, none⟩) yn yc)) w := by
    have kc : ∀ v, a52.eval (.const v) = v := fun _ => rfl
    have e178 := (show a52.eval (.tmp 178) = .pointer (some ⟨gm, i, none⟩) from (f52.at_ 178))
    clear f52 hQ h17 h18
    generalize a52.eval = ρ at *
    go_simp
  refine f52.step 179 (.slice (some ⟨gy, 0, none⟩) yn yc) rfl (Nat.lt_of_lt_of_eq (by decide) I0.size.symm) ((wanted_at (t := 175) (c := true) (b := true) rfl rfl rfl (Nat.lt_of_lt_of_eq (by decide) (f52.size.trans I0.size).symm) (f52.at_ 175)).trans (by rfl)) r_52 (fun a53 f53 => ?_)
  clear r_52
  clear f52
  refine f53.move 180 (.int .i64 (k : Int)) _ (Or.inl rfl) rfl (Nat.lt_of_lt_of_eq (by decide) I0.size.symm) ((wanted_at (t := 175) (c := true) (b := true) rfl rfl rfl (Nat.lt_of_lt_of_eq (by decide) (f53.size.trans I0.size).symm) (f53.at_ 175)).trans (by rfl)) ((f53.at_ 18).trans h18) (fun a54 f54 => ?_)
  clear f53
  have r_54 : (execOp a54.eval { dst := some 181, op := Op.indexAddr 28 (Operand.tmp 179) (Operand.tmp 180), type := 0, pos := "memory.go:114", after := #[{ on := 45, ground := Go.Ground.data }, { on := 46, ground := Go.Ground.data }, { on := 41, ground := Go.Ground.guard }], guard := some (41, true) }).run Try.prog w = .ok (.value (.pointer (some ⟨gy, k, none⟩))) w := by
    have kc : ∀ v, a54.eval (.const v) = v := fun _ => rfl
    have e179 := (show a54.eval (.tmp 179) = .slice (some ⟨gy, 0, none⟩) yn yc from (f54.at_ 179))
    have e180 := (show a54.eval (.tmp 180) = .int .i64 (k : Int) from (f54.at_ 180))
    clear f54 hQ h17 h18
    generalize a54.eval = ρ at *
    go_simp
  refine f54.step 181 (.pointer (some ⟨gy, k, none⟩)) rfl (Nat.lt_of_lt_of_eq (by decide) I0.size.symm) ((wanted_at (t := 175) (c := true) (b := true) rfl rfl rfl (Nat.lt_of_lt_of_eq (by decide) (f54.size.trans I0.size).symm) (f54.at_ 175)).trans (by rfl)) r_54 (fun a55 f55 => ?_)
  clear r_54
  clear f54
  have r_55 : (execOp a55.eval { dst := some 182, op := Op.load 27 (Operand.tmp 181), type := 27, pos := "memory.go:114", after := #[{ on := 47, ground := Go.Ground.data }, { on := 41, ground := Go.Ground.guard }], guard := some (41, true) }).run Try.prog w = .ok (.value (.int .u32 (300000 + (i : Int)))) w := by
    have kc : ∀ v, a55.eval (.const v) = v := fun _ => rfl
    have e181 := (show a55.eval (.tmp 181) = .pointer (some ⟨gy, k, none⟩) from (f55.at_ 181))
    clear f55 hQ h17 h18
    generalize a55.eval = ρ at *
    go_simp
  refine f55.step 182 (.int .u32 (300000 + (i : Int))) rfl (Nat.lt_of_lt_of_eq (by decide) I0.size.symm) ((wanted_at (t := 175) (c := true) (b := true) rfl rfl rfl (Nat.lt_of_lt_of_eq (by decide) (f55.size.trans I0.size).symm) (f55.at_ 175)).trans (by rfl)) r_55 (fun a56 f56 => ?_)
  clear r_55
  clear f55
  refine f56.move 183 (.int .i64 (i : Int)) _ (Or.inl rfl) rfl (Nat.lt_of_lt_of_eq (by decide) I0.size.symm) ((wanted_at (t := 175) (c := true) (b := true) rfl rfl rfl (Nat.lt_of_lt_of_eq (by decide) (f56.size.trans I0.size).symm) (f56.at_ 175)).trans (by rfl)) ((f56.at_ 17).trans h17) (fun a57 f57 => ?_)
  clear f56
  have r_57 : (execOp a57.eval { dst := some 184, op := Op.binOp Go.BinOp.add 3 (Operand.const (Go.Value.int Go.IntKind.i64 300000)) (Operand.tmp 183) 3, type := 3, pos := "memory.go:114", after := #[{ on := 49, ground := Go.Ground.data }, { on := 41, ground := Go.Ground.guard }], guard := some (41, true) }).run Try.prog w = .ok (.value (.int .i64 (300000 + (i : Int)))) w := by
    have kc : ∀ v, a57.eval (.const v) = v := fun _ => rfl
    have e183 := (show a57.eval (.tmp 183) = .int .i64 (i : Int) from (f57.at_ 183))
    clear f57 hQ h17 h18
    generalize a57.eval = ρ at *
    go_simp
  refine f57.step 184 (.int .i64 (300000 + (i : Int))) rfl (Nat.lt_of_lt_of_eq (by decide) I0.size.symm) ((wanted_at (t := 175) (c := true) (b := true) rfl rfl rfl (Nat.lt_of_lt_of_eq (by decide) (f57.size.trans I0.size).symm) (f57.at_ 175)).trans (by rfl)) r_57 (fun a58 f58 => ?_)
  clear r_57
  clear f57
  have r_58 : (execOp a58.eval { dst := some 185, op := Op.convert 3 27 (Operand.tmp 184), type := 27, pos := "memory.go:114", after := #[{ on := 50, ground := Go.Ground.data }, { on := 41, ground := Go.Ground.guard }], guard := some (41, true) }).run Try.prog w = .ok (.value (.int .u32 (300000 + (i : Int)))) w := by
    have kc : ∀ v, a58.eval (.const v) = v := fun _ => rfl
    have e184 := (show a58.eval (.tmp 184) = .int .i64 (300000 + (i : Int)) from (f58.at_ 184))
    clear f58 hQ h17 h18
    generalize a58.eval = ρ at *
    go_simp
  refine f58.step 185 (.int .u32 (300000 + (i : Int))) rfl (Nat.lt_of_lt_of_eq (by decide) I0.size.symm) ((wanted_at (t := 175) (c := true) (b := true) rfl rfl rfl (Nat.lt_of_lt_of_eq (by decide) (f58.size.trans I0.size).symm) (f58.at_ 175)).trans (by rfl)) r_58 (fun a59 f59 => ?_)
  clear r_58
  clear f58
  have r_59 : (execOp a59.eval { dst := some 186, op := Op.binOp Go.BinOp.neq 27 (Operand.tmp 182) (Operand.tmp 185) 27, type := 4, pos := "memory.go:114", after := #[{ on := 48, ground := Go.Ground.data }, { on := 51, ground := Go.Ground.data }, { on := 41, ground := Go.Ground.guard }], guard := some (41, true) }).run Try.prog w = .ok (.value (.bool false)) w := by
    have kc : ∀ v, a59.eval (.const v) = v := fun _ => rfl
    have e182 := (show a59.eval (.tmp 182) = .int .u32 (300000 + (i : Int)) from (f59.at_ 182))
    have e185 := (show a59.eval (.tmp 185) = .int .u32 (300000 + (i : Int)) from (f59.at_ 185))
    clear f59 hQ h17 h18
    generalize a59.eval = ρ at *
    go_simp
  refine f59.step 186 (.bool false) rfl (Nat.lt_of_lt_of_eq (by decide) I0.size.symm) ((wanted_at (t := 175) (c := true) (b := true) rfl rfl rfl (Nat.lt_of_lt_of_eq (by decide) (f59.size.trans I0.size).symm) (f59.at_ 175)).trans (by rfl)) r_59 (fun a60 f60 => ?_)
  clear r_59
  clear f59
  have r_60 : (execOp a60.eval { dst := some 187, op := Op.pick (Operand.tmp 175) (Operand.tmp 186) (Operand.const (Go.Value.bool false)), type := 4, pos := "memory.go:114", after := #[{ on := 41, ground := Go.Ground.data }, { on := 52, ground := Go.Ground.data }, { on := 33, ground := Go.Ground.guard }], guard := some (33, false) }).run Try.prog w = .ok (.value (.bool false)) w := by
    have kc : ∀ v, a60.eval (.const v) = v := fun _ => rfl
    have e175 := (show a60.eval (.tmp 175) = .bool true from (f60.at_ 175))
    have e186 := (show a60.eval (.tmp 186) = .bool false from (f60.at_ 186))
    clear f60 hQ h17 h18
    generalize a60.eval = ρ at *
    go_simp
  refine f60.step 187 (.bool false) rfl (Nat.lt_of_lt_of_eq (by decide) I0.size.symm) ((wanted_at (t := 167) (c := false) (b := false) rfl rfl rfl (Nat.lt_of_lt_of_eq (by decide) (f60.size.trans I0.size).symm) (f60.at_ 167)).trans (by rfl)) r_60 (fun a61 f61 => ?_)
  clear r_60
  clear f60
  have r_61 : (execOp a61.eval { dst := some 188, op := Op.pick (Operand.tmp 167) (Operand.const (Go.Value.bool true)) (Operand.tmp 187), type := 4, pos := "memory.go:114", after := #[{ on := 33, ground := Go.Ground.data }, { on := 53, ground := Go.Ground.data }], guard := none }).run Try.prog w = .ok (.value (.bool false)) w := by
    have kc : ∀ v, a61.eval (.const v) = v := fun _ => rfl
    have e167 := (show a61.eval (.tmp 167) = .bool false from (f61.at_ 167))
    have e187 := (show a61.eval (.tmp 187) = .bool false from (f61.at_ 187))
    clear f61 hQ h17 h18
    generalize a61.eval = ρ at *
    go_simp
  refine f61.step 188 (.bool false) rfl (Nat.lt_of_lt_of_eq (by decide) I0.size.symm) (wanted_none rfl) r_61 (fun a62 f62 => ?_)
  clear r_61
  clear f61
  refine wpList_nil ?_
  change Code.wp _ _ _ _ _
  refine wp_cond_false (show a62.eval (.tmp 188) = .bool false from (f62.at_ 188)) (wp_skip ?_)
  change Code.wp _ _ _ _ _
  refine wp_region_list ?_
  unfold r40
  refine f62.move 132 (.int .i64 (k : Int)) _ (Or.inl rfl) rfl (Nat.lt_of_lt_of_eq (by decide) I0.size.symm) (wanted_none rfl) ((f62.at_ 18).trans h18) (fun a63 f63 => ?_)
  clear f62
  have r_63 : (execOp a63.eval { dst := some 133, op := Op.binOp Go.BinOp.add 3 (Operand.tmp 132) (Operand.const (Go.Value.int Go.IntKind.i64 1)) 3, type := 3, pos := "memory.go:113", after := #[{ on := 0, ground := Go.Ground.data }], guard := none }).run Try.prog w = .ok (.value (.int .i64 ((k : Int) + 1))) w := by
    have kc : ∀ v, a63.eval (.const v) = v := fun _ => rfl
    have e132 := (show a63.eval (.tmp 132) = .int .i64 (k : Int) from (f63.at_ 132))
    clear f63 hQ h17 h18
    generalize a63.eval = ρ at *
    go_simp
  refine f63.step 133 (.int .i64 ((k : Int) + 1)) rfl (Nat.lt_of_lt_of_eq (by decide) I0.size.symm) (wanted_none rfl) r_63 (fun a64 f64 => ?_)
  clear r_63
  clear f63
  refine f64.move 18 (.int .i64 ((k : Int) + 1)) _ (Or.inr rfl) rfl (Nat.lt_of_lt_of_eq (by decide) I0.size.symm) (wanted_none rfl) (f64.at_ 133) (fun a65 f65 => ?_)
  clear f64
  refine wpList_nil ?_
  exact hQ a65 (I0.keep f65 (fun t ht => by rcases ht with rfl | rfl | rfl | rfl <;> rfl)) (show a65.eval (.tmp 17) = .int .i64 (i : Int) from ((f65.at_ 17).trans h17)) (show a65.eval (.tmp 18) = .int .i64 ((k : Int) + 1) from (f65.at_ 18))
set_option maxRecDepth 100000 in
theorem inE {lb lo n lc gm mc gy yn yc i k : Nat} {Q : Exit → Act → World → Prop} (a0 : Act) (w : World) (I0 : IA lb lo n lc gm mc a0) (h17 : a0.eval (.tmp 17) = .int .i64 (i : Int)) (h18 : a0.eval (.tmp 18) = .int .i64 (k : Int))
    (hi : i < n) (hky : yn ≤ k) (c2 : w.cell? ⟨gm, i, none⟩ = some (.slice (some ⟨gy, 0, none⟩) yn yc))
    (hQ : ∀ a, IA lb lo n lc gm mc a → a.eval (.tmp 17) = .int .i64 (i : Int) → Q (.exit 18) a w) : cIn.wp Try.prog Q a0 w := by
  have hii : (i : Int) < (n : Int) := by omega
  have hki : decide ((k : Int) < (yn : Int)) = false := decide_eq_false (by omega)
  have hki2 : ¬ (k : Int) < (yn : Int) := by omega
  clear hi hky
  have f0 := Fe.refl a0
  unfold cIn
  refine wp_seq (wp_seq ?_)
  refine wp_region_list ?_
  unfold r39
  refine f0.move 125 (.int .i64 (k : Int)) _ (Or.inl rfl) rfl (Nat.lt_of_lt_of_eq (by decide) I0.size.symm) (wanted_none rfl) ((f0.at_ 18).trans h18) (fun a1 f1 => ?_)
  clear f0
  refine f1.move 126 (.slice (some ⟨gm, 0, none⟩) n mc) _ (Or.inl rfl) rfl (Nat.lt_of_lt_of_eq (by decide) I0.size.symm) (wanted_none rfl) ((f1.at_ 9).trans I0.s9) (fun a2 f2 => ?_)
  clear f1
  refine f2.move 127 (.int .i64 (i : Int)) _ (Or.inl rfl) rfl (Nat.lt_of_lt_of_eq (by decide) I0.size.symm) (wanted_none rfl) ((f2.at_ 17).trans h17) (fun a3 f3 => ?_)
  clear f2
  have r_3 : (execOp a3.eval { dst := some 128, op := Op.indexAddr 42 (Operand.tmp 126) (Operand.tmp 127), type := 0, pos := "memory.go:113", after := #[{ on := 1, ground := Go.Ground.data }, { on := 2, ground := Go.Ground.data }], guard := none }).run Try.prog w = .ok (.value (.pointer (some ⟨gm, i, none⟩))) w := by
    have kc : ∀ v, a3.eval (.const v) = v := fun _ => rfl
    have e126 := (show a3.eval (.tmp 126) = .slice (some ⟨gm, 0, none⟩) n mc from (f3.at_ 126))
    have e127 := (show a3.eval (.tmp 127) = .int .i64 (i : Int) from (f3.at_ 127))
    clear f3 hQ h17 h18
    generalize a3.eval = ρ at *
    go_simp
  refine f3.step 128 (.pointer (some ⟨gm, i, none⟩)) rfl (Nat.lt_of_lt_of_eq (by decide) I0.size.symm) (wanted_none rfl) r_3 (fun a4 f4 => ?_)
  clear r_3
  clear f3
  have r_4 : (execOp a4.eval { dst := some 129, op := Op.load 28 (Operand.tmp 128), type := 28, pos := "memory.go:113", after := #[{ on := 3, ground := Go.Ground.data }], guard := none }).run Try.prog w = .ok (.value (.slice (some ⟨gy, 0, none⟩) yn yc)) w := by
    have kc : ∀ v, a4.eval (.const v) = v := fun _ => rfl
    have e128 := (show a4.eval (.tmp 128) = .pointer (some ⟨gm, i, none⟩) from (f4.at_ 128))
    clear f4 hQ h17 h18
    generalize a4.eval = ρ at *
    go_simp
  refine f4.step 129 (.slice (some ⟨gy, 0, none⟩) yn yc) rfl (Nat.lt_of_lt_of_eq (by decide) I0.size.symm) (wanted_none rfl) r_4 (fun a5 f5 => ?_)
  clear r_4
  clear f4
  have r_5 : (execOp a5.eval { dst := some 130, op := Op.call { callee := Go.Callee.builtin Go.Builtin.len, args := #[Operand.tmp 129], argTypes := #[28] }, type := 3, pos := "memory.go:113", after := #[{ on := 4, ground := Go.Ground.data }], guard := none }).run Try.prog w = .ok (.value (.int .i64 (yn : Int))) w := by
    have kc : ∀ v, a5.eval (.const v) = v := fun _ => rfl
    have e129 := (show a5.eval (.tmp 129) = .slice (some ⟨gy, 0, none⟩) yn yc from (f5.at_ 129))
    clear f5 hQ h17 h18
    generalize a5.eval = ρ at *
    go_simp
  refine f5.step 130 (.int .i64 (yn : Int)) rfl (Nat.lt_of_lt_of_eq (by decide) I0.size.symm) (wanted_none rfl) r_5 (fun a6 f6 => ?_)
  clear r_5
  clear f5
  have r_6 : (execOp a6.eval { dst := some 131, op := Op.binOp Go.BinOp.lss 3 (Operand.tmp 125) (Operand.tmp 130) 3, type := 4, pos := "memory.go:113", after := #[{ on := 0, ground := Go.Ground.data }, { on := 5, ground := Go.Ground.data }], guard := none }).run Try.prog w = .ok (.value (.bool false)) w := by
    have kc : ∀ v, a6.eval (.const v) = v := fun _ => rfl
    have e125 := (show a6.eval (.tmp 125) = .int .i64 (k : Int) from (f6.at_ 125))
    have e130 := (show a6.eval (.tmp 130) = .int .i64 (yn : Int) from (f6.at_ 130))
    clear f6 hQ h17 h18
    generalize a6.eval = ρ at *
    go_simp
  refine f6.step 131 (.bool false) rfl (Nat.lt_of_lt_of_eq (by decide) I0.size.symm) (wanted_none rfl) r_6 (fun a7 f7 => ?_)
  clear r_6
  clear f6
  refine wpList_nil ?_
  change Code.wp _ _ _ _ _
  refine wp_cond_false (show a7.eval (.tmp 131) = .bool false from (f7.at_ 131)) (wp_exit ?_)
  exact hQ a7 (I0.keep f7 (fun t ht => by rcases ht with rfl | rfl | rfl | rfl <;> rfl)) (show a7.eval (.tmp 17) = .int .i64 (i : Int) from ((f7.at_ 17).trans h17))

def kOf (a : Act) (t : Nat) : Nat := match a.eval (.tmp t) with | .int _ x => x.toNat | _ => 0
theorem kOf_eq {a : Act} {t k : Nat} (h : a.eval (.tmp t) = .int .i64 (k : Int)) : kOf a t = k := by unfold kOf; rw [h]; simp
/-- What the last loop finds in the list i: x, and the grown one y. -/
structure Fnd (w : World) (lb lo gm i : Nat) (x y : Rw) (gy : Nat) : Prop where
  yao : y.ao = some ⟨gy, 0, none⟩
  yn : y.n = x.n + 70
  le : x.n ≤ 1099511627000
  c1 : w.cell? ⟨lb, lo + i, none⟩ = some (.slice x.ao x.n x.c)
  c2 : w.cell? ⟨gm, i, none⟩ = some (.slice y.ao y.n y.c)
  c3 : ∀ k, k < x.n → ∃ gx, x.ao = some ⟨gx, 0, none⟩ ∧ w.cell? ⟨gx, k, none⟩ = some (.int .u32 (100000 + (i : Int))) ∧ w.cell? ⟨gy, k, none⟩ = some (.int .u32 (100000 + (i : Int)))
  c4 : ∀ k, x.n ≤ k → k < x.n + 70 → w.cell? ⟨gy, k, none⟩ = some (.int .u32 (300000 + (i : Int)))
theorem inLoop {lb lo n lc gm mc gy i : Nat} {x y : Rw} {Q : Exit → Act → World → Prop} (a0 : Act) (w : World) (I0 : IA lb lo n lc gm mc a0) (h17 : a0.eval (.tmp 17) = .int .i64 (i : Int)) (h18 : a0.eval (.tmp 18) = .int .i64 ((0 : Nat) : Int))
    (hi : i < n) (hn : n ≤ 1000000) (hf : Fnd w lb lo gm i x y gy) (hQ : ∀ a, IA lb lo n lc gm mc a → a.eval (.tmp 17) = .int .i64 (i : Int) → Q (.exit 18) a w) : (Code.loop cIn).wp Try.prog Q a0 w := by
  obtain ⟨xa, xn, xc⟩ := x
  obtain ⟨ya, yn, yc⟩ := y
  obtain rfl : ya = some ⟨gy, 0, none⟩ := hf.yao
  obtain rfl : yn = xn + 70 := hf.yn
  have hle : xn ≤ 1099511627000 := hf.le
  refine wp_loop (fun a w' => w' = w ∧ IA lb lo n lc gm mc a ∧ a.eval (.tmp 17) = .int .i64 (i : Int) ∧ ∃ k : Nat, k ≤ xn + 70 ∧ a.eval (.tmp 18) = .int .i64 (k : Int)) (fun a _ => xn + 70 - kOf a 18) ⟨rfl, I0, h17, 0, Nat.zero_le _, h18⟩ ?_
  rintro a w' ⟨rfl, I1, g17, k, hk, g18⟩
  by_cases hgo : k < xn + 70
  · have nx : ∀ a', IA lb lo n lc gm mc a' → a'.eval (.tmp 17) = .int .i64 (i : Int) → a'.eval (.tmp 18) = .int .i64 ((k : Int) + 1) → Exit.then (fun a' w'' => (w'' = w' ∧ IA lb lo n lc gm mc a' ∧ a'.eval (.tmp 17) = .int .i64 (i : Int) ∧ ∃ k : Nat, k ≤ xn + 70 ∧ a'.eval (.tmp 18) = .int .i64 (k : Int)) ∧ xn + 70 - kOf a' 18 < xn + 70 - kOf a 18) Q .normal a' w' := fun a' h1 h2 h3 => by
      have h4 : a'.eval (.tmp 18) = .int .i64 ((k + 1 : Nat) : Int) := h3
      refine ⟨⟨rfl, h1, h2, k + 1, hgo, h4⟩, ?_⟩
      rw [kOf_eq h4, kOf_eq g18]
      omega
    by_cases hx : k < xn
    · obtain ⟨gx, e, d1, d2⟩ := hf.c3 k hx
      obtain rfl : xa = some ⟨gx, 0, none⟩ := e
      exact inL a w' I1 g17 g18 hi hn hx hgo (by omega) hf.c1 hf.c2 d2 d1 nx
    · exact inM a w' I1 g17 g18 hi hn (Nat.le_of_not_lt hx) hgo (by omega) hf.c1 hf.c2 (hf.c4 k (Nat.le_of_not_lt hx) hgo) nx
  · exact inE a w' I1 g17 g18 hi (Nat.le_of_not_lt hgo) hf.c2 hQ
set_option maxRecDepth 100000 in
theorem outR {lb lo n lc gm mc gy i : Nat} {x y : Rw} {Q : Exit → Act → World → Prop} (a0 : Act) (w : World) (I0 : IA lb lo n lc gm mc a0) (h17 : a0.eval (.tmp 17) = .int .i64 (i : Int))
    (hin : i < n) (hn : n ≤ 1000000) (hf : Fnd w lb lo gm i x y gy) (hQ : ∀ a, IA lb lo n lc gm mc a → a.eval (.tmp 17) = .int .i64 ((i : Int) + 1) → Q .normal a w) : cOut.wp Try.prog Q a0 w := by
  have hii : (i : Int) < (n : Int) := by omega
  have w7 : IntKind.i64.wrap ((i : Int) + 1) = (i : Int) + 1 := by rw [IntKind.wrap_i64]; omega
  have f0 := Fe.refl a0
  unfold cOut
  refine wp_seq (wp_seq ?_)
  refine wp_region_list ?_
  unfold r36
  refine f0.move 119 (.int .i64 (i : Int)) _ (Or.inl rfl) rfl (Nat.lt_of_lt_of_eq (by decide) I0.size.symm) (wanted_none rfl) ((f0.at_ 17).trans h17) (fun a1 f1 => ?_)
  clear f0
  refine f1.move 120 (.slice (some ⟨lb, lo, none⟩) n lc) _ (Or.inl rfl) rfl (Nat.lt_of_lt_of_eq (by decide) I0.size.symm) (wanted_none rfl) ((f1.at_ 0).trans I0.s0) (fun a2 f2 => ?_)
  clear f1
  have r_2 : (execOp a2.eval { dst := some 121, op := Op.call { callee := Go.Callee.builtin Go.Builtin.len, args := #[Operand.tmp 120], argTypes := #[42] }, type := 3, pos := "memory.go:112", after := #[{ on := 1, ground := Go.Ground.data }], guard := none }).run Try.prog w = .ok (.value (.int .i64 (n : Int))) w := by
    have kc : ∀ v, a2.eval (.const v) = v := fun _ => rfl
    have e120 := (show a2.eval (.tmp 120) = .slice (some ⟨lb, lo, none⟩) n lc from (f2.at_ 120))
    clear f2 hQ h17 hf
    generalize a2.eval = ρ at *
    go_simp
  refine f2.step 121 (.int .i64 (n : Int)) rfl (Nat.lt_of_lt_of_eq (by decide) I0.size.symm) (wanted_none rfl) r_2 (fun a3 f3 => ?_)
  clear r_2
  clear f2
  have r_3 : (execOp a3.eval { dst := some 122, op := Op.binOp Go.BinOp.lss 3 (Operand.tmp 119) (Operand.tmp 121) 3, type := 4, pos := "memory.go:112", after := #[{ on := 0, ground := Go.Ground.data }, { on := 2, ground := Go.Ground.data }], guard := none }).run Try.prog w = .ok (.value (.bool true)) w := by
    have kc : ∀ v, a3.eval (.const v) = v := fun _ => rfl
    have e119 := (show a3.eval (.tmp 119) = .int .i64 (i : Int) from (f3.at_ 119))
    have e121 := (show a3.eval (.tmp 121) = .int .i64 (n : Int) from (f3.at_ 121))
    clear f3 hQ h17 hf
    generalize a3.eval = ρ at *
    go_simp
  refine f3.step 122 (.bool true) rfl (Nat.lt_of_lt_of_eq (by decide) I0.size.symm) (wanted_none rfl) r_3 (fun a4 f4 => ?_)
  clear r_3
  clear f3
  refine wpList_nil ?_
  change Code.wp _ _ _ _ _
  refine wp_cond_true (show a4.eval (.tmp 122) = .bool true from (f4.at_ 122)) (wp_skip ?_)
  change Code.wp _ _ _ _ _
  refine wp_seq (wp_block (wp_seq ?_))
  refine wp_region_list ?_
  unfold r38
  refine f4.move 18 (.int .i64 ((0 : Nat) : Int)) _ (Or.inr rfl) rfl (Nat.lt_of_lt_of_eq (by decide) I0.size.symm) (wanted_none rfl) rfl (fun a5 f5 => ?_)
  clear f4
  refine wpList_nil ?_
  change Code.wp _ _ _ _ _
  refine wp_block ?_
  have I1 : IA lb lo n lc gm mc a5 := I0.keep f5 (fun t ht => by rcases ht with rfl | rfl | rfl | rfl <;> rfl)
  refine inLoop a5 w I1 (show a5.eval (.tmp 17) = .int .i64 (i : Int) from ((f5.at_ 17).trans h17)) (show a5.eval (.tmp 18) = .int .i64 ((0 : Nat) : Int) from (f5.at_ 18)) hin hn hf (fun b I2 j17 => ?_)
  change Code.wp _ _ _ _ _
  have f0 := Fe.refl b
  refine wp_region_list ?_
  unfold r37
  refine f0.move 123 (.int .i64 (i : Int)) _ (Or.inl rfl) rfl (Nat.lt_of_lt_of_eq (by decide) I2.size.symm) (wanted_none rfl) ((f0.at_ 17).trans j17) (fun b_1 f1 => ?_)
  clear f0
  have r_1 : (execOp b_1.eval { dst := some 124, op := Op.binOp Go.BinOp.add 3 (Operand.tmp 123) (Operand.const (Go.Value.int Go.IntKind.i64 1)) 3, type := 3, pos := "memory.go:112", after := #[{ on := 0, ground := Go.Ground.data }], guard := none }).run Try.prog w = .ok (.value (.int .i64 ((i : Int) + 1))) w := by
    have kc : ∀ v, b_1.eval (.const v) = v := fun _ => rfl
    have e123 := (show b_1.eval (.tmp 123) = .int .i64 (i : Int) from (f1.at_ 123))
    clear f1 hQ h17 hf j17
    generalize b_1.eval = ρ at *
    go_simp
  refine f1.step 124 (.int .i64 ((i : Int) + 1)) rfl (Nat.lt_of_lt_of_eq (by decide) I2.size.symm) (wanted_none rfl) r_1 (fun b_2 f2 => ?_)
  clear r_1
  clear f1
  refine f2.move 17 (.int .i64 ((i : Int) + 1)) _ (Or.inr rfl) rfl (Nat.lt_of_lt_of_eq (by decide) I2.size.symm) (wanted_none rfl) (f2.at_ 124) (fun b_3 f3 => ?_)
  clear f2
  refine wpList_nil ?_
  exact hQ b_3 (I2.keep f3 (fun t ht => by rcases ht with rfl | rfl | rfl | rfl <;> rfl)) (show b_3.eval (.tmp 17) = .int .i64 ((i : Int) + 1) from (f3.at_ 17))
set_option maxRecDepth 100000 in
theorem outE {lb lo n lc gm mc i : Nat} {Q : Exit → Act → World → Prop} (a0 : Act) (w : World) (I0 : IA lb lo n lc gm mc a0) (h17 : a0.eval (.tmp 17) = .int .i64 (i : Int))
    (hin : n ≤ i) (hQ : ∀ a, IA lb lo n lc gm mc a → Q (.exit 16) a w) : cOut.wp Try.prog Q a0 w := by
  have hii : ¬ (i : Int) < (n : Int) := by omega
  have hid : decide ((i : Int) < (n : Int)) = false := decide_eq_false hii
  clear hin
  have f0 := Fe.refl a0
  unfold cOut
  refine wp_seq (wp_seq ?_)
  refine wp_region_list ?_
  unfold r36
  refine f0.move 119 (.int .i64 (i : Int)) _ (Or.inl rfl) rfl (Nat.lt_of_lt_of_eq (by decide) I0.size.symm) (wanted_none rfl) ((f0.at_ 17).trans h17) (fun a1 f1 => ?_)
  clear f0
  refine f1.move 120 (.slice (some ⟨lb, lo, none⟩) n lc) _ (Or.inl rfl) rfl (Nat.lt_of_lt_of_eq (by decide) I0.size.symm) (wanted_none rfl) ((f1.at_ 0).trans I0.s0) (fun a2 f2 => ?_)
  clear f1
  have r_2 : (execOp a2.eval { dst := some 121, op := Op.call { callee := Go.Callee.builtin Go.Builtin.len, args := #[Operand.tmp 120], argTypes := #[42] }, type := 3, pos := "memory.go:112", after := #[{ on := 1, ground := Go.Ground.data }], guard := none }).run Try.prog w = .ok (.value (.int .i64 (n : Int))) w := by
    have kc : ∀ v, a2.eval (.const v) = v := fun _ => rfl
    have e120 := (show a2.eval (.tmp 120) = .slice (some ⟨lb, lo, none⟩) n lc from (f2.at_ 120))
    clear f2 hQ h17
    generalize a2.eval = ρ at *
    go_simp
  refine f2.step 121 (.int .i64 (n : Int)) rfl (Nat.lt_of_lt_of_eq (by decide) I0.size.symm) (wanted_none rfl) r_2 (fun a3 f3 => ?_)
  clear r_2
  clear f2
  have r_3 : (execOp a3.eval { dst := some 122, op := Op.binOp Go.BinOp.lss 3 (Operand.tmp 119) (Operand.tmp 121) 3, type := 4, pos := "memory.go:112", after := #[{ on := 0, ground := Go.Ground.data }, { on := 2, ground := Go.Ground.data }], guard := none }).run Try.prog w = .ok (.value (.bool false)) w := by
    have kc : ∀ v, a3.eval (.const v) = v := fun _ => rfl
    have e119 := (show a3.eval (.tmp 119) = .int .i64 (i : Int) from (f3.at_ 119))
    have e121 := (show a3.eval (.tmp 121) = .int .i64 (n : Int) from (f3.at_ 121))
    clear f3 hQ h17
    generalize a3.eval = ρ at *
    go_simp
  refine f3.step 122 (.bool false) rfl (Nat.lt_of_lt_of_eq (by decide) I0.size.symm) (wanted_none rfl) r_3 (fun a4 f4 => ?_)
  clear r_3
  clear f3
  refine wpList_nil ?_
  change Code.wp _ _ _ _ _
  refine wp_cond_false (show a4.eval (.tmp 122) = .bool false from (f4.at_ 122)) (wp_exit ?_)
  exact hQ a4 (I0.keep f4 (fun t ht => by rcases ht with rfl | rfl | rfl | rfl <;> rfl))
theorem outLoop {lb lo n lc gm mc : Nat} {Q : Exit → Act → World → Prop} (a0 : Act) (w : World) (I0 : IA lb lo n lc gm mc a0) (h17 : a0.eval (.tmp 17) = .int .i64 ((0 : Nat) : Int))
    (hn : n ≤ 1000000) (hf : ∀ i, i < n → ∃ x y gy, Fnd w lb lo gm i x y gy) (hQ : ∀ a, IA lb lo n lc gm mc a → Q (.exit 16) a w) : (Code.loop cOut).wp Try.prog Q a0 w := by
  refine wp_loop (fun a w' => w' = w ∧ IA lb lo n lc gm mc a ∧ ∃ i : Nat, i ≤ n ∧ a.eval (.tmp 17) = .int .i64 (i : Int)) (fun a _ => n - kOf a 17) ⟨rfl, I0, 0, Nat.zero_le _, h17⟩ ?_
  rintro a w' ⟨rfl, I1, i, hi, g17⟩
  by_cases hgo : i < n
  · obtain ⟨x, y, gy, hF⟩ := hf i hgo
    refine outR a w' I1 g17 hgo hn hF (fun a' h1 h2 => ?_)
    have h4 : a'.eval (.tmp 17) = .int .i64 ((i + 1 : Nat) : Int) := h2
    refine ⟨⟨rfl, h1, i + 1, hgo, h4⟩, ?_⟩
    show n - kOf a' 17 < n - kOf a 17
    rw [kOf_eq h4, kOf_eq g17]
    omega
  · exact outE a w' I1 g17 (Nat.le_of_not_lt hgo) hQ
set_option maxRecDepth 100000 in
theorem endC {lb lo n lc gm mc : Nat} {X : Code} {Q : Exit → Act → World → Prop} (a0 : Act) (w : World) (I0 : IA lb lo n lc gm mc a0)
    (hQ : ∀ a : Act, a.defers = [] → a.eval (.tmp 4) = .bool true → Q .ret a w) : (cEnd X).wp Try.prog Q a0 w := by
  have f0 := Fe.refl a0
  unfold cEnd
  refine wp_seq (wp_seq ?_)
  refine wp_region_list ?_
  unfold r43
  refine f0.move 19 (.int .i64 0) _ (Or.inr rfl) rfl (Nat.lt_of_lt_of_eq (by decide) I0.size.symm) (wanted_none rfl) rfl (fun a1 f1 => ?_)
  clear f0
  refine wpList_nil ?_
  change Code.wp _ _ _ _ _
  refine wp_block (wp_loop_once ?_)
  refine wp_seq (wp_seq ?_)
  refine wp_region_list ?_
  unfold r44
  refine f1.move 189 (.int .i64 0) _ (Or.inl rfl) rfl (Nat.lt_of_lt_of_eq (by decide) I0.size.symm) (wanted_none rfl) (f1.at_ 19) (fun a2 f2 => ?_)
  clear f1
  refine f2.move 190 (.slice none 0 0) _ (Or.inl rfl) rfl (Nat.lt_of_lt_of_eq (by decide) I0.size.symm) (wanted_none rfl) ((f2.at_ 1).trans I0.s1) (fun a3 f3 => ?_)
  clear f2
  have r_3 : (execOp a3.eval { dst := some 191, op := Op.call { callee := Go.Callee.builtin Go.Builtin.len, args := #[Operand.tmp 190], argTypes := #[69] }, type := 3, pos := "memory.go:119", after := #[{ on := 1, ground := Go.Ground.data }], guard := none }).run Try.prog w = .ok (.value (.int .i64 0)) w := by
    have kc : ∀ v, a3.eval (.const v) = v := fun _ => rfl
    have e190 := (show a3.eval (.tmp 190) = .slice none 0 0 from (f3.at_ 190))
    clear f3 hQ
    generalize a3.eval = ρ at *
    go_simp
  refine f3.step 191 (.int .i64 0) rfl (Nat.lt_of_lt_of_eq (by decide) I0.size.symm) (wanted_none rfl) r_3 (fun a4 f4 => ?_)
  clear r_3
  clear f3
  have r_4 : (execOp a4.eval { dst := some 192, op := Op.binOp Go.BinOp.lss 3 (Operand.tmp 189) (Operand.tmp 191) 3, type := 4, pos := "memory.go:119", after := #[{ on := 0, ground := Go.Ground.data }, { on := 2, ground := Go.Ground.data }], guard := none }).run Try.prog w = .ok (.value (.bool false)) w := by
    have kc : ∀ v, a4.eval (.const v) = v := fun _ => rfl
    have e189 := (show a4.eval (.tmp 189) = .int .i64 0 from (f4.at_ 189))
    have e191 := (show a4.eval (.tmp 191) = .int .i64 0 from (f4.at_ 191))
    clear f4 hQ
    generalize a4.eval = ρ at *
    go_simp
  refine f4.step 192 (.bool false) rfl (Nat.lt_of_lt_of_eq (by decide) I0.size.symm) (wanted_none rfl) r_4 (fun a5 f5 => ?_)
  clear r_4
  clear f4
  refine wpList_nil ?_
  change Code.wp _ _ _ _ _
  refine wp_cond_false (show a5.eval (.tmp 192) = .bool false from (f5.at_ 192)) (wp_exit ?_)
  change Code.wp _ _ _ _ _
  refine wp_seq ?_
  refine wp_region_list ?_
  unfold r51
  refine f5.move 4 (.bool true) _ (Or.inr rfl) rfl (Nat.lt_of_lt_of_eq (by decide) I0.size.symm) (wanted_none rfl) rfl (fun a6 f6 => ?_)
  clear f5
  refine wpList_nil ?_
  change Code.wp _ _ _ _ _
  refine wp_ret ?_
  exact hQ a6 (f6.defers.trans I0.defers) (show a6.eval (.tmp 4) = .bool true from (f6.at_ 4))
end Go.Proofs.Ytadmkeadggcipaa
