/- free: FreeAfters: the region that lends a plan, and all behind it. -/
import Derived.Test.YtneopkhkkfckcaaZF
import Derived.Test.YtneopkhkkfckcaaYM
import Derived.Test.YtneopkhkkfckcaaYS
import Derived.Test.YtneopkhkkfckcaaIC
namespace Go.Proofs.Ytneopkhkkfckcaa
open Go.RowKit Go.Maps

def rFT0 : Array Oper := #[{ dst := some 3, op := Op.box 26 (Operand.tmp 1), type := 0, pos := "law.go:78", after := #[], guard := none },
  { dst := some 4, op := Op.assign (Operand.const (Value.bool false)), type := 4, pos := "law.go:78", after := #[], guard := none }]
def rFT1 : Array Oper := #[{ dst := some 10, op := Op.move (Operand.tmp 0), type := 22, pos := "law.go:79", after := #[], guard := none },
  { dst := some 11, op := Op.load 26 (Operand.tmp 3), type := 26, pos := "law.go:79", after := #[], guard := none },
  { dst := some 12, op := Op.call { callee := Callee.value (Operand.func 5), args := #[Operand.tmp 10, Operand.tmp 11], argTypes := #[22, 26] }, type := 22, pos := "law.go:79", after := #[{ on := 0, ground := Ground.data }, { on := 1, ground := Ground.data }], guard := none },
  { dst := some 5, op := Op.assign (Operand.tmp 12), type := 22, pos := "law.go:79", after := #[{ on := 2, ground := Ground.data }, { on := 2, ground := Ground.chain }, { on := 0, ground := Ground.phase }, { on := 1, ground := Ground.phase }, { on := 2, ground := Ground.phase }], guard := none }]
def rFT2 : Array Oper := #[{ dst := some 13, op := Op.move (Operand.tmp 0), type := 22, pos := "law.go:80", after := #[], guard := none },
  { dst := some 14, op := Op.call { callee := Callee.value (Operand.func 6), args := #[Operand.tmp 13], argTypes := #[22] }, type := 22, pos := "law.go:80", after := #[{ on := 0, ground := Ground.data }], guard := none },
  { dst := some 6, op := Op.assign (Operand.tmp 14), type := 22, pos := "law.go:80", after := #[{ on := 1, ground := Ground.data }, { on := 1, ground := Ground.chain }, { on := 0, ground := Ground.phase }, { on := 1, ground := Ground.phase }], guard := none }]
def rFT3 : Array Oper := #[{ dst := some 15, op := Op.fieldAddr 26 (Operand.tmp 3) 0, type := 0, pos := "law.go:81", after := #[], guard := none },
  { dst := some 16, op := Op.load 23 (Operand.tmp 15), type := 23, pos := "law.go:81", after := #[{ on := 0, ground := Ground.data }], guard := none },
  { dst := some 17, op := Op.call { callee := Callee.value (Operand.func 7), args := #[Operand.tmp 16], argTypes := #[23] }, type := 23, pos := "law.go:81", after := #[{ on := 1, ground := Ground.data }], guard := none },
  { dst := some 18, op := Op.fieldAddr 26 (Operand.tmp 3) 1, type := 0, pos := "law.go:81", after := #[], guard := none },
  { dst := some 19, op := Op.load 22 (Operand.tmp 18), type := 22, pos := "law.go:81", after := #[{ on := 3, ground := Ground.data }], guard := none },
  { dst := some 20, op := Op.call { callee := Callee.value (Operand.func 6), args := #[Operand.tmp 19], argTypes := #[22] }, type := 22, pos := "law.go:81", after := #[{ on := 4, ground := Ground.data }, { on := 2, ground := Ground.chain }], guard := none },
  { dst := some 21, op := Op.fieldAddr 26 (Operand.tmp 3) 2, type := 0, pos := "law.go:81", after := #[], guard := none },
  { dst := some 22, op := Op.load 3 (Operand.tmp 21), type := 3, pos := "law.go:81", after := #[{ on := 6, ground := Ground.data }], guard := none },
  { dst := some 23, op := Op.fieldAddr 26 (Operand.tmp 3) 3, type := 0, pos := "law.go:81", after := #[], guard := none },
  { dst := some 24, op := Op.load 24 (Operand.tmp 23), type := 24, pos := "law.go:81", after := #[{ on := 8, ground := Ground.data }], guard := none },
  { dst := some 25, op := Op.build 26 #[(0, Operand.tmp 17), (1, Operand.tmp 20), (2, Operand.tmp 22), (3, Operand.tmp 24)], type := 26, pos := "law.go:81", after := #[{ on := 2, ground := Ground.data }, { on := 5, ground := Ground.data }, { on := 7, ground := Ground.data }, { on := 9, ground := Ground.data }], guard := none },
  { dst := some 7, op := Op.alloc 26, type := 0, pos := "law.go:81", after := #[], guard := none },
  { dst := none, op := Op.store 26 (Operand.tmp 7) (Operand.tmp 25), type := 0, pos := "law.go:81", after := #[{ on := 11, ground := Ground.data }, { on := 10, ground := Ground.data }, { on := 5, ground := Ground.chain }, { on := 0, ground := Ground.phase }, { on := 1, ground := Ground.phase }, { on := 2, ground := Ground.phase }, { on := 3, ground := Ground.phase }, { on := 4, ground := Ground.phase }, { on := 5, ground := Ground.phase }, { on := 6, ground := Ground.phase }, { on := 7, ground := Ground.phase }, { on := 8, ground := Ground.phase }, { on := 9, ground := Ground.phase }, { on := 10, ground := Ground.phase }, { on := 11, ground := Ground.phase }], guard := none }]
def rFT4 : Array Oper := #[{ dst := some 26, op := Op.move (Operand.tmp 6), type := 22, pos := "law.go:82", after := #[], guard := none },
  { dst := some 27, op := Op.load 26 (Operand.tmp 7), type := 26, pos := "law.go:82", after := #[], guard := none },
  { dst := some 28, op := Op.call { callee := Callee.value (Operand.func 8), args := #[Operand.tmp 26, Operand.tmp 27], argTypes := #[22, 26] }, type := 22, pos := "law.go:82", after := #[{ on := 0, ground := Ground.data }, { on := 1, ground := Ground.data }], guard := none },
  { dst := some 8, op := Op.assign (Operand.tmp 28), type := 22, pos := "law.go:82", after := #[{ on := 2, ground := Ground.data }, { on := 2, ground := Ground.chain }, { on := 0, ground := Ground.phase }, { on := 1, ground := Ground.phase }, { on := 2, ground := Ground.phase }], guard := none }]
def rFT5 : Array Oper := #[{ dst := some 29, op := Op.move (Operand.tmp 6), type := 22, pos := "law.go:83", after := #[], guard := none },
  { dst := some 30, op := Op.load 26 (Operand.tmp 7), type := 26, pos := "law.go:83", after := #[], guard := none },
  { dst := some 31, op := Op.call { callee := Callee.value (Operand.func 8), args := #[Operand.tmp 29, Operand.tmp 30], argTypes := #[22, 26] }, type := 22, pos := "law.go:83", after := #[{ on := 0, ground := Ground.data }, { on := 1, ground := Ground.data }], guard := none },
  { dst := some 9, op := Op.assign (Operand.tmp 31), type := 22, pos := "law.go:83", after := #[{ on := 2, ground := Ground.data }, { on := 2, ground := Ground.chain }, { on := 0, ground := Ground.phase }, { on := 1, ground := Ground.phase }, { on := 2, ground := Ground.phase }], guard := none }]
def rFT6 : Array Oper := #[{ dst := some 32, op := Op.move (Operand.tmp 8), type := 22, pos := "law.go:84", after := #[], guard := none },
  { dst := some 33, op := Op.move (Operand.tmp 5), type := 22, pos := "law.go:84", after := #[], guard := none },
  { dst := some 34, op := Op.call { callee := Callee.value (Operand.func 9), args := #[Operand.tmp 32, Operand.tmp 33], argTypes := #[22, 22] }, type := 4, pos := "law.go:84", after := #[{ on := 0, ground := Ground.data }, { on := 1, ground := Ground.data }], guard := none },
  { dst := some 35, op := Op.unOp UnOp.not 4 (Operand.tmp 34), type := 4, pos := "law.go:84", after := #[{ on := 2, ground := Ground.data }], guard := none },
  { dst := some 36, op := Op.move (Operand.tmp 35), type := 4, pos := "law.go:84", after := #[{ on := 3, ground := Ground.data }, { on := 2, ground := Ground.chain }], guard := none },
  { dst := some 37, op := Op.move (Operand.tmp 9), type := 22, pos := "law.go:84", after := #[{ on := 4, ground := Ground.guard }], guard := some (4, false) },
  { dst := some 38, op := Op.move (Operand.tmp 5), type := 22, pos := "law.go:84", after := #[{ on := 4, ground := Ground.guard }], guard := some (4, false) },
  { dst := some 39, op := Op.call { callee := Callee.value (Operand.func 9), args := #[Operand.tmp 37, Operand.tmp 38], argTypes := #[22, 22] }, type := 4, pos := "law.go:84", after := #[{ on := 5, ground := Ground.data }, { on := 6, ground := Ground.data }, { on := 4, ground := Ground.chain }, { on := 4, ground := Ground.guard }], guard := some (4, false) },
  { dst := some 40, op := Op.unOp UnOp.not 4 (Operand.tmp 39), type := 4, pos := "law.go:84", after := #[{ on := 7, ground := Ground.data }, { on := 4, ground := Ground.guard }], guard := some (4, false) },
  { dst := some 41, op := Op.pick (Operand.tmp 36) (Operand.const (Value.bool true)) (Operand.tmp 40), type := 4, pos := "law.go:84", after := #[{ on := 4, ground := Ground.data }, { on := 8, ground := Ground.data }], guard := none },
  { dst := some 42, op := Op.move (Operand.tmp 41), type := 4, pos := "law.go:84", after := #[{ on := 9, ground := Ground.data }, { on := 7, ground := Ground.chain }], guard := none },
  { dst := some 43, op := Op.move (Operand.tmp 8), type := 22, pos := "law.go:84", after := #[{ on := 10, ground := Ground.guard }], guard := some (10, false) },
  { dst := some 44, op := Op.call { callee := Callee.value (Operand.func 11), args := #[Operand.tmp 43], argTypes := #[22] }, type := 32, pos := "law.go:84", after := #[{ on := 11, ground := Ground.data }, { on := 10, ground := Ground.chain }, { on := 10, ground := Ground.guard }], guard := some (10, false) },
  { dst := some 45, op := Op.move (Operand.tmp 9), type := 22, pos := "law.go:84", after := #[{ on := 10, ground := Ground.guard }], guard := some (10, false) },
  { dst := some 46, op := Op.call { callee := Callee.value (Operand.func 11), args := #[Operand.tmp 45], argTypes := #[22] }, type := 32, pos := "law.go:84", after := #[{ on := 13, ground := Ground.data }, { on := 12, ground := Ground.chain }, { on := 10, ground := Ground.guard }], guard := some (10, false) },
  { dst := some 47, op := Op.call { callee := Callee.builtin Builtin.append, args := #[Operand.tmp 44, Operand.tmp 46], argTypes := #[32, 32] }, type := 32, pos := "law.go:84", after := #[{ on := 12, ground := Ground.data }, { on := 14, ground := Ground.data }, { on := 14, ground := Ground.chain }, { on := 10, ground := Ground.guard }], guard := some (10, false) },
  { dst := some 48, op := Op.move (Operand.tmp 8), type := 22, pos := "law.go:84", after := #[{ on := 10, ground := Ground.guard }], guard := some (10, false) },
  { dst := some 49, op := Op.move (Operand.tmp 9), type := 22, pos := "law.go:84", after := #[{ on := 10, ground := Ground.guard }], guard := some (10, false) },
  { dst := some 50, op := Op.buildSlice 34 2 #[(0, Operand.tmp 48), (1, Operand.tmp 49)], type := 34, pos := "law.go:84", after := #[{ on := 16, ground := Ground.data }, { on := 17, ground := Ground.data }, { on := 10, ground := Ground.guard }], guard := some (10, false) },
  { dst := some 51, op := Op.call { callee := Callee.value (Operand.func 10), args := #[Operand.tmp 47, Operand.tmp 50], argTypes := #[32, 34] }, type := 4, pos := "law.go:84", after := #[{ on := 15, ground := Ground.data }, { on := 18, ground := Ground.data }, { on := 15, ground := Ground.chain }, { on := 10, ground := Ground.guard }], guard := some (10, false) },
  { dst := some 52, op := Op.unOp UnOp.not 4 (Operand.tmp 51), type := 4, pos := "law.go:84", after := #[{ on := 19, ground := Ground.data }, { on := 10, ground := Ground.guard }], guard := some (10, false) },
  { dst := some 53, op := Op.pick (Operand.tmp 42) (Operand.const (Value.bool true)) (Operand.tmp 52), type := 4, pos := "law.go:84", after := #[{ on := 10, ground := Ground.data }, { on := 20, ground := Ground.data }], guard := none }]
def rFT7 : Array Oper := #[{ dst := some 4, op := Op.assign (Operand.const (Value.bool false)), type := 4, pos := "law.go:85", after := #[], guard := none }]
def rFT8 : Array Oper := #[{ dst := some 54, op := Op.move (Operand.tmp 6), type := 22, pos := "law.go:87", after := #[], guard := none },
  { dst := some 55, op := Op.move (Operand.tmp 0), type := 22, pos := "law.go:87", after := #[], guard := none },
  { dst := some 56, op := Op.call { callee := Callee.value (Operand.func 12), args := #[Operand.tmp 54, Operand.tmp 55], argTypes := #[22, 22] }, type := 4, pos := "law.go:87", after := #[{ on := 0, ground := Ground.data }, { on := 1, ground := Ground.data }], guard := none },
  { dst := some 57, op := Op.move (Operand.tmp 56), type := 4, pos := "law.go:87", after := #[{ on := 2, ground := Ground.data }, { on := 2, ground := Ground.chain }], guard := none },
  { dst := some 58, op := Op.fieldAddr 26 (Operand.tmp 7) 1, type := 0, pos := "law.go:87", after := #[{ on := 3, ground := Ground.guard }], guard := some (3, true) },
  { dst := some 59, op := Op.load 22 (Operand.tmp 58), type := 22, pos := "law.go:87", after := #[{ on := 4, ground := Ground.data }, { on := 3, ground := Ground.guard }], guard := some (3, true) },
  { dst := some 60, op := Op.fieldAddr 26 (Operand.tmp 3) 1, type := 0, pos := "law.go:87", after := #[{ on := 3, ground := Ground.guard }], guard := some (3, true) },
  { dst := some 61, op := Op.load 22 (Operand.tmp 60), type := 22, pos := "law.go:87", after := #[{ on := 6, ground := Ground.data }, { on := 3, ground := Ground.guard }], guard := some (3, true) },
  { dst := some 62, op := Op.call { callee := Callee.value (Operand.func 12), args := #[Operand.tmp 59, Operand.tmp 61], argTypes := #[22, 22] }, type := 4, pos := "law.go:87", after := #[{ on := 5, ground := Ground.data }, { on := 7, ground := Ground.data }, { on := 3, ground := Ground.chain }, { on := 3, ground := Ground.guard }], guard := some (3, true) },
  { dst := some 63, op := Op.pick (Operand.tmp 57) (Operand.tmp 62) (Operand.const (Value.bool false)), type := 4, pos := "law.go:87", after := #[{ on := 3, ground := Ground.data }, { on := 8, ground := Ground.data }], guard := none },
  { dst := some 64, op := Op.move (Operand.tmp 63), type := 4, pos := "law.go:87", after := #[{ on := 9, ground := Ground.data }, { on := 8, ground := Ground.chain }], guard := none },
  { dst := some 65, op := Op.fieldAddr 26 (Operand.tmp 7) 0, type := 0, pos := "law.go:87", after := #[{ on := 10, ground := Ground.guard }], guard := some (10, true) },
  { dst := some 66, op := Op.load 23 (Operand.tmp 65), type := 23, pos := "law.go:87", after := #[{ on := 11, ground := Ground.data }, { on := 10, ground := Ground.guard }], guard := some (10, true) },
  { dst := some 67, op := Op.fieldAddr 26 (Operand.tmp 3) 0, type := 0, pos := "law.go:87", after := #[{ on := 10, ground := Ground.guard }], guard := some (10, true) },
  { dst := some 68, op := Op.load 23 (Operand.tmp 67), type := 23, pos := "law.go:87", after := #[{ on := 13, ground := Ground.data }, { on := 10, ground := Ground.guard }], guard := some (10, true) },
  { dst := some 69, op := Op.call { callee := Callee.value (Operand.func 13), args := #[Operand.tmp 66, Operand.tmp 68], argTypes := #[23, 23] }, type := 4, pos := "law.go:87", after := #[{ on := 12, ground := Ground.data }, { on := 14, ground := Ground.data }, { on := 10, ground := Ground.chain }, { on := 10, ground := Ground.guard }], guard := some (10, true) },
  { dst := some 70, op := Op.pick (Operand.tmp 64) (Operand.tmp 69) (Operand.const (Value.bool false)), type := 4, pos := "law.go:87", after := #[{ on := 10, ground := Ground.data }, { on := 15, ground := Ground.data }], guard := none },
  { dst := some 71, op := Op.move (Operand.tmp 70), type := 4, pos := "law.go:87", after := #[{ on := 16, ground := Ground.data }, { on := 15, ground := Ground.chain }], guard := none },
  { dst := some 72, op := Op.move (Operand.tmp 6), type := 22, pos := "law.go:87", after := #[{ on := 17, ground := Ground.guard }], guard := some (17, true) },
  { dst := some 73, op := Op.load 26 (Operand.tmp 7), type := 26, pos := "law.go:87", after := #[{ on := 17, ground := Ground.guard }], guard := some (17, true) },
  { dst := some 74, op := Op.call { callee := Callee.value (Operand.func 8), args := #[Operand.tmp 72, Operand.tmp 73], argTypes := #[22, 26] }, type := 22, pos := "law.go:87", after := #[{ on := 18, ground := Ground.data }, { on := 19, ground := Ground.data }, { on := 17, ground := Ground.chain }, { on := 17, ground := Ground.guard }], guard := some (17, true) },
  { dst := some 75, op := Op.move (Operand.tmp 5), type := 22, pos := "law.go:87", after := #[{ on := 17, ground := Ground.guard }], guard := some (17, true) },
  { dst := some 76, op := Op.call { callee := Callee.value (Operand.func 9), args := #[Operand.tmp 74, Operand.tmp 75], argTypes := #[22, 22] }, type := 4, pos := "law.go:87", after := #[{ on := 20, ground := Ground.data }, { on := 21, ground := Ground.data }, { on := 20, ground := Ground.chain }, { on := 17, ground := Ground.guard }], guard := some (17, true) },
  { dst := some 77, op := Op.pick (Operand.tmp 71) (Operand.tmp 76) (Operand.const (Value.bool false)), type := 4, pos := "law.go:87", after := #[{ on := 17, ground := Ground.data }, { on := 22, ground := Ground.data }], guard := none },
  { dst := some 78, op := Op.move (Operand.tmp 77), type := 4, pos := "law.go:87", after := #[{ on := 23, ground := Ground.data }, { on := 22, ground := Ground.chain }], guard := none },
  { dst := some 79, op := Op.call { callee := Callee.value (Operand.func 14), args := #[], argTypes := #[] }, type := 4, pos := "law.go:87", after := #[{ on := 24, ground := Ground.chain }, { on := 24, ground := Ground.guard }], guard := some (24, true) },
  { dst := some 80, op := Op.pick (Operand.tmp 78) (Operand.tmp 79) (Operand.const (Value.bool false)), type := 4, pos := "law.go:87", after := #[{ on := 24, ground := Ground.data }, { on := 25, ground := Ground.data }], guard := none },
  { dst := some 4, op := Op.assign (Operand.tmp 80), type := 4, pos := "law.go:87", after := #[{ on := 26, ground := Ground.data }, { on := 25, ground := Ground.chain }, { on := 0, ground := Ground.phase }, { on := 1, ground := Ground.phase }, { on := 2, ground := Ground.phase }, { on := 3, ground := Ground.phase }, { on := 4, ground := Ground.phase }, { on := 5, ground := Ground.phase }, { on := 6, ground := Ground.phase }, { on := 7, ground := Ground.phase }, { on := 8, ground := Ground.phase }, { on := 9, ground := Ground.phase }, { on := 10, ground := Ground.phase }, { on := 11, ground := Ground.phase }, { on := 12, ground := Ground.phase }, { on := 13, ground := Ground.phase }, { on := 14, ground := Ground.phase }, { on := 15, ground := Ground.phase }, { on := 16, ground := Ground.phase }, { on := 17, ground := Ground.phase }, { on := 18, ground := Ground.phase }, { on := 19, ground := Ground.phase }, { on := 20, ground := Ground.phase }, { on := 21, ground := Ground.phase }, { on := 22, ground := Ground.phase }, { on := 23, ground := Ground.phase }, { on := 24, ground := Ground.phase }, { on := 25, ground := Ground.phase }, { on := 26, ground := Ground.phase }], guard := none }]
def cFTB : Code := (Code.seq (Code.region 4 rFT4 false) (Code.seq (Code.region 5 rFT5 false) (Code.seq (Code.seq (Code.region 6 rFT6 false) (Code.cond (Operand.tmp 53) (Code.seq (Code.region 7 rFT7 false) Code.ret) Code.skip)) (Code.seq (Code.region 8 rFT8 false) Code.ret))))
def cFT : Code := (Code.seq (Code.region 0 rFT0 false) (Code.seq (Code.region 1 rFT1 false) (Code.seq (Code.region 2 rFT2 false) (Code.seq (Code.region 3 rFT3 true) cFTB))))

theorem LentC.frP {W W' : World} {B g cc n bx : Nat} {L M : List Bt} {cs : Array Value} (h : LentC W B g cc n L M) (f : Fr (fun k => k = bx) W W') (hb : W.heap[bx]? = some (.cells cs 26 (0, 0))) : LentC W' B g cc n L M := by
  refine ⟨own_frameB h.row f (fun k hk e => own_neT (own_base h.row (Nat.zero_le _)) hb (by decide) k hk e), h.key, fun x hx => (h.lent x hx).fr f (fun e => ?_)⟩
  exact own_neT (own_base (h.lent x hx).ns (Nat.zero_le _)) hb (by decide) x.nb rfl e
theorem LentC.low {W : World} {B B2 g cc n : Nat} {L M : List Bt} (h : LentC W B g cc n L M) (hb : B2 ≤ B) : LentC W B2 g cc n L M :=
  ⟨own_base h.row hb, h.key, fun x hx => ⟨(h.lent x hx).no, (h.lent x hx).na, own_base (h.lent x hx).ns hb⟩⟩
set_option maxRecDepth 100000 in
set_option maxHeartbeats 1000000 in
theorem ft3 {tb tn tc ln llc : Nat} {ta la : Option Addr} {op pgs : Int} {T : List Nat} {ML : List Bt} {Q : Exit → Act → World → Prop} (hQp : ∀ c (a : Act) d v w, Q (.panic c) (a.put d v) w → Q (.panic c) a w) (a0 : Act) (wr : World) (hsz : a0.tmps.size = 81) (h3 : a0.eval (.tmp 3) = .pointer (some ⟨tb, 0, none⟩))
    (c0 : wr.cell? ⟨tb, 0, none⟩ = some (.slice ta tn tc)) (c1 : wr.cell? ⟨tb, 1, none⟩ = some (.slice la ln llc)) (c2 : wr.cell? ⟨tb, 2, none⟩ = some (.int .i64 op)) (c3 : wr.cell? ⟨tb, 3, none⟩ = some (.int .u32 pgs))
    (kn : ∀ Z, Same wr Z → Calls Try.prog 7 #[.slice ta tn tc] Z fun e w' => ∃ g c, e = .returned (.slice (some ⟨g, 0, none⟩) tn c) ∧ LentN w' wr.heap.size g c T ∧ Same Z w')
    (kl : ∀ Z, Same wr Z → Calls Try.prog 6 #[.slice la ln llc] Z fun e w' => ∃ g c M, e = .returned (.slice (some ⟨g, 0, none⟩) ln c) ∧ LentC w' wr.heap.size g c ln ML M ∧ Same Z w')
    (hQ : ∀ a W bx gt ct gl cl ML2 env, Fe a0 env a → (∀ t, t = 0 ∨ t = 3 ∨ t = 5 ∨ t = 6 → look env t (a0.eval (.tmp t)) = a0.eval (.tmp t)) → a.eval (.tmp 7) = .pointer (some ⟨bx, 0, none⟩) → W.heap[bx]? = some (.cells #[.slice (some ⟨gt, 0, none⟩) tn ct, .slice (some ⟨gl, 0, none⟩) ln cl, .int .i64 op, .int .u32 pgs] 26 (0, 0)) → LentN W wr.heap.size gt ct T → LentC W wr.heap.size gl cl ln ML ML2 → Same wr W → Q .normal a W) : (Code.region 3 rFT3 true).wp Try.prog Q a0 wr := by
  have dd : Same wr wr.drew := (Fr.refl (fun _ => False) wr).drew
  have fa0_0 := Fe.refl a0
  refine wp_region_held_drew (ops := rFT3) (S := fun Z => Same wr Z) (by kernel_rfl) (dd) (fun hS0 => ?_)
  have r_a0_1 : ∀ Z, (fun Z => Same wr Z) Z → (execOp a0.eval { dst := some 15, op := Op.fieldAddr 26 (Operand.tmp 3) 0, type := 0, pos := "law.go:81", after := #[], guard := none }).run Try.prog Z = .ok (.value (.pointer (some ⟨tb, 0, none⟩))) Z := fun Z hZ => by
    have e3 := (show a0.eval (.tmp 3) = .pointer (some ⟨tb, 0, none⟩) from ((fa0_0.at_ 3).trans h3))
    clear fa0_0 hQ h3
    generalize a0.eval = ρ at *
    go_simp
  refine fa0_0.take 0 15 (.pointer (some ⟨tb, 0, none⟩)) rfl (by kernel_rfl) (by kernel_rfl) (by kernel_rfl) (fun _ _ _ h => hQp _ _ _ _ _ h) rfl (lb_ hsz) (wanted_none rfl) r_a0_1 hS0 (fun a0_1 fa0_1 => ?_)
  clear r_a0_1
  clear fa0_0
  have r_a0_2 : ∀ Z, (fun Z => Same wr Z) Z → (execOp a0_1.eval { dst := some 16, op := Op.load 23 (Operand.tmp 15), type := 23, pos := "law.go:81", after := #[{ on := 0, ground := Ground.data }], guard := none }).run Try.prog Z = .ok (.value (.slice ta tn tc)) Z := fun Z hZ => by
    have z0 := hZ.keep c0
    have z1 := hZ.keep c1
    have z2 := hZ.keep c2
    have z3 := hZ.keep c3
    have e15 := (show a0_1.eval (.tmp 15) = .pointer (some ⟨tb, 0, none⟩) from (fa0_1.at_ 15))
    clear fa0_1 hQ h3
    generalize a0_1.eval = ρ at *
    go_simp
  refine fa0_1.take 1 16 (.slice ta tn tc) rfl (by kernel_rfl) (by kernel_rfl) (by kernel_rfl) (fun _ _ _ h => hQp _ _ _ _ _ h) rfl (lb_ hsz) (wanted_none rfl) r_a0_2 hS0 (fun a0_2 fa0_2 => ?_)
  clear r_a0_2
  clear fa0_1
  have r_a0_3 : ∀ Z, (fun Z => Same wr Z) Z → (execOp a0_2.eval { dst := some 18, op := Op.fieldAddr 26 (Operand.tmp 3) 1, type := 0, pos := "law.go:81", after := #[], guard := none }).run Try.prog Z = .ok (.value (.pointer (some ⟨tb, 1, none⟩))) Z := fun Z hZ => by
    have e3 := (show a0_2.eval (.tmp 3) = .pointer (some ⟨tb, 0, none⟩) from ((fa0_2.at_ 3).trans h3))
    clear fa0_2 hQ h3
    generalize a0_2.eval = ρ at *
    go_simp
  refine fa0_2.take 3 18 (.pointer (some ⟨tb, 1, none⟩)) rfl (by kernel_rfl) (by kernel_rfl) (by kernel_rfl) (fun _ _ _ h => hQp _ _ _ _ _ h) rfl (lb_ hsz) (wanted_none rfl) r_a0_3 hS0 (fun a0_3 fa0_3 => ?_)
  clear r_a0_3
  clear fa0_2
  have r_a0_4 : ∀ Z, (fun Z => Same wr Z) Z → (execOp a0_3.eval { dst := some 19, op := Op.load 22 (Operand.tmp 18), type := 22, pos := "law.go:81", after := #[{ on := 3, ground := Ground.data }], guard := none }).run Try.prog Z = .ok (.value (.slice la ln llc)) Z := fun Z hZ => by
    have z0 := hZ.keep c0
    have z1 := hZ.keep c1
    have z2 := hZ.keep c2
    have z3 := hZ.keep c3
    have e18 := (show a0_3.eval (.tmp 18) = .pointer (some ⟨tb, 1, none⟩) from (fa0_3.at_ 18))
    clear fa0_3 hQ h3
    generalize a0_3.eval = ρ at *
    go_simp
  refine fa0_3.take 4 19 (.slice la ln llc) rfl (by kernel_rfl) (by kernel_rfl) (by kernel_rfl) (fun _ _ _ h => hQp _ _ _ _ _ h) rfl (lb_ hsz) (wanted_none rfl) r_a0_4 hS0 (fun a0_4 fa0_4 => ?_)
  clear r_a0_4
  clear fa0_3
  have r_a0_5 : ∀ Z, (fun Z => Same wr Z) Z → (execOp a0_4.eval { dst := some 21, op := Op.fieldAddr 26 (Operand.tmp 3) 2, type := 0, pos := "law.go:81", after := #[], guard := none }).run Try.prog Z = .ok (.value (.pointer (some ⟨tb, 2, none⟩))) Z := fun Z hZ => by
    have e3 := (show a0_4.eval (.tmp 3) = .pointer (some ⟨tb, 0, none⟩) from ((fa0_4.at_ 3).trans h3))
    clear fa0_4 hQ h3
    generalize a0_4.eval = ρ at *
    go_simp
  refine fa0_4.take 6 21 (.pointer (some ⟨tb, 2, none⟩)) rfl (by kernel_rfl) (by kernel_rfl) (by kernel_rfl) (fun _ _ _ h => hQp _ _ _ _ _ h) rfl (lb_ hsz) (wanted_none rfl) r_a0_5 hS0 (fun a0_5 fa0_5 => ?_)
  clear r_a0_5
  clear fa0_4
  have r_a0_6 : ∀ Z, (fun Z => Same wr Z) Z → (execOp a0_5.eval { dst := some 22, op := Op.load 3 (Operand.tmp 21), type := 3, pos := "law.go:81", after := #[{ on := 6, ground := Ground.data }], guard := none }).run Try.prog Z = .ok (.value (.int .i64 op)) Z := fun Z hZ => by
    have z0 := hZ.keep c0
    have z1 := hZ.keep c1
    have z2 := hZ.keep c2
    have z3 := hZ.keep c3
    have e21 := (show a0_5.eval (.tmp 21) = .pointer (some ⟨tb, 2, none⟩) from (fa0_5.at_ 21))
    clear fa0_5 hQ h3
    generalize a0_5.eval = ρ at *
    go_simp
  refine fa0_5.take 7 22 (.int .i64 op) rfl (by kernel_rfl) (by kernel_rfl) (by kernel_rfl) (fun _ _ _ h => hQp _ _ _ _ _ h) rfl (lb_ hsz) (wanted_none rfl) r_a0_6 hS0 (fun a0_6 fa0_6 => ?_)
  clear r_a0_6
  clear fa0_5
  have r_a0_7 : ∀ Z, (fun Z => Same wr Z) Z → (execOp a0_6.eval { dst := some 23, op := Op.fieldAddr 26 (Operand.tmp 3) 3, type := 0, pos := "law.go:81", after := #[], guard := none }).run Try.prog Z = .ok (.value (.pointer (some ⟨tb, 3, none⟩))) Z := fun Z hZ => by
    have e3 := (show a0_6.eval (.tmp 3) = .pointer (some ⟨tb, 0, none⟩) from ((fa0_6.at_ 3).trans h3))
    clear fa0_6 hQ h3
    generalize a0_6.eval = ρ at *
    go_simp
  refine fa0_6.take 8 23 (.pointer (some ⟨tb, 3, none⟩)) rfl (by kernel_rfl) (by kernel_rfl) (by kernel_rfl) (fun _ _ _ h => hQp _ _ _ _ _ h) rfl (lb_ hsz) (wanted_none rfl) r_a0_7 hS0 (fun a0_7 fa0_7 => ?_)
  clear r_a0_7
  clear fa0_6
  have r_a0_8 : ∀ Z, (fun Z => Same wr Z) Z → (execOp a0_7.eval { dst := some 24, op := Op.load 24 (Operand.tmp 23), type := 24, pos := "law.go:81", after := #[{ on := 8, ground := Ground.data }], guard := none }).run Try.prog Z = .ok (.value (.int .u32 pgs)) Z := fun Z hZ => by
    have z0 := hZ.keep c0
    have z1 := hZ.keep c1
    have z2 := hZ.keep c2
    have z3 := hZ.keep c3
    have e23 := (show a0_7.eval (.tmp 23) = .pointer (some ⟨tb, 3, none⟩) from (fa0_7.at_ 23))
    clear fa0_7 hQ h3
    generalize a0_7.eval = ρ at *
    go_simp
  refine fa0_7.take 9 24 (.int .u32 pgs) rfl (by kernel_rfl) (by kernel_rfl) (by kernel_rfl) (fun _ _ _ h => hQp _ _ _ _ _ h) rfl (lb_ hsz) (wanted_none rfl) r_a0_8 hS0 (fun a0_8 fa0_8 => ?_)
  clear r_a0_8
  clear fa0_7
  refine wpAnyH_ready (rs := [2, 11]) (by kernel_rfl) (by simp) (AllReadyH.cons rfl (fun K hK => ?_) (AllReadyH.cons rfl (fun K hK => ?_) AllReadyH.nil))
  · have r_a0_9 : (execOp a0_8.eval { dst := some 17, op := Op.call { callee := Callee.value (Operand.func 7), args := #[Operand.tmp 16], argTypes := #[23] }, type := 23, pos := "law.go:81", after := #[{ on := 1, ground := Ground.data }], guard := none }).run Try.prog (wr.drew) = .ok (.enter 7 #[.slice ta tn tc]) (wr.drew) := by
      have kf : ∀ f, a0_8.eval (.func f) = .func (.func f) #[] #[] := fun _ => rfl
      have e16 := (show a0_8.eval (.tmp 16) = .slice ta tn tc from (fa0_8.at_ 16))
      clear fa0_8 hQ h3
      generalize a0_8.eval = ρ at *
      go_simp
    refine fa0_8.kCall hK 17 rfl (lb_ hsz) (wanted_none rfl) r_a0_9 (kn _ dd) (fun e Wn hR => ?_)
    obtain ⟨gt, ct, rfl, n1, s_n⟩ := hR
    clear r_a0_9
    have hS9 : (fun Z => Same wr Z) Wn := ((dd).trans s_n)
    refine ⟨_, rfl, hS9, fun a0_9 fa0_9 => ?_⟩
    clear fa0_8
    refine wpAnyH_ready (rs := [5, 11]) (by kernel_rfl) (by simp) (AllReadyH.cons rfl (fun K hK => ?_) (AllReadyH.cons rfl (fun K hK => ?_) AllReadyH.nil))
    · have r_a0_10 : (execOp a0_9.eval { dst := some 20, op := Op.call { callee := Callee.value (Operand.func 6), args := #[Operand.tmp 19], argTypes := #[22] }, type := 22, pos := "law.go:81", after := #[{ on := 4, ground := Ground.data }, { on := 2, ground := Ground.chain }], guard := none }).run Try.prog (Wn) = .ok (.enter 6 #[.slice la ln llc]) (Wn) := by
        have kf : ∀ f, a0_9.eval (.func f) = .func (.func f) #[] #[] := fun _ => rfl
        have e19 := (show a0_9.eval (.tmp 19) = .slice la ln llc from (fa0_9.at_ 19))
        clear fa0_9 hQ h3
        generalize a0_9.eval = ρ at *
        go_simp
      refine fa0_9.kCall hK 20 rfl (lb_ hsz) (wanted_none rfl) r_a0_10 (kl _ ((dd).trans s_n)) (fun e Wl hR => ?_)
      obtain ⟨gl, cl, ML2, rfl, l1, s_l⟩ := hR
      clear r_a0_10
      have n210 := LentN.same n1 s_l
      have hS10 : (fun Z => Same wr Z) Wl := ((((dd).trans s_n)).trans s_l)
      refine ⟨_, rfl, hS10, fun a0_10 fa0_10 => ?_⟩
      clear fa0_9
      have r_a0_11 : ∀ Z, (fun Z => Same wr Z) Z → (execOp a0_10.eval { dst := some 25, op := Op.build 26 #[(0, Operand.tmp 17), (1, Operand.tmp 20), (2, Operand.tmp 22), (3, Operand.tmp 24)], type := 26, pos := "law.go:81", after := #[{ on := 2, ground := Ground.data }, { on := 5, ground := Ground.data }, { on := 7, ground := Ground.data }, { on := 9, ground := Ground.data }], guard := none }).run Try.prog Z = .ok (.value (.agg #[.slice (some ⟨gt, 0, none⟩) tn ct, .slice (some ⟨gl, 0, none⟩) ln cl, .int .i64 op, .int .u32 pgs])) Z := fun Z hZ => by
        have e17 := (show a0_10.eval (.tmp 17) = .slice (some ⟨gt, 0, none⟩) tn ct from (fa0_10.at_ 17))
        have e20 := (show a0_10.eval (.tmp 20) = .slice (some ⟨gl, 0, none⟩) ln cl from (fa0_10.at_ 20))
        have e22 := (show a0_10.eval (.tmp 22) = .int .i64 op from (fa0_10.at_ 22))
        have e24 := (show a0_10.eval (.tmp 24) = .int .u32 pgs from (fa0_10.at_ 24))
        clear fa0_10 hQ h3
        generalize a0_10.eval = ρ at *
        go_simp
      refine fa0_10.take 10 25 (.agg #[.slice (some ⟨gt, 0, none⟩) tn ct, .slice (some ⟨gl, 0, none⟩) ln cl, .int .i64 op, .int .u32 pgs]) rfl (by kernel_rfl) (by kernel_rfl) (by kernel_rfl) (fun _ _ _ h => hQp _ _ _ _ _ h) rfl (lb_ hsz) (wanted_none rfl) r_a0_11 hS10 (fun a0_11 fa0_11 => ?_)
      clear r_a0_11
      clear fa0_10
      have r_a0_12 : (execOp a0_11.eval { dst := some 7, op := Op.alloc 26, type := 0, pos := "law.go:81", after := #[], guard := none }).run Try.prog (Wl) = .ok (.value (.pointer (some ⟨(Wl).heap.size, 0, none⟩))) ((Wl).alloc (.cells #[.slice none 0 0, .slice none 0 0, .int .i64 0, .int .u32 0] 26)) := by
        clear fa0_11 hQ h3
        generalize a0_11.eval = ρ at *
        go_simp
      obtain ⟨bx, hbx⟩ : ∃ bx, bx = (Wl).heap.size := ⟨_, rfl⟩
      obtain ⟨Wa, hWa⟩ : ∃ Wa, Wa = (Wl).alloc (.cells #[.slice none 0 0, .slice none 0 0, .int .i64 0, .int .u32 0] 26) := ⟨_, rfl⟩
      have s_a : Same (Wl) Wa := by rw [hWa]; exact (Fr.refl _ _).alloc _
      have bx0 : Wa.heap[bx]? = some (.cells #[.slice none 0 0, .slice none 0 0, .int .i64 0, .int .u32 0] 26 (0, 0)) := by rw [hWa, hbx]; exact heap_alloc_new _ _
      have hbw : wr.heap.size ≤ bx := by rw [hbx]; exact (((((dd).trans s_n)).trans s_l)).size
      rw [← hbx, ← hWa] at r_a0_12
      have l2 := l1.same s_a
      have n3 := LentN.same n210 s_a
      have hS12 : (fun Z => Same wr Z) Wa := ((((((dd).trans s_n)).trans s_l)).trans s_a)
      refine fa0_11.one 11 7 _ (by kernel_rfl) rfl rfl (lb_ hsz) (wanted_none rfl) r_a0_12 hS12 (fun a0_12 fa0_12 => ?_)
      clear r_a0_12 fa0_11
      refine fa0_12.oneStore 12 (by kernel_rfl) rfl rfl rfl 26 _ _ rfl bx #[.slice (some ⟨gt, 0, none⟩) tn ct, .slice (some ⟨gl, 0, none⟩) ln cl, .int .i64 op, .int .u32 pgs] #[.slice none 0 0, .slice none 0 0, .int .i64 0, .int .u32 0] 26 (show a0_12.eval (.tmp 7) = .pointer (some ⟨bx, 0, none⟩) from (fa0_12.at_ 7)) (show a0_12.eval (.tmp 25) = .agg #[.slice (some ⟨gt, 0, none⟩) tn ct, .slice (some ⟨gl, 0, none⟩) ln cl, .int .i64 op, .int .u32 pgs] from (fa0_12.at_ 25)) bx0 rfl (by kernel_rfl) (by kernel_rfl) (fun W9 r9 f9 => ?_)
      have s9 : Same wr W9 := Fr.trans ((((((dd).trans s_n)).trans s_l)).trans s_a) f9 (fun k hk e => by omega)
      refine ⟨s9, fun a9 f99 => ?_⟩
      refine wpAnyH_done (by kernel_rfl) ?_ _
      refine hQ a9 W9 bx gt ct gl cl ML2 _ f99 ?_ (f99.at_ 7) r9 (own_frameB n3 f9 (fun k hk e => own_neT (own_base n3 (Nat.zero_le _)) bx0 (by decide) k hk e)) (l2.frP f9 bx0) s9
      intro t ht; rcases ht with rfl | rfl | rfl | rfl <;> rfl
    · have r_a0_10 : (execOp a0_9.eval { dst := some 7, op := Op.alloc 26, type := 0, pos := "law.go:81", after := #[], guard := none }).run Try.prog (Wn) = .ok (.value (.pointer (some ⟨(Wn).heap.size, 0, none⟩))) ((Wn).alloc (.cells #[.slice none 0 0, .slice none 0 0, .int .i64 0, .int .u32 0] 26)) := by
        clear fa0_9 hQ h3
        generalize a0_9.eval = ρ at *
        go_simp
      obtain ⟨bx, hbx⟩ : ∃ bx, bx = (Wn).heap.size := ⟨_, rfl⟩
      obtain ⟨Wa, hWa⟩ : ∃ Wa, Wa = (Wn).alloc (.cells #[.slice none 0 0, .slice none 0 0, .int .i64 0, .int .u32 0] 26) := ⟨_, rfl⟩
      have s_a : Same (Wn) Wa := by rw [hWa]; exact (Fr.refl _ _).alloc _
      have bx0 : Wa.heap[bx]? = some (.cells #[.slice none 0 0, .slice none 0 0, .int .i64 0, .int .u32 0] 26 (0, 0)) := by rw [hWa, hbx]; exact heap_alloc_new _ _
      have hbw : wr.heap.size ≤ bx := by rw [hbx]; exact (((dd).trans s_n)).size
      rw [← hbx, ← hWa] at r_a0_10
      have n3 := LentN.same n1 s_a
      have hS10 : (fun Z => Same wr Z) Wa := ((((dd).trans s_n)).trans s_a)
      refine fa0_9.kVal hK 7 _ rfl (lb_ hsz) (wanted_none rfl) r_a0_10 hS10 (fun a0_10 fa0_10 => ?_)
      clear r_a0_10 fa0_9
      have r_a0_11 : (execOp a0_10.eval { dst := some 20, op := Op.call { callee := Callee.value (Operand.func 6), args := #[Operand.tmp 19], argTypes := #[22] }, type := 22, pos := "law.go:81", after := #[{ on := 4, ground := Ground.data }, { on := 2, ground := Ground.chain }], guard := none }).run Try.prog (Wa) = .ok (.enter 6 #[.slice la ln llc]) (Wa) := by
        have kf : ∀ f, a0_10.eval (.func f) = .func (.func f) #[] #[] := fun _ => rfl
        have e19 := (show a0_10.eval (.tmp 19) = .slice la ln llc from (fa0_10.at_ 19))
        clear fa0_10 hQ h3
        generalize a0_10.eval = ρ at *
        go_simp
      refine fa0_10.oneCall 5 20 (by kernel_rfl) rfl rfl (lb_ hsz) (wanted_none rfl) r_a0_11 (kl _ ((((dd).trans s_n)).trans s_a)) (fun e Wl hR => ?_)
      obtain ⟨gl, cl, ML2, rfl, l1, s_l⟩ := hR
      clear r_a0_11
      have hbx11 := (s_l.block _ (lt_of_heap bx0) (fun f => f)).trans bx0
      have n211 := LentN.same n3 s_l
      have hS11 : (fun Z => Same wr Z) Wl := ((((((dd).trans s_n)).trans s_a)).trans s_l)
      refine ⟨_, rfl, hS11, fun a0_11 fa0_11 => ?_⟩
      clear fa0_10
      have r_a0_12 : ∀ Z, (fun Z => Same wr Z) Z → (execOp a0_11.eval { dst := some 25, op := Op.build 26 #[(0, Operand.tmp 17), (1, Operand.tmp 20), (2, Operand.tmp 22), (3, Operand.tmp 24)], type := 26, pos := "law.go:81", after := #[{ on := 2, ground := Ground.data }, { on := 5, ground := Ground.data }, { on := 7, ground := Ground.data }, { on := 9, ground := Ground.data }], guard := none }).run Try.prog Z = .ok (.value (.agg #[.slice (some ⟨gt, 0, none⟩) tn ct, .slice (some ⟨gl, 0, none⟩) ln cl, .int .i64 op, .int .u32 pgs])) Z := fun Z hZ => by
        have e17 := (show a0_11.eval (.tmp 17) = .slice (some ⟨gt, 0, none⟩) tn ct from (fa0_11.at_ 17))
        have e20 := (show a0_11.eval (.tmp 20) = .slice (some ⟨gl, 0, none⟩) ln cl from (fa0_11.at_ 20))
        have e22 := (show a0_11.eval (.tmp 22) = .int .i64 op from (fa0_11.at_ 22))
        have e24 := (show a0_11.eval (.tmp 24) = .int .u32 pgs from (fa0_11.at_ 24))
        clear fa0_11 hQ h3
        generalize a0_11.eval = ρ at *
        go_simp
      refine fa0_11.take 10 25 (.agg #[.slice (some ⟨gt, 0, none⟩) tn ct, .slice (some ⟨gl, 0, none⟩) ln cl, .int .i64 op, .int .u32 pgs]) rfl (by kernel_rfl) (by kernel_rfl) (by kernel_rfl) (fun _ _ _ h => hQp _ _ _ _ _ h) rfl (lb_ hsz) (wanted_none rfl) r_a0_12 hS11 (fun a0_12 fa0_12 => ?_)
      clear r_a0_12
      clear fa0_11
      refine fa0_12.oneStore 12 (by kernel_rfl) rfl rfl rfl 26 _ _ rfl bx #[.slice (some ⟨gt, 0, none⟩) tn ct, .slice (some ⟨gl, 0, none⟩) ln cl, .int .i64 op, .int .u32 pgs] #[.slice none 0 0, .slice none 0 0, .int .i64 0, .int .u32 0] 26 (show a0_12.eval (.tmp 7) = .pointer (some ⟨bx, 0, none⟩) from (fa0_12.at_ 7)) (show a0_12.eval (.tmp 25) = .agg #[.slice (some ⟨gt, 0, none⟩) tn ct, .slice (some ⟨gl, 0, none⟩) ln cl, .int .i64 op, .int .u32 pgs] from (fa0_12.at_ 25)) hbx11 rfl (by kernel_rfl) (by kernel_rfl) (fun W9 r9 f9 => ?_)
      have s9 : Same wr W9 := Fr.trans ((((((dd).trans s_n)).trans s_a)).trans s_l) f9 (fun k hk e => by omega)
      refine ⟨s9, fun a9 f99 => ?_⟩
      refine wpAnyH_done (by kernel_rfl) ?_ _
      refine hQ a9 W9 bx gt ct gl cl ML2 _ f99 ?_ (f99.at_ 7) r9 (own_frameB n211 f9 (fun k hk e => own_neT (own_base n211 (Nat.zero_le _)) hbx11 (by decide) k hk e)) (l1.frP f9 hbx11) s9
      intro t ht; rcases ht with rfl | rfl | rfl | rfl <;> rfl
  · have r_a0_9 : (execOp a0_8.eval { dst := some 7, op := Op.alloc 26, type := 0, pos := "law.go:81", after := #[], guard := none }).run Try.prog (wr.drew) = .ok (.value (.pointer (some ⟨(wr.drew).heap.size, 0, none⟩))) ((wr.drew).alloc (.cells #[.slice none 0 0, .slice none 0 0, .int .i64 0, .int .u32 0] 26)) := by
      clear fa0_8 hQ h3
      generalize a0_8.eval = ρ at *
      go_simp
    obtain ⟨bx, hbx⟩ : ∃ bx, bx = (wr.drew).heap.size := ⟨_, rfl⟩
    obtain ⟨Wa, hWa⟩ : ∃ Wa, Wa = (wr.drew).alloc (.cells #[.slice none 0 0, .slice none 0 0, .int .i64 0, .int .u32 0] 26) := ⟨_, rfl⟩
    have s_a : Same (wr.drew) Wa := by rw [hWa]; exact (Fr.refl _ _).alloc _
    have bx0 : Wa.heap[bx]? = some (.cells #[.slice none 0 0, .slice none 0 0, .int .i64 0, .int .u32 0] 26 (0, 0)) := by rw [hWa, hbx]; exact heap_alloc_new _ _
    have hbw : wr.heap.size ≤ bx := by rw [hbx]; exact (dd).size
    rw [← hbx, ← hWa] at r_a0_9
    have hS9 : (fun Z => Same wr Z) Wa := ((dd).trans s_a)
    refine fa0_8.kVal hK 7 _ rfl (lb_ hsz) (wanted_none rfl) r_a0_9 hS9 (fun a0_9 fa0_9 => ?_)
    clear r_a0_9 fa0_8
    have r_a0_10 : (execOp a0_9.eval { dst := some 17, op := Op.call { callee := Callee.value (Operand.func 7), args := #[Operand.tmp 16], argTypes := #[23] }, type := 23, pos := "law.go:81", after := #[{ on := 1, ground := Ground.data }], guard := none }).run Try.prog (Wa) = .ok (.enter 7 #[.slice ta tn tc]) (Wa) := by
      have kf : ∀ f, a0_9.eval (.func f) = .func (.func f) #[] #[] := fun _ => rfl
      have e16 := (show a0_9.eval (.tmp 16) = .slice ta tn tc from (fa0_9.at_ 16))
      clear fa0_9 hQ h3
      generalize a0_9.eval = ρ at *
      go_simp
    refine fa0_9.oneCall 2 17 (by kernel_rfl) rfl rfl (lb_ hsz) (wanted_none rfl) r_a0_10 (kn _ ((dd).trans s_a)) (fun e Wn hR => ?_)
    obtain ⟨gt, ct, rfl, n1, s_n⟩ := hR
    clear r_a0_10
    have hbx10 := (s_n.block _ (lt_of_heap bx0) (fun f => f)).trans bx0
    have hS10 : (fun Z => Same wr Z) Wn := ((((dd).trans s_a)).trans s_n)
    refine ⟨_, rfl, hS10, fun a0_10 fa0_10 => ?_⟩
    clear fa0_9
    have r_a0_11 : (execOp a0_10.eval { dst := some 20, op := Op.call { callee := Callee.value (Operand.func 6), args := #[Operand.tmp 19], argTypes := #[22] }, type := 22, pos := "law.go:81", after := #[{ on := 4, ground := Ground.data }, { on := 2, ground := Ground.chain }], guard := none }).run Try.prog (Wn) = .ok (.enter 6 #[.slice la ln llc]) (Wn) := by
      have kf : ∀ f, a0_10.eval (.func f) = .func (.func f) #[] #[] := fun _ => rfl
      have e19 := (show a0_10.eval (.tmp 19) = .slice la ln llc from (fa0_10.at_ 19))
      clear fa0_10 hQ h3
      generalize a0_10.eval = ρ at *
      go_simp
    refine fa0_10.oneCall 5 20 (by kernel_rfl) rfl rfl (lb_ hsz) (wanted_none rfl) r_a0_11 (kl _ ((((dd).trans s_a)).trans s_n)) (fun e Wl hR => ?_)
    obtain ⟨gl, cl, ML2, rfl, l1, s_l⟩ := hR
    clear r_a0_11
    have hbx11 := (s_l.block _ (lt_of_heap hbx10) (fun f => f)).trans hbx10
    have n211 := LentN.same n1 s_l
    have hS11 : (fun Z => Same wr Z) Wl := ((((((dd).trans s_a)).trans s_n)).trans s_l)
    refine ⟨_, rfl, hS11, fun a0_11 fa0_11 => ?_⟩
    clear fa0_10
    have r_a0_12 : ∀ Z, (fun Z => Same wr Z) Z → (execOp a0_11.eval { dst := some 25, op := Op.build 26 #[(0, Operand.tmp 17), (1, Operand.tmp 20), (2, Operand.tmp 22), (3, Operand.tmp 24)], type := 26, pos := "law.go:81", after := #[{ on := 2, ground := Ground.data }, { on := 5, ground := Ground.data }, { on := 7, ground := Ground.data }, { on := 9, ground := Ground.data }], guard := none }).run Try.prog Z = .ok (.value (.agg #[.slice (some ⟨gt, 0, none⟩) tn ct, .slice (some ⟨gl, 0, none⟩) ln cl, .int .i64 op, .int .u32 pgs])) Z := fun Z hZ => by
      have e17 := (show a0_11.eval (.tmp 17) = .slice (some ⟨gt, 0, none⟩) tn ct from (fa0_11.at_ 17))
      have e20 := (show a0_11.eval (.tmp 20) = .slice (some ⟨gl, 0, none⟩) ln cl from (fa0_11.at_ 20))
      have e22 := (show a0_11.eval (.tmp 22) = .int .i64 op from (fa0_11.at_ 22))
      have e24 := (show a0_11.eval (.tmp 24) = .int .u32 pgs from (fa0_11.at_ 24))
      clear fa0_11 hQ h3
      generalize a0_11.eval = ρ at *
      go_simp
    refine fa0_11.take 10 25 (.agg #[.slice (some ⟨gt, 0, none⟩) tn ct, .slice (some ⟨gl, 0, none⟩) ln cl, .int .i64 op, .int .u32 pgs]) rfl (by kernel_rfl) (by kernel_rfl) (by kernel_rfl) (fun _ _ _ h => hQp _ _ _ _ _ h) rfl (lb_ hsz) (wanted_none rfl) r_a0_12 hS11 (fun a0_12 fa0_12 => ?_)
    clear r_a0_12
    clear fa0_11
    refine fa0_12.oneStore 12 (by kernel_rfl) rfl rfl rfl 26 _ _ rfl bx #[.slice (some ⟨gt, 0, none⟩) tn ct, .slice (some ⟨gl, 0, none⟩) ln cl, .int .i64 op, .int .u32 pgs] #[.slice none 0 0, .slice none 0 0, .int .i64 0, .int .u32 0] 26 (show a0_12.eval (.tmp 7) = .pointer (some ⟨bx, 0, none⟩) from (fa0_12.at_ 7)) (show a0_12.eval (.tmp 25) = .agg #[.slice (some ⟨gt, 0, none⟩) tn ct, .slice (some ⟨gl, 0, none⟩) ln cl, .int .i64 op, .int .u32 pgs] from (fa0_12.at_ 25)) hbx11 rfl (by kernel_rfl) (by kernel_rfl) (fun W9 r9 f9 => ?_)
    have s9 : Same wr W9 := Fr.trans ((((((dd).trans s_a)).trans s_n)).trans s_l) f9 (fun k hk e => by omega)
    refine ⟨s9, fun a9 f99 => ?_⟩
    refine wpAnyH_done (by kernel_rfl) ?_ _
    refine hQ a9 W9 bx gt ct gl cl ML2 _ f99 ?_ (f99.at_ 7) r9 (own_frameB n211 f9 (fun k hk e => own_neT (own_base n211 (Nat.zero_le _)) hbx11 (by decide) k hk e)) (l1.frP f9 hbx11) s9
    intro t ht; rcases ht with rfl | rfl | rfl | rfl <;> rfl
/-- What After answers. -/
def AftIs (m : Nat) (KEY : List (Nat × List Nat)) (w : World) (e : Ending) (w' : World) : Prop :=
  ∃ ao cc N, e = .returned (.slice ao m cc) ∧ AftAt w w' ao cc N ∧ N.map Bt.key = KEY ∧ N.length = m ∧ Same w w'
theorem keyLen {N : List Bt} {KEY : List (Nat × List Nat)} {b : Nat} (h : N.map Bt.key = KEY) (hl : ∀ y ∈ KEY, y.2.length ≤ b) : ∀ x ∈ N, x.ns.length ≤ b := fun x hx => hl x.key (by rw [← h]; exact List.mem_map.2 ⟨x, hx, rfl⟩)
theorem new_br {w W : World} {B cc : Nat} {ao : Option Addr} {N : List Bt} (hr : W.ownsRow B 55 2 (.slice ao N.length cc) N.length (btCs N)) (hn : ∀ x ∈ N, NewX w W x) (hl : ∀ x ∈ N, x.ns.length ≤ 1099511627000) : ∃ g, BrRow W ao g 0 N := by
  by_cases h0 : N = []
  · subst h0
    exact ⟨0, fun e => absurd rfl e, fun j x hj => by simp at hj⟩
  · obtain ⟨g, rfl, hlt⟩ := own_some (own_base hr (Nat.zero_le _)) (by intro e; exact h0 (List.eq_nil_of_length_eq_zero e))
    refine ⟨g, fun _ => ⟨rfl, hlt⟩, fun j y hy => ?_⟩
    obtain ⟨b1, b2⟩ := btCs_at [] hy
    rw [List.append_nil] at b1 b2
    have hr0 := own_base hr (Nat.zero_le _)
    have hy1 := List.mem_of_getElem? hy
    have hy2 := hn y hy1
    have := hl y hy1
    rw [Nat.zero_add]
    exact ⟨own_cell hr0 b1, own_cell hr0 b2, by rw [hy2.no]; exact hy2.row, by omega⟩
theorem marks_ge {wr W8 W9 : World} {a8 a9 : Option Addr} {c8 c9 m : Nat} {N8 N9 : List Bt} (A8 : AftAt wr W8 a8 c8 N8) (A9 : AftAt W8 W9 a9 c9 N9) (hz : wr.heap.size ≤ W8.heap.size) : ∀ k, inB (N8.map slB ++ N9.map slB) k ∨ inB [⟨a8, m, c8⟩, ⟨a9, m, c9⟩] k → wr.heap.size ≤ k := by
  rintro k (⟨i, x, hx, hk⟩ | ⟨i, x, hx, hk⟩)
  · rcases List.mem_append.1 (List.mem_of_getElem? hx) with h | h
    · obtain ⟨y, hy, rfl⟩ := List.mem_map.1 h
      exact own_blk (A8.new_ y hy).own k (blk_of.trans hk)
    · obtain ⟨y, hy, rfl⟩ := List.mem_map.1 h
      have := own_blk (A9.new_ y hy).own k (blk_of.trans hk)
      omega
  · have h := List.mem_of_getElem? hx
    simp only [List.mem_cons, List.not_mem_nil, or_false] at h
    rcases h with rfl | rfl
    · exact own_blk A8.row k (blk_of.trans hk)
    · have := own_blk A9.row k (blk_of.trans hk)
      omega
set_option maxRecDepth 100000 in
set_option maxHeartbeats 2000000 in
theorem ftB {tb bx g n cg m cw gw cp tn tc ln llc gt ct gl cl : Nat} {op pgs : Int} {ow pa la ta : Option Addr} {KEY : List (Nat × List Nat)} {NW : List Bt} {Q : Exit → Act → World → Prop} (a0 : Act) (wr : World) (hsz : a0.tmps.size = 81) (hd : a0.defers = [])
    (h0 : a0.eval (.tmp 0) = .slice pa n cp) (h3 : a0.eval (.tmp 3) = .pointer (some ⟨tb, 0, none⟩)) (h5 : a0.eval (.tmp 5) = .slice ow m cw) (h6 : a0.eval (.tmp 6) = .slice (some ⟨g, 0, none⟩) n cg) (h7 : a0.eval (.tmp 7) = .pointer (some ⟨bx, 0, none⟩))
    (c0 : wr.cell? ⟨tb, 0, none⟩ = some (.slice ta tn tc)) (c1 : wr.cell? ⟨tb, 1, none⟩ = some (.slice la ln llc))
    (b0 : wr.cell? ⟨bx, 0, none⟩ = some (.slice (some ⟨gt, 0, none⟩) tn ct)) (b1 : wr.cell? ⟨bx, 1, none⟩ = some (.slice (some ⟨gl, 0, none⟩) ln cl)) (b2 : wr.cell? ⟨bx, 2, none⟩ = some (.int .i64 op)) (b3 : wr.cell? ⟨bx, 3, none⟩ = some (.int .u32 pgs))
    (hw : BrRow wr ow gw 0 NW) (hwK : NW.map Bt.key = KEY) (hwm : NW.length = m) (hm2 : m ≤ 1100000) (hKl : ∀ y ∈ KEY, y.2.length ≤ 1099511627000)
    (kA : ∀ Z, Same wr Z → Calls Try.prog 8 #[.slice (some ⟨g, 0, none⟩) n cg, .agg #[.slice (some ⟨gt, 0, none⟩) tn ct, .slice (some ⟨gl, 0, none⟩) ln cl, .int .i64 op, .int .u32 pgs]] Z fun e w' => AftIs m KEY Z e w')
    (k1 : ∀ Z, Same wr Z → Calls Try.prog 12 #[.slice (some ⟨g, 0, none⟩) n cg, .slice pa n cp] Z fun e w' => e = .returned (.bool true) ∧ Same Z w')
    (k2 : ∀ Z, Same wr Z → Calls Try.prog 12 #[.slice (some ⟨gl, 0, none⟩) ln cl, .slice la ln llc] Z fun e w' => e = .returned (.bool true) ∧ Same Z w')
    (k3 : ∀ Z, Same wr Z → Calls Try.prog 13 #[.slice (some ⟨gt, 0, none⟩) tn ct, .slice ta tn tc] Z fun e w' => e = .returned (.bool true) ∧ Same Z w')
    (ka : ∀ Z, Calls Try.prog 14 #[] Z fun e w' => e = .returned (.bool true) ∧ Same Z w')
    (hQ : ∀ a W, a.defers = [] → a.eval (.tmp 4) = .bool true → Same wr W → Q .ret a W) : cFTB.wp Try.prog Q a0 wr := by
  have fa0_0 := Fe.refl a0
  unfold cFTB
  refine wp_seq ?_
  refine wp_region_list ?_
  unfold rFT4
  refine fa0_0.move 26 (.slice (some ⟨g, 0, none⟩) n cg) _ (Or.inl rfl) rfl (lb_ hsz) (wanted_none rfl) ((fa0_0.at_ 6).trans h6) (fun a0_1 fa0_1 => ?_)
  clear fa0_0
  have r_a0_2 : (execOp a0_1.eval { dst := some 27, op := Op.load 26 (Operand.tmp 7), type := 26, pos := "law.go:82", after := #[], guard := none }).run Try.prog (wr) = .ok (.value (.agg #[.slice (some ⟨gt, 0, none⟩) tn ct, .slice (some ⟨gl, 0, none⟩) ln cl, .int .i64 op, .int .u32 pgs])) (wr) := by
    have e7 := (show a0_1.eval (.tmp 7) = .pointer (some ⟨bx, 0, none⟩) from ((fa0_1.at_ 7).trans h7))
    clear fa0_1 hQ h0 h3 h5 h6 h7 hw hm2 hKl
    generalize a0_1.eval = ρ at *
    go_simp
  refine fa0_1.step 27 (.agg #[.slice (some ⟨gt, 0, none⟩) tn ct, .slice (some ⟨gl, 0, none⟩) ln cl, .int .i64 op, .int .u32 pgs]) rfl (lb_ hsz) (wanted_none rfl) r_a0_2 (fun a0_2 fa0_2 => ?_)
  clear r_a0_2
  clear fa0_1
  have r_a0_3 : (execOp a0_2.eval { dst := some 28, op := Op.call { callee := Callee.value (Operand.func 8), args := #[Operand.tmp 26, Operand.tmp 27], argTypes := #[22, 26] }, type := 22, pos := "law.go:82", after := #[{ on := 0, ground := Ground.data }, { on := 1, ground := Ground.data }], guard := none }).run Try.prog (wr) = .ok (.enter 8 #[.slice (some ⟨g, 0, none⟩) n cg, .agg #[.slice (some ⟨gt, 0, none⟩) tn ct, .slice (some ⟨gl, 0, none⟩) ln cl, .int .i64 op, .int .u32 pgs]]) (wr) := by
    have kf : ∀ f, a0_2.eval (.func f) = .func (.func f) #[] #[] := fun _ => rfl
    have e26 := (show a0_2.eval (.tmp 26) = .slice (some ⟨g, 0, none⟩) n cg from (fa0_2.at_ 26))
    have e27 := (show a0_2.eval (.tmp 27) = .agg #[.slice (some ⟨gt, 0, none⟩) tn ct, .slice (some ⟨gl, 0, none⟩) ln cl, .int .i64 op, .int .u32 pgs] from (fa0_2.at_ 27))
    clear fa0_2 hQ h0 h3 h5 h6 h7 hw hm2 hKl
    generalize a0_2.eval = ρ at *
    go_simp
  refine fa0_2.call 28 rfl (lb_ hsz) (wanted_none rfl) r_a0_3 (kA wr (Fr.refl _ wr)) (fun e W8 hR => ?_)
  obtain ⟨a8, c8, N8, rfl, A8, K8, L8, s8⟩ := hR
  clear r_a0_3
  refine ⟨_, rfl, fun a0_3 fa0_3 => ?_⟩
  clear fa0_2
  refine fa0_3.move 8 (.slice a8 m c8) _ (Or.inr rfl) rfl (lb_ hsz) (wanted_none rfl) (fa0_3.at_ 28) (fun a0_4 fa0_4 => ?_)
  clear fa0_3
  refine wpList_nil ?_
  have b0x := s8.keep b0
  have b1x := s8.keep b1
  have b2x := s8.keep b2
  have b3x := s8.keep b3
  change Code.wp _ _ _ _ _
  refine wp_seq ?_
  refine wp_region_list ?_
  unfold rFT5
  refine fa0_4.move 29 (.slice (some ⟨g, 0, none⟩) n cg) _ (Or.inl rfl) rfl (lb_ hsz) (wanted_none rfl) ((fa0_4.at_ 6).trans h6) (fun a0_5 fa0_5 => ?_)
  clear fa0_4
  have r_a0_6 : (execOp a0_5.eval { dst := some 30, op := Op.load 26 (Operand.tmp 7), type := 26, pos := "law.go:83", after := #[], guard := none }).run Try.prog (W8) = .ok (.value (.agg #[.slice (some ⟨gt, 0, none⟩) tn ct, .slice (some ⟨gl, 0, none⟩) ln cl, .int .i64 op, .int .u32 pgs])) (W8) := by
    have e7 := (show a0_5.eval (.tmp 7) = .pointer (some ⟨bx, 0, none⟩) from ((fa0_5.at_ 7).trans h7))
    clear fa0_5 hQ h0 h3 h5 h6 h7 hw hm2 hKl
    generalize a0_5.eval = ρ at *
    go_simp
  refine fa0_5.step 30 (.agg #[.slice (some ⟨gt, 0, none⟩) tn ct, .slice (some ⟨gl, 0, none⟩) ln cl, .int .i64 op, .int .u32 pgs]) rfl (lb_ hsz) (wanted_none rfl) r_a0_6 (fun a0_6 fa0_6 => ?_)
  clear r_a0_6
  clear fa0_5
  have r_a0_7 : (execOp a0_6.eval { dst := some 31, op := Op.call { callee := Callee.value (Operand.func 8), args := #[Operand.tmp 29, Operand.tmp 30], argTypes := #[22, 26] }, type := 22, pos := "law.go:83", after := #[{ on := 0, ground := Ground.data }, { on := 1, ground := Ground.data }], guard := none }).run Try.prog (W8) = .ok (.enter 8 #[.slice (some ⟨g, 0, none⟩) n cg, .agg #[.slice (some ⟨gt, 0, none⟩) tn ct, .slice (some ⟨gl, 0, none⟩) ln cl, .int .i64 op, .int .u32 pgs]]) (W8) := by
    have kf : ∀ f, a0_6.eval (.func f) = .func (.func f) #[] #[] := fun _ => rfl
    have e29 := (show a0_6.eval (.tmp 29) = .slice (some ⟨g, 0, none⟩) n cg from (fa0_6.at_ 29))
    have e30 := (show a0_6.eval (.tmp 30) = .agg #[.slice (some ⟨gt, 0, none⟩) tn ct, .slice (some ⟨gl, 0, none⟩) ln cl, .int .i64 op, .int .u32 pgs] from (fa0_6.at_ 30))
    clear fa0_6 hQ h0 h3 h5 h6 h7 hw hm2 hKl
    generalize a0_6.eval = ρ at *
    go_simp
  refine fa0_6.call 31 rfl (lb_ hsz) (wanted_none rfl) r_a0_7 (kA W8 s8) (fun e W9 hR => ?_)
  obtain ⟨a9, c9, N9, rfl, A9, K9, L9, s9⟩ := hR
  clear r_a0_7
  refine ⟨_, rfl, fun a0_7 fa0_7 => ?_⟩
  clear fa0_6
  refine fa0_7.move 9 (.slice a9 m c9) _ (Or.inr rfl) rfl (lb_ hsz) (wanted_none rfl) (fa0_7.at_ 31) (fun a0_8 fa0_8 => ?_)
  clear fa0_7
  refine wpList_nil ?_
  have s_1 : Same wr W9 := s8.trans s9
  have A8b := A8.same s9
  have hl8 : ∀ x ∈ N8, x.ns.length ≤ 1099511627000 := keyLen K8 hKl
  have hl9 : ∀ x ∈ N9, x.ns.length ≤ 1099511627000 := keyLen K9 hKl
  obtain ⟨g8, br8⟩ := new_br A8b.row A8b.new_ hl8
  obtain ⟨g9, br9⟩ := new_br A9.row A9.new_ hl9
  have kS8 : ∀ Z, Same W9 Z → Calls Try.prog 9 #[.slice a8 m c8, .slice ow m cw] Z fun e w' => e = .returned (.bool true) ∧ Same Z w' := fun Z s => by
    have := sameB_true (cp := c8) (cp2 := cw) Z (br8.same s) (hw.same (s_1.trans s)) (K8.trans hwK.symm) (by omega)
    rw [L8, hwm] at this
    exact this
  have kS9 : ∀ Z, Same W9 Z → Calls Try.prog 9 #[.slice a9 m c9, .slice ow m cw] Z fun e w' => e = .returned (.bool true) ∧ Same Z w' := fun Z s => by
    have := sameB_true (cp := c9) (cp2 := cw) Z (br9.same s) (hw.same (s_1.trans s)) (K9.trans hwK.symm) (by omega)
    rw [L9, hwm] at this
    exact this
  change Code.wp _ _ _ _ _
  refine wp_seq (wp_seq ?_)
  refine wp_region_list ?_
  unfold rFT6
  refine fa0_8.move 32 (.slice a8 m c8) _ (Or.inl rfl) rfl (lb_ hsz) (wanted_none rfl) (fa0_8.at_ 8) (fun a0_9 fa0_9 => ?_)
  clear fa0_8
  refine fa0_9.move 33 (.slice ow m cw) _ (Or.inl rfl) rfl (lb_ hsz) (wanted_none rfl) ((fa0_9.at_ 5).trans h5) (fun a0_10 fa0_10 => ?_)
  clear fa0_9
  have r_a0_11 : (execOp a0_10.eval { dst := some 34, op := Op.call { callee := Callee.value (Operand.func 9), args := #[Operand.tmp 32, Operand.tmp 33], argTypes := #[22, 22] }, type := 4, pos := "law.go:84", after := #[{ on := 0, ground := Ground.data }, { on := 1, ground := Ground.data }], guard := none }).run Try.prog (W9) = .ok (.enter 9 #[.slice a8 m c8, .slice ow m cw]) (W9) := by
    have kf : ∀ f, a0_10.eval (.func f) = .func (.func f) #[] #[] := fun _ => rfl
    have e32 := (show a0_10.eval (.tmp 32) = .slice a8 m c8 from (fa0_10.at_ 32))
    have e33 := (show a0_10.eval (.tmp 33) = .slice ow m cw from (fa0_10.at_ 33))
    clear fa0_10 hQ h0 h3 h5 h6 h7 hw hm2 hKl
    generalize a0_10.eval = ρ at *
    go_simp
  refine fa0_10.call 34 rfl (lb_ hsz) (wanted_none rfl) r_a0_11 (kS8 W9 (Fr.refl _ W9)) (fun e W10 hR => ?_)
  obtain ⟨rfl, s10⟩ := hR
  clear r_a0_11
  refine ⟨_, rfl, fun a0_11 fa0_11 => ?_⟩
  clear fa0_10
  have r_a0_12 : (execOp a0_11.eval { dst := some 35, op := Op.unOp UnOp.not 4 (Operand.tmp 34), type := 4, pos := "law.go:84", after := #[{ on := 2, ground := Ground.data }], guard := none }).run Try.prog (W10) = .ok (.value (.bool false)) (W10) := by
    have e34 := (show a0_11.eval (.tmp 34) = .bool true from (fa0_11.at_ 34))
    clear fa0_11 hQ h0 h3 h5 h6 h7 hw hm2 hKl
    generalize a0_11.eval = ρ at *
    go_simp
  refine fa0_11.step 35 (.bool false) rfl (lb_ hsz) (wanted_none rfl) r_a0_12 (fun a0_12 fa0_12 => ?_)
  clear r_a0_12
  clear fa0_11
  refine fa0_12.move 36 (.bool false) _ (Or.inl rfl) rfl (lb_ hsz) (wanted_none rfl) (fa0_12.at_ 35) (fun a0_13 fa0_13 => ?_)
  clear fa0_12
  refine fa0_13.move 37 (.slice a9 m c9) _ (Or.inl rfl) rfl (lb_ hsz) ((wanted_at (t := 36) (c := false) (b := false) rfl rfl rfl (lb_ (fa0_13.size.trans hsz)) (fa0_13.at_ 36)).trans (by rfl)) (fa0_13.at_ 9) (fun a0_14 fa0_14 => ?_)
  clear fa0_13
  refine fa0_14.move 38 (.slice ow m cw) _ (Or.inl rfl) rfl (lb_ hsz) ((wanted_at (t := 36) (c := false) (b := false) rfl rfl rfl (lb_ (fa0_14.size.trans hsz)) (fa0_14.at_ 36)).trans (by rfl)) ((fa0_14.at_ 5).trans h5) (fun a0_15 fa0_15 => ?_)
  clear fa0_14
  have r_a0_16 : (execOp a0_15.eval { dst := some 39, op := Op.call { callee := Callee.value (Operand.func 9), args := #[Operand.tmp 37, Operand.tmp 38], argTypes := #[22, 22] }, type := 4, pos := "law.go:84", after := #[{ on := 5, ground := Ground.data }, { on := 6, ground := Ground.data }, { on := 4, ground := Ground.chain }, { on := 4, ground := Ground.guard }], guard := some (4, false) }).run Try.prog (W10) = .ok (.enter 9 #[.slice a9 m c9, .slice ow m cw]) (W10) := by
    have kf : ∀ f, a0_15.eval (.func f) = .func (.func f) #[] #[] := fun _ => rfl
    have e37 := (show a0_15.eval (.tmp 37) = .slice a9 m c9 from (fa0_15.at_ 37))
    have e38 := (show a0_15.eval (.tmp 38) = .slice ow m cw from (fa0_15.at_ 38))
    clear fa0_15 hQ h0 h3 h5 h6 h7 hw hm2 hKl
    generalize a0_15.eval = ρ at *
    go_simp
  refine fa0_15.call 39 rfl (lb_ hsz) ((wanted_at (t := 36) (c := false) (b := false) rfl rfl rfl (lb_ (fa0_15.size.trans hsz)) (fa0_15.at_ 36)).trans (by rfl)) r_a0_16 (kS9 W10 s10) (fun e W11 hR => ?_)
  obtain ⟨rfl, s11⟩ := hR
  clear r_a0_16
  have s_2 : Same W9 W11 := s10.trans s11
  refine ⟨_, rfl, fun a0_16 fa0_16 => ?_⟩
  clear fa0_15
  have r_a0_17 : (execOp a0_16.eval { dst := some 40, op := Op.unOp UnOp.not 4 (Operand.tmp 39), type := 4, pos := "law.go:84", after := #[{ on := 7, ground := Ground.data }, { on := 4, ground := Ground.guard }], guard := some (4, false) }).run Try.prog (W11) = .ok (.value (.bool false)) (W11) := by
    have e39 := (show a0_16.eval (.tmp 39) = .bool true from (fa0_16.at_ 39))
    clear fa0_16 hQ h0 h3 h5 h6 h7 hw hm2 hKl
    generalize a0_16.eval = ρ at *
    go_simp
  refine fa0_16.step 40 (.bool false) rfl (lb_ hsz) ((wanted_at (t := 36) (c := false) (b := false) rfl rfl rfl (lb_ (fa0_16.size.trans hsz)) (fa0_16.at_ 36)).trans (by rfl)) r_a0_17 (fun a0_17 fa0_17 => ?_)
  clear r_a0_17
  clear fa0_16
  have r_a0_18 : (execOp a0_17.eval { dst := some 41, op := Op.pick (Operand.tmp 36) (Operand.const (Value.bool true)) (Operand.tmp 40), type := 4, pos := "law.go:84", after := #[{ on := 4, ground := Ground.data }, { on := 8, ground := Ground.data }], guard := none }).run Try.prog (W11) = .ok (.value (.bool false)) (W11) := by
    have kc : ∀ v, a0_17.eval (.const v) = v := fun _ => rfl
    have e36 := (show a0_17.eval (.tmp 36) = .bool false from (fa0_17.at_ 36))
    have e40 := (show a0_17.eval (.tmp 40) = .bool false from (fa0_17.at_ 40))
    clear fa0_17 hQ h0 h3 h5 h6 h7 hw hm2 hKl
    generalize a0_17.eval = ρ at *
    go_simp
  refine fa0_17.step 41 (.bool false) rfl (lb_ hsz) (wanted_none rfl) r_a0_18 (fun a0_18 fa0_18 => ?_)
  clear r_a0_18
  clear fa0_17
  refine fa0_18.move 42 (.bool false) _ (Or.inl rfl) rfl (lb_ hsz) (wanted_none rfl) (fa0_18.at_ 41) (fun a0_19 fa0_19 => ?_)
  clear fa0_18
  refine fa0_19.move 43 (.slice a8 m c8) _ (Or.inl rfl) rfl (lb_ hsz) ((wanted_at (t := 42) (c := false) (b := false) rfl rfl rfl (lb_ (fa0_19.size.trans hsz)) (fa0_19.at_ 42)).trans (by rfl)) (fa0_19.at_ 8) (fun a0_20 fa0_20 => ?_)
  clear fa0_19
  have r_a0_21 : (execOp a0_20.eval { dst := some 44, op := Op.call { callee := Callee.value (Operand.func 11), args := #[Operand.tmp 43], argTypes := #[22] }, type := 32, pos := "law.go:84", after := #[{ on := 11, ground := Ground.data }, { on := 10, ground := Ground.chain }, { on := 10, ground := Ground.guard }], guard := some (10, false) }).run Try.prog (W11) = .ok (.enter 11 #[.slice a8 m c8]) (W11) := by
    have kf : ∀ f, a0_20.eval (.func f) = .func (.func f) #[] #[] := fun _ => rfl
    have e43 := (show a0_20.eval (.tmp 43) = .slice a8 m c8 from (fa0_20.at_ 43))
    clear fa0_20 hQ h0 h3 h5 h6 h7 hw hm2 hKl
    generalize a0_20.eval = ρ at *
    go_simp
  refine fa0_20.call 44 rfl (lb_ hsz) ((wanted_at (t := 42) (c := false) (b := false) rfl rfl rfl (lb_ (fa0_20.size.trans hsz)) (fa0_20.at_ 42)).trans (by rfl)) r_a0_21 (inner_calls W11 (br8.same s_2) L8.symm (by omega)) (fun e W12 hR => ?_)
  obtain ⟨x1, y1, rfl, o1, s12⟩ := hR
  clear r_a0_21
  have s_3 : Same W9 W12 := s_2.trans s12
  refine ⟨_, rfl, fun a0_21 fa0_21 => ?_⟩
  clear fa0_20
  refine fa0_21.move 45 (.slice a9 m c9) _ (Or.inl rfl) rfl (lb_ hsz) ((wanted_at (t := 42) (c := false) (b := false) rfl rfl rfl (lb_ (fa0_21.size.trans hsz)) (fa0_21.at_ 42)).trans (by rfl)) (fa0_21.at_ 9) (fun a0_22 fa0_22 => ?_)
  clear fa0_21
  have r_a0_23 : (execOp a0_22.eval { dst := some 46, op := Op.call { callee := Callee.value (Operand.func 11), args := #[Operand.tmp 45], argTypes := #[22] }, type := 32, pos := "law.go:84", after := #[{ on := 13, ground := Ground.data }, { on := 12, ground := Ground.chain }, { on := 10, ground := Ground.guard }], guard := some (10, false) }).run Try.prog (W12) = .ok (.enter 11 #[.slice a9 m c9]) (W12) := by
    have kf : ∀ f, a0_22.eval (.func f) = .func (.func f) #[] #[] := fun _ => rfl
    have e45 := (show a0_22.eval (.tmp 45) = .slice a9 m c9 from (fa0_22.at_ 45))
    clear fa0_22 hQ h0 h3 h5 h6 h7 hw hm2 hKl
    generalize a0_22.eval = ρ at *
    go_simp
  refine fa0_22.call 46 rfl (lb_ hsz) ((wanted_at (t := 42) (c := false) (b := false) rfl rfl rfl (lb_ (fa0_22.size.trans hsz)) (fa0_22.at_ 42)).trans (by rfl)) r_a0_23 (inner_calls W12 (br9.same s_3) L9.symm (by omega)) (fun e W13 hR => ?_)
  obtain ⟨x2, y2, rfl, o2, s13⟩ := hR
  clear r_a0_23
  have s_4 : Same W9 W13 := s_3.trans s13
  have o1b := own_frameB o1 s13 (fun _ _ f => f)
  obtain ⟨v5, W14, hr5, o5, g5⟩ := run_partNss W13 32 o1b (own_slPart o2) (by show m + m ≤ _; omega) (Nat.le_trans s12.size s13.size)
  obtain ⟨a5, c5, rfl⟩ := own_shape o5
  have s14 : Same W11 W14 := Fr.trans (s12.trans s13) (Fr.grown (S := fun k => (Value.slice x1 m y1).ownBlock = some k) (Fr.refl _ _) g5 (fun k e _ => e)) (fun k hk e => by have := own_blk o1 k e; omega)
  refine ⟨_, rfl, fun a0_23 fa0_23 => ?_⟩
  clear fa0_22
  have r_a0_24 : (execOp a0_23.eval { dst := some 47, op := Op.call { callee := Callee.builtin Builtin.append, args := #[Operand.tmp 44, Operand.tmp 46], argTypes := #[32, 32] }, type := 32, pos := "law.go:84", after := #[{ on := 12, ground := Ground.data }, { on := 14, ground := Ground.data }, { on := 14, ground := Ground.chain }, { on := 10, ground := Ground.guard }], guard := some (10, false) }).run Try.prog (W13) = .ok (.value (.slice a5 (m + m) c5)) (W14) := by
    refine exec_append rfl ?_
    rw [(show a0_23.eval (.tmp 44) = .slice x1 m y1 from (fa0_23.at_ 44)), (show a0_23.eval (.tmp 46) = .slice x2 m y2 from (fa0_23.at_ 46))]
    exact hr5
  refine fa0_23.stepW 47 (.slice a5 (m + m) c5) rfl (lb_ hsz) ((wanted_at (t := 42) (c := false) (b := false) rfl rfl rfl (lb_ (fa0_23.size.trans hsz)) (fa0_23.at_ 42)).trans (by rfl)) r_a0_24 (fun a0_24 fa0_24 => ?_)
  clear r_a0_24
  clear fa0_23
  refine fa0_24.move 48 (.slice a8 m c8) _ (Or.inl rfl) rfl (lb_ hsz) ((wanted_at (t := 42) (c := false) (b := false) rfl rfl rfl (lb_ (fa0_24.size.trans hsz)) (fa0_24.at_ 42)).trans (by rfl)) (fa0_24.at_ 8) (fun a0_25 fa0_25 => ?_)
  clear fa0_24
  refine fa0_25.move 49 (.slice a9 m c9) _ (Or.inl rfl) rfl (lb_ hsz) ((wanted_at (t := 42) (c := false) (b := false) rfl rfl rfl (lb_ (fa0_25.size.trans hsz)) (fa0_25.at_ 42)).trans (by rfl)) (fa0_25.at_ 9) (fun a0_26 fa0_26 => ?_)
  clear fa0_25
  have r_a0_27 : (execOp a0_26.eval { dst := some 50, op := Op.buildSlice 34 2 #[(0, Operand.tmp 48), (1, Operand.tmp 49)], type := 34, pos := "law.go:84", after := #[{ on := 16, ground := Ground.data }, { on := 17, ground := Ground.data }, { on := 10, ground := Ground.guard }], guard := some (10, false) }).run Try.prog (W14) = .ok (.value (.slice (some ⟨W14.heap.size, 0, none⟩) 2 2)) (W14.alloc (.cells #[.slice a8 m c8, .slice a9 m c9] 22)) := by
    have e48 := (show a0_26.eval (.tmp 48) = .slice a8 m c8 from (fa0_26.at_ 48))
    have e49 := (show a0_26.eval (.tmp 49) = .slice a9 m c9 from (fa0_26.at_ 49))
    clear fa0_26 hQ h0 h3 h5 h6 h7 hw hm2 hKl
    generalize a0_26.eval = ρ at *
    go_simp
  refine fa0_26.stepW 50 (.slice (some ⟨W14.heap.size, 0, none⟩) 2 2) rfl (lb_ hsz) ((wanted_at (t := 42) (c := false) (b := false) rfl rfl rfl (lb_ (fa0_26.size.trans hsz)) (fa0_26.at_ 42)).trans (by rfl)) r_a0_27 (fun a0_27 fa0_27 => ?_)
  clear r_a0_27
  obtain ⟨W15, hW15⟩ : ∃ W15, W15 = W14.alloc (.cells #[.slice a8 m c8, .slice a9 m c9] 22) := ⟨_, rfl⟩
  rw [← hW15]
  have s15 : Same W14 W15 := by rw [hW15]; exact (Fr.refl _ W14).alloc _
  have hh15 : W15.heap[W14.heap.size]? = some (.cells #[.slice a8 m c8, .slice a9 m c9] 22 (0, 0)) := by rw [hW15]; exact heap_alloc_new W14 _
  have s_5 : Same W9 W15 := (s_2.trans s14).trans s15
  have s_6 : Same W8 W15 := s9.trans s_5
  have o5b : W15.ownsRow W11.heap.size 23 1 (.slice a5 (m + m) c5) (m + m) ((N8.map slB ++ N9.map slB).map Sl.v) := by rw [List.map_append]; exact own_frameB o5 s15 (fun _ _ f => f)
  obtain ⟨lb5, oL5⟩ := own_sls o5b
  have aL5 := apt_two A8 s_6 (A9.same s_5) hl8 hl9
  have aC5 := apt_chains A8 s_6 (A9.same s_5) (by omega) (by omega)
  rw [L8, L9] at aC5
  have oC5 : OutAt 22 W15 (some ⟨W14.heap.size, 0, none⟩) W14.heap.size 0 [⟨a8, m, c8⟩, ⟨a9, m, c9⟩] := ⟨fun _ => ⟨rfl, _, _, hh15⟩, fun i x hx => by
    rw [Nat.zero_add, cell_of_row _ _ _ _ _ _ hh15]
    match i, hx with
    | 0, hx => simpa using congrArg (Option.map Sl.v) hx
    | 1, hx => simpa using congrArg (Option.map Sl.v) hx⟩
  have hmk : ∀ k, inB (N8.map slB ++ N9.map slB) k ∨ inB [⟨a8, m, c8⟩, ⟨a9, m, c9⟩] k → wr.heap.size ≤ k := marks_ge A8 A9 s8.size
  clear fa0_26
  have r_a0_28 : (execOp a0_27.eval { dst := some 51, op := Op.call { callee := Callee.value (Operand.func 10), args := #[Operand.tmp 47, Operand.tmp 50], argTypes := #[32, 34] }, type := 4, pos := "law.go:84", after := #[{ on := 15, ground := Ground.data }, { on := 18, ground := Ground.data }, { on := 15, ground := Ground.chain }, { on := 10, ground := Ground.guard }], guard := some (10, false) }).run Try.prog (W15) = .ok (.enter 10 #[.slice a5 (m + m) c5, .slice (some ⟨W14.heap.size, 0, none⟩) 2 2]) (W15) := by
    have kf : ∀ f, a0_27.eval (.func f) = .func (.func f) #[] #[] := fun _ => rfl
    have e47 := (show a0_27.eval (.tmp 47) = .slice a5 (m + m) c5 from (fa0_27.at_ 47))
    have e50 := (show a0_27.eval (.tmp 50) = .slice (some ⟨W14.heap.size, 0, none⟩) 2 2 from (fa0_27.at_ 50))
    clear fa0_27 hQ h0 h3 h5 h6 h7 hw hm2 hKl
    generalize a0_27.eval = ρ at *
    go_simp
  refine fa0_27.call 51 rfl (lb_ hsz) ((wanted_at (t := 42) (c := false) (b := false) rfl rfl rfl (lb_ (fa0_27.size.trans hsz)) (fa0_27.at_ 42)).trans (by rfl)) r_a0_28 (apart_true (n := m + m) (m := 2) W15 (by rw [List.length_append, List.length_map, List.length_map, L8, L9]) rfl oL5 oC5 aL5 aC5 (by omega) (by decide)) (fun e W16 hR => ?_)
  obtain ⟨rfl, f16⟩ := hR
  clear r_a0_28
  refine ⟨_, rfl, fun a0_28 fa0_28 => ?_⟩
  clear fa0_27
  have r_a0_29 : (execOp a0_28.eval { dst := some 52, op := Op.unOp UnOp.not 4 (Operand.tmp 51), type := 4, pos := "law.go:84", after := #[{ on := 19, ground := Ground.data }, { on := 10, ground := Ground.guard }], guard := some (10, false) }).run Try.prog (W16) = .ok (.value (.bool false)) (W16) := by
    have e51 := (show a0_28.eval (.tmp 51) = .bool true from (fa0_28.at_ 51))
    clear fa0_28 hQ h0 h3 h5 h6 h7 hw hm2 hKl
    generalize a0_28.eval = ρ at *
    go_simp
  refine fa0_28.step 52 (.bool false) rfl (lb_ hsz) ((wanted_at (t := 42) (c := false) (b := false) rfl rfl rfl (lb_ (fa0_28.size.trans hsz)) (fa0_28.at_ 42)).trans (by rfl)) r_a0_29 (fun a0_29 fa0_29 => ?_)
  clear r_a0_29
  clear fa0_28
  have r_a0_30 : (execOp a0_29.eval { dst := some 53, op := Op.pick (Operand.tmp 42) (Operand.const (Value.bool true)) (Operand.tmp 52), type := 4, pos := "law.go:84", after := #[{ on := 10, ground := Ground.data }, { on := 20, ground := Ground.data }], guard := none }).run Try.prog (W16) = .ok (.value (.bool false)) (W16) := by
    have kc : ∀ v, a0_29.eval (.const v) = v := fun _ => rfl
    have e42 := (show a0_29.eval (.tmp 42) = .bool false from (fa0_29.at_ 42))
    have e52 := (show a0_29.eval (.tmp 52) = .bool false from (fa0_29.at_ 52))
    clear fa0_29 hQ h0 h3 h5 h6 h7 hw hm2 hKl
    generalize a0_29.eval = ρ at *
    go_simp
  refine fa0_29.step 53 (.bool false) rfl (lb_ hsz) (wanted_none rfl) r_a0_30 (fun a0_30 fa0_30 => ?_)
  clear r_a0_30
  clear fa0_29
  refine wpList_nil ?_
  have s_7 : Same wr W16 := Fr.trans (s8.trans s_6) f16 (fun k hk e => by have := hmk k e; omega)
  change Code.wp _ _ _ _ _
  refine wp_cond_false (show a0_30.eval (.tmp 53) = .bool false from (fa0_30.at_ 53)) (wp_skip ?_)
  change Code.wp _ _ _ _ _
  refine wp_seq ?_
  have c0z := s_7.keep c0
  have c1z := s_7.keep c1
  have b0z := s_7.keep b0
  have b1z := s_7.keep b1
  have b2z := s_7.keep b2
  have b3z := s_7.keep b3
  refine wp_region_list ?_
  unfold rFT8
  refine fa0_30.move 54 (.slice (some ⟨g, 0, none⟩) n cg) _ (Or.inl rfl) rfl (lb_ hsz) (wanted_none rfl) ((fa0_30.at_ 6).trans h6) (fun a0_31 fa0_31 => ?_)
  clear fa0_30
  refine fa0_31.move 55 (.slice pa n cp) _ (Or.inl rfl) rfl (lb_ hsz) (wanted_none rfl) ((fa0_31.at_ 0).trans h0) (fun a0_32 fa0_32 => ?_)
  clear fa0_31
  have r_a0_33 : (execOp a0_32.eval { dst := some 56, op := Op.call { callee := Callee.value (Operand.func 12), args := #[Operand.tmp 54, Operand.tmp 55], argTypes := #[22, 22] }, type := 4, pos := "law.go:87", after := #[{ on := 0, ground := Ground.data }, { on := 1, ground := Ground.data }], guard := none }).run Try.prog (W16) = .ok (.enter 12 #[.slice (some ⟨g, 0, none⟩) n cg, .slice pa n cp]) (W16) := by
    have kf : ∀ f, a0_32.eval (.func f) = .func (.func f) #[] #[] := fun _ => rfl
    have e54 := (show a0_32.eval (.tmp 54) = .slice (some ⟨g, 0, none⟩) n cg from (fa0_32.at_ 54))
    have e55 := (show a0_32.eval (.tmp 55) = .slice pa n cp from (fa0_32.at_ 55))
    clear fa0_32 hQ h0 h3 h5 h6 h7 hw hm2 hKl
    generalize a0_32.eval = ρ at *
    go_simp
  refine fa0_32.call 56 rfl (lb_ hsz) (wanted_none rfl) r_a0_33 (k1 W16 s_7) (fun e W17 hR => ?_)
  obtain ⟨rfl, s17⟩ := hR
  clear r_a0_33
  have s_8 : Same wr W17 := s_7.trans s17
  have c1y := s_8.keep c1
  have b1y := s_8.keep b1
  refine ⟨_, rfl, fun a0_33 fa0_33 => ?_⟩
  clear fa0_32
  refine fa0_33.move 57 (.bool true) _ (Or.inl rfl) rfl (lb_ hsz) (wanted_none rfl) (fa0_33.at_ 56) (fun a0_34 fa0_34 => ?_)
  clear fa0_33
  have r_a0_35 : (execOp a0_34.eval { dst := some 58, op := Op.fieldAddr 26 (Operand.tmp 7) 1, type := 0, pos := "law.go:87", after := #[{ on := 3, ground := Ground.guard }], guard := some (3, true) }).run Try.prog (W17) = .ok (.value (.pointer (some ⟨bx, 1, none⟩))) (W17) := by
    have e7 := (show a0_34.eval (.tmp 7) = .pointer (some ⟨bx, 0, none⟩) from ((fa0_34.at_ 7).trans h7))
    clear fa0_34 hQ h0 h3 h5 h6 h7 hw hm2 hKl
    generalize a0_34.eval = ρ at *
    go_simp
  refine fa0_34.step 58 (.pointer (some ⟨bx, 1, none⟩)) rfl (lb_ hsz) ((wanted_at (t := 57) (c := true) (b := true) rfl rfl rfl (lb_ (fa0_34.size.trans hsz)) (fa0_34.at_ 57)).trans (by rfl)) r_a0_35 (fun a0_35 fa0_35 => ?_)
  clear r_a0_35
  clear fa0_34
  have r_a0_36 : (execOp a0_35.eval { dst := some 59, op := Op.load 22 (Operand.tmp 58), type := 22, pos := "law.go:87", after := #[{ on := 4, ground := Ground.data }, { on := 3, ground := Ground.guard }], guard := some (3, true) }).run Try.prog (W17) = .ok (.value (.slice (some ⟨gl, 0, none⟩) ln cl)) (W17) := by
    have e58 := (show a0_35.eval (.tmp 58) = .pointer (some ⟨bx, 1, none⟩) from (fa0_35.at_ 58))
    clear fa0_35 hQ h0 h3 h5 h6 h7 hw hm2 hKl
    generalize a0_35.eval = ρ at *
    go_simp
  refine fa0_35.step 59 (.slice (some ⟨gl, 0, none⟩) ln cl) rfl (lb_ hsz) ((wanted_at (t := 57) (c := true) (b := true) rfl rfl rfl (lb_ (fa0_35.size.trans hsz)) (fa0_35.at_ 57)).trans (by rfl)) r_a0_36 (fun a0_36 fa0_36 => ?_)
  clear r_a0_36
  clear fa0_35
  have r_a0_37 : (execOp a0_36.eval { dst := some 60, op := Op.fieldAddr 26 (Operand.tmp 3) 1, type := 0, pos := "law.go:87", after := #[{ on := 3, ground := Ground.guard }], guard := some (3, true) }).run Try.prog (W17) = .ok (.value (.pointer (some ⟨tb, 1, none⟩))) (W17) := by
    have e3 := (show a0_36.eval (.tmp 3) = .pointer (some ⟨tb, 0, none⟩) from ((fa0_36.at_ 3).trans h3))
    clear fa0_36 hQ h0 h3 h5 h6 h7 hw hm2 hKl
    generalize a0_36.eval = ρ at *
    go_simp
  refine fa0_36.step 60 (.pointer (some ⟨tb, 1, none⟩)) rfl (lb_ hsz) ((wanted_at (t := 57) (c := true) (b := true) rfl rfl rfl (lb_ (fa0_36.size.trans hsz)) (fa0_36.at_ 57)).trans (by rfl)) r_a0_37 (fun a0_37 fa0_37 => ?_)
  clear r_a0_37
  clear fa0_36
  have r_a0_38 : (execOp a0_37.eval { dst := some 61, op := Op.load 22 (Operand.tmp 60), type := 22, pos := "law.go:87", after := #[{ on := 6, ground := Ground.data }, { on := 3, ground := Ground.guard }], guard := some (3, true) }).run Try.prog (W17) = .ok (.value (.slice la ln llc)) (W17) := by
    have e60 := (show a0_37.eval (.tmp 60) = .pointer (some ⟨tb, 1, none⟩) from (fa0_37.at_ 60))
    clear fa0_37 hQ h0 h3 h5 h6 h7 hw hm2 hKl
    generalize a0_37.eval = ρ at *
    go_simp
  refine fa0_37.step 61 (.slice la ln llc) rfl (lb_ hsz) ((wanted_at (t := 57) (c := true) (b := true) rfl rfl rfl (lb_ (fa0_37.size.trans hsz)) (fa0_37.at_ 57)).trans (by rfl)) r_a0_38 (fun a0_38 fa0_38 => ?_)
  clear r_a0_38
  clear fa0_37
  have r_a0_39 : (execOp a0_38.eval { dst := some 62, op := Op.call { callee := Callee.value (Operand.func 12), args := #[Operand.tmp 59, Operand.tmp 61], argTypes := #[22, 22] }, type := 4, pos := "law.go:87", after := #[{ on := 5, ground := Ground.data }, { on := 7, ground := Ground.data }, { on := 3, ground := Ground.chain }, { on := 3, ground := Ground.guard }], guard := some (3, true) }).run Try.prog (W17) = .ok (.enter 12 #[.slice (some ⟨gl, 0, none⟩) ln cl, .slice la ln llc]) (W17) := by
    have kf : ∀ f, a0_38.eval (.func f) = .func (.func f) #[] #[] := fun _ => rfl
    have e59 := (show a0_38.eval (.tmp 59) = .slice (some ⟨gl, 0, none⟩) ln cl from (fa0_38.at_ 59))
    have e61 := (show a0_38.eval (.tmp 61) = .slice la ln llc from (fa0_38.at_ 61))
    clear fa0_38 hQ h0 h3 h5 h6 h7 hw hm2 hKl
    generalize a0_38.eval = ρ at *
    go_simp
  refine fa0_38.call 62 rfl (lb_ hsz) ((wanted_at (t := 57) (c := true) (b := true) rfl rfl rfl (lb_ (fa0_38.size.trans hsz)) (fa0_38.at_ 57)).trans (by rfl)) r_a0_39 (k2 W17 s_8) (fun e W18 hR => ?_)
  obtain ⟨rfl, s18⟩ := hR
  clear r_a0_39
  have s_9 : Same wr W18 := s_8.trans s18
  have c0y := s_9.keep c0
  have b0y := s_9.keep b0
  refine ⟨_, rfl, fun a0_39 fa0_39 => ?_⟩
  clear fa0_38
  have r_a0_40 : (execOp a0_39.eval { dst := some 63, op := Op.pick (Operand.tmp 57) (Operand.tmp 62) (Operand.const (Value.bool false)), type := 4, pos := "law.go:87", after := #[{ on := 3, ground := Ground.data }, { on := 8, ground := Ground.data }], guard := none }).run Try.prog (W18) = .ok (.value (.bool true)) (W18) := by
    have kc : ∀ v, a0_39.eval (.const v) = v := fun _ => rfl
    have e57 := (show a0_39.eval (.tmp 57) = .bool true from (fa0_39.at_ 57))
    have e62 := (show a0_39.eval (.tmp 62) = .bool true from (fa0_39.at_ 62))
    clear fa0_39 hQ h0 h3 h5 h6 h7 hw hm2 hKl
    generalize a0_39.eval = ρ at *
    go_simp
  refine fa0_39.step 63 (.bool true) rfl (lb_ hsz) (wanted_none rfl) r_a0_40 (fun a0_40 fa0_40 => ?_)
  clear r_a0_40
  clear fa0_39
  refine fa0_40.move 64 (.bool true) _ (Or.inl rfl) rfl (lb_ hsz) (wanted_none rfl) (fa0_40.at_ 63) (fun a0_41 fa0_41 => ?_)
  clear fa0_40
  have r_a0_42 : (execOp a0_41.eval { dst := some 65, op := Op.fieldAddr 26 (Operand.tmp 7) 0, type := 0, pos := "law.go:87", after := #[{ on := 10, ground := Ground.guard }], guard := some (10, true) }).run Try.prog (W18) = .ok (.value (.pointer (some ⟨bx, 0, none⟩))) (W18) := by
    have e7 := (show a0_41.eval (.tmp 7) = .pointer (some ⟨bx, 0, none⟩) from ((fa0_41.at_ 7).trans h7))
    clear fa0_41 hQ h0 h3 h5 h6 h7 hw hm2 hKl
    generalize a0_41.eval = ρ at *
    go_simp
  refine fa0_41.step 65 (.pointer (some ⟨bx, 0, none⟩)) rfl (lb_ hsz) ((wanted_at (t := 64) (c := true) (b := true) rfl rfl rfl (lb_ (fa0_41.size.trans hsz)) (fa0_41.at_ 64)).trans (by rfl)) r_a0_42 (fun a0_42 fa0_42 => ?_)
  clear r_a0_42
  clear fa0_41
  have r_a0_43 : (execOp a0_42.eval { dst := some 66, op := Op.load 23 (Operand.tmp 65), type := 23, pos := "law.go:87", after := #[{ on := 11, ground := Ground.data }, { on := 10, ground := Ground.guard }], guard := some (10, true) }).run Try.prog (W18) = .ok (.value (.slice (some ⟨gt, 0, none⟩) tn ct)) (W18) := by
    have e65 := (show a0_42.eval (.tmp 65) = .pointer (some ⟨bx, 0, none⟩) from (fa0_42.at_ 65))
    clear fa0_42 hQ h0 h3 h5 h6 h7 hw hm2 hKl
    generalize a0_42.eval = ρ at *
    go_simp
  refine fa0_42.step 66 (.slice (some ⟨gt, 0, none⟩) tn ct) rfl (lb_ hsz) ((wanted_at (t := 64) (c := true) (b := true) rfl rfl rfl (lb_ (fa0_42.size.trans hsz)) (fa0_42.at_ 64)).trans (by rfl)) r_a0_43 (fun a0_43 fa0_43 => ?_)
  clear r_a0_43
  clear fa0_42
  have r_a0_44 : (execOp a0_43.eval { dst := some 67, op := Op.fieldAddr 26 (Operand.tmp 3) 0, type := 0, pos := "law.go:87", after := #[{ on := 10, ground := Ground.guard }], guard := some (10, true) }).run Try.prog (W18) = .ok (.value (.pointer (some ⟨tb, 0, none⟩))) (W18) := by
    have e3 := (show a0_43.eval (.tmp 3) = .pointer (some ⟨tb, 0, none⟩) from ((fa0_43.at_ 3).trans h3))
    clear fa0_43 hQ h0 h3 h5 h6 h7 hw hm2 hKl
    generalize a0_43.eval = ρ at *
    go_simp
  refine fa0_43.step 67 (.pointer (some ⟨tb, 0, none⟩)) rfl (lb_ hsz) ((wanted_at (t := 64) (c := true) (b := true) rfl rfl rfl (lb_ (fa0_43.size.trans hsz)) (fa0_43.at_ 64)).trans (by rfl)) r_a0_44 (fun a0_44 fa0_44 => ?_)
  clear r_a0_44
  clear fa0_43
  have r_a0_45 : (execOp a0_44.eval { dst := some 68, op := Op.load 23 (Operand.tmp 67), type := 23, pos := "law.go:87", after := #[{ on := 13, ground := Ground.data }, { on := 10, ground := Ground.guard }], guard := some (10, true) }).run Try.prog (W18) = .ok (.value (.slice ta tn tc)) (W18) := by
    have e67 := (show a0_44.eval (.tmp 67) = .pointer (some ⟨tb, 0, none⟩) from (fa0_44.at_ 67))
    clear fa0_44 hQ h0 h3 h5 h6 h7 hw hm2 hKl
    generalize a0_44.eval = ρ at *
    go_simp
  refine fa0_44.step 68 (.slice ta tn tc) rfl (lb_ hsz) ((wanted_at (t := 64) (c := true) (b := true) rfl rfl rfl (lb_ (fa0_44.size.trans hsz)) (fa0_44.at_ 64)).trans (by rfl)) r_a0_45 (fun a0_45 fa0_45 => ?_)
  clear r_a0_45
  clear fa0_44
  have r_a0_46 : (execOp a0_45.eval { dst := some 69, op := Op.call { callee := Callee.value (Operand.func 13), args := #[Operand.tmp 66, Operand.tmp 68], argTypes := #[23, 23] }, type := 4, pos := "law.go:87", after := #[{ on := 12, ground := Ground.data }, { on := 14, ground := Ground.data }, { on := 10, ground := Ground.chain }, { on := 10, ground := Ground.guard }], guard := some (10, true) }).run Try.prog (W18) = .ok (.enter 13 #[.slice (some ⟨gt, 0, none⟩) tn ct, .slice ta tn tc]) (W18) := by
    have kf : ∀ f, a0_45.eval (.func f) = .func (.func f) #[] #[] := fun _ => rfl
    have e66 := (show a0_45.eval (.tmp 66) = .slice (some ⟨gt, 0, none⟩) tn ct from (fa0_45.at_ 66))
    have e68 := (show a0_45.eval (.tmp 68) = .slice ta tn tc from (fa0_45.at_ 68))
    clear fa0_45 hQ h0 h3 h5 h6 h7 hw hm2 hKl
    generalize a0_45.eval = ρ at *
    go_simp
  refine fa0_45.call 69 rfl (lb_ hsz) ((wanted_at (t := 64) (c := true) (b := true) rfl rfl rfl (lb_ (fa0_45.size.trans hsz)) (fa0_45.at_ 64)).trans (by rfl)) r_a0_46 (k3 W18 s_9) (fun e W19 hR => ?_)
  obtain ⟨rfl, s19⟩ := hR
  clear r_a0_46
  have s_10 : Same wr W19 := s_9.trans s19
  have b0w := s_10.keep b0
  have b1w := s_10.keep b1
  have b2w := s_10.keep b2
  have b3w := s_10.keep b3
  refine ⟨_, rfl, fun a0_46 fa0_46 => ?_⟩
  clear fa0_45
  have r_a0_47 : (execOp a0_46.eval { dst := some 70, op := Op.pick (Operand.tmp 64) (Operand.tmp 69) (Operand.const (Value.bool false)), type := 4, pos := "law.go:87", after := #[{ on := 10, ground := Ground.data }, { on := 15, ground := Ground.data }], guard := none }).run Try.prog (W19) = .ok (.value (.bool true)) (W19) := by
    have kc : ∀ v, a0_46.eval (.const v) = v := fun _ => rfl
    have e64 := (show a0_46.eval (.tmp 64) = .bool true from (fa0_46.at_ 64))
    have e69 := (show a0_46.eval (.tmp 69) = .bool true from (fa0_46.at_ 69))
    clear fa0_46 hQ h0 h3 h5 h6 h7 hw hm2 hKl
    generalize a0_46.eval = ρ at *
    go_simp
  refine fa0_46.step 70 (.bool true) rfl (lb_ hsz) (wanted_none rfl) r_a0_47 (fun a0_47 fa0_47 => ?_)
  clear r_a0_47
  clear fa0_46
  refine fa0_47.move 71 (.bool true) _ (Or.inl rfl) rfl (lb_ hsz) (wanted_none rfl) (fa0_47.at_ 70) (fun a0_48 fa0_48 => ?_)
  clear fa0_47
  refine fa0_48.move 72 (.slice (some ⟨g, 0, none⟩) n cg) _ (Or.inl rfl) rfl (lb_ hsz) ((wanted_at (t := 71) (c := true) (b := true) rfl rfl rfl (lb_ (fa0_48.size.trans hsz)) (fa0_48.at_ 71)).trans (by rfl)) ((fa0_48.at_ 6).trans h6) (fun a0_49 fa0_49 => ?_)
  clear fa0_48
  have r_a0_50 : (execOp a0_49.eval { dst := some 73, op := Op.load 26 (Operand.tmp 7), type := 26, pos := "law.go:87", after := #[{ on := 17, ground := Ground.guard }], guard := some (17, true) }).run Try.prog (W19) = .ok (.value (.agg #[.slice (some ⟨gt, 0, none⟩) tn ct, .slice (some ⟨gl, 0, none⟩) ln cl, .int .i64 op, .int .u32 pgs])) (W19) := by
    have e7 := (show a0_49.eval (.tmp 7) = .pointer (some ⟨bx, 0, none⟩) from ((fa0_49.at_ 7).trans h7))
    clear fa0_49 hQ h0 h3 h5 h6 h7 hw hm2 hKl
    generalize a0_49.eval = ρ at *
    go_simp
  refine fa0_49.step 73 (.agg #[.slice (some ⟨gt, 0, none⟩) tn ct, .slice (some ⟨gl, 0, none⟩) ln cl, .int .i64 op, .int .u32 pgs]) rfl (lb_ hsz) ((wanted_at (t := 71) (c := true) (b := true) rfl rfl rfl (lb_ (fa0_49.size.trans hsz)) (fa0_49.at_ 71)).trans (by rfl)) r_a0_50 (fun a0_50 fa0_50 => ?_)
  clear r_a0_50
  clear fa0_49
  have r_a0_51 : (execOp a0_50.eval { dst := some 74, op := Op.call { callee := Callee.value (Operand.func 8), args := #[Operand.tmp 72, Operand.tmp 73], argTypes := #[22, 26] }, type := 22, pos := "law.go:87", after := #[{ on := 18, ground := Ground.data }, { on := 19, ground := Ground.data }, { on := 17, ground := Ground.chain }, { on := 17, ground := Ground.guard }], guard := some (17, true) }).run Try.prog (W19) = .ok (.enter 8 #[.slice (some ⟨g, 0, none⟩) n cg, .agg #[.slice (some ⟨gt, 0, none⟩) tn ct, .slice (some ⟨gl, 0, none⟩) ln cl, .int .i64 op, .int .u32 pgs]]) (W19) := by
    have kf : ∀ f, a0_50.eval (.func f) = .func (.func f) #[] #[] := fun _ => rfl
    have e72 := (show a0_50.eval (.tmp 72) = .slice (some ⟨g, 0, none⟩) n cg from (fa0_50.at_ 72))
    have e73 := (show a0_50.eval (.tmp 73) = .agg #[.slice (some ⟨gt, 0, none⟩) tn ct, .slice (some ⟨gl, 0, none⟩) ln cl, .int .i64 op, .int .u32 pgs] from (fa0_50.at_ 73))
    clear fa0_50 hQ h0 h3 h5 h6 h7 hw hm2 hKl
    generalize a0_50.eval = ρ at *
    go_simp
  refine fa0_50.call 74 rfl (lb_ hsz) ((wanted_at (t := 71) (c := true) (b := true) rfl rfl rfl (lb_ (fa0_50.size.trans hsz)) (fa0_50.at_ 71)).trans (by rfl)) r_a0_51 (kA W19 s_10) (fun e W20 hR => ?_)
  obtain ⟨a20, c20, N20, rfl, A20, K20, L20, s20⟩ := hR
  clear r_a0_51
  obtain ⟨g20, br20⟩ := new_br A20.row A20.new_ (keyLen K20 hKl)
  have kS20 : Calls Try.prog 9 #[.slice a20 m c20, .slice ow m cw] W20 fun e w' => e = .returned (.bool true) ∧ Same W20 w' := by
    have := sameB_true (cp := c20) (cp2 := cw) W20 br20 (hw.same (s_10.trans s20)) (K20.trans hwK.symm) (by omega)
    rw [L20, hwm] at this
    exact this
  refine ⟨_, rfl, fun a0_51 fa0_51 => ?_⟩
  clear fa0_50
  refine fa0_51.move 75 (.slice ow m cw) _ (Or.inl rfl) rfl (lb_ hsz) ((wanted_at (t := 71) (c := true) (b := true) rfl rfl rfl (lb_ (fa0_51.size.trans hsz)) (fa0_51.at_ 71)).trans (by rfl)) ((fa0_51.at_ 5).trans h5) (fun a0_52 fa0_52 => ?_)
  clear fa0_51
  have r_a0_53 : (execOp a0_52.eval { dst := some 76, op := Op.call { callee := Callee.value (Operand.func 9), args := #[Operand.tmp 74, Operand.tmp 75], argTypes := #[22, 22] }, type := 4, pos := "law.go:87", after := #[{ on := 20, ground := Ground.data }, { on := 21, ground := Ground.data }, { on := 20, ground := Ground.chain }, { on := 17, ground := Ground.guard }], guard := some (17, true) }).run Try.prog (W20) = .ok (.enter 9 #[.slice a20 m c20, .slice ow m cw]) (W20) := by
    have kf : ∀ f, a0_52.eval (.func f) = .func (.func f) #[] #[] := fun _ => rfl
    have e74 := (show a0_52.eval (.tmp 74) = .slice a20 m c20 from (fa0_52.at_ 74))
    have e75 := (show a0_52.eval (.tmp 75) = .slice ow m cw from (fa0_52.at_ 75))
    clear fa0_52 hQ h0 h3 h5 h6 h7 hw hm2 hKl
    generalize a0_52.eval = ρ at *
    go_simp
  refine fa0_52.call 76 rfl (lb_ hsz) ((wanted_at (t := 71) (c := true) (b := true) rfl rfl rfl (lb_ (fa0_52.size.trans hsz)) (fa0_52.at_ 71)).trans (by rfl)) r_a0_53 (kS20) (fun e W21 hR => ?_)
  obtain ⟨rfl, s21⟩ := hR
  clear r_a0_53
  refine ⟨_, rfl, fun a0_53 fa0_53 => ?_⟩
  clear fa0_52
  have r_a0_54 : (execOp a0_53.eval { dst := some 77, op := Op.pick (Operand.tmp 71) (Operand.tmp 76) (Operand.const (Value.bool false)), type := 4, pos := "law.go:87", after := #[{ on := 17, ground := Ground.data }, { on := 22, ground := Ground.data }], guard := none }).run Try.prog (W21) = .ok (.value (.bool true)) (W21) := by
    have kc : ∀ v, a0_53.eval (.const v) = v := fun _ => rfl
    have e71 := (show a0_53.eval (.tmp 71) = .bool true from (fa0_53.at_ 71))
    have e76 := (show a0_53.eval (.tmp 76) = .bool true from (fa0_53.at_ 76))
    clear fa0_53 hQ h0 h3 h5 h6 h7 hw hm2 hKl
    generalize a0_53.eval = ρ at *
    go_simp
  refine fa0_53.step 77 (.bool true) rfl (lb_ hsz) (wanted_none rfl) r_a0_54 (fun a0_54 fa0_54 => ?_)
  clear r_a0_54
  clear fa0_53
  refine fa0_54.move 78 (.bool true) _ (Or.inl rfl) rfl (lb_ hsz) (wanted_none rfl) (fa0_54.at_ 77) (fun a0_55 fa0_55 => ?_)
  clear fa0_54
  have r_a0_56 : (execOp a0_55.eval { dst := some 79, op := Op.call { callee := Callee.value (Operand.func 14), args := #[], argTypes := #[] }, type := 4, pos := "law.go:87", after := #[{ on := 24, ground := Ground.chain }, { on := 24, ground := Ground.guard }], guard := some (24, true) }).run Try.prog (W21) = .ok (.enter 14 #[]) (W21) := by
    have kf : ∀ f, a0_55.eval (.func f) = .func (.func f) #[] #[] := fun _ => rfl
    clear fa0_55 hQ h0 h3 h5 h6 h7 hw hm2 hKl
    generalize a0_55.eval = ρ at *
    go_simp
  refine fa0_55.call 79 rfl (lb_ hsz) ((wanted_at (t := 78) (c := true) (b := true) rfl rfl rfl (lb_ (fa0_55.size.trans hsz)) (fa0_55.at_ 78)).trans (by rfl)) r_a0_56 (ka W21) (fun e W22 hR => ?_)
  obtain ⟨rfl, s22⟩ := hR
  clear r_a0_56
  refine ⟨_, rfl, fun a0_56 fa0_56 => ?_⟩
  clear fa0_55
  have r_a0_57 : (execOp a0_56.eval { dst := some 80, op := Op.pick (Operand.tmp 78) (Operand.tmp 79) (Operand.const (Value.bool false)), type := 4, pos := "law.go:87", after := #[{ on := 24, ground := Ground.data }, { on := 25, ground := Ground.data }], guard := none }).run Try.prog (W22) = .ok (.value (.bool true)) (W22) := by
    have kc : ∀ v, a0_56.eval (.const v) = v := fun _ => rfl
    have e78 := (show a0_56.eval (.tmp 78) = .bool true from (fa0_56.at_ 78))
    have e79 := (show a0_56.eval (.tmp 79) = .bool true from (fa0_56.at_ 79))
    clear fa0_56 hQ h0 h3 h5 h6 h7 hw hm2 hKl
    generalize a0_56.eval = ρ at *
    go_simp
  refine fa0_56.step 80 (.bool true) rfl (lb_ hsz) (wanted_none rfl) r_a0_57 (fun a0_57 fa0_57 => ?_)
  clear r_a0_57
  clear fa0_56
  refine fa0_57.move 4 (.bool true) _ (Or.inr rfl) rfl (lb_ hsz) (wanted_none rfl) (fa0_57.at_ 80) (fun a0_58 fa0_58 => ?_)
  clear fa0_57
  refine wpList_nil ?_
  change Code.wp _ _ _ _ _
  refine wp_ret ?_
  exact hQ a0_58 W22 (fa0_58.defers.trans hd) (show a0_58.eval (.tmp 4) = .bool true from (fa0_58.at_ 4)) (((s_10.trans s20).trans s21).trans s22)
theorem wt_keyZ : ∀ (L M : List Bt), M.map Bt.key = L.map Bt.key → wt M = wt L
  | [], [], _ => rfl
  | [], _ :: _, h => by simp at h
  | _ :: _, [], h => by simp at h
  | x :: L, y :: M, h => by
    simp only [List.map_cons, List.cons.injEq] at h
    have hns : y.ns = x.ns := congrArg Prod.snd h.1
    unfold wt
    rw [hns, wt_keyZ L M h.2]
theorem wt_appZ (a b : List Bt) : wt (a ++ b) = wt a + wt b := by
  induction a with
  | nil => simp [wt]
  | cons x a ih => simp only [List.cons_append, wt, ih]; omega
theorem wt_dropZ (M : List Bt) (k : Nat) : wt (M.drop k) ≤ wt M := by
  have := wt_appZ (M.take k) (M.drop k)
  rw [List.take_append_drop] at this
  omega
set_option maxRecDepth 100000 in
set_option maxHeartbeats 2000000 in
theorem fafters_walk {op : Int} {n cp pb po tn tc tb to_ ln llc lb lo pgs : Nat} {pa ta la : Option Addr} {M ML : List Bt} {T : List Nat} (w : World) (hM : BiRow w pa pb po M) (hML : BiRow w la lb lo ML) (hTn : NIn w ta tb to_ tc T) (hn : n = M.length) (hln : ln = ML.length) (hT : tn = T.length) (hTl : T.length ≤ 1048576) (hwt : wt M + wt ML ≤ 1048576) :
    Calls Try.prog 3 #[.slice pa n cp, .agg #[.slice ta tn tc, .slice la ln llc, .int .i64 op, .int .u32 (pgs : Int)]] w fun e w' => e = .returned (.bool true) ∧ Same w w' := by
  obtain ⟨k, hk⟩ : ∃ k : Nat, (k : Int) = min (max op 0) (n : Int) := Int.eq_ofNat_of_zero_le (by omega) |>.imp fun k h => h.symm
  obtain ⟨KEY, hKEY⟩ : ∃ KEY, KEY = (ML ++ M.drop k).map Bt.key := ⟨_, rfl⟩
  obtain ⟨m, hmK⟩ : ∃ m, m = KEY.length := ⟨_, rfl⟩
  have hwk : wt (ML ++ M.drop k) ≤ 1048576 := by rw [wt_appZ]; have := wt_dropZ M k; omega
  have hm2 : m ≤ 1100000 := by have h1 := wt_len M; have h2 := wt_len ML; rw [hmK, hKEY, List.length_map, List.length_append, List.length_drop]; omega
  have hKl : ∀ y ∈ KEY, y.2.length ≤ 1099511627000 := fun y hy => by
    rw [hKEY] at hy
    obtain ⟨x, hx, rfl⟩ := List.mem_map.1 hy
    have := wt_mem hx
    show x.ns.length ≤ _
    omega
  have kD : ∀ Z, Same w Z → Calls Try.prog 5 #[.slice pa n cp, .agg #[.slice ta tn tc, .slice la ln llc, .int .i64 op, .int .u32 (pgs : Int)]] Z fun e w' => ∃ ao cc N, e = .returned (.slice ao m cc) ∧ WntAt Z w' ao cc N ∧ N.map Bt.key = KEY ∧ N.length = m ∧ Same Z w' := fun Z s => by
    refine (dafter_calls (k := k) Z (hM.same s) (hML.same s) hn hln hk hwt).mono fun e w' ⟨ao, cc, N, h1, h2, h3, h4⟩ => ?_
    have h5 : N.length = m := by have := congrArg List.length h3; rw [List.length_map, ← hKEY, ← hmK] at this; exact this
    rw [h5] at h1
    exact ⟨ao, cc, N, h1, h2, h3.trans hKEY.symm, h5, h4⟩
  refine calls_abs (c := cFT) Try.func3 (by kernel_rfl) 81 rfl (by simp) (fun a0 hsz hd ha => ?_)
  have fa0_0 := Fe.refl a0
  unfold cFT
  refine wp_seq ?_
  refine wp_region_list ?_
  unfold rFT0
  have r_a0_1 : (execOp a0.eval { dst := some 3, op := Op.box 26 (Operand.tmp 1), type := 0, pos := "law.go:78", after := #[], guard := none }).run Try.prog (w) = .ok (.value (.pointer (some ⟨w.heap.size, 0, none⟩))) (w.alloc (.cells #[.slice ta tn tc, .slice la ln llc, .int .i64 op, .int .u32 (pgs : Int)] 26)) := by
    have e1 := (show a0.eval (.tmp 1) = .agg #[.slice ta tn tc, .slice la ln llc, .int .i64 op, .int .u32 (pgs : Int)] from ((fa0_0.at_ 1).trans (ha 1 _ rfl)))
    clear fa0_0 ha hn hln hT hk
    generalize a0.eval = ρ at *
    go_simp
  refine fa0_0.stepW 3 (.pointer (some ⟨w.heap.size, 0, none⟩)) rfl (lb_ hsz) (wanted_none rfl) r_a0_1 (fun a0_1 fa0_1 => ?_)
  clear r_a0_1
  clear fa0_0
  refine fa0_1.move 4 (.bool false) _ (Or.inr rfl) rfl (lb_ hsz) (wanted_none rfl) rfl (fun a0_2 fa0_2 => ?_)
  clear fa0_1
  refine wpList_nil ?_
  obtain ⟨V, hV⟩ : ∃ V, V = w.alloc (.cells #[.slice ta tn tc, .slice la ln llc, .int .i64 op, .int .u32 (pgs : Int)] 26) := ⟨_, rfl⟩
  rw [← hV]
  have sV : Same w V := by rw [hV]; exact (Fr.refl _ w).alloc _
  have r1 : V.heap[w.heap.size]? = some (.cells #[.slice ta tn tc, .slice la ln llc, .int .i64 op, .int .u32 (pgs : Int)] 26 (0, 0)) := by rw [hV]; exact heap_alloc_new w _
  have c0 : V.cell? ⟨w.heap.size, 0, none⟩ = some (.slice ta tn tc) := (cell_of_row _ _ _ _ _ _ r1).trans rfl
  have c1 : V.cell? ⟨w.heap.size, 1, none⟩ = some (.slice la ln llc) := (cell_of_row _ _ _ _ _ _ r1).trans rfl
  have c2 : V.cell? ⟨w.heap.size, 2, none⟩ = some (.int .i64 op) := (cell_of_row _ _ _ _ _ _ r1).trans rfl
  have c3 : V.cell? ⟨w.heap.size, 3, none⟩ = some (.int .u32 (pgs : Int)) := (cell_of_row _ _ _ _ _ _ r1).trans rfl
  clear hV
  change Code.wp _ _ _ _ _
  refine wp_seq ?_
  refine wp_region_list ?_
  unfold rFT1
  refine fa0_2.move 10 (.slice pa n cp) _ (Or.inl rfl) rfl (lb_ hsz) (wanted_none rfl) ((fa0_2.at_ 0).trans (ha 0 _ rfl)) (fun a0_3 fa0_3 => ?_)
  clear fa0_2
  have r_a0_4 : (execOp a0_3.eval { dst := some 11, op := Op.load 26 (Operand.tmp 3), type := 26, pos := "law.go:79", after := #[], guard := none }).run Try.prog (V) = .ok (.value (.agg #[.slice ta tn tc, .slice la ln llc, .int .i64 op, .int .u32 (pgs : Int)])) (V) := by
    have e3 := (show a0_3.eval (.tmp 3) = .pointer (some ⟨w.heap.size, 0, none⟩) from (fa0_3.at_ 3))
    clear fa0_3 ha hn hln hT hk
    generalize a0_3.eval = ρ at *
    go_simp
  refine fa0_3.step 11 (.agg #[.slice ta tn tc, .slice la ln llc, .int .i64 op, .int .u32 (pgs : Int)]) rfl (lb_ hsz) (wanted_none rfl) r_a0_4 (fun a0_4 fa0_4 => ?_)
  clear r_a0_4
  clear fa0_3
  have r_a0_5 : (execOp a0_4.eval { dst := some 12, op := Op.call { callee := Callee.value (Operand.func 5), args := #[Operand.tmp 10, Operand.tmp 11], argTypes := #[22, 26] }, type := 22, pos := "law.go:79", after := #[{ on := 0, ground := Ground.data }, { on := 1, ground := Ground.data }], guard := none }).run Try.prog (V) = .ok (.enter 5 #[.slice pa n cp, .agg #[.slice ta tn tc, .slice la ln llc, .int .i64 op, .int .u32 (pgs : Int)]]) (V) := by
    have kf : ∀ f, a0_4.eval (.func f) = .func (.func f) #[] #[] := fun _ => rfl
    have e10 := (show a0_4.eval (.tmp 10) = .slice pa n cp from (fa0_4.at_ 10))
    have e11 := (show a0_4.eval (.tmp 11) = .agg #[.slice ta tn tc, .slice la ln llc, .int .i64 op, .int .u32 (pgs : Int)] from (fa0_4.at_ 11))
    clear fa0_4 ha hn hln hT hk
    generalize a0_4.eval = ρ at *
    go_simp
  refine fa0_4.call 12 rfl (lb_ hsz) (wanted_none rfl) r_a0_5 (kD V sV) (fun e W5 hR => ?_)
  obtain ⟨ow, cw, NW, rfl, AW, KW, LW, s5⟩ := hR
  clear r_a0_5
  refine ⟨_, rfl, fun a0_5 fa0_5 => ?_⟩
  clear fa0_4
  refine fa0_5.move 5 (.slice ow m cw) _ (Or.inr rfl) rfl (lb_ hsz) (wanted_none rfl) (fa0_5.at_ 12) (fun a0_6 fa0_6 => ?_)
  clear fa0_5
  refine wpList_nil ?_
  change Code.wp _ _ _ _ _
  refine wp_seq ?_
  refine wp_region_list ?_
  unfold rFT2
  refine fa0_6.move 13 (.slice pa n cp) _ (Or.inl rfl) rfl (lb_ hsz) (wanted_none rfl) ((fa0_6.at_ 0).trans (ha 0 _ rfl)) (fun a0_7 fa0_7 => ?_)
  clear fa0_6
  have r_a0_8 : (execOp a0_7.eval { dst := some 14, op := Op.call { callee := Callee.value (Operand.func 6), args := #[Operand.tmp 13], argTypes := #[22] }, type := 22, pos := "law.go:80", after := #[{ on := 0, ground := Ground.data }], guard := none }).run Try.prog (W5) = .ok (.enter 6 #[.slice pa n cp]) (W5) := by
    have kf : ∀ f, a0_7.eval (.func f) = .func (.func f) #[] #[] := fun _ => rfl
    have e13 := (show a0_7.eval (.tmp 13) = .slice pa n cp from (fa0_7.at_ 13))
    clear fa0_7 ha hn hln hT hk
    generalize a0_7.eval = ρ at *
    go_simp
  refine fa0_7.call 14 rfl (lb_ hsz) (wanted_none rfl) r_a0_8 (lentC_calls W5 (hM.same (sV.trans s5)) hn (by omega)) (fun e W7 hR => ?_)
  obtain ⟨g, cg, M1, rfl, l7, s7⟩ := hR
  clear r_a0_8
  refine ⟨_, rfl, fun a0_8 fa0_8 => ?_⟩
  clear fa0_7
  refine fa0_8.move 6 (.slice (some ⟨g, 0, none⟩) n cg) _ (Or.inr rfl) rfl (lb_ hsz) (wanted_none rfl) (fa0_8.at_ 14) (fun a0_9 fa0_9 => ?_)
  clear fa0_8
  refine wpList_nil ?_
  have s57 : Same V W7 := s5.trans s7
  change Code.wp _ _ _ _ _
  refine wp_seq ?_
  refine ft3 (T := T) (ML := ML) (by intro c a d v w h; cases d <;> exact h) a0_9 W7 (fa0_9.size.trans hsz) (show a0_9.eval (.tmp 3) = .pointer (some ⟨w.heap.size, 0, none⟩) from (fa0_9.at_ 3)) (s57.keep c0) (s57.keep c1) (s57.keep c2) (s57.keep c3) (fun Z s => ?_) (fun Z s => ?_) (fun b W bx gt ct gl cl ML2 env fe kp h7 rb n8 l8 s8 => ?_)
  · have := lentN_calls Z (hTn.same ((sV.trans s57).trans s)) (by omega)
    rw [← hT] at this
    exact this.mono fun e w' ⟨x, y, h1, h2, h3⟩ => ⟨x, y, h1, own_base h2 s.size, h3⟩
  · refine (lentC_calls Z (hML.same ((sV.trans s57).trans s)) hln (by omega)).mono fun e w' ⟨x, y, z, h1, h2, h3⟩ => ⟨x, y, z, h1, h2.low s.size, h3⟩
  change Code.wp _ _ _ _ _
  have sVW : Same V W := s57.trans s8
  have l7w := l7.same s8
  obtain ⟨gw, bw⟩ := new_br AW.row AW.new_ (keyLen KW hKl)
  have hk1 := l7.len hn
  have hk2 := l8.len hln
  have bM1 : ∀ Z, Same W Z → BvRow Z (some ⟨g, 0, none⟩) g 0 M1 := fun Z s => (l7w.same s).bv (hM.same ((sV.trans sVW).trans s)).row
  have bM2 : ∀ Z, Same W Z → BvRow Z (some ⟨gl, 0, none⟩) gl 0 ML2 := fun Z s => (l8.same s).bv (hML.same ((sV.trans sVW).trans s)).row
  have hcap := own_capF l7.row
  have hkey : (ML2 ++ M1.drop k).map Bt.key = KEY := by rw [List.map_append, List.map_drop, l7.key, l8.key, ← List.map_drop, ← List.map_append, ← hKEY]
  have kY : ∀ Z, Same W Z → Calls Try.prog 8 #[.slice (some ⟨g, 0, none⟩) n cg, .agg #[.slice (some ⟨gt, 0, none⟩) tn ct, .slice (some ⟨gl, 0, none⟩) ln cl, .int .i64 op, .int .u32 (pgs : Int)]] Z fun e w' => AftIs m KEY Z e w' := fun Z s => by
    refine (fafter_calls (k := k) Z (bM1 Z s) (bM2 Z s) hk1.symm hk2.symm (by omega) hk (by rw [wt_keyZ (ML ++ M.drop k) (ML2 ++ M1.drop k) (hkey.trans hKEY)]; exact hwk)).mono fun e w' ⟨ao, cc, N, h1, h2, h3, h4⟩ => ?_
    have h5 : N.length = m := by have := congrArg List.length (h3.trans hkey); rw [List.length_map] at this; rw [this, hmK]
    rw [h5] at h1
    exact ⟨ao, cc, N, h1, h2, h3.trans hkey, h5, h4⟩
  refine ftB (m := m) (KEY := KEY) (NW := NW) (gw := gw) b W (fe.size.trans (fa0_9.size.trans hsz)) (fe.defers.trans (fa0_9.defers.trans hd)) (((fe.at_ 0).trans (kp 0 (by simp))).trans (show a0_9.eval (.tmp 0) = .slice pa n cp from ((fa0_9.at_ 0).trans (ha 0 _ rfl)))) (((fe.at_ 3).trans (kp 3 (by simp))).trans (show a0_9.eval (.tmp 3) = .pointer (some ⟨w.heap.size, 0, none⟩) from (fa0_9.at_ 3))) (((fe.at_ 5).trans (kp 5 (by simp))).trans (show a0_9.eval (.tmp 5) = .slice ow m cw from (fa0_9.at_ 5))) (((fe.at_ 6).trans (kp 6 (by simp))).trans (show a0_9.eval (.tmp 6) = .slice (some ⟨g, 0, none⟩) n cg from (fa0_9.at_ 6))) h7 (sVW.keep c0) (sVW.keep c1) ((cell_of_row _ _ _ _ _ _ rb).trans rfl) ((cell_of_row _ _ _ _ _ _ rb).trans rfl) ((cell_of_row _ _ _ _ _ _ rb).trans rfl) ((cell_of_row _ _ _ _ _ _ rb).trans rfl) (bw.same (s7.trans s8)) KW LW (by omega) hKl kY (fun Z s => ?_) (fun Z s => ?_) (fun Z s => ?_) awake9_calls (fun a' W' hd' h4 s => ?_)
  · exact keptC_true Z (hM.same ((sV.trans sVW).trans s)).row (l7w.same s) hn (by omega)
  · exact keptC_true Z (hML.same ((sV.trans sVW).trans s)).row (l8.same s) hln (by omega)
  · have := keptN_true (cp := tc) Z (LentN.same n8 s) (hTn.same ((sV.trans sVW).trans s)).row (by omega)
    rw [← hT] at this
    exact this
  · exact ret_abs rfl hd' h4 ⟨rfl, (sV.trans sVW).trans s⟩
end Go.Proofs.Ytneopkhkkfckcaa
