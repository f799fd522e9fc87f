/- The walk of DiskForks. -/
import Derived.Test.YtjiaepeglghheaaOW
import Derived.Test.YtjiaepeglghheaaOY
namespace Go.Proofs.Ytjiaepeglghheaa
open Go.RowKit

def playsD (D : Dk) (L : List Sp) : Dk := L.foldl playD D
theorem playsD_snoc {D : Dk} {L : List Sp} {s : Sp} {i : Nat} (h : L[i]? = some s) : playsD D (L.take (i + 1)) = playD (playsD D (L.take i)) s := by
  unfold playsD
  rw [List.take_add_one, h, Option.toList_some, List.foldl_append]; rfl
theorem playsD_all {D : Dk} {L : List Sp} : playsD D (L.take L.length) = playsD D L := by rw [List.take_length]
theorem plays_in : ∀ {L : List Sp} {D : Dk} {n : Nat}, DkIn D n → DkIn (playsD D L) (n + L.length)
  | [], D, n, h => h
  | s :: L, D, n, h => by
    have := plays_in (L := L) (play_in (s := s) h)
    rw [List.length_cons, show n + (L.length + 1) = n + 1 + L.length by omega]
    exact this
theorem play_off (D : Dk) (s : Sp) : (playD D s).off = D.off ∧ (playD D s).taken = D.taken := by
  unfold playD
  split
  · unfold dkWrite; split <;> exact ⟨rfl, rfl⟩
  · split
    · unfold dkGrow; split <;> exact ⟨rfl, rfl⟩
    · split
      · split <;> exact ⟨rfl, rfl⟩
      · exact ⟨rfl, rfl⟩
theorem plays_off : ∀ (L : List Sp) (D : Dk), (playsD D L).off = D.off ∧ (playsD D L).taken = D.taken
  | [], D => ⟨rfl, rfl⟩
  | s :: L, D => by
    have h1 := plays_off L (playD D s)
    have h2 := play_off D s
    exact ⟨h1.1.trans h2.1, h1.2.trans h2.2⟩
structure IPD (v0 v1 v2 v7 v10 v11 : Value) (a : Act) : Prop where
  size : a.tmps.size = 126
  defers : a.defers = []
  s0 : a.eval (.tmp 0) = v0
  s1 : a.eval (.tmp 1) = v1
  s2 : a.eval (.tmp 2) = v2
  s7 : a.eval (.tmp 7) = v7
  s10 : a.eval (.tmp 10) = v10
  s11 : a.eval (.tmp 11) = v11
theorem IPD.keep {v0 v1 v2 v7 v10 v11 : Value} {a0 a : Act} {env : List (Nat × Value)} (h : IPD v0 v1 v2 v7 v10 v11 a0) (f : Fe a0 env a) (h0 : look env 0 (a0.eval (.tmp 0)) = a0.eval (.tmp 0)) (h1 : look env 1 (a0.eval (.tmp 1)) = a0.eval (.tmp 1)) (h2 : look env 2 (a0.eval (.tmp 2)) = a0.eval (.tmp 2)) (h7 : look env 7 (a0.eval (.tmp 7)) = a0.eval (.tmp 7)) (h10 : look env 10 (a0.eval (.tmp 10)) = a0.eval (.tmp 10)) (h11 : look env 11 (a0.eval (.tmp 11)) = a0.eval (.tmp 11)) : IPD v0 v1 v2 v7 v10 v11 a :=
  ⟨f.size.trans h.size, f.defers.trans h.defers, ((f.at_ 0).trans h0).trans h.s0, ((f.at_ 1).trans h1).trans h.s1, ((f.at_ 2).trans h2).trans h.s2, ((f.at_ 7).trans h7).trans h.s7, ((f.at_ 10).trans h10).trans h.s10, ((f.at_ 11).trans h11).trans h.s11⟩
def rPD0 : Array Oper := #[{ dst := some 6, op := Op.assign (Operand.const (Value.bool false)), type := 4, pos := "outright.go:205", after := #[], guard := none }]
def rPD1 : Array Oper := #[{ dst := some 15, op := Op.call { callee := Callee.value (Operand.func 8), args := #[Operand.const (Value.int IntKind.i64 1024), Operand.const (Value.int IntKind.i64 8)], argTypes := #[3, 3] }, type := 26, pos := "outright.go:206", after := #[], guard := none },
  { dst := some 14, op := Op.move (Operand.tmp 15), type := 26, pos := "outright.go:206", after := #[{ on := 0, ground := Ground.data }], guard := none },
  { dst := some 16, op := Op.extract (Operand.tmp 14) 0, type := 24, pos := "outright.go:206", after := #[{ on := 1, ground := Ground.data }], guard := none },
  { dst := some 17, op := Op.extract (Operand.tmp 14) 1, type := 25, pos := "outright.go:206", after := #[{ on := 1, ground := Ground.data }, { on := 4, ground := Ground.gcOnly Go.Departure.lateStores }], guard := none },
  { dst := some 7, op := Op.assign (Operand.tmp 16), type := 24, pos := "outright.go:206", after := #[{ on := 2, ground := Ground.data }, { on := 0, ground := Ground.chain }, { on := 0, ground := Ground.phase }, { on := 1, ground := Ground.phase }, { on := 2, ground := Ground.phase }, { on := 3, ground := Ground.textOnly Go.Departure.lateStores }], guard := none },
  { dst := some 8, op := Op.assign (Operand.tmp 17), type := 25, pos := "outright.go:206", after := #[{ on := 3, ground := Ground.data }, { on := 4, ground := Ground.chain }, { on := 0, ground := Ground.phase }, { on := 1, ground := Ground.phase }, { on := 2, ground := Ground.phase }, { on := 3, ground := Ground.phase }, { on := 4, ground := Ground.phase }], guard := none }]
def rPD2 : Array Oper := #[{ dst := some 18, op := Op.move (Operand.tmp 8), type := 25, pos := "outright.go:207", after := #[], guard := none },
  { dst := some 19, op := Op.binOp BinOp.neq 25 (Operand.tmp 18) (Operand.const (Value.int IntKind.i64 0)) 25, type := 4, pos := "outright.go:207", after := #[{ on := 0, ground := Ground.data }], guard := none },
  { dst := some 20, op := Op.move (Operand.tmp 19), type := 4, pos := "outright.go:207", after := #[{ on := 1, ground := Ground.data }], guard := none },
  { dst := some 21, op := Op.move (Operand.tmp 7), type := 24, pos := "outright.go:207", after := #[{ on := 2, ground := Ground.guard }], guard := some (2, false) },
  { dst := some 22, op := Op.binOp BinOp.eql 24 (Operand.tmp 21) (Operand.const (Value.pointer none)) 24, type := 4, pos := "outright.go:207", after := #[{ on := 3, ground := Ground.data }, { on := 2, ground := Ground.guard }], guard := some (2, false) },
  { dst := some 23, op := Op.pick (Operand.tmp 20) (Operand.const (Value.bool true)) (Operand.tmp 22), type := 4, pos := "outright.go:207", after := #[{ on := 2, ground := Ground.data }, { on := 4, ground := Ground.data }], guard := none },
  { dst := some 24, op := Op.move (Operand.tmp 23), type := 4, pos := "outright.go:207", after := #[{ on := 5, ground := Ground.data }, { on := 2, ground := Ground.chain }], guard := none },
  { dst := some 25, op := Op.call { callee := Callee.value (Operand.func 7), args := #[], argTypes := #[] }, type := 4, pos := "outright.go:207", after := #[{ on := 6, ground := Ground.chain }, { on := 6, ground := Ground.guard }], guard := some (6, false) },
  { dst := some 26, op := Op.unOp UnOp.not 4 (Operand.tmp 25), type := 4, pos := "outright.go:207", after := #[{ on := 7, ground := Ground.data }, { on := 6, ground := Ground.guard }], guard := some (6, false) },
  { dst := some 27, op := Op.pick (Operand.tmp 24) (Operand.const (Value.bool true)) (Operand.tmp 26), type := 4, pos := "outright.go:207", after := #[{ on := 6, ground := Ground.data }, { on := 8, ground := Ground.data }], guard := none }]
def rPD3 : Array Oper := #[{ dst := some 6, op := Op.assign (Operand.const (Value.bool false)), type := 4, pos := "outright.go:208", after := #[], guard := none }]
def rPD4 : Array Oper := #[{ dst := some 9, op := Op.assign (Operand.const (Value.int IntKind.i64 0)), type := 3, pos := "outright.go:210", after := #[], guard := none }]
def rPD5 : Array Oper := #[{ dst := some 28, op := Op.move (Operand.tmp 9), type := 3, pos := "outright.go:210", after := #[], guard := none },
  { dst := some 29, op := Op.move (Operand.tmp 0), type := 23, pos := "outright.go:210", after := #[], guard := none },
  { dst := some 30, op := Op.call { callee := Callee.builtin Builtin.len, args := #[Operand.tmp 29], argTypes := #[23] }, type := 3, pos := "outright.go:210", after := #[{ on := 1, ground := Ground.data }], guard := none },
  { dst := some 31, op := Op.binOp BinOp.lss 3 (Operand.tmp 28) (Operand.tmp 30) 3, type := 4, pos := "outright.go:210", after := #[{ on := 0, ground := Ground.data }, { on := 2, ground := Ground.data }], guard := none }]
def rPD6 : Array Oper := #[{ dst := some 32, op := Op.move (Operand.tmp 9), type := 3, pos := "outright.go:210", after := #[], guard := none },
  { dst := some 33, op := Op.binOp BinOp.add 3 (Operand.tmp 32) (Operand.const (Value.int IntKind.i64 1)) 3, type := 3, pos := "outright.go:210", after := #[{ on := 0, ground := Ground.data }], guard := none },
  { dst := some 9, op := Op.assign (Operand.tmp 33), type := 3, pos := "outright.go:210", after := #[{ on := 1, ground := Ground.data }, { on := 0, ground := Ground.phase }, { on := 1, ground := Ground.phase }], guard := none }]
def rPD7 : Array Oper := #[{ dst := some 34, op := Op.move (Operand.tmp 7), type := 24, pos := "outright.go:211", after := #[], guard := none },
  { dst := some 35, op := Op.move (Operand.tmp 0), type := 23, pos := "outright.go:211", after := #[], guard := none },
  { dst := some 36, op := Op.move (Operand.tmp 9), type := 3, pos := "outright.go:211", after := #[], guard := none },
  { dst := some 37, op := Op.indexAddr 23 (Operand.tmp 35) (Operand.tmp 36), type := 0, pos := "outright.go:211", after := #[{ on := 1, ground := Ground.data }, { on := 2, ground := Ground.data }], guard := none },
  { dst := some 38, op := Op.load 35 (Operand.tmp 37), type := 35, pos := "outright.go:211", after := #[{ on := 3, ground := Ground.data }], guard := none },
  { dst := some 39, op := Op.call { callee := Callee.value (Operand.func 9), args := #[Operand.tmp 34, Operand.tmp 38], argTypes := #[24, 35] }, type := 4, pos := "outright.go:211", after := #[{ on := 0, ground := Ground.data }, { on := 4, ground := Ground.data }], guard := none }]
def rPD8 : Array Oper := #[{ dst := some 40, op := Op.move (Operand.tmp 7), type := 24, pos := "outright.go:213", after := #[], guard := none },
  { dst := some 41, op := Op.call { callee := Callee.value (Operand.func 10), args := #[Operand.tmp 40], argTypes := #[24] }, type := 24, pos := "outright.go:213", after := #[{ on := 0, ground := Ground.data }], guard := none },
  { dst := some 42, op := Op.move (Operand.tmp 7), type := 24, pos := "outright.go:213", after := #[], guard := none },
  { dst := some 43, op := Op.call { callee := Callee.value (Operand.func 10), args := #[Operand.tmp 42], argTypes := #[24] }, type := 24, pos := "outright.go:213", after := #[{ on := 2, ground := Ground.data }, { on := 1, ground := Ground.chain }], guard := none },
  { dst := some 10, op := Op.assign (Operand.tmp 41), type := 24, pos := "outright.go:213", after := #[{ on := 1, ground := Ground.data }, { on := 3, ground := Ground.chain }, { on := 0, ground := Ground.phase }, { on := 1, ground := Ground.phase }, { on := 2, ground := Ground.textOnly Go.Departure.lateStores }, { on := 3, ground := Ground.textOnly Go.Departure.lateStoresUnsure }], guard := none },
  { dst := some 11, op := Op.assign (Operand.tmp 43), type := 24, pos := "outright.go:213", after := #[{ on := 3, ground := Ground.data }, { on := 4, ground := Ground.chain }, { on := 0, ground := Ground.phase }, { on := 1, ground := Ground.phase }, { on := 2, ground := Ground.phase }, { on := 3, ground := Ground.phase }, { on := 4, ground := Ground.phase }], guard := none }]
def rPD9 : Array Oper := #[{ dst := some 44, op := Op.move (Operand.tmp 10), type := 24, pos := "outright.go:214", after := #[], guard := none },
  { dst := some 45, op := Op.binOp BinOp.eql 24 (Operand.tmp 44) (Operand.const (Value.pointer none)) 24, type := 4, pos := "outright.go:214", after := #[{ on := 0, ground := Ground.data }], guard := none },
  { dst := some 46, op := Op.move (Operand.tmp 45), type := 4, pos := "outright.go:214", after := #[{ on := 1, ground := Ground.data }], guard := none },
  { dst := some 47, op := Op.move (Operand.tmp 11), type := 24, pos := "outright.go:214", after := #[{ on := 2, ground := Ground.guard }], guard := some (2, false) },
  { dst := some 48, op := Op.binOp BinOp.eql 24 (Operand.tmp 47) (Operand.const (Value.pointer none)) 24, type := 4, pos := "outright.go:214", after := #[{ on := 3, ground := Ground.data }, { on := 2, ground := Ground.guard }], guard := some (2, false) },
  { dst := some 49, op := Op.pick (Operand.tmp 46) (Operand.const (Value.bool true)) (Operand.tmp 48), type := 4, pos := "outright.go:214", after := #[{ on := 2, ground := Ground.data }, { on := 4, ground := Ground.data }], guard := none }]
def rPD10 : Array Oper := #[{ dst := some 6, op := Op.assign (Operand.const (Value.bool false)), type := 4, pos := "outright.go:215", after := #[], guard := none }]
def rPD11 : Array Oper := #[{ dst := some 12, op := Op.assign (Operand.const (Value.int IntKind.i64 0)), type := 3, pos := "outright.go:217", after := #[], guard := none }]
def rPD12 : Array Oper := #[{ dst := some 50, op := Op.move (Operand.tmp 12), type := 3, pos := "outright.go:217", after := #[], guard := none },
  { dst := some 51, op := Op.move (Operand.tmp 1), type := 23, pos := "outright.go:217", after := #[], guard := none },
  { dst := some 52, op := Op.call { callee := Callee.builtin Builtin.len, args := #[Operand.tmp 51], argTypes := #[23] }, type := 3, pos := "outright.go:217", after := #[{ on := 1, ground := Ground.data }], guard := none },
  { dst := some 53, op := Op.binOp BinOp.lss 3 (Operand.tmp 50) (Operand.tmp 52) 3, type := 4, pos := "outright.go:217", after := #[{ on := 0, ground := Ground.data }, { on := 2, ground := Ground.data }], guard := none }]
def rPD13 : Array Oper := #[{ dst := some 54, op := Op.move (Operand.tmp 12), type := 3, pos := "outright.go:217", after := #[], guard := none },
  { dst := some 55, op := Op.binOp BinOp.add 3 (Operand.tmp 54) (Operand.const (Value.int IntKind.i64 1)) 3, type := 3, pos := "outright.go:217", after := #[{ on := 0, ground := Ground.data }], guard := none },
  { dst := some 12, op := Op.assign (Operand.tmp 55), type := 3, pos := "outright.go:217", after := #[{ on := 1, ground := Ground.data }, { on := 0, ground := Ground.phase }, { on := 1, ground := Ground.phase }], guard := none }]
def rPD14 : Array Oper := #[{ dst := some 56, op := Op.move (Operand.tmp 10), type := 24, pos := "outright.go:218", after := #[], guard := none },
  { dst := some 57, op := Op.move (Operand.tmp 1), type := 23, pos := "outright.go:218", after := #[], guard := none },
  { dst := some 58, op := Op.move (Operand.tmp 12), type := 3, pos := "outright.go:218", after := #[], guard := none },
  { dst := some 59, op := Op.indexAddr 23 (Operand.tmp 57) (Operand.tmp 58), type := 0, pos := "outright.go:218", after := #[{ on := 1, ground := Ground.data }, { on := 2, ground := Ground.data }], guard := none },
  { dst := some 60, op := Op.load 35 (Operand.tmp 59), type := 35, pos := "outright.go:218", after := #[{ on := 3, ground := Ground.data }], guard := none },
  { dst := some 61, op := Op.call { callee := Callee.value (Operand.func 9), args := #[Operand.tmp 56, Operand.tmp 60], argTypes := #[24, 35] }, type := 4, pos := "outright.go:218", after := #[{ on := 0, ground := Ground.data }, { on := 4, ground := Ground.data }], guard := none }]
def rPD15 : Array Oper := #[{ dst := some 62, op := Op.move (Operand.tmp 10), type := 24, pos := "outright.go:220", after := #[], guard := none },
  { dst := some 63, op := Op.buildSlice 33 2 #[(0, Operand.const (Value.int IntKind.u8 255)), (1, Operand.const (Value.int IntKind.u8 255))], type := 33, pos := "outright.go:220", after := #[], guard := none },
  { dst := some 64, op := Op.call { callee := Callee.value (Operand.func 11), args := #[Operand.tmp 62, Operand.tmp 63], argTypes := #[24, 33] }, type := 25, pos := "outright.go:220", after := #[{ on := 0, ground := Ground.data }, { on := 1, ground := Ground.data }], guard := none }]
def rPD16 : Array Oper := #[{ dst := some 13, op := Op.assign (Operand.const (Value.int IntKind.i64 0)), type := 3, pos := "outright.go:221", after := #[], guard := none }]
def rPD17 : Array Oper := #[{ dst := some 65, op := Op.move (Operand.tmp 13), type := 3, pos := "outright.go:221", after := #[], guard := none },
  { dst := some 66, op := Op.move (Operand.tmp 2), type := 23, pos := "outright.go:221", after := #[], guard := none },
  { dst := some 67, op := Op.call { callee := Callee.builtin Builtin.len, args := #[Operand.tmp 66], argTypes := #[23] }, type := 3, pos := "outright.go:221", after := #[{ on := 1, ground := Ground.data }], guard := none },
  { dst := some 68, op := Op.binOp BinOp.lss 3 (Operand.tmp 65) (Operand.tmp 67) 3, type := 4, pos := "outright.go:221", after := #[{ on := 0, ground := Ground.data }, { on := 2, ground := Ground.data }], guard := none }]
def rPD18 : Array Oper := #[{ dst := some 69, op := Op.move (Operand.tmp 13), type := 3, pos := "outright.go:221", after := #[], guard := none },
  { dst := some 70, op := Op.binOp BinOp.add 3 (Operand.tmp 69) (Operand.const (Value.int IntKind.i64 1)) 3, type := 3, pos := "outright.go:221", after := #[{ on := 0, ground := Ground.data }], guard := none },
  { dst := some 13, op := Op.assign (Operand.tmp 70), type := 3, pos := "outright.go:221", after := #[{ on := 1, ground := Ground.data }, { on := 0, ground := Ground.phase }, { on := 1, ground := Ground.phase }], guard := none }]
def rPD19 : Array Oper := #[{ dst := some 71, op := Op.move (Operand.tmp 7), type := 24, pos := "outright.go:222", after := #[], guard := none },
  { dst := some 72, op := Op.move (Operand.tmp 2), type := 23, pos := "outright.go:222", after := #[], guard := none },
  { dst := some 73, op := Op.move (Operand.tmp 13), type := 3, pos := "outright.go:222", after := #[], guard := none },
  { dst := some 74, op := Op.indexAddr 23 (Operand.tmp 72) (Operand.tmp 73), type := 0, pos := "outright.go:222", after := #[{ on := 1, ground := Ground.data }, { on := 2, ground := Ground.data }], guard := none },
  { dst := some 75, op := Op.load 35 (Operand.tmp 74), type := 35, pos := "outright.go:222", after := #[{ on := 3, ground := Ground.data }], guard := none },
  { dst := some 76, op := Op.call { callee := Callee.value (Operand.func 9), args := #[Operand.tmp 71, Operand.tmp 75], argTypes := #[24, 35] }, type := 4, pos := "outright.go:222", after := #[{ on := 0, ground := Ground.data }, { on := 4, ground := Ground.data }], guard := none },
  { dst := some 77, op := Op.move (Operand.tmp 11), type := 24, pos := "outright.go:222", after := #[], guard := none },
  { dst := some 78, op := Op.move (Operand.tmp 2), type := 23, pos := "outright.go:222", after := #[], guard := none },
  { dst := some 79, op := Op.move (Operand.tmp 13), type := 3, pos := "outright.go:222", after := #[], guard := none },
  { dst := some 80, op := Op.indexAddr 23 (Operand.tmp 78) (Operand.tmp 79), type := 0, pos := "outright.go:222", after := #[{ on := 7, ground := Ground.data }, { on := 8, ground := Ground.data }], guard := none },
  { dst := some 81, op := Op.load 35 (Operand.tmp 80), type := 35, pos := "outright.go:222", after := #[{ on := 9, ground := Ground.data }], guard := none },
  { dst := some 82, op := Op.call { callee := Callee.value (Operand.func 9), args := #[Operand.tmp 77, Operand.tmp 81], argTypes := #[24, 35] }, type := 4, pos := "outright.go:222", after := #[{ on := 6, ground := Ground.data }, { on := 10, ground := Ground.data }, { on := 5, ground := Ground.chain }], guard := none },
  { dst := some 83, op := Op.binOp BinOp.neq 4 (Operand.tmp 76) (Operand.tmp 82) 4, type := 4, pos := "outright.go:222", after := #[{ on := 5, ground := Ground.data }, { on := 11, ground := Ground.data }], guard := none }]
def rPD20 : Array Oper := #[{ dst := some 6, op := Op.assign (Operand.const (Value.bool false)), type := 4, pos := "outright.go:223", after := #[], guard := none }]
def rPD21 : Array Oper := #[{ dst := some 84, op := Op.move (Operand.tmp 7), type := 24, pos := "outright.go:226", after := #[], guard := none },
  { dst := some 85, op := Op.call { callee := Callee.value (Operand.func 13), args := #[Operand.tmp 84], argTypes := #[24] }, type := 40, pos := "outright.go:226", after := #[{ on := 0, ground := Ground.data }], guard := none },
  { dst := some 86, op := Op.move (Operand.tmp 11), type := 24, pos := "outright.go:226", after := #[], guard := none },
  { dst := some 87, op := Op.call { callee := Callee.value (Operand.func 13), args := #[Operand.tmp 86], argTypes := #[24] }, type := 40, pos := "outright.go:226", after := #[{ on := 2, ground := Ground.data }, { on := 1, ground := Ground.chain }], guard := none },
  { dst := some 88, op := Op.call { callee := Callee.value (Operand.func 12), args := #[Operand.tmp 85, Operand.tmp 87], argTypes := #[40, 40] }, type := 4, pos := "outright.go:226", after := #[{ on := 1, ground := Ground.data }, { on := 3, ground := Ground.data }, { on := 3, ground := Ground.chain }], guard := none },
  { dst := some 89, op := Op.move (Operand.tmp 88), type := 4, pos := "outright.go:226", after := #[{ on := 4, ground := Ground.data }, { on := 4, ground := Ground.chain }], guard := none },
  { dst := some 90, op := Op.move (Operand.tmp 7), type := 24, pos := "outright.go:226", after := #[{ on := 5, ground := Ground.guard }], guard := some (5, true) },
  { dst := some 91, op := Op.call { callee := Callee.value (Operand.func 14), args := #[Operand.tmp 90], argTypes := #[24] }, type := 40, pos := "outright.go:226", after := #[{ on := 6, ground := Ground.data }, { on := 5, ground := Ground.chain }, { on := 5, ground := Ground.guard }], guard := some (5, true) },
  { dst := some 92, op := Op.move (Operand.tmp 11), type := 24, pos := "outright.go:226", after := #[{ on := 5, ground := Ground.guard }], guard := some (5, true) },
  { dst := some 93, op := Op.call { callee := Callee.value (Operand.func 14), args := #[Operand.tmp 92], argTypes := #[24] }, type := 40, pos := "outright.go:226", after := #[{ on := 8, ground := Ground.data }, { on := 7, ground := Ground.chain }, { on := 5, ground := Ground.guard }], guard := some (5, true) },
  { dst := some 94, op := Op.call { callee := Callee.value (Operand.func 12), args := #[Operand.tmp 91, Operand.tmp 93], argTypes := #[40, 40] }, type := 4, pos := "outright.go:226", after := #[{ on := 7, ground := Ground.data }, { on := 9, ground := Ground.data }, { on := 9, ground := Ground.chain }, { on := 5, ground := Ground.guard }], guard := some (5, true) },
  { dst := some 95, op := Op.pick (Operand.tmp 89) (Operand.tmp 94) (Operand.const (Value.bool false)), type := 4, pos := "outright.go:226", after := #[{ on := 5, ground := Ground.data }, { on := 10, ground := Ground.data }], guard := none },
  { dst := some 96, op := Op.move (Operand.tmp 95), type := 4, pos := "outright.go:226", after := #[{ on := 11, ground := Ground.data }, { on := 10, ground := Ground.chain }], guard := none },
  { dst := some 97, op := Op.move (Operand.tmp 7), type := 24, pos := "outright.go:226", after := #[{ on := 12, ground := Ground.guard }], guard := some (12, true) },
  { dst := some 98, op := Op.call { callee := Callee.value (Operand.func 15), args := #[Operand.tmp 97], argTypes := #[24] }, type := 44, pos := "outright.go:226", after := #[{ on := 13, ground := Ground.data }, { on := 12, ground := Ground.chain }, { on := 12, ground := Ground.guard }], guard := some (12, true) },
  { dst := some 99, op := Op.move (Operand.tmp 11), type := 24, pos := "outright.go:226", after := #[{ on := 12, ground := Ground.guard }], guard := some (12, true) },
  { dst := some 100, op := Op.call { callee := Callee.value (Operand.func 15), args := #[Operand.tmp 99], argTypes := #[24] }, type := 44, pos := "outright.go:226", after := #[{ on := 15, ground := Ground.data }, { on := 14, ground := Ground.chain }, { on := 12, ground := Ground.guard }], guard := some (12, true) },
  { dst := some 101, op := Op.binOp BinOp.eql 44 (Operand.tmp 98) (Operand.tmp 100) 44, type := 4, pos := "outright.go:226", after := #[{ on := 14, ground := Ground.data }, { on := 16, ground := Ground.data }, { on := 12, ground := Ground.guard }], guard := some (12, true) },
  { dst := some 102, op := Op.pick (Operand.tmp 96) (Operand.tmp 101) (Operand.const (Value.bool false)), type := 4, pos := "outright.go:226", after := #[{ on := 12, ground := Ground.data }, { on := 17, ground := Ground.data }], guard := none },
  { dst := some 103, op := Op.move (Operand.tmp 102), type := 4, pos := "outright.go:226", after := #[{ on := 18, ground := Ground.data }, { on := 16, ground := Ground.chain }], guard := none },
  { dst := some 104, op := Op.move (Operand.tmp 7), type := 24, pos := "outright.go:226", after := #[{ on := 19, ground := Ground.guard }], guard := some (19, true) },
  { dst := some 105, op := Op.call { callee := Callee.value (Operand.func 16), args := #[Operand.tmp 104], argTypes := #[24] }, type := 46, pos := "outright.go:226", after := #[{ on := 20, ground := Ground.data }, { on := 19, ground := Ground.chain }, { on := 19, ground := Ground.guard }], guard := some (19, true) },
  { dst := some 106, op := Op.call { callee := Callee.builtin Builtin.len, args := #[Operand.tmp 105], argTypes := #[46] }, type := 3, pos := "outright.go:226", after := #[{ on := 21, ground := Ground.data }, { on := 19, ground := Ground.guard }], guard := some (19, true) },
  { dst := some 107, op := Op.move (Operand.tmp 11), type := 24, pos := "outright.go:226", after := #[{ on := 19, ground := Ground.guard }], guard := some (19, true) },
  { dst := some 108, op := Op.call { callee := Callee.value (Operand.func 16), args := #[Operand.tmp 107], argTypes := #[24] }, type := 46, pos := "outright.go:226", after := #[{ on := 23, ground := Ground.data }, { on := 21, ground := Ground.chain }, { on := 19, ground := Ground.guard }], guard := some (19, true) },
  { dst := some 109, op := Op.call { callee := Callee.builtin Builtin.len, args := #[Operand.tmp 108], argTypes := #[46] }, type := 3, pos := "outright.go:226", after := #[{ on := 24, ground := Ground.data }, { on := 19, ground := Ground.guard }], guard := some (19, true) },
  { dst := some 110, op := Op.binOp BinOp.eql 3 (Operand.tmp 106) (Operand.tmp 109) 3, type := 4, pos := "outright.go:226", after := #[{ on := 22, ground := Ground.data }, { on := 25, ground := Ground.data }, { on := 19, ground := Ground.guard }], guard := some (19, true) },
  { dst := some 111, op := Op.pick (Operand.tmp 103) (Operand.tmp 110) (Operand.const (Value.bool false)), type := 4, pos := "outright.go:226", after := #[{ on := 19, ground := Ground.data }, { on := 26, ground := Ground.data }], guard := none },
  { dst := some 112, op := Op.move (Operand.tmp 111), type := 4, pos := "outright.go:226", after := #[{ on := 27, ground := Ground.data }, { on := 24, ground := Ground.chain }], guard := none },
  { dst := some 113, op := Op.move (Operand.tmp 7), type := 24, pos := "outright.go:226", after := #[{ on := 28, ground := Ground.guard }], guard := some (28, true) },
  { dst := some 114, op := Op.call { callee := Callee.value (Operand.func 17), args := #[Operand.tmp 113], argTypes := #[24] }, type := 4, pos := "outright.go:226", after := #[{ on := 29, ground := Ground.data }, { on := 28, ground := Ground.chain }, { on := 28, ground := Ground.guard }], guard := some (28, true) },
  { dst := some 115, op := Op.pick (Operand.tmp 112) (Operand.tmp 114) (Operand.const (Value.bool false)), type := 4, pos := "outright.go:226", after := #[{ on := 28, ground := Ground.data }, { on := 30, ground := Ground.data }], guard := none },
  { dst := some 116, op := Op.move (Operand.tmp 115), type := 4, pos := "outright.go:226", after := #[{ on := 31, ground := Ground.data }, { on := 30, ground := Ground.chain }], guard := none },
  { dst := some 117, op := Op.move (Operand.tmp 7), type := 24, pos := "outright.go:226", after := #[{ on := 32, ground := Ground.guard }], guard := some (32, true) },
  { dst := some 118, op := Op.call { callee := Callee.value (Operand.func 18), args := #[Operand.tmp 117], argTypes := #[24] }, type := 3, pos := "outright.go:226", after := #[{ on := 33, ground := Ground.data }, { on := 32, ground := Ground.chain }, { on := 32, ground := Ground.guard }], guard := some (32, true) },
  { dst := some 119, op := Op.binOp BinOp.eql 3 (Operand.tmp 118) (Operand.const (Value.int IntKind.i64 0)) 3, type := 4, pos := "outright.go:226", after := #[{ on := 34, ground := Ground.data }, { on := 32, ground := Ground.guard }], guard := some (32, true) },
  { dst := some 120, op := Op.pick (Operand.tmp 116) (Operand.tmp 119) (Operand.const (Value.bool false)), type := 4, pos := "outright.go:226", after := #[{ on := 32, ground := Ground.data }, { on := 35, ground := Ground.data }], guard := none },
  { dst := some 121, op := Op.move (Operand.tmp 120), type := 4, pos := "outright.go:226", after := #[{ on := 36, ground := Ground.data }, { on := 34, ground := Ground.chain }], guard := none },
  { dst := some 122, op := Op.move (Operand.tmp 10), type := 24, pos := "outright.go:226", after := #[{ on := 37, ground := Ground.guard }], guard := some (37, true) },
  { dst := some 123, op := Op.call { callee := Callee.value (Operand.func 18), args := #[Operand.tmp 122], argTypes := #[24] }, type := 3, pos := "outright.go:226", after := #[{ on := 38, ground := Ground.data }, { on := 37, ground := Ground.chain }, { on := 37, ground := Ground.guard }], guard := some (37, true) },
  { dst := some 124, op := Op.binOp BinOp.eql 3 (Operand.tmp 123) (Operand.const (Value.int IntKind.i64 1)) 3, type := 4, pos := "outright.go:226", after := #[{ on := 39, ground := Ground.data }, { on := 37, ground := Ground.guard }], guard := some (37, true) },
  { dst := some 125, op := Op.pick (Operand.tmp 121) (Operand.tmp 124) (Operand.const (Value.bool false)), type := 4, pos := "outright.go:226", after := #[{ on := 37, ground := Ground.data }, { on := 40, ground := Ground.data }], guard := none },
  { dst := some 6, op := Op.assign (Operand.tmp 125), type := 4, pos := "outright.go:226", after := #[{ on := 41, ground := Ground.data }, { on := 39, ground := Ground.chain }, { on := 0, ground := Ground.phase }, { on := 1, ground := Ground.phase }, { on := 2, ground := Ground.phase }, { on := 3, ground := Ground.phase }, { on := 4, ground := Ground.phase }, { on := 5, ground := Ground.phase }, { on := 6, ground := Ground.phase }, { on := 7, ground := Ground.phase }, { on := 8, ground := Ground.phase }, { on := 9, ground := Ground.phase }, { on := 10, ground := Ground.phase }, { on := 11, ground := Ground.phase }, { on := 12, ground := Ground.phase }, { on := 13, ground := Ground.phase }, { on := 14, ground := Ground.phase }, { on := 15, ground := Ground.phase }, { on := 16, ground := Ground.phase }, { on := 17, ground := Ground.phase }, { on := 18, ground := Ground.phase }, { on := 19, ground := Ground.phase }, { on := 20, ground := Ground.phase }, { on := 21, ground := Ground.phase }, { on := 22, ground := Ground.phase }, { on := 23, ground := Ground.phase }, { on := 24, ground := Ground.phase }, { on := 25, ground := Ground.phase }, { on := 26, ground := Ground.phase }, { on := 27, ground := Ground.phase }, { on := 28, ground := Ground.phase }, { on := 29, ground := Ground.phase }, { on := 30, ground := Ground.phase }, { on := 31, ground := Ground.phase }, { on := 32, ground := Ground.phase }, { on := 33, ground := Ground.phase }, { on := 34, ground := Ground.phase }, { on := 35, ground := Ground.phase }, { on := 36, ground := Ground.phase }, { on := 37, ground := Ground.phase }, { on := 38, ground := Ground.phase }, { on := 39, ground := Ground.phase }, { on := 40, ground := Ground.phase }, { on := 41, ground := Ground.phase }], guard := none }]
def cPD1 : Code := (Code.seq (Code.seq (Code.region 5 rPD5 false) (Code.cond (Operand.tmp 31) Code.skip (Code.exit 0))) (Code.seq (Code.block 1 (Code.region 7 rPD7 false)) (Code.region 6 rPD6 false)))
def cPD2 : Code := (Code.seq (Code.seq (Code.region 12 rPD12 false) (Code.cond (Operand.tmp 53) Code.skip (Code.exit 2))) (Code.seq (Code.block 3 (Code.region 14 rPD14 false)) (Code.region 13 rPD13 false)))
def cPD3 : Code := (Code.seq (Code.seq (Code.region 17 rPD17 false) (Code.cond (Operand.tmp 68) Code.skip (Code.exit 4))) (Code.seq (Code.block 5 (Code.seq (Code.region 19 rPD19 true) (Code.cond (Operand.tmp 83) (Code.seq (Code.region 20 rPD20 false) Code.ret) Code.skip))) (Code.region 18 rPD18 false)))
def cPD : Code := (Code.seq (Code.region 0 rPD0 false) (Code.seq (Code.region 1 rPD1 false) (Code.seq (Code.seq (Code.region 2 rPD2 false) (Code.cond (Operand.tmp 27) (Code.seq (Code.region 3 rPD3 false) Code.ret) Code.skip)) (Code.seq (Code.seq (Code.region 4 rPD4 false) (Code.block 0 (Code.loop cPD1))) (Code.seq (Code.region 8 rPD8 false) (Code.seq (Code.seq (Code.region 9 rPD9 false) (Code.cond (Operand.tmp 49) (Code.seq (Code.region 10 rPD10 false) Code.ret) Code.skip)) (Code.seq (Code.seq (Code.region 11 rPD11 false) (Code.block 2 (Code.loop cPD2))) (Code.seq (Code.region 15 rPD15 false) (Code.seq (Code.seq (Code.region 16 rPD16 false) (Code.block 4 (Code.loop cPD3))) (Code.seq (Code.region 21 rPD21 false) Code.ret))))))))))
theorem pd1E {n i xc : Nat} {xa : Option Addr} {v1 v2 v7 v10 v11 : Value} {Q : Exit → Act → World → Prop} (a0 : Act) (wr : World) (I0 : IPD (.slice xa n xc) v1 v2 v7 v10 v11 a0) (h5 : a0.eval (.tmp 9) = .int .i64 (i : Int)) (hi : n ≤ i) (hQ : ∀ a, IPD (.slice xa n xc) v1 v2 v7 v10 v11 a → Q (.exit 0) a wr) : cPD1.wp Try.prog Q a0 wr := by
  have hii : ¬ (i : Int) < (n : Int) := by omega
  have hid : decide ((i : Int) < (n : Int)) = false := decide_eq_false hii
  clear hi
  have fa0_0 := Fe.refl a0
  unfold cPD1
  refine wp_seq (wp_seq ?_)
  refine wp_region_list ?_
  unfold rPD5
  refine fa0_0.move 28 (.int .i64 (i : Int)) _ (Or.inl rfl) rfl (lb_ I0.size) (wanted_none rfl) ((fa0_0.at_ 9).trans h5) (fun a0_1 fa0_1 => ?_)
  clear fa0_0
  refine fa0_1.move 29 (.slice xa n xc) _ (Or.inl rfl) rfl (lb_ I0.size) (wanted_none rfl) ((fa0_1.at_ 0).trans I0.s0) (fun a0_2 fa0_2 => ?_)
  clear fa0_1
  have r_a0_3 : (execOp a0_2.eval { dst := some 30, op := Op.call { callee := Callee.builtin Builtin.len, args := #[Operand.tmp 29], argTypes := #[23] }, type := 3, pos := "outright.go:210", after := #[{ on := 1, ground := Ground.data }], guard := none }).run Try.prog (wr) = .ok (.value (.int .i64 (n : Int))) (wr) := by
    have e29 := (show a0_2.eval (.tmp 29) = .slice xa n xc from (fa0_2.at_ 29))
    clear fa0_2 hQ h5
    generalize a0_2.eval = ρ at *
    go_simp
  refine fa0_2.step 30 (.int .i64 (n : Int)) rfl (lb_ I0.size) (wanted_none rfl) r_a0_3 (fun a0_3 fa0_3 => ?_)
  clear r_a0_3
  clear fa0_2
  have r_a0_4 : (execOp a0_3.eval { dst := some 31, op := Op.binOp BinOp.lss 3 (Operand.tmp 28) (Operand.tmp 30) 3, type := 4, pos := "outright.go:210", after := #[{ on := 0, ground := Ground.data }, { on := 2, ground := Ground.data }], guard := none }).run Try.prog (wr) = .ok (.value (.bool false)) (wr) := by
    have e28 := (show a0_3.eval (.tmp 28) = .int .i64 (i : Int) from (fa0_3.at_ 28))
    have e30 := (show a0_3.eval (.tmp 30) = .int .i64 (n : Int) from (fa0_3.at_ 30))
    clear fa0_3 hQ h5
    generalize a0_3.eval = ρ at *
    go_simp
  refine fa0_3.step 31 (.bool false) rfl (lb_ I0.size) (wanted_none rfl) r_a0_4 (fun a0_4 fa0_4 => ?_)
  clear r_a0_4
  clear fa0_3
  refine wpList_nil ?_
  change Code.wp _ _ _ _ _
  refine wp_cond_false (show a0_4.eval (.tmp 31) = .bool false from (fa0_4.at_ 31)) (wp_exit ?_)
  exact hQ a0_4 (I0.keep fa0_4 rfl rfl rfl rfl rfl rfl)
set_option maxRecDepth 100000 in
set_option maxHeartbeats 1000000 in
theorem pd1R {n i xc g o b m : Nat} {D : Dk} {s : Sp} {U : Nat → Prop} {v1 v2 v10 v11 : Value} {Q : Exit → Act → World → Prop} (a0 : Act) (wr : World) (I0 : IPD (.slice (some ⟨g, o, none⟩) n xc) v1 v2 (.pointer (some ⟨b, 0, none⟩)) v10 v11 a0) (h5 : a0.eval (.tmp 9) = .int .i64 (i : Int)) (hi : i < n) (hn : n ≤ 1048576) (hrow : wr.rangeAt g (o + i * 9) (spC s)) (hno : s.no < 4294967296) (hD : DkAt wr b D U) (hI : DkIn D m) (hm : m ≤ 1048575)
    (hQ : ∀ a W, IPD (.slice (some ⟨g, o, none⟩) n xc) v1 v2 (.pointer (some ⟨b, 0, none⟩)) v10 v11 a → a.eval (.tmp 9) = .int .i64 ((i : Int) + 1) → DkAt W b (playD D s) (Land U wr W) → Fr U wr W → Q .normal a W) : cPD1.wp Try.prog Q a0 wr := by
  have hii : (i : Int) < (n : Int) := by omega
  have w1 : IntKind.i64.wrap ((i : Int) + 1) = (i : Int) + 1 := by rw [IntKind.wrap_i64]; omega
  have fa0_0 := Fe.refl a0
  unfold cPD1
  refine wp_seq (wp_seq ?_)
  refine wp_region_list ?_
  unfold rPD5
  refine fa0_0.move 28 (.int .i64 (i : Int)) _ (Or.inl rfl) rfl (lb_ I0.size) (wanted_none rfl) ((fa0_0.at_ 9).trans h5) (fun a0_1 fa0_1 => ?_)
  clear fa0_0
  refine fa0_1.move 29 (.slice (some ⟨g, o, none⟩) n xc) _ (Or.inl rfl) rfl (lb_ I0.size) (wanted_none rfl) ((fa0_1.at_ 0).trans I0.s0) (fun a0_2 fa0_2 => ?_)
  clear fa0_1
  have r_a0_3 : (execOp a0_2.eval { dst := some 30, op := Op.call { callee := Callee.builtin Builtin.len, args := #[Operand.tmp 29], argTypes := #[23] }, type := 3, pos := "outright.go:210", after := #[{ on := 1, ground := Ground.data }], guard := none }).run Try.prog (wr) = .ok (.value (.int .i64 (n : Int))) (wr) := by
    have e29 := (show a0_2.eval (.tmp 29) = .slice (some ⟨g, o, none⟩) n xc from (fa0_2.at_ 29))
    clear fa0_2 hQ h5
    generalize a0_2.eval = ρ at *
    go_simp
  refine fa0_2.step 30 (.int .i64 (n : Int)) rfl (lb_ I0.size) (wanted_none rfl) r_a0_3 (fun a0_3 fa0_3 => ?_)
  clear r_a0_3
  clear fa0_2
  have r_a0_4 : (execOp a0_3.eval { dst := some 31, op := Op.binOp BinOp.lss 3 (Operand.tmp 28) (Operand.tmp 30) 3, type := 4, pos := "outright.go:210", after := #[{ on := 0, ground := Ground.data }, { on := 2, ground := Ground.data }], guard := none }).run Try.prog (wr) = .ok (.value (.bool true)) (wr) := by
    have e28 := (show a0_3.eval (.tmp 28) = .int .i64 (i : Int) from (fa0_3.at_ 28))
    have e30 := (show a0_3.eval (.tmp 30) = .int .i64 (n : Int) from (fa0_3.at_ 30))
    clear fa0_3 hQ h5
    generalize a0_3.eval = ρ at *
    go_simp
  refine fa0_3.step 31 (.bool true) rfl (lb_ I0.size) (wanted_none rfl) r_a0_4 (fun a0_4 fa0_4 => ?_)
  clear r_a0_4
  clear fa0_3
  refine wpList_nil ?_
  change Code.wp _ _ _ _ _
  refine wp_cond_true (show a0_4.eval (.tmp 31) = .bool true from (fa0_4.at_ 31)) (wp_skip ?_)
  change Code.wp _ _ _ _ _
  refine wp_seq (wp_block ?_)
  refine wp_region_list ?_
  unfold rPD7
  refine fa0_4.move 34 (.pointer (some ⟨b, 0, none⟩)) _ (Or.inl rfl) rfl (lb_ I0.size) (wanted_none rfl) ((fa0_4.at_ 7).trans I0.s7) (fun a0_5 fa0_5 => ?_)
  clear fa0_4
  refine fa0_5.move 35 (.slice (some ⟨g, o, none⟩) n xc) _ (Or.inl rfl) rfl (lb_ I0.size) (wanted_none rfl) ((fa0_5.at_ 0).trans I0.s0) (fun a0_6 fa0_6 => ?_)
  clear fa0_5
  refine fa0_6.move 36 (.int .i64 (i : Int)) _ (Or.inl rfl) rfl (lb_ I0.size) (wanted_none rfl) ((fa0_6.at_ 9).trans h5) (fun a0_7 fa0_7 => ?_)
  clear fa0_6
  have r_a0_8 : (execOp a0_7.eval { dst := some 37, op := Op.indexAddr 23 (Operand.tmp 35) (Operand.tmp 36), type := 0, pos := "outright.go:211", after := #[{ on := 1, ground := Ground.data }, { on := 2, ground := Ground.data }], guard := none }).run Try.prog (wr) = .ok (.value (.pointer (some ⟨g, o + i * 9, none⟩))) (wr) := by
    have e35 := (show a0_7.eval (.tmp 35) = .slice (some ⟨g, o, none⟩) n xc from (fa0_7.at_ 35))
    have e36 := (show a0_7.eval (.tmp 36) = .int .i64 (i : Int) from (fa0_7.at_ 36))
    clear fa0_7 hQ h5
    generalize a0_7.eval = ρ at *
    go_simp
  refine fa0_7.step 37 (.pointer (some ⟨g, o + i * 9, none⟩)) rfl (lb_ I0.size) (wanted_none rfl) r_a0_8 (fun a0_8 fa0_8 => ?_)
  clear r_a0_8
  clear fa0_7
  have r_a0_9 : (execOp a0_8.eval { dst := some 38, op := Op.load 35 (Operand.tmp 37), type := 35, pos := "outright.go:211", after := #[{ on := 3, ground := Ground.data }], guard := none }).run Try.prog (wr) = .ok (.value (.agg (spC s).toArray)) (wr) := by
    exact exec_load_mid 35 _ rfl g (o + i * 9) (show a0_8.eval (.tmp 37) = .pointer (some ⟨g, o + i * 9, none⟩) from (fa0_8.at_ 37)) (spC s) _ hrow Try.underlying35 rfl (by kernel_rfl)
  refine fa0_8.step 38 (.agg (spC s).toArray) rfl (lb_ I0.size) (wanted_none rfl) r_a0_9 (fun a0_9 fa0_9 => ?_)
  clear r_a0_9
  clear fa0_8
  have r_a0_10 : (execOp a0_9.eval { dst := some 39, op := Op.call { callee := Callee.value (Operand.func 9), args := #[Operand.tmp 34, Operand.tmp 38], argTypes := #[24, 35] }, type := 4, pos := "outright.go:211", after := #[{ on := 0, ground := Ground.data }, { on := 4, ground := Ground.data }], guard := none }).run Try.prog (wr) = .ok (.enter 9 #[.pointer (some ⟨b, 0, none⟩), .agg (spC s).toArray]) (wr) := by
    have kf : ∀ f, a0_9.eval (.func f) = .func (.func f) #[] #[] := fun _ => rfl
    have e34 := (show a0_9.eval (.tmp 34) = .pointer (some ⟨b, 0, none⟩) from (fa0_9.at_ 34))
    have e38 := (show a0_9.eval (.tmp 38) = .agg (spC s).toArray from (fa0_9.at_ 38))
    clear fa0_9 hQ h5
    generalize a0_9.eval = ρ at *
    go_simp
  refine fa0_9.call 39 rfl (lb_ I0.size) (wanted_none rfl) r_a0_10 (play_calls (s := s) wr hD hI hm hno) (fun e W1 hR => ?_)
  obtain ⟨rfl, d1, f1⟩ := hR
  clear r_a0_10
  refine ⟨_, rfl, fun a0_10 fa0_10 => ?_⟩
  clear fa0_9
  refine wpList_nil ?_
  change Code.wp _ _ _ _ _
  refine wp_region_list ?_
  unfold rPD6
  refine fa0_10.move 32 (.int .i64 (i : Int)) _ (Or.inl rfl) rfl (lb_ I0.size) (wanted_none rfl) ((fa0_10.at_ 9).trans h5) (fun a0_11 fa0_11 => ?_)
  clear fa0_10
  have r_a0_12 : (execOp a0_11.eval { dst := some 33, op := Op.binOp BinOp.add 3 (Operand.tmp 32) (Operand.const (Value.int IntKind.i64 1)) 3, type := 3, pos := "outright.go:210", after := #[{ on := 0, ground := Ground.data }], guard := none }).run Try.prog (W1) = .ok (.value (.int .i64 ((i : Int) + 1))) (W1) := by
    have kc : ∀ v, a0_11.eval (.const v) = v := fun _ => rfl
    have e32 := (show a0_11.eval (.tmp 32) = .int .i64 (i : Int) from (fa0_11.at_ 32))
    clear fa0_11 hQ h5
    generalize a0_11.eval = ρ at *
    go_simp
  refine fa0_11.step 33 (.int .i64 ((i : Int) + 1)) rfl (lb_ I0.size) (wanted_none rfl) r_a0_12 (fun a0_12 fa0_12 => ?_)
  clear r_a0_12
  clear fa0_11
  refine fa0_12.move 9 (.int .i64 ((i : Int) + 1)) _ (Or.inr rfl) rfl (lb_ I0.size) (wanted_none rfl) (fa0_12.at_ 33) (fun a0_13 fa0_13 => ?_)
  clear fa0_12
  refine wpList_nil ?_
  exact hQ a0_13 W1 (I0.keep fa0_13 rfl rfl rfl rfl rfl rfl) (show a0_13.eval (.tmp 9) = .int .i64 ((i : Int) + 1) from (fa0_13.at_ 9)) d1 f1
theorem pd1L {xc b m : Nat} {xa : Option Addr} {L : List Sp} {D : Dk} {U : Nat → Prop} {v1 v2 v10 v11 : Value} {Q : Exit → Act → World → Prop} (a0 : Act) (w : World) (I0 : IPD (.slice xa L.length xc) v1 v2 (.pointer (some ⟨b, 0, none⟩)) v10 v11 a0) (h5 : a0.eval (.tmp 9) = .int .i64 ((0 : Nat) : Int)) (hL : SpRow w xa L) (hLU : ∀ g o, L ≠ [] → xa = some ⟨g, o, none⟩ → ¬ U g) (hD : DkAt w b D U) (hI : DkIn D m) (hm : m + L.length ≤ 1048576)
    (hQ : ∀ a W, IPD (.slice xa L.length xc) v1 v2 (.pointer (some ⟨b, 0, none⟩)) v10 v11 a → DkAt W b (playsD D L) (Land U w W) → Fr U w W → Q (.exit 0) a W) : (Code.loop cPD1).wp Try.prog Q a0 w := by
  refine wp_loop (fun a W => IPD (.slice xa L.length xc) v1 v2 (.pointer (some ⟨b, 0, none⟩)) v10 v11 a ∧ ∃ i : Nat, i ≤ L.length ∧ a.eval (.tmp 9) = .int .i64 (i : Int) ∧ DkAt W b (playsD D (L.take i)) (Land U w W) ∧ Fr U w W) (fun a _ => L.length - kOf a 9) ⟨I0, 0, Nat.zero_le _, h5, hD.stay, Fr.refl _ _⟩ ?_
  rintro a W ⟨I1, i, hi, g5, d1, f1⟩
  by_cases hgo : i < L.length
  · obtain ⟨s, hs⟩ : ∃ s, L[i]? = some s := ⟨_, List.getElem?_eq_getElem hgo⟩
    obtain ⟨g, o, rfl, hg⟩ := hL.place (fun e => by rw [e] at hgo; cases hgo)
    have hrow := (hL.fr f1 hLU).rows g o rfl i s hs
    have hI1 : DkIn (playsD D (L.take i)) (m + i) := by
      have := plays_in (L := L.take i) hI
      rw [List.length_take, Nat.min_eq_left hi] at this
      exact this
    refine pd1R (Q := Exit.then _ Q) a W I1 g5 hgo (by omega) hrow (hL.no s (List.mem_of_getElem? hs)) d1 hI1 (by omega) (fun a' W3 i3 h1 d3 f3 => ?_)
    have h4 : a'.eval (.tmp 9) = .int .i64 ((i + 1 : Nat) : Int) := h1
    have f4 : Fr U w W3 := Fr.trans f1 f3 (fun k hl hk => by rcases hk with e | e; exact e; exact absurd e.1 (by omega))
    refine ⟨⟨i3, i + 1, hgo, h4, by rw [playsD_snoc hs]; exact d3.land (fun k hk => Land.trans f1.size f3.size hk) (fun k hk => land_lt hD.lt f4.size hk), f4⟩, ?_⟩
    show L.length - kOf a' 9 < L.length - kOf a 9
    rw [kOf_eq h4, kOf_eq g5]
    omega
  · obtain rfl : L.length = i := by omega
    rw [playsD_all] at d1
    exact pd1E a W I1 g5 (Nat.le_refl _) (fun a' i2 => hQ a' W i2 d1 f1)
theorem pd2E {n i xc : Nat} {xa : Option Addr} {v0 v2 v7 v10 v11 : Value} {Q : Exit → Act → World → Prop} (a0 : Act) (wr : World) (I0 : IPD v0 (.slice xa n xc) v2 v7 v10 v11 a0) (h5 : a0.eval (.tmp 12) = .int .i64 (i : Int)) (hi : n ≤ i) (hQ : ∀ a, IPD v0 (.slice xa n xc) v2 v7 v10 v11 a → Q (.exit 2) a wr) : cPD2.wp Try.prog Q a0 wr := by
  have hii : ¬ (i : Int) < (n : Int) := by omega
  have hid : decide ((i : Int) < (n : Int)) = false := decide_eq_false hii
  clear hi
  have fa0_0 := Fe.refl a0
  unfold cPD2
  refine wp_seq (wp_seq ?_)
  refine wp_region_list ?_
  unfold rPD12
  refine fa0_0.move 50 (.int .i64 (i : Int)) _ (Or.inl rfl) rfl (lb_ I0.size) (wanted_none rfl) ((fa0_0.at_ 12).trans h5) (fun a0_1 fa0_1 => ?_)
  clear fa0_0
  refine fa0_1.move 51 (.slice xa n xc) _ (Or.inl rfl) rfl (lb_ I0.size) (wanted_none rfl) ((fa0_1.at_ 1).trans I0.s1) (fun a0_2 fa0_2 => ?_)
  clear fa0_1
  have r_a0_3 : (execOp a0_2.eval { dst := some 52, op := Op.call { callee := Callee.builtin Builtin.len, args := #[Operand.tmp 51], argTypes := #[23] }, type := 3, pos := "outright.go:217", after := #[{ on := 1, ground := Ground.data }], guard := none }).run Try.prog (wr) = .ok (.value (.int .i64 (n : Int))) (wr) := by
    have e51 := (show a0_2.eval (.tmp 51) = .slice xa n xc from (fa0_2.at_ 51))
    clear fa0_2 hQ h5
    generalize a0_2.eval = ρ at *
    go_simp
  refine fa0_2.step 52 (.int .i64 (n : Int)) rfl (lb_ I0.size) (wanted_none rfl) r_a0_3 (fun a0_3 fa0_3 => ?_)
  clear r_a0_3
  clear fa0_2
  have r_a0_4 : (execOp a0_3.eval { dst := some 53, op := Op.binOp BinOp.lss 3 (Operand.tmp 50) (Operand.tmp 52) 3, type := 4, pos := "outright.go:217", after := #[{ on := 0, ground := Ground.data }, { on := 2, ground := Ground.data }], guard := none }).run Try.prog (wr) = .ok (.value (.bool false)) (wr) := by
    have e50 := (show a0_3.eval (.tmp 50) = .int .i64 (i : Int) from (fa0_3.at_ 50))
    have e52 := (show a0_3.eval (.tmp 52) = .int .i64 (n : Int) from (fa0_3.at_ 52))
    clear fa0_3 hQ h5
    generalize a0_3.eval = ρ at *
    go_simp
  refine fa0_3.step 53 (.bool false) rfl (lb_ I0.size) (wanted_none rfl) r_a0_4 (fun a0_4 fa0_4 => ?_)
  clear r_a0_4
  clear fa0_3
  refine wpList_nil ?_
  change Code.wp _ _ _ _ _
  refine wp_cond_false (show a0_4.eval (.tmp 53) = .bool false from (fa0_4.at_ 53)) (wp_exit ?_)
  exact hQ a0_4 (I0.keep fa0_4 rfl rfl rfl rfl rfl rfl)
set_option maxRecDepth 100000 in
set_option maxHeartbeats 1000000 in
theorem pd2R {n i xc g o b m : Nat} {D : Dk} {s : Sp} {U : Nat → Prop} {v0 v2 v7 v11 : Value} {Q : Exit → Act → World → Prop} (a0 : Act) (wr : World) (I0 : IPD v0 (.slice (some ⟨g, o, none⟩) n xc) v2 v7 (.pointer (some ⟨b, 0, none⟩)) v11 a0) (h5 : a0.eval (.tmp 12) = .int .i64 (i : Int)) (hi : i < n) (hn : n ≤ 1048576) (hrow : wr.rangeAt g (o + i * 9) (spC s)) (hno : s.no < 4294967296) (hD : DkAt wr b D U) (hI : DkIn D m) (hm : m ≤ 1048575)
    (hQ : ∀ a W, IPD v0 (.slice (some ⟨g, o, none⟩) n xc) v2 v7 (.pointer (some ⟨b, 0, none⟩)) v11 a → a.eval (.tmp 12) = .int .i64 ((i : Int) + 1) → DkAt W b (playD D s) (Land U wr W) → Fr U wr W → Q .normal a W) : cPD2.wp Try.prog Q a0 wr := by
  have hii : (i : Int) < (n : Int) := by omega
  have w1 : IntKind.i64.wrap ((i : Int) + 1) = (i : Int) + 1 := by rw [IntKind.wrap_i64]; omega
  have fa0_0 := Fe.refl a0
  unfold cPD2
  refine wp_seq (wp_seq ?_)
  refine wp_region_list ?_
  unfold rPD12
  refine fa0_0.move 50 (.int .i64 (i : Int)) _ (Or.inl rfl) rfl (lb_ I0.size) (wanted_none rfl) ((fa0_0.at_ 12).trans h5) (fun a0_1 fa0_1 => ?_)
  clear fa0_0
  refine fa0_1.move 51 (.slice (some ⟨g, o, none⟩) n xc) _ (Or.inl rfl) rfl (lb_ I0.size) (wanted_none rfl) ((fa0_1.at_ 1).trans I0.s1) (fun a0_2 fa0_2 => ?_)
  clear fa0_1
  have r_a0_3 : (execOp a0_2.eval { dst := some 52, op := Op.call { callee := Callee.builtin Builtin.len, args := #[Operand.tmp 51], argTypes := #[23] }, type := 3, pos := "outright.go:217", after := #[{ on := 1, ground := Ground.data }], guard := none }).run Try.prog (wr) = .ok (.value (.int .i64 (n : Int))) (wr) := by
    have e51 := (show a0_2.eval (.tmp 51) = .slice (some ⟨g, o, none⟩) n xc from (fa0_2.at_ 51))
    clear fa0_2 hQ h5
    generalize a0_2.eval = ρ at *
    go_simp
  refine fa0_2.step 52 (.int .i64 (n : Int)) rfl (lb_ I0.size) (wanted_none rfl) r_a0_3 (fun a0_3 fa0_3 => ?_)
  clear r_a0_3
  clear fa0_2
  have r_a0_4 : (execOp a0_3.eval { dst := some 53, op := Op.binOp BinOp.lss 3 (Operand.tmp 50) (Operand.tmp 52) 3, type := 4, pos := "outright.go:217", after := #[{ on := 0, ground := Ground.data }, { on := 2, ground := Ground.data }], guard := none }).run Try.prog (wr) = .ok (.value (.bool true)) (wr) := by
    have e50 := (show a0_3.eval (.tmp 50) = .int .i64 (i : Int) from (fa0_3.at_ 50))
    have e52 := (show a0_3.eval (.tmp 52) = .int .i64 (n : Int) from (fa0_3.at_ 52))
    clear fa0_3 hQ h5
    generalize a0_3.eval = ρ at *
    go_simp
  refine fa0_3.step 53 (.bool true) rfl (lb_ I0.size) (wanted_none rfl) r_a0_4 (fun a0_4 fa0_4 => ?_)
  clear r_a0_4
  clear fa0_3
  refine wpList_nil ?_
  change Code.wp _ _ _ _ _
  refine wp_cond_true (show a0_4.eval (.tmp 53) = .bool true from (fa0_4.at_ 53)) (wp_skip ?_)
  change Code.wp _ _ _ _ _
  refine wp_seq (wp_block ?_)
  refine wp_region_list ?_
  unfold rPD14
  refine fa0_4.move 56 (.pointer (some ⟨b, 0, none⟩)) _ (Or.inl rfl) rfl (lb_ I0.size) (wanted_none rfl) ((fa0_4.at_ 10).trans I0.s10) (fun a0_5 fa0_5 => ?_)
  clear fa0_4
  refine fa0_5.move 57 (.slice (some ⟨g, o, none⟩) n xc) _ (Or.inl rfl) rfl (lb_ I0.size) (wanted_none rfl) ((fa0_5.at_ 1).trans I0.s1) (fun a0_6 fa0_6 => ?_)
  clear fa0_5
  refine fa0_6.move 58 (.int .i64 (i : Int)) _ (Or.inl rfl) rfl (lb_ I0.size) (wanted_none rfl) ((fa0_6.at_ 12).trans h5) (fun a0_7 fa0_7 => ?_)
  clear fa0_6
  have r_a0_8 : (execOp a0_7.eval { dst := some 59, op := Op.indexAddr 23 (Operand.tmp 57) (Operand.tmp 58), type := 0, pos := "outright.go:218", after := #[{ on := 1, ground := Ground.data }, { on := 2, ground := Ground.data }], guard := none }).run Try.prog (wr) = .ok (.value (.pointer (some ⟨g, o + i * 9, none⟩))) (wr) := by
    have e57 := (show a0_7.eval (.tmp 57) = .slice (some ⟨g, o, none⟩) n xc from (fa0_7.at_ 57))
    have e58 := (show a0_7.eval (.tmp 58) = .int .i64 (i : Int) from (fa0_7.at_ 58))
    clear fa0_7 hQ h5
    generalize a0_7.eval = ρ at *
    go_simp
  refine fa0_7.step 59 (.pointer (some ⟨g, o + i * 9, none⟩)) rfl (lb_ I0.size) (wanted_none rfl) r_a0_8 (fun a0_8 fa0_8 => ?_)
  clear r_a0_8
  clear fa0_7
  have r_a0_9 : (execOp a0_8.eval { dst := some 60, op := Op.load 35 (Operand.tmp 59), type := 35, pos := "outright.go:218", after := #[{ on := 3, ground := Ground.data }], guard := none }).run Try.prog (wr) = .ok (.value (.agg (spC s).toArray)) (wr) := by
    exact exec_load_mid 35 _ rfl g (o + i * 9) (show a0_8.eval (.tmp 59) = .pointer (some ⟨g, o + i * 9, none⟩) from (fa0_8.at_ 59)) (spC s) _ hrow Try.underlying35 rfl (by kernel_rfl)
  refine fa0_8.step 60 (.agg (spC s).toArray) rfl (lb_ I0.size) (wanted_none rfl) r_a0_9 (fun a0_9 fa0_9 => ?_)
  clear r_a0_9
  clear fa0_8
  have r_a0_10 : (execOp a0_9.eval { dst := some 61, op := Op.call { callee := Callee.value (Operand.func 9), args := #[Operand.tmp 56, Operand.tmp 60], argTypes := #[24, 35] }, type := 4, pos := "outright.go:218", after := #[{ on := 0, ground := Ground.data }, { on := 4, ground := Ground.data }], guard := none }).run Try.prog (wr) = .ok (.enter 9 #[.pointer (some ⟨b, 0, none⟩), .agg (spC s).toArray]) (wr) := by
    have kf : ∀ f, a0_9.eval (.func f) = .func (.func f) #[] #[] := fun _ => rfl
    have e56 := (show a0_9.eval (.tmp 56) = .pointer (some ⟨b, 0, none⟩) from (fa0_9.at_ 56))
    have e60 := (show a0_9.eval (.tmp 60) = .agg (spC s).toArray from (fa0_9.at_ 60))
    clear fa0_9 hQ h5
    generalize a0_9.eval = ρ at *
    go_simp
  refine fa0_9.call 61 rfl (lb_ I0.size) (wanted_none rfl) r_a0_10 (play_calls (s := s) wr hD hI hm hno) (fun e W1 hR => ?_)
  obtain ⟨rfl, d1, f1⟩ := hR
  clear r_a0_10
  refine ⟨_, rfl, fun a0_10 fa0_10 => ?_⟩
  clear fa0_9
  refine wpList_nil ?_
  change Code.wp _ _ _ _ _
  refine wp_region_list ?_
  unfold rPD13
  refine fa0_10.move 54 (.int .i64 (i : Int)) _ (Or.inl rfl) rfl (lb_ I0.size) (wanted_none rfl) ((fa0_10.at_ 12).trans h5) (fun a0_11 fa0_11 => ?_)
  clear fa0_10
  have r_a0_12 : (execOp a0_11.eval { dst := some 55, op := Op.binOp BinOp.add 3 (Operand.tmp 54) (Operand.const (Value.int IntKind.i64 1)) 3, type := 3, pos := "outright.go:217", after := #[{ on := 0, ground := Ground.data }], guard := none }).run Try.prog (W1) = .ok (.value (.int .i64 ((i : Int) + 1))) (W1) := by
    have kc : ∀ v, a0_11.eval (.const v) = v := fun _ => rfl
    have e54 := (show a0_11.eval (.tmp 54) = .int .i64 (i : Int) from (fa0_11.at_ 54))
    clear fa0_11 hQ h5
    generalize a0_11.eval = ρ at *
    go_simp
  refine fa0_11.step 55 (.int .i64 ((i : Int) + 1)) rfl (lb_ I0.size) (wanted_none rfl) r_a0_12 (fun a0_12 fa0_12 => ?_)
  clear r_a0_12
  clear fa0_11
  refine fa0_12.move 12 (.int .i64 ((i : Int) + 1)) _ (Or.inr rfl) rfl (lb_ I0.size) (wanted_none rfl) (fa0_12.at_ 55) (fun a0_13 fa0_13 => ?_)
  clear fa0_12
  refine wpList_nil ?_
  exact hQ a0_13 W1 (I0.keep fa0_13 rfl rfl rfl rfl rfl rfl) (show a0_13.eval (.tmp 12) = .int .i64 ((i : Int) + 1) from (fa0_13.at_ 12)) d1 f1
theorem pd2L {xc b m : Nat} {xa : Option Addr} {L : List Sp} {D : Dk} {U : Nat → Prop} {v0 v2 v7 v11 : Value} {Q : Exit → Act → World → Prop} (a0 : Act) (w : World) (I0 : IPD v0 (.slice xa L.length xc) v2 v7 (.pointer (some ⟨b, 0, none⟩)) v11 a0) (h5 : a0.eval (.tmp 12) = .int .i64 ((0 : Nat) : Int)) (hL : SpRow w xa L) (hLU : ∀ g o, L ≠ [] → xa = some ⟨g, o, none⟩ → ¬ U g) (hD : DkAt w b D U) (hI : DkIn D m) (hm : m + L.length ≤ 1048576)
    (hQ : ∀ a W, IPD v0 (.slice xa L.length xc) v2 v7 (.pointer (some ⟨b, 0, none⟩)) v11 a → DkAt W b (playsD D L) (Land U w W) → Fr U w W → Q (.exit 2) a W) : (Code.loop cPD2).wp Try.prog Q a0 w := by
  refine wp_loop (fun a W => IPD v0 (.slice xa L.length xc) v2 v7 (.pointer (some ⟨b, 0, none⟩)) v11 a ∧ ∃ i : Nat, i ≤ L.length ∧ a.eval (.tmp 12) = .int .i64 (i : Int) ∧ DkAt W b (playsD D (L.take i)) (Land U w W) ∧ Fr U w W) (fun a _ => L.length - kOf a 12) ⟨I0, 0, Nat.zero_le _, h5, hD.stay, Fr.refl _ _⟩ ?_
  rintro a W ⟨I1, i, hi, g5, d1, f1⟩
  by_cases hgo : i < L.length
  · obtain ⟨s, hs⟩ : ∃ s, L[i]? = some s := ⟨_, List.getElem?_eq_getElem hgo⟩
    obtain ⟨g, o, rfl, hg⟩ := hL.place (fun e => by rw [e] at hgo; cases hgo)
    have hrow := (hL.fr f1 hLU).rows g o rfl i s hs
    have hI1 : DkIn (playsD D (L.take i)) (m + i) := by
      have := plays_in (L := L.take i) hI
      rw [List.length_take, Nat.min_eq_left hi] at this
      exact this
    refine pd2R (Q := Exit.then _ Q) a W I1 g5 hgo (by omega) hrow (hL.no s (List.mem_of_getElem? hs)) d1 hI1 (by omega) (fun a' W3 i3 h1 d3 f3 => ?_)
    have h4 : a'.eval (.tmp 12) = .int .i64 ((i + 1 : Nat) : Int) := h1
    have f4 : Fr U w W3 := Fr.trans f1 f3 (fun k hl hk => by rcases hk with e | e; exact e; exact absurd e.1 (by omega))
    refine ⟨⟨i3, i + 1, hgo, h4, by rw [playsD_snoc hs]; exact d3.land (fun k hk => Land.trans f1.size f3.size hk) (fun k hk => land_lt hD.lt f4.size hk), f4⟩, ?_⟩
    show L.length - kOf a' 12 < L.length - kOf a 12
    rw [kOf_eq h4, kOf_eq g5]
    omega
  · obtain rfl : L.length = i := by omega
    rw [playsD_all] at d1
    exact pd2E a W I1 g5 (Nat.le_refl _) (fun a' i2 => hQ a' W i2 d1 f1)
theorem pd3E {n i xc : Nat} {xa : Option Addr} {v0 v1 v7 v10 v11 : Value} {Q : Exit → Act → World → Prop} (a0 : Act) (wr : World) (I0 : IPD v0 v1 (.slice xa n xc) v7 v10 v11 a0) (h5 : a0.eval (.tmp 13) = .int .i64 (i : Int)) (hi : n ≤ i) (hQ : ∀ a, IPD v0 v1 (.slice xa n xc) v7 v10 v11 a → Q (.exit 4) a wr) : cPD3.wp Try.prog Q a0 wr := by
  have hii : ¬ (i : Int) < (n : Int) := by omega
  have hid : decide ((i : Int) < (n : Int)) = false := decide_eq_false hii
  clear hi
  have fa0_0 := Fe.refl a0
  unfold cPD3
  refine wp_seq (wp_seq ?_)
  refine wp_region_list ?_
  unfold rPD17
  refine fa0_0.move 65 (.int .i64 (i : Int)) _ (Or.inl rfl) rfl (lb_ I0.size) (wanted_none rfl) ((fa0_0.at_ 13).trans h5) (fun a0_1 fa0_1 => ?_)
  clear fa0_0
  refine fa0_1.move 66 (.slice xa n xc) _ (Or.inl rfl) rfl (lb_ I0.size) (wanted_none rfl) ((fa0_1.at_ 2).trans I0.s2) (fun a0_2 fa0_2 => ?_)
  clear fa0_1
  have r_a0_3 : (execOp a0_2.eval { dst := some 67, op := Op.call { callee := Callee.builtin Builtin.len, args := #[Operand.tmp 66], argTypes := #[23] }, type := 3, pos := "outright.go:221", after := #[{ on := 1, ground := Ground.data }], guard := none }).run Try.prog (wr) = .ok (.value (.int .i64 (n : Int))) (wr) := by
    have e66 := (show a0_2.eval (.tmp 66) = .slice xa n xc from (fa0_2.at_ 66))
    clear fa0_2 hQ h5
    generalize a0_2.eval = ρ at *
    go_simp
  refine fa0_2.step 67 (.int .i64 (n : Int)) rfl (lb_ I0.size) (wanted_none rfl) r_a0_3 (fun a0_3 fa0_3 => ?_)
  clear r_a0_3
  clear fa0_2
  have r_a0_4 : (execOp a0_3.eval { dst := some 68, op := Op.binOp BinOp.lss 3 (Operand.tmp 65) (Operand.tmp 67) 3, type := 4, pos := "outright.go:221", after := #[{ on := 0, ground := Ground.data }, { on := 2, ground := Ground.data }], guard := none }).run Try.prog (wr) = .ok (.value (.bool false)) (wr) := by
    have e65 := (show a0_3.eval (.tmp 65) = .int .i64 (i : Int) from (fa0_3.at_ 65))
    have e67 := (show a0_3.eval (.tmp 67) = .int .i64 (n : Int) from (fa0_3.at_ 67))
    clear fa0_3 hQ h5
    generalize a0_3.eval = ρ at *
    go_simp
  refine fa0_3.step 68 (.bool false) rfl (lb_ I0.size) (wanted_none rfl) r_a0_4 (fun a0_4 fa0_4 => ?_)
  clear r_a0_4
  clear fa0_3
  refine wpList_nil ?_
  change Code.wp _ _ _ _ _
  refine wp_cond_false (show a0_4.eval (.tmp 68) = .bool false from (fa0_4.at_ 68)) (wp_exit ?_)
  exact hQ a0_4 (I0.keep fa0_4 rfl rfl rfl rfl rfl rfl)
set_option maxRecDepth 100000 in
set_option maxHeartbeats 2000000 in
theorem pd3R {n i xc g o b q m : Nat} {D : Dk} {s : Sp} {U V : Nat → Prop} {v0 v1 v10 : Value} {Q : Exit → Act → World → Prop} (hQp : ∀ c (a : Act) d v w, Q (.panic c) (a.put d v) w → Q (.panic c) a w) (a0 : Act) (wr : World) (I0 : IPD v0 v1 (.slice (some ⟨g, o, none⟩) n xc) (.pointer (some ⟨b, 0, none⟩)) v10 (.pointer (some ⟨q, 0, none⟩)) a0) (h5 : a0.eval (.tmp 13) = .int .i64 (i : Int)) (hi : i < n) (hn : n ≤ 1048576) (hrow : wr.rangeAt g (o + i * 9) (spC s)) (hgU : ¬ U g) (hgV : ¬ V g) (hno : s.no < 4294967296) (hD : DkAt wr b D U) (hG : DkAt wr q D V) (hUV : ∀ k, V k → ¬ U k) (hI : DkIn D m) (hm : m ≤ 1048575)
    (hQ : ∀ a W (U' V' : Nat → Prop), IPD v0 v1 (.slice (some ⟨g, o, none⟩) n xc) (.pointer (some ⟨b, 0, none⟩)) v10 (.pointer (some ⟨q, 0, none⟩)) a → a.eval (.tmp 13) = .int .i64 ((i : Int) + 1) → DkAt W b (playD D s) U' → DkAt W q (playD D s) V' → (∀ k, V' k → ¬ U' k) → (∀ k, U' k → U k ∨ wr.heap.size ≤ k) → (∀ k, V' k → V k ∨ wr.heap.size ≤ k) → Fr (fun k => U k ∨ V k) wr W → Q .normal a W) : cPD3.wp Try.prog Q a0 wr := by
  have hii : (i : Int) < (n : Int) := by omega
  have w1 : IntKind.i64.wrap ((i : Int) + 1) = (i : Int) + 1 := by rw [IntKind.wrap_i64]; omega
  have fa0_0 := Fe.refl a0
  unfold cPD3
  refine wp_seq (wp_seq ?_)
  refine wp_region_list ?_
  unfold rPD17
  refine fa0_0.move 65 (.int .i64 (i : Int)) _ (Or.inl rfl) rfl (lb_ I0.size) (wanted_none rfl) ((fa0_0.at_ 13).trans h5) (fun a0_1 fa0_1 => ?_)
  clear fa0_0
  refine fa0_1.move 66 (.slice (some ⟨g, o, none⟩) n xc) _ (Or.inl rfl) rfl (lb_ I0.size) (wanted_none rfl) ((fa0_1.at_ 2).trans I0.s2) (fun a0_2 fa0_2 => ?_)
  clear fa0_1
  have r_a0_3 : (execOp a0_2.eval { dst := some 67, op := Op.call { callee := Callee.builtin Builtin.len, args := #[Operand.tmp 66], argTypes := #[23] }, type := 3, pos := "outright.go:221", after := #[{ on := 1, ground := Ground.data }], guard := none }).run Try.prog (wr) = .ok (.value (.int .i64 (n : Int))) (wr) := by
    have e66 := (show a0_2.eval (.tmp 66) = .slice (some ⟨g, o, none⟩) n xc from (fa0_2.at_ 66))
    clear fa0_2 hQ h5
    generalize a0_2.eval = ρ at *
    go_simp
  refine fa0_2.step 67 (.int .i64 (n : Int)) rfl (lb_ I0.size) (wanted_none rfl) r_a0_3 (fun a0_3 fa0_3 => ?_)
  clear r_a0_3
  clear fa0_2
  have r_a0_4 : (execOp a0_3.eval { dst := some 68, op := Op.binOp BinOp.lss 3 (Operand.tmp 65) (Operand.tmp 67) 3, type := 4, pos := "outright.go:221", after := #[{ on := 0, ground := Ground.data }, { on := 2, ground := Ground.data }], guard := none }).run Try.prog (wr) = .ok (.value (.bool true)) (wr) := by
    have e65 := (show a0_3.eval (.tmp 65) = .int .i64 (i : Int) from (fa0_3.at_ 65))
    have e67 := (show a0_3.eval (.tmp 67) = .int .i64 (n : Int) from (fa0_3.at_ 67))
    clear fa0_3 hQ h5
    generalize a0_3.eval = ρ at *
    go_simp
  refine fa0_3.step 68 (.bool true) rfl (lb_ I0.size) (wanted_none rfl) r_a0_4 (fun a0_4 fa0_4 => ?_)
  clear r_a0_4
  clear fa0_3
  refine wpList_nil ?_
  change Code.wp _ _ _ _ _
  refine wp_cond_true (show a0_4.eval (.tmp 68) = .bool true from (fa0_4.at_ 68)) (wp_skip ?_)
  change Code.wp _ _ _ _ _
  refine wp_seq (wp_block (wp_seq ?_))
  have dd : Same wr wr.drew := (Fr.refl (fun _ => False) wr).drew
  refine wp_region_held_drew (ops := rPD19) (S := fun Z => Z.rangeAt g (o + i * 9) (spC s)) (by kernel_rfl) (fun j v hj => dd.keep (hrow j v hj)) (fun hS4 => ?_)
  refine fa0_4.takeMove 0 71 (.pointer (some ⟨b, 0, none⟩)) _ (Or.inl rfl) rfl (by kernel_rfl) (by kernel_rfl) (by kernel_rfl) (fun _ _ _ h => hQp _ _ _ _ _ h) rfl (lb_ I0.size) (wanted_none rfl) ((fa0_4.at_ 7).trans I0.s7) hS4 (fun a0_5 fa0_5 => ?_)
  clear fa0_4
  refine fa0_5.takeMove 1 72 (.slice (some ⟨g, o, none⟩) n xc) _ (Or.inl rfl) rfl (by kernel_rfl) (by kernel_rfl) (by kernel_rfl) (fun _ _ _ h => hQp _ _ _ _ _ h) rfl (lb_ I0.size) (wanted_none rfl) ((fa0_5.at_ 2).trans I0.s2) hS4 (fun a0_6 fa0_6 => ?_)
  clear fa0_5
  refine fa0_6.takeMove 2 73 (.int .i64 (i : Int)) _ (Or.inl rfl) rfl (by kernel_rfl) (by kernel_rfl) (by kernel_rfl) (fun _ _ _ h => hQp _ _ _ _ _ h) rfl (lb_ I0.size) (wanted_none rfl) ((fa0_6.at_ 13).trans h5) hS4 (fun a0_7 fa0_7 => ?_)
  clear fa0_6
  have r_a0_8 : ∀ Z, (fun Z => Z.rangeAt g (o + i * 9) (spC s)) Z → (execOp a0_7.eval { dst := some 74, op := Op.indexAddr 23 (Operand.tmp 72) (Operand.tmp 73), type := 0, pos := "outright.go:222", after := #[{ on := 1, ground := Ground.data }, { on := 2, ground := Ground.data }], guard := none }).run Try.prog Z = .ok (.value (.pointer (some ⟨g, o + i * 9, none⟩))) Z := fun Z hZ => by
    have e72 := (show a0_7.eval (.tmp 72) = .slice (some ⟨g, o, none⟩) n xc from (fa0_7.at_ 72))
    have e73 := (show a0_7.eval (.tmp 73) = .int .i64 (i : Int) from (fa0_7.at_ 73))
    clear fa0_7 hQ h5
    generalize a0_7.eval = ρ at *
    go_simp
  refine fa0_7.take 3 74 (.pointer (some ⟨g, o + i * 9, none⟩)) rfl (by kernel_rfl) (by kernel_rfl) (by kernel_rfl) (fun _ _ _ h => hQp _ _ _ _ _ h) rfl (lb_ I0.size) (wanted_none rfl) r_a0_8 hS4 (fun a0_8 fa0_8 => ?_)
  clear r_a0_8
  clear fa0_7
  have r_a0_9 : ∀ Z, (fun Z => Z.rangeAt g (o + i * 9) (spC s)) Z → (execOp a0_8.eval { dst := some 75, op := Op.load 35 (Operand.tmp 74), type := 35, pos := "outright.go:222", after := #[{ on := 3, ground := Ground.data }], guard := none }).run Try.prog Z = .ok (.value (.agg (spC s).toArray)) Z := fun Z hZ => by
    exact exec_load_mid 35 _ rfl g (o + i * 9) (show a0_8.eval (.tmp 74) = .pointer (some ⟨g, o + i * 9, none⟩) from (fa0_8.at_ 74)) (spC s) _ hZ Try.underlying35 rfl (by kernel_rfl)
  refine fa0_8.take 4 75 (.agg (spC s).toArray) rfl (by kernel_rfl) (by kernel_rfl) (by kernel_rfl) (fun _ _ _ h => hQp _ _ _ _ _ h) rfl (lb_ I0.size) (wanted_none rfl) r_a0_9 hS4 (fun a0_9 fa0_9 => ?_)
  clear r_a0_9
  clear fa0_8
  refine fa0_9.takeMove 6 77 (.pointer (some ⟨q, 0, none⟩)) _ (Or.inl rfl) rfl (by kernel_rfl) (by kernel_rfl) (by kernel_rfl) (fun _ _ _ h => hQp _ _ _ _ _ h) rfl (lb_ I0.size) (wanted_none rfl) ((fa0_9.at_ 11).trans I0.s11) hS4 (fun a0_10 fa0_10 => ?_)
  clear fa0_9
  refine fa0_10.takeMove 7 78 (.slice (some ⟨g, o, none⟩) n xc) _ (Or.inl rfl) rfl (by kernel_rfl) (by kernel_rfl) (by kernel_rfl) (fun _ _ _ h => hQp _ _ _ _ _ h) rfl (lb_ I0.size) (wanted_none rfl) ((fa0_10.at_ 2).trans I0.s2) hS4 (fun a0_11 fa0_11 => ?_)
  clear fa0_10
  refine fa0_11.takeMove 8 79 (.int .i64 (i : Int)) _ (Or.inl rfl) rfl (by kernel_rfl) (by kernel_rfl) (by kernel_rfl) (fun _ _ _ h => hQp _ _ _ _ _ h) rfl (lb_ I0.size) (wanted_none rfl) ((fa0_11.at_ 13).trans h5) hS4 (fun a0_12 fa0_12 => ?_)
  clear fa0_11
  have r_a0_13 : ∀ Z, (fun Z => Z.rangeAt g (o + i * 9) (spC s)) Z → (execOp a0_12.eval { dst := some 80, op := Op.indexAddr 23 (Operand.tmp 78) (Operand.tmp 79), type := 0, pos := "outright.go:222", after := #[{ on := 7, ground := Ground.data }, { on := 8, ground := Ground.data }], guard := none }).run Try.prog Z = .ok (.value (.pointer (some ⟨g, o + i * 9, none⟩))) Z := fun Z hZ => by
    have e78 := (show a0_12.eval (.tmp 78) = .slice (some ⟨g, o, none⟩) n xc from (fa0_12.at_ 78))
    have e79 := (show a0_12.eval (.tmp 79) = .int .i64 (i : Int) from (fa0_12.at_ 79))
    clear fa0_12 hQ h5
    generalize a0_12.eval = ρ at *
    go_simp
  refine fa0_12.take 9 80 (.pointer (some ⟨g, o + i * 9, none⟩)) rfl (by kernel_rfl) (by kernel_rfl) (by kernel_rfl) (fun _ _ _ h => hQp _ _ _ _ _ h) rfl (lb_ I0.size) (wanted_none rfl) r_a0_13 hS4 (fun a0_13 fa0_13 => ?_)
  clear r_a0_13
  clear fa0_12
  have r_a0_14 : ∀ Z, (fun Z => Z.rangeAt g (o + i * 9) (spC s)) Z → (execOp a0_13.eval { dst := some 81, op := Op.load 35 (Operand.tmp 80), type := 35, pos := "outright.go:222", after := #[{ on := 9, ground := Ground.data }], guard := none }).run Try.prog Z = .ok (.value (.agg (spC s).toArray)) Z := fun Z hZ => by
    exact exec_load_mid 35 _ rfl g (o + i * 9) (show a0_13.eval (.tmp 80) = .pointer (some ⟨g, o + i * 9, none⟩) from (fa0_13.at_ 80)) (spC s) _ hZ Try.underlying35 rfl (by kernel_rfl)
  refine fa0_13.take 10 81 (.agg (spC s).toArray) rfl (by kernel_rfl) (by kernel_rfl) (by kernel_rfl) (fun _ _ _ h => hQp _ _ _ _ _ h) rfl (lb_ I0.size) (wanted_none rfl) r_a0_14 hS4 (fun a0_14 fa0_14 => ?_)
  clear r_a0_14
  clear fa0_13
  have r_a0_15 : (execOp a0_14.eval { dst := some 76, op := Op.call { callee := Callee.value (Operand.func 9), args := #[Operand.tmp 71, Operand.tmp 75], argTypes := #[24, 35] }, type := 4, pos := "outright.go:222", after := #[{ on := 0, ground := Ground.data }, { on := 4, ground := Ground.data }], guard := none }).run Try.prog (wr.drew) = .ok (.enter 9 #[.pointer (some ⟨b, 0, none⟩), .agg (spC s).toArray]) (wr.drew) := by
    have kf : ∀ f, a0_14.eval (.func f) = .func (.func f) #[] #[] := fun _ => rfl
    have e71 := (show a0_14.eval (.tmp 71) = .pointer (some ⟨b, 0, none⟩) from (fa0_14.at_ 71))
    have e75 := (show a0_14.eval (.tmp 75) = .agg (spC s).toArray from (fa0_14.at_ 75))
    clear fa0_14 hQ h5
    generalize a0_14.eval = ρ at *
    go_simp
  refine fa0_14.oneCall 5 76 (by kernel_rfl) rfl rfl (lb_ I0.size) (wanted_none rfl) r_a0_15 (play_calls (s := s) wr.drew (hD.same dd) hI hm hno) (fun e W1 hR => ?_)
  obtain ⟨rfl, d1, f1⟩ := hR
  clear r_a0_15
  have hS15 : (fun Z => Z.rangeAt g (o + i * 9) (spC s)) W1 := fun j v hj => by have c := hrow j v hj; exact (f1.cell (World.block_lt_of_cell? _ _ (dd.keep c)) hgU).trans (dd.keep c)
  refine ⟨_, rfl, hS15, fun a0_15 fa0_15 => ?_⟩
  clear fa0_14
  have r_a0_16 : (execOp a0_15.eval { dst := some 82, op := Op.call { callee := Callee.value (Operand.func 9), args := #[Operand.tmp 77, Operand.tmp 81], argTypes := #[24, 35] }, type := 4, pos := "outright.go:222", after := #[{ on := 6, ground := Ground.data }, { on := 10, ground := Ground.data }, { on := 5, ground := Ground.chain }], guard := none }).run Try.prog (W1) = .ok (.enter 9 #[.pointer (some ⟨q, 0, none⟩), .agg (spC s).toArray]) (W1) := by
    have kf : ∀ f, a0_15.eval (.func f) = .func (.func f) #[] #[] := fun _ => rfl
    have e77 := (show a0_15.eval (.tmp 77) = .pointer (some ⟨q, 0, none⟩) from (fa0_15.at_ 77))
    have e81 := (show a0_15.eval (.tmp 81) = .agg (spC s).toArray from (fa0_15.at_ 81))
    clear fa0_15 hQ h5
    generalize a0_15.eval = ρ at *
    go_simp
  refine fa0_15.oneCall 11 82 (by kernel_rfl) rfl rfl (lb_ I0.size) (wanted_none rfl) r_a0_16 (play_calls (s := s) W1 (hG.fr (Fr.trans (dd.mono (fun _ _ f => f.elim)) f1 (fun _ _ e => e)) hUV) hI hm hno) (fun e W2 hR => ?_)
  obtain ⟨rfl, d2, f2⟩ := hR
  clear r_a0_16
  have hS16 : (fun Z => Z.rangeAt g (o + i * 9) (spC s)) W2 := fun j v hj => by have c := hrow j v hj; have c1 := (f1.cell (World.block_lt_of_cell? _ _ (dd.keep c)) hgU).trans (dd.keep c); exact (f2.cell (World.block_lt_of_cell? _ _ c1) hgV).trans c1
  refine ⟨_, rfl, hS16, fun a0_16 fa0_16 => ?_⟩
  clear fa0_15
  have r_a0_17 : ∀ Z, (fun Z => Z.rangeAt g (o + i * 9) (spC s)) Z → (execOp a0_16.eval { dst := some 83, op := Op.binOp BinOp.neq 4 (Operand.tmp 76) (Operand.tmp 82) 4, type := 4, pos := "outright.go:222", after := #[{ on := 5, ground := Ground.data }, { on := 11, ground := Ground.data }], guard := none }).run Try.prog Z = .ok (.value (.bool false)) Z := fun Z hZ => by
    have e76 := (show a0_16.eval (.tmp 76) = .bool (playE D s) from (fa0_16.at_ 76))
    have e82 := (show a0_16.eval (.tmp 82) = .bool (playE D s) from (fa0_16.at_ 82))
    clear fa0_16 hQ h5
    generalize a0_16.eval = ρ at *
    generalize playE D s = pb at *
    cases pb <;> go_simp
  refine fa0_16.take 12 83 (.bool false) rfl (by kernel_rfl) (by kernel_rfl) (by kernel_rfl) (fun _ _ _ h => hQp _ _ _ _ _ h) rfl (lb_ I0.size) (wanted_none rfl) r_a0_17 hS16 (fun a0_17 fa0_17 => ?_)
  clear r_a0_17
  clear fa0_16
  refine wpAnyH_done (by kernel_rfl) ?_ _
  change Code.wp _ _ _ _ _
  refine wp_cond_false (show a0_17.eval (.tmp 83) = .bool false from (fa0_17.at_ 83)) (wp_skip ?_)
  change Code.wp _ _ _ _ _
  refine wp_region_list ?_
  unfold rPD18
  refine fa0_17.move 69 (.int .i64 (i : Int)) _ (Or.inl rfl) rfl (lb_ I0.size) (wanted_none rfl) ((fa0_17.at_ 13).trans h5) (fun a0_18 fa0_18 => ?_)
  clear fa0_17
  have r_a0_19 : (execOp a0_18.eval { dst := some 70, op := Op.binOp BinOp.add 3 (Operand.tmp 69) (Operand.const (Value.int IntKind.i64 1)) 3, type := 3, pos := "outright.go:221", after := #[{ on := 0, ground := Ground.data }], guard := none }).run Try.prog (W2) = .ok (.value (.int .i64 ((i : Int) + 1))) (W2) := by
    have kc : ∀ v, a0_18.eval (.const v) = v := fun _ => rfl
    have e69 := (show a0_18.eval (.tmp 69) = .int .i64 (i : Int) from (fa0_18.at_ 69))
    clear fa0_18 hQ h5
    generalize a0_18.eval = ρ at *
    go_simp
  refine fa0_18.step 70 (.int .i64 ((i : Int) + 1)) rfl (lb_ I0.size) (wanted_none rfl) r_a0_19 (fun a0_19 fa0_19 => ?_)
  clear r_a0_19
  clear fa0_18
  refine fa0_19.move 13 (.int .i64 ((i : Int) + 1)) _ (Or.inr rfl) rfl (lb_ I0.size) (wanted_none rfl) (fa0_19.at_ 70) (fun a0_20 fa0_20 => ?_)
  clear fa0_19
  refine wpList_nil ?_
  have fA : Fr U wr W1 := Fr.trans (dd.mono (fun _ _ f => f.elim)) f1 (fun _ _ e => e)
  have fB : Fr (fun k => U k ∨ V k) wr W2 := Fr.trans (fA.mono (fun _ _ e => Or.inl e)) f2 (fun _ _ e => Or.inr e)
  have hb := hD.lt
  have sdd := dd.size
  have sf1 := f1.size
  have sf2 := f2.size
  refine hQ a0_20 W2 (Land U wr.drew W1) (Land V W1 W2) (I0.keep fa0_20 rfl rfl rfl rfl rfl rfl) (show a0_20.eval (.tmp 13) = .int .i64 ((i : Int) + 1) from (fa0_20.at_ 13)) ?_ d2 ?_ ?_ ?_ fB
  · exact d1.fr f2 (fun k hk hv => by rcases hk with e | e; exact hUV k hv e; exact absurd (hG.lt k hv) (by have := e.1; omega))
  · intro k hk hu
    rcases hk with e | e <;> rcases hu with e2 | e2
    · exact hUV k e e2
    · have := hG.lt k e; have := e2.1; omega
    · have := hD.lt k e2; have := e.1; omega
    · have := e2.2; have := e.1; omega
  · exact fun k hk => by rcases hk with e | e; exact Or.inl e; exact Or.inr (by have := e.1; omega)
  · exact fun k hk => by rcases hk with e | e; exact Or.inl e; exact Or.inr (by have := e.1; omega)
theorem pd3L {xc b q m : Nat} {xa : Option Addr} {L : List Sp} {D : Dk} {U V : Nat → Prop} {v0 v1 v10 : Value} {Q : Exit → Act → World → Prop} (hQp : ∀ c (a : Act) d v w, Q (.panic c) (a.put d v) w → Q (.panic c) a w) (a0 : Act) (w : World) (I0 : IPD v0 v1 (.slice xa L.length xc) (.pointer (some ⟨b, 0, none⟩)) v10 (.pointer (some ⟨q, 0, none⟩)) a0) (h5 : a0.eval (.tmp 13) = .int .i64 ((0 : Nat) : Int)) (hL : SpRow w xa L) (hLU : ∀ g o, L ≠ [] → xa = some ⟨g, o, none⟩ → ¬ U g) (hLV : ∀ g o, L ≠ [] → xa = some ⟨g, o, none⟩ → ¬ V g) (hD : DkAt w b D U) (hG : DkAt w q D V) (hUV : ∀ k, V k → ¬ U k) (hI : DkIn D m) (hm : m + L.length ≤ 1048576)
    (hQ : ∀ a W (U' V' : Nat → Prop), IPD v0 v1 (.slice xa L.length xc) (.pointer (some ⟨b, 0, none⟩)) v10 (.pointer (some ⟨q, 0, none⟩)) a → DkAt W b (playsD D L) U' → DkAt W q (playsD D L) V' → Fr (fun k => U k ∨ V k) w W → Q (.exit 4) a W) : (Code.loop cPD3).wp Try.prog Q a0 w := by
  refine wp_loop (fun a W => IPD v0 v1 (.slice xa L.length xc) (.pointer (some ⟨b, 0, none⟩)) v10 (.pointer (some ⟨q, 0, none⟩)) a ∧ ∃ (i : Nat) (U' V' : Nat → Prop), i ≤ L.length ∧ a.eval (.tmp 13) = .int .i64 (i : Int) ∧ DkAt W b (playsD D (L.take i)) U' ∧ DkAt W q (playsD D (L.take i)) V' ∧ (∀ k, V' k → ¬ U' k) ∧ (∀ k, U' k → U k ∨ w.heap.size ≤ k) ∧ (∀ k, V' k → V k ∨ w.heap.size ≤ k) ∧ Fr (fun k => U k ∨ V k) w W) (fun a _ => L.length - kOf a 13) ⟨I0, 0, U, V, Nat.zero_le _, h5, hD, hG, hUV, fun _ e => Or.inl e, fun _ e => Or.inl e, Fr.refl _ _⟩ ?_
  rintro a W ⟨I1, i, U1, V1, hi, g5, d1, g1, uv1, u1, v1, f1⟩
  by_cases hgo : i < L.length
  · obtain ⟨s, hs⟩ : ∃ s, L[i]? = some s := ⟨_, List.getElem?_eq_getElem hgo⟩
    have hne : L ≠ [] := fun e => by rw [e] at hgo; cases hgo
    obtain ⟨g, o, rfl, hg⟩ := hL.place hne
    have hrow := (hL.fr f1 (fun g o hne e k => by rcases k with k | k; exact hLU g o hne e k; exact hLV g o hne e k)).rows g o rfl i s hs
    have hI1 : DkIn (playsD D (L.take i)) (m + i) := by
      have := plays_in (L := L.take i) hI
      rw [List.length_take, Nat.min_eq_left hi] at this
      exact this
    refine pd3R (Q := Exit.then _ Q) hQp a W I1 g5 hgo (by omega) hrow (fun e => by rcases u1 g e with e | e; exact hLU g o hne rfl e; omega) (fun e => by rcases v1 g e with e | e; exact hLV g o hne rfl e; omega) (hL.no s (List.mem_of_getElem? hs)) d1 g1 uv1 hI1 (by omega) (fun a' W3 U3 V3 i3 h1 d3 g3 uv3 u3 v3 f3 => ?_)
    have h4 : a'.eval (.tmp 13) = .int .i64 ((i + 1 : Nat) : Int) := h1
    have sf := f1.size
    have f4 : Fr (fun k => U k ∨ V k) w W3 := Fr.trans f1 f3 (fun k hl hk => by
      rcases hk with hk | hk
      · rcases u1 k hk with e | e
        · exact Or.inl e
        · omega
      · rcases v1 k hk with e | e
        · exact Or.inr e
        · omega)
    refine ⟨⟨i3, i + 1, U3, V3, hgo, h4, by rw [playsD_snoc hs]; exact d3, by rw [playsD_snoc hs]; exact g3, uv3, fun k hk => ?_, fun k hk => ?_, f4⟩, ?_⟩
    · rcases u3 k hk with e | e
      · exact u1 k e
      · exact Or.inr (by omega)
    · rcases v3 k hk with e | e
      · exact v1 k e
      · exact Or.inr (by omega)
    show L.length - kOf a' 13 < L.length - kOf a 13
    rw [kOf_eq h4, kOf_eq g5]
    omega
  · obtain rfl : L.length = i := by omega
    rw [playsD_all] at d1 g1
    exact pd3E a W I1 g5 (Nat.le_refl _) (fun a' i2 => hQ a' W U1 V1 i2 d1 g1 f1)
theorem on_as {b : Nat} {D : Dk} {S : Nat → Prop} (w : World) (h : DkAt w b D S) (hp : 0 < D.page) (ho : D.off = false) : Calls Try.prog 17 #[.pointer (some ⟨b, 0, none⟩)] w fun e w' => e = .returned (.bool true) ∧ w' = w := by
  have := don_calls w h hp
  rw [ho] at this
  exact this
theorem taken_as {b n : Nat} {D : Dk} {S : Nat → Prop} (w : World) (h : DkAt w b D S) (hp : 0 < D.page) (ht : D.taken = n) : Calls Try.prog 18 #[.pointer (some ⟨b, 0, none⟩)] w fun e w' => e = .returned (.int .i64 (n : Int)) ∧ w' = w := by
  have := dtaken_calls w h hp
  rw [ht] at this
  exact this
end Go.Proofs.Ytjiaepeglghheaa
