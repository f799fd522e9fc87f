/- free: keptChain of what was lent. -/
import Derived.Test.YtneopkhkkfckcaaYD
namespace Go.Proofs.Ytneopkhkkfckcaa
open Go.RowKit Go.Maps

def oYE0 : Oper := { dst := some 9, op := Op.call { callee := Callee.builtin Builtin.len, args := #[Operand.tmp 8], argTypes := #[22] }, type := 3, pos := "memory.go:44", after := #[{ on := 0, ground := Ground.data }], guard := none }
def oYE1 : Oper := { dst := some 11, op := Op.call { callee := Callee.builtin Builtin.len, args := #[Operand.tmp 10], argTypes := #[22] }, type := 3, pos := "memory.go:44", after := #[{ on := 2, ground := Ground.data }], guard := none }
def oYE2 : Oper := { dst := some 12, op := Op.binOp BinOp.neq 3 (Operand.tmp 9) (Operand.tmp 11) 3, type := 4, pos := "memory.go:44", after := #[{ on := 1, ground := Ground.data }, { on := 3, ground := Ground.data }], guard := none }
def oYE3 : Oper := { dst := some 15, op := Op.call { callee := Callee.builtin Builtin.len, args := #[Operand.tmp 14], argTypes := #[22] }, type := 3, pos := "memory.go:47", after := #[{ on := 1, ground := Ground.data }], guard := none }
def oYE4 : Oper := { dst := some 16, op := Op.binOp BinOp.lss 3 (Operand.tmp 13) (Operand.tmp 15) 3, type := 4, pos := "memory.go:47", after := #[{ on := 0, ground := Ground.data }, { on := 2, ground := Ground.data }], guard := none }
def oYE5 : Oper := { dst := some 18, op := Op.binOp BinOp.add 3 (Operand.tmp 17) (Operand.const (Value.int IntKind.i64 1)) 3, type := 3, pos := "memory.go:47", after := #[{ on := 0, ground := Ground.data }], guard := none }
def oYE6 : Oper := { dst := some 21, op := Op.indexAddr 22 (Operand.tmp 19) (Operand.tmp 20), type := 0, pos := "memory.go:48", after := #[{ on := 0, ground := Ground.data }, { on := 1, ground := Ground.data }], guard := none }
def oYE7 : Oper := { dst := some 22, op := Op.fieldAddr 55 (Operand.tmp 21) 0, type := 0, pos := "memory.go:48", after := #[{ on := 2, ground := Ground.data }], guard := none }
def oYE8 : Oper := { dst := some 23, op := Op.load 24 (Operand.tmp 22), type := 24, pos := "memory.go:48", after := #[{ on := 3, ground := Ground.data }], guard := none }
def oYE9 : Oper := { dst := some 26, op := Op.indexAddr 22 (Operand.tmp 24) (Operand.tmp 25), type := 0, pos := "memory.go:48", after := #[{ on := 5, ground := Ground.data }, { on := 6, ground := Ground.data }], guard := none }
def oYE10 : Oper := { dst := some 27, op := Op.fieldAddr 55 (Operand.tmp 26) 0, type := 0, pos := "memory.go:48", after := #[{ on := 7, ground := Ground.data }], guard := none }
def oYE11 : Oper := { dst := some 28, op := Op.load 24 (Operand.tmp 27), type := 24, pos := "memory.go:48", after := #[{ on := 8, ground := Ground.data }], guard := none }
def oYE12 : Oper := { dst := some 29, op := Op.binOp BinOp.neq 24 (Operand.tmp 23) (Operand.tmp 28) 24, type := 4, pos := "memory.go:48", after := #[{ on := 4, ground := Ground.data }, { on := 9, ground := Ground.data }], guard := none }
def oYE13 : Oper := { dst := some 33, op := Op.indexAddr 22 (Operand.tmp 31) (Operand.tmp 32), type := 0, pos := "memory.go:48", after := #[{ on := 12, ground := Ground.data }, { on := 13, ground := Ground.data }, { on := 11, ground := Ground.guard }], guard := some (11, false) }
def oYE14 : Oper := { dst := some 34, op := Op.fieldAddr 55 (Operand.tmp 33) 1, type := 0, pos := "memory.go:48", after := #[{ on := 14, ground := Ground.data }, { on := 11, ground := Ground.guard }], guard := some (11, false) }
def oYE15 : Oper := { dst := some 35, op := Op.load 23 (Operand.tmp 34), type := 23, pos := "memory.go:48", after := #[{ on := 15, ground := Ground.data }, { on := 11, ground := Ground.guard }], guard := some (11, false) }
def oYE16 : Oper := { dst := some 38, op := Op.indexAddr 22 (Operand.tmp 36) (Operand.tmp 37), type := 0, pos := "memory.go:48", after := #[{ on := 17, ground := Ground.data }, { on := 18, ground := Ground.data }, { on := 11, ground := Ground.guard }], guard := some (11, false) }
def oYE17 : Oper := { dst := some 39, op := Op.fieldAddr 55 (Operand.tmp 38) 1, type := 0, pos := "memory.go:48", after := #[{ on := 19, ground := Ground.data }, { on := 11, ground := Ground.guard }], guard := some (11, false) }
def oYE18 : Oper := { dst := some 40, op := Op.load 23 (Operand.tmp 39), type := 23, pos := "memory.go:48", after := #[{ on := 20, ground := Ground.data }, { on := 11, ground := Ground.guard }], guard := some (11, false) }
def oYE19 : Oper := { dst := some 41, op := Op.call { callee := Callee.value (Operand.func 13), args := #[Operand.tmp 35, Operand.tmp 40], argTypes := #[23, 23] }, type := 4, pos := "memory.go:48", after := #[{ on := 16, ground := Ground.data }, { on := 21, ground := Ground.data }, { on := 11, ground := Ground.chain }, { on := 11, ground := Ground.guard }], guard := some (11, false) }
def oYE20 : Oper := { dst := some 42, op := Op.unOp UnOp.not 4 (Operand.tmp 41), type := 4, pos := "memory.go:48", after := #[{ on := 22, ground := Ground.data }, { on := 11, ground := Ground.guard }], guard := some (11, false) }
def oYE21 : Oper := { dst := some 43, op := Op.pick (Operand.tmp 30) (Operand.const (Value.bool true)) (Operand.tmp 42), type := 4, pos := "memory.go:48", after := #[{ on := 11, ground := Ground.data }, { on := 23, ground := Ground.data }], guard := none }
def oYE22 : Oper := { dst := some 46, op := Op.call { callee := Callee.builtin Builtin.len, args := #[Operand.tmp 45], argTypes := #[22] }, type := 3, pos := "memory.go:52", after := #[{ on := 1, ground := Ground.data }], guard := none }
def oYE23 : Oper := { dst := some 47, op := Op.binOp BinOp.add 3 (Operand.tmp 46) (Operand.const (Value.int IntKind.i64 70)) 3, type := 3, pos := "memory.go:52", after := #[{ on := 2, ground := Ground.data }], guard := none }
def oYE24 : Oper := { dst := some 48, op := Op.slice 22 (Operand.tmp 44) none (some (Operand.tmp 47)) none, type := 22, pos := "memory.go:52", after := #[{ on := 0, ground := Ground.data }, { on := 3, ground := Ground.data }], guard := none }
def oYE25 : Oper := { dst := some 50, op := Op.binOp BinOp.lss 3 (Operand.tmp 49) (Operand.const (Value.int IntKind.i64 70)) 3, type := 4, pos := "memory.go:53", after := #[{ on := 0, ground := Ground.data }], guard := none }
def oYE26 : Oper := { dst := some 52, op := Op.binOp BinOp.add 3 (Operand.tmp 51) (Operand.const (Value.int IntKind.i64 1)) 3, type := 3, pos := "memory.go:53", after := #[{ on := 0, ground := Ground.data }], guard := none }
def oYE27 : Oper := { dst := some 55, op := Op.call { callee := Callee.builtin Builtin.len, args := #[Operand.tmp 54], argTypes := #[22] }, type := 3, pos := "memory.go:54", after := #[{ on := 1, ground := Ground.data }], guard := none }
def oYE28 : Oper := { dst := some 57, op := Op.binOp BinOp.add 3 (Operand.tmp 55) (Operand.tmp 56) 3, type := 3, pos := "memory.go:54", after := #[{ on := 2, ground := Ground.data }, { on := 3, ground := Ground.data }], guard := none }
def oYE29 : Oper := { dst := some 58, op := Op.indexAddr 22 (Operand.tmp 53) (Operand.tmp 57), type := 0, pos := "memory.go:54", after := #[{ on := 0, ground := Ground.data }, { on := 4, ground := Ground.data }], guard := none }
def oYE30 : Oper := { dst := some 59, op := Op.fieldAddr 55 (Operand.tmp 58) 0, type := 0, pos := "memory.go:54", after := #[{ on := 5, ground := Ground.data }], guard := none }
def oYE31 : Oper := { dst := some 60, op := Op.load 24 (Operand.tmp 59), type := 24, pos := "memory.go:54", after := #[{ on := 6, ground := Ground.data }], guard := none }
def oYE32 : Oper := { dst := some 62, op := Op.binOp BinOp.add 3 (Operand.const (Value.int IntKind.i64 800000)) (Operand.tmp 61) 3, type := 3, pos := "memory.go:54", after := #[{ on := 8, ground := Ground.data }], guard := none }
def oYE33 : Oper := { dst := some 63, op := Op.convert 3 24 (Operand.tmp 62), type := 24, pos := "memory.go:54", after := #[{ on := 9, ground := Ground.data }], guard := none }
def oYE34 : Oper := { dst := some 64, op := Op.binOp BinOp.neq 24 (Operand.tmp 60) (Operand.tmp 63) 24, type := 4, pos := "memory.go:54", after := #[{ on := 7, ground := Ground.data }, { on := 10, ground := Ground.data }], guard := none }
def oYE35 : Oper := { dst := some 68, op := Op.call { callee := Callee.builtin Builtin.len, args := #[Operand.tmp 67], argTypes := #[22] }, type := 3, pos := "memory.go:54", after := #[{ on := 14, ground := Ground.data }, { on := 12, ground := Ground.guard }], guard := some (12, false) }
def oYE36 : Oper := { dst := some 70, op := Op.binOp BinOp.add 3 (Operand.tmp 68) (Operand.tmp 69) 3, type := 3, pos := "memory.go:54", after := #[{ on := 15, ground := Ground.data }, { on := 16, ground := Ground.data }, { on := 12, ground := Ground.guard }], guard := some (12, false) }
def oYE37 : Oper := { dst := some 71, op := Op.indexAddr 22 (Operand.tmp 66) (Operand.tmp 70), type := 0, pos := "memory.go:54", after := #[{ on := 13, ground := Ground.data }, { on := 17, ground := Ground.data }, { on := 12, ground := Ground.guard }], guard := some (12, false) }
def oYE38 : Oper := { dst := some 72, op := Op.fieldAddr 55 (Operand.tmp 71) 1, type := 0, pos := "memory.go:54", after := #[{ on := 18, ground := Ground.data }, { on := 12, ground := Ground.guard }], guard := some (12, false) }
def oYE39 : Oper := { dst := some 73, op := Op.load 23 (Operand.tmp 72), type := 23, pos := "memory.go:54", after := #[{ on := 19, ground := Ground.data }, { on := 12, ground := Ground.guard }], guard := some (12, false) }
def oYE40 : Oper := { dst := some 74, op := Op.call { callee := Callee.builtin Builtin.len, args := #[Operand.tmp 73], argTypes := #[23] }, type := 3, pos := "memory.go:54", after := #[{ on := 20, ground := Ground.data }, { on := 12, ground := Ground.guard }], guard := some (12, false) }
def oYE41 : Oper := { dst := some 75, op := Op.binOp BinOp.neq 3 (Operand.tmp 74) (Operand.const (Value.int IntKind.i64 0)) 3, type := 4, pos := "memory.go:54", after := #[{ on := 21, ground := Ground.data }, { on := 12, ground := Ground.guard }], guard := some (12, false) }
def oYE42 : Oper := { dst := some 76, op := Op.pick (Operand.tmp 65) (Operand.const (Value.bool true)) (Operand.tmp 75), type := 4, pos := "memory.go:54", after := #[{ on := 12, ground := Ground.data }, { on := 22, ground := Ground.data }], guard := none }
def rKC0 : Array Oper := #[{ dst := some 4, op := Op.assign (Operand.const (Value.bool false)), type := 4, pos := "memory.go:43", after := #[], guard := none }]
def rKC1 : Array Oper := #[{ dst := some 8, op := Op.move (Operand.tmp 0), type := 22, pos := "memory.go:44", after := #[], guard := none },
  oYE0,
  { dst := some 10, op := Op.move (Operand.tmp 1), type := 22, pos := "memory.go:44", after := #[], guard := none },
  oYE1,
  oYE2]
def rKC2 : Array Oper := #[{ dst := some 4, op := Op.assign (Operand.const (Value.bool false)), type := 4, pos := "memory.go:45", after := #[], guard := none }]
def rKC3 : Array Oper := #[{ dst := some 5, op := Op.assign (Operand.const (Value.int IntKind.i64 0)), type := 3, pos := "memory.go:47", after := #[], guard := none }]
def rKC4 : Array Oper := #[{ dst := some 13, op := Op.move (Operand.tmp 5), type := 3, pos := "memory.go:47", after := #[], guard := none },
  { dst := some 14, op := Op.move (Operand.tmp 0), type := 22, pos := "memory.go:47", after := #[], guard := none },
  oYE3,
  oYE4]
def rKC5 : Array Oper := #[{ dst := some 17, op := Op.move (Operand.tmp 5), type := 3, pos := "memory.go:47", after := #[], guard := none },
  oYE5,
  { dst := some 5, op := Op.assign (Operand.tmp 18), type := 3, pos := "memory.go:47", after := #[{ on := 1, ground := Ground.data }, { on := 0, ground := Ground.phase }, { on := 1, ground := Ground.phase }], guard := none }]
def rKC6 : Array Oper := #[{ dst := some 19, op := Op.move (Operand.tmp 0), type := 22, pos := "memory.go:48", after := #[], guard := none },
  { dst := some 20, op := Op.move (Operand.tmp 5), type := 3, pos := "memory.go:48", after := #[], guard := none },
  oYE6,
  oYE7,
  oYE8,
  { dst := some 24, op := Op.move (Operand.tmp 1), type := 22, pos := "memory.go:48", after := #[], guard := none },
  { dst := some 25, op := Op.move (Operand.tmp 5), type := 3, pos := "memory.go:48", after := #[], guard := none },
  oYE9,
  oYE10,
  oYE11,
  oYE12,
  { dst := some 30, op := Op.move (Operand.tmp 29), type := 4, pos := "memory.go:48", after := #[{ on := 10, ground := Ground.data }], guard := none },
  { dst := some 31, op := Op.move (Operand.tmp 0), type := 22, pos := "memory.go:48", after := #[{ on := 11, ground := Ground.guard }], guard := some (11, false) },
  { dst := some 32, op := Op.move (Operand.tmp 5), type := 3, pos := "memory.go:48", after := #[{ on := 11, ground := Ground.guard }], guard := some (11, false) },
  oYE13,
  oYE14,
  oYE15,
  { dst := some 36, op := Op.move (Operand.tmp 1), type := 22, pos := "memory.go:48", after := #[{ on := 11, ground := Ground.guard }], guard := some (11, false) },
  { dst := some 37, op := Op.move (Operand.tmp 5), type := 3, pos := "memory.go:48", after := #[{ on := 11, ground := Ground.guard }], guard := some (11, false) },
  oYE16,
  oYE17,
  oYE18,
  oYE19,
  oYE20,
  oYE21]
def rKC7 : Array Oper := #[{ dst := some 4, op := Op.assign (Operand.const (Value.bool false)), type := 4, pos := "memory.go:49", after := #[], guard := none }]
def rKC8 : Array Oper := #[{ dst := some 44, op := Op.move (Operand.tmp 0), type := 22, pos := "memory.go:52", after := #[], guard := none },
  { dst := some 45, op := Op.move (Operand.tmp 0), type := 22, pos := "memory.go:52", after := #[], guard := none },
  oYE22,
  oYE23,
  oYE24,
  { dst := some 6, op := Op.assign (Operand.tmp 48), type := 22, pos := "memory.go:52", after := #[{ on := 4, ground := Ground.data }, { on := 0, ground := Ground.phase }, { on := 1, ground := Ground.phase }, { on := 2, ground := Ground.phase }, { on := 3, ground := Ground.phase }, { on := 4, ground := Ground.phase }], guard := none }]
def rKC9 : Array Oper := #[{ dst := some 7, op := Op.assign (Operand.const (Value.int IntKind.i64 0)), type := 3, pos := "memory.go:53", after := #[], guard := none }]
def rKC10 : Array Oper := #[{ dst := some 49, op := Op.move (Operand.tmp 7), type := 3, pos := "memory.go:53", after := #[], guard := none },
  oYE25]
def rKC11 : Array Oper := #[{ dst := some 51, op := Op.move (Operand.tmp 7), type := 3, pos := "memory.go:53", after := #[], guard := none },
  oYE26,
  { dst := some 7, op := Op.assign (Operand.tmp 52), type := 3, pos := "memory.go:53", after := #[{ on := 1, ground := Ground.data }, { on := 0, ground := Ground.phase }, { on := 1, ground := Ground.phase }], guard := none }]
def rKC12 : Array Oper := #[{ dst := some 53, op := Op.move (Operand.tmp 6), type := 22, pos := "memory.go:54", after := #[], guard := none },
  { dst := some 54, op := Op.move (Operand.tmp 0), type := 22, pos := "memory.go:54", after := #[], guard := none },
  oYE27,
  { dst := some 56, op := Op.move (Operand.tmp 7), type := 3, pos := "memory.go:54", after := #[], guard := none },
  oYE28,
  oYE29,
  oYE30,
  oYE31,
  { dst := some 61, op := Op.move (Operand.tmp 7), type := 3, pos := "memory.go:54", after := #[], guard := none },
  oYE32,
  oYE33,
  oYE34,
  { dst := some 65, op := Op.move (Operand.tmp 64), type := 4, pos := "memory.go:54", after := #[{ on := 11, ground := Ground.data }], guard := none },
  { dst := some 66, op := Op.move (Operand.tmp 6), type := 22, pos := "memory.go:54", after := #[{ on := 12, ground := Ground.guard }], guard := some (12, false) },
  { dst := some 67, op := Op.move (Operand.tmp 0), type := 22, pos := "memory.go:54", after := #[{ on := 12, ground := Ground.guard }], guard := some (12, false) },
  oYE35,
  { dst := some 69, op := Op.move (Operand.tmp 7), type := 3, pos := "memory.go:54", after := #[{ on := 12, ground := Ground.guard }], guard := some (12, false) },
  oYE36,
  oYE37,
  oYE38,
  oYE39,
  oYE40,
  oYE41,
  oYE42]
def rKC13 : Array Oper := #[{ dst := some 4, op := Op.assign (Operand.const (Value.bool false)), type := 4, pos := "memory.go:55", after := #[], guard := none }]
def rKC14 : Array Oper := #[{ dst := some 4, op := Op.assign (Operand.const (Value.bool true)), type := 4, pos := "memory.go:58", after := #[], guard := none }]
def cKC1 : Code := (Code.seq (Code.seq (Code.region 4 rKC4 false) (Code.cond (Operand.tmp 16) Code.skip (Code.exit 0))) (Code.seq (Code.block 1 (Code.seq (Code.region 6 rKC6 true) (Code.cond (Operand.tmp 43) (Code.seq (Code.region 7 rKC7 false) Code.ret) Code.skip))) (Code.region 5 rKC5 false)))
def cKC2 : Code := (Code.seq (Code.seq (Code.region 10 rKC10 false) (Code.cond (Operand.tmp 50) Code.skip (Code.exit 2))) (Code.seq (Code.block 3 (Code.seq (Code.region 12 rKC12 false) (Code.cond (Operand.tmp 76) (Code.seq (Code.region 13 rKC13 false) Code.ret) Code.skip))) (Code.region 11 rKC11 false)))
def cKC : Code := (Code.seq (Code.region 0 rKC0 false) (Code.seq (Code.seq (Code.region 1 rKC1 false) (Code.cond (Operand.tmp 12) (Code.seq (Code.region 2 rKC2 false) Code.ret) Code.skip)) (Code.seq (Code.seq (Code.region 3 rKC3 false) (Code.block 0 (Code.loop cKC1))) (Code.seq (Code.region 8 rKC8 false) (Code.seq (Code.seq (Code.region 9 rKC9 false) (Code.block 2 (Code.loop cKC2))) (Code.seq (Code.region 14 rKC14 false) Code.ret))))))

theorem btCs_at {M : List Bt} {k : Nat} {y : Bt} (t : List Value) (h : M[k]? = some y) : (btCs M ++ t)[k * 2]? = some (.int .u32 (y.pg : Int)) ∧ (btCs M ++ t)[k * 2 + 1]? = some (.slice y.na y.ns.length y.nc) := by
  induction M generalizing k with
  | nil => simp at h
  | cons x M ih =>
    have e : btCs (x :: M) ++ t = (.int .u32 (x.pg : Int)) :: (.slice x.na x.ns.length x.nc) :: (btCs M ++ t) := rfl
    rw [e]
    cases k with
    | zero => obtain rfl : x = y := by simpa using h
              exact ⟨rfl, rfl⟩
    | succ k =>
      rw [show (k + 1) * 2 = k * 2 + 1 + 1 from by omega, show k * 2 + 1 + 1 + 1 = k * 2 + 1 + 1 + 1 from rfl]
      simp only [List.getElem?_cons_succ]
      exact ih (by simpa using h)
theorem btCs_len (M : List Bt) : (btCs M).length = M.length * 2 := by
  induction M with
  | nil => rfl
  | cons x M ih =>
    have e : btCs (x :: M) = (.int .u32 (x.pg : Int)) :: (.slice x.na x.ns.length x.nc) :: btCs M := rfl
    rw [e, List.length_cons, List.length_cons, List.length_cons, ih]
    omega
theorem mkB_len (m : Nat) : (mkB m).length = m * 2 := by
  induction m with
  | zero => rfl
  | succ m ih => rw [mkB_succ, List.length_append, ih]; simp; omega
theorem mkB_at {m j : Nat} (h : j < m) : (mkB m)[j * 2]? = some (.int .u32 ((800000 + j : Nat) : Int)) ∧ (mkB m)[j * 2 + 1]? = some (.slice none 0 0) := by
  induction m with
  | zero => omega
  | succ m ih =>
    rw [mkB_succ]
    by_cases hj : j < m
    · rw [List.getElem?_append_left (by rw [mkB_len]; omega), List.getElem?_append_left (by rw [mkB_len]; omega)]
      exact ih hj
    · obtain rfl : j = m := by omega
      rw [List.getElem?_append_right (by rw [mkB_len]; omega), List.getElem?_append_right (by rw [mkB_len]; omega), mkB_len, Nat.sub_self, Nat.add_sub_cancel_left]
      exact ⟨rfl, rfl⟩
theorem LentC.len {W : World} {B g cc n : Nat} {L M : List Bt} (h : LentC W B g cc n L M) (hn : n = L.length) : M.length = n := by
  have := congrArg List.length h.key
  simp only [List.length_map] at this
  rw [this, hn]
theorem LentC.mark {W : World} {B g cc n j : Nat} {L M : List Bt} (h : LentC W B g cc n L M) (hn : n = L.length) (hj : j < 70) : W.cell? ⟨g, (n + j) * 2, none⟩ = some (.int .u32 (800000 + (j : Int))) ∧ W.cell? ⟨g, (n + j) * 2 + 1, none⟩ = some (.slice none 0 0) := by
  obtain ⟨m1, m2⟩ := mkB_at hj
  have hl := h.len hn
  refine ⟨own_cell (own_base h.row (Nat.zero_le _)) ?_, own_cell (own_base h.row (Nat.zero_le _)) ?_⟩
  · rw [List.getElem?_append_right (by rw [btCs_len, hl]; omega), btCs_len, hl, show (n + j) * 2 - n * 2 = j * 2 from by omega, m1]
    congr 2
  · rw [List.getElem?_append_right (by rw [btCs_len, hl]; omega), btCs_len, hl, show (n + j) * 2 + 1 - n * 2 = j * 2 + 1 from by omega, m2]
theorem LentX.same {W W' : World} {B : Nat} {x : Bt} (h : LentX W B x) (s : Same W W') : LentX W' B x := h.fr s (fun f => f)
theorem LentC.same {W W' : World} {B g cc n : Nat} {L M : List Bt} (h : LentC W B g cc n L M) (s : Same W W') : LentC W' B g cc n L M := ⟨own_frameB h.row s (fun _ _ f => f), h.key, fun x hx => (h.lent x hx).same s⟩
structure IK (g n cc : Nat) (pa : Option Addr) (cp : Nat) (a : Act) : Prop where
  size : a.tmps.size = 77
  defers : a.defers = []
  s0 : a.eval (.tmp 0) = .slice (some ⟨g, 0, none⟩) n cc
  s1 : a.eval (.tmp 1) = .slice pa n cp
theorem IK.keep {g n cc : Nat} {pa : Option Addr} {cp : Nat} {a0 a : Act} {env : List (Nat × Value)} (h : IK g n cc pa cp a0) (f : Fe a0 env a) (hk : look env 0 (a0.eval (.tmp 0)) = a0.eval (.tmp 0)) (hk1 : look env 1 (a0.eval (.tmp 1)) = a0.eval (.tmp 1)) : IK g n cc pa cp a :=
  ⟨f.size.trans h.size, f.defers.trans h.defers, ((f.at_ 0).trans hk).trans h.s0, ((f.at_ 1).trans hk1).trans h.s1⟩
set_option maxRecDepth 100000 in
set_option maxHeartbeats 1000000 in
theorem kcR {g n cc pb po cp k pg gy nl yc xc : Nat} {xa : Option Addr} {Q : Exit → Act → World → Prop} (hQp : ∀ c (a : Act) d v w, Q (.panic c) (a.put d v) w → Q (.panic c) a w) (a0 : Act) (w wr : World) (I0 : IK g n cc (some ⟨pb, po, none⟩) cp a0) (h5 : a0.eval (.tmp 5) = .int .i64 (k : Int)) (hs : Same w wr) (hkn : k < n) (hn : n ≤ 2000000)
    (hcel : ∀ Z, Same w Z → Z.cell? ⟨g, k * 2, none⟩ = some (.int .u32 (pg : Int)) ∧ Z.cell? ⟨g, k * 2 + 1, none⟩ = some (.slice (some ⟨gy, 0, none⟩) nl yc) ∧ Z.cell? ⟨pb, po + k * 2, none⟩ = some (.int .u32 (pg : Int)) ∧ Z.cell? ⟨pb, po + k * 2 + 1, none⟩ = some (.slice xa nl xc))
    (hkp : ∀ Z, Same w Z → Calls Try.prog 13 #[.slice (some ⟨gy, 0, none⟩) nl yc, .slice xa nl xc] Z fun e w' => e = .returned (.bool true) ∧ Same Z w')
    (hQ : ∀ a W, IK g n cc (some ⟨pb, po, none⟩) cp a → a.eval (.tmp 5) = .int .i64 ((k : Int) + 1) → Same w W → Q .normal a W) : cKC1.wp Try.prog Q a0 wr := by
  have hki : (k : Int) < (n : Int) := by omega
  have dd : Same wr wr.drew := (Fr.refl (fun _ => False) wr).drew
  have w7 : IntKind.i64.wrap ((k : Int) + 1) = (k : Int) + 1 := by rw [IntKind.wrap_i64]; omega
  have fa0_0 := Fe.refl a0
  unfold cKC1
  refine wp_seq (wp_seq ?_)
  refine wp_region_list ?_
  unfold rKC4
  refine fa0_0.move 13 (.int .i64 (k : Int)) _ (Or.inl rfl) rfl (lb_ I0.size) (wanted_none rfl) ((fa0_0.at_ 5).trans h5) (fun a0_1 fa0_1 => ?_)
  clear fa0_0
  refine fa0_1.move 14 (.slice (some ⟨g, 0, none⟩) n cc) _ (Or.inl rfl) rfl (lb_ I0.size) (wanted_none rfl) ((fa0_1.at_ 0).trans I0.s0) (fun a0_2 fa0_2 => ?_)
  clear fa0_1
  have r_a0_3 : (execOp a0_2.eval oYE3).run Try.prog (wr) = .ok (.value (.int .i64 (n : Int))) (wr) := by
    unfold oYE3
    have e14 := (show a0_2.eval (.tmp 14) = .slice (some ⟨g, 0, none⟩) n cc from (fa0_2.at_ 14))
    clear fa0_2 hQ h5
    generalize a0_2.eval = ρ at *
    go_simp
  refine fa0_2.step 15 (.int .i64 (n : Int)) rfl (lb_ I0.size) (wanted_none rfl) r_a0_3 (fun a0_3 fa0_3 => ?_)
  clear r_a0_3
  clear fa0_2
  have r_a0_4 : (execOp a0_3.eval oYE4).run Try.prog (wr) = .ok (.value (.bool true)) (wr) := by
    unfold oYE4
    have e13 := (show a0_3.eval (.tmp 13) = .int .i64 (k : Int) from (fa0_3.at_ 13))
    have e15 := (show a0_3.eval (.tmp 15) = .int .i64 (n : Int) from (fa0_3.at_ 15))
    clear fa0_3 hQ h5
    generalize a0_3.eval = ρ at *
    go_simp
  refine fa0_3.step 16 (.bool true) rfl (lb_ I0.size) (wanted_none rfl) r_a0_4 (fun a0_4 fa0_4 => ?_)
  clear r_a0_4
  clear fa0_3
  refine wpList_nil ?_
  change Code.wp _ _ _ _ _
  refine wp_cond_true (show a0_4.eval (.tmp 16) = .bool true from (fa0_4.at_ 16)) (wp_skip ?_)
  change Code.wp _ _ _ _ _
  refine wp_seq (wp_block (wp_seq ?_))
  refine wp_region_held_drew (ops := rKC6) (S := fun Z => Same w Z) (by kernel_rfl) (hs.trans dd) (fun hS4 => ?_)
  refine fa0_4.takeMove 0 19 (.slice (some ⟨g, 0, none⟩) n cc) _ (Or.inl rfl) rfl (by kernel_rfl) (by kernel_rfl) (by kernel_rfl) (fun _ _ _ h => hQp _ _ _ _ _ h) rfl (lb_ I0.size) (wanted_none rfl) ((fa0_4.at_ 0).trans I0.s0) hS4 (fun a0_5 fa0_5 => ?_)
  clear fa0_4
  refine fa0_5.takeMove 1 20 (.int .i64 (k : Int)) _ (Or.inl rfl) rfl (by kernel_rfl) (by kernel_rfl) (by kernel_rfl) (fun _ _ _ h => hQp _ _ _ _ _ h) rfl (lb_ I0.size) (wanted_none rfl) ((fa0_5.at_ 5).trans h5) hS4 (fun a0_6 fa0_6 => ?_)
  clear fa0_5
  have r_a0_7 : ∀ Z, (fun Z => Same w Z) Z → (execOp a0_6.eval oYE6).run Try.prog Z = .ok (.value (.pointer (some ⟨g, k * 2, none⟩))) Z := fun Z hZ => by
    unfold oYE6
    have e19 := (show a0_6.eval (.tmp 19) = .slice (some ⟨g, 0, none⟩) n cc from (fa0_6.at_ 19))
    have e20 := (show a0_6.eval (.tmp 20) = .int .i64 (k : Int) from (fa0_6.at_ 20))
    clear fa0_6 hQ h5
    generalize a0_6.eval = ρ at *
    go_simp
  refine fa0_6.take 2 21 (.pointer (some ⟨g, k * 2, none⟩)) rfl (by kernel_rfl) (by kernel_rfl) (by kernel_rfl) (fun _ _ _ h => hQp _ _ _ _ _ h) rfl (lb_ I0.size) (wanted_none rfl) r_a0_7 hS4 (fun a0_7 fa0_7 => ?_)
  clear r_a0_7
  clear fa0_6
  have r_a0_8 : ∀ Z, (fun Z => Same w Z) Z → (execOp a0_7.eval oYE7).run Try.prog Z = .ok (.value (.pointer (some ⟨g, k * 2, none⟩))) Z := fun Z hZ => by
    unfold oYE7
    have e21 := (show a0_7.eval (.tmp 21) = .pointer (some ⟨g, k * 2, none⟩) from (fa0_7.at_ 21))
    clear fa0_7 hQ h5
    generalize a0_7.eval = ρ at *
    go_simp
  refine fa0_7.take 3 22 (.pointer (some ⟨g, k * 2, none⟩)) rfl (by kernel_rfl) (by kernel_rfl) (by kernel_rfl) (fun _ _ _ h => hQp _ _ _ _ _ h) rfl (lb_ I0.size) (wanted_none rfl) r_a0_8 hS4 (fun a0_8 fa0_8 => ?_)
  clear r_a0_8
  clear fa0_7
  have r_a0_9 : ∀ Z, (fun Z => Same w Z) Z → (execOp a0_8.eval oYE8).run Try.prog Z = .ok (.value (.int .u32 (pg : Int))) Z := fun Z hZ => by
    unfold oYE8
    obtain ⟨c1, c2, c3, c4⟩ := hcel Z hZ
    have e22 := (show a0_8.eval (.tmp 22) = .pointer (some ⟨g, k * 2, none⟩) from (fa0_8.at_ 22))
    clear fa0_8 hQ h5
    generalize a0_8.eval = ρ at *
    go_simp
  refine fa0_8.take 4 23 (.int .u32 (pg : Int)) rfl (by kernel_rfl) (by kernel_rfl) (by kernel_rfl) (fun _ _ _ h => hQp _ _ _ _ _ h) rfl (lb_ I0.size) (wanted_none rfl) r_a0_9 hS4 (fun a0_9 fa0_9 => ?_)
  clear r_a0_9
  clear fa0_8
  refine fa0_9.takeMove 5 24 (.slice (some ⟨pb, po, none⟩) n cp) _ (Or.inl rfl) rfl (by kernel_rfl) (by kernel_rfl) (by kernel_rfl) (fun _ _ _ h => hQp _ _ _ _ _ h) rfl (lb_ I0.size) (wanted_none rfl) ((fa0_9.at_ 1).trans I0.s1) hS4 (fun a0_10 fa0_10 => ?_)
  clear fa0_9
  refine fa0_10.takeMove 6 25 (.int .i64 (k : Int)) _ (Or.inl rfl) rfl (by kernel_rfl) (by kernel_rfl) (by kernel_rfl) (fun _ _ _ h => hQp _ _ _ _ _ h) rfl (lb_ I0.size) (wanted_none rfl) ((fa0_10.at_ 5).trans h5) hS4 (fun a0_11 fa0_11 => ?_)
  clear fa0_10
  have r_a0_12 : ∀ Z, (fun Z => Same w Z) Z → (execOp a0_11.eval oYE9).run Try.prog Z = .ok (.value (.pointer (some ⟨pb, po + k * 2, none⟩))) Z := fun Z hZ => by
    unfold oYE9
    have e24 := (show a0_11.eval (.tmp 24) = .slice (some ⟨pb, po, none⟩) n cp from (fa0_11.at_ 24))
    have e25 := (show a0_11.eval (.tmp 25) = .int .i64 (k : Int) from (fa0_11.at_ 25))
    clear fa0_11 hQ h5
    generalize a0_11.eval = ρ at *
    go_simp
  refine fa0_11.take 7 26 (.pointer (some ⟨pb, po + k * 2, none⟩)) rfl (by kernel_rfl) (by kernel_rfl) (by kernel_rfl) (fun _ _ _ h => hQp _ _ _ _ _ h) rfl (lb_ I0.size) (wanted_none rfl) r_a0_12 hS4 (fun a0_12 fa0_12 => ?_)
  clear r_a0_12
  clear fa0_11
  have r_a0_13 : ∀ Z, (fun Z => Same w Z) Z → (execOp a0_12.eval oYE10).run Try.prog Z = .ok (.value (.pointer (some ⟨pb, po + k * 2, none⟩))) Z := fun Z hZ => by
    unfold oYE10
    have e26 := (show a0_12.eval (.tmp 26) = .pointer (some ⟨pb, po + k * 2, none⟩) from (fa0_12.at_ 26))
    clear fa0_12 hQ h5
    generalize a0_12.eval = ρ at *
    go_simp
  refine fa0_12.take 8 27 (.pointer (some ⟨pb, po + k * 2, none⟩)) rfl (by kernel_rfl) (by kernel_rfl) (by kernel_rfl) (fun _ _ _ h => hQp _ _ _ _ _ h) rfl (lb_ I0.size) (wanted_none rfl) r_a0_13 hS4 (fun a0_13 fa0_13 => ?_)
  clear r_a0_13
  clear fa0_12
  have r_a0_14 : ∀ Z, (fun Z => Same w Z) Z → (execOp a0_13.eval oYE11).run Try.prog Z = .ok (.value (.int .u32 (pg : Int))) Z := fun Z hZ => by
    unfold oYE11
    obtain ⟨c1, c2, c3, c4⟩ := hcel Z hZ
    have e27 := (show a0_13.eval (.tmp 27) = .pointer (some ⟨pb, po + k * 2, none⟩) from (fa0_13.at_ 27))
    clear fa0_13 hQ h5
    generalize a0_13.eval = ρ at *
    go_simp
  refine fa0_13.take 9 28 (.int .u32 (pg : Int)) rfl (by kernel_rfl) (by kernel_rfl) (by kernel_rfl) (fun _ _ _ h => hQp _ _ _ _ _ h) rfl (lb_ I0.size) (wanted_none rfl) r_a0_14 hS4 (fun a0_14 fa0_14 => ?_)
  clear r_a0_14
  clear fa0_13
  have r_a0_15 : ∀ Z, (fun Z => Same w Z) Z → (execOp a0_14.eval oYE12).run Try.prog Z = .ok (.value (.bool false)) Z := fun Z hZ => by
    unfold oYE12
    have e23 := (show a0_14.eval (.tmp 23) = .int .u32 (pg : Int) from (fa0_14.at_ 23))
    have e28 := (show a0_14.eval (.tmp 28) = .int .u32 (pg : Int) from (fa0_14.at_ 28))
    clear fa0_14 hQ h5
    generalize a0_14.eval = ρ at *
    go_simp
  refine fa0_14.take 10 29 (.bool false) rfl (by kernel_rfl) (by kernel_rfl) (by kernel_rfl) (fun _ _ _ h => hQp _ _ _ _ _ h) rfl (lb_ I0.size) (wanted_none rfl) r_a0_15 hS4 (fun a0_15 fa0_15 => ?_)
  clear r_a0_15
  clear fa0_14
  refine fa0_15.takeMove 11 30 (.bool false) _ (Or.inl rfl) rfl (by kernel_rfl) (by kernel_rfl) (by kernel_rfl) (fun _ _ _ h => hQp _ _ _ _ _ h) rfl (lb_ I0.size) (wanted_none rfl) (fa0_15.at_ 29) hS4 (fun a0_16 fa0_16 => ?_)
  clear fa0_15
  refine fa0_16.takeMove 12 31 (.slice (some ⟨g, 0, none⟩) n cc) _ (Or.inl rfl) rfl (by kernel_rfl) (by kernel_rfl) (by kernel_rfl) (fun _ _ _ h => hQp _ _ _ _ _ h) rfl (lb_ I0.size) ((wanted_at (t := 30) (c := false) (b := false) rfl rfl rfl (lb_ (fa0_16.size.trans I0.size)) (fa0_16.at_ 30)).trans (by rfl)) ((fa0_16.at_ 0).trans I0.s0) hS4 (fun a0_17 fa0_17 => ?_)
  clear fa0_16
  refine fa0_17.takeMove 13 32 (.int .i64 (k : Int)) _ (Or.inl rfl) rfl (by kernel_rfl) (by kernel_rfl) (by kernel_rfl) (fun _ _ _ h => hQp _ _ _ _ _ h) rfl (lb_ I0.size) ((wanted_at (t := 30) (c := false) (b := false) rfl rfl rfl (lb_ (fa0_17.size.trans I0.size)) (fa0_17.at_ 30)).trans (by rfl)) ((fa0_17.at_ 5).trans h5) hS4 (fun a0_18 fa0_18 => ?_)
  clear fa0_17
  have r_a0_19 : ∀ Z, (fun Z => Same w Z) Z → (execOp a0_18.eval oYE13).run Try.prog Z = .ok (.value (.pointer (some ⟨g, k * 2, none⟩))) Z := fun Z hZ => by
    unfold oYE13
    have e31 := (show a0_18.eval (.tmp 31) = .slice (some ⟨g, 0, none⟩) n cc from (fa0_18.at_ 31))
    have e32 := (show a0_18.eval (.tmp 32) = .int .i64 (k : Int) from (fa0_18.at_ 32))
    clear fa0_18 hQ h5
    generalize a0_18.eval = ρ at *
    go_simp
  refine fa0_18.take 14 33 (.pointer (some ⟨g, k * 2, none⟩)) rfl (by kernel_rfl) (by kernel_rfl) (by kernel_rfl) (fun _ _ _ h => hQp _ _ _ _ _ h) rfl (lb_ I0.size) ((wanted_at (t := 30) (c := false) (b := false) rfl rfl rfl (lb_ (fa0_18.size.trans I0.size)) (fa0_18.at_ 30)).trans (by rfl)) r_a0_19 hS4 (fun a0_19 fa0_19 => ?_)
  clear r_a0_19
  clear fa0_18
  have r_a0_20 : ∀ Z, (fun Z => Same w Z) Z → (execOp a0_19.eval oYE14).run Try.prog Z = .ok (.value (.pointer (some ⟨g, k * 2 + 1, none⟩))) Z := fun Z hZ => by
    unfold oYE14
    have e33 := (show a0_19.eval (.tmp 33) = .pointer (some ⟨g, k * 2, none⟩) from (fa0_19.at_ 33))
    clear fa0_19 hQ h5
    generalize a0_19.eval = ρ at *
    go_simp
  refine fa0_19.take 15 34 (.pointer (some ⟨g, k * 2 + 1, none⟩)) rfl (by kernel_rfl) (by kernel_rfl) (by kernel_rfl) (fun _ _ _ h => hQp _ _ _ _ _ h) rfl (lb_ I0.size) ((wanted_at (t := 30) (c := false) (b := false) rfl rfl rfl (lb_ (fa0_19.size.trans I0.size)) (fa0_19.at_ 30)).trans (by rfl)) r_a0_20 hS4 (fun a0_20 fa0_20 => ?_)
  clear r_a0_20
  clear fa0_19
  have r_a0_21 : ∀ Z, (fun Z => Same w Z) Z → (execOp a0_20.eval oYE15).run Try.prog Z = .ok (.value (.slice (some ⟨gy, 0, none⟩) nl yc)) Z := fun Z hZ => by
    unfold oYE15
    obtain ⟨c1, c2, c3, c4⟩ := hcel Z hZ
    have e34 := (show a0_20.eval (.tmp 34) = .pointer (some ⟨g, k * 2 + 1, none⟩) from (fa0_20.at_ 34))
    clear fa0_20 hQ h5
    generalize a0_20.eval = ρ at *
    go_simp
  refine fa0_20.take 16 35 (.slice (some ⟨gy, 0, none⟩) nl yc) rfl (by kernel_rfl) (by kernel_rfl) (by kernel_rfl) (fun _ _ _ h => hQp _ _ _ _ _ h) rfl (lb_ I0.size) ((wanted_at (t := 30) (c := false) (b := false) rfl rfl rfl (lb_ (fa0_20.size.trans I0.size)) (fa0_20.at_ 30)).trans (by rfl)) r_a0_21 hS4 (fun a0_21 fa0_21 => ?_)
  clear r_a0_21
  clear fa0_20
  refine fa0_21.takeMove 17 36 (.slice (some ⟨pb, po, none⟩) n cp) _ (Or.inl rfl) rfl (by kernel_rfl) (by kernel_rfl) (by kernel_rfl) (fun _ _ _ h => hQp _ _ _ _ _ h) rfl (lb_ I0.size) ((wanted_at (t := 30) (c := false) (b := false) rfl rfl rfl (lb_ (fa0_21.size.trans I0.size)) (fa0_21.at_ 30)).trans (by rfl)) ((fa0_21.at_ 1).trans I0.s1) hS4 (fun a0_22 fa0_22 => ?_)
  clear fa0_21
  refine fa0_22.takeMove 18 37 (.int .i64 (k : Int)) _ (Or.inl rfl) rfl (by kernel_rfl) (by kernel_rfl) (by kernel_rfl) (fun _ _ _ h => hQp _ _ _ _ _ h) rfl (lb_ I0.size) ((wanted_at (t := 30) (c := false) (b := false) rfl rfl rfl (lb_ (fa0_22.size.trans I0.size)) (fa0_22.at_ 30)).trans (by rfl)) ((fa0_22.at_ 5).trans h5) hS4 (fun a0_23 fa0_23 => ?_)
  clear fa0_22
  have r_a0_24 : ∀ Z, (fun Z => Same w Z) Z → (execOp a0_23.eval oYE16).run Try.prog Z = .ok (.value (.pointer (some ⟨pb, po + k * 2, none⟩))) Z := fun Z hZ => by
    unfold oYE16
    have e36 := (show a0_23.eval (.tmp 36) = .slice (some ⟨pb, po, none⟩) n cp from (fa0_23.at_ 36))
    have e37 := (show a0_23.eval (.tmp 37) = .int .i64 (k : Int) from (fa0_23.at_ 37))
    clear fa0_23 hQ h5
    generalize a0_23.eval = ρ at *
    go_simp
  refine fa0_23.take 19 38 (.pointer (some ⟨pb, po + k * 2, none⟩)) rfl (by kernel_rfl) (by kernel_rfl) (by kernel_rfl) (fun _ _ _ h => hQp _ _ _ _ _ h) rfl (lb_ I0.size) ((wanted_at (t := 30) (c := false) (b := false) rfl rfl rfl (lb_ (fa0_23.size.trans I0.size)) (fa0_23.at_ 30)).trans (by rfl)) r_a0_24 hS4 (fun a0_24 fa0_24 => ?_)
  clear r_a0_24
  clear fa0_23
  have r_a0_25 : ∀ Z, (fun Z => Same w Z) Z → (execOp a0_24.eval oYE17).run Try.prog Z = .ok (.value (.pointer (some ⟨pb, po + k * 2 + 1, none⟩))) Z := fun Z hZ => by
    unfold oYE17
    have e38 := (show a0_24.eval (.tmp 38) = .pointer (some ⟨pb, po + k * 2, none⟩) from (fa0_24.at_ 38))
    clear fa0_24 hQ h5
    generalize a0_24.eval = ρ at *
    go_simp
  refine fa0_24.take 20 39 (.pointer (some ⟨pb, po + k * 2 + 1, none⟩)) rfl (by kernel_rfl) (by kernel_rfl) (by kernel_rfl) (fun _ _ _ h => hQp _ _ _ _ _ h) rfl (lb_ I0.size) ((wanted_at (t := 30) (c := false) (b := false) rfl rfl rfl (lb_ (fa0_24.size.trans I0.size)) (fa0_24.at_ 30)).trans (by rfl)) r_a0_25 hS4 (fun a0_25 fa0_25 => ?_)
  clear r_a0_25
  clear fa0_24
  have r_a0_26 : ∀ Z, (fun Z => Same w Z) Z → (execOp a0_25.eval oYE18).run Try.prog Z = .ok (.value (.slice xa nl xc)) Z := fun Z hZ => by
    unfold oYE18
    obtain ⟨c1, c2, c3, c4⟩ := hcel Z hZ
    have e39 := (show a0_25.eval (.tmp 39) = .pointer (some ⟨pb, po + k * 2 + 1, none⟩) from (fa0_25.at_ 39))
    clear fa0_25 hQ h5
    generalize a0_25.eval = ρ at *
    go_simp
  refine fa0_25.take 21 40 (.slice xa nl xc) rfl (by kernel_rfl) (by kernel_rfl) (by kernel_rfl) (fun _ _ _ h => hQp _ _ _ _ _ h) rfl (lb_ I0.size) ((wanted_at (t := 30) (c := false) (b := false) rfl rfl rfl (lb_ (fa0_25.size.trans I0.size)) (fa0_25.at_ 30)).trans (by rfl)) r_a0_26 hS4 (fun a0_26 fa0_26 => ?_)
  clear r_a0_26
  clear fa0_25
  have r_a0_27 : (execOp a0_26.eval oYE19).run Try.prog (wr.drew) = .ok (.enter 13 #[.slice (some ⟨gy, 0, none⟩) nl yc, .slice xa nl xc]) (wr.drew) := by
    unfold oYE19
    have kf : ∀ f, a0_26.eval (.func f) = .func (.func f) #[] #[] := fun _ => rfl
    have e35 := (show a0_26.eval (.tmp 35) = .slice (some ⟨gy, 0, none⟩) nl yc from (fa0_26.at_ 35))
    have e40 := (show a0_26.eval (.tmp 40) = .slice xa nl xc from (fa0_26.at_ 40))
    clear fa0_26 hQ h5
    generalize a0_26.eval = ρ at *
    go_simp
  refine fa0_26.oneCall 22 41 (by kernel_rfl) rfl rfl (lb_ I0.size) ((wanted_at (t := 30) (c := false) (b := false) rfl rfl rfl (lb_ (fa0_26.size.trans I0.size)) (fa0_26.at_ 30)).trans (by rfl)) r_a0_27 (hkp _ (hs.trans dd)) (fun e W1 hR => ?_)
  obtain ⟨rfl, s1⟩ := hR
  clear r_a0_27
  have hS27 : (fun Z => Same w Z) W1 := hs.trans (dd.trans s1)
  refine ⟨_, rfl, hS27, fun a0_27 fa0_27 => ?_⟩
  clear fa0_26
  have r_a0_28 : ∀ Z, (fun Z => Same w Z) Z → (execOp a0_27.eval oYE20).run Try.prog Z = .ok (.value (.bool false)) Z := fun Z hZ => by
    unfold oYE20
    have e41 := (show a0_27.eval (.tmp 41) = .bool true from (fa0_27.at_ 41))
    clear fa0_27 hQ h5
    generalize a0_27.eval = ρ at *
    go_simp
  refine fa0_27.take 23 42 (.bool false) rfl (by kernel_rfl) (by kernel_rfl) (by kernel_rfl) (fun _ _ _ h => hQp _ _ _ _ _ h) rfl (lb_ I0.size) ((wanted_at (t := 30) (c := false) (b := false) rfl rfl rfl (lb_ (fa0_27.size.trans I0.size)) (fa0_27.at_ 30)).trans (by rfl)) r_a0_28 hS27 (fun a0_28 fa0_28 => ?_)
  clear r_a0_28
  clear fa0_27
  have r_a0_29 : ∀ Z, (fun Z => Same w Z) Z → (execOp a0_28.eval oYE21).run Try.prog Z = .ok (.value (.bool false)) Z := fun Z hZ => by
    unfold oYE21
    have kc : ∀ v, a0_28.eval (.const v) = v := fun _ => rfl
    have e30 := (show a0_28.eval (.tmp 30) = .bool false from (fa0_28.at_ 30))
    have e42 := (show a0_28.eval (.tmp 42) = .bool false from (fa0_28.at_ 42))
    clear fa0_28 hQ h5
    generalize a0_28.eval = ρ at *
    go_simp
  refine fa0_28.take 24 43 (.bool false) rfl (by kernel_rfl) (by kernel_rfl) (by kernel_rfl) (fun _ _ _ h => hQp _ _ _ _ _ h) rfl (lb_ I0.size) (wanted_none rfl) r_a0_29 hS27 (fun a0_29 fa0_29 => ?_)
  clear r_a0_29
  clear fa0_28
  refine wpAnyH_done (by kernel_rfl) ?_ _
  change Code.wp _ _ _ _ _
  refine wp_cond_false (show a0_29.eval (.tmp 43) = .bool false from (fa0_29.at_ 43)) (wp_skip ?_)
  change Code.wp _ _ _ _ _
  refine wp_region_list ?_
  unfold rKC5
  refine fa0_29.move 17 (.int .i64 (k : Int)) _ (Or.inl rfl) rfl (lb_ I0.size) (wanted_none rfl) ((fa0_29.at_ 5).trans h5) (fun a0_30 fa0_30 => ?_)
  clear fa0_29
  have r_a0_31 : (execOp a0_30.eval oYE5).run Try.prog (W1) = .ok (.value (.int .i64 ((k : Int) + 1))) (W1) := by
    unfold oYE5
    have kc : ∀ v, a0_30.eval (.const v) = v := fun _ => rfl
    have e17 := (show a0_30.eval (.tmp 17) = .int .i64 (k : Int) from (fa0_30.at_ 17))
    clear fa0_30 hQ h5
    generalize a0_30.eval = ρ at *
    go_simp
  refine fa0_30.step 18 (.int .i64 ((k : Int) + 1)) rfl (lb_ I0.size) (wanted_none rfl) r_a0_31 (fun a0_31 fa0_31 => ?_)
  clear r_a0_31
  clear fa0_30
  refine fa0_31.move 5 (.int .i64 ((k : Int) + 1)) _ (Or.inr rfl) rfl (lb_ I0.size) (wanted_none rfl) (fa0_31.at_ 18) (fun a0_32 fa0_32 => ?_)
  clear fa0_31
  refine wpList_nil ?_
  exact hQ a0_32 W1 (I0.keep fa0_32 rfl rfl) (show a0_32.eval (.tmp 5) = .int .i64 ((k : Int) + 1) from (fa0_32.at_ 5)) (hs.trans (dd.trans s1))
set_option maxRecDepth 100000 in
theorem kcE {g n cc cp : Nat} {pa : Option Addr} {Q : Exit → Act → World → Prop} (a0 : Act) (wr : World) (I0 : IK g n cc pa cp a0) (h5 : a0.eval (.tmp 5) = .int .i64 (n : Int))
    (hQ : ∀ a, IK g n cc pa cp a → Q (.exit 0) a wr) : cKC1.wp Try.prog Q a0 wr := by
  have fa0_0 := Fe.refl a0
  unfold cKC1
  refine wp_seq (wp_seq ?_)
  refine wp_region_list ?_
  unfold rKC4
  refine fa0_0.move 13 (.int .i64 (n : Int)) _ (Or.inl rfl) rfl (lb_ I0.size) (wanted_none rfl) ((fa0_0.at_ 5).trans h5) (fun a0_1 fa0_1 => ?_)
  clear fa0_0
  refine fa0_1.move 14 (.slice (some ⟨g, 0, none⟩) n cc) _ (Or.inl rfl) rfl (lb_ I0.size) (wanted_none rfl) ((fa0_1.at_ 0).trans I0.s0) (fun a0_2 fa0_2 => ?_)
  clear fa0_1
  have r_a0_3 : (execOp a0_2.eval oYE3).run Try.prog (wr) = .ok (.value (.int .i64 (n : Int))) (wr) := by
    unfold oYE3
    have e14 := (show a0_2.eval (.tmp 14) = .slice (some ⟨g, 0, none⟩) n cc from (fa0_2.at_ 14))
    clear fa0_2 hQ h5
    generalize a0_2.eval = ρ at *
    go_simp
  refine fa0_2.step 15 (.int .i64 (n : Int)) rfl (lb_ I0.size) (wanted_none rfl) r_a0_3 (fun a0_3 fa0_3 => ?_)
  clear r_a0_3
  clear fa0_2
  have r_a0_4 : (execOp a0_3.eval oYE4).run Try.prog (wr) = .ok (.value (.bool false)) (wr) := by
    unfold oYE4
    have e13 := (show a0_3.eval (.tmp 13) = .int .i64 (n : Int) from (fa0_3.at_ 13))
    have e15 := (show a0_3.eval (.tmp 15) = .int .i64 (n : Int) from (fa0_3.at_ 15))
    clear fa0_3 hQ h5
    generalize a0_3.eval = ρ at *
    go_simp
  refine fa0_3.step 16 (.bool false) rfl (lb_ I0.size) (wanted_none rfl) r_a0_4 (fun a0_4 fa0_4 => ?_)
  clear r_a0_4
  clear fa0_3
  refine wpList_nil ?_
  change Code.wp _ _ _ _ _
  refine wp_cond_false (show a0_4.eval (.tmp 16) = .bool false from (fa0_4.at_ 16)) (wp_exit ?_)
  exact hQ a0_4 (I0.keep fa0_4 rfl rfl)
theorem kcL {g n cc cp pb po B : Nat} {pa : Option Addr} {L M : List Bt} {Q : Exit → Act → World → Prop} (hQp : ∀ c (a : Act) d v w, Q (.panic c) (a.put d v) w → Q (.panic c) a w) (a0 : Act) (w : World) (I0 : IK g n cc pa cp a0) (h5 : a0.eval (.tmp 5) = .int .i64 ((0 : Nat) : Int))
    (hb : BvRow w pa pb po L) (hc : LentC w B g cc n L M) (hn : n = L.length) (hwt : wt L ≤ 2000000)
    (hQ : ∀ a W, IK g n cc pa cp a → Same w W → Q (.exit 0) a W) : (Code.loop cKC1).wp Try.prog Q a0 w := by
  have hn2 : n ≤ 2000000 := by rw [hn]; exact Nat.le_trans (wt_len L) hwt
  refine wp_loop (fun a W => IK g n cc pa cp a ∧ Same w W ∧ ∃ k : Nat, k ≤ n ∧ a.eval (.tmp 5) = .int .i64 (k : Int)) (fun a _ => n - kOf a 5) ⟨I0, Fr.refl _ w, 0, Nat.zero_le _, h5⟩ ?_
  rintro a W ⟨I1, s, k, hk, g5⟩
  by_cases hgo : k < n
  · obtain ⟨x, hx⟩ : ∃ x, L[k]? = some x := ⟨_, List.getElem?_eq_getElem (by rw [← hn]; exact hgo)⟩
    obtain ⟨y, hy⟩ : ∃ y, M[k]? = some y := ⟨_, List.getElem?_eq_getElem (by rw [hc.len hn]; exact hgo)⟩
    have hkey : y.key = x.key := by
      have h1 : (M.map Bt.key)[k]? = (L.map Bt.key)[k]? := by rw [hc.key]
      rw [List.getElem?_map, List.getElem?_map, hx, hy] at h1
      exact Option.some.inj h1
    have hpg : y.pg = x.pg := congrArg Prod.fst hkey
    have hns : y.ns = x.ns := congrArg Prod.snd hkey
    have hxm := List.mem_of_getElem? hx
    have hym := List.mem_of_getElem? hy
    have hxl : x.ns.length ≤ 1099511627000 := by
      have := wt_mem hxm
      omega
    obtain ⟨hpa, _⟩ := hb.place (by intro e; rw [e] at hx; simp at hx)
    subst hpa
    refine kcR (Q := Exit.then _ Q) (pg := x.pg) (gy := y.nb) (nl := x.ns.length) (yc := y.nc) (xa := x.na) (xc := x.nc) hQp a w W I1 g5 s hgo hn2 (fun Z sz => ?_) (fun Z sz => ?_) (fun a' W3 i3 h1 s3 => ?_)
    · obtain ⟨b1, b2⟩ := btCs_at (mkB 70) hy
      obtain ⟨c1, c2, _⟩ := (hb.same sz).cells k x hx
      have hr := own_base (hc.same sz).row (Nat.zero_le _)
      rw [hpg] at b1
      rw [hns, (hc.lent y hym).na] at b2
      exact ⟨own_cell hr b1, own_cell hr b2, c1, c2⟩
    · have hl := ((hc.same sz).lent y hym).ns
      rw [hns] at hl
      exact keptN_true Z hl ((hb.same sz).cells k x hx).2.2.row hxl
    · have h6 : a'.eval (.tmp 5) = .int .i64 ((k + 1 : Nat) : Int) := h1
      refine ⟨⟨i3, s3, k + 1, hgo, h6⟩, ?_⟩
      show n - kOf a' 5 < n - kOf a 5
      rw [kOf_eq h6, kOf_eq g5]
      omega
  · obtain rfl : k = n := by omega
    exact kcE a W I1 g5 (fun a' i2 => hQ a' W i2 s)
set_option maxRecDepth 100000 in
set_option maxHeartbeats 1000000 in
theorem kcM {g n cc cp j : Nat} {pa : Option Addr} {Q : Exit → Act → World → Prop} (a0 : Act) (wr : World) (I0 : IK g n cc pa cp a0) (h7 : a0.eval (.tmp 7) = .int .i64 (j : Int)) (h6 : a0.eval (.tmp 6) = .slice (some ⟨g, 0, none⟩) (n + 70) cc) (hj : j < 70) (hn : n ≤ 2000000)
    (c1 : wr.cell? ⟨g, (n + j) * 2, none⟩ = some (.int .u32 (800000 + (j : Int)))) (c2 : wr.cell? ⟨g, (n + j) * 2 + 1, none⟩ = some (.slice none 0 0))
    (hQ : ∀ a, IK g n cc pa cp a → a.eval (.tmp 7) = .int .i64 ((j : Int) + 1) → a.eval (.tmp 6) = .slice (some ⟨g, 0, none⟩) (n + 70) cc → Q .normal a wr) : cKC2.wp Try.prog Q a0 wr := by
  have hki : (j : Int) < 70 := by omega
  have hkn : (n : Int) + (j : Int) < (n : Int) + 70 := by omega
  have hk0 : (0 : Int) ≤ (n : Int) + (j : Int) := by omega
  have htn : ((n : Int) + (j : Int)).toNat = n + j := by omega
  have w4 : IntKind.i64.wrap ((n : Int) + (j : Int)) = (n : Int) + (j : Int) := by rw [IntKind.wrap_i64]; omega
  have w6 : IntKind.i64.wrap (800000 + (j : Int)) = 800000 + (j : Int) := by rw [IntKind.wrap_i64]; omega
  have w7 : IntKind.i64.wrap ((j : Int) + 1) = (j : Int) + 1 := by rw [IntKind.wrap_i64]; omega
  have w8 : IntKind.u32.wrap (800000 + (j : Int)) = 800000 + (j : Int) := by rw [IntKind.wrap_u32]; omega
  have fa0_0 := Fe.refl a0
  unfold cKC2
  refine wp_seq (wp_seq ?_)
  refine wp_region_list ?_
  unfold rKC10
  refine fa0_0.move 49 (.int .i64 (j : Int)) _ (Or.inl rfl) rfl (lb_ I0.size) (wanted_none rfl) ((fa0_0.at_ 7).trans h7) (fun a0_1 fa0_1 => ?_)
  clear fa0_0
  have r_a0_2 : (execOp a0_1.eval oYE25).run Try.prog (wr) = .ok (.value (.bool true)) (wr) := by
    unfold oYE25
    have kc : ∀ v, a0_1.eval (.const v) = v := fun _ => rfl
    have e49 := (show a0_1.eval (.tmp 49) = .int .i64 (j : Int) from (fa0_1.at_ 49))
    clear fa0_1 hQ h6 h7
    generalize a0_1.eval = ρ at *
    go_simp
  refine fa0_1.step 50 (.bool true) rfl (lb_ I0.size) (wanted_none rfl) r_a0_2 (fun a0_2 fa0_2 => ?_)
  clear r_a0_2
  clear fa0_1
  refine wpList_nil ?_
  change Code.wp _ _ _ _ _
  refine wp_cond_true (show a0_2.eval (.tmp 50) = .bool true from (fa0_2.at_ 50)) (wp_skip ?_)
  change Code.wp _ _ _ _ _
  refine wp_seq (wp_block (wp_seq ?_))
  refine wp_region_list ?_
  unfold rKC12
  refine fa0_2.move 53 (.slice (some ⟨g, 0, none⟩) (n + 70) cc) _ (Or.inl rfl) rfl (lb_ I0.size) (wanted_none rfl) ((fa0_2.at_ 6).trans h6) (fun a0_3 fa0_3 => ?_)
  clear fa0_2
  refine fa0_3.move 54 (.slice (some ⟨g, 0, none⟩) n cc) _ (Or.inl rfl) rfl (lb_ I0.size) (wanted_none rfl) ((fa0_3.at_ 0).trans I0.s0) (fun a0_4 fa0_4 => ?_)
  clear fa0_3
  have r_a0_5 : (execOp a0_4.eval oYE27).run Try.prog (wr) = .ok (.value (.int .i64 (n : Int))) (wr) := by
    unfold oYE27
    have e54 := (show a0_4.eval (.tmp 54) = .slice (some ⟨g, 0, none⟩) n cc from (fa0_4.at_ 54))
    clear fa0_4 hQ h6 h7
    generalize a0_4.eval = ρ at *
    go_simp
  refine fa0_4.step 55 (.int .i64 (n : Int)) rfl (lb_ I0.size) (wanted_none rfl) r_a0_5 (fun a0_5 fa0_5 => ?_)
  clear r_a0_5
  clear fa0_4
  refine fa0_5.move 56 (.int .i64 (j : Int)) _ (Or.inl rfl) rfl (lb_ I0.size) (wanted_none rfl) ((fa0_5.at_ 7).trans h7) (fun a0_6 fa0_6 => ?_)
  clear fa0_5
  have r_a0_7 : (execOp a0_6.eval oYE28).run Try.prog (wr) = .ok (.value (.int .i64 ((n : Int) + (j : Int)))) (wr) := by
    unfold oYE28
    have e55 := (show a0_6.eval (.tmp 55) = .int .i64 (n : Int) from (fa0_6.at_ 55))
    have e56 := (show a0_6.eval (.tmp 56) = .int .i64 (j : Int) from (fa0_6.at_ 56))
    clear fa0_6 hQ h6 h7
    generalize a0_6.eval = ρ at *
    go_simp
  refine fa0_6.step 57 (.int .i64 ((n : Int) + (j : Int))) rfl (lb_ I0.size) (wanted_none rfl) r_a0_7 (fun a0_7 fa0_7 => ?_)
  clear r_a0_7
  clear fa0_6
  have r_a0_8 : (execOp a0_7.eval oYE29).run Try.prog (wr) = .ok (.value (.pointer (some ⟨g, (n + j) * 2, none⟩))) (wr) := by
    unfold oYE29
    have e53 := (show a0_7.eval (.tmp 53) = .slice (some ⟨g, 0, none⟩) (n + 70) cc from (fa0_7.at_ 53))
    have e57 := (show a0_7.eval (.tmp 57) = .int .i64 ((n : Int) + (j : Int)) from (fa0_7.at_ 57))
    clear fa0_7 hQ h6 h7
    generalize a0_7.eval = ρ at *
    go_simp
  refine fa0_7.step 58 (.pointer (some ⟨g, (n + j) * 2, none⟩)) rfl (lb_ I0.size) (wanted_none rfl) r_a0_8 (fun a0_8 fa0_8 => ?_)
  clear r_a0_8
  clear fa0_7
  have r_a0_9 : (execOp a0_8.eval oYE30).run Try.prog (wr) = .ok (.value (.pointer (some ⟨g, (n + j) * 2, none⟩))) (wr) := by
    unfold oYE30
    have e58 := (show a0_8.eval (.tmp 58) = .pointer (some ⟨g, (n + j) * 2, none⟩) from (fa0_8.at_ 58))
    clear fa0_8 hQ h6 h7
    generalize a0_8.eval = ρ at *
    go_simp
  refine fa0_8.step 59 (.pointer (some ⟨g, (n + j) * 2, none⟩)) rfl (lb_ I0.size) (wanted_none rfl) r_a0_9 (fun a0_9 fa0_9 => ?_)
  clear r_a0_9
  clear fa0_8
  have r_a0_10 : (execOp a0_9.eval oYE31).run Try.prog (wr) = .ok (.value (.int .u32 (800000 + (j : Int)))) (wr) := by
    unfold oYE31
    have e59 := (show a0_9.eval (.tmp 59) = .pointer (some ⟨g, (n + j) * 2, none⟩) from (fa0_9.at_ 59))
    clear fa0_9 hQ h6 h7
    generalize a0_9.eval = ρ at *
    go_simp
  refine fa0_9.step 60 (.int .u32 (800000 + (j : Int))) rfl (lb_ I0.size) (wanted_none rfl) r_a0_10 (fun a0_10 fa0_10 => ?_)
  clear r_a0_10
  clear fa0_9
  refine fa0_10.move 61 (.int .i64 (j : Int)) _ (Or.inl rfl) rfl (lb_ I0.size) (wanted_none rfl) ((fa0_10.at_ 7).trans h7) (fun a0_11 fa0_11 => ?_)
  clear fa0_10
  have r_a0_12 : (execOp a0_11.eval oYE32).run Try.prog (wr) = .ok (.value (.int .i64 (800000 + (j : Int)))) (wr) := by
    unfold oYE32
    have kc : ∀ v, a0_11.eval (.const v) = v := fun _ => rfl
    have e61 := (show a0_11.eval (.tmp 61) = .int .i64 (j : Int) from (fa0_11.at_ 61))
    clear fa0_11 hQ h6 h7
    generalize a0_11.eval = ρ at *
    go_simp
  refine fa0_11.step 62 (.int .i64 (800000 + (j : Int))) rfl (lb_ I0.size) (wanted_none rfl) r_a0_12 (fun a0_12 fa0_12 => ?_)
  clear r_a0_12
  clear fa0_11
  have r_a0_13 : (execOp a0_12.eval oYE33).run Try.prog (wr) = .ok (.value (.int .u32 (800000 + (j : Int)))) (wr) := by
    unfold oYE33
    have e62 := (show a0_12.eval (.tmp 62) = .int .i64 (800000 + (j : Int)) from (fa0_12.at_ 62))
    clear fa0_12 hQ h6 h7
    generalize a0_12.eval = ρ at *
    go_simp
  refine fa0_12.step 63 (.int .u32 (800000 + (j : Int))) rfl (lb_ I0.size) (wanted_none rfl) r_a0_13 (fun a0_13 fa0_13 => ?_)
  clear r_a0_13
  clear fa0_12
  have r_a0_14 : (execOp a0_13.eval oYE34).run Try.prog (wr) = .ok (.value (.bool false)) (wr) := by
    unfold oYE34
    have e60 := (show a0_13.eval (.tmp 60) = .int .u32 (800000 + (j : Int)) from (fa0_13.at_ 60))
    have e63 := (show a0_13.eval (.tmp 63) = .int .u32 (800000 + (j : Int)) from (fa0_13.at_ 63))
    clear fa0_13 hQ h6 h7
    generalize a0_13.eval = ρ at *
    go_simp
  refine fa0_13.step 64 (.bool false) rfl (lb_ I0.size) (wanted_none rfl) r_a0_14 (fun a0_14 fa0_14 => ?_)
  clear r_a0_14
  clear fa0_13
  refine fa0_14.move 65 (.bool false) _ (Or.inl rfl) rfl (lb_ I0.size) (wanted_none rfl) (fa0_14.at_ 64) (fun a0_15 fa0_15 => ?_)
  clear fa0_14
  refine fa0_15.move 66 (.slice (some ⟨g, 0, none⟩) (n + 70) cc) _ (Or.inl rfl) rfl (lb_ I0.size) ((wanted_at (t := 65) (c := false) (b := false) rfl rfl rfl (lb_ (fa0_15.size.trans I0.size)) (fa0_15.at_ 65)).trans (by rfl)) ((fa0_15.at_ 6).trans h6) (fun a0_16 fa0_16 => ?_)
  clear fa0_15
  refine fa0_16.move 67 (.slice (some ⟨g, 0, none⟩) n cc) _ (Or.inl rfl) rfl (lb_ I0.size) ((wanted_at (t := 65) (c := false) (b := false) rfl rfl rfl (lb_ (fa0_16.size.trans I0.size)) (fa0_16.at_ 65)).trans (by rfl)) ((fa0_16.at_ 0).trans I0.s0) (fun a0_17 fa0_17 => ?_)
  clear fa0_16
  have r_a0_18 : (execOp a0_17.eval oYE35).run Try.prog (wr) = .ok (.value (.int .i64 (n : Int))) (wr) := by
    unfold oYE35
    have e67 := (show a0_17.eval (.tmp 67) = .slice (some ⟨g, 0, none⟩) n cc from (fa0_17.at_ 67))
    clear fa0_17 hQ h6 h7
    generalize a0_17.eval = ρ at *
    go_simp
  refine fa0_17.step 68 (.int .i64 (n : Int)) rfl (lb_ I0.size) ((wanted_at (t := 65) (c := false) (b := false) rfl rfl rfl (lb_ (fa0_17.size.trans I0.size)) (fa0_17.at_ 65)).trans (by rfl)) r_a0_18 (fun a0_18 fa0_18 => ?_)
  clear r_a0_18
  clear fa0_17
  refine fa0_18.move 69 (.int .i64 (j : Int)) _ (Or.inl rfl) rfl (lb_ I0.size) ((wanted_at (t := 65) (c := false) (b := false) rfl rfl rfl (lb_ (fa0_18.size.trans I0.size)) (fa0_18.at_ 65)).trans (by rfl)) ((fa0_18.at_ 7).trans h7) (fun a0_19 fa0_19 => ?_)
  clear fa0_18
  have r_a0_20 : (execOp a0_19.eval oYE36).run Try.prog (wr) = .ok (.value (.int .i64 ((n : Int) + (j : Int)))) (wr) := by
    unfold oYE36
    have e68 := (show a0_19.eval (.tmp 68) = .int .i64 (n : Int) from (fa0_19.at_ 68))
    have e69 := (show a0_19.eval (.tmp 69) = .int .i64 (j : Int) from (fa0_19.at_ 69))
    clear fa0_19 hQ h6 h7
    generalize a0_19.eval = ρ at *
    go_simp
  refine fa0_19.step 70 (.int .i64 ((n : Int) + (j : Int))) rfl (lb_ I0.size) ((wanted_at (t := 65) (c := false) (b := false) rfl rfl rfl (lb_ (fa0_19.size.trans I0.size)) (fa0_19.at_ 65)).trans (by rfl)) r_a0_20 (fun a0_20 fa0_20 => ?_)
  clear r_a0_20
  clear fa0_19
  have r_a0_21 : (execOp a0_20.eval oYE37).run Try.prog (wr) = .ok (.value (.pointer (some ⟨g, (n + j) * 2, none⟩))) (wr) := by
    unfold oYE37
    have e66 := (show a0_20.eval (.tmp 66) = .slice (some ⟨g, 0, none⟩) (n + 70) cc from (fa0_20.at_ 66))
    have e70 := (show a0_20.eval (.tmp 70) = .int .i64 ((n : Int) + (j : Int)) from (fa0_20.at_ 70))
    clear fa0_20 hQ h6 h7
    generalize a0_20.eval = ρ at *
    go_simp
  refine fa0_20.step 71 (.pointer (some ⟨g, (n + j) * 2, none⟩)) rfl (lb_ I0.size) ((wanted_at (t := 65) (c := false) (b := false) rfl rfl rfl (lb_ (fa0_20.size.trans I0.size)) (fa0_20.at_ 65)).trans (by rfl)) r_a0_21 (fun a0_21 fa0_21 => ?_)
  clear r_a0_21
  clear fa0_20
  have r_a0_22 : (execOp a0_21.eval oYE38).run Try.prog (wr) = .ok (.value (.pointer (some ⟨g, (n + j) * 2 + 1, none⟩))) (wr) := by
    unfold oYE38
    have e71 := (show a0_21.eval (.tmp 71) = .pointer (some ⟨g, (n + j) * 2, none⟩) from (fa0_21.at_ 71))
    clear fa0_21 hQ h6 h7
    generalize a0_21.eval = ρ at *
    go_simp
  refine fa0_21.step 72 (.pointer (some ⟨g, (n + j) * 2 + 1, none⟩)) rfl (lb_ I0.size) ((wanted_at (t := 65) (c := false) (b := false) rfl rfl rfl (lb_ (fa0_21.size.trans I0.size)) (fa0_21.at_ 65)).trans (by rfl)) r_a0_22 (fun a0_22 fa0_22 => ?_)
  clear r_a0_22
  clear fa0_21
  have r_a0_23 : (execOp a0_22.eval oYE39).run Try.prog (wr) = .ok (.value (.slice none 0 0)) (wr) := by
    unfold oYE39
    have e72 := (show a0_22.eval (.tmp 72) = .pointer (some ⟨g, (n + j) * 2 + 1, none⟩) from (fa0_22.at_ 72))
    clear fa0_22 hQ h6 h7
    generalize a0_22.eval = ρ at *
    go_simp
  refine fa0_22.step 73 (.slice none 0 0) rfl (lb_ I0.size) ((wanted_at (t := 65) (c := false) (b := false) rfl rfl rfl (lb_ (fa0_22.size.trans I0.size)) (fa0_22.at_ 65)).trans (by rfl)) r_a0_23 (fun a0_23 fa0_23 => ?_)
  clear r_a0_23
  clear fa0_22
  have r_a0_24 : (execOp a0_23.eval oYE40).run Try.prog (wr) = .ok (.value (.int .i64 0)) (wr) := by
    unfold oYE40
    have e73 := (show a0_23.eval (.tmp 73) = .slice none 0 0 from (fa0_23.at_ 73))
    clear fa0_23 hQ h6 h7
    generalize a0_23.eval = ρ at *
    go_simp
  refine fa0_23.step 74 (.int .i64 0) rfl (lb_ I0.size) ((wanted_at (t := 65) (c := false) (b := false) rfl rfl rfl (lb_ (fa0_23.size.trans I0.size)) (fa0_23.at_ 65)).trans (by rfl)) r_a0_24 (fun a0_24 fa0_24 => ?_)
  clear r_a0_24
  clear fa0_23
  have r_a0_25 : (execOp a0_24.eval oYE41).run Try.prog (wr) = .ok (.value (.bool false)) (wr) := by
    unfold oYE41
    have kc : ∀ v, a0_24.eval (.const v) = v := fun _ => rfl
    have e74 := (show a0_24.eval (.tmp 74) = .int .i64 0 from (fa0_24.at_ 74))
    clear fa0_24 hQ h6 h7
    generalize a0_24.eval = ρ at *
    go_simp
  refine fa0_24.step 75 (.bool false) rfl (lb_ I0.size) ((wanted_at (t := 65) (c := false) (b := false) rfl rfl rfl (lb_ (fa0_24.size.trans I0.size)) (fa0_24.at_ 65)).trans (by rfl)) r_a0_25 (fun a0_25 fa0_25 => ?_)
  clear r_a0_25
  clear fa0_24
  have r_a0_26 : (execOp a0_25.eval oYE42).run Try.prog (wr) = .ok (.value (.bool false)) (wr) := by
    unfold oYE42
    have kc : ∀ v, a0_25.eval (.const v) = v := fun _ => rfl
    have e65 := (show a0_25.eval (.tmp 65) = .bool false from (fa0_25.at_ 65))
    have e75 := (show a0_25.eval (.tmp 75) = .bool false from (fa0_25.at_ 75))
    clear fa0_25 hQ h6 h7
    generalize a0_25.eval = ρ at *
    go_simp
  refine fa0_25.step 76 (.bool false) rfl (lb_ I0.size) (wanted_none rfl) r_a0_26 (fun a0_26 fa0_26 => ?_)
  clear r_a0_26
  clear fa0_25
  refine wpList_nil ?_
  change Code.wp _ _ _ _ _
  refine wp_cond_false (show a0_26.eval (.tmp 76) = .bool false from (fa0_26.at_ 76)) (wp_skip ?_)
  change Code.wp _ _ _ _ _
  refine wp_region_list ?_
  unfold rKC11
  refine fa0_26.move 51 (.int .i64 (j : Int)) _ (Or.inl rfl) rfl (lb_ I0.size) (wanted_none rfl) ((fa0_26.at_ 7).trans h7) (fun a0_27 fa0_27 => ?_)
  clear fa0_26
  have r_a0_28 : (execOp a0_27.eval oYE26).run Try.prog (wr) = .ok (.value (.int .i64 ((j : Int) + 1))) (wr) := by
    unfold oYE26
    have kc : ∀ v, a0_27.eval (.const v) = v := fun _ => rfl
    have e51 := (show a0_27.eval (.tmp 51) = .int .i64 (j : Int) from (fa0_27.at_ 51))
    clear fa0_27 hQ h6 h7
    generalize a0_27.eval = ρ at *
    go_simp
  refine fa0_27.step 52 (.int .i64 ((j : Int) + 1)) rfl (lb_ I0.size) (wanted_none rfl) r_a0_28 (fun a0_28 fa0_28 => ?_)
  clear r_a0_28
  clear fa0_27
  refine fa0_28.move 7 (.int .i64 ((j : Int) + 1)) _ (Or.inr rfl) rfl (lb_ I0.size) (wanted_none rfl) (fa0_28.at_ 52) (fun a0_29 fa0_29 => ?_)
  clear fa0_28
  refine wpList_nil ?_
  exact hQ a0_29 (I0.keep fa0_29 rfl rfl) (show a0_29.eval (.tmp 7) = .int .i64 ((j : Int) + 1) from (fa0_29.at_ 7)) (show a0_29.eval (.tmp 6) = .slice (some ⟨g, 0, none⟩) (n + 70) cc from ((fa0_29.at_ 6).trans h6))
set_option maxRecDepth 100000 in
theorem kcN {g n cc cp : Nat} {pa : Option Addr} {Q : Exit → Act → World → Prop} (a0 : Act) (wr : World) (I0 : IK g n cc pa cp a0) (h7 : a0.eval (.tmp 7) = .int .i64 70)
    (hQ : ∀ a, IK g n cc pa cp a → Q (.exit 2) a wr) : cKC2.wp Try.prog Q a0 wr := by
  have fa0_0 := Fe.refl a0
  unfold cKC2
  refine wp_seq (wp_seq ?_)
  refine wp_region_list ?_
  unfold rKC10
  refine fa0_0.move 49 (.int .i64 70) _ (Or.inl rfl) rfl (lb_ I0.size) (wanted_none rfl) ((fa0_0.at_ 7).trans h7) (fun a0_1 fa0_1 => ?_)
  clear fa0_0
  have r_a0_2 : (execOp a0_1.eval oYE25).run Try.prog (wr) = .ok (.value (.bool false)) (wr) := by
    unfold oYE25
    have kc : ∀ v, a0_1.eval (.const v) = v := fun _ => rfl
    have e49 := (show a0_1.eval (.tmp 49) = .int .i64 70 from (fa0_1.at_ 49))
    clear fa0_1 hQ h7
    generalize a0_1.eval = ρ at *
    go_simp
  refine fa0_1.step 50 (.bool false) rfl (lb_ I0.size) (wanted_none rfl) r_a0_2 (fun a0_2 fa0_2 => ?_)
  clear r_a0_2
  clear fa0_1
  refine wpList_nil ?_
  change Code.wp _ _ _ _ _
  refine wp_cond_false (show a0_2.eval (.tmp 50) = .bool false from (fa0_2.at_ 50)) (wp_exit ?_)
  exact hQ a0_2 (I0.keep fa0_2 rfl rfl)
theorem kcL2 {g n cc cp : Nat} {pa : Option Addr} {Q : Exit → Act → World → Prop} (a0 : Act) (wr : World) (I0 : IK g n cc pa cp a0) (h7 : a0.eval (.tmp 7) = .int .i64 ((0 : Nat) : Int)) (h6 : a0.eval (.tmp 6) = .slice (some ⟨g, 0, none⟩) (n + 70) cc) (hn : n ≤ 2000000)
    (hm : ∀ j, j < 70 → wr.cell? ⟨g, (n + j) * 2, none⟩ = some (.int .u32 (800000 + (j : Int))) ∧ wr.cell? ⟨g, (n + j) * 2 + 1, none⟩ = some (.slice none 0 0))
    (hQ : ∀ a, IK g n cc pa cp a → Q (.exit 2) a wr) : (Code.loop cKC2).wp Try.prog Q a0 wr := by
  refine wp_loop (fun a W => W = wr ∧ IK g n cc pa cp a ∧ a.eval (.tmp 6) = .slice (some ⟨g, 0, none⟩) (n + 70) cc ∧ ∃ j : Nat, j ≤ 70 ∧ a.eval (.tmp 7) = .int .i64 (j : Int)) (fun a _ => 70 - kOf a 7) ⟨rfl, I0, h6, 0, Nat.zero_le _, h7⟩ ?_
  rintro a W ⟨rfl, I1, g6, j, hj, g7⟩
  by_cases hgo : j < 70
  · obtain ⟨m1, m2⟩ := hm j hgo
    refine kcM a W I1 g7 g6 hgo hn m1 m2 (fun a' i3 h1 h2 => ?_)
    have h8 : a'.eval (.tmp 7) = .int .i64 ((j + 1 : Nat) : Int) := h1
    refine ⟨⟨rfl, i3, h2, j + 1, hgo, h8⟩, ?_⟩
    show 70 - kOf a' 7 < 70 - kOf a 7
    rw [kOf_eq h8, kOf_eq g7]
    omega
  · obtain rfl : j = 70 := by omega
    exact kcN a W I1 g7 hQ
set_option maxRecDepth 100000 in
set_option maxHeartbeats 1000000 in
theorem keptC_true {pa : Option Addr} {pb po n cp B g cc : Nat} {L M : List Bt} (w : World) (hb : BvRow w pa pb po L) (hc : LentC w B g cc n L M) (hn : n = L.length) (hwt : wt L ≤ 2000000) :
    Calls Try.prog 12 #[.slice (some ⟨g, 0, none⟩) n cc, .slice pa n cp] w fun e w' => e = .returned (.bool true) ∧ Same w w' := by
  have hn2 : n ≤ 2000000 := by rw [hn]; exact Nat.le_trans (wt_len L) hwt
  refine calls_abs (c := cKC) Try.func12 (by kernel_rfl) 77 rfl (by simp) (fun a0 hsz hd ha => ?_)
  have fa0_0 := Fe.refl a0
  unfold cKC
  refine wp_seq ?_
  refine wp_region_list ?_
  unfold rKC0
  refine fa0_0.move 4 (.bool false) _ (Or.inr rfl) rfl (lb_ hsz) (wanted_none rfl) rfl (fun a0_1 fa0_1 => ?_)
  clear fa0_0
  refine wpList_nil ?_
  change Code.wp _ _ _ _ _
  refine wp_seq (wp_seq ?_)
  refine wp_region_list ?_
  unfold rKC1
  refine fa0_1.move 8 (.slice (some ⟨g, 0, none⟩) n cc) _ (Or.inl rfl) rfl (lb_ hsz) (wanted_none rfl) ((fa0_1.at_ 0).trans (ha 0 _ rfl)) (fun a0_2 fa0_2 => ?_)
  clear fa0_1
  have r_a0_3 : (execOp a0_2.eval oYE0).run Try.prog (w) = .ok (.value (.int .i64 (n : Int))) (w) := by
    unfold oYE0
    have e8 := (show a0_2.eval (.tmp 8) = .slice (some ⟨g, 0, none⟩) n cc from (fa0_2.at_ 8))
    clear fa0_2 ha
    generalize a0_2.eval = ρ at *
    go_simp
  refine fa0_2.step 9 (.int .i64 (n : Int)) rfl (lb_ hsz) (wanted_none rfl) r_a0_3 (fun a0_3 fa0_3 => ?_)
  clear r_a0_3
  clear fa0_2
  refine fa0_3.move 10 (.slice pa n cp) _ (Or.inl rfl) rfl (lb_ hsz) (wanted_none rfl) ((fa0_3.at_ 1).trans (ha 1 _ rfl)) (fun a0_4 fa0_4 => ?_)
  clear fa0_3
  have r_a0_5 : (execOp a0_4.eval oYE1).run Try.prog (w) = .ok (.value (.int .i64 (n : Int))) (w) := by
    unfold oYE1
    have e10 := (show a0_4.eval (.tmp 10) = .slice pa n cp from (fa0_4.at_ 10))
    clear fa0_4 ha
    generalize a0_4.eval = ρ at *
    go_simp
  refine fa0_4.step 11 (.int .i64 (n : Int)) rfl (lb_ hsz) (wanted_none rfl) r_a0_5 (fun a0_5 fa0_5 => ?_)
  clear r_a0_5
  clear fa0_4
  have r_a0_6 : (execOp a0_5.eval oYE2).run Try.prog (w) = .ok (.value (.bool false)) (w) := by
    unfold oYE2
    have e9 := (show a0_5.eval (.tmp 9) = .int .i64 (n : Int) from (fa0_5.at_ 9))
    have e11 := (show a0_5.eval (.tmp 11) = .int .i64 (n : Int) from (fa0_5.at_ 11))
    clear fa0_5 ha
    generalize a0_5.eval = ρ at *
    go_simp
  refine fa0_5.step 12 (.bool false) rfl (lb_ hsz) (wanted_none rfl) r_a0_6 (fun a0_6 fa0_6 => ?_)
  clear r_a0_6
  clear fa0_5
  refine wpList_nil ?_
  change Code.wp _ _ _ _ _
  refine wp_cond_false (show a0_6.eval (.tmp 12) = .bool false from (fa0_6.at_ 12)) (wp_skip ?_)
  change Code.wp _ _ _ _ _
  refine wp_seq (wp_seq ?_)
  refine wp_region_list ?_
  unfold rKC3
  refine fa0_6.move 5 (.int .i64 ((0 : Nat) : Int)) _ (Or.inr rfl) rfl (lb_ hsz) (wanted_none rfl) rfl (fun a0_7 fa0_7 => ?_)
  clear fa0_6
  refine wpList_nil ?_
  change Code.wp _ _ _ _ _
  refine wp_block ?_
  refine kcL (by intro c a d v w h; cases d <;> exact h) a0_7 w ⟨fa0_7.size.trans hsz, fa0_7.defers.trans hd, (show a0_7.eval (.tmp 0) = .slice (some ⟨g, 0, none⟩) n cc from ((fa0_7.at_ 0).trans (ha 0 _ rfl))), (show a0_7.eval (.tmp 1) = .slice pa n cp from ((fa0_7.at_ 1).trans (ha 1 _ rfl)))⟩ (show a0_7.eval (.tmp 5) = .int .i64 ((0 : Nat) : Int) from (fa0_7.at_ 5)) hb hc hn hwt (fun b W i1 s1 => ?_)
  change Code.wp _ _ _ _ _
  refine wp_seq ?_
  have fb_0 := Fe.refl b
  obtain ⟨hc1, hc2⟩ := own_capF hc.row
  have hci : (n : Int) + 70 ≤ (cc : Int) := by omega
  have hcn : ¬ cc < n + 70 := by omega
  have hc0 : (0 : Int) ≤ (n : Int) + 70 := by omega
  have htn : ((n : Int) + 70).toNat = n + 70 := by omega
  have w4 : IntKind.i64.wrap ((n : Int) + 70) = (n : Int) + 70 := by rw [IntKind.wrap_i64]; omega
  refine wp_region_list ?_
  unfold rKC8
  refine fb_0.move 44 (.slice (some ⟨g, 0, none⟩) n cc) _ (Or.inl rfl) rfl (lb_ i1.size) (wanted_none rfl) ((fb_0.at_ 0).trans i1.s0) (fun b_1 fb_1 => ?_)
  clear fb_0
  refine fb_1.move 45 (.slice (some ⟨g, 0, none⟩) n cc) _ (Or.inl rfl) rfl (lb_ i1.size) (wanted_none rfl) ((fb_1.at_ 0).trans i1.s0) (fun b_2 fb_2 => ?_)
  clear fb_1
  have r_b_3 : (execOp b_2.eval oYE22).run Try.prog (W) = .ok (.value (.int .i64 (n : Int))) (W) := by
    unfold oYE22
    have e45 := (show b_2.eval (.tmp 45) = .slice (some ⟨g, 0, none⟩) n cc from (fb_2.at_ 45))
    clear fb_2 ha hn hc hc1 hc2
    generalize b_2.eval = ρ at *
    go_simp
  refine fb_2.step 46 (.int .i64 (n : Int)) rfl (lb_ i1.size) (wanted_none rfl) r_b_3 (fun b_3 fb_3 => ?_)
  clear r_b_3
  clear fb_2
  have r_b_4 : (execOp b_3.eval oYE23).run Try.prog (W) = .ok (.value (.int .i64 ((n : Int) + 70))) (W) := by
    unfold oYE23
    have kc : ∀ v, b_3.eval (.const v) = v := fun _ => rfl
    have e46 := (show b_3.eval (.tmp 46) = .int .i64 (n : Int) from (fb_3.at_ 46))
    clear fb_3 ha hn hc hc1 hc2
    generalize b_3.eval = ρ at *
    go_simp
  refine fb_3.step 47 (.int .i64 ((n : Int) + 70)) rfl (lb_ i1.size) (wanted_none rfl) r_b_4 (fun b_4 fb_4 => ?_)
  clear r_b_4
  clear fb_3
  have r_b_5 : (execOp b_4.eval oYE24).run Try.prog (W) = .ok (.value (.slice (some ⟨g, 0, none⟩) (n + 70) cc)) (W) := by
    unfold oYE24
    have e44 := (show b_4.eval (.tmp 44) = .slice (some ⟨g, 0, none⟩) n cc from (fb_4.at_ 44))
    have e47 := (show b_4.eval (.tmp 47) = .int .i64 ((n : Int) + 70) from (fb_4.at_ 47))
    clear fb_4 ha hn hc hc1 hc2
    generalize b_4.eval = ρ at *
    go_simp
  refine fb_4.step 48 (.slice (some ⟨g, 0, none⟩) (n + 70) cc) rfl (lb_ i1.size) (wanted_none rfl) r_b_5 (fun b_5 fb_5 => ?_)
  clear r_b_5
  clear fb_4
  refine fb_5.move 6 (.slice (some ⟨g, 0, none⟩) (n + 70) cc) _ (Or.inr rfl) rfl (lb_ i1.size) (wanted_none rfl) (fb_5.at_ 48) (fun b_6 fb_6 => ?_)
  clear fb_5
  refine wpList_nil ?_
  change Code.wp _ _ _ _ _
  refine wp_seq (wp_seq ?_)
  refine wp_region_list ?_
  unfold rKC9
  refine fb_6.move 7 (.int .i64 ((0 : Nat) : Int)) _ (Or.inr rfl) rfl (lb_ i1.size) (wanted_none rfl) rfl (fun b_7 fb_7 => ?_)
  clear fb_6
  refine wpList_nil ?_
  change Code.wp _ _ _ _ _
  refine wp_block ?_
  refine kcL2 b_7 W (i1.keep fb_7 rfl rfl) (show b_7.eval (.tmp 7) = .int .i64 ((0 : Nat) : Int) from (fb_7.at_ 7)) (show b_7.eval (.tmp 6) = .slice (some ⟨g, 0, none⟩) (n + 70) cc from (fb_7.at_ 6)) hn2 (fun j hj => (hc.same s1).mark hn hj) (fun d i2 => ?_)
  change Code.wp _ _ _ _ _
  refine wp_seq ?_
  have fd_0 := Fe.refl d
  refine wp_region_list ?_
  unfold rKC14
  refine fd_0.move 4 (.bool true) _ (Or.inr rfl) rfl (lb_ i2.size) (wanted_none rfl) rfl (fun d_1 fd_1 => ?_)
  clear fd_0
  refine wpList_nil ?_
  change Code.wp _ _ _ _ _
  refine wp_ret ?_
  exact ret_abs rfl (fd_1.defers.trans i2.defers) (show d_1.eval (.tmp 4) = .bool true from (fd_1.at_ 4)) ⟨rfl, s1⟩
theorem LentC.bv {W w : World} {B g cc n pb po : Nat} {pa : Option Addr} {L M : List Bt} (h : LentC W B g cc n L M) (hb : BvRow w pa pb po L) : BvRow W (some ⟨g, 0, none⟩) g 0 M := by
  have hr := own_base h.row (Nat.zero_le _)
  refine ⟨fun _ => ⟨rfl, (own_ge h.row).2⟩, fun j y hy => ?_⟩
  obtain ⟨b1, b2⟩ := btCs_at (mkB 70) hy
  have hym := List.mem_of_getElem? hy
  obtain ⟨x, hx, hkey⟩ : ∃ x, L[j]? = some x ∧ y.key = x.key := by
    have h1 : (M.map Bt.key)[j]? = (L.map Bt.key)[j]? := by rw [h.key]
    rw [List.getElem?_map, List.getElem?_map, hy] at h1
    cases hx : L[j]? with
    | none => rw [hx] at h1; cases h1
    | some x => rw [hx] at h1; exact ⟨x, rfl, Option.some.inj h1⟩
  have hpg : y.pg = x.pg := congrArg Prod.fst hkey
  have hns : y.ns = x.ns := congrArg Prod.snd hkey
  have hx2 := (hb.cells j x hx).2.2
  have hl := h.lent y hym
  rw [Nat.zero_add]
  refine ⟨own_cell hr b1, own_cell hr b2, ⟨?_, by rw [hpg]; exact hx2.hpg, by rw [hns]; exact hx2.hns⟩⟩
  rw [hl.na, hl.no]
  exact LentN.ns hl.ns
end Go.Proofs.Ytneopkhkkfckcaa
