/- The walk of DiskMakes. -/
import Derived.Test.YtljlkcmjbjnihaaDK4
import Derived.Test.YtljlkcmjbjnihaaOW
namespace Go.Proofs.Ytljlkcmjbjnihaa
open Go.RowKit

theorem rfrom_nil {pg mo : Int} (w : World) (hpg : pg = 1024 ∨ pg = 2048 ∨ pg = 4096 ∨ pg = 8192) (h1 : 1 ≤ mo) (h2 : mo ≤ 65536) :
    Calls Try.prog 4 #[.int .i64 pg, .int .i64 mo, .slice none 0 0] w fun e w' => ∃ b, e = .returned (.tuple #[.pointer (some ⟨b, 0, none⟩), .int .i64 0]) ∧ Same w w' := by
  have h := rfrom_image (pg := pg) (mo := mo) (ia := none) (ic := 0) (L := []) (pb := 0) (po := 0) w hpg h1 h2 (by simp; omega) (by simp) ⟨fun e => absurd rfl e, fun j x hx => by cases hx⟩
  refine Calls.mono h fun e w' hh => ?_
  rcases hh with ⟨ha, _⟩ | ⟨_, b, he, _, s⟩
  · simp at ha
  · exact ⟨b, he, s⟩
theorem new_good {pg mo : Int} (w : World) (hpg : pg = 1024 ∨ pg = 2048 ∨ pg = 4096 ∨ pg = 8192) (h1 : 1 ≤ mo) (h2 : mo ≤ 65536) :
    Calls Try.prog 6 #[.int .i64 pg, .int .i64 mo] w fun e w' => ∃ b, e = .returned (.tuple #[.pointer (some ⟨b, 0, none⟩), .int .i64 0]) ∧ Same w w' := by
  obtain ⟨pn, rfl⟩ := Int.eq_ofNat_of_zero_le (show 0 ≤ pg by omega)
  obtain ⟨mn, rfl⟩ := Int.eq_ofNat_of_zero_le (show 0 ≤ mo by omega)
  exact Calls.mono (new_calls w hpg (by omega) (by omega)) fun e w' ⟨b, he, _, s⟩ => ⟨b, he, s⟩
def rDV0 : Array Oper := #[{ dst := some 6, op := Op.assign (Operand.const (Value.bool false)), type := 4, pos := "law.go:351", after := #[], guard := none }]
def rDV1 : Array Oper := #[{ dst := some 16, op := Op.move (Operand.tmp 0), type := 3, pos := "law.go:352", after := #[], guard := none },
  { dst := some 17, op := Op.move (Operand.tmp 1), type := 3, pos := "law.go:352", after := #[], guard := none },
  { dst := some 18, op := Op.move (Operand.tmp 2), type := 22, pos := "law.go:352", after := #[], guard := none },
  { dst := some 19, op := Op.call { callee := Callee.value (Operand.func 4), args := #[Operand.tmp 16, Operand.tmp 17, Operand.tmp 18], argTypes := #[3, 3, 22] }, type := 25, pos := "law.go:352", after := #[{ on := 0, ground := Ground.data }, { on := 1, ground := Ground.data }, { on := 2, ground := Ground.data }], guard := none },
  { dst := some 15, op := Op.move (Operand.tmp 19), type := 25, pos := "law.go:352", after := #[{ on := 3, ground := Ground.data }], guard := none },
  { dst := some 20, op := Op.extract (Operand.tmp 15) 0, type := 23, pos := "law.go:352", after := #[{ on := 4, ground := Ground.data }], guard := none },
  { dst := some 21, op := Op.extract (Operand.tmp 15) 1, type := 24, pos := "law.go:352", after := #[{ on := 4, ground := Ground.data }, { on := 7, ground := Ground.gcOnly Go.Departure.lateStores }], guard := none },
  { dst := some 7, op := Op.assign (Operand.tmp 20), type := 23, pos := "law.go:352", after := #[{ on := 5, ground := Ground.data }, { on := 3, ground := Ground.chain }, { on := 0, ground := Ground.phase }, { on := 1, ground := Ground.phase }, { on := 2, ground := Ground.phase }, { on := 3, ground := Ground.phase }, { on := 4, ground := Ground.phase }, { on := 5, ground := Ground.phase }, { on := 6, ground := Ground.textOnly Go.Departure.lateStores }], guard := none },
  { dst := some 8, op := Op.assign (Operand.tmp 21), type := 24, pos := "law.go:352", after := #[{ on := 6, ground := Ground.data }, { on := 7, ground := Ground.chain }, { on := 0, ground := Ground.phase }, { on := 1, ground := Ground.phase }, { on := 2, ground := Ground.phase }, { on := 3, ground := Ground.phase }, { on := 4, ground := Ground.phase }, { on := 5, ground := Ground.phase }, { on := 6, ground := Ground.phase }, { on := 7, ground := Ground.phase }], guard := none }]
def rDV2 : Array Oper := #[{ dst := some 23, op := Op.move (Operand.tmp 0), type := 3, pos := "law.go:353", after := #[], guard := none },
  { dst := some 24, op := Op.move (Operand.tmp 1), type := 3, pos := "law.go:353", after := #[], guard := none },
  { dst := some 25, op := Op.move (Operand.tmp 2), type := 22, pos := "law.go:353", after := #[], guard := none },
  { dst := some 26, op := Op.call { callee := Callee.value (Operand.func 5), args := #[Operand.tmp 23, Operand.tmp 24, Operand.tmp 25], argTypes := #[3, 3, 22] }, type := 28, pos := "law.go:353", after := #[{ on := 0, ground := Ground.data }, { on := 1, ground := Ground.data }, { on := 2, ground := Ground.data }], guard := none },
  { dst := some 22, op := Op.move (Operand.tmp 26), type := 28, pos := "law.go:353", after := #[{ on := 3, ground := Ground.data }], guard := none },
  { dst := some 27, op := Op.extract (Operand.tmp 22) 0, type := 27, pos := "law.go:353", after := #[{ on := 4, ground := Ground.data }], guard := none },
  { dst := some 28, op := Op.extract (Operand.tmp 22) 1, type := 24, pos := "law.go:353", after := #[{ on := 4, ground := Ground.data }, { on := 7, ground := Ground.gcOnly Go.Departure.lateStores }], guard := none },
  { dst := some 9, op := Op.assign (Operand.tmp 27), type := 27, pos := "law.go:353", after := #[{ on := 5, ground := Ground.data }, { on := 3, ground := Ground.chain }, { on := 0, ground := Ground.phase }, { on := 1, ground := Ground.phase }, { on := 2, ground := Ground.phase }, { on := 3, ground := Ground.phase }, { on := 4, ground := Ground.phase }, { on := 5, ground := Ground.phase }, { on := 6, ground := Ground.textOnly Go.Departure.lateStores }], guard := none },
  { dst := some 10, op := Op.assign (Operand.tmp 28), type := 24, pos := "law.go:353", after := #[{ on := 6, ground := Ground.data }, { on := 7, ground := Ground.chain }, { on := 0, ground := Ground.phase }, { on := 1, ground := Ground.phase }, { on := 2, ground := Ground.phase }, { on := 3, ground := Ground.phase }, { on := 4, ground := Ground.phase }, { on := 5, ground := Ground.phase }, { on := 6, ground := Ground.phase }, { on := 7, ground := Ground.phase }], guard := none }]
def rDV3 : Array Oper := #[{ dst := some 30, op := Op.move (Operand.tmp 0), type := 3, pos := "law.go:354", after := #[], guard := none },
  { dst := some 31, op := Op.move (Operand.tmp 1), type := 3, pos := "law.go:354", after := #[], guard := none },
  { dst := some 32, op := Op.call { callee := Callee.value (Operand.func 4), args := #[Operand.tmp 30, Operand.tmp 31, Operand.const (Value.slice none 0 0)], argTypes := #[3, 3, 22] }, type := 25, pos := "law.go:354", after := #[{ on := 0, ground := Ground.data }, { on := 1, ground := Ground.data }], guard := none },
  { dst := some 29, op := Op.move (Operand.tmp 32), type := 25, pos := "law.go:354", after := #[{ on := 2, ground := Ground.data }], guard := none },
  { dst := some 33, op := Op.extract (Operand.tmp 29) 0, type := 23, pos := "law.go:354", after := #[{ on := 3, ground := Ground.data }], guard := none },
  { dst := some 34, op := Op.extract (Operand.tmp 29) 1, type := 24, pos := "law.go:354", after := #[{ on := 3, ground := Ground.data }, { on := 6, ground := Ground.gcOnly Go.Departure.lateStores }], guard := none },
  { dst := some 11, op := Op.assign (Operand.tmp 33), type := 23, pos := "law.go:354", after := #[{ on := 4, ground := Ground.data }, { on := 2, ground := Ground.chain }, { on := 0, ground := Ground.phase }, { on := 1, ground := Ground.phase }, { on := 2, ground := Ground.phase }, { on := 3, ground := Ground.phase }, { on := 4, ground := Ground.phase }, { on := 5, ground := Ground.textOnly Go.Departure.lateStores }], guard := none },
  { dst := some 12, op := Op.assign (Operand.tmp 34), type := 24, pos := "law.go:354", after := #[{ on := 5, ground := Ground.data }, { on := 6, ground := Ground.chain }, { on := 0, ground := Ground.phase }, { on := 1, ground := Ground.phase }, { on := 2, ground := Ground.phase }, { on := 3, ground := Ground.phase }, { on := 4, ground := Ground.phase }, { on := 5, ground := Ground.phase }, { on := 6, ground := Ground.phase }], guard := none }]
def rDV4 : Array Oper := #[{ dst := some 36, op := Op.move (Operand.tmp 0), type := 3, pos := "law.go:355", after := #[], guard := none },
  { dst := some 37, op := Op.move (Operand.tmp 1), type := 3, pos := "law.go:355", after := #[], guard := none },
  { dst := some 38, op := Op.call { callee := Callee.value (Operand.func 6), args := #[Operand.tmp 36, Operand.tmp 37], argTypes := #[3, 3] }, type := 28, pos := "law.go:355", after := #[{ on := 0, ground := Ground.data }, { on := 1, ground := Ground.data }], guard := none },
  { dst := some 35, op := Op.move (Operand.tmp 38), type := 28, pos := "law.go:355", after := #[{ on := 2, ground := Ground.data }], guard := none },
  { dst := some 39, op := Op.extract (Operand.tmp 35) 0, type := 27, pos := "law.go:355", after := #[{ on := 3, ground := Ground.data }], guard := none },
  { dst := some 40, op := Op.extract (Operand.tmp 35) 1, type := 24, pos := "law.go:355", after := #[{ on := 3, ground := Ground.data }, { on := 6, ground := Ground.gcOnly Go.Departure.lateStores }], guard := none },
  { dst := some 13, op := Op.assign (Operand.tmp 39), type := 27, pos := "law.go:355", after := #[{ on := 4, ground := Ground.data }, { on := 2, ground := Ground.chain }, { on := 0, ground := Ground.phase }, { on := 1, ground := Ground.phase }, { on := 2, ground := Ground.phase }, { on := 3, ground := Ground.phase }, { on := 4, ground := Ground.phase }, { on := 5, ground := Ground.textOnly Go.Departure.lateStores }], guard := none },
  { dst := some 14, op := Op.assign (Operand.tmp 40), type := 24, pos := "law.go:355", after := #[{ on := 5, ground := Ground.data }, { on := 6, ground := Ground.chain }, { on := 0, ground := Ground.phase }, { on := 1, ground := Ground.phase }, { on := 2, ground := Ground.phase }, { on := 3, ground := Ground.phase }, { on := 4, ground := Ground.phase }, { on := 5, ground := Ground.phase }, { on := 6, ground := Ground.phase }], guard := none }]
def rDV5 : Array Oper := #[{ dst := some 41, op := Op.move (Operand.tmp 10), type := 24, pos := "law.go:356", after := #[], guard := none },
  { dst := some 42, op := Op.move (Operand.tmp 8), type := 24, pos := "law.go:356", after := #[], guard := none },
  { dst := some 43, op := Op.binOp BinOp.neq 24 (Operand.tmp 41) (Operand.tmp 42) 24, type := 4, pos := "law.go:356", after := #[{ on := 0, ground := Ground.data }, { on := 1, ground := Ground.data }], guard := none },
  { dst := some 44, op := Op.move (Operand.tmp 43), type := 4, pos := "law.go:356", after := #[{ on := 2, ground := Ground.data }], guard := none },
  { dst := some 45, op := Op.move (Operand.tmp 9), type := 27, pos := "law.go:356", after := #[{ on := 3, ground := Ground.guard }], guard := some (3, false) },
  { dst := some 46, op := Op.binOp BinOp.eql 27 (Operand.tmp 45) (Operand.const (Value.pointer none)) 27, type := 4, pos := "law.go:356", after := #[{ on := 4, ground := Ground.data }, { on := 3, ground := Ground.guard }], guard := some (3, false) },
  { dst := some 47, op := Op.move (Operand.tmp 7), type := 23, pos := "law.go:356", after := #[{ on := 3, ground := Ground.guard }], guard := some (3, false) },
  { dst := some 48, op := Op.binOp BinOp.eql 23 (Operand.tmp 47) (Operand.const (Value.pointer none)) 23, type := 4, pos := "law.go:356", after := #[{ on := 6, ground := Ground.data }, { on := 3, ground := Ground.guard }], guard := some (3, false) },
  { dst := some 49, op := Op.binOp BinOp.neq 4 (Operand.tmp 46) (Operand.tmp 48) 4, type := 4, pos := "law.go:356", after := #[{ on := 5, ground := Ground.data }, { on := 7, ground := Ground.data }, { on := 3, ground := Ground.guard }], guard := some (3, false) },
  { dst := some 50, op := Op.pick (Operand.tmp 44) (Operand.const (Value.bool true)) (Operand.tmp 49), type := 4, pos := "law.go:356", after := #[{ on := 3, ground := Ground.data }, { on := 8, ground := Ground.data }], guard := none },
  { dst := some 51, op := Op.move (Operand.tmp 50), type := 4, pos := "law.go:356", after := #[{ on := 9, ground := Ground.data }, { on := 3, ground := Ground.chain }], guard := none },
  { dst := some 52, op := Op.move (Operand.tmp 14), type := 24, pos := "law.go:356", after := #[{ on := 10, ground := Ground.guard }], guard := some (10, false) },
  { dst := some 53, op := Op.move (Operand.tmp 12), type := 24, pos := "law.go:356", after := #[{ on := 10, ground := Ground.guard }], guard := some (10, false) },
  { dst := some 54, op := Op.binOp BinOp.neq 24 (Operand.tmp 52) (Operand.tmp 53) 24, type := 4, pos := "law.go:356", after := #[{ on := 11, ground := Ground.data }, { on := 12, ground := Ground.data }, { on := 10, ground := Ground.guard }], guard := some (10, false) },
  { dst := some 55, op := Op.pick (Operand.tmp 51) (Operand.const (Value.bool true)) (Operand.tmp 54), type := 4, pos := "law.go:356", after := #[{ on := 10, ground := Ground.data }, { on := 13, ground := Ground.data }], guard := none },
  { dst := some 56, op := Op.move (Operand.tmp 55), type := 4, pos := "law.go:356", after := #[{ on := 14, ground := Ground.data }, { on := 10, ground := Ground.chain }], guard := none },
  { dst := some 57, op := Op.move (Operand.tmp 13), type := 27, pos := "law.go:356", after := #[{ on := 15, ground := Ground.guard }], guard := some (15, false) },
  { dst := some 58, op := Op.binOp BinOp.eql 27 (Operand.tmp 57) (Operand.const (Value.pointer none)) 27, type := 4, pos := "law.go:356", after := #[{ on := 16, ground := Ground.data }, { on := 15, ground := Ground.guard }], guard := some (15, false) },
  { dst := some 59, op := Op.move (Operand.tmp 12), type := 24, pos := "law.go:356", after := #[{ on := 15, ground := Ground.guard }], guard := some (15, false) },
  { dst := some 60, op := Op.binOp BinOp.neq 24 (Operand.tmp 59) (Operand.const (Value.int IntKind.i64 0)) 24, type := 4, pos := "law.go:356", after := #[{ on := 18, ground := Ground.data }, { on := 15, ground := Ground.guard }], guard := some (15, false) },
  { dst := some 61, op := Op.binOp BinOp.neq 4 (Operand.tmp 58) (Operand.tmp 60) 4, type := 4, pos := "law.go:356", after := #[{ on := 17, ground := Ground.data }, { on := 19, ground := Ground.data }, { on := 15, ground := Ground.guard }], guard := some (15, false) },
  { dst := some 62, op := Op.pick (Operand.tmp 56) (Operand.const (Value.bool true)) (Operand.tmp 61), type := 4, pos := "law.go:356", after := #[{ on := 15, ground := Ground.data }, { on := 20, ground := Ground.data }], guard := none }]
def rDV6 : Array Oper := #[{ dst := some 6, op := Op.assign (Operand.const (Value.bool false)), type := 4, pos := "law.go:357", after := #[], guard := none }]
def rDV7 : Array Oper := #[{ dst := some 63, op := Op.move (Operand.tmp 9), type := 27, pos := "law.go:359", after := #[], guard := none },
  { dst := some 64, op := Op.binOp BinOp.neq 27 (Operand.tmp 63) (Operand.const (Value.pointer none)) 27, type := 4, pos := "law.go:359", after := #[{ on := 0, ground := Ground.data }], guard := none },
  { dst := some 65, op := Op.move (Operand.tmp 64), type := 4, pos := "law.go:359", after := #[{ on := 1, ground := Ground.data }], guard := none },
  { dst := some 66, op := Op.move (Operand.tmp 9), type := 27, pos := "law.go:359", after := #[{ on := 2, ground := Ground.guard }], guard := some (2, true) },
  { dst := some 67, op := Op.move (Operand.tmp 7), type := 23, pos := "law.go:359", after := #[{ on := 2, ground := Ground.guard }], guard := some (2, true) },
  { dst := some 68, op := Op.call { callee := Callee.value (Operand.func 7), args := #[Operand.tmp 66, Operand.tmp 67], argTypes := #[27, 23] }, type := 4, pos := "law.go:359", after := #[{ on := 3, ground := Ground.data }, { on := 4, ground := Ground.data }, { on := 2, ground := Ground.chain }, { on := 2, ground := Ground.guard }], guard := some (2, true) },
  { dst := some 69, op := Op.unOp UnOp.not 4 (Operand.tmp 68), type := 4, pos := "law.go:359", after := #[{ on := 5, ground := Ground.data }, { on := 2, ground := Ground.guard }], guard := some (2, true) },
  { dst := some 70, op := Op.move (Operand.tmp 69), type := 4, pos := "law.go:359", after := #[{ on := 6, ground := Ground.data }, { on := 5, ground := Ground.chain }, { on := 2, ground := Ground.guard }], guard := some (2, true) },
  { dst := some 71, op := Op.move (Operand.tmp 9), type := 27, pos := "law.go:359", after := #[{ on := 7, ground := Ground.guard }], guard := some (7, false) },
  { dst := some 72, op := Op.call { callee := Callee.value (Operand.func 9), args := #[Operand.tmp 71], argTypes := #[27] }, type := 22, pos := "law.go:359", after := #[{ on := 8, ground := Ground.data }, { on := 7, ground := Ground.chain }, { on := 7, ground := Ground.guard }], guard := some (7, false) },
  { dst := some 73, op := Op.move (Operand.tmp 2), type := 22, pos := "law.go:359", after := #[{ on := 7, ground := Ground.guard }], guard := some (7, false) },
  { dst := some 74, op := Op.call { callee := Callee.value (Operand.func 8), args := #[Operand.tmp 72, Operand.tmp 73], argTypes := #[22, 22] }, type := 4, pos := "law.go:359", after := #[{ on := 9, ground := Ground.data }, { on := 10, ground := Ground.data }, { on := 9, ground := Ground.chain }, { on := 7, ground := Ground.guard }], guard := some (7, false) },
  { dst := some 75, op := Op.unOp UnOp.not 4 (Operand.tmp 74), type := 4, pos := "law.go:359", after := #[{ on := 11, ground := Ground.data }, { on := 7, ground := Ground.guard }], guard := some (7, false) },
  { dst := some 76, op := Op.pick (Operand.tmp 70) (Operand.const (Value.bool true)) (Operand.tmp 75), type := 4, pos := "law.go:359", after := #[{ on := 7, ground := Ground.data }, { on := 12, ground := Ground.data }, { on := 2, ground := Ground.guard }], guard := some (2, true) },
  { dst := some 77, op := Op.pick (Operand.tmp 65) (Operand.tmp 76) (Operand.const (Value.bool false)), type := 4, pos := "law.go:359", after := #[{ on := 2, ground := Ground.data }, { on := 13, ground := Ground.data }], guard := none }]
def rDV8 : Array Oper := #[{ dst := some 6, op := Op.assign (Operand.const (Value.bool false)), type := 4, pos := "law.go:360", after := #[], guard := none }]
def rDV9 : Array Oper := #[{ dst := some 78, op := Op.call { callee := Callee.value (Operand.func 10), args := #[], argTypes := #[] }, type := 4, pos := "law.go:362", after := #[], guard := none },
  { dst := some 6, op := Op.assign (Operand.tmp 78), type := 4, pos := "law.go:362", after := #[{ on := 0, ground := Ground.data }, { on := 0, ground := Ground.chain }, { on := 0, ground := Ground.phase }], guard := none }]
def cDV : Code := (Code.seq (Code.region 0 rDV0 false) (Code.seq (Code.region 1 rDV1 false) (Code.seq (Code.region 2 rDV2 false) (Code.seq (Code.region 3 rDV3 false) (Code.seq (Code.region 4 rDV4 false) (Code.seq (Code.seq (Code.region 5 rDV5 false) (Code.cond (Operand.tmp 62) (Code.seq (Code.region 6 rDV6 false) Code.ret) Code.skip)) (Code.seq (Code.seq (Code.region 7 rDV7 false) (Code.cond (Operand.tmp 77) (Code.seq (Code.region 8 rDV8 false) Code.ret) Code.skip)) (Code.seq (Code.region 9 rDV9 false) Code.ret))))))))
set_option maxRecDepth 100000 in
set_option maxHeartbeats 1000000 in
theorem dm_A {pg mo : Int} {ia : Option Addr} {ic : Nat} {L : List ByteArray} (w : World) (hr : ∀ W, Same w W → Calls Try.prog 4 #[.int .i64 pg, .int .i64 mo, .slice ia L.length ic] W fun e w' => e = .returned (.tuple #[.pointer none, .int .i64 2]) ∧ Same W w') (hp : ∀ W, Same w W → Calls Try.prog 5 #[.int .i64 pg, .int .i64 mo, .slice ia L.length ic] W fun e w' => e = .returned (.tuple #[.pointer none, .int .i64 2]) ∧ Same W w') (hg : ∀ W, Same w W → Calls Try.prog 4 #[.int .i64 pg, .int .i64 mo, .slice none 0 0] W fun e w' => e = .returned (.tuple #[.pointer none, .int .i64 2]) ∧ Same W w') (hq : ∀ W, Same w W → Calls Try.prog 6 #[.int .i64 pg, .int .i64 mo] W fun e w' => e = .returned (.tuple #[.pointer none, .int .i64 2]) ∧ Same W w') :
    Calls Try.prog 3 #[.int .i64 pg, .int .i64 mo, .slice ia L.length ic] w fun e w' => e = .returned (.bool true) ∧ Same w w' := by
  refine calls_abs (c := cDV) Try.func3 (by kernel_rfl) 79 rfl (by simp) (fun a0 hsz hd ha => ?_)
  have fa0_0 := Fe.refl a0
  unfold cDV
  refine wp_seq ?_
  refine wp_region_list ?_
  unfold rDV0
  refine fa0_0.move 6 (.bool false) _ (Or.inr rfl) rfl (lb_ hsz) (wanted_none rfl) rfl (fun a0_1 fa0_1 => ?_)
  clear fa0_0
  refine wpList_nil ?_
  change Code.wp _ _ _ _ _
  refine wp_seq ?_
  refine wp_region_list ?_
  unfold rDV1
  refine fa0_1.move 16 (.int .i64 pg) _ (Or.inl rfl) rfl (lb_ hsz) (wanted_none rfl) ((fa0_1.at_ 0).trans (ha 0 _ rfl)) (fun a0_2 fa0_2 => ?_)
  clear fa0_1
  refine fa0_2.move 17 (.int .i64 mo) _ (Or.inl rfl) rfl (lb_ hsz) (wanted_none rfl) ((fa0_2.at_ 1).trans (ha 1 _ rfl)) (fun a0_3 fa0_3 => ?_)
  clear fa0_2
  refine fa0_3.move 18 (.slice ia L.length ic) _ (Or.inl rfl) rfl (lb_ hsz) (wanted_none rfl) ((fa0_3.at_ 2).trans (ha 2 _ rfl)) (fun a0_4 fa0_4 => ?_)
  clear fa0_3
  have r_a0_5 : (execOp a0_4.eval { dst := some 19, op := Op.call { callee := Callee.value (Operand.func 4), args := #[Operand.tmp 16, Operand.tmp 17, Operand.tmp 18], argTypes := #[3, 3, 22] }, type := 25, pos := "law.go:352", after := #[{ on := 0, ground := Ground.data }, { on := 1, ground := Ground.data }, { on := 2, ground := Ground.data }], guard := none }).run Try.prog (w) = .ok (.enter 4 #[.int .i64 pg, .int .i64 mo, .slice ia L.length ic]) (w) := by
    have kf : ∀ f, a0_4.eval (.func f) = .func (.func f) #[] #[] := fun _ => rfl
    have e16 := (show a0_4.eval (.tmp 16) = .int .i64 pg from (fa0_4.at_ 16))
    have e17 := (show a0_4.eval (.tmp 17) = .int .i64 mo from (fa0_4.at_ 17))
    have e18 := (show a0_4.eval (.tmp 18) = .slice ia L.length ic from (fa0_4.at_ 18))
    clear fa0_4 ha hr hp hg hq
    generalize a0_4.eval = ρ at *
    go_simp
  refine fa0_4.call 19 rfl (lb_ hsz) (wanted_none rfl) r_a0_5 (hr w (Fr.refl _ w)) (fun e W1 hR => ?_)
  obtain ⟨rfl, s1⟩ := hR
  clear r_a0_5
  refine ⟨_, rfl, fun a0_5 fa0_5 => ?_⟩
  clear fa0_4
  refine fa0_5.move 15 (.tuple #[.pointer none, .int .i64 2]) _ (Or.inl rfl) rfl (lb_ hsz) (wanted_none rfl) (fa0_5.at_ 19) (fun a0_6 fa0_6 => ?_)
  clear fa0_5
  have r_a0_7 : (execOp a0_6.eval { dst := some 20, op := Op.extract (Operand.tmp 15) 0, type := 23, pos := "law.go:352", after := #[{ on := 4, ground := Ground.data }], guard := none }).run Try.prog (W1) = .ok (.value (.pointer none)) (W1) := by
    have e15 := (show a0_6.eval (.tmp 15) = .tuple #[.pointer none, .int .i64 2] from (fa0_6.at_ 15))
    clear fa0_6 ha hr hp hg hq
    generalize a0_6.eval = ρ at *
    go_simp
  refine fa0_6.step 20 (.pointer none) rfl (lb_ hsz) (wanted_none rfl) r_a0_7 (fun a0_7 fa0_7 => ?_)
  clear r_a0_7
  clear fa0_6
  have r_a0_8 : (execOp a0_7.eval { dst := some 21, op := Op.extract (Operand.tmp 15) 1, type := 24, pos := "law.go:352", after := #[{ on := 4, ground := Ground.data }, { on := 7, ground := Ground.gcOnly Go.Departure.lateStores }], guard := none }).run Try.prog (W1) = .ok (.value (.int .i64 2)) (W1) := by
    have e15 := (show a0_7.eval (.tmp 15) = .tuple #[.pointer none, .int .i64 2] from (fa0_7.at_ 15))
    clear fa0_7 ha hr hp hg hq
    generalize a0_7.eval = ρ at *
    go_simp
  refine fa0_7.step 21 (.int .i64 2) rfl (lb_ hsz) (wanted_none rfl) r_a0_8 (fun a0_8 fa0_8 => ?_)
  clear r_a0_8
  clear fa0_7
  refine fa0_8.move 7 (.pointer none) _ (Or.inr rfl) rfl (lb_ hsz) (wanted_none rfl) (fa0_8.at_ 20) (fun a0_9 fa0_9 => ?_)
  clear fa0_8
  refine fa0_9.move 8 (.int .i64 2) _ (Or.inr rfl) rfl (lb_ hsz) (wanted_none rfl) (fa0_9.at_ 21) (fun a0_10 fa0_10 => ?_)
  clear fa0_9
  refine wpList_nil ?_
  change Code.wp _ _ _ _ _
  refine wp_seq ?_
  have t1 := s1
  refine wp_region_list ?_
  unfold rDV2
  refine fa0_10.move 23 (.int .i64 pg) _ (Or.inl rfl) rfl (lb_ hsz) (wanted_none rfl) ((fa0_10.at_ 0).trans (ha 0 _ rfl)) (fun a0_11 fa0_11 => ?_)
  clear fa0_10
  refine fa0_11.move 24 (.int .i64 mo) _ (Or.inl rfl) rfl (lb_ hsz) (wanted_none rfl) ((fa0_11.at_ 1).trans (ha 1 _ rfl)) (fun a0_12 fa0_12 => ?_)
  clear fa0_11
  refine fa0_12.move 25 (.slice ia L.length ic) _ (Or.inl rfl) rfl (lb_ hsz) (wanted_none rfl) ((fa0_12.at_ 2).trans (ha 2 _ rfl)) (fun a0_13 fa0_13 => ?_)
  clear fa0_12
  have r_a0_14 : (execOp a0_13.eval { dst := some 26, op := Op.call { callee := Callee.value (Operand.func 5), args := #[Operand.tmp 23, Operand.tmp 24, Operand.tmp 25], argTypes := #[3, 3, 22] }, type := 28, pos := "law.go:353", after := #[{ on := 0, ground := Ground.data }, { on := 1, ground := Ground.data }, { on := 2, ground := Ground.data }], guard := none }).run Try.prog (W1) = .ok (.enter 5 #[.int .i64 pg, .int .i64 mo, .slice ia L.length ic]) (W1) := by
    have kf : ∀ f, a0_13.eval (.func f) = .func (.func f) #[] #[] := fun _ => rfl
    have e23 := (show a0_13.eval (.tmp 23) = .int .i64 pg from (fa0_13.at_ 23))
    have e24 := (show a0_13.eval (.tmp 24) = .int .i64 mo from (fa0_13.at_ 24))
    have e25 := (show a0_13.eval (.tmp 25) = .slice ia L.length ic from (fa0_13.at_ 25))
    clear fa0_13 ha hr hp hg hq
    generalize a0_13.eval = ρ at *
    go_simp
  refine fa0_13.call 26 rfl (lb_ hsz) (wanted_none rfl) r_a0_14 (hp W1 t1) (fun e W2 hR => ?_)
  obtain ⟨rfl, s2⟩ := hR
  clear r_a0_14
  refine ⟨_, rfl, fun a0_14 fa0_14 => ?_⟩
  clear fa0_13
  refine fa0_14.move 22 (.tuple #[.pointer none, .int .i64 2]) _ (Or.inl rfl) rfl (lb_ hsz) (wanted_none rfl) (fa0_14.at_ 26) (fun a0_15 fa0_15 => ?_)
  clear fa0_14
  have r_a0_16 : (execOp a0_15.eval { dst := some 27, op := Op.extract (Operand.tmp 22) 0, type := 27, pos := "law.go:353", after := #[{ on := 4, ground := Ground.data }], guard := none }).run Try.prog (W2) = .ok (.value (.pointer none)) (W2) := by
    have e22 := (show a0_15.eval (.tmp 22) = .tuple #[.pointer none, .int .i64 2] from (fa0_15.at_ 22))
    clear fa0_15 ha hr hp hg hq
    generalize a0_15.eval = ρ at *
    go_simp
  refine fa0_15.step 27 (.pointer none) rfl (lb_ hsz) (wanted_none rfl) r_a0_16 (fun a0_16 fa0_16 => ?_)
  clear r_a0_16
  clear fa0_15
  have r_a0_17 : (execOp a0_16.eval { dst := some 28, op := Op.extract (Operand.tmp 22) 1, type := 24, pos := "law.go:353", after := #[{ on := 4, ground := Ground.data }, { on := 7, ground := Ground.gcOnly Go.Departure.lateStores }], guard := none }).run Try.prog (W2) = .ok (.value (.int .i64 2)) (W2) := by
    have e22 := (show a0_16.eval (.tmp 22) = .tuple #[.pointer none, .int .i64 2] from (fa0_16.at_ 22))
    clear fa0_16 ha hr hp hg hq
    generalize a0_16.eval = ρ at *
    go_simp
  refine fa0_16.step 28 (.int .i64 2) rfl (lb_ hsz) (wanted_none rfl) r_a0_17 (fun a0_17 fa0_17 => ?_)
  clear r_a0_17
  clear fa0_16
  refine fa0_17.move 9 (.pointer none) _ (Or.inr rfl) rfl (lb_ hsz) (wanted_none rfl) (fa0_17.at_ 27) (fun a0_18 fa0_18 => ?_)
  clear fa0_17
  refine fa0_18.move 10 (.int .i64 2) _ (Or.inr rfl) rfl (lb_ hsz) (wanted_none rfl) (fa0_18.at_ 28) (fun a0_19 fa0_19 => ?_)
  clear fa0_18
  refine wpList_nil ?_
  change Code.wp _ _ _ _ _
  refine wp_seq ?_
  have t2 := t1.trans s2
  refine wp_region_list ?_
  unfold rDV3
  refine fa0_19.move 30 (.int .i64 pg) _ (Or.inl rfl) rfl (lb_ hsz) (wanted_none rfl) ((fa0_19.at_ 0).trans (ha 0 _ rfl)) (fun a0_20 fa0_20 => ?_)
  clear fa0_19
  refine fa0_20.move 31 (.int .i64 mo) _ (Or.inl rfl) rfl (lb_ hsz) (wanted_none rfl) ((fa0_20.at_ 1).trans (ha 1 _ rfl)) (fun a0_21 fa0_21 => ?_)
  clear fa0_20
  have r_a0_22 : (execOp a0_21.eval { dst := some 32, op := Op.call { callee := Callee.value (Operand.func 4), args := #[Operand.tmp 30, Operand.tmp 31, Operand.const (Value.slice none 0 0)], argTypes := #[3, 3, 22] }, type := 25, pos := "law.go:354", after := #[{ on := 0, ground := Ground.data }, { on := 1, ground := Ground.data }], guard := none }).run Try.prog (W2) = .ok (.enter 4 #[.int .i64 pg, .int .i64 mo, Value.slice none 0 0]) (W2) := by
    have kc : ∀ v, a0_21.eval (.const v) = v := fun _ => rfl
    have kf : ∀ f, a0_21.eval (.func f) = .func (.func f) #[] #[] := fun _ => rfl
    have e30 := (show a0_21.eval (.tmp 30) = .int .i64 pg from (fa0_21.at_ 30))
    have e31 := (show a0_21.eval (.tmp 31) = .int .i64 mo from (fa0_21.at_ 31))
    clear fa0_21 ha hr hp hg hq
    generalize a0_21.eval = ρ at *
    go_simp
  refine fa0_21.call 32 rfl (lb_ hsz) (wanted_none rfl) r_a0_22 (hg W2 t2) (fun e W3 hR => ?_)
  obtain ⟨rfl, s3⟩ := hR
  clear r_a0_22
  refine ⟨_, rfl, fun a0_22 fa0_22 => ?_⟩
  clear fa0_21
  refine fa0_22.move 29 (.tuple #[.pointer none, .int .i64 2]) _ (Or.inl rfl) rfl (lb_ hsz) (wanted_none rfl) (fa0_22.at_ 32) (fun a0_23 fa0_23 => ?_)
  clear fa0_22
  have r_a0_24 : (execOp a0_23.eval { dst := some 33, op := Op.extract (Operand.tmp 29) 0, type := 23, pos := "law.go:354", after := #[{ on := 3, ground := Ground.data }], guard := none }).run Try.prog (W3) = .ok (.value (.pointer none)) (W3) := by
    have e29 := (show a0_23.eval (.tmp 29) = .tuple #[.pointer none, .int .i64 2] from (fa0_23.at_ 29))
    clear fa0_23 ha hr hp hg hq
    generalize a0_23.eval = ρ at *
    go_simp
  refine fa0_23.step 33 (.pointer none) rfl (lb_ hsz) (wanted_none rfl) r_a0_24 (fun a0_24 fa0_24 => ?_)
  clear r_a0_24
  clear fa0_23
  have r_a0_25 : (execOp a0_24.eval { dst := some 34, op := Op.extract (Operand.tmp 29) 1, type := 24, pos := "law.go:354", after := #[{ on := 3, ground := Ground.data }, { on := 6, ground := Ground.gcOnly Go.Departure.lateStores }], guard := none }).run Try.prog (W3) = .ok (.value (.int .i64 2)) (W3) := by
    have e29 := (show a0_24.eval (.tmp 29) = .tuple #[.pointer none, .int .i64 2] from (fa0_24.at_ 29))
    clear fa0_24 ha hr hp hg hq
    generalize a0_24.eval = ρ at *
    go_simp
  refine fa0_24.step 34 (.int .i64 2) rfl (lb_ hsz) (wanted_none rfl) r_a0_25 (fun a0_25 fa0_25 => ?_)
  clear r_a0_25
  clear fa0_24
  refine fa0_25.move 11 (.pointer none) _ (Or.inr rfl) rfl (lb_ hsz) (wanted_none rfl) (fa0_25.at_ 33) (fun a0_26 fa0_26 => ?_)
  clear fa0_25
  refine fa0_26.move 12 (.int .i64 2) _ (Or.inr rfl) rfl (lb_ hsz) (wanted_none rfl) (fa0_26.at_ 34) (fun a0_27 fa0_27 => ?_)
  clear fa0_26
  refine wpList_nil ?_
  change Code.wp _ _ _ _ _
  refine wp_seq ?_
  have t3 := t2.trans s3
  refine wp_region_list ?_
  unfold rDV4
  refine fa0_27.move 36 (.int .i64 pg) _ (Or.inl rfl) rfl (lb_ hsz) (wanted_none rfl) ((fa0_27.at_ 0).trans (ha 0 _ rfl)) (fun a0_28 fa0_28 => ?_)
  clear fa0_27
  refine fa0_28.move 37 (.int .i64 mo) _ (Or.inl rfl) rfl (lb_ hsz) (wanted_none rfl) ((fa0_28.at_ 1).trans (ha 1 _ rfl)) (fun a0_29 fa0_29 => ?_)
  clear fa0_28
  have r_a0_30 : (execOp a0_29.eval { dst := some 38, op := Op.call { callee := Callee.value (Operand.func 6), args := #[Operand.tmp 36, Operand.tmp 37], argTypes := #[3, 3] }, type := 28, pos := "law.go:355", after := #[{ on := 0, ground := Ground.data }, { on := 1, ground := Ground.data }], guard := none }).run Try.prog (W3) = .ok (.enter 6 #[.int .i64 pg, .int .i64 mo]) (W3) := by
    have kf : ∀ f, a0_29.eval (.func f) = .func (.func f) #[] #[] := fun _ => rfl
    have e36 := (show a0_29.eval (.tmp 36) = .int .i64 pg from (fa0_29.at_ 36))
    have e37 := (show a0_29.eval (.tmp 37) = .int .i64 mo from (fa0_29.at_ 37))
    clear fa0_29 ha hr hp hg hq
    generalize a0_29.eval = ρ at *
    go_simp
  refine fa0_29.call 38 rfl (lb_ hsz) (wanted_none rfl) r_a0_30 (hq W3 t3) (fun e W4 hR => ?_)
  obtain ⟨rfl, s4⟩ := hR
  clear r_a0_30
  refine ⟨_, rfl, fun a0_30 fa0_30 => ?_⟩
  clear fa0_29
  refine fa0_30.move 35 (.tuple #[.pointer none, .int .i64 2]) _ (Or.inl rfl) rfl (lb_ hsz) (wanted_none rfl) (fa0_30.at_ 38) (fun a0_31 fa0_31 => ?_)
  clear fa0_30
  have r_a0_32 : (execOp a0_31.eval { dst := some 39, op := Op.extract (Operand.tmp 35) 0, type := 27, pos := "law.go:355", after := #[{ on := 3, ground := Ground.data }], guard := none }).run Try.prog (W4) = .ok (.value (.pointer none)) (W4) := by
    have e35 := (show a0_31.eval (.tmp 35) = .tuple #[.pointer none, .int .i64 2] from (fa0_31.at_ 35))
    clear fa0_31 ha hr hp hg hq
    generalize a0_31.eval = ρ at *
    go_simp
  refine fa0_31.step 39 (.pointer none) rfl (lb_ hsz) (wanted_none rfl) r_a0_32 (fun a0_32 fa0_32 => ?_)
  clear r_a0_32
  clear fa0_31
  have r_a0_33 : (execOp a0_32.eval { dst := some 40, op := Op.extract (Operand.tmp 35) 1, type := 24, pos := "law.go:355", after := #[{ on := 3, ground := Ground.data }, { on := 6, ground := Ground.gcOnly Go.Departure.lateStores }], guard := none }).run Try.prog (W4) = .ok (.value (.int .i64 2)) (W4) := by
    have e35 := (show a0_32.eval (.tmp 35) = .tuple #[.pointer none, .int .i64 2] from (fa0_32.at_ 35))
    clear fa0_32 ha hr hp hg hq
    generalize a0_32.eval = ρ at *
    go_simp
  refine fa0_32.step 40 (.int .i64 2) rfl (lb_ hsz) (wanted_none rfl) r_a0_33 (fun a0_33 fa0_33 => ?_)
  clear r_a0_33
  clear fa0_32
  refine fa0_33.move 13 (.pointer none) _ (Or.inr rfl) rfl (lb_ hsz) (wanted_none rfl) (fa0_33.at_ 39) (fun a0_34 fa0_34 => ?_)
  clear fa0_33
  refine fa0_34.move 14 (.int .i64 2) _ (Or.inr rfl) rfl (lb_ hsz) (wanted_none rfl) (fa0_34.at_ 40) (fun a0_35 fa0_35 => ?_)
  clear fa0_34
  refine wpList_nil ?_
  change Code.wp _ _ _ _ _
  refine wp_seq (wp_seq ?_)
  have t4 := t3.trans s4
  refine wp_region_list ?_
  unfold rDV5
  refine fa0_35.move 41 (.int .i64 2) _ (Or.inl rfl) rfl (lb_ hsz) (wanted_none rfl) (fa0_35.at_ 10) (fun a0_36 fa0_36 => ?_)
  clear fa0_35
  refine fa0_36.move 42 (.int .i64 2) _ (Or.inl rfl) rfl (lb_ hsz) (wanted_none rfl) (fa0_36.at_ 8) (fun a0_37 fa0_37 => ?_)
  clear fa0_36
  have r_a0_38 : (execOp a0_37.eval { dst := some 43, op := Op.binOp BinOp.neq 24 (Operand.tmp 41) (Operand.tmp 42) 24, type := 4, pos := "law.go:356", after := #[{ on := 0, ground := Ground.data }, { on := 1, ground := Ground.data }], guard := none }).run Try.prog (W4) = .ok (.value (.bool false)) (W4) := by
    have e41 := (show a0_37.eval (.tmp 41) = .int .i64 2 from (fa0_37.at_ 41))
    have e42 := (show a0_37.eval (.tmp 42) = .int .i64 2 from (fa0_37.at_ 42))
    clear fa0_37 ha hr hp hg hq
    generalize a0_37.eval = ρ at *
    go_simp
  refine fa0_37.step 43 (.bool false) rfl (lb_ hsz) (wanted_none rfl) r_a0_38 (fun a0_38 fa0_38 => ?_)
  clear r_a0_38
  clear fa0_37
  refine fa0_38.move 44 (.bool false) _ (Or.inl rfl) rfl (lb_ hsz) (wanted_none rfl) (fa0_38.at_ 43) (fun a0_39 fa0_39 => ?_)
  clear fa0_38
  refine fa0_39.move 45 (.pointer none) _ (Or.inl rfl) rfl (lb_ hsz) ((wanted_at (t := 44) (c := false) (b := false) rfl rfl rfl (lb_ (fa0_39.size.trans hsz)) (fa0_39.at_ 44)).trans (by rfl)) (fa0_39.at_ 9) (fun a0_40 fa0_40 => ?_)
  clear fa0_39
  have r_a0_41 : (execOp a0_40.eval { dst := some 46, op := Op.binOp BinOp.eql 27 (Operand.tmp 45) (Operand.const (Value.pointer none)) 27, type := 4, pos := "law.go:356", after := #[{ on := 4, ground := Ground.data }, { on := 3, ground := Ground.guard }], guard := some (3, false) }).run Try.prog (W4) = .ok (.value (.bool true)) (W4) := by
    have kc : ∀ v, a0_40.eval (.const v) = v := fun _ => rfl
    have e45 := (show a0_40.eval (.tmp 45) = .pointer none from (fa0_40.at_ 45))
    clear fa0_40 ha hr hp hg hq
    generalize a0_40.eval = ρ at *
    go_simp
  refine fa0_40.step 46 (.bool true) rfl (lb_ hsz) ((wanted_at (t := 44) (c := false) (b := false) rfl rfl rfl (lb_ (fa0_40.size.trans hsz)) (fa0_40.at_ 44)).trans (by rfl)) r_a0_41 (fun a0_41 fa0_41 => ?_)
  clear r_a0_41
  clear fa0_40
  refine fa0_41.move 47 (.pointer none) _ (Or.inl rfl) rfl (lb_ hsz) ((wanted_at (t := 44) (c := false) (b := false) rfl rfl rfl (lb_ (fa0_41.size.trans hsz)) (fa0_41.at_ 44)).trans (by rfl)) (fa0_41.at_ 7) (fun a0_42 fa0_42 => ?_)
  clear fa0_41
  have r_a0_43 : (execOp a0_42.eval { dst := some 48, op := Op.binOp BinOp.eql 23 (Operand.tmp 47) (Operand.const (Value.pointer none)) 23, type := 4, pos := "law.go:356", after := #[{ on := 6, ground := Ground.data }, { on := 3, ground := Ground.guard }], guard := some (3, false) }).run Try.prog (W4) = .ok (.value (.bool true)) (W4) := by
    have kc : ∀ v, a0_42.eval (.const v) = v := fun _ => rfl
    have e47 := (show a0_42.eval (.tmp 47) = .pointer none from (fa0_42.at_ 47))
    clear fa0_42 ha hr hp hg hq
    generalize a0_42.eval = ρ at *
    go_simp
  refine fa0_42.step 48 (.bool true) rfl (lb_ hsz) ((wanted_at (t := 44) (c := false) (b := false) rfl rfl rfl (lb_ (fa0_42.size.trans hsz)) (fa0_42.at_ 44)).trans (by rfl)) r_a0_43 (fun a0_43 fa0_43 => ?_)
  clear r_a0_43
  clear fa0_42
  have r_a0_44 : (execOp a0_43.eval { dst := some 49, op := Op.binOp BinOp.neq 4 (Operand.tmp 46) (Operand.tmp 48) 4, type := 4, pos := "law.go:356", after := #[{ on := 5, ground := Ground.data }, { on := 7, ground := Ground.data }, { on := 3, ground := Ground.guard }], guard := some (3, false) }).run Try.prog (W4) = .ok (.value (.bool false)) (W4) := by
    have e46 := (show a0_43.eval (.tmp 46) = .bool true from (fa0_43.at_ 46))
    have e48 := (show a0_43.eval (.tmp 48) = .bool true from (fa0_43.at_ 48))
    clear fa0_43 ha hr hp hg hq
    generalize a0_43.eval = ρ at *
    go_simp
  refine fa0_43.step 49 (.bool false) rfl (lb_ hsz) ((wanted_at (t := 44) (c := false) (b := false) rfl rfl rfl (lb_ (fa0_43.size.trans hsz)) (fa0_43.at_ 44)).trans (by rfl)) r_a0_44 (fun a0_44 fa0_44 => ?_)
  clear r_a0_44
  clear fa0_43
  have r_a0_45 : (execOp a0_44.eval { dst := some 50, op := Op.pick (Operand.tmp 44) (Operand.const (Value.bool true)) (Operand.tmp 49), type := 4, pos := "law.go:356", after := #[{ on := 3, ground := Ground.data }, { on := 8, ground := Ground.data }], guard := none }).run Try.prog (W4) = .ok (.value (.bool false)) (W4) := by
    have kc : ∀ v, a0_44.eval (.const v) = v := fun _ => rfl
    have e44 := (show a0_44.eval (.tmp 44) = .bool false from (fa0_44.at_ 44))
    have e49 := (show a0_44.eval (.tmp 49) = .bool false from (fa0_44.at_ 49))
    clear fa0_44 ha hr hp hg hq
    generalize a0_44.eval = ρ at *
    go_simp
  refine fa0_44.step 50 (.bool false) rfl (lb_ hsz) (wanted_none rfl) r_a0_45 (fun a0_45 fa0_45 => ?_)
  clear r_a0_45
  clear fa0_44
  refine fa0_45.move 51 (.bool false) _ (Or.inl rfl) rfl (lb_ hsz) (wanted_none rfl) (fa0_45.at_ 50) (fun a0_46 fa0_46 => ?_)
  clear fa0_45
  refine fa0_46.move 52 (.int .i64 2) _ (Or.inl rfl) rfl (lb_ hsz) ((wanted_at (t := 51) (c := false) (b := false) rfl rfl rfl (lb_ (fa0_46.size.trans hsz)) (fa0_46.at_ 51)).trans (by rfl)) (fa0_46.at_ 14) (fun a0_47 fa0_47 => ?_)
  clear fa0_46
  refine fa0_47.move 53 (.int .i64 2) _ (Or.inl rfl) rfl (lb_ hsz) ((wanted_at (t := 51) (c := false) (b := false) rfl rfl rfl (lb_ (fa0_47.size.trans hsz)) (fa0_47.at_ 51)).trans (by rfl)) (fa0_47.at_ 12) (fun a0_48 fa0_48 => ?_)
  clear fa0_47
  have r_a0_49 : (execOp a0_48.eval { dst := some 54, op := Op.binOp BinOp.neq 24 (Operand.tmp 52) (Operand.tmp 53) 24, type := 4, pos := "law.go:356", after := #[{ on := 11, ground := Ground.data }, { on := 12, ground := Ground.data }, { on := 10, ground := Ground.guard }], guard := some (10, false) }).run Try.prog (W4) = .ok (.value (.bool false)) (W4) := by
    have e52 := (show a0_48.eval (.tmp 52) = .int .i64 2 from (fa0_48.at_ 52))
    have e53 := (show a0_48.eval (.tmp 53) = .int .i64 2 from (fa0_48.at_ 53))
    clear fa0_48 ha hr hp hg hq
    generalize a0_48.eval = ρ at *
    go_simp
  refine fa0_48.step 54 (.bool false) rfl (lb_ hsz) ((wanted_at (t := 51) (c := false) (b := false) rfl rfl rfl (lb_ (fa0_48.size.trans hsz)) (fa0_48.at_ 51)).trans (by rfl)) r_a0_49 (fun a0_49 fa0_49 => ?_)
  clear r_a0_49
  clear fa0_48
  have r_a0_50 : (execOp a0_49.eval { dst := some 55, op := Op.pick (Operand.tmp 51) (Operand.const (Value.bool true)) (Operand.tmp 54), type := 4, pos := "law.go:356", after := #[{ on := 10, ground := Ground.data }, { on := 13, ground := Ground.data }], guard := none }).run Try.prog (W4) = .ok (.value (.bool false)) (W4) := by
    have kc : ∀ v, a0_49.eval (.const v) = v := fun _ => rfl
    have e51 := (show a0_49.eval (.tmp 51) = .bool false from (fa0_49.at_ 51))
    have e54 := (show a0_49.eval (.tmp 54) = .bool false from (fa0_49.at_ 54))
    clear fa0_49 ha hr hp hg hq
    generalize a0_49.eval = ρ at *
    go_simp
  refine fa0_49.step 55 (.bool false) rfl (lb_ hsz) (wanted_none rfl) r_a0_50 (fun a0_50 fa0_50 => ?_)
  clear r_a0_50
  clear fa0_49
  refine fa0_50.move 56 (.bool false) _ (Or.inl rfl) rfl (lb_ hsz) (wanted_none rfl) (fa0_50.at_ 55) (fun a0_51 fa0_51 => ?_)
  clear fa0_50
  refine fa0_51.move 57 (.pointer none) _ (Or.inl rfl) rfl (lb_ hsz) ((wanted_at (t := 56) (c := false) (b := false) rfl rfl rfl (lb_ (fa0_51.size.trans hsz)) (fa0_51.at_ 56)).trans (by rfl)) (fa0_51.at_ 13) (fun a0_52 fa0_52 => ?_)
  clear fa0_51
  have r_a0_53 : (execOp a0_52.eval { dst := some 58, op := Op.binOp BinOp.eql 27 (Operand.tmp 57) (Operand.const (Value.pointer none)) 27, type := 4, pos := "law.go:356", after := #[{ on := 16, ground := Ground.data }, { on := 15, ground := Ground.guard }], guard := some (15, false) }).run Try.prog (W4) = .ok (.value (.bool true)) (W4) := by
    have kc : ∀ v, a0_52.eval (.const v) = v := fun _ => rfl
    have e57 := (show a0_52.eval (.tmp 57) = .pointer none from (fa0_52.at_ 57))
    clear fa0_52 ha hr hp hg hq
    generalize a0_52.eval = ρ at *
    go_simp
  refine fa0_52.step 58 (.bool true) rfl (lb_ hsz) ((wanted_at (t := 56) (c := false) (b := false) rfl rfl rfl (lb_ (fa0_52.size.trans hsz)) (fa0_52.at_ 56)).trans (by rfl)) r_a0_53 (fun a0_53 fa0_53 => ?_)
  clear r_a0_53
  clear fa0_52
  refine fa0_53.move 59 (.int .i64 2) _ (Or.inl rfl) rfl (lb_ hsz) ((wanted_at (t := 56) (c := false) (b := false) rfl rfl rfl (lb_ (fa0_53.size.trans hsz)) (fa0_53.at_ 56)).trans (by rfl)) (fa0_53.at_ 12) (fun a0_54 fa0_54 => ?_)
  clear fa0_53
  have r_a0_55 : (execOp a0_54.eval { dst := some 60, op := Op.binOp BinOp.neq 24 (Operand.tmp 59) (Operand.const (Value.int IntKind.i64 0)) 24, type := 4, pos := "law.go:356", after := #[{ on := 18, ground := Ground.data }, { on := 15, ground := Ground.guard }], guard := some (15, false) }).run Try.prog (W4) = .ok (.value (.bool true)) (W4) := by
    have kc : ∀ v, a0_54.eval (.const v) = v := fun _ => rfl
    have e59 := (show a0_54.eval (.tmp 59) = .int .i64 2 from (fa0_54.at_ 59))
    clear fa0_54 ha hr hp hg hq
    generalize a0_54.eval = ρ at *
    go_simp
  refine fa0_54.step 60 (.bool true) rfl (lb_ hsz) ((wanted_at (t := 56) (c := false) (b := false) rfl rfl rfl (lb_ (fa0_54.size.trans hsz)) (fa0_54.at_ 56)).trans (by rfl)) r_a0_55 (fun a0_55 fa0_55 => ?_)
  clear r_a0_55
  clear fa0_54
  have r_a0_56 : (execOp a0_55.eval { dst := some 61, op := Op.binOp BinOp.neq 4 (Operand.tmp 58) (Operand.tmp 60) 4, type := 4, pos := "law.go:356", after := #[{ on := 17, ground := Ground.data }, { on := 19, ground := Ground.data }, { on := 15, ground := Ground.guard }], guard := some (15, false) }).run Try.prog (W4) = .ok (.value (.bool false)) (W4) := by
    have e58 := (show a0_55.eval (.tmp 58) = .bool true from (fa0_55.at_ 58))
    have e60 := (show a0_55.eval (.tmp 60) = .bool true from (fa0_55.at_ 60))
    clear fa0_55 ha hr hp hg hq
    generalize a0_55.eval = ρ at *
    go_simp
  refine fa0_55.step 61 (.bool false) rfl (lb_ hsz) ((wanted_at (t := 56) (c := false) (b := false) rfl rfl rfl (lb_ (fa0_55.size.trans hsz)) (fa0_55.at_ 56)).trans (by rfl)) r_a0_56 (fun a0_56 fa0_56 => ?_)
  clear r_a0_56
  clear fa0_55
  have r_a0_57 : (execOp a0_56.eval { dst := some 62, op := Op.pick (Operand.tmp 56) (Operand.const (Value.bool true)) (Operand.tmp 61), type := 4, pos := "law.go:356", after := #[{ on := 15, ground := Ground.data }, { on := 20, ground := Ground.data }], guard := none }).run Try.prog (W4) = .ok (.value (.bool false)) (W4) := by
    have kc : ∀ v, a0_56.eval (.const v) = v := fun _ => rfl
    have e56 := (show a0_56.eval (.tmp 56) = .bool false from (fa0_56.at_ 56))
    have e61 := (show a0_56.eval (.tmp 61) = .bool false from (fa0_56.at_ 61))
    clear fa0_56 ha hr hp hg hq
    generalize a0_56.eval = ρ at *
    go_simp
  refine fa0_56.step 62 (.bool false) rfl (lb_ hsz) (wanted_none rfl) r_a0_57 (fun a0_57 fa0_57 => ?_)
  clear r_a0_57
  clear fa0_56
  refine wpList_nil ?_
  change Code.wp _ _ _ _ _
  refine wp_cond_false (show a0_57.eval (.tmp 62) = .bool false from (fa0_57.at_ 62)) (wp_skip ?_)
  change Code.wp _ _ _ _ _
  refine wp_seq (wp_seq ?_)
  refine wp_region_list ?_
  unfold rDV7
  refine fa0_57.move 63 (.pointer none) _ (Or.inl rfl) rfl (lb_ hsz) (wanted_none rfl) (fa0_57.at_ 9) (fun a0_58 fa0_58 => ?_)
  clear fa0_57
  have r_a0_59 : (execOp a0_58.eval { dst := some 64, op := Op.binOp BinOp.neq 27 (Operand.tmp 63) (Operand.const (Value.pointer none)) 27, type := 4, pos := "law.go:359", after := #[{ on := 0, ground := Ground.data }], guard := none }).run Try.prog (W4) = .ok (.value (.bool false)) (W4) := by
    have kc : ∀ v, a0_58.eval (.const v) = v := fun _ => rfl
    have e63 := (show a0_58.eval (.tmp 63) = .pointer none from (fa0_58.at_ 63))
    clear fa0_58 ha hr hp hg hq
    generalize a0_58.eval = ρ at *
    go_simp
  refine fa0_58.step 64 (.bool false) rfl (lb_ hsz) (wanted_none rfl) r_a0_59 (fun a0_59 fa0_59 => ?_)
  clear r_a0_59
  clear fa0_58
  refine fa0_59.move 65 (.bool false) _ (Or.inl rfl) rfl (lb_ hsz) (wanted_none rfl) (fa0_59.at_ 64) (fun a0_60 fa0_60 => ?_)
  clear fa0_59
  refine fa0_60.skip 66 rfl (lb_ hsz) ((wanted_at (t := 65) (c := false) (b := true) rfl rfl rfl (lb_ (fa0_60.size.trans hsz)) (fa0_60.at_ 65)).trans (by rfl)) (fun a0_61 fa0_61 => ?_)
  clear fa0_60
  refine fa0_61.skip 67 rfl (lb_ hsz) ((wanted_at (t := 65) (c := false) (b := true) rfl rfl rfl (lb_ (fa0_61.size.trans hsz)) (fa0_61.at_ 65)).trans (by rfl)) (fun a0_62 fa0_62 => ?_)
  clear fa0_61
  refine fa0_62.skip 68 rfl (lb_ hsz) ((wanted_at (t := 65) (c := false) (b := true) rfl rfl rfl (lb_ (fa0_62.size.trans hsz)) (fa0_62.at_ 65)).trans (by rfl)) (fun a0_63 fa0_63 => ?_)
  clear fa0_62
  refine fa0_63.skip 69 rfl (lb_ hsz) ((wanted_at (t := 65) (c := false) (b := true) rfl rfl rfl (lb_ (fa0_63.size.trans hsz)) (fa0_63.at_ 65)).trans (by rfl)) (fun a0_64 fa0_64 => ?_)
  clear fa0_63
  refine fa0_64.skip 70 rfl (lb_ hsz) ((wanted_at (t := 65) (c := false) (b := true) rfl rfl rfl (lb_ (fa0_64.size.trans hsz)) (fa0_64.at_ 65)).trans (by rfl)) (fun a0_65 fa0_65 => ?_)
  clear fa0_64
  refine fa0_65.skip 71 rfl (lb_ hsz) (wanted_undef (t := 70) rfl rfl rfl (lb_ (fa0_65.size.trans hsz)) (fa0_65.at_ 70)) (fun a0_66 fa0_66 => ?_)
  clear fa0_65
  refine fa0_66.skip 72 rfl (lb_ hsz) (wanted_undef (t := 70) rfl rfl rfl (lb_ (fa0_66.size.trans hsz)) (fa0_66.at_ 70)) (fun a0_67 fa0_67 => ?_)
  clear fa0_66
  refine fa0_67.skip 73 rfl (lb_ hsz) (wanted_undef (t := 70) rfl rfl rfl (lb_ (fa0_67.size.trans hsz)) (fa0_67.at_ 70)) (fun a0_68 fa0_68 => ?_)
  clear fa0_67
  refine fa0_68.skip 74 rfl (lb_ hsz) (wanted_undef (t := 70) rfl rfl rfl (lb_ (fa0_68.size.trans hsz)) (fa0_68.at_ 70)) (fun a0_69 fa0_69 => ?_)
  clear fa0_68
  refine fa0_69.skip 75 rfl (lb_ hsz) (wanted_undef (t := 70) rfl rfl rfl (lb_ (fa0_69.size.trans hsz)) (fa0_69.at_ 70)) (fun a0_70 fa0_70 => ?_)
  clear fa0_69
  refine fa0_70.skip 76 rfl (lb_ hsz) ((wanted_at (t := 65) (c := false) (b := true) rfl rfl rfl (lb_ (fa0_70.size.trans hsz)) (fa0_70.at_ 65)).trans (by rfl)) (fun a0_71 fa0_71 => ?_)
  clear fa0_70
  have r_a0_72 : (execOp a0_71.eval { dst := some 77, op := Op.pick (Operand.tmp 65) (Operand.tmp 76) (Operand.const (Value.bool false)), type := 4, pos := "law.go:359", after := #[{ on := 2, ground := Ground.data }, { on := 13, ground := Ground.data }], guard := none }).run Try.prog (W4) = .ok (.value (.bool false)) (W4) := by
    have kc : ∀ v, a0_71.eval (.const v) = v := fun _ => rfl
    have e65 := (show a0_71.eval (.tmp 65) = .bool false from (fa0_71.at_ 65))
    have e76 := (show a0_71.eval (.tmp 76) = undef from (fa0_71.at_ 76))
    clear fa0_71 ha hr hp hg hq
    generalize a0_71.eval = ρ at *
    go_simp
  refine fa0_71.step 77 (.bool false) rfl (lb_ hsz) (wanted_none rfl) r_a0_72 (fun a0_72 fa0_72 => ?_)
  clear r_a0_72
  clear fa0_71
  refine wpList_nil ?_
  change Code.wp _ _ _ _ _
  refine wp_cond_false (show a0_72.eval (.tmp 77) = .bool false from (fa0_72.at_ 77)) (wp_skip ?_)
  change Code.wp _ _ _ _ _
  refine wp_seq ?_
  refine wp_region_list ?_
  unfold rDV9
  have r_a0_73 : (execOp a0_72.eval { dst := some 78, op := Op.call { callee := Callee.value (Operand.func 10), args := #[], argTypes := #[] }, type := 4, pos := "law.go:362", after := #[], guard := none }).run Try.prog (W4) = .ok (.enter 10 #[]) (W4) := by
    have kf : ∀ f, a0_72.eval (.func f) = .func (.func f) #[] #[] := fun _ => rfl
    clear fa0_72 ha hr hp hg hq
    generalize a0_72.eval = ρ at *
    go_simp
  refine fa0_72.call 78 rfl (lb_ hsz) (wanted_none rfl) r_a0_73 (lives_calls W4) (fun e W8 hR => ?_)
  obtain ⟨rfl, s8⟩ := hR
  clear r_a0_73
  refine ⟨_, rfl, fun a0_73 fa0_73 => ?_⟩
  clear fa0_72
  refine fa0_73.move 6 (.bool true) _ (Or.inr rfl) rfl (lb_ hsz) (wanted_none rfl) (fa0_73.at_ 78) (fun a0_74 fa0_74 => ?_)
  clear fa0_73
  refine wpList_nil ?_
  change Code.wp _ _ _ _ _
  refine wp_ret ?_
  exact ret_abs rfl (fa0_74.defers.trans hd) (show a0_74.eval (.tmp 6) = .bool true from (fa0_74.at_ 6)) ⟨rfl, t4.trans s8⟩
set_option maxRecDepth 100000 in
set_option maxHeartbeats 1000000 in
theorem dm_B {pg mo : Int} {ia : Option Addr} {ic : Nat} {L : List ByteArray} (w : World) (hr : ∀ W, Same w W → Calls Try.prog 4 #[.int .i64 pg, .int .i64 mo, .slice ia L.length ic] W fun e w' => e = .returned (.tuple #[.pointer none, .int .i64 42]) ∧ Same W w') (hp : ∀ W, Same w W → Calls Try.prog 5 #[.int .i64 pg, .int .i64 mo, .slice ia L.length ic] W fun e w' => e = .returned (.tuple #[.pointer none, .int .i64 42]) ∧ Same W w') (hg : ∀ W, Same w W → Calls Try.prog 4 #[.int .i64 pg, .int .i64 mo, .slice none 0 0] W fun e w' => ∃ b, e = .returned (.tuple #[.pointer (some ⟨b, 0, none⟩), .int .i64 0]) ∧ Same W w') (hq : ∀ W, Same w W → Calls Try.prog 6 #[.int .i64 pg, .int .i64 mo] W fun e w' => ∃ b, e = .returned (.tuple #[.pointer (some ⟨b, 0, none⟩), .int .i64 0]) ∧ Same W w') :
    Calls Try.prog 3 #[.int .i64 pg, .int .i64 mo, .slice ia L.length ic] w fun e w' => e = .returned (.bool true) ∧ Same w w' := by
  refine calls_abs (c := cDV) Try.func3 (by kernel_rfl) 79 rfl (by simp) (fun a0 hsz hd ha => ?_)
  have fa0_0 := Fe.refl a0
  unfold cDV
  refine wp_seq ?_
  refine wp_region_list ?_
  unfold rDV0
  refine fa0_0.move 6 (.bool false) _ (Or.inr rfl) rfl (lb_ hsz) (wanted_none rfl) rfl (fun a0_1 fa0_1 => ?_)
  clear fa0_0
  refine wpList_nil ?_
  change Code.wp _ _ _ _ _
  refine wp_seq ?_
  refine wp_region_list ?_
  unfold rDV1
  refine fa0_1.move 16 (.int .i64 pg) _ (Or.inl rfl) rfl (lb_ hsz) (wanted_none rfl) ((fa0_1.at_ 0).trans (ha 0 _ rfl)) (fun a0_2 fa0_2 => ?_)
  clear fa0_1
  refine fa0_2.move 17 (.int .i64 mo) _ (Or.inl rfl) rfl (lb_ hsz) (wanted_none rfl) ((fa0_2.at_ 1).trans (ha 1 _ rfl)) (fun a0_3 fa0_3 => ?_)
  clear fa0_2
  refine fa0_3.move 18 (.slice ia L.length ic) _ (Or.inl rfl) rfl (lb_ hsz) (wanted_none rfl) ((fa0_3.at_ 2).trans (ha 2 _ rfl)) (fun a0_4 fa0_4 => ?_)
  clear fa0_3
  have r_a0_5 : (execOp a0_4.eval { dst := some 19, op := Op.call { callee := Callee.value (Operand.func 4), args := #[Operand.tmp 16, Operand.tmp 17, Operand.tmp 18], argTypes := #[3, 3, 22] }, type := 25, pos := "law.go:352", after := #[{ on := 0, ground := Ground.data }, { on := 1, ground := Ground.data }, { on := 2, ground := Ground.data }], guard := none }).run Try.prog (w) = .ok (.enter 4 #[.int .i64 pg, .int .i64 mo, .slice ia L.length ic]) (w) := by
    have kf : ∀ f, a0_4.eval (.func f) = .func (.func f) #[] #[] := fun _ => rfl
    have e16 := (show a0_4.eval (.tmp 16) = .int .i64 pg from (fa0_4.at_ 16))
    have e17 := (show a0_4.eval (.tmp 17) = .int .i64 mo from (fa0_4.at_ 17))
    have e18 := (show a0_4.eval (.tmp 18) = .slice ia L.length ic from (fa0_4.at_ 18))
    clear fa0_4 ha hr hp hg hq
    generalize a0_4.eval = ρ at *
    go_simp
  refine fa0_4.call 19 rfl (lb_ hsz) (wanted_none rfl) r_a0_5 (hr w (Fr.refl _ w)) (fun e W1 hR => ?_)
  obtain ⟨rfl, s1⟩ := hR
  clear r_a0_5
  refine ⟨_, rfl, fun a0_5 fa0_5 => ?_⟩
  clear fa0_4
  refine fa0_5.move 15 (.tuple #[.pointer none, .int .i64 42]) _ (Or.inl rfl) rfl (lb_ hsz) (wanted_none rfl) (fa0_5.at_ 19) (fun a0_6 fa0_6 => ?_)
  clear fa0_5
  have r_a0_7 : (execOp a0_6.eval { dst := some 20, op := Op.extract (Operand.tmp 15) 0, type := 23, pos := "law.go:352", after := #[{ on := 4, ground := Ground.data }], guard := none }).run Try.prog (W1) = .ok (.value (.pointer none)) (W1) := by
    have e15 := (show a0_6.eval (.tmp 15) = .tuple #[.pointer none, .int .i64 42] from (fa0_6.at_ 15))
    clear fa0_6 ha hr hp hg hq
    generalize a0_6.eval = ρ at *
    go_simp
  refine fa0_6.step 20 (.pointer none) rfl (lb_ hsz) (wanted_none rfl) r_a0_7 (fun a0_7 fa0_7 => ?_)
  clear r_a0_7
  clear fa0_6
  have r_a0_8 : (execOp a0_7.eval { dst := some 21, op := Op.extract (Operand.tmp 15) 1, type := 24, pos := "law.go:352", after := #[{ on := 4, ground := Ground.data }, { on := 7, ground := Ground.gcOnly Go.Departure.lateStores }], guard := none }).run Try.prog (W1) = .ok (.value (.int .i64 42)) (W1) := by
    have e15 := (show a0_7.eval (.tmp 15) = .tuple #[.pointer none, .int .i64 42] from (fa0_7.at_ 15))
    clear fa0_7 ha hr hp hg hq
    generalize a0_7.eval = ρ at *
    go_simp
  refine fa0_7.step 21 (.int .i64 42) rfl (lb_ hsz) (wanted_none rfl) r_a0_8 (fun a0_8 fa0_8 => ?_)
  clear r_a0_8
  clear fa0_7
  refine fa0_8.move 7 (.pointer none) _ (Or.inr rfl) rfl (lb_ hsz) (wanted_none rfl) (fa0_8.at_ 20) (fun a0_9 fa0_9 => ?_)
  clear fa0_8
  refine fa0_9.move 8 (.int .i64 42) _ (Or.inr rfl) rfl (lb_ hsz) (wanted_none rfl) (fa0_9.at_ 21) (fun a0_10 fa0_10 => ?_)
  clear fa0_9
  refine wpList_nil ?_
  change Code.wp _ _ _ _ _
  refine wp_seq ?_
  have t1 := s1
  refine wp_region_list ?_
  unfold rDV2
  refine fa0_10.move 23 (.int .i64 pg) _ (Or.inl rfl) rfl (lb_ hsz) (wanted_none rfl) ((fa0_10.at_ 0).trans (ha 0 _ rfl)) (fun a0_11 fa0_11 => ?_)
  clear fa0_10
  refine fa0_11.move 24 (.int .i64 mo) _ (Or.inl rfl) rfl (lb_ hsz) (wanted_none rfl) ((fa0_11.at_ 1).trans (ha 1 _ rfl)) (fun a0_12 fa0_12 => ?_)
  clear fa0_11
  refine fa0_12.move 25 (.slice ia L.length ic) _ (Or.inl rfl) rfl (lb_ hsz) (wanted_none rfl) ((fa0_12.at_ 2).trans (ha 2 _ rfl)) (fun a0_13 fa0_13 => ?_)
  clear fa0_12
  have r_a0_14 : (execOp a0_13.eval { dst := some 26, op := Op.call { callee := Callee.value (Operand.func 5), args := #[Operand.tmp 23, Operand.tmp 24, Operand.tmp 25], argTypes := #[3, 3, 22] }, type := 28, pos := "law.go:353", after := #[{ on := 0, ground := Ground.data }, { on := 1, ground := Ground.data }, { on := 2, ground := Ground.data }], guard := none }).run Try.prog (W1) = .ok (.enter 5 #[.int .i64 pg, .int .i64 mo, .slice ia L.length ic]) (W1) := by
    have kf : ∀ f, a0_13.eval (.func f) = .func (.func f) #[] #[] := fun _ => rfl
    have e23 := (show a0_13.eval (.tmp 23) = .int .i64 pg from (fa0_13.at_ 23))
    have e24 := (show a0_13.eval (.tmp 24) = .int .i64 mo from (fa0_13.at_ 24))
    have e25 := (show a0_13.eval (.tmp 25) = .slice ia L.length ic from (fa0_13.at_ 25))
    clear fa0_13 ha hr hp hg hq
    generalize a0_13.eval = ρ at *
    go_simp
  refine fa0_13.call 26 rfl (lb_ hsz) (wanted_none rfl) r_a0_14 (hp W1 t1) (fun e W2 hR => ?_)
  obtain ⟨rfl, s2⟩ := hR
  clear r_a0_14
  refine ⟨_, rfl, fun a0_14 fa0_14 => ?_⟩
  clear fa0_13
  refine fa0_14.move 22 (.tuple #[.pointer none, .int .i64 42]) _ (Or.inl rfl) rfl (lb_ hsz) (wanted_none rfl) (fa0_14.at_ 26) (fun a0_15 fa0_15 => ?_)
  clear fa0_14
  have r_a0_16 : (execOp a0_15.eval { dst := some 27, op := Op.extract (Operand.tmp 22) 0, type := 27, pos := "law.go:353", after := #[{ on := 4, ground := Ground.data }], guard := none }).run Try.prog (W2) = .ok (.value (.pointer none)) (W2) := by
    have e22 := (show a0_15.eval (.tmp 22) = .tuple #[.pointer none, .int .i64 42] from (fa0_15.at_ 22))
    clear fa0_15 ha hr hp hg hq
    generalize a0_15.eval = ρ at *
    go_simp
  refine fa0_15.step 27 (.pointer none) rfl (lb_ hsz) (wanted_none rfl) r_a0_16 (fun a0_16 fa0_16 => ?_)
  clear r_a0_16
  clear fa0_15
  have r_a0_17 : (execOp a0_16.eval { dst := some 28, op := Op.extract (Operand.tmp 22) 1, type := 24, pos := "law.go:353", after := #[{ on := 4, ground := Ground.data }, { on := 7, ground := Ground.gcOnly Go.Departure.lateStores }], guard := none }).run Try.prog (W2) = .ok (.value (.int .i64 42)) (W2) := by
    have e22 := (show a0_16.eval (.tmp 22) = .tuple #[.pointer none, .int .i64 42] from (fa0_16.at_ 22))
    clear fa0_16 ha hr hp hg hq
    generalize a0_16.eval = ρ at *
    go_simp
  refine fa0_16.step 28 (.int .i64 42) rfl (lb_ hsz) (wanted_none rfl) r_a0_17 (fun a0_17 fa0_17 => ?_)
  clear r_a0_17
  clear fa0_16
  refine fa0_17.move 9 (.pointer none) _ (Or.inr rfl) rfl (lb_ hsz) (wanted_none rfl) (fa0_17.at_ 27) (fun a0_18 fa0_18 => ?_)
  clear fa0_17
  refine fa0_18.move 10 (.int .i64 42) _ (Or.inr rfl) rfl (lb_ hsz) (wanted_none rfl) (fa0_18.at_ 28) (fun a0_19 fa0_19 => ?_)
  clear fa0_18
  refine wpList_nil ?_
  change Code.wp _ _ _ _ _
  refine wp_seq ?_
  have t2 := t1.trans s2
  refine wp_region_list ?_
  unfold rDV3
  refine fa0_19.move 30 (.int .i64 pg) _ (Or.inl rfl) rfl (lb_ hsz) (wanted_none rfl) ((fa0_19.at_ 0).trans (ha 0 _ rfl)) (fun a0_20 fa0_20 => ?_)
  clear fa0_19
  refine fa0_20.move 31 (.int .i64 mo) _ (Or.inl rfl) rfl (lb_ hsz) (wanted_none rfl) ((fa0_20.at_ 1).trans (ha 1 _ rfl)) (fun a0_21 fa0_21 => ?_)
  clear fa0_20
  have r_a0_22 : (execOp a0_21.eval { dst := some 32, op := Op.call { callee := Callee.value (Operand.func 4), args := #[Operand.tmp 30, Operand.tmp 31, Operand.const (Value.slice none 0 0)], argTypes := #[3, 3, 22] }, type := 25, pos := "law.go:354", after := #[{ on := 0, ground := Ground.data }, { on := 1, ground := Ground.data }], guard := none }).run Try.prog (W2) = .ok (.enter 4 #[.int .i64 pg, .int .i64 mo, Value.slice none 0 0]) (W2) := by
    have kc : ∀ v, a0_21.eval (.const v) = v := fun _ => rfl
    have kf : ∀ f, a0_21.eval (.func f) = .func (.func f) #[] #[] := fun _ => rfl
    have e30 := (show a0_21.eval (.tmp 30) = .int .i64 pg from (fa0_21.at_ 30))
    have e31 := (show a0_21.eval (.tmp 31) = .int .i64 mo from (fa0_21.at_ 31))
    clear fa0_21 ha hr hp hg hq
    generalize a0_21.eval = ρ at *
    go_simp
  refine fa0_21.call 32 rfl (lb_ hsz) (wanted_none rfl) r_a0_22 (hg W2 t2) (fun e W3 hR => ?_)
  obtain ⟨gb, rfl, s3⟩ := hR
  clear r_a0_22
  refine ⟨_, rfl, fun a0_22 fa0_22 => ?_⟩
  clear fa0_21
  refine fa0_22.move 29 (.tuple #[.pointer (some ⟨gb, 0, none⟩), .int .i64 0]) _ (Or.inl rfl) rfl (lb_ hsz) (wanted_none rfl) (fa0_22.at_ 32) (fun a0_23 fa0_23 => ?_)
  clear fa0_22
  have r_a0_24 : (execOp a0_23.eval { dst := some 33, op := Op.extract (Operand.tmp 29) 0, type := 23, pos := "law.go:354", after := #[{ on := 3, ground := Ground.data }], guard := none }).run Try.prog (W3) = .ok (.value (.pointer (some ⟨gb, 0, none⟩))) (W3) := by
    have e29 := (show a0_23.eval (.tmp 29) = .tuple #[.pointer (some ⟨gb, 0, none⟩), .int .i64 0] from (fa0_23.at_ 29))
    clear fa0_23 ha hr hp hg hq
    generalize a0_23.eval = ρ at *
    go_simp
  refine fa0_23.step 33 (.pointer (some ⟨gb, 0, none⟩)) rfl (lb_ hsz) (wanted_none rfl) r_a0_24 (fun a0_24 fa0_24 => ?_)
  clear r_a0_24
  clear fa0_23
  have r_a0_25 : (execOp a0_24.eval { dst := some 34, op := Op.extract (Operand.tmp 29) 1, type := 24, pos := "law.go:354", after := #[{ on := 3, ground := Ground.data }, { on := 6, ground := Ground.gcOnly Go.Departure.lateStores }], guard := none }).run Try.prog (W3) = .ok (.value (.int .i64 0)) (W3) := by
    have e29 := (show a0_24.eval (.tmp 29) = .tuple #[.pointer (some ⟨gb, 0, none⟩), .int .i64 0] from (fa0_24.at_ 29))
    clear fa0_24 ha hr hp hg hq
    generalize a0_24.eval = ρ at *
    go_simp
  refine fa0_24.step 34 (.int .i64 0) rfl (lb_ hsz) (wanted_none rfl) r_a0_25 (fun a0_25 fa0_25 => ?_)
  clear r_a0_25
  clear fa0_24
  refine fa0_25.move 11 (.pointer (some ⟨gb, 0, none⟩)) _ (Or.inr rfl) rfl (lb_ hsz) (wanted_none rfl) (fa0_25.at_ 33) (fun a0_26 fa0_26 => ?_)
  clear fa0_25
  refine fa0_26.move 12 (.int .i64 0) _ (Or.inr rfl) rfl (lb_ hsz) (wanted_none rfl) (fa0_26.at_ 34) (fun a0_27 fa0_27 => ?_)
  clear fa0_26
  refine wpList_nil ?_
  change Code.wp _ _ _ _ _
  refine wp_seq ?_
  have t3 := t2.trans s3
  refine wp_region_list ?_
  unfold rDV4
  refine fa0_27.move 36 (.int .i64 pg) _ (Or.inl rfl) rfl (lb_ hsz) (wanted_none rfl) ((fa0_27.at_ 0).trans (ha 0 _ rfl)) (fun a0_28 fa0_28 => ?_)
  clear fa0_27
  refine fa0_28.move 37 (.int .i64 mo) _ (Or.inl rfl) rfl (lb_ hsz) (wanted_none rfl) ((fa0_28.at_ 1).trans (ha 1 _ rfl)) (fun a0_29 fa0_29 => ?_)
  clear fa0_28
  have r_a0_30 : (execOp a0_29.eval { dst := some 38, op := Op.call { callee := Callee.value (Operand.func 6), args := #[Operand.tmp 36, Operand.tmp 37], argTypes := #[3, 3] }, type := 28, pos := "law.go:355", after := #[{ on := 0, ground := Ground.data }, { on := 1, ground := Ground.data }], guard := none }).run Try.prog (W3) = .ok (.enter 6 #[.int .i64 pg, .int .i64 mo]) (W3) := by
    have kf : ∀ f, a0_29.eval (.func f) = .func (.func f) #[] #[] := fun _ => rfl
    have e36 := (show a0_29.eval (.tmp 36) = .int .i64 pg from (fa0_29.at_ 36))
    have e37 := (show a0_29.eval (.tmp 37) = .int .i64 mo from (fa0_29.at_ 37))
    clear fa0_29 ha hr hp hg hq
    generalize a0_29.eval = ρ at *
    go_simp
  refine fa0_29.call 38 rfl (lb_ hsz) (wanted_none rfl) r_a0_30 (hq W3 t3) (fun e W4 hR => ?_)
  obtain ⟨qb, rfl, s4⟩ := hR
  clear r_a0_30
  refine ⟨_, rfl, fun a0_30 fa0_30 => ?_⟩
  clear fa0_29
  refine fa0_30.move 35 (.tuple #[.pointer (some ⟨qb, 0, none⟩), .int .i64 0]) _ (Or.inl rfl) rfl (lb_ hsz) (wanted_none rfl) (fa0_30.at_ 38) (fun a0_31 fa0_31 => ?_)
  clear fa0_30
  have r_a0_32 : (execOp a0_31.eval { dst := some 39, op := Op.extract (Operand.tmp 35) 0, type := 27, pos := "law.go:355", after := #[{ on := 3, ground := Ground.data }], guard := none }).run Try.prog (W4) = .ok (.value (.pointer (some ⟨qb, 0, none⟩))) (W4) := by
    have e35 := (show a0_31.eval (.tmp 35) = .tuple #[.pointer (some ⟨qb, 0, none⟩), .int .i64 0] from (fa0_31.at_ 35))
    clear fa0_31 ha hr hp hg hq
    generalize a0_31.eval = ρ at *
    go_simp
  refine fa0_31.step 39 (.pointer (some ⟨qb, 0, none⟩)) rfl (lb_ hsz) (wanted_none rfl) r_a0_32 (fun a0_32 fa0_32 => ?_)
  clear r_a0_32
  clear fa0_31
  have r_a0_33 : (execOp a0_32.eval { dst := some 40, op := Op.extract (Operand.tmp 35) 1, type := 24, pos := "law.go:355", after := #[{ on := 3, ground := Ground.data }, { on := 6, ground := Ground.gcOnly Go.Departure.lateStores }], guard := none }).run Try.prog (W4) = .ok (.value (.int .i64 0)) (W4) := by
    have e35 := (show a0_32.eval (.tmp 35) = .tuple #[.pointer (some ⟨qb, 0, none⟩), .int .i64 0] from (fa0_32.at_ 35))
    clear fa0_32 ha hr hp hg hq
    generalize a0_32.eval = ρ at *
    go_simp
  refine fa0_32.step 40 (.int .i64 0) rfl (lb_ hsz) (wanted_none rfl) r_a0_33 (fun a0_33 fa0_33 => ?_)
  clear r_a0_33
  clear fa0_32
  refine fa0_33.move 13 (.pointer (some ⟨qb, 0, none⟩)) _ (Or.inr rfl) rfl (lb_ hsz) (wanted_none rfl) (fa0_33.at_ 39) (fun a0_34 fa0_34 => ?_)
  clear fa0_33
  refine fa0_34.move 14 (.int .i64 0) _ (Or.inr rfl) rfl (lb_ hsz) (wanted_none rfl) (fa0_34.at_ 40) (fun a0_35 fa0_35 => ?_)
  clear fa0_34
  refine wpList_nil ?_
  change Code.wp _ _ _ _ _
  refine wp_seq (wp_seq ?_)
  have t4 := t3.trans s4
  refine wp_region_list ?_
  unfold rDV5
  refine fa0_35.move 41 (.int .i64 42) _ (Or.inl rfl) rfl (lb_ hsz) (wanted_none rfl) (fa0_35.at_ 10) (fun a0_36 fa0_36 => ?_)
  clear fa0_35
  refine fa0_36.move 42 (.int .i64 42) _ (Or.inl rfl) rfl (lb_ hsz) (wanted_none rfl) (fa0_36.at_ 8) (fun a0_37 fa0_37 => ?_)
  clear fa0_36
  have r_a0_38 : (execOp a0_37.eval { dst := some 43, op := Op.binOp BinOp.neq 24 (Operand.tmp 41) (Operand.tmp 42) 24, type := 4, pos := "law.go:356", after := #[{ on := 0, ground := Ground.data }, { on := 1, ground := Ground.data }], guard := none }).run Try.prog (W4) = .ok (.value (.bool false)) (W4) := by
    have e41 := (show a0_37.eval (.tmp 41) = .int .i64 42 from (fa0_37.at_ 41))
    have e42 := (show a0_37.eval (.tmp 42) = .int .i64 42 from (fa0_37.at_ 42))
    clear fa0_37 ha hr hp hg hq
    generalize a0_37.eval = ρ at *
    go_simp
  refine fa0_37.step 43 (.bool false) rfl (lb_ hsz) (wanted_none rfl) r_a0_38 (fun a0_38 fa0_38 => ?_)
  clear r_a0_38
  clear fa0_37
  refine fa0_38.move 44 (.bool false) _ (Or.inl rfl) rfl (lb_ hsz) (wanted_none rfl) (fa0_38.at_ 43) (fun a0_39 fa0_39 => ?_)
  clear fa0_38
  refine fa0_39.move 45 (.pointer none) _ (Or.inl rfl) rfl (lb_ hsz) ((wanted_at (t := 44) (c := false) (b := false) rfl rfl rfl (lb_ (fa0_39.size.trans hsz)) (fa0_39.at_ 44)).trans (by rfl)) (fa0_39.at_ 9) (fun a0_40 fa0_40 => ?_)
  clear fa0_39
  have r_a0_41 : (execOp a0_40.eval { dst := some 46, op := Op.binOp BinOp.eql 27 (Operand.tmp 45) (Operand.const (Value.pointer none)) 27, type := 4, pos := "law.go:356", after := #[{ on := 4, ground := Ground.data }, { on := 3, ground := Ground.guard }], guard := some (3, false) }).run Try.prog (W4) = .ok (.value (.bool true)) (W4) := by
    have kc : ∀ v, a0_40.eval (.const v) = v := fun _ => rfl
    have e45 := (show a0_40.eval (.tmp 45) = .pointer none from (fa0_40.at_ 45))
    clear fa0_40 ha hr hp hg hq
    generalize a0_40.eval = ρ at *
    go_simp
  refine fa0_40.step 46 (.bool true) rfl (lb_ hsz) ((wanted_at (t := 44) (c := false) (b := false) rfl rfl rfl (lb_ (fa0_40.size.trans hsz)) (fa0_40.at_ 44)).trans (by rfl)) r_a0_41 (fun a0_41 fa0_41 => ?_)
  clear r_a0_41
  clear fa0_40
  refine fa0_41.move 47 (.pointer none) _ (Or.inl rfl) rfl (lb_ hsz) ((wanted_at (t := 44) (c := false) (b := false) rfl rfl rfl (lb_ (fa0_41.size.trans hsz)) (fa0_41.at_ 44)).trans (by rfl)) (fa0_41.at_ 7) (fun a0_42 fa0_42 => ?_)
  clear fa0_41
  have r_a0_43 : (execOp a0_42.eval { dst := some 48, op := Op.binOp BinOp.eql 23 (Operand.tmp 47) (Operand.const (Value.pointer none)) 23, type := 4, pos := "law.go:356", after := #[{ on := 6, ground := Ground.data }, { on := 3, ground := Ground.guard }], guard := some (3, false) }).run Try.prog (W4) = .ok (.value (.bool true)) (W4) := by
    have kc : ∀ v, a0_42.eval (.const v) = v := fun _ => rfl
    have e47 := (show a0_42.eval (.tmp 47) = .pointer none from (fa0_42.at_ 47))
    clear fa0_42 ha hr hp hg hq
    generalize a0_42.eval = ρ at *
    go_simp
  refine fa0_42.step 48 (.bool true) rfl (lb_ hsz) ((wanted_at (t := 44) (c := false) (b := false) rfl rfl rfl (lb_ (fa0_42.size.trans hsz)) (fa0_42.at_ 44)).trans (by rfl)) r_a0_43 (fun a0_43 fa0_43 => ?_)
  clear r_a0_43
  clear fa0_42
  have r_a0_44 : (execOp a0_43.eval { dst := some 49, op := Op.binOp BinOp.neq 4 (Operand.tmp 46) (Operand.tmp 48) 4, type := 4, pos := "law.go:356", after := #[{ on := 5, ground := Ground.data }, { on := 7, ground := Ground.data }, { on := 3, ground := Ground.guard }], guard := some (3, false) }).run Try.prog (W4) = .ok (.value (.bool false)) (W4) := by
    have e46 := (show a0_43.eval (.tmp 46) = .bool true from (fa0_43.at_ 46))
    have e48 := (show a0_43.eval (.tmp 48) = .bool true from (fa0_43.at_ 48))
    clear fa0_43 ha hr hp hg hq
    generalize a0_43.eval = ρ at *
    go_simp
  refine fa0_43.step 49 (.bool false) rfl (lb_ hsz) ((wanted_at (t := 44) (c := false) (b := false) rfl rfl rfl (lb_ (fa0_43.size.trans hsz)) (fa0_43.at_ 44)).trans (by rfl)) r_a0_44 (fun a0_44 fa0_44 => ?_)
  clear r_a0_44
  clear fa0_43
  have r_a0_45 : (execOp a0_44.eval { dst := some 50, op := Op.pick (Operand.tmp 44) (Operand.const (Value.bool true)) (Operand.tmp 49), type := 4, pos := "law.go:356", after := #[{ on := 3, ground := Ground.data }, { on := 8, ground := Ground.data }], guard := none }).run Try.prog (W4) = .ok (.value (.bool false)) (W4) := by
    have kc : ∀ v, a0_44.eval (.const v) = v := fun _ => rfl
    have e44 := (show a0_44.eval (.tmp 44) = .bool false from (fa0_44.at_ 44))
    have e49 := (show a0_44.eval (.tmp 49) = .bool false from (fa0_44.at_ 49))
    clear fa0_44 ha hr hp hg hq
    generalize a0_44.eval = ρ at *
    go_simp
  refine fa0_44.step 50 (.bool false) rfl (lb_ hsz) (wanted_none rfl) r_a0_45 (fun a0_45 fa0_45 => ?_)
  clear r_a0_45
  clear fa0_44
  refine fa0_45.move 51 (.bool false) _ (Or.inl rfl) rfl (lb_ hsz) (wanted_none rfl) (fa0_45.at_ 50) (fun a0_46 fa0_46 => ?_)
  clear fa0_45
  refine fa0_46.move 52 (.int .i64 0) _ (Or.inl rfl) rfl (lb_ hsz) ((wanted_at (t := 51) (c := false) (b := false) rfl rfl rfl (lb_ (fa0_46.size.trans hsz)) (fa0_46.at_ 51)).trans (by rfl)) (fa0_46.at_ 14) (fun a0_47 fa0_47 => ?_)
  clear fa0_46
  refine fa0_47.move 53 (.int .i64 0) _ (Or.inl rfl) rfl (lb_ hsz) ((wanted_at (t := 51) (c := false) (b := false) rfl rfl rfl (lb_ (fa0_47.size.trans hsz)) (fa0_47.at_ 51)).trans (by rfl)) (fa0_47.at_ 12) (fun a0_48 fa0_48 => ?_)
  clear fa0_47
  have r_a0_49 : (execOp a0_48.eval { dst := some 54, op := Op.binOp BinOp.neq 24 (Operand.tmp 52) (Operand.tmp 53) 24, type := 4, pos := "law.go:356", after := #[{ on := 11, ground := Ground.data }, { on := 12, ground := Ground.data }, { on := 10, ground := Ground.guard }], guard := some (10, false) }).run Try.prog (W4) = .ok (.value (.bool false)) (W4) := by
    have e52 := (show a0_48.eval (.tmp 52) = .int .i64 0 from (fa0_48.at_ 52))
    have e53 := (show a0_48.eval (.tmp 53) = .int .i64 0 from (fa0_48.at_ 53))
    clear fa0_48 ha hr hp hg hq
    generalize a0_48.eval = ρ at *
    go_simp
  refine fa0_48.step 54 (.bool false) rfl (lb_ hsz) ((wanted_at (t := 51) (c := false) (b := false) rfl rfl rfl (lb_ (fa0_48.size.trans hsz)) (fa0_48.at_ 51)).trans (by rfl)) r_a0_49 (fun a0_49 fa0_49 => ?_)
  clear r_a0_49
  clear fa0_48
  have r_a0_50 : (execOp a0_49.eval { dst := some 55, op := Op.pick (Operand.tmp 51) (Operand.const (Value.bool true)) (Operand.tmp 54), type := 4, pos := "law.go:356", after := #[{ on := 10, ground := Ground.data }, { on := 13, ground := Ground.data }], guard := none }).run Try.prog (W4) = .ok (.value (.bool false)) (W4) := by
    have kc : ∀ v, a0_49.eval (.const v) = v := fun _ => rfl
    have e51 := (show a0_49.eval (.tmp 51) = .bool false from (fa0_49.at_ 51))
    have e54 := (show a0_49.eval (.tmp 54) = .bool false from (fa0_49.at_ 54))
    clear fa0_49 ha hr hp hg hq
    generalize a0_49.eval = ρ at *
    go_simp
  refine fa0_49.step 55 (.bool false) rfl (lb_ hsz) (wanted_none rfl) r_a0_50 (fun a0_50 fa0_50 => ?_)
  clear r_a0_50
  clear fa0_49
  refine fa0_50.move 56 (.bool false) _ (Or.inl rfl) rfl (lb_ hsz) (wanted_none rfl) (fa0_50.at_ 55) (fun a0_51 fa0_51 => ?_)
  clear fa0_50
  refine fa0_51.move 57 (.pointer (some ⟨qb, 0, none⟩)) _ (Or.inl rfl) rfl (lb_ hsz) ((wanted_at (t := 56) (c := false) (b := false) rfl rfl rfl (lb_ (fa0_51.size.trans hsz)) (fa0_51.at_ 56)).trans (by rfl)) (fa0_51.at_ 13) (fun a0_52 fa0_52 => ?_)
  clear fa0_51
  have r_a0_53 : (execOp a0_52.eval { dst := some 58, op := Op.binOp BinOp.eql 27 (Operand.tmp 57) (Operand.const (Value.pointer none)) 27, type := 4, pos := "law.go:356", after := #[{ on := 16, ground := Ground.data }, { on := 15, ground := Ground.guard }], guard := some (15, false) }).run Try.prog (W4) = .ok (.value (.bool false)) (W4) := by
    have kc : ∀ v, a0_52.eval (.const v) = v := fun _ => rfl
    have e57 := (show a0_52.eval (.tmp 57) = .pointer (some ⟨qb, 0, none⟩) from (fa0_52.at_ 57))
    clear fa0_52 ha hr hp hg hq
    generalize a0_52.eval = ρ at *
    go_simp
  refine fa0_52.step 58 (.bool false) rfl (lb_ hsz) ((wanted_at (t := 56) (c := false) (b := false) rfl rfl rfl (lb_ (fa0_52.size.trans hsz)) (fa0_52.at_ 56)).trans (by rfl)) r_a0_53 (fun a0_53 fa0_53 => ?_)
  clear r_a0_53
  clear fa0_52
  refine fa0_53.move 59 (.int .i64 0) _ (Or.inl rfl) rfl (lb_ hsz) ((wanted_at (t := 56) (c := false) (b := false) rfl rfl rfl (lb_ (fa0_53.size.trans hsz)) (fa0_53.at_ 56)).trans (by rfl)) (fa0_53.at_ 12) (fun a0_54 fa0_54 => ?_)
  clear fa0_53
  have r_a0_55 : (execOp a0_54.eval { dst := some 60, op := Op.binOp BinOp.neq 24 (Operand.tmp 59) (Operand.const (Value.int IntKind.i64 0)) 24, type := 4, pos := "law.go:356", after := #[{ on := 18, ground := Ground.data }, { on := 15, ground := Ground.guard }], guard := some (15, false) }).run Try.prog (W4) = .ok (.value (.bool false)) (W4) := by
    have kc : ∀ v, a0_54.eval (.const v) = v := fun _ => rfl
    have e59 := (show a0_54.eval (.tmp 59) = .int .i64 0 from (fa0_54.at_ 59))
    clear fa0_54 ha hr hp hg hq
    generalize a0_54.eval = ρ at *
    go_simp
  refine fa0_54.step 60 (.bool false) rfl (lb_ hsz) ((wanted_at (t := 56) (c := false) (b := false) rfl rfl rfl (lb_ (fa0_54.size.trans hsz)) (fa0_54.at_ 56)).trans (by rfl)) r_a0_55 (fun a0_55 fa0_55 => ?_)
  clear r_a0_55
  clear fa0_54
  have r_a0_56 : (execOp a0_55.eval { dst := some 61, op := Op.binOp BinOp.neq 4 (Operand.tmp 58) (Operand.tmp 60) 4, type := 4, pos := "law.go:356", after := #[{ on := 17, ground := Ground.data }, { on := 19, ground := Ground.data }, { on := 15, ground := Ground.guard }], guard := some (15, false) }).run Try.prog (W4) = .ok (.value (.bool false)) (W4) := by
    have e58 := (show a0_55.eval (.tmp 58) = .bool false from (fa0_55.at_ 58))
    have e60 := (show a0_55.eval (.tmp 60) = .bool false from (fa0_55.at_ 60))
    clear fa0_55 ha hr hp hg hq
    generalize a0_55.eval = ρ at *
    go_simp
  refine fa0_55.step 61 (.bool false) rfl (lb_ hsz) ((wanted_at (t := 56) (c := false) (b := false) rfl rfl rfl (lb_ (fa0_55.size.trans hsz)) (fa0_55.at_ 56)).trans (by rfl)) r_a0_56 (fun a0_56 fa0_56 => ?_)
  clear r_a0_56
  clear fa0_55
  have r_a0_57 : (execOp a0_56.eval { dst := some 62, op := Op.pick (Operand.tmp 56) (Operand.const (Value.bool true)) (Operand.tmp 61), type := 4, pos := "law.go:356", after := #[{ on := 15, ground := Ground.data }, { on := 20, ground := Ground.data }], guard := none }).run Try.prog (W4) = .ok (.value (.bool false)) (W4) := by
    have kc : ∀ v, a0_56.eval (.const v) = v := fun _ => rfl
    have e56 := (show a0_56.eval (.tmp 56) = .bool false from (fa0_56.at_ 56))
    have e61 := (show a0_56.eval (.tmp 61) = .bool false from (fa0_56.at_ 61))
    clear fa0_56 ha hr hp hg hq
    generalize a0_56.eval = ρ at *
    go_simp
  refine fa0_56.step 62 (.bool false) rfl (lb_ hsz) (wanted_none rfl) r_a0_57 (fun a0_57 fa0_57 => ?_)
  clear r_a0_57
  clear fa0_56
  refine wpList_nil ?_
  change Code.wp _ _ _ _ _
  refine wp_cond_false (show a0_57.eval (.tmp 62) = .bool false from (fa0_57.at_ 62)) (wp_skip ?_)
  change Code.wp _ _ _ _ _
  refine wp_seq (wp_seq ?_)
  refine wp_region_list ?_
  unfold rDV7
  refine fa0_57.move 63 (.pointer none) _ (Or.inl rfl) rfl (lb_ hsz) (wanted_none rfl) (fa0_57.at_ 9) (fun a0_58 fa0_58 => ?_)
  clear fa0_57
  have r_a0_59 : (execOp a0_58.eval { dst := some 64, op := Op.binOp BinOp.neq 27 (Operand.tmp 63) (Operand.const (Value.pointer none)) 27, type := 4, pos := "law.go:359", after := #[{ on := 0, ground := Ground.data }], guard := none }).run Try.prog (W4) = .ok (.value (.bool false)) (W4) := by
    have kc : ∀ v, a0_58.eval (.const v) = v := fun _ => rfl
    have e63 := (show a0_58.eval (.tmp 63) = .pointer none from (fa0_58.at_ 63))
    clear fa0_58 ha hr hp hg hq
    generalize a0_58.eval = ρ at *
    go_simp
  refine fa0_58.step 64 (.bool false) rfl (lb_ hsz) (wanted_none rfl) r_a0_59 (fun a0_59 fa0_59 => ?_)
  clear r_a0_59
  clear fa0_58
  refine fa0_59.move 65 (.bool false) _ (Or.inl rfl) rfl (lb_ hsz) (wanted_none rfl) (fa0_59.at_ 64) (fun a0_60 fa0_60 => ?_)
  clear fa0_59
  refine fa0_60.skip 66 rfl (lb_ hsz) ((wanted_at (t := 65) (c := false) (b := true) rfl rfl rfl (lb_ (fa0_60.size.trans hsz)) (fa0_60.at_ 65)).trans (by rfl)) (fun a0_61 fa0_61 => ?_)
  clear fa0_60
  refine fa0_61.skip 67 rfl (lb_ hsz) ((wanted_at (t := 65) (c := false) (b := true) rfl rfl rfl (lb_ (fa0_61.size.trans hsz)) (fa0_61.at_ 65)).trans (by rfl)) (fun a0_62 fa0_62 => ?_)
  clear fa0_61
  refine fa0_62.skip 68 rfl (lb_ hsz) ((wanted_at (t := 65) (c := false) (b := true) rfl rfl rfl (lb_ (fa0_62.size.trans hsz)) (fa0_62.at_ 65)).trans (by rfl)) (fun a0_63 fa0_63 => ?_)
  clear fa0_62
  refine fa0_63.skip 69 rfl (lb_ hsz) ((wanted_at (t := 65) (c := false) (b := true) rfl rfl rfl (lb_ (fa0_63.size.trans hsz)) (fa0_63.at_ 65)).trans (by rfl)) (fun a0_64 fa0_64 => ?_)
  clear fa0_63
  refine fa0_64.skip 70 rfl (lb_ hsz) ((wanted_at (t := 65) (c := false) (b := true) rfl rfl rfl (lb_ (fa0_64.size.trans hsz)) (fa0_64.at_ 65)).trans (by rfl)) (fun a0_65 fa0_65 => ?_)
  clear fa0_64
  refine fa0_65.skip 71 rfl (lb_ hsz) (wanted_undef (t := 70) rfl rfl rfl (lb_ (fa0_65.size.trans hsz)) (fa0_65.at_ 70)) (fun a0_66 fa0_66 => ?_)
  clear fa0_65
  refine fa0_66.skip 72 rfl (lb_ hsz) (wanted_undef (t := 70) rfl rfl rfl (lb_ (fa0_66.size.trans hsz)) (fa0_66.at_ 70)) (fun a0_67 fa0_67 => ?_)
  clear fa0_66
  refine fa0_67.skip 73 rfl (lb_ hsz) (wanted_undef (t := 70) rfl rfl rfl (lb_ (fa0_67.size.trans hsz)) (fa0_67.at_ 70)) (fun a0_68 fa0_68 => ?_)
  clear fa0_67
  refine fa0_68.skip 74 rfl (lb_ hsz) (wanted_undef (t := 70) rfl rfl rfl (lb_ (fa0_68.size.trans hsz)) (fa0_68.at_ 70)) (fun a0_69 fa0_69 => ?_)
  clear fa0_68
  refine fa0_69.skip 75 rfl (lb_ hsz) (wanted_undef (t := 70) rfl rfl rfl (lb_ (fa0_69.size.trans hsz)) (fa0_69.at_ 70)) (fun a0_70 fa0_70 => ?_)
  clear fa0_69
  refine fa0_70.skip 76 rfl (lb_ hsz) ((wanted_at (t := 65) (c := false) (b := true) rfl rfl rfl (lb_ (fa0_70.size.trans hsz)) (fa0_70.at_ 65)).trans (by rfl)) (fun a0_71 fa0_71 => ?_)
  clear fa0_70
  have r_a0_72 : (execOp a0_71.eval { dst := some 77, op := Op.pick (Operand.tmp 65) (Operand.tmp 76) (Operand.const (Value.bool false)), type := 4, pos := "law.go:359", after := #[{ on := 2, ground := Ground.data }, { on := 13, ground := Ground.data }], guard := none }).run Try.prog (W4) = .ok (.value (.bool false)) (W4) := by
    have kc : ∀ v, a0_71.eval (.const v) = v := fun _ => rfl
    have e65 := (show a0_71.eval (.tmp 65) = .bool false from (fa0_71.at_ 65))
    have e76 := (show a0_71.eval (.tmp 76) = undef from (fa0_71.at_ 76))
    clear fa0_71 ha hr hp hg hq
    generalize a0_71.eval = ρ at *
    go_simp
  refine fa0_71.step 77 (.bool false) rfl (lb_ hsz) (wanted_none rfl) r_a0_72 (fun a0_72 fa0_72 => ?_)
  clear r_a0_72
  clear fa0_71
  refine wpList_nil ?_
  change Code.wp _ _ _ _ _
  refine wp_cond_false (show a0_72.eval (.tmp 77) = .bool false from (fa0_72.at_ 77)) (wp_skip ?_)
  change Code.wp _ _ _ _ _
  refine wp_seq ?_
  refine wp_region_list ?_
  unfold rDV9
  have r_a0_73 : (execOp a0_72.eval { dst := some 78, op := Op.call { callee := Callee.value (Operand.func 10), args := #[], argTypes := #[] }, type := 4, pos := "law.go:362", after := #[], guard := none }).run Try.prog (W4) = .ok (.enter 10 #[]) (W4) := by
    have kf : ∀ f, a0_72.eval (.func f) = .func (.func f) #[] #[] := fun _ => rfl
    clear fa0_72 ha hr hp hg hq
    generalize a0_72.eval = ρ at *
    go_simp
  refine fa0_72.call 78 rfl (lb_ hsz) (wanted_none rfl) r_a0_73 (lives_calls W4) (fun e W8 hR => ?_)
  obtain ⟨rfl, s8⟩ := hR
  clear r_a0_73
  refine ⟨_, rfl, fun a0_73 fa0_73 => ?_⟩
  clear fa0_72
  refine fa0_73.move 6 (.bool true) _ (Or.inr rfl) rfl (lb_ hsz) (wanted_none rfl) (fa0_73.at_ 78) (fun a0_74 fa0_74 => ?_)
  clear fa0_73
  refine wpList_nil ?_
  change Code.wp _ _ _ _ _
  refine wp_ret ?_
  exact ret_abs rfl (fa0_74.defers.trans hd) (show a0_74.eval (.tmp 6) = .bool true from (fa0_74.at_ 6)) ⟨rfl, t4.trans s8⟩
set_option maxRecDepth 100000 in
set_option maxHeartbeats 1000000 in
theorem dm_C {pn mn pb po : Nat} {ia : Option Addr} {ic : Nat} {L : List ByteArray} (w : World) (hp0 : 0 < pn) (hl : L.length ≤ 1048576) (hT : TRow w ia pb po L) (hr : ∀ W, Same w W → Calls Try.prog 4 #[.int .i64 (pn : Int), .int .i64 (mn : Int), .slice ia L.length ic] W fun e w' => ∃ b, e = .returned (.tuple #[.pointer (some ⟨b, 0, none⟩), .int .i64 0]) ∧ RdAt w' b (pn : Int) (mn : Int) L ∧ Same W w') (hp : ∀ W, Same w W → Calls Try.prog 5 #[.int .i64 (pn : Int), .int .i64 (mn : Int), .slice ia L.length ic] W fun e w' => ∃ b, ∃ U : Nat → Prop, e = .returned (.tuple #[.pointer (some ⟨b, 0, none⟩), .int .i64 0]) ∧ DkAt w' b (dkOf pn mn L) U ∧ Same W w') (hg : ∀ W, Same w W → Calls Try.prog 4 #[.int .i64 (pn : Int), .int .i64 (mn : Int), .slice none 0 0] W fun e w' => ∃ b, e = .returned (.tuple #[.pointer (some ⟨b, 0, none⟩), .int .i64 0]) ∧ Same W w') (hq : ∀ W, Same w W → Calls Try.prog 6 #[.int .i64 (pn : Int), .int .i64 (mn : Int)] W fun e w' => ∃ b, e = .returned (.tuple #[.pointer (some ⟨b, 0, none⟩), .int .i64 0]) ∧ Same W w') :
    Calls Try.prog 3 #[.int .i64 (pn : Int), .int .i64 (mn : Int), .slice ia L.length ic] w fun e w' => e = .returned (.bool true) ∧ Same w w' := by
  refine calls_abs (c := cDV) Try.func3 (by kernel_rfl) 79 rfl (by simp) (fun a0 hsz hd ha => ?_)
  have fa0_0 := Fe.refl a0
  unfold cDV
  refine wp_seq ?_
  refine wp_region_list ?_
  unfold rDV0
  refine fa0_0.move 6 (.bool false) _ (Or.inr rfl) rfl (lb_ hsz) (wanted_none rfl) rfl (fun a0_1 fa0_1 => ?_)
  clear fa0_0
  refine wpList_nil ?_
  change Code.wp _ _ _ _ _
  refine wp_seq ?_
  refine wp_region_list ?_
  unfold rDV1
  refine fa0_1.move 16 (.int .i64 (pn : Int)) _ (Or.inl rfl) rfl (lb_ hsz) (wanted_none rfl) ((fa0_1.at_ 0).trans (ha 0 _ rfl)) (fun a0_2 fa0_2 => ?_)
  clear fa0_1
  refine fa0_2.move 17 (.int .i64 (mn : Int)) _ (Or.inl rfl) rfl (lb_ hsz) (wanted_none rfl) ((fa0_2.at_ 1).trans (ha 1 _ rfl)) (fun a0_3 fa0_3 => ?_)
  clear fa0_2
  refine fa0_3.move 18 (.slice ia L.length ic) _ (Or.inl rfl) rfl (lb_ hsz) (wanted_none rfl) ((fa0_3.at_ 2).trans (ha 2 _ rfl)) (fun a0_4 fa0_4 => ?_)
  clear fa0_3
  have r_a0_5 : (execOp a0_4.eval { dst := some 19, op := Op.call { callee := Callee.value (Operand.func 4), args := #[Operand.tmp 16, Operand.tmp 17, Operand.tmp 18], argTypes := #[3, 3, 22] }, type := 25, pos := "law.go:352", after := #[{ on := 0, ground := Ground.data }, { on := 1, ground := Ground.data }, { on := 2, ground := Ground.data }], guard := none }).run Try.prog (w) = .ok (.enter 4 #[.int .i64 (pn : Int), .int .i64 (mn : Int), .slice ia L.length ic]) (w) := by
    have kf : ∀ f, a0_4.eval (.func f) = .func (.func f) #[] #[] := fun _ => rfl
    have e16 := (show a0_4.eval (.tmp 16) = .int .i64 (pn : Int) from (fa0_4.at_ 16))
    have e17 := (show a0_4.eval (.tmp 17) = .int .i64 (mn : Int) from (fa0_4.at_ 17))
    have e18 := (show a0_4.eval (.tmp 18) = .slice ia L.length ic from (fa0_4.at_ 18))
    clear fa0_4 ha hr hp hg hq hT hl
    generalize a0_4.eval = ρ at *
    go_simp
  refine fa0_4.call 19 rfl (lb_ hsz) (wanted_none rfl) r_a0_5 (hr w (Fr.refl _ w)) (fun e W1 hR => ?_)
  obtain ⟨rb, rfl, dR, s1⟩ := hR
  clear r_a0_5
  refine ⟨_, rfl, fun a0_5 fa0_5 => ?_⟩
  clear fa0_4
  refine fa0_5.move 15 (.tuple #[.pointer (some ⟨rb, 0, none⟩), .int .i64 0]) _ (Or.inl rfl) rfl (lb_ hsz) (wanted_none rfl) (fa0_5.at_ 19) (fun a0_6 fa0_6 => ?_)
  clear fa0_5
  have r_a0_7 : (execOp a0_6.eval { dst := some 20, op := Op.extract (Operand.tmp 15) 0, type := 23, pos := "law.go:352", after := #[{ on := 4, ground := Ground.data }], guard := none }).run Try.prog (W1) = .ok (.value (.pointer (some ⟨rb, 0, none⟩))) (W1) := by
    have e15 := (show a0_6.eval (.tmp 15) = .tuple #[.pointer (some ⟨rb, 0, none⟩), .int .i64 0] from (fa0_6.at_ 15))
    clear fa0_6 ha hr hp hg hq hT hl
    generalize a0_6.eval = ρ at *
    go_simp
  refine fa0_6.step 20 (.pointer (some ⟨rb, 0, none⟩)) rfl (lb_ hsz) (wanted_none rfl) r_a0_7 (fun a0_7 fa0_7 => ?_)
  clear r_a0_7
  clear fa0_6
  have r_a0_8 : (execOp a0_7.eval { dst := some 21, op := Op.extract (Operand.tmp 15) 1, type := 24, pos := "law.go:352", after := #[{ on := 4, ground := Ground.data }, { on := 7, ground := Ground.gcOnly Go.Departure.lateStores }], guard := none }).run Try.prog (W1) = .ok (.value (.int .i64 0)) (W1) := by
    have e15 := (show a0_7.eval (.tmp 15) = .tuple #[.pointer (some ⟨rb, 0, none⟩), .int .i64 0] from (fa0_7.at_ 15))
    clear fa0_7 ha hr hp hg hq hT hl
    generalize a0_7.eval = ρ at *
    go_simp
  refine fa0_7.step 21 (.int .i64 0) rfl (lb_ hsz) (wanted_none rfl) r_a0_8 (fun a0_8 fa0_8 => ?_)
  clear r_a0_8
  clear fa0_7
  refine fa0_8.move 7 (.pointer (some ⟨rb, 0, none⟩)) _ (Or.inr rfl) rfl (lb_ hsz) (wanted_none rfl) (fa0_8.at_ 20) (fun a0_9 fa0_9 => ?_)
  clear fa0_8
  refine fa0_9.move 8 (.int .i64 0) _ (Or.inr rfl) rfl (lb_ hsz) (wanted_none rfl) (fa0_9.at_ 21) (fun a0_10 fa0_10 => ?_)
  clear fa0_9
  refine wpList_nil ?_
  change Code.wp _ _ _ _ _
  refine wp_seq ?_
  have t1 := s1
  refine wp_region_list ?_
  unfold rDV2
  refine fa0_10.move 23 (.int .i64 (pn : Int)) _ (Or.inl rfl) rfl (lb_ hsz) (wanted_none rfl) ((fa0_10.at_ 0).trans (ha 0 _ rfl)) (fun a0_11 fa0_11 => ?_)
  clear fa0_10
  refine fa0_11.move 24 (.int .i64 (mn : Int)) _ (Or.inl rfl) rfl (lb_ hsz) (wanted_none rfl) ((fa0_11.at_ 1).trans (ha 1 _ rfl)) (fun a0_12 fa0_12 => ?_)
  clear fa0_11
  refine fa0_12.move 25 (.slice ia L.length ic) _ (Or.inl rfl) rfl (lb_ hsz) (wanted_none rfl) ((fa0_12.at_ 2).trans (ha 2 _ rfl)) (fun a0_13 fa0_13 => ?_)
  clear fa0_12
  have r_a0_14 : (execOp a0_13.eval { dst := some 26, op := Op.call { callee := Callee.value (Operand.func 5), args := #[Operand.tmp 23, Operand.tmp 24, Operand.tmp 25], argTypes := #[3, 3, 22] }, type := 28, pos := "law.go:353", after := #[{ on := 0, ground := Ground.data }, { on := 1, ground := Ground.data }, { on := 2, ground := Ground.data }], guard := none }).run Try.prog (W1) = .ok (.enter 5 #[.int .i64 (pn : Int), .int .i64 (mn : Int), .slice ia L.length ic]) (W1) := by
    have kf : ∀ f, a0_13.eval (.func f) = .func (.func f) #[] #[] := fun _ => rfl
    have e23 := (show a0_13.eval (.tmp 23) = .int .i64 (pn : Int) from (fa0_13.at_ 23))
    have e24 := (show a0_13.eval (.tmp 24) = .int .i64 (mn : Int) from (fa0_13.at_ 24))
    have e25 := (show a0_13.eval (.tmp 25) = .slice ia L.length ic from (fa0_13.at_ 25))
    clear fa0_13 ha hr hp hg hq hT hl
    generalize a0_13.eval = ρ at *
    go_simp
  refine fa0_13.call 26 rfl (lb_ hsz) (wanted_none rfl) r_a0_14 (hp W1 t1) (fun e W2 hR => ?_)
  obtain ⟨pb1, U, rfl, dP, s2⟩ := hR
  clear r_a0_14
  refine ⟨_, rfl, fun a0_14 fa0_14 => ?_⟩
  clear fa0_13
  refine fa0_14.move 22 (.tuple #[.pointer (some ⟨pb1, 0, none⟩), .int .i64 0]) _ (Or.inl rfl) rfl (lb_ hsz) (wanted_none rfl) (fa0_14.at_ 26) (fun a0_15 fa0_15 => ?_)
  clear fa0_14
  have r_a0_16 : (execOp a0_15.eval { dst := some 27, op := Op.extract (Operand.tmp 22) 0, type := 27, pos := "law.go:353", after := #[{ on := 4, ground := Ground.data }], guard := none }).run Try.prog (W2) = .ok (.value (.pointer (some ⟨pb1, 0, none⟩))) (W2) := by
    have e22 := (show a0_15.eval (.tmp 22) = .tuple #[.pointer (some ⟨pb1, 0, none⟩), .int .i64 0] from (fa0_15.at_ 22))
    clear fa0_15 ha hr hp hg hq hT hl
    generalize a0_15.eval = ρ at *
    go_simp
  refine fa0_15.step 27 (.pointer (some ⟨pb1, 0, none⟩)) rfl (lb_ hsz) (wanted_none rfl) r_a0_16 (fun a0_16 fa0_16 => ?_)
  clear r_a0_16
  clear fa0_15
  have r_a0_17 : (execOp a0_16.eval { dst := some 28, op := Op.extract (Operand.tmp 22) 1, type := 24, pos := "law.go:353", after := #[{ on := 4, ground := Ground.data }, { on := 7, ground := Ground.gcOnly Go.Departure.lateStores }], guard := none }).run Try.prog (W2) = .ok (.value (.int .i64 0)) (W2) := by
    have e22 := (show a0_16.eval (.tmp 22) = .tuple #[.pointer (some ⟨pb1, 0, none⟩), .int .i64 0] from (fa0_16.at_ 22))
    clear fa0_16 ha hr hp hg hq hT hl
    generalize a0_16.eval = ρ at *
    go_simp
  refine fa0_16.step 28 (.int .i64 0) rfl (lb_ hsz) (wanted_none rfl) r_a0_17 (fun a0_17 fa0_17 => ?_)
  clear r_a0_17
  clear fa0_16
  refine fa0_17.move 9 (.pointer (some ⟨pb1, 0, none⟩)) _ (Or.inr rfl) rfl (lb_ hsz) (wanted_none rfl) (fa0_17.at_ 27) (fun a0_18 fa0_18 => ?_)
  clear fa0_17
  refine fa0_18.move 10 (.int .i64 0) _ (Or.inr rfl) rfl (lb_ hsz) (wanted_none rfl) (fa0_18.at_ 28) (fun a0_19 fa0_19 => ?_)
  clear fa0_18
  refine wpList_nil ?_
  change Code.wp _ _ _ _ _
  refine wp_seq ?_
  have t2 := t1.trans s2
  refine wp_region_list ?_
  unfold rDV3
  refine fa0_19.move 30 (.int .i64 (pn : Int)) _ (Or.inl rfl) rfl (lb_ hsz) (wanted_none rfl) ((fa0_19.at_ 0).trans (ha 0 _ rfl)) (fun a0_20 fa0_20 => ?_)
  clear fa0_19
  refine fa0_20.move 31 (.int .i64 (mn : Int)) _ (Or.inl rfl) rfl (lb_ hsz) (wanted_none rfl) ((fa0_20.at_ 1).trans (ha 1 _ rfl)) (fun a0_21 fa0_21 => ?_)
  clear fa0_20
  have r_a0_22 : (execOp a0_21.eval { dst := some 32, op := Op.call { callee := Callee.value (Operand.func 4), args := #[Operand.tmp 30, Operand.tmp 31, Operand.const (Value.slice none 0 0)], argTypes := #[3, 3, 22] }, type := 25, pos := "law.go:354", after := #[{ on := 0, ground := Ground.data }, { on := 1, ground := Ground.data }], guard := none }).run Try.prog (W2) = .ok (.enter 4 #[.int .i64 (pn : Int), .int .i64 (mn : Int), Value.slice none 0 0]) (W2) := by
    have kc : ∀ v, a0_21.eval (.const v) = v := fun _ => rfl
    have kf : ∀ f, a0_21.eval (.func f) = .func (.func f) #[] #[] := fun _ => rfl
    have e30 := (show a0_21.eval (.tmp 30) = .int .i64 (pn : Int) from (fa0_21.at_ 30))
    have e31 := (show a0_21.eval (.tmp 31) = .int .i64 (mn : Int) from (fa0_21.at_ 31))
    clear fa0_21 ha hr hp hg hq hT hl
    generalize a0_21.eval = ρ at *
    go_simp
  refine fa0_21.call 32 rfl (lb_ hsz) (wanted_none rfl) r_a0_22 (hg W2 t2) (fun e W3 hR => ?_)
  obtain ⟨gb, rfl, s3⟩ := hR
  clear r_a0_22
  refine ⟨_, rfl, fun a0_22 fa0_22 => ?_⟩
  clear fa0_21
  refine fa0_22.move 29 (.tuple #[.pointer (some ⟨gb, 0, none⟩), .int .i64 0]) _ (Or.inl rfl) rfl (lb_ hsz) (wanted_none rfl) (fa0_22.at_ 32) (fun a0_23 fa0_23 => ?_)
  clear fa0_22
  have r_a0_24 : (execOp a0_23.eval { dst := some 33, op := Op.extract (Operand.tmp 29) 0, type := 23, pos := "law.go:354", after := #[{ on := 3, ground := Ground.data }], guard := none }).run Try.prog (W3) = .ok (.value (.pointer (some ⟨gb, 0, none⟩))) (W3) := by
    have e29 := (show a0_23.eval (.tmp 29) = .tuple #[.pointer (some ⟨gb, 0, none⟩), .int .i64 0] from (fa0_23.at_ 29))
    clear fa0_23 ha hr hp hg hq hT hl
    generalize a0_23.eval = ρ at *
    go_simp
  refine fa0_23.step 33 (.pointer (some ⟨gb, 0, none⟩)) rfl (lb_ hsz) (wanted_none rfl) r_a0_24 (fun a0_24 fa0_24 => ?_)
  clear r_a0_24
  clear fa0_23
  have r_a0_25 : (execOp a0_24.eval { dst := some 34, op := Op.extract (Operand.tmp 29) 1, type := 24, pos := "law.go:354", after := #[{ on := 3, ground := Ground.data }, { on := 6, ground := Ground.gcOnly Go.Departure.lateStores }], guard := none }).run Try.prog (W3) = .ok (.value (.int .i64 0)) (W3) := by
    have e29 := (show a0_24.eval (.tmp 29) = .tuple #[.pointer (some ⟨gb, 0, none⟩), .int .i64 0] from (fa0_24.at_ 29))
    clear fa0_24 ha hr hp hg hq hT hl
    generalize a0_24.eval = ρ at *
    go_simp
  refine fa0_24.step 34 (.int .i64 0) rfl (lb_ hsz) (wanted_none rfl) r_a0_25 (fun a0_25 fa0_25 => ?_)
  clear r_a0_25
  clear fa0_24
  refine fa0_25.move 11 (.pointer (some ⟨gb, 0, none⟩)) _ (Or.inr rfl) rfl (lb_ hsz) (wanted_none rfl) (fa0_25.at_ 33) (fun a0_26 fa0_26 => ?_)
  clear fa0_25
  refine fa0_26.move 12 (.int .i64 0) _ (Or.inr rfl) rfl (lb_ hsz) (wanted_none rfl) (fa0_26.at_ 34) (fun a0_27 fa0_27 => ?_)
  clear fa0_26
  refine wpList_nil ?_
  change Code.wp _ _ _ _ _
  refine wp_seq ?_
  have t3 := t2.trans s3
  refine wp_region_list ?_
  unfold rDV4
  refine fa0_27.move 36 (.int .i64 (pn : Int)) _ (Or.inl rfl) rfl (lb_ hsz) (wanted_none rfl) ((fa0_27.at_ 0).trans (ha 0 _ rfl)) (fun a0_28 fa0_28 => ?_)
  clear fa0_27
  refine fa0_28.move 37 (.int .i64 (mn : Int)) _ (Or.inl rfl) rfl (lb_ hsz) (wanted_none rfl) ((fa0_28.at_ 1).trans (ha 1 _ rfl)) (fun a0_29 fa0_29 => ?_)
  clear fa0_28
  have r_a0_30 : (execOp a0_29.eval { dst := some 38, op := Op.call { callee := Callee.value (Operand.func 6), args := #[Operand.tmp 36, Operand.tmp 37], argTypes := #[3, 3] }, type := 28, pos := "law.go:355", after := #[{ on := 0, ground := Ground.data }, { on := 1, ground := Ground.data }], guard := none }).run Try.prog (W3) = .ok (.enter 6 #[.int .i64 (pn : Int), .int .i64 (mn : Int)]) (W3) := by
    have kf : ∀ f, a0_29.eval (.func f) = .func (.func f) #[] #[] := fun _ => rfl
    have e36 := (show a0_29.eval (.tmp 36) = .int .i64 (pn : Int) from (fa0_29.at_ 36))
    have e37 := (show a0_29.eval (.tmp 37) = .int .i64 (mn : Int) from (fa0_29.at_ 37))
    clear fa0_29 ha hr hp hg hq hT hl
    generalize a0_29.eval = ρ at *
    go_simp
  refine fa0_29.call 38 rfl (lb_ hsz) (wanted_none rfl) r_a0_30 (hq W3 t3) (fun e W4 hR => ?_)
  obtain ⟨qb, rfl, s4⟩ := hR
  clear r_a0_30
  refine ⟨_, rfl, fun a0_30 fa0_30 => ?_⟩
  clear fa0_29
  refine fa0_30.move 35 (.tuple #[.pointer (some ⟨qb, 0, none⟩), .int .i64 0]) _ (Or.inl rfl) rfl (lb_ hsz) (wanted_none rfl) (fa0_30.at_ 38) (fun a0_31 fa0_31 => ?_)
  clear fa0_30
  have r_a0_32 : (execOp a0_31.eval { dst := some 39, op := Op.extract (Operand.tmp 35) 0, type := 27, pos := "law.go:355", after := #[{ on := 3, ground := Ground.data }], guard := none }).run Try.prog (W4) = .ok (.value (.pointer (some ⟨qb, 0, none⟩))) (W4) := by
    have e35 := (show a0_31.eval (.tmp 35) = .tuple #[.pointer (some ⟨qb, 0, none⟩), .int .i64 0] from (fa0_31.at_ 35))
    clear fa0_31 ha hr hp hg hq hT hl
    generalize a0_31.eval = ρ at *
    go_simp
  refine fa0_31.step 39 (.pointer (some ⟨qb, 0, none⟩)) rfl (lb_ hsz) (wanted_none rfl) r_a0_32 (fun a0_32 fa0_32 => ?_)
  clear r_a0_32
  clear fa0_31
  have r_a0_33 : (execOp a0_32.eval { dst := some 40, op := Op.extract (Operand.tmp 35) 1, type := 24, pos := "law.go:355", after := #[{ on := 3, ground := Ground.data }, { on := 6, ground := Ground.gcOnly Go.Departure.lateStores }], guard := none }).run Try.prog (W4) = .ok (.value (.int .i64 0)) (W4) := by
    have e35 := (show a0_32.eval (.tmp 35) = .tuple #[.pointer (some ⟨qb, 0, none⟩), .int .i64 0] from (fa0_32.at_ 35))
    clear fa0_32 ha hr hp hg hq hT hl
    generalize a0_32.eval = ρ at *
    go_simp
  refine fa0_32.step 40 (.int .i64 0) rfl (lb_ hsz) (wanted_none rfl) r_a0_33 (fun a0_33 fa0_33 => ?_)
  clear r_a0_33
  clear fa0_32
  refine fa0_33.move 13 (.pointer (some ⟨qb, 0, none⟩)) _ (Or.inr rfl) rfl (lb_ hsz) (wanted_none rfl) (fa0_33.at_ 39) (fun a0_34 fa0_34 => ?_)
  clear fa0_33
  refine fa0_34.move 14 (.int .i64 0) _ (Or.inr rfl) rfl (lb_ hsz) (wanted_none rfl) (fa0_34.at_ 40) (fun a0_35 fa0_35 => ?_)
  clear fa0_34
  refine wpList_nil ?_
  change Code.wp _ _ _ _ _
  refine wp_seq (wp_seq ?_)
  have t4 := t3.trans s4
  refine wp_region_list ?_
  unfold rDV5
  refine fa0_35.move 41 (.int .i64 0) _ (Or.inl rfl) rfl (lb_ hsz) (wanted_none rfl) (fa0_35.at_ 10) (fun a0_36 fa0_36 => ?_)
  clear fa0_35
  refine fa0_36.move 42 (.int .i64 0) _ (Or.inl rfl) rfl (lb_ hsz) (wanted_none rfl) (fa0_36.at_ 8) (fun a0_37 fa0_37 => ?_)
  clear fa0_36
  have r_a0_38 : (execOp a0_37.eval { dst := some 43, op := Op.binOp BinOp.neq 24 (Operand.tmp 41) (Operand.tmp 42) 24, type := 4, pos := "law.go:356", after := #[{ on := 0, ground := Ground.data }, { on := 1, ground := Ground.data }], guard := none }).run Try.prog (W4) = .ok (.value (.bool false)) (W4) := by
    have e41 := (show a0_37.eval (.tmp 41) = .int .i64 0 from (fa0_37.at_ 41))
    have e42 := (show a0_37.eval (.tmp 42) = .int .i64 0 from (fa0_37.at_ 42))
    clear fa0_37 ha hr hp hg hq hT hl
    generalize a0_37.eval = ρ at *
    go_simp
  refine fa0_37.step 43 (.bool false) rfl (lb_ hsz) (wanted_none rfl) r_a0_38 (fun a0_38 fa0_38 => ?_)
  clear r_a0_38
  clear fa0_37
  refine fa0_38.move 44 (.bool false) _ (Or.inl rfl) rfl (lb_ hsz) (wanted_none rfl) (fa0_38.at_ 43) (fun a0_39 fa0_39 => ?_)
  clear fa0_38
  refine fa0_39.move 45 (.pointer (some ⟨pb1, 0, none⟩)) _ (Or.inl rfl) rfl (lb_ hsz) ((wanted_at (t := 44) (c := false) (b := false) rfl rfl rfl (lb_ (fa0_39.size.trans hsz)) (fa0_39.at_ 44)).trans (by rfl)) (fa0_39.at_ 9) (fun a0_40 fa0_40 => ?_)
  clear fa0_39
  have r_a0_41 : (execOp a0_40.eval { dst := some 46, op := Op.binOp BinOp.eql 27 (Operand.tmp 45) (Operand.const (Value.pointer none)) 27, type := 4, pos := "law.go:356", after := #[{ on := 4, ground := Ground.data }, { on := 3, ground := Ground.guard }], guard := some (3, false) }).run Try.prog (W4) = .ok (.value (.bool false)) (W4) := by
    have kc : ∀ v, a0_40.eval (.const v) = v := fun _ => rfl
    have e45 := (show a0_40.eval (.tmp 45) = .pointer (some ⟨pb1, 0, none⟩) from (fa0_40.at_ 45))
    clear fa0_40 ha hr hp hg hq hT hl
    generalize a0_40.eval = ρ at *
    go_simp
  refine fa0_40.step 46 (.bool false) rfl (lb_ hsz) ((wanted_at (t := 44) (c := false) (b := false) rfl rfl rfl (lb_ (fa0_40.size.trans hsz)) (fa0_40.at_ 44)).trans (by rfl)) r_a0_41 (fun a0_41 fa0_41 => ?_)
  clear r_a0_41
  clear fa0_40
  refine fa0_41.move 47 (.pointer (some ⟨rb, 0, none⟩)) _ (Or.inl rfl) rfl (lb_ hsz) ((wanted_at (t := 44) (c := false) (b := false) rfl rfl rfl (lb_ (fa0_41.size.trans hsz)) (fa0_41.at_ 44)).trans (by rfl)) (fa0_41.at_ 7) (fun a0_42 fa0_42 => ?_)
  clear fa0_41
  have r_a0_43 : (execOp a0_42.eval { dst := some 48, op := Op.binOp BinOp.eql 23 (Operand.tmp 47) (Operand.const (Value.pointer none)) 23, type := 4, pos := "law.go:356", after := #[{ on := 6, ground := Ground.data }, { on := 3, ground := Ground.guard }], guard := some (3, false) }).run Try.prog (W4) = .ok (.value (.bool false)) (W4) := by
    have kc : ∀ v, a0_42.eval (.const v) = v := fun _ => rfl
    have e47 := (show a0_42.eval (.tmp 47) = .pointer (some ⟨rb, 0, none⟩) from (fa0_42.at_ 47))
    clear fa0_42 ha hr hp hg hq hT hl
    generalize a0_42.eval = ρ at *
    go_simp
  refine fa0_42.step 48 (.bool false) rfl (lb_ hsz) ((wanted_at (t := 44) (c := false) (b := false) rfl rfl rfl (lb_ (fa0_42.size.trans hsz)) (fa0_42.at_ 44)).trans (by rfl)) r_a0_43 (fun a0_43 fa0_43 => ?_)
  clear r_a0_43
  clear fa0_42
  have r_a0_44 : (execOp a0_43.eval { dst := some 49, op := Op.binOp BinOp.neq 4 (Operand.tmp 46) (Operand.tmp 48) 4, type := 4, pos := "law.go:356", after := #[{ on := 5, ground := Ground.data }, { on := 7, ground := Ground.data }, { on := 3, ground := Ground.guard }], guard := some (3, false) }).run Try.prog (W4) = .ok (.value (.bool false)) (W4) := by
    have e46 := (show a0_43.eval (.tmp 46) = .bool false from (fa0_43.at_ 46))
    have e48 := (show a0_43.eval (.tmp 48) = .bool false from (fa0_43.at_ 48))
    clear fa0_43 ha hr hp hg hq hT hl
    generalize a0_43.eval = ρ at *
    go_simp
  refine fa0_43.step 49 (.bool false) rfl (lb_ hsz) ((wanted_at (t := 44) (c := false) (b := false) rfl rfl rfl (lb_ (fa0_43.size.trans hsz)) (fa0_43.at_ 44)).trans (by rfl)) r_a0_44 (fun a0_44 fa0_44 => ?_)
  clear r_a0_44
  clear fa0_43
  have r_a0_45 : (execOp a0_44.eval { dst := some 50, op := Op.pick (Operand.tmp 44) (Operand.const (Value.bool true)) (Operand.tmp 49), type := 4, pos := "law.go:356", after := #[{ on := 3, ground := Ground.data }, { on := 8, ground := Ground.data }], guard := none }).run Try.prog (W4) = .ok (.value (.bool false)) (W4) := by
    have kc : ∀ v, a0_44.eval (.const v) = v := fun _ => rfl
    have e44 := (show a0_44.eval (.tmp 44) = .bool false from (fa0_44.at_ 44))
    have e49 := (show a0_44.eval (.tmp 49) = .bool false from (fa0_44.at_ 49))
    clear fa0_44 ha hr hp hg hq hT hl
    generalize a0_44.eval = ρ at *
    go_simp
  refine fa0_44.step 50 (.bool false) rfl (lb_ hsz) (wanted_none rfl) r_a0_45 (fun a0_45 fa0_45 => ?_)
  clear r_a0_45
  clear fa0_44
  refine fa0_45.move 51 (.bool false) _ (Or.inl rfl) rfl (lb_ hsz) (wanted_none rfl) (fa0_45.at_ 50) (fun a0_46 fa0_46 => ?_)
  clear fa0_45
  refine fa0_46.move 52 (.int .i64 0) _ (Or.inl rfl) rfl (lb_ hsz) ((wanted_at (t := 51) (c := false) (b := false) rfl rfl rfl (lb_ (fa0_46.size.trans hsz)) (fa0_46.at_ 51)).trans (by rfl)) (fa0_46.at_ 14) (fun a0_47 fa0_47 => ?_)
  clear fa0_46
  refine fa0_47.move 53 (.int .i64 0) _ (Or.inl rfl) rfl (lb_ hsz) ((wanted_at (t := 51) (c := false) (b := false) rfl rfl rfl (lb_ (fa0_47.size.trans hsz)) (fa0_47.at_ 51)).trans (by rfl)) (fa0_47.at_ 12) (fun a0_48 fa0_48 => ?_)
  clear fa0_47
  have r_a0_49 : (execOp a0_48.eval { dst := some 54, op := Op.binOp BinOp.neq 24 (Operand.tmp 52) (Operand.tmp 53) 24, type := 4, pos := "law.go:356", after := #[{ on := 11, ground := Ground.data }, { on := 12, ground := Ground.data }, { on := 10, ground := Ground.guard }], guard := some (10, false) }).run Try.prog (W4) = .ok (.value (.bool false)) (W4) := by
    have e52 := (show a0_48.eval (.tmp 52) = .int .i64 0 from (fa0_48.at_ 52))
    have e53 := (show a0_48.eval (.tmp 53) = .int .i64 0 from (fa0_48.at_ 53))
    clear fa0_48 ha hr hp hg hq hT hl
    generalize a0_48.eval = ρ at *
    go_simp
  refine fa0_48.step 54 (.bool false) rfl (lb_ hsz) ((wanted_at (t := 51) (c := false) (b := false) rfl rfl rfl (lb_ (fa0_48.size.trans hsz)) (fa0_48.at_ 51)).trans (by rfl)) r_a0_49 (fun a0_49 fa0_49 => ?_)
  clear r_a0_49
  clear fa0_48
  have r_a0_50 : (execOp a0_49.eval { dst := some 55, op := Op.pick (Operand.tmp 51) (Operand.const (Value.bool true)) (Operand.tmp 54), type := 4, pos := "law.go:356", after := #[{ on := 10, ground := Ground.data }, { on := 13, ground := Ground.data }], guard := none }).run Try.prog (W4) = .ok (.value (.bool false)) (W4) := by
    have kc : ∀ v, a0_49.eval (.const v) = v := fun _ => rfl
    have e51 := (show a0_49.eval (.tmp 51) = .bool false from (fa0_49.at_ 51))
    have e54 := (show a0_49.eval (.tmp 54) = .bool false from (fa0_49.at_ 54))
    clear fa0_49 ha hr hp hg hq hT hl
    generalize a0_49.eval = ρ at *
    go_simp
  refine fa0_49.step 55 (.bool false) rfl (lb_ hsz) (wanted_none rfl) r_a0_50 (fun a0_50 fa0_50 => ?_)
  clear r_a0_50
  clear fa0_49
  refine fa0_50.move 56 (.bool false) _ (Or.inl rfl) rfl (lb_ hsz) (wanted_none rfl) (fa0_50.at_ 55) (fun a0_51 fa0_51 => ?_)
  clear fa0_50
  refine fa0_51.move 57 (.pointer (some ⟨qb, 0, none⟩)) _ (Or.inl rfl) rfl (lb_ hsz) ((wanted_at (t := 56) (c := false) (b := false) rfl rfl rfl (lb_ (fa0_51.size.trans hsz)) (fa0_51.at_ 56)).trans (by rfl)) (fa0_51.at_ 13) (fun a0_52 fa0_52 => ?_)
  clear fa0_51
  have r_a0_53 : (execOp a0_52.eval { dst := some 58, op := Op.binOp BinOp.eql 27 (Operand.tmp 57) (Operand.const (Value.pointer none)) 27, type := 4, pos := "law.go:356", after := #[{ on := 16, ground := Ground.data }, { on := 15, ground := Ground.guard }], guard := some (15, false) }).run Try.prog (W4) = .ok (.value (.bool false)) (W4) := by
    have kc : ∀ v, a0_52.eval (.const v) = v := fun _ => rfl
    have e57 := (show a0_52.eval (.tmp 57) = .pointer (some ⟨qb, 0, none⟩) from (fa0_52.at_ 57))
    clear fa0_52 ha hr hp hg hq hT hl
    generalize a0_52.eval = ρ at *
    go_simp
  refine fa0_52.step 58 (.bool false) rfl (lb_ hsz) ((wanted_at (t := 56) (c := false) (b := false) rfl rfl rfl (lb_ (fa0_52.size.trans hsz)) (fa0_52.at_ 56)).trans (by rfl)) r_a0_53 (fun a0_53 fa0_53 => ?_)
  clear r_a0_53
  clear fa0_52
  refine fa0_53.move 59 (.int .i64 0) _ (Or.inl rfl) rfl (lb_ hsz) ((wanted_at (t := 56) (c := false) (b := false) rfl rfl rfl (lb_ (fa0_53.size.trans hsz)) (fa0_53.at_ 56)).trans (by rfl)) (fa0_53.at_ 12) (fun a0_54 fa0_54 => ?_)
  clear fa0_53
  have r_a0_55 : (execOp a0_54.eval { dst := some 60, op := Op.binOp BinOp.neq 24 (Operand.tmp 59) (Operand.const (Value.int IntKind.i64 0)) 24, type := 4, pos := "law.go:356", after := #[{ on := 18, ground := Ground.data }, { on := 15, ground := Ground.guard }], guard := some (15, false) }).run Try.prog (W4) = .ok (.value (.bool false)) (W4) := by
    have kc : ∀ v, a0_54.eval (.const v) = v := fun _ => rfl
    have e59 := (show a0_54.eval (.tmp 59) = .int .i64 0 from (fa0_54.at_ 59))
    clear fa0_54 ha hr hp hg hq hT hl
    generalize a0_54.eval = ρ at *
    go_simp
  refine fa0_54.step 60 (.bool false) rfl (lb_ hsz) ((wanted_at (t := 56) (c := false) (b := false) rfl rfl rfl (lb_ (fa0_54.size.trans hsz)) (fa0_54.at_ 56)).trans (by rfl)) r_a0_55 (fun a0_55 fa0_55 => ?_)
  clear r_a0_55
  clear fa0_54
  have r_a0_56 : (execOp a0_55.eval { dst := some 61, op := Op.binOp BinOp.neq 4 (Operand.tmp 58) (Operand.tmp 60) 4, type := 4, pos := "law.go:356", after := #[{ on := 17, ground := Ground.data }, { on := 19, ground := Ground.data }, { on := 15, ground := Ground.guard }], guard := some (15, false) }).run Try.prog (W4) = .ok (.value (.bool false)) (W4) := by
    have e58 := (show a0_55.eval (.tmp 58) = .bool false from (fa0_55.at_ 58))
    have e60 := (show a0_55.eval (.tmp 60) = .bool false from (fa0_55.at_ 60))
    clear fa0_55 ha hr hp hg hq hT hl
    generalize a0_55.eval = ρ at *
    go_simp
  refine fa0_55.step 61 (.bool false) rfl (lb_ hsz) ((wanted_at (t := 56) (c := false) (b := false) rfl rfl rfl (lb_ (fa0_55.size.trans hsz)) (fa0_55.at_ 56)).trans (by rfl)) r_a0_56 (fun a0_56 fa0_56 => ?_)
  clear r_a0_56
  clear fa0_55
  have r_a0_57 : (execOp a0_56.eval { dst := some 62, op := Op.pick (Operand.tmp 56) (Operand.const (Value.bool true)) (Operand.tmp 61), type := 4, pos := "law.go:356", after := #[{ on := 15, ground := Ground.data }, { on := 20, ground := Ground.data }], guard := none }).run Try.prog (W4) = .ok (.value (.bool false)) (W4) := by
    have kc : ∀ v, a0_56.eval (.const v) = v := fun _ => rfl
    have e56 := (show a0_56.eval (.tmp 56) = .bool false from (fa0_56.at_ 56))
    have e61 := (show a0_56.eval (.tmp 61) = .bool false from (fa0_56.at_ 61))
    clear fa0_56 ha hr hp hg hq hT hl
    generalize a0_56.eval = ρ at *
    go_simp
  refine fa0_56.step 62 (.bool false) rfl (lb_ hsz) (wanted_none rfl) r_a0_57 (fun a0_57 fa0_57 => ?_)
  clear r_a0_57
  clear fa0_56
  refine wpList_nil ?_
  change Code.wp _ _ _ _ _
  refine wp_cond_false (show a0_57.eval (.tmp 62) = .bool false from (fa0_57.at_ 62)) (wp_skip ?_)
  change Code.wp _ _ _ _ _
  refine wp_seq (wp_seq ?_)
  have dP4 := dP.same (s3.trans s4)
  have dR4 := dR.same (s2.trans (s3.trans s4))
  refine wp_region_list ?_
  unfold rDV7
  refine fa0_57.move 63 (.pointer (some ⟨pb1, 0, none⟩)) _ (Or.inl rfl) rfl (lb_ hsz) (wanted_none rfl) (fa0_57.at_ 9) (fun a0_58 fa0_58 => ?_)
  clear fa0_57
  have r_a0_59 : (execOp a0_58.eval { dst := some 64, op := Op.binOp BinOp.neq 27 (Operand.tmp 63) (Operand.const (Value.pointer none)) 27, type := 4, pos := "law.go:359", after := #[{ on := 0, ground := Ground.data }], guard := none }).run Try.prog (W4) = .ok (.value (.bool true)) (W4) := by
    have kc : ∀ v, a0_58.eval (.const v) = v := fun _ => rfl
    have e63 := (show a0_58.eval (.tmp 63) = .pointer (some ⟨pb1, 0, none⟩) from (fa0_58.at_ 63))
    clear fa0_58 ha hr hp hg hq hT hl
    generalize a0_58.eval = ρ at *
    go_simp
  refine fa0_58.step 64 (.bool true) rfl (lb_ hsz) (wanted_none rfl) r_a0_59 (fun a0_59 fa0_59 => ?_)
  clear r_a0_59
  clear fa0_58
  refine fa0_59.move 65 (.bool true) _ (Or.inl rfl) rfl (lb_ hsz) (wanted_none rfl) (fa0_59.at_ 64) (fun a0_60 fa0_60 => ?_)
  clear fa0_59
  refine fa0_60.move 66 (.pointer (some ⟨pb1, 0, none⟩)) _ (Or.inl rfl) rfl (lb_ hsz) ((wanted_at (t := 65) (c := true) (b := true) rfl rfl rfl (lb_ (fa0_60.size.trans hsz)) (fa0_60.at_ 65)).trans (by rfl)) (fa0_60.at_ 9) (fun a0_61 fa0_61 => ?_)
  clear fa0_60
  refine fa0_61.move 67 (.pointer (some ⟨rb, 0, none⟩)) _ (Or.inl rfl) rfl (lb_ hsz) ((wanted_at (t := 65) (c := true) (b := true) rfl rfl rfl (lb_ (fa0_61.size.trans hsz)) (fa0_61.at_ 65)).trans (by rfl)) (fa0_61.at_ 7) (fun a0_62 fa0_62 => ?_)
  clear fa0_61
  have r_a0_63 : (execOp a0_62.eval { dst := some 68, op := Op.call { callee := Callee.value (Operand.func 7), args := #[Operand.tmp 66, Operand.tmp 67], argTypes := #[27, 23] }, type := 4, pos := "law.go:359", after := #[{ on := 3, ground := Ground.data }, { on := 4, ground := Ground.data }, { on := 2, ground := Ground.chain }, { on := 2, ground := Ground.guard }], guard := some (2, true) }).run Try.prog (W4) = .ok (.enter 7 #[.pointer (some ⟨pb1, 0, none⟩), .pointer (some ⟨rb, 0, none⟩)]) (W4) := by
    have kf : ∀ f, a0_62.eval (.func f) = .func (.func f) #[] #[] := fun _ => rfl
    have e66 := (show a0_62.eval (.tmp 66) = .pointer (some ⟨pb1, 0, none⟩) from (fa0_62.at_ 66))
    have e67 := (show a0_62.eval (.tmp 67) = .pointer (some ⟨rb, 0, none⟩) from (fa0_62.at_ 67))
    clear fa0_62 ha hr hp hg hq hT hl
    generalize a0_62.eval = ρ at *
    go_simp
  refine fa0_62.call 68 rfl (lb_ hsz) ((wanted_at (t := 65) (c := true) (b := true) rfl rfl rfl (lb_ (fa0_62.size.trans hsz)) (fa0_62.at_ 65)).trans (by rfl)) r_a0_63 (tells_true W4 dP4 hp0 dR4) (fun e W5 hR => ?_)
  obtain ⟨rfl, s5⟩ := hR
  clear r_a0_63
  have dP5 := dP4.same s5
  have hIm : Calls Try.prog 9 #[.pointer (some ⟨pb1, 0, none⟩)] W5 fun e w' => ∃ ao c, e = .returned (.slice ao L.length c) ∧ w'.ownsRow W5.heap.size 9 1 (.slice ao L.length c) L.length (scells L) ∧ Same W5 w' := dimage_calls W5 dP5 hp0 hl
  refine ⟨_, rfl, fun a0_63 fa0_63 => ?_⟩
  clear fa0_62
  have r_a0_64 : (execOp a0_63.eval { dst := some 69, op := Op.unOp UnOp.not 4 (Operand.tmp 68), type := 4, pos := "law.go:359", after := #[{ on := 5, ground := Ground.data }, { on := 2, ground := Ground.guard }], guard := some (2, true) }).run Try.prog (W5) = .ok (.value (.bool false)) (W5) := by
    have e68 := (show a0_63.eval (.tmp 68) = .bool true from (fa0_63.at_ 68))
    clear fa0_63 ha hr hp hg hq hT hl
    generalize a0_63.eval = ρ at *
    go_simp
  refine fa0_63.step 69 (.bool false) rfl (lb_ hsz) ((wanted_at (t := 65) (c := true) (b := true) rfl rfl rfl (lb_ (fa0_63.size.trans hsz)) (fa0_63.at_ 65)).trans (by rfl)) r_a0_64 (fun a0_64 fa0_64 => ?_)
  clear r_a0_64
  clear fa0_63
  refine fa0_64.move 70 (.bool false) _ (Or.inl rfl) rfl (lb_ hsz) ((wanted_at (t := 65) (c := true) (b := true) rfl rfl rfl (lb_ (fa0_64.size.trans hsz)) (fa0_64.at_ 65)).trans (by rfl)) (fa0_64.at_ 69) (fun a0_65 fa0_65 => ?_)
  clear fa0_64
  refine fa0_65.move 71 (.pointer (some ⟨pb1, 0, none⟩)) _ (Or.inl rfl) rfl (lb_ hsz) ((wanted_at (t := 70) (c := false) (b := false) rfl rfl rfl (lb_ (fa0_65.size.trans hsz)) (fa0_65.at_ 70)).trans (by rfl)) (fa0_65.at_ 9) (fun a0_66 fa0_66 => ?_)
  clear fa0_65
  have r_a0_67 : (execOp a0_66.eval { dst := some 72, op := Op.call { callee := Callee.value (Operand.func 9), args := #[Operand.tmp 71], argTypes := #[27] }, type := 22, pos := "law.go:359", after := #[{ on := 8, ground := Ground.data }, { on := 7, ground := Ground.chain }, { on := 7, ground := Ground.guard }], guard := some (7, false) }).run Try.prog (W5) = .ok (.enter 9 #[.pointer (some ⟨pb1, 0, none⟩)]) (W5) := by
    have kf : ∀ f, a0_66.eval (.func f) = .func (.func f) #[] #[] := fun _ => rfl
    have e71 := (show a0_66.eval (.tmp 71) = .pointer (some ⟨pb1, 0, none⟩) from (fa0_66.at_ 71))
    clear fa0_66 ha hr hp hg hq hT hl
    generalize a0_66.eval = ρ at *
    go_simp
  refine fa0_66.call 72 rfl (lb_ hsz) ((wanted_at (t := 70) (c := false) (b := false) rfl rfl rfl (lb_ (fa0_66.size.trans hsz)) (fa0_66.at_ 70)).trans (by rfl)) r_a0_67 (hIm) (fun e W6 hR => ?_)
  obtain ⟨xa, xc, rfl, o6, s6⟩ := hR
  clear r_a0_67
  obtain ⟨xb, tx⟩ := trow_own (own_base o6 (Nat.zero_le _))
  have tI := hT.same (t4.trans (s5.trans s6))
  refine ⟨_, rfl, fun a0_67 fa0_67 => ?_⟩
  clear fa0_66
  refine fa0_67.move 73 (.slice ia L.length ic) _ (Or.inl rfl) rfl (lb_ hsz) ((wanted_at (t := 70) (c := false) (b := false) rfl rfl rfl (lb_ (fa0_67.size.trans hsz)) (fa0_67.at_ 70)).trans (by rfl)) ((fa0_67.at_ 2).trans (ha 2 _ rfl)) (fun a0_68 fa0_68 => ?_)
  clear fa0_67
  have r_a0_69 : (execOp a0_68.eval { dst := some 74, op := Op.call { callee := Callee.value (Operand.func 8), args := #[Operand.tmp 72, Operand.tmp 73], argTypes := #[22, 22] }, type := 4, pos := "law.go:359", after := #[{ on := 9, ground := Ground.data }, { on := 10, ground := Ground.data }, { on := 9, ground := Ground.chain }, { on := 7, ground := Ground.guard }], guard := some (7, false) }).run Try.prog (W6) = .ok (.enter 8 #[.slice xa L.length xc, .slice ia L.length ic]) (W6) := by
    have kf : ∀ f, a0_68.eval (.func f) = .func (.func f) #[] #[] := fun _ => rfl
    have e72 := (show a0_68.eval (.tmp 72) = .slice xa L.length xc from (fa0_68.at_ 72))
    have e73 := (show a0_68.eval (.tmp 73) = .slice ia L.length ic from (fa0_68.at_ 73))
    clear fa0_68 ha hr hp hg hq hT hl
    generalize a0_68.eval = ρ at *
    go_simp
  refine fa0_68.call 74 rfl (lb_ hsz) ((wanted_at (t := 70) (c := false) (b := false) rfl rfl rfl (lb_ (fa0_68.size.trans hsz)) (fa0_68.at_ 70)).trans (by rfl)) r_a0_69 (rsame_true W6 hl tx tI) (fun e W7 hR => ?_)
  obtain ⟨rfl, s7⟩ := hR
  clear r_a0_69
  have t7 := t4.trans (s5.trans (s6.trans s7))
  refine ⟨_, rfl, fun a0_69 fa0_69 => ?_⟩
  clear fa0_68
  have r_a0_70 : (execOp a0_69.eval { dst := some 75, op := Op.unOp UnOp.not 4 (Operand.tmp 74), type := 4, pos := "law.go:359", after := #[{ on := 11, ground := Ground.data }, { on := 7, ground := Ground.guard }], guard := some (7, false) }).run Try.prog (W7) = .ok (.value (.bool false)) (W7) := by
    have e74 := (show a0_69.eval (.tmp 74) = .bool true from (fa0_69.at_ 74))
    clear fa0_69 ha hr hp hg hq hT hl
    generalize a0_69.eval = ρ at *
    go_simp
  refine fa0_69.step 75 (.bool false) rfl (lb_ hsz) ((wanted_at (t := 70) (c := false) (b := false) rfl rfl rfl (lb_ (fa0_69.size.trans hsz)) (fa0_69.at_ 70)).trans (by rfl)) r_a0_70 (fun a0_70 fa0_70 => ?_)
  clear r_a0_70
  clear fa0_69
  have r_a0_71 : (execOp a0_70.eval { dst := some 76, op := Op.pick (Operand.tmp 70) (Operand.const (Value.bool true)) (Operand.tmp 75), type := 4, pos := "law.go:359", after := #[{ on := 7, ground := Ground.data }, { on := 12, ground := Ground.data }, { on := 2, ground := Ground.guard }], guard := some (2, true) }).run Try.prog (W7) = .ok (.value (.bool false)) (W7) := by
    have kc : ∀ v, a0_70.eval (.const v) = v := fun _ => rfl
    have e70 := (show a0_70.eval (.tmp 70) = .bool false from (fa0_70.at_ 70))
    have e75 := (show a0_70.eval (.tmp 75) = .bool false from (fa0_70.at_ 75))
    clear fa0_70 ha hr hp hg hq hT hl
    generalize a0_70.eval = ρ at *
    go_simp
  refine fa0_70.step 76 (.bool false) rfl (lb_ hsz) ((wanted_at (t := 65) (c := true) (b := true) rfl rfl rfl (lb_ (fa0_70.size.trans hsz)) (fa0_70.at_ 65)).trans (by rfl)) r_a0_71 (fun a0_71 fa0_71 => ?_)
  clear r_a0_71
  clear fa0_70
  have r_a0_72 : (execOp a0_71.eval { dst := some 77, op := Op.pick (Operand.tmp 65) (Operand.tmp 76) (Operand.const (Value.bool false)), type := 4, pos := "law.go:359", after := #[{ on := 2, ground := Ground.data }, { on := 13, ground := Ground.data }], guard := none }).run Try.prog (W7) = .ok (.value (.bool false)) (W7) := by
    have kc : ∀ v, a0_71.eval (.const v) = v := fun _ => rfl
    have e65 := (show a0_71.eval (.tmp 65) = .bool true from (fa0_71.at_ 65))
    have e76 := (show a0_71.eval (.tmp 76) = .bool false from (fa0_71.at_ 76))
    clear fa0_71 ha hr hp hg hq hT hl
    generalize a0_71.eval = ρ at *
    go_simp
  refine fa0_71.step 77 (.bool false) rfl (lb_ hsz) (wanted_none rfl) r_a0_72 (fun a0_72 fa0_72 => ?_)
  clear r_a0_72
  clear fa0_71
  refine wpList_nil ?_
  change Code.wp _ _ _ _ _
  refine wp_cond_false (show a0_72.eval (.tmp 77) = .bool false from (fa0_72.at_ 77)) (wp_skip ?_)
  change Code.wp _ _ _ _ _
  refine wp_seq ?_
  refine wp_region_list ?_
  unfold rDV9
  have r_a0_73 : (execOp a0_72.eval { dst := some 78, op := Op.call { callee := Callee.value (Operand.func 10), args := #[], argTypes := #[] }, type := 4, pos := "law.go:362", after := #[], guard := none }).run Try.prog (W7) = .ok (.enter 10 #[]) (W7) := by
    have kf : ∀ f, a0_72.eval (.func f) = .func (.func f) #[] #[] := fun _ => rfl
    clear fa0_72 ha hr hp hg hq hT hl
    generalize a0_72.eval = ρ at *
    go_simp
  refine fa0_72.call 78 rfl (lb_ hsz) (wanted_none rfl) r_a0_73 (lives_calls W7) (fun e W8 hR => ?_)
  obtain ⟨rfl, s8⟩ := hR
  clear r_a0_73
  refine ⟨_, rfl, fun a0_73 fa0_73 => ?_⟩
  clear fa0_72
  refine fa0_73.move 6 (.bool true) _ (Or.inr rfl) rfl (lb_ hsz) (wanted_none rfl) (fa0_73.at_ 78) (fun a0_74 fa0_74 => ?_)
  clear fa0_73
  refine wpList_nil ?_
  change Code.wp _ _ _ _ _
  refine wp_ret ?_
  exact ret_abs rfl (fa0_74.defers.trans hd) (show a0_74.eval (.tmp 6) = .bool true from (fa0_74.at_ 6)) ⟨rfl, t7.trans s8⟩
theorem dmakes_walk {pg mo : Int} {pb po : Nat} {ia : Option Addr} {ic : Nat} {L : List ByteArray} (w : World) (hT : TRow w ia pb po L) :
    Calls Try.prog 3 #[.int .i64 pg, .int .i64 mo, .slice ia L.length ic] w fun e w' => e = .returned (.bool true) ∧ Same w w' := by
  by_cases hb : (pg = 1024 ∨ pg = 2048 ∨ pg = 4096 ∨ pg = 8192) ∧ 1 ≤ mo ∧ mo ≤ 65536
  · obtain ⟨hpg, h1, h2⟩ := hb
    by_cases m3 : mo < (L.length : Int)
    · exact dm_B w (fun W _ => rfrom_long W hpg h1 h2 m3) (fun W _ => from_long W hpg h1 h2 m3) (fun W _ => rfrom_nil W hpg h1 h2) (fun W _ => new_good W hpg h1 h2)
    · have hl : L.length ≤ 1048576 := by omega
      by_cases hany : L.any (sizeNo pg) = true
      · refine dm_B w (fun W s => ?_) (fun W s => from_wrong W hpg h1 h2 m3 (hT.same s) hany) (fun W _ => rfrom_nil W hpg h1 h2) (fun W _ => new_good W hpg h1 h2)
        refine Calls.mono (rfrom_image W hpg h1 h2 m3 hl (hT.same s)) fun e w' hh => ?_
        rcases hh with ⟨_, he, hs⟩ | ⟨ha, _⟩
        · exact ⟨he, hs⟩
        · rw [hany] at ha; cases ha
      · have hany : L.any (sizeNo pg) = false := by simpa using hany
        obtain ⟨pn, rfl⟩ := Int.eq_ofNat_of_zero_le (show 0 ≤ pg by omega)
        obtain ⟨mn, rfl⟩ := Int.eq_ofNat_of_zero_le (show 0 ≤ mo by omega)
        refine dm_C w (by omega) hl hT (fun W s => ?_) (fun W s => ?_) (fun W _ => rfrom_nil W hpg h1 h2) (fun W _ => new_good W hpg h1 h2)
        · refine Calls.mono (rfrom_image W hpg h1 h2 m3 hl (hT.same s)) fun e w' hh => ?_
          rcases hh with ⟨ha, _⟩ | ⟨_, b, he, hr, hs⟩
          · rw [hany] at ha; cases ha
          · exact ⟨b, he, hr, hs⟩
        · have := from_good (ic := ic) W hpg h1 h2 m3 (hT.same s) hl hany
          simp only [Int.toNat_natCast] at this
          exact Calls.mono this fun e w' ⟨b, he, hd, hs⟩ => ⟨b, _, he, hd, hs⟩
  · exact dm_A w (fun W _ => rfrom_bad W hb) (fun W _ => from_bad W hb) (fun W _ => rfrom_bad (L := []) W hb) (fun W _ => new_bad W hb)
end Go.Proofs.Ytljlkcmjbjnihaa
