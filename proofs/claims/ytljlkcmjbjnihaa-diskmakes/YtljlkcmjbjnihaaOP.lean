/- disk: Write, Grow, Waits. -/
import Derived.Test.YtljlkcmjbjnihaaOO
namespace Go.Proofs.Ytljlkcmjbjnihaa
open Go.RowKit

/-- What Write answers, and what it leaves. -/
def wrE (D : Dk) (no : Nat) (s : ByteArray) : Int := if D.off then 7 else if no < D.P.length then (if s.size = D.page then 0 else 2) else 41
def wrX (no : Nat) (s : ByteArray) : Wt := ⟨1, no, 0, s⟩
def dkWrite (D : Dk) (no : Nat) (s : ByteArray) : Dk := if wrE D no s = 0 then { dkChange D (wrX no s) with wr := D.wr + 1 } else D
def grE (D : Dk) (n : Int) : Int := if D.off then 7 else if n < 1 then 2 else if (D.most : Int) - (D.P.length : Int) < n then 5 else 0
def grX (D : Dk) (n : Int) : Wt := ⟨2, 0, D.P.length + n.toNat, ⟨#[]⟩⟩
def dkGrow (D : Dk) (n : Int) : Dk := if grE D n = 0 then { dkChange D (grX D n) with gr := D.gr + 1 } else D
theorem DkAt.stay {w : World} {b : Nat} {D : Dk} {S : Nat → Prop} (h : DkAt w b D S) : DkAt w b D (Land S w w) := h.land (fun _ hk => Or.inl hk) (fun _ hk => land_lt h.lt (Nat.le_refl _) hk)
set_option maxRecDepth 100000 in
theorem write_off {b no : Nat} {D : Dk} {S : Nat → Prop} {s : ByteArray} (w : World) (h : DkAt w b D S) (hk : DkOk D) (hm : DkSm D 1048575) (hno : no < 4294967296) (hoff : D.off = true) :
    Calls Try.prog 28 #[.pointer (some ⟨b, 0, none⟩), .int .u32 (no : Int), .string s] w fun e w' => e = .returned (.int .i64 (7)) ∧ DkAt w' b D (Land S w w') ∧ Fr S w w' := by
  have hL := h.stay
  obtain ⟨h1, _, h3, h8, _⟩ := h.cells
  have hR := ready_core w h1 h3 (by have := hk.hp0; omega)
  obtain ⟨pa, pc, c1, _⟩ := h.rowP
  have hH := has_core (o := 0) w c1 (by have := hm.P; omega) hno
  have HL : Hid (DkAt w b D (Land S w w)) := hL
  rw [hoff] at hR
  clear h h1 h3 h8 c1 hk hH hm hL hno
  go_enter Try.func28, Try.ntmps28
  go_wp2_with fail
  refine hR.mono ?_
  rintro e w' ⟨rfl, hw⟩
  rw [hw]
  go_wp2_with fail
  go_ret
  exact ⟨rfl, HL.out, Fr.refl _ _⟩
set_option maxRecDepth 100000 in
theorem write_page {b no : Nat} {D : Dk} {S : Nat → Prop} {s : ByteArray} (w : World) (h : DkAt w b D S) (hk : DkOk D) (hm : DkSm D 1048575) (hno : no < 4294967296) (hoff : D.off = false) (hlt : ¬ no < D.P.length) :
    Calls Try.prog 28 #[.pointer (some ⟨b, 0, none⟩), .int .u32 (no : Int), .string s] w fun e w' => e = .returned (.int .i64 (41)) ∧ DkAt w' b D (Land S w w') ∧ Fr S w w' := by
  have hL := h.stay
  obtain ⟨h1, _, h3, h8, _⟩ := h.cells
  have hR := ready_core w h1 h3 (by have := hk.hp0; omega)
  obtain ⟨pa, pc, c1, _⟩ := h.rowP
  have hH := has_core (o := 0) w c1 (by have := hm.P; omega) hno
  have HL : Hid (DkAt w b D (Land S w w)) := hL
  rw [hoff] at hR
  rw [decide_eq_false hlt] at hH
  clear h h1 h3 h8 c1 hk hlt hm hL hno
  go_enter Try.func28, Try.ntmps28
  go_wp2_with fail
  refine hR.mono ?_
  rintro e w' ⟨rfl, hw⟩
  rw [hw]
  go_wp2_with fail
  refine hH.mono ?_
  rintro e w' ⟨rfl, hw⟩
  rw [hw]
  go_wp2_with fail
  go_ret
  exact ⟨rfl, HL.out, Fr.refl _ _⟩
set_option maxRecDepth 100000 in
theorem write_arg {b no : Nat} {D : Dk} {S : Nat → Prop} {s : ByteArray} (w : World) (h : DkAt w b D S) (hk : DkOk D) (hm : DkSm D 1048575) (hno : no < 4294967296) (hoff : D.off = false) (hlt : no < D.P.length) (hs : ¬ s.size = D.page) :
    Calls Try.prog 28 #[.pointer (some ⟨b, 0, none⟩), .int .u32 (no : Int), .string s] w fun e w' => e = .returned (.int .i64 (2)) ∧ DkAt w' b D (Land S w w') ∧ Fr S w w' := by
  have hL := h.stay
  obtain ⟨h1, _, h3, h8, _⟩ := h.cells
  have hR := ready_core w h1 h3 (by have := hk.hp0; omega)
  obtain ⟨pa, pc, c1, _⟩ := h.rowP
  have hH := has_core (o := 0) w c1 (by have := hm.P; omega) hno
  have HL : Hid (DkAt w b D (Land S w w)) := hL
  rw [hoff] at hR
  rw [decide_eq_true hlt] at hH
  have hsi : ¬ (s.size : Int) = (D.page : Int) := by omega
  clear h h3 h8 c1 hk hlt hs hm hL hno
  go_enter Try.func28, Try.ntmps28
  go_wp2_with fail
  refine hR.mono ?_
  rintro e w' ⟨rfl, hw⟩
  rw [hw]
  go_wp2_with fail
  refine hH.mono ?_
  rintro e w' ⟨rfl, hw⟩
  rw [hw]
  go_wp2_with fail
  go_ret
  exact ⟨rfl, HL.out, Fr.refl _ _⟩
set_option maxRecDepth 100000 in
theorem write_ok {b no : Nat} {D : Dk} {S : Nat → Prop} {s : ByteArray} (w : World) (h : DkAt w b D S) (hk : DkOk D) (hm : DkSm D 1048575) (hno : no < 4294967296) (hoff : D.off = false) (hlt : no < D.P.length) (hs : s.size = D.page) :
    Calls Try.prog 28 #[.pointer (some ⟨b, 0, none⟩), .int .u32 (no : Int), .string s] w fun e w' => e = .returned (.int .i64 (0)) ∧ DkAt w' b { dkChange D (wrX no s) with wr := D.wr + 1 } (Land S w w') ∧ Fr S w w' := by
  obtain ⟨h1, _, h3, h8, _⟩ := h.cells
  have hR := ready_core w h1 h3 (by have := hk.hp0; omega)
  obtain ⟨pa, pc, c1, _⟩ := h.rowP
  have hH := has_core (o := 0) w c1 (by have := hm.P; omega) hno
  rw [hoff] at hR
  rw [decide_eq_true hlt] at hH
  have hsi : (s.size : Int) = (D.page : Int) := by omega
  obtain ⟨pa2, ia, wa, aa, pc2, ic, wc, ac, ho⟩ := h.open
  have hC := change_calls (rf := 6) (x := wrX no s) w ho hk ⟨by have := hm.P; omega, by have := hm.I; omega, by have := hm.W; omega, by have := hm.wr; omega, by have := hm.gr; omega, by have := hm.sy; omega, by have := hm.life; omega, by have := hm.taken; omega⟩ ⟨Nat.zero_le _, by have := hm.P; show no < 1048576; omega, fun _ => hs, by show 1 < 256; decide⟩
  have hC : Calls Try.prog 38 #[.pointer (some ⟨b, 0, none⟩), .agg #[.int .u8 1, .int .u32 (no : Int), .int .i64 0, .string s], .int .i64 6] w fun e w' => e = .returned (.int .i64 0) ∧ DkAt w' b (dkChange D (wrX no s)) (Land S w w') ∧ Fr S w w' := hC
  have hwr := hm.wr
  have hlt0 := h.lt
  have ww : IntKind.i64.wrap ((D.wr : Int) + 1) = (D.wr : Int) + 1 := by rw [IntKind.wrap_i64]; omega
  clear h h3 h8 c1 hk hm hno ho hlt hs hwr
  go_enter Try.func28, Try.ntmps28
  go_wp2_with fail
  refine hR.mono ?_
  rintro e w' ⟨rfl, hw⟩
  rw [hw]
  go_wp2_with fail
  refine hH.mono ?_
  rintro e w' ⟨rfl, hw⟩
  rw [hw]
  go_wp2_with fail
  refine hC.mono ?_
  rintro e W1 ⟨rfl, d1, f1⟩
  have q8 : W1.cell? ⟨b, 8, none⟩ = some (.int .i64 (D.wr : Int)) := by obtain ⟨_, _, _, q, _⟩ := d1.cells; exact q
  have z8 : W1.frozen? ⟨b, 8, none⟩ = false := by obtain ⟨_, _, _, _, _, _, _, _, q⟩ := d1.open; exact q.frozen 8
  have d2 := d1.setS (D' := { dkChange D (wrX no s) with wr := D.wr + 1 }) 8 (.int .i64 ((D.wr : Int) + 1)) rfl rfl rfl (fun _ _ _ _ => rfl)
  have HD : Hid ((DkAt (W1.setCell ⟨b, 8, none⟩ (.int .i64 ((D.wr : Int) + 1))) b { dkChange D (wrX no s) with wr := D.wr + 1 } (Land S w W1) ∧ Fr (Land S w W1) W1 (W1.setCell ⟨b, 8, none⟩ (.int .i64 ((D.wr : Int) + 1)))) ∧ Fr S w W1 ∧ (∀ k, S k → k < w.heap.size)) := ⟨d2, f1, hlt0⟩
  clear d1 f1 d2 hC hR hH
  go_wp2_with fail
  go_ret
  obtain ⟨⟨g1, g2⟩, g3, g4⟩ := HD.out
  have g5 := Fr.trans g3 g2 (fun k hk e => by rcases e with e | e; exact e; omega)
  exact ⟨rfl, g1.land (fun k hk => land_same hk g2.size) (fun k hk => land_lt g4 g5.size hk), g5⟩
theorem write_calls {b no : Nat} {D : Dk} {S : Nat → Prop} {s : ByteArray} (w : World) (h : DkAt w b D S) (hk : DkOk D) (hm : DkSm D 1048575) (hno : no < 4294967296) :
    Calls Try.prog 28 #[.pointer (some ⟨b, 0, none⟩), .int .u32 (no : Int), .string s] w fun e w' => e = .returned (.int .i64 (wrE D no s)) ∧ DkAt w' b (dkWrite D no s) (Land S w w') ∧ Fr S w w' := by
  unfold dkWrite wrE
  cases hoff : D.off with
  | true => exact write_off w h hk hm hno hoff
  | false =>
    by_cases hlt : no < D.P.length
    · by_cases hs : s.size = D.page
      · simp only [hlt, hs, if_true, Bool.false_eq_true, if_false]
        exact write_ok w h hk hm hno hoff hlt hs
      · simp only [hlt, hs, if_true, Bool.false_eq_true, if_false]
        exact write_arg w h hk hm hno hoff hlt hs
    · simp only [hlt, Bool.false_eq_true, if_false]
      exact write_page w h hk hm hno hoff hlt
def rOP0 : Array Oper := #[{ dst := some 4, op := Op.assign (Operand.const (Value.int IntKind.i64 0)), type := 24, pos := "acts.go:28", after := #[], guard := none }]
def rOP1 : Array Oper := #[{ dst := some 7, op := Op.move (Operand.tmp 0), type := 27, pos := "acts.go:29", after := #[], guard := none },
  { dst := some 8, op := Op.call { callee := Callee.value (Operand.func 37), args := #[Operand.tmp 7], argTypes := #[27] }, type := 24, pos := "acts.go:29", after := #[{ on := 0, ground := Ground.data }], guard := none },
  { dst := some 5, op := Op.assign (Operand.tmp 8), type := 24, pos := "acts.go:29", after := #[{ on := 1, ground := Ground.data }, { on := 1, ground := Ground.chain }, { on := 0, ground := Ground.phase }, { on := 1, ground := Ground.phase }], guard := none }]
def rOP2 : Array Oper := #[{ dst := some 9, op := Op.move (Operand.tmp 5), type := 24, pos := "acts.go:29", after := #[], guard := none },
  { dst := some 10, op := Op.binOp BinOp.neq 24 (Operand.tmp 9) (Operand.const (Value.int IntKind.i64 0)) 24, type := 4, pos := "acts.go:29", after := #[{ on := 0, ground := Ground.data }], guard := none }]
def rOP3 : Array Oper := #[{ dst := some 11, op := Op.move (Operand.tmp 5), type := 24, pos := "acts.go:30", after := #[], guard := none },
  { dst := some 4, op := Op.assign (Operand.tmp 11), type := 24, pos := "acts.go:30", after := #[{ on := 0, ground := Ground.data }, { on := 0, ground := Ground.phase }], guard := none }]
def rOP4 : Array Oper := #[{ dst := some 12, op := Op.move (Operand.tmp 1), type := 3, pos := "acts.go:32", after := #[], guard := none },
  { dst := some 13, op := Op.binOp BinOp.lss 3 (Operand.tmp 12) (Operand.const (Value.int IntKind.i64 1)) 3, type := 4, pos := "acts.go:32", after := #[{ on := 0, ground := Ground.data }], guard := none }]
def rOP5 : Array Oper := #[{ dst := some 4, op := Op.assign (Operand.const (Value.int IntKind.i64 2)), type := 24, pos := "acts.go:33", after := #[], guard := none }]
def rOP6 : Array Oper := #[{ dst := some 14, op := Op.move (Operand.tmp 1), type := 3, pos := "acts.go:35", after := #[], guard := none },
  { dst := some 15, op := Op.move (Operand.tmp 0), type := 27, pos := "acts.go:35", after := #[], guard := none },
  { dst := some 16, op := Op.nilCheck (Operand.tmp 15), type := 0, pos := "acts.go:35", after := #[{ on := 1, ground := Ground.data }], guard := none },
  { dst := some 17, op := Op.fieldAddr 51 (Operand.tmp 16) 2, type := 0, pos := "acts.go:35", after := #[{ on := 2, ground := Ground.data }], guard := none },
  { dst := some 18, op := Op.load 3 (Operand.tmp 17), type := 3, pos := "acts.go:35", after := #[{ on := 3, ground := Ground.data }], guard := none },
  { dst := some 19, op := Op.move (Operand.tmp 0), type := 27, pos := "acts.go:35", after := #[], guard := none },
  { dst := some 20, op := Op.nilCheck (Operand.tmp 19), type := 0, pos := "acts.go:35", after := #[{ on := 5, ground := Ground.data }], guard := none },
  { dst := some 21, op := Op.fieldAddr 51 (Operand.tmp 20) 0, type := 0, pos := "acts.go:35", after := #[{ on := 6, ground := Ground.data }], guard := none },
  { dst := some 22, op := Op.call { callee := Callee.value (Operand.func 36), args := #[Operand.tmp 21], argTypes := #[46] }, type := 3, pos := "acts.go:35", after := #[{ on := 7, ground := Ground.data }], guard := none },
  { dst := some 23, op := Op.binOp BinOp.sub 3 (Operand.tmp 18) (Operand.tmp 22) 3, type := 3, pos := "acts.go:35", after := #[{ on := 4, ground := Ground.data }, { on := 8, ground := Ground.data }], guard := none },
  { dst := some 24, op := Op.binOp BinOp.gtr 3 (Operand.tmp 14) (Operand.tmp 23) 3, type := 4, pos := "acts.go:35", after := #[{ on := 0, ground := Ground.data }, { on := 9, ground := Ground.data }], guard := none }]
def rOP7 : Array Oper := #[{ dst := some 4, op := Op.assign (Operand.const (Value.int IntKind.i64 5)), type := 24, pos := "acts.go:36", after := #[], guard := none }]
def rOP8 : Array Oper := #[{ dst := some 25, op := Op.move (Operand.tmp 0), type := 27, pos := "acts.go:38", after := #[], guard := none },
  { dst := some 26, op := Op.move (Operand.tmp 0), type := 27, pos := "acts.go:38", after := #[], guard := none },
  { dst := some 27, op := Op.nilCheck (Operand.tmp 26), type := 0, pos := "acts.go:38", after := #[{ on := 1, ground := Ground.data }], guard := none },
  { dst := some 28, op := Op.fieldAddr 51 (Operand.tmp 27) 0, type := 0, pos := "acts.go:38", after := #[{ on := 2, ground := Ground.data }], guard := none },
  { dst := some 29, op := Op.call { callee := Callee.value (Operand.func 36), args := #[Operand.tmp 28], argTypes := #[46] }, type := 3, pos := "acts.go:38", after := #[{ on := 3, ground := Ground.data }], guard := none },
  { dst := some 30, op := Op.move (Operand.tmp 1), type := 3, pos := "acts.go:38", after := #[], guard := none },
  { dst := some 31, op := Op.binOp BinOp.add 3 (Operand.tmp 29) (Operand.tmp 30) 3, type := 3, pos := "acts.go:38", after := #[{ on := 4, ground := Ground.data }, { on := 5, ground := Ground.data }], guard := none },
  { dst := some 32, op := Op.build 75 #[(0, Operand.const (Value.int IntKind.u8 2)), (2, Operand.tmp 31)], type := 75, pos := "acts.go:38", after := #[{ on := 6, ground := Ground.data }], guard := none },
  { dst := some 33, op := Op.build 77 #[(0, Operand.tmp 32)], type := 77, pos := "acts.go:38", after := #[{ on := 7, ground := Ground.data }], guard := none },
  { dst := some 34, op := Op.call { callee := Callee.value (Operand.func 38), args := #[Operand.tmp 25, Operand.tmp 33, Operand.const (Value.int IntKind.i64 5)], argTypes := #[27, 77, 24] }, type := 24, pos := "acts.go:38", after := #[{ on := 0, ground := Ground.data }, { on := 8, ground := Ground.data }, { on := 4, ground := Ground.chain }], guard := none },
  { dst := some 6, op := Op.assign (Operand.tmp 34), type := 24, pos := "acts.go:38", after := #[{ on := 9, ground := Ground.data }, { on := 9, ground := Ground.chain }, { on := 0, ground := Ground.phase }, { on := 1, ground := Ground.phase }, { on := 2, ground := Ground.phase }, { on := 3, ground := Ground.phase }, { on := 4, ground := Ground.phase }, { on := 5, ground := Ground.phase }, { on := 6, ground := Ground.phase }, { on := 7, ground := Ground.phase }, { on := 8, ground := Ground.phase }, { on := 9, ground := Ground.phase }], guard := none }]
def rOP9 : Array Oper := #[{ dst := some 35, op := Op.move (Operand.tmp 6), type := 24, pos := "acts.go:39", after := #[], guard := none },
  { dst := some 36, op := Op.binOp BinOp.eql 24 (Operand.tmp 35) (Operand.const (Value.int IntKind.i64 0)) 24, type := 4, pos := "acts.go:39", after := #[{ on := 0, ground := Ground.data }], guard := none }]
def rOP10 : Array Oper := #[{ dst := some 37, op := Op.move (Operand.tmp 0), type := 27, pos := "acts.go:40", after := #[], guard := none },
  { dst := some 38, op := Op.nilCheck (Operand.tmp 37), type := 0, pos := "acts.go:40", after := #[{ on := 0, ground := Ground.data }], guard := none },
  { dst := some 39, op := Op.fieldAddr 51 (Operand.tmp 38) 6, type := 0, pos := "acts.go:40", after := #[{ on := 1, ground := Ground.data }], guard := none },
  { dst := some 40, op := Op.fieldAddr 40 (Operand.tmp 39) 1, type := 0, pos := "acts.go:40", after := #[{ on := 2, ground := Ground.data }], guard := none },
  { dst := some 41, op := Op.load 3 (Operand.tmp 40), type := 3, pos := "acts.go:40", after := #[{ on := 3, ground := Ground.data }], guard := none },
  { dst := some 42, op := Op.binOp BinOp.add 3 (Operand.tmp 41) (Operand.const (Value.int IntKind.i64 1)) 3, type := 3, pos := "acts.go:40", after := #[{ on := 4, ground := Ground.data }], guard := none },
  { dst := some 43, op := Op.nilCheck (Operand.tmp 37), type := 0, pos := "acts.go:40", after := #[{ on := 0, ground := Ground.data }, { on := 0, ground := Ground.phase }, { on := 1, ground := Ground.phase }, { on := 2, ground := Ground.phase }, { on := 3, ground := Ground.phase }, { on := 4, ground := Ground.phase }, { on := 5, ground := Ground.phase }], guard := none },
  { dst := some 44, op := Op.fieldAddr 51 (Operand.tmp 43) 6, type := 0, pos := "acts.go:40", after := #[{ on := 6, ground := Ground.data }, { on := 0, ground := Ground.phase }, { on := 1, ground := Ground.phase }, { on := 2, ground := Ground.phase }, { on := 3, ground := Ground.phase }, { on := 4, ground := Ground.phase }, { on := 5, ground := Ground.phase }], guard := none },
  { dst := some 45, op := Op.fieldAddr 40 (Operand.tmp 44) 1, type := 0, pos := "acts.go:40", after := #[{ on := 7, ground := Ground.data }, { on := 0, ground := Ground.phase }, { on := 1, ground := Ground.phase }, { on := 2, ground := Ground.phase }, { on := 3, ground := Ground.phase }, { on := 4, ground := Ground.phase }, { on := 5, ground := Ground.phase }], guard := none },
  { dst := none, op := Op.store 3 (Operand.tmp 45) (Operand.tmp 42), type := 0, pos := "acts.go:40", after := #[{ on := 8, ground := Ground.data }, { on := 5, ground := Ground.data }, { on := 0, ground := Ground.phase }, { on := 1, ground := Ground.phase }, { on := 2, ground := Ground.phase }, { on := 3, ground := Ground.phase }, { on := 4, ground := Ground.phase }, { on := 5, ground := Ground.phase }], guard := none }]
def rOP11 : Array Oper := #[{ dst := some 46, op := Op.move (Operand.tmp 6), type := 24, pos := "acts.go:42", after := #[], guard := none },
  { dst := some 4, op := Op.assign (Operand.tmp 46), type := 24, pos := "acts.go:42", after := #[{ on := 0, ground := Ground.data }, { on := 0, ground := Ground.phase }], guard := none }]
def cOP : Code := (Code.seq (Code.region 0 rOP0 false) (Code.seq (Code.seq (Code.region 1 rOP1 false) (Code.seq (Code.region 2 rOP2 false) (Code.cond (Operand.tmp 10) (Code.seq (Code.region 3 rOP3 false) Code.ret) Code.skip))) (Code.seq (Code.seq (Code.region 4 rOP4 false) (Code.cond (Operand.tmp 13) (Code.seq (Code.region 5 rOP5 false) Code.ret) Code.skip)) (Code.seq (Code.seq (Code.region 6 rOP6 true) (Code.cond (Operand.tmp 24) (Code.seq (Code.region 7 rOP7 false) Code.ret) Code.skip)) (Code.seq (Code.region 8 rOP8 false) (Code.seq (Code.seq (Code.region 9 rOP9 false) (Code.cond (Operand.tmp 36) (Code.region 10 rOP10 false) Code.skip)) (Code.seq (Code.region 11 rOP11 false) Code.ret)))))))
set_option maxRecDepth 100000 in
set_option maxHeartbeats 1000000 in
theorem grow_off {b : Nat} {n : Int} {D : Dk} {S : Nat → Prop} (w : World) (h : DkAt w b D S) (hk : DkOk D) (hoff : D.off = true) :
    Calls Try.prog 26 #[.pointer (some ⟨b, 0, none⟩), .int .i64 n] w fun e w' => e = .returned (.int .i64 7) ∧ DkAt w' b D (Land S w w') ∧ Fr S w w' := by
  obtain ⟨h1, _, h3, _⟩ := h.cells
  have hR := ready_core w h1 h3 (by have := hk.hp0; omega)
  rw [hoff] at hR
  refine calls_abs (c := cOP) Try.func26 (by kernel_rfl) 47 rfl (by simp) (fun a0 hsz hd ha => ?_)
  have fa0_0 := Fe.refl a0
  unfold cOP
  refine wp_seq ?_
  refine wp_region_list ?_
  unfold rOP0
  refine fa0_0.move 4 (.int .i64 0) _ (Or.inr rfl) rfl (lb_ hsz) (wanted_none rfl) rfl (fun a0_1 fa0_1 => ?_)
  clear fa0_0
  refine wpList_nil ?_
  change Code.wp _ _ _ _ _
  refine wp_seq (wp_seq ?_)
  refine wp_region_list ?_
  unfold rOP1
  refine fa0_1.move 7 (.pointer (some ⟨b, 0, none⟩)) _ (Or.inl rfl) rfl (lb_ hsz) (wanted_none rfl) ((fa0_1.at_ 0).trans (ha 0 _ rfl)) (fun a0_2 fa0_2 => ?_)
  clear fa0_1
  have r_a0_3 : (execOp a0_2.eval { dst := some 8, op := Op.call { callee := Callee.value (Operand.func 37), args := #[Operand.tmp 7], argTypes := #[27] }, type := 24, pos := "acts.go:29", after := #[{ on := 0, ground := Ground.data }], guard := none }).run Try.prog (w) = .ok (.enter 37 #[.pointer (some ⟨b, 0, none⟩)]) (w) := by
    have kf : ∀ f, a0_2.eval (.func f) = .func (.func f) #[] #[] := fun _ => rfl
    have e7 := (show a0_2.eval (.tmp 7) = .pointer (some ⟨b, 0, none⟩) from (fa0_2.at_ 7))
    clear fa0_2 ha
    generalize a0_2.eval = ρ at *
    go_simp
  refine fa0_2.call 8 rfl (lb_ hsz) (wanted_none rfl) r_a0_3 (hR) (fun e w1 hR => ?_)
  obtain ⟨rfl, hw1⟩ := hR
  clear r_a0_3
  have hw1 := hw1.symm
  subst hw1
  refine ⟨_, rfl, fun a0_3 fa0_3 => ?_⟩
  clear fa0_2
  refine fa0_3.move 5 (.int .i64 7) _ (Or.inr rfl) rfl (lb_ hsz) (wanted_none rfl) (fa0_3.at_ 8) (fun a0_4 fa0_4 => ?_)
  clear fa0_3
  refine wpList_nil ?_
  change Code.wp _ _ _ _ _
  refine wp_seq ?_
  refine wp_region_list ?_
  unfold rOP2
  refine fa0_4.move 9 (.int .i64 7) _ (Or.inl rfl) rfl (lb_ hsz) (wanted_none rfl) (fa0_4.at_ 5) (fun a0_5 fa0_5 => ?_)
  clear fa0_4
  have r_a0_6 : (execOp a0_5.eval { dst := some 10, op := Op.binOp BinOp.neq 24 (Operand.tmp 9) (Operand.const (Value.int IntKind.i64 0)) 24, type := 4, pos := "acts.go:29", after := #[{ on := 0, ground := Ground.data }], guard := none }).run Try.prog (w) = .ok (.value (.bool true)) (w) := by
    have kc : ∀ v, a0_5.eval (.const v) = v := fun _ => rfl
    have e9 := (show a0_5.eval (.tmp 9) = .int .i64 7 from (fa0_5.at_ 9))
    clear fa0_5 ha
    generalize a0_5.eval = ρ at *
    go_simp
  refine fa0_5.step 10 (.bool true) rfl (lb_ hsz) (wanted_none rfl) r_a0_6 (fun a0_6 fa0_6 => ?_)
  clear r_a0_6
  clear fa0_5
  refine wpList_nil ?_
  change Code.wp _ _ _ _ _
  refine wp_cond_true (show a0_6.eval (.tmp 10) = .bool true from (fa0_6.at_ 10)) (wp_seq ?_)
  refine wp_region_list ?_
  unfold rOP3
  refine fa0_6.move 11 (.int .i64 7) _ (Or.inl rfl) rfl (lb_ hsz) (wanted_none rfl) (fa0_6.at_ 5) (fun a0_7 fa0_7 => ?_)
  clear fa0_6
  refine fa0_7.move 4 (.int .i64 7) _ (Or.inr rfl) rfl (lb_ hsz) (wanted_none rfl) (fa0_7.at_ 11) (fun a0_8 fa0_8 => ?_)
  clear fa0_7
  refine wpList_nil ?_
  change Code.wp _ _ _ _ _
  refine wp_ret ?_
  simp only [Exit.then]
  exact ret_abs rfl (fa0_8.defers.trans hd) (show a0_8.eval (.tmp 4) = .int .i64 7 from (fa0_8.at_ 4)) ⟨rfl, h.stay, Fr.refl _ _⟩
set_option maxRecDepth 100000 in
set_option maxHeartbeats 1000000 in
theorem grow_arg {b : Nat} {n : Int} {D : Dk} {S : Nat → Prop} (w : World) (h : DkAt w b D S) (hk : DkOk D) (hoff : D.off = false) (hn : n < 1) :
    Calls Try.prog 26 #[.pointer (some ⟨b, 0, none⟩), .int .i64 n] w fun e w' => e = .returned (.int .i64 2) ∧ DkAt w' b D (Land S w w') ∧ Fr S w w' := by
  obtain ⟨h1, _, h3, _⟩ := h.cells
  have hR := ready_core w h1 h3 (by have := hk.hp0; omega)
  rw [hoff] at hR
  refine calls_abs (c := cOP) Try.func26 (by kernel_rfl) 47 rfl (by simp) (fun a0 hsz hd ha => ?_)
  have fa0_0 := Fe.refl a0
  unfold cOP
  refine wp_seq ?_
  refine wp_region_list ?_
  unfold rOP0
  refine fa0_0.move 4 (.int .i64 0) _ (Or.inr rfl) rfl (lb_ hsz) (wanted_none rfl) rfl (fun a0_1 fa0_1 => ?_)
  clear fa0_0
  refine wpList_nil ?_
  change Code.wp _ _ _ _ _
  refine wp_seq (wp_seq ?_)
  refine wp_region_list ?_
  unfold rOP1
  refine fa0_1.move 7 (.pointer (some ⟨b, 0, none⟩)) _ (Or.inl rfl) rfl (lb_ hsz) (wanted_none rfl) ((fa0_1.at_ 0).trans (ha 0 _ rfl)) (fun a0_2 fa0_2 => ?_)
  clear fa0_1
  have r_a0_3 : (execOp a0_2.eval { dst := some 8, op := Op.call { callee := Callee.value (Operand.func 37), args := #[Operand.tmp 7], argTypes := #[27] }, type := 24, pos := "acts.go:29", after := #[{ on := 0, ground := Ground.data }], guard := none }).run Try.prog (w) = .ok (.enter 37 #[.pointer (some ⟨b, 0, none⟩)]) (w) := by
    have kf : ∀ f, a0_2.eval (.func f) = .func (.func f) #[] #[] := fun _ => rfl
    have e7 := (show a0_2.eval (.tmp 7) = .pointer (some ⟨b, 0, none⟩) from (fa0_2.at_ 7))
    clear fa0_2 ha
    generalize a0_2.eval = ρ at *
    go_simp
  refine fa0_2.call 8 rfl (lb_ hsz) (wanted_none rfl) r_a0_3 (hR) (fun e w1 hR => ?_)
  obtain ⟨rfl, hw1⟩ := hR
  clear r_a0_3
  have hw1 := hw1.symm
  subst hw1
  refine ⟨_, rfl, fun a0_3 fa0_3 => ?_⟩
  clear fa0_2
  refine fa0_3.move 5 (.int .i64 0) _ (Or.inr rfl) rfl (lb_ hsz) (wanted_none rfl) (fa0_3.at_ 8) (fun a0_4 fa0_4 => ?_)
  clear fa0_3
  refine wpList_nil ?_
  change Code.wp _ _ _ _ _
  refine wp_seq ?_
  refine wp_region_list ?_
  unfold rOP2
  refine fa0_4.move 9 (.int .i64 0) _ (Or.inl rfl) rfl (lb_ hsz) (wanted_none rfl) (fa0_4.at_ 5) (fun a0_5 fa0_5 => ?_)
  clear fa0_4
  have r_a0_6 : (execOp a0_5.eval { dst := some 10, op := Op.binOp BinOp.neq 24 (Operand.tmp 9) (Operand.const (Value.int IntKind.i64 0)) 24, type := 4, pos := "acts.go:29", after := #[{ on := 0, ground := Ground.data }], guard := none }).run Try.prog (w) = .ok (.value (.bool false)) (w) := by
    have kc : ∀ v, a0_5.eval (.const v) = v := fun _ => rfl
    have e9 := (show a0_5.eval (.tmp 9) = .int .i64 0 from (fa0_5.at_ 9))
    clear fa0_5 ha
    generalize a0_5.eval = ρ at *
    go_simp
  refine fa0_5.step 10 (.bool false) rfl (lb_ hsz) (wanted_none rfl) r_a0_6 (fun a0_6 fa0_6 => ?_)
  clear r_a0_6
  clear fa0_5
  refine wpList_nil ?_
  change Code.wp _ _ _ _ _
  refine wp_cond_false (show a0_6.eval (.tmp 10) = .bool false from (fa0_6.at_ 10)) (wp_skip ?_)
  change Code.wp _ _ _ _ _
  refine wp_seq (wp_seq ?_)
  refine wp_region_list ?_
  unfold rOP4
  refine fa0_6.move 12 (.int .i64 n) _ (Or.inl rfl) rfl (lb_ hsz) (wanted_none rfl) ((fa0_6.at_ 1).trans (ha 1 _ rfl)) (fun a0_7 fa0_7 => ?_)
  clear fa0_6
  have r_a0_8 : (execOp a0_7.eval { dst := some 13, op := Op.binOp BinOp.lss 3 (Operand.tmp 12) (Operand.const (Value.int IntKind.i64 1)) 3, type := 4, pos := "acts.go:32", after := #[{ on := 0, ground := Ground.data }], guard := none }).run Try.prog (w) = .ok (.value (.bool true)) (w) := by
    have kc : ∀ v, a0_7.eval (.const v) = v := fun _ => rfl
    have e12 := (show a0_7.eval (.tmp 12) = .int .i64 n from (fa0_7.at_ 12))
    clear fa0_7 ha
    generalize a0_7.eval = ρ at *
    go_simp
  refine fa0_7.step 13 (.bool true) rfl (lb_ hsz) (wanted_none rfl) r_a0_8 (fun a0_8 fa0_8 => ?_)
  clear r_a0_8
  clear fa0_7
  refine wpList_nil ?_
  change Code.wp _ _ _ _ _
  refine wp_cond_true (show a0_8.eval (.tmp 13) = .bool true from (fa0_8.at_ 13)) (wp_seq ?_)
  refine wp_region_list ?_
  unfold rOP5
  refine fa0_8.move 4 (.int .i64 2) _ (Or.inr rfl) rfl (lb_ hsz) (wanted_none rfl) rfl (fun a0_9 fa0_9 => ?_)
  clear fa0_8
  refine wpList_nil ?_
  change Code.wp _ _ _ _ _
  refine wp_ret ?_
  simp only [Exit.then]
  exact ret_abs rfl (fa0_9.defers.trans hd) (show a0_9.eval (.tmp 4) = .int .i64 2 from (fa0_9.at_ 4)) ⟨rfl, h.stay, Fr.refl _ _⟩
set_option maxRecDepth 100000 in
set_option maxHeartbeats 1000000 in
theorem grow_full {b : Nat} {n : Int} {D : Dk} {S : Nat → Prop} (w : World) (h : DkAt w b D S) (hk : DkOk D) (hmost : D.most ≤ 65536) (hPm : D.P.length ≤ D.most) (hoff : D.off = false) (hn : ¬ n < 1) (hf : (D.most : Int) - (D.P.length : Int) < n) :
    Calls Try.prog 26 #[.pointer (some ⟨b, 0, none⟩), .int .i64 n] w fun e w' => e = .returned (.int .i64 5) ∧ DkAt w' b D (Land S w w') ∧ Fr S w w' := by
  obtain ⟨h1, h2, h3, _⟩ := h.cells
  have hR := ready_core w h1 h3 (by have := hk.hp0; omega)
  rw [hoff] at hR
  obtain ⟨pa, pc, c1, _⟩ := h.rowP
  have wm : IntKind.i64.wrap ((D.most : Int) - (D.P.length : Int)) = (D.most : Int) - (D.P.length : Int) := by rw [IntKind.wrap_i64]; omega
  refine calls_abs (c := cOP) Try.func26 (by kernel_rfl) 47 rfl (by simp) (fun a0 hsz hd ha => ?_)
  have fa0_0 := Fe.refl a0
  unfold cOP
  refine wp_seq ?_
  refine wp_region_list ?_
  unfold rOP0
  refine fa0_0.move 4 (.int .i64 0) _ (Or.inr rfl) rfl (lb_ hsz) (wanted_none rfl) rfl (fun a0_1 fa0_1 => ?_)
  clear fa0_0
  refine wpList_nil ?_
  change Code.wp _ _ _ _ _
  refine wp_seq (wp_seq ?_)
  refine wp_region_list ?_
  unfold rOP1
  refine fa0_1.move 7 (.pointer (some ⟨b, 0, none⟩)) _ (Or.inl rfl) rfl (lb_ hsz) (wanted_none rfl) ((fa0_1.at_ 0).trans (ha 0 _ rfl)) (fun a0_2 fa0_2 => ?_)
  clear fa0_1
  have r_a0_3 : (execOp a0_2.eval { dst := some 8, op := Op.call { callee := Callee.value (Operand.func 37), args := #[Operand.tmp 7], argTypes := #[27] }, type := 24, pos := "acts.go:29", after := #[{ on := 0, ground := Ground.data }], guard := none }).run Try.prog (w) = .ok (.enter 37 #[.pointer (some ⟨b, 0, none⟩)]) (w) := by
    have kf : ∀ f, a0_2.eval (.func f) = .func (.func f) #[] #[] := fun _ => rfl
    have e7 := (show a0_2.eval (.tmp 7) = .pointer (some ⟨b, 0, none⟩) from (fa0_2.at_ 7))
    clear fa0_2 ha
    generalize a0_2.eval = ρ at *
    go_simp
  refine fa0_2.call 8 rfl (lb_ hsz) (wanted_none rfl) r_a0_3 (hR) (fun e w1 hR => ?_)
  obtain ⟨rfl, hw1⟩ := hR
  clear r_a0_3
  have hw1 := hw1.symm
  subst hw1
  refine ⟨_, rfl, fun a0_3 fa0_3 => ?_⟩
  clear fa0_2
  refine fa0_3.move 5 (.int .i64 0) _ (Or.inr rfl) rfl (lb_ hsz) (wanted_none rfl) (fa0_3.at_ 8) (fun a0_4 fa0_4 => ?_)
  clear fa0_3
  refine wpList_nil ?_
  change Code.wp _ _ _ _ _
  refine wp_seq ?_
  refine wp_region_list ?_
  unfold rOP2
  refine fa0_4.move 9 (.int .i64 0) _ (Or.inl rfl) rfl (lb_ hsz) (wanted_none rfl) (fa0_4.at_ 5) (fun a0_5 fa0_5 => ?_)
  clear fa0_4
  have r_a0_6 : (execOp a0_5.eval { dst := some 10, op := Op.binOp BinOp.neq 24 (Operand.tmp 9) (Operand.const (Value.int IntKind.i64 0)) 24, type := 4, pos := "acts.go:29", after := #[{ on := 0, ground := Ground.data }], guard := none }).run Try.prog (w) = .ok (.value (.bool false)) (w) := by
    have kc : ∀ v, a0_5.eval (.const v) = v := fun _ => rfl
    have e9 := (show a0_5.eval (.tmp 9) = .int .i64 0 from (fa0_5.at_ 9))
    clear fa0_5 ha
    generalize a0_5.eval = ρ at *
    go_simp
  refine fa0_5.step 10 (.bool false) rfl (lb_ hsz) (wanted_none rfl) r_a0_6 (fun a0_6 fa0_6 => ?_)
  clear r_a0_6
  clear fa0_5
  refine wpList_nil ?_
  change Code.wp _ _ _ _ _
  refine wp_cond_false (show a0_6.eval (.tmp 10) = .bool false from (fa0_6.at_ 10)) (wp_skip ?_)
  change Code.wp _ _ _ _ _
  refine wp_seq (wp_seq ?_)
  refine wp_region_list ?_
  unfold rOP4
  refine fa0_6.move 12 (.int .i64 n) _ (Or.inl rfl) rfl (lb_ hsz) (wanted_none rfl) ((fa0_6.at_ 1).trans (ha 1 _ rfl)) (fun a0_7 fa0_7 => ?_)
  clear fa0_6
  have r_a0_8 : (execOp a0_7.eval { dst := some 13, op := Op.binOp BinOp.lss 3 (Operand.tmp 12) (Operand.const (Value.int IntKind.i64 1)) 3, type := 4, pos := "acts.go:32", after := #[{ on := 0, ground := Ground.data }], guard := none }).run Try.prog (w) = .ok (.value (.bool false)) (w) := by
    have kc : ∀ v, a0_7.eval (.const v) = v := fun _ => rfl
    have e12 := (show a0_7.eval (.tmp 12) = .int .i64 n from (fa0_7.at_ 12))
    clear fa0_7 ha
    generalize a0_7.eval = ρ at *
    go_simp
  refine fa0_7.step 13 (.bool false) rfl (lb_ hsz) (wanted_none rfl) r_a0_8 (fun a0_8 fa0_8 => ?_)
  clear r_a0_8
  clear fa0_7
  refine wpList_nil ?_
  change Code.wp _ _ _ _ _
  refine wp_cond_false (show a0_8.eval (.tmp 13) = .bool false from (fa0_8.at_ 13)) (wp_skip ?_)
  change Code.wp _ _ _ _ _
  refine wp_seq (wp_seq ?_)
  have dd : Same w w.drew := (Fr.refl (fun _ => False) w).drew
  have d1 := dd.keep h2
  have dc1 := dd.keep c1
  refine wp_region_held_drew (ops := rOP6) (S := fun Z => Z.cell? ⟨b, 4, none⟩ = some (.int .i64 (D.most : Int)) ∧ Z.cell? ⟨b, 1, none⟩ = some (.slice pa D.P.length pc)) (by kernel_rfl) (⟨d1, dc1⟩) (fun hS8 => ?_)
  refine fa0_8.takeMove 0 14 (.int .i64 n) _ (Or.inl rfl) rfl (by kernel_rfl) (by kernel_rfl) (by kernel_rfl) (fun _ _ _ h => h) rfl (lb_ hsz) (wanted_none rfl) ((fa0_8.at_ 1).trans (ha 1 _ rfl)) hS8 (fun a0_9 fa0_9 => ?_)
  clear fa0_8
  refine fa0_9.takeMove 1 15 (.pointer (some ⟨b, 0, none⟩)) _ (Or.inl rfl) rfl (by kernel_rfl) (by kernel_rfl) (by kernel_rfl) (fun _ _ _ h => h) rfl (lb_ hsz) (wanted_none rfl) ((fa0_9.at_ 0).trans (ha 0 _ rfl)) hS8 (fun a0_10 fa0_10 => ?_)
  clear fa0_9
  have r_a0_11 : ∀ Z, (fun Z => Z.cell? ⟨b, 4, none⟩ = some (.int .i64 (D.most : Int)) ∧ Z.cell? ⟨b, 1, none⟩ = some (.slice pa D.P.length pc)) Z → (execOp a0_10.eval { dst := some 16, op := Op.nilCheck (Operand.tmp 15), type := 0, pos := "acts.go:35", after := #[{ on := 1, ground := Ground.data }], guard := none }).run Try.prog Z = .ok (.value (.pointer (some ⟨b, 0, none⟩))) Z := fun Z hZ => by
    have e15 := (show a0_10.eval (.tmp 15) = .pointer (some ⟨b, 0, none⟩) from (fa0_10.at_ 15))
    clear fa0_10 ha
    generalize a0_10.eval = ρ at *
    go_simp
  refine fa0_10.take 2 16 (.pointer (some ⟨b, 0, none⟩)) rfl (by kernel_rfl) (by kernel_rfl) (by kernel_rfl) (fun _ _ _ h => h) rfl (lb_ hsz) (wanted_none rfl) r_a0_11 hS8 (fun a0_11 fa0_11 => ?_)
  clear r_a0_11
  clear fa0_10
  have r_a0_12 : ∀ Z, (fun Z => Z.cell? ⟨b, 4, none⟩ = some (.int .i64 (D.most : Int)) ∧ Z.cell? ⟨b, 1, none⟩ = some (.slice pa D.P.length pc)) Z → (execOp a0_11.eval { dst := some 17, op := Op.fieldAddr 51 (Operand.tmp 16) 2, type := 0, pos := "acts.go:35", after := #[{ on := 2, ground := Ground.data }], guard := none }).run Try.prog Z = .ok (.value (.pointer (some ⟨b, 4, none⟩))) Z := fun Z hZ => by
    have e16 := (show a0_11.eval (.tmp 16) = .pointer (some ⟨b, 0, none⟩) from (fa0_11.at_ 16))
    clear fa0_11 ha
    generalize a0_11.eval = ρ at *
    go_simp
  refine fa0_11.take 3 17 (.pointer (some ⟨b, 4, none⟩)) rfl (by kernel_rfl) (by kernel_rfl) (by kernel_rfl) (fun _ _ _ h => h) rfl (lb_ hsz) (wanted_none rfl) r_a0_12 hS8 (fun a0_12 fa0_12 => ?_)
  clear r_a0_12
  clear fa0_11
  have r_a0_13 : ∀ Z, (fun Z => Z.cell? ⟨b, 4, none⟩ = some (.int .i64 (D.most : Int)) ∧ Z.cell? ⟨b, 1, none⟩ = some (.slice pa D.P.length pc)) Z → (execOp a0_12.eval { dst := some 18, op := Op.load 3 (Operand.tmp 17), type := 3, pos := "acts.go:35", after := #[{ on := 3, ground := Ground.data }], guard := none }).run Try.prog Z = .ok (.value (.int .i64 (D.most : Int))) Z := fun Z hZ => by
    obtain ⟨z0, z1⟩ := hZ
    have e17 := (show a0_12.eval (.tmp 17) = .pointer (some ⟨b, 4, none⟩) from (fa0_12.at_ 17))
    clear fa0_12 ha
    generalize a0_12.eval = ρ at *
    go_simp
  refine fa0_12.take 4 18 (.int .i64 (D.most : Int)) rfl (by kernel_rfl) (by kernel_rfl) (by kernel_rfl) (fun _ _ _ h => h) rfl (lb_ hsz) (wanted_none rfl) r_a0_13 hS8 (fun a0_13 fa0_13 => ?_)
  clear r_a0_13
  clear fa0_12
  refine fa0_13.takeMove 5 19 (.pointer (some ⟨b, 0, none⟩)) _ (Or.inl rfl) rfl (by kernel_rfl) (by kernel_rfl) (by kernel_rfl) (fun _ _ _ h => h) rfl (lb_ hsz) (wanted_none rfl) ((fa0_13.at_ 0).trans (ha 0 _ rfl)) hS8 (fun a0_14 fa0_14 => ?_)
  clear fa0_13
  have r_a0_15 : ∀ Z, (fun Z => Z.cell? ⟨b, 4, none⟩ = some (.int .i64 (D.most : Int)) ∧ Z.cell? ⟨b, 1, none⟩ = some (.slice pa D.P.length pc)) Z → (execOp a0_14.eval { dst := some 20, op := Op.nilCheck (Operand.tmp 19), type := 0, pos := "acts.go:35", after := #[{ on := 5, ground := Ground.data }], guard := none }).run Try.prog Z = .ok (.value (.pointer (some ⟨b, 0, none⟩))) Z := fun Z hZ => by
    have e19 := (show a0_14.eval (.tmp 19) = .pointer (some ⟨b, 0, none⟩) from (fa0_14.at_ 19))
    clear fa0_14 ha
    generalize a0_14.eval = ρ at *
    go_simp
  refine fa0_14.take 6 20 (.pointer (some ⟨b, 0, none⟩)) rfl (by kernel_rfl) (by kernel_rfl) (by kernel_rfl) (fun _ _ _ h => h) rfl (lb_ hsz) (wanted_none rfl) r_a0_15 hS8 (fun a0_15 fa0_15 => ?_)
  clear r_a0_15
  clear fa0_14
  have r_a0_16 : ∀ Z, (fun Z => Z.cell? ⟨b, 4, none⟩ = some (.int .i64 (D.most : Int)) ∧ Z.cell? ⟨b, 1, none⟩ = some (.slice pa D.P.length pc)) Z → (execOp a0_15.eval { dst := some 21, op := Op.fieldAddr 51 (Operand.tmp 20) 0, type := 0, pos := "acts.go:35", after := #[{ on := 6, ground := Ground.data }], guard := none }).run Try.prog Z = .ok (.value (.pointer (some ⟨b, 0, none⟩))) Z := fun Z hZ => by
    have e20 := (show a0_15.eval (.tmp 20) = .pointer (some ⟨b, 0, none⟩) from (fa0_15.at_ 20))
    clear fa0_15 ha
    generalize a0_15.eval = ρ at *
    go_simp
  refine fa0_15.take 7 21 (.pointer (some ⟨b, 0, none⟩)) rfl (by kernel_rfl) (by kernel_rfl) (by kernel_rfl) (fun _ _ _ h => h) rfl (lb_ hsz) (wanted_none rfl) r_a0_16 hS8 (fun a0_16 fa0_16 => ?_)
  clear r_a0_16
  clear fa0_15
  have r_a0_17 : ∀ Z, (fun Z => Z.cell? ⟨b, 4, none⟩ = some (.int .i64 (D.most : Int)) ∧ Z.cell? ⟨b, 1, none⟩ = some (.slice pa D.P.length pc)) Z → (execOp a0_16.eval { dst := some 22, op := Op.call { callee := Callee.value (Operand.func 36), args := #[Operand.tmp 21], argTypes := #[46] }, type := 3, pos := "acts.go:35", after := #[{ on := 7, ground := Ground.data }], guard := none }).run Try.prog Z = .ok (.enter 36 #[.pointer (some ⟨b, 0, none⟩)]) Z := fun Z hZ => by
    have kf : ∀ f, a0_16.eval (.func f) = .func (.func f) #[] #[] := fun _ => rfl
    have e21 := (show a0_16.eval (.tmp 21) = .pointer (some ⟨b, 0, none⟩) from (fa0_16.at_ 21))
    clear fa0_16 ha
    generalize a0_16.eval = ρ at *
    go_simp
  refine fa0_16.takeCall 8 22 (.int .i64 (D.P.length : Int)) _ _ rfl (by kernel_rfl) (by kernel_rfl) (by kernel_rfl) (fun _ _ _ h => h) rfl (lb_ hsz) (wanted_none rfl) r_a0_17 (fun W hW => size_core (o := 0) W hW.2) hS8 (fun a0_17 fa0_17 => ?_)
  clear r_a0_17
  clear fa0_16
  have r_a0_18 : ∀ Z, (fun Z => Z.cell? ⟨b, 4, none⟩ = some (.int .i64 (D.most : Int)) ∧ Z.cell? ⟨b, 1, none⟩ = some (.slice pa D.P.length pc)) Z → (execOp a0_17.eval { dst := some 23, op := Op.binOp BinOp.sub 3 (Operand.tmp 18) (Operand.tmp 22) 3, type := 3, pos := "acts.go:35", after := #[{ on := 4, ground := Ground.data }, { on := 8, ground := Ground.data }], guard := none }).run Try.prog Z = .ok (.value (.int .i64 ((D.most : Int) - (D.P.length : Int)))) Z := fun Z hZ => by
    have e18 := (show a0_17.eval (.tmp 18) = .int .i64 (D.most : Int) from (fa0_17.at_ 18))
    have e22 := (show a0_17.eval (.tmp 22) = .int .i64 (D.P.length : Int) from (fa0_17.at_ 22))
    clear fa0_17 ha
    generalize a0_17.eval = ρ at *
    go_simp
  refine fa0_17.take 9 23 (.int .i64 ((D.most : Int) - (D.P.length : Int))) rfl (by kernel_rfl) (by kernel_rfl) (by kernel_rfl) (fun _ _ _ h => h) rfl (lb_ hsz) (wanted_none rfl) r_a0_18 hS8 (fun a0_18 fa0_18 => ?_)
  clear r_a0_18
  clear fa0_17
  have r_a0_19 : ∀ Z, (fun Z => Z.cell? ⟨b, 4, none⟩ = some (.int .i64 (D.most : Int)) ∧ Z.cell? ⟨b, 1, none⟩ = some (.slice pa D.P.length pc)) Z → (execOp a0_18.eval { dst := some 24, op := Op.binOp BinOp.gtr 3 (Operand.tmp 14) (Operand.tmp 23) 3, type := 4, pos := "acts.go:35", after := #[{ on := 0, ground := Ground.data }, { on := 9, ground := Ground.data }], guard := none }).run Try.prog Z = .ok (.value (.bool true)) Z := fun Z hZ => by
    have e14 := (show a0_18.eval (.tmp 14) = .int .i64 n from (fa0_18.at_ 14))
    have e23 := (show a0_18.eval (.tmp 23) = .int .i64 ((D.most : Int) - (D.P.length : Int)) from (fa0_18.at_ 23))
    clear fa0_18 ha
    generalize a0_18.eval = ρ at *
    go_simp
  refine fa0_18.take 10 24 (.bool true) rfl (by kernel_rfl) (by kernel_rfl) (by kernel_rfl) (fun _ _ _ h => h) rfl (lb_ hsz) (wanted_none rfl) r_a0_19 hS8 (fun a0_19 fa0_19 => ?_)
  clear r_a0_19
  clear fa0_18
  refine wpAnyH_done (by kernel_rfl) ?_ _
  change Code.wp _ _ _ _ _
  refine wp_cond_true (show a0_19.eval (.tmp 24) = .bool true from (fa0_19.at_ 24)) (wp_seq ?_)
  refine wp_region_list ?_
  unfold rOP7
  refine fa0_19.move 4 (.int .i64 5) _ (Or.inr rfl) rfl (lb_ hsz) (wanted_none rfl) rfl (fun a0_20 fa0_20 => ?_)
  clear fa0_19
  refine wpList_nil ?_
  change Code.wp _ _ _ _ _
  refine wp_ret ?_
  simp only [Exit.then]
  exact ret_abs rfl (fa0_20.defers.trans hd) (show a0_20.eval (.tmp 4) = .int .i64 5 from (fa0_20.at_ 4)) ⟨rfl, (h.same dd).land (fun k hk => Or.inl hk) (fun k hk => land_lt h.lt (Nat.le_refl _) hk), (Fr.refl _ w).drew⟩
set_option maxRecDepth 100000 in
set_option maxHeartbeats 1000000 in
theorem grow_ok {b : Nat} {n : Int} {D : Dk} {S : Nat → Prop} (w : World) (h : DkAt w b D S) (hk : DkOk D) (hm : DkSm D 1048575) (hmost : D.most ≤ 65536) (hPm : D.P.length ≤ D.most) (hoff : D.off = false) (hn : ¬ n < 1) (hf : ¬ (D.most : Int) - (D.P.length : Int) < n) :
    Calls Try.prog 26 #[.pointer (some ⟨b, 0, none⟩), .int .i64 n] w fun e w' => e = .returned (.int .i64 0) ∧ DkAt w' b { dkChange D (grX D n) with gr := D.gr + 1 } (Land S w w') ∧ Fr S w w' := by
  obtain ⟨h1, h2, h3, _⟩ := h.cells
  have hR := ready_core w h1 h3 (by have := hk.hp0; omega)
  rw [hoff] at hR
  obtain ⟨pa, pc, c1, _⟩ := h.rowP
  have wm : IntKind.i64.wrap ((D.most : Int) - (D.P.length : Int)) = (D.most : Int) - (D.P.length : Int) := by rw [IntKind.wrap_i64]; omega
  obtain ⟨gp, hgp⟩ : ∃ gp, gp = D.P.length + n.toNat := ⟨_, rfl⟩
  have hgi : IntKind.i64.wrap ((D.P.length : Int) + n) = (gp : Int) := by rw [IntKind.wrap_i64]; omega
  obtain ⟨pa2, ia, wa, aa, pc2, ic, wc, ac, ho⟩ := h.open
  have hC : ∀ W, Same w W → Calls Try.prog 38 #[.pointer (some ⟨b, 0, none⟩), .agg #[.int .u8 2, .int .u32 0, .int .i64 (gp : Int), .string ⟨#[]⟩], .int .i64 5] W fun e w' => e = .returned (.int .i64 0) ∧ DkAt w' b (dkChange D (grX D n)) (Land S W w') ∧ Fr S W w' := fun W s => by
    have := change_calls (rf := 5) (x := grX D n) W (ho.same s) hk ⟨by have := hm.P; omega, by have := hm.I; omega, by have := hm.W; omega, by have := hm.wr; omega, by have := hm.gr; omega, by have := hm.sy; omega, by have := hm.life; omega, by have := hm.taken; omega⟩ ⟨by show D.P.length + n.toNat ≤ 1048576; omega, by show (0 : Nat) < 1048576; decide, fun e => absurd rfl e, by show 2 < 256; decide⟩
    rw [hgp]
    exact this
  have hgr := hm.gr
  have wg : IntKind.i64.wrap ((D.gr : Int) + 1) = (D.gr : Int) + 1 := by rw [IntKind.wrap_i64]; omega
  clear hgp hgr ho
  refine calls_abs (c := cOP) Try.func26 (by kernel_rfl) 47 rfl (by simp) (fun a0 hsz hd ha => ?_)
  have fa0_0 := Fe.refl a0
  unfold cOP
  refine wp_seq ?_
  refine wp_region_list ?_
  unfold rOP0
  refine fa0_0.move 4 (.int .i64 0) _ (Or.inr rfl) rfl (lb_ hsz) (wanted_none rfl) rfl (fun a0_1 fa0_1 => ?_)
  clear fa0_0
  refine wpList_nil ?_
  change Code.wp _ _ _ _ _
  refine wp_seq (wp_seq ?_)
  refine wp_region_list ?_
  unfold rOP1
  refine fa0_1.move 7 (.pointer (some ⟨b, 0, none⟩)) _ (Or.inl rfl) rfl (lb_ hsz) (wanted_none rfl) ((fa0_1.at_ 0).trans (ha 0 _ rfl)) (fun a0_2 fa0_2 => ?_)
  clear fa0_1
  have r_a0_3 : (execOp a0_2.eval { dst := some 8, op := Op.call { callee := Callee.value (Operand.func 37), args := #[Operand.tmp 7], argTypes := #[27] }, type := 24, pos := "acts.go:29", after := #[{ on := 0, ground := Ground.data }], guard := none }).run Try.prog (w) = .ok (.enter 37 #[.pointer (some ⟨b, 0, none⟩)]) (w) := by
    have kf : ∀ f, a0_2.eval (.func f) = .func (.func f) #[] #[] := fun _ => rfl
    have e7 := (show a0_2.eval (.tmp 7) = .pointer (some ⟨b, 0, none⟩) from (fa0_2.at_ 7))
    clear fa0_2 ha
    generalize a0_2.eval = ρ at *
    go_simp
  refine fa0_2.call 8 rfl (lb_ hsz) (wanted_none rfl) r_a0_3 (hR) (fun e w1 hR => ?_)
  obtain ⟨rfl, hw1⟩ := hR
  clear r_a0_3
  have hw1 := hw1.symm
  subst hw1
  refine ⟨_, rfl, fun a0_3 fa0_3 => ?_⟩
  clear fa0_2
  refine fa0_3.move 5 (.int .i64 0) _ (Or.inr rfl) rfl (lb_ hsz) (wanted_none rfl) (fa0_3.at_ 8) (fun a0_4 fa0_4 => ?_)
  clear fa0_3
  refine wpList_nil ?_
  change Code.wp _ _ _ _ _
  refine wp_seq ?_
  refine wp_region_list ?_
  unfold rOP2
  refine fa0_4.move 9 (.int .i64 0) _ (Or.inl rfl) rfl (lb_ hsz) (wanted_none rfl) (fa0_4.at_ 5) (fun a0_5 fa0_5 => ?_)
  clear fa0_4
  have r_a0_6 : (execOp a0_5.eval { dst := some 10, op := Op.binOp BinOp.neq 24 (Operand.tmp 9) (Operand.const (Value.int IntKind.i64 0)) 24, type := 4, pos := "acts.go:29", after := #[{ on := 0, ground := Ground.data }], guard := none }).run Try.prog (w) = .ok (.value (.bool false)) (w) := by
    have kc : ∀ v, a0_5.eval (.const v) = v := fun _ => rfl
    have e9 := (show a0_5.eval (.tmp 9) = .int .i64 0 from (fa0_5.at_ 9))
    clear fa0_5 ha
    generalize a0_5.eval = ρ at *
    go_simp
  refine fa0_5.step 10 (.bool false) rfl (lb_ hsz) (wanted_none rfl) r_a0_6 (fun a0_6 fa0_6 => ?_)
  clear r_a0_6
  clear fa0_5
  refine wpList_nil ?_
  change Code.wp _ _ _ _ _
  refine wp_cond_false (show a0_6.eval (.tmp 10) = .bool false from (fa0_6.at_ 10)) (wp_skip ?_)
  change Code.wp _ _ _ _ _
  refine wp_seq (wp_seq ?_)
  refine wp_region_list ?_
  unfold rOP4
  refine fa0_6.move 12 (.int .i64 n) _ (Or.inl rfl) rfl (lb_ hsz) (wanted_none rfl) ((fa0_6.at_ 1).trans (ha 1 _ rfl)) (fun a0_7 fa0_7 => ?_)
  clear fa0_6
  have r_a0_8 : (execOp a0_7.eval { dst := some 13, op := Op.binOp BinOp.lss 3 (Operand.tmp 12) (Operand.const (Value.int IntKind.i64 1)) 3, type := 4, pos := "acts.go:32", after := #[{ on := 0, ground := Ground.data }], guard := none }).run Try.prog (w) = .ok (.value (.bool false)) (w) := by
    have kc : ∀ v, a0_7.eval (.const v) = v := fun _ => rfl
    have e12 := (show a0_7.eval (.tmp 12) = .int .i64 n from (fa0_7.at_ 12))
    clear fa0_7 ha
    generalize a0_7.eval = ρ at *
    go_simp
  refine fa0_7.step 13 (.bool false) rfl (lb_ hsz) (wanted_none rfl) r_a0_8 (fun a0_8 fa0_8 => ?_)
  clear r_a0_8
  clear fa0_7
  refine wpList_nil ?_
  change Code.wp _ _ _ _ _
  refine wp_cond_false (show a0_8.eval (.tmp 13) = .bool false from (fa0_8.at_ 13)) (wp_skip ?_)
  change Code.wp _ _ _ _ _
  refine wp_seq (wp_seq ?_)
  have dd : Same w w.drew := (Fr.refl (fun _ => False) w).drew
  have d1 := dd.keep h2
  have dc1 := dd.keep c1
  refine wp_region_held_drew (ops := rOP6) (S := fun Z => Z.cell? ⟨b, 4, none⟩ = some (.int .i64 (D.most : Int)) ∧ Z.cell? ⟨b, 1, none⟩ = some (.slice pa D.P.length pc)) (by kernel_rfl) (⟨d1, dc1⟩) (fun hS8 => ?_)
  refine fa0_8.takeMove 0 14 (.int .i64 n) _ (Or.inl rfl) rfl (by kernel_rfl) (by kernel_rfl) (by kernel_rfl) (fun _ _ _ h => h) rfl (lb_ hsz) (wanted_none rfl) ((fa0_8.at_ 1).trans (ha 1 _ rfl)) hS8 (fun a0_9 fa0_9 => ?_)
  clear fa0_8
  refine fa0_9.takeMove 1 15 (.pointer (some ⟨b, 0, none⟩)) _ (Or.inl rfl) rfl (by kernel_rfl) (by kernel_rfl) (by kernel_rfl) (fun _ _ _ h => h) rfl (lb_ hsz) (wanted_none rfl) ((fa0_9.at_ 0).trans (ha 0 _ rfl)) hS8 (fun a0_10 fa0_10 => ?_)
  clear fa0_9
  have r_a0_11 : ∀ Z, (fun Z => Z.cell? ⟨b, 4, none⟩ = some (.int .i64 (D.most : Int)) ∧ Z.cell? ⟨b, 1, none⟩ = some (.slice pa D.P.length pc)) Z → (execOp a0_10.eval { dst := some 16, op := Op.nilCheck (Operand.tmp 15), type := 0, pos := "acts.go:35", after := #[{ on := 1, ground := Ground.data }], guard := none }).run Try.prog Z = .ok (.value (.pointer (some ⟨b, 0, none⟩))) Z := fun Z hZ => by
    have e15 := (show a0_10.eval (.tmp 15) = .pointer (some ⟨b, 0, none⟩) from (fa0_10.at_ 15))
    clear fa0_10 ha
    generalize a0_10.eval = ρ at *
    go_simp
  refine fa0_10.take 2 16 (.pointer (some ⟨b, 0, none⟩)) rfl (by kernel_rfl) (by kernel_rfl) (by kernel_rfl) (fun _ _ _ h => h) rfl (lb_ hsz) (wanted_none rfl) r_a0_11 hS8 (fun a0_11 fa0_11 => ?_)
  clear r_a0_11
  clear fa0_10
  have r_a0_12 : ∀ Z, (fun Z => Z.cell? ⟨b, 4, none⟩ = some (.int .i64 (D.most : Int)) ∧ Z.cell? ⟨b, 1, none⟩ = some (.slice pa D.P.length pc)) Z → (execOp a0_11.eval { dst := some 17, op := Op.fieldAddr 51 (Operand.tmp 16) 2, type := 0, pos := "acts.go:35", after := #[{ on := 2, ground := Ground.data }], guard := none }).run Try.prog Z = .ok (.value (.pointer (some ⟨b, 4, none⟩))) Z := fun Z hZ => by
    have e16 := (show a0_11.eval (.tmp 16) = .pointer (some ⟨b, 0, none⟩) from (fa0_11.at_ 16))
    clear fa0_11 ha
    generalize a0_11.eval = ρ at *
    go_simp
  refine fa0_11.take 3 17 (.pointer (some ⟨b, 4, none⟩)) rfl (by kernel_rfl) (by kernel_rfl) (by kernel_rfl) (fun _ _ _ h => h) rfl (lb_ hsz) (wanted_none rfl) r_a0_12 hS8 (fun a0_12 fa0_12 => ?_)
  clear r_a0_12
  clear fa0_11
  have r_a0_13 : ∀ Z, (fun Z => Z.cell? ⟨b, 4, none⟩ = some (.int .i64 (D.most : Int)) ∧ Z.cell? ⟨b, 1, none⟩ = some (.slice pa D.P.length pc)) Z → (execOp a0_12.eval { dst := some 18, op := Op.load 3 (Operand.tmp 17), type := 3, pos := "acts.go:35", after := #[{ on := 3, ground := Ground.data }], guard := none }).run Try.prog Z = .ok (.value (.int .i64 (D.most : Int))) Z := fun Z hZ => by
    obtain ⟨z0, z1⟩ := hZ
    have e17 := (show a0_12.eval (.tmp 17) = .pointer (some ⟨b, 4, none⟩) from (fa0_12.at_ 17))
    clear fa0_12 ha
    generalize a0_12.eval = ρ at *
    go_simp
  refine fa0_12.take 4 18 (.int .i64 (D.most : Int)) rfl (by kernel_rfl) (by kernel_rfl) (by kernel_rfl) (fun _ _ _ h => h) rfl (lb_ hsz) (wanted_none rfl) r_a0_13 hS8 (fun a0_13 fa0_13 => ?_)
  clear r_a0_13
  clear fa0_12
  refine fa0_13.takeMove 5 19 (.pointer (some ⟨b, 0, none⟩)) _ (Or.inl rfl) rfl (by kernel_rfl) (by kernel_rfl) (by kernel_rfl) (fun _ _ _ h => h) rfl (lb_ hsz) (wanted_none rfl) ((fa0_13.at_ 0).trans (ha 0 _ rfl)) hS8 (fun a0_14 fa0_14 => ?_)
  clear fa0_13
  have r_a0_15 : ∀ Z, (fun Z => Z.cell? ⟨b, 4, none⟩ = some (.int .i64 (D.most : Int)) ∧ Z.cell? ⟨b, 1, none⟩ = some (.slice pa D.P.length pc)) Z → (execOp a0_14.eval { dst := some 20, op := Op.nilCheck (Operand.tmp 19), type := 0, pos := "acts.go:35", after := #[{ on := 5, ground := Ground.data }], guard := none }).run Try.prog Z = .ok (.value (.pointer (some ⟨b, 0, none⟩))) Z := fun Z hZ => by
    have e19 := (show a0_14.eval (.tmp 19) = .pointer (some ⟨b, 0, none⟩) from (fa0_14.at_ 19))
    clear fa0_14 ha
    generalize a0_14.eval = ρ at *
    go_simp
  refine fa0_14.take 6 20 (.pointer (some ⟨b, 0, none⟩)) rfl (by kernel_rfl) (by kernel_rfl) (by kernel_rfl) (fun _ _ _ h => h) rfl (lb_ hsz) (wanted_none rfl) r_a0_15 hS8 (fun a0_15 fa0_15 => ?_)
  clear r_a0_15
  clear fa0_14
  have r_a0_16 : ∀ Z, (fun Z => Z.cell? ⟨b, 4, none⟩ = some (.int .i64 (D.most : Int)) ∧ Z.cell? ⟨b, 1, none⟩ = some (.slice pa D.P.length pc)) Z → (execOp a0_15.eval { dst := some 21, op := Op.fieldAddr 51 (Operand.tmp 20) 0, type := 0, pos := "acts.go:35", after := #[{ on := 6, ground := Ground.data }], guard := none }).run Try.prog Z = .ok (.value (.pointer (some ⟨b, 0, none⟩))) Z := fun Z hZ => by
    have e20 := (show a0_15.eval (.tmp 20) = .pointer (some ⟨b, 0, none⟩) from (fa0_15.at_ 20))
    clear fa0_15 ha
    generalize a0_15.eval = ρ at *
    go_simp
  refine fa0_15.take 7 21 (.pointer (some ⟨b, 0, none⟩)) rfl (by kernel_rfl) (by kernel_rfl) (by kernel_rfl) (fun _ _ _ h => h) rfl (lb_ hsz) (wanted_none rfl) r_a0_16 hS8 (fun a0_16 fa0_16 => ?_)
  clear r_a0_16
  clear fa0_15
  have r_a0_17 : ∀ Z, (fun Z => Z.cell? ⟨b, 4, none⟩ = some (.int .i64 (D.most : Int)) ∧ Z.cell? ⟨b, 1, none⟩ = some (.slice pa D.P.length pc)) Z → (execOp a0_16.eval { dst := some 22, op := Op.call { callee := Callee.value (Operand.func 36), args := #[Operand.tmp 21], argTypes := #[46] }, type := 3, pos := "acts.go:35", after := #[{ on := 7, ground := Ground.data }], guard := none }).run Try.prog Z = .ok (.enter 36 #[.pointer (some ⟨b, 0, none⟩)]) Z := fun Z hZ => by
    have kf : ∀ f, a0_16.eval (.func f) = .func (.func f) #[] #[] := fun _ => rfl
    have e21 := (show a0_16.eval (.tmp 21) = .pointer (some ⟨b, 0, none⟩) from (fa0_16.at_ 21))
    clear fa0_16 ha
    generalize a0_16.eval = ρ at *
    go_simp
  refine fa0_16.takeCall 8 22 (.int .i64 (D.P.length : Int)) _ _ rfl (by kernel_rfl) (by kernel_rfl) (by kernel_rfl) (fun _ _ _ h => h) rfl (lb_ hsz) (wanted_none rfl) r_a0_17 (fun W hW => size_core (o := 0) W hW.2) hS8 (fun a0_17 fa0_17 => ?_)
  clear r_a0_17
  clear fa0_16
  have r_a0_18 : ∀ Z, (fun Z => Z.cell? ⟨b, 4, none⟩ = some (.int .i64 (D.most : Int)) ∧ Z.cell? ⟨b, 1, none⟩ = some (.slice pa D.P.length pc)) Z → (execOp a0_17.eval { dst := some 23, op := Op.binOp BinOp.sub 3 (Operand.tmp 18) (Operand.tmp 22) 3, type := 3, pos := "acts.go:35", after := #[{ on := 4, ground := Ground.data }, { on := 8, ground := Ground.data }], guard := none }).run Try.prog Z = .ok (.value (.int .i64 ((D.most : Int) - (D.P.length : Int)))) Z := fun Z hZ => by
    have e18 := (show a0_17.eval (.tmp 18) = .int .i64 (D.most : Int) from (fa0_17.at_ 18))
    have e22 := (show a0_17.eval (.tmp 22) = .int .i64 (D.P.length : Int) from (fa0_17.at_ 22))
    clear fa0_17 ha
    generalize a0_17.eval = ρ at *
    go_simp
  refine fa0_17.take 9 23 (.int .i64 ((D.most : Int) - (D.P.length : Int))) rfl (by kernel_rfl) (by kernel_rfl) (by kernel_rfl) (fun _ _ _ h => h) rfl (lb_ hsz) (wanted_none rfl) r_a0_18 hS8 (fun a0_18 fa0_18 => ?_)
  clear r_a0_18
  clear fa0_17
  have r_a0_19 : ∀ Z, (fun Z => Z.cell? ⟨b, 4, none⟩ = some (.int .i64 (D.most : Int)) ∧ Z.cell? ⟨b, 1, none⟩ = some (.slice pa D.P.length pc)) Z → (execOp a0_18.eval { dst := some 24, op := Op.binOp BinOp.gtr 3 (Operand.tmp 14) (Operand.tmp 23) 3, type := 4, pos := "acts.go:35", after := #[{ on := 0, ground := Ground.data }, { on := 9, ground := Ground.data }], guard := none }).run Try.prog Z = .ok (.value (.bool false)) Z := fun Z hZ => by
    have e14 := (show a0_18.eval (.tmp 14) = .int .i64 n from (fa0_18.at_ 14))
    have e23 := (show a0_18.eval (.tmp 23) = .int .i64 ((D.most : Int) - (D.P.length : Int)) from (fa0_18.at_ 23))
    clear fa0_18 ha
    generalize a0_18.eval = ρ at *
    go_simp
  refine fa0_18.take 10 24 (.bool false) rfl (by kernel_rfl) (by kernel_rfl) (by kernel_rfl) (fun _ _ _ h => h) rfl (lb_ hsz) (wanted_none rfl) r_a0_19 hS8 (fun a0_19 fa0_19 => ?_)
  clear r_a0_19
  clear fa0_18
  refine wpAnyH_done (by kernel_rfl) ?_ _
  change Code.wp _ _ _ _ _
  refine wp_cond_false (show a0_19.eval (.tmp 24) = .bool false from (fa0_19.at_ 24)) (wp_skip ?_)
  generalize w.drew = V at *
  change Code.wp _ _ _ _ _
  refine wp_seq ?_
  refine wp_region_list ?_
  unfold rOP8
  refine fa0_19.move 25 (.pointer (some ⟨b, 0, none⟩)) _ (Or.inl rfl) rfl (lb_ hsz) (wanted_none rfl) ((fa0_19.at_ 0).trans (ha 0 _ rfl)) (fun a0_20 fa0_20 => ?_)
  clear fa0_19
  refine fa0_20.move 26 (.pointer (some ⟨b, 0, none⟩)) _ (Or.inl rfl) rfl (lb_ hsz) (wanted_none rfl) ((fa0_20.at_ 0).trans (ha 0 _ rfl)) (fun a0_21 fa0_21 => ?_)
  clear fa0_20
  have r_a0_22 : (execOp a0_21.eval { dst := some 27, op := Op.nilCheck (Operand.tmp 26), type := 0, pos := "acts.go:38", after := #[{ on := 1, ground := Ground.data }], guard := none }).run Try.prog (V) = .ok (.value (.pointer (some ⟨b, 0, none⟩))) (V) := by
    have e26 := (show a0_21.eval (.tmp 26) = .pointer (some ⟨b, 0, none⟩) from (fa0_21.at_ 26))
    clear fa0_21 ha
    generalize a0_21.eval = ρ at *
    go_simp
  refine fa0_21.step 27 (.pointer (some ⟨b, 0, none⟩)) rfl (lb_ hsz) (wanted_none rfl) r_a0_22 (fun a0_22 fa0_22 => ?_)
  clear r_a0_22
  clear fa0_21
  have r_a0_23 : (execOp a0_22.eval { dst := some 28, op := Op.fieldAddr 51 (Operand.tmp 27) 0, type := 0, pos := "acts.go:38", after := #[{ on := 2, ground := Ground.data }], guard := none }).run Try.prog (V) = .ok (.value (.pointer (some ⟨b, 0, none⟩))) (V) := by
    have e27 := (show a0_22.eval (.tmp 27) = .pointer (some ⟨b, 0, none⟩) from (fa0_22.at_ 27))
    clear fa0_22 ha
    generalize a0_22.eval = ρ at *
    go_simp
  refine fa0_22.step 28 (.pointer (some ⟨b, 0, none⟩)) rfl (lb_ hsz) (wanted_none rfl) r_a0_23 (fun a0_23 fa0_23 => ?_)
  clear r_a0_23
  clear fa0_22
  have r_a0_24 : (execOp a0_23.eval { dst := some 29, op := Op.call { callee := Callee.value (Operand.func 36), args := #[Operand.tmp 28], argTypes := #[46] }, type := 3, pos := "acts.go:38", after := #[{ on := 3, ground := Ground.data }], guard := none }).run Try.prog (V) = .ok (.enter 36 #[.pointer (some ⟨b, 0, none⟩)]) (V) := by
    have kf : ∀ f, a0_23.eval (.func f) = .func (.func f) #[] #[] := fun _ => rfl
    have e28 := (show a0_23.eval (.tmp 28) = .pointer (some ⟨b, 0, none⟩) from (fa0_23.at_ 28))
    clear fa0_23 ha
    generalize a0_23.eval = ρ at *
    go_simp
  refine fa0_23.call 29 rfl (lb_ hsz) (wanted_none rfl) r_a0_24 (size_core (o := 0) V dc1) (fun e w2 hR => ?_)
  obtain ⟨rfl, hw2⟩ := hR
  clear r_a0_24
  have hw2 := hw2.symm
  subst hw2
  refine ⟨_, rfl, fun a0_24 fa0_24 => ?_⟩
  clear fa0_23
  refine fa0_24.move 30 (.int .i64 n) _ (Or.inl rfl) rfl (lb_ hsz) (wanted_none rfl) ((fa0_24.at_ 1).trans (ha 1 _ rfl)) (fun a0_25 fa0_25 => ?_)
  clear fa0_24
  have r_a0_26 : (execOp a0_25.eval { dst := some 31, op := Op.binOp BinOp.add 3 (Operand.tmp 29) (Operand.tmp 30) 3, type := 3, pos := "acts.go:38", after := #[{ on := 4, ground := Ground.data }, { on := 5, ground := Ground.data }], guard := none }).run Try.prog (V) = .ok (.value (.int .i64 (gp : Int))) (V) := by
    have e29 := (show a0_25.eval (.tmp 29) = .int .i64 (D.P.length : Int) from (fa0_25.at_ 29))
    have e30 := (show a0_25.eval (.tmp 30) = .int .i64 n from (fa0_25.at_ 30))
    clear fa0_25 ha
    generalize a0_25.eval = ρ at *
    go_simp
  refine fa0_25.step 31 (.int .i64 (gp : Int)) rfl (lb_ hsz) (wanted_none rfl) r_a0_26 (fun a0_26 fa0_26 => ?_)
  clear r_a0_26
  clear fa0_25
  have r_a0_27 : (execOp a0_26.eval { dst := some 32, op := Op.build 75 #[(0, Operand.const (Value.int IntKind.u8 2)), (2, Operand.tmp 31)], type := 75, pos := "acts.go:38", after := #[{ on := 6, ground := Ground.data }], guard := none }).run Try.prog (V) = .ok (.value (.agg #[.int .u8 2, .int .u32 0, .int .i64 (gp : Int)])) (V) := by
    have kc : ∀ v, a0_26.eval (.const v) = v := fun _ => rfl
    have e31 := (show a0_26.eval (.tmp 31) = .int .i64 (gp : Int) from (fa0_26.at_ 31))
    clear fa0_26 ha
    generalize a0_26.eval = ρ at *
    go_simp
  refine fa0_26.step 32 (.agg #[.int .u8 2, .int .u32 0, .int .i64 (gp : Int)]) rfl (lb_ hsz) (wanted_none rfl) r_a0_27 (fun a0_27 fa0_27 => ?_)
  clear r_a0_27
  clear fa0_26
  have r_a0_28 : (execOp a0_27.eval { dst := some 33, op := Op.build 77 #[(0, Operand.tmp 32)], type := 77, pos := "acts.go:38", after := #[{ on := 7, ground := Ground.data }], guard := none }).run Try.prog (V) = .ok (.value (.agg #[.int .u8 2, .int .u32 0, .int .i64 (gp : Int), .string ⟨#[]⟩])) (V) := by
    have e32 := (show a0_27.eval (.tmp 32) = .agg #[.int .u8 2, .int .u32 0, .int .i64 (gp : Int)] from (fa0_27.at_ 32))
    clear fa0_27 ha
    generalize a0_27.eval = ρ at *
    go_simp
  refine fa0_27.step 33 (.agg #[.int .u8 2, .int .u32 0, .int .i64 (gp : Int), .string ⟨#[]⟩]) rfl (lb_ hsz) (wanted_none rfl) r_a0_28 (fun a0_28 fa0_28 => ?_)
  clear r_a0_28
  clear fa0_27
  have r_a0_29 : (execOp a0_28.eval { dst := some 34, op := Op.call { callee := Callee.value (Operand.func 38), args := #[Operand.tmp 25, Operand.tmp 33, Operand.const (Value.int IntKind.i64 5)], argTypes := #[27, 77, 24] }, type := 24, pos := "acts.go:38", after := #[{ on := 0, ground := Ground.data }, { on := 8, ground := Ground.data }, { on := 4, ground := Ground.chain }], guard := none }).run Try.prog (V) = .ok (.enter 38 #[.pointer (some ⟨b, 0, none⟩), .agg #[.int .u8 2, .int .u32 0, .int .i64 (gp : Int), .string ⟨#[]⟩], Value.int IntKind.i64 5]) (V) := by
    have kc : ∀ v, a0_28.eval (.const v) = v := fun _ => rfl
    have kf : ∀ f, a0_28.eval (.func f) = .func (.func f) #[] #[] := fun _ => rfl
    have e25 := (show a0_28.eval (.tmp 25) = .pointer (some ⟨b, 0, none⟩) from (fa0_28.at_ 25))
    have e33 := (show a0_28.eval (.tmp 33) = .agg #[.int .u8 2, .int .u32 0, .int .i64 (gp : Int), .string ⟨#[]⟩] from (fa0_28.at_ 33))
    clear fa0_28 ha
    generalize a0_28.eval = ρ at *
    go_simp
  refine fa0_28.call 34 rfl (lb_ hsz) (wanted_none rfl) r_a0_29 (hC V dd) (fun e V5 hR => ?_)
  obtain ⟨rfl, d5, f5⟩ := hR
  clear r_a0_29
  have q9 : V5.cell? ⟨b, 9, none⟩ = some (.int .i64 (D.gr : Int)) := by obtain ⟨_, _, _, _, q, _⟩ := d5.cells; exact q
  have z9 : V5.frozen? ⟨b, 9, none⟩ = false := by obtain ⟨_, _, _, _, _, _, _, _, q⟩ := d5.open; exact q.frozen 9
  refine ⟨_, rfl, fun a0_29 fa0_29 => ?_⟩
  clear fa0_28
  refine fa0_29.move 6 (.int .i64 0) _ (Or.inr rfl) rfl (lb_ hsz) (wanted_none rfl) (fa0_29.at_ 34) (fun a0_30 fa0_30 => ?_)
  clear fa0_29
  refine wpList_nil ?_
  change Code.wp _ _ _ _ _
  refine wp_seq (wp_seq ?_)
  refine wp_region_list ?_
  unfold rOP9
  refine fa0_30.move 35 (.int .i64 0) _ (Or.inl rfl) rfl (lb_ hsz) (wanted_none rfl) (fa0_30.at_ 6) (fun a0_31 fa0_31 => ?_)
  clear fa0_30
  have r_a0_32 : (execOp a0_31.eval { dst := some 36, op := Op.binOp BinOp.eql 24 (Operand.tmp 35) (Operand.const (Value.int IntKind.i64 0)) 24, type := 4, pos := "acts.go:39", after := #[{ on := 0, ground := Ground.data }], guard := none }).run Try.prog (V5) = .ok (.value (.bool true)) (V5) := by
    have kc : ∀ v, a0_31.eval (.const v) = v := fun _ => rfl
    have e35 := (show a0_31.eval (.tmp 35) = .int .i64 0 from (fa0_31.at_ 35))
    clear fa0_31 ha
    generalize a0_31.eval = ρ at *
    go_simp
  refine fa0_31.step 36 (.bool true) rfl (lb_ hsz) (wanted_none rfl) r_a0_32 (fun a0_32 fa0_32 => ?_)
  clear r_a0_32
  clear fa0_31
  refine wpList_nil ?_
  change Code.wp _ _ _ _ _
  refine wp_cond_true (show a0_32.eval (.tmp 36) = .bool true from (fa0_32.at_ 36)) ?_
  refine wp_region_list ?_
  unfold rOP10
  refine fa0_32.move 37 (.pointer (some ⟨b, 0, none⟩)) _ (Or.inl rfl) rfl (lb_ hsz) (wanted_none rfl) ((fa0_32.at_ 0).trans (ha 0 _ rfl)) (fun a0_33 fa0_33 => ?_)
  clear fa0_32
  have r_a0_34 : (execOp a0_33.eval { dst := some 38, op := Op.nilCheck (Operand.tmp 37), type := 0, pos := "acts.go:40", after := #[{ on := 0, ground := Ground.data }], guard := none }).run Try.prog (V5) = .ok (.value (.pointer (some ⟨b, 0, none⟩))) (V5) := by
    have e37 := (show a0_33.eval (.tmp 37) = .pointer (some ⟨b, 0, none⟩) from (fa0_33.at_ 37))
    clear fa0_33 ha
    generalize a0_33.eval = ρ at *
    go_simp
  refine fa0_33.step 38 (.pointer (some ⟨b, 0, none⟩)) rfl (lb_ hsz) (wanted_none rfl) r_a0_34 (fun a0_34 fa0_34 => ?_)
  clear r_a0_34
  clear fa0_33
  have r_a0_35 : (execOp a0_34.eval { dst := some 39, op := Op.fieldAddr 51 (Operand.tmp 38) 6, type := 0, pos := "acts.go:40", after := #[{ on := 1, ground := Ground.data }], guard := none }).run Try.prog (V5) = .ok (.value (.pointer (some ⟨b, 8, none⟩))) (V5) := by
    have e38 := (show a0_34.eval (.tmp 38) = .pointer (some ⟨b, 0, none⟩) from (fa0_34.at_ 38))
    clear fa0_34 ha
    generalize a0_34.eval = ρ at *
    go_simp
  refine fa0_34.step 39 (.pointer (some ⟨b, 8, none⟩)) rfl (lb_ hsz) (wanted_none rfl) r_a0_35 (fun a0_35 fa0_35 => ?_)
  clear r_a0_35
  clear fa0_34
  have r_a0_36 : (execOp a0_35.eval { dst := some 40, op := Op.fieldAddr 40 (Operand.tmp 39) 1, type := 0, pos := "acts.go:40", after := #[{ on := 2, ground := Ground.data }], guard := none }).run Try.prog (V5) = .ok (.value (.pointer (some ⟨b, 9, none⟩))) (V5) := by
    have e39 := (show a0_35.eval (.tmp 39) = .pointer (some ⟨b, 8, none⟩) from (fa0_35.at_ 39))
    clear fa0_35 ha
    generalize a0_35.eval = ρ at *
    go_simp
  refine fa0_35.step 40 (.pointer (some ⟨b, 9, none⟩)) rfl (lb_ hsz) (wanted_none rfl) r_a0_36 (fun a0_36 fa0_36 => ?_)
  clear r_a0_36
  clear fa0_35
  have r_a0_37 : (execOp a0_36.eval { dst := some 41, op := Op.load 3 (Operand.tmp 40), type := 3, pos := "acts.go:40", after := #[{ on := 3, ground := Ground.data }], guard := none }).run Try.prog (V5) = .ok (.value (.int .i64 (D.gr : Int))) (V5) := by
    have e40 := (show a0_36.eval (.tmp 40) = .pointer (some ⟨b, 9, none⟩) from (fa0_36.at_ 40))
    clear fa0_36 ha
    generalize a0_36.eval = ρ at *
    go_simp
  refine fa0_36.step 41 (.int .i64 (D.gr : Int)) rfl (lb_ hsz) (wanted_none rfl) r_a0_37 (fun a0_37 fa0_37 => ?_)
  clear r_a0_37
  clear fa0_36
  have r_a0_38 : (execOp a0_37.eval { dst := some 42, op := Op.binOp BinOp.add 3 (Operand.tmp 41) (Operand.const (Value.int IntKind.i64 1)) 3, type := 3, pos := "acts.go:40", after := #[{ on := 4, ground := Ground.data }], guard := none }).run Try.prog (V5) = .ok (.value (.int .i64 ((D.gr : Int) + 1))) (V5) := by
    have kc : ∀ v, a0_37.eval (.const v) = v := fun _ => rfl
    have e41 := (show a0_37.eval (.tmp 41) = .int .i64 (D.gr : Int) from (fa0_37.at_ 41))
    clear fa0_37 ha
    generalize a0_37.eval = ρ at *
    go_simp
  refine fa0_37.step 42 (.int .i64 ((D.gr : Int) + 1)) rfl (lb_ hsz) (wanted_none rfl) r_a0_38 (fun a0_38 fa0_38 => ?_)
  clear r_a0_38
  clear fa0_37
  have r_a0_39 : (execOp a0_38.eval { dst := some 43, op := Op.nilCheck (Operand.tmp 37), type := 0, pos := "acts.go:40", after := #[{ on := 0, ground := Ground.data }, { on := 0, ground := Ground.phase }, { on := 1, ground := Ground.phase }, { on := 2, ground := Ground.phase }, { on := 3, ground := Ground.phase }, { on := 4, ground := Ground.phase }, { on := 5, ground := Ground.phase }], guard := none }).run Try.prog (V5) = .ok (.value (.pointer (some ⟨b, 0, none⟩))) (V5) := by
    have e37 := (show a0_38.eval (.tmp 37) = .pointer (some ⟨b, 0, none⟩) from (fa0_38.at_ 37))
    clear fa0_38 ha
    generalize a0_38.eval = ρ at *
    go_simp
  refine fa0_38.step 43 (.pointer (some ⟨b, 0, none⟩)) rfl (lb_ hsz) (wanted_none rfl) r_a0_39 (fun a0_39 fa0_39 => ?_)
  clear r_a0_39
  clear fa0_38
  have r_a0_40 : (execOp a0_39.eval { dst := some 44, op := Op.fieldAddr 51 (Operand.tmp 43) 6, type := 0, pos := "acts.go:40", after := #[{ on := 6, ground := Ground.data }, { on := 0, ground := Ground.phase }, { on := 1, ground := Ground.phase }, { on := 2, ground := Ground.phase }, { on := 3, ground := Ground.phase }, { on := 4, ground := Ground.phase }, { on := 5, ground := Ground.phase }], guard := none }).run Try.prog (V5) = .ok (.value (.pointer (some ⟨b, 8, none⟩))) (V5) := by
    have e43 := (show a0_39.eval (.tmp 43) = .pointer (some ⟨b, 0, none⟩) from (fa0_39.at_ 43))
    clear fa0_39 ha
    generalize a0_39.eval = ρ at *
    go_simp
  refine fa0_39.step 44 (.pointer (some ⟨b, 8, none⟩)) rfl (lb_ hsz) (wanted_none rfl) r_a0_40 (fun a0_40 fa0_40 => ?_)
  clear r_a0_40
  clear fa0_39
  have r_a0_41 : (execOp a0_40.eval { dst := some 45, op := Op.fieldAddr 40 (Operand.tmp 44) 1, type := 0, pos := "acts.go:40", after := #[{ on := 7, ground := Ground.data }, { on := 0, ground := Ground.phase }, { on := 1, ground := Ground.phase }, { on := 2, ground := Ground.phase }, { on := 3, ground := Ground.phase }, { on := 4, ground := Ground.phase }, { on := 5, ground := Ground.phase }], guard := none }).run Try.prog (V5) = .ok (.value (.pointer (some ⟨b, 9, none⟩))) (V5) := by
    have e44 := (show a0_40.eval (.tmp 44) = .pointer (some ⟨b, 8, none⟩) from (fa0_40.at_ 44))
    clear fa0_40 ha
    generalize a0_40.eval = ρ at *
    go_simp
  refine fa0_40.step 45 (.pointer (some ⟨b, 9, none⟩)) rfl (lb_ hsz) (wanted_none rfl) r_a0_41 (fun a0_41 fa0_41 => ?_)
  clear r_a0_41
  clear fa0_40
  have r_a0_42 : (execOp a0_41.eval { dst := none, op := Op.store 3 (Operand.tmp 45) (Operand.tmp 42), type := 0, pos := "acts.go:40", after := #[{ on := 8, ground := Ground.data }, { on := 5, ground := Ground.data }, { on := 0, ground := Ground.phase }, { on := 1, ground := Ground.phase }, { on := 2, ground := Ground.phase }, { on := 3, ground := Ground.phase }, { on := 4, ground := Ground.phase }, { on := 5, ground := Ground.phase }], guard := none }).run Try.prog (V5) = .ok .skip (World.setCell V5 ⟨b, 9, none⟩ (.int .i64 ((D.gr : Int) + 1))) := by
    have e45 := (show a0_41.eval (.tmp 45) = .pointer (some ⟨b, 9, none⟩) from (fa0_41.at_ 45))
    have e42 := (show a0_41.eval (.tmp 42) = .int .i64 ((D.gr : Int) + 1) from (fa0_41.at_ 42))
    clear fa0_41 ha
    generalize a0_41.eval = ρ at *
    go_simp
  refine fa0_41.store rfl (wanted_none rfl) r_a0_42 (fun a0_42 fa0_42 => ?_)
  clear r_a0_42
  have d6 := d5.setS (D' := { dkChange D (grX D n) with gr := D.gr + 1 }) 9 (.int .i64 ((D.gr : Int) + 1)) rfl rfl rfl (fun _ _ _ _ => rfl)
  generalize World.setCell V5 ⟨b, 9, none⟩ (.int .i64 ((D.gr : Int) + 1)) = V6 at *
  obtain ⟨d6, f6⟩ := d6
  clear fa0_41
  refine wpList_nil ?_
  change Code.wp _ _ _ _ _
  refine wp_seq ?_
  refine wp_region_list ?_
  unfold rOP11
  refine fa0_42.move 46 (.int .i64 0) _ (Or.inl rfl) rfl (lb_ hsz) (wanted_none rfl) (fa0_42.at_ 6) (fun a0_43 fa0_43 => ?_)
  clear fa0_42
  refine fa0_43.move 4 (.int .i64 0) _ (Or.inr rfl) rfl (lb_ hsz) (wanted_none rfl) (fa0_43.at_ 46) (fun a0_44 fa0_44 => ?_)
  clear fa0_43
  refine wpList_nil ?_
  change Code.wp _ _ _ _ _
  refine wp_ret ?_
  have fv : Fr S w V5 := Fr.trans (dd.mono (fun _ _ f => f.elim)) f5 (fun _ _ e => e)
  have fw : Fr S w V6 := Fr.trans fv f6 (fun k hk e => by rcases e with e | e; exact e; have := dd.size; omega)
  exact ret_abs rfl (fa0_44.defers.trans hd) (show a0_44.eval (.tmp 4) = .int .i64 0 from (fa0_44.at_ 4)) ⟨rfl, d6.land (fun k hk => by rcases hk with e | e; exact Or.inl e; exact Or.inr ⟨Nat.le_trans dd.size e.1, Nat.lt_of_lt_of_le e.2 f6.size⟩) (fun k hk => land_lt h.lt fw.size hk), fw⟩
theorem grow_calls {b : Nat} {n : Int} {D : Dk} {S : Nat → Prop} (w : World) (h : DkAt w b D S) (hk : DkOk D)  (hm : DkSm D 1048575) (hmost : D.most ≤ 65536) (hPm : D.P.length ≤ D.most) :
    Calls Try.prog 26 #[.pointer (some ⟨b, 0, none⟩), .int .i64 n] w fun e w' => e = .returned (.int .i64 (grE D n)) ∧ DkAt w' b (dkGrow D n) (Land S w w') ∧ Fr S w w' := by
  unfold dkGrow grE
  cases hoff : D.off with
  | true => exact grow_off w h hk hoff
  | false =>
    by_cases hn : n < 1
    · simp only [hn, if_true, Bool.false_eq_true, if_false]
      exact grow_arg w h hk hoff hn
    · by_cases hf : (D.most : Int) - (D.P.length : Int) < n
      · simp only [hn, hf, if_true, Bool.false_eq_true, if_false]
        exact grow_full w h hk hmost hPm hoff hn hf
      · simp only [hn, hf, Bool.false_eq_true, if_false]
        exact grow_ok w h hk hm hmost hPm hoff hn hf
end Go.Proofs.Ytljlkcmjbjnihaa
