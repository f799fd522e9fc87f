/- The document's above and root. -/
import Derived.Test.YtnoicjpmfchhiaaDoorRB
namespace Go.Proofs.YtnoicjpmfchhiaaDoor
open Go.RowKit

def abS (l : List Nat) (n : Nat) : Nat → Nat × Bool
  | 0 => (0, false)
  | i + 1 => (if i = n then l.getD i 0 else (abS l n i).1, if i < n ∧ 0 < l.getD i 0 then true else (abS l n i).2)
def abE (l : List Nat) (n : Nat) : Nat → Bool
  | 0 => false
  | i + 1 => abE l n i || decide (n < i ∧ 0 < l.getD i 0)
def aboveN (l : List Nat) (p n : Nat) : Bool := if abE l n l.length = true then true else decide (p < (abS l n l.length).1) || (decide ((abS l n l.length).1 = p) && (abS l n l.length).2)
theorem abE_mono {l : List Nat} {n i : Nat} (h : abE l n i = true) : ∀ k, abE l n (i + k) = true
  | 0 => h
  | k + 1 => by
    have := abE_mono h k
    show (abE l n (i + k) || _) = true
    rw [this]
    rfl
theorem abE_hit {l : List Nat} {n i : Nat} (h1 : n < i) (h2 : 0 < l.getD i 0) (hi : i < l.length) : abE l n l.length = true := by
  have : abE l n (i + 1) = true := by
    show (abE l n i || decide (n < i ∧ 0 < l.getD i 0)) = true
    rw [decide_eq_true ⟨h1, h2⟩, Bool.or_true]
  have := abE_mono this (l.length - (i + 1))
  rw [show i + 1 + (l.length - (i + 1)) = l.length by omega] at this
  exact this
theorem abE_miss {l : List Nat} {n i : Nat} (h0 : abE l n i = false) (h : ¬ (n < i ∧ 0 < l.getD i 0)) : abE l n (i + 1) = false := by
  show (abE l n i || decide (n < i ∧ 0 < l.getD i 0)) = false
  rw [h0, decide_eq_false h]
  rfl
def tryN (p w x i : Nat) : Nat :=
  let t := (x + 2 ^ i % 18446744073709551616) % 18446744073709551616
  let l2 := wideN (partsN t) (partsN t)
  let l := if w = 3 then wideN l2 (partsN t) else l2
  if aboveN l p w = true then x else t
def rootI (p w : Nat) : Nat → Nat → Nat
  | 0, x => x
  | i + 1, x => rootI p w i (tryN p w x i)
def rootN (p w : Nat) : Nat := rootI p w 37 0 % 4294967296
theorem wideN_len (a b : List Nat) : (wideN a b).length = a.length + b.length := by unfold wideN; rw [outW_len, List.length_replicate]
theorem partsN_len (x : Nat) : (partsN x).length = 2 := rfl
def rRD0 : Array Oper := #[{ dst := some 6, op := Op.assign (Operand.const (Value.bool false)), type := 4, pos := "ref.go:107", after := #[], guard := none }]
def rRD1 : Array Oper := #[{ dst := some 7, op := Op.assign (Operand.const (Value.int IntKind.u64 0)), type := 39, pos := "ref.go:108", after := #[], guard := none }]
def rRD2 : Array Oper := #[{ dst := some 8, op := Op.assign (Operand.const (Value.bool false)), type := 4, pos := "ref.go:109", after := #[], guard := none }]
def rRD3 : Array Oper := #[{ dst := some 9, op := Op.assign (Operand.const (Value.int IntKind.i64 0)), type := 3, pos := "ref.go:110", after := #[], guard := none }]
def rRD4 : Array Oper := #[{ dst := some 10, op := Op.move (Operand.tmp 9), type := 3, pos := "ref.go:110", after := #[], guard := none },
  { dst := some 11, op := Op.move (Operand.tmp 0), type := 36, pos := "ref.go:110", after := #[], guard := none },
  { dst := some 12, op := Op.call { callee := Callee.builtin Builtin.len, args := #[Operand.tmp 11], argTypes := #[36] }, type := 3, pos := "ref.go:110", after := #[{ on := 1, ground := Ground.data }], guard := none },
  { dst := some 13, op := Op.binOp BinOp.lss 3 (Operand.tmp 10) (Operand.tmp 12) 3, type := 4, pos := "ref.go:110", after := #[{ on := 0, ground := Ground.data }, { on := 2, ground := Ground.data }], guard := none }]
def rRD5 : Array Oper := #[{ dst := some 14, op := Op.move (Operand.tmp 9), type := 3, pos := "ref.go:110", after := #[], guard := none },
  { dst := some 15, op := Op.binOp BinOp.add 3 (Operand.tmp 14) (Operand.const (Value.int IntKind.i64 1)) 3, type := 3, pos := "ref.go:110", after := #[{ on := 0, ground := Ground.data }], guard := none },
  { dst := some 9, op := Op.assign (Operand.tmp 15), type := 3, pos := "ref.go:110", after := #[{ on := 1, ground := Ground.data }, { on := 0, ground := Ground.phase }, { on := 1, ground := Ground.phase }], guard := none }]
def rRD6 : Array Oper := #[{ dst := some 16, op := Op.move (Operand.tmp 9), type := 3, pos := "ref.go:111", after := #[], guard := none },
  { dst := some 17, op := Op.move (Operand.tmp 2), type := 3, pos := "ref.go:111", after := #[], guard := none },
  { dst := some 18, op := Op.binOp BinOp.gtr 3 (Operand.tmp 16) (Operand.tmp 17) 3, type := 4, pos := "ref.go:111", after := #[{ on := 0, ground := Ground.data }, { on := 1, ground := Ground.data }], guard := none },
  { dst := some 19, op := Op.move (Operand.tmp 18), type := 4, pos := "ref.go:111", after := #[{ on := 2, ground := Ground.data }], guard := none },
  { dst := some 20, op := Op.move (Operand.tmp 0), type := 36, pos := "ref.go:111", after := #[{ on := 3, ground := Ground.guard }], guard := some (3, true) },
  { dst := some 21, op := Op.move (Operand.tmp 9), type := 3, pos := "ref.go:111", after := #[{ on := 3, ground := Ground.guard }], guard := some (3, true) },
  { dst := some 22, op := Op.indexAddr 36 (Operand.tmp 20) (Operand.tmp 21), type := 0, pos := "ref.go:111", after := #[{ on := 4, ground := Ground.data }, { on := 5, ground := Ground.data }, { on := 3, ground := Ground.guard }], guard := some (3, true) },
  { dst := some 23, op := Op.load 39 (Operand.tmp 22), type := 39, pos := "ref.go:111", after := #[{ on := 6, ground := Ground.data }, { on := 3, ground := Ground.guard }], guard := some (3, true) },
  { dst := some 24, op := Op.binOp BinOp.gtr 39 (Operand.tmp 23) (Operand.const (Value.int IntKind.u64 0)) 39, type := 4, pos := "ref.go:111", after := #[{ on := 7, ground := Ground.data }, { on := 3, ground := Ground.guard }], guard := some (3, true) },
  { dst := some 25, op := Op.pick (Operand.tmp 19) (Operand.tmp 24) (Operand.const (Value.bool false)), type := 4, pos := "ref.go:111", after := #[{ on := 3, ground := Ground.data }, { on := 8, ground := Ground.data }], guard := none }]
def rRD7 : Array Oper := #[{ dst := some 6, op := Op.assign (Operand.const (Value.bool true)), type := 4, pos := "ref.go:112", after := #[], guard := none }]
def rRD8 : Array Oper := #[{ dst := some 26, op := Op.move (Operand.tmp 9), type := 3, pos := "ref.go:114", after := #[], guard := none },
  { dst := some 27, op := Op.move (Operand.tmp 2), type := 3, pos := "ref.go:114", after := #[], guard := none },
  { dst := some 28, op := Op.binOp BinOp.eql 3 (Operand.tmp 26) (Operand.tmp 27) 3, type := 4, pos := "ref.go:114", after := #[{ on := 0, ground := Ground.data }, { on := 1, ground := Ground.data }], guard := none }]
def rRD9 : Array Oper := #[{ dst := some 29, op := Op.move (Operand.tmp 0), type := 36, pos := "ref.go:115", after := #[], guard := none },
  { dst := some 30, op := Op.move (Operand.tmp 9), type := 3, pos := "ref.go:115", after := #[], guard := none },
  { dst := some 31, op := Op.indexAddr 36 (Operand.tmp 29) (Operand.tmp 30), type := 0, pos := "ref.go:115", after := #[{ on := 0, ground := Ground.data }, { on := 1, ground := Ground.data }], guard := none },
  { dst := some 32, op := Op.load 39 (Operand.tmp 31), type := 39, pos := "ref.go:115", after := #[{ on := 2, ground := Ground.data }], guard := none },
  { dst := some 7, op := Op.assign (Operand.tmp 32), type := 39, pos := "ref.go:115", after := #[{ on := 3, ground := Ground.data }, { on := 0, ground := Ground.phase }, { on := 1, ground := Ground.phase }, { on := 2, ground := Ground.phase }, { on := 3, ground := Ground.phase }], guard := none }]
def rRD10 : Array Oper := #[{ dst := some 33, op := Op.move (Operand.tmp 9), type := 3, pos := "ref.go:117", after := #[], guard := none },
  { dst := some 34, op := Op.move (Operand.tmp 2), type := 3, pos := "ref.go:117", after := #[], guard := none },
  { dst := some 35, op := Op.binOp BinOp.lss 3 (Operand.tmp 33) (Operand.tmp 34) 3, type := 4, pos := "ref.go:117", after := #[{ on := 0, ground := Ground.data }, { on := 1, ground := Ground.data }], guard := none },
  { dst := some 36, op := Op.move (Operand.tmp 35), type := 4, pos := "ref.go:117", after := #[{ on := 2, ground := Ground.data }], guard := none },
  { dst := some 37, op := Op.move (Operand.tmp 0), type := 36, pos := "ref.go:117", after := #[{ on := 3, ground := Ground.guard }], guard := some (3, true) },
  { dst := some 38, op := Op.move (Operand.tmp 9), type := 3, pos := "ref.go:117", after := #[{ on := 3, ground := Ground.guard }], guard := some (3, true) },
  { dst := some 39, op := Op.indexAddr 36 (Operand.tmp 37) (Operand.tmp 38), type := 0, pos := "ref.go:117", after := #[{ on := 4, ground := Ground.data }, { on := 5, ground := Ground.data }, { on := 3, ground := Ground.guard }], guard := some (3, true) },
  { dst := some 40, op := Op.load 39 (Operand.tmp 39), type := 39, pos := "ref.go:117", after := #[{ on := 6, ground := Ground.data }, { on := 3, ground := Ground.guard }], guard := some (3, true) },
  { dst := some 41, op := Op.binOp BinOp.gtr 39 (Operand.tmp 40) (Operand.const (Value.int IntKind.u64 0)) 39, type := 4, pos := "ref.go:117", after := #[{ on := 7, ground := Ground.data }, { on := 3, ground := Ground.guard }], guard := some (3, true) },
  { dst := some 42, op := Op.pick (Operand.tmp 36) (Operand.tmp 41) (Operand.const (Value.bool false)), type := 4, pos := "ref.go:117", after := #[{ on := 3, ground := Ground.data }, { on := 8, ground := Ground.data }], guard := none }]
def rRD11 : Array Oper := #[{ dst := some 8, op := Op.assign (Operand.const (Value.bool true)), type := 4, pos := "ref.go:118", after := #[], guard := none }]
def rRD12 : Array Oper := #[{ dst := some 43, op := Op.move (Operand.tmp 7), type := 39, pos := "ref.go:121", after := #[], guard := none },
  { dst := some 44, op := Op.move (Operand.tmp 1), type := 39, pos := "ref.go:121", after := #[], guard := none },
  { dst := some 45, op := Op.binOp BinOp.gtr 39 (Operand.tmp 43) (Operand.tmp 44) 39, type := 4, pos := "ref.go:121", after := #[{ on := 0, ground := Ground.data }, { on := 1, ground := Ground.data }], guard := none },
  { dst := some 46, op := Op.move (Operand.tmp 45), type := 4, pos := "ref.go:121", after := #[{ on := 2, ground := Ground.data }], guard := none },
  { dst := some 47, op := Op.move (Operand.tmp 7), type := 39, pos := "ref.go:121", after := #[{ on := 3, ground := Ground.guard }], guard := some (3, false) },
  { dst := some 48, op := Op.move (Operand.tmp 1), type := 39, pos := "ref.go:121", after := #[{ on := 3, ground := Ground.guard }], guard := some (3, false) },
  { dst := some 49, op := Op.binOp BinOp.eql 39 (Operand.tmp 47) (Operand.tmp 48) 39, type := 4, pos := "ref.go:121", after := #[{ on := 4, ground := Ground.data }, { on := 5, ground := Ground.data }, { on := 3, ground := Ground.guard }], guard := some (3, false) },
  { dst := some 50, op := Op.move (Operand.tmp 49), type := 4, pos := "ref.go:121", after := #[{ on := 6, ground := Ground.data }, { on := 3, ground := Ground.chain }, { on := 3, ground := Ground.guard }], guard := some (3, false) },
  { dst := some 51, op := Op.move (Operand.tmp 8), type := 4, pos := "ref.go:121", after := #[{ on := 7, ground := Ground.guard }], guard := some (7, true) },
  { dst := some 52, op := Op.pick (Operand.tmp 50) (Operand.tmp 51) (Operand.const (Value.bool false)), type := 4, pos := "ref.go:121", after := #[{ on := 7, ground := Ground.data }, { on := 8, ground := Ground.data }, { on := 3, ground := Ground.guard }], guard := some (3, false) },
  { dst := some 53, op := Op.pick (Operand.tmp 46) (Operand.const (Value.bool true)) (Operand.tmp 52), type := 4, pos := "ref.go:121", after := #[{ on := 3, ground := Ground.data }, { on := 9, ground := Ground.data }], guard := none },
  { dst := some 6, op := Op.assign (Operand.tmp 53), type := 4, pos := "ref.go:121", after := #[{ on := 10, ground := Ground.data }, { on := 7, ground := Ground.chain }, { on := 0, ground := Ground.phase }, { on := 1, ground := Ground.phase }, { on := 2, ground := Ground.phase }, { on := 3, ground := Ground.phase }, { on := 4, ground := Ground.phase }, { on := 5, ground := Ground.phase }, { on := 6, ground := Ground.phase }, { on := 7, ground := Ground.phase }, { on := 8, ground := Ground.phase }, { on := 9, ground := Ground.phase }, { on := 10, ground := Ground.phase }], guard := none }]
def cRD1 : Code := (Code.seq (Code.seq (Code.region 4 rRD4 false) (Code.cond (Operand.tmp 13) Code.skip (Code.exit 0))) (Code.seq (Code.block 1 (Code.seq (Code.seq (Code.region 6 rRD6 false) (Code.cond (Operand.tmp 25) (Code.seq (Code.region 7 rRD7 false) Code.ret) Code.skip)) (Code.seq (Code.seq (Code.region 8 rRD8 false) (Code.cond (Operand.tmp 28) (Code.region 9 rRD9 false) Code.skip)) (Code.seq (Code.region 10 rRD10 false) (Code.cond (Operand.tmp 42) (Code.region 11 rRD11 false) Code.skip))))) (Code.region 5 rRD5 false)))
def cRD : Code := (Code.seq (Code.region 0 rRD0 false) (Code.seq (Code.region 1 rRD1 false) (Code.seq (Code.region 2 rRD2 false) (Code.seq (Code.seq (Code.region 3 rRD3 false) (Code.block 0 (Code.loop cRD1))) (Code.seq (Code.region 12 rRD12 false) Code.ret)))))
structure IRD (v0 v1 v2 : Value) (a : Act) : Prop where
  size : a.tmps.size = 54
  defers : a.defers = []
  s0 : a.eval (.tmp 0) = v0
  s1 : a.eval (.tmp 1) = v1
  s2 : a.eval (.tmp 2) = v2
theorem IRD.keep {v0 v1 v2 : Value} {a0 a : Act} {env : List (Nat × Value)} (h : IRD v0 v1 v2 a0) (f : Fe a0 env a) (h0 : look env 0 (a0.eval (.tmp 0)) = a0.eval (.tmp 0)) (h1 : look env 1 (a0.eval (.tmp 1)) = a0.eval (.tmp 1)) (h2 : look env 2 (a0.eval (.tmp 2)) = a0.eval (.tmp 2)) : IRD v0 v1 v2 a :=
  ⟨f.size.trans h.size, f.defers.trans h.defers, ((f.at_ 0).trans h0).trans h.s0, ((f.at_ 1).trans h1).trans h.s1, ((f.at_ 2).trans h2).trans h.s2⟩
theorem rdE {g lc p n i h : Nat} {r : Bool} {l : List Nat} {Q : Exit → Act → World → Prop} (a0 : Act) (wr : World) (I0 : IRD (.slice (some ⟨g, 0, none⟩) l.length lc) (.int .u64 (p : Int)) (.int .i64 (n : Int)) a0) (h7 : a0.eval (.tmp 7) = .int .u64 (h : Int)) (h8 : a0.eval (.tmp 8) = .bool r) (h9 : a0.eval (.tmp 9) = .int .i64 (i : Int)) (hi : l.length ≤ i) (hQ : ∀ a, IRD (.slice (some ⟨g, 0, none⟩) l.length lc) (.int .u64 (p : Int)) (.int .i64 (n : Int)) a → a.eval (.tmp 7) = .int .u64 (h : Int) → a.eval (.tmp 8) = .bool r → Q (.exit 0) a wr) : cRD1.wp Tryd.prog Q a0 wr := by
  have hii : ¬ (i : Int) < (l.length : Int) := by omega
  have hid : decide ((i : Int) < (l.length : Int)) = false := decide_eq_false hii
  clear hi
  have fa0_0 := Fe.refl a0
  unfold cRD1
  refine wp_seq (wp_seq ?_)
  refine wp_region_list ?_
  unfold rRD4
  refine fa0_0.move 10 (.int .i64 (i : Int)) _ (Or.inl rfl) rfl (lb_ I0.size) (wanted_none rfl) ((fa0_0.at_ 9).trans h9) (fun a0_1 fa0_1 => ?_)
  clear fa0_0
  refine fa0_1.move 11 (.slice (some ⟨g, 0, none⟩) l.length lc) _ (Or.inl rfl) rfl (lb_ I0.size) (wanted_none rfl) ((fa0_1.at_ 0).trans I0.s0) (fun a0_2 fa0_2 => ?_)
  clear fa0_1
  have r_a0_3 : (execOp a0_2.eval { dst := some 12, op := Op.call { callee := Callee.builtin Builtin.len, args := #[Operand.tmp 11], argTypes := #[36] }, type := 3, pos := "ref.go:110", after := #[{ on := 1, ground := Ground.data }], guard := none }).run Tryd.prog (wr) = .ok (.value (.int .i64 (l.length : Int))) (wr) := by
    have e11 := (show a0_2.eval (.tmp 11) = .slice (some ⟨g, 0, none⟩) l.length lc from (fa0_2.at_ 11))
    clear fa0_2 hQ h7 h8 h9
    generalize a0_2.eval = ρ at *
    go_simp
  refine fa0_2.step 12 (.int .i64 (l.length : Int)) rfl (lb_ I0.size) (wanted_none rfl) r_a0_3 (fun a0_3 fa0_3 => ?_)
  clear r_a0_3
  clear fa0_2
  have r_a0_4 : (execOp a0_3.eval { dst := some 13, op := Op.binOp BinOp.lss 3 (Operand.tmp 10) (Operand.tmp 12) 3, type := 4, pos := "ref.go:110", after := #[{ on := 0, ground := Ground.data }, { on := 2, ground := Ground.data }], guard := none }).run Tryd.prog (wr) = .ok (.value (.bool false)) (wr) := by
    have e10 := (show a0_3.eval (.tmp 10) = .int .i64 (i : Int) from (fa0_3.at_ 10))
    have e12 := (show a0_3.eval (.tmp 12) = .int .i64 (l.length : Int) from (fa0_3.at_ 12))
    clear fa0_3 hQ h7 h8 h9
    generalize a0_3.eval = ρ at *
    go_simp
  refine fa0_3.step 13 (.bool false) rfl (lb_ I0.size) (wanted_none rfl) r_a0_4 (fun a0_4 fa0_4 => ?_)
  clear r_a0_4
  clear fa0_3
  refine wpList_nil ?_
  change Code.wp _ _ _ _ _
  refine wp_cond_false (show a0_4.eval (.tmp 13) = .bool false from (fa0_4.at_ 13)) (wp_exit ?_)
  exact hQ a0_4 (I0.keep fa0_4 rfl rfl rfl) (show a0_4.eval (.tmp 7) = .int .u64 (h : Int) from ((fa0_4.at_ 7).trans h7)) (show a0_4.eval (.tmp 8) = .bool r from ((fa0_4.at_ 8).trans h8))
set_option maxRecDepth 100000 in
set_option maxHeartbeats 1000000 in
theorem rdA {g lc p n i h : Nat} {r : Bool} {l : List Nat} {Q : Exit → Act → World → Prop} (a0 : Act) (wr : World) (I0 : IRD (.slice (some ⟨g, 0, none⟩) l.length lc) (.int .u64 (p : Int)) (.int .i64 (n : Int)) a0) (_ : a0.eval (.tmp 7) = .int .u64 (h : Int)) (_ : a0.eval (.tmp 8) = .bool r) (h9 : a0.eval (.tmp 9) = .int .i64 (i : Int)) (hi : i < l.length) {x : Nat} (kx : wr.cell? ⟨g, i, none⟩ = some (.int .u64 (x : Int))) (hn1 : (n : Int) < (i : Int)) (hx : 0 < x) (hQ : ∀ a : Act, a.defers = [] → a.eval (.tmp 6) = .bool true → Q .ret a wr) : cRD1.wp Tryd.prog Q a0 wr := by
  have hii : (i : Int) < (l.length : Int) := by omega
  have fa0_0 := Fe.refl a0
  unfold cRD1
  refine wp_seq (wp_seq ?_)
  refine wp_region_list ?_
  unfold rRD4
  refine fa0_0.move 10 (.int .i64 (i : Int)) _ (Or.inl rfl) rfl (lb_ I0.size) (wanted_none rfl) ((fa0_0.at_ 9).trans h9) (fun a0_1 fa0_1 => ?_)
  clear fa0_0
  refine fa0_1.move 11 (.slice (some ⟨g, 0, none⟩) l.length lc) _ (Or.inl rfl) rfl (lb_ I0.size) (wanted_none rfl) ((fa0_1.at_ 0).trans I0.s0) (fun a0_2 fa0_2 => ?_)
  clear fa0_1
  have r_a0_3 : (execOp a0_2.eval { dst := some 12, op := Op.call { callee := Callee.builtin Builtin.len, args := #[Operand.tmp 11], argTypes := #[36] }, type := 3, pos := "ref.go:110", after := #[{ on := 1, ground := Ground.data }], guard := none }).run Tryd.prog (wr) = .ok (.value (.int .i64 (l.length : Int))) (wr) := by
    have e11 := (show a0_2.eval (.tmp 11) = .slice (some ⟨g, 0, none⟩) l.length lc from (fa0_2.at_ 11))
    clear fa0_2 hQ h9
    generalize a0_2.eval = ρ at *
    go_simp
  refine fa0_2.step 12 (.int .i64 (l.length : Int)) rfl (lb_ I0.size) (wanted_none rfl) r_a0_3 (fun a0_3 fa0_3 => ?_)
  clear r_a0_3
  clear fa0_2
  have r_a0_4 : (execOp a0_3.eval { dst := some 13, op := Op.binOp BinOp.lss 3 (Operand.tmp 10) (Operand.tmp 12) 3, type := 4, pos := "ref.go:110", after := #[{ on := 0, ground := Ground.data }, { on := 2, ground := Ground.data }], guard := none }).run Tryd.prog (wr) = .ok (.value (.bool true)) (wr) := by
    have e10 := (show a0_3.eval (.tmp 10) = .int .i64 (i : Int) from (fa0_3.at_ 10))
    have e12 := (show a0_3.eval (.tmp 12) = .int .i64 (l.length : Int) from (fa0_3.at_ 12))
    clear fa0_3 hQ h9
    generalize a0_3.eval = ρ at *
    go_simp
  refine fa0_3.step 13 (.bool true) rfl (lb_ I0.size) (wanted_none rfl) r_a0_4 (fun a0_4 fa0_4 => ?_)
  clear r_a0_4
  clear fa0_3
  refine wpList_nil ?_
  change Code.wp _ _ _ _ _
  refine wp_cond_true (show a0_4.eval (.tmp 13) = .bool true from (fa0_4.at_ 13)) (wp_skip ?_)
  change Code.wp _ _ _ _ _
  refine wp_seq (wp_block (wp_seq (wp_seq ?_)))
  refine wp_region_list ?_
  unfold rRD6
  refine fa0_4.move 16 (.int .i64 (i : Int)) _ (Or.inl rfl) rfl (lb_ I0.size) (wanted_none rfl) ((fa0_4.at_ 9).trans h9) (fun a0_5 fa0_5 => ?_)
  clear fa0_4
  refine fa0_5.move 17 (.int .i64 (n : Int)) _ (Or.inl rfl) rfl (lb_ I0.size) (wanted_none rfl) ((fa0_5.at_ 2).trans I0.s2) (fun a0_6 fa0_6 => ?_)
  clear fa0_5
  have r_a0_7 : (execOp a0_6.eval { dst := some 18, op := Op.binOp BinOp.gtr 3 (Operand.tmp 16) (Operand.tmp 17) 3, type := 4, pos := "ref.go:111", after := #[{ on := 0, ground := Ground.data }, { on := 1, ground := Ground.data }], guard := none }).run Tryd.prog (wr) = .ok (.value (.bool true)) (wr) := by
    have e16 := (show a0_6.eval (.tmp 16) = .int .i64 (i : Int) from (fa0_6.at_ 16))
    have e17 := (show a0_6.eval (.tmp 17) = .int .i64 (n : Int) from (fa0_6.at_ 17))
    clear fa0_6 hQ h9
    generalize a0_6.eval = ρ at *
    go_simp
  refine fa0_6.step 18 (.bool true) rfl (lb_ I0.size) (wanted_none rfl) r_a0_7 (fun a0_7 fa0_7 => ?_)
  clear r_a0_7
  clear fa0_6
  refine fa0_7.move 19 (.bool true) _ (Or.inl rfl) rfl (lb_ I0.size) (wanted_none rfl) (fa0_7.at_ 18) (fun a0_8 fa0_8 => ?_)
  clear fa0_7
  refine fa0_8.move 20 (.slice (some ⟨g, 0, none⟩) l.length lc) _ (Or.inl rfl) rfl (lb_ I0.size) ((wanted_at (t := 19) (c := true) (b := true) rfl rfl rfl (lb_ (fa0_8.size.trans I0.size)) (fa0_8.at_ 19)).trans (by rfl)) ((fa0_8.at_ 0).trans I0.s0) (fun a0_9 fa0_9 => ?_)
  clear fa0_8
  refine fa0_9.move 21 (.int .i64 (i : Int)) _ (Or.inl rfl) rfl (lb_ I0.size) ((wanted_at (t := 19) (c := true) (b := true) rfl rfl rfl (lb_ (fa0_9.size.trans I0.size)) (fa0_9.at_ 19)).trans (by rfl)) ((fa0_9.at_ 9).trans h9) (fun a0_10 fa0_10 => ?_)
  clear fa0_9
  have r_a0_11 : (execOp a0_10.eval { dst := some 22, op := Op.indexAddr 36 (Operand.tmp 20) (Operand.tmp 21), type := 0, pos := "ref.go:111", after := #[{ on := 4, ground := Ground.data }, { on := 5, ground := Ground.data }, { on := 3, ground := Ground.guard }], guard := some (3, true) }).run Tryd.prog (wr) = .ok (.value (.pointer (some ⟨g, i, none⟩))) (wr) := by
    have e20 := (show a0_10.eval (.tmp 20) = .slice (some ⟨g, 0, none⟩) l.length lc from (fa0_10.at_ 20))
    have e21 := (show a0_10.eval (.tmp 21) = .int .i64 (i : Int) from (fa0_10.at_ 21))
    clear fa0_10 hQ h9
    generalize a0_10.eval = ρ at *
    go_simp
  refine fa0_10.step 22 (.pointer (some ⟨g, i, none⟩)) rfl (lb_ I0.size) ((wanted_at (t := 19) (c := true) (b := true) rfl rfl rfl (lb_ (fa0_10.size.trans I0.size)) (fa0_10.at_ 19)).trans (by rfl)) r_a0_11 (fun a0_11 fa0_11 => ?_)
  clear r_a0_11
  clear fa0_10
  have r_a0_12 : (execOp a0_11.eval { dst := some 23, op := Op.load 39 (Operand.tmp 22), type := 39, pos := "ref.go:111", after := #[{ on := 6, ground := Ground.data }, { on := 3, ground := Ground.guard }], guard := some (3, true) }).run Tryd.prog (wr) = .ok (.value (.int .u64 (x : Int))) (wr) := by
    have e22 := (show a0_11.eval (.tmp 22) = .pointer (some ⟨g, i, none⟩) from (fa0_11.at_ 22))
    clear fa0_11 hQ h9
    generalize a0_11.eval = ρ at *
    go_simp
  refine fa0_11.step 23 (.int .u64 (x : Int)) rfl (lb_ I0.size) ((wanted_at (t := 19) (c := true) (b := true) rfl rfl rfl (lb_ (fa0_11.size.trans I0.size)) (fa0_11.at_ 19)).trans (by rfl)) r_a0_12 (fun a0_12 fa0_12 => ?_)
  clear r_a0_12
  clear fa0_11
  have r_a0_13 : (execOp a0_12.eval { dst := some 24, op := Op.binOp BinOp.gtr 39 (Operand.tmp 23) (Operand.const (Value.int IntKind.u64 0)) 39, type := 4, pos := "ref.go:111", after := #[{ on := 7, ground := Ground.data }, { on := 3, ground := Ground.guard }], guard := some (3, true) }).run Tryd.prog (wr) = .ok (.value (.bool true)) (wr) := by
    have kc : ∀ v, a0_12.eval (.const v) = v := fun _ => rfl
    have e23 := (show a0_12.eval (.tmp 23) = .int .u64 (x : Int) from (fa0_12.at_ 23))
    clear fa0_12 hQ h9
    generalize a0_12.eval = ρ at *
    go_simp
  refine fa0_12.step 24 (.bool true) rfl (lb_ I0.size) ((wanted_at (t := 19) (c := true) (b := true) rfl rfl rfl (lb_ (fa0_12.size.trans I0.size)) (fa0_12.at_ 19)).trans (by rfl)) r_a0_13 (fun a0_13 fa0_13 => ?_)
  clear r_a0_13
  clear fa0_12
  have r_a0_14 : (execOp a0_13.eval { dst := some 25, op := Op.pick (Operand.tmp 19) (Operand.tmp 24) (Operand.const (Value.bool false)), type := 4, pos := "ref.go:111", after := #[{ on := 3, ground := Ground.data }, { on := 8, ground := Ground.data }], guard := none }).run Tryd.prog (wr) = .ok (.value (.bool true)) (wr) := by
    have kc : ∀ v, a0_13.eval (.const v) = v := fun _ => rfl
    have e19 := (show a0_13.eval (.tmp 19) = .bool true from (fa0_13.at_ 19))
    have e24 := (show a0_13.eval (.tmp 24) = .bool true from (fa0_13.at_ 24))
    clear fa0_13 hQ h9
    generalize a0_13.eval = ρ at *
    go_simp
  refine fa0_13.step 25 (.bool true) rfl (lb_ I0.size) (wanted_none rfl) r_a0_14 (fun a0_14 fa0_14 => ?_)
  clear r_a0_14
  clear fa0_13
  refine wpList_nil ?_
  change Code.wp _ _ _ _ _
  refine wp_cond_true (show a0_14.eval (.tmp 25) = .bool true from (fa0_14.at_ 25)) (wp_seq ?_)
  refine wp_region_list ?_
  unfold rRD7
  refine fa0_14.move 6 (.bool true) _ (Or.inr rfl) rfl (lb_ I0.size) (wanted_none rfl) rfl (fun a0_15 fa0_15 => ?_)
  clear fa0_14
  refine wpList_nil ?_
  change Code.wp _ _ _ _ _
  refine wp_ret ?_
  exact hQ a0_15 (fa0_15.defers.trans I0.defers) (show a0_15.eval (.tmp 6) = .bool true from (fa0_15.at_ 6))
set_option maxRecDepth 100000 in
set_option maxHeartbeats 1000000 in
theorem rdB {g lc p n i h : Nat} {r : Bool} {l : List Nat} {Q : Exit → Act → World → Prop} (a0 : Act) (wr : World) (I0 : IRD (.slice (some ⟨g, 0, none⟩) l.length lc) (.int .u64 (p : Int)) (.int .i64 (n : Int)) a0) (h7 : a0.eval (.tmp 7) = .int .u64 (h : Int)) (h8 : a0.eval (.tmp 8) = .bool r) (h9 : a0.eval (.tmp 9) = .int .i64 (i : Int)) (hi : i < l.length) (hsm : l.length ≤ 1000) {x : Nat} (kx : wr.cell? ⟨g, i, none⟩ = some (.int .u64 (x : Int))) (hn1 : (n : Int) < (i : Int)) (hx : x = 0) (hQ : ∀ a, IRD (.slice (some ⟨g, 0, none⟩) l.length lc) (.int .u64 (p : Int)) (.int .i64 (n : Int)) a → a.eval (.tmp 7) = .int .u64 (h : Int) → a.eval (.tmp 8) = .bool r → a.eval (.tmp 9) = .int .i64 ((i : Int) + 1) → Q .normal a wr) : cRD1.wp Tryd.prog Q a0 wr := by
  have hii : (i : Int) < (l.length : Int) := by omega
  have w1 : IntKind.i64.wrap ((i : Int) + 1) = (i : Int) + 1 := by rw [IntKind.wrap_i64]; omega
  have ne : ¬ (i : Int) = (n : Int) := by omega
  have nl : ¬ (i : Int) < (n : Int) := by omega
  clear hi
  have fa0_0 := Fe.refl a0
  unfold cRD1
  refine wp_seq (wp_seq ?_)
  refine wp_region_list ?_
  unfold rRD4
  refine fa0_0.move 10 (.int .i64 (i : Int)) _ (Or.inl rfl) rfl (lb_ I0.size) (wanted_none rfl) ((fa0_0.at_ 9).trans h9) (fun a0_1 fa0_1 => ?_)
  clear fa0_0
  refine fa0_1.move 11 (.slice (some ⟨g, 0, none⟩) l.length lc) _ (Or.inl rfl) rfl (lb_ I0.size) (wanted_none rfl) ((fa0_1.at_ 0).trans I0.s0) (fun a0_2 fa0_2 => ?_)
  clear fa0_1
  have r_a0_3 : (execOp a0_2.eval { dst := some 12, op := Op.call { callee := Callee.builtin Builtin.len, args := #[Operand.tmp 11], argTypes := #[36] }, type := 3, pos := "ref.go:110", after := #[{ on := 1, ground := Ground.data }], guard := none }).run Tryd.prog (wr) = .ok (.value (.int .i64 (l.length : Int))) (wr) := by
    have e11 := (show a0_2.eval (.tmp 11) = .slice (some ⟨g, 0, none⟩) l.length lc from (fa0_2.at_ 11))
    clear fa0_2 hQ h7 h8 h9
    generalize a0_2.eval = ρ at *
    go_simp
  refine fa0_2.step 12 (.int .i64 (l.length : Int)) rfl (lb_ I0.size) (wanted_none rfl) r_a0_3 (fun a0_3 fa0_3 => ?_)
  clear r_a0_3
  clear fa0_2
  have r_a0_4 : (execOp a0_3.eval { dst := some 13, op := Op.binOp BinOp.lss 3 (Operand.tmp 10) (Operand.tmp 12) 3, type := 4, pos := "ref.go:110", after := #[{ on := 0, ground := Ground.data }, { on := 2, ground := Ground.data }], guard := none }).run Tryd.prog (wr) = .ok (.value (.bool true)) (wr) := by
    have e10 := (show a0_3.eval (.tmp 10) = .int .i64 (i : Int) from (fa0_3.at_ 10))
    have e12 := (show a0_3.eval (.tmp 12) = .int .i64 (l.length : Int) from (fa0_3.at_ 12))
    clear fa0_3 hQ h7 h8 h9
    generalize a0_3.eval = ρ at *
    go_simp
  refine fa0_3.step 13 (.bool true) rfl (lb_ I0.size) (wanted_none rfl) r_a0_4 (fun a0_4 fa0_4 => ?_)
  clear r_a0_4
  clear fa0_3
  refine wpList_nil ?_
  change Code.wp _ _ _ _ _
  refine wp_cond_true (show a0_4.eval (.tmp 13) = .bool true from (fa0_4.at_ 13)) (wp_skip ?_)
  change Code.wp _ _ _ _ _
  refine wp_seq (wp_block (wp_seq (wp_seq ?_)))
  refine wp_region_list ?_
  unfold rRD6
  refine fa0_4.move 16 (.int .i64 (i : Int)) _ (Or.inl rfl) rfl (lb_ I0.size) (wanted_none rfl) ((fa0_4.at_ 9).trans h9) (fun a0_5 fa0_5 => ?_)
  clear fa0_4
  refine fa0_5.move 17 (.int .i64 (n : Int)) _ (Or.inl rfl) rfl (lb_ I0.size) (wanted_none rfl) ((fa0_5.at_ 2).trans I0.s2) (fun a0_6 fa0_6 => ?_)
  clear fa0_5
  have r_a0_7 : (execOp a0_6.eval { dst := some 18, op := Op.binOp BinOp.gtr 3 (Operand.tmp 16) (Operand.tmp 17) 3, type := 4, pos := "ref.go:111", after := #[{ on := 0, ground := Ground.data }, { on := 1, ground := Ground.data }], guard := none }).run Tryd.prog (wr) = .ok (.value (.bool true)) (wr) := by
    have e16 := (show a0_6.eval (.tmp 16) = .int .i64 (i : Int) from (fa0_6.at_ 16))
    have e17 := (show a0_6.eval (.tmp 17) = .int .i64 (n : Int) from (fa0_6.at_ 17))
    clear fa0_6 hQ h7 h8 h9
    generalize a0_6.eval = ρ at *
    go_simp
  refine fa0_6.step 18 (.bool true) rfl (lb_ I0.size) (wanted_none rfl) r_a0_7 (fun a0_7 fa0_7 => ?_)
  clear r_a0_7
  clear fa0_6
  refine fa0_7.move 19 (.bool true) _ (Or.inl rfl) rfl (lb_ I0.size) (wanted_none rfl) (fa0_7.at_ 18) (fun a0_8 fa0_8 => ?_)
  clear fa0_7
  refine fa0_8.move 20 (.slice (some ⟨g, 0, none⟩) l.length lc) _ (Or.inl rfl) rfl (lb_ I0.size) ((wanted_at (t := 19) (c := true) (b := true) rfl rfl rfl (lb_ (fa0_8.size.trans I0.size)) (fa0_8.at_ 19)).trans (by rfl)) ((fa0_8.at_ 0).trans I0.s0) (fun a0_9 fa0_9 => ?_)
  clear fa0_8
  refine fa0_9.move 21 (.int .i64 (i : Int)) _ (Or.inl rfl) rfl (lb_ I0.size) ((wanted_at (t := 19) (c := true) (b := true) rfl rfl rfl (lb_ (fa0_9.size.trans I0.size)) (fa0_9.at_ 19)).trans (by rfl)) ((fa0_9.at_ 9).trans h9) (fun a0_10 fa0_10 => ?_)
  clear fa0_9
  have r_a0_11 : (execOp a0_10.eval { dst := some 22, op := Op.indexAddr 36 (Operand.tmp 20) (Operand.tmp 21), type := 0, pos := "ref.go:111", after := #[{ on := 4, ground := Ground.data }, { on := 5, ground := Ground.data }, { on := 3, ground := Ground.guard }], guard := some (3, true) }).run Tryd.prog (wr) = .ok (.value (.pointer (some ⟨g, i, none⟩))) (wr) := by
    have e20 := (show a0_10.eval (.tmp 20) = .slice (some ⟨g, 0, none⟩) l.length lc from (fa0_10.at_ 20))
    have e21 := (show a0_10.eval (.tmp 21) = .int .i64 (i : Int) from (fa0_10.at_ 21))
    clear fa0_10 hQ h7 h8 h9
    generalize a0_10.eval = ρ at *
    go_simp
  refine fa0_10.step 22 (.pointer (some ⟨g, i, none⟩)) rfl (lb_ I0.size) ((wanted_at (t := 19) (c := true) (b := true) rfl rfl rfl (lb_ (fa0_10.size.trans I0.size)) (fa0_10.at_ 19)).trans (by rfl)) r_a0_11 (fun a0_11 fa0_11 => ?_)
  clear r_a0_11
  clear fa0_10
  have r_a0_12 : (execOp a0_11.eval { dst := some 23, op := Op.load 39 (Operand.tmp 22), type := 39, pos := "ref.go:111", after := #[{ on := 6, ground := Ground.data }, { on := 3, ground := Ground.guard }], guard := some (3, true) }).run Tryd.prog (wr) = .ok (.value (.int .u64 (x : Int))) (wr) := by
    have e22 := (show a0_11.eval (.tmp 22) = .pointer (some ⟨g, i, none⟩) from (fa0_11.at_ 22))
    clear fa0_11 hQ h7 h8 h9
    generalize a0_11.eval = ρ at *
    go_simp
  refine fa0_11.step 23 (.int .u64 (x : Int)) rfl (lb_ I0.size) ((wanted_at (t := 19) (c := true) (b := true) rfl rfl rfl (lb_ (fa0_11.size.trans I0.size)) (fa0_11.at_ 19)).trans (by rfl)) r_a0_12 (fun a0_12 fa0_12 => ?_)
  clear r_a0_12
  clear fa0_11
  have r_a0_13 : (execOp a0_12.eval { dst := some 24, op := Op.binOp BinOp.gtr 39 (Operand.tmp 23) (Operand.const (Value.int IntKind.u64 0)) 39, type := 4, pos := "ref.go:111", after := #[{ on := 7, ground := Ground.data }, { on := 3, ground := Ground.guard }], guard := some (3, true) }).run Tryd.prog (wr) = .ok (.value (.bool false)) (wr) := by
    have kc : ∀ v, a0_12.eval (.const v) = v := fun _ => rfl
    have e23 := (show a0_12.eval (.tmp 23) = .int .u64 (x : Int) from (fa0_12.at_ 23))
    clear fa0_12 hQ h7 h8 h9
    generalize a0_12.eval = ρ at *
    go_simp
  refine fa0_12.step 24 (.bool false) rfl (lb_ I0.size) ((wanted_at (t := 19) (c := true) (b := true) rfl rfl rfl (lb_ (fa0_12.size.trans I0.size)) (fa0_12.at_ 19)).trans (by rfl)) r_a0_13 (fun a0_13 fa0_13 => ?_)
  clear r_a0_13
  clear fa0_12
  have r_a0_14 : (execOp a0_13.eval { dst := some 25, op := Op.pick (Operand.tmp 19) (Operand.tmp 24) (Operand.const (Value.bool false)), type := 4, pos := "ref.go:111", after := #[{ on := 3, ground := Ground.data }, { on := 8, ground := Ground.data }], guard := none }).run Tryd.prog (wr) = .ok (.value (.bool false)) (wr) := by
    have kc : ∀ v, a0_13.eval (.const v) = v := fun _ => rfl
    have e19 := (show a0_13.eval (.tmp 19) = .bool true from (fa0_13.at_ 19))
    have e24 := (show a0_13.eval (.tmp 24) = .bool false from (fa0_13.at_ 24))
    clear fa0_13 hQ h7 h8 h9
    generalize a0_13.eval = ρ at *
    go_simp
  refine fa0_13.step 25 (.bool false) rfl (lb_ I0.size) (wanted_none rfl) r_a0_14 (fun a0_14 fa0_14 => ?_)
  clear r_a0_14
  clear fa0_13
  refine wpList_nil ?_
  change Code.wp _ _ _ _ _
  refine wp_cond_false (show a0_14.eval (.tmp 25) = .bool false from (fa0_14.at_ 25)) (wp_skip ?_)
  change Code.wp _ _ _ _ _
  refine wp_seq (wp_seq ?_)
  refine wp_region_list ?_
  unfold rRD8
  refine fa0_14.move 26 (.int .i64 (i : Int)) _ (Or.inl rfl) rfl (lb_ I0.size) (wanted_none rfl) ((fa0_14.at_ 9).trans h9) (fun a0_15 fa0_15 => ?_)
  clear fa0_14
  refine fa0_15.move 27 (.int .i64 (n : Int)) _ (Or.inl rfl) rfl (lb_ I0.size) (wanted_none rfl) ((fa0_15.at_ 2).trans I0.s2) (fun a0_16 fa0_16 => ?_)
  clear fa0_15
  have r_a0_17 : (execOp a0_16.eval { dst := some 28, op := Op.binOp BinOp.eql 3 (Operand.tmp 26) (Operand.tmp 27) 3, type := 4, pos := "ref.go:114", after := #[{ on := 0, ground := Ground.data }, { on := 1, ground := Ground.data }], guard := none }).run Tryd.prog (wr) = .ok (.value (.bool false)) (wr) := by
    have e26 := (show a0_16.eval (.tmp 26) = .int .i64 (i : Int) from (fa0_16.at_ 26))
    have e27 := (show a0_16.eval (.tmp 27) = .int .i64 (n : Int) from (fa0_16.at_ 27))
    clear fa0_16 hQ h7 h8 h9
    generalize a0_16.eval = ρ at *
    go_simp
  refine fa0_16.step 28 (.bool false) rfl (lb_ I0.size) (wanted_none rfl) r_a0_17 (fun a0_17 fa0_17 => ?_)
  clear r_a0_17
  clear fa0_16
  refine wpList_nil ?_
  change Code.wp _ _ _ _ _
  refine wp_cond_false (show a0_17.eval (.tmp 28) = .bool false from (fa0_17.at_ 28)) (wp_skip ?_)
  change Code.wp _ _ _ _ _
  refine wp_seq ?_
  refine wp_region_list ?_
  unfold rRD10
  refine fa0_17.move 33 (.int .i64 (i : Int)) _ (Or.inl rfl) rfl (lb_ I0.size) (wanted_none rfl) ((fa0_17.at_ 9).trans h9) (fun a0_18 fa0_18 => ?_)
  clear fa0_17
  refine fa0_18.move 34 (.int .i64 (n : Int)) _ (Or.inl rfl) rfl (lb_ I0.size) (wanted_none rfl) ((fa0_18.at_ 2).trans I0.s2) (fun a0_19 fa0_19 => ?_)
  clear fa0_18
  have r_a0_20 : (execOp a0_19.eval { dst := some 35, op := Op.binOp BinOp.lss 3 (Operand.tmp 33) (Operand.tmp 34) 3, type := 4, pos := "ref.go:117", after := #[{ on := 0, ground := Ground.data }, { on := 1, ground := Ground.data }], guard := none }).run Tryd.prog (wr) = .ok (.value (.bool false)) (wr) := by
    have e33 := (show a0_19.eval (.tmp 33) = .int .i64 (i : Int) from (fa0_19.at_ 33))
    have e34 := (show a0_19.eval (.tmp 34) = .int .i64 (n : Int) from (fa0_19.at_ 34))
    clear fa0_19 hQ h7 h8 h9
    generalize a0_19.eval = ρ at *
    go_simp
  refine fa0_19.step 35 (.bool false) rfl (lb_ I0.size) (wanted_none rfl) r_a0_20 (fun a0_20 fa0_20 => ?_)
  clear r_a0_20
  clear fa0_19
  refine fa0_20.move 36 (.bool false) _ (Or.inl rfl) rfl (lb_ I0.size) (wanted_none rfl) (fa0_20.at_ 35) (fun a0_21 fa0_21 => ?_)
  clear fa0_20
  refine fa0_21.skip 37 rfl (lb_ I0.size) ((wanted_at (t := 36) (c := false) (b := true) rfl rfl rfl (lb_ (fa0_21.size.trans I0.size)) (fa0_21.at_ 36)).trans (by rfl)) (fun a0_22 fa0_22 => ?_)
  clear fa0_21
  refine fa0_22.skip 38 rfl (lb_ I0.size) ((wanted_at (t := 36) (c := false) (b := true) rfl rfl rfl (lb_ (fa0_22.size.trans I0.size)) (fa0_22.at_ 36)).trans (by rfl)) (fun a0_23 fa0_23 => ?_)
  clear fa0_22
  refine fa0_23.skip 39 rfl (lb_ I0.size) ((wanted_at (t := 36) (c := false) (b := true) rfl rfl rfl (lb_ (fa0_23.size.trans I0.size)) (fa0_23.at_ 36)).trans (by rfl)) (fun a0_24 fa0_24 => ?_)
  clear fa0_23
  refine fa0_24.skip 40 rfl (lb_ I0.size) ((wanted_at (t := 36) (c := false) (b := true) rfl rfl rfl (lb_ (fa0_24.size.trans I0.size)) (fa0_24.at_ 36)).trans (by rfl)) (fun a0_25 fa0_25 => ?_)
  clear fa0_24
  refine fa0_25.skip 41 rfl (lb_ I0.size) ((wanted_at (t := 36) (c := false) (b := true) rfl rfl rfl (lb_ (fa0_25.size.trans I0.size)) (fa0_25.at_ 36)).trans (by rfl)) (fun a0_26 fa0_26 => ?_)
  clear fa0_25
  have r_a0_27 : (execOp a0_26.eval { dst := some 42, op := Op.pick (Operand.tmp 36) (Operand.tmp 41) (Operand.const (Value.bool false)), type := 4, pos := "ref.go:117", after := #[{ on := 3, ground := Ground.data }, { on := 8, ground := Ground.data }], guard := none }).run Tryd.prog (wr) = .ok (.value (.bool false)) (wr) := by
    have kc : ∀ v, a0_26.eval (.const v) = v := fun _ => rfl
    have e36 := (show a0_26.eval (.tmp 36) = .bool false from (fa0_26.at_ 36))
    have e41 := (show a0_26.eval (.tmp 41) = undef from (fa0_26.at_ 41))
    clear fa0_26 hQ h7 h8 h9
    generalize a0_26.eval = ρ at *
    go_simp
  refine fa0_26.step 42 (.bool false) rfl (lb_ I0.size) (wanted_none rfl) r_a0_27 (fun a0_27 fa0_27 => ?_)
  clear r_a0_27
  clear fa0_26
  refine wpList_nil ?_
  change Code.wp _ _ _ _ _
  refine wp_cond_false (show a0_27.eval (.tmp 42) = .bool false from (fa0_27.at_ 42)) (wp_skip ?_)
  change Code.wp _ _ _ _ _
  refine wp_region_list ?_
  unfold rRD5
  refine fa0_27.move 14 (.int .i64 (i : Int)) _ (Or.inl rfl) rfl (lb_ I0.size) (wanted_none rfl) ((fa0_27.at_ 9).trans h9) (fun a0_28 fa0_28 => ?_)
  clear fa0_27
  have r_a0_29 : (execOp a0_28.eval { dst := some 15, op := Op.binOp BinOp.add 3 (Operand.tmp 14) (Operand.const (Value.int IntKind.i64 1)) 3, type := 3, pos := "ref.go:110", after := #[{ on := 0, ground := Ground.data }], guard := none }).run Tryd.prog (wr) = .ok (.value (.int .i64 ((i : Int) + 1))) (wr) := by
    have kc : ∀ v, a0_28.eval (.const v) = v := fun _ => rfl
    have e14 := (show a0_28.eval (.tmp 14) = .int .i64 (i : Int) from (fa0_28.at_ 14))
    clear fa0_28 hQ h7 h8 h9
    generalize a0_28.eval = ρ at *
    go_simp
  refine fa0_28.step 15 (.int .i64 ((i : Int) + 1)) rfl (lb_ I0.size) (wanted_none rfl) r_a0_29 (fun a0_29 fa0_29 => ?_)
  clear r_a0_29
  clear fa0_28
  refine fa0_29.move 9 (.int .i64 ((i : Int) + 1)) _ (Or.inr rfl) rfl (lb_ I0.size) (wanted_none rfl) (fa0_29.at_ 15) (fun a0_30 fa0_30 => ?_)
  clear fa0_29
  refine wpList_nil ?_
  exact hQ a0_30 (I0.keep fa0_30 rfl rfl rfl) (show a0_30.eval (.tmp 7) = .int .u64 (h : Int) from ((fa0_30.at_ 7).trans h7)) (show a0_30.eval (.tmp 8) = .bool r from ((fa0_30.at_ 8).trans h8)) (show a0_30.eval (.tmp 9) = .int .i64 ((i : Int) + 1) from (fa0_30.at_ 9))
set_option maxRecDepth 100000 in
set_option maxHeartbeats 1000000 in
theorem rdC {g lc p i h : Nat} {r : Bool} {l : List Nat} {Q : Exit → Act → World → Prop} (a0 : Act) (wr : World) (I0 : IRD (.slice (some ⟨g, 0, none⟩) l.length lc) (.int .u64 (p : Int)) (.int .i64 (i : Int)) a0) (_ : a0.eval (.tmp 7) = .int .u64 (h : Int)) (h8 : a0.eval (.tmp 8) = .bool r) (h9 : a0.eval (.tmp 9) = .int .i64 (i : Int)) (hi : i < l.length) (hsm : l.length ≤ 1000) {x : Nat} (kx : wr.cell? ⟨g, i, none⟩ = some (.int .u64 (x : Int))) (hQ : ∀ a, IRD (.slice (some ⟨g, 0, none⟩) l.length lc) (.int .u64 (p : Int)) (.int .i64 (i : Int)) a → a.eval (.tmp 7) = .int .u64 (x : Int) → a.eval (.tmp 8) = .bool r → a.eval (.tmp 9) = .int .i64 ((i : Int) + 1) → Q .normal a wr) : cRD1.wp Tryd.prog Q a0 wr := by
  have hii : (i : Int) < (l.length : Int) := by omega
  have w1 : IntKind.i64.wrap ((i : Int) + 1) = (i : Int) + 1 := by rw [IntKind.wrap_i64]; omega
  clear hi
  have fa0_0 := Fe.refl a0
  unfold cRD1
  refine wp_seq (wp_seq ?_)
  refine wp_region_list ?_
  unfold rRD4
  refine fa0_0.move 10 (.int .i64 (i : Int)) _ (Or.inl rfl) rfl (lb_ I0.size) (wanted_none rfl) ((fa0_0.at_ 9).trans h9) (fun a0_1 fa0_1 => ?_)
  clear fa0_0
  refine fa0_1.move 11 (.slice (some ⟨g, 0, none⟩) l.length lc) _ (Or.inl rfl) rfl (lb_ I0.size) (wanted_none rfl) ((fa0_1.at_ 0).trans I0.s0) (fun a0_2 fa0_2 => ?_)
  clear fa0_1
  have r_a0_3 : (execOp a0_2.eval { dst := some 12, op := Op.call { callee := Callee.builtin Builtin.len, args := #[Operand.tmp 11], argTypes := #[36] }, type := 3, pos := "ref.go:110", after := #[{ on := 1, ground := Ground.data }], guard := none }).run Tryd.prog (wr) = .ok (.value (.int .i64 (l.length : Int))) (wr) := by
    have e11 := (show a0_2.eval (.tmp 11) = .slice (some ⟨g, 0, none⟩) l.length lc from (fa0_2.at_ 11))
    clear fa0_2 hQ h8 h9
    generalize a0_2.eval = ρ at *
    go_simp
  refine fa0_2.step 12 (.int .i64 (l.length : Int)) rfl (lb_ I0.size) (wanted_none rfl) r_a0_3 (fun a0_3 fa0_3 => ?_)
  clear r_a0_3
  clear fa0_2
  have r_a0_4 : (execOp a0_3.eval { dst := some 13, op := Op.binOp BinOp.lss 3 (Operand.tmp 10) (Operand.tmp 12) 3, type := 4, pos := "ref.go:110", after := #[{ on := 0, ground := Ground.data }, { on := 2, ground := Ground.data }], guard := none }).run Tryd.prog (wr) = .ok (.value (.bool true)) (wr) := by
    have e10 := (show a0_3.eval (.tmp 10) = .int .i64 (i : Int) from (fa0_3.at_ 10))
    have e12 := (show a0_3.eval (.tmp 12) = .int .i64 (l.length : Int) from (fa0_3.at_ 12))
    clear fa0_3 hQ h8 h9
    generalize a0_3.eval = ρ at *
    go_simp
  refine fa0_3.step 13 (.bool true) rfl (lb_ I0.size) (wanted_none rfl) r_a0_4 (fun a0_4 fa0_4 => ?_)
  clear r_a0_4
  clear fa0_3
  refine wpList_nil ?_
  change Code.wp _ _ _ _ _
  refine wp_cond_true (show a0_4.eval (.tmp 13) = .bool true from (fa0_4.at_ 13)) (wp_skip ?_)
  change Code.wp _ _ _ _ _
  refine wp_seq (wp_block (wp_seq (wp_seq ?_)))
  refine wp_region_list ?_
  unfold rRD6
  refine fa0_4.move 16 (.int .i64 (i : Int)) _ (Or.inl rfl) rfl (lb_ I0.size) (wanted_none rfl) ((fa0_4.at_ 9).trans h9) (fun a0_5 fa0_5 => ?_)
  clear fa0_4
  refine fa0_5.move 17 (.int .i64 (i : Int)) _ (Or.inl rfl) rfl (lb_ I0.size) (wanted_none rfl) ((fa0_5.at_ 2).trans I0.s2) (fun a0_6 fa0_6 => ?_)
  clear fa0_5
  have r_a0_7 : (execOp a0_6.eval { dst := some 18, op := Op.binOp BinOp.gtr 3 (Operand.tmp 16) (Operand.tmp 17) 3, type := 4, pos := "ref.go:111", after := #[{ on := 0, ground := Ground.data }, { on := 1, ground := Ground.data }], guard := none }).run Tryd.prog (wr) = .ok (.value (.bool false)) (wr) := by
    have e16 := (show a0_6.eval (.tmp 16) = .int .i64 (i : Int) from (fa0_6.at_ 16))
    have e17 := (show a0_6.eval (.tmp 17) = .int .i64 (i : Int) from (fa0_6.at_ 17))
    clear fa0_6 hQ h8 h9
    generalize a0_6.eval = ρ at *
    go_simp
  refine fa0_6.step 18 (.bool false) rfl (lb_ I0.size) (wanted_none rfl) r_a0_7 (fun a0_7 fa0_7 => ?_)
  clear r_a0_7
  clear fa0_6
  refine fa0_7.move 19 (.bool false) _ (Or.inl rfl) rfl (lb_ I0.size) (wanted_none rfl) (fa0_7.at_ 18) (fun a0_8 fa0_8 => ?_)
  clear fa0_7
  refine fa0_8.skip 20 rfl (lb_ I0.size) ((wanted_at (t := 19) (c := false) (b := true) rfl rfl rfl (lb_ (fa0_8.size.trans I0.size)) (fa0_8.at_ 19)).trans (by rfl)) (fun a0_9 fa0_9 => ?_)
  clear fa0_8
  refine fa0_9.skip 21 rfl (lb_ I0.size) ((wanted_at (t := 19) (c := false) (b := true) rfl rfl rfl (lb_ (fa0_9.size.trans I0.size)) (fa0_9.at_ 19)).trans (by rfl)) (fun a0_10 fa0_10 => ?_)
  clear fa0_9
  refine fa0_10.skip 22 rfl (lb_ I0.size) ((wanted_at (t := 19) (c := false) (b := true) rfl rfl rfl (lb_ (fa0_10.size.trans I0.size)) (fa0_10.at_ 19)).trans (by rfl)) (fun a0_11 fa0_11 => ?_)
  clear fa0_10
  refine fa0_11.skip 23 rfl (lb_ I0.size) ((wanted_at (t := 19) (c := false) (b := true) rfl rfl rfl (lb_ (fa0_11.size.trans I0.size)) (fa0_11.at_ 19)).trans (by rfl)) (fun a0_12 fa0_12 => ?_)
  clear fa0_11
  refine fa0_12.skip 24 rfl (lb_ I0.size) ((wanted_at (t := 19) (c := false) (b := true) rfl rfl rfl (lb_ (fa0_12.size.trans I0.size)) (fa0_12.at_ 19)).trans (by rfl)) (fun a0_13 fa0_13 => ?_)
  clear fa0_12
  have r_a0_14 : (execOp a0_13.eval { dst := some 25, op := Op.pick (Operand.tmp 19) (Operand.tmp 24) (Operand.const (Value.bool false)), type := 4, pos := "ref.go:111", after := #[{ on := 3, ground := Ground.data }, { on := 8, ground := Ground.data }], guard := none }).run Tryd.prog (wr) = .ok (.value (.bool false)) (wr) := by
    have kc : ∀ v, a0_13.eval (.const v) = v := fun _ => rfl
    have e19 := (show a0_13.eval (.tmp 19) = .bool false from (fa0_13.at_ 19))
    have e24 := (show a0_13.eval (.tmp 24) = undef from (fa0_13.at_ 24))
    clear fa0_13 hQ h8 h9
    generalize a0_13.eval = ρ at *
    go_simp
  refine fa0_13.step 25 (.bool false) rfl (lb_ I0.size) (wanted_none rfl) r_a0_14 (fun a0_14 fa0_14 => ?_)
  clear r_a0_14
  clear fa0_13
  refine wpList_nil ?_
  change Code.wp _ _ _ _ _
  refine wp_cond_false (show a0_14.eval (.tmp 25) = .bool false from (fa0_14.at_ 25)) (wp_skip ?_)
  change Code.wp _ _ _ _ _
  refine wp_seq (wp_seq ?_)
  refine wp_region_list ?_
  unfold rRD8
  refine fa0_14.move 26 (.int .i64 (i : Int)) _ (Or.inl rfl) rfl (lb_ I0.size) (wanted_none rfl) ((fa0_14.at_ 9).trans h9) (fun a0_15 fa0_15 => ?_)
  clear fa0_14
  refine fa0_15.move 27 (.int .i64 (i : Int)) _ (Or.inl rfl) rfl (lb_ I0.size) (wanted_none rfl) ((fa0_15.at_ 2).trans I0.s2) (fun a0_16 fa0_16 => ?_)
  clear fa0_15
  have r_a0_17 : (execOp a0_16.eval { dst := some 28, op := Op.binOp BinOp.eql 3 (Operand.tmp 26) (Operand.tmp 27) 3, type := 4, pos := "ref.go:114", after := #[{ on := 0, ground := Ground.data }, { on := 1, ground := Ground.data }], guard := none }).run Tryd.prog (wr) = .ok (.value (.bool true)) (wr) := by
    have e26 := (show a0_16.eval (.tmp 26) = .int .i64 (i : Int) from (fa0_16.at_ 26))
    have e27 := (show a0_16.eval (.tmp 27) = .int .i64 (i : Int) from (fa0_16.at_ 27))
    clear fa0_16 hQ h8 h9
    generalize a0_16.eval = ρ at *
    go_simp
  refine fa0_16.step 28 (.bool true) rfl (lb_ I0.size) (wanted_none rfl) r_a0_17 (fun a0_17 fa0_17 => ?_)
  clear r_a0_17
  clear fa0_16
  refine wpList_nil ?_
  change Code.wp _ _ _ _ _
  refine wp_cond_true (show a0_17.eval (.tmp 28) = .bool true from (fa0_17.at_ 28)) ?_
  change Code.wp _ _ _ _ _
  refine wp_region_list ?_
  unfold rRD9
  refine fa0_17.move 29 (.slice (some ⟨g, 0, none⟩) l.length lc) _ (Or.inl rfl) rfl (lb_ I0.size) (wanted_none rfl) ((fa0_17.at_ 0).trans I0.s0) (fun a0_18 fa0_18 => ?_)
  clear fa0_17
  refine fa0_18.move 30 (.int .i64 (i : Int)) _ (Or.inl rfl) rfl (lb_ I0.size) (wanted_none rfl) ((fa0_18.at_ 9).trans h9) (fun a0_19 fa0_19 => ?_)
  clear fa0_18
  have r_a0_20 : (execOp a0_19.eval { dst := some 31, op := Op.indexAddr 36 (Operand.tmp 29) (Operand.tmp 30), type := 0, pos := "ref.go:115", after := #[{ on := 0, ground := Ground.data }, { on := 1, ground := Ground.data }], guard := none }).run Tryd.prog (wr) = .ok (.value (.pointer (some ⟨g, i, none⟩))) (wr) := by
    have e29 := (show a0_19.eval (.tmp 29) = .slice (some ⟨g, 0, none⟩) l.length lc from (fa0_19.at_ 29))
    have e30 := (show a0_19.eval (.tmp 30) = .int .i64 (i : Int) from (fa0_19.at_ 30))
    clear fa0_19 hQ h8 h9
    generalize a0_19.eval = ρ at *
    go_simp
  refine fa0_19.step 31 (.pointer (some ⟨g, i, none⟩)) rfl (lb_ I0.size) (wanted_none rfl) r_a0_20 (fun a0_20 fa0_20 => ?_)
  clear r_a0_20
  clear fa0_19
  have r_a0_21 : (execOp a0_20.eval { dst := some 32, op := Op.load 39 (Operand.tmp 31), type := 39, pos := "ref.go:115", after := #[{ on := 2, ground := Ground.data }], guard := none }).run Tryd.prog (wr) = .ok (.value (.int .u64 (x : Int))) (wr) := by
    have e31 := (show a0_20.eval (.tmp 31) = .pointer (some ⟨g, i, none⟩) from (fa0_20.at_ 31))
    clear fa0_20 hQ h8 h9
    generalize a0_20.eval = ρ at *
    go_simp
  refine fa0_20.step 32 (.int .u64 (x : Int)) rfl (lb_ I0.size) (wanted_none rfl) r_a0_21 (fun a0_21 fa0_21 => ?_)
  clear r_a0_21
  clear fa0_20
  refine fa0_21.move 7 (.int .u64 (x : Int)) _ (Or.inr rfl) rfl (lb_ I0.size) (wanted_none rfl) (fa0_21.at_ 32) (fun a0_22 fa0_22 => ?_)
  clear fa0_21
  refine wpList_nil ?_
  change Code.wp _ _ _ _ _
  refine wp_seq ?_
  refine wp_region_list ?_
  unfold rRD10
  refine fa0_22.move 33 (.int .i64 (i : Int)) _ (Or.inl rfl) rfl (lb_ I0.size) (wanted_none rfl) ((fa0_22.at_ 9).trans h9) (fun a0_23 fa0_23 => ?_)
  clear fa0_22
  refine fa0_23.move 34 (.int .i64 (i : Int)) _ (Or.inl rfl) rfl (lb_ I0.size) (wanted_none rfl) ((fa0_23.at_ 2).trans I0.s2) (fun a0_24 fa0_24 => ?_)
  clear fa0_23
  have r_a0_25 : (execOp a0_24.eval { dst := some 35, op := Op.binOp BinOp.lss 3 (Operand.tmp 33) (Operand.tmp 34) 3, type := 4, pos := "ref.go:117", after := #[{ on := 0, ground := Ground.data }, { on := 1, ground := Ground.data }], guard := none }).run Tryd.prog (wr) = .ok (.value (.bool false)) (wr) := by
    have e33 := (show a0_24.eval (.tmp 33) = .int .i64 (i : Int) from (fa0_24.at_ 33))
    have e34 := (show a0_24.eval (.tmp 34) = .int .i64 (i : Int) from (fa0_24.at_ 34))
    clear fa0_24 hQ h8 h9
    generalize a0_24.eval = ρ at *
    go_simp
  refine fa0_24.step 35 (.bool false) rfl (lb_ I0.size) (wanted_none rfl) r_a0_25 (fun a0_25 fa0_25 => ?_)
  clear r_a0_25
  clear fa0_24
  refine fa0_25.move 36 (.bool false) _ (Or.inl rfl) rfl (lb_ I0.size) (wanted_none rfl) (fa0_25.at_ 35) (fun a0_26 fa0_26 => ?_)
  clear fa0_25
  refine fa0_26.skip 37 rfl (lb_ I0.size) ((wanted_at (t := 36) (c := false) (b := true) rfl rfl rfl (lb_ (fa0_26.size.trans I0.size)) (fa0_26.at_ 36)).trans (by rfl)) (fun a0_27 fa0_27 => ?_)
  clear fa0_26
  refine fa0_27.skip 38 rfl (lb_ I0.size) ((wanted_at (t := 36) (c := false) (b := true) rfl rfl rfl (lb_ (fa0_27.size.trans I0.size)) (fa0_27.at_ 36)).trans (by rfl)) (fun a0_28 fa0_28 => ?_)
  clear fa0_27
  refine fa0_28.skip 39 rfl (lb_ I0.size) ((wanted_at (t := 36) (c := false) (b := true) rfl rfl rfl (lb_ (fa0_28.size.trans I0.size)) (fa0_28.at_ 36)).trans (by rfl)) (fun a0_29 fa0_29 => ?_)
  clear fa0_28
  refine fa0_29.skip 40 rfl (lb_ I0.size) ((wanted_at (t := 36) (c := false) (b := true) rfl rfl rfl (lb_ (fa0_29.size.trans I0.size)) (fa0_29.at_ 36)).trans (by rfl)) (fun a0_30 fa0_30 => ?_)
  clear fa0_29
  refine fa0_30.skip 41 rfl (lb_ I0.size) ((wanted_at (t := 36) (c := false) (b := true) rfl rfl rfl (lb_ (fa0_30.size.trans I0.size)) (fa0_30.at_ 36)).trans (by rfl)) (fun a0_31 fa0_31 => ?_)
  clear fa0_30
  have r_a0_32 : (execOp a0_31.eval { dst := some 42, op := Op.pick (Operand.tmp 36) (Operand.tmp 41) (Operand.const (Value.bool false)), type := 4, pos := "ref.go:117", after := #[{ on := 3, ground := Ground.data }, { on := 8, ground := Ground.data }], guard := none }).run Tryd.prog (wr) = .ok (.value (.bool false)) (wr) := by
    have kc : ∀ v, a0_31.eval (.const v) = v := fun _ => rfl
    have e36 := (show a0_31.eval (.tmp 36) = .bool false from (fa0_31.at_ 36))
    have e41 := (show a0_31.eval (.tmp 41) = undef from (fa0_31.at_ 41))
    clear fa0_31 hQ h8 h9
    generalize a0_31.eval = ρ at *
    go_simp
  refine fa0_31.step 42 (.bool false) rfl (lb_ I0.size) (wanted_none rfl) r_a0_32 (fun a0_32 fa0_32 => ?_)
  clear r_a0_32
  clear fa0_31
  refine wpList_nil ?_
  change Code.wp _ _ _ _ _
  refine wp_cond_false (show a0_32.eval (.tmp 42) = .bool false from (fa0_32.at_ 42)) (wp_skip ?_)
  change Code.wp _ _ _ _ _
  refine wp_region_list ?_
  unfold rRD5
  refine fa0_32.move 14 (.int .i64 (i : Int)) _ (Or.inl rfl) rfl (lb_ I0.size) (wanted_none rfl) ((fa0_32.at_ 9).trans h9) (fun a0_33 fa0_33 => ?_)
  clear fa0_32
  have r_a0_34 : (execOp a0_33.eval { dst := some 15, op := Op.binOp BinOp.add 3 (Operand.tmp 14) (Operand.const (Value.int IntKind.i64 1)) 3, type := 3, pos := "ref.go:110", after := #[{ on := 0, ground := Ground.data }], guard := none }).run Tryd.prog (wr) = .ok (.value (.int .i64 ((i : Int) + 1))) (wr) := by
    have kc : ∀ v, a0_33.eval (.const v) = v := fun _ => rfl
    have e14 := (show a0_33.eval (.tmp 14) = .int .i64 (i : Int) from (fa0_33.at_ 14))
    clear fa0_33 hQ h8 h9
    generalize a0_33.eval = ρ at *
    go_simp
  refine fa0_33.step 15 (.int .i64 ((i : Int) + 1)) rfl (lb_ I0.size) (wanted_none rfl) r_a0_34 (fun a0_34 fa0_34 => ?_)
  clear r_a0_34
  clear fa0_33
  refine fa0_34.move 9 (.int .i64 ((i : Int) + 1)) _ (Or.inr rfl) rfl (lb_ I0.size) (wanted_none rfl) (fa0_34.at_ 15) (fun a0_35 fa0_35 => ?_)
  clear fa0_34
  refine wpList_nil ?_
  exact hQ a0_35 (I0.keep fa0_35 rfl rfl rfl) (show a0_35.eval (.tmp 7) = .int .u64 (x : Int) from (fa0_35.at_ 7)) (show a0_35.eval (.tmp 8) = .bool r from ((fa0_35.at_ 8).trans h8)) (show a0_35.eval (.tmp 9) = .int .i64 ((i : Int) + 1) from (fa0_35.at_ 9))
set_option maxRecDepth 100000 in
set_option maxHeartbeats 1000000 in
theorem rdD {g lc p n i h : Nat} {r : Bool} {l : List Nat} {Q : Exit → Act → World → Prop} (a0 : Act) (wr : World) (I0 : IRD (.slice (some ⟨g, 0, none⟩) l.length lc) (.int .u64 (p : Int)) (.int .i64 (n : Int)) a0) (h7 : a0.eval (.tmp 7) = .int .u64 (h : Int)) (_ : a0.eval (.tmp 8) = .bool r) (h9 : a0.eval (.tmp 9) = .int .i64 (i : Int)) (hi : i < l.length) (hsm : l.length ≤ 1000) {x : Nat} (kx : wr.cell? ⟨g, i, none⟩ = some (.int .u64 (x : Int))) (hn1 : (i : Int) < (n : Int)) (hx : 0 < x) (hQ : ∀ a, IRD (.slice (some ⟨g, 0, none⟩) l.length lc) (.int .u64 (p : Int)) (.int .i64 (n : Int)) a → a.eval (.tmp 7) = .int .u64 (h : Int) → a.eval (.tmp 8) = .bool true → a.eval (.tmp 9) = .int .i64 ((i : Int) + 1) → Q .normal a wr) : cRD1.wp Tryd.prog Q a0 wr := by
  have hii : (i : Int) < (l.length : Int) := by omega
  have w1 : IntKind.i64.wrap ((i : Int) + 1) = (i : Int) + 1 := by rw [IntKind.wrap_i64]; omega
  have ne : ¬ (i : Int) = (n : Int) := by omega
  have ng : ¬ (n : Int) < (i : Int) := by omega
  clear hi
  have fa0_0 := Fe.refl a0
  unfold cRD1
  refine wp_seq (wp_seq ?_)
  refine wp_region_list ?_
  unfold rRD4
  refine fa0_0.move 10 (.int .i64 (i : Int)) _ (Or.inl rfl) rfl (lb_ I0.size) (wanted_none rfl) ((fa0_0.at_ 9).trans h9) (fun a0_1 fa0_1 => ?_)
  clear fa0_0
  refine fa0_1.move 11 (.slice (some ⟨g, 0, none⟩) l.length lc) _ (Or.inl rfl) rfl (lb_ I0.size) (wanted_none rfl) ((fa0_1.at_ 0).trans I0.s0) (fun a0_2 fa0_2 => ?_)
  clear fa0_1
  have r_a0_3 : (execOp a0_2.eval { dst := some 12, op := Op.call { callee := Callee.builtin Builtin.len, args := #[Operand.tmp 11], argTypes := #[36] }, type := 3, pos := "ref.go:110", after := #[{ on := 1, ground := Ground.data }], guard := none }).run Tryd.prog (wr) = .ok (.value (.int .i64 (l.length : Int))) (wr) := by
    have e11 := (show a0_2.eval (.tmp 11) = .slice (some ⟨g, 0, none⟩) l.length lc from (fa0_2.at_ 11))
    clear fa0_2 hQ h7 h9
    generalize a0_2.eval = ρ at *
    go_simp
  refine fa0_2.step 12 (.int .i64 (l.length : Int)) rfl (lb_ I0.size) (wanted_none rfl) r_a0_3 (fun a0_3 fa0_3 => ?_)
  clear r_a0_3
  clear fa0_2
  have r_a0_4 : (execOp a0_3.eval { dst := some 13, op := Op.binOp BinOp.lss 3 (Operand.tmp 10) (Operand.tmp 12) 3, type := 4, pos := "ref.go:110", after := #[{ on := 0, ground := Ground.data }, { on := 2, ground := Ground.data }], guard := none }).run Tryd.prog (wr) = .ok (.value (.bool true)) (wr) := by
    have e10 := (show a0_3.eval (.tmp 10) = .int .i64 (i : Int) from (fa0_3.at_ 10))
    have e12 := (show a0_3.eval (.tmp 12) = .int .i64 (l.length : Int) from (fa0_3.at_ 12))
    clear fa0_3 hQ h7 h9
    generalize a0_3.eval = ρ at *
    go_simp
  refine fa0_3.step 13 (.bool true) rfl (lb_ I0.size) (wanted_none rfl) r_a0_4 (fun a0_4 fa0_4 => ?_)
  clear r_a0_4
  clear fa0_3
  refine wpList_nil ?_
  change Code.wp _ _ _ _ _
  refine wp_cond_true (show a0_4.eval (.tmp 13) = .bool true from (fa0_4.at_ 13)) (wp_skip ?_)
  change Code.wp _ _ _ _ _
  refine wp_seq (wp_block (wp_seq (wp_seq ?_)))
  refine wp_region_list ?_
  unfold rRD6
  refine fa0_4.move 16 (.int .i64 (i : Int)) _ (Or.inl rfl) rfl (lb_ I0.size) (wanted_none rfl) ((fa0_4.at_ 9).trans h9) (fun a0_5 fa0_5 => ?_)
  clear fa0_4
  refine fa0_5.move 17 (.int .i64 (n : Int)) _ (Or.inl rfl) rfl (lb_ I0.size) (wanted_none rfl) ((fa0_5.at_ 2).trans I0.s2) (fun a0_6 fa0_6 => ?_)
  clear fa0_5
  have r_a0_7 : (execOp a0_6.eval { dst := some 18, op := Op.binOp BinOp.gtr 3 (Operand.tmp 16) (Operand.tmp 17) 3, type := 4, pos := "ref.go:111", after := #[{ on := 0, ground := Ground.data }, { on := 1, ground := Ground.data }], guard := none }).run Tryd.prog (wr) = .ok (.value (.bool false)) (wr) := by
    have e16 := (show a0_6.eval (.tmp 16) = .int .i64 (i : Int) from (fa0_6.at_ 16))
    have e17 := (show a0_6.eval (.tmp 17) = .int .i64 (n : Int) from (fa0_6.at_ 17))
    clear fa0_6 hQ h7 h9
    generalize a0_6.eval = ρ at *
    go_simp
  refine fa0_6.step 18 (.bool false) rfl (lb_ I0.size) (wanted_none rfl) r_a0_7 (fun a0_7 fa0_7 => ?_)
  clear r_a0_7
  clear fa0_6
  refine fa0_7.move 19 (.bool false) _ (Or.inl rfl) rfl (lb_ I0.size) (wanted_none rfl) (fa0_7.at_ 18) (fun a0_8 fa0_8 => ?_)
  clear fa0_7
  refine fa0_8.skip 20 rfl (lb_ I0.size) ((wanted_at (t := 19) (c := false) (b := true) rfl rfl rfl (lb_ (fa0_8.size.trans I0.size)) (fa0_8.at_ 19)).trans (by rfl)) (fun a0_9 fa0_9 => ?_)
  clear fa0_8
  refine fa0_9.skip 21 rfl (lb_ I0.size) ((wanted_at (t := 19) (c := false) (b := true) rfl rfl rfl (lb_ (fa0_9.size.trans I0.size)) (fa0_9.at_ 19)).trans (by rfl)) (fun a0_10 fa0_10 => ?_)
  clear fa0_9
  refine fa0_10.skip 22 rfl (lb_ I0.size) ((wanted_at (t := 19) (c := false) (b := true) rfl rfl rfl (lb_ (fa0_10.size.trans I0.size)) (fa0_10.at_ 19)).trans (by rfl)) (fun a0_11 fa0_11 => ?_)
  clear fa0_10
  refine fa0_11.skip 23 rfl (lb_ I0.size) ((wanted_at (t := 19) (c := false) (b := true) rfl rfl rfl (lb_ (fa0_11.size.trans I0.size)) (fa0_11.at_ 19)).trans (by rfl)) (fun a0_12 fa0_12 => ?_)
  clear fa0_11
  refine fa0_12.skip 24 rfl (lb_ I0.size) ((wanted_at (t := 19) (c := false) (b := true) rfl rfl rfl (lb_ (fa0_12.size.trans I0.size)) (fa0_12.at_ 19)).trans (by rfl)) (fun a0_13 fa0_13 => ?_)
  clear fa0_12
  have r_a0_14 : (execOp a0_13.eval { dst := some 25, op := Op.pick (Operand.tmp 19) (Operand.tmp 24) (Operand.const (Value.bool false)), type := 4, pos := "ref.go:111", after := #[{ on := 3, ground := Ground.data }, { on := 8, ground := Ground.data }], guard := none }).run Tryd.prog (wr) = .ok (.value (.bool false)) (wr) := by
    have kc : ∀ v, a0_13.eval (.const v) = v := fun _ => rfl
    have e19 := (show a0_13.eval (.tmp 19) = .bool false from (fa0_13.at_ 19))
    have e24 := (show a0_13.eval (.tmp 24) = undef from (fa0_13.at_ 24))
    clear fa0_13 hQ h7 h9
    generalize a0_13.eval = ρ at *
    go_simp
  refine fa0_13.step 25 (.bool false) rfl (lb_ I0.size) (wanted_none rfl) r_a0_14 (fun a0_14 fa0_14 => ?_)
  clear r_a0_14
  clear fa0_13
  refine wpList_nil ?_
  change Code.wp _ _ _ _ _
  refine wp_cond_false (show a0_14.eval (.tmp 25) = .bool false from (fa0_14.at_ 25)) (wp_skip ?_)
  change Code.wp _ _ _ _ _
  refine wp_seq (wp_seq ?_)
  refine wp_region_list ?_
  unfold rRD8
  refine fa0_14.move 26 (.int .i64 (i : Int)) _ (Or.inl rfl) rfl (lb_ I0.size) (wanted_none rfl) ((fa0_14.at_ 9).trans h9) (fun a0_15 fa0_15 => ?_)
  clear fa0_14
  refine fa0_15.move 27 (.int .i64 (n : Int)) _ (Or.inl rfl) rfl (lb_ I0.size) (wanted_none rfl) ((fa0_15.at_ 2).trans I0.s2) (fun a0_16 fa0_16 => ?_)
  clear fa0_15
  have r_a0_17 : (execOp a0_16.eval { dst := some 28, op := Op.binOp BinOp.eql 3 (Operand.tmp 26) (Operand.tmp 27) 3, type := 4, pos := "ref.go:114", after := #[{ on := 0, ground := Ground.data }, { on := 1, ground := Ground.data }], guard := none }).run Tryd.prog (wr) = .ok (.value (.bool false)) (wr) := by
    have e26 := (show a0_16.eval (.tmp 26) = .int .i64 (i : Int) from (fa0_16.at_ 26))
    have e27 := (show a0_16.eval (.tmp 27) = .int .i64 (n : Int) from (fa0_16.at_ 27))
    clear fa0_16 hQ h7 h9
    generalize a0_16.eval = ρ at *
    go_simp
  refine fa0_16.step 28 (.bool false) rfl (lb_ I0.size) (wanted_none rfl) r_a0_17 (fun a0_17 fa0_17 => ?_)
  clear r_a0_17
  clear fa0_16
  refine wpList_nil ?_
  change Code.wp _ _ _ _ _
  refine wp_cond_false (show a0_17.eval (.tmp 28) = .bool false from (fa0_17.at_ 28)) (wp_skip ?_)
  change Code.wp _ _ _ _ _
  refine wp_seq ?_
  refine wp_region_list ?_
  unfold rRD10
  refine fa0_17.move 33 (.int .i64 (i : Int)) _ (Or.inl rfl) rfl (lb_ I0.size) (wanted_none rfl) ((fa0_17.at_ 9).trans h9) (fun a0_18 fa0_18 => ?_)
  clear fa0_17
  refine fa0_18.move 34 (.int .i64 (n : Int)) _ (Or.inl rfl) rfl (lb_ I0.size) (wanted_none rfl) ((fa0_18.at_ 2).trans I0.s2) (fun a0_19 fa0_19 => ?_)
  clear fa0_18
  have r_a0_20 : (execOp a0_19.eval { dst := some 35, op := Op.binOp BinOp.lss 3 (Operand.tmp 33) (Operand.tmp 34) 3, type := 4, pos := "ref.go:117", after := #[{ on := 0, ground := Ground.data }, { on := 1, ground := Ground.data }], guard := none }).run Tryd.prog (wr) = .ok (.value (.bool true)) (wr) := by
    have e33 := (show a0_19.eval (.tmp 33) = .int .i64 (i : Int) from (fa0_19.at_ 33))
    have e34 := (show a0_19.eval (.tmp 34) = .int .i64 (n : Int) from (fa0_19.at_ 34))
    clear fa0_19 hQ h7 h9
    generalize a0_19.eval = ρ at *
    go_simp
  refine fa0_19.step 35 (.bool true) rfl (lb_ I0.size) (wanted_none rfl) r_a0_20 (fun a0_20 fa0_20 => ?_)
  clear r_a0_20
  clear fa0_19
  refine fa0_20.move 36 (.bool true) _ (Or.inl rfl) rfl (lb_ I0.size) (wanted_none rfl) (fa0_20.at_ 35) (fun a0_21 fa0_21 => ?_)
  clear fa0_20
  refine fa0_21.move 37 (.slice (some ⟨g, 0, none⟩) l.length lc) _ (Or.inl rfl) rfl (lb_ I0.size) ((wanted_at (t := 36) (c := true) (b := true) rfl rfl rfl (lb_ (fa0_21.size.trans I0.size)) (fa0_21.at_ 36)).trans (by rfl)) ((fa0_21.at_ 0).trans I0.s0) (fun a0_22 fa0_22 => ?_)
  clear fa0_21
  refine fa0_22.move 38 (.int .i64 (i : Int)) _ (Or.inl rfl) rfl (lb_ I0.size) ((wanted_at (t := 36) (c := true) (b := true) rfl rfl rfl (lb_ (fa0_22.size.trans I0.size)) (fa0_22.at_ 36)).trans (by rfl)) ((fa0_22.at_ 9).trans h9) (fun a0_23 fa0_23 => ?_)
  clear fa0_22
  have r_a0_24 : (execOp a0_23.eval { dst := some 39, op := Op.indexAddr 36 (Operand.tmp 37) (Operand.tmp 38), type := 0, pos := "ref.go:117", after := #[{ on := 4, ground := Ground.data }, { on := 5, ground := Ground.data }, { on := 3, ground := Ground.guard }], guard := some (3, true) }).run Tryd.prog (wr) = .ok (.value (.pointer (some ⟨g, i, none⟩))) (wr) := by
    have e37 := (show a0_23.eval (.tmp 37) = .slice (some ⟨g, 0, none⟩) l.length lc from (fa0_23.at_ 37))
    have e38 := (show a0_23.eval (.tmp 38) = .int .i64 (i : Int) from (fa0_23.at_ 38))
    clear fa0_23 hQ h7 h9
    generalize a0_23.eval = ρ at *
    go_simp
  refine fa0_23.step 39 (.pointer (some ⟨g, i, none⟩)) rfl (lb_ I0.size) ((wanted_at (t := 36) (c := true) (b := true) rfl rfl rfl (lb_ (fa0_23.size.trans I0.size)) (fa0_23.at_ 36)).trans (by rfl)) r_a0_24 (fun a0_24 fa0_24 => ?_)
  clear r_a0_24
  clear fa0_23
  have r_a0_25 : (execOp a0_24.eval { dst := some 40, op := Op.load 39 (Operand.tmp 39), type := 39, pos := "ref.go:117", after := #[{ on := 6, ground := Ground.data }, { on := 3, ground := Ground.guard }], guard := some (3, true) }).run Tryd.prog (wr) = .ok (.value (.int .u64 (x : Int))) (wr) := by
    have e39 := (show a0_24.eval (.tmp 39) = .pointer (some ⟨g, i, none⟩) from (fa0_24.at_ 39))
    clear fa0_24 hQ h7 h9
    generalize a0_24.eval = ρ at *
    go_simp
  refine fa0_24.step 40 (.int .u64 (x : Int)) rfl (lb_ I0.size) ((wanted_at (t := 36) (c := true) (b := true) rfl rfl rfl (lb_ (fa0_24.size.trans I0.size)) (fa0_24.at_ 36)).trans (by rfl)) r_a0_25 (fun a0_25 fa0_25 => ?_)
  clear r_a0_25
  clear fa0_24
  have r_a0_26 : (execOp a0_25.eval { dst := some 41, op := Op.binOp BinOp.gtr 39 (Operand.tmp 40) (Operand.const (Value.int IntKind.u64 0)) 39, type := 4, pos := "ref.go:117", after := #[{ on := 7, ground := Ground.data }, { on := 3, ground := Ground.guard }], guard := some (3, true) }).run Tryd.prog (wr) = .ok (.value (.bool true)) (wr) := by
    have kc : ∀ v, a0_25.eval (.const v) = v := fun _ => rfl
    have e40 := (show a0_25.eval (.tmp 40) = .int .u64 (x : Int) from (fa0_25.at_ 40))
    clear fa0_25 hQ h7 h9
    generalize a0_25.eval = ρ at *
    go_simp
  refine fa0_25.step 41 (.bool true) rfl (lb_ I0.size) ((wanted_at (t := 36) (c := true) (b := true) rfl rfl rfl (lb_ (fa0_25.size.trans I0.size)) (fa0_25.at_ 36)).trans (by rfl)) r_a0_26 (fun a0_26 fa0_26 => ?_)
  clear r_a0_26
  clear fa0_25
  have r_a0_27 : (execOp a0_26.eval { dst := some 42, op := Op.pick (Operand.tmp 36) (Operand.tmp 41) (Operand.const (Value.bool false)), type := 4, pos := "ref.go:117", after := #[{ on := 3, ground := Ground.data }, { on := 8, ground := Ground.data }], guard := none }).run Tryd.prog (wr) = .ok (.value (.bool true)) (wr) := by
    have kc : ∀ v, a0_26.eval (.const v) = v := fun _ => rfl
    have e36 := (show a0_26.eval (.tmp 36) = .bool true from (fa0_26.at_ 36))
    have e41 := (show a0_26.eval (.tmp 41) = .bool true from (fa0_26.at_ 41))
    clear fa0_26 hQ h7 h9
    generalize a0_26.eval = ρ at *
    go_simp
  refine fa0_26.step 42 (.bool true) rfl (lb_ I0.size) (wanted_none rfl) r_a0_27 (fun a0_27 fa0_27 => ?_)
  clear r_a0_27
  clear fa0_26
  refine wpList_nil ?_
  change Code.wp _ _ _ _ _
  refine wp_cond_true (show a0_27.eval (.tmp 42) = .bool true from (fa0_27.at_ 42)) ?_
  change Code.wp _ _ _ _ _
  refine wp_region_list ?_
  unfold rRD11
  refine fa0_27.move 8 (.bool true) _ (Or.inr rfl) rfl (lb_ I0.size) (wanted_none rfl) rfl (fun a0_28 fa0_28 => ?_)
  clear fa0_27
  refine wpList_nil ?_
  change Code.wp _ _ _ _ _
  refine wp_region_list ?_
  unfold rRD5
  refine fa0_28.move 14 (.int .i64 (i : Int)) _ (Or.inl rfl) rfl (lb_ I0.size) (wanted_none rfl) ((fa0_28.at_ 9).trans h9) (fun a0_29 fa0_29 => ?_)
  clear fa0_28
  have r_a0_30 : (execOp a0_29.eval { dst := some 15, op := Op.binOp BinOp.add 3 (Operand.tmp 14) (Operand.const (Value.int IntKind.i64 1)) 3, type := 3, pos := "ref.go:110", after := #[{ on := 0, ground := Ground.data }], guard := none }).run Tryd.prog (wr) = .ok (.value (.int .i64 ((i : Int) + 1))) (wr) := by
    have kc : ∀ v, a0_29.eval (.const v) = v := fun _ => rfl
    have e14 := (show a0_29.eval (.tmp 14) = .int .i64 (i : Int) from (fa0_29.at_ 14))
    clear fa0_29 hQ h7 h9
    generalize a0_29.eval = ρ at *
    go_simp
  refine fa0_29.step 15 (.int .i64 ((i : Int) + 1)) rfl (lb_ I0.size) (wanted_none rfl) r_a0_30 (fun a0_30 fa0_30 => ?_)
  clear r_a0_30
  clear fa0_29
  refine fa0_30.move 9 (.int .i64 ((i : Int) + 1)) _ (Or.inr rfl) rfl (lb_ I0.size) (wanted_none rfl) (fa0_30.at_ 15) (fun a0_31 fa0_31 => ?_)
  clear fa0_30
  refine wpList_nil ?_
  exact hQ a0_31 (I0.keep fa0_31 rfl rfl rfl) (show a0_31.eval (.tmp 7) = .int .u64 (h : Int) from ((fa0_31.at_ 7).trans h7)) (show a0_31.eval (.tmp 8) = .bool true from (fa0_31.at_ 8)) (show a0_31.eval (.tmp 9) = .int .i64 ((i : Int) + 1) from (fa0_31.at_ 9))
set_option maxRecDepth 100000 in
set_option maxHeartbeats 1000000 in
theorem rdF {g lc p n i h : Nat} {r : Bool} {l : List Nat} {Q : Exit → Act → World → Prop} (a0 : Act) (wr : World) (I0 : IRD (.slice (some ⟨g, 0, none⟩) l.length lc) (.int .u64 (p : Int)) (.int .i64 (n : Int)) a0) (h7 : a0.eval (.tmp 7) = .int .u64 (h : Int)) (h8 : a0.eval (.tmp 8) = .bool r) (h9 : a0.eval (.tmp 9) = .int .i64 (i : Int)) (hi : i < l.length) (hsm : l.length ≤ 1000) {x : Nat} (kx : wr.cell? ⟨g, i, none⟩ = some (.int .u64 (x : Int))) (hn1 : (i : Int) < (n : Int)) (hx : x = 0) (hQ : ∀ a, IRD (.slice (some ⟨g, 0, none⟩) l.length lc) (.int .u64 (p : Int)) (.int .i64 (n : Int)) a → a.eval (.tmp 7) = .int .u64 (h : Int) → a.eval (.tmp 8) = .bool r → a.eval (.tmp 9) = .int .i64 ((i : Int) + 1) → Q .normal a wr) : cRD1.wp Tryd.prog Q a0 wr := by
  have hii : (i : Int) < (l.length : Int) := by omega
  have w1 : IntKind.i64.wrap ((i : Int) + 1) = (i : Int) + 1 := by rw [IntKind.wrap_i64]; omega
  have ne : ¬ (i : Int) = (n : Int) := by omega
  have ng : ¬ (n : Int) < (i : Int) := by omega
  clear hi
  have fa0_0 := Fe.refl a0
  unfold cRD1
  refine wp_seq (wp_seq ?_)
  refine wp_region_list ?_
  unfold rRD4
  refine fa0_0.move 10 (.int .i64 (i : Int)) _ (Or.inl rfl) rfl (lb_ I0.size) (wanted_none rfl) ((fa0_0.at_ 9).trans h9) (fun a0_1 fa0_1 => ?_)
  clear fa0_0
  refine fa0_1.move 11 (.slice (some ⟨g, 0, none⟩) l.length lc) _ (Or.inl rfl) rfl (lb_ I0.size) (wanted_none rfl) ((fa0_1.at_ 0).trans I0.s0) (fun a0_2 fa0_2 => ?_)
  clear fa0_1
  have r_a0_3 : (execOp a0_2.eval { dst := some 12, op := Op.call { callee := Callee.builtin Builtin.len, args := #[Operand.tmp 11], argTypes := #[36] }, type := 3, pos := "ref.go:110", after := #[{ on := 1, ground := Ground.data }], guard := none }).run Tryd.prog (wr) = .ok (.value (.int .i64 (l.length : Int))) (wr) := by
    have e11 := (show a0_2.eval (.tmp 11) = .slice (some ⟨g, 0, none⟩) l.length lc from (fa0_2.at_ 11))
    clear fa0_2 hQ h7 h8 h9
    generalize a0_2.eval = ρ at *
    go_simp
  refine fa0_2.step 12 (.int .i64 (l.length : Int)) rfl (lb_ I0.size) (wanted_none rfl) r_a0_3 (fun a0_3 fa0_3 => ?_)
  clear r_a0_3
  clear fa0_2
  have r_a0_4 : (execOp a0_3.eval { dst := some 13, op := Op.binOp BinOp.lss 3 (Operand.tmp 10) (Operand.tmp 12) 3, type := 4, pos := "ref.go:110", after := #[{ on := 0, ground := Ground.data }, { on := 2, ground := Ground.data }], guard := none }).run Tryd.prog (wr) = .ok (.value (.bool true)) (wr) := by
    have e10 := (show a0_3.eval (.tmp 10) = .int .i64 (i : Int) from (fa0_3.at_ 10))
    have e12 := (show a0_3.eval (.tmp 12) = .int .i64 (l.length : Int) from (fa0_3.at_ 12))
    clear fa0_3 hQ h7 h8 h9
    generalize a0_3.eval = ρ at *
    go_simp
  refine fa0_3.step 13 (.bool true) rfl (lb_ I0.size) (wanted_none rfl) r_a0_4 (fun a0_4 fa0_4 => ?_)
  clear r_a0_4
  clear fa0_3
  refine wpList_nil ?_
  change Code.wp _ _ _ _ _
  refine wp_cond_true (show a0_4.eval (.tmp 13) = .bool true from (fa0_4.at_ 13)) (wp_skip ?_)
  change Code.wp _ _ _ _ _
  refine wp_seq (wp_block (wp_seq (wp_seq ?_)))
  refine wp_region_list ?_
  unfold rRD6
  refine fa0_4.move 16 (.int .i64 (i : Int)) _ (Or.inl rfl) rfl (lb_ I0.size) (wanted_none rfl) ((fa0_4.at_ 9).trans h9) (fun a0_5 fa0_5 => ?_)
  clear fa0_4
  refine fa0_5.move 17 (.int .i64 (n : Int)) _ (Or.inl rfl) rfl (lb_ I0.size) (wanted_none rfl) ((fa0_5.at_ 2).trans I0.s2) (fun a0_6 fa0_6 => ?_)
  clear fa0_5
  have r_a0_7 : (execOp a0_6.eval { dst := some 18, op := Op.binOp BinOp.gtr 3 (Operand.tmp 16) (Operand.tmp 17) 3, type := 4, pos := "ref.go:111", after := #[{ on := 0, ground := Ground.data }, { on := 1, ground := Ground.data }], guard := none }).run Tryd.prog (wr) = .ok (.value (.bool false)) (wr) := by
    have e16 := (show a0_6.eval (.tmp 16) = .int .i64 (i : Int) from (fa0_6.at_ 16))
    have e17 := (show a0_6.eval (.tmp 17) = .int .i64 (n : Int) from (fa0_6.at_ 17))
    clear fa0_6 hQ h7 h8 h9
    generalize a0_6.eval = ρ at *
    go_simp
  refine fa0_6.step 18 (.bool false) rfl (lb_ I0.size) (wanted_none rfl) r_a0_7 (fun a0_7 fa0_7 => ?_)
  clear r_a0_7
  clear fa0_6
  refine fa0_7.move 19 (.bool false) _ (Or.inl rfl) rfl (lb_ I0.size) (wanted_none rfl) (fa0_7.at_ 18) (fun a0_8 fa0_8 => ?_)
  clear fa0_7
  refine fa0_8.skip 20 rfl (lb_ I0.size) ((wanted_at (t := 19) (c := false) (b := true) rfl rfl rfl (lb_ (fa0_8.size.trans I0.size)) (fa0_8.at_ 19)).trans (by rfl)) (fun a0_9 fa0_9 => ?_)
  clear fa0_8
  refine fa0_9.skip 21 rfl (lb_ I0.size) ((wanted_at (t := 19) (c := false) (b := true) rfl rfl rfl (lb_ (fa0_9.size.trans I0.size)) (fa0_9.at_ 19)).trans (by rfl)) (fun a0_10 fa0_10 => ?_)
  clear fa0_9
  refine fa0_10.skip 22 rfl (lb_ I0.size) ((wanted_at (t := 19) (c := false) (b := true) rfl rfl rfl (lb_ (fa0_10.size.trans I0.size)) (fa0_10.at_ 19)).trans (by rfl)) (fun a0_11 fa0_11 => ?_)
  clear fa0_10
  refine fa0_11.skip 23 rfl (lb_ I0.size) ((wanted_at (t := 19) (c := false) (b := true) rfl rfl rfl (lb_ (fa0_11.size.trans I0.size)) (fa0_11.at_ 19)).trans (by rfl)) (fun a0_12 fa0_12 => ?_)
  clear fa0_11
  refine fa0_12.skip 24 rfl (lb_ I0.size) ((wanted_at (t := 19) (c := false) (b := true) rfl rfl rfl (lb_ (fa0_12.size.trans I0.size)) (fa0_12.at_ 19)).trans (by rfl)) (fun a0_13 fa0_13 => ?_)
  clear fa0_12
  have r_a0_14 : (execOp a0_13.eval { dst := some 25, op := Op.pick (Operand.tmp 19) (Operand.tmp 24) (Operand.const (Value.bool false)), type := 4, pos := "ref.go:111", after := #[{ on := 3, ground := Ground.data }, { on := 8, ground := Ground.data }], guard := none }).run Tryd.prog (wr) = .ok (.value (.bool false)) (wr) := by
    have kc : ∀ v, a0_13.eval (.const v) = v := fun _ => rfl
    have e19 := (show a0_13.eval (.tmp 19) = .bool false from (fa0_13.at_ 19))
    have e24 := (show a0_13.eval (.tmp 24) = undef from (fa0_13.at_ 24))
    clear fa0_13 hQ h7 h8 h9
    generalize a0_13.eval = ρ at *
    go_simp
  refine fa0_13.step 25 (.bool false) rfl (lb_ I0.size) (wanted_none rfl) r_a0_14 (fun a0_14 fa0_14 => ?_)
  clear r_a0_14
  clear fa0_13
  refine wpList_nil ?_
  change Code.wp _ _ _ _ _
  refine wp_cond_false (show a0_14.eval (.tmp 25) = .bool false from (fa0_14.at_ 25)) (wp_skip ?_)
  change Code.wp _ _ _ _ _
  refine wp_seq (wp_seq ?_)
  refine wp_region_list ?_
  unfold rRD8
  refine fa0_14.move 26 (.int .i64 (i : Int)) _ (Or.inl rfl) rfl (lb_ I0.size) (wanted_none rfl) ((fa0_14.at_ 9).trans h9) (fun a0_15 fa0_15 => ?_)
  clear fa0_14
  refine fa0_15.move 27 (.int .i64 (n : Int)) _ (Or.inl rfl) rfl (lb_ I0.size) (wanted_none rfl) ((fa0_15.at_ 2).trans I0.s2) (fun a0_16 fa0_16 => ?_)
  clear fa0_15
  have r_a0_17 : (execOp a0_16.eval { dst := some 28, op := Op.binOp BinOp.eql 3 (Operand.tmp 26) (Operand.tmp 27) 3, type := 4, pos := "ref.go:114", after := #[{ on := 0, ground := Ground.data }, { on := 1, ground := Ground.data }], guard := none }).run Tryd.prog (wr) = .ok (.value (.bool false)) (wr) := by
    have e26 := (show a0_16.eval (.tmp 26) = .int .i64 (i : Int) from (fa0_16.at_ 26))
    have e27 := (show a0_16.eval (.tmp 27) = .int .i64 (n : Int) from (fa0_16.at_ 27))
    clear fa0_16 hQ h7 h8 h9
    generalize a0_16.eval = ρ at *
    go_simp
  refine fa0_16.step 28 (.bool false) rfl (lb_ I0.size) (wanted_none rfl) r_a0_17 (fun a0_17 fa0_17 => ?_)
  clear r_a0_17
  clear fa0_16
  refine wpList_nil ?_
  change Code.wp _ _ _ _ _
  refine wp_cond_false (show a0_17.eval (.tmp 28) = .bool false from (fa0_17.at_ 28)) (wp_skip ?_)
  change Code.wp _ _ _ _ _
  refine wp_seq ?_
  refine wp_region_list ?_
  unfold rRD10
  refine fa0_17.move 33 (.int .i64 (i : Int)) _ (Or.inl rfl) rfl (lb_ I0.size) (wanted_none rfl) ((fa0_17.at_ 9).trans h9) (fun a0_18 fa0_18 => ?_)
  clear fa0_17
  refine fa0_18.move 34 (.int .i64 (n : Int)) _ (Or.inl rfl) rfl (lb_ I0.size) (wanted_none rfl) ((fa0_18.at_ 2).trans I0.s2) (fun a0_19 fa0_19 => ?_)
  clear fa0_18
  have r_a0_20 : (execOp a0_19.eval { dst := some 35, op := Op.binOp BinOp.lss 3 (Operand.tmp 33) (Operand.tmp 34) 3, type := 4, pos := "ref.go:117", after := #[{ on := 0, ground := Ground.data }, { on := 1, ground := Ground.data }], guard := none }).run Tryd.prog (wr) = .ok (.value (.bool true)) (wr) := by
    have e33 := (show a0_19.eval (.tmp 33) = .int .i64 (i : Int) from (fa0_19.at_ 33))
    have e34 := (show a0_19.eval (.tmp 34) = .int .i64 (n : Int) from (fa0_19.at_ 34))
    clear fa0_19 hQ h7 h8 h9
    generalize a0_19.eval = ρ at *
    go_simp
  refine fa0_19.step 35 (.bool true) rfl (lb_ I0.size) (wanted_none rfl) r_a0_20 (fun a0_20 fa0_20 => ?_)
  clear r_a0_20
  clear fa0_19
  refine fa0_20.move 36 (.bool true) _ (Or.inl rfl) rfl (lb_ I0.size) (wanted_none rfl) (fa0_20.at_ 35) (fun a0_21 fa0_21 => ?_)
  clear fa0_20
  refine fa0_21.move 37 (.slice (some ⟨g, 0, none⟩) l.length lc) _ (Or.inl rfl) rfl (lb_ I0.size) ((wanted_at (t := 36) (c := true) (b := true) rfl rfl rfl (lb_ (fa0_21.size.trans I0.size)) (fa0_21.at_ 36)).trans (by rfl)) ((fa0_21.at_ 0).trans I0.s0) (fun a0_22 fa0_22 => ?_)
  clear fa0_21
  refine fa0_22.move 38 (.int .i64 (i : Int)) _ (Or.inl rfl) rfl (lb_ I0.size) ((wanted_at (t := 36) (c := true) (b := true) rfl rfl rfl (lb_ (fa0_22.size.trans I0.size)) (fa0_22.at_ 36)).trans (by rfl)) ((fa0_22.at_ 9).trans h9) (fun a0_23 fa0_23 => ?_)
  clear fa0_22
  have r_a0_24 : (execOp a0_23.eval { dst := some 39, op := Op.indexAddr 36 (Operand.tmp 37) (Operand.tmp 38), type := 0, pos := "ref.go:117", after := #[{ on := 4, ground := Ground.data }, { on := 5, ground := Ground.data }, { on := 3, ground := Ground.guard }], guard := some (3, true) }).run Tryd.prog (wr) = .ok (.value (.pointer (some ⟨g, i, none⟩))) (wr) := by
    have e37 := (show a0_23.eval (.tmp 37) = .slice (some ⟨g, 0, none⟩) l.length lc from (fa0_23.at_ 37))
    have e38 := (show a0_23.eval (.tmp 38) = .int .i64 (i : Int) from (fa0_23.at_ 38))
    clear fa0_23 hQ h7 h8 h9
    generalize a0_23.eval = ρ at *
    go_simp
  refine fa0_23.step 39 (.pointer (some ⟨g, i, none⟩)) rfl (lb_ I0.size) ((wanted_at (t := 36) (c := true) (b := true) rfl rfl rfl (lb_ (fa0_23.size.trans I0.size)) (fa0_23.at_ 36)).trans (by rfl)) r_a0_24 (fun a0_24 fa0_24 => ?_)
  clear r_a0_24
  clear fa0_23
  have r_a0_25 : (execOp a0_24.eval { dst := some 40, op := Op.load 39 (Operand.tmp 39), type := 39, pos := "ref.go:117", after := #[{ on := 6, ground := Ground.data }, { on := 3, ground := Ground.guard }], guard := some (3, true) }).run Tryd.prog (wr) = .ok (.value (.int .u64 (x : Int))) (wr) := by
    have e39 := (show a0_24.eval (.tmp 39) = .pointer (some ⟨g, i, none⟩) from (fa0_24.at_ 39))
    clear fa0_24 hQ h7 h8 h9
    generalize a0_24.eval = ρ at *
    go_simp
  refine fa0_24.step 40 (.int .u64 (x : Int)) rfl (lb_ I0.size) ((wanted_at (t := 36) (c := true) (b := true) rfl rfl rfl (lb_ (fa0_24.size.trans I0.size)) (fa0_24.at_ 36)).trans (by rfl)) r_a0_25 (fun a0_25 fa0_25 => ?_)
  clear r_a0_25
  clear fa0_24
  have r_a0_26 : (execOp a0_25.eval { dst := some 41, op := Op.binOp BinOp.gtr 39 (Operand.tmp 40) (Operand.const (Value.int IntKind.u64 0)) 39, type := 4, pos := "ref.go:117", after := #[{ on := 7, ground := Ground.data }, { on := 3, ground := Ground.guard }], guard := some (3, true) }).run Tryd.prog (wr) = .ok (.value (.bool false)) (wr) := by
    have kc : ∀ v, a0_25.eval (.const v) = v := fun _ => rfl
    have e40 := (show a0_25.eval (.tmp 40) = .int .u64 (x : Int) from (fa0_25.at_ 40))
    clear fa0_25 hQ h7 h8 h9
    generalize a0_25.eval = ρ at *
    go_simp
  refine fa0_25.step 41 (.bool false) rfl (lb_ I0.size) ((wanted_at (t := 36) (c := true) (b := true) rfl rfl rfl (lb_ (fa0_25.size.trans I0.size)) (fa0_25.at_ 36)).trans (by rfl)) r_a0_26 (fun a0_26 fa0_26 => ?_)
  clear r_a0_26
  clear fa0_25
  have r_a0_27 : (execOp a0_26.eval { dst := some 42, op := Op.pick (Operand.tmp 36) (Operand.tmp 41) (Operand.const (Value.bool false)), type := 4, pos := "ref.go:117", after := #[{ on := 3, ground := Ground.data }, { on := 8, ground := Ground.data }], guard := none }).run Tryd.prog (wr) = .ok (.value (.bool false)) (wr) := by
    have kc : ∀ v, a0_26.eval (.const v) = v := fun _ => rfl
    have e36 := (show a0_26.eval (.tmp 36) = .bool true from (fa0_26.at_ 36))
    have e41 := (show a0_26.eval (.tmp 41) = .bool false from (fa0_26.at_ 41))
    clear fa0_26 hQ h7 h8 h9
    generalize a0_26.eval = ρ at *
    go_simp
  refine fa0_26.step 42 (.bool false) rfl (lb_ I0.size) (wanted_none rfl) r_a0_27 (fun a0_27 fa0_27 => ?_)
  clear r_a0_27
  clear fa0_26
  refine wpList_nil ?_
  change Code.wp _ _ _ _ _
  refine wp_cond_false (show a0_27.eval (.tmp 42) = .bool false from (fa0_27.at_ 42)) (wp_skip ?_)
  change Code.wp _ _ _ _ _
  refine wp_region_list ?_
  unfold rRD5
  refine fa0_27.move 14 (.int .i64 (i : Int)) _ (Or.inl rfl) rfl (lb_ I0.size) (wanted_none rfl) ((fa0_27.at_ 9).trans h9) (fun a0_28 fa0_28 => ?_)
  clear fa0_27
  have r_a0_29 : (execOp a0_28.eval { dst := some 15, op := Op.binOp BinOp.add 3 (Operand.tmp 14) (Operand.const (Value.int IntKind.i64 1)) 3, type := 3, pos := "ref.go:110", after := #[{ on := 0, ground := Ground.data }], guard := none }).run Tryd.prog (wr) = .ok (.value (.int .i64 ((i : Int) + 1))) (wr) := by
    have kc : ∀ v, a0_28.eval (.const v) = v := fun _ => rfl
    have e14 := (show a0_28.eval (.tmp 14) = .int .i64 (i : Int) from (fa0_28.at_ 14))
    clear fa0_28 hQ h7 h8 h9
    generalize a0_28.eval = ρ at *
    go_simp
  refine fa0_28.step 15 (.int .i64 ((i : Int) + 1)) rfl (lb_ I0.size) (wanted_none rfl) r_a0_29 (fun a0_29 fa0_29 => ?_)
  clear r_a0_29
  clear fa0_28
  refine fa0_29.move 9 (.int .i64 ((i : Int) + 1)) _ (Or.inr rfl) rfl (lb_ I0.size) (wanted_none rfl) (fa0_29.at_ 15) (fun a0_30 fa0_30 => ?_)
  clear fa0_29
  refine wpList_nil ?_
  exact hQ a0_30 (I0.keep fa0_30 rfl rfl rfl) (show a0_30.eval (.tmp 7) = .int .u64 (h : Int) from ((fa0_30.at_ 7).trans h7)) (show a0_30.eval (.tmp 8) = .bool r from ((fa0_30.at_ 8).trans h8)) (show a0_30.eval (.tmp 9) = .int .i64 ((i : Int) + 1) from (fa0_30.at_ 9))
theorem rdL {g lc p n : Nat} {l : List Nat} {Q : Exit → Act → World → Prop} (a0 : Act) (w : World) (I0 : IRD (.slice (some ⟨g, 0, none⟩) l.length lc) (.int .u64 (p : Int)) (.int .i64 (n : Int)) a0) (h7 : a0.eval (.tmp 7) = .int .u64 ((0 : Nat) : Int)) (h8 : a0.eval (.tmp 8) = .bool false) (h9 : a0.eval (.tmp 9) = .int .i64 ((0 : Nat) : Int)) (hsm : l.length ≤ 1000) (rl : WAt w g l)
    (hQr : abE l n l.length = true → ∀ a : Act, a.defers = [] → a.eval (.tmp 6) = .bool true → Q .ret a w)
    (hQ : abE l n l.length = false → ∀ a, IRD (.slice (some ⟨g, 0, none⟩) l.length lc) (.int .u64 (p : Int)) (.int .i64 (n : Int)) a → a.eval (.tmp 7) = .int .u64 (((abS l n l.length).1 : Nat) : Int) → a.eval (.tmp 8) = .bool (abS l n l.length).2 → Q (.exit 0) a w) : (Code.loop cRD1).wp Tryd.prog Q a0 w := by
  refine wp_loop (fun a W => W = w ∧ IRD (.slice (some ⟨g, 0, none⟩) l.length lc) (.int .u64 (p : Int)) (.int .i64 (n : Int)) a ∧ ∃ i : Nat, i ≤ l.length ∧ abE l n i = false ∧ a.eval (.tmp 9) = .int .i64 (i : Int) ∧ a.eval (.tmp 7) = .int .u64 (((abS l n i).1 : Nat) : Int) ∧ a.eval (.tmp 8) = .bool (abS l n i).2) (fun a _ => l.length - kOf a 9) ⟨rfl, I0, 0, Nat.zero_le _, rfl, h9, h7, h8⟩ ?_
  rintro a W ⟨rfl, I1, i, hi, he, g9, g7, g8⟩
  by_cases hgo : i < l.length
  · have kx := rl.cell hgo
    have step : ∀ (a' : Act) (hh : Nat) (rr : Bool), a'.eval (.tmp 7) = .int .u64 (hh : Int) → a'.eval (.tmp 8) = .bool rr → a'.eval (.tmp 9) = .int .i64 ((i : Int) + 1) → IRD (.slice (some ⟨g, 0, none⟩) l.length lc) (.int .u64 (p : Int)) (.int .i64 (n : Int)) a' → abE l n (i + 1) = false → (abS l n (i + 1)).1 = hh → (abS l n (i + 1)).2 = rr → (W = W ∧ IRD (.slice (some ⟨g, 0, none⟩) l.length lc) (.int .u64 (p : Int)) (.int .i64 (n : Int)) a' ∧ ∃ i : Nat, i ≤ l.length ∧ abE l n i = false ∧ a'.eval (.tmp 9) = .int .i64 (i : Int) ∧ a'.eval (.tmp 7) = .int .u64 (((abS l n i).1 : Nat) : Int) ∧ a'.eval (.tmp 8) = .bool (abS l n i).2) ∧ l.length - kOf a' 9 < l.length - kOf a 9 := by
      intro a' hh rr j7 j8 j9 i2 e1 e2 e3
      have h4 : a'.eval (.tmp 9) = .int .i64 ((i + 1 : Nat) : Int) := j9
      refine ⟨⟨rfl, i2, i + 1, hgo, e1, h4, by rw [e2]; exact j7, by rw [e3]; exact j8⟩, ?_⟩
      rw [kOf_eq h4, kOf_eq g9]
      omega
    by_cases h1 : n < i
    · have ne : ¬ i = n := by omega
      have nl : ¬ i < n := by omega
      by_cases hx : 0 < l.getD i 0
      · exact rdA a W I1 g7 g8 g9 hgo kx (by omega) hx (fun a' hd h6 => hQr (abE_hit h1 hx hgo) a' hd h6)
      · exact rdB (Q := Exit.then _ Q) a W I1 g7 g8 g9 hgo hsm kx (by omega) (Nat.eq_zero_of_not_pos hx) (fun a' i2 j7 j8 j9 => step a' _ _ j7 j8 j9 i2 (abE_miss he (fun h => hx h.2)) (if_neg ne) (if_neg (fun h => nl h.1)))
    · by_cases h2 : i = n
      · subst h2
        exact rdC (Q := Exit.then _ Q) a W I1 g7 g8 g9 hgo hsm kx (fun a' i2 j7 j8 j9 => step a' _ _ j7 j8 j9 i2 (abE_miss he (fun h => h1 h.1)) (if_pos rfl) (if_neg (fun h => by omega)))
      · by_cases hx : 0 < l.getD i 0
        · exact rdD (Q := Exit.then _ Q) a W I1 g7 g8 g9 hgo hsm kx (by omega) hx (fun a' i2 j7 j8 j9 => step a' _ _ j7 j8 j9 i2 (abE_miss he (fun h => h1 h.1)) (if_neg h2) (if_pos ⟨by omega, hx⟩))
        · exact rdF (Q := Exit.then _ Q) a W I1 g7 g8 g9 hgo hsm kx (by omega) (Nat.eq_zero_of_not_pos hx) (fun a' i2 j7 j8 j9 => step a' _ _ j7 j8 j9 i2 (abE_miss he (fun h => h1 h.1)) (if_neg h2) (if_neg (fun h => hx h.2)))
  · obtain rfl : l.length = i := by omega
    exact rdE a W I1 g7 g8 g9 (Nat.le_refl _) (fun a' i2 j7 j8 => hQ he a' i2 j7 j8)
set_option maxRecDepth 100000 in
set_option maxHeartbeats 1000000 in
theorem above_calls {g lc p n : Nat} {l : List Nat} (w : World) (hsm : l.length ≤ 1000) (rl : WAt w g l) :
    Calls Tryd.prog 21 #[.slice (some ⟨g, 0, none⟩) l.length lc, .int .u64 (p : Int), .int .i64 (n : Int)] w fun e w' => e = .returned (.bool (aboveN l p n)) ∧ w' = w := by
  refine calls_abs (c := cRD) Tryd.func21 (by kernel_rfl) 54 rfl (by simp) (fun a0 hsz hd ha => ?_)
  have fa0_0 := Fe.refl a0
  unfold cRD
  refine wp_seq ?_
  refine wp_region_list ?_
  unfold rRD0
  refine fa0_0.move 6 (.bool false) _ (Or.inr rfl) rfl (lb_ hsz) (wanted_none rfl) rfl (fun a0_1 fa0_1 => ?_)
  clear fa0_0
  refine wpList_nil ?_
  change Code.wp _ _ _ _ _
  refine wp_seq ?_
  refine wp_region_list ?_
  unfold rRD1
  refine fa0_1.move 7 (.int .u64 ((0 : Nat) : Int)) _ (Or.inr rfl) rfl (lb_ hsz) (wanted_none rfl) rfl (fun a0_2 fa0_2 => ?_)
  clear fa0_1
  refine wpList_nil ?_
  change Code.wp _ _ _ _ _
  refine wp_seq ?_
  refine wp_region_list ?_
  unfold rRD2
  refine fa0_2.move 8 (.bool false) _ (Or.inr rfl) rfl (lb_ hsz) (wanted_none rfl) rfl (fun a0_3 fa0_3 => ?_)
  clear fa0_2
  refine wpList_nil ?_
  change Code.wp _ _ _ _ _
  refine wp_seq (wp_seq ?_)
  refine wp_region_list ?_
  unfold rRD3
  refine fa0_3.move 9 (.int .i64 ((0 : Nat) : Int)) _ (Or.inr rfl) rfl (lb_ hsz) (wanted_none rfl) rfl (fun a0_4 fa0_4 => ?_)
  clear fa0_3
  refine wpList_nil ?_
  change Code.wp _ _ _ _ _
  refine wp_block ?_
  refine rdL a0_4 w ⟨fa0_4.size.trans hsz, fa0_4.defers.trans hd, (show a0_4.eval (.tmp 0) = .slice (some ⟨g, 0, none⟩) l.length lc from ((fa0_4.at_ 0).trans (ha 0 _ rfl))), (show a0_4.eval (.tmp 1) = .int .u64 (p : Int) from ((fa0_4.at_ 1).trans (ha 1 _ rfl))), (show a0_4.eval (.tmp 2) = .int .i64 (n : Int) from ((fa0_4.at_ 2).trans (ha 2 _ rfl)))⟩ (show a0_4.eval (.tmp 7) = .int .u64 ((0 : Nat) : Int) from (fa0_4.at_ 7)) (show a0_4.eval (.tmp 8) = .bool false from (fa0_4.at_ 8)) (show a0_4.eval (.tmp 9) = .int .i64 ((0 : Nat) : Int) from (fa0_4.at_ 9)) hsm rl (fun he a hda h6 => ?_) (fun he b1 i1 j7 j8 => ?_)
  · simp only [Exit.then, Exit.inBlock]
    exact ret_abs rfl hda h6 ⟨by unfold aboveN; rw [if_pos he], rfl⟩
  change Code.wp _ _ _ _ _
  refine wp_seq ?_
  have hA : aboveN l p n = (decide (p < (abS l n l.length).1) || (decide ((abS l n l.length).1 = p) && (abS l n l.length).2)) := by unfold aboveN; rw [he, if_neg (by decide)]
  rw [hA]
  clear hA he
  generalize (abS l n l.length).1 = h at *
  generalize (abS l n l.length).2 = r at *
  by_cases h1 : p < h
  · have fb1_0 := Fe.refl b1
    rw [decide_eq_true h1, Bool.true_or]
    have h2 : (p : Int) < (h : Int) := by omega
    clear h1
    refine wp_region_list ?_
    unfold rRD12
    refine fb1_0.move 43 (.int .u64 (h : Int)) _ (Or.inl rfl) rfl (lb_ i1.size) (wanted_none rfl) ((fb1_0.at_ 7).trans j7) (fun b1_1 fb1_1 => ?_)
    clear fb1_0
    refine fb1_1.move 44 (.int .u64 (p : Int)) _ (Or.inl rfl) rfl (lb_ i1.size) (wanted_none rfl) ((fb1_1.at_ 1).trans i1.s1) (fun b1_2 fb1_2 => ?_)
    clear fb1_1
    have r_b1_3 : (execOp b1_2.eval { dst := some 45, op := Op.binOp BinOp.gtr 39 (Operand.tmp 43) (Operand.tmp 44) 39, type := 4, pos := "ref.go:121", after := #[{ on := 0, ground := Ground.data }, { on := 1, ground := Ground.data }], guard := none }).run Tryd.prog (w) = .ok (.value (.bool true)) (w) := by
      have e43 := (show b1_2.eval (.tmp 43) = .int .u64 (h : Int) from (fb1_2.at_ 43))
      have e44 := (show b1_2.eval (.tmp 44) = .int .u64 (p : Int) from (fb1_2.at_ 44))
      clear fb1_2 ha rl j7 j8
      generalize b1_2.eval = ρ at *
      go_simp
    refine fb1_2.step 45 (.bool true) rfl (lb_ i1.size) (wanted_none rfl) r_b1_3 (fun b1_3 fb1_3 => ?_)
    clear r_b1_3
    clear fb1_2
    refine fb1_3.move 46 (.bool true) _ (Or.inl rfl) rfl (lb_ i1.size) (wanted_none rfl) (fb1_3.at_ 45) (fun b1_4 fb1_4 => ?_)
    clear fb1_3
    refine fb1_4.skip 47 rfl (lb_ i1.size) ((wanted_at (t := 46) (c := true) (b := false) rfl rfl rfl (lb_ (fb1_4.size.trans i1.size)) (fb1_4.at_ 46)).trans (by rfl)) (fun b1_5 fb1_5 => ?_)
    clear fb1_4
    refine fb1_5.skip 48 rfl (lb_ i1.size) ((wanted_at (t := 46) (c := true) (b := false) rfl rfl rfl (lb_ (fb1_5.size.trans i1.size)) (fb1_5.at_ 46)).trans (by rfl)) (fun b1_6 fb1_6 => ?_)
    clear fb1_5
    refine fb1_6.skip 49 rfl (lb_ i1.size) ((wanted_at (t := 46) (c := true) (b := false) rfl rfl rfl (lb_ (fb1_6.size.trans i1.size)) (fb1_6.at_ 46)).trans (by rfl)) (fun b1_7 fb1_7 => ?_)
    clear fb1_6
    refine fb1_7.skip 50 rfl (lb_ i1.size) ((wanted_at (t := 46) (c := true) (b := false) rfl rfl rfl (lb_ (fb1_7.size.trans i1.size)) (fb1_7.at_ 46)).trans (by rfl)) (fun b1_8 fb1_8 => ?_)
    clear fb1_7
    refine fb1_8.skip 51 rfl (lb_ i1.size) (wanted_undef (t := 50) rfl rfl rfl (lb_ (fb1_8.size.trans i1.size)) (fb1_8.at_ 50)) (fun b1_9 fb1_9 => ?_)
    clear fb1_8
    refine fb1_9.skip 52 rfl (lb_ i1.size) ((wanted_at (t := 46) (c := true) (b := false) rfl rfl rfl (lb_ (fb1_9.size.trans i1.size)) (fb1_9.at_ 46)).trans (by rfl)) (fun b1_10 fb1_10 => ?_)
    clear fb1_9
    have r_b1_11 : (execOp b1_10.eval { dst := some 53, op := Op.pick (Operand.tmp 46) (Operand.const (Value.bool true)) (Operand.tmp 52), type := 4, pos := "ref.go:121", after := #[{ on := 3, ground := Ground.data }, { on := 9, ground := Ground.data }], guard := none }).run Tryd.prog (w) = .ok (.value (.bool true)) (w) := by
      have kc : ∀ v, b1_10.eval (.const v) = v := fun _ => rfl
      have e46 := (show b1_10.eval (.tmp 46) = .bool true from (fb1_10.at_ 46))
      have e52 := (show b1_10.eval (.tmp 52) = undef from (fb1_10.at_ 52))
      clear fb1_10 ha rl j7 j8
      generalize b1_10.eval = ρ at *
      go_simp
    refine fb1_10.step 53 (.bool true) rfl (lb_ i1.size) (wanted_none rfl) r_b1_11 (fun b1_11 fb1_11 => ?_)
    clear r_b1_11
    clear fb1_10
    refine fb1_11.move 6 (.bool true) _ (Or.inr rfl) rfl (lb_ i1.size) (wanted_none rfl) (fb1_11.at_ 53) (fun b1_12 fb1_12 => ?_)
    clear fb1_11
    refine wpList_nil ?_
    change Code.wp _ _ _ _ _
    refine wp_ret ?_
    exact ret_abs rfl (fb1_12.defers.trans i1.defers) (show b1_12.eval (.tmp 6) = .bool true from (fb1_12.at_ 6)) ⟨rfl, rfl⟩
  · rw [decide_eq_false h1, Bool.false_or]
    have h2 : ¬ (p : Int) < (h : Int) := by omega
    by_cases h3 : h = p
    · have fb1_0 := Fe.refl b1
      rw [decide_eq_true h3, Bool.true_and]
      clear h1
      refine wp_region_list ?_
      unfold rRD12
      refine fb1_0.move 43 (.int .u64 (h : Int)) _ (Or.inl rfl) rfl (lb_ i1.size) (wanted_none rfl) ((fb1_0.at_ 7).trans j7) (fun b1_1 fb1_1 => ?_)
      clear fb1_0
      refine fb1_1.move 44 (.int .u64 (p : Int)) _ (Or.inl rfl) rfl (lb_ i1.size) (wanted_none rfl) ((fb1_1.at_ 1).trans i1.s1) (fun b1_2 fb1_2 => ?_)
      clear fb1_1
      have r_b1_3 : (execOp b1_2.eval { dst := some 45, op := Op.binOp BinOp.gtr 39 (Operand.tmp 43) (Operand.tmp 44) 39, type := 4, pos := "ref.go:121", after := #[{ on := 0, ground := Ground.data }, { on := 1, ground := Ground.data }], guard := none }).run Tryd.prog (w) = .ok (.value (.bool false)) (w) := by
        have e43 := (show b1_2.eval (.tmp 43) = .int .u64 (h : Int) from (fb1_2.at_ 43))
        have e44 := (show b1_2.eval (.tmp 44) = .int .u64 (p : Int) from (fb1_2.at_ 44))
        clear fb1_2 ha rl j7 j8
        generalize b1_2.eval = ρ at *
        go_simp
      refine fb1_2.step 45 (.bool false) rfl (lb_ i1.size) (wanted_none rfl) r_b1_3 (fun b1_3 fb1_3 => ?_)
      clear r_b1_3
      clear fb1_2
      refine fb1_3.move 46 (.bool false) _ (Or.inl rfl) rfl (lb_ i1.size) (wanted_none rfl) (fb1_3.at_ 45) (fun b1_4 fb1_4 => ?_)
      clear fb1_3
      refine fb1_4.move 47 (.int .u64 (h : Int)) _ (Or.inl rfl) rfl (lb_ i1.size) ((wanted_at (t := 46) (c := false) (b := false) rfl rfl rfl (lb_ (fb1_4.size.trans i1.size)) (fb1_4.at_ 46)).trans (by rfl)) ((fb1_4.at_ 7).trans j7) (fun b1_5 fb1_5 => ?_)
      clear fb1_4
      refine fb1_5.move 48 (.int .u64 (p : Int)) _ (Or.inl rfl) rfl (lb_ i1.size) ((wanted_at (t := 46) (c := false) (b := false) rfl rfl rfl (lb_ (fb1_5.size.trans i1.size)) (fb1_5.at_ 46)).trans (by rfl)) ((fb1_5.at_ 1).trans i1.s1) (fun b1_6 fb1_6 => ?_)
      clear fb1_5
      have r_b1_7 : (execOp b1_6.eval { dst := some 49, op := Op.binOp BinOp.eql 39 (Operand.tmp 47) (Operand.tmp 48) 39, type := 4, pos := "ref.go:121", after := #[{ on := 4, ground := Ground.data }, { on := 5, ground := Ground.data }, { on := 3, ground := Ground.guard }], guard := some (3, false) }).run Tryd.prog (w) = .ok (.value (.bool true)) (w) := by
        have e47 := (show b1_6.eval (.tmp 47) = .int .u64 (h : Int) from (fb1_6.at_ 47))
        have e48 := (show b1_6.eval (.tmp 48) = .int .u64 (p : Int) from (fb1_6.at_ 48))
        clear fb1_6 ha rl j7 j8
        generalize b1_6.eval = ρ at *
        go_simp
      refine fb1_6.step 49 (.bool true) rfl (lb_ i1.size) ((wanted_at (t := 46) (c := false) (b := false) rfl rfl rfl (lb_ (fb1_6.size.trans i1.size)) (fb1_6.at_ 46)).trans (by rfl)) r_b1_7 (fun b1_7 fb1_7 => ?_)
      clear r_b1_7
      clear fb1_6
      refine fb1_7.move 50 (.bool true) _ (Or.inl rfl) rfl (lb_ i1.size) ((wanted_at (t := 46) (c := false) (b := false) rfl rfl rfl (lb_ (fb1_7.size.trans i1.size)) (fb1_7.at_ 46)).trans (by rfl)) (fb1_7.at_ 49) (fun b1_8 fb1_8 => ?_)
      clear fb1_7
      refine fb1_8.move 51 (.bool r) _ (Or.inl rfl) rfl (lb_ i1.size) ((wanted_at (t := 50) (c := true) (b := true) rfl rfl rfl (lb_ (fb1_8.size.trans i1.size)) (fb1_8.at_ 50)).trans (by rfl)) ((fb1_8.at_ 8).trans j8) (fun b1_9 fb1_9 => ?_)
      clear fb1_8
      have r_b1_10 : (execOp b1_9.eval { dst := some 52, op := Op.pick (Operand.tmp 50) (Operand.tmp 51) (Operand.const (Value.bool false)), type := 4, pos := "ref.go:121", after := #[{ on := 7, ground := Ground.data }, { on := 8, ground := Ground.data }, { on := 3, ground := Ground.guard }], guard := some (3, false) }).run Tryd.prog (w) = .ok (.value (.bool r)) (w) := by
        have kc : ∀ v, b1_9.eval (.const v) = v := fun _ => rfl
        have e50 := (show b1_9.eval (.tmp 50) = .bool true from (fb1_9.at_ 50))
        have e51 := (show b1_9.eval (.tmp 51) = .bool r from (fb1_9.at_ 51))
        clear fb1_9 ha rl j7 j8
        generalize b1_9.eval = ρ at *
        go_simp
      refine fb1_9.step 52 (.bool r) rfl (lb_ i1.size) ((wanted_at (t := 46) (c := false) (b := false) rfl rfl rfl (lb_ (fb1_9.size.trans i1.size)) (fb1_9.at_ 46)).trans (by rfl)) r_b1_10 (fun b1_10 fb1_10 => ?_)
      clear r_b1_10
      clear fb1_9
      have r_b1_11 : (execOp b1_10.eval { dst := some 53, op := Op.pick (Operand.tmp 46) (Operand.const (Value.bool true)) (Operand.tmp 52), type := 4, pos := "ref.go:121", after := #[{ on := 3, ground := Ground.data }, { on := 9, ground := Ground.data }], guard := none }).run Tryd.prog (w) = .ok (.value (.bool r)) (w) := by
        have kc : ∀ v, b1_10.eval (.const v) = v := fun _ => rfl
        have e46 := (show b1_10.eval (.tmp 46) = .bool false from (fb1_10.at_ 46))
        have e52 := (show b1_10.eval (.tmp 52) = .bool r from (fb1_10.at_ 52))
        clear fb1_10 ha rl j7 j8
        generalize b1_10.eval = ρ at *
        go_simp
      refine fb1_10.step 53 (.bool r) rfl (lb_ i1.size) (wanted_none rfl) r_b1_11 (fun b1_11 fb1_11 => ?_)
      clear r_b1_11
      clear fb1_10
      refine fb1_11.move 6 (.bool r) _ (Or.inr rfl) rfl (lb_ i1.size) (wanted_none rfl) (fb1_11.at_ 53) (fun b1_12 fb1_12 => ?_)
      clear fb1_11
      refine wpList_nil ?_
      change Code.wp _ _ _ _ _
      refine wp_ret ?_
      exact ret_abs rfl (fb1_12.defers.trans i1.defers) (show b1_12.eval (.tmp 6) = .bool r from (fb1_12.at_ 6)) ⟨rfl, rfl⟩
    · have fb1_0 := Fe.refl b1
      rw [decide_eq_false h3, Bool.false_and]
      have h4 : ¬ (h : Int) = (p : Int) := by omega
      clear h1 h3
      refine wp_region_list ?_
      unfold rRD12
      refine fb1_0.move 43 (.int .u64 (h : Int)) _ (Or.inl rfl) rfl (lb_ i1.size) (wanted_none rfl) ((fb1_0.at_ 7).trans j7) (fun b1_1 fb1_1 => ?_)
      clear fb1_0
      refine fb1_1.move 44 (.int .u64 (p : Int)) _ (Or.inl rfl) rfl (lb_ i1.size) (wanted_none rfl) ((fb1_1.at_ 1).trans i1.s1) (fun b1_2 fb1_2 => ?_)
      clear fb1_1
      have r_b1_3 : (execOp b1_2.eval { dst := some 45, op := Op.binOp BinOp.gtr 39 (Operand.tmp 43) (Operand.tmp 44) 39, type := 4, pos := "ref.go:121", after := #[{ on := 0, ground := Ground.data }, { on := 1, ground := Ground.data }], guard := none }).run Tryd.prog (w) = .ok (.value (.bool false)) (w) := by
        have e43 := (show b1_2.eval (.tmp 43) = .int .u64 (h : Int) from (fb1_2.at_ 43))
        have e44 := (show b1_2.eval (.tmp 44) = .int .u64 (p : Int) from (fb1_2.at_ 44))
        clear fb1_2 ha rl j7 j8
        generalize b1_2.eval = ρ at *
        go_simp
      refine fb1_2.step 45 (.bool false) rfl (lb_ i1.size) (wanted_none rfl) r_b1_3 (fun b1_3 fb1_3 => ?_)
      clear r_b1_3
      clear fb1_2
      refine fb1_3.move 46 (.bool false) _ (Or.inl rfl) rfl (lb_ i1.size) (wanted_none rfl) (fb1_3.at_ 45) (fun b1_4 fb1_4 => ?_)
      clear fb1_3
      refine fb1_4.move 47 (.int .u64 (h : Int)) _ (Or.inl rfl) rfl (lb_ i1.size) ((wanted_at (t := 46) (c := false) (b := false) rfl rfl rfl (lb_ (fb1_4.size.trans i1.size)) (fb1_4.at_ 46)).trans (by rfl)) ((fb1_4.at_ 7).trans j7) (fun b1_5 fb1_5 => ?_)
      clear fb1_4
      refine fb1_5.move 48 (.int .u64 (p : Int)) _ (Or.inl rfl) rfl (lb_ i1.size) ((wanted_at (t := 46) (c := false) (b := false) rfl rfl rfl (lb_ (fb1_5.size.trans i1.size)) (fb1_5.at_ 46)).trans (by rfl)) ((fb1_5.at_ 1).trans i1.s1) (fun b1_6 fb1_6 => ?_)
      clear fb1_5
      have r_b1_7 : (execOp b1_6.eval { dst := some 49, op := Op.binOp BinOp.eql 39 (Operand.tmp 47) (Operand.tmp 48) 39, type := 4, pos := "ref.go:121", after := #[{ on := 4, ground := Ground.data }, { on := 5, ground := Ground.data }, { on := 3, ground := Ground.guard }], guard := some (3, false) }).run Tryd.prog (w) = .ok (.value (.bool false)) (w) := by
        have e47 := (show b1_6.eval (.tmp 47) = .int .u64 (h : Int) from (fb1_6.at_ 47))
        have e48 := (show b1_6.eval (.tmp 48) = .int .u64 (p : Int) from (fb1_6.at_ 48))
        clear fb1_6 ha rl j7 j8
        generalize b1_6.eval = ρ at *
        go_simp
      refine fb1_6.step 49 (.bool false) rfl (lb_ i1.size) ((wanted_at (t := 46) (c := false) (b := false) rfl rfl rfl (lb_ (fb1_6.size.trans i1.size)) (fb1_6.at_ 46)).trans (by rfl)) r_b1_7 (fun b1_7 fb1_7 => ?_)
      clear r_b1_7
      clear fb1_6
      refine fb1_7.move 50 (.bool false) _ (Or.inl rfl) rfl (lb_ i1.size) ((wanted_at (t := 46) (c := false) (b := false) rfl rfl rfl (lb_ (fb1_7.size.trans i1.size)) (fb1_7.at_ 46)).trans (by rfl)) (fb1_7.at_ 49) (fun b1_8 fb1_8 => ?_)
      clear fb1_7
      refine fb1_8.skip 51 rfl (lb_ i1.size) ((wanted_at (t := 50) (c := false) (b := true) rfl rfl rfl (lb_ (fb1_8.size.trans i1.size)) (fb1_8.at_ 50)).trans (by rfl)) (fun b1_9 fb1_9 => ?_)
      clear fb1_8
      have r_b1_10 : (execOp b1_9.eval { dst := some 52, op := Op.pick (Operand.tmp 50) (Operand.tmp 51) (Operand.const (Value.bool false)), type := 4, pos := "ref.go:121", after := #[{ on := 7, ground := Ground.data }, { on := 8, ground := Ground.data }, { on := 3, ground := Ground.guard }], guard := some (3, false) }).run Tryd.prog (w) = .ok (.value (.bool false)) (w) := by
        have kc : ∀ v, b1_9.eval (.const v) = v := fun _ => rfl
        have e50 := (show b1_9.eval (.tmp 50) = .bool false from (fb1_9.at_ 50))
        have e51 := (show b1_9.eval (.tmp 51) = undef from (fb1_9.at_ 51))
        clear fb1_9 ha rl j7 j8
        generalize b1_9.eval = ρ at *
        go_simp
      refine fb1_9.step 52 (.bool false) rfl (lb_ i1.size) ((wanted_at (t := 46) (c := false) (b := false) rfl rfl rfl (lb_ (fb1_9.size.trans i1.size)) (fb1_9.at_ 46)).trans (by rfl)) r_b1_10 (fun b1_10 fb1_10 => ?_)
      clear r_b1_10
      clear fb1_9
      have r_b1_11 : (execOp b1_10.eval { dst := some 53, op := Op.pick (Operand.tmp 46) (Operand.const (Value.bool true)) (Operand.tmp 52), type := 4, pos := "ref.go:121", after := #[{ on := 3, ground := Ground.data }, { on := 9, ground := Ground.data }], guard := none }).run Tryd.prog (w) = .ok (.value (.bool false)) (w) := by
        have kc : ∀ v, b1_10.eval (.const v) = v := fun _ => rfl
        have e46 := (show b1_10.eval (.tmp 46) = .bool false from (fb1_10.at_ 46))
        have e52 := (show b1_10.eval (.tmp 52) = .bool false from (fb1_10.at_ 52))
        clear fb1_10 ha rl j7 j8
        generalize b1_10.eval = ρ at *
        go_simp
      refine fb1_10.step 53 (.bool false) rfl (lb_ i1.size) (wanted_none rfl) r_b1_11 (fun b1_11 fb1_11 => ?_)
      clear r_b1_11
      clear fb1_10
      refine fb1_11.move 6 (.bool false) _ (Or.inr rfl) rfl (lb_ i1.size) (wanted_none rfl) (fb1_11.at_ 53) (fun b1_12 fb1_12 => ?_)
      clear fb1_11
      refine wpList_nil ?_
      change Code.wp _ _ _ _ _
      refine wp_ret ?_
      exact ret_abs rfl (fb1_12.defers.trans i1.defers) (show b1_12.eval (.tmp 6) = .bool false from (fb1_12.at_ 6)) ⟨rfl, rfl⟩
theorem wide_n {ga gb ca cb na nb : Nat} {la lb : List Nat} (w : World) (h1 : la.length = na) (h2 : lb.length = nb) (hsm : na + nb ≤ 1000) (ra : WAt w ga la) (rb : WAt w gb lb) :
    Calls Tryd.prog 19 #[.slice (some ⟨ga, 0, none⟩) na ca, .slice (some ⟨gb, 0, none⟩) nb cb] w fun e w' => ∃ g c, e = .returned (.slice (some ⟨g, 0, none⟩) (na + nb) c) ∧ WAt w' g (wideN la lb) ∧ w.heap.size ≤ g ∧ Same w w' := by
  subst h1 h2
  exact wide_calls w hsm ra rb
theorem above_n {g lc p n k : Nat} {l : List Nat} {b : Bool} (w : World) (h1 : l.length = k) (hsm : k ≤ 1000) (rl : WAt w g l) (hb : aboveN l p n = b) :
    Calls Tryd.prog 21 #[.slice (some ⟨g, 0, none⟩) k lc, .int .u64 (p : Int), .int .i64 (n : Int)] w fun e w' => e = .returned (.bool b) ∧ w' = w := by
  subst h1 hb
  exact above_calls w hsm rl
def rRE0 : Array Oper := #[{ dst := some 4, op := Op.assign (Operand.const (Value.int IntKind.u32 0)), type := 27, pos := "ref.go:128", after := #[], guard := none }]
def rRE1 : Array Oper := #[{ dst := some 5, op := Op.assign (Operand.const (Value.int IntKind.u64 0)), type := 39, pos := "ref.go:129", after := #[], guard := none }]
def rRE2 : Array Oper := #[{ dst := some 6, op := Op.assign (Operand.const (Value.int IntKind.i64 36)), type := 3, pos := "ref.go:130", after := #[], guard := none }]
def rRE3 : Array Oper := #[{ dst := some 9, op := Op.move (Operand.tmp 6), type := 3, pos := "ref.go:130", after := #[], guard := none },
  { dst := some 10, op := Op.binOp BinOp.geq 3 (Operand.tmp 9) (Operand.const (Value.int IntKind.i64 0)) 3, type := 4, pos := "ref.go:130", after := #[{ on := 0, ground := Ground.data }], guard := none }]
def rRE4 : Array Oper := #[{ dst := some 11, op := Op.move (Operand.tmp 6), type := 3, pos := "ref.go:130", after := #[], guard := none },
  { dst := some 12, op := Op.binOp BinOp.sub 3 (Operand.tmp 11) (Operand.const (Value.int IntKind.i64 1)) 3, type := 3, pos := "ref.go:130", after := #[{ on := 0, ground := Ground.data }], guard := none },
  { dst := some 6, op := Op.assign (Operand.tmp 12), type := 3, pos := "ref.go:130", after := #[{ on := 1, ground := Ground.data }, { on := 0, ground := Ground.phase }, { on := 1, ground := Ground.phase }], guard := none }]
def rRE5 : Array Oper := #[{ dst := some 13, op := Op.move (Operand.tmp 5), type := 39, pos := "ref.go:131", after := #[], guard := none },
  { dst := some 14, op := Op.move (Operand.tmp 6), type := 3, pos := "ref.go:131", after := #[], guard := none },
  { dst := some 15, op := Op.convert 3 48 (Operand.tmp 14), type := 48, pos := "ref.go:131", after := #[{ on := 1, ground := Ground.data }], guard := none },
  { dst := some 16, op := Op.binOp BinOp.shl 39 (Operand.const (Value.int IntKind.u64 1)) (Operand.tmp 15) 48, type := 39, pos := "ref.go:131", after := #[{ on := 2, ground := Ground.data }], guard := none },
  { dst := some 17, op := Op.binOp BinOp.add 39 (Operand.tmp 13) (Operand.tmp 16) 39, type := 39, pos := "ref.go:131", after := #[{ on := 0, ground := Ground.data }, { on := 3, ground := Ground.data }], guard := none },
  { dst := some 7, op := Op.assign (Operand.tmp 17), type := 39, pos := "ref.go:131", after := #[{ on := 4, ground := Ground.data }, { on := 0, ground := Ground.phase }, { on := 1, ground := Ground.phase }, { on := 2, ground := Ground.phase }, { on := 3, ground := Ground.phase }, { on := 4, ground := Ground.phase }], guard := none }]
def rRE6 : Array Oper := #[{ dst := some 18, op := Op.move (Operand.tmp 7), type := 39, pos := "ref.go:132", after := #[], guard := none },
  { dst := some 19, op := Op.call { callee := Callee.value (Operand.func 20), args := #[Operand.tmp 18], argTypes := #[39] }, type := 36, pos := "ref.go:132", after := #[{ on := 0, ground := Ground.data }], guard := none },
  { dst := some 20, op := Op.move (Operand.tmp 7), type := 39, pos := "ref.go:132", after := #[], guard := none },
  { dst := some 21, op := Op.call { callee := Callee.value (Operand.func 20), args := #[Operand.tmp 20], argTypes := #[39] }, type := 36, pos := "ref.go:132", after := #[{ on := 2, ground := Ground.data }, { on := 1, ground := Ground.chain }], guard := none },
  { dst := some 22, op := Op.call { callee := Callee.value (Operand.func 19), args := #[Operand.tmp 19, Operand.tmp 21], argTypes := #[36, 36] }, type := 36, pos := "ref.go:132", after := #[{ on := 1, ground := Ground.data }, { on := 3, ground := Ground.data }, { on := 3, ground := Ground.chain }], guard := none },
  { dst := some 8, op := Op.assign (Operand.tmp 22), type := 36, pos := "ref.go:132", after := #[{ on := 4, ground := Ground.data }, { on := 4, ground := Ground.chain }, { on := 0, ground := Ground.phase }, { on := 1, ground := Ground.phase }, { on := 2, ground := Ground.phase }, { on := 3, ground := Ground.phase }, { on := 4, ground := Ground.phase }], guard := none }]
def rRE7 : Array Oper := #[{ dst := some 23, op := Op.move (Operand.tmp 1), type := 3, pos := "ref.go:133", after := #[], guard := none },
  { dst := some 24, op := Op.binOp BinOp.eql 3 (Operand.tmp 23) (Operand.const (Value.int IntKind.i64 3)) 3, type := 4, pos := "ref.go:133", after := #[{ on := 0, ground := Ground.data }], guard := none }]
def rRE8 : Array Oper := #[{ dst := some 25, op := Op.move (Operand.tmp 8), type := 36, pos := "ref.go:134", after := #[], guard := none },
  { dst := some 26, op := Op.move (Operand.tmp 7), type := 39, pos := "ref.go:134", after := #[], guard := none },
  { dst := some 27, op := Op.call { callee := Callee.value (Operand.func 20), args := #[Operand.tmp 26], argTypes := #[39] }, type := 36, pos := "ref.go:134", after := #[{ on := 1, ground := Ground.data }], guard := none },
  { dst := some 28, op := Op.call { callee := Callee.value (Operand.func 19), args := #[Operand.tmp 25, Operand.tmp 27], argTypes := #[36, 36] }, type := 36, pos := "ref.go:134", after := #[{ on := 0, ground := Ground.data }, { on := 2, ground := Ground.data }, { on := 2, ground := Ground.chain }], guard := none },
  { dst := some 8, op := Op.assign (Operand.tmp 28), type := 36, pos := "ref.go:134", after := #[{ on := 3, ground := Ground.data }, { on := 3, ground := Ground.chain }, { on := 0, ground := Ground.phase }, { on := 1, ground := Ground.phase }, { on := 2, ground := Ground.phase }, { on := 3, ground := Ground.phase }], guard := none }]
def rRE9 : Array Oper := #[{ dst := some 29, op := Op.move (Operand.tmp 8), type := 36, pos := "ref.go:136", after := #[], guard := none },
  { dst := some 30, op := Op.move (Operand.tmp 0), type := 39, pos := "ref.go:136", after := #[], guard := none },
  { dst := some 31, op := Op.move (Operand.tmp 1), type := 3, pos := "ref.go:136", after := #[], guard := none },
  { dst := some 32, op := Op.call { callee := Callee.value (Operand.func 21), args := #[Operand.tmp 29, Operand.tmp 30, Operand.tmp 31], argTypes := #[36, 39, 3] }, type := 4, pos := "ref.go:136", after := #[{ on := 0, ground := Ground.data }, { on := 1, ground := Ground.data }, { on := 2, ground := Ground.data }], guard := none },
  { dst := some 33, op := Op.unOp UnOp.not 4 (Operand.tmp 32), type := 4, pos := "ref.go:136", after := #[{ on := 3, ground := Ground.data }], guard := none }]
def rRE10 : Array Oper := #[{ dst := some 34, op := Op.move (Operand.tmp 7), type := 39, pos := "ref.go:137", after := #[], guard := none },
  { dst := some 5, op := Op.assign (Operand.tmp 34), type := 39, pos := "ref.go:137", after := #[{ on := 0, ground := Ground.data }, { on := 0, ground := Ground.phase }], guard := none }]
def rRE11 : Array Oper := #[{ dst := some 35, op := Op.move (Operand.tmp 5), type := 39, pos := "ref.go:140", after := #[], guard := none },
  { dst := some 36, op := Op.convert 39 27 (Operand.tmp 35), type := 27, pos := "ref.go:140", after := #[{ on := 0, ground := Ground.data }], guard := none },
  { dst := some 4, op := Op.assign (Operand.tmp 36), type := 27, pos := "ref.go:140", after := #[{ on := 1, ground := Ground.data }, { on := 0, ground := Ground.phase }, { on := 1, ground := Ground.phase }], guard := none }]
def cRE1 : Code := (Code.seq (Code.seq (Code.region 3 rRE3 false) (Code.cond (Operand.tmp 10) Code.skip (Code.exit 0))) (Code.seq (Code.block 1 (Code.seq (Code.region 5 rRE5 false) (Code.seq (Code.region 6 rRE6 false) (Code.seq (Code.seq (Code.region 7 rRE7 false) (Code.cond (Operand.tmp 24) (Code.region 8 rRE8 false) Code.skip)) (Code.seq (Code.region 9 rRE9 false) (Code.cond (Operand.tmp 33) (Code.region 10 rRE10 false) Code.skip)))))) (Code.region 4 rRE4 false)))
def cRE : Code := (Code.seq (Code.region 0 rRE0 false) (Code.seq (Code.region 1 rRE1 false) (Code.seq (Code.seq (Code.region 2 rRE2 false) (Code.block 0 (Code.loop cRE1))) (Code.seq (Code.region 11 rRE11 false) Code.ret))))
structure IRE (v0 v1 : Value) (a : Act) : Prop where
  size : a.tmps.size = 37
  defers : a.defers = []
  s0 : a.eval (.tmp 0) = v0
  s1 : a.eval (.tmp 1) = v1
theorem IRE.keep {v0 v1 : Value} {a0 a : Act} {env : List (Nat × Value)} (h : IRE v0 v1 a0) (f : Fe a0 env a) (h0 : look env 0 (a0.eval (.tmp 0)) = a0.eval (.tmp 0)) (h1 : look env 1 (a0.eval (.tmp 1)) = a0.eval (.tmp 1)) : IRE v0 v1 a :=
  ⟨f.size.trans h.size, f.defers.trans h.defers, ((f.at_ 0).trans h0).trans h.s0, ((f.at_ 1).trans h1).trans h.s1⟩
theorem reE {p q x : Nat} {Q : Exit → Act → World → Prop} (a0 : Act) (wr : World) (I0 : IRE (.int .u64 (p : Int)) (.int .i64 (q : Int)) a0) (h5 : a0.eval (.tmp 5) = .int .u64 (x : Int)) (h6 : a0.eval (.tmp 6) = .int .i64 (-1)) (hQ : ∀ a, IRE (.int .u64 (p : Int)) (.int .i64 (q : Int)) a → a.eval (.tmp 5) = .int .u64 (x : Int) → Q (.exit 0) a wr) : cRE1.wp Tryd.prog Q a0 wr := by
  have fa0_0 := Fe.refl a0
  unfold cRE1
  refine wp_seq (wp_seq ?_)
  refine wp_region_list ?_
  unfold rRE3
  refine fa0_0.move 9 (.int .i64 (-1)) _ (Or.inl rfl) rfl (lb_ I0.size) (wanted_none rfl) ((fa0_0.at_ 6).trans h6) (fun a0_1 fa0_1 => ?_)
  clear fa0_0
  have r_a0_2 : (execOp a0_1.eval { dst := some 10, op := Op.binOp BinOp.geq 3 (Operand.tmp 9) (Operand.const (Value.int IntKind.i64 0)) 3, type := 4, pos := "ref.go:130", after := #[{ on := 0, ground := Ground.data }], guard := none }).run Tryd.prog (wr) = .ok (.value (.bool false)) (wr) := by
    have kc : ∀ v, a0_1.eval (.const v) = v := fun _ => rfl
    have e9 := (show a0_1.eval (.tmp 9) = .int .i64 (-1) from (fa0_1.at_ 9))
    clear fa0_1 hQ h5 h6
    generalize a0_1.eval = ρ at *
    go_simp
  refine fa0_1.step 10 (.bool false) rfl (lb_ I0.size) (wanted_none rfl) r_a0_2 (fun a0_2 fa0_2 => ?_)
  clear r_a0_2
  clear fa0_1
  refine wpList_nil ?_
  change Code.wp _ _ _ _ _
  refine wp_cond_false (show a0_2.eval (.tmp 10) = .bool false from (fa0_2.at_ 10)) (wp_exit ?_)
  exact hQ a0_2 (I0.keep fa0_2 rfl rfl) (show a0_2.eval (.tmp 5) = .int .u64 (x : Int) from ((fa0_2.at_ 5).trans h5))
set_option maxRecDepth 100000 in
set_option maxHeartbeats 1000000 in
theorem reTA {p q x m t z : Nat} {Q : Exit → Act → World → Prop} (a0 : Act) (wr : World) (I0 : IRE (.int .u64 (p : Int)) (.int .i64 (q : Int)) a0) (h5 : a0.eval (.tmp 5) = .int .u64 (x : Int)) (h6 : a0.eval (.tmp 6) = .int .i64 (m : Int)) (hm : m < 37) (hq : (q : Int) = 3) (hz : 2 ^ m % 18446744073709551616 = z) (ht : (x + z) % 18446744073709551616 = t) (hA : aboveN (wideN (wideN (partsN t) (partsN t)) (partsN t)) p q = true)
    (hQ : ∀ a W, IRE (.int .u64 (p : Int)) (.int .i64 (q : Int)) a → a.eval (.tmp 5) = .int .u64 ((x : Nat) : Int) → a.eval (.tmp 6) = .int .i64 ((m : Int) - 1) → Same wr W → Q .normal a W) : cRE1.wp Tryd.prog Q a0 wr := by
  have tl : t < 18446744073709551616 := by rw [← ht]; exact Nat.mod_lt _ (by decide)
  have w1 : IntKind.i64.wrap ((m : Int) - 1) = (m : Int) - 1 := by rw [IntKind.wrap_i64]; omega
  have w2 : IntKind.u64.wrap ((x : Int) + (z : Int)) = (t : Int) := by rw [← ht, ← Int.natCast_add]; exact m64 _
  have w3 : IntKind.u64.wrap (m : Int) = (m : Int) := by rw [IntKind.wrap_u64]; omega
  have w4 : IntKind.u64.wrap (2 ^ min m 64) = (z : Int) := by rw [Nat.min_eq_left (by omega), ← hz, show (2 : Int) ^ m = ((2 ^ m : Nat) : Int) by push_cast; rfl]; exact m64 _
  clear hz
  have fa0_0 := Fe.refl a0
  unfold cRE1
  refine wp_seq (wp_seq ?_)
  refine wp_region_list ?_
  unfold rRE3
  refine fa0_0.move 9 (.int .i64 (m : Int)) _ (Or.inl rfl) rfl (lb_ I0.size) (wanted_none rfl) ((fa0_0.at_ 6).trans h6) (fun a0_1 fa0_1 => ?_)
  clear fa0_0
  have r_a0_2 : (execOp a0_1.eval { dst := some 10, op := Op.binOp BinOp.geq 3 (Operand.tmp 9) (Operand.const (Value.int IntKind.i64 0)) 3, type := 4, pos := "ref.go:130", after := #[{ on := 0, ground := Ground.data }], guard := none }).run Tryd.prog (wr) = .ok (.value (.bool true)) (wr) := by
    have kc : ∀ v, a0_1.eval (.const v) = v := fun _ => rfl
    have e9 := (show a0_1.eval (.tmp 9) = .int .i64 (m : Int) from (fa0_1.at_ 9))
    clear fa0_1 hQ h5 h6 ht hA hm
    generalize a0_1.eval = ρ at *
    go_simp
  refine fa0_1.step 10 (.bool true) rfl (lb_ I0.size) (wanted_none rfl) r_a0_2 (fun a0_2 fa0_2 => ?_)
  clear r_a0_2
  clear fa0_1
  refine wpList_nil ?_
  change Code.wp _ _ _ _ _
  refine wp_cond_true (show a0_2.eval (.tmp 10) = .bool true from (fa0_2.at_ 10)) (wp_skip ?_)
  change Code.wp _ _ _ _ _
  refine wp_seq (wp_block (wp_seq ?_))
  refine wp_region_list ?_
  unfold rRE5
  refine fa0_2.move 13 (.int .u64 (x : Int)) _ (Or.inl rfl) rfl (lb_ I0.size) (wanted_none rfl) ((fa0_2.at_ 5).trans h5) (fun a0_3 fa0_3 => ?_)
  clear fa0_2
  refine fa0_3.move 14 (.int .i64 (m : Int)) _ (Or.inl rfl) rfl (lb_ I0.size) (wanted_none rfl) ((fa0_3.at_ 6).trans h6) (fun a0_4 fa0_4 => ?_)
  clear fa0_3
  have r_a0_5 : (execOp a0_4.eval { dst := some 15, op := Op.convert 3 48 (Operand.tmp 14), type := 48, pos := "ref.go:131", after := #[{ on := 1, ground := Ground.data }], guard := none }).run Tryd.prog (wr) = .ok (.value (.int .u64 (m : Int))) (wr) := by
    have e14 := (show a0_4.eval (.tmp 14) = .int .i64 (m : Int) from (fa0_4.at_ 14))
    clear fa0_4 hQ h5 h6 ht hA hm
    generalize a0_4.eval = ρ at *
    go_simp
  refine fa0_4.step 15 (.int .u64 (m : Int)) rfl (lb_ I0.size) (wanted_none rfl) r_a0_5 (fun a0_5 fa0_5 => ?_)
  clear r_a0_5
  clear fa0_4
  have r_a0_6 : (execOp a0_5.eval { dst := some 16, op := Op.binOp BinOp.shl 39 (Operand.const (Value.int IntKind.u64 1)) (Operand.tmp 15) 48, type := 39, pos := "ref.go:131", after := #[{ on := 2, ground := Ground.data }], guard := none }).run Tryd.prog (wr) = .ok (.value (.int .u64 (z : Int))) (wr) := by
    have kc : ∀ v, a0_5.eval (.const v) = v := fun _ => rfl
    have e15 := (show a0_5.eval (.tmp 15) = .int .u64 (m : Int) from (fa0_5.at_ 15))
    clear fa0_5 hQ h5 h6 ht hA hm
    generalize a0_5.eval = ρ at *
    go_simp
  refine fa0_5.step 16 (.int .u64 (z : Int)) rfl (lb_ I0.size) (wanted_none rfl) r_a0_6 (fun a0_6 fa0_6 => ?_)
  clear r_a0_6
  clear fa0_5
  have r_a0_7 : (execOp a0_6.eval { dst := some 17, op := Op.binOp BinOp.add 39 (Operand.tmp 13) (Operand.tmp 16) 39, type := 39, pos := "ref.go:131", after := #[{ on := 0, ground := Ground.data }, { on := 3, ground := Ground.data }], guard := none }).run Tryd.prog (wr) = .ok (.value (.int .u64 (t : Int))) (wr) := by
    have e13 := (show a0_6.eval (.tmp 13) = .int .u64 (x : Int) from (fa0_6.at_ 13))
    have e16 := (show a0_6.eval (.tmp 16) = .int .u64 (z : Int) from (fa0_6.at_ 16))
    clear fa0_6 hQ h5 h6 ht hA hm
    generalize a0_6.eval = ρ at *
    go_simp
  refine fa0_6.step 17 (.int .u64 (t : Int)) rfl (lb_ I0.size) (wanted_none rfl) r_a0_7 (fun a0_7 fa0_7 => ?_)
  clear r_a0_7
  clear fa0_6
  refine fa0_7.move 7 (.int .u64 (t : Int)) _ (Or.inr rfl) rfl (lb_ I0.size) (wanted_none rfl) (fa0_7.at_ 17) (fun a0_8 fa0_8 => ?_)
  clear fa0_7
  refine wpList_nil ?_
  change Code.wp _ _ _ _ _
  refine wp_seq ?_
  refine wp_region_list ?_
  unfold rRE6
  refine fa0_8.move 18 (.int .u64 (t : Int)) _ (Or.inl rfl) rfl (lb_ I0.size) (wanted_none rfl) (fa0_8.at_ 7) (fun a0_9 fa0_9 => ?_)
  clear fa0_8
  have r_a0_10 : (execOp a0_9.eval { dst := some 19, op := Op.call { callee := Callee.value (Operand.func 20), args := #[Operand.tmp 18], argTypes := #[39] }, type := 36, pos := "ref.go:132", after := #[{ on := 0, ground := Ground.data }], guard := none }).run Tryd.prog (wr) = .ok (.enter 20 #[.int .u64 (t : Int)]) (wr) := by
    have kf : ∀ f, a0_9.eval (.func f) = .func (.func f) #[] #[] := fun _ => rfl
    have e18 := (show a0_9.eval (.tmp 18) = .int .u64 (t : Int) from (fa0_9.at_ 18))
    clear fa0_9 hQ h5 h6 ht hA hm
    generalize a0_9.eval = ρ at *
    go_simp
  refine fa0_9.call 19 rfl (lb_ I0.size) (wanted_none rfl) r_a0_10 (parts_calls (x := t) wr tl) (fun e W1 hR => ?_)
  obtain ⟨g1, c1, rfl, r1, l1, s1⟩ := hR
  clear r_a0_10
  refine ⟨_, rfl, fun a0_10 fa0_10 => ?_⟩
  clear fa0_9
  refine fa0_10.move 20 (.int .u64 (t : Int)) _ (Or.inl rfl) rfl (lb_ I0.size) (wanted_none rfl) (fa0_10.at_ 7) (fun a0_11 fa0_11 => ?_)
  clear fa0_10
  have r_a0_12 : (execOp a0_11.eval { dst := some 21, op := Op.call { callee := Callee.value (Operand.func 20), args := #[Operand.tmp 20], argTypes := #[39] }, type := 36, pos := "ref.go:132", after := #[{ on := 2, ground := Ground.data }, { on := 1, ground := Ground.chain }], guard := none }).run Tryd.prog (W1) = .ok (.enter 20 #[.int .u64 (t : Int)]) (W1) := by
    have kf : ∀ f, a0_11.eval (.func f) = .func (.func f) #[] #[] := fun _ => rfl
    have e20 := (show a0_11.eval (.tmp 20) = .int .u64 (t : Int) from (fa0_11.at_ 20))
    clear fa0_11 hQ h5 h6 ht hA hm
    generalize a0_11.eval = ρ at *
    go_simp
  refine fa0_11.call 21 rfl (lb_ I0.size) (wanted_none rfl) r_a0_12 (parts_calls (x := t) W1 tl) (fun e W2 hR => ?_)
  obtain ⟨g2, c2, rfl, r2, l2, s2⟩ := hR
  clear r_a0_12
  refine ⟨_, rfl, fun a0_12 fa0_12 => ?_⟩
  clear fa0_11
  have r_a0_13 : (execOp a0_12.eval { dst := some 22, op := Op.call { callee := Callee.value (Operand.func 19), args := #[Operand.tmp 19, Operand.tmp 21], argTypes := #[36, 36] }, type := 36, pos := "ref.go:132", after := #[{ on := 1, ground := Ground.data }, { on := 3, ground := Ground.data }, { on := 3, ground := Ground.chain }], guard := none }).run Tryd.prog (W2) = .ok (.enter 19 #[.slice (some ⟨g1, 0, none⟩) 2 c1, .slice (some ⟨g2, 0, none⟩) 2 c2]) (W2) := by
    have kf : ∀ f, a0_12.eval (.func f) = .func (.func f) #[] #[] := fun _ => rfl
    have e19 := (show a0_12.eval (.tmp 19) = .slice (some ⟨g1, 0, none⟩) 2 c1 from (fa0_12.at_ 19))
    have e21 := (show a0_12.eval (.tmp 21) = .slice (some ⟨g2, 0, none⟩) 2 c2 from (fa0_12.at_ 21))
    clear fa0_12 hQ h5 h6 ht hA hm
    generalize a0_12.eval = ρ at *
    go_simp
  refine fa0_12.call 22 rfl (lb_ I0.size) (wanted_none rfl) r_a0_13 (wide_n (na := 2) (nb := 2) (la := partsN t) (lb := partsN t) W2 rfl rfl (by decide) (r1.same s2) r2) (fun e W3 hR => ?_)
  obtain ⟨g3, c3, rfl, r3, l3, s3⟩ := hR
  clear r_a0_13
  refine ⟨_, rfl, fun a0_13 fa0_13 => ?_⟩
  clear fa0_12
  refine fa0_13.move 8 (.slice (some ⟨g3, 0, none⟩) 4 c3) _ (Or.inr rfl) rfl (lb_ I0.size) (wanted_none rfl) (fa0_13.at_ 22) (fun a0_14 fa0_14 => ?_)
  clear fa0_13
  refine wpList_nil ?_
  change Code.wp _ _ _ _ _
  refine wp_seq (wp_seq ?_)
  refine wp_region_list ?_
  unfold rRE7
  refine fa0_14.move 23 (.int .i64 (q : Int)) _ (Or.inl rfl) rfl (lb_ I0.size) (wanted_none rfl) ((fa0_14.at_ 1).trans I0.s1) (fun a0_15 fa0_15 => ?_)
  clear fa0_14
  have r_a0_16 : (execOp a0_15.eval { dst := some 24, op := Op.binOp BinOp.eql 3 (Operand.tmp 23) (Operand.const (Value.int IntKind.i64 3)) 3, type := 4, pos := "ref.go:133", after := #[{ on := 0, ground := Ground.data }], guard := none }).run Tryd.prog (W3) = .ok (.value (.bool true)) (W3) := by
    have kc : ∀ v, a0_15.eval (.const v) = v := fun _ => rfl
    have e23 := (show a0_15.eval (.tmp 23) = .int .i64 (q : Int) from (fa0_15.at_ 23))
    clear fa0_15 hQ h5 h6 ht hA hm r1 r2 r3 s1 s2 s3 l1 l2 l3
    generalize a0_15.eval = ρ at *
    go_simp
  refine fa0_15.step 24 (.bool true) rfl (lb_ I0.size) (wanted_none rfl) r_a0_16 (fun a0_16 fa0_16 => ?_)
  clear r_a0_16
  clear fa0_15
  refine wpList_nil ?_
  change Code.wp _ _ _ _ _
  refine wp_cond_true (show a0_16.eval (.tmp 24) = .bool true from (fa0_16.at_ 24)) ?_
  change Code.wp _ _ _ _ _
  refine wp_region_list ?_
  unfold rRE8
  refine fa0_16.move 25 (.slice (some ⟨g3, 0, none⟩) 4 c3) _ (Or.inl rfl) rfl (lb_ I0.size) (wanted_none rfl) (fa0_16.at_ 8) (fun a0_17 fa0_17 => ?_)
  clear fa0_16
  refine fa0_17.move 26 (.int .u64 (t : Int)) _ (Or.inl rfl) rfl (lb_ I0.size) (wanted_none rfl) (fa0_17.at_ 7) (fun a0_18 fa0_18 => ?_)
  clear fa0_17
  have r_a0_19 : (execOp a0_18.eval { dst := some 27, op := Op.call { callee := Callee.value (Operand.func 20), args := #[Operand.tmp 26], argTypes := #[39] }, type := 36, pos := "ref.go:134", after := #[{ on := 1, ground := Ground.data }], guard := none }).run Tryd.prog (W3) = .ok (.enter 20 #[.int .u64 (t : Int)]) (W3) := by
    have kf : ∀ f, a0_18.eval (.func f) = .func (.func f) #[] #[] := fun _ => rfl
    have e26 := (show a0_18.eval (.tmp 26) = .int .u64 (t : Int) from (fa0_18.at_ 26))
    clear fa0_18 hQ h5 h6 ht hA hm r1 r2 r3 s1 s2 s3 l1 l2 l3
    generalize a0_18.eval = ρ at *
    go_simp
  refine fa0_18.call 27 rfl (lb_ I0.size) (wanted_none rfl) r_a0_19 (parts_calls (x := t) W3 tl) (fun e W4 hR => ?_)
  obtain ⟨g4, c4, rfl, r4, l4, s4⟩ := hR
  clear r_a0_19
  refine ⟨_, rfl, fun a0_19 fa0_19 => ?_⟩
  clear fa0_18
  have r_a0_20 : (execOp a0_19.eval { dst := some 28, op := Op.call { callee := Callee.value (Operand.func 19), args := #[Operand.tmp 25, Operand.tmp 27], argTypes := #[36, 36] }, type := 36, pos := "ref.go:134", after := #[{ on := 0, ground := Ground.data }, { on := 2, ground := Ground.data }, { on := 2, ground := Ground.chain }], guard := none }).run Tryd.prog (W4) = .ok (.enter 19 #[.slice (some ⟨g3, 0, none⟩) 4 c3, .slice (some ⟨g4, 0, none⟩) 2 c4]) (W4) := by
    have kf : ∀ f, a0_19.eval (.func f) = .func (.func f) #[] #[] := fun _ => rfl
    have e25 := (show a0_19.eval (.tmp 25) = .slice (some ⟨g3, 0, none⟩) 4 c3 from (fa0_19.at_ 25))
    have e27 := (show a0_19.eval (.tmp 27) = .slice (some ⟨g4, 0, none⟩) 2 c4 from (fa0_19.at_ 27))
    clear fa0_19 hQ h5 h6 ht hA hm r1 r2 r3 s1 s2 s3 l1 l2 l3
    generalize a0_19.eval = ρ at *
    go_simp
  refine fa0_19.call 28 rfl (lb_ I0.size) (wanted_none rfl) r_a0_20 (wide_n (na := 4) (nb := 2) (la := wideN (partsN t) (partsN t)) (lb := partsN t) W4 (by rw [wideN_len]; rfl) rfl (by decide) (r3.same s4) r4) (fun e W5 hR => ?_)
  obtain ⟨g5, c5, rfl, r5, l5, s5⟩ := hR
  clear r_a0_20
  refine ⟨_, rfl, fun a0_20 fa0_20 => ?_⟩
  clear fa0_19
  refine fa0_20.move 8 (.slice (some ⟨g5, 0, none⟩) 6 c5) _ (Or.inr rfl) rfl (lb_ I0.size) (wanted_none rfl) (fa0_20.at_ 28) (fun a0_21 fa0_21 => ?_)
  clear fa0_20
  refine wpList_nil ?_
  change Code.wp _ _ _ _ _
  refine wp_seq ?_
  have hab := above_n (lc := c5) (p := p) (n := q) (k := 6) W5 (by rw [wideN_len, wideN_len]; rfl) (by decide) r5 hA
  refine wp_region_list ?_
  unfold rRE9
  refine fa0_21.move 29 (.slice (some ⟨g5, 0, none⟩) 6 c5) _ (Or.inl rfl) rfl (lb_ I0.size) (wanted_none rfl) (fa0_21.at_ 8) (fun a0_22 fa0_22 => ?_)
  clear fa0_21
  refine fa0_22.move 30 (.int .u64 (p : Int)) _ (Or.inl rfl) rfl (lb_ I0.size) (wanted_none rfl) ((fa0_22.at_ 0).trans I0.s0) (fun a0_23 fa0_23 => ?_)
  clear fa0_22
  refine fa0_23.move 31 (.int .i64 (q : Int)) _ (Or.inl rfl) rfl (lb_ I0.size) (wanted_none rfl) ((fa0_23.at_ 1).trans I0.s1) (fun a0_24 fa0_24 => ?_)
  clear fa0_23
  have r_a0_25 : (execOp a0_24.eval { dst := some 32, op := Op.call { callee := Callee.value (Operand.func 21), args := #[Operand.tmp 29, Operand.tmp 30, Operand.tmp 31], argTypes := #[36, 39, 3] }, type := 4, pos := "ref.go:136", after := #[{ on := 0, ground := Ground.data }, { on := 1, ground := Ground.data }, { on := 2, ground := Ground.data }], guard := none }).run Tryd.prog (W5) = .ok (.enter 21 #[.slice (some ⟨g5, 0, none⟩) 6 c5, .int .u64 (p : Int), .int .i64 (q : Int)]) (W5) := by
    have kf : ∀ f, a0_24.eval (.func f) = .func (.func f) #[] #[] := fun _ => rfl
    have e29 := (show a0_24.eval (.tmp 29) = .slice (some ⟨g5, 0, none⟩) 6 c5 from (fa0_24.at_ 29))
    have e30 := (show a0_24.eval (.tmp 30) = .int .u64 (p : Int) from (fa0_24.at_ 30))
    have e31 := (show a0_24.eval (.tmp 31) = .int .i64 (q : Int) from (fa0_24.at_ 31))
    clear fa0_24 hQ h5 h6 ht hA hm r1 r2 r3 s1 s2 s3 l1 l2 l3 r4 r5 s4 s5 l4 l5
    generalize a0_24.eval = ρ at *
    go_simp
  refine fa0_24.call 32 rfl (lb_ I0.size) (wanted_none rfl) r_a0_25 (hab) (fun e w9 hR => ?_)
  obtain ⟨rfl, hw9⟩ := hR
  clear r_a0_25
  have hw9 := hw9.symm
  subst hw9
  clear hab
  refine ⟨_, rfl, fun a0_25 fa0_25 => ?_⟩
  clear fa0_24
  have r_a0_26 : (execOp a0_25.eval { dst := some 33, op := Op.unOp UnOp.not 4 (Operand.tmp 32), type := 4, pos := "ref.go:136", after := #[{ on := 3, ground := Ground.data }], guard := none }).run Tryd.prog (W5) = .ok (.value (.bool false)) (W5) := by
    have e32 := (show a0_25.eval (.tmp 32) = .bool true from (fa0_25.at_ 32))
    clear fa0_25 hQ h5 h6 ht hA hm r1 r2 r3 s1 s2 s3 l1 l2 l3 r4 r5 s4 s5 l4 l5
    generalize a0_25.eval = ρ at *
    go_simp
  refine fa0_25.step 33 (.bool false) rfl (lb_ I0.size) (wanted_none rfl) r_a0_26 (fun a0_26 fa0_26 => ?_)
  clear r_a0_26
  clear fa0_25
  refine wpList_nil ?_
  change Code.wp _ _ _ _ _
  refine wp_cond_false (show a0_26.eval (.tmp 33) = .bool false from (fa0_26.at_ 33)) (wp_skip ?_)
  change Code.wp _ _ _ _ _
  refine wp_region_list ?_
  unfold rRE4
  refine fa0_26.move 11 (.int .i64 (m : Int)) _ (Or.inl rfl) rfl (lb_ I0.size) (wanted_none rfl) ((fa0_26.at_ 6).trans h6) (fun a0_27 fa0_27 => ?_)
  clear fa0_26
  have r_a0_28 : (execOp a0_27.eval { dst := some 12, op := Op.binOp BinOp.sub 3 (Operand.tmp 11) (Operand.const (Value.int IntKind.i64 1)) 3, type := 3, pos := "ref.go:130", after := #[{ on := 0, ground := Ground.data }], guard := none }).run Tryd.prog (W5) = .ok (.value (.int .i64 ((m : Int) - 1))) (W5) := by
    have kc : ∀ v, a0_27.eval (.const v) = v := fun _ => rfl
    have e11 := (show a0_27.eval (.tmp 11) = .int .i64 (m : Int) from (fa0_27.at_ 11))
    clear fa0_27 hQ h5 h6 ht hA hm r1 r2 r3 s1 s2 s3 l1 l2 l3 r4 r5 s4 s5 l4 l5
    generalize a0_27.eval = ρ at *
    go_simp
  refine fa0_27.step 12 (.int .i64 ((m : Int) - 1)) rfl (lb_ I0.size) (wanted_none rfl) r_a0_28 (fun a0_28 fa0_28 => ?_)
  clear r_a0_28
  clear fa0_27
  refine fa0_28.move 6 (.int .i64 ((m : Int) - 1)) _ (Or.inr rfl) rfl (lb_ I0.size) (wanted_none rfl) (fa0_28.at_ 12) (fun a0_29 fa0_29 => ?_)
  clear fa0_28
  refine wpList_nil ?_
  exact hQ a0_29 W5 (I0.keep fa0_29 rfl rfl) (show a0_29.eval (.tmp 5) = .int .u64 (x : Int) from ((fa0_29.at_ 5).trans h5)) (show a0_29.eval (.tmp 6) = .int .i64 ((m : Int) - 1) from (fa0_29.at_ 6)) (s1.trans (s2.trans (s3.trans (s4.trans s5))))
set_option maxRecDepth 100000 in
set_option maxHeartbeats 1000000 in
theorem reTB {p q x m t z : Nat} {Q : Exit → Act → World → Prop} (a0 : Act) (wr : World) (I0 : IRE (.int .u64 (p : Int)) (.int .i64 (q : Int)) a0) (h5 : a0.eval (.tmp 5) = .int .u64 (x : Int)) (h6 : a0.eval (.tmp 6) = .int .i64 (m : Int)) (hm : m < 37) (hq : (q : Int) = 3) (hz : 2 ^ m % 18446744073709551616 = z) (ht : (x + z) % 18446744073709551616 = t) (hA : aboveN (wideN (wideN (partsN t) (partsN t)) (partsN t)) p q = false)
    (hQ : ∀ a W, IRE (.int .u64 (p : Int)) (.int .i64 (q : Int)) a → a.eval (.tmp 5) = .int .u64 ((t : Nat) : Int) → a.eval (.tmp 6) = .int .i64 ((m : Int) - 1) → Same wr W → Q .normal a W) : cRE1.wp Tryd.prog Q a0 wr := by
  have tl : t < 18446744073709551616 := by rw [← ht]; exact Nat.mod_lt _ (by decide)
  have w1 : IntKind.i64.wrap ((m : Int) - 1) = (m : Int) - 1 := by rw [IntKind.wrap_i64]; omega
  have w2 : IntKind.u64.wrap ((x : Int) + (z : Int)) = (t : Int) := by rw [← ht, ← Int.natCast_add]; exact m64 _
  have w3 : IntKind.u64.wrap (m : Int) = (m : Int) := by rw [IntKind.wrap_u64]; omega
  have w4 : IntKind.u64.wrap (2 ^ min m 64) = (z : Int) := by rw [Nat.min_eq_left (by omega), ← hz, show (2 : Int) ^ m = ((2 ^ m : Nat) : Int) by push_cast; rfl]; exact m64 _
  clear hz
  have fa0_0 := Fe.refl a0
  unfold cRE1
  refine wp_seq (wp_seq ?_)
  refine wp_region_list ?_
  unfold rRE3
  refine fa0_0.move 9 (.int .i64 (m : Int)) _ (Or.inl rfl) rfl (lb_ I0.size) (wanted_none rfl) ((fa0_0.at_ 6).trans h6) (fun a0_1 fa0_1 => ?_)
  clear fa0_0
  have r_a0_2 : (execOp a0_1.eval { dst := some 10, op := Op.binOp BinOp.geq 3 (Operand.tmp 9) (Operand.const (Value.int IntKind.i64 0)) 3, type := 4, pos := "ref.go:130", after := #[{ on := 0, ground := Ground.data }], guard := none }).run Tryd.prog (wr) = .ok (.value (.bool true)) (wr) := by
    have kc : ∀ v, a0_1.eval (.const v) = v := fun _ => rfl
    have e9 := (show a0_1.eval (.tmp 9) = .int .i64 (m : Int) from (fa0_1.at_ 9))
    clear fa0_1 hQ h5 h6 ht hA hm
    generalize a0_1.eval = ρ at *
    go_simp
  refine fa0_1.step 10 (.bool true) rfl (lb_ I0.size) (wanted_none rfl) r_a0_2 (fun a0_2 fa0_2 => ?_)
  clear r_a0_2
  clear fa0_1
  refine wpList_nil ?_
  change Code.wp _ _ _ _ _
  refine wp_cond_true (show a0_2.eval (.tmp 10) = .bool true from (fa0_2.at_ 10)) (wp_skip ?_)
  change Code.wp _ _ _ _ _
  refine wp_seq (wp_block (wp_seq ?_))
  refine wp_region_list ?_
  unfold rRE5
  refine fa0_2.move 13 (.int .u64 (x : Int)) _ (Or.inl rfl) rfl (lb_ I0.size) (wanted_none rfl) ((fa0_2.at_ 5).trans h5) (fun a0_3 fa0_3 => ?_)
  clear fa0_2
  refine fa0_3.move 14 (.int .i64 (m : Int)) _ (Or.inl rfl) rfl (lb_ I0.size) (wanted_none rfl) ((fa0_3.at_ 6).trans h6) (fun a0_4 fa0_4 => ?_)
  clear fa0_3
  have r_a0_5 : (execOp a0_4.eval { dst := some 15, op := Op.convert 3 48 (Operand.tmp 14), type := 48, pos := "ref.go:131", after := #[{ on := 1, ground := Ground.data }], guard := none }).run Tryd.prog (wr) = .ok (.value (.int .u64 (m : Int))) (wr) := by
    have e14 := (show a0_4.eval (.tmp 14) = .int .i64 (m : Int) from (fa0_4.at_ 14))
    clear fa0_4 hQ h5 h6 ht hA hm
    generalize a0_4.eval = ρ at *
    go_simp
  refine fa0_4.step 15 (.int .u64 (m : Int)) rfl (lb_ I0.size) (wanted_none rfl) r_a0_5 (fun a0_5 fa0_5 => ?_)
  clear r_a0_5
  clear fa0_4
  have r_a0_6 : (execOp a0_5.eval { dst := some 16, op := Op.binOp BinOp.shl 39 (Operand.const (Value.int IntKind.u64 1)) (Operand.tmp 15) 48, type := 39, pos := "ref.go:131", after := #[{ on := 2, ground := Ground.data }], guard := none }).run Tryd.prog (wr) = .ok (.value (.int .u64 (z : Int))) (wr) := by
    have kc : ∀ v, a0_5.eval (.const v) = v := fun _ => rfl
    have e15 := (show a0_5.eval (.tmp 15) = .int .u64 (m : Int) from (fa0_5.at_ 15))
    clear fa0_5 hQ h5 h6 ht hA hm
    generalize a0_5.eval = ρ at *
    go_simp
  refine fa0_5.step 16 (.int .u64 (z : Int)) rfl (lb_ I0.size) (wanted_none rfl) r_a0_6 (fun a0_6 fa0_6 => ?_)
  clear r_a0_6
  clear fa0_5
  have r_a0_7 : (execOp a0_6.eval { dst := some 17, op := Op.binOp BinOp.add 39 (Operand.tmp 13) (Operand.tmp 16) 39, type := 39, pos := "ref.go:131", after := #[{ on := 0, ground := Ground.data }, { on := 3, ground := Ground.data }], guard := none }).run Tryd.prog (wr) = .ok (.value (.int .u64 (t : Int))) (wr) := by
    have e13 := (show a0_6.eval (.tmp 13) = .int .u64 (x : Int) from (fa0_6.at_ 13))
    have e16 := (show a0_6.eval (.tmp 16) = .int .u64 (z : Int) from (fa0_6.at_ 16))
    clear fa0_6 hQ h5 h6 ht hA hm
    generalize a0_6.eval = ρ at *
    go_simp
  refine fa0_6.step 17 (.int .u64 (t : Int)) rfl (lb_ I0.size) (wanted_none rfl) r_a0_7 (fun a0_7 fa0_7 => ?_)
  clear r_a0_7
  clear fa0_6
  refine fa0_7.move 7 (.int .u64 (t : Int)) _ (Or.inr rfl) rfl (lb_ I0.size) (wanted_none rfl) (fa0_7.at_ 17) (fun a0_8 fa0_8 => ?_)
  clear fa0_7
  refine wpList_nil ?_
  change Code.wp _ _ _ _ _
  refine wp_seq ?_
  refine wp_region_list ?_
  unfold rRE6
  refine fa0_8.move 18 (.int .u64 (t : Int)) _ (Or.inl rfl) rfl (lb_ I0.size) (wanted_none rfl) (fa0_8.at_ 7) (fun a0_9 fa0_9 => ?_)
  clear fa0_8
  have r_a0_10 : (execOp a0_9.eval { dst := some 19, op := Op.call { callee := Callee.value (Operand.func 20), args := #[Operand.tmp 18], argTypes := #[39] }, type := 36, pos := "ref.go:132", after := #[{ on := 0, ground := Ground.data }], guard := none }).run Tryd.prog (wr) = .ok (.enter 20 #[.int .u64 (t : Int)]) (wr) := by
    have kf : ∀ f, a0_9.eval (.func f) = .func (.func f) #[] #[] := fun _ => rfl
    have e18 := (show a0_9.eval (.tmp 18) = .int .u64 (t : Int) from (fa0_9.at_ 18))
    clear fa0_9 hQ h5 h6 ht hA hm
    generalize a0_9.eval = ρ at *
    go_simp
  refine fa0_9.call 19 rfl (lb_ I0.size) (wanted_none rfl) r_a0_10 (parts_calls (x := t) wr tl) (fun e W1 hR => ?_)
  obtain ⟨g1, c1, rfl, r1, l1, s1⟩ := hR
  clear r_a0_10
  refine ⟨_, rfl, fun a0_10 fa0_10 => ?_⟩
  clear fa0_9
  refine fa0_10.move 20 (.int .u64 (t : Int)) _ (Or.inl rfl) rfl (lb_ I0.size) (wanted_none rfl) (fa0_10.at_ 7) (fun a0_11 fa0_11 => ?_)
  clear fa0_10
  have r_a0_12 : (execOp a0_11.eval { dst := some 21, op := Op.call { callee := Callee.value (Operand.func 20), args := #[Operand.tmp 20], argTypes := #[39] }, type := 36, pos := "ref.go:132", after := #[{ on := 2, ground := Ground.data }, { on := 1, ground := Ground.chain }], guard := none }).run Tryd.prog (W1) = .ok (.enter 20 #[.int .u64 (t : Int)]) (W1) := by
    have kf : ∀ f, a0_11.eval (.func f) = .func (.func f) #[] #[] := fun _ => rfl
    have e20 := (show a0_11.eval (.tmp 20) = .int .u64 (t : Int) from (fa0_11.at_ 20))
    clear fa0_11 hQ h5 h6 ht hA hm
    generalize a0_11.eval = ρ at *
    go_simp
  refine fa0_11.call 21 rfl (lb_ I0.size) (wanted_none rfl) r_a0_12 (parts_calls (x := t) W1 tl) (fun e W2 hR => ?_)
  obtain ⟨g2, c2, rfl, r2, l2, s2⟩ := hR
  clear r_a0_12
  refine ⟨_, rfl, fun a0_12 fa0_12 => ?_⟩
  clear fa0_11
  have r_a0_13 : (execOp a0_12.eval { dst := some 22, op := Op.call { callee := Callee.value (Operand.func 19), args := #[Operand.tmp 19, Operand.tmp 21], argTypes := #[36, 36] }, type := 36, pos := "ref.go:132", after := #[{ on := 1, ground := Ground.data }, { on := 3, ground := Ground.data }, { on := 3, ground := Ground.chain }], guard := none }).run Tryd.prog (W2) = .ok (.enter 19 #[.slice (some ⟨g1, 0, none⟩) 2 c1, .slice (some ⟨g2, 0, none⟩) 2 c2]) (W2) := by
    have kf : ∀ f, a0_12.eval (.func f) = .func (.func f) #[] #[] := fun _ => rfl
    have e19 := (show a0_12.eval (.tmp 19) = .slice (some ⟨g1, 0, none⟩) 2 c1 from (fa0_12.at_ 19))
    have e21 := (show a0_12.eval (.tmp 21) = .slice (some ⟨g2, 0, none⟩) 2 c2 from (fa0_12.at_ 21))
    clear fa0_12 hQ h5 h6 ht hA hm
    generalize a0_12.eval = ρ at *
    go_simp
  refine fa0_12.call 22 rfl (lb_ I0.size) (wanted_none rfl) r_a0_13 (wide_n (na := 2) (nb := 2) (la := partsN t) (lb := partsN t) W2 rfl rfl (by decide) (r1.same s2) r2) (fun e W3 hR => ?_)
  obtain ⟨g3, c3, rfl, r3, l3, s3⟩ := hR
  clear r_a0_13
  refine ⟨_, rfl, fun a0_13 fa0_13 => ?_⟩
  clear fa0_12
  refine fa0_13.move 8 (.slice (some ⟨g3, 0, none⟩) 4 c3) _ (Or.inr rfl) rfl (lb_ I0.size) (wanted_none rfl) (fa0_13.at_ 22) (fun a0_14 fa0_14 => ?_)
  clear fa0_13
  refine wpList_nil ?_
  change Code.wp _ _ _ _ _
  refine wp_seq (wp_seq ?_)
  refine wp_region_list ?_
  unfold rRE7
  refine fa0_14.move 23 (.int .i64 (q : Int)) _ (Or.inl rfl) rfl (lb_ I0.size) (wanted_none rfl) ((fa0_14.at_ 1).trans I0.s1) (fun a0_15 fa0_15 => ?_)
  clear fa0_14
  have r_a0_16 : (execOp a0_15.eval { dst := some 24, op := Op.binOp BinOp.eql 3 (Operand.tmp 23) (Operand.const (Value.int IntKind.i64 3)) 3, type := 4, pos := "ref.go:133", after := #[{ on := 0, ground := Ground.data }], guard := none }).run Tryd.prog (W3) = .ok (.value (.bool true)) (W3) := by
    have kc : ∀ v, a0_15.eval (.const v) = v := fun _ => rfl
    have e23 := (show a0_15.eval (.tmp 23) = .int .i64 (q : Int) from (fa0_15.at_ 23))
    clear fa0_15 hQ h5 h6 ht hA hm r1 r2 r3 s1 s2 s3 l1 l2 l3
    generalize a0_15.eval = ρ at *
    go_simp
  refine fa0_15.step 24 (.bool true) rfl (lb_ I0.size) (wanted_none rfl) r_a0_16 (fun a0_16 fa0_16 => ?_)
  clear r_a0_16
  clear fa0_15
  refine wpList_nil ?_
  change Code.wp _ _ _ _ _
  refine wp_cond_true (show a0_16.eval (.tmp 24) = .bool true from (fa0_16.at_ 24)) ?_
  change Code.wp _ _ _ _ _
  refine wp_region_list ?_
  unfold rRE8
  refine fa0_16.move 25 (.slice (some ⟨g3, 0, none⟩) 4 c3) _ (Or.inl rfl) rfl (lb_ I0.size) (wanted_none rfl) (fa0_16.at_ 8) (fun a0_17 fa0_17 => ?_)
  clear fa0_16
  refine fa0_17.move 26 (.int .u64 (t : Int)) _ (Or.inl rfl) rfl (lb_ I0.size) (wanted_none rfl) (fa0_17.at_ 7) (fun a0_18 fa0_18 => ?_)
  clear fa0_17
  have r_a0_19 : (execOp a0_18.eval { dst := some 27, op := Op.call { callee := Callee.value (Operand.func 20), args := #[Operand.tmp 26], argTypes := #[39] }, type := 36, pos := "ref.go:134", after := #[{ on := 1, ground := Ground.data }], guard := none }).run Tryd.prog (W3) = .ok (.enter 20 #[.int .u64 (t : Int)]) (W3) := by
    have kf : ∀ f, a0_18.eval (.func f) = .func (.func f) #[] #[] := fun _ => rfl
    have e26 := (show a0_18.eval (.tmp 26) = .int .u64 (t : Int) from (fa0_18.at_ 26))
    clear fa0_18 hQ h5 h6 ht hA hm r1 r2 r3 s1 s2 s3 l1 l2 l3
    generalize a0_18.eval = ρ at *
    go_simp
  refine fa0_18.call 27 rfl (lb_ I0.size) (wanted_none rfl) r_a0_19 (parts_calls (x := t) W3 tl) (fun e W4 hR => ?_)
  obtain ⟨g4, c4, rfl, r4, l4, s4⟩ := hR
  clear r_a0_19
  refine ⟨_, rfl, fun a0_19 fa0_19 => ?_⟩
  clear fa0_18
  have r_a0_20 : (execOp a0_19.eval { dst := some 28, op := Op.call { callee := Callee.value (Operand.func 19), args := #[Operand.tmp 25, Operand.tmp 27], argTypes := #[36, 36] }, type := 36, pos := "ref.go:134", after := #[{ on := 0, ground := Ground.data }, { on := 2, ground := Ground.data }, { on := 2, ground := Ground.chain }], guard := none }).run Tryd.prog (W4) = .ok (.enter 19 #[.slice (some ⟨g3, 0, none⟩) 4 c3, .slice (some ⟨g4, 0, none⟩) 2 c4]) (W4) := by
    have kf : ∀ f, a0_19.eval (.func f) = .func (.func f) #[] #[] := fun _ => rfl
    have e25 := (show a0_19.eval (.tmp 25) = .slice (some ⟨g3, 0, none⟩) 4 c3 from (fa0_19.at_ 25))
    have e27 := (show a0_19.eval (.tmp 27) = .slice (some ⟨g4, 0, none⟩) 2 c4 from (fa0_19.at_ 27))
    clear fa0_19 hQ h5 h6 ht hA hm r1 r2 r3 s1 s2 s3 l1 l2 l3
    generalize a0_19.eval = ρ at *
    go_simp
  refine fa0_19.call 28 rfl (lb_ I0.size) (wanted_none rfl) r_a0_20 (wide_n (na := 4) (nb := 2) (la := wideN (partsN t) (partsN t)) (lb := partsN t) W4 (by rw [wideN_len]; rfl) rfl (by decide) (r3.same s4) r4) (fun e W5 hR => ?_)
  obtain ⟨g5, c5, rfl, r5, l5, s5⟩ := hR
  clear r_a0_20
  refine ⟨_, rfl, fun a0_20 fa0_20 => ?_⟩
  clear fa0_19
  refine fa0_20.move 8 (.slice (some ⟨g5, 0, none⟩) 6 c5) _ (Or.inr rfl) rfl (lb_ I0.size) (wanted_none rfl) (fa0_20.at_ 28) (fun a0_21 fa0_21 => ?_)
  clear fa0_20
  refine wpList_nil ?_
  change Code.wp _ _ _ _ _
  refine wp_seq ?_
  have hab := above_n (lc := c5) (p := p) (n := q) (k := 6) W5 (by rw [wideN_len, wideN_len]; rfl) (by decide) r5 hA
  refine wp_region_list ?_
  unfold rRE9
  refine fa0_21.move 29 (.slice (some ⟨g5, 0, none⟩) 6 c5) _ (Or.inl rfl) rfl (lb_ I0.size) (wanted_none rfl) (fa0_21.at_ 8) (fun a0_22 fa0_22 => ?_)
  clear fa0_21
  refine fa0_22.move 30 (.int .u64 (p : Int)) _ (Or.inl rfl) rfl (lb_ I0.size) (wanted_none rfl) ((fa0_22.at_ 0).trans I0.s0) (fun a0_23 fa0_23 => ?_)
  clear fa0_22
  refine fa0_23.move 31 (.int .i64 (q : Int)) _ (Or.inl rfl) rfl (lb_ I0.size) (wanted_none rfl) ((fa0_23.at_ 1).trans I0.s1) (fun a0_24 fa0_24 => ?_)
  clear fa0_23
  have r_a0_25 : (execOp a0_24.eval { dst := some 32, op := Op.call { callee := Callee.value (Operand.func 21), args := #[Operand.tmp 29, Operand.tmp 30, Operand.tmp 31], argTypes := #[36, 39, 3] }, type := 4, pos := "ref.go:136", after := #[{ on := 0, ground := Ground.data }, { on := 1, ground := Ground.data }, { on := 2, ground := Ground.data }], guard := none }).run Tryd.prog (W5) = .ok (.enter 21 #[.slice (some ⟨g5, 0, none⟩) 6 c5, .int .u64 (p : Int), .int .i64 (q : Int)]) (W5) := by
    have kf : ∀ f, a0_24.eval (.func f) = .func (.func f) #[] #[] := fun _ => rfl
    have e29 := (show a0_24.eval (.tmp 29) = .slice (some ⟨g5, 0, none⟩) 6 c5 from (fa0_24.at_ 29))
    have e30 := (show a0_24.eval (.tmp 30) = .int .u64 (p : Int) from (fa0_24.at_ 30))
    have e31 := (show a0_24.eval (.tmp 31) = .int .i64 (q : Int) from (fa0_24.at_ 31))
    clear fa0_24 hQ h5 h6 ht hA hm r1 r2 r3 s1 s2 s3 l1 l2 l3 r4 r5 s4 s5 l4 l5
    generalize a0_24.eval = ρ at *
    go_simp
  refine fa0_24.call 32 rfl (lb_ I0.size) (wanted_none rfl) r_a0_25 (hab) (fun e w9 hR => ?_)
  obtain ⟨rfl, hw9⟩ := hR
  clear r_a0_25
  have hw9 := hw9.symm
  subst hw9
  clear hab
  refine ⟨_, rfl, fun a0_25 fa0_25 => ?_⟩
  clear fa0_24
  have r_a0_26 : (execOp a0_25.eval { dst := some 33, op := Op.unOp UnOp.not 4 (Operand.tmp 32), type := 4, pos := "ref.go:136", after := #[{ on := 3, ground := Ground.data }], guard := none }).run Tryd.prog (W5) = .ok (.value (.bool true)) (W5) := by
    have e32 := (show a0_25.eval (.tmp 32) = .bool false from (fa0_25.at_ 32))
    clear fa0_25 hQ h5 h6 ht hA hm r1 r2 r3 s1 s2 s3 l1 l2 l3 r4 r5 s4 s5 l4 l5
    generalize a0_25.eval = ρ at *
    go_simp
  refine fa0_25.step 33 (.bool true) rfl (lb_ I0.size) (wanted_none rfl) r_a0_26 (fun a0_26 fa0_26 => ?_)
  clear r_a0_26
  clear fa0_25
  refine wpList_nil ?_
  change Code.wp _ _ _ _ _
  refine wp_cond_true (show a0_26.eval (.tmp 33) = .bool true from (fa0_26.at_ 33)) ?_
  change Code.wp _ _ _ _ _
  refine wp_region_list ?_
  unfold rRE10
  refine fa0_26.move 34 (.int .u64 (t : Int)) _ (Or.inl rfl) rfl (lb_ I0.size) (wanted_none rfl) (fa0_26.at_ 7) (fun a0_27 fa0_27 => ?_)
  clear fa0_26
  refine fa0_27.move 5 (.int .u64 (t : Int)) _ (Or.inr rfl) rfl (lb_ I0.size) (wanted_none rfl) (fa0_27.at_ 34) (fun a0_28 fa0_28 => ?_)
  clear fa0_27
  refine wpList_nil ?_
  change Code.wp _ _ _ _ _
  refine wp_region_list ?_
  unfold rRE4
  refine fa0_28.move 11 (.int .i64 (m : Int)) _ (Or.inl rfl) rfl (lb_ I0.size) (wanted_none rfl) ((fa0_28.at_ 6).trans h6) (fun a0_29 fa0_29 => ?_)
  clear fa0_28
  have r_a0_30 : (execOp a0_29.eval { dst := some 12, op := Op.binOp BinOp.sub 3 (Operand.tmp 11) (Operand.const (Value.int IntKind.i64 1)) 3, type := 3, pos := "ref.go:130", after := #[{ on := 0, ground := Ground.data }], guard := none }).run Tryd.prog (W5) = .ok (.value (.int .i64 ((m : Int) - 1))) (W5) := by
    have kc : ∀ v, a0_29.eval (.const v) = v := fun _ => rfl
    have e11 := (show a0_29.eval (.tmp 11) = .int .i64 (m : Int) from (fa0_29.at_ 11))
    clear fa0_29 hQ h5 h6 ht hA hm r1 r2 r3 s1 s2 s3 l1 l2 l3 r4 r5 s4 s5 l4 l5
    generalize a0_29.eval = ρ at *
    go_simp
  refine fa0_29.step 12 (.int .i64 ((m : Int) - 1)) rfl (lb_ I0.size) (wanted_none rfl) r_a0_30 (fun a0_30 fa0_30 => ?_)
  clear r_a0_30
  clear fa0_29
  refine fa0_30.move 6 (.int .i64 ((m : Int) - 1)) _ (Or.inr rfl) rfl (lb_ I0.size) (wanted_none rfl) (fa0_30.at_ 12) (fun a0_31 fa0_31 => ?_)
  clear fa0_30
  refine wpList_nil ?_
  exact hQ a0_31 W5 (I0.keep fa0_31 rfl rfl) (show a0_31.eval (.tmp 5) = .int .u64 (t : Int) from (fa0_31.at_ 5)) (show a0_31.eval (.tmp 6) = .int .i64 ((m : Int) - 1) from (fa0_31.at_ 6)) (s1.trans (s2.trans (s3.trans (s4.trans s5))))
set_option maxRecDepth 100000 in
set_option maxHeartbeats 1000000 in
theorem reNA {p q x m t z : Nat} {Q : Exit → Act → World → Prop} (a0 : Act) (wr : World) (I0 : IRE (.int .u64 (p : Int)) (.int .i64 (q : Int)) a0) (h5 : a0.eval (.tmp 5) = .int .u64 (x : Int)) (h6 : a0.eval (.tmp 6) = .int .i64 (m : Int)) (hm : m < 37) (hq : ¬ (q : Int) = 3) (hz : 2 ^ m % 18446744073709551616 = z) (ht : (x + z) % 18446744073709551616 = t) (hA : aboveN (wideN (partsN t) (partsN t)) p q = true)
    (hQ : ∀ a W, IRE (.int .u64 (p : Int)) (.int .i64 (q : Int)) a → a.eval (.tmp 5) = .int .u64 ((x : Nat) : Int) → a.eval (.tmp 6) = .int .i64 ((m : Int) - 1) → Same wr W → Q .normal a W) : cRE1.wp Tryd.prog Q a0 wr := by
  have tl : t < 18446744073709551616 := by rw [← ht]; exact Nat.mod_lt _ (by decide)
  have w1 : IntKind.i64.wrap ((m : Int) - 1) = (m : Int) - 1 := by rw [IntKind.wrap_i64]; omega
  have w2 : IntKind.u64.wrap ((x : Int) + (z : Int)) = (t : Int) := by rw [← ht, ← Int.natCast_add]; exact m64 _
  have w3 : IntKind.u64.wrap (m : Int) = (m : Int) := by rw [IntKind.wrap_u64]; omega
  have w4 : IntKind.u64.wrap (2 ^ min m 64) = (z : Int) := by rw [Nat.min_eq_left (by omega), ← hz, show (2 : Int) ^ m = ((2 ^ m : Nat) : Int) by push_cast; rfl]; exact m64 _
  clear hz
  have fa0_0 := Fe.refl a0
  unfold cRE1
  refine wp_seq (wp_seq ?_)
  refine wp_region_list ?_
  unfold rRE3
  refine fa0_0.move 9 (.int .i64 (m : Int)) _ (Or.inl rfl) rfl (lb_ I0.size) (wanted_none rfl) ((fa0_0.at_ 6).trans h6) (fun a0_1 fa0_1 => ?_)
  clear fa0_0
  have r_a0_2 : (execOp a0_1.eval { dst := some 10, op := Op.binOp BinOp.geq 3 (Operand.tmp 9) (Operand.const (Value.int IntKind.i64 0)) 3, type := 4, pos := "ref.go:130", after := #[{ on := 0, ground := Ground.data }], guard := none }).run Tryd.prog (wr) = .ok (.value (.bool true)) (wr) := by
    have kc : ∀ v, a0_1.eval (.const v) = v := fun _ => rfl
    have e9 := (show a0_1.eval (.tmp 9) = .int .i64 (m : Int) from (fa0_1.at_ 9))
    clear fa0_1 hQ h5 h6 ht hA hm
    generalize a0_1.eval = ρ at *
    go_simp
  refine fa0_1.step 10 (.bool true) rfl (lb_ I0.size) (wanted_none rfl) r_a0_2 (fun a0_2 fa0_2 => ?_)
  clear r_a0_2
  clear fa0_1
  refine wpList_nil ?_
  change Code.wp _ _ _ _ _
  refine wp_cond_true (show a0_2.eval (.tmp 10) = .bool true from (fa0_2.at_ 10)) (wp_skip ?_)
  change Code.wp _ _ _ _ _
  refine wp_seq (wp_block (wp_seq ?_))
  refine wp_region_list ?_
  unfold rRE5
  refine fa0_2.move 13 (.int .u64 (x : Int)) _ (Or.inl rfl) rfl (lb_ I0.size) (wanted_none rfl) ((fa0_2.at_ 5).trans h5) (fun a0_3 fa0_3 => ?_)
  clear fa0_2
  refine fa0_3.move 14 (.int .i64 (m : Int)) _ (Or.inl rfl) rfl (lb_ I0.size) (wanted_none rfl) ((fa0_3.at_ 6).trans h6) (fun a0_4 fa0_4 => ?_)
  clear fa0_3
  have r_a0_5 : (execOp a0_4.eval { dst := some 15, op := Op.convert 3 48 (Operand.tmp 14), type := 48, pos := "ref.go:131", after := #[{ on := 1, ground := Ground.data }], guard := none }).run Tryd.prog (wr) = .ok (.value (.int .u64 (m : Int))) (wr) := by
    have e14 := (show a0_4.eval (.tmp 14) = .int .i64 (m : Int) from (fa0_4.at_ 14))
    clear fa0_4 hQ h5 h6 ht hA hm
    generalize a0_4.eval = ρ at *
    go_simp
  refine fa0_4.step 15 (.int .u64 (m : Int)) rfl (lb_ I0.size) (wanted_none rfl) r_a0_5 (fun a0_5 fa0_5 => ?_)
  clear r_a0_5
  clear fa0_4
  have r_a0_6 : (execOp a0_5.eval { dst := some 16, op := Op.binOp BinOp.shl 39 (Operand.const (Value.int IntKind.u64 1)) (Operand.tmp 15) 48, type := 39, pos := "ref.go:131", after := #[{ on := 2, ground := Ground.data }], guard := none }).run Tryd.prog (wr) = .ok (.value (.int .u64 (z : Int))) (wr) := by
    have kc : ∀ v, a0_5.eval (.const v) = v := fun _ => rfl
    have e15 := (show a0_5.eval (.tmp 15) = .int .u64 (m : Int) from (fa0_5.at_ 15))
    clear fa0_5 hQ h5 h6 ht hA hm
    generalize a0_5.eval = ρ at *
    go_simp
  refine fa0_5.step 16 (.int .u64 (z : Int)) rfl (lb_ I0.size) (wanted_none rfl) r_a0_6 (fun a0_6 fa0_6 => ?_)
  clear r_a0_6
  clear fa0_5
  have r_a0_7 : (execOp a0_6.eval { dst := some 17, op := Op.binOp BinOp.add 39 (Operand.tmp 13) (Operand.tmp 16) 39, type := 39, pos := "ref.go:131", after := #[{ on := 0, ground := Ground.data }, { on := 3, ground := Ground.data }], guard := none }).run Tryd.prog (wr) = .ok (.value (.int .u64 (t : Int))) (wr) := by
    have e13 := (show a0_6.eval (.tmp 13) = .int .u64 (x : Int) from (fa0_6.at_ 13))
    have e16 := (show a0_6.eval (.tmp 16) = .int .u64 (z : Int) from (fa0_6.at_ 16))
    clear fa0_6 hQ h5 h6 ht hA hm
    generalize a0_6.eval = ρ at *
    go_simp
  refine fa0_6.step 17 (.int .u64 (t : Int)) rfl (lb_ I0.size) (wanted_none rfl) r_a0_7 (fun a0_7 fa0_7 => ?_)
  clear r_a0_7
  clear fa0_6
  refine fa0_7.move 7 (.int .u64 (t : Int)) _ (Or.inr rfl) rfl (lb_ I0.size) (wanted_none rfl) (fa0_7.at_ 17) (fun a0_8 fa0_8 => ?_)
  clear fa0_7
  refine wpList_nil ?_
  change Code.wp _ _ _ _ _
  refine wp_seq ?_
  refine wp_region_list ?_
  unfold rRE6
  refine fa0_8.move 18 (.int .u64 (t : Int)) _ (Or.inl rfl) rfl (lb_ I0.size) (wanted_none rfl) (fa0_8.at_ 7) (fun a0_9 fa0_9 => ?_)
  clear fa0_8
  have r_a0_10 : (execOp a0_9.eval { dst := some 19, op := Op.call { callee := Callee.value (Operand.func 20), args := #[Operand.tmp 18], argTypes := #[39] }, type := 36, pos := "ref.go:132", after := #[{ on := 0, ground := Ground.data }], guard := none }).run Tryd.prog (wr) = .ok (.enter 20 #[.int .u64 (t : Int)]) (wr) := by
    have kf : ∀ f, a0_9.eval (.func f) = .func (.func f) #[] #[] := fun _ => rfl
    have e18 := (show a0_9.eval (.tmp 18) = .int .u64 (t : Int) from (fa0_9.at_ 18))
    clear fa0_9 hQ h5 h6 ht hA hm
    generalize a0_9.eval = ρ at *
    go_simp
  refine fa0_9.call 19 rfl (lb_ I0.size) (wanted_none rfl) r_a0_10 (parts_calls (x := t) wr tl) (fun e W1 hR => ?_)
  obtain ⟨g1, c1, rfl, r1, l1, s1⟩ := hR
  clear r_a0_10
  refine ⟨_, rfl, fun a0_10 fa0_10 => ?_⟩
  clear fa0_9
  refine fa0_10.move 20 (.int .u64 (t : Int)) _ (Or.inl rfl) rfl (lb_ I0.size) (wanted_none rfl) (fa0_10.at_ 7) (fun a0_11 fa0_11 => ?_)
  clear fa0_10
  have r_a0_12 : (execOp a0_11.eval { dst := some 21, op := Op.call { callee := Callee.value (Operand.func 20), args := #[Operand.tmp 20], argTypes := #[39] }, type := 36, pos := "ref.go:132", after := #[{ on := 2, ground := Ground.data }, { on := 1, ground := Ground.chain }], guard := none }).run Tryd.prog (W1) = .ok (.enter 20 #[.int .u64 (t : Int)]) (W1) := by
    have kf : ∀ f, a0_11.eval (.func f) = .func (.func f) #[] #[] := fun _ => rfl
    have e20 := (show a0_11.eval (.tmp 20) = .int .u64 (t : Int) from (fa0_11.at_ 20))
    clear fa0_11 hQ h5 h6 ht hA hm
    generalize a0_11.eval = ρ at *
    go_simp
  refine fa0_11.call 21 rfl (lb_ I0.size) (wanted_none rfl) r_a0_12 (parts_calls (x := t) W1 tl) (fun e W2 hR => ?_)
  obtain ⟨g2, c2, rfl, r2, l2, s2⟩ := hR
  clear r_a0_12
  refine ⟨_, rfl, fun a0_12 fa0_12 => ?_⟩
  clear fa0_11
  have r_a0_13 : (execOp a0_12.eval { dst := some 22, op := Op.call { callee := Callee.value (Operand.func 19), args := #[Operand.tmp 19, Operand.tmp 21], argTypes := #[36, 36] }, type := 36, pos := "ref.go:132", after := #[{ on := 1, ground := Ground.data }, { on := 3, ground := Ground.data }, { on := 3, ground := Ground.chain }], guard := none }).run Tryd.prog (W2) = .ok (.enter 19 #[.slice (some ⟨g1, 0, none⟩) 2 c1, .slice (some ⟨g2, 0, none⟩) 2 c2]) (W2) := by
    have kf : ∀ f, a0_12.eval (.func f) = .func (.func f) #[] #[] := fun _ => rfl
    have e19 := (show a0_12.eval (.tmp 19) = .slice (some ⟨g1, 0, none⟩) 2 c1 from (fa0_12.at_ 19))
    have e21 := (show a0_12.eval (.tmp 21) = .slice (some ⟨g2, 0, none⟩) 2 c2 from (fa0_12.at_ 21))
    clear fa0_12 hQ h5 h6 ht hA hm
    generalize a0_12.eval = ρ at *
    go_simp
  refine fa0_12.call 22 rfl (lb_ I0.size) (wanted_none rfl) r_a0_13 (wide_n (na := 2) (nb := 2) (la := partsN t) (lb := partsN t) W2 rfl rfl (by decide) (r1.same s2) r2) (fun e W3 hR => ?_)
  obtain ⟨g3, c3, rfl, r3, l3, s3⟩ := hR
  clear r_a0_13
  refine ⟨_, rfl, fun a0_13 fa0_13 => ?_⟩
  clear fa0_12
  refine fa0_13.move 8 (.slice (some ⟨g3, 0, none⟩) 4 c3) _ (Or.inr rfl) rfl (lb_ I0.size) (wanted_none rfl) (fa0_13.at_ 22) (fun a0_14 fa0_14 => ?_)
  clear fa0_13
  refine wpList_nil ?_
  change Code.wp _ _ _ _ _
  refine wp_seq (wp_seq ?_)
  refine wp_region_list ?_
  unfold rRE7
  refine fa0_14.move 23 (.int .i64 (q : Int)) _ (Or.inl rfl) rfl (lb_ I0.size) (wanted_none rfl) ((fa0_14.at_ 1).trans I0.s1) (fun a0_15 fa0_15 => ?_)
  clear fa0_14
  have r_a0_16 : (execOp a0_15.eval { dst := some 24, op := Op.binOp BinOp.eql 3 (Operand.tmp 23) (Operand.const (Value.int IntKind.i64 3)) 3, type := 4, pos := "ref.go:133", after := #[{ on := 0, ground := Ground.data }], guard := none }).run Tryd.prog (W3) = .ok (.value (.bool false)) (W3) := by
    have kc : ∀ v, a0_15.eval (.const v) = v := fun _ => rfl
    have e23 := (show a0_15.eval (.tmp 23) = .int .i64 (q : Int) from (fa0_15.at_ 23))
    clear fa0_15 hQ h5 h6 ht hA hm r1 r2 r3 s1 s2 s3 l1 l2 l3
    generalize a0_15.eval = ρ at *
    go_simp
  refine fa0_15.step 24 (.bool false) rfl (lb_ I0.size) (wanted_none rfl) r_a0_16 (fun a0_16 fa0_16 => ?_)
  clear r_a0_16
  clear fa0_15
  refine wpList_nil ?_
  change Code.wp _ _ _ _ _
  refine wp_cond_false (show a0_16.eval (.tmp 24) = .bool false from (fa0_16.at_ 24)) (wp_skip ?_)
  change Code.wp _ _ _ _ _
  refine wp_seq ?_
  have hab := above_n (lc := c3) (p := p) (n := q) (k := 4) W3 (by rw [wideN_len]; rfl) (by decide) r3 hA
  refine wp_region_list ?_
  unfold rRE9
  refine fa0_16.move 29 (.slice (some ⟨g3, 0, none⟩) 4 c3) _ (Or.inl rfl) rfl (lb_ I0.size) (wanted_none rfl) (fa0_16.at_ 8) (fun a0_17 fa0_17 => ?_)
  clear fa0_16
  refine fa0_17.move 30 (.int .u64 (p : Int)) _ (Or.inl rfl) rfl (lb_ I0.size) (wanted_none rfl) ((fa0_17.at_ 0).trans I0.s0) (fun a0_18 fa0_18 => ?_)
  clear fa0_17
  refine fa0_18.move 31 (.int .i64 (q : Int)) _ (Or.inl rfl) rfl (lb_ I0.size) (wanted_none rfl) ((fa0_18.at_ 1).trans I0.s1) (fun a0_19 fa0_19 => ?_)
  clear fa0_18
  have r_a0_20 : (execOp a0_19.eval { dst := some 32, op := Op.call { callee := Callee.value (Operand.func 21), args := #[Operand.tmp 29, Operand.tmp 30, Operand.tmp 31], argTypes := #[36, 39, 3] }, type := 4, pos := "ref.go:136", after := #[{ on := 0, ground := Ground.data }, { on := 1, ground := Ground.data }, { on := 2, ground := Ground.data }], guard := none }).run Tryd.prog (W3) = .ok (.enter 21 #[.slice (some ⟨g3, 0, none⟩) 4 c3, .int .u64 (p : Int), .int .i64 (q : Int)]) (W3) := by
    have kf : ∀ f, a0_19.eval (.func f) = .func (.func f) #[] #[] := fun _ => rfl
    have e29 := (show a0_19.eval (.tmp 29) = .slice (some ⟨g3, 0, none⟩) 4 c3 from (fa0_19.at_ 29))
    have e30 := (show a0_19.eval (.tmp 30) = .int .u64 (p : Int) from (fa0_19.at_ 30))
    have e31 := (show a0_19.eval (.tmp 31) = .int .i64 (q : Int) from (fa0_19.at_ 31))
    clear fa0_19 hQ h5 h6 ht hA hm r1 r2 r3 s1 s2 s3 l1 l2 l3
    generalize a0_19.eval = ρ at *
    go_simp
  refine fa0_19.call 32 rfl (lb_ I0.size) (wanted_none rfl) r_a0_20 (hab) (fun e w9 hR => ?_)
  obtain ⟨rfl, hw9⟩ := hR
  clear r_a0_20
  have hw9 := hw9.symm
  subst hw9
  clear hab
  refine ⟨_, rfl, fun a0_20 fa0_20 => ?_⟩
  clear fa0_19
  have r_a0_21 : (execOp a0_20.eval { dst := some 33, op := Op.unOp UnOp.not 4 (Operand.tmp 32), type := 4, pos := "ref.go:136", after := #[{ on := 3, ground := Ground.data }], guard := none }).run Tryd.prog (W3) = .ok (.value (.bool false)) (W3) := by
    have e32 := (show a0_20.eval (.tmp 32) = .bool true from (fa0_20.at_ 32))
    clear fa0_20 hQ h5 h6 ht hA hm r1 r2 r3 s1 s2 s3 l1 l2 l3
    generalize a0_20.eval = ρ at *
    go_simp
  refine fa0_20.step 33 (.bool false) rfl (lb_ I0.size) (wanted_none rfl) r_a0_21 (fun a0_21 fa0_21 => ?_)
  clear r_a0_21
  clear fa0_20
  refine wpList_nil ?_
  change Code.wp _ _ _ _ _
  refine wp_cond_false (show a0_21.eval (.tmp 33) = .bool false from (fa0_21.at_ 33)) (wp_skip ?_)
  change Code.wp _ _ _ _ _
  refine wp_region_list ?_
  unfold rRE4
  refine fa0_21.move 11 (.int .i64 (m : Int)) _ (Or.inl rfl) rfl (lb_ I0.size) (wanted_none rfl) ((fa0_21.at_ 6).trans h6) (fun a0_22 fa0_22 => ?_)
  clear fa0_21
  have r_a0_23 : (execOp a0_22.eval { dst := some 12, op := Op.binOp BinOp.sub 3 (Operand.tmp 11) (Operand.const (Value.int IntKind.i64 1)) 3, type := 3, pos := "ref.go:130", after := #[{ on := 0, ground := Ground.data }], guard := none }).run Tryd.prog (W3) = .ok (.value (.int .i64 ((m : Int) - 1))) (W3) := by
    have kc : ∀ v, a0_22.eval (.const v) = v := fun _ => rfl
    have e11 := (show a0_22.eval (.tmp 11) = .int .i64 (m : Int) from (fa0_22.at_ 11))
    clear fa0_22 hQ h5 h6 ht hA hm r1 r2 r3 s1 s2 s3 l1 l2 l3
    generalize a0_22.eval = ρ at *
    go_simp
  refine fa0_22.step 12 (.int .i64 ((m : Int) - 1)) rfl (lb_ I0.size) (wanted_none rfl) r_a0_23 (fun a0_23 fa0_23 => ?_)
  clear r_a0_23
  clear fa0_22
  refine fa0_23.move 6 (.int .i64 ((m : Int) - 1)) _ (Or.inr rfl) rfl (lb_ I0.size) (wanted_none rfl) (fa0_23.at_ 12) (fun a0_24 fa0_24 => ?_)
  clear fa0_23
  refine wpList_nil ?_
  exact hQ a0_24 W3 (I0.keep fa0_24 rfl rfl) (show a0_24.eval (.tmp 5) = .int .u64 (x : Int) from ((fa0_24.at_ 5).trans h5)) (show a0_24.eval (.tmp 6) = .int .i64 ((m : Int) - 1) from (fa0_24.at_ 6)) (s1.trans (s2.trans s3))
set_option maxRecDepth 100000 in
set_option maxHeartbeats 1000000 in
theorem reNB {p q x m t z : Nat} {Q : Exit → Act → World → Prop} (a0 : Act) (wr : World) (I0 : IRE (.int .u64 (p : Int)) (.int .i64 (q : Int)) a0) (h5 : a0.eval (.tmp 5) = .int .u64 (x : Int)) (h6 : a0.eval (.tmp 6) = .int .i64 (m : Int)) (hm : m < 37) (hq : ¬ (q : Int) = 3) (hz : 2 ^ m % 18446744073709551616 = z) (ht : (x + z) % 18446744073709551616 = t) (hA : aboveN (wideN (partsN t) (partsN t)) p q = false)
    (hQ : ∀ a W, IRE (.int .u64 (p : Int)) (.int .i64 (q : Int)) a → a.eval (.tmp 5) = .int .u64 ((t : Nat) : Int) → a.eval (.tmp 6) = .int .i64 ((m : Int) - 1) → Same wr W → Q .normal a W) : cRE1.wp Tryd.prog Q a0 wr := by
  have tl : t < 18446744073709551616 := by rw [← ht]; exact Nat.mod_lt _ (by decide)
  have w1 : IntKind.i64.wrap ((m : Int) - 1) = (m : Int) - 1 := by rw [IntKind.wrap_i64]; omega
  have w2 : IntKind.u64.wrap ((x : Int) + (z : Int)) = (t : Int) := by rw [← ht, ← Int.natCast_add]; exact m64 _
  have w3 : IntKind.u64.wrap (m : Int) = (m : Int) := by rw [IntKind.wrap_u64]; omega
  have w4 : IntKind.u64.wrap (2 ^ min m 64) = (z : Int) := by rw [Nat.min_eq_left (by omega), ← hz, show (2 : Int) ^ m = ((2 ^ m : Nat) : Int) by push_cast; rfl]; exact m64 _
  clear hz
  have fa0_0 := Fe.refl a0
  unfold cRE1
  refine wp_seq (wp_seq ?_)
  refine wp_region_list ?_
  unfold rRE3
  refine fa0_0.move 9 (.int .i64 (m : Int)) _ (Or.inl rfl) rfl (lb_ I0.size) (wanted_none rfl) ((fa0_0.at_ 6).trans h6) (fun a0_1 fa0_1 => ?_)
  clear fa0_0
  have r_a0_2 : (execOp a0_1.eval { dst := some 10, op := Op.binOp BinOp.geq 3 (Operand.tmp 9) (Operand.const (Value.int IntKind.i64 0)) 3, type := 4, pos := "ref.go:130", after := #[{ on := 0, ground := Ground.data }], guard := none }).run Tryd.prog (wr) = .ok (.value (.bool true)) (wr) := by
    have kc : ∀ v, a0_1.eval (.const v) = v := fun _ => rfl
    have e9 := (show a0_1.eval (.tmp 9) = .int .i64 (m : Int) from (fa0_1.at_ 9))
    clear fa0_1 hQ h5 h6 ht hA hm
    generalize a0_1.eval = ρ at *
    go_simp
  refine fa0_1.step 10 (.bool true) rfl (lb_ I0.size) (wanted_none rfl) r_a0_2 (fun a0_2 fa0_2 => ?_)
  clear r_a0_2
  clear fa0_1
  refine wpList_nil ?_
  change Code.wp _ _ _ _ _
  refine wp_cond_true (show a0_2.eval (.tmp 10) = .bool true from (fa0_2.at_ 10)) (wp_skip ?_)
  change Code.wp _ _ _ _ _
  refine wp_seq (wp_block (wp_seq ?_))
  refine wp_region_list ?_
  unfold rRE5
  refine fa0_2.move 13 (.int .u64 (x : Int)) _ (Or.inl rfl) rfl (lb_ I0.size) (wanted_none rfl) ((fa0_2.at_ 5).trans h5) (fun a0_3 fa0_3 => ?_)
  clear fa0_2
  refine fa0_3.move 14 (.int .i64 (m : Int)) _ (Or.inl rfl) rfl (lb_ I0.size) (wanted_none rfl) ((fa0_3.at_ 6).trans h6) (fun a0_4 fa0_4 => ?_)
  clear fa0_3
  have r_a0_5 : (execOp a0_4.eval { dst := some 15, op := Op.convert 3 48 (Operand.tmp 14), type := 48, pos := "ref.go:131", after := #[{ on := 1, ground := Ground.data }], guard := none }).run Tryd.prog (wr) = .ok (.value (.int .u64 (m : Int))) (wr) := by
    have e14 := (show a0_4.eval (.tmp 14) = .int .i64 (m : Int) from (fa0_4.at_ 14))
    clear fa0_4 hQ h5 h6 ht hA hm
    generalize a0_4.eval = ρ at *
    go_simp
  refine fa0_4.step 15 (.int .u64 (m : Int)) rfl (lb_ I0.size) (wanted_none rfl) r_a0_5 (fun a0_5 fa0_5 => ?_)
  clear r_a0_5
  clear fa0_4
  have r_a0_6 : (execOp a0_5.eval { dst := some 16, op := Op.binOp BinOp.shl 39 (Operand.const (Value.int IntKind.u64 1)) (Operand.tmp 15) 48, type := 39, pos := "ref.go:131", after := #[{ on := 2, ground := Ground.data }], guard := none }).run Tryd.prog (wr) = .ok (.value (.int .u64 (z : Int))) (wr) := by
    have kc : ∀ v, a0_5.eval (.const v) = v := fun _ => rfl
    have e15 := (show a0_5.eval (.tmp 15) = .int .u64 (m : Int) from (fa0_5.at_ 15))
    clear fa0_5 hQ h5 h6 ht hA hm
    generalize a0_5.eval = ρ at *
    go_simp
  refine fa0_5.step 16 (.int .u64 (z : Int)) rfl (lb_ I0.size) (wanted_none rfl) r_a0_6 (fun a0_6 fa0_6 => ?_)
  clear r_a0_6
  clear fa0_5
  have r_a0_7 : (execOp a0_6.eval { dst := some 17, op := Op.binOp BinOp.add 39 (Operand.tmp 13) (Operand.tmp 16) 39, type := 39, pos := "ref.go:131", after := #[{ on := 0, ground := Ground.data }, { on := 3, ground := Ground.data }], guard := none }).run Tryd.prog (wr) = .ok (.value (.int .u64 (t : Int))) (wr) := by
    have e13 := (show a0_6.eval (.tmp 13) = .int .u64 (x : Int) from (fa0_6.at_ 13))
    have e16 := (show a0_6.eval (.tmp 16) = .int .u64 (z : Int) from (fa0_6.at_ 16))
    clear fa0_6 hQ h5 h6 ht hA hm
    generalize a0_6.eval = ρ at *
    go_simp
  refine fa0_6.step 17 (.int .u64 (t : Int)) rfl (lb_ I0.size) (wanted_none rfl) r_a0_7 (fun a0_7 fa0_7 => ?_)
  clear r_a0_7
  clear fa0_6
  refine fa0_7.move 7 (.int .u64 (t : Int)) _ (Or.inr rfl) rfl (lb_ I0.size) (wanted_none rfl) (fa0_7.at_ 17) (fun a0_8 fa0_8 => ?_)
  clear fa0_7
  refine wpList_nil ?_
  change Code.wp _ _ _ _ _
  refine wp_seq ?_
  refine wp_region_list ?_
  unfold rRE6
  refine fa0_8.move 18 (.int .u64 (t : Int)) _ (Or.inl rfl) rfl (lb_ I0.size) (wanted_none rfl) (fa0_8.at_ 7) (fun a0_9 fa0_9 => ?_)
  clear fa0_8
  have r_a0_10 : (execOp a0_9.eval { dst := some 19, op := Op.call { callee := Callee.value (Operand.func 20), args := #[Operand.tmp 18], argTypes := #[39] }, type := 36, pos := "ref.go:132", after := #[{ on := 0, ground := Ground.data }], guard := none }).run Tryd.prog (wr) = .ok (.enter 20 #[.int .u64 (t : Int)]) (wr) := by
    have kf : ∀ f, a0_9.eval (.func f) = .func (.func f) #[] #[] := fun _ => rfl
    have e18 := (show a0_9.eval (.tmp 18) = .int .u64 (t : Int) from (fa0_9.at_ 18))
    clear fa0_9 hQ h5 h6 ht hA hm
    generalize a0_9.eval = ρ at *
    go_simp
  refine fa0_9.call 19 rfl (lb_ I0.size) (wanted_none rfl) r_a0_10 (parts_calls (x := t) wr tl) (fun e W1 hR => ?_)
  obtain ⟨g1, c1, rfl, r1, l1, s1⟩ := hR
  clear r_a0_10
  refine ⟨_, rfl, fun a0_10 fa0_10 => ?_⟩
  clear fa0_9
  refine fa0_10.move 20 (.int .u64 (t : Int)) _ (Or.inl rfl) rfl (lb_ I0.size) (wanted_none rfl) (fa0_10.at_ 7) (fun a0_11 fa0_11 => ?_)
  clear fa0_10
  have r_a0_12 : (execOp a0_11.eval { dst := some 21, op := Op.call { callee := Callee.value (Operand.func 20), args := #[Operand.tmp 20], argTypes := #[39] }, type := 36, pos := "ref.go:132", after := #[{ on := 2, ground := Ground.data }, { on := 1, ground := Ground.chain }], guard := none }).run Tryd.prog (W1) = .ok (.enter 20 #[.int .u64 (t : Int)]) (W1) := by
    have kf : ∀ f, a0_11.eval (.func f) = .func (.func f) #[] #[] := fun _ => rfl
    have e20 := (show a0_11.eval (.tmp 20) = .int .u64 (t : Int) from (fa0_11.at_ 20))
    clear fa0_11 hQ h5 h6 ht hA hm
    generalize a0_11.eval = ρ at *
    go_simp
  refine fa0_11.call 21 rfl (lb_ I0.size) (wanted_none rfl) r_a0_12 (parts_calls (x := t) W1 tl) (fun e W2 hR => ?_)
  obtain ⟨g2, c2, rfl, r2, l2, s2⟩ := hR
  clear r_a0_12
  refine ⟨_, rfl, fun a0_12 fa0_12 => ?_⟩
  clear fa0_11
  have r_a0_13 : (execOp a0_12.eval { dst := some 22, op := Op.call { callee := Callee.value (Operand.func 19), args := #[Operand.tmp 19, Operand.tmp 21], argTypes := #[36, 36] }, type := 36, pos := "ref.go:132", after := #[{ on := 1, ground := Ground.data }, { on := 3, ground := Ground.data }, { on := 3, ground := Ground.chain }], guard := none }).run Tryd.prog (W2) = .ok (.enter 19 #[.slice (some ⟨g1, 0, none⟩) 2 c1, .slice (some ⟨g2, 0, none⟩) 2 c2]) (W2) := by
    have kf : ∀ f, a0_12.eval (.func f) = .func (.func f) #[] #[] := fun _ => rfl
    have e19 := (show a0_12.eval (.tmp 19) = .slice (some ⟨g1, 0, none⟩) 2 c1 from (fa0_12.at_ 19))
    have e21 := (show a0_12.eval (.tmp 21) = .slice (some ⟨g2, 0, none⟩) 2 c2 from (fa0_12.at_ 21))
    clear fa0_12 hQ h5 h6 ht hA hm
    generalize a0_12.eval = ρ at *
    go_simp
  refine fa0_12.call 22 rfl (lb_ I0.size) (wanted_none rfl) r_a0_13 (wide_n (na := 2) (nb := 2) (la := partsN t) (lb := partsN t) W2 rfl rfl (by decide) (r1.same s2) r2) (fun e W3 hR => ?_)
  obtain ⟨g3, c3, rfl, r3, l3, s3⟩ := hR
  clear r_a0_13
  refine ⟨_, rfl, fun a0_13 fa0_13 => ?_⟩
  clear fa0_12
  refine fa0_13.move 8 (.slice (some ⟨g3, 0, none⟩) 4 c3) _ (Or.inr rfl) rfl (lb_ I0.size) (wanted_none rfl) (fa0_13.at_ 22) (fun a0_14 fa0_14 => ?_)
  clear fa0_13
  refine wpList_nil ?_
  change Code.wp _ _ _ _ _
  refine wp_seq (wp_seq ?_)
  refine wp_region_list ?_
  unfold rRE7
  refine fa0_14.move 23 (.int .i64 (q : Int)) _ (Or.inl rfl) rfl (lb_ I0.size) (wanted_none rfl) ((fa0_14.at_ 1).trans I0.s1) (fun a0_15 fa0_15 => ?_)
  clear fa0_14
  have r_a0_16 : (execOp a0_15.eval { dst := some 24, op := Op.binOp BinOp.eql 3 (Operand.tmp 23) (Operand.const (Value.int IntKind.i64 3)) 3, type := 4, pos := "ref.go:133", after := #[{ on := 0, ground := Ground.data }], guard := none }).run Tryd.prog (W3) = .ok (.value (.bool false)) (W3) := by
    have kc : ∀ v, a0_15.eval (.const v) = v := fun _ => rfl
    have e23 := (show a0_15.eval (.tmp 23) = .int .i64 (q : Int) from (fa0_15.at_ 23))
    clear fa0_15 hQ h5 h6 ht hA hm r1 r2 r3 s1 s2 s3 l1 l2 l3
    generalize a0_15.eval = ρ at *
    go_simp
  refine fa0_15.step 24 (.bool false) rfl (lb_ I0.size) (wanted_none rfl) r_a0_16 (fun a0_16 fa0_16 => ?_)
  clear r_a0_16
  clear fa0_15
  refine wpList_nil ?_
  change Code.wp _ _ _ _ _
  refine wp_cond_false (show a0_16.eval (.tmp 24) = .bool false from (fa0_16.at_ 24)) (wp_skip ?_)
  change Code.wp _ _ _ _ _
  refine wp_seq ?_
  have hab := above_n (lc := c3) (p := p) (n := q) (k := 4) W3 (by rw [wideN_len]; rfl) (by decide) r3 hA
  refine wp_region_list ?_
  unfold rRE9
  refine fa0_16.move 29 (.slice (some ⟨g3, 0, none⟩) 4 c3) _ (Or.inl rfl) rfl (lb_ I0.size) (wanted_none rfl) (fa0_16.at_ 8) (fun a0_17 fa0_17 => ?_)
  clear fa0_16
  refine fa0_17.move 30 (.int .u64 (p : Int)) _ (Or.inl rfl) rfl (lb_ I0.size) (wanted_none rfl) ((fa0_17.at_ 0).trans I0.s0) (fun a0_18 fa0_18 => ?_)
  clear fa0_17
  refine fa0_18.move 31 (.int .i64 (q : Int)) _ (Or.inl rfl) rfl (lb_ I0.size) (wanted_none rfl) ((fa0_18.at_ 1).trans I0.s1) (fun a0_19 fa0_19 => ?_)
  clear fa0_18
  have r_a0_20 : (execOp a0_19.eval { dst := some 32, op := Op.call { callee := Callee.value (Operand.func 21), args := #[Operand.tmp 29, Operand.tmp 30, Operand.tmp 31], argTypes := #[36, 39, 3] }, type := 4, pos := "ref.go:136", after := #[{ on := 0, ground := Ground.data }, { on := 1, ground := Ground.data }, { on := 2, ground := Ground.data }], guard := none }).run Tryd.prog (W3) = .ok (.enter 21 #[.slice (some ⟨g3, 0, none⟩) 4 c3, .int .u64 (p : Int), .int .i64 (q : Int)]) (W3) := by
    have kf : ∀ f, a0_19.eval (.func f) = .func (.func f) #[] #[] := fun _ => rfl
    have e29 := (show a0_19.eval (.tmp 29) = .slice (some ⟨g3, 0, none⟩) 4 c3 from (fa0_19.at_ 29))
    have e30 := (show a0_19.eval (.tmp 30) = .int .u64 (p : Int) from (fa0_19.at_ 30))
    have e31 := (show a0_19.eval (.tmp 31) = .int .i64 (q : Int) from (fa0_19.at_ 31))
    clear fa0_19 hQ h5 h6 ht hA hm r1 r2 r3 s1 s2 s3 l1 l2 l3
    generalize a0_19.eval = ρ at *
    go_simp
  refine fa0_19.call 32 rfl (lb_ I0.size) (wanted_none rfl) r_a0_20 (hab) (fun e w9 hR => ?_)
  obtain ⟨rfl, hw9⟩ := hR
  clear r_a0_20
  have hw9 := hw9.symm
  subst hw9
  clear hab
  refine ⟨_, rfl, fun a0_20 fa0_20 => ?_⟩
  clear fa0_19
  have r_a0_21 : (execOp a0_20.eval { dst := some 33, op := Op.unOp UnOp.not 4 (Operand.tmp 32), type := 4, pos := "ref.go:136", after := #[{ on := 3, ground := Ground.data }], guard := none }).run Tryd.prog (W3) = .ok (.value (.bool true)) (W3) := by
    have e32 := (show a0_20.eval (.tmp 32) = .bool false from (fa0_20.at_ 32))
    clear fa0_20 hQ h5 h6 ht hA hm r1 r2 r3 s1 s2 s3 l1 l2 l3
    generalize a0_20.eval = ρ at *
    go_simp
  refine fa0_20.step 33 (.bool true) rfl (lb_ I0.size) (wanted_none rfl) r_a0_21 (fun a0_21 fa0_21 => ?_)
  clear r_a0_21
  clear fa0_20
  refine wpList_nil ?_
  change Code.wp _ _ _ _ _
  refine wp_cond_true (show a0_21.eval (.tmp 33) = .bool true from (fa0_21.at_ 33)) ?_
  change Code.wp _ _ _ _ _
  refine wp_region_list ?_
  unfold rRE10
  refine fa0_21.move 34 (.int .u64 (t : Int)) _ (Or.inl rfl) rfl (lb_ I0.size) (wanted_none rfl) (fa0_21.at_ 7) (fun a0_22 fa0_22 => ?_)
  clear fa0_21
  refine fa0_22.move 5 (.int .u64 (t : Int)) _ (Or.inr rfl) rfl (lb_ I0.size) (wanted_none rfl) (fa0_22.at_ 34) (fun a0_23 fa0_23 => ?_)
  clear fa0_22
  refine wpList_nil ?_
  change Code.wp _ _ _ _ _
  refine wp_region_list ?_
  unfold rRE4
  refine fa0_23.move 11 (.int .i64 (m : Int)) _ (Or.inl rfl) rfl (lb_ I0.size) (wanted_none rfl) ((fa0_23.at_ 6).trans h6) (fun a0_24 fa0_24 => ?_)
  clear fa0_23
  have r_a0_25 : (execOp a0_24.eval { dst := some 12, op := Op.binOp BinOp.sub 3 (Operand.tmp 11) (Operand.const (Value.int IntKind.i64 1)) 3, type := 3, pos := "ref.go:130", after := #[{ on := 0, ground := Ground.data }], guard := none }).run Tryd.prog (W3) = .ok (.value (.int .i64 ((m : Int) - 1))) (W3) := by
    have kc : ∀ v, a0_24.eval (.const v) = v := fun _ => rfl
    have e11 := (show a0_24.eval (.tmp 11) = .int .i64 (m : Int) from (fa0_24.at_ 11))
    clear fa0_24 hQ h5 h6 ht hA hm r1 r2 r3 s1 s2 s3 l1 l2 l3
    generalize a0_24.eval = ρ at *
    go_simp
  refine fa0_24.step 12 (.int .i64 ((m : Int) - 1)) rfl (lb_ I0.size) (wanted_none rfl) r_a0_25 (fun a0_25 fa0_25 => ?_)
  clear r_a0_25
  clear fa0_24
  refine fa0_25.move 6 (.int .i64 ((m : Int) - 1)) _ (Or.inr rfl) rfl (lb_ I0.size) (wanted_none rfl) (fa0_25.at_ 12) (fun a0_26 fa0_26 => ?_)
  clear fa0_25
  refine wpList_nil ?_
  exact hQ a0_26 W3 (I0.keep fa0_26 rfl rfl) (show a0_26.eval (.tmp 5) = .int .u64 (t : Int) from (fa0_26.at_ 5)) (show a0_26.eval (.tmp 6) = .int .i64 ((m : Int) - 1) from (fa0_26.at_ 6)) (s1.trans (s2.trans s3))
theorem reL {p q : Nat} {Q : Exit → Act → World → Prop} (a0 : Act) (w : World) (I0 : IRE (.int .u64 (p : Int)) (.int .i64 (q : Int)) a0) (h5 : a0.eval (.tmp 5) = .int .u64 ((0 : Nat) : Int)) (h6 : a0.eval (.tmp 6) = .int .i64 36) (hQ : ∀ a W, IRE (.int .u64 (p : Int)) (.int .i64 (q : Int)) a → a.eval (.tmp 5) = .int .u64 ((rootI p q 37 0 : Nat) : Int) → Same w W → Q (.exit 0) a W) : (Code.loop cRE1).wp Tryd.prog Q a0 w := by
  refine wp_loop (fun a W => IRE (.int .u64 (p : Int)) (.int .i64 (q : Int)) a ∧ Same w W ∧ ∃ m x : Nat, m ≤ 37 ∧ a.eval (.tmp 6) = .int .i64 ((m : Int) - 1) ∧ a.eval (.tmp 5) = .int .u64 (x : Int) ∧ rootI p q m x = rootI p q 37 0) (fun a _ => match a.eval (.tmp 6) with | .int _ y => (y + 1).toNat | _ => 0) ⟨I0, Fr.refl _ _, 37, 0, Nat.le_refl _, h6, h5, rfl⟩ ?_
  rintro a W ⟨I1, s1, m, x, hm, g6, g5, he⟩
  match m, hm, g6, he with
  | 0, _, g6, he => exact reE a W I1 g5 g6 (fun a' i2 j5 => hQ a' W i2 (by rw [← he]; exact j5) s1)
  | m + 1, hm, g6, he =>
    have g6' : a.eval (.tmp 6) = .int .i64 (m : Int) := by rw [g6]; congr 1; omega
    have next : ∀ (a' : Act) (W' : World) (y : Nat), tryN p q x m = y → IRE (.int .u64 (p : Int)) (.int .i64 (q : Int)) a' → a'.eval (.tmp 5) = .int .u64 (y : Int) → a'.eval (.tmp 6) = .int .i64 ((m : Int) - 1) → Same W W' → (IRE (.int .u64 (p : Int)) (.int .i64 (q : Int)) a' ∧ Same w W' ∧ ∃ m x : Nat, m ≤ 37 ∧ a'.eval (.tmp 6) = .int .i64 ((m : Int) - 1) ∧ a'.eval (.tmp 5) = .int .u64 (x : Int) ∧ rootI p q m x = rootI p q 37 0) ∧ (match a'.eval (.tmp 6) with | .int _ y => (y + 1).toNat | _ => 0) < (match a.eval (.tmp 6) with | .int _ y => (y + 1).toNat | _ => 0) := by
      intro a' W' y hy i2 j5 j6 s2
      refine ⟨⟨i2, s1.trans s2, m, y, by omega, j6, j5, by rw [← hy]; exact he⟩, ?_⟩
      rw [j6, g6']
      show ((m : Int) - 1 + 1).toNat < ((m : Int) + 1).toNat
      omega
    by_cases h3 : q = 3
    · by_cases hA : aboveN (wideN (wideN (partsN ((x + 2 ^ m % 18446744073709551616) % 18446744073709551616)) (partsN ((x + 2 ^ m % 18446744073709551616) % 18446744073709551616))) (partsN ((x + 2 ^ m % 18446744073709551616) % 18446744073709551616))) p q = true
      · exact reTA (Q := Exit.then _ Q) a W I1 g5 g6' (by omega) (by omega) rfl rfl hA (fun a' W' i2 j5 j6 s2 => next a' W' _ (by unfold tryN; simp only [if_pos h3, if_pos hA]) i2 j5 j6 s2)
      · exact reTB (Q := Exit.then _ Q) a W I1 g5 g6' (by omega) (by omega) rfl rfl (by simpa using hA) (fun a' W' i2 j5 j6 s2 => next a' W' _ (by unfold tryN; simp only [if_pos h3, if_neg hA]) i2 j5 j6 s2)
    · by_cases hA : aboveN (wideN (partsN ((x + 2 ^ m % 18446744073709551616) % 18446744073709551616)) (partsN ((x + 2 ^ m % 18446744073709551616) % 18446744073709551616))) p q = true
      · exact reNA (Q := Exit.then _ Q) a W I1 g5 g6' (by omega) (by omega) rfl rfl hA (fun a' W' i2 j5 j6 s2 => next a' W' _ (by unfold tryN; simp only [if_neg h3, if_pos hA]) i2 j5 j6 s2)
      · exact reNB (Q := Exit.then _ Q) a W I1 g5 g6' (by omega) (by omega) rfl rfl (by simpa using hA) (fun a' W' i2 j5 j6 s2 => next a' W' _ (by unfold tryN; simp only [if_neg h3, if_neg hA]) i2 j5 j6 s2)
set_option maxRecDepth 100000 in
set_option maxHeartbeats 1000000 in
theorem root_calls {p q : Nat} (w : World) :
    Calls Tryd.prog 12 #[.int .u64 (p : Int), .int .i64 (q : Int)] w fun e w' => e = .returned (.int .u32 ((rootN p q : Nat) : Int)) ∧ Same w w' := by
  refine calls_abs (c := cRE) Tryd.func12 (by kernel_rfl) 37 rfl (by simp) (fun a0 hsz hd ha => ?_)
  have fa0_0 := Fe.refl a0
  unfold cRE
  refine wp_seq ?_
  refine wp_region_list ?_
  unfold rRE0
  refine fa0_0.move 4 (.int .u32 0) _ (Or.inr rfl) rfl (lb_ hsz) (wanted_none rfl) rfl (fun a0_1 fa0_1 => ?_)
  clear fa0_0
  refine wpList_nil ?_
  change Code.wp _ _ _ _ _
  refine wp_seq ?_
  refine wp_region_list ?_
  unfold rRE1
  refine fa0_1.move 5 (.int .u64 ((0 : Nat) : Int)) _ (Or.inr rfl) rfl (lb_ hsz) (wanted_none rfl) rfl (fun a0_2 fa0_2 => ?_)
  clear fa0_1
  refine wpList_nil ?_
  change Code.wp _ _ _ _ _
  refine wp_seq (wp_seq ?_)
  refine wp_region_list ?_
  unfold rRE2
  refine fa0_2.move 6 (.int .i64 36) _ (Or.inr rfl) rfl (lb_ hsz) (wanted_none rfl) rfl (fun a0_3 fa0_3 => ?_)
  clear fa0_2
  refine wpList_nil ?_
  change Code.wp _ _ _ _ _
  refine wp_block ?_
  refine reL a0_3 w ⟨fa0_3.size.trans hsz, fa0_3.defers.trans hd, (show a0_3.eval (.tmp 0) = .int .u64 (p : Int) from ((fa0_3.at_ 0).trans (ha 0 _ rfl))), (show a0_3.eval (.tmp 1) = .int .i64 (q : Int) from ((fa0_3.at_ 1).trans (ha 1 _ rfl)))⟩ (show a0_3.eval (.tmp 5) = .int .u64 ((0 : Nat) : Int) from (fa0_3.at_ 5)) (show a0_3.eval (.tmp 6) = .int .i64 36 from (fa0_3.at_ 6)) (fun b1 W i1 j5 s1 => ?_)
  change Code.wp _ _ _ _ _
  refine wp_seq ?_
  obtain ⟨y, hy⟩ : ∃ y, y = rootI p q 37 0 := ⟨_, rfl⟩
  rw [← hy] at j5
  have hrt : rootN p q = y % 4294967296 := by unfold rootN; rw [hy]
  rw [hrt]
  obtain ⟨z, hz⟩ : ∃ z, z = y % 4294967296 := ⟨_, rfl⟩
  rw [← hz]
  have w5 : IntKind.u32.wrap (y : Int) = (z : Int) := by rw [IntKind.wrap_u32, hz]; omega
  clear hy hrt hz
  have fb1_0 := Fe.refl b1
  refine wp_region_list ?_
  unfold rRE11
  refine fb1_0.move 35 (.int .u64 (y : Int)) _ (Or.inl rfl) rfl (lb_ i1.size) (wanted_none rfl) ((fb1_0.at_ 5).trans j5) (fun b1_1 fb1_1 => ?_)
  clear fb1_0
  have r_b1_2 : (execOp b1_1.eval { dst := some 36, op := Op.convert 39 27 (Operand.tmp 35), type := 27, pos := "ref.go:140", after := #[{ on := 0, ground := Ground.data }], guard := none }).run Tryd.prog (W) = .ok (.value (.int .u32 (z : Int))) (W) := by
    have e35 := (show b1_1.eval (.tmp 35) = .int .u64 (y : Int) from (fb1_1.at_ 35))
    clear fb1_1 ha j5
    generalize b1_1.eval = ρ at *
    go_simp
  refine fb1_1.step 36 (.int .u32 (z : Int)) rfl (lb_ i1.size) (wanted_none rfl) r_b1_2 (fun b1_2 fb1_2 => ?_)
  clear r_b1_2
  clear fb1_1
  refine fb1_2.move 4 (.int .u32 (z : Int)) _ (Or.inr rfl) rfl (lb_ i1.size) (wanted_none rfl) (fb1_2.at_ 36) (fun b1_3 fb1_3 => ?_)
  clear fb1_2
  refine wpList_nil ?_
  change Code.wp _ _ _ _ _
  refine wp_ret ?_
  exact ret_abs rfl (fb1_3.defers.trans i1.defers) (show b1_3.eval (.tmp 4) = .int .u32 (z : Int) from (fb1_3.at_ 4)) ⟨rfl, s1⟩
end Go.Proofs.YtnoicjpmfchhiaaDoor
