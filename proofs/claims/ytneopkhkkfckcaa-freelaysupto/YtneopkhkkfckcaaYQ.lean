/- free: samePages of like pages. -/
import Derived.Test.YtneopkhkkfckcaaYN
namespace Go.Proofs.Ytneopkhkkfckcaa
open Go.RowKit Go.Maps

def rSP0 : Array Oper := #[{ dst := some 4, op := Op.assign (Operand.const (Value.bool false)), type := 4, pos := "law.go:91", after := #[], guard := none }]
def rSP1 : Array Oper := #[{ dst := some 6, op := Op.move (Operand.tmp 0), type := 43, pos := "law.go:92", after := #[], guard := none },
  { dst := some 7, op := Op.call { callee := Callee.builtin Builtin.len, args := #[Operand.tmp 6], argTypes := #[43] }, type := 3, pos := "law.go:92", after := #[{ on := 0, ground := Ground.data }], guard := none },
  { dst := some 8, op := Op.move (Operand.tmp 1), type := 43, pos := "law.go:92", after := #[], guard := none },
  { dst := some 9, op := Op.call { callee := Callee.builtin Builtin.len, args := #[Operand.tmp 8], argTypes := #[43] }, type := 3, pos := "law.go:92", after := #[{ on := 2, ground := Ground.data }], guard := none },
  { dst := some 10, op := Op.binOp BinOp.neq 3 (Operand.tmp 7) (Operand.tmp 9) 3, type := 4, pos := "law.go:92", after := #[{ on := 1, ground := Ground.data }, { on := 3, ground := Ground.data }], guard := none }]
def rSP2 : Array Oper := #[{ dst := some 4, op := Op.assign (Operand.const (Value.bool false)), type := 4, pos := "law.go:93", after := #[], guard := none }]
def rSP3 : Array Oper := #[{ dst := some 5, op := Op.assign (Operand.const (Value.int IntKind.i64 0)), type := 3, pos := "law.go:95", after := #[], guard := none }]
def rSP4 : Array Oper := #[{ dst := some 11, op := Op.move (Operand.tmp 5), type := 3, pos := "law.go:95", after := #[], guard := none },
  { dst := some 12, op := Op.move (Operand.tmp 0), type := 43, pos := "law.go:95", after := #[], guard := none },
  { dst := some 13, op := Op.call { callee := Callee.builtin Builtin.len, args := #[Operand.tmp 12], argTypes := #[43] }, type := 3, pos := "law.go:95", after := #[{ on := 1, ground := Ground.data }], guard := none },
  { dst := some 14, op := Op.binOp BinOp.lss 3 (Operand.tmp 11) (Operand.tmp 13) 3, type := 4, pos := "law.go:95", after := #[{ on := 0, ground := Ground.data }, { on := 2, ground := Ground.data }], guard := none }]
def rSP5 : Array Oper := #[{ dst := some 15, op := Op.move (Operand.tmp 5), type := 3, pos := "law.go:95", after := #[], guard := none },
  { dst := some 16, op := Op.binOp BinOp.add 3 (Operand.tmp 15) (Operand.const (Value.int IntKind.i64 1)) 3, type := 3, pos := "law.go:95", after := #[{ on := 0, ground := Ground.data }], guard := none },
  { dst := some 5, op := Op.assign (Operand.tmp 16), type := 3, pos := "law.go:95", after := #[{ on := 1, ground := Ground.data }, { on := 0, ground := Ground.phase }, { on := 1, ground := Ground.phase }], guard := none }]
def rSP6 : Array Oper := #[{ dst := some 17, op := Op.move (Operand.tmp 0), type := 43, pos := "law.go:96", after := #[], guard := none },
  { dst := some 18, op := Op.move (Operand.tmp 5), type := 3, pos := "law.go:96", after := #[], guard := none },
  { dst := some 19, op := Op.indexAddr 43 (Operand.tmp 17) (Operand.tmp 18), type := 0, pos := "law.go:96", after := #[{ on := 0, ground := Ground.data }, { on := 1, ground := Ground.data }], guard := none },
  { dst := some 20, op := Op.load 52 (Operand.tmp 19), type := 52, pos := "law.go:96", after := #[{ on := 2, ground := Ground.data }], guard := none },
  { dst := some 21, op := Op.move (Operand.tmp 1), type := 43, pos := "law.go:96", after := #[], guard := none },
  { dst := some 22, op := Op.move (Operand.tmp 5), type := 3, pos := "law.go:96", after := #[], guard := none },
  { dst := some 23, op := Op.indexAddr 43 (Operand.tmp 21) (Operand.tmp 22), type := 0, pos := "law.go:96", after := #[{ on := 4, ground := Ground.data }, { on := 5, ground := Ground.data }], guard := none },
  { dst := some 24, op := Op.load 52 (Operand.tmp 23), type := 52, pos := "law.go:96", after := #[{ on := 6, ground := Ground.data }], guard := none },
  { dst := some 25, op := Op.binOp BinOp.neq 52 (Operand.tmp 20) (Operand.tmp 24) 52, type := 4, pos := "law.go:96", after := #[{ on := 3, ground := Ground.data }, { on := 7, ground := Ground.data }], guard := none }]
def rSP7 : Array Oper := #[{ dst := some 4, op := Op.assign (Operand.const (Value.bool false)), type := 4, pos := "law.go:97", after := #[], guard := none }]
def rSP8 : Array Oper := #[{ dst := some 4, op := Op.assign (Operand.const (Value.bool true)), type := 4, pos := "law.go:100", after := #[], guard := none }]
def cSP1 : Code := (Code.seq (Code.seq (Code.region 4 rSP4 false) (Code.cond (Operand.tmp 14) Code.skip (Code.exit 0))) (Code.seq (Code.block 1 (Code.seq (Code.region 6 rSP6 true) (Code.cond (Operand.tmp 25) (Code.seq (Code.region 7 rSP7 false) Code.ret) Code.skip))) (Code.region 5 rSP5 false)))
def cSP : Code := (Code.seq (Code.region 0 rSP0 false) (Code.seq (Code.seq (Code.region 1 rSP1 false) (Code.cond (Operand.tmp 10) (Code.seq (Code.region 2 rSP2 false) Code.ret) Code.skip)) (Code.seq (Code.seq (Code.region 3 rSP3 false) (Code.block 0 (Code.loop cSP1))) (Code.seq (Code.region 8 rSP8 false) Code.ret))))

set_option maxRecDepth 100000 in
theorem page_neq (W : World) (no vr : Nat) (s : ByteArray) : (binOp .neq 52 (.agg #[.int .u8 3, .int .u32 (no : Int), .int .u64 (vr : Int), .string s]) (.agg #[.int .u8 3, .int .u32 (no : Int), .int .u64 (vr : Int), .string s])).run Try.prog W = .ok (.bool false) W := by
  simp [go_sem, Try.underlying52, Try.underlying50, Try.underlying24, Try.underlying40, Try.underlying9]
theorem pgCs_at {vr : Nat} {l : List Pgx} {k : Nat} {y : Pgx} (h : l[k]? = some y) : (pgCs vr l)[k * 4]? = some (.int .u8 3) ∧ (pgCs vr l)[k * 4 + 1]? = some (.int .u32 (y.1 : Int)) ∧ (pgCs vr l)[k * 4 + 2]? = some (.int .u64 (vr : Int)) ∧ (pgCs vr l)[k * 4 + 3]? = some (.string y.2) := by
  induction l generalizing k with
  | nil => simp at h
  | cons x l ih =>
    have e : pgCs vr (x :: l) = (.int .u8 3) :: (.int .u32 (x.1 : Int)) :: (.int .u64 (vr : Int)) :: (.string x.2) :: pgCs vr l := rfl
    rw [e]
    cases k with
    | zero => obtain rfl : x = y := by simpa using h
              exact ⟨rfl, rfl, rfl, rfl⟩
    | succ k =>
      rw [show (k + 1) * 4 = k * 4 + 1 + 1 + 1 + 1 from by omega]
      simp only [show k * 4 + 1 + 1 + 1 + 1 + 1 = (k * 4 + 1) + 1 + 1 + 1 + 1 from by omega, show k * 4 + 1 + 1 + 1 + 1 + 2 = (k * 4 + 2) + 1 + 1 + 1 + 1 from by omega, show k * 4 + 1 + 1 + 1 + 1 + 3 = (k * 4 + 3) + 1 + 1 + 1 + 1 from by omega, List.getElem?_cons_succ]
      exact ih (by simpa using h)
/-- Pages in a row. -/
structure PgRow (W : World) (ao : Option Addr) (g vr : Nat) (l : List Pgx) : Prop where
  place : l ≠ [] → ao = some ⟨g, 0, none⟩
  cells : ∀ (k : Nat) (y : Pgx), l[k]? = some y → W.cell? ⟨g, k * 4, none⟩ = some (.int .u8 3) ∧ W.cell? ⟨g, k * 4 + 1, none⟩ = some (.int .u32 (y.1 : Int)) ∧ W.cell? ⟨g, k * 4 + 2, none⟩ = some (.int .u64 (vr : Int)) ∧ W.cell? ⟨g, k * 4 + 3, none⟩ = some (.string y.2)
theorem PgRow.same {W W' : World} {ao : Option Addr} {g vr : Nat} {l : List Pgx} (h : PgRow W ao g vr l) (s : Same W W') : PgRow W' ao g vr l := ⟨h.place, fun k y hy => by obtain ⟨h1, h2, h3, h4⟩ := h.cells k y hy; exact ⟨s.keep h1, s.keep h2, s.keep h3, s.keep h4⟩⟩
theorem own_pgRow {W : World} {B c vr : Nat} {ao : Option Addr} {l : List Pgx} (h : W.ownsRow B 52 4 (.slice ao l.length c) l.length (pgCs vr l)) : ∃ g, PgRow W ao g vr l := by
  by_cases h0 : l = []
  · subst h0
    exact ⟨0, fun e => absurd rfl e, fun k y hy => by simp at hy⟩
  · obtain ⟨g, rfl, _⟩ := own_some (own_base h (Nat.zero_le _)) (by intro e; exact h0 (List.eq_nil_of_length_eq_zero e))
    have h1 := own_base h (Nat.zero_le _)
    refine ⟨g, fun _ => rfl, fun k y hy => ?_⟩
    obtain ⟨e1, e2, e3, e4⟩ := pgCs_at (vr := vr) hy
    exact ⟨own_cell h1 e1, own_cell h1 e2, own_cell h1 e3, own_cell h1 e4⟩
structure ISP (v0 v1 : Value) (a : Act) : Prop where
  size : a.tmps.size = 26
  defers : a.defers = []
  s0 : a.eval (.tmp 0) = v0
  s1 : a.eval (.tmp 1) = v1
theorem ISP.keep {v0 v1 : Value} {a0 a : Act} {env : List (Nat × Value)} (h : ISP v0 v1 a0) (f : Fe a0 env a) (h0 : look env 0 (a0.eval (.tmp 0)) = a0.eval (.tmp 0)) (h1 : look env 1 (a0.eval (.tmp 1)) = a0.eval (.tmp 1)) : ISP v0 v1 a :=
  ⟨f.size.trans h.size, f.defers.trans h.defers, ((f.at_ 0).trans h0).trans h.s0, ((f.at_ 1).trans h1).trans h.s1⟩
set_option maxRecDepth 100000 in
set_option maxHeartbeats 1000000 in
theorem spgR {n c1 c2 g1 g2 k no vr : Nat} {s : ByteArray} {Q : Exit → Act → World → Prop} (hQp : ∀ c (a : Act) d v w, Q (.panic c) (a.put d v) w → Q (.panic c) a w) (a0 : Act) (wr : World) (I0 : ISP (.slice (some ⟨g1, 0, none⟩) n c1) (.slice (some ⟨g2, 0, none⟩) n c2) a0) (h5 : a0.eval (.tmp 5) = .int .i64 (k : Int)) (hk : k < n) (hn : n ≤ 4000000)
    (a1 : wr.cell? ⟨g1, k * 4, none⟩ = some (.int .u8 3)) (a2 : wr.cell? ⟨g1, k * 4 + 1, none⟩ = some (.int .u32 (no : Int))) (a3 : wr.cell? ⟨g1, k * 4 + 2, none⟩ = some (.int .u64 (vr : Int))) (a4 : wr.cell? ⟨g1, k * 4 + 3, none⟩ = some (.string s))
    (b1 : wr.cell? ⟨g2, k * 4, none⟩ = some (.int .u8 3)) (b2 : wr.cell? ⟨g2, k * 4 + 1, none⟩ = some (.int .u32 (no : Int))) (b3 : wr.cell? ⟨g2, k * 4 + 2, none⟩ = some (.int .u64 (vr : Int))) (b4 : wr.cell? ⟨g2, k * 4 + 3, none⟩ = some (.string s))
    (hQ : ∀ a W, ISP (.slice (some ⟨g1, 0, none⟩) n c1) (.slice (some ⟨g2, 0, none⟩) n c2) a → a.eval (.tmp 5) = .int .i64 ((k : Int) + 1) → Same wr W → Q .normal a W) : cSP1.wp Try.prog Q a0 wr := by
  have hki : (k : Int) < (n : Int) := by omega
  have w7 : IntKind.i64.wrap ((k : Int) + 1) = (k : Int) + 1 := by rw [IntKind.wrap_i64]; omega
  have fa0_0 := Fe.refl a0
  unfold cSP1
  refine wp_seq (wp_seq ?_)
  refine wp_region_list ?_
  unfold rSP4
  refine fa0_0.move 11 (.int .i64 (k : Int)) _ (Or.inl rfl) rfl (lb_ I0.size) (wanted_none rfl) ((fa0_0.at_ 5).trans h5) (fun a0_1 fa0_1 => ?_)
  clear fa0_0
  refine fa0_1.move 12 (.slice (some ⟨g1, 0, none⟩) n c1) _ (Or.inl rfl) rfl (lb_ I0.size) (wanted_none rfl) ((fa0_1.at_ 0).trans I0.s0) (fun a0_2 fa0_2 => ?_)
  clear fa0_1
  have r_a0_3 : (execOp a0_2.eval { dst := some 13, op := Op.call { callee := Callee.builtin Builtin.len, args := #[Operand.tmp 12], argTypes := #[43] }, type := 3, pos := "law.go:95", after := #[{ on := 1, ground := Ground.data }], guard := none }).run Try.prog (wr) = .ok (.value (.int .i64 (n : Int))) (wr) := by
    have e12 := (show a0_2.eval (.tmp 12) = .slice (some ⟨g1, 0, none⟩) n c1 from (fa0_2.at_ 12))
    clear fa0_2 hQ h5
    generalize a0_2.eval = ρ at *
    go_simp
  refine fa0_2.step 13 (.int .i64 (n : Int)) rfl (lb_ I0.size) (wanted_none rfl) r_a0_3 (fun a0_3 fa0_3 => ?_)
  clear r_a0_3
  clear fa0_2
  have r_a0_4 : (execOp a0_3.eval { dst := some 14, op := Op.binOp BinOp.lss 3 (Operand.tmp 11) (Operand.tmp 13) 3, type := 4, pos := "law.go:95", after := #[{ on := 0, ground := Ground.data }, { on := 2, ground := Ground.data }], guard := none }).run Try.prog (wr) = .ok (.value (.bool true)) (wr) := by
    have e11 := (show a0_3.eval (.tmp 11) = .int .i64 (k : Int) from (fa0_3.at_ 11))
    have e13 := (show a0_3.eval (.tmp 13) = .int .i64 (n : Int) from (fa0_3.at_ 13))
    clear fa0_3 hQ h5
    generalize a0_3.eval = ρ at *
    go_simp
  refine fa0_3.step 14 (.bool true) rfl (lb_ I0.size) (wanted_none rfl) r_a0_4 (fun a0_4 fa0_4 => ?_)
  clear r_a0_4
  clear fa0_3
  refine wpList_nil ?_
  change Code.wp _ _ _ _ _
  refine wp_cond_true (show a0_4.eval (.tmp 14) = .bool true from (fa0_4.at_ 14)) (wp_skip ?_)
  change Code.wp _ _ _ _ _
  refine wp_seq (wp_block (wp_seq ?_))
  refine wp_region_held_drew (ops := rSP6) (S := fun Z => Same wr Z) (by kernel_rfl) ((Fr.refl (fun _ => False) wr).drew) (fun hS4 => ?_)
  refine fa0_4.takeMove 0 17 (.slice (some ⟨g1, 0, none⟩) n c1) _ (Or.inl rfl) rfl (by kernel_rfl) (by kernel_rfl) (by kernel_rfl) (fun _ _ _ h => hQp _ _ _ _ _ h) rfl (lb_ I0.size) (wanted_none rfl) ((fa0_4.at_ 0).trans I0.s0) hS4 (fun a0_5 fa0_5 => ?_)
  clear fa0_4
  refine fa0_5.takeMove 1 18 (.int .i64 (k : Int)) _ (Or.inl rfl) rfl (by kernel_rfl) (by kernel_rfl) (by kernel_rfl) (fun _ _ _ h => hQp _ _ _ _ _ h) rfl (lb_ I0.size) (wanted_none rfl) ((fa0_5.at_ 5).trans h5) hS4 (fun a0_6 fa0_6 => ?_)
  clear fa0_5
  have r_a0_7 : ∀ Z, (fun Z => Same wr Z) Z → (execOp a0_6.eval { dst := some 19, op := Op.indexAddr 43 (Operand.tmp 17) (Operand.tmp 18), type := 0, pos := "law.go:96", after := #[{ on := 0, ground := Ground.data }, { on := 1, ground := Ground.data }], guard := none }).run Try.prog Z = .ok (.value (.pointer (some ⟨g1, k * 4, none⟩))) Z := fun Z hZ => by
    have e17 := (show a0_6.eval (.tmp 17) = .slice (some ⟨g1, 0, none⟩) n c1 from (fa0_6.at_ 17))
    have e18 := (show a0_6.eval (.tmp 18) = .int .i64 (k : Int) from (fa0_6.at_ 18))
    clear fa0_6 hQ h5
    generalize a0_6.eval = ρ at *
    go_simp
  refine fa0_6.take 2 19 (.pointer (some ⟨g1, k * 4, none⟩)) rfl (by kernel_rfl) (by kernel_rfl) (by kernel_rfl) (fun _ _ _ h => hQp _ _ _ _ _ h) rfl (lb_ I0.size) (wanted_none rfl) r_a0_7 hS4 (fun a0_7 fa0_7 => ?_)
  clear r_a0_7
  clear fa0_6
  have r_a0_8 : ∀ Z, (fun Z => Same wr Z) Z → (execOp a0_7.eval { dst := some 20, op := Op.load 52 (Operand.tmp 19), type := 52, pos := "law.go:96", after := #[{ on := 2, ground := Ground.data }], guard := none }).run Try.prog Z = .ok (.value (.agg #[.int .u8 3, .int .u32 (no : Int), .int .u64 (vr : Int), .string s])) Z := fun Z hZ => by
    have z1 := hZ.keep a1
    have z2 := hZ.keep a2
    have z3 := hZ.keep a3
    have z4 := hZ.keep a4
    have y1 := hZ.keep b1
    have y2 := hZ.keep b2
    have y3 := hZ.keep b3
    have y4 := hZ.keep b4
    have e19 := (show a0_7.eval (.tmp 19) = .pointer (some ⟨g1, k * 4, none⟩) from (fa0_7.at_ 19))
    clear fa0_7 hQ h5
    generalize a0_7.eval = ρ at *
    go_simp
  refine fa0_7.take 3 20 (.agg #[.int .u8 3, .int .u32 (no : Int), .int .u64 (vr : Int), .string s]) rfl (by kernel_rfl) (by kernel_rfl) (by kernel_rfl) (fun _ _ _ h => hQp _ _ _ _ _ h) rfl (lb_ I0.size) (wanted_none rfl) r_a0_8 hS4 (fun a0_8 fa0_8 => ?_)
  clear r_a0_8
  clear fa0_7
  refine fa0_8.takeMove 4 21 (.slice (some ⟨g2, 0, none⟩) n c2) _ (Or.inl rfl) rfl (by kernel_rfl) (by kernel_rfl) (by kernel_rfl) (fun _ _ _ h => hQp _ _ _ _ _ h) rfl (lb_ I0.size) (wanted_none rfl) ((fa0_8.at_ 1).trans I0.s1) hS4 (fun a0_9 fa0_9 => ?_)
  clear fa0_8
  refine fa0_9.takeMove 5 22 (.int .i64 (k : Int)) _ (Or.inl rfl) rfl (by kernel_rfl) (by kernel_rfl) (by kernel_rfl) (fun _ _ _ h => hQp _ _ _ _ _ h) rfl (lb_ I0.size) (wanted_none rfl) ((fa0_9.at_ 5).trans h5) hS4 (fun a0_10 fa0_10 => ?_)
  clear fa0_9
  have r_a0_11 : ∀ Z, (fun Z => Same wr Z) Z → (execOp a0_10.eval { dst := some 23, op := Op.indexAddr 43 (Operand.tmp 21) (Operand.tmp 22), type := 0, pos := "law.go:96", after := #[{ on := 4, ground := Ground.data }, { on := 5, ground := Ground.data }], guard := none }).run Try.prog Z = .ok (.value (.pointer (some ⟨g2, k * 4, none⟩))) Z := fun Z hZ => by
    have e21 := (show a0_10.eval (.tmp 21) = .slice (some ⟨g2, 0, none⟩) n c2 from (fa0_10.at_ 21))
    have e22 := (show a0_10.eval (.tmp 22) = .int .i64 (k : Int) from (fa0_10.at_ 22))
    clear fa0_10 hQ h5
    generalize a0_10.eval = ρ at *
    go_simp
  refine fa0_10.take 6 23 (.pointer (some ⟨g2, k * 4, none⟩)) rfl (by kernel_rfl) (by kernel_rfl) (by kernel_rfl) (fun _ _ _ h => hQp _ _ _ _ _ h) rfl (lb_ I0.size) (wanted_none rfl) r_a0_11 hS4 (fun a0_11 fa0_11 => ?_)
  clear r_a0_11
  clear fa0_10
  have r_a0_12 : ∀ Z, (fun Z => Same wr Z) Z → (execOp a0_11.eval { dst := some 24, op := Op.load 52 (Operand.tmp 23), type := 52, pos := "law.go:96", after := #[{ on := 6, ground := Ground.data }], guard := none }).run Try.prog Z = .ok (.value (.agg #[.int .u8 3, .int .u32 (no : Int), .int .u64 (vr : Int), .string s])) Z := fun Z hZ => by
    have z1 := hZ.keep a1
    have z2 := hZ.keep a2
    have z3 := hZ.keep a3
    have z4 := hZ.keep a4
    have y1 := hZ.keep b1
    have y2 := hZ.keep b2
    have y3 := hZ.keep b3
    have y4 := hZ.keep b4
    have e23 := (show a0_11.eval (.tmp 23) = .pointer (some ⟨g2, k * 4, none⟩) from (fa0_11.at_ 23))
    clear fa0_11 hQ h5
    generalize a0_11.eval = ρ at *
    go_simp
  refine fa0_11.take 7 24 (.agg #[.int .u8 3, .int .u32 (no : Int), .int .u64 (vr : Int), .string s]) rfl (by kernel_rfl) (by kernel_rfl) (by kernel_rfl) (fun _ _ _ h => hQp _ _ _ _ _ h) rfl (lb_ I0.size) (wanted_none rfl) r_a0_12 hS4 (fun a0_12 fa0_12 => ?_)
  clear r_a0_12
  clear fa0_11
  have r_a0_13 : ∀ Z, (fun Z => Same wr Z) Z → (execOp a0_12.eval { dst := some 25, op := Op.binOp BinOp.neq 52 (Operand.tmp 20) (Operand.tmp 24) 52, type := 4, pos := "law.go:96", after := #[{ on := 3, ground := Ground.data }, { on := 7, ground := Ground.data }], guard := none }).run Try.prog Z = .ok (.value (.bool false)) Z := fun Z hZ => by
    have e20 := (show a0_12.eval (.tmp 20) = .agg #[.int .u8 3, .int .u32 (no : Int), .int .u64 (vr : Int), .string s] from (fa0_12.at_ 20))
    have e24 := (show a0_12.eval (.tmp 24) = .agg #[.int .u8 3, .int .u32 (no : Int), .int .u64 (vr : Int), .string s] from (fa0_12.at_ 24))
    clear fa0_12 hQ h5
    generalize a0_12.eval = ρ at *
    have pn := page_neq Z no vr s
    go_simp
  refine fa0_12.take 8 25 (.bool false) rfl (by kernel_rfl) (by kernel_rfl) (by kernel_rfl) (fun _ _ _ h => hQp _ _ _ _ _ h) rfl (lb_ I0.size) (wanted_none rfl) r_a0_13 hS4 (fun a0_13 fa0_13 => ?_)
  clear r_a0_13
  clear fa0_12
  refine wpAnyH_done (by kernel_rfl) ?_ _
  change Code.wp _ _ _ _ _
  refine wp_cond_false (show a0_13.eval (.tmp 25) = .bool false from (fa0_13.at_ 25)) (wp_skip ?_)
  change Code.wp _ _ _ _ _
  refine wp_region_list ?_
  unfold rSP5
  refine fa0_13.move 15 (.int .i64 (k : Int)) _ (Or.inl rfl) rfl (lb_ I0.size) (wanted_none rfl) ((fa0_13.at_ 5).trans h5) (fun a0_14 fa0_14 => ?_)
  clear fa0_13
  have r_a0_15 : (execOp a0_14.eval { dst := some 16, op := Op.binOp BinOp.add 3 (Operand.tmp 15) (Operand.const (Value.int IntKind.i64 1)) 3, type := 3, pos := "law.go:95", after := #[{ on := 0, ground := Ground.data }], guard := none }).run Try.prog (wr.drew) = .ok (.value (.int .i64 ((k : Int) + 1))) (wr.drew) := by
    have kc : ∀ v, a0_14.eval (.const v) = v := fun _ => rfl
    have e15 := (show a0_14.eval (.tmp 15) = .int .i64 (k : Int) from (fa0_14.at_ 15))
    clear fa0_14 hQ h5
    generalize a0_14.eval = ρ at *
    go_simp
  refine fa0_14.step 16 (.int .i64 ((k : Int) + 1)) rfl (lb_ I0.size) (wanted_none rfl) r_a0_15 (fun a0_15 fa0_15 => ?_)
  clear r_a0_15
  clear fa0_14
  refine fa0_15.move 5 (.int .i64 ((k : Int) + 1)) _ (Or.inr rfl) rfl (lb_ I0.size) (wanted_none rfl) (fa0_15.at_ 16) (fun a0_16 fa0_16 => ?_)
  clear fa0_15
  refine wpList_nil ?_
  exact hQ a0_16 _ (I0.keep fa0_16 rfl rfl) (show a0_16.eval (.tmp 5) = .int .i64 ((k : Int) + 1) from (fa0_16.at_ 5)) (Fr.refl (fun _ => False) wr).drew
set_option maxRecDepth 100000 in
theorem spgE {n c1 c2 : Nat} {x0 x1 : Option Addr} {Q : Exit → Act → World → Prop} (a0 : Act) (wr : World) (I0 : ISP (.slice x0 n c1) (.slice x1 n c2) a0) (h5 : a0.eval (.tmp 5) = .int .i64 (n : Int))
    (hQ : ∀ a, ISP (.slice x0 n c1) (.slice x1 n c2) a → Q (.exit 0) a wr) : cSP1.wp Try.prog Q a0 wr := by
  have fa0_0 := Fe.refl a0
  unfold cSP1
  refine wp_seq (wp_seq ?_)
  refine wp_region_list ?_
  unfold rSP4
  refine fa0_0.move 11 (.int .i64 (n : Int)) _ (Or.inl rfl) rfl (lb_ I0.size) (wanted_none rfl) ((fa0_0.at_ 5).trans h5) (fun a0_1 fa0_1 => ?_)
  clear fa0_0
  refine fa0_1.move 12 (.slice x0 n c1) _ (Or.inl rfl) rfl (lb_ I0.size) (wanted_none rfl) ((fa0_1.at_ 0).trans I0.s0) (fun a0_2 fa0_2 => ?_)
  clear fa0_1
  have r_a0_3 : (execOp a0_2.eval { dst := some 13, op := Op.call { callee := Callee.builtin Builtin.len, args := #[Operand.tmp 12], argTypes := #[43] }, type := 3, pos := "law.go:95", after := #[{ on := 1, ground := Ground.data }], guard := none }).run Try.prog (wr) = .ok (.value (.int .i64 (n : Int))) (wr) := by
    have e12 := (show a0_2.eval (.tmp 12) = .slice x0 n c1 from (fa0_2.at_ 12))
    clear fa0_2 hQ h5
    generalize a0_2.eval = ρ at *
    go_simp
  refine fa0_2.step 13 (.int .i64 (n : Int)) rfl (lb_ I0.size) (wanted_none rfl) r_a0_3 (fun a0_3 fa0_3 => ?_)
  clear r_a0_3
  clear fa0_2
  have r_a0_4 : (execOp a0_3.eval { dst := some 14, op := Op.binOp BinOp.lss 3 (Operand.tmp 11) (Operand.tmp 13) 3, type := 4, pos := "law.go:95", after := #[{ on := 0, ground := Ground.data }, { on := 2, ground := Ground.data }], guard := none }).run Try.prog (wr) = .ok (.value (.bool false)) (wr) := by
    have e11 := (show a0_3.eval (.tmp 11) = .int .i64 (n : Int) from (fa0_3.at_ 11))
    have e13 := (show a0_3.eval (.tmp 13) = .int .i64 (n : Int) from (fa0_3.at_ 13))
    clear fa0_3 hQ h5
    generalize a0_3.eval = ρ at *
    go_simp
  refine fa0_3.step 14 (.bool false) rfl (lb_ I0.size) (wanted_none rfl) r_a0_4 (fun a0_4 fa0_4 => ?_)
  clear r_a0_4
  clear fa0_3
  refine wpList_nil ?_
  change Code.wp _ _ _ _ _
  refine wp_cond_false (show a0_4.eval (.tmp 14) = .bool false from (fa0_4.at_ 14)) (wp_exit ?_)
  exact hQ a0_4 (I0.keep fa0_4 rfl rfl)
theorem spgL {n c1 c2 g1 g2 vr : Nat} {x0 x1 : Option Addr} {l : List Pgx} {Q : Exit → Act → World → Prop} (hQp : ∀ c (a : Act) d v w, Q (.panic c) (a.put d v) w → Q (.panic c) a w) (a0 : Act) (w : World) (I0 : ISP (.slice x0 n c1) (.slice x1 n c2) a0) (h5 : a0.eval (.tmp 5) = .int .i64 ((0 : Nat) : Int)) (p1 : PgRow w x0 g1 vr l) (p2 : PgRow w x1 g2 vr l) (hl : n = l.length) (hn : n ≤ 4000000)
    (hQ : ∀ a W, ISP (.slice x0 n c1) (.slice x1 n c2) a → Same w W → Q (.exit 0) a W) : (Code.loop cSP1).wp Try.prog Q a0 w := by
  refine wp_loop (fun a W => ISP (.slice x0 n c1) (.slice x1 n c2) a ∧ Same w W ∧ ∃ k : Nat, k ≤ n ∧ a.eval (.tmp 5) = .int .i64 (k : Int)) (fun a _ => n - kOf a 5) ⟨I0, Fr.refl _ w, 0, Nat.zero_le _, h5⟩ ?_
  rintro a W ⟨I1, s, k, hk, g5⟩
  by_cases hgo : k < n
  · obtain ⟨y, hy⟩ : ∃ y, l[k]? = some y := ⟨_, List.getElem?_eq_getElem (by rw [← hl]; exact hgo)⟩
    have hne : l ≠ [] := by intro e; rw [e] at hy; simp at hy
    obtain rfl := p1.place hne
    obtain rfl := p2.place hne
    obtain ⟨a1, a2, a3, a4⟩ := (p1.same s).cells k y hy
    obtain ⟨b1, b2, b3, b4⟩ := (p2.same s).cells k y hy
    refine spgR (Q := Exit.then _ Q) hQp a W I1 g5 hgo hn a1 a2 a3 a4 b1 b2 b3 b4 (fun a' W3 i3 h1 s3 => ?_)
    have h6 : a'.eval (.tmp 5) = .int .i64 ((k + 1 : Nat) : Int) := h1
    refine ⟨⟨i3, s.trans s3, k + 1, hgo, h6⟩, ?_⟩
    show n - kOf a' 5 < n - kOf a 5
    rw [kOf_eq h6, kOf_eq g5]
    omega
  · obtain rfl : k = n := by omega
    exact spgE a W I1 g5 (fun a' i2 => hQ a' W i2 s)
set_option maxRecDepth 100000 in
set_option maxHeartbeats 1000000 in
theorem samePg_true {n c1 c2 g1 g2 vr : Nat} {x0 x1 : Option Addr} {l : List Pgx} (w : World) (p1 : PgRow w x0 g1 vr l) (p2 : PgRow w x1 g2 vr l) (hl : n = l.length) (hn : n ≤ 4000000) :
    Calls Try.prog 17 #[.slice x0 n c1, .slice x1 n c2] w fun e w' => e = .returned (.bool true) ∧ Same w w' := by
  refine calls_abs (c := cSP) Try.func17 (by kernel_rfl) 26 rfl (by simp) (fun a0 hsz hd ha => ?_)
  have fa0_0 := Fe.refl a0
  unfold cSP
  refine wp_seq ?_
  refine wp_region_list ?_
  unfold rSP0
  refine fa0_0.move 4 (.bool false) _ (Or.inr rfl) rfl (lb_ hsz) (wanted_none rfl) rfl (fun a0_1 fa0_1 => ?_)
  clear fa0_0
  refine wpList_nil ?_
  change Code.wp _ _ _ _ _
  refine wp_seq (wp_seq ?_)
  refine wp_region_list ?_
  unfold rSP1
  refine fa0_1.move 6 (.slice x0 n c1) _ (Or.inl rfl) rfl (lb_ hsz) (wanted_none rfl) ((fa0_1.at_ 0).trans (ha 0 _ rfl)) (fun a0_2 fa0_2 => ?_)
  clear fa0_1
  have r_a0_3 : (execOp a0_2.eval { dst := some 7, op := Op.call { callee := Callee.builtin Builtin.len, args := #[Operand.tmp 6], argTypes := #[43] }, type := 3, pos := "law.go:92", after := #[{ on := 0, ground := Ground.data }], guard := none }).run Try.prog (w) = .ok (.value (.int .i64 (n : Int))) (w) := by
    have e6 := (show a0_2.eval (.tmp 6) = .slice x0 n c1 from (fa0_2.at_ 6))
    clear fa0_2 ha hl
    generalize a0_2.eval = ρ at *
    go_simp
  refine fa0_2.step 7 (.int .i64 (n : Int)) rfl (lb_ hsz) (wanted_none rfl) r_a0_3 (fun a0_3 fa0_3 => ?_)
  clear r_a0_3
  clear fa0_2
  refine fa0_3.move 8 (.slice x1 n c2) _ (Or.inl rfl) rfl (lb_ hsz) (wanted_none rfl) ((fa0_3.at_ 1).trans (ha 1 _ rfl)) (fun a0_4 fa0_4 => ?_)
  clear fa0_3
  have r_a0_5 : (execOp a0_4.eval { dst := some 9, op := Op.call { callee := Callee.builtin Builtin.len, args := #[Operand.tmp 8], argTypes := #[43] }, type := 3, pos := "law.go:92", after := #[{ on := 2, ground := Ground.data }], guard := none }).run Try.prog (w) = .ok (.value (.int .i64 (n : Int))) (w) := by
    have e8 := (show a0_4.eval (.tmp 8) = .slice x1 n c2 from (fa0_4.at_ 8))
    clear fa0_4 ha hl
    generalize a0_4.eval = ρ at *
    go_simp
  refine fa0_4.step 9 (.int .i64 (n : Int)) rfl (lb_ hsz) (wanted_none rfl) r_a0_5 (fun a0_5 fa0_5 => ?_)
  clear r_a0_5
  clear fa0_4
  have r_a0_6 : (execOp a0_5.eval { dst := some 10, op := Op.binOp BinOp.neq 3 (Operand.tmp 7) (Operand.tmp 9) 3, type := 4, pos := "law.go:92", after := #[{ on := 1, ground := Ground.data }, { on := 3, ground := Ground.data }], guard := none }).run Try.prog (w) = .ok (.value (.bool false)) (w) := by
    have e7 := (show a0_5.eval (.tmp 7) = .int .i64 (n : Int) from (fa0_5.at_ 7))
    have e9 := (show a0_5.eval (.tmp 9) = .int .i64 (n : Int) from (fa0_5.at_ 9))
    clear fa0_5 ha hl
    generalize a0_5.eval = ρ at *
    go_simp
  refine fa0_5.step 10 (.bool false) rfl (lb_ hsz) (wanted_none rfl) r_a0_6 (fun a0_6 fa0_6 => ?_)
  clear r_a0_6
  clear fa0_5
  refine wpList_nil ?_
  change Code.wp _ _ _ _ _
  refine wp_cond_false (show a0_6.eval (.tmp 10) = .bool false from (fa0_6.at_ 10)) (wp_skip ?_)
  change Code.wp _ _ _ _ _
  refine wp_seq (wp_seq ?_)
  refine wp_region_list ?_
  unfold rSP3
  refine fa0_6.move 5 (.int .i64 ((0 : Nat) : Int)) _ (Or.inr rfl) rfl (lb_ hsz) (wanted_none rfl) rfl (fun a0_7 fa0_7 => ?_)
  clear fa0_6
  refine wpList_nil ?_
  change Code.wp _ _ _ _ _
  refine wp_block ?_
  refine spgL (by intro c a d v w h; cases d <;> exact h) a0_7 w ⟨fa0_7.size.trans hsz, fa0_7.defers.trans hd, (show a0_7.eval (.tmp 0) = .slice x0 n c1 from ((fa0_7.at_ 0).trans (ha 0 _ rfl))), (show a0_7.eval (.tmp 1) = .slice x1 n c2 from ((fa0_7.at_ 1).trans (ha 1 _ rfl)))⟩ (show a0_7.eval (.tmp 5) = .int .i64 ((0 : Nat) : Int) from (fa0_7.at_ 5)) p1 p2 hl hn (fun b W i1 s => ?_)
  change Code.wp _ _ _ _ _
  refine wp_seq ?_
  have fb_0 := Fe.refl b
  refine wp_region_list ?_
  unfold rSP8
  refine fb_0.move 4 (.bool true) _ (Or.inr rfl) rfl (lb_ i1.size) (wanted_none rfl) rfl (fun b_1 fb_1 => ?_)
  clear fb_0
  refine wpList_nil ?_
  change Code.wp _ _ _ _ _
  refine wp_ret ?_
  exact ret_abs rfl (fb_1.defers.trans i1.defers) (show b_1.eval (.tmp 4) = .bool true from (fb_1.at_ 4)) ⟨rfl, s⟩
end Go.Proofs.Ytneopkhkkfckcaa
