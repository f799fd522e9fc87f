/- free: what lentChain hands out. -/
import Derived.Test.YtneopkhkkfckcaaYA
import Derived.Test.YtneopkhkkfckcaaYC
import Derived.Test.YtneopkhkkfckcaaIEJ
import Derived.Test.YtneopkhkkfckcaaEX
namespace Go.Proofs.Ytneopkhkkfckcaa
open Go.RowKit Go.Maps

def oYD0 : Oper := { dst := some 8, op := Op.call { callee := Callee.builtin Builtin.len, args := #[Operand.tmp 7], argTypes := #[22] }, type := 3, pos := "memory.go:33", after := #[{ on := 1, ground := Ground.data }], guard := none }
def oYD1 : Oper := { dst := some 9, op := Op.binOp BinOp.lss 3 (Operand.tmp 6) (Operand.tmp 8) 3, type := 4, pos := "memory.go:33", after := #[{ on := 0, ground := Ground.data }, { on := 2, ground := Ground.data }], guard := none }
def oYD2 : Oper := { dst := some 11, op := Op.binOp BinOp.add 3 (Operand.tmp 10) (Operand.const (Value.int IntKind.i64 1)) 3, type := 3, pos := "memory.go:33", after := #[{ on := 0, ground := Ground.data }], guard := none }
def oYD3 : Oper := { dst := some 15, op := Op.indexAddr 22 (Operand.tmp 13) (Operand.tmp 14), type := 0, pos := "memory.go:34", after := #[{ on := 1, ground := Ground.data }, { on := 2, ground := Ground.data }], guard := none }
def oYD4 : Oper := { dst := some 16, op := Op.fieldAddr 55 (Operand.tmp 15) 0, type := 0, pos := "memory.go:34", after := #[{ on := 3, ground := Ground.data }], guard := none }
def oYD5 : Oper := { dst := some 17, op := Op.load 24 (Operand.tmp 16), type := 24, pos := "memory.go:34", after := #[{ on := 4, ground := Ground.data }], guard := none }
def oYD6 : Oper := { dst := some 20, op := Op.indexAddr 22 (Operand.tmp 18) (Operand.tmp 19), type := 0, pos := "memory.go:34", after := #[{ on := 6, ground := Ground.data }, { on := 7, ground := Ground.data }], guard := none }
def oYD7 : Oper := { dst := some 21, op := Op.fieldAddr 55 (Operand.tmp 20) 1, type := 0, pos := "memory.go:34", after := #[{ on := 8, ground := Ground.data }], guard := none }
def oYD8 : Oper := { dst := some 22, op := Op.load 23 (Operand.tmp 21), type := 23, pos := "memory.go:34", after := #[{ on := 9, ground := Ground.data }], guard := none }
def oYD9 : Oper := { dst := some 23, op := Op.call { callee := Callee.value (Operand.func 7), args := #[Operand.tmp 22], argTypes := #[23] }, type := 23, pos := "memory.go:34", after := #[{ on := 10, ground := Ground.data }], guard := none }
def oYD10 : Oper := { dst := some 24, op := Op.build 55 #[(0, Operand.tmp 17), (1, Operand.tmp 23)], type := 55, pos := "memory.go:34", after := #[{ on := 5, ground := Ground.data }, { on := 11, ground := Ground.data }], guard := none }
def oYD11 : Oper := { dst := some 25, op := Op.buildSlice 22 1 #[(0, Operand.tmp 24)], type := 22, pos := "memory.go:34", after := #[{ on := 12, ground := Ground.data }], guard := none }
def oYD12 : Oper := { dst := some 26, op := Op.call { callee := Callee.builtin Builtin.append, args := #[Operand.tmp 12, Operand.tmp 25], argTypes := #[22, 22] }, type := 22, pos := "memory.go:34", after := #[{ on := 0, ground := Ground.data }, { on := 13, ground := Ground.data }, { on := 11, ground := Ground.chain }], guard := none }
def oYD13 : Oper := { dst := some 28, op := Op.binOp BinOp.lss 3 (Operand.tmp 27) (Operand.const (Value.int IntKind.i64 70)) 3, type := 4, pos := "memory.go:36", after := #[{ on := 0, ground := Ground.data }], guard := none }
def oYD14 : Oper := { dst := some 30, op := Op.binOp BinOp.add 3 (Operand.tmp 29) (Operand.const (Value.int IntKind.i64 1)) 3, type := 3, pos := "memory.go:36", after := #[{ on := 0, ground := Ground.data }], guard := none }
def oYD15 : Oper := { dst := some 33, op := Op.binOp BinOp.add 3 (Operand.const (Value.int IntKind.i64 800000)) (Operand.tmp 32) 3, type := 3, pos := "memory.go:37", after := #[{ on := 1, ground := Ground.data }], guard := none }
def oYD16 : Oper := { dst := some 34, op := Op.convert 3 24 (Operand.tmp 33), type := 24, pos := "memory.go:37", after := #[{ on := 2, ground := Ground.data }], guard := none }
def oYD17 : Oper := { dst := some 35, op := Op.build 55 #[(0, Operand.tmp 34)], type := 55, pos := "memory.go:37", after := #[{ on := 3, ground := Ground.data }], guard := none }
def oYD18 : Oper := { dst := some 36, op := Op.buildSlice 22 1 #[(0, Operand.tmp 35)], type := 22, pos := "memory.go:37", after := #[{ on := 4, ground := Ground.data }], guard := none }
def oYD19 : Oper := { dst := some 37, op := Op.call { callee := Callee.builtin Builtin.append, args := #[Operand.tmp 31, Operand.tmp 36], argTypes := #[22, 22] }, type := 22, pos := "memory.go:37", after := #[{ on := 0, ground := Ground.data }, { on := 5, ground := Ground.data }], guard := none }
def oYD20 : Oper := { dst := some 40, op := Op.call { callee := Callee.builtin Builtin.len, args := #[Operand.tmp 39], argTypes := #[22] }, type := 3, pos := "memory.go:39", after := #[{ on := 1, ground := Ground.data }], guard := none }
def oYD21 : Oper := { dst := some 41, op := Op.slice 22 (Operand.tmp 38) none (some (Operand.tmp 40)) none, type := 22, pos := "memory.go:39", after := #[{ on := 0, ground := Ground.data }, { on := 2, ground := Ground.data }], guard := none }
def rLC0 : Array Oper := #[{ dst := some 2, op := Op.assign (Operand.const (Value.slice none 0 0)), type := 22, pos := "memory.go:31", after := #[], guard := none }]
def rLC1 : Array Oper := #[{ dst := some 3, op := Op.assign (Operand.const (Value.slice none 0 0)), type := 22, pos := "memory.go:32", after := #[], guard := none }]
def rLC2 : Array Oper := #[{ dst := some 4, op := Op.assign (Operand.const (Value.int IntKind.i64 0)), type := 3, pos := "memory.go:33", after := #[], guard := none }]
def rLC3 : Array Oper := #[{ dst := some 6, op := Op.move (Operand.tmp 4), type := 3, pos := "memory.go:33", after := #[], guard := none },
  { dst := some 7, op := Op.move (Operand.tmp 0), type := 22, pos := "memory.go:33", after := #[], guard := none },
  oYD0,
  oYD1]
def rLC4 : Array Oper := #[{ dst := some 10, op := Op.move (Operand.tmp 4), type := 3, pos := "memory.go:33", after := #[], guard := none },
  oYD2,
  { dst := some 4, op := Op.assign (Operand.tmp 11), type := 3, pos := "memory.go:33", after := #[{ on := 1, ground := Ground.data }, { on := 0, ground := Ground.phase }, { on := 1, ground := Ground.phase }], guard := none }]
def rLC5 : Array Oper := #[{ dst := some 12, op := Op.move (Operand.tmp 3), type := 22, pos := "memory.go:34", after := #[], guard := none },
  { dst := some 13, op := Op.move (Operand.tmp 0), type := 22, pos := "memory.go:34", after := #[], guard := none },
  { dst := some 14, op := Op.move (Operand.tmp 4), type := 3, pos := "memory.go:34", after := #[], guard := none },
  oYD3,
  oYD4,
  oYD5,
  { dst := some 18, op := Op.move (Operand.tmp 0), type := 22, pos := "memory.go:34", after := #[], guard := none },
  { dst := some 19, op := Op.move (Operand.tmp 4), type := 3, pos := "memory.go:34", after := #[], guard := none },
  oYD6,
  oYD7,
  oYD8,
  oYD9,
  oYD10,
  oYD11,
  oYD12,
  { dst := some 3, op := Op.assign (Operand.tmp 26), type := 22, pos := "memory.go:34", after := #[{ on := 14, ground := Ground.data }, { on := 14, ground := Ground.chain }, { on := 0, ground := Ground.phase }, { on := 1, ground := Ground.phase }, { on := 2, ground := Ground.phase }, { on := 3, ground := Ground.phase }, { on := 4, ground := Ground.phase }, { on := 5, ground := Ground.phase }, { on := 6, ground := Ground.phase }, { on := 7, ground := Ground.phase }, { on := 8, ground := Ground.phase }, { on := 9, ground := Ground.phase }, { on := 10, ground := Ground.phase }, { on := 11, ground := Ground.phase }, { on := 12, ground := Ground.phase }, { on := 13, ground := Ground.phase }, { on := 14, ground := Ground.phase }], guard := none }]
def rLC6 : Array Oper := #[{ dst := some 5, op := Op.assign (Operand.const (Value.int IntKind.i64 0)), type := 3, pos := "memory.go:36", after := #[], guard := none }]
def rLC7 : Array Oper := #[{ dst := some 27, op := Op.move (Operand.tmp 5), type := 3, pos := "memory.go:36", after := #[], guard := none },
  oYD13]
def rLC8 : Array Oper := #[{ dst := some 29, op := Op.move (Operand.tmp 5), type := 3, pos := "memory.go:36", after := #[], guard := none },
  oYD14,
  { dst := some 5, op := Op.assign (Operand.tmp 30), type := 3, pos := "memory.go:36", after := #[{ on := 1, ground := Ground.data }, { on := 0, ground := Ground.phase }, { on := 1, ground := Ground.phase }], guard := none }]
def rLC9 : Array Oper := #[{ dst := some 31, op := Op.move (Operand.tmp 3), type := 22, pos := "memory.go:37", after := #[], guard := none },
  { dst := some 32, op := Op.move (Operand.tmp 5), type := 3, pos := "memory.go:37", after := #[], guard := none },
  oYD15,
  oYD16,
  oYD17,
  oYD18,
  oYD19,
  { dst := some 3, op := Op.assign (Operand.tmp 37), type := 22, pos := "memory.go:37", after := #[{ on := 6, ground := Ground.data }, { on := 6, ground := Ground.chain }, { on := 0, ground := Ground.phase }, { on := 1, ground := Ground.phase }, { on := 2, ground := Ground.phase }, { on := 3, ground := Ground.phase }, { on := 4, ground := Ground.phase }, { on := 5, ground := Ground.phase }, { on := 6, ground := Ground.phase }], guard := none }]
def rLC10 : Array Oper := #[{ dst := some 38, op := Op.move (Operand.tmp 3), type := 22, pos := "memory.go:39", after := #[], guard := none },
  { dst := some 39, op := Op.move (Operand.tmp 0), type := 22, pos := "memory.go:39", after := #[], guard := none },
  oYD20,
  oYD21,
  { dst := some 2, op := Op.assign (Operand.tmp 41), type := 22, pos := "memory.go:39", after := #[{ on := 3, ground := Ground.data }, { on := 0, ground := Ground.phase }, { on := 1, ground := Ground.phase }, { on := 2, ground := Ground.phase }, { on := 3, ground := Ground.phase }], guard := none }]
def cLC1 : Code := (Code.seq (Code.seq (Code.region 3 rLC3 false) (Code.cond (Operand.tmp 9) Code.skip (Code.exit 0))) (Code.seq (Code.block 1 (Code.region 5 rLC5 true)) (Code.region 4 rLC4 false)))
def cLC2 : Code := (Code.seq (Code.seq (Code.region 7 rLC7 false) (Code.cond (Operand.tmp 28) Code.skip (Code.exit 2))) (Code.seq (Code.block 3 (Code.region 9 rLC9 false)) (Code.region 8 rLC8 false)))
def cLC : Code := (Code.seq (Code.region 0 rLC0 false) (Code.seq (Code.region 1 rLC1 false) (Code.seq (Code.seq (Code.region 2 rLC2 false) (Code.block 0 (Code.loop cLC1))) (Code.seq (Code.seq (Code.region 6 rLC6 false) (Code.block 2 (Code.loop cLC2))) (Code.seq (Code.region 10 rLC10 false) Code.ret)))))

/-- A chain that came in. -/
structure BiRow (w : World) (pa : Option Addr) (pb po : Nat) (L : List Bt) : Prop where
  row : BvRow w pa pb po L
  nin : ∀ x ∈ L, NIn w x.na x.nb x.no x.nc x.ns
theorem BiRow.same {w w' : World} {pa : Option Addr} {pb po : Nat} {L : List Bt} (h : BiRow w pa pb po L) (s : Same w w') : BiRow w' pa pb po L := ⟨h.row.same s, fun x hx => (h.nin x hx).same s⟩
def btC (x : Bt) : List Value := [.int .u32 (x.pg : Int), .slice x.na x.ns.length x.nc]
def btCs (L : List Bt) : List Value := L.flatMap btC
theorem btCs_app (a b : List Bt) : btCs (a ++ b) = btCs a ++ btCs b := by simp [btCs]
/-- The marks behind a lent chain. -/
def mkB (k : Nat) : List Value := (List.range k).flatMap fun (i : Nat) => [.int .u32 ((800000 + i : Nat) : Int), .slice none 0 0]
theorem mkB_succ (k : Nat) : mkB (k + 1) = mkB k ++ [.int .u32 ((800000 + k : Nat) : Int), .slice none 0 0] := by simp [mkB, List.range_succ]
/-- A batch whose numbers are lent. -/
structure LentX (W : World) (B : Nat) (x : Bt) : Prop where
  no : x.no = 0
  na : x.na = some ⟨x.nb, 0, none⟩
  ns : LentN W B x.nb x.nc x.ns
theorem LentX.fr {W W' : World} {B : Nat} {S : Nat → Prop} {x : Bt} (h : LentX W B x) (f : Fr S W W') (hn : ¬ S x.nb) : LentX W' B x := ⟨h.no, h.na, own_frameB h.ns f (fun k hk e => by
  have : x.nb = k := by simpa [Value.ownBlock] using hk
  exact hn (this ▸ e))⟩
/-- While a chain is lent. -/
structure LC (w W : World) (L : List Bt) (k : Nat) (ao : Option Addr) (cc : Nat) (M : List Bt) (marks : Nat) : Prop where
  same : Same w W
  row : W.ownsRow w.heap.size 55 2 (.slice ao (k + marks) cc) (k + marks) (btCs M ++ mkB marks)
  key : M.map Bt.key = (L.take k).map Bt.key
  lent : ∀ x ∈ M, LentX W w.heap.size x
theorem LC.blk {w W : World} {L M : List Bt} {k cc marks : Nat} {ao : Option Addr} (h : LC w W L k ao cc M marks) {x : Bt} (hx : x ∈ M) : (Value.slice ao (k + marks) cc).ownBlock ≠ some x.nb := fun e => by
  rcases h.row.2 with ⟨hv, _⟩ | ⟨g, c, cur, hv, hb, hh, _⟩
  · rw [hv] at e; cases e
  · rw [hv] at e
    have : g = x.nb := by simpa [Value.ownBlock] using e
    subst this
    exact own_neT (own_base (h.lent x hx).ns (Nat.zero_le _)) hh (by decide) x.nb rfl rfl
theorem LC.grow {w W W1 W2 : World} {L M : List Bt} {k k2 cc c2 marks marks2 : Nat} {ao a2 : Option Addr} {M2 : List Bt} (h : LC w W L k ao cc M marks) (s : Same W W1) (g : W1.grownBy W2 (Value.slice ao (k + marks) cc).ownBlock)
    (row : W2.ownsRow w.heap.size 55 2 (.slice a2 (k2 + marks2) c2) (k2 + marks2) (btCs M2 ++ mkB marks2)) (key : M2.map Bt.key = (L.take k2).map Bt.key) (hM : ∀ x ∈ M2, x ∈ M ∨ (LentX W2 w.heap.size x)) : LC w W2 L k2 a2 c2 M2 marks2 := by
  have f : Fr (fun b => (Value.slice ao (k + marks) cc).ownBlock = some b) W1 W2 := Fr.grown (Fr.refl _ _) g (fun b e _ => e)
  refine ⟨Fr.trans (h.same.trans s) f (fun b hb e => ?_), row, key, fun x hx => ?_⟩
  · have := own_blk h.row b e; omega
  · rcases hM x hx with h1 | h1
    · exact ((h.lent x h1).fr s (fun f => f)).fr f (h.blk h1)
    · exact h1
structure IL (pa : Option Addr) (n cp : Nat) (a : Act) : Prop where
  size : a.tmps.size = 42
  defers : a.defers = []
  s0 : a.eval (.tmp 0) = .slice pa n cp
theorem IL.keep {pa : Option Addr} {n cp : Nat} {a0 a : Act} {env : List (Nat × Value)} (h : IL pa n cp a0) (f : Fe a0 env a) (hk : look env 0 (a0.eval (.tmp 0)) = a0.eval (.tmp 0)) : IL pa n cp a :=
  ⟨f.size.trans h.size, f.defers.trans h.defers, ((f.at_ 0).trans hk).trans h.s0⟩
def kOf (a : Act) (t : Nat) : Nat := match a.eval (.tmp t) with | .int _ x => x.toNat | _ => 0
theorem kOf_eq {a : Act} {t k : Nat} (h : a.eval (.tmp t) = .int .i64 (k : Int)) : kOf a t = k := by unfold kOf; rw [h]; simp
theorem part_two {W : World} {g : Nat} {x y : Value} (t : TypeId) (fr : Nat × Nat) (h : W.heap[g]? = some (.cells #[x, y] t fr)) (hx : x.oneCell' = true) (hy : y.oneCell' = true) : PartOk W 2 ⟨some ⟨g, 0, none⟩, 1, 1, [x, y]⟩ := part_twoSp t fr h hx hy
theorem wt_mem {x : Bt} {L : List Bt} (h : x ∈ L) : x.ns.length + 1 ≤ wt L := by
  induction L with
  | nil => simp at h
  | cons y L ih =>
    rcases List.mem_cons.1 h with rfl | h
    · simp only [wt]; omega
    · have := ih h; simp only [wt]; omega
theorem take_key {L : List Bt} {k : Nat} {x : Bt} (h : L[k]? = some x) : (L.take (k + 1)).map Bt.key = (L.take k).map Bt.key ++ [x.key] := by
  rw [List.take_add_one, h]
  simp
set_option maxRecDepth 100000 in
set_option maxHeartbeats 1000000 in
theorem lcR {pb po n cp k cc : Nat} {ao : Option Addr} {L M : List Bt} {x : Bt} {Q : Exit → Act → World → Prop} (hQp : ∀ c (a : Act) d v w, Q (.panic c) (a.put d v) w → Q (.panic c) a w) (a0 : Act) (w wr : World) (I0 : IL (some ⟨pb, po, none⟩) n cp a0) (h4 : a0.eval (.tmp 4) = .int .i64 (k : Int)) (h3 : a0.eval (.tmp 3) = .slice ao k cc)
    (hc : LC w wr L k ao cc M 0) (hcel : ∀ Z, Same w Z → Z.cell? ⟨pb, po + k * 2, none⟩ = some (.int .u32 (x.pg : Int)) ∧ Z.cell? ⟨pb, po + k * 2 + 1, none⟩ = some (.slice x.na x.ns.length x.nc) ∧ True) (hin : ∀ Z, Same w Z → NIn Z x.na x.nb x.no x.nc x.ns) (hxl : x.ns.length ≤ 1099511627000) (hkn : k < n) (hn : n ≤ 2000000) (hkey : (L.take (k + 1)).map Bt.key = (L.take k).map Bt.key ++ [x.key])
    (hQ : ∀ a W3 a3 c3 M3, IL (some ⟨pb, po, none⟩) n cp a → a.eval (.tmp 4) = .int .i64 ((k : Int) + 1) → a.eval (.tmp 3) = .slice a3 (k + 1) c3 → LC w W3 L (k + 1) a3 c3 M3 0 → Q .normal a W3) : cLC1.wp Try.prog Q a0 wr := by
  have hki : (k : Int) < (n : Int) := by omega
  have dd : Same wr wr.drew := (Fr.refl (fun _ => False) wr).drew
  have w7 : IntKind.i64.wrap ((k : Int) + 1) = (k : Int) + 1 := by rw [IntKind.wrap_i64]; omega
  have fa0_0 := Fe.refl a0
  unfold cLC1
  refine wp_seq (wp_seq ?_)
  refine wp_region_list ?_
  unfold rLC3
  refine fa0_0.move 6 (.int .i64 (k : Int)) _ (Or.inl rfl) rfl (lb_ I0.size) (wanted_none rfl) ((fa0_0.at_ 4).trans h4) (fun a0_1 fa0_1 => ?_)
  clear fa0_0
  refine fa0_1.move 7 (.slice (some ⟨pb, po, none⟩) n cp) _ (Or.inl rfl) rfl (lb_ I0.size) (wanted_none rfl) ((fa0_1.at_ 0).trans I0.s0) (fun a0_2 fa0_2 => ?_)
  clear fa0_1
  have r_a0_3 : (execOp a0_2.eval oYD0).run Try.prog (wr) = .ok (.value (.int .i64 (n : Int))) (wr) := by
    unfold oYD0
    have e7 := (show a0_2.eval (.tmp 7) = .slice (some ⟨pb, po, none⟩) n cp from (fa0_2.at_ 7))
    clear fa0_2 hQ h3 h4
    generalize a0_2.eval = ρ at *
    go_simp
  refine fa0_2.step 8 (.int .i64 (n : Int)) rfl (lb_ I0.size) (wanted_none rfl) r_a0_3 (fun a0_3 fa0_3 => ?_)
  clear r_a0_3
  clear fa0_2
  have r_a0_4 : (execOp a0_3.eval oYD1).run Try.prog (wr) = .ok (.value (.bool true)) (wr) := by
    unfold oYD1
    have e6 := (show a0_3.eval (.tmp 6) = .int .i64 (k : Int) from (fa0_3.at_ 6))
    have e8 := (show a0_3.eval (.tmp 8) = .int .i64 (n : Int) from (fa0_3.at_ 8))
    clear fa0_3 hQ h3 h4
    generalize a0_3.eval = ρ at *
    go_simp
  refine fa0_3.step 9 (.bool true) rfl (lb_ I0.size) (wanted_none rfl) r_a0_4 (fun a0_4 fa0_4 => ?_)
  clear r_a0_4
  clear fa0_3
  refine wpList_nil ?_
  change Code.wp _ _ _ _ _
  refine wp_cond_true (show a0_4.eval (.tmp 9) = .bool true from (fa0_4.at_ 9)) (wp_skip ?_)
  change Code.wp _ _ _ _ _
  refine wp_seq (wp_block ?_)
  refine wp_region_held_drew (ops := rLC5) (S := fun Z => Same w Z) (by kernel_rfl) (hc.same.trans dd) (fun hS4 => ?_)
  refine fa0_4.takeMove 0 12 (.slice ao k cc) _ (Or.inl rfl) rfl (by kernel_rfl) (by kernel_rfl) (by kernel_rfl) (fun _ _ _ h => hQp _ _ _ _ _ h) rfl (lb_ I0.size) (wanted_none rfl) ((fa0_4.at_ 3).trans h3) hS4 (fun a0_5 fa0_5 => ?_)
  clear fa0_4
  refine fa0_5.takeMove 1 13 (.slice (some ⟨pb, po, none⟩) n cp) _ (Or.inl rfl) rfl (by kernel_rfl) (by kernel_rfl) (by kernel_rfl) (fun _ _ _ h => hQp _ _ _ _ _ h) rfl (lb_ I0.size) (wanted_none rfl) ((fa0_5.at_ 0).trans I0.s0) hS4 (fun a0_6 fa0_6 => ?_)
  clear fa0_5
  refine fa0_6.takeMove 2 14 (.int .i64 (k : Int)) _ (Or.inl rfl) rfl (by kernel_rfl) (by kernel_rfl) (by kernel_rfl) (fun _ _ _ h => hQp _ _ _ _ _ h) rfl (lb_ I0.size) (wanted_none rfl) ((fa0_6.at_ 4).trans h4) hS4 (fun a0_7 fa0_7 => ?_)
  clear fa0_6
  have r_a0_8 : ∀ Z, (fun Z => Same w Z) Z → (execOp a0_7.eval oYD3).run Try.prog Z = .ok (.value (.pointer (some ⟨pb, po + k * 2, none⟩))) Z := fun Z hZ => by
    unfold oYD3
    have e13 := (show a0_7.eval (.tmp 13) = .slice (some ⟨pb, po, none⟩) n cp from (fa0_7.at_ 13))
    have e14 := (show a0_7.eval (.tmp 14) = .int .i64 (k : Int) from (fa0_7.at_ 14))
    clear fa0_7 hQ h3 h4
    generalize a0_7.eval = ρ at *
    go_simp
  refine fa0_7.take 3 15 (.pointer (some ⟨pb, po + k * 2, none⟩)) rfl (by kernel_rfl) (by kernel_rfl) (by kernel_rfl) (fun _ _ _ h => hQp _ _ _ _ _ h) rfl (lb_ I0.size) (wanted_none rfl) r_a0_8 hS4 (fun a0_8 fa0_8 => ?_)
  clear r_a0_8
  clear fa0_7
  have r_a0_9 : ∀ Z, (fun Z => Same w Z) Z → (execOp a0_8.eval oYD4).run Try.prog Z = .ok (.value (.pointer (some ⟨pb, po + k * 2, none⟩))) Z := fun Z hZ => by
    unfold oYD4
    have e15 := (show a0_8.eval (.tmp 15) = .pointer (some ⟨pb, po + k * 2, none⟩) from (fa0_8.at_ 15))
    clear fa0_8 hQ h3 h4
    generalize a0_8.eval = ρ at *
    go_simp
  refine fa0_8.take 4 16 (.pointer (some ⟨pb, po + k * 2, none⟩)) rfl (by kernel_rfl) (by kernel_rfl) (by kernel_rfl) (fun _ _ _ h => hQp _ _ _ _ _ h) rfl (lb_ I0.size) (wanted_none rfl) r_a0_9 hS4 (fun a0_9 fa0_9 => ?_)
  clear r_a0_9
  clear fa0_8
  have r_a0_10 : ∀ Z, (fun Z => Same w Z) Z → (execOp a0_9.eval oYD5).run Try.prog Z = .ok (.value (.int .u32 (x.pg : Int))) Z := fun Z hZ => by
    unfold oYD5
    obtain ⟨c1, c2, _⟩ := hcel Z hZ
    have e16 := (show a0_9.eval (.tmp 16) = .pointer (some ⟨pb, po + k * 2, none⟩) from (fa0_9.at_ 16))
    clear fa0_9 hQ h3 h4
    generalize a0_9.eval = ρ at *
    go_simp
  refine fa0_9.take 5 17 (.int .u32 (x.pg : Int)) rfl (by kernel_rfl) (by kernel_rfl) (by kernel_rfl) (fun _ _ _ h => hQp _ _ _ _ _ h) rfl (lb_ I0.size) (wanted_none rfl) r_a0_10 hS4 (fun a0_10 fa0_10 => ?_)
  clear r_a0_10
  clear fa0_9
  refine fa0_10.takeMove 6 18 (.slice (some ⟨pb, po, none⟩) n cp) _ (Or.inl rfl) rfl (by kernel_rfl) (by kernel_rfl) (by kernel_rfl) (fun _ _ _ h => hQp _ _ _ _ _ h) rfl (lb_ I0.size) (wanted_none rfl) ((fa0_10.at_ 0).trans I0.s0) hS4 (fun a0_11 fa0_11 => ?_)
  clear fa0_10
  refine fa0_11.takeMove 7 19 (.int .i64 (k : Int)) _ (Or.inl rfl) rfl (by kernel_rfl) (by kernel_rfl) (by kernel_rfl) (fun _ _ _ h => hQp _ _ _ _ _ h) rfl (lb_ I0.size) (wanted_none rfl) ((fa0_11.at_ 4).trans h4) hS4 (fun a0_12 fa0_12 => ?_)
  clear fa0_11
  have r_a0_13 : ∀ Z, (fun Z => Same w Z) Z → (execOp a0_12.eval oYD6).run Try.prog Z = .ok (.value (.pointer (some ⟨pb, po + k * 2, none⟩))) Z := fun Z hZ => by
    unfold oYD6
    have e18 := (show a0_12.eval (.tmp 18) = .slice (some ⟨pb, po, none⟩) n cp from (fa0_12.at_ 18))
    have e19 := (show a0_12.eval (.tmp 19) = .int .i64 (k : Int) from (fa0_12.at_ 19))
    clear fa0_12 hQ h3 h4
    generalize a0_12.eval = ρ at *
    go_simp
  refine fa0_12.take 8 20 (.pointer (some ⟨pb, po + k * 2, none⟩)) rfl (by kernel_rfl) (by kernel_rfl) (by kernel_rfl) (fun _ _ _ h => hQp _ _ _ _ _ h) rfl (lb_ I0.size) (wanted_none rfl) r_a0_13 hS4 (fun a0_13 fa0_13 => ?_)
  clear r_a0_13
  clear fa0_12
  have r_a0_14 : ∀ Z, (fun Z => Same w Z) Z → (execOp a0_13.eval oYD7).run Try.prog Z = .ok (.value (.pointer (some ⟨pb, po + k * 2 + 1, none⟩))) Z := fun Z hZ => by
    unfold oYD7
    have e20 := (show a0_13.eval (.tmp 20) = .pointer (some ⟨pb, po + k * 2, none⟩) from (fa0_13.at_ 20))
    clear fa0_13 hQ h3 h4
    generalize a0_13.eval = ρ at *
    go_simp
  refine fa0_13.take 9 21 (.pointer (some ⟨pb, po + k * 2 + 1, none⟩)) rfl (by kernel_rfl) (by kernel_rfl) (by kernel_rfl) (fun _ _ _ h => hQp _ _ _ _ _ h) rfl (lb_ I0.size) (wanted_none rfl) r_a0_14 hS4 (fun a0_14 fa0_14 => ?_)
  clear r_a0_14
  clear fa0_13
  have r_a0_15 : ∀ Z, (fun Z => Same w Z) Z → (execOp a0_14.eval oYD8).run Try.prog Z = .ok (.value (.slice x.na x.ns.length x.nc)) Z := fun Z hZ => by
    unfold oYD8
    obtain ⟨c1, c2, _⟩ := hcel Z hZ
    have e21 := (show a0_14.eval (.tmp 21) = .pointer (some ⟨pb, po + k * 2 + 1, none⟩) from (fa0_14.at_ 21))
    clear fa0_14 hQ h3 h4
    generalize a0_14.eval = ρ at *
    go_simp
  refine fa0_14.take 10 22 (.slice x.na x.ns.length x.nc) rfl (by kernel_rfl) (by kernel_rfl) (by kernel_rfl) (fun _ _ _ h => hQp _ _ _ _ _ h) rfl (lb_ I0.size) (wanted_none rfl) r_a0_15 hS4 (fun a0_15 fa0_15 => ?_)
  clear r_a0_15
  clear fa0_14
  have r_a0_16 : (execOp a0_15.eval oYD9).run Try.prog (wr.drew) = .ok (.enter 7 #[.slice x.na x.ns.length x.nc]) (wr.drew) := by
    unfold oYD9
    have kf : ∀ f, a0_15.eval (.func f) = .func (.func f) #[] #[] := fun _ => rfl
    have e22 := (show a0_15.eval (.tmp 22) = .slice x.na x.ns.length x.nc from (fa0_15.at_ 22))
    clear fa0_15 hQ h3 h4
    generalize a0_15.eval = ρ at *
    go_simp
  refine fa0_15.oneCall 11 23 (by kernel_rfl) rfl rfl (lb_ I0.size) (wanted_none rfl) r_a0_16 (lentN_calls _ (hin _ (hc.same.trans dd) ) hxl) (fun e W1 hR => ?_)
  obtain ⟨g, c, rfl, l1, s1⟩ := hR
  clear r_a0_16
  have hS16 : (fun Z => Same w Z) W1 := hc.same.trans (dd.trans s1)
  refine ⟨_, rfl, hS16, fun a0_16 fa0_16 => ?_⟩
  clear fa0_15
  have r_a0_17 : ∀ Z, (fun Z => Same w Z) Z → (execOp a0_16.eval oYD10).run Try.prog Z = .ok (.value (.agg #[.int .u32 (x.pg : Int), .slice (some ⟨g, 0, none⟩) x.ns.length c])) Z := fun Z hZ => by
    unfold oYD10
    have e17 := (show a0_16.eval (.tmp 17) = .int .u32 (x.pg : Int) from (fa0_16.at_ 17))
    have e23 := (show a0_16.eval (.tmp 23) = .slice (some ⟨g, 0, none⟩) x.ns.length c from (fa0_16.at_ 23))
    clear fa0_16 hQ h3 h4
    generalize a0_16.eval = ρ at *
    go_simp
  refine fa0_16.take 12 24 (.agg #[.int .u32 (x.pg : Int), .slice (some ⟨g, 0, none⟩) x.ns.length c]) rfl (by kernel_rfl) (by kernel_rfl) (by kernel_rfl) (fun _ _ _ h => hQp _ _ _ _ _ h) rfl (lb_ I0.size) (wanted_none rfl) r_a0_17 hS16 (fun a0_17 fa0_17 => ?_)
  clear r_a0_17
  clear fa0_16
  have r_a0_18 : (execOp a0_17.eval oYD11).run Try.prog (W1) = .ok (.value (.slice (some ⟨W1.heap.size, 0, none⟩) 1 1)) (W1.alloc (.cells #[.int .u32 (x.pg : Int), .slice (some ⟨g, 0, none⟩) x.ns.length c] 55)) := by
    unfold oYD11
    have e24 := (show a0_17.eval (.tmp 24) = .agg #[.int .u32 (x.pg : Int), .slice (some ⟨g, 0, none⟩) x.ns.length c] from (fa0_17.at_ 24))
    clear fa0_17 hQ h3 h4
    generalize a0_17.eval = ρ at *
    go_simp
  have hS18 : (fun Z => Same w Z) (W1.alloc (.cells #[.int .u32 (x.pg : Int), .slice (some ⟨g, 0, none⟩) x.ns.length c] 55)) := (hc.same.trans (dd.trans s1)).trans ((Fr.refl _ W1).alloc _)
  refine fa0_17.one 13 25 (.slice (some ⟨W1.heap.size, 0, none⟩) 1 1) (by kernel_rfl) rfl rfl (lb_ I0.size) (wanted_none rfl) r_a0_18 hS18 (fun a0_18 fa0_18 => ?_)
  clear r_a0_18
  obtain ⟨W2, hW2⟩ : ∃ W2, W2 = W1.alloc (.cells #[.int .u32 (x.pg : Int), .slice (some ⟨g, 0, none⟩) x.ns.length c] 55) := ⟨_, rfl⟩
  rw [← hW2]
  have s2 : Same wr W2 := by rw [hW2]; exact (dd.trans s1).trans ((Fr.refl _ W1).alloc _)
  have hh2 : W2.heap[W1.heap.size]? = some (.cells #[.int .u32 (x.pg : Int), .slice (some ⟨g, 0, none⟩) x.ns.length c] 55 (0, 0)) := by rw [hW2]; exact heap_alloc_new W1 _
  have ow : W2.ownsRow w.heap.size 55 2 (.slice ao k cc) k (btCs M) := own_frameB (by have := hc.row; simp only [Nat.add_zero, mkB, List.range_zero, List.flatMap_nil, List.append_nil] at this; exact this) s2 (fun _ _ f => f)
  obtain ⟨v3, W3, hr3, o3, g3⟩ := run_partBts W2 22 ow (part_two _ _ hh2 rfl rfl) (by show k + 1 ≤ _; omega) (Nat.le_trans hc.same.size s2.size)
  obtain ⟨a3, c3, rfl⟩ := own_shape o3
  have f3 : Fr (fun b => (Value.slice ao k cc).ownBlock = some b) W2 W3 := Fr.grown (Fr.refl _ _) g3 (fun b e _ => e)
  have l2 : LentN W2 wr.heap.size g c x.ns := by rw [hW2]; exact LentN.same l1 ((Fr.refl _ W1).alloc _)
  have nb3 : (Value.slice ao k cc).ownBlock ≠ some g := fun e => by
    rcases ow.2 with ⟨hv, _⟩ | ⟨g9, c9, cur, hv, hb, hh, _⟩
    · rw [hv] at e; cases e
    · rw [hv] at e
      have e9 : g9 = g := by simpa [Value.ownBlock] using e
      subst e9
      exact own_neT (own_base l2 (Nat.zero_le _)) hh (by decide) g9 rfl rfl
  have l3 : LentN W3 wr.heap.size g c x.ns := own_frameB l2 f3 (fun b hb e => by
    have e9 : g = b := by simpa [Value.ownBlock] using hb
    exact nb3 (e9 ▸ e))
  have lx : LentX W3 w.heap.size ⟨x.pg, some ⟨g, 0, none⟩, g, 0, c, x.ns⟩ := ⟨rfl, rfl, own_base l3 hc.same.size⟩
  have hc3 : LC w W3 L (k + 1) a3 c3 (M ++ [⟨x.pg, some ⟨g, 0, none⟩, g, 0, c, x.ns⟩]) 0 := hc.grow (k2 := k + 1) (marks2 := 0) s2 g3 (by simp only [Nat.add_zero, mkB, List.range_zero, List.flatMap_nil, List.append_nil, btCs_app]; exact o3) (by rw [List.map_append, hc.key, hkey]; rfl) (fun y hy => by
    rcases List.mem_append.1 hy with h1 | h1
    · exact Or.inl h1
    · rw [List.mem_singleton] at h1; subst h1; exact Or.inr lx)
  clear fa0_17
  have ea : a0_18.eval (.tmp 12) = .slice ao k cc := fa0_18.at_ 12
  have eb : a0_18.eval (.tmp 25) = .slice (some ⟨W1.heap.size, 0, none⟩) 1 1 := fa0_18.at_ 25
  have r_a0_19 : (execOp a0_18.eval oYD12).run Try.prog (W2) = .ok (.value (.slice a3 (k + 1) c3)) (W3) := by
    unfold oYD12
    refine exec_append rfl ?_
    rw [ea, eb]
    exact hr3
  have hS19 : (fun Z => Same w Z) (W3) := hc3.same
  refine fa0_18.one 14 26 (.slice a3 (k + 1) c3) (by kernel_rfl) rfl rfl (lb_ I0.size) (wanted_none rfl) r_a0_19 hS19 (fun a0_19 fa0_19 => ?_)
  clear r_a0_19
  clear fa0_18
  refine fa0_19.takeMove 15 3 (.slice a3 (k + 1) c3) _ (Or.inr rfl) rfl (by kernel_rfl) (by kernel_rfl) (by kernel_rfl) (fun _ _ _ h => hQp _ _ _ _ _ h) rfl (lb_ I0.size) (wanted_none rfl) (fa0_19.at_ 26) hS19 (fun a0_20 fa0_20 => ?_)
  clear fa0_19
  refine wpAnyH_done (by kernel_rfl) ?_ _
  change Code.wp _ _ _ _ _
  refine wp_region_list ?_
  unfold rLC4
  refine fa0_20.move 10 (.int .i64 (k : Int)) _ (Or.inl rfl) rfl (lb_ I0.size) (wanted_none rfl) ((fa0_20.at_ 4).trans h4) (fun a0_21 fa0_21 => ?_)
  clear fa0_20
  have r_a0_22 : (execOp a0_21.eval oYD2).run Try.prog (W3) = .ok (.value (.int .i64 ((k : Int) + 1))) (W3) := by
    unfold oYD2
    have kc : ∀ v, a0_21.eval (.const v) = v := fun _ => rfl
    have e10 := (show a0_21.eval (.tmp 10) = .int .i64 (k : Int) from (fa0_21.at_ 10))
    clear fa0_21 hQ h3 h4
    generalize a0_21.eval = ρ at *
    go_simp
  refine fa0_21.step 11 (.int .i64 ((k : Int) + 1)) rfl (lb_ I0.size) (wanted_none rfl) r_a0_22 (fun a0_22 fa0_22 => ?_)
  clear r_a0_22
  clear fa0_21
  refine fa0_22.move 4 (.int .i64 ((k : Int) + 1)) _ (Or.inr rfl) rfl (lb_ I0.size) (wanted_none rfl) (fa0_22.at_ 11) (fun a0_23 fa0_23 => ?_)
  clear fa0_22
  refine wpList_nil ?_
  exact hQ a0_23 W3 a3 c3 _ (I0.keep fa0_23 rfl) (show a0_23.eval (.tmp 4) = .int .i64 ((k : Int) + 1) from (fa0_23.at_ 4)) (show a0_23.eval (.tmp 3) = .slice a3 (k + 1) c3 from (fa0_23.at_ 3)) hc3
set_option maxRecDepth 100000 in
theorem lcE {pa : Option Addr} {n cp k cc : Nat} {ao : Option Addr} {Q : Exit → Act → World → Prop} (a0 : Act) (wr : World) (I0 : IL pa n cp a0) (h4 : a0.eval (.tmp 4) = .int .i64 (k : Int)) (h3 : a0.eval (.tmp 3) = .slice ao k cc) (hkn : n ≤ k)
    (hQ : ∀ a, IL pa n cp a → a.eval (.tmp 3) = .slice ao k cc → Q (.exit 0) a wr) : cLC1.wp Try.prog Q a0 wr := by
  have hki : ¬ (k : Int) < (n : Int) := by omega
  have hkd : decide ((k : Int) < (n : Int)) = false := decide_eq_false hki
  clear hkn
  have fa0_0 := Fe.refl a0
  unfold cLC1
  refine wp_seq (wp_seq ?_)
  refine wp_region_list ?_
  unfold rLC3
  refine fa0_0.move 6 (.int .i64 (k : Int)) _ (Or.inl rfl) rfl (lb_ I0.size) (wanted_none rfl) ((fa0_0.at_ 4).trans h4) (fun a0_1 fa0_1 => ?_)
  clear fa0_0
  refine fa0_1.move 7 (.slice pa n cp) _ (Or.inl rfl) rfl (lb_ I0.size) (wanted_none rfl) ((fa0_1.at_ 0).trans I0.s0) (fun a0_2 fa0_2 => ?_)
  clear fa0_1
  have r_a0_3 : (execOp a0_2.eval oYD0).run Try.prog (wr) = .ok (.value (.int .i64 (n : Int))) (wr) := by
    unfold oYD0
    have e7 := (show a0_2.eval (.tmp 7) = .slice pa n cp from (fa0_2.at_ 7))
    clear fa0_2 hQ h3 h4
    generalize a0_2.eval = ρ at *
    go_simp
  refine fa0_2.step 8 (.int .i64 (n : Int)) rfl (lb_ I0.size) (wanted_none rfl) r_a0_3 (fun a0_3 fa0_3 => ?_)
  clear r_a0_3
  clear fa0_2
  have r_a0_4 : (execOp a0_3.eval oYD1).run Try.prog (wr) = .ok (.value (.bool false)) (wr) := by
    unfold oYD1
    have e6 := (show a0_3.eval (.tmp 6) = .int .i64 (k : Int) from (fa0_3.at_ 6))
    have e8 := (show a0_3.eval (.tmp 8) = .int .i64 (n : Int) from (fa0_3.at_ 8))
    clear fa0_3 hQ h3 h4
    generalize a0_3.eval = ρ at *
    go_simp
  refine fa0_3.step 9 (.bool false) rfl (lb_ I0.size) (wanted_none rfl) r_a0_4 (fun a0_4 fa0_4 => ?_)
  clear r_a0_4
  clear fa0_3
  refine wpList_nil ?_
  change Code.wp _ _ _ _ _
  refine wp_cond_false (show a0_4.eval (.tmp 9) = .bool false from (fa0_4.at_ 9)) (wp_exit ?_)
  exact hQ a0_4 (I0.keep fa0_4 rfl) (show a0_4.eval (.tmp 3) = .slice ao k cc from ((fa0_4.at_ 3).trans h3))
theorem lcL {pa : Option Addr} {pb po n cp : Nat} {L : List Bt} {Q : Exit → Act → World → Prop} (hQp : ∀ c (a : Act) d v w, Q (.panic c) (a.put d v) w → Q (.panic c) a w) (a0 : Act) (w : World) (I0 : IL pa n cp a0) (h4 : a0.eval (.tmp 4) = .int .i64 ((0 : Nat) : Int)) (h3 : a0.eval (.tmp 3) = .slice none 0 0)
    (hb : BiRow w pa pb po L) (hn : n = L.length) (hwt : wt L ≤ 2000000)
    (hQ : ∀ a W ao cc M, IL pa n cp a → a.eval (.tmp 3) = .slice ao n cc → LC w W L n ao cc M 0 → Q (.exit 0) a W) : (Code.loop cLC1).wp Try.prog Q a0 w := by
  have hn2 : n ≤ 2000000 := by rw [hn]; exact Nat.le_trans (wt_len L) hwt
  refine wp_loop (fun a W => IL pa n cp a ∧ ∃ (k : Nat) (ao : Option Addr) (cc : Nat) (M : List Bt), k ≤ n ∧ a.eval (.tmp 4) = .int .i64 (k : Int) ∧ a.eval (.tmp 3) = .slice ao k cc ∧ LC w W L k ao cc M 0) (fun a _ => n - kOf a 4)
    ⟨I0, 0, none, 0, [], Nat.zero_le _, h4, h3, Fr.refl _ w, own_nil, rfl, fun x hx => by simp at hx⟩ ?_
  rintro a W ⟨I1, k, ao, cc, M, hk, g4, g3, hc⟩
  by_cases hgo : k < n
  · obtain ⟨x, hx⟩ : ∃ x, L[k]? = some x := ⟨_, List.getElem?_eq_getElem (by rw [← hn]; exact hgo)⟩
    have hm := List.mem_of_getElem? hx
    obtain ⟨hpa, _⟩ := hb.row.place (by intro e; rw [e] at hx; simp at hx)
    subst hpa
    have hxl : x.ns.length ≤ 1099511627000 := by
      have : x.ns.length + 1 ≤ wt L := wt_mem hm
      omega
    refine lcR (Q := Exit.then _ Q) hQp a w W I1 g4 g3 hc (fun Z s => by obtain ⟨c1, c2, _⟩ := (hb.row.same s).cells k x hx; exact ⟨c1, c2, trivial⟩) (fun Z s => (hb.same s).nin x hm) hxl hgo hn2 (take_key hx) (fun a' W3 a3 c3 M3 i3 h1 h2 h5 => ?_)
    have h6 : a'.eval (.tmp 4) = .int .i64 ((k + 1 : Nat) : Int) := h1
    refine ⟨⟨i3, k + 1, a3, c3, M3, hgo, h6, h2, h5⟩, ?_⟩
    show n - kOf a' 4 < n - kOf a 4
    rw [kOf_eq h6, kOf_eq g4]
    omega
  · obtain rfl : k = n := by omega
    exact lcE a W I1 g4 g3 (Nat.le_refl _) (fun a' i2 h2 => hQ a' W ao cc M i2 h2 hc)
set_option maxRecDepth 100000 in
set_option maxHeartbeats 1000000 in
theorem lcM {pa : Option Addr} {n cp j cc : Nat} {ao : Option Addr} {L M : List Bt} {Q : Exit → Act → World → Prop} (a0 : Act) (w wr : World) (I0 : IL pa n cp a0) (h5 : a0.eval (.tmp 5) = .int .i64 (j : Int)) (h3 : a0.eval (.tmp 3) = .slice ao (n + j) cc)
    (hc : LC w wr L n ao cc M j) (hj : j < 70) (hn : n ≤ 2000000)
    (hQ : ∀ a W3 a3 c3, IL pa n cp a → a.eval (.tmp 5) = .int .i64 ((j : Int) + 1) → a.eval (.tmp 3) = .slice a3 (n + j + 1) c3 → LC w W3 L n a3 c3 M (j + 1) → Q .normal a W3) : cLC2.wp Try.prog Q a0 wr := by
  have hki : (j : Int) < 70 := by omega
  have w5 : RowKit.wrap64 (800000 + (j : Int)) = 800000 + (j : Int) := by unfold RowKit.wrap64; omega
  have w6 : IntKind.i64.wrap (800000 + (j : Int)) = 800000 + (j : Int) := by rw [IntKind.wrap_i64]; omega
  have w7 : IntKind.i64.wrap ((j : Int) + 1) = (j : Int) + 1 := by rw [IntKind.wrap_i64]; omega
  have w8 : IntKind.u32.wrap (800000 + (j : Int)) = 800000 + (j : Int) := by rw [IntKind.wrap_u32]; omega
  have fa0_0 := Fe.refl a0
  unfold cLC2
  refine wp_seq (wp_seq ?_)
  refine wp_region_list ?_
  unfold rLC7
  refine fa0_0.move 27 (.int .i64 (j : Int)) _ (Or.inl rfl) rfl (lb_ I0.size) (wanted_none rfl) ((fa0_0.at_ 5).trans h5) (fun a0_1 fa0_1 => ?_)
  clear fa0_0
  have r_a0_2 : (execOp a0_1.eval oYD13).run Try.prog (wr) = .ok (.value (.bool true)) (wr) := by
    unfold oYD13
    have kc : ∀ v, a0_1.eval (.const v) = v := fun _ => rfl
    have e27 := (show a0_1.eval (.tmp 27) = .int .i64 (j : Int) from (fa0_1.at_ 27))
    clear fa0_1 hQ h3 h5
    generalize a0_1.eval = ρ at *
    go_simp
  refine fa0_1.step 28 (.bool true) rfl (lb_ I0.size) (wanted_none rfl) r_a0_2 (fun a0_2 fa0_2 => ?_)
  clear r_a0_2
  clear fa0_1
  refine wpList_nil ?_
  change Code.wp _ _ _ _ _
  refine wp_cond_true (show a0_2.eval (.tmp 28) = .bool true from (fa0_2.at_ 28)) (wp_skip ?_)
  change Code.wp _ _ _ _ _
  refine wp_seq (wp_block ?_)
  refine wp_region_list ?_
  unfold rLC9
  refine fa0_2.move 31 (.slice ao (n + j) cc) _ (Or.inl rfl) rfl (lb_ I0.size) (wanted_none rfl) ((fa0_2.at_ 3).trans h3) (fun a0_3 fa0_3 => ?_)
  clear fa0_2
  refine fa0_3.move 32 (.int .i64 (j : Int)) _ (Or.inl rfl) rfl (lb_ I0.size) (wanted_none rfl) ((fa0_3.at_ 5).trans h5) (fun a0_4 fa0_4 => ?_)
  clear fa0_3
  have r_a0_5 : (execOp a0_4.eval oYD15).run Try.prog (wr) = .ok (.value (.int .i64 (800000 + (j : Int)))) (wr) := by
    unfold oYD15
    have kc : ∀ v, a0_4.eval (.const v) = v := fun _ => rfl
    have e32 := (show a0_4.eval (.tmp 32) = .int .i64 (j : Int) from (fa0_4.at_ 32))
    clear fa0_4 hQ h3 h5
    generalize a0_4.eval = ρ at *
    go_simp
  refine fa0_4.step 33 (.int .i64 (800000 + (j : Int))) rfl (lb_ I0.size) (wanted_none rfl) r_a0_5 (fun a0_5 fa0_5 => ?_)
  clear r_a0_5
  clear fa0_4
  have r_a0_6 : (execOp a0_5.eval oYD16).run Try.prog (wr) = .ok (.value (.int .u32 (800000 + (j : Int)))) (wr) := by
    unfold oYD16
    have e33 := (show a0_5.eval (.tmp 33) = .int .i64 (800000 + (j : Int)) from (fa0_5.at_ 33))
    clear fa0_5 hQ h3 h5
    generalize a0_5.eval = ρ at *
    go_simp
  refine fa0_5.step 34 (.int .u32 (800000 + (j : Int))) rfl (lb_ I0.size) (wanted_none rfl) r_a0_6 (fun a0_6 fa0_6 => ?_)
  clear r_a0_6
  clear fa0_5
  have r_a0_7 : (execOp a0_6.eval oYD17).run Try.prog (wr) = .ok (.value (.agg #[.int .u32 (800000 + (j : Int)), .slice none 0 0])) (wr) := by
    unfold oYD17
    have e34 := (show a0_6.eval (.tmp 34) = .int .u32 (800000 + (j : Int)) from (fa0_6.at_ 34))
    clear fa0_6 hQ h3 h5
    generalize a0_6.eval = ρ at *
    go_simp
  refine fa0_6.step 35 (.agg #[.int .u32 (800000 + (j : Int)), .slice none 0 0]) rfl (lb_ I0.size) (wanted_none rfl) r_a0_7 (fun a0_7 fa0_7 => ?_)
  clear r_a0_7
  clear fa0_6
  have r_a0_8 : (execOp a0_7.eval oYD18).run Try.prog (wr) = .ok (.value (.slice (some ⟨wr.heap.size, 0, none⟩) 1 1)) (wr.alloc (.cells #[.int .u32 (800000 + (j : Int)), .slice none 0 0] 55)) := by
    unfold oYD18
    have e35 := (show a0_7.eval (.tmp 35) = .agg #[.int .u32 (800000 + (j : Int)), .slice none 0 0] from (fa0_7.at_ 35))
    clear fa0_7 hQ h3 h5
    generalize a0_7.eval = ρ at *
    go_simp
  refine fa0_7.stepW 36 (.slice (some ⟨wr.heap.size, 0, none⟩) 1 1) rfl (lb_ I0.size) (wanted_none rfl) r_a0_8 (fun a0_8 fa0_8 => ?_)
  clear r_a0_8
  obtain ⟨W2, hW2⟩ : ∃ W2, W2 = wr.alloc (.cells #[.int .u32 (800000 + (j : Int)), .slice none 0 0] 55) := ⟨_, rfl⟩
  rw [← hW2]
  have s2 : Same wr W2 := by rw [hW2]; exact (Fr.refl _ wr).alloc _
  have hh2 : W2.heap[wr.heap.size]? = some (.cells #[.int .u32 (800000 + (j : Int)), .slice none 0 0] 55 (0, 0)) := by rw [hW2]; exact heap_alloc_new wr _
  have ow : W2.ownsRow w.heap.size 55 2 (.slice ao (n + j) cc) (n + j) (btCs M ++ mkB j) := own_frameB hc.row s2 (fun _ _ f => f)
  obtain ⟨v3, W3, hr3, o3, g3⟩ := run_partBts W2 22 ow (part_two _ _ hh2 rfl rfl) (by show n + j + 1 ≤ _; omega) (Nat.le_trans hc.same.size s2.size)
  obtain ⟨a3, c3, rfl⟩ := own_shape o3
  have hc3 : LC w W3 L n a3 c3 M (j + 1) := hc.grow (k2 := n) (marks2 := j + 1) s2 g3 (by rw [mkB_succ, ← List.append_assoc]; exact o3) hc.key (fun y hy => Or.inl hy)
  clear fa0_7
  have ea : a0_8.eval (.tmp 31) = .slice ao (n + j) cc := fa0_8.at_ 31
  have eb : a0_8.eval (.tmp 36) = .slice (some ⟨wr.heap.size, 0, none⟩) 1 1 := fa0_8.at_ 36
  have r_a0_9 : (execOp a0_8.eval oYD19).run Try.prog (W2) = .ok (.value (.slice a3 (n + j + 1) c3)) (W3) := by
    unfold oYD19
    refine exec_append rfl ?_
    rw [ea, eb]
    exact hr3
  refine fa0_8.stepW 37 (.slice a3 (n + j + 1) c3) rfl (lb_ I0.size) (wanted_none rfl) r_a0_9 (fun a0_9 fa0_9 => ?_)
  clear r_a0_9
  clear fa0_8
  refine fa0_9.move 3 (.slice a3 (n + j + 1) c3) _ (Or.inr rfl) rfl (lb_ I0.size) (wanted_none rfl) (fa0_9.at_ 37) (fun a0_10 fa0_10 => ?_)
  clear fa0_9
  refine wpList_nil ?_
  change Code.wp _ _ _ _ _
  refine wp_region_list ?_
  unfold rLC8
  refine fa0_10.move 29 (.int .i64 (j : Int)) _ (Or.inl rfl) rfl (lb_ I0.size) (wanted_none rfl) ((fa0_10.at_ 5).trans h5) (fun a0_11 fa0_11 => ?_)
  clear fa0_10
  have r_a0_12 : (execOp a0_11.eval oYD14).run Try.prog (W3) = .ok (.value (.int .i64 ((j : Int) + 1))) (W3) := by
    unfold oYD14
    have kc : ∀ v, a0_11.eval (.const v) = v := fun _ => rfl
    have e29 := (show a0_11.eval (.tmp 29) = .int .i64 (j : Int) from (fa0_11.at_ 29))
    clear fa0_11 hQ h3 h5
    generalize a0_11.eval = ρ at *
    go_simp
  refine fa0_11.step 30 (.int .i64 ((j : Int) + 1)) rfl (lb_ I0.size) (wanted_none rfl) r_a0_12 (fun a0_12 fa0_12 => ?_)
  clear r_a0_12
  clear fa0_11
  refine fa0_12.move 5 (.int .i64 ((j : Int) + 1)) _ (Or.inr rfl) rfl (lb_ I0.size) (wanted_none rfl) (fa0_12.at_ 30) (fun a0_13 fa0_13 => ?_)
  clear fa0_12
  refine wpList_nil ?_
  exact hQ a0_13 W3 a3 c3 (I0.keep fa0_13 rfl) (show a0_13.eval (.tmp 5) = .int .i64 ((j : Int) + 1) from (fa0_13.at_ 5)) (show a0_13.eval (.tmp 3) = .slice a3 (n + j + 1) c3 from (fa0_13.at_ 3)) hc3
set_option maxRecDepth 100000 in
theorem lcN {pa : Option Addr} {n cp cc : Nat} {ao : Option Addr} {Q : Exit → Act → World → Prop} (a0 : Act) (wr : World) (I0 : IL pa n cp a0) (h5 : a0.eval (.tmp 5) = .int .i64 70) (h3 : a0.eval (.tmp 3) = .slice ao (n + 70) cc)
    (hQ : ∀ a, IL pa n cp a → a.eval (.tmp 3) = .slice ao (n + 70) cc → Q (.exit 2) a wr) : cLC2.wp Try.prog Q a0 wr := by
  have fa0_0 := Fe.refl a0
  unfold cLC2
  refine wp_seq (wp_seq ?_)
  refine wp_region_list ?_
  unfold rLC7
  refine fa0_0.move 27 (.int .i64 70) _ (Or.inl rfl) rfl (lb_ I0.size) (wanted_none rfl) ((fa0_0.at_ 5).trans h5) (fun a0_1 fa0_1 => ?_)
  clear fa0_0
  have r_a0_2 : (execOp a0_1.eval oYD13).run Try.prog (wr) = .ok (.value (.bool false)) (wr) := by
    unfold oYD13
    have kc : ∀ v, a0_1.eval (.const v) = v := fun _ => rfl
    have e27 := (show a0_1.eval (.tmp 27) = .int .i64 70 from (fa0_1.at_ 27))
    clear fa0_1 hQ h3 h5
    generalize a0_1.eval = ρ at *
    go_simp
  refine fa0_1.step 28 (.bool false) rfl (lb_ I0.size) (wanted_none rfl) r_a0_2 (fun a0_2 fa0_2 => ?_)
  clear r_a0_2
  clear fa0_1
  refine wpList_nil ?_
  change Code.wp _ _ _ _ _
  refine wp_cond_false (show a0_2.eval (.tmp 28) = .bool false from (fa0_2.at_ 28)) (wp_exit ?_)
  exact hQ a0_2 (I0.keep fa0_2 rfl) (show a0_2.eval (.tmp 3) = .slice ao (n + 70) cc from ((fa0_2.at_ 3).trans h3))
theorem lcL2 {pa : Option Addr} {n cp cc : Nat} {ao : Option Addr} {L M : List Bt} {Q : Exit → Act → World → Prop} (a0 : Act) (w wr : World) (I0 : IL pa n cp a0) (h5 : a0.eval (.tmp 5) = .int .i64 ((0 : Nat) : Int)) (h3 : a0.eval (.tmp 3) = .slice ao n cc)
    (hc : LC w wr L n ao cc M 0) (hn : n ≤ 2000000)
    (hQ : ∀ a W a3 c3, IL pa n cp a → a.eval (.tmp 3) = .slice a3 (n + 70) c3 → LC w W L n a3 c3 M 70 → Q (.exit 2) a W) : (Code.loop cLC2).wp Try.prog Q a0 wr := by
  refine wp_loop (fun a W => IL pa n cp a ∧ ∃ (j : Nat) (ao : Option Addr) (cc : Nat), j ≤ 70 ∧ a.eval (.tmp 5) = .int .i64 (j : Int) ∧ a.eval (.tmp 3) = .slice ao (n + j) cc ∧ LC w W L n ao cc M j) (fun a _ => 70 - kOf a 5)
    ⟨I0, 0, ao, cc, Nat.zero_le _, h5, h3, hc⟩ ?_
  rintro a W ⟨I1, j, ao, cc, hj, g5, g3, hc⟩
  by_cases hgo : j < 70
  · refine lcM a w W I1 g5 g3 hc hgo hn (fun a' W3 a3 c3 i3 h1 h2 h5 => ?_)
    have h6 : a'.eval (.tmp 5) = .int .i64 ((j + 1 : Nat) : Int) := h1
    refine ⟨⟨i3, j + 1, a3, c3, hgo, h6, h2, h5⟩, ?_⟩
    show 70 - kOf a' 5 < 70 - kOf a 5
    rw [kOf_eq h6, kOf_eq g5]
    omega
  · obtain rfl : j = 70 := by omega
    exact lcN a W I1 g5 g3 (fun a' i2 h2 => hQ a' W ao cc i2 h2 hc)
/-- A chain that was lent: M is where its batches lie now. -/
structure LentC (W : World) (B g cc : Nat) (n : Nat) (L M : List Bt) : Prop where
  row : W.ownsRow B 55 2 (.slice (some ⟨g, 0, none⟩) (n + 70) cc) (n + 70) (btCs M ++ mkB 70)
  key : M.map Bt.key = L.map Bt.key
  lent : ∀ x ∈ M, LentX W B x
set_option maxRecDepth 100000 in
set_option maxHeartbeats 1000000 in
theorem lentC_calls {pa : Option Addr} {pb po n cp : Nat} {L : List Bt} (w : World) (hb : BiRow w pa pb po L) (hn : n = L.length) (hwt : wt L ≤ 2000000) :
    Calls Try.prog 6 #[.slice pa n cp] w fun e w' => ∃ g c M, e = .returned (.slice (some ⟨g, 0, none⟩) n c) ∧ LentC w' w.heap.size g c n L M ∧ Same w w' := by
  refine calls_abs (c := cLC) Try.func6 (by kernel_rfl) 42 rfl (by simp) (fun a0 hsz hd ha => ?_)
  have fa0_0 := Fe.refl a0
  unfold cLC
  refine wp_seq ?_
  refine wp_region_list ?_
  unfold rLC0
  refine fa0_0.move 2 (.slice none 0 0) _ (Or.inr rfl) rfl (lb_ hsz) (wanted_none rfl) rfl (fun a0_1 fa0_1 => ?_)
  clear fa0_0
  refine wpList_nil ?_
  change Code.wp _ _ _ _ _
  refine wp_seq ?_
  refine wp_region_list ?_
  unfold rLC1
  refine fa0_1.move 3 (.slice none 0 0) _ (Or.inr rfl) rfl (lb_ hsz) (wanted_none rfl) rfl (fun a0_2 fa0_2 => ?_)
  clear fa0_1
  refine wpList_nil ?_
  change Code.wp _ _ _ _ _
  refine wp_seq (wp_seq ?_)
  refine wp_region_list ?_
  unfold rLC2
  refine fa0_2.move 4 (.int .i64 ((0 : Nat) : Int)) _ (Or.inr rfl) rfl (lb_ hsz) (wanted_none rfl) rfl (fun a0_3 fa0_3 => ?_)
  clear fa0_2
  refine wpList_nil ?_
  change Code.wp _ _ _ _ _
  refine wp_block ?_
  refine lcL (by intro c a d v w h; cases d <;> exact h) a0_3 w ⟨fa0_3.size.trans hsz, fa0_3.defers.trans hd, (show a0_3.eval (.tmp 0) = .slice pa n cp from ((fa0_3.at_ 0).trans (ha 0 _ rfl)))⟩ (show a0_3.eval (.tmp 4) = .int .i64 ((0 : Nat) : Int) from (fa0_3.at_ 4)) (show a0_3.eval (.tmp 3) = .slice none 0 0 from (fa0_3.at_ 3)) hb hn hwt (fun b W ao cc M i1 b3 hc => ?_)
  change Code.wp _ _ _ _ _
  refine wp_seq (wp_seq ?_)
  have fb_0 := Fe.refl b
  refine wp_region_list ?_
  unfold rLC6
  refine fb_0.move 5 (.int .i64 ((0 : Nat) : Int)) _ (Or.inr rfl) rfl (lb_ i1.size) (wanted_none rfl) rfl (fun b_1 fb_1 => ?_)
  clear fb_0
  refine wpList_nil ?_
  change Code.wp _ _ _ _ _
  refine wp_block ?_
  refine lcL2 b_1 w W (i1.keep fb_1 rfl) (show b_1.eval (.tmp 5) = .int .i64 ((0 : Nat) : Int) from (fb_1.at_ 5)) (show b_1.eval (.tmp 3) = .slice ao n cc from ((fb_1.at_ 3).trans b3)) hc (by rw [hn]; exact Nat.le_trans (wt_len L) hwt) (fun d W4 a4 c4 i2 d3 hc4 => ?_)
  change Code.wp _ _ _ _ _
  refine wp_seq ?_
  have fd_0 := Fe.refl d
  obtain ⟨g, rfl, _⟩ := own_some (own_base hc4.row (Nat.zero_le _)) (by omega)
  obtain ⟨hc1, hc2⟩ := own_capF hc4.row
  have hci : (n : Int) ≤ (c4 : Int) := by omega
  have hcn : ¬ c4 < n := by omega
  refine wp_region_list ?_
  unfold rLC10
  refine fd_0.move 38 (.slice (some ⟨g, 0, none⟩) (n + 70) c4) _ (Or.inl rfl) rfl (lb_ i2.size) (wanted_none rfl) ((fd_0.at_ 3).trans d3) (fun d_1 fd_1 => ?_)
  clear fd_0
  refine fd_1.move 39 (.slice pa n cp) _ (Or.inl rfl) rfl (lb_ i2.size) (wanted_none rfl) ((fd_1.at_ 0).trans i2.s0) (fun d_2 fd_2 => ?_)
  clear fd_1
  have r_d_3 : (execOp d_2.eval oYD20).run Try.prog (W4) = .ok (.value (.int .i64 (n : Int))) (W4) := by
    unfold oYD20
    have e39 := (show d_2.eval (.tmp 39) = .slice pa n cp from (fd_2.at_ 39))
    clear fd_2 ha d3 hn hc4 hc1 hc2
    generalize d_2.eval = ρ at *
    go_simp
  refine fd_2.step 40 (.int .i64 (n : Int)) rfl (lb_ i2.size) (wanted_none rfl) r_d_3 (fun d_3 fd_3 => ?_)
  clear r_d_3
  clear fd_2
  have r_d_4 : (execOp d_3.eval oYD21).run Try.prog (W4) = .ok (.value (.slice (some ⟨g, 0, none⟩) n c4)) (W4) := by
    unfold oYD21
    have e38 := (show d_3.eval (.tmp 38) = .slice (some ⟨g, 0, none⟩) (n + 70) c4 from (fd_3.at_ 38))
    have e40 := (show d_3.eval (.tmp 40) = .int .i64 (n : Int) from (fd_3.at_ 40))
    clear fd_3 ha d3 hn hc4 hc1 hc2
    generalize d_3.eval = ρ at *
    go_simp
  refine fd_3.step 41 (.slice (some ⟨g, 0, none⟩) n c4) rfl (lb_ i2.size) (wanted_none rfl) r_d_4 (fun d_4 fd_4 => ?_)
  clear r_d_4
  clear fd_3
  refine fd_4.move 2 (.slice (some ⟨g, 0, none⟩) n c4) _ (Or.inr rfl) rfl (lb_ i2.size) (wanted_none rfl) (fd_4.at_ 41) (fun d_5 fd_5 => ?_)
  clear fd_4
  refine wpList_nil ?_
  change Code.wp _ _ _ _ _
  refine wp_ret ?_
  refine ret_abs rfl (fd_5.defers.trans i2.defers) (show d_5.eval (.tmp 2) = .slice (some ⟨g, 0, none⟩) n c4 from (fd_5.at_ 2)) ?_
  exact ⟨g, c4, M, rfl, ⟨hc4.row, by rw [hc4.key, hn, List.take_length], hc4.lent⟩, hc4.same⟩
end Go.Proofs.Ytneopkhkkfckcaa
