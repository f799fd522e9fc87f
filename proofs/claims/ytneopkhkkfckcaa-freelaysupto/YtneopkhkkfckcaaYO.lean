/- free: Lay. -/
import Derived.Test.YtneopkhkkfckcaaYN
namespace Go.Proofs.Ytneopkhkkfckcaa
open Go.RowKit Go.Maps

def oYO0 : Oper := { dst := some 50, op := Op.binOp BinOp.lss 3 (Operand.tmp 49) (Operand.tmp 48) 3, type := 0, pos := "chain.go:73", after := #[], guard := none }
def oYO1 : Oper := { dst := some 4, op := Op.box 39 (Operand.tmp 0), type := 0, pos := "chain.go:64", after := #[], guard := none }
def oYO2 : Oper := { dst := some 7, op := Op.box 26 (Operand.tmp 3), type := 0, pos := "chain.go:64", after := #[], guard := none }
def oYO3 : Oper := { dst := some 17, op := Op.binOp BinOp.lss 40 (Operand.tmp 16) (Operand.const (Value.int IntKind.u64 1)) 40, type := 4, pos := "chain.go:65", after := #[{ on := 0, ground := Ground.data }], guard := none }
def oYO4 : Oper := { dst := some 21, op := Op.pick (Operand.tmp 18) (Operand.const (Value.bool true)) (Operand.tmp 20), type := 4, pos := "chain.go:65", after := #[{ on := 2, ground := Ground.data }, { on := 4, ground := Ground.data }], guard := none }
def oYO5 : Oper := { dst := some 26, op := Op.pick (Operand.tmp 22) (Operand.const (Value.bool true)) (Operand.tmp 25), type := 4, pos := "chain.go:65", after := #[{ on := 6, ground := Ground.data }, { on := 9, ground := Ground.data }], guard := none }
def oYO6 : Oper := { dst := some 33, op := Op.pick (Operand.tmp 27) (Operand.const (Value.bool true)) (Operand.tmp 32), type := 4, pos := "chain.go:65", after := #[{ on := 11, ground := Ground.data }, { on := 16, ground := Ground.data }], guard := none }
def oYO7 : Oper := { dst := some 20, op := Op.binOp BinOp.gtr 40 (Operand.tmp 19) (Operand.const (Value.int IntKind.u64 1099511627776)) 40, type := 4, pos := "chain.go:65", after := #[{ on := 3, ground := Ground.data }, { on := 2, ground := Ground.guard }], guard := some (2, false) }
def oYO8 : Oper := { dst := some 23, op := Op.fieldAddr 26 (Operand.tmp 7) 2, type := 0, pos := "chain.go:65", after := #[{ on := 6, ground := Ground.guard }], guard := some (6, false) }
def oYO9 : Oper := { dst := some 24, op := Op.load 3 (Operand.tmp 23), type := 3, pos := "chain.go:65", after := #[{ on := 7, ground := Ground.data }, { on := 6, ground := Ground.guard }], guard := some (6, false) }
def oYO10 : Oper := { dst := some 25, op := Op.binOp BinOp.lss 3 (Operand.tmp 24) (Operand.const (Value.int IntKind.i64 0)) 3, type := 4, pos := "chain.go:65", after := #[{ on := 8, ground := Ground.data }, { on := 6, ground := Ground.guard }], guard := some (6, false) }
def oYO11 : Oper := { dst := some 28, op := Op.fieldAddr 26 (Operand.tmp 7) 2, type := 0, pos := "chain.go:65", after := #[{ on := 11, ground := Ground.guard }], guard := some (11, false) }
def oYO12 : Oper := { dst := some 29, op := Op.load 3 (Operand.tmp 28), type := 3, pos := "chain.go:65", after := #[{ on := 12, ground := Ground.data }, { on := 11, ground := Ground.guard }], guard := some (11, false) }
def oYO13 : Oper := { dst := some 31, op := Op.call { callee := Callee.builtin Builtin.len, args := #[Operand.tmp 30], argTypes := #[22] }, type := 3, pos := "chain.go:65", after := #[{ on := 14, ground := Ground.data }, { on := 11, ground := Ground.guard }], guard := some (11, false) }
def oYO14 : Oper := { dst := some 32, op := Op.binOp BinOp.gtr 3 (Operand.tmp 29) (Operand.tmp 31) 3, type := 4, pos := "chain.go:65", after := #[{ on := 13, ground := Ground.data }, { on := 15, ground := Ground.data }, { on := 11, ground := Ground.guard }], guard := some (11, false) }
def oYO15 : Oper := { dst := some 35, op := Op.load 26 (Operand.tmp 7), type := 26, pos := "chain.go:68", after := #[], guard := none }
def oYO16 : Oper := { dst := some 36, op := Op.call { callee := Callee.value (Operand.func 8), args := #[Operand.tmp 34, Operand.tmp 35], argTypes := #[22, 26] }, type := 22, pos := "chain.go:68", after := #[{ on := 0, ground := Ground.data }, { on := 1, ground := Ground.data }], guard := none }
def oYO17 : Oper := { dst := some 37, op := Op.load 39 (Operand.tmp 4), type := 39, pos := "chain.go:69", after := #[], guard := none }
def oYO18 : Oper := { dst := some 39, op := Op.fieldAddr 26 (Operand.tmp 7) 3, type := 0, pos := "chain.go:69", after := #[], guard := none }
def oYO19 : Oper := { dst := some 40, op := Op.load 24 (Operand.tmp 39), type := 24, pos := "chain.go:69", after := #[{ on := 2, ground := Ground.data }], guard := none }
def oYO20 : Oper := { dst := some 41, op := Op.call { callee := Callee.value (Operand.func 31), args := #[Operand.tmp 37, Operand.tmp 38, Operand.tmp 40], argTypes := #[39, 22, 24] }, type := 46, pos := "chain.go:69", after := #[{ on := 0, ground := Ground.data }, { on := 1, ground := Ground.data }, { on := 3, ground := Ground.data }], guard := none }
def oYO21 : Oper := { dst := some 42, op := Op.binOp BinOp.neq 46 (Operand.tmp 41) (Operand.const (Value.int IntKind.i64 0)) 46, type := 4, pos := "chain.go:69", after := #[{ on := 4, ground := Ground.data }], guard := none }
/-- While pages are laid: l those that lie there. -/
structure LYw (V W : World) (vr : Nat) (l : List Pgx) (lo : Option Addr) (lc : Nat) : Prop where
  same : Same V W
  row : W.ownsRow V.heap.size 52 4 (.slice lo l.length lc) l.length (pgCs vr l)
theorem LYw.next {V W W2 W3 : World} {vr lc c3 pg : Nat} {s : ByteArray} {l : List Pgx} {lo a3 : Option Addr} (h : LYw V W vr l lo lc) (sm : Same W W2) (g3 : W2.grownBy W3 (Value.slice lo l.length lc).ownBlock)
    (o3 : W3.ownsRow V.heap.size 52 4 (.slice a3 (l.length + 1) c3) (l.length + 1) (pgCs vr l ++ [.int .u8 3, .int .u32 (pg : Int), .int .u64 (vr : Int), .string s])) : LYw V W3 vr (l ++ [(pg, s)]) a3 c3 := by
  have f : Fr (fun b => (Value.slice lo l.length lc).ownBlock = some b) W2 W3 := Fr.grown (Fr.refl _ _) g3 (fun b e _ => e)
  refine ⟨Fr.trans (h.same.trans sm) f (fun b hb e => by have := own_blk h.row b e; omega), ?_⟩
  rw [List.length_append, List.length_singleton, pgCs_app]
  exact o3
theorem part_four {W : World} {g : Nat} {x y z u : Value} (t : TypeId) (fr : Nat × Nat) (h : W.heap[g]? = some (.cells #[x, y, z, u] t fr)) (h1 : x.oneCell' = true) (h2 : y.oneCell' = true) (h3 : z.oneCell' = true) (h4 : u.oneCell' = true) : PartOk W 4 ⟨some ⟨g, 0, none⟩, 1, 1, [x, y, z, u]⟩ := by
  refine ⟨rfl, fun e => (by cases e), fun a ha j v hv => ?_, fun v hv => ?_⟩
  · obtain rfl := Option.some.inj ha
    rw [Addr.add_mid, Nat.zero_add, cell_of_row _ _ _ _ _ _ h, ← Array.getElem?_toList]
    exact hv
  · simp only [List.mem_cons, List.not_mem_nil, or_false] at hv
    rcases hv with rfl | rfl | rfl | rfl <;> assumption
structure ILY (hz vr : Nat) (af : Value) (af2 : Value) (ln : Nat) (a : Act) : Prop where
  size : a.tmps.size = 75
  defers : a.defers = []
  s1 : a.eval (.tmp 1) = .int .u64 (vr : Int)
  s4 : a.eval (.tmp 4) = .pointer (some ⟨hz, 0, none⟩)
  s10 : a.eval (.tmp 10) = af
  s47 : a.eval (.tmp 47) = af2
  s48 : a.eval (.tmp 48) = .int .i64 (ln : Int)
theorem ILY.keep {hz vr ln : Nat} {af af2 : Value} {a0 a : Act} {env : List (Nat × Value)} (h : ILY hz vr af af2 ln a0) (f : Fe a0 env a) (hk : ∀ t, t = 1 ∨ t = 4 ∨ t = 10 ∨ t = 47 ∨ t = 48 → look env t (a0.eval (.tmp t)) = a0.eval (.tmp t)) : ILY hz vr af af2 ln a :=
  ⟨f.size.trans h.size, f.defers.trans h.defers, ((f.at_ 1).trans (hk 1 (by simp))).trans h.s1, ((f.at_ 4).trans (hk 4 (by simp))).trans h.s4, ((f.at_ 10).trans (hk 10 (by simp))).trans h.s10, ((f.at_ 47).trans (hk 47 (by simp))).trans h.s47, ((f.at_ 48).trans (hk 48 (by simp))).trans h.s48⟩
set_option maxRecDepth 100000 in
set_option maxHeartbeats 1000000 in
theorem lyR {p q : Int} {hz vr ga cc ln i lc nl : Nat} {lo : Option Addr} {N : List Bt} {x : Bt} {Q : Exit → Act → World → Prop} (hQp : ∀ c (a : Act) d v w, Q (.panic c) (a.put d v) w → Q (.panic c) a w) (a0 : Act) (V wr : World) (I0 : ILY hz vr (.slice (some ⟨ga, 0, none⟩) N.length cc) (.slice (some ⟨ga, 0, none⟩) ln cc) ln a0) (h49 : a0.eval (.tmp 49) = .int .i64 (i : Int)) (h11 : a0.eval (.tmp 11) = .slice lo nl lc) (hnl : nl = (laidP p q N i).length)
    (hc : LYw V wr vr (laidP p q N i) lo lc) (hx : N[i]? = some x) (hi : i < ln) (hln : ln ≤ 2000000) (d0 : wr.cell? ⟨hz, 0, none⟩ = some (.int .i64 p)) (d1 : wr.cell? ⟨hz, 1, none⟩ = some (.int .i64 q))
    (c1 : wr.cell? ⟨ga, i * 2, none⟩ = some (.int .u32 (x.pg : Int))) (c2 : wr.cell? ⟨ga, i * 2 + 1, none⟩ = some (.slice x.na x.ns.length x.nc))
    (kp : ∀ Z, Same wr Z → Calls Try.prog 32 #[.slice (some ⟨ga, 0, none⟩) N.length cc, .int .i64 ((i : Int) + 1)] Z fun e w' => e = .returned (.int .u32 (nextPg N (i + 1) : Int)) ∧ Same Z w')
    (kb : ∀ Z, Same wr Z → Calls Try.prog 22 #[.agg #[.int .i64 p, .int .i64 q], .int .u32 (nextPg N (i + 1) : Int), .slice x.na x.ns.length x.nc] Z fun e w' => e = .returned (.tuple #[.string (bodyS p q (nextPg N (i + 1)) x.ns), .int .i64 (bodyE p q (nextPg N (i + 1)) x.ns)]) ∧ Same Z w')
    (hQ : ∀ a W a4 c4, ILY hz vr (.slice (some ⟨ga, 0, none⟩) N.length cc) (.slice (some ⟨ga, 0, none⟩) ln cc) ln a → a.eval (.tmp 49) = .int .i64 ((i : Int) + 1) → a.eval (.tmp 11) = .slice a4 (laidP p q N (i + 1)).length c4 → LYw V W vr (laidP p q N (i + 1)) a4 c4 → Q .normal a W) : cLY1.wp Try.prog Q a0 wr := by
  have hii : (i : Int) < (ln : Int) := by omega
  have hnb : nl ≤ 2000000 := by rw [hnl, laidP_len]; omega
  have w7 : IntKind.i64.wrap ((i : Int) + 1) = (i : Int) + 1 := by rw [IntKind.wrap_i64]; omega
  have fa0_0 := Fe.refl a0
  unfold cLY1
  refine wp_seq ?_
  refine wp_region_list ?_
  unfold rLY8
  have r_a0_1 : (execOp a0.eval oYO0).run Try.prog (wr) = .ok (.value (.bool true)) (wr) := by
    unfold oYO0
    have e49 := (show a0.eval (.tmp 49) = .int .i64 (i : Int) from ((fa0_0.at_ 49).trans h49))
    have e48 := (show a0.eval (.tmp 48) = .int .i64 (ln : Int) from ((fa0_0.at_ 48).trans I0.s48))
    clear fa0_0 hQ h49 h11
    generalize a0.eval = ρ at *
    go_simp
  refine fa0_0.step 50 (.bool true) rfl (lb_ I0.size) (wanted_none rfl) r_a0_1 (fun a0_1 fa0_1 => ?_)
  clear r_a0_1
  clear fa0_0
  refine wpList_nil ?_
  change Code.wp _ _ _ _ _
  refine wp_seq (wp_cond_true (show a0_1.eval (.tmp 50) = .bool true from (fa0_1.at_ 50)) (wp_skip ?_))
  change Code.wp _ _ _ _ _
  refine wp_seq (wp_block (wp_seq ?_))
  refine wp_region_list ?_
  unfold rLY9
  refine fa0_1.move 51 (.int .i64 (i : Int)) _ (Or.inl rfl) rfl (lb_ I0.size) (wanted_none rfl) ((fa0_1.at_ 49).trans h49) (fun a0_2 fa0_2 => ?_)
  clear fa0_1
  have r_a0_3 : (execOp a0_2.eval { dst := some 52, op := Op.indexAddr 22 (Operand.tmp 47) (Operand.tmp 49), type := 0, pos := "chain.go:73", after := #[], guard := none }).run Try.prog (wr) = .ok (.value (.pointer (some ⟨ga, i * 2, none⟩))) (wr) := by
    have e47 := (show a0_2.eval (.tmp 47) = .slice (some ⟨ga, 0, none⟩) ln cc from ((fa0_2.at_ 47).trans I0.s47))
    have e49 := (show a0_2.eval (.tmp 49) = .int .i64 (i : Int) from ((fa0_2.at_ 49).trans h49))
    clear fa0_2 hQ h49 h11
    generalize a0_2.eval = ρ at *
    go_simp
  refine fa0_2.step 52 (.pointer (some ⟨ga, i * 2, none⟩)) rfl (lb_ I0.size) (wanted_none rfl) r_a0_3 (fun a0_3 fa0_3 => ?_)
  clear r_a0_3
  clear fa0_2
  have r_a0_4 : (execOp a0_3.eval { dst := some 53, op := Op.load 55 (Operand.tmp 52), type := 55, pos := "chain.go:73", after := #[{ on := 1, ground := Ground.data }], guard := none }).run Try.prog (wr) = .ok (.value (.agg #[.int .u32 (x.pg : Int), .slice x.na x.ns.length x.nc])) (wr) := by
    have e52 := (show a0_3.eval (.tmp 52) = .pointer (some ⟨ga, i * 2, none⟩) from (fa0_3.at_ 52))
    clear fa0_3 hQ h49 h11
    generalize a0_3.eval = ρ at *
    go_simp
  refine fa0_3.step 53 (.agg #[.int .u32 (x.pg : Int), .slice x.na x.ns.length x.nc]) rfl (lb_ I0.size) (wanted_none rfl) r_a0_4 (fun a0_4 fa0_4 => ?_)
  clear r_a0_4
  clear fa0_3
  have r_a0_5 : (execOp a0_4.eval { dst := some 13, op := Op.alloc 55, type := 0, pos := "chain.go:73", after := #[], guard := none }).run Try.prog (wr) = .ok (.value (.pointer (some ⟨wr.heap.size, 0, none⟩))) (wr.alloc (.cells #[.int .u32 0, .slice none 0 0] 55)) := by
    clear fa0_4 hQ h49 h11
    generalize a0_4.eval = ρ at *
    go_simp
  refine fa0_4.stepW 13 (.pointer (some ⟨wr.heap.size, 0, none⟩)) rfl (lb_ I0.size) (wanted_none rfl) r_a0_5 (fun a0_5 fa0_5 => ?_)
  clear r_a0_5
  clear fa0_4
  refine fa0_5.move 12 (.int .i64 (i : Int)) _ (Or.inr rfl) rfl (lb_ I0.size) (wanted_none rfl) (fa0_5.at_ 51) (fun a0_6 fa0_6 => ?_)
  clear fa0_5
  have r_a0_7 : (execOp a0_6.eval { dst := none, op := Op.store 55 (Operand.tmp 13) (Operand.tmp 53), type := 0, pos := "chain.go:73", after := #[{ on := 3, ground := Ground.data }, { on := 2, ground := Ground.data }, { on := 4, ground := Ground.chain }, { on := 0, ground := Ground.phase }, { on := 1, ground := Ground.phase }, { on := 2, ground := Ground.phase }, { on := 3, ground := Ground.phase }, { on := 4, ground := Ground.phase }], guard := none }).run Try.prog (wr.alloc (.cells #[.int .u32 0, .slice none 0 0] 55)) = .ok .skip (wr.alloc (.cells #[.int .u32 (x.pg : Int), .slice x.na x.ns.length x.nc] 55)) := by
    have e13 := (show a0_6.eval (.tmp 13) = .pointer (some ⟨wr.heap.size, 0, none⟩) from (fa0_6.at_ 13))
    have e53 := (show a0_6.eval (.tmp 53) = .agg #[.int .u32 (x.pg : Int), .slice x.na x.ns.length x.nc] from (fa0_6.at_ 53))
    clear fa0_6 hQ h49 h11
    generalize a0_6.eval = ρ at *
    go_simp
  refine fa0_6.store rfl (wanted_none rfl) r_a0_7 (fun a0_7 fa0_7 => ?_)
  clear r_a0_7
  clear fa0_6
  refine wpList_nil ?_
  obtain ⟨B, hB⟩ : ∃ B, B = wr.alloc (.cells #[.int .u32 (x.pg : Int), .slice x.na x.ns.length x.nc] 55) := ⟨_, rfl⟩
  rw [← hB]
  have sB : Same wr B := by rw [hB]; exact (Fr.refl _ wr).alloc _
  have rB : B.heap[wr.heap.size]? = some (.cells #[.int .u32 (x.pg : Int), .slice x.na x.ns.length x.nc] 55 (0, 0)) := by rw [hB]; exact heap_alloc_new wr _
  have dd : Same B B.drew := (Fr.refl (fun _ => False) B).drew
  have hcel : ∀ Z, Same B Z → Z.cell? ⟨hz, 0, none⟩ = some (.int .i64 p) ∧ Z.cell? ⟨hz, 1, none⟩ = some (.int .i64 q) ∧ Z.cell? ⟨wr.heap.size, 0, none⟩ = some (.int .u32 (x.pg : Int)) ∧ Z.cell? ⟨wr.heap.size, 1, none⟩ = some (.slice x.na x.ns.length x.nc) := fun Z s => ⟨(sB.trans s).keep d0, (sB.trans s).keep d1, s.keep ((cell_of_row _ _ _ _ _ _ rB).trans rfl), s.keep ((cell_of_row _ _ _ _ _ _ rB).trans rfl)⟩
  change Code.wp _ _ _ _ _
  refine wp_seq ?_
  refine wp_region_held_drew (ops := rLY10) (S := fun Z => Same B Z) (by kernel_rfl) (dd) (fun hS7 => ?_)
  have r_a0_8 : ∀ Z, (fun Z => Same B Z) Z → (execOp a0_7.eval { dst := some 55, op := Op.load 39 (Operand.tmp 4), type := 39, pos := "chain.go:74", after := #[], guard := none }).run Try.prog Z = .ok (.value (.agg #[.int .i64 p, .int .i64 q])) Z := fun Z hZ => by
    obtain ⟨z0, z1, z2, z3⟩ := hcel Z hZ
    have e4 := (show a0_7.eval (.tmp 4) = .pointer (some ⟨hz, 0, none⟩) from ((fa0_7.at_ 4).trans I0.s4))
    clear fa0_7 hQ h49 h11
    generalize a0_7.eval = ρ at *
    go_simp
  refine fa0_7.take 0 55 (.agg #[.int .i64 p, .int .i64 q]) rfl (by kernel_rfl) (by kernel_rfl) (by kernel_rfl) (fun _ _ _ h => hQp _ _ _ _ _ h) rfl (lb_ I0.size) (wanted_none rfl) r_a0_8 hS7 (fun a0_8 fa0_8 => ?_)
  clear r_a0_8
  clear fa0_7
  refine fa0_8.takeMove 1 56 (.slice (some ⟨ga, 0, none⟩) N.length cc) _ (Or.inl rfl) rfl (by kernel_rfl) (by kernel_rfl) (by kernel_rfl) (fun _ _ _ h => hQp _ _ _ _ _ h) rfl (lb_ I0.size) (wanted_none rfl) ((fa0_8.at_ 10).trans I0.s10) hS7 (fun a0_9 fa0_9 => ?_)
  clear fa0_8
  refine fa0_9.takeMove 2 57 (.int .i64 (i : Int)) _ (Or.inl rfl) rfl (by kernel_rfl) (by kernel_rfl) (by kernel_rfl) (fun _ _ _ h => hQp _ _ _ _ _ h) rfl (lb_ I0.size) (wanted_none rfl) (fa0_9.at_ 12) hS7 (fun a0_10 fa0_10 => ?_)
  clear fa0_9
  have r_a0_11 : ∀ Z, (fun Z => Same B Z) Z → (execOp a0_10.eval { dst := some 58, op := Op.binOp BinOp.add 3 (Operand.tmp 57) (Operand.const (Value.int IntKind.i64 1)) 3, type := 3, pos := "chain.go:74", after := #[{ on := 2, ground := Ground.data }], guard := none }).run Try.prog Z = .ok (.value (.int .i64 ((i : Int) + 1))) Z := fun Z hZ => by
    have kc : ∀ v, a0_10.eval (.const v) = v := fun _ => rfl
    have e57 := (show a0_10.eval (.tmp 57) = .int .i64 (i : Int) from (fa0_10.at_ 57))
    clear fa0_10 hQ h49 h11
    generalize a0_10.eval = ρ at *
    go_simp
  refine fa0_10.take 3 58 (.int .i64 ((i : Int) + 1)) rfl (by kernel_rfl) (by kernel_rfl) (by kernel_rfl) (fun _ _ _ h => hQp _ _ _ _ _ h) rfl (lb_ I0.size) (wanted_none rfl) r_a0_11 hS7 (fun a0_11 fa0_11 => ?_)
  clear r_a0_11
  clear fa0_10
  have r_a0_12 : ∀ Z, (fun Z => Same B Z) Z → (execOp a0_11.eval { dst := some 60, op := Op.fieldAddr 55 (Operand.tmp 13) 1, type := 0, pos := "chain.go:74", after := #[], guard := none }).run Try.prog Z = .ok (.value (.pointer (some ⟨wr.heap.size, 1, none⟩))) Z := fun Z hZ => by
    have e13 := (show a0_11.eval (.tmp 13) = .pointer (some ⟨wr.heap.size, 0, none⟩) from (fa0_11.at_ 13))
    clear fa0_11 hQ h49 h11
    generalize a0_11.eval = ρ at *
    go_simp
  refine fa0_11.take 5 60 (.pointer (some ⟨wr.heap.size, 1, none⟩)) rfl (by kernel_rfl) (by kernel_rfl) (by kernel_rfl) (fun _ _ _ h => hQp _ _ _ _ _ h) rfl (lb_ I0.size) (wanted_none rfl) r_a0_12 hS7 (fun a0_12 fa0_12 => ?_)
  clear r_a0_12
  clear fa0_11
  have r_a0_13 : ∀ Z, (fun Z => Same B Z) Z → (execOp a0_12.eval { dst := some 61, op := Op.load 23 (Operand.tmp 60), type := 23, pos := "chain.go:74", after := #[{ on := 5, ground := Ground.data }], guard := none }).run Try.prog Z = .ok (.value (.slice x.na x.ns.length x.nc)) Z := fun Z hZ => by
    obtain ⟨z0, z1, z2, z3⟩ := hcel Z hZ
    have e60 := (show a0_12.eval (.tmp 60) = .pointer (some ⟨wr.heap.size, 1, none⟩) from (fa0_12.at_ 60))
    clear fa0_12 hQ h49 h11
    generalize a0_12.eval = ρ at *
    go_simp
  refine fa0_12.take 6 61 (.slice x.na x.ns.length x.nc) rfl (by kernel_rfl) (by kernel_rfl) (by kernel_rfl) (fun _ _ _ h => hQp _ _ _ _ _ h) rfl (lb_ I0.size) (wanted_none rfl) r_a0_13 hS7 (fun a0_13 fa0_13 => ?_)
  clear r_a0_13
  clear fa0_12
  have r_a0_14 : (execOp a0_13.eval { dst := some 59, op := Op.call { callee := Callee.value (Operand.func 32), args := #[Operand.tmp 56, Operand.tmp 58], argTypes := #[22, 3] }, type := 24, pos := "chain.go:74", after := #[{ on := 1, ground := Ground.data }, { on := 3, ground := Ground.data }], guard := none }).run Try.prog (B.drew) = .ok (.enter 32 #[.slice (some ⟨ga, 0, none⟩) N.length cc, .int .i64 ((i : Int) + 1)]) (B.drew) := by
    have kf : ∀ f, a0_13.eval (.func f) = .func (.func f) #[] #[] := fun _ => rfl
    have e56 := (show a0_13.eval (.tmp 56) = .slice (some ⟨ga, 0, none⟩) N.length cc from (fa0_13.at_ 56))
    have e58 := (show a0_13.eval (.tmp 58) = .int .i64 ((i : Int) + 1) from (fa0_13.at_ 58))
    clear fa0_13 hQ h49 h11
    generalize a0_13.eval = ρ at *
    go_simp
  refine fa0_13.oneCall 4 59 (by kernel_rfl) rfl rfl (lb_ I0.size) (wanted_none rfl) r_a0_14 (kp _ (sB.trans dd)) (fun e W1 hR => ?_)
  obtain ⟨rfl, s1⟩ := hR
  clear r_a0_14
  have hS14 : (fun Z => Same B Z) W1 := dd.trans s1
  refine ⟨_, rfl, hS14, fun a0_14 fa0_14 => ?_⟩
  clear fa0_13
  have r_a0_15 : (execOp a0_14.eval { dst := some 62, op := Op.call { callee := Callee.value (Operand.func 22), args := #[Operand.tmp 55, Operand.tmp 59, Operand.tmp 61], argTypes := #[39, 24, 23] }, type := 58, pos := "chain.go:74", after := #[{ on := 0, ground := Ground.data }, { on := 4, ground := Ground.data }, { on := 6, ground := Ground.data }, { on := 4, ground := Ground.chain }], guard := none }).run Try.prog (W1) = .ok (.enter 22 #[.agg #[.int .i64 p, .int .i64 q], .int .u32 (nextPg N (i + 1) : Int), .slice x.na x.ns.length x.nc]) (W1) := by
    have kf : ∀ f, a0_14.eval (.func f) = .func (.func f) #[] #[] := fun _ => rfl
    have e55 := (show a0_14.eval (.tmp 55) = .agg #[.int .i64 p, .int .i64 q] from (fa0_14.at_ 55))
    have e59 := (show a0_14.eval (.tmp 59) = .int .u32 (nextPg N (i + 1) : Int) from (fa0_14.at_ 59))
    have e61 := (show a0_14.eval (.tmp 61) = .slice x.na x.ns.length x.nc from (fa0_14.at_ 61))
    clear fa0_14 hQ h49 h11
    generalize a0_14.eval = ρ at *
    go_simp
  refine fa0_14.oneCall 7 62 (by kernel_rfl) rfl rfl (lb_ I0.size) (wanted_none rfl) r_a0_15 (kb _ ((sB.trans dd).trans s1)) (fun e W2 hR => ?_)
  obtain ⟨rfl, s2⟩ := hR
  clear r_a0_15
  have hS15 : (fun Z => Same B Z) W2 := (dd.trans s1).trans s2
  refine ⟨_, rfl, hS15, fun a0_15 fa0_15 => ?_⟩
  clear fa0_14
  refine fa0_15.takeMove 8 54 (.tuple #[.string (bodyS p q (nextPg N (i + 1)) x.ns), .int .i64 (bodyE p q (nextPg N (i + 1)) x.ns)]) _ (Or.inl rfl) rfl (by kernel_rfl) (by kernel_rfl) (by kernel_rfl) (fun _ _ _ h => hQp _ _ _ _ _ h) rfl (lb_ I0.size) (wanted_none rfl) (fa0_15.at_ 62) hS15 (fun a0_16 fa0_16 => ?_)
  clear fa0_15
  have r_a0_17 : ∀ Z, (fun Z => Same B Z) Z → (execOp a0_16.eval { dst := some 63, op := Op.extract (Operand.tmp 54) 0, type := 9, pos := "chain.go:74", after := #[{ on := 8, ground := Ground.data }], guard := none }).run Try.prog Z = .ok (.value (.string (bodyS p q (nextPg N (i + 1)) x.ns))) Z := fun Z hZ => by
    have e54 := (show a0_16.eval (.tmp 54) = .tuple #[.string (bodyS p q (nextPg N (i + 1)) x.ns), .int .i64 (bodyE p q (nextPg N (i + 1)) x.ns)] from (fa0_16.at_ 54))
    clear fa0_16 hQ h49 h11
    generalize a0_16.eval = ρ at *
    go_simp
  refine fa0_16.take 9 63 (.string (bodyS p q (nextPg N (i + 1)) x.ns)) rfl (by kernel_rfl) (by kernel_rfl) (by kernel_rfl) (fun _ _ _ h => hQp _ _ _ _ _ h) rfl (lb_ I0.size) (wanted_none rfl) r_a0_17 hS15 (fun a0_17 fa0_17 => ?_)
  clear r_a0_17
  clear fa0_16
  have r_a0_18 : ∀ Z, (fun Z => Same B Z) Z → (execOp a0_17.eval { dst := some 64, op := Op.extract (Operand.tmp 54) 1, type := 46, pos := "chain.go:74", after := #[{ on := 8, ground := Ground.data }, { on := 11, ground := Ground.gcOnly Go.Departure.lateStores }], guard := none }).run Try.prog Z = .ok (.value (.int .i64 (bodyE p q (nextPg N (i + 1)) x.ns))) Z := fun Z hZ => by
    have e54 := (show a0_17.eval (.tmp 54) = .tuple #[.string (bodyS p q (nextPg N (i + 1)) x.ns), .int .i64 (bodyE p q (nextPg N (i + 1)) x.ns)] from (fa0_17.at_ 54))
    clear fa0_17 hQ h49 h11
    generalize a0_17.eval = ρ at *
    go_simp
  refine fa0_17.take 10 64 (.int .i64 (bodyE p q (nextPg N (i + 1)) x.ns)) rfl (by kernel_rfl) (by kernel_rfl) (by kernel_rfl) (fun _ _ _ h => hQp _ _ _ _ _ h) rfl (lb_ I0.size) (wanted_none rfl) r_a0_18 hS15 (fun a0_18 fa0_18 => ?_)
  clear r_a0_18
  clear fa0_17
  refine fa0_18.takeMove 11 14 (.string (bodyS p q (nextPg N (i + 1)) x.ns)) _ (Or.inr rfl) rfl (by kernel_rfl) (by kernel_rfl) (by kernel_rfl) (fun _ _ _ h => hQp _ _ _ _ _ h) rfl (lb_ I0.size) (wanted_none rfl) (fa0_18.at_ 63) hS15 (fun a0_19 fa0_19 => ?_)
  clear fa0_18
  refine fa0_19.takeMove 12 15 (.int .i64 (bodyE p q (nextPg N (i + 1)) x.ns)) _ (Or.inr rfl) rfl (by kernel_rfl) (by kernel_rfl) (by kernel_rfl) (fun _ _ _ h => hQp _ _ _ _ _ h) rfl (lb_ I0.size) (wanted_none rfl) (fa0_19.at_ 64) hS15 (fun a0_20 fa0_20 => ?_)
  clear fa0_19
  refine wpAnyH_done (by kernel_rfl) ?_ _
  obtain ⟨z0, z1, z2, z3⟩ := hcel W2 ((dd.trans s1).trans s2)
  have s02 : Same wr W2 := sB.trans ((dd.trans s1).trans s2)
  change Code.wp _ _ _ _ _
  refine wp_region_list ?_
  unfold rLY11
  refine fa0_20.move 65 (.slice lo nl lc) _ (Or.inl rfl) rfl (lb_ I0.size) (wanted_none rfl) ((fa0_20.at_ 11).trans h11) (fun a0_21 fa0_21 => ?_)
  clear fa0_20
  have r_a0_22 : (execOp a0_21.eval { dst := some 66, op := Op.fieldAddr 55 (Operand.tmp 13) 0, type := 0, pos := "chain.go:75", after := #[], guard := none }).run Try.prog (W2) = .ok (.value (.pointer (some ⟨wr.heap.size, 0, none⟩))) (W2) := by
    have e13 := (show a0_21.eval (.tmp 13) = .pointer (some ⟨wr.heap.size, 0, none⟩) from (fa0_21.at_ 13))
    clear fa0_21 hQ h49 h11
    generalize a0_21.eval = ρ at *
    go_simp
  refine fa0_21.step 66 (.pointer (some ⟨wr.heap.size, 0, none⟩)) rfl (lb_ I0.size) (wanted_none rfl) r_a0_22 (fun a0_22 fa0_22 => ?_)
  clear r_a0_22
  clear fa0_21
  have r_a0_23 : (execOp a0_22.eval { dst := some 67, op := Op.load 24 (Operand.tmp 66), type := 24, pos := "chain.go:75", after := #[{ on := 1, ground := Ground.data }], guard := none }).run Try.prog (W2) = .ok (.value (.int .u32 (x.pg : Int))) (W2) := by
    have e66 := (show a0_22.eval (.tmp 66) = .pointer (some ⟨wr.heap.size, 0, none⟩) from (fa0_22.at_ 66))
    clear fa0_22 hQ h49 h11
    generalize a0_22.eval = ρ at *
    go_simp
  refine fa0_22.step 67 (.int .u32 (x.pg : Int)) rfl (lb_ I0.size) (wanted_none rfl) r_a0_23 (fun a0_23 fa0_23 => ?_)
  clear r_a0_23
  clear fa0_22
  refine fa0_23.move 68 (.int .u64 (vr : Int)) _ (Or.inl rfl) rfl (lb_ I0.size) (wanted_none rfl) ((fa0_23.at_ 1).trans I0.s1) (fun a0_24 fa0_24 => ?_)
  clear fa0_23
  refine fa0_24.move 69 (.string (bodyS p q (nextPg N (i + 1)) x.ns)) _ (Or.inl rfl) rfl (lb_ I0.size) (wanted_none rfl) (fa0_24.at_ 14) (fun a0_25 fa0_25 => ?_)
  clear fa0_24
  have r_a0_26 : (execOp a0_25.eval { dst := some 70, op := Op.build 52 #[(0, Operand.const (Value.int IntKind.u8 3)), (1, Operand.tmp 67), (2, Operand.tmp 68), (3, Operand.tmp 69)], type := 52, pos := "chain.go:75", after := #[{ on := 2, ground := Ground.data }, { on := 3, ground := Ground.data }, { on := 4, ground := Ground.data }], guard := none }).run Try.prog (W2) = .ok (.value (.agg #[.int .u8 3, .int .u32 (x.pg : Int), .int .u64 (vr : Int), .string (bodyS p q (nextPg N (i + 1)) x.ns)])) (W2) := by
    have kc : ∀ v, a0_25.eval (.const v) = v := fun _ => rfl
    have e67 := (show a0_25.eval (.tmp 67) = .int .u32 (x.pg : Int) from (fa0_25.at_ 67))
    have e68 := (show a0_25.eval (.tmp 68) = .int .u64 (vr : Int) from (fa0_25.at_ 68))
    have e69 := (show a0_25.eval (.tmp 69) = .string (bodyS p q (nextPg N (i + 1)) x.ns) from (fa0_25.at_ 69))
    clear fa0_25 hQ h49 h11
    generalize a0_25.eval = ρ at *
    go_simp
  refine fa0_25.step 70 (.agg #[.int .u8 3, .int .u32 (x.pg : Int), .int .u64 (vr : Int), .string (bodyS p q (nextPg N (i + 1)) x.ns)]) rfl (lb_ I0.size) (wanted_none rfl) r_a0_26 (fun a0_26 fa0_26 => ?_)
  clear r_a0_26
  clear fa0_25
  have r_a0_27 : (execOp a0_26.eval { dst := some 71, op := Op.buildSlice 43 1 #[(0, Operand.tmp 70)], type := 43, pos := "chain.go:75", after := #[{ on := 5, ground := Ground.data }], guard := none }).run Try.prog (W2) = .ok (.value (.slice (some ⟨W2.heap.size, 0, none⟩) 1 1)) (W2.alloc (.cells #[.int .u8 3, .int .u32 (x.pg : Int), .int .u64 (vr : Int), .string (bodyS p q (nextPg N (i + 1)) x.ns)] 52)) := by
    have e70 := (show a0_26.eval (.tmp 70) = .agg #[.int .u8 3, .int .u32 (x.pg : Int), .int .u64 (vr : Int), .string (bodyS p q (nextPg N (i + 1)) x.ns)] from (fa0_26.at_ 70))
    clear fa0_26 hQ h49 h11
    generalize a0_26.eval = ρ at *
    go_simp
  refine fa0_26.stepW 71 (.slice (some ⟨W2.heap.size, 0, none⟩) 1 1) rfl (lb_ I0.size) (wanted_none rfl) r_a0_27 (fun a0_27 fa0_27 => ?_)
  clear r_a0_27
  obtain ⟨W3, hW3⟩ : ∃ W3, W3 = W2.alloc (.cells #[.int .u8 3, .int .u32 (x.pg : Int), .int .u64 (vr : Int), .string (bodyS p q (nextPg N (i + 1)) x.ns)] 52) := ⟨_, rfl⟩
  rw [← hW3]
  have s3 : Same wr W3 := by rw [hW3]; exact s02.trans ((Fr.refl _ W2).alloc _)
  have hh3 : W3.heap[W2.heap.size]? = some (.cells #[.int .u8 3, .int .u32 (x.pg : Int), .int .u64 (vr : Int), .string (bodyS p q (nextPg N (i + 1)) x.ns)] 52 (0, 0)) := by rw [hW3]; exact heap_alloc_new W2 _
  have ow : W3.ownsRow V.heap.size 52 4 (.slice lo nl lc) nl (pgCs vr (laidP p q N i)) := by rw [hnl]; exact own_frameB hc.row s3 (fun _ _ f => f)
  obtain ⟨v4, W4, hr4, o4, g4⟩ := run_partPgs W3 43 ow (part_four _ _ hh3 rfl rfl rfl rfl) (by show nl + 1 ≤ _; omega) (Nat.le_trans hc.same.size s3.size)
  obtain ⟨a4, c4, rfl⟩ := own_shape o4
  have hc4 : LYw V W4 vr (laidP p q N (i + 1)) a4 c4 := by rw [laidP_succ hx]; exact hc.next s3 (hnl ▸ g4) (hnl ▸ o4)
  clear fa0_26
  have r_a0_28 : (execOp a0_27.eval { dst := some 72, op := Op.call { callee := Callee.builtin Builtin.append, args := #[Operand.tmp 65, Operand.tmp 71], argTypes := #[43, 43] }, type := 43, pos := "chain.go:75", after := #[{ on := 0, ground := Ground.data }, { on := 6, ground := Ground.data }], guard := none }).run Try.prog (W3) = .ok (.value (.slice a4 (nl + 1) c4)) (W4) := by
    refine exec_append rfl ?_
    rw [(show a0_27.eval (.tmp 65) = .slice lo nl lc from (fa0_27.at_ 65)), (show a0_27.eval (.tmp 71) = .slice (some ⟨W2.heap.size, 0, none⟩) 1 1 from (fa0_27.at_ 71))]
    exact hr4
  refine fa0_27.stepW 72 (.slice a4 (nl + 1) c4) rfl (lb_ I0.size) (wanted_none rfl) r_a0_28 (fun a0_28 fa0_28 => ?_)
  clear r_a0_28
  clear fa0_27
  refine fa0_28.move 11 (.slice a4 (nl + 1) c4) _ (Or.inr rfl) rfl (lb_ I0.size) (wanted_none rfl) (fa0_28.at_ 72) (fun a0_29 fa0_29 => ?_)
  clear fa0_28
  refine wpList_nil ?_
  change Code.wp _ _ _ _ _
  refine wp_region_list ?_
  unfold rLY12
  have r_a0_30 : (execOp a0_29.eval { dst := some 73, op := Op.binOp BinOp.add 3 (Operand.tmp 49) (Operand.const (Value.int IntKind.i64 1)) 3, type := 3, pos := "chain.go:73", after := #[], guard := none }).run Try.prog (W4) = .ok (.value (.int .i64 ((i : Int) + 1))) (W4) := by
    have kc : ∀ v, a0_29.eval (.const v) = v := fun _ => rfl
    have e49 := (show a0_29.eval (.tmp 49) = .int .i64 (i : Int) from ((fa0_29.at_ 49).trans h49))
    clear fa0_29 hQ h49 h11
    generalize a0_29.eval = ρ at *
    go_simp
  refine fa0_29.step 73 (.int .i64 ((i : Int) + 1)) rfl (lb_ I0.size) (wanted_none rfl) r_a0_30 (fun a0_30 fa0_30 => ?_)
  clear r_a0_30
  clear fa0_29
  refine fa0_30.move 49 (.int .i64 ((i : Int) + 1)) _ (Or.inl rfl) rfl (lb_ I0.size) (wanted_none rfl) (fa0_30.at_ 73) (fun a0_31 fa0_31 => ?_)
  clear fa0_30
  refine wpList_nil ?_
  exact hQ a0_31 W4 a4 c4 (I0.keep fa0_31 (fun t ht => by rcases ht with rfl | rfl | rfl | rfl | rfl <;> rfl)) (show a0_31.eval (.tmp 49) = .int .i64 ((i : Int) + 1) from (fa0_31.at_ 49)) (by rw [laidP_len, show i + 1 = nl + 1 from by rw [hnl, laidP_len]]; exact (show a0_31.eval (.tmp 11) = .slice a4 (nl + 1) c4 from (fa0_31.at_ 11))) hc4
set_option maxRecDepth 100000 in
theorem lyE {hz vr ln lc nl : Nat} {lo : Option Addr} {af af2 : Value} {Q : Exit → Act → World → Prop} (a0 : Act) (wr : World) (I0 : ILY hz vr af af2 ln a0) (h49 : a0.eval (.tmp 49) = .int .i64 (ln : Int)) (h11 : a0.eval (.tmp 11) = .slice lo nl lc)
    (hQ : ∀ a, ILY hz vr af af2 ln a → a.eval (.tmp 11) = .slice lo nl lc → Q (.exit 0) a wr) : cLY1.wp Try.prog Q a0 wr := by
  have fa0_0 := Fe.refl a0
  unfold cLY1
  refine wp_seq ?_
  refine wp_region_list ?_
  unfold rLY8
  have r_a0_1 : (execOp a0.eval oYO0).run Try.prog (wr) = .ok (.value (.bool false)) (wr) := by
    unfold oYO0
    have e49 := (show a0.eval (.tmp 49) = .int .i64 (ln : Int) from ((fa0_0.at_ 49).trans h49))
    have e48 := (show a0.eval (.tmp 48) = .int .i64 (ln : Int) from ((fa0_0.at_ 48).trans I0.s48))
    clear fa0_0 hQ h49 h11
    generalize a0.eval = ρ at *
    go_simp
  refine fa0_0.step 50 (.bool false) rfl (lb_ I0.size) (wanted_none rfl) r_a0_1 (fun a0_1 fa0_1 => ?_)
  clear r_a0_1
  clear fa0_0
  refine wpList_nil ?_
  change Code.wp _ _ _ _ _
  refine wp_seq (wp_cond_false (show a0_1.eval (.tmp 50) = .bool false from (fa0_1.at_ 50)) (wp_exit ?_))
  exact hQ a0_1 (I0.keep fa0_1 (fun t ht => by rcases ht with rfl | rfl | rfl | rfl | rfl <;> rfl)) (show a0_1.eval (.tmp 11) = .slice lo nl lc from ((fa0_1.at_ 11).trans h11))
theorem lyL {p q : Int} {hz vr cc ln g : Nat} {ao : Option Addr} {N : List Bt} {Q : Exit → Act → World → Prop} (hQp : ∀ c (a : Act) d v w, Q (.panic c) (a.put d v) w → Q (.panic c) a w) (a0 : Act) (V : World) (I0 : ILY hz vr (.slice ao N.length cc) (.slice ao ln cc) ln a0) (h49 : a0.eval (.tmp 49) = .int .i64 ((0 : Nat) : Int)) (h11 : a0.eval (.tmp 11) = .slice none 0 0)
    (hb : BvRow V ao g 0 N) (hl : ln ≤ N.length) (hN : wt N ≤ 2000000) (d0 : V.cell? ⟨hz, 0, none⟩ = some (.int .i64 p)) (d1 : V.cell? ⟨hz, 1, none⟩ = some (.int .i64 q))
    (hQ : ∀ a W lo lc, a.defers = [] → a.tmps.size = 75 → a.eval (.tmp 11) = .slice lo (laidP p q N ln).length lc → LYw V W vr (laidP p q N ln) lo lc → Q (.exit 0) a W) : (Code.loop cLY1).wp Try.prog Q a0 V := by
  have hl2 : ln ≤ 2000000 := Nat.le_trans hl (Nat.le_trans (wt_len N) hN)
  refine wp_loop (fun a W => ILY hz vr (.slice ao N.length cc) (.slice ao ln cc) ln a ∧ ∃ (i : Nat) (lo : Option Addr) (lc : Nat), i ≤ ln ∧ a.eval (.tmp 49) = .int .i64 (i : Int) ∧ a.eval (.tmp 11) = .slice lo (laidP p q N i).length lc ∧ LYw V W vr (laidP p q N i) lo lc) (fun a _ => ln - kOf a 49) ⟨I0, 0, none, 0, Nat.zero_le _, h49, h11, Fr.refl _ V, own_nil⟩ ?_
  rintro a W ⟨I1, i, lo, lc, hi, g49, g11, hc⟩
  by_cases hgo : i < ln
  · obtain ⟨x, hx⟩ : ∃ x, N[i]? = some x := ⟨_, List.getElem?_eq_getElem (by omega)⟩
    obtain ⟨hpa, _⟩ := hb.place (by intro e; rw [e] at hx; simp at hx)
    subst hpa
    have hb1 := hb.same hc.same
    obtain ⟨e1, e2, e3⟩ := hb1.cells i x hx
    rw [Nat.zero_add] at e1 e2
    have hxl : x.ns.length ≤ 2000000 := by have := wt_mem (List.mem_of_getElem? hx); omega
    have hnx : nextPg N (i + 1) < 4294967296 := by
      unfold nextPg
      cases hy : N[i + 1]? with
      | none => simp
      | some y => exact (hb.cells (i + 1) y hy).2.2.hpg
    refine lyR (Q := Exit.then _ Q) hQp a V W I1 g49 g11 rfl hc hx hgo hl2 (hc.same.keep d0) (hc.same.keep d1) e1 e2 (fun Z s => pageAt_calls (j := i + 1) Z (hb1.same s)) (fun Z s => fbody_calls Z ((hb1.same s).cells i x hx).2.2.row (by omega) hnx) (fun a' W3 a4 c4 i3 h1 h2 h3 => ?_)
    have h4 : a'.eval (.tmp 49) = .int .i64 ((i + 1 : Nat) : Int) := h1
    refine ⟨⟨i3, i + 1, a4, c4, hgo, h4, h2, h3⟩, ?_⟩
    show ln - kOf a' 49 < ln - kOf a 49
    rw [kOf_eq h4, kOf_eq g49]
    omega
  · obtain rfl : i = ln := by omega
    exact lyE a W I1 g49 g11 (fun a' i2 h2 => hQ a' W lo lc i2.defers i2.size h2 hc)
theorem ret_abs2 {P : Program} {fn : Func} {R : Ending → World → Prop} {a : Act} {w : World} {t u : Tmp} {v x : Value} (h : fn.results = #[.tmp t, .tmp u]) (hd : a.defers = []) (hv : a.eval (.tmp t) = v) (hx : a.eval (.tmp u) = x) (hR : R (.returned (.tuple #[v, x])) w) : bodyPost P fn R .ret a w :=
  bodyPost_ret (results_tmp2 h _ _ _) hd (by rw [show a.tmps.getD t undef = v from hv, show a.tmps.getD u undef = x from hx]; exact hR)
theorem own_noneB {W : World} {B n c sz : Nat} {e : TypeId} {xs : List Value} (h : W.ownsRow B e sz (.slice none n c) n xs) : n = 0 ∧ c = 0 := by
  rcases h.2 with ⟨hv, _⟩ | ⟨g, c2, cur, hv, _⟩
  · injection hv with _ h1 h2; exact ⟨h1, h2⟩
  · injection hv with h1; cases h1
theorem slice_upto {W : World} {ao : Option Addr} {n ln cc : Nat} (h : ln ≤ n) (hc : n ≤ cc) (h0 : ao = none → n = 0 ∧ cc = 0) : (Instr.sliceAt 22 (.slice ao n cc) none (some (.int .i64 (ln : Int))) none).run Try.prog W = .ok (.slice ao ln cc) W := by
  have h1 : (ln : Int) ≤ (cc : Int) := by omega
  have h2 : ¬ cc < ln := by omega
  cases ao with
  | none =>
    obtain ⟨rfl, rfl⟩ := h0 rfl
    obtain rfl : ln = 0 := by omega
    go_simp
  | some a =>
    obtain ⟨b, o, s⟩ := a
    go_simp
set_option maxRecDepth 100000 in
set_option maxHeartbeats 1000000 in
theorem flya {p q op : Int} {vr n c g gl ln lc pgs : Nat} {tr : Value} (w : World) (h1 : vr < 1) :
    Calls Try.prog 16 #[frameV p q, .int .u64 (vr : Int), .slice (some ⟨g, 0, none⟩) n c, .agg #[tr, .slice (some ⟨gl, 0, none⟩) ln lc, .int .i64 op, .int .u32 (pgs : Int)]] w fun e w' => ∃ lo lc, e = .returned (.tuple #[.slice lo ([] : List Pgx).length lc, .int .i64 2]) ∧ w'.ownsRow w.heap.size 52 4 (.slice lo ([] : List Pgx).length lc) ([] : List Pgx).length (pgCs vr []) ∧ Same w w' := by
  have e1 : (vr : Int) < 1 := by omega
  refine calls_abs (c := cLY) Try.func16 (by kernel_rfl) 75 rfl (by simp) (fun a0 hsz hd ha => ?_)
  have fa0_0 := Fe.refl a0
  unfold cLY
  refine wp_seq ?_
  refine wp_region_list ?_
  unfold rLY0
  have r_a0_1 : (execOp a0.eval oYO1).run Try.prog (w) = .ok (.value (.pointer (some ⟨w.heap.size, 0, none⟩))) (w.alloc (.cells #[.int .i64 p, .int .i64 q] 39)) := by
    unfold oYO1
    have e0 := (show a0.eval (.tmp 0) = .agg #[.int .i64 p, .int .i64 q] from ((fa0_0.at_ 0).trans (ha 0 _ rfl)))
    clear fa0_0 ha
    generalize a0.eval = ρ at *
    go_simp
  refine fa0_0.stepW 4 (.pointer (some ⟨w.heap.size, 0, none⟩)) rfl (lb_ hsz) (wanted_none rfl) r_a0_1 (fun a0_1 fa0_1 => ?_)
  clear r_a0_1
  clear fa0_0
  have r_a0_2 : (execOp a0_1.eval oYO2).run Try.prog (w.alloc (.cells #[.int .i64 p, .int .i64 q] 39)) = .ok (.value (.pointer (some ⟨w.heap.size + 1, 0, none⟩))) ((w.alloc (.cells #[.int .i64 p, .int .i64 q] 39)).alloc (.cells #[tr, .slice (some ⟨gl, 0, none⟩) ln lc, .int .i64 op, .int .u32 (pgs : Int)] 26)) := by
    unfold oYO2
    have e3 := (show a0_1.eval (.tmp 3) = .agg #[tr, .slice (some ⟨gl, 0, none⟩) ln lc, .int .i64 op, .int .u32 (pgs : Int)] from ((fa0_1.at_ 3).trans (ha 3 _ rfl)))
    clear fa0_1 ha
    generalize a0_1.eval = ρ at *
    go_simp
  refine fa0_1.stepW 7 (.pointer (some ⟨w.heap.size + 1, 0, none⟩)) rfl (lb_ hsz) (wanted_none rfl) r_a0_2 (fun a0_2 fa0_2 => ?_)
  clear r_a0_2
  clear fa0_1
  refine fa0_2.move 8 (.slice none 0 0) _ (Or.inr rfl) rfl (lb_ hsz) (wanted_none rfl) rfl (fun a0_3 fa0_3 => ?_)
  clear fa0_2
  refine fa0_3.move 9 (.int .i64 0) _ (Or.inr rfl) rfl (lb_ hsz) (wanted_none rfl) rfl (fun a0_4 fa0_4 => ?_)
  clear fa0_3
  refine wpList_nil ?_
  obtain ⟨V, hV⟩ : ∃ V, V = (w.alloc (.cells #[.int .i64 p, .int .i64 q] 39)).alloc (.cells #[tr, .slice (some ⟨gl, 0, none⟩) ln lc, .int .i64 op, .int .u32 (pgs : Int)] 26) := ⟨_, rfl⟩
  rw [← hV]
  have sV : Same w V := by rw [hV]; exact ((Fr.refl _ w).alloc _).alloc _
  have r0 : V.heap[w.heap.size]? = some (.cells #[.int .i64 p, .int .i64 q] 39 (0, 0)) := by rw [hV]; exact (((Fr.refl (fun _ => False) (w.alloc (.cells #[.int .i64 p, .int .i64 q] 39))).alloc _).block _ (by simp) (fun f => f)).trans (heap_alloc_new w _)
  have r1 : V.heap[w.heap.size + 1]? = some (.cells #[tr, .slice (some ⟨gl, 0, none⟩) ln lc, .int .i64 op, .int .u32 (pgs : Int)] 26 (0, 0)) := by
    rw [hV]
    have := heap_alloc_new (w.alloc (.cells #[.int .i64 p, .int .i64 q] 39)) (.cells #[tr, .slice (some ⟨gl, 0, none⟩) ln lc, .int .i64 op, .int .u32 (pgs : Int)] 26)
    simpa using this
  have c0 : V.cell? ⟨w.heap.size, 0, none⟩ = some (.int .i64 p) := (cell_of_row _ _ _ _ _ _ r0).trans rfl
  have c1 : V.cell? ⟨w.heap.size, 1, none⟩ = some (.int .i64 q) := (cell_of_row _ _ _ _ _ _ r0).trans rfl
  have b0 : V.cell? ⟨w.heap.size + 1, 0, none⟩ = some tr := (cell_of_row _ _ _ _ _ _ r1).trans rfl
  have b1 : V.cell? ⟨w.heap.size + 1, 1, none⟩ = some (.slice (some ⟨gl, 0, none⟩) ln lc) := (cell_of_row _ _ _ _ _ _ r1).trans rfl
  have b2 : V.cell? ⟨w.heap.size + 1, 2, none⟩ = some (.int .i64 op) := (cell_of_row _ _ _ _ _ _ r1).trans rfl
  have b3 : V.cell? ⟨w.heap.size + 1, 3, none⟩ = some (.int .u32 (pgs : Int)) := (cell_of_row _ _ _ _ _ _ r1).trans rfl
  change Code.wp _ _ _ _ _
  refine wp_seq (wp_seq ?_)
  refine wp_region_list ?_
  unfold rLY1
  refine fa0_4.move 16 (.int .u64 (vr : Int)) _ (Or.inl rfl) rfl (lb_ hsz) (wanted_none rfl) ((fa0_4.at_ 1).trans (ha 1 _ rfl)) (fun a0_5 fa0_5 => ?_)
  clear fa0_4
  have r_a0_6 : (execOp a0_5.eval oYO3).run Try.prog (V) = .ok (.value (.bool true)) (V) := by
    unfold oYO3
    have kc : ∀ v, a0_5.eval (.const v) = v := fun _ => rfl
    have e16 := (show a0_5.eval (.tmp 16) = .int .u64 (vr : Int) from (fa0_5.at_ 16))
    clear fa0_5 ha
    generalize a0_5.eval = ρ at *
    go_simp
  refine fa0_5.step 17 (.bool true) rfl (lb_ hsz) (wanted_none rfl) r_a0_6 (fun a0_6 fa0_6 => ?_)
  clear r_a0_6
  clear fa0_5
  refine fa0_6.move 18 (.bool true) _ (Or.inl rfl) rfl (lb_ hsz) (wanted_none rfl) (fa0_6.at_ 17) (fun a0_7 fa0_7 => ?_)
  clear fa0_6
  refine fa0_7.skip 19 rfl (lb_ hsz) ((wanted_at (t := 18) (c := true) (b := false) rfl rfl rfl (lb_ (fa0_7.size.trans hsz)) (fa0_7.at_ 18)).trans (by rfl)) (fun a0_8 fa0_8 => ?_)
  clear fa0_7
  refine fa0_8.skip 20 rfl (lb_ hsz) ((wanted_at (t := 18) (c := true) (b := false) rfl rfl rfl (lb_ (fa0_8.size.trans hsz)) (fa0_8.at_ 18)).trans (by rfl)) (fun a0_9 fa0_9 => ?_)
  clear fa0_8
  have r_a0_10 : (execOp a0_9.eval oYO4).run Try.prog (V) = .ok (.value (.bool true)) (V) := by
    unfold oYO4
    have kc : ∀ v, a0_9.eval (.const v) = v := fun _ => rfl
    have e18 := (show a0_9.eval (.tmp 18) = .bool true from (fa0_9.at_ 18))
    have e20 := (show a0_9.eval (.tmp 20) = undef from (fa0_9.at_ 20))
    clear fa0_9 ha
    generalize a0_9.eval = ρ at *
    go_simp
  refine fa0_9.step 21 (.bool true) rfl (lb_ hsz) (wanted_none rfl) r_a0_10 (fun a0_10 fa0_10 => ?_)
  clear r_a0_10
  clear fa0_9
  refine fa0_10.move 22 (.bool true) _ (Or.inl rfl) rfl (lb_ hsz) (wanted_none rfl) (fa0_10.at_ 21) (fun a0_11 fa0_11 => ?_)
  clear fa0_10
  refine fa0_11.skip 23 rfl (lb_ hsz) ((wanted_at (t := 22) (c := true) (b := false) rfl rfl rfl (lb_ (fa0_11.size.trans hsz)) (fa0_11.at_ 22)).trans (by rfl)) (fun a0_12 fa0_12 => ?_)
  clear fa0_11
  refine fa0_12.skip 24 rfl (lb_ hsz) ((wanted_at (t := 22) (c := true) (b := false) rfl rfl rfl (lb_ (fa0_12.size.trans hsz)) (fa0_12.at_ 22)).trans (by rfl)) (fun a0_13 fa0_13 => ?_)
  clear fa0_12
  refine fa0_13.skip 25 rfl (lb_ hsz) ((wanted_at (t := 22) (c := true) (b := false) rfl rfl rfl (lb_ (fa0_13.size.trans hsz)) (fa0_13.at_ 22)).trans (by rfl)) (fun a0_14 fa0_14 => ?_)
  clear fa0_13
  have r_a0_15 : (execOp a0_14.eval oYO5).run Try.prog (V) = .ok (.value (.bool true)) (V) := by
    unfold oYO5
    have kc : ∀ v, a0_14.eval (.const v) = v := fun _ => rfl
    have e22 := (show a0_14.eval (.tmp 22) = .bool true from (fa0_14.at_ 22))
    have e25 := (show a0_14.eval (.tmp 25) = undef from (fa0_14.at_ 25))
    clear fa0_14 ha
    generalize a0_14.eval = ρ at *
    go_simp
  refine fa0_14.step 26 (.bool true) rfl (lb_ hsz) (wanted_none rfl) r_a0_15 (fun a0_15 fa0_15 => ?_)
  clear r_a0_15
  clear fa0_14
  refine fa0_15.move 27 (.bool true) _ (Or.inl rfl) rfl (lb_ hsz) (wanted_none rfl) (fa0_15.at_ 26) (fun a0_16 fa0_16 => ?_)
  clear fa0_15
  refine fa0_16.skip 28 rfl (lb_ hsz) ((wanted_at (t := 27) (c := true) (b := false) rfl rfl rfl (lb_ (fa0_16.size.trans hsz)) (fa0_16.at_ 27)).trans (by rfl)) (fun a0_17 fa0_17 => ?_)
  clear fa0_16
  refine fa0_17.skip 29 rfl (lb_ hsz) ((wanted_at (t := 27) (c := true) (b := false) rfl rfl rfl (lb_ (fa0_17.size.trans hsz)) (fa0_17.at_ 27)).trans (by rfl)) (fun a0_18 fa0_18 => ?_)
  clear fa0_17
  refine fa0_18.skip 30 rfl (lb_ hsz) ((wanted_at (t := 27) (c := true) (b := false) rfl rfl rfl (lb_ (fa0_18.size.trans hsz)) (fa0_18.at_ 27)).trans (by rfl)) (fun a0_19 fa0_19 => ?_)
  clear fa0_18
  refine fa0_19.skip 31 rfl (lb_ hsz) ((wanted_at (t := 27) (c := true) (b := false) rfl rfl rfl (lb_ (fa0_19.size.trans hsz)) (fa0_19.at_ 27)).trans (by rfl)) (fun a0_20 fa0_20 => ?_)
  clear fa0_19
  refine fa0_20.skip 32 rfl (lb_ hsz) ((wanted_at (t := 27) (c := true) (b := false) rfl rfl rfl (lb_ (fa0_20.size.trans hsz)) (fa0_20.at_ 27)).trans (by rfl)) (fun a0_21 fa0_21 => ?_)
  clear fa0_20
  have r_a0_22 : (execOp a0_21.eval oYO6).run Try.prog (V) = .ok (.value (.bool true)) (V) := by
    unfold oYO6
    have kc : ∀ v, a0_21.eval (.const v) = v := fun _ => rfl
    have e27 := (show a0_21.eval (.tmp 27) = .bool true from (fa0_21.at_ 27))
    have e32 := (show a0_21.eval (.tmp 32) = undef from (fa0_21.at_ 32))
    clear fa0_21 ha
    generalize a0_21.eval = ρ at *
    go_simp
  refine fa0_21.step 33 (.bool true) rfl (lb_ hsz) (wanted_none rfl) r_a0_22 (fun a0_22 fa0_22 => ?_)
  clear r_a0_22
  clear fa0_21
  refine wpList_nil ?_
  change Code.wp _ _ _ _ _
  refine wp_cond_true (show a0_22.eval (.tmp 33) = .bool true from (fa0_22.at_ 33)) (wp_seq ?_)
  refine wp_region_list ?_
  unfold rLY2
  refine fa0_22.move 8 (.slice none 0 0) _ (Or.inr rfl) rfl (lb_ hsz) (wanted_none rfl) rfl (fun a0_23 fa0_23 => ?_)
  clear fa0_22
  refine fa0_23.move 9 (.int .i64 2) _ (Or.inr rfl) rfl (lb_ hsz) (wanted_none rfl) rfl (fun a0_24 fa0_24 => ?_)
  clear fa0_23
  refine wpList_nil ?_
  change Code.wp _ _ _ _ _
  refine wp_ret ?_
  try simp only [Exit.then]
  exact ret_abs2 rfl (fa0_24.defers.trans hd) (show a0_24.eval (.tmp 8) = .slice none 0 0 from (fa0_24.at_ 8)) (show a0_24.eval (.tmp 9) = .int .i64 2 from (fa0_24.at_ 9)) ⟨none, 0, rfl, own_nil, sV⟩
set_option maxRecDepth 100000 in
set_option maxHeartbeats 1000000 in
theorem flyb {p q op : Int} {vr n c g gl ln lc pgs : Nat} {tr : Value} (w : World) (h1 : 1099511627776 < vr) :
    Calls Try.prog 16 #[frameV p q, .int .u64 (vr : Int), .slice (some ⟨g, 0, none⟩) n c, .agg #[tr, .slice (some ⟨gl, 0, none⟩) ln lc, .int .i64 op, .int .u32 (pgs : Int)]] w fun e w' => ∃ lo lc, e = .returned (.tuple #[.slice lo ([] : List Pgx).length lc, .int .i64 2]) ∧ w'.ownsRow w.heap.size 52 4 (.slice lo ([] : List Pgx).length lc) ([] : List Pgx).length (pgCs vr []) ∧ Same w w' := by
  have e1 : decide ((vr : Int) < 1) = false := decide_eq_false (by omega)
  have e2 : (1099511627776 : Int) < (vr : Int) := by omega
  refine calls_abs (c := cLY) Try.func16 (by kernel_rfl) 75 rfl (by simp) (fun a0 hsz hd ha => ?_)
  have fa0_0 := Fe.refl a0
  unfold cLY
  refine wp_seq ?_
  refine wp_region_list ?_
  unfold rLY0
  have r_a0_1 : (execOp a0.eval oYO1).run Try.prog (w) = .ok (.value (.pointer (some ⟨w.heap.size, 0, none⟩))) (w.alloc (.cells #[.int .i64 p, .int .i64 q] 39)) := by
    unfold oYO1
    have e0 := (show a0.eval (.tmp 0) = .agg #[.int .i64 p, .int .i64 q] from ((fa0_0.at_ 0).trans (ha 0 _ rfl)))
    clear fa0_0 ha
    generalize a0.eval = ρ at *
    go_simp
  refine fa0_0.stepW 4 (.pointer (some ⟨w.heap.size, 0, none⟩)) rfl (lb_ hsz) (wanted_none rfl) r_a0_1 (fun a0_1 fa0_1 => ?_)
  clear r_a0_1
  clear fa0_0
  have r_a0_2 : (execOp a0_1.eval oYO2).run Try.prog (w.alloc (.cells #[.int .i64 p, .int .i64 q] 39)) = .ok (.value (.pointer (some ⟨w.heap.size + 1, 0, none⟩))) ((w.alloc (.cells #[.int .i64 p, .int .i64 q] 39)).alloc (.cells #[tr, .slice (some ⟨gl, 0, none⟩) ln lc, .int .i64 op, .int .u32 (pgs : Int)] 26)) := by
    unfold oYO2
    have e3 := (show a0_1.eval (.tmp 3) = .agg #[tr, .slice (some ⟨gl, 0, none⟩) ln lc, .int .i64 op, .int .u32 (pgs : Int)] from ((fa0_1.at_ 3).trans (ha 3 _ rfl)))
    clear fa0_1 ha
    generalize a0_1.eval = ρ at *
    go_simp
  refine fa0_1.stepW 7 (.pointer (some ⟨w.heap.size + 1, 0, none⟩)) rfl (lb_ hsz) (wanted_none rfl) r_a0_2 (fun a0_2 fa0_2 => ?_)
  clear r_a0_2
  clear fa0_1
  refine fa0_2.move 8 (.slice none 0 0) _ (Or.inr rfl) rfl (lb_ hsz) (wanted_none rfl) rfl (fun a0_3 fa0_3 => ?_)
  clear fa0_2
  refine fa0_3.move 9 (.int .i64 0) _ (Or.inr rfl) rfl (lb_ hsz) (wanted_none rfl) rfl (fun a0_4 fa0_4 => ?_)
  clear fa0_3
  refine wpList_nil ?_
  obtain ⟨V, hV⟩ : ∃ V, V = (w.alloc (.cells #[.int .i64 p, .int .i64 q] 39)).alloc (.cells #[tr, .slice (some ⟨gl, 0, none⟩) ln lc, .int .i64 op, .int .u32 (pgs : Int)] 26) := ⟨_, rfl⟩
  rw [← hV]
  have sV : Same w V := by rw [hV]; exact ((Fr.refl _ w).alloc _).alloc _
  have r0 : V.heap[w.heap.size]? = some (.cells #[.int .i64 p, .int .i64 q] 39 (0, 0)) := by rw [hV]; exact (((Fr.refl (fun _ => False) (w.alloc (.cells #[.int .i64 p, .int .i64 q] 39))).alloc _).block _ (by simp) (fun f => f)).trans (heap_alloc_new w _)
  have r1 : V.heap[w.heap.size + 1]? = some (.cells #[tr, .slice (some ⟨gl, 0, none⟩) ln lc, .int .i64 op, .int .u32 (pgs : Int)] 26 (0, 0)) := by
    rw [hV]
    have := heap_alloc_new (w.alloc (.cells #[.int .i64 p, .int .i64 q] 39)) (.cells #[tr, .slice (some ⟨gl, 0, none⟩) ln lc, .int .i64 op, .int .u32 (pgs : Int)] 26)
    simpa using this
  have c0 : V.cell? ⟨w.heap.size, 0, none⟩ = some (.int .i64 p) := (cell_of_row _ _ _ _ _ _ r0).trans rfl
  have c1 : V.cell? ⟨w.heap.size, 1, none⟩ = some (.int .i64 q) := (cell_of_row _ _ _ _ _ _ r0).trans rfl
  have b0 : V.cell? ⟨w.heap.size + 1, 0, none⟩ = some tr := (cell_of_row _ _ _ _ _ _ r1).trans rfl
  have b1 : V.cell? ⟨w.heap.size + 1, 1, none⟩ = some (.slice (some ⟨gl, 0, none⟩) ln lc) := (cell_of_row _ _ _ _ _ _ r1).trans rfl
  have b2 : V.cell? ⟨w.heap.size + 1, 2, none⟩ = some (.int .i64 op) := (cell_of_row _ _ _ _ _ _ r1).trans rfl
  have b3 : V.cell? ⟨w.heap.size + 1, 3, none⟩ = some (.int .u32 (pgs : Int)) := (cell_of_row _ _ _ _ _ _ r1).trans rfl
  change Code.wp _ _ _ _ _
  refine wp_seq (wp_seq ?_)
  refine wp_region_list ?_
  unfold rLY1
  refine fa0_4.move 16 (.int .u64 (vr : Int)) _ (Or.inl rfl) rfl (lb_ hsz) (wanted_none rfl) ((fa0_4.at_ 1).trans (ha 1 _ rfl)) (fun a0_5 fa0_5 => ?_)
  clear fa0_4
  have r_a0_6 : (execOp a0_5.eval oYO3).run Try.prog (V) = .ok (.value (.bool false)) (V) := by
    unfold oYO3
    have kc : ∀ v, a0_5.eval (.const v) = v := fun _ => rfl
    have e16 := (show a0_5.eval (.tmp 16) = .int .u64 (vr : Int) from (fa0_5.at_ 16))
    clear fa0_5 ha
    generalize a0_5.eval = ρ at *
    go_simp
  refine fa0_5.step 17 (.bool false) rfl (lb_ hsz) (wanted_none rfl) r_a0_6 (fun a0_6 fa0_6 => ?_)
  clear r_a0_6
  clear fa0_5
  refine fa0_6.move 18 (.bool false) _ (Or.inl rfl) rfl (lb_ hsz) (wanted_none rfl) (fa0_6.at_ 17) (fun a0_7 fa0_7 => ?_)
  clear fa0_6
  refine fa0_7.move 19 (.int .u64 (vr : Int)) _ (Or.inl rfl) rfl (lb_ hsz) ((wanted_at (t := 18) (c := false) (b := false) rfl rfl rfl (lb_ (fa0_7.size.trans hsz)) (fa0_7.at_ 18)).trans (by rfl)) ((fa0_7.at_ 1).trans (ha 1 _ rfl)) (fun a0_8 fa0_8 => ?_)
  clear fa0_7
  have r_a0_9 : (execOp a0_8.eval oYO7).run Try.prog (V) = .ok (.value (.bool true)) (V) := by
    unfold oYO7
    have kc : ∀ v, a0_8.eval (.const v) = v := fun _ => rfl
    have e19 := (show a0_8.eval (.tmp 19) = .int .u64 (vr : Int) from (fa0_8.at_ 19))
    clear fa0_8 ha
    generalize a0_8.eval = ρ at *
    go_simp
  refine fa0_8.step 20 (.bool true) rfl (lb_ hsz) ((wanted_at (t := 18) (c := false) (b := false) rfl rfl rfl (lb_ (fa0_8.size.trans hsz)) (fa0_8.at_ 18)).trans (by rfl)) r_a0_9 (fun a0_9 fa0_9 => ?_)
  clear r_a0_9
  clear fa0_8
  have r_a0_10 : (execOp a0_9.eval oYO4).run Try.prog (V) = .ok (.value (.bool true)) (V) := by
    unfold oYO4
    have kc : ∀ v, a0_9.eval (.const v) = v := fun _ => rfl
    have e18 := (show a0_9.eval (.tmp 18) = .bool false from (fa0_9.at_ 18))
    have e20 := (show a0_9.eval (.tmp 20) = .bool true from (fa0_9.at_ 20))
    clear fa0_9 ha
    generalize a0_9.eval = ρ at *
    go_simp
  refine fa0_9.step 21 (.bool true) rfl (lb_ hsz) (wanted_none rfl) r_a0_10 (fun a0_10 fa0_10 => ?_)
  clear r_a0_10
  clear fa0_9
  refine fa0_10.move 22 (.bool true) _ (Or.inl rfl) rfl (lb_ hsz) (wanted_none rfl) (fa0_10.at_ 21) (fun a0_11 fa0_11 => ?_)
  clear fa0_10
  refine fa0_11.skip 23 rfl (lb_ hsz) ((wanted_at (t := 22) (c := true) (b := false) rfl rfl rfl (lb_ (fa0_11.size.trans hsz)) (fa0_11.at_ 22)).trans (by rfl)) (fun a0_12 fa0_12 => ?_)
  clear fa0_11
  refine fa0_12.skip 24 rfl (lb_ hsz) ((wanted_at (t := 22) (c := true) (b := false) rfl rfl rfl (lb_ (fa0_12.size.trans hsz)) (fa0_12.at_ 22)).trans (by rfl)) (fun a0_13 fa0_13 => ?_)
  clear fa0_12
  refine fa0_13.skip 25 rfl (lb_ hsz) ((wanted_at (t := 22) (c := true) (b := false) rfl rfl rfl (lb_ (fa0_13.size.trans hsz)) (fa0_13.at_ 22)).trans (by rfl)) (fun a0_14 fa0_14 => ?_)
  clear fa0_13
  have r_a0_15 : (execOp a0_14.eval oYO5).run Try.prog (V) = .ok (.value (.bool true)) (V) := by
    unfold oYO5
    have kc : ∀ v, a0_14.eval (.const v) = v := fun _ => rfl
    have e22 := (show a0_14.eval (.tmp 22) = .bool true from (fa0_14.at_ 22))
    have e25 := (show a0_14.eval (.tmp 25) = undef from (fa0_14.at_ 25))
    clear fa0_14 ha
    generalize a0_14.eval = ρ at *
    go_simp
  refine fa0_14.step 26 (.bool true) rfl (lb_ hsz) (wanted_none rfl) r_a0_15 (fun a0_15 fa0_15 => ?_)
  clear r_a0_15
  clear fa0_14
  refine fa0_15.move 27 (.bool true) _ (Or.inl rfl) rfl (lb_ hsz) (wanted_none rfl) (fa0_15.at_ 26) (fun a0_16 fa0_16 => ?_)
  clear fa0_15
  refine fa0_16.skip 28 rfl (lb_ hsz) ((wanted_at (t := 27) (c := true) (b := false) rfl rfl rfl (lb_ (fa0_16.size.trans hsz)) (fa0_16.at_ 27)).trans (by rfl)) (fun a0_17 fa0_17 => ?_)
  clear fa0_16
  refine fa0_17.skip 29 rfl (lb_ hsz) ((wanted_at (t := 27) (c := true) (b := false) rfl rfl rfl (lb_ (fa0_17.size.trans hsz)) (fa0_17.at_ 27)).trans (by rfl)) (fun a0_18 fa0_18 => ?_)
  clear fa0_17
  refine fa0_18.skip 30 rfl (lb_ hsz) ((wanted_at (t := 27) (c := true) (b := false) rfl rfl rfl (lb_ (fa0_18.size.trans hsz)) (fa0_18.at_ 27)).trans (by rfl)) (fun a0_19 fa0_19 => ?_)
  clear fa0_18
  refine fa0_19.skip 31 rfl (lb_ hsz) ((wanted_at (t := 27) (c := true) (b := false) rfl rfl rfl (lb_ (fa0_19.size.trans hsz)) (fa0_19.at_ 27)).trans (by rfl)) (fun a0_20 fa0_20 => ?_)
  clear fa0_19
  refine fa0_20.skip 32 rfl (lb_ hsz) ((wanted_at (t := 27) (c := true) (b := false) rfl rfl rfl (lb_ (fa0_20.size.trans hsz)) (fa0_20.at_ 27)).trans (by rfl)) (fun a0_21 fa0_21 => ?_)
  clear fa0_20
  have r_a0_22 : (execOp a0_21.eval oYO6).run Try.prog (V) = .ok (.value (.bool true)) (V) := by
    unfold oYO6
    have kc : ∀ v, a0_21.eval (.const v) = v := fun _ => rfl
    have e27 := (show a0_21.eval (.tmp 27) = .bool true from (fa0_21.at_ 27))
    have e32 := (show a0_21.eval (.tmp 32) = undef from (fa0_21.at_ 32))
    clear fa0_21 ha
    generalize a0_21.eval = ρ at *
    go_simp
  refine fa0_21.step 33 (.bool true) rfl (lb_ hsz) (wanted_none rfl) r_a0_22 (fun a0_22 fa0_22 => ?_)
  clear r_a0_22
  clear fa0_21
  refine wpList_nil ?_
  change Code.wp _ _ _ _ _
  refine wp_cond_true (show a0_22.eval (.tmp 33) = .bool true from (fa0_22.at_ 33)) (wp_seq ?_)
  refine wp_region_list ?_
  unfold rLY2
  refine fa0_22.move 8 (.slice none 0 0) _ (Or.inr rfl) rfl (lb_ hsz) (wanted_none rfl) rfl (fun a0_23 fa0_23 => ?_)
  clear fa0_22
  refine fa0_23.move 9 (.int .i64 2) _ (Or.inr rfl) rfl (lb_ hsz) (wanted_none rfl) rfl (fun a0_24 fa0_24 => ?_)
  clear fa0_23
  refine wpList_nil ?_
  change Code.wp _ _ _ _ _
  refine wp_ret ?_
  try simp only [Exit.then]
  exact ret_abs2 rfl (fa0_24.defers.trans hd) (show a0_24.eval (.tmp 8) = .slice none 0 0 from (fa0_24.at_ 8)) (show a0_24.eval (.tmp 9) = .int .i64 2 from (fa0_24.at_ 9)) ⟨none, 0, rfl, own_nil, sV⟩
set_option maxRecDepth 100000 in
set_option maxHeartbeats 1000000 in
theorem flyc {p q op : Int} {vr n c g gl ln lc pgs : Nat} {tr : Value} (w : World) (h1 : 1 ≤ vr) (h2 : vr ≤ 1099511627776) (h3 : op < 0) :
    Calls Try.prog 16 #[frameV p q, .int .u64 (vr : Int), .slice (some ⟨g, 0, none⟩) n c, .agg #[tr, .slice (some ⟨gl, 0, none⟩) ln lc, .int .i64 op, .int .u32 (pgs : Int)]] w fun e w' => ∃ lo lc, e = .returned (.tuple #[.slice lo ([] : List Pgx).length lc, .int .i64 2]) ∧ w'.ownsRow w.heap.size 52 4 (.slice lo ([] : List Pgx).length lc) ([] : List Pgx).length (pgCs vr []) ∧ Same w w' := by
  have e1 : decide ((vr : Int) < 1) = false := decide_eq_false (by omega)
  have e2 : decide ((1099511627776 : Int) < (vr : Int)) = false := decide_eq_false (by omega)
  refine calls_abs (c := cLY) Try.func16 (by kernel_rfl) 75 rfl (by simp) (fun a0 hsz hd ha => ?_)
  have fa0_0 := Fe.refl a0
  unfold cLY
  refine wp_seq ?_
  refine wp_region_list ?_
  unfold rLY0
  have r_a0_1 : (execOp a0.eval oYO1).run Try.prog (w) = .ok (.value (.pointer (some ⟨w.heap.size, 0, none⟩))) (w.alloc (.cells #[.int .i64 p, .int .i64 q] 39)) := by
    unfold oYO1
    have e0 := (show a0.eval (.tmp 0) = .agg #[.int .i64 p, .int .i64 q] from ((fa0_0.at_ 0).trans (ha 0 _ rfl)))
    clear fa0_0 ha
    generalize a0.eval = ρ at *
    go_simp
  refine fa0_0.stepW 4 (.pointer (some ⟨w.heap.size, 0, none⟩)) rfl (lb_ hsz) (wanted_none rfl) r_a0_1 (fun a0_1 fa0_1 => ?_)
  clear r_a0_1
  clear fa0_0
  have r_a0_2 : (execOp a0_1.eval oYO2).run Try.prog (w.alloc (.cells #[.int .i64 p, .int .i64 q] 39)) = .ok (.value (.pointer (some ⟨w.heap.size + 1, 0, none⟩))) ((w.alloc (.cells #[.int .i64 p, .int .i64 q] 39)).alloc (.cells #[tr, .slice (some ⟨gl, 0, none⟩) ln lc, .int .i64 op, .int .u32 (pgs : Int)] 26)) := by
    unfold oYO2
    have e3 := (show a0_1.eval (.tmp 3) = .agg #[tr, .slice (some ⟨gl, 0, none⟩) ln lc, .int .i64 op, .int .u32 (pgs : Int)] from ((fa0_1.at_ 3).trans (ha 3 _ rfl)))
    clear fa0_1 ha
    generalize a0_1.eval = ρ at *
    go_simp
  refine fa0_1.stepW 7 (.pointer (some ⟨w.heap.size + 1, 0, none⟩)) rfl (lb_ hsz) (wanted_none rfl) r_a0_2 (fun a0_2 fa0_2 => ?_)
  clear r_a0_2
  clear fa0_1
  refine fa0_2.move 8 (.slice none 0 0) _ (Or.inr rfl) rfl (lb_ hsz) (wanted_none rfl) rfl (fun a0_3 fa0_3 => ?_)
  clear fa0_2
  refine fa0_3.move 9 (.int .i64 0) _ (Or.inr rfl) rfl (lb_ hsz) (wanted_none rfl) rfl (fun a0_4 fa0_4 => ?_)
  clear fa0_3
  refine wpList_nil ?_
  obtain ⟨V, hV⟩ : ∃ V, V = (w.alloc (.cells #[.int .i64 p, .int .i64 q] 39)).alloc (.cells #[tr, .slice (some ⟨gl, 0, none⟩) ln lc, .int .i64 op, .int .u32 (pgs : Int)] 26) := ⟨_, rfl⟩
  rw [← hV]
  have sV : Same w V := by rw [hV]; exact ((Fr.refl _ w).alloc _).alloc _
  have r0 : V.heap[w.heap.size]? = some (.cells #[.int .i64 p, .int .i64 q] 39 (0, 0)) := by rw [hV]; exact (((Fr.refl (fun _ => False) (w.alloc (.cells #[.int .i64 p, .int .i64 q] 39))).alloc _).block _ (by simp) (fun f => f)).trans (heap_alloc_new w _)
  have r1 : V.heap[w.heap.size + 1]? = some (.cells #[tr, .slice (some ⟨gl, 0, none⟩) ln lc, .int .i64 op, .int .u32 (pgs : Int)] 26 (0, 0)) := by
    rw [hV]
    have := heap_alloc_new (w.alloc (.cells #[.int .i64 p, .int .i64 q] 39)) (.cells #[tr, .slice (some ⟨gl, 0, none⟩) ln lc, .int .i64 op, .int .u32 (pgs : Int)] 26)
    simpa using this
  have c0 : V.cell? ⟨w.heap.size, 0, none⟩ = some (.int .i64 p) := (cell_of_row _ _ _ _ _ _ r0).trans rfl
  have c1 : V.cell? ⟨w.heap.size, 1, none⟩ = some (.int .i64 q) := (cell_of_row _ _ _ _ _ _ r0).trans rfl
  have b0 : V.cell? ⟨w.heap.size + 1, 0, none⟩ = some tr := (cell_of_row _ _ _ _ _ _ r1).trans rfl
  have b1 : V.cell? ⟨w.heap.size + 1, 1, none⟩ = some (.slice (some ⟨gl, 0, none⟩) ln lc) := (cell_of_row _ _ _ _ _ _ r1).trans rfl
  have b2 : V.cell? ⟨w.heap.size + 1, 2, none⟩ = some (.int .i64 op) := (cell_of_row _ _ _ _ _ _ r1).trans rfl
  have b3 : V.cell? ⟨w.heap.size + 1, 3, none⟩ = some (.int .u32 (pgs : Int)) := (cell_of_row _ _ _ _ _ _ r1).trans rfl
  change Code.wp _ _ _ _ _
  refine wp_seq (wp_seq ?_)
  refine wp_region_list ?_
  unfold rLY1
  refine fa0_4.move 16 (.int .u64 (vr : Int)) _ (Or.inl rfl) rfl (lb_ hsz) (wanted_none rfl) ((fa0_4.at_ 1).trans (ha 1 _ rfl)) (fun a0_5 fa0_5 => ?_)
  clear fa0_4
  have r_a0_6 : (execOp a0_5.eval oYO3).run Try.prog (V) = .ok (.value (.bool false)) (V) := by
    unfold oYO3
    have kc : ∀ v, a0_5.eval (.const v) = v := fun _ => rfl
    have e16 := (show a0_5.eval (.tmp 16) = .int .u64 (vr : Int) from (fa0_5.at_ 16))
    clear fa0_5 ha
    generalize a0_5.eval = ρ at *
    go_simp
  refine fa0_5.step 17 (.bool false) rfl (lb_ hsz) (wanted_none rfl) r_a0_6 (fun a0_6 fa0_6 => ?_)
  clear r_a0_6
  clear fa0_5
  refine fa0_6.move 18 (.bool false) _ (Or.inl rfl) rfl (lb_ hsz) (wanted_none rfl) (fa0_6.at_ 17) (fun a0_7 fa0_7 => ?_)
  clear fa0_6
  refine fa0_7.move 19 (.int .u64 (vr : Int)) _ (Or.inl rfl) rfl (lb_ hsz) ((wanted_at (t := 18) (c := false) (b := false) rfl rfl rfl (lb_ (fa0_7.size.trans hsz)) (fa0_7.at_ 18)).trans (by rfl)) ((fa0_7.at_ 1).trans (ha 1 _ rfl)) (fun a0_8 fa0_8 => ?_)
  clear fa0_7
  have r_a0_9 : (execOp a0_8.eval oYO7).run Try.prog (V) = .ok (.value (.bool false)) (V) := by
    unfold oYO7
    have kc : ∀ v, a0_8.eval (.const v) = v := fun _ => rfl
    have e19 := (show a0_8.eval (.tmp 19) = .int .u64 (vr : Int) from (fa0_8.at_ 19))
    clear fa0_8 ha
    generalize a0_8.eval = ρ at *
    go_simp
  refine fa0_8.step 20 (.bool false) rfl (lb_ hsz) ((wanted_at (t := 18) (c := false) (b := false) rfl rfl rfl (lb_ (fa0_8.size.trans hsz)) (fa0_8.at_ 18)).trans (by rfl)) r_a0_9 (fun a0_9 fa0_9 => ?_)
  clear r_a0_9
  clear fa0_8
  have r_a0_10 : (execOp a0_9.eval oYO4).run Try.prog (V) = .ok (.value (.bool false)) (V) := by
    unfold oYO4
    have kc : ∀ v, a0_9.eval (.const v) = v := fun _ => rfl
    have e18 := (show a0_9.eval (.tmp 18) = .bool false from (fa0_9.at_ 18))
    have e20 := (show a0_9.eval (.tmp 20) = .bool false from (fa0_9.at_ 20))
    clear fa0_9 ha
    generalize a0_9.eval = ρ at *
    go_simp
  refine fa0_9.step 21 (.bool false) rfl (lb_ hsz) (wanted_none rfl) r_a0_10 (fun a0_10 fa0_10 => ?_)
  clear r_a0_10
  clear fa0_9
  refine fa0_10.move 22 (.bool false) _ (Or.inl rfl) rfl (lb_ hsz) (wanted_none rfl) (fa0_10.at_ 21) (fun a0_11 fa0_11 => ?_)
  clear fa0_10
  have r_a0_12 : (execOp a0_11.eval oYO8).run Try.prog (V) = .ok (.value (.pointer (some ⟨w.heap.size + 1, 2, none⟩))) (V) := by
    unfold oYO8
    have e7 := (show a0_11.eval (.tmp 7) = .pointer (some ⟨w.heap.size + 1, 0, none⟩) from (fa0_11.at_ 7))
    clear fa0_11 ha
    generalize a0_11.eval = ρ at *
    go_simp
  refine fa0_11.step 23 (.pointer (some ⟨w.heap.size + 1, 2, none⟩)) rfl (lb_ hsz) ((wanted_at (t := 22) (c := false) (b := false) rfl rfl rfl (lb_ (fa0_11.size.trans hsz)) (fa0_11.at_ 22)).trans (by rfl)) r_a0_12 (fun a0_12 fa0_12 => ?_)
  clear r_a0_12
  clear fa0_11
  have r_a0_13 : (execOp a0_12.eval oYO9).run Try.prog (V) = .ok (.value (.int .i64 op)) (V) := by
    unfold oYO9
    have e23 := (show a0_12.eval (.tmp 23) = .pointer (some ⟨w.heap.size + 1, 2, none⟩) from (fa0_12.at_ 23))
    clear fa0_12 ha
    generalize a0_12.eval = ρ at *
    go_simp
  refine fa0_12.step 24 (.int .i64 op) rfl (lb_ hsz) ((wanted_at (t := 22) (c := false) (b := false) rfl rfl rfl (lb_ (fa0_12.size.trans hsz)) (fa0_12.at_ 22)).trans (by rfl)) r_a0_13 (fun a0_13 fa0_13 => ?_)
  clear r_a0_13
  clear fa0_12
  have r_a0_14 : (execOp a0_13.eval oYO10).run Try.prog (V) = .ok (.value (.bool true)) (V) := by
    unfold oYO10
    have kc : ∀ v, a0_13.eval (.const v) = v := fun _ => rfl
    have e24 := (show a0_13.eval (.tmp 24) = .int .i64 op from (fa0_13.at_ 24))
    clear fa0_13 ha
    generalize a0_13.eval = ρ at *
    go_simp
  refine fa0_13.step 25 (.bool true) rfl (lb_ hsz) ((wanted_at (t := 22) (c := false) (b := false) rfl rfl rfl (lb_ (fa0_13.size.trans hsz)) (fa0_13.at_ 22)).trans (by rfl)) r_a0_14 (fun a0_14 fa0_14 => ?_)
  clear r_a0_14
  clear fa0_13
  have r_a0_15 : (execOp a0_14.eval oYO5).run Try.prog (V) = .ok (.value (.bool true)) (V) := by
    unfold oYO5
    have kc : ∀ v, a0_14.eval (.const v) = v := fun _ => rfl
    have e22 := (show a0_14.eval (.tmp 22) = .bool false from (fa0_14.at_ 22))
    have e25 := (show a0_14.eval (.tmp 25) = .bool true from (fa0_14.at_ 25))
    clear fa0_14 ha
    generalize a0_14.eval = ρ at *
    go_simp
  refine fa0_14.step 26 (.bool true) rfl (lb_ hsz) (wanted_none rfl) r_a0_15 (fun a0_15 fa0_15 => ?_)
  clear r_a0_15
  clear fa0_14
  refine fa0_15.move 27 (.bool true) _ (Or.inl rfl) rfl (lb_ hsz) (wanted_none rfl) (fa0_15.at_ 26) (fun a0_16 fa0_16 => ?_)
  clear fa0_15
  refine fa0_16.skip 28 rfl (lb_ hsz) ((wanted_at (t := 27) (c := true) (b := false) rfl rfl rfl (lb_ (fa0_16.size.trans hsz)) (fa0_16.at_ 27)).trans (by rfl)) (fun a0_17 fa0_17 => ?_)
  clear fa0_16
  refine fa0_17.skip 29 rfl (lb_ hsz) ((wanted_at (t := 27) (c := true) (b := false) rfl rfl rfl (lb_ (fa0_17.size.trans hsz)) (fa0_17.at_ 27)).trans (by rfl)) (fun a0_18 fa0_18 => ?_)
  clear fa0_17
  refine fa0_18.skip 30 rfl (lb_ hsz) ((wanted_at (t := 27) (c := true) (b := false) rfl rfl rfl (lb_ (fa0_18.size.trans hsz)) (fa0_18.at_ 27)).trans (by rfl)) (fun a0_19 fa0_19 => ?_)
  clear fa0_18
  refine fa0_19.skip 31 rfl (lb_ hsz) ((wanted_at (t := 27) (c := true) (b := false) rfl rfl rfl (lb_ (fa0_19.size.trans hsz)) (fa0_19.at_ 27)).trans (by rfl)) (fun a0_20 fa0_20 => ?_)
  clear fa0_19
  refine fa0_20.skip 32 rfl (lb_ hsz) ((wanted_at (t := 27) (c := true) (b := false) rfl rfl rfl (lb_ (fa0_20.size.trans hsz)) (fa0_20.at_ 27)).trans (by rfl)) (fun a0_21 fa0_21 => ?_)
  clear fa0_20
  have r_a0_22 : (execOp a0_21.eval oYO6).run Try.prog (V) = .ok (.value (.bool true)) (V) := by
    unfold oYO6
    have kc : ∀ v, a0_21.eval (.const v) = v := fun _ => rfl
    have e27 := (show a0_21.eval (.tmp 27) = .bool true from (fa0_21.at_ 27))
    have e32 := (show a0_21.eval (.tmp 32) = undef from (fa0_21.at_ 32))
    clear fa0_21 ha
    generalize a0_21.eval = ρ at *
    go_simp
  refine fa0_21.step 33 (.bool true) rfl (lb_ hsz) (wanted_none rfl) r_a0_22 (fun a0_22 fa0_22 => ?_)
  clear r_a0_22
  clear fa0_21
  refine wpList_nil ?_
  change Code.wp _ _ _ _ _
  refine wp_cond_true (show a0_22.eval (.tmp 33) = .bool true from (fa0_22.at_ 33)) (wp_seq ?_)
  refine wp_region_list ?_
  unfold rLY2
  refine fa0_22.move 8 (.slice none 0 0) _ (Or.inr rfl) rfl (lb_ hsz) (wanted_none rfl) rfl (fun a0_23 fa0_23 => ?_)
  clear fa0_22
  refine fa0_23.move 9 (.int .i64 2) _ (Or.inr rfl) rfl (lb_ hsz) (wanted_none rfl) rfl (fun a0_24 fa0_24 => ?_)
  clear fa0_23
  refine wpList_nil ?_
  change Code.wp _ _ _ _ _
  refine wp_ret ?_
  try simp only [Exit.then]
  exact ret_abs2 rfl (fa0_24.defers.trans hd) (show a0_24.eval (.tmp 8) = .slice none 0 0 from (fa0_24.at_ 8)) (show a0_24.eval (.tmp 9) = .int .i64 2 from (fa0_24.at_ 9)) ⟨none, 0, rfl, own_nil, sV⟩
set_option maxRecDepth 100000 in
set_option maxHeartbeats 1000000 in
theorem flyd {p q op : Int} {vr n c g gl ln lc pgs : Nat} {tr : Value} (w : World) (h1 : 1 ≤ vr) (h2 : vr ≤ 1099511627776) (h4 : (n : Int) < op) :
    Calls Try.prog 16 #[frameV p q, .int .u64 (vr : Int), .slice (some ⟨g, 0, none⟩) n c, .agg #[tr, .slice (some ⟨gl, 0, none⟩) ln lc, .int .i64 op, .int .u32 (pgs : Int)]] w fun e w' => ∃ lo lc, e = .returned (.tuple #[.slice lo ([] : List Pgx).length lc, .int .i64 2]) ∧ w'.ownsRow w.heap.size 52 4 (.slice lo ([] : List Pgx).length lc) ([] : List Pgx).length (pgCs vr []) ∧ Same w w' := by
  have e1 : decide ((vr : Int) < 1) = false := decide_eq_false (by omega)
  have e2 : decide ((1099511627776 : Int) < (vr : Int)) = false := decide_eq_false (by omega)
  have e3 : decide (op < 0) = false := decide_eq_false (by omega)
  refine calls_abs (c := cLY) Try.func16 (by kernel_rfl) 75 rfl (by simp) (fun a0 hsz hd ha => ?_)
  have fa0_0 := Fe.refl a0
  unfold cLY
  refine wp_seq ?_
  refine wp_region_list ?_
  unfold rLY0
  have r_a0_1 : (execOp a0.eval oYO1).run Try.prog (w) = .ok (.value (.pointer (some ⟨w.heap.size, 0, none⟩))) (w.alloc (.cells #[.int .i64 p, .int .i64 q] 39)) := by
    unfold oYO1
    have e0 := (show a0.eval (.tmp 0) = .agg #[.int .i64 p, .int .i64 q] from ((fa0_0.at_ 0).trans (ha 0 _ rfl)))
    clear fa0_0 ha
    generalize a0.eval = ρ at *
    go_simp
  refine fa0_0.stepW 4 (.pointer (some ⟨w.heap.size, 0, none⟩)) rfl (lb_ hsz) (wanted_none rfl) r_a0_1 (fun a0_1 fa0_1 => ?_)
  clear r_a0_1
  clear fa0_0
  have r_a0_2 : (execOp a0_1.eval oYO2).run Try.prog (w.alloc (.cells #[.int .i64 p, .int .i64 q] 39)) = .ok (.value (.pointer (some ⟨w.heap.size + 1, 0, none⟩))) ((w.alloc (.cells #[.int .i64 p, .int .i64 q] 39)).alloc (.cells #[tr, .slice (some ⟨gl, 0, none⟩) ln lc, .int .i64 op, .int .u32 (pgs : Int)] 26)) := by
    unfold oYO2
    have e3 := (show a0_1.eval (.tmp 3) = .agg #[tr, .slice (some ⟨gl, 0, none⟩) ln lc, .int .i64 op, .int .u32 (pgs : Int)] from ((fa0_1.at_ 3).trans (ha 3 _ rfl)))
    clear fa0_1 ha
    generalize a0_1.eval = ρ at *
    go_simp
  refine fa0_1.stepW 7 (.pointer (some ⟨w.heap.size + 1, 0, none⟩)) rfl (lb_ hsz) (wanted_none rfl) r_a0_2 (fun a0_2 fa0_2 => ?_)
  clear r_a0_2
  clear fa0_1
  refine fa0_2.move 8 (.slice none 0 0) _ (Or.inr rfl) rfl (lb_ hsz) (wanted_none rfl) rfl (fun a0_3 fa0_3 => ?_)
  clear fa0_2
  refine fa0_3.move 9 (.int .i64 0) _ (Or.inr rfl) rfl (lb_ hsz) (wanted_none rfl) rfl (fun a0_4 fa0_4 => ?_)
  clear fa0_3
  refine wpList_nil ?_
  obtain ⟨V, hV⟩ : ∃ V, V = (w.alloc (.cells #[.int .i64 p, .int .i64 q] 39)).alloc (.cells #[tr, .slice (some ⟨gl, 0, none⟩) ln lc, .int .i64 op, .int .u32 (pgs : Int)] 26) := ⟨_, rfl⟩
  rw [← hV]
  have sV : Same w V := by rw [hV]; exact ((Fr.refl _ w).alloc _).alloc _
  have r0 : V.heap[w.heap.size]? = some (.cells #[.int .i64 p, .int .i64 q] 39 (0, 0)) := by rw [hV]; exact (((Fr.refl (fun _ => False) (w.alloc (.cells #[.int .i64 p, .int .i64 q] 39))).alloc _).block _ (by simp) (fun f => f)).trans (heap_alloc_new w _)
  have r1 : V.heap[w.heap.size + 1]? = some (.cells #[tr, .slice (some ⟨gl, 0, none⟩) ln lc, .int .i64 op, .int .u32 (pgs : Int)] 26 (0, 0)) := by
    rw [hV]
    have := heap_alloc_new (w.alloc (.cells #[.int .i64 p, .int .i64 q] 39)) (.cells #[tr, .slice (some ⟨gl, 0, none⟩) ln lc, .int .i64 op, .int .u32 (pgs : Int)] 26)
    simpa using this
  have c0 : V.cell? ⟨w.heap.size, 0, none⟩ = some (.int .i64 p) := (cell_of_row _ _ _ _ _ _ r0).trans rfl
  have c1 : V.cell? ⟨w.heap.size, 1, none⟩ = some (.int .i64 q) := (cell_of_row _ _ _ _ _ _ r0).trans rfl
  have b0 : V.cell? ⟨w.heap.size + 1, 0, none⟩ = some tr := (cell_of_row _ _ _ _ _ _ r1).trans rfl
  have b1 : V.cell? ⟨w.heap.size + 1, 1, none⟩ = some (.slice (some ⟨gl, 0, none⟩) ln lc) := (cell_of_row _ _ _ _ _ _ r1).trans rfl
  have b2 : V.cell? ⟨w.heap.size + 1, 2, none⟩ = some (.int .i64 op) := (cell_of_row _ _ _ _ _ _ r1).trans rfl
  have b3 : V.cell? ⟨w.heap.size + 1, 3, none⟩ = some (.int .u32 (pgs : Int)) := (cell_of_row _ _ _ _ _ _ r1).trans rfl
  change Code.wp _ _ _ _ _
  refine wp_seq (wp_seq ?_)
  refine wp_region_list ?_
  unfold rLY1
  refine fa0_4.move 16 (.int .u64 (vr : Int)) _ (Or.inl rfl) rfl (lb_ hsz) (wanted_none rfl) ((fa0_4.at_ 1).trans (ha 1 _ rfl)) (fun a0_5 fa0_5 => ?_)
  clear fa0_4
  have r_a0_6 : (execOp a0_5.eval oYO3).run Try.prog (V) = .ok (.value (.bool false)) (V) := by
    unfold oYO3
    have kc : ∀ v, a0_5.eval (.const v) = v := fun _ => rfl
    have e16 := (show a0_5.eval (.tmp 16) = .int .u64 (vr : Int) from (fa0_5.at_ 16))
    clear fa0_5 ha
    generalize a0_5.eval = ρ at *
    go_simp
  refine fa0_5.step 17 (.bool false) rfl (lb_ hsz) (wanted_none rfl) r_a0_6 (fun a0_6 fa0_6 => ?_)
  clear r_a0_6
  clear fa0_5
  refine fa0_6.move 18 (.bool false) _ (Or.inl rfl) rfl (lb_ hsz) (wanted_none rfl) (fa0_6.at_ 17) (fun a0_7 fa0_7 => ?_)
  clear fa0_6
  refine fa0_7.move 19 (.int .u64 (vr : Int)) _ (Or.inl rfl) rfl (lb_ hsz) ((wanted_at (t := 18) (c := false) (b := false) rfl rfl rfl (lb_ (fa0_7.size.trans hsz)) (fa0_7.at_ 18)).trans (by rfl)) ((fa0_7.at_ 1).trans (ha 1 _ rfl)) (fun a0_8 fa0_8 => ?_)
  clear fa0_7
  have r_a0_9 : (execOp a0_8.eval oYO7).run Try.prog (V) = .ok (.value (.bool false)) (V) := by
    unfold oYO7
    have kc : ∀ v, a0_8.eval (.const v) = v := fun _ => rfl
    have e19 := (show a0_8.eval (.tmp 19) = .int .u64 (vr : Int) from (fa0_8.at_ 19))
    clear fa0_8 ha
    generalize a0_8.eval = ρ at *
    go_simp
  refine fa0_8.step 20 (.bool false) rfl (lb_ hsz) ((wanted_at (t := 18) (c := false) (b := false) rfl rfl rfl (lb_ (fa0_8.size.trans hsz)) (fa0_8.at_ 18)).trans (by rfl)) r_a0_9 (fun a0_9 fa0_9 => ?_)
  clear r_a0_9
  clear fa0_8
  have r_a0_10 : (execOp a0_9.eval oYO4).run Try.prog (V) = .ok (.value (.bool false)) (V) := by
    unfold oYO4
    have kc : ∀ v, a0_9.eval (.const v) = v := fun _ => rfl
    have e18 := (show a0_9.eval (.tmp 18) = .bool false from (fa0_9.at_ 18))
    have e20 := (show a0_9.eval (.tmp 20) = .bool false from (fa0_9.at_ 20))
    clear fa0_9 ha
    generalize a0_9.eval = ρ at *
    go_simp
  refine fa0_9.step 21 (.bool false) rfl (lb_ hsz) (wanted_none rfl) r_a0_10 (fun a0_10 fa0_10 => ?_)
  clear r_a0_10
  clear fa0_9
  refine fa0_10.move 22 (.bool false) _ (Or.inl rfl) rfl (lb_ hsz) (wanted_none rfl) (fa0_10.at_ 21) (fun a0_11 fa0_11 => ?_)
  clear fa0_10
  have r_a0_12 : (execOp a0_11.eval oYO8).run Try.prog (V) = .ok (.value (.pointer (some ⟨w.heap.size + 1, 2, none⟩))) (V) := by
    unfold oYO8
    have e7 := (show a0_11.eval (.tmp 7) = .pointer (some ⟨w.heap.size + 1, 0, none⟩) from (fa0_11.at_ 7))
    clear fa0_11 ha
    generalize a0_11.eval = ρ at *
    go_simp
  refine fa0_11.step 23 (.pointer (some ⟨w.heap.size + 1, 2, none⟩)) rfl (lb_ hsz) ((wanted_at (t := 22) (c := false) (b := false) rfl rfl rfl (lb_ (fa0_11.size.trans hsz)) (fa0_11.at_ 22)).trans (by rfl)) r_a0_12 (fun a0_12 fa0_12 => ?_)
  clear r_a0_12
  clear fa0_11
  have r_a0_13 : (execOp a0_12.eval oYO9).run Try.prog (V) = .ok (.value (.int .i64 op)) (V) := by
    unfold oYO9
    have e23 := (show a0_12.eval (.tmp 23) = .pointer (some ⟨w.heap.size + 1, 2, none⟩) from (fa0_12.at_ 23))
    clear fa0_12 ha
    generalize a0_12.eval = ρ at *
    go_simp
  refine fa0_12.step 24 (.int .i64 op) rfl (lb_ hsz) ((wanted_at (t := 22) (c := false) (b := false) rfl rfl rfl (lb_ (fa0_12.size.trans hsz)) (fa0_12.at_ 22)).trans (by rfl)) r_a0_13 (fun a0_13 fa0_13 => ?_)
  clear r_a0_13
  clear fa0_12
  have r_a0_14 : (execOp a0_13.eval oYO10).run Try.prog (V) = .ok (.value (.bool false)) (V) := by
    unfold oYO10
    have kc : ∀ v, a0_13.eval (.const v) = v := fun _ => rfl
    have e24 := (show a0_13.eval (.tmp 24) = .int .i64 op from (fa0_13.at_ 24))
    clear fa0_13 ha
    generalize a0_13.eval = ρ at *
    go_simp
  refine fa0_13.step 25 (.bool false) rfl (lb_ hsz) ((wanted_at (t := 22) (c := false) (b := false) rfl rfl rfl (lb_ (fa0_13.size.trans hsz)) (fa0_13.at_ 22)).trans (by rfl)) r_a0_14 (fun a0_14 fa0_14 => ?_)
  clear r_a0_14
  clear fa0_13
  have r_a0_15 : (execOp a0_14.eval oYO5).run Try.prog (V) = .ok (.value (.bool false)) (V) := by
    unfold oYO5
    have kc : ∀ v, a0_14.eval (.const v) = v := fun _ => rfl
    have e22 := (show a0_14.eval (.tmp 22) = .bool false from (fa0_14.at_ 22))
    have e25 := (show a0_14.eval (.tmp 25) = .bool false from (fa0_14.at_ 25))
    clear fa0_14 ha
    generalize a0_14.eval = ρ at *
    go_simp
  refine fa0_14.step 26 (.bool false) rfl (lb_ hsz) (wanted_none rfl) r_a0_15 (fun a0_15 fa0_15 => ?_)
  clear r_a0_15
  clear fa0_14
  refine fa0_15.move 27 (.bool false) _ (Or.inl rfl) rfl (lb_ hsz) (wanted_none rfl) (fa0_15.at_ 26) (fun a0_16 fa0_16 => ?_)
  clear fa0_15
  have r_a0_17 : (execOp a0_16.eval oYO11).run Try.prog (V) = .ok (.value (.pointer (some ⟨w.heap.size + 1, 2, none⟩))) (V) := by
    unfold oYO11
    have e7 := (show a0_16.eval (.tmp 7) = .pointer (some ⟨w.heap.size + 1, 0, none⟩) from (fa0_16.at_ 7))
    clear fa0_16 ha
    generalize a0_16.eval = ρ at *
    go_simp
  refine fa0_16.step 28 (.pointer (some ⟨w.heap.size + 1, 2, none⟩)) rfl (lb_ hsz) ((wanted_at (t := 27) (c := false) (b := false) rfl rfl rfl (lb_ (fa0_16.size.trans hsz)) (fa0_16.at_ 27)).trans (by rfl)) r_a0_17 (fun a0_17 fa0_17 => ?_)
  clear r_a0_17
  clear fa0_16
  have r_a0_18 : (execOp a0_17.eval oYO12).run Try.prog (V) = .ok (.value (.int .i64 op)) (V) := by
    unfold oYO12
    have e28 := (show a0_17.eval (.tmp 28) = .pointer (some ⟨w.heap.size + 1, 2, none⟩) from (fa0_17.at_ 28))
    clear fa0_17 ha
    generalize a0_17.eval = ρ at *
    go_simp
  refine fa0_17.step 29 (.int .i64 op) rfl (lb_ hsz) ((wanted_at (t := 27) (c := false) (b := false) rfl rfl rfl (lb_ (fa0_17.size.trans hsz)) (fa0_17.at_ 27)).trans (by rfl)) r_a0_18 (fun a0_18 fa0_18 => ?_)
  clear r_a0_18
  clear fa0_17
  refine fa0_18.move 30 (.slice (some ⟨g, 0, none⟩) n c) _ (Or.inl rfl) rfl (lb_ hsz) ((wanted_at (t := 27) (c := false) (b := false) rfl rfl rfl (lb_ (fa0_18.size.trans hsz)) (fa0_18.at_ 27)).trans (by rfl)) ((fa0_18.at_ 2).trans (ha 2 _ rfl)) (fun a0_19 fa0_19 => ?_)
  clear fa0_18
  have r_a0_20 : (execOp a0_19.eval oYO13).run Try.prog (V) = .ok (.value (.int .i64 (n : Int))) (V) := by
    unfold oYO13
    have e30 := (show a0_19.eval (.tmp 30) = .slice (some ⟨g, 0, none⟩) n c from (fa0_19.at_ 30))
    clear fa0_19 ha
    generalize a0_19.eval = ρ at *
    go_simp
  refine fa0_19.step 31 (.int .i64 (n : Int)) rfl (lb_ hsz) ((wanted_at (t := 27) (c := false) (b := false) rfl rfl rfl (lb_ (fa0_19.size.trans hsz)) (fa0_19.at_ 27)).trans (by rfl)) r_a0_20 (fun a0_20 fa0_20 => ?_)
  clear r_a0_20
  clear fa0_19
  have r_a0_21 : (execOp a0_20.eval oYO14).run Try.prog (V) = .ok (.value (.bool true)) (V) := by
    unfold oYO14
    have e29 := (show a0_20.eval (.tmp 29) = .int .i64 op from (fa0_20.at_ 29))
    have e31 := (show a0_20.eval (.tmp 31) = .int .i64 (n : Int) from (fa0_20.at_ 31))
    clear fa0_20 ha
    generalize a0_20.eval = ρ at *
    go_simp
  refine fa0_20.step 32 (.bool true) rfl (lb_ hsz) ((wanted_at (t := 27) (c := false) (b := false) rfl rfl rfl (lb_ (fa0_20.size.trans hsz)) (fa0_20.at_ 27)).trans (by rfl)) r_a0_21 (fun a0_21 fa0_21 => ?_)
  clear r_a0_21
  clear fa0_20
  have r_a0_22 : (execOp a0_21.eval oYO6).run Try.prog (V) = .ok (.value (.bool true)) (V) := by
    unfold oYO6
    have kc : ∀ v, a0_21.eval (.const v) = v := fun _ => rfl
    have e27 := (show a0_21.eval (.tmp 27) = .bool false from (fa0_21.at_ 27))
    have e32 := (show a0_21.eval (.tmp 32) = .bool true from (fa0_21.at_ 32))
    clear fa0_21 ha
    generalize a0_21.eval = ρ at *
    go_simp
  refine fa0_21.step 33 (.bool true) rfl (lb_ hsz) (wanted_none rfl) r_a0_22 (fun a0_22 fa0_22 => ?_)
  clear r_a0_22
  clear fa0_21
  refine wpList_nil ?_
  change Code.wp _ _ _ _ _
  refine wp_cond_true (show a0_22.eval (.tmp 33) = .bool true from (fa0_22.at_ 33)) (wp_seq ?_)
  refine wp_region_list ?_
  unfold rLY2
  refine fa0_22.move 8 (.slice none 0 0) _ (Or.inr rfl) rfl (lb_ hsz) (wanted_none rfl) rfl (fun a0_23 fa0_23 => ?_)
  clear fa0_22
  refine fa0_23.move 9 (.int .i64 2) _ (Or.inr rfl) rfl (lb_ hsz) (wanted_none rfl) rfl (fun a0_24 fa0_24 => ?_)
  clear fa0_23
  refine wpList_nil ?_
  change Code.wp _ _ _ _ _
  refine wp_ret ?_
  try simp only [Exit.then]
  exact ret_abs2 rfl (fa0_24.defers.trans hd) (show a0_24.eval (.tmp 8) = .slice none 0 0 from (fa0_24.at_ 8)) (show a0_24.eval (.tmp 9) = .int .i64 2 from (fa0_24.at_ 9)) ⟨none, 0, rfl, own_nil, sV⟩
set_option maxRecDepth 100000 in
set_option maxHeartbeats 1000000 in
theorem flye {p q : Int} {vr n c g gl ln lc pgs k : Nat} {tr : Value} {M ML : List Bt} (w : World) (hM : BvRow w (some ⟨g, 0, none⟩) g 0 M) (hML : BvRow w (some ⟨gl, 0, none⟩) gl 0 ML) (hn : n = M.length) (hln : ln = ML.length) (hnc : n < c) (hwt : wt (ML ++ M.drop k) ≤ 1048576) (h1 : 1 ≤ vr) (h2 : vr ≤ 1099511627776) (hkn : k ≤ n) (hce : ¬ chkE p q pgs (ML ++ M.drop k) = 0) :
    Calls Try.prog 16 #[frameV p q, .int .u64 (vr : Int), .slice (some ⟨g, 0, none⟩) n c, .agg #[tr, .slice (some ⟨gl, 0, none⟩) ln lc, .int .i64 (k : Int), .int .u32 (pgs : Int)]] w fun e w' => ∃ lo lc, e = .returned (.tuple #[.slice lo ([] : List Pgx).length lc, .int .i64 2]) ∧ w'.ownsRow w.heap.size 52 4 (.slice lo ([] : List Pgx).length lc) ([] : List Pgx).length (pgCs vr []) ∧ Same w w' := by
  have e1 : decide ((vr : Int) < 1) = false := decide_eq_false (by omega)
  have e2 : decide ((1099511627776 : Int) < (vr : Int)) = false := decide_eq_false (by omega)
  have e3 : decide ((k : Int) < 0) = false := decide_eq_false (by omega)
  have e4 : decide ((n : Int) < (k : Int)) = false := decide_eq_false (by omega)
  have hk2 : (k : Int) = min (max (k : Int) 0) (n : Int) := by omega
  refine calls_abs (c := cLY) Try.func16 (by kernel_rfl) 75 rfl (by simp) (fun a0 hsz hd ha => ?_)
  have fa0_0 := Fe.refl a0
  unfold cLY
  refine wp_seq ?_
  refine wp_region_list ?_
  unfold rLY0
  have r_a0_1 : (execOp a0.eval oYO1).run Try.prog (w) = .ok (.value (.pointer (some ⟨w.heap.size, 0, none⟩))) (w.alloc (.cells #[.int .i64 p, .int .i64 q] 39)) := by
    unfold oYO1
    have e0 := (show a0.eval (.tmp 0) = .agg #[.int .i64 p, .int .i64 q] from ((fa0_0.at_ 0).trans (ha 0 _ rfl)))
    clear fa0_0 ha hk2 hn hln
    generalize a0.eval = ρ at *
    go_simp
  refine fa0_0.stepW 4 (.pointer (some ⟨w.heap.size, 0, none⟩)) rfl (lb_ hsz) (wanted_none rfl) r_a0_1 (fun a0_1 fa0_1 => ?_)
  clear r_a0_1
  clear fa0_0
  have r_a0_2 : (execOp a0_1.eval oYO2).run Try.prog (w.alloc (.cells #[.int .i64 p, .int .i64 q] 39)) = .ok (.value (.pointer (some ⟨w.heap.size + 1, 0, none⟩))) ((w.alloc (.cells #[.int .i64 p, .int .i64 q] 39)).alloc (.cells #[tr, .slice (some ⟨gl, 0, none⟩) ln lc, .int .i64 (k : Int), .int .u32 (pgs : Int)] 26)) := by
    unfold oYO2
    have e3 := (show a0_1.eval (.tmp 3) = .agg #[tr, .slice (some ⟨gl, 0, none⟩) ln lc, .int .i64 (k : Int), .int .u32 (pgs : Int)] from ((fa0_1.at_ 3).trans (ha 3 _ rfl)))
    clear fa0_1 ha hk2 hn hln
    generalize a0_1.eval = ρ at *
    go_simp
  refine fa0_1.stepW 7 (.pointer (some ⟨w.heap.size + 1, 0, none⟩)) rfl (lb_ hsz) (wanted_none rfl) r_a0_2 (fun a0_2 fa0_2 => ?_)
  clear r_a0_2
  clear fa0_1
  refine fa0_2.move 8 (.slice none 0 0) _ (Or.inr rfl) rfl (lb_ hsz) (wanted_none rfl) rfl (fun a0_3 fa0_3 => ?_)
  clear fa0_2
  refine fa0_3.move 9 (.int .i64 0) _ (Or.inr rfl) rfl (lb_ hsz) (wanted_none rfl) rfl (fun a0_4 fa0_4 => ?_)
  clear fa0_3
  refine wpList_nil ?_
  obtain ⟨V, hV⟩ : ∃ V, V = (w.alloc (.cells #[.int .i64 p, .int .i64 q] 39)).alloc (.cells #[tr, .slice (some ⟨gl, 0, none⟩) ln lc, .int .i64 (k : Int), .int .u32 (pgs : Int)] 26) := ⟨_, rfl⟩
  rw [← hV]
  have sV : Same w V := by rw [hV]; exact ((Fr.refl _ w).alloc _).alloc _
  have r0 : V.heap[w.heap.size]? = some (.cells #[.int .i64 p, .int .i64 q] 39 (0, 0)) := by rw [hV]; exact (((Fr.refl (fun _ => False) (w.alloc (.cells #[.int .i64 p, .int .i64 q] 39))).alloc _).block _ (by simp) (fun f => f)).trans (heap_alloc_new w _)
  have r1 : V.heap[w.heap.size + 1]? = some (.cells #[tr, .slice (some ⟨gl, 0, none⟩) ln lc, .int .i64 (k : Int), .int .u32 (pgs : Int)] 26 (0, 0)) := by
    rw [hV]
    have := heap_alloc_new (w.alloc (.cells #[.int .i64 p, .int .i64 q] 39)) (.cells #[tr, .slice (some ⟨gl, 0, none⟩) ln lc, .int .i64 (k : Int), .int .u32 (pgs : Int)] 26)
    simpa using this
  have c0 : V.cell? ⟨w.heap.size, 0, none⟩ = some (.int .i64 p) := (cell_of_row _ _ _ _ _ _ r0).trans rfl
  have c1 : V.cell? ⟨w.heap.size, 1, none⟩ = some (.int .i64 q) := (cell_of_row _ _ _ _ _ _ r0).trans rfl
  have b0 : V.cell? ⟨w.heap.size + 1, 0, none⟩ = some tr := (cell_of_row _ _ _ _ _ _ r1).trans rfl
  have b1 : V.cell? ⟨w.heap.size + 1, 1, none⟩ = some (.slice (some ⟨gl, 0, none⟩) ln lc) := (cell_of_row _ _ _ _ _ _ r1).trans rfl
  have b2 : V.cell? ⟨w.heap.size + 1, 2, none⟩ = some (.int .i64 (k : Int)) := (cell_of_row _ _ _ _ _ _ r1).trans rfl
  have b3 : V.cell? ⟨w.heap.size + 1, 3, none⟩ = some (.int .u32 (pgs : Int)) := (cell_of_row _ _ _ _ _ _ r1).trans rfl
  change Code.wp _ _ _ _ _
  refine wp_seq (wp_seq ?_)
  refine wp_region_list ?_
  unfold rLY1
  refine fa0_4.move 16 (.int .u64 (vr : Int)) _ (Or.inl rfl) rfl (lb_ hsz) (wanted_none rfl) ((fa0_4.at_ 1).trans (ha 1 _ rfl)) (fun a0_5 fa0_5 => ?_)
  clear fa0_4
  have r_a0_6 : (execOp a0_5.eval oYO3).run Try.prog (V) = .ok (.value (.bool false)) (V) := by
    unfold oYO3
    have kc : ∀ v, a0_5.eval (.const v) = v := fun _ => rfl
    have e16 := (show a0_5.eval (.tmp 16) = .int .u64 (vr : Int) from (fa0_5.at_ 16))
    clear fa0_5 ha hk2 hn hln
    generalize a0_5.eval = ρ at *
    go_simp
  refine fa0_5.step 17 (.bool false) rfl (lb_ hsz) (wanted_none rfl) r_a0_6 (fun a0_6 fa0_6 => ?_)
  clear r_a0_6
  clear fa0_5
  refine fa0_6.move 18 (.bool false) _ (Or.inl rfl) rfl (lb_ hsz) (wanted_none rfl) (fa0_6.at_ 17) (fun a0_7 fa0_7 => ?_)
  clear fa0_6
  refine fa0_7.move 19 (.int .u64 (vr : Int)) _ (Or.inl rfl) rfl (lb_ hsz) ((wanted_at (t := 18) (c := false) (b := false) rfl rfl rfl (lb_ (fa0_7.size.trans hsz)) (fa0_7.at_ 18)).trans (by rfl)) ((fa0_7.at_ 1).trans (ha 1 _ rfl)) (fun a0_8 fa0_8 => ?_)
  clear fa0_7
  have r_a0_9 : (execOp a0_8.eval oYO7).run Try.prog (V) = .ok (.value (.bool false)) (V) := by
    unfold oYO7
    have kc : ∀ v, a0_8.eval (.const v) = v := fun _ => rfl
    have e19 := (show a0_8.eval (.tmp 19) = .int .u64 (vr : Int) from (fa0_8.at_ 19))
    clear fa0_8 ha hk2 hn hln
    generalize a0_8.eval = ρ at *
    go_simp
  refine fa0_8.step 20 (.bool false) rfl (lb_ hsz) ((wanted_at (t := 18) (c := false) (b := false) rfl rfl rfl (lb_ (fa0_8.size.trans hsz)) (fa0_8.at_ 18)).trans (by rfl)) r_a0_9 (fun a0_9 fa0_9 => ?_)
  clear r_a0_9
  clear fa0_8
  have r_a0_10 : (execOp a0_9.eval oYO4).run Try.prog (V) = .ok (.value (.bool false)) (V) := by
    unfold oYO4
    have kc : ∀ v, a0_9.eval (.const v) = v := fun _ => rfl
    have e18 := (show a0_9.eval (.tmp 18) = .bool false from (fa0_9.at_ 18))
    have e20 := (show a0_9.eval (.tmp 20) = .bool false from (fa0_9.at_ 20))
    clear fa0_9 ha hk2 hn hln
    generalize a0_9.eval = ρ at *
    go_simp
  refine fa0_9.step 21 (.bool false) rfl (lb_ hsz) (wanted_none rfl) r_a0_10 (fun a0_10 fa0_10 => ?_)
  clear r_a0_10
  clear fa0_9
  refine fa0_10.move 22 (.bool false) _ (Or.inl rfl) rfl (lb_ hsz) (wanted_none rfl) (fa0_10.at_ 21) (fun a0_11 fa0_11 => ?_)
  clear fa0_10
  have r_a0_12 : (execOp a0_11.eval oYO8).run Try.prog (V) = .ok (.value (.pointer (some ⟨w.heap.size + 1, 2, none⟩))) (V) := by
    unfold oYO8
    have e7 := (show a0_11.eval (.tmp 7) = .pointer (some ⟨w.heap.size + 1, 0, none⟩) from (fa0_11.at_ 7))
    clear fa0_11 ha hk2 hn hln
    generalize a0_11.eval = ρ at *
    go_simp
  refine fa0_11.step 23 (.pointer (some ⟨w.heap.size + 1, 2, none⟩)) rfl (lb_ hsz) ((wanted_at (t := 22) (c := false) (b := false) rfl rfl rfl (lb_ (fa0_11.size.trans hsz)) (fa0_11.at_ 22)).trans (by rfl)) r_a0_12 (fun a0_12 fa0_12 => ?_)
  clear r_a0_12
  clear fa0_11
  have r_a0_13 : (execOp a0_12.eval oYO9).run Try.prog (V) = .ok (.value (.int .i64 (k : Int))) (V) := by
    unfold oYO9
    have e23 := (show a0_12.eval (.tmp 23) = .pointer (some ⟨w.heap.size + 1, 2, none⟩) from (fa0_12.at_ 23))
    clear fa0_12 ha hk2 hn hln
    generalize a0_12.eval = ρ at *
    go_simp
  refine fa0_12.step 24 (.int .i64 (k : Int)) rfl (lb_ hsz) ((wanted_at (t := 22) (c := false) (b := false) rfl rfl rfl (lb_ (fa0_12.size.trans hsz)) (fa0_12.at_ 22)).trans (by rfl)) r_a0_13 (fun a0_13 fa0_13 => ?_)
  clear r_a0_13
  clear fa0_12
  have r_a0_14 : (execOp a0_13.eval oYO10).run Try.prog (V) = .ok (.value (.bool false)) (V) := by
    unfold oYO10
    have kc : ∀ v, a0_13.eval (.const v) = v := fun _ => rfl
    have e24 := (show a0_13.eval (.tmp 24) = .int .i64 (k : Int) from (fa0_13.at_ 24))
    clear fa0_13 ha hk2 hn hln
    generalize a0_13.eval = ρ at *
    go_simp
  refine fa0_13.step 25 (.bool false) rfl (lb_ hsz) ((wanted_at (t := 22) (c := false) (b := false) rfl rfl rfl (lb_ (fa0_13.size.trans hsz)) (fa0_13.at_ 22)).trans (by rfl)) r_a0_14 (fun a0_14 fa0_14 => ?_)
  clear r_a0_14
  clear fa0_13
  have r_a0_15 : (execOp a0_14.eval oYO5).run Try.prog (V) = .ok (.value (.bool false)) (V) := by
    unfold oYO5
    have kc : ∀ v, a0_14.eval (.const v) = v := fun _ => rfl
    have e22 := (show a0_14.eval (.tmp 22) = .bool false from (fa0_14.at_ 22))
    have e25 := (show a0_14.eval (.tmp 25) = .bool false from (fa0_14.at_ 25))
    clear fa0_14 ha hk2 hn hln
    generalize a0_14.eval = ρ at *
    go_simp
  refine fa0_14.step 26 (.bool false) rfl (lb_ hsz) (wanted_none rfl) r_a0_15 (fun a0_15 fa0_15 => ?_)
  clear r_a0_15
  clear fa0_14
  refine fa0_15.move 27 (.bool false) _ (Or.inl rfl) rfl (lb_ hsz) (wanted_none rfl) (fa0_15.at_ 26) (fun a0_16 fa0_16 => ?_)
  clear fa0_15
  have r_a0_17 : (execOp a0_16.eval oYO11).run Try.prog (V) = .ok (.value (.pointer (some ⟨w.heap.size + 1, 2, none⟩))) (V) := by
    unfold oYO11
    have e7 := (show a0_16.eval (.tmp 7) = .pointer (some ⟨w.heap.size + 1, 0, none⟩) from (fa0_16.at_ 7))
    clear fa0_16 ha hk2 hn hln
    generalize a0_16.eval = ρ at *
    go_simp
  refine fa0_16.step 28 (.pointer (some ⟨w.heap.size + 1, 2, none⟩)) rfl (lb_ hsz) ((wanted_at (t := 27) (c := false) (b := false) rfl rfl rfl (lb_ (fa0_16.size.trans hsz)) (fa0_16.at_ 27)).trans (by rfl)) r_a0_17 (fun a0_17 fa0_17 => ?_)
  clear r_a0_17
  clear fa0_16
  have r_a0_18 : (execOp a0_17.eval oYO12).run Try.prog (V) = .ok (.value (.int .i64 (k : Int))) (V) := by
    unfold oYO12
    have e28 := (show a0_17.eval (.tmp 28) = .pointer (some ⟨w.heap.size + 1, 2, none⟩) from (fa0_17.at_ 28))
    clear fa0_17 ha hk2 hn hln
    generalize a0_17.eval = ρ at *
    go_simp
  refine fa0_17.step 29 (.int .i64 (k : Int)) rfl (lb_ hsz) ((wanted_at (t := 27) (c := false) (b := false) rfl rfl rfl (lb_ (fa0_17.size.trans hsz)) (fa0_17.at_ 27)).trans (by rfl)) r_a0_18 (fun a0_18 fa0_18 => ?_)
  clear r_a0_18
  clear fa0_17
  refine fa0_18.move 30 (.slice (some ⟨g, 0, none⟩) n c) _ (Or.inl rfl) rfl (lb_ hsz) ((wanted_at (t := 27) (c := false) (b := false) rfl rfl rfl (lb_ (fa0_18.size.trans hsz)) (fa0_18.at_ 27)).trans (by rfl)) ((fa0_18.at_ 2).trans (ha 2 _ rfl)) (fun a0_19 fa0_19 => ?_)
  clear fa0_18
  have r_a0_20 : (execOp a0_19.eval oYO13).run Try.prog (V) = .ok (.value (.int .i64 (n : Int))) (V) := by
    unfold oYO13
    have e30 := (show a0_19.eval (.tmp 30) = .slice (some ⟨g, 0, none⟩) n c from (fa0_19.at_ 30))
    clear fa0_19 ha hk2 hn hln
    generalize a0_19.eval = ρ at *
    go_simp
  refine fa0_19.step 31 (.int .i64 (n : Int)) rfl (lb_ hsz) ((wanted_at (t := 27) (c := false) (b := false) rfl rfl rfl (lb_ (fa0_19.size.trans hsz)) (fa0_19.at_ 27)).trans (by rfl)) r_a0_20 (fun a0_20 fa0_20 => ?_)
  clear r_a0_20
  clear fa0_19
  have r_a0_21 : (execOp a0_20.eval oYO14).run Try.prog (V) = .ok (.value (.bool false)) (V) := by
    unfold oYO14
    have e29 := (show a0_20.eval (.tmp 29) = .int .i64 (k : Int) from (fa0_20.at_ 29))
    have e31 := (show a0_20.eval (.tmp 31) = .int .i64 (n : Int) from (fa0_20.at_ 31))
    clear fa0_20 ha hk2 hn hln
    generalize a0_20.eval = ρ at *
    go_simp
  refine fa0_20.step 32 (.bool false) rfl (lb_ hsz) ((wanted_at (t := 27) (c := false) (b := false) rfl rfl rfl (lb_ (fa0_20.size.trans hsz)) (fa0_20.at_ 27)).trans (by rfl)) r_a0_21 (fun a0_21 fa0_21 => ?_)
  clear r_a0_21
  clear fa0_20
  have r_a0_22 : (execOp a0_21.eval oYO6).run Try.prog (V) = .ok (.value (.bool false)) (V) := by
    unfold oYO6
    have kc : ∀ v, a0_21.eval (.const v) = v := fun _ => rfl
    have e27 := (show a0_21.eval (.tmp 27) = .bool false from (fa0_21.at_ 27))
    have e32 := (show a0_21.eval (.tmp 32) = .bool false from (fa0_21.at_ 32))
    clear fa0_21 ha hk2 hn hln
    generalize a0_21.eval = ρ at *
    go_simp
  refine fa0_21.step 33 (.bool false) rfl (lb_ hsz) (wanted_none rfl) r_a0_22 (fun a0_22 fa0_22 => ?_)
  clear r_a0_22
  clear fa0_21
  refine wpList_nil ?_
  change Code.wp _ _ _ _ _
  refine wp_cond_false (show a0_22.eval (.tmp 33) = .bool false from (fa0_22.at_ 33)) (wp_skip ?_)
  change Code.wp _ _ _ _ _
  refine wp_seq ?_
  refine wp_region_list ?_
  unfold rLY3
  refine fa0_22.move 34 (.slice (some ⟨g, 0, none⟩) n c) _ (Or.inl rfl) rfl (lb_ hsz) (wanted_none rfl) ((fa0_22.at_ 2).trans (ha 2 _ rfl)) (fun a0_23 fa0_23 => ?_)
  clear fa0_22
  have r_a0_24 : (execOp a0_23.eval oYO15).run Try.prog (V) = .ok (.value (.agg #[tr, .slice (some ⟨gl, 0, none⟩) ln lc, .int .i64 (k : Int), .int .u32 (pgs : Int)])) (V) := by
    unfold oYO15
    have e7 := (show a0_23.eval (.tmp 7) = .pointer (some ⟨w.heap.size + 1, 0, none⟩) from (fa0_23.at_ 7))
    clear fa0_23 ha hk2 hn hln
    generalize a0_23.eval = ρ at *
    go_simp
  refine fa0_23.step 35 (.agg #[tr, .slice (some ⟨gl, 0, none⟩) ln lc, .int .i64 (k : Int), .int .u32 (pgs : Int)]) rfl (lb_ hsz) (wanted_none rfl) r_a0_24 (fun a0_24 fa0_24 => ?_)
  clear r_a0_24
  clear fa0_23
  have r_a0_25 : (execOp a0_24.eval oYO16).run Try.prog (V) = .ok (.enter 8 #[.slice (some ⟨g, 0, none⟩) n c, .agg #[tr, .slice (some ⟨gl, 0, none⟩) ln lc, .int .i64 (k : Int), .int .u32 (pgs : Int)]]) (V) := by
    unfold oYO16
    have kf : ∀ f, a0_24.eval (.func f) = .func (.func f) #[] #[] := fun _ => rfl
    have e34 := (show a0_24.eval (.tmp 34) = .slice (some ⟨g, 0, none⟩) n c from (fa0_24.at_ 34))
    have e35 := (show a0_24.eval (.tmp 35) = .agg #[tr, .slice (some ⟨gl, 0, none⟩) ln lc, .int .i64 (k : Int), .int .u32 (pgs : Int)] from (fa0_24.at_ 35))
    clear fa0_24 ha hk2 hn hln
    generalize a0_24.eval = ρ at *
    go_simp
  refine fa0_24.call 36 rfl (lb_ hsz) (wanted_none rfl) r_a0_25 (fafter_calls V (hM.same sV) (hML.same sV) hn hln hnc hk2 hwt) (fun e W1 hR => ?_)
  obtain ⟨ao, cc, N, rfl, af, hkey, s1⟩ := hR
  clear r_a0_25
  refine ⟨_, rfl, fun a0_25 fa0_25 => ?_⟩
  clear fa0_24
  refine fa0_25.move 10 (.slice ao N.length cc) _ (Or.inr rfl) rfl (lb_ hsz) (wanted_none rfl) (fa0_25.at_ 36) (fun a0_26 fa0_26 => ?_)
  clear fa0_25
  refine wpList_nil ?_
  have e0 := s1.keep c0
  have e1 := s1.keep c1
  have g1 := s1.keep b1
  have g3 := s1.keep b3
  obtain ⟨gn, hbv⟩ := row_bv af.row af.new_ hkey (fun x hx => (List.mem_append.1 hx).elim (fun h => bv_mem hML h) (fun h => bv_mem hM (List.mem_of_mem_drop h)))
  have hwN : wt N ≤ 2000000 := by rw [wt_key _ _ hkey]; omega
  have hcN : chkE p q pgs N = chkE p q pgs (ML ++ M.drop k) := chkE_key hkey
  change Code.wp _ _ _ _ _
  refine wp_seq (wp_seq ?_)
  refine wp_region_list ?_
  unfold rLY4
  have r_a0_27 : (execOp a0_26.eval oYO17).run Try.prog (W1) = .ok (.value (.agg #[.int .i64 p, .int .i64 q])) (W1) := by
    unfold oYO17
    have e4 := (show a0_26.eval (.tmp 4) = .pointer (some ⟨w.heap.size, 0, none⟩) from (fa0_26.at_ 4))
    clear fa0_26 ha hk2 hn hln hkey hcN
    generalize a0_26.eval = ρ at *
    go_simp
  refine fa0_26.step 37 (.agg #[.int .i64 p, .int .i64 q]) rfl (lb_ hsz) (wanted_none rfl) r_a0_27 (fun a0_27 fa0_27 => ?_)
  clear r_a0_27
  clear fa0_26
  refine fa0_27.move 38 (.slice ao N.length cc) _ (Or.inl rfl) rfl (lb_ hsz) (wanted_none rfl) (fa0_27.at_ 10) (fun a0_28 fa0_28 => ?_)
  clear fa0_27
  have r_a0_29 : (execOp a0_28.eval oYO18).run Try.prog (W1) = .ok (.value (.pointer (some ⟨w.heap.size + 1, 3, none⟩))) (W1) := by
    unfold oYO18
    have e7 := (show a0_28.eval (.tmp 7) = .pointer (some ⟨w.heap.size + 1, 0, none⟩) from (fa0_28.at_ 7))
    clear fa0_28 ha hk2 hn hln hkey hcN
    generalize a0_28.eval = ρ at *
    go_simp
  refine fa0_28.step 39 (.pointer (some ⟨w.heap.size + 1, 3, none⟩)) rfl (lb_ hsz) (wanted_none rfl) r_a0_29 (fun a0_29 fa0_29 => ?_)
  clear r_a0_29
  clear fa0_28
  have r_a0_30 : (execOp a0_29.eval oYO19).run Try.prog (W1) = .ok (.value (.int .u32 (pgs : Int))) (W1) := by
    unfold oYO19
    have e39 := (show a0_29.eval (.tmp 39) = .pointer (some ⟨w.heap.size + 1, 3, none⟩) from (fa0_29.at_ 39))
    clear fa0_29 ha hk2 hn hln hkey hcN
    generalize a0_29.eval = ρ at *
    go_simp
  refine fa0_29.step 40 (.int .u32 (pgs : Int)) rfl (lb_ hsz) (wanted_none rfl) r_a0_30 (fun a0_30 fa0_30 => ?_)
  clear r_a0_30
  clear fa0_29
  have r_a0_31 : (execOp a0_30.eval oYO20).run Try.prog (W1) = .ok (.enter 31 #[.agg #[.int .i64 p, .int .i64 q], .slice ao N.length cc, .int .u32 (pgs : Int)]) (W1) := by
    unfold oYO20
    have kf : ∀ f, a0_30.eval (.func f) = .func (.func f) #[] #[] := fun _ => rfl
    have e37 := (show a0_30.eval (.tmp 37) = .agg #[.int .i64 p, .int .i64 q] from (fa0_30.at_ 37))
    have e38 := (show a0_30.eval (.tmp 38) = .slice ao N.length cc from (fa0_30.at_ 38))
    have e40 := (show a0_30.eval (.tmp 40) = .int .u32 (pgs : Int) from (fa0_30.at_ 40))
    clear fa0_30 ha hk2 hn hln hkey hcN
    generalize a0_30.eval = ρ at *
    go_simp
  refine fa0_30.call 41 rfl (lb_ hsz) (wanted_none rfl) r_a0_31 (fcheck_calls W1 hbv hwN) (fun e W2 hR => ?_)
  obtain ⟨rfl, s2⟩ := hR
  clear r_a0_31
  have hce0 : ¬ chkE p q pgs N = 0 := by rw [hcN]; exact hce
  have hce1 : decide (chkE p q pgs N = 0) = false := decide_eq_false hce0
  refine ⟨_, rfl, fun a0_31 fa0_31 => ?_⟩
  clear fa0_30
  have r_a0_32 : (execOp a0_31.eval oYO21).run Try.prog (W2) = .ok (.value (.bool true)) (W2) := by
    unfold oYO21
    have kc : ∀ v, a0_31.eval (.const v) = v := fun _ => rfl
    have e41 := (show a0_31.eval (.tmp 41) = .int .i64 (chkE p q pgs N) from (fa0_31.at_ 41))
    clear fa0_31 ha hk2 hn hln hkey hcN
    generalize a0_31.eval = ρ at *
    go_simp
  refine fa0_31.step 42 (.bool true) rfl (lb_ hsz) (wanted_none rfl) r_a0_32 (fun a0_32 fa0_32 => ?_)
  clear r_a0_32
  clear fa0_31
  refine wpList_nil ?_
  change Code.wp _ _ _ _ _
  refine wp_cond_true (show a0_32.eval (.tmp 42) = .bool true from (fa0_32.at_ 42)) (wp_seq ?_)
  refine wp_region_list ?_
  unfold rLY5
  refine fa0_32.move 8 (.slice none 0 0) _ (Or.inr rfl) rfl (lb_ hsz) (wanted_none rfl) rfl (fun a0_33 fa0_33 => ?_)
  clear fa0_32
  refine fa0_33.move 9 (.int .i64 2) _ (Or.inr rfl) rfl (lb_ hsz) (wanted_none rfl) rfl (fun a0_34 fa0_34 => ?_)
  clear fa0_33
  refine wpList_nil ?_
  change Code.wp _ _ _ _ _
  refine wp_ret ?_
  try simp only [Exit.then]
  exact ret_abs2 rfl (fa0_34.defers.trans hd) (show a0_34.eval (.tmp 8) = .slice none 0 0 from (fa0_34.at_ 8)) (show a0_34.eval (.tmp 9) = .int .i64 2 from (fa0_34.at_ 9)) ⟨none, 0, rfl, own_nil, (sV.trans s1).trans s2⟩
set_option maxRecDepth 100000 in
set_option maxHeartbeats 1000000 in
theorem flyf {p q : Int} {vr n c g gl ln lc pgs k : Nat} {tr : Value} {M ML : List Bt} (w : World) (hM : BvRow w (some ⟨g, 0, none⟩) g 0 M) (hML : BvRow w (some ⟨gl, 0, none⟩) gl 0 ML) (hn : n = M.length) (hln : ln = ML.length) (hnc : n < c) (hwt : wt (ML ++ M.drop k) ≤ 1048576) (h1 : 1 ≤ vr) (h2 : vr ≤ 1099511627776) (hkn : k ≤ n) (hce : chkE p q pgs (ML ++ M.drop k) = 0) :
    Calls Try.prog 16 #[frameV p q, .int .u64 (vr : Int), .slice (some ⟨g, 0, none⟩) n c, .agg #[tr, .slice (some ⟨gl, 0, none⟩) ln lc, .int .i64 (k : Int), .int .u32 (pgs : Int)]] w fun e w' => ∃ lo lc, e = .returned (.tuple #[.slice lo (laidP p q (ML ++ M.drop k) ln).length lc, .int .i64 0]) ∧ w'.ownsRow w.heap.size 52 4 (.slice lo (laidP p q (ML ++ M.drop k) ln).length lc) (laidP p q (ML ++ M.drop k) ln).length (pgCs vr (laidP p q (ML ++ M.drop k) ln)) ∧ Same w w' := by
  have e1 : decide ((vr : Int) < 1) = false := decide_eq_false (by omega)
  have e2 : decide ((1099511627776 : Int) < (vr : Int)) = false := decide_eq_false (by omega)
  have e3 : decide ((k : Int) < 0) = false := decide_eq_false (by omega)
  have e4 : decide ((n : Int) < (k : Int)) = false := decide_eq_false (by omega)
  have hk2 : (k : Int) = min (max (k : Int) 0) (n : Int) := by omega
  refine calls_abs (c := cLY) Try.func16 (by kernel_rfl) 75 rfl (by simp) (fun a0 hsz hd ha => ?_)
  have fa0_0 := Fe.refl a0
  unfold cLY
  refine wp_seq ?_
  refine wp_region_list ?_
  unfold rLY0
  have r_a0_1 : (execOp a0.eval oYO1).run Try.prog (w) = .ok (.value (.pointer (some ⟨w.heap.size, 0, none⟩))) (w.alloc (.cells #[.int .i64 p, .int .i64 q] 39)) := by
    unfold oYO1
    have e0 := (show a0.eval (.tmp 0) = .agg #[.int .i64 p, .int .i64 q] from ((fa0_0.at_ 0).trans (ha 0 _ rfl)))
    clear fa0_0 ha hk2 hn hln
    generalize a0.eval = ρ at *
    go_simp
  refine fa0_0.stepW 4 (.pointer (some ⟨w.heap.size, 0, none⟩)) rfl (lb_ hsz) (wanted_none rfl) r_a0_1 (fun a0_1 fa0_1 => ?_)
  clear r_a0_1
  clear fa0_0
  have r_a0_2 : (execOp a0_1.eval oYO2).run Try.prog (w.alloc (.cells #[.int .i64 p, .int .i64 q] 39)) = .ok (.value (.pointer (some ⟨w.heap.size + 1, 0, none⟩))) ((w.alloc (.cells #[.int .i64 p, .int .i64 q] 39)).alloc (.cells #[tr, .slice (some ⟨gl, 0, none⟩) ln lc, .int .i64 (k : Int), .int .u32 (pgs : Int)] 26)) := by
    unfold oYO2
    have e3 := (show a0_1.eval (.tmp 3) = .agg #[tr, .slice (some ⟨gl, 0, none⟩) ln lc, .int .i64 (k : Int), .int .u32 (pgs : Int)] from ((fa0_1.at_ 3).trans (ha 3 _ rfl)))
    clear fa0_1 ha hk2 hn hln
    generalize a0_1.eval = ρ at *
    go_simp
  refine fa0_1.stepW 7 (.pointer (some ⟨w.heap.size + 1, 0, none⟩)) rfl (lb_ hsz) (wanted_none rfl) r_a0_2 (fun a0_2 fa0_2 => ?_)
  clear r_a0_2
  clear fa0_1
  refine fa0_2.move 8 (.slice none 0 0) _ (Or.inr rfl) rfl (lb_ hsz) (wanted_none rfl) rfl (fun a0_3 fa0_3 => ?_)
  clear fa0_2
  refine fa0_3.move 9 (.int .i64 0) _ (Or.inr rfl) rfl (lb_ hsz) (wanted_none rfl) rfl (fun a0_4 fa0_4 => ?_)
  clear fa0_3
  refine wpList_nil ?_
  obtain ⟨V, hV⟩ : ∃ V, V = (w.alloc (.cells #[.int .i64 p, .int .i64 q] 39)).alloc (.cells #[tr, .slice (some ⟨gl, 0, none⟩) ln lc, .int .i64 (k : Int), .int .u32 (pgs : Int)] 26) := ⟨_, rfl⟩
  rw [← hV]
  have sV : Same w V := by rw [hV]; exact ((Fr.refl _ w).alloc _).alloc _
  have r0 : V.heap[w.heap.size]? = some (.cells #[.int .i64 p, .int .i64 q] 39 (0, 0)) := by rw [hV]; exact (((Fr.refl (fun _ => False) (w.alloc (.cells #[.int .i64 p, .int .i64 q] 39))).alloc _).block _ (by simp) (fun f => f)).trans (heap_alloc_new w _)
  have r1 : V.heap[w.heap.size + 1]? = some (.cells #[tr, .slice (some ⟨gl, 0, none⟩) ln lc, .int .i64 (k : Int), .int .u32 (pgs : Int)] 26 (0, 0)) := by
    rw [hV]
    have := heap_alloc_new (w.alloc (.cells #[.int .i64 p, .int .i64 q] 39)) (.cells #[tr, .slice (some ⟨gl, 0, none⟩) ln lc, .int .i64 (k : Int), .int .u32 (pgs : Int)] 26)
    simpa using this
  have c0 : V.cell? ⟨w.heap.size, 0, none⟩ = some (.int .i64 p) := (cell_of_row _ _ _ _ _ _ r0).trans rfl
  have c1 : V.cell? ⟨w.heap.size, 1, none⟩ = some (.int .i64 q) := (cell_of_row _ _ _ _ _ _ r0).trans rfl
  have b0 : V.cell? ⟨w.heap.size + 1, 0, none⟩ = some tr := (cell_of_row _ _ _ _ _ _ r1).trans rfl
  have b1 : V.cell? ⟨w.heap.size + 1, 1, none⟩ = some (.slice (some ⟨gl, 0, none⟩) ln lc) := (cell_of_row _ _ _ _ _ _ r1).trans rfl
  have b2 : V.cell? ⟨w.heap.size + 1, 2, none⟩ = some (.int .i64 (k : Int)) := (cell_of_row _ _ _ _ _ _ r1).trans rfl
  have b3 : V.cell? ⟨w.heap.size + 1, 3, none⟩ = some (.int .u32 (pgs : Int)) := (cell_of_row _ _ _ _ _ _ r1).trans rfl
  change Code.wp _ _ _ _ _
  refine wp_seq (wp_seq ?_)
  refine wp_region_list ?_
  unfold rLY1
  refine fa0_4.move 16 (.int .u64 (vr : Int)) _ (Or.inl rfl) rfl (lb_ hsz) (wanted_none rfl) ((fa0_4.at_ 1).trans (ha 1 _ rfl)) (fun a0_5 fa0_5 => ?_)
  clear fa0_4
  have r_a0_6 : (execOp a0_5.eval oYO3).run Try.prog (V) = .ok (.value (.bool false)) (V) := by
    unfold oYO3
    have kc : ∀ v, a0_5.eval (.const v) = v := fun _ => rfl
    have e16 := (show a0_5.eval (.tmp 16) = .int .u64 (vr : Int) from (fa0_5.at_ 16))
    clear fa0_5 ha hk2 hn hln
    generalize a0_5.eval = ρ at *
    go_simp
  refine fa0_5.step 17 (.bool false) rfl (lb_ hsz) (wanted_none rfl) r_a0_6 (fun a0_6 fa0_6 => ?_)
  clear r_a0_6
  clear fa0_5
  refine fa0_6.move 18 (.bool false) _ (Or.inl rfl) rfl (lb_ hsz) (wanted_none rfl) (fa0_6.at_ 17) (fun a0_7 fa0_7 => ?_)
  clear fa0_6
  refine fa0_7.move 19 (.int .u64 (vr : Int)) _ (Or.inl rfl) rfl (lb_ hsz) ((wanted_at (t := 18) (c := false) (b := false) rfl rfl rfl (lb_ (fa0_7.size.trans hsz)) (fa0_7.at_ 18)).trans (by rfl)) ((fa0_7.at_ 1).trans (ha 1 _ rfl)) (fun a0_8 fa0_8 => ?_)
  clear fa0_7
  have r_a0_9 : (execOp a0_8.eval oYO7).run Try.prog (V) = .ok (.value (.bool false)) (V) := by
    unfold oYO7
    have kc : ∀ v, a0_8.eval (.const v) = v := fun _ => rfl
    have e19 := (show a0_8.eval (.tmp 19) = .int .u64 (vr : Int) from (fa0_8.at_ 19))
    clear fa0_8 ha hk2 hn hln
    generalize a0_8.eval = ρ at *
    go_simp
  refine fa0_8.step 20 (.bool false) rfl (lb_ hsz) ((wanted_at (t := 18) (c := false) (b := false) rfl rfl rfl (lb_ (fa0_8.size.trans hsz)) (fa0_8.at_ 18)).trans (by rfl)) r_a0_9 (fun a0_9 fa0_9 => ?_)
  clear r_a0_9
  clear fa0_8
  have r_a0_10 : (execOp a0_9.eval oYO4).run Try.prog (V) = .ok (.value (.bool false)) (V) := by
    unfold oYO4
    have kc : ∀ v, a0_9.eval (.const v) = v := fun _ => rfl
    have e18 := (show a0_9.eval (.tmp 18) = .bool false from (fa0_9.at_ 18))
    have e20 := (show a0_9.eval (.tmp 20) = .bool false from (fa0_9.at_ 20))
    clear fa0_9 ha hk2 hn hln
    generalize a0_9.eval = ρ at *
    go_simp
  refine fa0_9.step 21 (.bool false) rfl (lb_ hsz) (wanted_none rfl) r_a0_10 (fun a0_10 fa0_10 => ?_)
  clear r_a0_10
  clear fa0_9
  refine fa0_10.move 22 (.bool false) _ (Or.inl rfl) rfl (lb_ hsz) (wanted_none rfl) (fa0_10.at_ 21) (fun a0_11 fa0_11 => ?_)
  clear fa0_10
  have r_a0_12 : (execOp a0_11.eval oYO8).run Try.prog (V) = .ok (.value (.pointer (some ⟨w.heap.size + 1, 2, none⟩))) (V) := by
    unfold oYO8
    have e7 := (show a0_11.eval (.tmp 7) = .pointer (some ⟨w.heap.size + 1, 0, none⟩) from (fa0_11.at_ 7))
    clear fa0_11 ha hk2 hn hln
    generalize a0_11.eval = ρ at *
    go_simp
  refine fa0_11.step 23 (.pointer (some ⟨w.heap.size + 1, 2, none⟩)) rfl (lb_ hsz) ((wanted_at (t := 22) (c := false) (b := false) rfl rfl rfl (lb_ (fa0_11.size.trans hsz)) (fa0_11.at_ 22)).trans (by rfl)) r_a0_12 (fun a0_12 fa0_12 => ?_)
  clear r_a0_12
  clear fa0_11
  have r_a0_13 : (execOp a0_12.eval oYO9).run Try.prog (V) = .ok (.value (.int .i64 (k : Int))) (V) := by
    unfold oYO9
    have e23 := (show a0_12.eval (.tmp 23) = .pointer (some ⟨w.heap.size + 1, 2, none⟩) from (fa0_12.at_ 23))
    clear fa0_12 ha hk2 hn hln
    generalize a0_12.eval = ρ at *
    go_simp
  refine fa0_12.step 24 (.int .i64 (k : Int)) rfl (lb_ hsz) ((wanted_at (t := 22) (c := false) (b := false) rfl rfl rfl (lb_ (fa0_12.size.trans hsz)) (fa0_12.at_ 22)).trans (by rfl)) r_a0_13 (fun a0_13 fa0_13 => ?_)
  clear r_a0_13
  clear fa0_12
  have r_a0_14 : (execOp a0_13.eval oYO10).run Try.prog (V) = .ok (.value (.bool false)) (V) := by
    unfold oYO10
    have kc : ∀ v, a0_13.eval (.const v) = v := fun _ => rfl
    have e24 := (show a0_13.eval (.tmp 24) = .int .i64 (k : Int) from (fa0_13.at_ 24))
    clear fa0_13 ha hk2 hn hln
    generalize a0_13.eval = ρ at *
    go_simp
  refine fa0_13.step 25 (.bool false) rfl (lb_ hsz) ((wanted_at (t := 22) (c := false) (b := false) rfl rfl rfl (lb_ (fa0_13.size.trans hsz)) (fa0_13.at_ 22)).trans (by rfl)) r_a0_14 (fun a0_14 fa0_14 => ?_)
  clear r_a0_14
  clear fa0_13
  have r_a0_15 : (execOp a0_14.eval oYO5).run Try.prog (V) = .ok (.value (.bool false)) (V) := by
    unfold oYO5
    have kc : ∀ v, a0_14.eval (.const v) = v := fun _ => rfl
    have e22 := (show a0_14.eval (.tmp 22) = .bool false from (fa0_14.at_ 22))
    have e25 := (show a0_14.eval (.tmp 25) = .bool false from (fa0_14.at_ 25))
    clear fa0_14 ha hk2 hn hln
    generalize a0_14.eval = ρ at *
    go_simp
  refine fa0_14.step 26 (.bool false) rfl (lb_ hsz) (wanted_none rfl) r_a0_15 (fun a0_15 fa0_15 => ?_)
  clear r_a0_15
  clear fa0_14
  refine fa0_15.move 27 (.bool false) _ (Or.inl rfl) rfl (lb_ hsz) (wanted_none rfl) (fa0_15.at_ 26) (fun a0_16 fa0_16 => ?_)
  clear fa0_15
  have r_a0_17 : (execOp a0_16.eval oYO11).run Try.prog (V) = .ok (.value (.pointer (some ⟨w.heap.size + 1, 2, none⟩))) (V) := by
    unfold oYO11
    have e7 := (show a0_16.eval (.tmp 7) = .pointer (some ⟨w.heap.size + 1, 0, none⟩) from (fa0_16.at_ 7))
    clear fa0_16 ha hk2 hn hln
    generalize a0_16.eval = ρ at *
    go_simp
  refine fa0_16.step 28 (.pointer (some ⟨w.heap.size + 1, 2, none⟩)) rfl (lb_ hsz) ((wanted_at (t := 27) (c := false) (b := false) rfl rfl rfl (lb_ (fa0_16.size.trans hsz)) (fa0_16.at_ 27)).trans (by rfl)) r_a0_17 (fun a0_17 fa0_17 => ?_)
  clear r_a0_17
  clear fa0_16
  have r_a0_18 : (execOp a0_17.eval oYO12).run Try.prog (V) = .ok (.value (.int .i64 (k : Int))) (V) := by
    unfold oYO12
    have e28 := (show a0_17.eval (.tmp 28) = .pointer (some ⟨w.heap.size + 1, 2, none⟩) from (fa0_17.at_ 28))
    clear fa0_17 ha hk2 hn hln
    generalize a0_17.eval = ρ at *
    go_simp
  refine fa0_17.step 29 (.int .i64 (k : Int)) rfl (lb_ hsz) ((wanted_at (t := 27) (c := false) (b := false) rfl rfl rfl (lb_ (fa0_17.size.trans hsz)) (fa0_17.at_ 27)).trans (by rfl)) r_a0_18 (fun a0_18 fa0_18 => ?_)
  clear r_a0_18
  clear fa0_17
  refine fa0_18.move 30 (.slice (some ⟨g, 0, none⟩) n c) _ (Or.inl rfl) rfl (lb_ hsz) ((wanted_at (t := 27) (c := false) (b := false) rfl rfl rfl (lb_ (fa0_18.size.trans hsz)) (fa0_18.at_ 27)).trans (by rfl)) ((fa0_18.at_ 2).trans (ha 2 _ rfl)) (fun a0_19 fa0_19 => ?_)
  clear fa0_18
  have r_a0_20 : (execOp a0_19.eval oYO13).run Try.prog (V) = .ok (.value (.int .i64 (n : Int))) (V) := by
    unfold oYO13
    have e30 := (show a0_19.eval (.tmp 30) = .slice (some ⟨g, 0, none⟩) n c from (fa0_19.at_ 30))
    clear fa0_19 ha hk2 hn hln
    generalize a0_19.eval = ρ at *
    go_simp
  refine fa0_19.step 31 (.int .i64 (n : Int)) rfl (lb_ hsz) ((wanted_at (t := 27) (c := false) (b := false) rfl rfl rfl (lb_ (fa0_19.size.trans hsz)) (fa0_19.at_ 27)).trans (by rfl)) r_a0_20 (fun a0_20 fa0_20 => ?_)
  clear r_a0_20
  clear fa0_19
  have r_a0_21 : (execOp a0_20.eval oYO14).run Try.prog (V) = .ok (.value (.bool false)) (V) := by
    unfold oYO14
    have e29 := (show a0_20.eval (.tmp 29) = .int .i64 (k : Int) from (fa0_20.at_ 29))
    have e31 := (show a0_20.eval (.tmp 31) = .int .i64 (n : Int) from (fa0_20.at_ 31))
    clear fa0_20 ha hk2 hn hln
    generalize a0_20.eval = ρ at *
    go_simp
  refine fa0_20.step 32 (.bool false) rfl (lb_ hsz) ((wanted_at (t := 27) (c := false) (b := false) rfl rfl rfl (lb_ (fa0_20.size.trans hsz)) (fa0_20.at_ 27)).trans (by rfl)) r_a0_21 (fun a0_21 fa0_21 => ?_)
  clear r_a0_21
  clear fa0_20
  have r_a0_22 : (execOp a0_21.eval oYO6).run Try.prog (V) = .ok (.value (.bool false)) (V) := by
    unfold oYO6
    have kc : ∀ v, a0_21.eval (.const v) = v := fun _ => rfl
    have e27 := (show a0_21.eval (.tmp 27) = .bool false from (fa0_21.at_ 27))
    have e32 := (show a0_21.eval (.tmp 32) = .bool false from (fa0_21.at_ 32))
    clear fa0_21 ha hk2 hn hln
    generalize a0_21.eval = ρ at *
    go_simp
  refine fa0_21.step 33 (.bool false) rfl (lb_ hsz) (wanted_none rfl) r_a0_22 (fun a0_22 fa0_22 => ?_)
  clear r_a0_22
  clear fa0_21
  refine wpList_nil ?_
  change Code.wp _ _ _ _ _
  refine wp_cond_false (show a0_22.eval (.tmp 33) = .bool false from (fa0_22.at_ 33)) (wp_skip ?_)
  change Code.wp _ _ _ _ _
  refine wp_seq ?_
  refine wp_region_list ?_
  unfold rLY3
  refine fa0_22.move 34 (.slice (some ⟨g, 0, none⟩) n c) _ (Or.inl rfl) rfl (lb_ hsz) (wanted_none rfl) ((fa0_22.at_ 2).trans (ha 2 _ rfl)) (fun a0_23 fa0_23 => ?_)
  clear fa0_22
  have r_a0_24 : (execOp a0_23.eval oYO15).run Try.prog (V) = .ok (.value (.agg #[tr, .slice (some ⟨gl, 0, none⟩) ln lc, .int .i64 (k : Int), .int .u32 (pgs : Int)])) (V) := by
    unfold oYO15
    have e7 := (show a0_23.eval (.tmp 7) = .pointer (some ⟨w.heap.size + 1, 0, none⟩) from (fa0_23.at_ 7))
    clear fa0_23 ha hk2 hn hln
    generalize a0_23.eval = ρ at *
    go_simp
  refine fa0_23.step 35 (.agg #[tr, .slice (some ⟨gl, 0, none⟩) ln lc, .int .i64 (k : Int), .int .u32 (pgs : Int)]) rfl (lb_ hsz) (wanted_none rfl) r_a0_24 (fun a0_24 fa0_24 => ?_)
  clear r_a0_24
  clear fa0_23
  have r_a0_25 : (execOp a0_24.eval oYO16).run Try.prog (V) = .ok (.enter 8 #[.slice (some ⟨g, 0, none⟩) n c, .agg #[tr, .slice (some ⟨gl, 0, none⟩) ln lc, .int .i64 (k : Int), .int .u32 (pgs : Int)]]) (V) := by
    unfold oYO16
    have kf : ∀ f, a0_24.eval (.func f) = .func (.func f) #[] #[] := fun _ => rfl
    have e34 := (show a0_24.eval (.tmp 34) = .slice (some ⟨g, 0, none⟩) n c from (fa0_24.at_ 34))
    have e35 := (show a0_24.eval (.tmp 35) = .agg #[tr, .slice (some ⟨gl, 0, none⟩) ln lc, .int .i64 (k : Int), .int .u32 (pgs : Int)] from (fa0_24.at_ 35))
    clear fa0_24 ha hk2 hn hln
    generalize a0_24.eval = ρ at *
    go_simp
  refine fa0_24.call 36 rfl (lb_ hsz) (wanted_none rfl) r_a0_25 (fafter_calls V (hM.same sV) (hML.same sV) hn hln hnc hk2 hwt) (fun e W1 hR => ?_)
  obtain ⟨ao, cc, N, rfl, af, hkey, s1⟩ := hR
  clear r_a0_25
  refine ⟨_, rfl, fun a0_25 fa0_25 => ?_⟩
  clear fa0_24
  refine fa0_25.move 10 (.slice ao N.length cc) _ (Or.inr rfl) rfl (lb_ hsz) (wanted_none rfl) (fa0_25.at_ 36) (fun a0_26 fa0_26 => ?_)
  clear fa0_25
  refine wpList_nil ?_
  have e0 := s1.keep c0
  have e1 := s1.keep c1
  have g1 := s1.keep b1
  have g3 := s1.keep b3
  obtain ⟨gn, hbv⟩ := row_bv af.row af.new_ hkey (fun x hx => (List.mem_append.1 hx).elim (fun h => bv_mem hML h) (fun h => bv_mem hM (List.mem_of_mem_drop h)))
  have hwN : wt N ≤ 2000000 := by rw [wt_key _ _ hkey]; omega
  have hcN : chkE p q pgs N = chkE p q pgs (ML ++ M.drop k) := chkE_key hkey
  change Code.wp _ _ _ _ _
  refine wp_seq (wp_seq ?_)
  refine wp_region_list ?_
  unfold rLY4
  have r_a0_27 : (execOp a0_26.eval oYO17).run Try.prog (W1) = .ok (.value (.agg #[.int .i64 p, .int .i64 q])) (W1) := by
    unfold oYO17
    have e4 := (show a0_26.eval (.tmp 4) = .pointer (some ⟨w.heap.size, 0, none⟩) from (fa0_26.at_ 4))
    clear fa0_26 ha hk2 hn hln hkey hcN
    generalize a0_26.eval = ρ at *
    go_simp
  refine fa0_26.step 37 (.agg #[.int .i64 p, .int .i64 q]) rfl (lb_ hsz) (wanted_none rfl) r_a0_27 (fun a0_27 fa0_27 => ?_)
  clear r_a0_27
  clear fa0_26
  refine fa0_27.move 38 (.slice ao N.length cc) _ (Or.inl rfl) rfl (lb_ hsz) (wanted_none rfl) (fa0_27.at_ 10) (fun a0_28 fa0_28 => ?_)
  clear fa0_27
  have r_a0_29 : (execOp a0_28.eval oYO18).run Try.prog (W1) = .ok (.value (.pointer (some ⟨w.heap.size + 1, 3, none⟩))) (W1) := by
    unfold oYO18
    have e7 := (show a0_28.eval (.tmp 7) = .pointer (some ⟨w.heap.size + 1, 0, none⟩) from (fa0_28.at_ 7))
    clear fa0_28 ha hk2 hn hln hkey hcN
    generalize a0_28.eval = ρ at *
    go_simp
  refine fa0_28.step 39 (.pointer (some ⟨w.heap.size + 1, 3, none⟩)) rfl (lb_ hsz) (wanted_none rfl) r_a0_29 (fun a0_29 fa0_29 => ?_)
  clear r_a0_29
  clear fa0_28
  have r_a0_30 : (execOp a0_29.eval oYO19).run Try.prog (W1) = .ok (.value (.int .u32 (pgs : Int))) (W1) := by
    unfold oYO19
    have e39 := (show a0_29.eval (.tmp 39) = .pointer (some ⟨w.heap.size + 1, 3, none⟩) from (fa0_29.at_ 39))
    clear fa0_29 ha hk2 hn hln hkey hcN
    generalize a0_29.eval = ρ at *
    go_simp
  refine fa0_29.step 40 (.int .u32 (pgs : Int)) rfl (lb_ hsz) (wanted_none rfl) r_a0_30 (fun a0_30 fa0_30 => ?_)
  clear r_a0_30
  clear fa0_29
  have r_a0_31 : (execOp a0_30.eval oYO20).run Try.prog (W1) = .ok (.enter 31 #[.agg #[.int .i64 p, .int .i64 q], .slice ao N.length cc, .int .u32 (pgs : Int)]) (W1) := by
    unfold oYO20
    have kf : ∀ f, a0_30.eval (.func f) = .func (.func f) #[] #[] := fun _ => rfl
    have e37 := (show a0_30.eval (.tmp 37) = .agg #[.int .i64 p, .int .i64 q] from (fa0_30.at_ 37))
    have e38 := (show a0_30.eval (.tmp 38) = .slice ao N.length cc from (fa0_30.at_ 38))
    have e40 := (show a0_30.eval (.tmp 40) = .int .u32 (pgs : Int) from (fa0_30.at_ 40))
    clear fa0_30 ha hk2 hn hln hkey hcN
    generalize a0_30.eval = ρ at *
    go_simp
  refine fa0_30.call 41 rfl (lb_ hsz) (wanted_none rfl) r_a0_31 (fcheck_calls W1 hbv hwN) (fun e W2 hR => ?_)
  obtain ⟨rfl, s2⟩ := hR
  clear r_a0_31
  have hce0 := hcN.trans hce
  rw [hce0]
  refine ⟨_, rfl, fun a0_31 fa0_31 => ?_⟩
  clear fa0_30
  have r_a0_32 : (execOp a0_31.eval oYO21).run Try.prog (W2) = .ok (.value (.bool false)) (W2) := by
    unfold oYO21
    have kc : ∀ v, a0_31.eval (.const v) = v := fun _ => rfl
    have e41 := (show a0_31.eval (.tmp 41) = .int .i64 0 from (fa0_31.at_ 41))
    clear fa0_31 ha hk2 hn hln hkey hcN
    generalize a0_31.eval = ρ at *
    go_simp
  refine fa0_31.step 42 (.bool false) rfl (lb_ hsz) (wanted_none rfl) r_a0_32 (fun a0_32 fa0_32 => ?_)
  clear r_a0_32
  clear fa0_31
  refine wpList_nil ?_
  change Code.wp _ _ _ _ _
  refine wp_cond_false (show a0_32.eval (.tmp 42) = .bool false from (fa0_32.at_ 42)) (wp_skip ?_)
  change Code.wp _ _ _ _ _
  refine wp_seq ?_
  refine wp_region_list ?_
  unfold rLY6
  refine fa0_32.move 11 (.slice none 0 0) _ (Or.inr rfl) rfl (lb_ hsz) (wanted_none rfl) rfl (fun a0_33 fa0_33 => ?_)
  clear fa0_32
  refine wpList_nil ?_
  have g11 := s2.keep g1
  have hlN : ln ≤ N.length := by have := congrArg List.length hkey; simp only [List.length_map, List.length_append] at this; omega
  obtain ⟨hcp1, _⟩ := own_capF af.row
  have hao : ao = none → N.length = 0 ∧ cc = 0 := fun e => own_noneB (e ▸ af.row)
  have hlc : ¬ cc < ln := by omega
  have hlci : (ln : Int) ≤ (cc : Int) := by omega
  change Code.wp _ _ _ _ _
  refine wp_seq (wp_seq ?_)
  refine wp_region_list ?_
  unfold rLY7
  refine fa0_33.move 43 (.slice ao N.length cc) _ (Or.inl rfl) rfl (lb_ hsz) (wanted_none rfl) (fa0_33.at_ 10) (fun a0_34 fa0_34 => ?_)
  clear fa0_33
  have r_a0_35 : (execOp a0_34.eval { dst := some 44, op := Op.fieldAddr 26 (Operand.tmp 7) 1, type := 0, pos := "chain.go:73", after := #[], guard := none }).run Try.prog (W2) = .ok (.value (.pointer (some ⟨w.heap.size + 1, 1, none⟩))) (W2) := by
    have e7 := (show a0_34.eval (.tmp 7) = .pointer (some ⟨w.heap.size + 1, 0, none⟩) from (fa0_34.at_ 7))
    clear fa0_34 ha hk2 hn hln hkey hcN hce0 hce
    generalize a0_34.eval = ρ at *
    go_simp
  refine fa0_34.step 44 (.pointer (some ⟨w.heap.size + 1, 1, none⟩)) rfl (lb_ hsz) (wanted_none rfl) r_a0_35 (fun a0_35 fa0_35 => ?_)
  clear r_a0_35
  clear fa0_34
  have r_a0_36 : (execOp a0_35.eval { dst := some 45, op := Op.load 22 (Operand.tmp 44), type := 22, pos := "chain.go:73", after := #[{ on := 1, ground := Ground.data }], guard := none }).run Try.prog (W2) = .ok (.value (.slice (some ⟨gl, 0, none⟩) ln lc)) (W2) := by
    have e44 := (show a0_35.eval (.tmp 44) = .pointer (some ⟨w.heap.size + 1, 1, none⟩) from (fa0_35.at_ 44))
    clear fa0_35 ha hk2 hn hln hkey hcN hce0 hce
    generalize a0_35.eval = ρ at *
    go_simp
  refine fa0_35.step 45 (.slice (some ⟨gl, 0, none⟩) ln lc) rfl (lb_ hsz) (wanted_none rfl) r_a0_36 (fun a0_36 fa0_36 => ?_)
  clear r_a0_36
  clear fa0_35
  have r_a0_37 : (execOp a0_36.eval { dst := some 46, op := Op.call { callee := Callee.builtin Builtin.len, args := #[Operand.tmp 45], argTypes := #[22] }, type := 3, pos := "chain.go:73", after := #[{ on := 2, ground := Ground.data }], guard := none }).run Try.prog (W2) = .ok (.value (.int .i64 (ln : Int))) (W2) := by
    have e45 := (show a0_36.eval (.tmp 45) = .slice (some ⟨gl, 0, none⟩) ln lc from (fa0_36.at_ 45))
    clear fa0_36 ha hk2 hn hln hkey hcN hce0 hce
    generalize a0_36.eval = ρ at *
    go_simp
  refine fa0_36.step 46 (.int .i64 (ln : Int)) rfl (lb_ hsz) (wanted_none rfl) r_a0_37 (fun a0_37 fa0_37 => ?_)
  clear r_a0_37
  clear fa0_36
  have r_a0_38 : (execOp a0_37.eval { dst := some 47, op := Op.slice 22 (Operand.tmp 43) none (some (Operand.tmp 46)) none, type := 22, pos := "chain.go:73", after := #[{ on := 0, ground := Ground.data }, { on := 3, ground := Ground.data }], guard := none }).run Try.prog (W2) = .ok (.value (.slice ao ln cc)) (W2) := by
    have e43 := (show a0_37.eval (.tmp 43) = .slice ao N.length cc from (fa0_37.at_ 43))
    have e46 := (show a0_37.eval (.tmp 46) = .int .i64 (ln : Int) from (fa0_37.at_ 46))
    clear fa0_37 ha hk2 hn hln hkey hcN hce0 hce
    generalize a0_37.eval = ρ at *
    simp only [execOp, Option.map_some, Option.map_none, e43, e46, Sem.run_bind, Sem.run_pure, slice_upto hlN hcp1 hao, Result.andThen_ok]
  refine fa0_37.stepW 47 (.slice ao ln cc) rfl (lb_ hsz) (wanted_none rfl) r_a0_38 (fun a0_38 fa0_38 => ?_)
  clear r_a0_38
  clear fa0_37
  have r_a0_39 : (execOp a0_38.eval { dst := some 48, op := Op.call { callee := Callee.builtin Builtin.len, args := #[Operand.tmp 47], argTypes := #[22] }, type := 3, pos := "chain.go:73", after := #[{ on := 4, ground := Ground.data }], guard := none }).run Try.prog (W2) = .ok (.value (.int .i64 (ln : Int))) (W2) := by
    have e47 := (show a0_38.eval (.tmp 47) = .slice ao ln cc from (fa0_38.at_ 47))
    clear fa0_38 ha hk2 hn hln hkey hcN hce0 hce
    generalize a0_38.eval = ρ at *
    go_simp
  refine fa0_38.step 48 (.int .i64 (ln : Int)) rfl (lb_ hsz) (wanted_none rfl) r_a0_39 (fun a0_39 fa0_39 => ?_)
  clear r_a0_39
  clear fa0_38
  refine fa0_39.move 49 (.int .i64 ((0 : Nat) : Int)) _ (Or.inl rfl) rfl (lb_ hsz) (wanted_none rfl) rfl (fun a0_40 fa0_40 => ?_)
  clear fa0_39
  refine wpList_nil ?_
  change Code.wp _ _ _ _ _
  refine wp_block ?_
  refine lyL (p := p) (q := q) (by intro c a d v w h; cases d <;> exact h) a0_40 W2 ⟨fa0_40.size.trans hsz, fa0_40.defers.trans hd, (show a0_40.eval (.tmp 1) = .int .u64 (vr : Int) from ((fa0_40.at_ 1).trans (ha 1 _ rfl))), (show a0_40.eval (.tmp 4) = .pointer (some ⟨w.heap.size, 0, none⟩) from (fa0_40.at_ 4)), (show a0_40.eval (.tmp 10) = .slice ao N.length cc from (fa0_40.at_ 10)), (show a0_40.eval (.tmp 47) = .slice ao ln cc from (fa0_40.at_ 47)), (show a0_40.eval (.tmp 48) = .int .i64 (ln : Int) from (fa0_40.at_ 48))⟩ (show a0_40.eval (.tmp 49) = .int .i64 ((0 : Nat) : Int) from (fa0_40.at_ 49)) (show a0_40.eval (.tmp 11) = .slice none 0 0 from (fa0_40.at_ 11)) (hbv.same s2) hlN hwN (s2.keep e0) (s2.keep e1) (fun b W lo lc4 hbd hbs b11 hc => ?_)
  change Code.wp _ _ _ _ _
  refine wp_seq ?_
  have fb_0 := Fe.refl b
  refine wp_region_list ?_
  unfold rLY13
  refine fb_0.move 74 (.slice lo (laidP p q N ln).length lc4) _ (Or.inl rfl) rfl (lb_ hbs) (wanted_none rfl) ((fb_0.at_ 11).trans b11) (fun b_1 fb_1 => ?_)
  clear fb_0
  refine fb_1.move 8 (.slice lo (laidP p q N ln).length lc4) _ (Or.inr rfl) rfl (lb_ hbs) (wanted_none rfl) (fb_1.at_ 74) (fun b_2 fb_2 => ?_)
  clear fb_1
  refine fb_2.move 9 (.int .i64 0) _ (Or.inr rfl) rfl (lb_ hbs) (wanted_none rfl) rfl (fun b_3 fb_3 => ?_)
  clear fb_2
  refine wpList_nil ?_
  change Code.wp _ _ _ _ _
  refine wp_ret ?_
  rw [laidP_key hkey] at hc
  refine ret_abs2 rfl (fb_3.defers.trans hbd) (show b_3.eval (.tmp 8) = .slice lo (laidP p q N ln).length lc4 from (fb_3.at_ 8)) (show b_3.eval (.tmp 9) = .int .i64 0 from (fb_3.at_ 9)) ⟨lo, lc4, by rw [laidP_key hkey], own_base hc.row ((sV.trans s1).trans s2).size, ((sV.trans s1).trans s2).trans hc.same⟩
end Go.Proofs.Ytneopkhkkfckcaa
