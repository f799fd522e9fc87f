/- Walks over a frame that is a letter: what its slots hold is all that is known of it. -/
import Derived.BigFrame
import Derived.Deep.RegionHeld
import Derived.Test.YtjlbkagkmcelgaaNCH
namespace Go.Proofs.Ytjlbkagkmcelgaa


theorem lb_ {d n m : Nat} (h : m = n) (hd : d < n := by decide) : d < m := Nat.lt_of_lt_of_eq hd h.symm
theorem eval_put_same {a : Act} {d : Nat} {v : Value} (h : d < a.tmps.size) : (a.put (some d) v).eval (.tmp d) = v := by
  simp [Act.put, Act.eval, Array.getD, h]
theorem eval_put_ne {a : Act} {d t : Nat} {v : Value} (h : d ≠ t) : (a.put (some d) v).eval (.tmp t) = a.eval (.tmp t) := by
  unfold Act.put Act.eval
  simp only [Array.getD_eq_getD_getElem?]
  rw [Array.getElem?_setIfInBounds_ne h]
/-- What a slot holds behind the writes of env (the last one first). -/
def look : List (Nat × Value) → Nat → Value → Value
  | [], _, d => d
  | (k, v) :: l, t, d => cond (Nat.beq k t) v (look l t d)
/-- The frame a is a0 behind the writes of env. -/
structure Fe (a0 : Act) (env : List (Nat × Value)) (a : Act) : Prop where
  size : a.tmps.size = a0.tmps.size
  defers : a.defers = a0.defers
  at_ : ∀ t, a.eval (.tmp t) = look env t (a0.eval (.tmp t))
theorem Fe.refl (a : Act) : Fe a [] a := ⟨rfl, rfl, fun _ => rfl⟩
theorem Fe.push {a0 a : Act} {d : Nat} {env : List (Nat × Value)} (h : Fe a0 env a) (hb : d < a0.tmps.size) (v : Value) : Fe a0 ((d, v) :: env) (a.put (some d) v) := by
  refine ⟨by simp only [Act.put, Array.size_setIfInBounds]; exact h.size, h.defers, fun t => ?_⟩
  show _ = cond (Nat.beq d t) v (look env t (a0.eval (.tmp t)))
  by_cases e : d = t
  · subst e
    rw [eval_put_same (by rw [h.size]; exact hb), Nat.beq_refl]
    rfl
  · have hb : Nat.beq d t = false := by
      cases hq : Nat.beq d t
      · rfl
      · exact absurd (Nat.eq_of_beq_eq_true hq) e
    rw [eval_put_ne e, hb, h.at_ t]
    rfl
section
variable {P : Program} {ops : Array Oper} {Q : Exit → Act → World → Prop} {a0 a : Act} {w : World} {rest : List Oper} {o : Oper} {env : List (Nat × Value)}
/-- An operation that is carried out, and keeps the world. -/
theorem Fe.step (h : Fe a0 env a) (d : Nat) (v : Value) (hd : o.dst = some d) (hb : d < a0.tmps.size) (hw : Region.wanted o (yielded ops a.tmps) = true)
    (hr : (execOp a.eval o).run P w = .ok (.value v) w) (k : ∀ a', Fe a0 ((d, v) :: env) a' → wpList P ops Q rest a' w) : wpList P ops Q (o :: rest) a w := by
  refine BigFrame.wpList_want hw fun K hK => ?_
  unfold Oper.wp
  rw [hr]
  show K (a.put o.dst v) w
  rw [hd]
  exact hK _ _ (k _ (h.push hb v))
/-- One that turns the world. -/
theorem Fe.stepW {w' : World} (h : Fe a0 env a) (d : Nat) (v : Value) (hd : o.dst = some d) (hb : d < a0.tmps.size) (hw : Region.wanted o (yielded ops a.tmps) = true)
    (hr : (execOp a.eval o).run P w = .ok (.value v) w') (k : ∀ a', Fe a0 ((d, v) :: env) a' → wpList P ops Q rest a' w') : wpList P ops Q (o :: rest) a w := by
  refine BigFrame.wpList_want hw fun K hK => ?_
  unfold Oper.wp
  rw [hr]
  show K (a.put o.dst v) w'
  rw [hd]
  exact hK _ _ (k _ (h.push hb v))
/-- A store: no slot is written. -/
theorem Fe.store {w' : World} (h : Fe a0 env a) (hd : o.dst = none) (hw : Region.wanted o (yielded ops a.tmps) = true)
    (hr : (execOp a.eval o).run P w = .ok .skip w') (k : ∀ a', Fe a0 env a' → wpList P ops Q rest a' w') : wpList P ops Q (o :: rest) a w := by
  refine BigFrame.wpList_want hw fun K hK => ?_
  unfold Oper.wp
  rw [hr]
  show K (a.put o.dst undef) w'
  rw [hd]
  exact hK _ _ (k _ h)
/-- A call, by its callee's contract. -/
theorem Fe.call {f : FuncId} {args : Array Value} {R : Ending → World → Prop} (h : Fe a0 env a) (d : Nat) (hd : o.dst = some d) (hb : d < a0.tmps.size) (hw : Region.wanted o (yielded ops a.tmps) = true)
    (hr : (execOp a.eval o).run P w = .ok (.enter f args) w) (hc : Calls P f args w R)
    (k : ∀ e w', R e w' → ∃ v, e = .returned v ∧ ∀ a', Fe a0 ((d, v) :: env) a' → wpList P ops Q rest a' w') : wpList P ops Q (o :: rest) a w := by
  refine BigFrame.wpList_want hw fun K hK => ?_
  unfold Oper.wp
  rw [hr, Oper.upon_enter]
  refine hc.mono fun e w' hR => ?_
  obtain ⟨v, rfl, hk⟩ := k e w' hR
  show K (a.put o.dst v) w'
  rw [hd]
  exact hK _ _ (hk _ (h.push hb v))
/-- One that its guard switches off. -/
theorem Fe.skip (h : Fe a0 env a) (d : Nat) (hd : o.dst = some d) (hb : d < a0.tmps.size) (hw : Region.wanted o (yielded ops a.tmps) = false)
    (k : ∀ a', Fe a0 ((d, undef) :: env) a' → wpList P ops Q rest a' w) : wpList P ops Q (o :: rest) a w := by
  refine wpList_step fun K hK => ?_
  rw [hw]
  show K (a.put o.dst undef) w
  rw [hd]
  exact hK _ _ (k _ (h.push hb undef))
/-- A move or an assignment. -/
theorem Fe.move (h : Fe a0 env a) (d : Nat) (v : Value) (x : Operand) (ho : o.op = .move x ∨ o.op = .assign x) (hd : o.dst = some d) (hb : d < a0.tmps.size) (hw : Region.wanted o (yielded ops a.tmps) = true)
    (hv : a.eval x = v) (k : ∀ a', Fe a0 ((d, v) :: env) a' → wpList P ops Q rest a' w) : wpList P ops Q (o :: rest) a w := by
  refine h.step d v hd hb hw ?_ k
  unfold execOp
  rcases ho with ho | ho <;> rw [ho] <;> simp only [hv] <;> rfl
end
section
variable {P : Program} {ops : Array Oper} {Q : Exit → Act → World → Prop} {a0 a : Act} {w : World} {o : Oper} {env : List (Nat × Value)} {md : Region.Mode} {S : World → Prop} {fuel i : Nat} {listed : Array Bool}
/-- In a region that draws: an operation that is taken first. -/
theorem Fe.take (h : Fe a0 env a) (i : Nat) (d : Nat) (v : Value) (hi : ops[i]? = some o) (hs : Region.noSelect ops = true) (hf : Region.free md ops listed i = true) (hr : (Region.ready md ops listed).contains i = true)
    (hQ : ∀ c a w, Q (.panic c) (a.put o.dst v) w → Q (.panic c) a w) (hd : o.dst = some d) (hb : d < a0.tmps.size) (hw : Region.wanted o (yielded ops a.tmps) = true)
    (hy : ∀ w, S w → (execOp a.eval o).run P w = .ok (.value v) w) (hS : S w) (k : ∀ a', Fe a0 ((d, v) :: env) a' → wpAnyH P md ops Q S fuel (listed.setIfInBounds i true) a' w) : wpAnyH P md ops Q S (fuel + 1) listed a w := by
  refine wpAnyH_take hi hs hf hr hQ (Or.inl ⟨hw, hy⟩) hS ?_
  rw [hd]
  exact k _ (h.push hb v)
theorem Fe.takeOff (h : Fe a0 env a) (i : Nat) (d : Nat) (hi : ops[i]? = some o) (hs : Region.noSelect ops = true) (hf : Region.free md ops listed i = true) (hr : (Region.ready md ops listed).contains i = true)
    (hQ : ∀ c a w, Q (.panic c) (a.put o.dst undef) w → Q (.panic c) a w) (hd : o.dst = some d) (hb : d < a0.tmps.size) (hw : Region.wanted o (yielded ops a.tmps) = false)
    (hS : S w) (k : ∀ a', Fe a0 ((d, undef) :: env) a' → wpAnyH P md ops Q S fuel (listed.setIfInBounds i true) a' w) : wpAnyH P md ops Q S (fuel + 1) listed a w := by
  refine wpAnyH_take hi hs hf hr hQ (Or.inr ⟨hw, rfl⟩) hS ?_
  rw [hd]
  exact k _ (h.push hb undef)
theorem Fe.takeMove (h : Fe a0 env a) (i : Nat) (d : Nat) (v : Value) (x : Operand) (ho : o.op = .move x ∨ o.op = .assign x) (hi : ops[i]? = some o) (hs : Region.noSelect ops = true) (hf : Region.free md ops listed i = true) (hr : (Region.ready md ops listed).contains i = true)
    (hQ : ∀ c a w, Q (.panic c) (a.put o.dst v) w → Q (.panic c) a w) (hd : o.dst = some d) (hb : d < a0.tmps.size) (hw : Region.wanted o (yielded ops a.tmps) = true)
    (hv : a.eval x = v) (hS : S w) (k : ∀ a', Fe a0 ((d, v) :: env) a' → wpAnyH P md ops Q S fuel (listed.setIfInBounds i true) a' w) : wpAnyH P md ops Q S (fuel + 1) listed a w := by
  refine h.take i d v hi hs hf hr hQ hd hb hw (fun w _ => ?_) hS k
  unfold execOp
  rcases ho with ho | ho <;> rw [ho] <;> simp only [hv] <;> rfl
/-- The one that may come up, and turns the world. -/
theorem Fe.one {w' : World} (h : Fe a0 env a) (i : Nat) (d : Nat) (v : Value) (hr : Region.ready md ops listed = [i]) (hi : ops[i]? = some o) (hd : o.dst = some d) (hb : d < a0.tmps.size) (hw : Region.wanted o (yielded ops a.tmps) = true)
    (hrun : (execOp a.eval o).run P w = .ok (.value v) w') (hS : S w') (k : ∀ a', Fe a0 ((d, v) :: env) a' → wpAnyH P md ops Q S fuel (listed.setIfInBounds i true) a' w') : wpAnyH P md ops Q S (fuel + 1) listed a w := by
  refine wpAnyH_ready hr (by simp) (AllReadyH.cons hi (fun K hK => ?_) AllReadyH.nil)
  rw [if_pos hw]
  unfold Oper.wp
  rw [hrun]
  show K (a.put o.dst v) w'
  rw [hd]
  exact hK.out _ _ hS (fun _ => k _ (h.push hb v))
/-- The one that may come up is a call. -/
theorem Fe.oneCall {f : FuncId} {args : Array Value} {R : Ending → World → Prop} (h : Fe a0 env a) (i : Nat) (d : Nat) (hr : Region.ready md ops listed = [i]) (hi : ops[i]? = some o) (hd : o.dst = some d) (hb : d < a0.tmps.size) (hw : Region.wanted o (yielded ops a.tmps) = true)
    (hrun : (execOp a.eval o).run P w = .ok (.enter f args) w) (hc : Calls P f args w R)
    (k : ∀ e w', R e w' → ∃ v, e = .returned v ∧ S w' ∧ ∀ a', Fe a0 ((d, v) :: env) a' → wpAnyH P md ops Q S fuel (listed.setIfInBounds i true) a' w') : wpAnyH P md ops Q S (fuel + 1) listed a w := by
  refine wpAnyH_ready hr (by simp) (AllReadyH.cons hi (fun K hK => ?_) AllReadyH.nil)
  rw [if_pos hw]
  unfold Oper.wp
  rw [hrun, Oper.upon_enter]
  refine hc.mono fun e w' hR => ?_
  obtain ⟨v, rfl, hS, hk⟩ := k e w' hR
  show K (a.put o.dst v) w'
  rw [hd]
  exact hK.out _ _ hS (fun _ => hk _ (h.push hb v))
end
/-- A contract out of the body, walked over a frame that is a letter. -/
theorem calls_abs {P : Program} {f : FuncId} {fn : Func} {c : Code} {args : Array Value} {w : World} {R : Ending → World → Prop} (hf : P.funcs[f]? = some fn) (hb : fn.body = some c) (n : Nat) (hn : fn.ntmps = n) (hs : args.size ≤ n)
    (h : ∀ a0 : Act, a0.tmps.size = n → a0.defers = [] → (∀ (i : Nat) v, args[i]? = some v → a0.eval (.tmp i) = v) → c.wp P (bodyPost P fn R) a0 w) : Calls P f args w R := by
  refine calls_of_wp hf hb (h _ ?_ rfl fun i v hv => ?_)
  · simp only [Array.size_append, Array.size_replicate, hn]; omega
  · have hi : i < args.size := (Array.getElem?_eq_some_iff.1 hv).1
    show Array.getD _ i undef = v
    rw [Array.getD_eq_getD_getElem?, Array.getElem?_append_left hi, hv]
    rfl
theorem ret_abs {P : Program} {fn : Func} {R : Ending → World → Prop} {a : Act} {w : World} {t : Tmp} {v : Value} (h : fn.results = #[.tmp t]) (hd : a.defers = []) (hv : a.eval (.tmp t) = v) (hR : R (.returned v) w) : bodyPost P fn R .ret a w :=
  bodyPost_ret (results_tmp h _ _ _) hd (by rw [show a.tmps.getD t undef = v from hv]; exact hR)
theorem wanted_none {o : Oper} {y : Nat → Option Bool} (h : o.guard = none) : Region.wanted o y = true := by unfold Region.wanted; rw [h]
theorem wanted_at {o oj : Oper} {ops : Array Oper} {a : Act} {j t : Nat} {b c : Bool} (h : o.guard = some (j, b)) (hj : ops[j]? = some oj) (hd : oj.dst = some t) (hs : t < a.tmps.size) (hv : a.eval (.tmp t) = .bool c) : Region.wanted o (yielded ops a.tmps) = (c == b) := by
  unfold Region.wanted
  rw [h]
  have e : a.tmps[t]? = some (.bool c) := by
    unfold Act.eval at hv
    simp only [Array.getD_eq_getD_getElem?] at hv
    rw [Array.getElem?_eq_getElem hs] at hv ⊢
    simpa using hv
  simp only [yielded, hj, hd, Option.bind_some, e]
  cases c <;> cases b <;> rfl
end Go.Proofs.Ytjlbkagkmcelgaa
namespace Go.Proofs.Ytjlbkagkmcelgaa
open Go.RowKit Go.Maps

theorem one_strD (W : World) (c : Nat) (hc : c < 256) : (convert 44 9 (.slice (some ⟨W.heap.size, 0, none⟩) 1 1)).run Try.prog (W.alloc (.cells #[.int .u8 c] 5)).drew = .ok (.string ⟨#[UInt8.ofNat c]⟩) (W.alloc (.cells #[.int .u8 c] 5)).drew := by
  have hown : Owns (W.alloc (.cells #[.int .u8 c] 5)).drew (.slice (some ⟨W.heap.size, 0, none⟩) 1 1) [UInt8.ofNat c] := by
    refine ⟨rfl, Or.inr ⟨W.heap.size, 1, #[.int .u8 c], rfl, Nat.zero_le _, heap_alloc_new W _, Nat.le_refl _, by decide, rfl, ?_⟩⟩
    simp [bcells]
    omega
  exact owns_string (P := Try.prog) hown 44 9 Try.underlying44 Try.underlying5 Try.underlying9
theorem FP_sz : FP.sz = 2 := rfl
theorem FS_sz : FS.sz = 1 := rfl
theorem FK_sz : FK.sz = 33 := rfl
def kOfN (a : Act) (t : Nat) : Nat := match a.eval (.tmp t) with | .int _ x => x.toNat | _ => 0
theorem kOfN_eq {a : Act} {t k : Nat} (h : a.eval (.tmp t) = .int .i64 (k : Int)) : kOfN a t = k := by unfold kOfN; rw [h]; simp
/-- A row of a marks and, behind them, b others. -/
structure Mk2 (F : Fam) (W : World) (x : Sl) (a b m : Nat) : Prop where
  n : x.n = a + b
  h : Hold W x.ao (rp F a m ++ rp F b (256 + m))
section
variable {F : Fam} {W W' w : World} {x : Sl} {a b m k i : Nat} {v : Value}
theorem Mk2.same (h : Mk2 F W x a b m) (s : Same W W') : Mk2 F W' x a b m := ⟨h.n, h.h.fr s (fun _ _ f => f)⟩
theorem Mk2.one (h : Mk2 F W x a b m) (hk : k < a) (hv : (F.mrk m)[i]? = some v) : ∃ g, x.ao = some ⟨g, 0, none⟩ ∧ W.cell? ⟨g, k * F.sz + i, none⟩ = some v := h.h.at_ hk hv
theorem Mk2.two (h : Mk2 F W x a b m) (hk : a ≤ k) (hk2 : k < a + b) (hv : (F.mrk (256 + m))[i]? = some v) : ∃ g, x.ao = some ⟨g, 0, none⟩ ∧ W.cell? ⟨g, k * F.sz + i, none⟩ = some v := h.h.at2 hk hk2 hv
end
/-- The frame while the lists are looked at. -/
structure IM (b n1 n2 n3 m : Nat) (a : Act) : Prop where
  size : a.tmps.size = 134
  defers : a.defers = []
  s1 : a.eval (.tmp 1) = .int .i64 (n1 : Int)
  s2 : a.eval (.tmp 2) = .int .i64 (n2 : Int)
  s3 : a.eval (.tmp 3) = .int .i64 (n3 : Int)
  s4 : a.eval (.tmp 4) = .int .u32 (m : Int)
  s5 : a.eval (.tmp 5) = .pointer (some ⟨b, 0, none⟩)
theorem IM.keep {b n1 n2 n3 m : Nat} {a0 a : Act} {env : List (Nat × Value)} (h : IM b n1 n2 n3 m a0) (f : Fe a0 env a) (h1 : look env 1 (a0.eval (.tmp 1)) = a0.eval (.tmp 1)) (h2 : look env 2 (a0.eval (.tmp 2)) = a0.eval (.tmp 2)) (h3 : look env 3 (a0.eval (.tmp 3)) = a0.eval (.tmp 3)) (h4 : look env 4 (a0.eval (.tmp 4)) = a0.eval (.tmp 4)) (h5 : look env 5 (a0.eval (.tmp 5)) = a0.eval (.tmp 5)) : IM b n1 n2 n3 m a :=
  ⟨f.size.trans h.size, f.defers.trans h.defers, ((f.at_ 1).trans h1).trans h.s1, ((f.at_ 2).trans h2).trans h.s2, ((f.at_ 3).trans h3).trans h.s3, ((f.at_ 4).trans h4).trans h.s4, ((f.at_ 5).trans h5).trans h.s5⟩
def rMK0 : Array Oper := #[{ dst := some 5, op := Op.box 26 (Operand.tmp 0), type := 0, pos := "law.go:69", after := #[], guard := none },
  { dst := some 10, op := Op.assign (Operand.const (Value.bool false)), type := 4, pos := "law.go:69", after := #[], guard := none }]
def rMK1 : Array Oper := #[{ dst := some 11, op := Op.assign (Operand.const (Value.int IntKind.i64 0)), type := 3, pos := "law.go:70", after := #[], guard := none }]
def rMK2 : Array Oper := #[{ dst := some 14, op := Op.move (Operand.tmp 11), type := 3, pos := "law.go:70", after := #[], guard := none },
  { dst := some 15, op := Op.fieldAddr 26 (Operand.tmp 5) 0, type := 0, pos := "law.go:70", after := #[], guard := none },
  { dst := some 16, op := Op.load 22 (Operand.tmp 15), type := 22, pos := "law.go:70", after := #[{ on := 1, ground := Ground.data }], guard := none },
  { dst := some 17, op := Op.call { callee := Callee.builtin Builtin.len, args := #[Operand.tmp 16], argTypes := #[22] }, type := 3, pos := "law.go:70", after := #[{ on := 2, ground := Ground.data }], guard := none },
  { dst := some 18, op := Op.binOp BinOp.lss 3 (Operand.tmp 14) (Operand.tmp 17) 3, type := 4, pos := "law.go:70", after := #[{ on := 0, ground := Ground.data }, { on := 3, ground := Ground.data }], guard := none }]
def rMK3 : Array Oper := #[{ dst := some 19, op := Op.move (Operand.tmp 11), type := 3, pos := "law.go:70", after := #[], guard := none },
  { dst := some 20, op := Op.binOp BinOp.add 3 (Operand.tmp 19) (Operand.const (Value.int IntKind.i64 1)) 3, type := 3, pos := "law.go:70", after := #[{ on := 0, ground := Ground.data }], guard := none },
  { dst := some 11, op := Op.assign (Operand.tmp 20), type := 3, pos := "law.go:70", after := #[{ on := 1, ground := Ground.data }, { on := 0, ground := Ground.phase }, { on := 1, ground := Ground.phase }], guard := none }]
def rMK4 : Array Oper := #[{ dst := some 21, op := Op.move (Operand.tmp 11), type := 3, pos := "law.go:71", after := #[], guard := none },
  { dst := some 22, op := Op.move (Operand.tmp 1), type := 3, pos := "law.go:71", after := #[], guard := none },
  { dst := some 23, op := Op.binOp BinOp.lss 3 (Operand.tmp 21) (Operand.tmp 22) 3, type := 4, pos := "law.go:71", after := #[{ on := 0, ground := Ground.data }, { on := 1, ground := Ground.data }], guard := none },
  { dst := some 24, op := Op.move (Operand.tmp 23), type := 4, pos := "law.go:71", after := #[{ on := 2, ground := Ground.data }], guard := none },
  { dst := some 25, op := Op.fieldAddr 26 (Operand.tmp 5) 0, type := 0, pos := "law.go:71", after := #[{ on := 3, ground := Ground.guard }], guard := some (3, true) },
  { dst := some 26, op := Op.load 22 (Operand.tmp 25), type := 22, pos := "law.go:71", after := #[{ on := 4, ground := Ground.data }, { on := 3, ground := Ground.guard }], guard := some (3, true) },
  { dst := some 27, op := Op.move (Operand.tmp 11), type := 3, pos := "law.go:71", after := #[{ on := 3, ground := Ground.guard }], guard := some (3, true) },
  { dst := some 28, op := Op.indexAddr 22 (Operand.tmp 26) (Operand.tmp 27), type := 0, pos := "law.go:71", after := #[{ on := 5, ground := Ground.data }, { on := 6, ground := Ground.data }, { on := 3, ground := Ground.guard }], guard := some (3, true) },
  { dst := some 29, op := Op.fieldAddr 33 (Operand.tmp 28) 0, type := 0, pos := "law.go:71", after := #[{ on := 7, ground := Ground.data }, { on := 3, ground := Ground.guard }], guard := some (3, true) },
  { dst := some 30, op := Op.load 9 (Operand.tmp 29), type := 9, pos := "law.go:71", after := #[{ on := 8, ground := Ground.data }, { on := 3, ground := Ground.guard }], guard := some (3, true) },
  { dst := some 31, op := Op.move (Operand.tmp 4), type := 30, pos := "law.go:71", after := #[{ on := 3, ground := Ground.guard }], guard := some (3, true) },
  { dst := some 32, op := Op.convert 30 5 (Operand.tmp 31), type := 5, pos := "law.go:71", after := #[{ on := 10, ground := Ground.data }, { on := 3, ground := Ground.guard }], guard := some (3, true) },
  { dst := some 33, op := Op.buildSlice 44 1 #[(0, Operand.tmp 32)], type := 44, pos := "law.go:71", after := #[{ on := 11, ground := Ground.data }, { on := 3, ground := Ground.guard }], guard := some (3, true) },
  { dst := some 34, op := Op.convert 44 9 (Operand.tmp 33), type := 9, pos := "law.go:71", after := #[{ on := 12, ground := Ground.data }, { on := 3, ground := Ground.guard }], guard := some (3, true) },
  { dst := some 35, op := Op.binOp BinOp.add 9 (Operand.const (Value.string { data := #[120] })) (Operand.tmp 34) 9, type := 9, pos := "law.go:71", after := #[{ on := 13, ground := Ground.data }, { on := 3, ground := Ground.guard }], guard := some (3, true) },
  { dst := some 36, op := Op.binOp BinOp.neq 9 (Operand.tmp 30) (Operand.tmp 35) 9, type := 4, pos := "law.go:71", after := #[{ on := 9, ground := Ground.data }, { on := 14, ground := Ground.data }, { on := 3, ground := Ground.guard }], guard := some (3, true) },
  { dst := some 37, op := Op.pick (Operand.tmp 24) (Operand.tmp 36) (Operand.const (Value.bool false)), type := 4, pos := "law.go:71", after := #[{ on := 3, ground := Ground.data }, { on := 15, ground := Ground.data }], guard := none },
  { dst := some 38, op := Op.move (Operand.tmp 37), type := 4, pos := "law.go:71", after := #[{ on := 16, ground := Ground.data }, { on := 3, ground := Ground.chain }], guard := none },
  { dst := some 39, op := Op.move (Operand.tmp 11), type := 3, pos := "law.go:71", after := #[{ on := 17, ground := Ground.guard }], guard := some (17, false) },
  { dst := some 40, op := Op.move (Operand.tmp 1), type := 3, pos := "law.go:71", after := #[{ on := 17, ground := Ground.guard }], guard := some (17, false) },
  { dst := some 41, op := Op.binOp BinOp.geq 3 (Operand.tmp 39) (Operand.tmp 40) 3, type := 4, pos := "law.go:71", after := #[{ on := 18, ground := Ground.data }, { on := 19, ground := Ground.data }, { on := 17, ground := Ground.guard }], guard := some (17, false) },
  { dst := some 42, op := Op.move (Operand.tmp 41), type := 4, pos := "law.go:71", after := #[{ on := 20, ground := Ground.data }, { on := 17, ground := Ground.chain }, { on := 17, ground := Ground.guard }], guard := some (17, false) },
  { dst := some 43, op := Op.fieldAddr 26 (Operand.tmp 5) 0, type := 0, pos := "law.go:71", after := #[{ on := 21, ground := Ground.guard }], guard := some (21, true) },
  { dst := some 44, op := Op.load 22 (Operand.tmp 43), type := 22, pos := "law.go:71", after := #[{ on := 22, ground := Ground.data }, { on := 21, ground := Ground.guard }], guard := some (21, true) },
  { dst := some 45, op := Op.move (Operand.tmp 11), type := 3, pos := "law.go:71", after := #[{ on := 21, ground := Ground.guard }], guard := some (21, true) },
  { dst := some 46, op := Op.indexAddr 22 (Operand.tmp 44) (Operand.tmp 45), type := 0, pos := "law.go:71", after := #[{ on := 23, ground := Ground.data }, { on := 24, ground := Ground.data }, { on := 21, ground := Ground.guard }], guard := some (21, true) },
  { dst := some 47, op := Op.fieldAddr 33 (Operand.tmp 46) 0, type := 0, pos := "law.go:71", after := #[{ on := 25, ground := Ground.data }, { on := 21, ground := Ground.guard }], guard := some (21, true) },
  { dst := some 48, op := Op.load 9 (Operand.tmp 47), type := 9, pos := "law.go:71", after := #[{ on := 26, ground := Ground.data }, { on := 21, ground := Ground.guard }], guard := some (21, true) },
  { dst := some 49, op := Op.move (Operand.tmp 4), type := 30, pos := "law.go:71", after := #[{ on := 21, ground := Ground.guard }], guard := some (21, true) },
  { dst := some 50, op := Op.convert 30 5 (Operand.tmp 49), type := 5, pos := "law.go:71", after := #[{ on := 28, ground := Ground.data }, { on := 21, ground := Ground.guard }], guard := some (21, true) },
  { dst := some 51, op := Op.buildSlice 44 1 #[(0, Operand.tmp 50)], type := 44, pos := "law.go:71", after := #[{ on := 29, ground := Ground.data }, { on := 21, ground := Ground.guard }], guard := some (21, true) },
  { dst := some 52, op := Op.convert 44 9 (Operand.tmp 51), type := 9, pos := "law.go:71", after := #[{ on := 30, ground := Ground.data }, { on := 21, ground := Ground.guard }], guard := some (21, true) },
  { dst := some 53, op := Op.binOp BinOp.add 9 (Operand.const (Value.string { data := #[121] })) (Operand.tmp 52) 9, type := 9, pos := "law.go:71", after := #[{ on := 31, ground := Ground.data }, { on := 21, ground := Ground.guard }], guard := some (21, true) },
  { dst := some 54, op := Op.binOp BinOp.neq 9 (Operand.tmp 48) (Operand.tmp 53) 9, type := 4, pos := "law.go:71", after := #[{ on := 27, ground := Ground.data }, { on := 32, ground := Ground.data }, { on := 21, ground := Ground.guard }], guard := some (21, true) },
  { dst := some 55, op := Op.pick (Operand.tmp 42) (Operand.tmp 54) (Operand.const (Value.bool false)), type := 4, pos := "law.go:71", after := #[{ on := 21, ground := Ground.data }, { on := 33, ground := Ground.data }, { on := 17, ground := Ground.guard }], guard := some (17, false) },
  { dst := some 56, op := Op.pick (Operand.tmp 38) (Operand.const (Value.bool true)) (Operand.tmp 55), type := 4, pos := "law.go:71", after := #[{ on := 17, ground := Ground.data }, { on := 34, ground := Ground.data }], guard := none }]
def rMK5 : Array Oper := #[{ dst := some 10, op := Op.assign (Operand.const (Value.bool false)), type := 4, pos := "law.go:72", after := #[], guard := none }]
def rMK6 : Array Oper := #[{ dst := some 12, op := Op.assign (Operand.const (Value.int IntKind.i64 0)), type := 3, pos := "law.go:75", after := #[], guard := none }]
def rMK7 : Array Oper := #[{ dst := some 57, op := Op.move (Operand.tmp 12), type := 3, pos := "law.go:75", after := #[], guard := none },
  { dst := some 58, op := Op.fieldAddr 26 (Operand.tmp 5) 1, type := 0, pos := "law.go:75", after := #[], guard := none },
  { dst := some 59, op := Op.load 23 (Operand.tmp 58), type := 23, pos := "law.go:75", after := #[{ on := 1, ground := Ground.data }], guard := none },
  { dst := some 60, op := Op.call { callee := Callee.builtin Builtin.len, args := #[Operand.tmp 59], argTypes := #[23] }, type := 3, pos := "law.go:75", after := #[{ on := 2, ground := Ground.data }], guard := none },
  { dst := some 61, op := Op.binOp BinOp.lss 3 (Operand.tmp 57) (Operand.tmp 60) 3, type := 4, pos := "law.go:75", after := #[{ on := 0, ground := Ground.data }, { on := 3, ground := Ground.data }], guard := none }]
def rMK8 : Array Oper := #[{ dst := some 62, op := Op.move (Operand.tmp 12), type := 3, pos := "law.go:75", after := #[], guard := none },
  { dst := some 63, op := Op.binOp BinOp.add 3 (Operand.tmp 62) (Operand.const (Value.int IntKind.i64 1)) 3, type := 3, pos := "law.go:75", after := #[{ on := 0, ground := Ground.data }], guard := none },
  { dst := some 12, op := Op.assign (Operand.tmp 63), type := 3, pos := "law.go:75", after := #[{ on := 1, ground := Ground.data }, { on := 0, ground := Ground.phase }, { on := 1, ground := Ground.phase }], guard := none }]
def rMK9 : Array Oper := #[{ dst := some 64, op := Op.move (Operand.tmp 12), type := 3, pos := "law.go:76", after := #[], guard := none },
  { dst := some 65, op := Op.move (Operand.tmp 2), type := 3, pos := "law.go:76", after := #[], guard := none },
  { dst := some 66, op := Op.binOp BinOp.lss 3 (Operand.tmp 64) (Operand.tmp 65) 3, type := 4, pos := "law.go:76", after := #[{ on := 0, ground := Ground.data }, { on := 1, ground := Ground.data }], guard := none },
  { dst := some 67, op := Op.move (Operand.tmp 66), type := 4, pos := "law.go:76", after := #[{ on := 2, ground := Ground.data }], guard := none },
  { dst := some 68, op := Op.fieldAddr 26 (Operand.tmp 5) 1, type := 0, pos := "law.go:76", after := #[{ on := 3, ground := Ground.guard }], guard := some (3, true) },
  { dst := some 69, op := Op.load 23 (Operand.tmp 68), type := 23, pos := "law.go:76", after := #[{ on := 4, ground := Ground.data }, { on := 3, ground := Ground.guard }], guard := some (3, true) },
  { dst := some 70, op := Op.move (Operand.tmp 12), type := 3, pos := "law.go:76", after := #[{ on := 3, ground := Ground.guard }], guard := some (3, true) },
  { dst := some 71, op := Op.indexAddr 23 (Operand.tmp 69) (Operand.tmp 70), type := 0, pos := "law.go:76", after := #[{ on := 5, ground := Ground.data }, { on := 6, ground := Ground.data }, { on := 3, ground := Ground.guard }], guard := some (3, true) },
  { dst := some 72, op := Op.load 9 (Operand.tmp 71), type := 9, pos := "law.go:76", after := #[{ on := 7, ground := Ground.data }, { on := 3, ground := Ground.guard }], guard := some (3, true) },
  { dst := some 73, op := Op.move (Operand.tmp 4), type := 30, pos := "law.go:76", after := #[{ on := 3, ground := Ground.guard }], guard := some (3, true) },
  { dst := some 74, op := Op.convert 30 5 (Operand.tmp 73), type := 5, pos := "law.go:76", after := #[{ on := 9, ground := Ground.data }, { on := 3, ground := Ground.guard }], guard := some (3, true) },
  { dst := some 75, op := Op.buildSlice 44 1 #[(0, Operand.tmp 74)], type := 44, pos := "law.go:76", after := #[{ on := 10, ground := Ground.data }, { on := 3, ground := Ground.guard }], guard := some (3, true) },
  { dst := some 76, op := Op.convert 44 9 (Operand.tmp 75), type := 9, pos := "law.go:76", after := #[{ on := 11, ground := Ground.data }, { on := 3, ground := Ground.guard }], guard := some (3, true) },
  { dst := some 77, op := Op.binOp BinOp.add 9 (Operand.const (Value.string { data := #[120] })) (Operand.tmp 76) 9, type := 9, pos := "law.go:76", after := #[{ on := 12, ground := Ground.data }, { on := 3, ground := Ground.guard }], guard := some (3, true) },
  { dst := some 78, op := Op.binOp BinOp.neq 9 (Operand.tmp 72) (Operand.tmp 77) 9, type := 4, pos := "law.go:76", after := #[{ on := 8, ground := Ground.data }, { on := 13, ground := Ground.data }, { on := 3, ground := Ground.guard }], guard := some (3, true) },
  { dst := some 79, op := Op.pick (Operand.tmp 67) (Operand.tmp 78) (Operand.const (Value.bool false)), type := 4, pos := "law.go:76", after := #[{ on := 3, ground := Ground.data }, { on := 14, ground := Ground.data }], guard := none },
  { dst := some 80, op := Op.move (Operand.tmp 79), type := 4, pos := "law.go:76", after := #[{ on := 15, ground := Ground.data }, { on := 3, ground := Ground.chain }], guard := none },
  { dst := some 81, op := Op.move (Operand.tmp 12), type := 3, pos := "law.go:76", after := #[{ on := 16, ground := Ground.guard }], guard := some (16, false) },
  { dst := some 82, op := Op.move (Operand.tmp 2), type := 3, pos := "law.go:76", after := #[{ on := 16, ground := Ground.guard }], guard := some (16, false) },
  { dst := some 83, op := Op.binOp BinOp.geq 3 (Operand.tmp 81) (Operand.tmp 82) 3, type := 4, pos := "law.go:76", after := #[{ on := 17, ground := Ground.data }, { on := 18, ground := Ground.data }, { on := 16, ground := Ground.guard }], guard := some (16, false) },
  { dst := some 84, op := Op.move (Operand.tmp 83), type := 4, pos := "law.go:76", after := #[{ on := 19, ground := Ground.data }, { on := 16, ground := Ground.chain }, { on := 16, ground := Ground.guard }], guard := some (16, false) },
  { dst := some 85, op := Op.fieldAddr 26 (Operand.tmp 5) 1, type := 0, pos := "law.go:76", after := #[{ on := 20, ground := Ground.guard }], guard := some (20, true) },
  { dst := some 86, op := Op.load 23 (Operand.tmp 85), type := 23, pos := "law.go:76", after := #[{ on := 21, ground := Ground.data }, { on := 20, ground := Ground.guard }], guard := some (20, true) },
  { dst := some 87, op := Op.move (Operand.tmp 12), type := 3, pos := "law.go:76", after := #[{ on := 20, ground := Ground.guard }], guard := some (20, true) },
  { dst := some 88, op := Op.indexAddr 23 (Operand.tmp 86) (Operand.tmp 87), type := 0, pos := "law.go:76", after := #[{ on := 22, ground := Ground.data }, { on := 23, ground := Ground.data }, { on := 20, ground := Ground.guard }], guard := some (20, true) },
  { dst := some 89, op := Op.load 9 (Operand.tmp 88), type := 9, pos := "law.go:76", after := #[{ on := 24, ground := Ground.data }, { on := 20, ground := Ground.guard }], guard := some (20, true) },
  { dst := some 90, op := Op.move (Operand.tmp 4), type := 30, pos := "law.go:76", after := #[{ on := 20, ground := Ground.guard }], guard := some (20, true) },
  { dst := some 91, op := Op.convert 30 5 (Operand.tmp 90), type := 5, pos := "law.go:76", after := #[{ on := 26, ground := Ground.data }, { on := 20, ground := Ground.guard }], guard := some (20, true) },
  { dst := some 92, op := Op.buildSlice 44 1 #[(0, Operand.tmp 91)], type := 44, pos := "law.go:76", after := #[{ on := 27, ground := Ground.data }, { on := 20, ground := Ground.guard }], guard := some (20, true) },
  { dst := some 93, op := Op.convert 44 9 (Operand.tmp 92), type := 9, pos := "law.go:76", after := #[{ on := 28, ground := Ground.data }, { on := 20, ground := Ground.guard }], guard := some (20, true) },
  { dst := some 94, op := Op.binOp BinOp.add 9 (Operand.const (Value.string { data := #[121] })) (Operand.tmp 93) 9, type := 9, pos := "law.go:76", after := #[{ on := 29, ground := Ground.data }, { on := 20, ground := Ground.guard }], guard := some (20, true) },
  { dst := some 95, op := Op.binOp BinOp.neq 9 (Operand.tmp 89) (Operand.tmp 94) 9, type := 4, pos := "law.go:76", after := #[{ on := 25, ground := Ground.data }, { on := 30, ground := Ground.data }, { on := 20, ground := Ground.guard }], guard := some (20, true) },
  { dst := some 96, op := Op.pick (Operand.tmp 84) (Operand.tmp 95) (Operand.const (Value.bool false)), type := 4, pos := "law.go:76", after := #[{ on := 20, ground := Ground.data }, { on := 31, ground := Ground.data }, { on := 16, ground := Ground.guard }], guard := some (16, false) },
  { dst := some 97, op := Op.pick (Operand.tmp 80) (Operand.const (Value.bool true)) (Operand.tmp 96), type := 4, pos := "law.go:76", after := #[{ on := 16, ground := Ground.data }, { on := 32, ground := Ground.data }], guard := none }]
def rMK10 : Array Oper := #[{ dst := some 10, op := Op.assign (Operand.const (Value.bool false)), type := 4, pos := "law.go:77", after := #[], guard := none }]
def rMK11 : Array Oper := #[{ dst := some 13, op := Op.assign (Operand.const (Value.int IntKind.i64 0)), type := 3, pos := "law.go:80", after := #[], guard := none }]
def rMK12 : Array Oper := #[{ dst := some 98, op := Op.move (Operand.tmp 13), type := 3, pos := "law.go:80", after := #[], guard := none },
  { dst := some 99, op := Op.fieldAddr 26 (Operand.tmp 5) 2, type := 0, pos := "law.go:80", after := #[], guard := none },
  { dst := some 100, op := Op.load 24 (Operand.tmp 99), type := 24, pos := "law.go:80", after := #[{ on := 1, ground := Ground.data }], guard := none },
  { dst := some 101, op := Op.call { callee := Callee.builtin Builtin.len, args := #[Operand.tmp 100], argTypes := #[24] }, type := 3, pos := "law.go:80", after := #[{ on := 2, ground := Ground.data }], guard := none },
  { dst := some 102, op := Op.binOp BinOp.lss 3 (Operand.tmp 98) (Operand.tmp 101) 3, type := 4, pos := "law.go:80", after := #[{ on := 0, ground := Ground.data }, { on := 3, ground := Ground.data }], guard := none }]
def rMK13 : Array Oper := #[{ dst := some 103, op := Op.move (Operand.tmp 13), type := 3, pos := "law.go:80", after := #[], guard := none },
  { dst := some 104, op := Op.binOp BinOp.add 3 (Operand.tmp 103) (Operand.const (Value.int IntKind.i64 1)) 3, type := 3, pos := "law.go:80", after := #[{ on := 0, ground := Ground.data }], guard := none },
  { dst := some 13, op := Op.assign (Operand.tmp 104), type := 3, pos := "law.go:80", after := #[{ on := 1, ground := Ground.data }, { on := 0, ground := Ground.phase }, { on := 1, ground := Ground.phase }], guard := none }]
def rMK14 : Array Oper := #[{ dst := some 105, op := Op.move (Operand.tmp 13), type := 3, pos := "law.go:81", after := #[], guard := none },
  { dst := some 106, op := Op.move (Operand.tmp 3), type := 3, pos := "law.go:81", after := #[], guard := none },
  { dst := some 107, op := Op.binOp BinOp.lss 3 (Operand.tmp 105) (Operand.tmp 106) 3, type := 4, pos := "law.go:81", after := #[{ on := 0, ground := Ground.data }, { on := 1, ground := Ground.data }], guard := none },
  { dst := some 108, op := Op.move (Operand.tmp 107), type := 4, pos := "law.go:81", after := #[{ on := 2, ground := Ground.data }], guard := none },
  { dst := some 109, op := Op.fieldAddr 26 (Operand.tmp 5) 2, type := 0, pos := "law.go:81", after := #[{ on := 3, ground := Ground.guard }], guard := some (3, true) },
  { dst := some 110, op := Op.load 24 (Operand.tmp 109), type := 24, pos := "law.go:81", after := #[{ on := 4, ground := Ground.data }, { on := 3, ground := Ground.guard }], guard := some (3, true) },
  { dst := some 111, op := Op.move (Operand.tmp 13), type := 3, pos := "law.go:81", after := #[{ on := 3, ground := Ground.guard }], guard := some (3, true) },
  { dst := some 112, op := Op.indexAddr 24 (Operand.tmp 110) (Operand.tmp 111), type := 0, pos := "law.go:81", after := #[{ on := 5, ground := Ground.data }, { on := 6, ground := Ground.data }, { on := 3, ground := Ground.guard }], guard := some (3, true) },
  { dst := some 113, op := Op.fieldAddr 37 (Operand.tmp 112) 0, type := 0, pos := "law.go:81", after := #[{ on := 7, ground := Ground.data }, { on := 3, ground := Ground.guard }], guard := some (3, true) },
  { dst := some 114, op := Op.load 30 (Operand.tmp 113), type := 30, pos := "law.go:81", after := #[{ on := 8, ground := Ground.data }, { on := 3, ground := Ground.guard }], guard := some (3, true) },
  { dst := some 115, op := Op.move (Operand.tmp 4), type := 30, pos := "law.go:81", after := #[{ on := 3, ground := Ground.guard }], guard := some (3, true) },
  { dst := some 116, op := Op.binOp BinOp.neq 30 (Operand.tmp 114) (Operand.tmp 115) 30, type := 4, pos := "law.go:81", after := #[{ on := 9, ground := Ground.data }, { on := 10, ground := Ground.data }, { on := 3, ground := Ground.guard }], guard := some (3, true) },
  { dst := some 117, op := Op.pick (Operand.tmp 108) (Operand.tmp 116) (Operand.const (Value.bool false)), type := 4, pos := "law.go:81", after := #[{ on := 3, ground := Ground.data }, { on := 11, ground := Ground.data }], guard := none },
  { dst := some 118, op := Op.move (Operand.tmp 117), type := 4, pos := "law.go:81", after := #[{ on := 12, ground := Ground.data }, { on := 3, ground := Ground.chain }], guard := none },
  { dst := some 119, op := Op.move (Operand.tmp 13), type := 3, pos := "law.go:81", after := #[{ on := 13, ground := Ground.guard }], guard := some (13, false) },
  { dst := some 120, op := Op.move (Operand.tmp 3), type := 3, pos := "law.go:81", after := #[{ on := 13, ground := Ground.guard }], guard := some (13, false) },
  { dst := some 121, op := Op.binOp BinOp.geq 3 (Operand.tmp 119) (Operand.tmp 120) 3, type := 4, pos := "law.go:81", after := #[{ on := 14, ground := Ground.data }, { on := 15, ground := Ground.data }, { on := 13, ground := Ground.guard }], guard := some (13, false) },
  { dst := some 122, op := Op.move (Operand.tmp 121), type := 4, pos := "law.go:81", after := #[{ on := 16, ground := Ground.data }, { on := 13, ground := Ground.chain }, { on := 13, ground := Ground.guard }], guard := some (13, false) },
  { dst := some 123, op := Op.fieldAddr 26 (Operand.tmp 5) 2, type := 0, pos := "law.go:81", after := #[{ on := 17, ground := Ground.guard }], guard := some (17, true) },
  { dst := some 124, op := Op.load 24 (Operand.tmp 123), type := 24, pos := "law.go:81", after := #[{ on := 18, ground := Ground.data }, { on := 17, ground := Ground.guard }], guard := some (17, true) },
  { dst := some 125, op := Op.move (Operand.tmp 13), type := 3, pos := "law.go:81", after := #[{ on := 17, ground := Ground.guard }], guard := some (17, true) },
  { dst := some 126, op := Op.indexAddr 24 (Operand.tmp 124) (Operand.tmp 125), type := 0, pos := "law.go:81", after := #[{ on := 19, ground := Ground.data }, { on := 20, ground := Ground.data }, { on := 17, ground := Ground.guard }], guard := some (17, true) },
  { dst := some 127, op := Op.fieldAddr 37 (Operand.tmp 126) 0, type := 0, pos := "law.go:81", after := #[{ on := 21, ground := Ground.data }, { on := 17, ground := Ground.guard }], guard := some (17, true) },
  { dst := some 128, op := Op.load 30 (Operand.tmp 127), type := 30, pos := "law.go:81", after := #[{ on := 22, ground := Ground.data }, { on := 17, ground := Ground.guard }], guard := some (17, true) },
  { dst := some 129, op := Op.move (Operand.tmp 4), type := 30, pos := "law.go:81", after := #[{ on := 17, ground := Ground.guard }], guard := some (17, true) },
  { dst := some 130, op := Op.binOp BinOp.add 30 (Operand.tmp 129) (Operand.const (Value.int IntKind.u32 100)) 30, type := 30, pos := "law.go:81", after := #[{ on := 24, ground := Ground.data }, { on := 17, ground := Ground.guard }], guard := some (17, true) },
  { dst := some 131, op := Op.binOp BinOp.neq 30 (Operand.tmp 128) (Operand.tmp 130) 30, type := 4, pos := "law.go:81", after := #[{ on := 23, ground := Ground.data }, { on := 25, ground := Ground.data }, { on := 17, ground := Ground.guard }], guard := some (17, true) },
  { dst := some 132, op := Op.pick (Operand.tmp 122) (Operand.tmp 131) (Operand.const (Value.bool false)), type := 4, pos := "law.go:81", after := #[{ on := 17, ground := Ground.data }, { on := 26, ground := Ground.data }, { on := 13, ground := Ground.guard }], guard := some (13, false) },
  { dst := some 133, op := Op.pick (Operand.tmp 118) (Operand.const (Value.bool true)) (Operand.tmp 132), type := 4, pos := "law.go:81", after := #[{ on := 13, ground := Ground.data }, { on := 27, ground := Ground.data }], guard := none }]
def rMK15 : Array Oper := #[{ dst := some 10, op := Op.assign (Operand.const (Value.bool false)), type := 4, pos := "law.go:82", after := #[], guard := none }]
def rMK16 : Array Oper := #[{ dst := some 10, op := Op.assign (Operand.const (Value.bool true)), type := 4, pos := "law.go:85", after := #[], guard := none }]
def cMP : Code := (Code.seq (Code.seq (Code.region 2 rMK2 false) (Code.cond (Operand.tmp 18) Code.skip (Code.exit 0))) (Code.seq (Code.block 1 (Code.seq (Code.region 4 rMK4 true) (Code.cond (Operand.tmp 56) (Code.seq (Code.region 5 rMK5 false) Code.ret) Code.skip))) (Code.region 3 rMK3 false)))
set_option maxRecDepth 100000 in
set_option maxHeartbeats 1000000 in
theorem mPX {b n1 n2 n3 m n j gg pc : Nat} {C X : ByteArray} {Q : Exit → Act → World → Prop} (hQp : ∀ c (a : Act) d v w, Q (.panic c) (a.put d v) w → Q (.panic c) a w) (a0 : Act) (wr : World) (I0 : IM b n1 n2 n3 m a0) (hj0 : a0.eval (.tmp 11) = .int .i64 (j : Int)) (hm : m < 100) (hj : j < n) (hn : n ≤ 1048800) (hx : j < n1)
    (c0 : wr.cell? ⟨b, 0, none⟩ = some (.slice (some ⟨gg, 0, none⟩) n pc)) (c1 : wr.cell? ⟨gg, j * 2, none⟩ = some (.string X))
    (hc : (convert 44 9 (.slice (some ⟨wr.heap.size, 0, none⟩) 1 1)).run Try.prog ((wr.alloc (.cells #[.int .u8 (m : Int)] 5)).drew) = .ok (.string C) ((wr.alloc (.cells #[.int .u8 (m : Int)] 5)).drew)) (hC : C.size = 1) (hX : X = (⟨#[120]⟩ : ByteArray) ++ C)
    (hQ : ∀ a', IM b n1 n2 n3 m a' → a'.eval (.tmp 11) = .int .i64 ((j : Int) + 1) → Q .normal a' ((wr.alloc (.cells #[.int .u8 (m : Int)] 5)).drew)) : cMP.wp Try.prog Q a0 wr := by
  have hji : (j : Int) < (n : Int) := by omega
  have w7 : IntKind.i64.wrap ((j : Int) + 1) = (j : Int) + 1 := by rw [IntKind.wrap_i64]; omega
  have w8 : IntKind.u8.wrap (m : Int) = (m : Int) := by rw [IntKind.wrap_u8]; omega
  have w9 : IntKind.u32.wrap ((m : Int) + 100) = (m : Int) + 100 := by rw [IntKind.wrap_u32]; omega
  have hxi : (j : Int) < (n1 : Int) := by omega
  have hxd : decide ((n1 : Int) ≤ (j : Int)) = false := decide_eq_false (by omega)
  have hadd := fun W => run_string_add_sum (P := Try.prog) W (⟨#[120]⟩ : ByteArray) C (by have : (⟨#[120]⟩ : ByteArray).size = 1 := rfl; omega)
  rw [← hX] at hadd
  have sd : Same wr ((wr.alloc (.cells #[.int .u8 (m : Int)] 5)).drew) := ((Fr.refl _ wr).alloc _).drew
  clear hX hC
  clear hj hn hm
  have fa0_0 := Fe.refl a0
  unfold cMP
  refine wp_seq (wp_seq ?_)
  refine wp_region_list ?_
  unfold rMK2
  refine fa0_0.move 14 (.int .i64 (j : Int)) _ (Or.inl rfl) rfl (lb_ I0.size) (wanted_none rfl) ((fa0_0.at_ 11).trans hj0) (fun a0_1 fa0_1 => ?_)
  clear fa0_0
  have r_a0_2 : (execOp a0_1.eval { dst := some 15, op := Op.fieldAddr 26 (Operand.tmp 5) 0, type := 0, pos := "law.go:70", after := #[], guard := none }).run Try.prog (wr) = .ok (.value (.pointer (some ⟨b, 0, none⟩))) (wr) := by
    have e5 := (show a0_1.eval (.tmp 5) = .pointer (some ⟨b, 0, none⟩) from ((fa0_1.at_ 5).trans I0.s5))
    clear fa0_1 hQ hQp hj0
    generalize a0_1.eval = ρ at *
    go_simp
  refine fa0_1.step 15 (.pointer (some ⟨b, 0, none⟩)) rfl (lb_ I0.size) (wanted_none rfl) r_a0_2 (fun a0_2 fa0_2 => ?_)
  clear r_a0_2
  clear fa0_1
  have r_a0_3 : (execOp a0_2.eval { dst := some 16, op := Op.load 22 (Operand.tmp 15), type := 22, pos := "law.go:70", after := #[{ on := 1, ground := Ground.data }], guard := none }).run Try.prog (wr) = .ok (.value (.slice (some ⟨gg, 0, none⟩) n pc)) (wr) := by
    have e15 := (show a0_2.eval (.tmp 15) = .pointer (some ⟨b, 0, none⟩) from (fa0_2.at_ 15))
    clear fa0_2 hQ hQp hj0
    generalize a0_2.eval = ρ at *
    go_simp
  refine fa0_2.step 16 (.slice (some ⟨gg, 0, none⟩) n pc) rfl (lb_ I0.size) (wanted_none rfl) r_a0_3 (fun a0_3 fa0_3 => ?_)
  clear r_a0_3
  clear fa0_2
  have r_a0_4 : (execOp a0_3.eval { dst := some 17, op := Op.call { callee := Callee.builtin Builtin.len, args := #[Operand.tmp 16], argTypes := #[22] }, type := 3, pos := "law.go:70", after := #[{ on := 2, ground := Ground.data }], guard := none }).run Try.prog (wr) = .ok (.value (.int .i64 (n : Int))) (wr) := by
    have e16 := (show a0_3.eval (.tmp 16) = .slice (some ⟨gg, 0, none⟩) n pc from (fa0_3.at_ 16))
    clear fa0_3 hQ hQp hj0
    generalize a0_3.eval = ρ at *
    go_simp
  refine fa0_3.step 17 (.int .i64 (n : Int)) rfl (lb_ I0.size) (wanted_none rfl) r_a0_4 (fun a0_4 fa0_4 => ?_)
  clear r_a0_4
  clear fa0_3
  have r_a0_5 : (execOp a0_4.eval { dst := some 18, op := Op.binOp BinOp.lss 3 (Operand.tmp 14) (Operand.tmp 17) 3, type := 4, pos := "law.go:70", after := #[{ on := 0, ground := Ground.data }, { on := 3, ground := Ground.data }], guard := none }).run Try.prog (wr) = .ok (.value (.bool true)) (wr) := by
    have e14 := (show a0_4.eval (.tmp 14) = .int .i64 (j : Int) from (fa0_4.at_ 14))
    have e17 := (show a0_4.eval (.tmp 17) = .int .i64 (n : Int) from (fa0_4.at_ 17))
    clear fa0_4 hQ hQp hj0
    generalize a0_4.eval = ρ at *
    go_simp
  refine fa0_4.step 18 (.bool true) rfl (lb_ I0.size) (wanted_none rfl) r_a0_5 (fun a0_5 fa0_5 => ?_)
  clear r_a0_5
  clear fa0_4
  refine wpList_nil ?_
  change Code.wp _ _ _ _ _
  refine wp_cond_true (show a0_5.eval (.tmp 18) = .bool true from (fa0_5.at_ 18)) (wp_skip ?_)
  change Code.wp _ _ _ _ _
  refine wp_seq (wp_block (wp_seq ?_))
  refine wp_region_held_drew (ops := rMK4) (S := fun Z => Z.cell? ⟨b, 0, none⟩ = some (.slice (some ⟨gg, 0, none⟩) n pc) ∧ Z.cell? ⟨gg, j * 2, none⟩ = some (.string X)) (by kernel_rfl) (⟨c0, c1⟩) (fun hS5 => ?_)
  refine fa0_5.takeMove 0 21 (.int .i64 (j : Int)) _ (Or.inl rfl) rfl (by kernel_rfl) (by kernel_rfl) (by kernel_rfl) (fun c a w h => hQp c a _ _ w h) rfl (lb_ I0.size) (wanted_none rfl) ((fa0_5.at_ 11).trans hj0) hS5 (fun a0_6 fa0_6 => ?_)
  clear fa0_5
  refine fa0_6.takeMove 1 22 (.int .i64 (n1 : Int)) _ (Or.inl rfl) rfl (by kernel_rfl) (by kernel_rfl) (by kernel_rfl) (fun c a w h => hQp c a _ _ w h) rfl (lb_ I0.size) (wanted_none rfl) ((fa0_6.at_ 1).trans I0.s1) hS5 (fun a0_7 fa0_7 => ?_)
  clear fa0_6
  have r_a0_8 : ∀ Z, (fun Z => Z.cell? ⟨b, 0, none⟩ = some (.slice (some ⟨gg, 0, none⟩) n pc) ∧ Z.cell? ⟨gg, j * 2, none⟩ = some (.string X)) Z → (execOp a0_7.eval { dst := some 23, op := Op.binOp BinOp.lss 3 (Operand.tmp 21) (Operand.tmp 22) 3, type := 4, pos := "law.go:71", after := #[{ on := 0, ground := Ground.data }, { on := 1, ground := Ground.data }], guard := none }).run Try.prog Z = .ok (.value (.bool true)) Z := fun Z hZ => by
    have e21 := (show a0_7.eval (.tmp 21) = .int .i64 (j : Int) from (fa0_7.at_ 21))
    have e22 := (show a0_7.eval (.tmp 22) = .int .i64 (n1 : Int) from (fa0_7.at_ 22))
    clear fa0_7 hQ hQp hj0
    generalize a0_7.eval = ρ at *
    go_simp
  refine fa0_7.take 2 23 (.bool true) rfl (by kernel_rfl) (by kernel_rfl) (by kernel_rfl) (fun c a w h => hQp c a _ _ w h) rfl (lb_ I0.size) (wanted_none rfl) r_a0_8 hS5 (fun a0_8 fa0_8 => ?_)
  clear r_a0_8
  clear fa0_7
  refine fa0_8.takeMove 3 24 (.bool true) _ (Or.inl rfl) rfl (by kernel_rfl) (by kernel_rfl) (by kernel_rfl) (fun c a w h => hQp c a _ _ w h) rfl (lb_ I0.size) (wanted_none rfl) (fa0_8.at_ 23) hS5 (fun a0_9 fa0_9 => ?_)
  clear fa0_8
  have r_a0_10 : ∀ Z, (fun Z => Z.cell? ⟨b, 0, none⟩ = some (.slice (some ⟨gg, 0, none⟩) n pc) ∧ Z.cell? ⟨gg, j * 2, none⟩ = some (.string X)) Z → (execOp a0_9.eval { dst := some 25, op := Op.fieldAddr 26 (Operand.tmp 5) 0, type := 0, pos := "law.go:71", after := #[{ on := 3, ground := Ground.guard }], guard := some (3, true) }).run Try.prog Z = .ok (.value (.pointer (some ⟨b, 0, none⟩))) Z := fun Z hZ => by
    have e5 := (show a0_9.eval (.tmp 5) = .pointer (some ⟨b, 0, none⟩) from ((fa0_9.at_ 5).trans I0.s5))
    clear fa0_9 hQ hQp hj0
    generalize a0_9.eval = ρ at *
    go_simp
  refine fa0_9.take 4 25 (.pointer (some ⟨b, 0, none⟩)) rfl (by kernel_rfl) (by kernel_rfl) (by kernel_rfl) (fun c a w h => hQp c a _ _ w h) rfl (lb_ I0.size) ((wanted_at (t := 24) (c := true) (b := true) rfl rfl rfl (lb_ (fa0_9.size.trans I0.size)) (fa0_9.at_ 24)).trans (by rfl)) r_a0_10 hS5 (fun a0_10 fa0_10 => ?_)
  clear r_a0_10
  clear fa0_9
  have r_a0_11 : ∀ Z, (fun Z => Z.cell? ⟨b, 0, none⟩ = some (.slice (some ⟨gg, 0, none⟩) n pc) ∧ Z.cell? ⟨gg, j * 2, none⟩ = some (.string X)) Z → (execOp a0_10.eval { dst := some 26, op := Op.load 22 (Operand.tmp 25), type := 22, pos := "law.go:71", after := #[{ on := 4, ground := Ground.data }, { on := 3, ground := Ground.guard }], guard := some (3, true) }).run Try.prog Z = .ok (.value (.slice (some ⟨gg, 0, none⟩) n pc)) Z := fun Z hZ => by
    obtain ⟨z0, z1⟩ := hZ
    have e25 := (show a0_10.eval (.tmp 25) = .pointer (some ⟨b, 0, none⟩) from (fa0_10.at_ 25))
    clear fa0_10 hQ hQp hj0
    generalize a0_10.eval = ρ at *
    go_simp
  refine fa0_10.take 5 26 (.slice (some ⟨gg, 0, none⟩) n pc) rfl (by kernel_rfl) (by kernel_rfl) (by kernel_rfl) (fun c a w h => hQp c a _ _ w h) rfl (lb_ I0.size) ((wanted_at (t := 24) (c := true) (b := true) rfl rfl rfl (lb_ (fa0_10.size.trans I0.size)) (fa0_10.at_ 24)).trans (by rfl)) r_a0_11 hS5 (fun a0_11 fa0_11 => ?_)
  clear r_a0_11
  clear fa0_10
  refine fa0_11.takeMove 6 27 (.int .i64 (j : Int)) _ (Or.inl rfl) rfl (by kernel_rfl) (by kernel_rfl) (by kernel_rfl) (fun c a w h => hQp c a _ _ w h) rfl (lb_ I0.size) ((wanted_at (t := 24) (c := true) (b := true) rfl rfl rfl (lb_ (fa0_11.size.trans I0.size)) (fa0_11.at_ 24)).trans (by rfl)) ((fa0_11.at_ 11).trans hj0) hS5 (fun a0_12 fa0_12 => ?_)
  clear fa0_11
  have r_a0_13 : ∀ Z, (fun Z => Z.cell? ⟨b, 0, none⟩ = some (.slice (some ⟨gg, 0, none⟩) n pc) ∧ Z.cell? ⟨gg, j * 2, none⟩ = some (.string X)) Z → (execOp a0_12.eval { dst := some 28, op := Op.indexAddr 22 (Operand.tmp 26) (Operand.tmp 27), type := 0, pos := "law.go:71", after := #[{ on := 5, ground := Ground.data }, { on := 6, ground := Ground.data }, { on := 3, ground := Ground.guard }], guard := some (3, true) }).run Try.prog Z = .ok (.value (.pointer (some ⟨gg, j * 2, none⟩))) Z := fun Z hZ => by
    have e26 := (show a0_12.eval (.tmp 26) = .slice (some ⟨gg, 0, none⟩) n pc from (fa0_12.at_ 26))
    have e27 := (show a0_12.eval (.tmp 27) = .int .i64 (j : Int) from (fa0_12.at_ 27))
    clear fa0_12 hQ hQp hj0
    generalize a0_12.eval = ρ at *
    go_simp
  refine fa0_12.take 7 28 (.pointer (some ⟨gg, j * 2, none⟩)) rfl (by kernel_rfl) (by kernel_rfl) (by kernel_rfl) (fun c a w h => hQp c a _ _ w h) rfl (lb_ I0.size) ((wanted_at (t := 24) (c := true) (b := true) rfl rfl rfl (lb_ (fa0_12.size.trans I0.size)) (fa0_12.at_ 24)).trans (by rfl)) r_a0_13 hS5 (fun a0_13 fa0_13 => ?_)
  clear r_a0_13
  clear fa0_12
  have r_a0_14 : ∀ Z, (fun Z => Z.cell? ⟨b, 0, none⟩ = some (.slice (some ⟨gg, 0, none⟩) n pc) ∧ Z.cell? ⟨gg, j * 2, none⟩ = some (.string X)) Z → (execOp a0_13.eval { dst := some 29, op := Op.fieldAddr 33 (Operand.tmp 28) 0, type := 0, pos := "law.go:71", after := #[{ on := 7, ground := Ground.data }, { on := 3, ground := Ground.guard }], guard := some (3, true) }).run Try.prog Z = .ok (.value (.pointer (some ⟨gg, j * 2, none⟩))) Z := fun Z hZ => by
    have e28 := (show a0_13.eval (.tmp 28) = .pointer (some ⟨gg, j * 2, none⟩) from (fa0_13.at_ 28))
    clear fa0_13 hQ hQp hj0
    generalize a0_13.eval = ρ at *
    go_simp
  refine fa0_13.take 8 29 (.pointer (some ⟨gg, j * 2, none⟩)) rfl (by kernel_rfl) (by kernel_rfl) (by kernel_rfl) (fun c a w h => hQp c a _ _ w h) rfl (lb_ I0.size) ((wanted_at (t := 24) (c := true) (b := true) rfl rfl rfl (lb_ (fa0_13.size.trans I0.size)) (fa0_13.at_ 24)).trans (by rfl)) r_a0_14 hS5 (fun a0_14 fa0_14 => ?_)
  clear r_a0_14
  clear fa0_13
  have r_a0_15 : ∀ Z, (fun Z => Z.cell? ⟨b, 0, none⟩ = some (.slice (some ⟨gg, 0, none⟩) n pc) ∧ Z.cell? ⟨gg, j * 2, none⟩ = some (.string X)) Z → (execOp a0_14.eval { dst := some 30, op := Op.load 9 (Operand.tmp 29), type := 9, pos := "law.go:71", after := #[{ on := 8, ground := Ground.data }, { on := 3, ground := Ground.guard }], guard := some (3, true) }).run Try.prog Z = .ok (.value (.string X)) Z := fun Z hZ => by
    obtain ⟨z0, z1⟩ := hZ
    have e29 := (show a0_14.eval (.tmp 29) = .pointer (some ⟨gg, j * 2, none⟩) from (fa0_14.at_ 29))
    clear fa0_14 hQ hQp hj0
    generalize a0_14.eval = ρ at *
    go_simp
  refine fa0_14.take 9 30 (.string X) rfl (by kernel_rfl) (by kernel_rfl) (by kernel_rfl) (fun c a w h => hQp c a _ _ w h) rfl (lb_ I0.size) ((wanted_at (t := 24) (c := true) (b := true) rfl rfl rfl (lb_ (fa0_14.size.trans I0.size)) (fa0_14.at_ 24)).trans (by rfl)) r_a0_15 hS5 (fun a0_15 fa0_15 => ?_)
  clear r_a0_15
  clear fa0_14
  refine fa0_15.takeMove 10 31 (.int .u32 (m : Int)) _ (Or.inl rfl) rfl (by kernel_rfl) (by kernel_rfl) (by kernel_rfl) (fun c a w h => hQp c a _ _ w h) rfl (lb_ I0.size) ((wanted_at (t := 24) (c := true) (b := true) rfl rfl rfl (lb_ (fa0_15.size.trans I0.size)) (fa0_15.at_ 24)).trans (by rfl)) ((fa0_15.at_ 4).trans I0.s4) hS5 (fun a0_16 fa0_16 => ?_)
  clear fa0_15
  have r_a0_17 : ∀ Z, (fun Z => Z.cell? ⟨b, 0, none⟩ = some (.slice (some ⟨gg, 0, none⟩) n pc) ∧ Z.cell? ⟨gg, j * 2, none⟩ = some (.string X)) Z → (execOp a0_16.eval { dst := some 32, op := Op.convert 30 5 (Operand.tmp 31), type := 5, pos := "law.go:71", after := #[{ on := 10, ground := Ground.data }, { on := 3, ground := Ground.guard }], guard := some (3, true) }).run Try.prog Z = .ok (.value (.int .u8 (m : Int))) Z := fun Z hZ => by
    have e31 := (show a0_16.eval (.tmp 31) = .int .u32 (m : Int) from (fa0_16.at_ 31))
    clear fa0_16 hQ hQp hj0
    generalize a0_16.eval = ρ at *
    go_simp
  refine fa0_16.take 11 32 (.int .u8 (m : Int)) rfl (by kernel_rfl) (by kernel_rfl) (by kernel_rfl) (fun c a w h => hQp c a _ _ w h) rfl (lb_ I0.size) ((wanted_at (t := 24) (c := true) (b := true) rfl rfl rfl (lb_ (fa0_16.size.trans I0.size)) (fa0_16.at_ 24)).trans (by rfl)) r_a0_17 hS5 (fun a0_17 fa0_17 => ?_)
  clear r_a0_17
  clear fa0_16
  have r_a0_18 : (execOp a0_17.eval { dst := some 33, op := Op.buildSlice 44 1 #[(0, Operand.tmp 32)], type := 44, pos := "law.go:71", after := #[{ on := 11, ground := Ground.data }, { on := 3, ground := Ground.guard }], guard := some (3, true) }).run Try.prog (wr.drew) = .ok (.value (.slice (some ⟨wr.heap.size, 0, none⟩) 1 1)) ((wr.alloc (.cells #[.int .u8 (m : Int)] 5)).drew) := by
    have e32 := (show a0_17.eval (.tmp 32) = .int .u8 (m : Int) from (fa0_17.at_ 32))
    clear fa0_17 hQ hQp hj0
    generalize a0_17.eval = ρ at *
    go_simp
  have hS18 : (fun Z => Z.cell? ⟨b, 0, none⟩ = some (.slice (some ⟨gg, 0, none⟩) n pc) ∧ Z.cell? ⟨gg, j * 2, none⟩ = some (.string X)) ((wr.alloc (.cells #[.int .u8 (m : Int)] 5)).drew) := ⟨sd.keep c0, sd.keep c1⟩
  refine fa0_17.one 12 33 (.slice (some ⟨wr.heap.size, 0, none⟩) 1 1) (by kernel_rfl) rfl rfl (lb_ I0.size) ((wanted_at (t := 24) (c := true) (b := true) rfl rfl rfl (lb_ (fa0_17.size.trans I0.size)) (fa0_17.at_ 24)).trans (by rfl)) r_a0_18 hS18 (fun a0_18 fa0_18 => ?_)
  clear r_a0_18
  clear fa0_17
  have r_a0_19 : (execOp a0_18.eval { dst := some 34, op := Op.convert 44 9 (Operand.tmp 33), type := 9, pos := "law.go:71", after := #[{ on := 12, ground := Ground.data }, { on := 3, ground := Ground.guard }], guard := some (3, true) }).run Try.prog ((wr.alloc (.cells #[.int .u8 (m : Int)] 5)).drew) = .ok (.value (.string C)) ((wr.alloc (.cells #[.int .u8 (m : Int)] 5)).drew) := by
    have e33 := (show a0_18.eval (.tmp 33) = .slice (some ⟨wr.heap.size, 0, none⟩) 1 1 from (fa0_18.at_ 33))
    clear fa0_18 hQ hQp hj0
    generalize a0_18.eval = ρ at *
    go_simp
  have hS19 : (fun Z => Z.cell? ⟨b, 0, none⟩ = some (.slice (some ⟨gg, 0, none⟩) n pc) ∧ Z.cell? ⟨gg, j * 2, none⟩ = some (.string X)) ((wr.alloc (.cells #[.int .u8 (m : Int)] 5)).drew) := ⟨sd.keep c0, sd.keep c1⟩
  refine fa0_18.one 13 34 (.string C) (by kernel_rfl) rfl rfl (lb_ I0.size) ((wanted_at (t := 24) (c := true) (b := true) rfl rfl rfl (lb_ (fa0_18.size.trans I0.size)) (fa0_18.at_ 24)).trans (by rfl)) r_a0_19 hS19 (fun a0_19 fa0_19 => ?_)
  clear r_a0_19
  clear fa0_18
  have r_a0_20 : ∀ Z, (fun Z => Z.cell? ⟨b, 0, none⟩ = some (.slice (some ⟨gg, 0, none⟩) n pc) ∧ Z.cell? ⟨gg, j * 2, none⟩ = some (.string X)) Z → (execOp a0_19.eval { dst := some 35, op := Op.binOp BinOp.add 9 (Operand.const (Value.string { data := #[120] })) (Operand.tmp 34) 9, type := 9, pos := "law.go:71", after := #[{ on := 13, ground := Ground.data }, { on := 3, ground := Ground.guard }], guard := some (3, true) }).run Try.prog Z = .ok (.value (.string X)) Z := fun Z hZ => by
    have kc : ∀ v, a0_19.eval (.const v) = v := fun _ => rfl
    have e34 := (show a0_19.eval (.tmp 34) = .string C from (fa0_19.at_ 34))
    clear fa0_19 hQ hQp hj0
    generalize a0_19.eval = ρ at *
    go_simp
  refine fa0_19.take 14 35 (.string X) rfl (by kernel_rfl) (by kernel_rfl) (by kernel_rfl) (fun c a w h => hQp c a _ _ w h) rfl (lb_ I0.size) ((wanted_at (t := 24) (c := true) (b := true) rfl rfl rfl (lb_ (fa0_19.size.trans I0.size)) (fa0_19.at_ 24)).trans (by rfl)) r_a0_20 hS19 (fun a0_20 fa0_20 => ?_)
  clear r_a0_20
  clear fa0_19
  have r_a0_21 : ∀ Z, (fun Z => Z.cell? ⟨b, 0, none⟩ = some (.slice (some ⟨gg, 0, none⟩) n pc) ∧ Z.cell? ⟨gg, j * 2, none⟩ = some (.string X)) Z → (execOp a0_20.eval { dst := some 36, op := Op.binOp BinOp.neq 9 (Operand.tmp 30) (Operand.tmp 35) 9, type := 4, pos := "law.go:71", after := #[{ on := 9, ground := Ground.data }, { on := 14, ground := Ground.data }, { on := 3, ground := Ground.guard }], guard := some (3, true) }).run Try.prog Z = .ok (.value (.bool false)) Z := fun Z hZ => by
    have e30 := (show a0_20.eval (.tmp 30) = .string X from (fa0_20.at_ 30))
    have e35 := (show a0_20.eval (.tmp 35) = .string X from (fa0_20.at_ 35))
    clear fa0_20 hQ hQp hj0
    generalize a0_20.eval = ρ at *
    go_simp
  refine fa0_20.take 15 36 (.bool false) rfl (by kernel_rfl) (by kernel_rfl) (by kernel_rfl) (fun c a w h => hQp c a _ _ w h) rfl (lb_ I0.size) ((wanted_at (t := 24) (c := true) (b := true) rfl rfl rfl (lb_ (fa0_20.size.trans I0.size)) (fa0_20.at_ 24)).trans (by rfl)) r_a0_21 hS19 (fun a0_21 fa0_21 => ?_)
  clear r_a0_21
  clear fa0_20
  have r_a0_22 : ∀ Z, (fun Z => Z.cell? ⟨b, 0, none⟩ = some (.slice (some ⟨gg, 0, none⟩) n pc) ∧ Z.cell? ⟨gg, j * 2, none⟩ = some (.string X)) Z → (execOp a0_21.eval { dst := some 37, op := Op.pick (Operand.tmp 24) (Operand.tmp 36) (Operand.const (Value.bool false)), type := 4, pos := "law.go:71", after := #[{ on := 3, ground := Ground.data }, { on := 15, ground := Ground.data }], guard := none }).run Try.prog Z = .ok (.value (.bool false)) Z := fun Z hZ => by
    have kc : ∀ v, a0_21.eval (.const v) = v := fun _ => rfl
    have e24 := (show a0_21.eval (.tmp 24) = .bool true from (fa0_21.at_ 24))
    have e36 := (show a0_21.eval (.tmp 36) = .bool false from (fa0_21.at_ 36))
    clear fa0_21 hQ hQp hj0
    generalize a0_21.eval = ρ at *
    go_simp
  refine fa0_21.take 16 37 (.bool false) rfl (by kernel_rfl) (by kernel_rfl) (by kernel_rfl) (fun c a w h => hQp c a _ _ w h) rfl (lb_ I0.size) (wanted_none rfl) r_a0_22 hS19 (fun a0_22 fa0_22 => ?_)
  clear r_a0_22
  clear fa0_21
  refine fa0_22.takeMove 17 38 (.bool false) _ (Or.inl rfl) rfl (by kernel_rfl) (by kernel_rfl) (by kernel_rfl) (fun c a w h => hQp c a _ _ w h) rfl (lb_ I0.size) (wanted_none rfl) (fa0_22.at_ 37) hS19 (fun a0_23 fa0_23 => ?_)
  clear fa0_22
  refine fa0_23.takeMove 18 39 (.int .i64 (j : Int)) _ (Or.inl rfl) rfl (by kernel_rfl) (by kernel_rfl) (by kernel_rfl) (fun c a w h => hQp c a _ _ w h) rfl (lb_ I0.size) ((wanted_at (t := 38) (c := false) (b := false) rfl rfl rfl (lb_ (fa0_23.size.trans I0.size)) (fa0_23.at_ 38)).trans (by rfl)) ((fa0_23.at_ 11).trans hj0) hS19 (fun a0_24 fa0_24 => ?_)
  clear fa0_23
  refine fa0_24.takeMove 19 40 (.int .i64 (n1 : Int)) _ (Or.inl rfl) rfl (by kernel_rfl) (by kernel_rfl) (by kernel_rfl) (fun c a w h => hQp c a _ _ w h) rfl (lb_ I0.size) ((wanted_at (t := 38) (c := false) (b := false) rfl rfl rfl (lb_ (fa0_24.size.trans I0.size)) (fa0_24.at_ 38)).trans (by rfl)) ((fa0_24.at_ 1).trans I0.s1) hS19 (fun a0_25 fa0_25 => ?_)
  clear fa0_24
  have r_a0_26 : ∀ Z, (fun Z => Z.cell? ⟨b, 0, none⟩ = some (.slice (some ⟨gg, 0, none⟩) n pc) ∧ Z.cell? ⟨gg, j * 2, none⟩ = some (.string X)) Z → (execOp a0_25.eval { dst := some 41, op := Op.binOp BinOp.geq 3 (Operand.tmp 39) (Operand.tmp 40) 3, type := 4, pos := "law.go:71", after := #[{ on := 18, ground := Ground.data }, { on := 19, ground := Ground.data }, { on := 17, ground := Ground.guard }], guard := some (17, false) }).run Try.prog Z = .ok (.value (.bool false)) Z := fun Z hZ => by
    have e39 := (show a0_25.eval (.tmp 39) = .int .i64 (j : Int) from (fa0_25.at_ 39))
    have e40 := (show a0_25.eval (.tmp 40) = .int .i64 (n1 : Int) from (fa0_25.at_ 40))
    clear fa0_25 hQ hQp hj0
    generalize a0_25.eval = ρ at *
    go_simp
  refine fa0_25.take 20 41 (.bool false) rfl (by kernel_rfl) (by kernel_rfl) (by kernel_rfl) (fun c a w h => hQp c a _ _ w h) rfl (lb_ I0.size) ((wanted_at (t := 38) (c := false) (b := false) rfl rfl rfl (lb_ (fa0_25.size.trans I0.size)) (fa0_25.at_ 38)).trans (by rfl)) r_a0_26 hS19 (fun a0_26 fa0_26 => ?_)
  clear r_a0_26
  clear fa0_25
  refine fa0_26.takeMove 21 42 (.bool false) _ (Or.inl rfl) rfl (by kernel_rfl) (by kernel_rfl) (by kernel_rfl) (fun c a w h => hQp c a _ _ w h) rfl (lb_ I0.size) ((wanted_at (t := 38) (c := false) (b := false) rfl rfl rfl (lb_ (fa0_26.size.trans I0.size)) (fa0_26.at_ 38)).trans (by rfl)) (fa0_26.at_ 41) hS19 (fun a0_27 fa0_27 => ?_)
  clear fa0_26
  refine fa0_27.takeOff 22 43 rfl (by kernel_rfl) (by kernel_rfl) (by kernel_rfl) (fun c a w h => hQp c a _ _ w h) rfl (lb_ I0.size) ((wanted_at (t := 42) (c := false) (b := true) rfl rfl rfl (lb_ (fa0_27.size.trans I0.size)) (fa0_27.at_ 42)).trans (by rfl)) hS19 (fun a0_28 fa0_28 => ?_)
  clear fa0_27
  refine fa0_28.takeOff 23 44 rfl (by kernel_rfl) (by kernel_rfl) (by kernel_rfl) (fun c a w h => hQp c a _ _ w h) rfl (lb_ I0.size) ((wanted_at (t := 42) (c := false) (b := true) rfl rfl rfl (lb_ (fa0_28.size.trans I0.size)) (fa0_28.at_ 42)).trans (by rfl)) hS19 (fun a0_29 fa0_29 => ?_)
  clear fa0_28
  refine fa0_29.takeOff 24 45 rfl (by kernel_rfl) (by kernel_rfl) (by kernel_rfl) (fun c a w h => hQp c a _ _ w h) rfl (lb_ I0.size) ((wanted_at (t := 42) (c := false) (b := true) rfl rfl rfl (lb_ (fa0_29.size.trans I0.size)) (fa0_29.at_ 42)).trans (by rfl)) hS19 (fun a0_30 fa0_30 => ?_)
  clear fa0_29
  refine fa0_30.takeOff 25 46 rfl (by kernel_rfl) (by kernel_rfl) (by kernel_rfl) (fun c a w h => hQp c a _ _ w h) rfl (lb_ I0.size) ((wanted_at (t := 42) (c := false) (b := true) rfl rfl rfl (lb_ (fa0_30.size.trans I0.size)) (fa0_30.at_ 42)).trans (by rfl)) hS19 (fun a0_31 fa0_31 => ?_)
  clear fa0_30
  refine fa0_31.takeOff 26 47 rfl (by kernel_rfl) (by kernel_rfl) (by kernel_rfl) (fun c a w h => hQp c a _ _ w h) rfl (lb_ I0.size) ((wanted_at (t := 42) (c := false) (b := true) rfl rfl rfl (lb_ (fa0_31.size.trans I0.size)) (fa0_31.at_ 42)).trans (by rfl)) hS19 (fun a0_32 fa0_32 => ?_)
  clear fa0_31
  refine fa0_32.takeOff 27 48 rfl (by kernel_rfl) (by kernel_rfl) (by kernel_rfl) (fun c a w h => hQp c a _ _ w h) rfl (lb_ I0.size) ((wanted_at (t := 42) (c := false) (b := true) rfl rfl rfl (lb_ (fa0_32.size.trans I0.size)) (fa0_32.at_ 42)).trans (by rfl)) hS19 (fun a0_33 fa0_33 => ?_)
  clear fa0_32
  refine fa0_33.takeOff 28 49 rfl (by kernel_rfl) (by kernel_rfl) (by kernel_rfl) (fun c a w h => hQp c a _ _ w h) rfl (lb_ I0.size) ((wanted_at (t := 42) (c := false) (b := true) rfl rfl rfl (lb_ (fa0_33.size.trans I0.size)) (fa0_33.at_ 42)).trans (by rfl)) hS19 (fun a0_34 fa0_34 => ?_)
  clear fa0_33
  refine fa0_34.takeOff 29 50 rfl (by kernel_rfl) (by kernel_rfl) (by kernel_rfl) (fun c a w h => hQp c a _ _ w h) rfl (lb_ I0.size) ((wanted_at (t := 42) (c := false) (b := true) rfl rfl rfl (lb_ (fa0_34.size.trans I0.size)) (fa0_34.at_ 42)).trans (by rfl)) hS19 (fun a0_35 fa0_35 => ?_)
  clear fa0_34
  refine fa0_35.takeOff 30 51 rfl (by kernel_rfl) (by kernel_rfl) (by kernel_rfl) (fun c a w h => hQp c a _ _ w h) rfl (lb_ I0.size) ((wanted_at (t := 42) (c := false) (b := true) rfl rfl rfl (lb_ (fa0_35.size.trans I0.size)) (fa0_35.at_ 42)).trans (by rfl)) hS19 (fun a0_36 fa0_36 => ?_)
  clear fa0_35
  refine fa0_36.takeOff 31 52 rfl (by kernel_rfl) (by kernel_rfl) (by kernel_rfl) (fun c a w h => hQp c a _ _ w h) rfl (lb_ I0.size) ((wanted_at (t := 42) (c := false) (b := true) rfl rfl rfl (lb_ (fa0_36.size.trans I0.size)) (fa0_36.at_ 42)).trans (by rfl)) hS19 (fun a0_37 fa0_37 => ?_)
  clear fa0_36
  refine fa0_37.takeOff 32 53 rfl (by kernel_rfl) (by kernel_rfl) (by kernel_rfl) (fun c a w h => hQp c a _ _ w h) rfl (lb_ I0.size) ((wanted_at (t := 42) (c := false) (b := true) rfl rfl rfl (lb_ (fa0_37.size.trans I0.size)) (fa0_37.at_ 42)).trans (by rfl)) hS19 (fun a0_38 fa0_38 => ?_)
  clear fa0_37
  refine fa0_38.takeOff 33 54 rfl (by kernel_rfl) (by kernel_rfl) (by kernel_rfl) (fun c a w h => hQp c a _ _ w h) rfl (lb_ I0.size) ((wanted_at (t := 42) (c := false) (b := true) rfl rfl rfl (lb_ (fa0_38.size.trans I0.size)) (fa0_38.at_ 42)).trans (by rfl)) hS19 (fun a0_39 fa0_39 => ?_)
  clear fa0_38
  have r_a0_40 : ∀ Z, (fun Z => Z.cell? ⟨b, 0, none⟩ = some (.slice (some ⟨gg, 0, none⟩) n pc) ∧ Z.cell? ⟨gg, j * 2, none⟩ = some (.string X)) Z → (execOp a0_39.eval { dst := some 55, op := Op.pick (Operand.tmp 42) (Operand.tmp 54) (Operand.const (Value.bool false)), type := 4, pos := "law.go:71", after := #[{ on := 21, ground := Ground.data }, { on := 33, ground := Ground.data }, { on := 17, ground := Ground.guard }], guard := some (17, false) }).run Try.prog Z = .ok (.value (.bool false)) Z := fun Z hZ => by
    have kc : ∀ v, a0_39.eval (.const v) = v := fun _ => rfl
    have e42 := (show a0_39.eval (.tmp 42) = .bool false from (fa0_39.at_ 42))
    have e54 := (show a0_39.eval (.tmp 54) = undef from (fa0_39.at_ 54))
    clear fa0_39 hQ hQp hj0
    generalize a0_39.eval = ρ at *
    go_simp
  refine fa0_39.take 34 55 (.bool false) rfl (by kernel_rfl) (by kernel_rfl) (by kernel_rfl) (fun c a w h => hQp c a _ _ w h) rfl (lb_ I0.size) ((wanted_at (t := 38) (c := false) (b := false) rfl rfl rfl (lb_ (fa0_39.size.trans I0.size)) (fa0_39.at_ 38)).trans (by rfl)) r_a0_40 hS19 (fun a0_40 fa0_40 => ?_)
  clear r_a0_40
  clear fa0_39
  have r_a0_41 : ∀ Z, (fun Z => Z.cell? ⟨b, 0, none⟩ = some (.slice (some ⟨gg, 0, none⟩) n pc) ∧ Z.cell? ⟨gg, j * 2, none⟩ = some (.string X)) Z → (execOp a0_40.eval { dst := some 56, op := Op.pick (Operand.tmp 38) (Operand.const (Value.bool true)) (Operand.tmp 55), type := 4, pos := "law.go:71", after := #[{ on := 17, ground := Ground.data }, { on := 34, ground := Ground.data }], guard := none }).run Try.prog Z = .ok (.value (.bool false)) Z := fun Z hZ => by
    have kc : ∀ v, a0_40.eval (.const v) = v := fun _ => rfl
    have e38 := (show a0_40.eval (.tmp 38) = .bool false from (fa0_40.at_ 38))
    have e55 := (show a0_40.eval (.tmp 55) = .bool false from (fa0_40.at_ 55))
    clear fa0_40 hQ hQp hj0
    generalize a0_40.eval = ρ at *
    go_simp
  refine fa0_40.take 35 56 (.bool false) rfl (by kernel_rfl) (by kernel_rfl) (by kernel_rfl) (fun c a w h => hQp c a _ _ w h) rfl (lb_ I0.size) (wanted_none rfl) r_a0_41 hS19 (fun a0_41 fa0_41 => ?_)
  clear r_a0_41
  clear fa0_40
  refine wpAnyH_done (by kernel_rfl) ?_ _
  change Code.wp _ _ _ _ _
  refine wp_cond_false (show a0_41.eval (.tmp 56) = .bool false from (fa0_41.at_ 56)) (wp_skip ?_)
  change Code.wp _ _ _ _ _
  refine wp_region_list ?_
  unfold rMK3
  refine fa0_41.move 19 (.int .i64 (j : Int)) _ (Or.inl rfl) rfl (lb_ I0.size) (wanted_none rfl) ((fa0_41.at_ 11).trans hj0) (fun a0_42 fa0_42 => ?_)
  clear fa0_41
  have r_a0_43 : (execOp a0_42.eval { dst := some 20, op := Op.binOp BinOp.add 3 (Operand.tmp 19) (Operand.const (Value.int IntKind.i64 1)) 3, type := 3, pos := "law.go:70", after := #[{ on := 0, ground := Ground.data }], guard := none }).run Try.prog ((wr.alloc (.cells #[.int .u8 (m : Int)] 5)).drew) = .ok (.value (.int .i64 ((j : Int) + 1))) ((wr.alloc (.cells #[.int .u8 (m : Int)] 5)).drew) := by
    have kc : ∀ v, a0_42.eval (.const v) = v := fun _ => rfl
    have e19 := (show a0_42.eval (.tmp 19) = .int .i64 (j : Int) from (fa0_42.at_ 19))
    clear fa0_42 hQ hQp hj0
    generalize a0_42.eval = ρ at *
    go_simp
  refine fa0_42.step 20 (.int .i64 ((j : Int) + 1)) rfl (lb_ I0.size) (wanted_none rfl) r_a0_43 (fun a0_43 fa0_43 => ?_)
  clear r_a0_43
  clear fa0_42
  refine fa0_43.move 11 (.int .i64 ((j : Int) + 1)) _ (Or.inr rfl) rfl (lb_ I0.size) (wanted_none rfl) (fa0_43.at_ 20) (fun a0_44 fa0_44 => ?_)
  clear fa0_43
  refine wpList_nil ?_
  exact hQ a0_44 (I0.keep fa0_44 rfl rfl rfl rfl rfl) (show a0_44.eval (.tmp 11) = .int .i64 ((j : Int) + 1) from (fa0_44.at_ 11))
set_option maxRecDepth 100000 in
set_option maxHeartbeats 1000000 in
theorem mPY {b n1 n2 n3 m n j gg pc : Nat} {C X : ByteArray} {Q : Exit → Act → World → Prop} (hQp : ∀ c (a : Act) d v w, Q (.panic c) (a.put d v) w → Q (.panic c) a w) (a0 : Act) (wr : World) (I0 : IM b n1 n2 n3 m a0) (hj0 : a0.eval (.tmp 11) = .int .i64 (j : Int)) (hm : m < 100) (hj : j < n) (hn : n ≤ 1048800) (hx : n1 ≤ j)
    (c0 : wr.cell? ⟨b, 0, none⟩ = some (.slice (some ⟨gg, 0, none⟩) n pc)) (c1 : wr.cell? ⟨gg, j * 2, none⟩ = some (.string X))
    (hc : (convert 44 9 (.slice (some ⟨wr.heap.size, 0, none⟩) 1 1)).run Try.prog ((wr.alloc (.cells #[.int .u8 (m : Int)] 5)).drew) = .ok (.string C) ((wr.alloc (.cells #[.int .u8 (m : Int)] 5)).drew)) (hC : C.size = 1) (hX : X = (⟨#[121]⟩ : ByteArray) ++ C)
    (hQ : ∀ a', IM b n1 n2 n3 m a' → a'.eval (.tmp 11) = .int .i64 ((j : Int) + 1) → Q .normal a' ((wr.alloc (.cells #[.int .u8 (m : Int)] 5)).drew)) : cMP.wp Try.prog Q a0 wr := by
  have hji : (j : Int) < (n : Int) := by omega
  have w7 : IntKind.i64.wrap ((j : Int) + 1) = (j : Int) + 1 := by rw [IntKind.wrap_i64]; omega
  have w8 : IntKind.u8.wrap (m : Int) = (m : Int) := by rw [IntKind.wrap_u8]; omega
  have w9 : IntKind.u32.wrap ((m : Int) + 100) = (m : Int) + 100 := by rw [IntKind.wrap_u32]; omega
  have hxi : (n1 : Int) ≤ (j : Int) := by omega
  have hxd : decide ((j : Int) < (n1 : Int)) = false := decide_eq_false (by omega)
  have hadd := fun W => run_string_add_sum (P := Try.prog) W (⟨#[121]⟩ : ByteArray) C (by have : (⟨#[121]⟩ : ByteArray).size = 1 := rfl; omega)
  rw [← hX] at hadd
  have sd : Same wr ((wr.alloc (.cells #[.int .u8 (m : Int)] 5)).drew) := ((Fr.refl _ wr).alloc _).drew
  clear hX hC
  clear hj hn hm
  have fa0_0 := Fe.refl a0
  unfold cMP
  refine wp_seq (wp_seq ?_)
  refine wp_region_list ?_
  unfold rMK2
  refine fa0_0.move 14 (.int .i64 (j : Int)) _ (Or.inl rfl) rfl (lb_ I0.size) (wanted_none rfl) ((fa0_0.at_ 11).trans hj0) (fun a0_1 fa0_1 => ?_)
  clear fa0_0
  have r_a0_2 : (execOp a0_1.eval { dst := some 15, op := Op.fieldAddr 26 (Operand.tmp 5) 0, type := 0, pos := "law.go:70", after := #[], guard := none }).run Try.prog (wr) = .ok (.value (.pointer (some ⟨b, 0, none⟩))) (wr) := by
    have e5 := (show a0_1.eval (.tmp 5) = .pointer (some ⟨b, 0, none⟩) from ((fa0_1.at_ 5).trans I0.s5))
    clear fa0_1 hQ hQp hj0
    generalize a0_1.eval = ρ at *
    go_simp
  refine fa0_1.step 15 (.pointer (some ⟨b, 0, none⟩)) rfl (lb_ I0.size) (wanted_none rfl) r_a0_2 (fun a0_2 fa0_2 => ?_)
  clear r_a0_2
  clear fa0_1
  have r_a0_3 : (execOp a0_2.eval { dst := some 16, op := Op.load 22 (Operand.tmp 15), type := 22, pos := "law.go:70", after := #[{ on := 1, ground := Ground.data }], guard := none }).run Try.prog (wr) = .ok (.value (.slice (some ⟨gg, 0, none⟩) n pc)) (wr) := by
    have e15 := (show a0_2.eval (.tmp 15) = .pointer (some ⟨b, 0, none⟩) from (fa0_2.at_ 15))
    clear fa0_2 hQ hQp hj0
    generalize a0_2.eval = ρ at *
    go_simp
  refine fa0_2.step 16 (.slice (some ⟨gg, 0, none⟩) n pc) rfl (lb_ I0.size) (wanted_none rfl) r_a0_3 (fun a0_3 fa0_3 => ?_)
  clear r_a0_3
  clear fa0_2
  have r_a0_4 : (execOp a0_3.eval { dst := some 17, op := Op.call { callee := Callee.builtin Builtin.len, args := #[Operand.tmp 16], argTypes := #[22] }, type := 3, pos := "law.go:70", after := #[{ on := 2, ground := Ground.data }], guard := none }).run Try.prog (wr) = .ok (.value (.int .i64 (n : Int))) (wr) := by
    have e16 := (show a0_3.eval (.tmp 16) = .slice (some ⟨gg, 0, none⟩) n pc from (fa0_3.at_ 16))
    clear fa0_3 hQ hQp hj0
    generalize a0_3.eval = ρ at *
    go_simp
  refine fa0_3.step 17 (.int .i64 (n : Int)) rfl (lb_ I0.size) (wanted_none rfl) r_a0_4 (fun a0_4 fa0_4 => ?_)
  clear r_a0_4
  clear fa0_3
  have r_a0_5 : (execOp a0_4.eval { dst := some 18, op := Op.binOp BinOp.lss 3 (Operand.tmp 14) (Operand.tmp 17) 3, type := 4, pos := "law.go:70", after := #[{ on := 0, ground := Ground.data }, { on := 3, ground := Ground.data }], guard := none }).run Try.prog (wr) = .ok (.value (.bool true)) (wr) := by
    have e14 := (show a0_4.eval (.tmp 14) = .int .i64 (j : Int) from (fa0_4.at_ 14))
    have e17 := (show a0_4.eval (.tmp 17) = .int .i64 (n : Int) from (fa0_4.at_ 17))
    clear fa0_4 hQ hQp hj0
    generalize a0_4.eval = ρ at *
    go_simp
  refine fa0_4.step 18 (.bool true) rfl (lb_ I0.size) (wanted_none rfl) r_a0_5 (fun a0_5 fa0_5 => ?_)
  clear r_a0_5
  clear fa0_4
  refine wpList_nil ?_
  change Code.wp _ _ _ _ _
  refine wp_cond_true (show a0_5.eval (.tmp 18) = .bool true from (fa0_5.at_ 18)) (wp_skip ?_)
  change Code.wp _ _ _ _ _
  refine wp_seq (wp_block (wp_seq ?_))
  refine wp_region_held_drew (ops := rMK4) (S := fun Z => Z.cell? ⟨b, 0, none⟩ = some (.slice (some ⟨gg, 0, none⟩) n pc) ∧ Z.cell? ⟨gg, j * 2, none⟩ = some (.string X)) (by kernel_rfl) (⟨c0, c1⟩) (fun hS5 => ?_)
  refine fa0_5.takeMove 0 21 (.int .i64 (j : Int)) _ (Or.inl rfl) rfl (by kernel_rfl) (by kernel_rfl) (by kernel_rfl) (fun c a w h => hQp c a _ _ w h) rfl (lb_ I0.size) (wanted_none rfl) ((fa0_5.at_ 11).trans hj0) hS5 (fun a0_6 fa0_6 => ?_)
  clear fa0_5
  refine fa0_6.takeMove 1 22 (.int .i64 (n1 : Int)) _ (Or.inl rfl) rfl (by kernel_rfl) (by kernel_rfl) (by kernel_rfl) (fun c a w h => hQp c a _ _ w h) rfl (lb_ I0.size) (wanted_none rfl) ((fa0_6.at_ 1).trans I0.s1) hS5 (fun a0_7 fa0_7 => ?_)
  clear fa0_6
  have r_a0_8 : ∀ Z, (fun Z => Z.cell? ⟨b, 0, none⟩ = some (.slice (some ⟨gg, 0, none⟩) n pc) ∧ Z.cell? ⟨gg, j * 2, none⟩ = some (.string X)) Z → (execOp a0_7.eval { dst := some 23, op := Op.binOp BinOp.lss 3 (Operand.tmp 21) (Operand.tmp 22) 3, type := 4, pos := "law.go:71", after := #[{ on := 0, ground := Ground.data }, { on := 1, ground := Ground.data }], guard := none }).run Try.prog Z = .ok (.value (.bool false)) Z := fun Z hZ => by
    have e21 := (show a0_7.eval (.tmp 21) = .int .i64 (j : Int) from (fa0_7.at_ 21))
    have e22 := (show a0_7.eval (.tmp 22) = .int .i64 (n1 : Int) from (fa0_7.at_ 22))
    clear fa0_7 hQ hQp hj0
    generalize a0_7.eval = ρ at *
    go_simp
  refine fa0_7.take 2 23 (.bool false) rfl (by kernel_rfl) (by kernel_rfl) (by kernel_rfl) (fun c a w h => hQp c a _ _ w h) rfl (lb_ I0.size) (wanted_none rfl) r_a0_8 hS5 (fun a0_8 fa0_8 => ?_)
  clear r_a0_8
  clear fa0_7
  refine fa0_8.takeMove 3 24 (.bool false) _ (Or.inl rfl) rfl (by kernel_rfl) (by kernel_rfl) (by kernel_rfl) (fun c a w h => hQp c a _ _ w h) rfl (lb_ I0.size) (wanted_none rfl) (fa0_8.at_ 23) hS5 (fun a0_9 fa0_9 => ?_)
  clear fa0_8
  refine fa0_9.takeOff 4 25 rfl (by kernel_rfl) (by kernel_rfl) (by kernel_rfl) (fun c a w h => hQp c a _ _ w h) rfl (lb_ I0.size) ((wanted_at (t := 24) (c := false) (b := true) rfl rfl rfl (lb_ (fa0_9.size.trans I0.size)) (fa0_9.at_ 24)).trans (by rfl)) hS5 (fun a0_10 fa0_10 => ?_)
  clear fa0_9
  refine fa0_10.takeOff 5 26 rfl (by kernel_rfl) (by kernel_rfl) (by kernel_rfl) (fun c a w h => hQp c a _ _ w h) rfl (lb_ I0.size) ((wanted_at (t := 24) (c := false) (b := true) rfl rfl rfl (lb_ (fa0_10.size.trans I0.size)) (fa0_10.at_ 24)).trans (by rfl)) hS5 (fun a0_11 fa0_11 => ?_)
  clear fa0_10
  refine fa0_11.takeOff 6 27 rfl (by kernel_rfl) (by kernel_rfl) (by kernel_rfl) (fun c a w h => hQp c a _ _ w h) rfl (lb_ I0.size) ((wanted_at (t := 24) (c := false) (b := true) rfl rfl rfl (lb_ (fa0_11.size.trans I0.size)) (fa0_11.at_ 24)).trans (by rfl)) hS5 (fun a0_12 fa0_12 => ?_)
  clear fa0_11
  refine fa0_12.takeOff 7 28 rfl (by kernel_rfl) (by kernel_rfl) (by kernel_rfl) (fun c a w h => hQp c a _ _ w h) rfl (lb_ I0.size) ((wanted_at (t := 24) (c := false) (b := true) rfl rfl rfl (lb_ (fa0_12.size.trans I0.size)) (fa0_12.at_ 24)).trans (by rfl)) hS5 (fun a0_13 fa0_13 => ?_)
  clear fa0_12
  refine fa0_13.takeOff 8 29 rfl (by kernel_rfl) (by kernel_rfl) (by kernel_rfl) (fun c a w h => hQp c a _ _ w h) rfl (lb_ I0.size) ((wanted_at (t := 24) (c := false) (b := true) rfl rfl rfl (lb_ (fa0_13.size.trans I0.size)) (fa0_13.at_ 24)).trans (by rfl)) hS5 (fun a0_14 fa0_14 => ?_)
  clear fa0_13
  refine fa0_14.takeOff 9 30 rfl (by kernel_rfl) (by kernel_rfl) (by kernel_rfl) (fun c a w h => hQp c a _ _ w h) rfl (lb_ I0.size) ((wanted_at (t := 24) (c := false) (b := true) rfl rfl rfl (lb_ (fa0_14.size.trans I0.size)) (fa0_14.at_ 24)).trans (by rfl)) hS5 (fun a0_15 fa0_15 => ?_)
  clear fa0_14
  refine fa0_15.takeOff 10 31 rfl (by kernel_rfl) (by kernel_rfl) (by kernel_rfl) (fun c a w h => hQp c a _ _ w h) rfl (lb_ I0.size) ((wanted_at (t := 24) (c := false) (b := true) rfl rfl rfl (lb_ (fa0_15.size.trans I0.size)) (fa0_15.at_ 24)).trans (by rfl)) hS5 (fun a0_16 fa0_16 => ?_)
  clear fa0_15
  refine fa0_16.takeOff 11 32 rfl (by kernel_rfl) (by kernel_rfl) (by kernel_rfl) (fun c a w h => hQp c a _ _ w h) rfl (lb_ I0.size) ((wanted_at (t := 24) (c := false) (b := true) rfl rfl rfl (lb_ (fa0_16.size.trans I0.size)) (fa0_16.at_ 24)).trans (by rfl)) hS5 (fun a0_17 fa0_17 => ?_)
  clear fa0_16
  refine fa0_17.takeOff 12 33 rfl (by kernel_rfl) (by kernel_rfl) (by kernel_rfl) (fun c a w h => hQp c a _ _ w h) rfl (lb_ I0.size) ((wanted_at (t := 24) (c := false) (b := true) rfl rfl rfl (lb_ (fa0_17.size.trans I0.size)) (fa0_17.at_ 24)).trans (by rfl)) hS5 (fun a0_18 fa0_18 => ?_)
  clear fa0_17
  refine fa0_18.takeOff 13 34 rfl (by kernel_rfl) (by kernel_rfl) (by kernel_rfl) (fun c a w h => hQp c a _ _ w h) rfl (lb_ I0.size) ((wanted_at (t := 24) (c := false) (b := true) rfl rfl rfl (lb_ (fa0_18.size.trans I0.size)) (fa0_18.at_ 24)).trans (by rfl)) hS5 (fun a0_19 fa0_19 => ?_)
  clear fa0_18
  refine fa0_19.takeOff 14 35 rfl (by kernel_rfl) (by kernel_rfl) (by kernel_rfl) (fun c a w h => hQp c a _ _ w h) rfl (lb_ I0.size) ((wanted_at (t := 24) (c := false) (b := true) rfl rfl rfl (lb_ (fa0_19.size.trans I0.size)) (fa0_19.at_ 24)).trans (by rfl)) hS5 (fun a0_20 fa0_20 => ?_)
  clear fa0_19
  refine fa0_20.takeOff 15 36 rfl (by kernel_rfl) (by kernel_rfl) (by kernel_rfl) (fun c a w h => hQp c a _ _ w h) rfl (lb_ I0.size) ((wanted_at (t := 24) (c := false) (b := true) rfl rfl rfl (lb_ (fa0_20.size.trans I0.size)) (fa0_20.at_ 24)).trans (by rfl)) hS5 (fun a0_21 fa0_21 => ?_)
  clear fa0_20
  have r_a0_22 : ∀ Z, (fun Z => Z.cell? ⟨b, 0, none⟩ = some (.slice (some ⟨gg, 0, none⟩) n pc) ∧ Z.cell? ⟨gg, j * 2, none⟩ = some (.string X)) Z → (execOp a0_21.eval { dst := some 37, op := Op.pick (Operand.tmp 24) (Operand.tmp 36) (Operand.const (Value.bool false)), type := 4, pos := "law.go:71", after := #[{ on := 3, ground := Ground.data }, { on := 15, ground := Ground.data }], guard := none }).run Try.prog Z = .ok (.value (.bool false)) Z := fun Z hZ => by
    have kc : ∀ v, a0_21.eval (.const v) = v := fun _ => rfl
    have e24 := (show a0_21.eval (.tmp 24) = .bool false from (fa0_21.at_ 24))
    have e36 := (show a0_21.eval (.tmp 36) = undef from (fa0_21.at_ 36))
    clear fa0_21 hQ hQp hj0
    generalize a0_21.eval = ρ at *
    go_simp
  refine fa0_21.take 16 37 (.bool false) rfl (by kernel_rfl) (by kernel_rfl) (by kernel_rfl) (fun c a w h => hQp c a _ _ w h) rfl (lb_ I0.size) (wanted_none rfl) r_a0_22 hS5 (fun a0_22 fa0_22 => ?_)
  clear r_a0_22
  clear fa0_21
  refine fa0_22.takeMove 17 38 (.bool false) _ (Or.inl rfl) rfl (by kernel_rfl) (by kernel_rfl) (by kernel_rfl) (fun c a w h => hQp c a _ _ w h) rfl (lb_ I0.size) (wanted_none rfl) (fa0_22.at_ 37) hS5 (fun a0_23 fa0_23 => ?_)
  clear fa0_22
  refine fa0_23.takeMove 18 39 (.int .i64 (j : Int)) _ (Or.inl rfl) rfl (by kernel_rfl) (by kernel_rfl) (by kernel_rfl) (fun c a w h => hQp c a _ _ w h) rfl (lb_ I0.size) ((wanted_at (t := 38) (c := false) (b := false) rfl rfl rfl (lb_ (fa0_23.size.trans I0.size)) (fa0_23.at_ 38)).trans (by rfl)) ((fa0_23.at_ 11).trans hj0) hS5 (fun a0_24 fa0_24 => ?_)
  clear fa0_23
  refine fa0_24.takeMove 19 40 (.int .i64 (n1 : Int)) _ (Or.inl rfl) rfl (by kernel_rfl) (by kernel_rfl) (by kernel_rfl) (fun c a w h => hQp c a _ _ w h) rfl (lb_ I0.size) ((wanted_at (t := 38) (c := false) (b := false) rfl rfl rfl (lb_ (fa0_24.size.trans I0.size)) (fa0_24.at_ 38)).trans (by rfl)) ((fa0_24.at_ 1).trans I0.s1) hS5 (fun a0_25 fa0_25 => ?_)
  clear fa0_24
  have r_a0_26 : ∀ Z, (fun Z => Z.cell? ⟨b, 0, none⟩ = some (.slice (some ⟨gg, 0, none⟩) n pc) ∧ Z.cell? ⟨gg, j * 2, none⟩ = some (.string X)) Z → (execOp a0_25.eval { dst := some 41, op := Op.binOp BinOp.geq 3 (Operand.tmp 39) (Operand.tmp 40) 3, type := 4, pos := "law.go:71", after := #[{ on := 18, ground := Ground.data }, { on := 19, ground := Ground.data }, { on := 17, ground := Ground.guard }], guard := some (17, false) }).run Try.prog Z = .ok (.value (.bool true)) Z := fun Z hZ => by
    have e39 := (show a0_25.eval (.tmp 39) = .int .i64 (j : Int) from (fa0_25.at_ 39))
    have e40 := (show a0_25.eval (.tmp 40) = .int .i64 (n1 : Int) from (fa0_25.at_ 40))
    clear fa0_25 hQ hQp hj0
    generalize a0_25.eval = ρ at *
    go_simp
  refine fa0_25.take 20 41 (.bool true) rfl (by kernel_rfl) (by kernel_rfl) (by kernel_rfl) (fun c a w h => hQp c a _ _ w h) rfl (lb_ I0.size) ((wanted_at (t := 38) (c := false) (b := false) rfl rfl rfl (lb_ (fa0_25.size.trans I0.size)) (fa0_25.at_ 38)).trans (by rfl)) r_a0_26 hS5 (fun a0_26 fa0_26 => ?_)
  clear r_a0_26
  clear fa0_25
  refine fa0_26.takeMove 21 42 (.bool true) _ (Or.inl rfl) rfl (by kernel_rfl) (by kernel_rfl) (by kernel_rfl) (fun c a w h => hQp c a _ _ w h) rfl (lb_ I0.size) ((wanted_at (t := 38) (c := false) (b := false) rfl rfl rfl (lb_ (fa0_26.size.trans I0.size)) (fa0_26.at_ 38)).trans (by rfl)) (fa0_26.at_ 41) hS5 (fun a0_27 fa0_27 => ?_)
  clear fa0_26
  have r_a0_28 : ∀ Z, (fun Z => Z.cell? ⟨b, 0, none⟩ = some (.slice (some ⟨gg, 0, none⟩) n pc) ∧ Z.cell? ⟨gg, j * 2, none⟩ = some (.string X)) Z → (execOp a0_27.eval { dst := some 43, op := Op.fieldAddr 26 (Operand.tmp 5) 0, type := 0, pos := "law.go:71", after := #[{ on := 21, ground := Ground.guard }], guard := some (21, true) }).run Try.prog Z = .ok (.value (.pointer (some ⟨b, 0, none⟩))) Z := fun Z hZ => by
    have e5 := (show a0_27.eval (.tmp 5) = .pointer (some ⟨b, 0, none⟩) from ((fa0_27.at_ 5).trans I0.s5))
    clear fa0_27 hQ hQp hj0
    generalize a0_27.eval = ρ at *
    go_simp
  refine fa0_27.take 22 43 (.pointer (some ⟨b, 0, none⟩)) rfl (by kernel_rfl) (by kernel_rfl) (by kernel_rfl) (fun c a w h => hQp c a _ _ w h) rfl (lb_ I0.size) ((wanted_at (t := 42) (c := true) (b := true) rfl rfl rfl (lb_ (fa0_27.size.trans I0.size)) (fa0_27.at_ 42)).trans (by rfl)) r_a0_28 hS5 (fun a0_28 fa0_28 => ?_)
  clear r_a0_28
  clear fa0_27
  have r_a0_29 : ∀ Z, (fun Z => Z.cell? ⟨b, 0, none⟩ = some (.slice (some ⟨gg, 0, none⟩) n pc) ∧ Z.cell? ⟨gg, j * 2, none⟩ = some (.string X)) Z → (execOp a0_28.eval { dst := some 44, op := Op.load 22 (Operand.tmp 43), type := 22, pos := "law.go:71", after := #[{ on := 22, ground := Ground.data }, { on := 21, ground := Ground.guard }], guard := some (21, true) }).run Try.prog Z = .ok (.value (.slice (some ⟨gg, 0, none⟩) n pc)) Z := fun Z hZ => by
    obtain ⟨z0, z1⟩ := hZ
    have e43 := (show a0_28.eval (.tmp 43) = .pointer (some ⟨b, 0, none⟩) from (fa0_28.at_ 43))
    clear fa0_28 hQ hQp hj0
    generalize a0_28.eval = ρ at *
    go_simp
  refine fa0_28.take 23 44 (.slice (some ⟨gg, 0, none⟩) n pc) rfl (by kernel_rfl) (by kernel_rfl) (by kernel_rfl) (fun c a w h => hQp c a _ _ w h) rfl (lb_ I0.size) ((wanted_at (t := 42) (c := true) (b := true) rfl rfl rfl (lb_ (fa0_28.size.trans I0.size)) (fa0_28.at_ 42)).trans (by rfl)) r_a0_29 hS5 (fun a0_29 fa0_29 => ?_)
  clear r_a0_29
  clear fa0_28
  refine fa0_29.takeMove 24 45 (.int .i64 (j : Int)) _ (Or.inl rfl) rfl (by kernel_rfl) (by kernel_rfl) (by kernel_rfl) (fun c a w h => hQp c a _ _ w h) rfl (lb_ I0.size) ((wanted_at (t := 42) (c := true) (b := true) rfl rfl rfl (lb_ (fa0_29.size.trans I0.size)) (fa0_29.at_ 42)).trans (by rfl)) ((fa0_29.at_ 11).trans hj0) hS5 (fun a0_30 fa0_30 => ?_)
  clear fa0_29
  have r_a0_31 : ∀ Z, (fun Z => Z.cell? ⟨b, 0, none⟩ = some (.slice (some ⟨gg, 0, none⟩) n pc) ∧ Z.cell? ⟨gg, j * 2, none⟩ = some (.string X)) Z → (execOp a0_30.eval { dst := some 46, op := Op.indexAddr 22 (Operand.tmp 44) (Operand.tmp 45), type := 0, pos := "law.go:71", after := #[{ on := 23, ground := Ground.data }, { on := 24, ground := Ground.data }, { on := 21, ground := Ground.guard }], guard := some (21, true) }).run Try.prog Z = .ok (.value (.pointer (some ⟨gg, j * 2, none⟩))) Z := fun Z hZ => by
    have e44 := (show a0_30.eval (.tmp 44) = .slice (some ⟨gg, 0, none⟩) n pc from (fa0_30.at_ 44))
    have e45 := (show a0_30.eval (.tmp 45) = .int .i64 (j : Int) from (fa0_30.at_ 45))
    clear fa0_30 hQ hQp hj0
    generalize a0_30.eval = ρ at *
    go_simp
  refine fa0_30.take 25 46 (.pointer (some ⟨gg, j * 2, none⟩)) rfl (by kernel_rfl) (by kernel_rfl) (by kernel_rfl) (fun c a w h => hQp c a _ _ w h) rfl (lb_ I0.size) ((wanted_at (t := 42) (c := true) (b := true) rfl rfl rfl (lb_ (fa0_30.size.trans I0.size)) (fa0_30.at_ 42)).trans (by rfl)) r_a0_31 hS5 (fun a0_31 fa0_31 => ?_)
  clear r_a0_31
  clear fa0_30
  have r_a0_32 : ∀ Z, (fun Z => Z.cell? ⟨b, 0, none⟩ = some (.slice (some ⟨gg, 0, none⟩) n pc) ∧ Z.cell? ⟨gg, j * 2, none⟩ = some (.string X)) Z → (execOp a0_31.eval { dst := some 47, op := Op.fieldAddr 33 (Operand.tmp 46) 0, type := 0, pos := "law.go:71", after := #[{ on := 25, ground := Ground.data }, { on := 21, ground := Ground.guard }], guard := some (21, true) }).run Try.prog Z = .ok (.value (.pointer (some ⟨gg, j * 2, none⟩))) Z := fun Z hZ => by
    have e46 := (show a0_31.eval (.tmp 46) = .pointer (some ⟨gg, j * 2, none⟩) from (fa0_31.at_ 46))
    clear fa0_31 hQ hQp hj0
    generalize a0_31.eval = ρ at *
    go_simp
  refine fa0_31.take 26 47 (.pointer (some ⟨gg, j * 2, none⟩)) rfl (by kernel_rfl) (by kernel_rfl) (by kernel_rfl) (fun c a w h => hQp c a _ _ w h) rfl (lb_ I0.size) ((wanted_at (t := 42) (c := true) (b := true) rfl rfl rfl (lb_ (fa0_31.size.trans I0.size)) (fa0_31.at_ 42)).trans (by rfl)) r_a0_32 hS5 (fun a0_32 fa0_32 => ?_)
  clear r_a0_32
  clear fa0_31
  have r_a0_33 : ∀ Z, (fun Z => Z.cell? ⟨b, 0, none⟩ = some (.slice (some ⟨gg, 0, none⟩) n pc) ∧ Z.cell? ⟨gg, j * 2, none⟩ = some (.string X)) Z → (execOp a0_32.eval { dst := some 48, op := Op.load 9 (Operand.tmp 47), type := 9, pos := "law.go:71", after := #[{ on := 26, ground := Ground.data }, { on := 21, ground := Ground.guard }], guard := some (21, true) }).run Try.prog Z = .ok (.value (.string X)) Z := fun Z hZ => by
    obtain ⟨z0, z1⟩ := hZ
    have e47 := (show a0_32.eval (.tmp 47) = .pointer (some ⟨gg, j * 2, none⟩) from (fa0_32.at_ 47))
    clear fa0_32 hQ hQp hj0
    generalize a0_32.eval = ρ at *
    go_simp
  refine fa0_32.take 27 48 (.string X) rfl (by kernel_rfl) (by kernel_rfl) (by kernel_rfl) (fun c a w h => hQp c a _ _ w h) rfl (lb_ I0.size) ((wanted_at (t := 42) (c := true) (b := true) rfl rfl rfl (lb_ (fa0_32.size.trans I0.size)) (fa0_32.at_ 42)).trans (by rfl)) r_a0_33 hS5 (fun a0_33 fa0_33 => ?_)
  clear r_a0_33
  clear fa0_32
  refine fa0_33.takeMove 28 49 (.int .u32 (m : Int)) _ (Or.inl rfl) rfl (by kernel_rfl) (by kernel_rfl) (by kernel_rfl) (fun c a w h => hQp c a _ _ w h) rfl (lb_ I0.size) ((wanted_at (t := 42) (c := true) (b := true) rfl rfl rfl (lb_ (fa0_33.size.trans I0.size)) (fa0_33.at_ 42)).trans (by rfl)) ((fa0_33.at_ 4).trans I0.s4) hS5 (fun a0_34 fa0_34 => ?_)
  clear fa0_33
  have r_a0_35 : ∀ Z, (fun Z => Z.cell? ⟨b, 0, none⟩ = some (.slice (some ⟨gg, 0, none⟩) n pc) ∧ Z.cell? ⟨gg, j * 2, none⟩ = some (.string X)) Z → (execOp a0_34.eval { dst := some 50, op := Op.convert 30 5 (Operand.tmp 49), type := 5, pos := "law.go:71", after := #[{ on := 28, ground := Ground.data }, { on := 21, ground := Ground.guard }], guard := some (21, true) }).run Try.prog Z = .ok (.value (.int .u8 (m : Int))) Z := fun Z hZ => by
    have e49 := (show a0_34.eval (.tmp 49) = .int .u32 (m : Int) from (fa0_34.at_ 49))
    clear fa0_34 hQ hQp hj0
    generalize a0_34.eval = ρ at *
    go_simp
  refine fa0_34.take 29 50 (.int .u8 (m : Int)) rfl (by kernel_rfl) (by kernel_rfl) (by kernel_rfl) (fun c a w h => hQp c a _ _ w h) rfl (lb_ I0.size) ((wanted_at (t := 42) (c := true) (b := true) rfl rfl rfl (lb_ (fa0_34.size.trans I0.size)) (fa0_34.at_ 42)).trans (by rfl)) r_a0_35 hS5 (fun a0_35 fa0_35 => ?_)
  clear r_a0_35
  clear fa0_34
  have r_a0_36 : (execOp a0_35.eval { dst := some 51, op := Op.buildSlice 44 1 #[(0, Operand.tmp 50)], type := 44, pos := "law.go:71", after := #[{ on := 29, ground := Ground.data }, { on := 21, ground := Ground.guard }], guard := some (21, true) }).run Try.prog (wr.drew) = .ok (.value (.slice (some ⟨wr.heap.size, 0, none⟩) 1 1)) ((wr.alloc (.cells #[.int .u8 (m : Int)] 5)).drew) := by
    have e50 := (show a0_35.eval (.tmp 50) = .int .u8 (m : Int) from (fa0_35.at_ 50))
    clear fa0_35 hQ hQp hj0
    generalize a0_35.eval = ρ at *
    go_simp
  have hS36 : (fun Z => Z.cell? ⟨b, 0, none⟩ = some (.slice (some ⟨gg, 0, none⟩) n pc) ∧ Z.cell? ⟨gg, j * 2, none⟩ = some (.string X)) ((wr.alloc (.cells #[.int .u8 (m : Int)] 5)).drew) := ⟨sd.keep c0, sd.keep c1⟩
  refine fa0_35.one 30 51 (.slice (some ⟨wr.heap.size, 0, none⟩) 1 1) (by kernel_rfl) rfl rfl (lb_ I0.size) ((wanted_at (t := 42) (c := true) (b := true) rfl rfl rfl (lb_ (fa0_35.size.trans I0.size)) (fa0_35.at_ 42)).trans (by rfl)) r_a0_36 hS36 (fun a0_36 fa0_36 => ?_)
  clear r_a0_36
  clear fa0_35
  have r_a0_37 : (execOp a0_36.eval { dst := some 52, op := Op.convert 44 9 (Operand.tmp 51), type := 9, pos := "law.go:71", after := #[{ on := 30, ground := Ground.data }, { on := 21, ground := Ground.guard }], guard := some (21, true) }).run Try.prog ((wr.alloc (.cells #[.int .u8 (m : Int)] 5)).drew) = .ok (.value (.string C)) ((wr.alloc (.cells #[.int .u8 (m : Int)] 5)).drew) := by
    have e51 := (show a0_36.eval (.tmp 51) = .slice (some ⟨wr.heap.size, 0, none⟩) 1 1 from (fa0_36.at_ 51))
    clear fa0_36 hQ hQp hj0
    generalize a0_36.eval = ρ at *
    go_simp
  have hS37 : (fun Z => Z.cell? ⟨b, 0, none⟩ = some (.slice (some ⟨gg, 0, none⟩) n pc) ∧ Z.cell? ⟨gg, j * 2, none⟩ = some (.string X)) ((wr.alloc (.cells #[.int .u8 (m : Int)] 5)).drew) := ⟨sd.keep c0, sd.keep c1⟩
  refine fa0_36.one 31 52 (.string C) (by kernel_rfl) rfl rfl (lb_ I0.size) ((wanted_at (t := 42) (c := true) (b := true) rfl rfl rfl (lb_ (fa0_36.size.trans I0.size)) (fa0_36.at_ 42)).trans (by rfl)) r_a0_37 hS37 (fun a0_37 fa0_37 => ?_)
  clear r_a0_37
  clear fa0_36
  have r_a0_38 : ∀ Z, (fun Z => Z.cell? ⟨b, 0, none⟩ = some (.slice (some ⟨gg, 0, none⟩) n pc) ∧ Z.cell? ⟨gg, j * 2, none⟩ = some (.string X)) Z → (execOp a0_37.eval { dst := some 53, op := Op.binOp BinOp.add 9 (Operand.const (Value.string { data := #[121] })) (Operand.tmp 52) 9, type := 9, pos := "law.go:71", after := #[{ on := 31, ground := Ground.data }, { on := 21, ground := Ground.guard }], guard := some (21, true) }).run Try.prog Z = .ok (.value (.string X)) Z := fun Z hZ => by
    have kc : ∀ v, a0_37.eval (.const v) = v := fun _ => rfl
    have e52 := (show a0_37.eval (.tmp 52) = .string C from (fa0_37.at_ 52))
    clear fa0_37 hQ hQp hj0
    generalize a0_37.eval = ρ at *
    go_simp
  refine fa0_37.take 32 53 (.string X) rfl (by kernel_rfl) (by kernel_rfl) (by kernel_rfl) (fun c a w h => hQp c a _ _ w h) rfl (lb_ I0.size) ((wanted_at (t := 42) (c := true) (b := true) rfl rfl rfl (lb_ (fa0_37.size.trans I0.size)) (fa0_37.at_ 42)).trans (by rfl)) r_a0_38 hS37 (fun a0_38 fa0_38 => ?_)
  clear r_a0_38
  clear fa0_37
  have r_a0_39 : ∀ Z, (fun Z => Z.cell? ⟨b, 0, none⟩ = some (.slice (some ⟨gg, 0, none⟩) n pc) ∧ Z.cell? ⟨gg, j * 2, none⟩ = some (.string X)) Z → (execOp a0_38.eval { dst := some 54, op := Op.binOp BinOp.neq 9 (Operand.tmp 48) (Operand.tmp 53) 9, type := 4, pos := "law.go:71", after := #[{ on := 27, ground := Ground.data }, { on := 32, ground := Ground.data }, { on := 21, ground := Ground.guard }], guard := some (21, true) }).run Try.prog Z = .ok (.value (.bool false)) Z := fun Z hZ => by
    have e48 := (show a0_38.eval (.tmp 48) = .string X from (fa0_38.at_ 48))
    have e53 := (show a0_38.eval (.tmp 53) = .string X from (fa0_38.at_ 53))
    clear fa0_38 hQ hQp hj0
    generalize a0_38.eval = ρ at *
    go_simp
  refine fa0_38.take 33 54 (.bool false) rfl (by kernel_rfl) (by kernel_rfl) (by kernel_rfl) (fun c a w h => hQp c a _ _ w h) rfl (lb_ I0.size) ((wanted_at (t := 42) (c := true) (b := true) rfl rfl rfl (lb_ (fa0_38.size.trans I0.size)) (fa0_38.at_ 42)).trans (by rfl)) r_a0_39 hS37 (fun a0_39 fa0_39 => ?_)
  clear r_a0_39
  clear fa0_38
  have r_a0_40 : ∀ Z, (fun Z => Z.cell? ⟨b, 0, none⟩ = some (.slice (some ⟨gg, 0, none⟩) n pc) ∧ Z.cell? ⟨gg, j * 2, none⟩ = some (.string X)) Z → (execOp a0_39.eval { dst := some 55, op := Op.pick (Operand.tmp 42) (Operand.tmp 54) (Operand.const (Value.bool false)), type := 4, pos := "law.go:71", after := #[{ on := 21, ground := Ground.data }, { on := 33, ground := Ground.data }, { on := 17, ground := Ground.guard }], guard := some (17, false) }).run Try.prog Z = .ok (.value (.bool false)) Z := fun Z hZ => by
    have kc : ∀ v, a0_39.eval (.const v) = v := fun _ => rfl
    have e42 := (show a0_39.eval (.tmp 42) = .bool true from (fa0_39.at_ 42))
    have e54 := (show a0_39.eval (.tmp 54) = .bool false from (fa0_39.at_ 54))
    clear fa0_39 hQ hQp hj0
    generalize a0_39.eval = ρ at *
    go_simp
  refine fa0_39.take 34 55 (.bool false) rfl (by kernel_rfl) (by kernel_rfl) (by kernel_rfl) (fun c a w h => hQp c a _ _ w h) rfl (lb_ I0.size) ((wanted_at (t := 38) (c := false) (b := false) rfl rfl rfl (lb_ (fa0_39.size.trans I0.size)) (fa0_39.at_ 38)).trans (by rfl)) r_a0_40 hS37 (fun a0_40 fa0_40 => ?_)
  clear r_a0_40
  clear fa0_39
  have r_a0_41 : ∀ Z, (fun Z => Z.cell? ⟨b, 0, none⟩ = some (.slice (some ⟨gg, 0, none⟩) n pc) ∧ Z.cell? ⟨gg, j * 2, none⟩ = some (.string X)) Z → (execOp a0_40.eval { dst := some 56, op := Op.pick (Operand.tmp 38) (Operand.const (Value.bool true)) (Operand.tmp 55), type := 4, pos := "law.go:71", after := #[{ on := 17, ground := Ground.data }, { on := 34, ground := Ground.data }], guard := none }).run Try.prog Z = .ok (.value (.bool false)) Z := fun Z hZ => by
    have kc : ∀ v, a0_40.eval (.const v) = v := fun _ => rfl
    have e38 := (show a0_40.eval (.tmp 38) = .bool false from (fa0_40.at_ 38))
    have e55 := (show a0_40.eval (.tmp 55) = .bool false from (fa0_40.at_ 55))
    clear fa0_40 hQ hQp hj0
    generalize a0_40.eval = ρ at *
    go_simp
  refine fa0_40.take 35 56 (.bool false) rfl (by kernel_rfl) (by kernel_rfl) (by kernel_rfl) (fun c a w h => hQp c a _ _ w h) rfl (lb_ I0.size) (wanted_none rfl) r_a0_41 hS37 (fun a0_41 fa0_41 => ?_)
  clear r_a0_41
  clear fa0_40
  refine wpAnyH_done (by kernel_rfl) ?_ _
  change Code.wp _ _ _ _ _
  refine wp_cond_false (show a0_41.eval (.tmp 56) = .bool false from (fa0_41.at_ 56)) (wp_skip ?_)
  change Code.wp _ _ _ _ _
  refine wp_region_list ?_
  unfold rMK3
  refine fa0_41.move 19 (.int .i64 (j : Int)) _ (Or.inl rfl) rfl (lb_ I0.size) (wanted_none rfl) ((fa0_41.at_ 11).trans hj0) (fun a0_42 fa0_42 => ?_)
  clear fa0_41
  have r_a0_43 : (execOp a0_42.eval { dst := some 20, op := Op.binOp BinOp.add 3 (Operand.tmp 19) (Operand.const (Value.int IntKind.i64 1)) 3, type := 3, pos := "law.go:70", after := #[{ on := 0, ground := Ground.data }], guard := none }).run Try.prog ((wr.alloc (.cells #[.int .u8 (m : Int)] 5)).drew) = .ok (.value (.int .i64 ((j : Int) + 1))) ((wr.alloc (.cells #[.int .u8 (m : Int)] 5)).drew) := by
    have kc : ∀ v, a0_42.eval (.const v) = v := fun _ => rfl
    have e19 := (show a0_42.eval (.tmp 19) = .int .i64 (j : Int) from (fa0_42.at_ 19))
    clear fa0_42 hQ hQp hj0
    generalize a0_42.eval = ρ at *
    go_simp
  refine fa0_42.step 20 (.int .i64 ((j : Int) + 1)) rfl (lb_ I0.size) (wanted_none rfl) r_a0_43 (fun a0_43 fa0_43 => ?_)
  clear r_a0_43
  clear fa0_42
  refine fa0_43.move 11 (.int .i64 ((j : Int) + 1)) _ (Or.inr rfl) rfl (lb_ I0.size) (wanted_none rfl) (fa0_43.at_ 20) (fun a0_44 fa0_44 => ?_)
  clear fa0_43
  refine wpList_nil ?_
  exact hQ a0_44 (I0.keep fa0_44 rfl rfl rfl rfl rfl) (show a0_44.eval (.tmp 11) = .int .i64 ((j : Int) + 1) from (fa0_44.at_ 11))
set_option maxRecDepth 100000 in
theorem mPE {b n1 n2 n3 m n pc : Nat} {pa : Option Addr} {Q : Exit → Act → World → Prop} (a0 : Act) (wr : World) (I0 : IM b n1 n2 n3 m a0) (hj0 : a0.eval (.tmp 11) = .int .i64 (n : Int)) (c0 : wr.cell? ⟨b, 0, none⟩ = some (.slice pa n pc))
    (hQ : ∀ a', IM b n1 n2 n3 m a' → Q (.exit 0) a' wr) : cMP.wp Try.prog Q a0 wr := by
  have fa0_0 := Fe.refl a0
  unfold cMP
  refine wp_seq (wp_seq ?_)
  refine wp_region_list ?_
  unfold rMK2
  refine fa0_0.move 14 (.int .i64 (n : Int)) _ (Or.inl rfl) rfl (lb_ I0.size) (wanted_none rfl) ((fa0_0.at_ 11).trans hj0) (fun a0_1 fa0_1 => ?_)
  clear fa0_0
  have r_a0_2 : (execOp a0_1.eval { dst := some 15, op := Op.fieldAddr 26 (Operand.tmp 5) 0, type := 0, pos := "law.go:70", after := #[], guard := none }).run Try.prog (wr) = .ok (.value (.pointer (some ⟨b, 0, none⟩))) (wr) := by
    have e5 := (show a0_1.eval (.tmp 5) = .pointer (some ⟨b, 0, none⟩) from ((fa0_1.at_ 5).trans I0.s5))
    clear fa0_1 hQ hj0
    generalize a0_1.eval = ρ at *
    go_simp
  refine fa0_1.step 15 (.pointer (some ⟨b, 0, none⟩)) rfl (lb_ I0.size) (wanted_none rfl) r_a0_2 (fun a0_2 fa0_2 => ?_)
  clear r_a0_2
  clear fa0_1
  have r_a0_3 : (execOp a0_2.eval { dst := some 16, op := Op.load 22 (Operand.tmp 15), type := 22, pos := "law.go:70", after := #[{ on := 1, ground := Ground.data }], guard := none }).run Try.prog (wr) = .ok (.value (.slice pa n pc)) (wr) := by
    have e15 := (show a0_2.eval (.tmp 15) = .pointer (some ⟨b, 0, none⟩) from (fa0_2.at_ 15))
    clear fa0_2 hQ hj0
    generalize a0_2.eval = ρ at *
    go_simp
  refine fa0_2.step 16 (.slice pa n pc) rfl (lb_ I0.size) (wanted_none rfl) r_a0_3 (fun a0_3 fa0_3 => ?_)
  clear r_a0_3
  clear fa0_2
  have r_a0_4 : (execOp a0_3.eval { dst := some 17, op := Op.call { callee := Callee.builtin Builtin.len, args := #[Operand.tmp 16], argTypes := #[22] }, type := 3, pos := "law.go:70", after := #[{ on := 2, ground := Ground.data }], guard := none }).run Try.prog (wr) = .ok (.value (.int .i64 (n : Int))) (wr) := by
    have e16 := (show a0_3.eval (.tmp 16) = .slice pa n pc from (fa0_3.at_ 16))
    clear fa0_3 hQ hj0
    generalize a0_3.eval = ρ at *
    go_simp
  refine fa0_3.step 17 (.int .i64 (n : Int)) rfl (lb_ I0.size) (wanted_none rfl) r_a0_4 (fun a0_4 fa0_4 => ?_)
  clear r_a0_4
  clear fa0_3
  have r_a0_5 : (execOp a0_4.eval { dst := some 18, op := Op.binOp BinOp.lss 3 (Operand.tmp 14) (Operand.tmp 17) 3, type := 4, pos := "law.go:70", after := #[{ on := 0, ground := Ground.data }, { on := 3, ground := Ground.data }], guard := none }).run Try.prog (wr) = .ok (.value (.bool false)) (wr) := by
    have e14 := (show a0_4.eval (.tmp 14) = .int .i64 (n : Int) from (fa0_4.at_ 14))
    have e17 := (show a0_4.eval (.tmp 17) = .int .i64 (n : Int) from (fa0_4.at_ 17))
    clear fa0_4 hQ hj0
    generalize a0_4.eval = ρ at *
    go_simp
  refine fa0_4.step 18 (.bool false) rfl (lb_ I0.size) (wanted_none rfl) r_a0_5 (fun a0_5 fa0_5 => ?_)
  clear r_a0_5
  clear fa0_4
  refine wpList_nil ?_
  change Code.wp _ _ _ _ _
  refine wp_cond_false (show a0_5.eval (.tmp 18) = .bool false from (fa0_5.at_ 18)) (wp_exit ?_)
  exact hQ a0_5 (I0.keep fa0_5 rfl rfl rfl rfl rfl)
theorem mPL {b n1 n2 n3 m n pc e : Nat} {pa : Option Addr} {C X Y : ByteArray} {Q : Exit → Act → World → Prop} (hQp : ∀ c (a : Act) d v w, Q (.panic c) (a.put d v) w → Q (.panic c) a w) (a0 : Act) (V : World) (I0 : IM b n1 n2 n3 m a0) (hj0 : a0.eval (.tmp 11) = .int .i64 ((0 : Nat) : Int)) (hm : m < 100) (hn : n ≤ 1048800) (he : n = n1 + e)
    (hB : ∀ W, Same V W → W.cell? ⟨b, 0, none⟩ = some (.slice pa n pc))
    (hX : ∀ W k, Same V W → k < n1 → ∃ g, pa = some ⟨g, 0, none⟩ ∧ W.cell? ⟨g, k * 2, none⟩ = some (.string X)) (hY : ∀ W k, Same V W → n1 ≤ k → k < n1 + e → ∃ g, pa = some ⟨g, 0, none⟩ ∧ W.cell? ⟨g, k * 2, none⟩ = some (.string Y))
    (hc : ∀ W : World, (convert 44 9 (.slice (some ⟨W.heap.size, 0, none⟩) 1 1)).run Try.prog ((W.alloc (.cells #[.int .u8 (m : Int)] 5)).drew) = .ok (.string C) ((W.alloc (.cells #[.int .u8 (m : Int)] 5)).drew)) (hC : C.size = 1) (eX : X = (⟨#[120]⟩ : ByteArray) ++ C) (eY : Y = (⟨#[121]⟩ : ByteArray) ++ C)
    (hQ : ∀ a' W, IM b n1 n2 n3 m a' → Same V W → Q (.exit 0) a' W) : (Code.loop cMP).wp Try.prog Q a0 V := by
  refine wp_loop (fun a' W => IM b n1 n2 n3 m a' ∧ Same V W ∧ ∃ k : Nat, k ≤ n ∧ a'.eval (.tmp 11) = .int .i64 (k : Int)) (fun a' _ => n - kOfN a' 11) ⟨I0, Fr.refl _ V, 0, Nat.zero_le _, hj0⟩ ?_
  rintro a1 W ⟨I1, s1, k, hk, g1⟩
  by_cases hgo : k < n
  · have nx : ∀ a' W', Same W W' → IM b n1 n2 n3 m a' → a'.eval (.tmp 11) = .int .i64 ((k : Int) + 1) → Exit.then (fun a' W => (IM b n1 n2 n3 m a' ∧ Same V W ∧ ∃ k : Nat, k ≤ n ∧ a'.eval (.tmp 11) = .int .i64 (k : Int)) ∧ n - kOfN a' 11 < n - kOfN a1 11) Q .normal a' W' := fun a' W' s2 h1 h3 => by
      have h4 : a'.eval (.tmp 11) = .int .i64 ((k + 1 : Nat) : Int) := h3
      refine ⟨⟨h1, Fr.trans s1 s2 (fun _ _ f => f), k + 1, hgo, h4⟩, ?_⟩
      rw [kOfN_eq h4, kOfN_eq g1]
      omega
    by_cases hx : k < n1
    · obtain ⟨g, eg, c1⟩ := hX W k s1 hx
      subst eg
      exact mPX (by intro c a d v w h; exact hQp c a d v w h) a1 W I1 g1 hm hgo hn hx (hB W s1) c1 (hc W) hC eX (fun a' i2 h2 => nx a' _ (((Fr.refl _ W).alloc _).drew) i2 h2)
    · obtain ⟨g, eg, c1⟩ := hY W k s1 (Nat.le_of_not_lt hx) (by omega)
      subst eg
      exact mPY (by intro c a d v w h; exact hQp c a d v w h) a1 W I1 g1 hm hgo hn (Nat.le_of_not_lt hx) (hB W s1) c1 (hc W) hC eY (fun a' i2 h2 => nx a' _ (((Fr.refl _ W).alloc _).drew) i2 h2)
  · obtain rfl : n = k := by omega
    exact mPE a1 W I1 g1 (hB W s1) (fun a' i2 => hQ a' W i2 s1)
def cMS : Code := (Code.seq (Code.seq (Code.region 7 rMK7 false) (Code.cond (Operand.tmp 61) Code.skip (Code.exit 2))) (Code.seq (Code.block 3 (Code.seq (Code.region 9 rMK9 true) (Code.cond (Operand.tmp 97) (Code.seq (Code.region 10 rMK10 false) Code.ret) Code.skip))) (Code.region 8 rMK8 false)))
set_option maxRecDepth 100000 in
set_option maxHeartbeats 1000000 in
theorem mSX {b n1 n2 n3 m n j gg pc : Nat} {C X : ByteArray} {Q : Exit → Act → World → Prop} (hQp : ∀ c (a : Act) d v w, Q (.panic c) (a.put d v) w → Q (.panic c) a w) (a0 : Act) (wr : World) (I0 : IM b n1 n2 n3 m a0) (hj0 : a0.eval (.tmp 12) = .int .i64 (j : Int)) (hm : m < 100) (hj : j < n) (hn : n ≤ 1048800) (hx : j < n2)
    (c0 : wr.cell? ⟨b, 1, none⟩ = some (.slice (some ⟨gg, 0, none⟩) n pc)) (c1 : wr.cell? ⟨gg, j, none⟩ = some (.string X))
    (hc : (convert 44 9 (.slice (some ⟨wr.heap.size, 0, none⟩) 1 1)).run Try.prog ((wr.alloc (.cells #[.int .u8 (m : Int)] 5)).drew) = .ok (.string C) ((wr.alloc (.cells #[.int .u8 (m : Int)] 5)).drew)) (hC : C.size = 1) (hX : X = (⟨#[120]⟩ : ByteArray) ++ C)
    (hQ : ∀ a', IM b n1 n2 n3 m a' → a'.eval (.tmp 12) = .int .i64 ((j : Int) + 1) → Q .normal a' ((wr.alloc (.cells #[.int .u8 (m : Int)] 5)).drew)) : cMS.wp Try.prog Q a0 wr := by
  have hji : (j : Int) < (n : Int) := by omega
  have w7 : IntKind.i64.wrap ((j : Int) + 1) = (j : Int) + 1 := by rw [IntKind.wrap_i64]; omega
  have w8 : IntKind.u8.wrap (m : Int) = (m : Int) := by rw [IntKind.wrap_u8]; omega
  have w9 : IntKind.u32.wrap ((m : Int) + 100) = (m : Int) + 100 := by rw [IntKind.wrap_u32]; omega
  have hxi : (j : Int) < (n2 : Int) := by omega
  have hxd : decide ((n2 : Int) ≤ (j : Int)) = false := decide_eq_false (by omega)
  have hadd := fun W => run_string_add_sum (P := Try.prog) W (⟨#[120]⟩ : ByteArray) C (by have : (⟨#[120]⟩ : ByteArray).size = 1 := rfl; omega)
  rw [← hX] at hadd
  have sd : Same wr ((wr.alloc (.cells #[.int .u8 (m : Int)] 5)).drew) := ((Fr.refl _ wr).alloc _).drew
  clear hX hC
  clear hj hn hm
  have fa0_0 := Fe.refl a0
  unfold cMS
  refine wp_seq (wp_seq ?_)
  refine wp_region_list ?_
  unfold rMK7
  refine fa0_0.move 57 (.int .i64 (j : Int)) _ (Or.inl rfl) rfl (lb_ I0.size) (wanted_none rfl) ((fa0_0.at_ 12).trans hj0) (fun a0_1 fa0_1 => ?_)
  clear fa0_0
  have r_a0_2 : (execOp a0_1.eval { dst := some 58, op := Op.fieldAddr 26 (Operand.tmp 5) 1, type := 0, pos := "law.go:75", after := #[], guard := none }).run Try.prog (wr) = .ok (.value (.pointer (some ⟨b, 1, none⟩))) (wr) := by
    have e5 := (show a0_1.eval (.tmp 5) = .pointer (some ⟨b, 0, none⟩) from ((fa0_1.at_ 5).trans I0.s5))
    clear fa0_1 hQ hQp hj0
    generalize a0_1.eval = ρ at *
    go_simp
  refine fa0_1.step 58 (.pointer (some ⟨b, 1, none⟩)) rfl (lb_ I0.size) (wanted_none rfl) r_a0_2 (fun a0_2 fa0_2 => ?_)
  clear r_a0_2
  clear fa0_1
  have r_a0_3 : (execOp a0_2.eval { dst := some 59, op := Op.load 23 (Operand.tmp 58), type := 23, pos := "law.go:75", after := #[{ on := 1, ground := Ground.data }], guard := none }).run Try.prog (wr) = .ok (.value (.slice (some ⟨gg, 0, none⟩) n pc)) (wr) := by
    have e58 := (show a0_2.eval (.tmp 58) = .pointer (some ⟨b, 1, none⟩) from (fa0_2.at_ 58))
    clear fa0_2 hQ hQp hj0
    generalize a0_2.eval = ρ at *
    go_simp
  refine fa0_2.step 59 (.slice (some ⟨gg, 0, none⟩) n pc) rfl (lb_ I0.size) (wanted_none rfl) r_a0_3 (fun a0_3 fa0_3 => ?_)
  clear r_a0_3
  clear fa0_2
  have r_a0_4 : (execOp a0_3.eval { dst := some 60, op := Op.call { callee := Callee.builtin Builtin.len, args := #[Operand.tmp 59], argTypes := #[23] }, type := 3, pos := "law.go:75", after := #[{ on := 2, ground := Ground.data }], guard := none }).run Try.prog (wr) = .ok (.value (.int .i64 (n : Int))) (wr) := by
    have e59 := (show a0_3.eval (.tmp 59) = .slice (some ⟨gg, 0, none⟩) n pc from (fa0_3.at_ 59))
    clear fa0_3 hQ hQp hj0
    generalize a0_3.eval = ρ at *
    go_simp
  refine fa0_3.step 60 (.int .i64 (n : Int)) rfl (lb_ I0.size) (wanted_none rfl) r_a0_4 (fun a0_4 fa0_4 => ?_)
  clear r_a0_4
  clear fa0_3
  have r_a0_5 : (execOp a0_4.eval { dst := some 61, op := Op.binOp BinOp.lss 3 (Operand.tmp 57) (Operand.tmp 60) 3, type := 4, pos := "law.go:75", after := #[{ on := 0, ground := Ground.data }, { on := 3, ground := Ground.data }], guard := none }).run Try.prog (wr) = .ok (.value (.bool true)) (wr) := by
    have e57 := (show a0_4.eval (.tmp 57) = .int .i64 (j : Int) from (fa0_4.at_ 57))
    have e60 := (show a0_4.eval (.tmp 60) = .int .i64 (n : Int) from (fa0_4.at_ 60))
    clear fa0_4 hQ hQp hj0
    generalize a0_4.eval = ρ at *
    go_simp
  refine fa0_4.step 61 (.bool true) rfl (lb_ I0.size) (wanted_none rfl) r_a0_5 (fun a0_5 fa0_5 => ?_)
  clear r_a0_5
  clear fa0_4
  refine wpList_nil ?_
  change Code.wp _ _ _ _ _
  refine wp_cond_true (show a0_5.eval (.tmp 61) = .bool true from (fa0_5.at_ 61)) (wp_skip ?_)
  change Code.wp _ _ _ _ _
  refine wp_seq (wp_block (wp_seq ?_))
  refine wp_region_held_drew (ops := rMK9) (S := fun Z => Z.cell? ⟨b, 1, none⟩ = some (.slice (some ⟨gg, 0, none⟩) n pc) ∧ Z.cell? ⟨gg, j, none⟩ = some (.string X)) (by kernel_rfl) (⟨c0, c1⟩) (fun hS5 => ?_)
  refine fa0_5.takeMove 0 64 (.int .i64 (j : Int)) _ (Or.inl rfl) rfl (by kernel_rfl) (by kernel_rfl) (by kernel_rfl) (fun c a w h => hQp c a _ _ w h) rfl (lb_ I0.size) (wanted_none rfl) ((fa0_5.at_ 12).trans hj0) hS5 (fun a0_6 fa0_6 => ?_)
  clear fa0_5
  refine fa0_6.takeMove 1 65 (.int .i64 (n2 : Int)) _ (Or.inl rfl) rfl (by kernel_rfl) (by kernel_rfl) (by kernel_rfl) (fun c a w h => hQp c a _ _ w h) rfl (lb_ I0.size) (wanted_none rfl) ((fa0_6.at_ 2).trans I0.s2) hS5 (fun a0_7 fa0_7 => ?_)
  clear fa0_6
  have r_a0_8 : ∀ Z, (fun Z => Z.cell? ⟨b, 1, none⟩ = some (.slice (some ⟨gg, 0, none⟩) n pc) ∧ Z.cell? ⟨gg, j, none⟩ = some (.string X)) Z → (execOp a0_7.eval { dst := some 66, op := Op.binOp BinOp.lss 3 (Operand.tmp 64) (Operand.tmp 65) 3, type := 4, pos := "law.go:76", after := #[{ on := 0, ground := Ground.data }, { on := 1, ground := Ground.data }], guard := none }).run Try.prog Z = .ok (.value (.bool true)) Z := fun Z hZ => by
    have e64 := (show a0_7.eval (.tmp 64) = .int .i64 (j : Int) from (fa0_7.at_ 64))
    have e65 := (show a0_7.eval (.tmp 65) = .int .i64 (n2 : Int) from (fa0_7.at_ 65))
    clear fa0_7 hQ hQp hj0
    generalize a0_7.eval = ρ at *
    go_simp
  refine fa0_7.take 2 66 (.bool true) rfl (by kernel_rfl) (by kernel_rfl) (by kernel_rfl) (fun c a w h => hQp c a _ _ w h) rfl (lb_ I0.size) (wanted_none rfl) r_a0_8 hS5 (fun a0_8 fa0_8 => ?_)
  clear r_a0_8
  clear fa0_7
  refine fa0_8.takeMove 3 67 (.bool true) _ (Or.inl rfl) rfl (by kernel_rfl) (by kernel_rfl) (by kernel_rfl) (fun c a w h => hQp c a _ _ w h) rfl (lb_ I0.size) (wanted_none rfl) (fa0_8.at_ 66) hS5 (fun a0_9 fa0_9 => ?_)
  clear fa0_8
  have r_a0_10 : ∀ Z, (fun Z => Z.cell? ⟨b, 1, none⟩ = some (.slice (some ⟨gg, 0, none⟩) n pc) ∧ Z.cell? ⟨gg, j, none⟩ = some (.string X)) Z → (execOp a0_9.eval { dst := some 68, op := Op.fieldAddr 26 (Operand.tmp 5) 1, type := 0, pos := "law.go:76", after := #[{ on := 3, ground := Ground.guard }], guard := some (3, true) }).run Try.prog Z = .ok (.value (.pointer (some ⟨b, 1, none⟩))) Z := fun Z hZ => by
    have e5 := (show a0_9.eval (.tmp 5) = .pointer (some ⟨b, 0, none⟩) from ((fa0_9.at_ 5).trans I0.s5))
    clear fa0_9 hQ hQp hj0
    generalize a0_9.eval = ρ at *
    go_simp
  refine fa0_9.take 4 68 (.pointer (some ⟨b, 1, none⟩)) rfl (by kernel_rfl) (by kernel_rfl) (by kernel_rfl) (fun c a w h => hQp c a _ _ w h) rfl (lb_ I0.size) ((wanted_at (t := 67) (c := true) (b := true) rfl rfl rfl (lb_ (fa0_9.size.trans I0.size)) (fa0_9.at_ 67)).trans (by rfl)) r_a0_10 hS5 (fun a0_10 fa0_10 => ?_)
  clear r_a0_10
  clear fa0_9
  have r_a0_11 : ∀ Z, (fun Z => Z.cell? ⟨b, 1, none⟩ = some (.slice (some ⟨gg, 0, none⟩) n pc) ∧ Z.cell? ⟨gg, j, none⟩ = some (.string X)) Z → (execOp a0_10.eval { dst := some 69, op := Op.load 23 (Operand.tmp 68), type := 23, pos := "law.go:76", after := #[{ on := 4, ground := Ground.data }, { on := 3, ground := Ground.guard }], guard := some (3, true) }).run Try.prog Z = .ok (.value (.slice (some ⟨gg, 0, none⟩) n pc)) Z := fun Z hZ => by
    obtain ⟨z0, z1⟩ := hZ
    have e68 := (show a0_10.eval (.tmp 68) = .pointer (some ⟨b, 1, none⟩) from (fa0_10.at_ 68))
    clear fa0_10 hQ hQp hj0
    generalize a0_10.eval = ρ at *
    go_simp
  refine fa0_10.take 5 69 (.slice (some ⟨gg, 0, none⟩) n pc) rfl (by kernel_rfl) (by kernel_rfl) (by kernel_rfl) (fun c a w h => hQp c a _ _ w h) rfl (lb_ I0.size) ((wanted_at (t := 67) (c := true) (b := true) rfl rfl rfl (lb_ (fa0_10.size.trans I0.size)) (fa0_10.at_ 67)).trans (by rfl)) r_a0_11 hS5 (fun a0_11 fa0_11 => ?_)
  clear r_a0_11
  clear fa0_10
  refine fa0_11.takeMove 6 70 (.int .i64 (j : Int)) _ (Or.inl rfl) rfl (by kernel_rfl) (by kernel_rfl) (by kernel_rfl) (fun c a w h => hQp c a _ _ w h) rfl (lb_ I0.size) ((wanted_at (t := 67) (c := true) (b := true) rfl rfl rfl (lb_ (fa0_11.size.trans I0.size)) (fa0_11.at_ 67)).trans (by rfl)) ((fa0_11.at_ 12).trans hj0) hS5 (fun a0_12 fa0_12 => ?_)
  clear fa0_11
  have r_a0_13 : ∀ Z, (fun Z => Z.cell? ⟨b, 1, none⟩ = some (.slice (some ⟨gg, 0, none⟩) n pc) ∧ Z.cell? ⟨gg, j, none⟩ = some (.string X)) Z → (execOp a0_12.eval { dst := some 71, op := Op.indexAddr 23 (Operand.tmp 69) (Operand.tmp 70), type := 0, pos := "law.go:76", after := #[{ on := 5, ground := Ground.data }, { on := 6, ground := Ground.data }, { on := 3, ground := Ground.guard }], guard := some (3, true) }).run Try.prog Z = .ok (.value (.pointer (some ⟨gg, j, none⟩))) Z := fun Z hZ => by
    have e69 := (show a0_12.eval (.tmp 69) = .slice (some ⟨gg, 0, none⟩) n pc from (fa0_12.at_ 69))
    have e70 := (show a0_12.eval (.tmp 70) = .int .i64 (j : Int) from (fa0_12.at_ 70))
    clear fa0_12 hQ hQp hj0
    generalize a0_12.eval = ρ at *
    go_simp
  refine fa0_12.take 7 71 (.pointer (some ⟨gg, j, none⟩)) rfl (by kernel_rfl) (by kernel_rfl) (by kernel_rfl) (fun c a w h => hQp c a _ _ w h) rfl (lb_ I0.size) ((wanted_at (t := 67) (c := true) (b := true) rfl rfl rfl (lb_ (fa0_12.size.trans I0.size)) (fa0_12.at_ 67)).trans (by rfl)) r_a0_13 hS5 (fun a0_13 fa0_13 => ?_)
  clear r_a0_13
  clear fa0_12
  have r_a0_14 : ∀ Z, (fun Z => Z.cell? ⟨b, 1, none⟩ = some (.slice (some ⟨gg, 0, none⟩) n pc) ∧ Z.cell? ⟨gg, j, none⟩ = some (.string X)) Z → (execOp a0_13.eval { dst := some 72, op := Op.load 9 (Operand.tmp 71), type := 9, pos := "law.go:76", after := #[{ on := 7, ground := Ground.data }, { on := 3, ground := Ground.guard }], guard := some (3, true) }).run Try.prog Z = .ok (.value (.string X)) Z := fun Z hZ => by
    obtain ⟨z0, z1⟩ := hZ
    have e71 := (show a0_13.eval (.tmp 71) = .pointer (some ⟨gg, j, none⟩) from (fa0_13.at_ 71))
    clear fa0_13 hQ hQp hj0
    generalize a0_13.eval = ρ at *
    go_simp
  refine fa0_13.take 8 72 (.string X) rfl (by kernel_rfl) (by kernel_rfl) (by kernel_rfl) (fun c a w h => hQp c a _ _ w h) rfl (lb_ I0.size) ((wanted_at (t := 67) (c := true) (b := true) rfl rfl rfl (lb_ (fa0_13.size.trans I0.size)) (fa0_13.at_ 67)).trans (by rfl)) r_a0_14 hS5 (fun a0_14 fa0_14 => ?_)
  clear r_a0_14
  clear fa0_13
  refine fa0_14.takeMove 9 73 (.int .u32 (m : Int)) _ (Or.inl rfl) rfl (by kernel_rfl) (by kernel_rfl) (by kernel_rfl) (fun c a w h => hQp c a _ _ w h) rfl (lb_ I0.size) ((wanted_at (t := 67) (c := true) (b := true) rfl rfl rfl (lb_ (fa0_14.size.trans I0.size)) (fa0_14.at_ 67)).trans (by rfl)) ((fa0_14.at_ 4).trans I0.s4) hS5 (fun a0_15 fa0_15 => ?_)
  clear fa0_14
  have r_a0_16 : ∀ Z, (fun Z => Z.cell? ⟨b, 1, none⟩ = some (.slice (some ⟨gg, 0, none⟩) n pc) ∧ Z.cell? ⟨gg, j, none⟩ = some (.string X)) Z → (execOp a0_15.eval { dst := some 74, op := Op.convert 30 5 (Operand.tmp 73), type := 5, pos := "law.go:76", after := #[{ on := 9, ground := Ground.data }, { on := 3, ground := Ground.guard }], guard := some (3, true) }).run Try.prog Z = .ok (.value (.int .u8 (m : Int))) Z := fun Z hZ => by
    have e73 := (show a0_15.eval (.tmp 73) = .int .u32 (m : Int) from (fa0_15.at_ 73))
    clear fa0_15 hQ hQp hj0
    generalize a0_15.eval = ρ at *
    go_simp
  refine fa0_15.take 10 74 (.int .u8 (m : Int)) rfl (by kernel_rfl) (by kernel_rfl) (by kernel_rfl) (fun c a w h => hQp c a _ _ w h) rfl (lb_ I0.size) ((wanted_at (t := 67) (c := true) (b := true) rfl rfl rfl (lb_ (fa0_15.size.trans I0.size)) (fa0_15.at_ 67)).trans (by rfl)) r_a0_16 hS5 (fun a0_16 fa0_16 => ?_)
  clear r_a0_16
  clear fa0_15
  have r_a0_17 : (execOp a0_16.eval { dst := some 75, op := Op.buildSlice 44 1 #[(0, Operand.tmp 74)], type := 44, pos := "law.go:76", after := #[{ on := 10, ground := Ground.data }, { on := 3, ground := Ground.guard }], guard := some (3, true) }).run Try.prog (wr.drew) = .ok (.value (.slice (some ⟨wr.heap.size, 0, none⟩) 1 1)) ((wr.alloc (.cells #[.int .u8 (m : Int)] 5)).drew) := by
    have e74 := (show a0_16.eval (.tmp 74) = .int .u8 (m : Int) from (fa0_16.at_ 74))
    clear fa0_16 hQ hQp hj0
    generalize a0_16.eval = ρ at *
    go_simp
  have hS17 : (fun Z => Z.cell? ⟨b, 1, none⟩ = some (.slice (some ⟨gg, 0, none⟩) n pc) ∧ Z.cell? ⟨gg, j, none⟩ = some (.string X)) ((wr.alloc (.cells #[.int .u8 (m : Int)] 5)).drew) := ⟨sd.keep c0, sd.keep c1⟩
  refine fa0_16.one 11 75 (.slice (some ⟨wr.heap.size, 0, none⟩) 1 1) (by kernel_rfl) rfl rfl (lb_ I0.size) ((wanted_at (t := 67) (c := true) (b := true) rfl rfl rfl (lb_ (fa0_16.size.trans I0.size)) (fa0_16.at_ 67)).trans (by rfl)) r_a0_17 hS17 (fun a0_17 fa0_17 => ?_)
  clear r_a0_17
  clear fa0_16
  have r_a0_18 : (execOp a0_17.eval { dst := some 76, op := Op.convert 44 9 (Operand.tmp 75), type := 9, pos := "law.go:76", after := #[{ on := 11, ground := Ground.data }, { on := 3, ground := Ground.guard }], guard := some (3, true) }).run Try.prog ((wr.alloc (.cells #[.int .u8 (m : Int)] 5)).drew) = .ok (.value (.string C)) ((wr.alloc (.cells #[.int .u8 (m : Int)] 5)).drew) := by
    have e75 := (show a0_17.eval (.tmp 75) = .slice (some ⟨wr.heap.size, 0, none⟩) 1 1 from (fa0_17.at_ 75))
    clear fa0_17 hQ hQp hj0
    generalize a0_17.eval = ρ at *
    go_simp
  have hS18 : (fun Z => Z.cell? ⟨b, 1, none⟩ = some (.slice (some ⟨gg, 0, none⟩) n pc) ∧ Z.cell? ⟨gg, j, none⟩ = some (.string X)) ((wr.alloc (.cells #[.int .u8 (m : Int)] 5)).drew) := ⟨sd.keep c0, sd.keep c1⟩
  refine fa0_17.one 12 76 (.string C) (by kernel_rfl) rfl rfl (lb_ I0.size) ((wanted_at (t := 67) (c := true) (b := true) rfl rfl rfl (lb_ (fa0_17.size.trans I0.size)) (fa0_17.at_ 67)).trans (by rfl)) r_a0_18 hS18 (fun a0_18 fa0_18 => ?_)
  clear r_a0_18
  clear fa0_17
  have r_a0_19 : ∀ Z, (fun Z => Z.cell? ⟨b, 1, none⟩ = some (.slice (some ⟨gg, 0, none⟩) n pc) ∧ Z.cell? ⟨gg, j, none⟩ = some (.string X)) Z → (execOp a0_18.eval { dst := some 77, op := Op.binOp BinOp.add 9 (Operand.const (Value.string { data := #[120] })) (Operand.tmp 76) 9, type := 9, pos := "law.go:76", after := #[{ on := 12, ground := Ground.data }, { on := 3, ground := Ground.guard }], guard := some (3, true) }).run Try.prog Z = .ok (.value (.string X)) Z := fun Z hZ => by
    have kc : ∀ v, a0_18.eval (.const v) = v := fun _ => rfl
    have e76 := (show a0_18.eval (.tmp 76) = .string C from (fa0_18.at_ 76))
    clear fa0_18 hQ hQp hj0
    generalize a0_18.eval = ρ at *
    go_simp
  refine fa0_18.take 13 77 (.string X) rfl (by kernel_rfl) (by kernel_rfl) (by kernel_rfl) (fun c a w h => hQp c a _ _ w h) rfl (lb_ I0.size) ((wanted_at (t := 67) (c := true) (b := true) rfl rfl rfl (lb_ (fa0_18.size.trans I0.size)) (fa0_18.at_ 67)).trans (by rfl)) r_a0_19 hS18 (fun a0_19 fa0_19 => ?_)
  clear r_a0_19
  clear fa0_18
  have r_a0_20 : ∀ Z, (fun Z => Z.cell? ⟨b, 1, none⟩ = some (.slice (some ⟨gg, 0, none⟩) n pc) ∧ Z.cell? ⟨gg, j, none⟩ = some (.string X)) Z → (execOp a0_19.eval { dst := some 78, op := Op.binOp BinOp.neq 9 (Operand.tmp 72) (Operand.tmp 77) 9, type := 4, pos := "law.go:76", after := #[{ on := 8, ground := Ground.data }, { on := 13, ground := Ground.data }, { on := 3, ground := Ground.guard }], guard := some (3, true) }).run Try.prog Z = .ok (.value (.bool false)) Z := fun Z hZ => by
    have e72 := (show a0_19.eval (.tmp 72) = .string X from (fa0_19.at_ 72))
    have e77 := (show a0_19.eval (.tmp 77) = .string X from (fa0_19.at_ 77))
    clear fa0_19 hQ hQp hj0
    generalize a0_19.eval = ρ at *
    go_simp
  refine fa0_19.take 14 78 (.bool false) rfl (by kernel_rfl) (by kernel_rfl) (by kernel_rfl) (fun c a w h => hQp c a _ _ w h) rfl (lb_ I0.size) ((wanted_at (t := 67) (c := true) (b := true) rfl rfl rfl (lb_ (fa0_19.size.trans I0.size)) (fa0_19.at_ 67)).trans (by rfl)) r_a0_20 hS18 (fun a0_20 fa0_20 => ?_)
  clear r_a0_20
  clear fa0_19
  have r_a0_21 : ∀ Z, (fun Z => Z.cell? ⟨b, 1, none⟩ = some (.slice (some ⟨gg, 0, none⟩) n pc) ∧ Z.cell? ⟨gg, j, none⟩ = some (.string X)) Z → (execOp a0_20.eval { dst := some 79, op := Op.pick (Operand.tmp 67) (Operand.tmp 78) (Operand.const (Value.bool false)), type := 4, pos := "law.go:76", after := #[{ on := 3, ground := Ground.data }, { on := 14, ground := Ground.data }], guard := none }).run Try.prog Z = .ok (.value (.bool false)) Z := fun Z hZ => by
    have kc : ∀ v, a0_20.eval (.const v) = v := fun _ => rfl
    have e67 := (show a0_20.eval (.tmp 67) = .bool true from (fa0_20.at_ 67))
    have e78 := (show a0_20.eval (.tmp 78) = .bool false from (fa0_20.at_ 78))
    clear fa0_20 hQ hQp hj0
    generalize a0_20.eval = ρ at *
    go_simp
  refine fa0_20.take 15 79 (.bool false) rfl (by kernel_rfl) (by kernel_rfl) (by kernel_rfl) (fun c a w h => hQp c a _ _ w h) rfl (lb_ I0.size) (wanted_none rfl) r_a0_21 hS18 (fun a0_21 fa0_21 => ?_)
  clear r_a0_21
  clear fa0_20
  refine fa0_21.takeMove 16 80 (.bool false) _ (Or.inl rfl) rfl (by kernel_rfl) (by kernel_rfl) (by kernel_rfl) (fun c a w h => hQp c a _ _ w h) rfl (lb_ I0.size) (wanted_none rfl) (fa0_21.at_ 79) hS18 (fun a0_22 fa0_22 => ?_)
  clear fa0_21
  refine fa0_22.takeMove 17 81 (.int .i64 (j : Int)) _ (Or.inl rfl) rfl (by kernel_rfl) (by kernel_rfl) (by kernel_rfl) (fun c a w h => hQp c a _ _ w h) rfl (lb_ I0.size) ((wanted_at (t := 80) (c := false) (b := false) rfl rfl rfl (lb_ (fa0_22.size.trans I0.size)) (fa0_22.at_ 80)).trans (by rfl)) ((fa0_22.at_ 12).trans hj0) hS18 (fun a0_23 fa0_23 => ?_)
  clear fa0_22
  refine fa0_23.takeMove 18 82 (.int .i64 (n2 : Int)) _ (Or.inl rfl) rfl (by kernel_rfl) (by kernel_rfl) (by kernel_rfl) (fun c a w h => hQp c a _ _ w h) rfl (lb_ I0.size) ((wanted_at (t := 80) (c := false) (b := false) rfl rfl rfl (lb_ (fa0_23.size.trans I0.size)) (fa0_23.at_ 80)).trans (by rfl)) ((fa0_23.at_ 2).trans I0.s2) hS18 (fun a0_24 fa0_24 => ?_)
  clear fa0_23
  have r_a0_25 : ∀ Z, (fun Z => Z.cell? ⟨b, 1, none⟩ = some (.slice (some ⟨gg, 0, none⟩) n pc) ∧ Z.cell? ⟨gg, j, none⟩ = some (.string X)) Z → (execOp a0_24.eval { dst := some 83, op := Op.binOp BinOp.geq 3 (Operand.tmp 81) (Operand.tmp 82) 3, type := 4, pos := "law.go:76", after := #[{ on := 17, ground := Ground.data }, { on := 18, ground := Ground.data }, { on := 16, ground := Ground.guard }], guard := some (16, false) }).run Try.prog Z = .ok (.value (.bool false)) Z := fun Z hZ => by
    have e81 := (show a0_24.eval (.tmp 81) = .int .i64 (j : Int) from (fa0_24.at_ 81))
    have e82 := (show a0_24.eval (.tmp 82) = .int .i64 (n2 : Int) from (fa0_24.at_ 82))
    clear fa0_24 hQ hQp hj0
    generalize a0_24.eval = ρ at *
    go_simp
  refine fa0_24.take 19 83 (.bool false) rfl (by kernel_rfl) (by kernel_rfl) (by kernel_rfl) (fun c a w h => hQp c a _ _ w h) rfl (lb_ I0.size) ((wanted_at (t := 80) (c := false) (b := false) rfl rfl rfl (lb_ (fa0_24.size.trans I0.size)) (fa0_24.at_ 80)).trans (by rfl)) r_a0_25 hS18 (fun a0_25 fa0_25 => ?_)
  clear r_a0_25
  clear fa0_24
  refine fa0_25.takeMove 20 84 (.bool false) _ (Or.inl rfl) rfl (by kernel_rfl) (by kernel_rfl) (by kernel_rfl) (fun c a w h => hQp c a _ _ w h) rfl (lb_ I0.size) ((wanted_at (t := 80) (c := false) (b := false) rfl rfl rfl (lb_ (fa0_25.size.trans I0.size)) (fa0_25.at_ 80)).trans (by rfl)) (fa0_25.at_ 83) hS18 (fun a0_26 fa0_26 => ?_)
  clear fa0_25
  refine fa0_26.takeOff 21 85 rfl (by kernel_rfl) (by kernel_rfl) (by kernel_rfl) (fun c a w h => hQp c a _ _ w h) rfl (lb_ I0.size) ((wanted_at (t := 84) (c := false) (b := true) rfl rfl rfl (lb_ (fa0_26.size.trans I0.size)) (fa0_26.at_ 84)).trans (by rfl)) hS18 (fun a0_27 fa0_27 => ?_)
  clear fa0_26
  refine fa0_27.takeOff 22 86 rfl (by kernel_rfl) (by kernel_rfl) (by kernel_rfl) (fun c a w h => hQp c a _ _ w h) rfl (lb_ I0.size) ((wanted_at (t := 84) (c := false) (b := true) rfl rfl rfl (lb_ (fa0_27.size.trans I0.size)) (fa0_27.at_ 84)).trans (by rfl)) hS18 (fun a0_28 fa0_28 => ?_)
  clear fa0_27
  refine fa0_28.takeOff 23 87 rfl (by kernel_rfl) (by kernel_rfl) (by kernel_rfl) (fun c a w h => hQp c a _ _ w h) rfl (lb_ I0.size) ((wanted_at (t := 84) (c := false) (b := true) rfl rfl rfl (lb_ (fa0_28.size.trans I0.size)) (fa0_28.at_ 84)).trans (by rfl)) hS18 (fun a0_29 fa0_29 => ?_)
  clear fa0_28
  refine fa0_29.takeOff 24 88 rfl (by kernel_rfl) (by kernel_rfl) (by kernel_rfl) (fun c a w h => hQp c a _ _ w h) rfl (lb_ I0.size) ((wanted_at (t := 84) (c := false) (b := true) rfl rfl rfl (lb_ (fa0_29.size.trans I0.size)) (fa0_29.at_ 84)).trans (by rfl)) hS18 (fun a0_30 fa0_30 => ?_)
  clear fa0_29
  refine fa0_30.takeOff 25 89 rfl (by kernel_rfl) (by kernel_rfl) (by kernel_rfl) (fun c a w h => hQp c a _ _ w h) rfl (lb_ I0.size) ((wanted_at (t := 84) (c := false) (b := true) rfl rfl rfl (lb_ (fa0_30.size.trans I0.size)) (fa0_30.at_ 84)).trans (by rfl)) hS18 (fun a0_31 fa0_31 => ?_)
  clear fa0_30
  refine fa0_31.takeOff 26 90 rfl (by kernel_rfl) (by kernel_rfl) (by kernel_rfl) (fun c a w h => hQp c a _ _ w h) rfl (lb_ I0.size) ((wanted_at (t := 84) (c := false) (b := true) rfl rfl rfl (lb_ (fa0_31.size.trans I0.size)) (fa0_31.at_ 84)).trans (by rfl)) hS18 (fun a0_32 fa0_32 => ?_)
  clear fa0_31
  refine fa0_32.takeOff 27 91 rfl (by kernel_rfl) (by kernel_rfl) (by kernel_rfl) (fun c a w h => hQp c a _ _ w h) rfl (lb_ I0.size) ((wanted_at (t := 84) (c := false) (b := true) rfl rfl rfl (lb_ (fa0_32.size.trans I0.size)) (fa0_32.at_ 84)).trans (by rfl)) hS18 (fun a0_33 fa0_33 => ?_)
  clear fa0_32
  refine fa0_33.takeOff 28 92 rfl (by kernel_rfl) (by kernel_rfl) (by kernel_rfl) (fun c a w h => hQp c a _ _ w h) rfl (lb_ I0.size) ((wanted_at (t := 84) (c := false) (b := true) rfl rfl rfl (lb_ (fa0_33.size.trans I0.size)) (fa0_33.at_ 84)).trans (by rfl)) hS18 (fun a0_34 fa0_34 => ?_)
  clear fa0_33
  refine fa0_34.takeOff 29 93 rfl (by kernel_rfl) (by kernel_rfl) (by kernel_rfl) (fun c a w h => hQp c a _ _ w h) rfl (lb_ I0.size) ((wanted_at (t := 84) (c := false) (b := true) rfl rfl rfl (lb_ (fa0_34.size.trans I0.size)) (fa0_34.at_ 84)).trans (by rfl)) hS18 (fun a0_35 fa0_35 => ?_)
  clear fa0_34
  refine fa0_35.takeOff 30 94 rfl (by kernel_rfl) (by kernel_rfl) (by kernel_rfl) (fun c a w h => hQp c a _ _ w h) rfl (lb_ I0.size) ((wanted_at (t := 84) (c := false) (b := true) rfl rfl rfl (lb_ (fa0_35.size.trans I0.size)) (fa0_35.at_ 84)).trans (by rfl)) hS18 (fun a0_36 fa0_36 => ?_)
  clear fa0_35
  refine fa0_36.takeOff 31 95 rfl (by kernel_rfl) (by kernel_rfl) (by kernel_rfl) (fun c a w h => hQp c a _ _ w h) rfl (lb_ I0.size) ((wanted_at (t := 84) (c := false) (b := true) rfl rfl rfl (lb_ (fa0_36.size.trans I0.size)) (fa0_36.at_ 84)).trans (by rfl)) hS18 (fun a0_37 fa0_37 => ?_)
  clear fa0_36
  have r_a0_38 : ∀ Z, (fun Z => Z.cell? ⟨b, 1, none⟩ = some (.slice (some ⟨gg, 0, none⟩) n pc) ∧ Z.cell? ⟨gg, j, none⟩ = some (.string X)) Z → (execOp a0_37.eval { dst := some 96, op := Op.pick (Operand.tmp 84) (Operand.tmp 95) (Operand.const (Value.bool false)), type := 4, pos := "law.go:76", after := #[{ on := 20, ground := Ground.data }, { on := 31, ground := Ground.data }, { on := 16, ground := Ground.guard }], guard := some (16, false) }).run Try.prog Z = .ok (.value (.bool false)) Z := fun Z hZ => by
    have kc : ∀ v, a0_37.eval (.const v) = v := fun _ => rfl
    have e84 := (show a0_37.eval (.tmp 84) = .bool false from (fa0_37.at_ 84))
    have e95 := (show a0_37.eval (.tmp 95) = undef from (fa0_37.at_ 95))
    clear fa0_37 hQ hQp hj0
    generalize a0_37.eval = ρ at *
    go_simp
  refine fa0_37.take 32 96 (.bool false) rfl (by kernel_rfl) (by kernel_rfl) (by kernel_rfl) (fun c a w h => hQp c a _ _ w h) rfl (lb_ I0.size) ((wanted_at (t := 80) (c := false) (b := false) rfl rfl rfl (lb_ (fa0_37.size.trans I0.size)) (fa0_37.at_ 80)).trans (by rfl)) r_a0_38 hS18 (fun a0_38 fa0_38 => ?_)
  clear r_a0_38
  clear fa0_37
  have r_a0_39 : ∀ Z, (fun Z => Z.cell? ⟨b, 1, none⟩ = some (.slice (some ⟨gg, 0, none⟩) n pc) ∧ Z.cell? ⟨gg, j, none⟩ = some (.string X)) Z → (execOp a0_38.eval { dst := some 97, op := Op.pick (Operand.tmp 80) (Operand.const (Value.bool true)) (Operand.tmp 96), type := 4, pos := "law.go:76", after := #[{ on := 16, ground := Ground.data }, { on := 32, ground := Ground.data }], guard := none }).run Try.prog Z = .ok (.value (.bool false)) Z := fun Z hZ => by
    have kc : ∀ v, a0_38.eval (.const v) = v := fun _ => rfl
    have e80 := (show a0_38.eval (.tmp 80) = .bool false from (fa0_38.at_ 80))
    have e96 := (show a0_38.eval (.tmp 96) = .bool false from (fa0_38.at_ 96))
    clear fa0_38 hQ hQp hj0
    generalize a0_38.eval = ρ at *
    go_simp
  refine fa0_38.take 33 97 (.bool false) rfl (by kernel_rfl) (by kernel_rfl) (by kernel_rfl) (fun c a w h => hQp c a _ _ w h) rfl (lb_ I0.size) (wanted_none rfl) r_a0_39 hS18 (fun a0_39 fa0_39 => ?_)
  clear r_a0_39
  clear fa0_38
  refine wpAnyH_done (by kernel_rfl) ?_ _
  change Code.wp _ _ _ _ _
  refine wp_cond_false (show a0_39.eval (.tmp 97) = .bool false from (fa0_39.at_ 97)) (wp_skip ?_)
  change Code.wp _ _ _ _ _
  refine wp_region_list ?_
  unfold rMK8
  refine fa0_39.move 62 (.int .i64 (j : Int)) _ (Or.inl rfl) rfl (lb_ I0.size) (wanted_none rfl) ((fa0_39.at_ 12).trans hj0) (fun a0_40 fa0_40 => ?_)
  clear fa0_39
  have r_a0_41 : (execOp a0_40.eval { dst := some 63, op := Op.binOp BinOp.add 3 (Operand.tmp 62) (Operand.const (Value.int IntKind.i64 1)) 3, type := 3, pos := "law.go:75", after := #[{ on := 0, ground := Ground.data }], guard := none }).run Try.prog ((wr.alloc (.cells #[.int .u8 (m : Int)] 5)).drew) = .ok (.value (.int .i64 ((j : Int) + 1))) ((wr.alloc (.cells #[.int .u8 (m : Int)] 5)).drew) := by
    have kc : ∀ v, a0_40.eval (.const v) = v := fun _ => rfl
    have e62 := (show a0_40.eval (.tmp 62) = .int .i64 (j : Int) from (fa0_40.at_ 62))
    clear fa0_40 hQ hQp hj0
    generalize a0_40.eval = ρ at *
    go_simp
  refine fa0_40.step 63 (.int .i64 ((j : Int) + 1)) rfl (lb_ I0.size) (wanted_none rfl) r_a0_41 (fun a0_41 fa0_41 => ?_)
  clear r_a0_41
  clear fa0_40
  refine fa0_41.move 12 (.int .i64 ((j : Int) + 1)) _ (Or.inr rfl) rfl (lb_ I0.size) (wanted_none rfl) (fa0_41.at_ 63) (fun a0_42 fa0_42 => ?_)
  clear fa0_41
  refine wpList_nil ?_
  exact hQ a0_42 (I0.keep fa0_42 rfl rfl rfl rfl rfl) (show a0_42.eval (.tmp 12) = .int .i64 ((j : Int) + 1) from (fa0_42.at_ 12))
set_option maxRecDepth 100000 in
set_option maxHeartbeats 1000000 in
theorem mSY {b n1 n2 n3 m n j gg pc : Nat} {C X : ByteArray} {Q : Exit → Act → World → Prop} (hQp : ∀ c (a : Act) d v w, Q (.panic c) (a.put d v) w → Q (.panic c) a w) (a0 : Act) (wr : World) (I0 : IM b n1 n2 n3 m a0) (hj0 : a0.eval (.tmp 12) = .int .i64 (j : Int)) (hm : m < 100) (hj : j < n) (hn : n ≤ 1048800) (hx : n2 ≤ j)
    (c0 : wr.cell? ⟨b, 1, none⟩ = some (.slice (some ⟨gg, 0, none⟩) n pc)) (c1 : wr.cell? ⟨gg, j, none⟩ = some (.string X))
    (hc : (convert 44 9 (.slice (some ⟨wr.heap.size, 0, none⟩) 1 1)).run Try.prog ((wr.alloc (.cells #[.int .u8 (m : Int)] 5)).drew) = .ok (.string C) ((wr.alloc (.cells #[.int .u8 (m : Int)] 5)).drew)) (hC : C.size = 1) (hX : X = (⟨#[121]⟩ : ByteArray) ++ C)
    (hQ : ∀ a', IM b n1 n2 n3 m a' → a'.eval (.tmp 12) = .int .i64 ((j : Int) + 1) → Q .normal a' ((wr.alloc (.cells #[.int .u8 (m : Int)] 5)).drew)) : cMS.wp Try.prog Q a0 wr := by
  have hji : (j : Int) < (n : Int) := by omega
  have w7 : IntKind.i64.wrap ((j : Int) + 1) = (j : Int) + 1 := by rw [IntKind.wrap_i64]; omega
  have w8 : IntKind.u8.wrap (m : Int) = (m : Int) := by rw [IntKind.wrap_u8]; omega
  have w9 : IntKind.u32.wrap ((m : Int) + 100) = (m : Int) + 100 := by rw [IntKind.wrap_u32]; omega
  have hxi : (n2 : Int) ≤ (j : Int) := by omega
  have hxd : decide ((j : Int) < (n2 : Int)) = false := decide_eq_false (by omega)
  have hadd := fun W => run_string_add_sum (P := Try.prog) W (⟨#[121]⟩ : ByteArray) C (by have : (⟨#[121]⟩ : ByteArray).size = 1 := rfl; omega)
  rw [← hX] at hadd
  have sd : Same wr ((wr.alloc (.cells #[.int .u8 (m : Int)] 5)).drew) := ((Fr.refl _ wr).alloc _).drew
  clear hX hC
  clear hj hn hm
  have fa0_0 := Fe.refl a0
  unfold cMS
  refine wp_seq (wp_seq ?_)
  refine wp_region_list ?_
  unfold rMK7
  refine fa0_0.move 57 (.int .i64 (j : Int)) _ (Or.inl rfl) rfl (lb_ I0.size) (wanted_none rfl) ((fa0_0.at_ 12).trans hj0) (fun a0_1 fa0_1 => ?_)
  clear fa0_0
  have r_a0_2 : (execOp a0_1.eval { dst := some 58, op := Op.fieldAddr 26 (Operand.tmp 5) 1, type := 0, pos := "law.go:75", after := #[], guard := none }).run Try.prog (wr) = .ok (.value (.pointer (some ⟨b, 1, none⟩))) (wr) := by
    have e5 := (show a0_1.eval (.tmp 5) = .pointer (some ⟨b, 0, none⟩) from ((fa0_1.at_ 5).trans I0.s5))
    clear fa0_1 hQ hQp hj0
    generalize a0_1.eval = ρ at *
    go_simp
  refine fa0_1.step 58 (.pointer (some ⟨b, 1, none⟩)) rfl (lb_ I0.size) (wanted_none rfl) r_a0_2 (fun a0_2 fa0_2 => ?_)
  clear r_a0_2
  clear fa0_1
  have r_a0_3 : (execOp a0_2.eval { dst := some 59, op := Op.load 23 (Operand.tmp 58), type := 23, pos := "law.go:75", after := #[{ on := 1, ground := Ground.data }], guard := none }).run Try.prog (wr) = .ok (.value (.slice (some ⟨gg, 0, none⟩) n pc)) (wr) := by
    have e58 := (show a0_2.eval (.tmp 58) = .pointer (some ⟨b, 1, none⟩) from (fa0_2.at_ 58))
    clear fa0_2 hQ hQp hj0
    generalize a0_2.eval = ρ at *
    go_simp
  refine fa0_2.step 59 (.slice (some ⟨gg, 0, none⟩) n pc) rfl (lb_ I0.size) (wanted_none rfl) r_a0_3 (fun a0_3 fa0_3 => ?_)
  clear r_a0_3
  clear fa0_2
  have r_a0_4 : (execOp a0_3.eval { dst := some 60, op := Op.call { callee := Callee.builtin Builtin.len, args := #[Operand.tmp 59], argTypes := #[23] }, type := 3, pos := "law.go:75", after := #[{ on := 2, ground := Ground.data }], guard := none }).run Try.prog (wr) = .ok (.value (.int .i64 (n : Int))) (wr) := by
    have e59 := (show a0_3.eval (.tmp 59) = .slice (some ⟨gg, 0, none⟩) n pc from (fa0_3.at_ 59))
    clear fa0_3 hQ hQp hj0
    generalize a0_3.eval = ρ at *
    go_simp
  refine fa0_3.step 60 (.int .i64 (n : Int)) rfl (lb_ I0.size) (wanted_none rfl) r_a0_4 (fun a0_4 fa0_4 => ?_)
  clear r_a0_4
  clear fa0_3
  have r_a0_5 : (execOp a0_4.eval { dst := some 61, op := Op.binOp BinOp.lss 3 (Operand.tmp 57) (Operand.tmp 60) 3, type := 4, pos := "law.go:75", after := #[{ on := 0, ground := Ground.data }, { on := 3, ground := Ground.data }], guard := none }).run Try.prog (wr) = .ok (.value (.bool true)) (wr) := by
    have e57 := (show a0_4.eval (.tmp 57) = .int .i64 (j : Int) from (fa0_4.at_ 57))
    have e60 := (show a0_4.eval (.tmp 60) = .int .i64 (n : Int) from (fa0_4.at_ 60))
    clear fa0_4 hQ hQp hj0
    generalize a0_4.eval = ρ at *
    go_simp
  refine fa0_4.step 61 (.bool true) rfl (lb_ I0.size) (wanted_none rfl) r_a0_5 (fun a0_5 fa0_5 => ?_)
  clear r_a0_5
  clear fa0_4
  refine wpList_nil ?_
  change Code.wp _ _ _ _ _
  refine wp_cond_true (show a0_5.eval (.tmp 61) = .bool true from (fa0_5.at_ 61)) (wp_skip ?_)
  change Code.wp _ _ _ _ _
  refine wp_seq (wp_block (wp_seq ?_))
  refine wp_region_held_drew (ops := rMK9) (S := fun Z => Z.cell? ⟨b, 1, none⟩ = some (.slice (some ⟨gg, 0, none⟩) n pc) ∧ Z.cell? ⟨gg, j, none⟩ = some (.string X)) (by kernel_rfl) (⟨c0, c1⟩) (fun hS5 => ?_)
  refine fa0_5.takeMove 0 64 (.int .i64 (j : Int)) _ (Or.inl rfl) rfl (by kernel_rfl) (by kernel_rfl) (by kernel_rfl) (fun c a w h => hQp c a _ _ w h) rfl (lb_ I0.size) (wanted_none rfl) ((fa0_5.at_ 12).trans hj0) hS5 (fun a0_6 fa0_6 => ?_)
  clear fa0_5
  refine fa0_6.takeMove 1 65 (.int .i64 (n2 : Int)) _ (Or.inl rfl) rfl (by kernel_rfl) (by kernel_rfl) (by kernel_rfl) (fun c a w h => hQp c a _ _ w h) rfl (lb_ I0.size) (wanted_none rfl) ((fa0_6.at_ 2).trans I0.s2) hS5 (fun a0_7 fa0_7 => ?_)
  clear fa0_6
  have r_a0_8 : ∀ Z, (fun Z => Z.cell? ⟨b, 1, none⟩ = some (.slice (some ⟨gg, 0, none⟩) n pc) ∧ Z.cell? ⟨gg, j, none⟩ = some (.string X)) Z → (execOp a0_7.eval { dst := some 66, op := Op.binOp BinOp.lss 3 (Operand.tmp 64) (Operand.tmp 65) 3, type := 4, pos := "law.go:76", after := #[{ on := 0, ground := Ground.data }, { on := 1, ground := Ground.data }], guard := none }).run Try.prog Z = .ok (.value (.bool false)) Z := fun Z hZ => by
    have e64 := (show a0_7.eval (.tmp 64) = .int .i64 (j : Int) from (fa0_7.at_ 64))
    have e65 := (show a0_7.eval (.tmp 65) = .int .i64 (n2 : Int) from (fa0_7.at_ 65))
    clear fa0_7 hQ hQp hj0
    generalize a0_7.eval = ρ at *
    go_simp
  refine fa0_7.take 2 66 (.bool false) rfl (by kernel_rfl) (by kernel_rfl) (by kernel_rfl) (fun c a w h => hQp c a _ _ w h) rfl (lb_ I0.size) (wanted_none rfl) r_a0_8 hS5 (fun a0_8 fa0_8 => ?_)
  clear r_a0_8
  clear fa0_7
  refine fa0_8.takeMove 3 67 (.bool false) _ (Or.inl rfl) rfl (by kernel_rfl) (by kernel_rfl) (by kernel_rfl) (fun c a w h => hQp c a _ _ w h) rfl (lb_ I0.size) (wanted_none rfl) (fa0_8.at_ 66) hS5 (fun a0_9 fa0_9 => ?_)
  clear fa0_8
  refine fa0_9.takeOff 4 68 rfl (by kernel_rfl) (by kernel_rfl) (by kernel_rfl) (fun c a w h => hQp c a _ _ w h) rfl (lb_ I0.size) ((wanted_at (t := 67) (c := false) (b := true) rfl rfl rfl (lb_ (fa0_9.size.trans I0.size)) (fa0_9.at_ 67)).trans (by rfl)) hS5 (fun a0_10 fa0_10 => ?_)
  clear fa0_9
  refine fa0_10.takeOff 5 69 rfl (by kernel_rfl) (by kernel_rfl) (by kernel_rfl) (fun c a w h => hQp c a _ _ w h) rfl (lb_ I0.size) ((wanted_at (t := 67) (c := false) (b := true) rfl rfl rfl (lb_ (fa0_10.size.trans I0.size)) (fa0_10.at_ 67)).trans (by rfl)) hS5 (fun a0_11 fa0_11 => ?_)
  clear fa0_10
  refine fa0_11.takeOff 6 70 rfl (by kernel_rfl) (by kernel_rfl) (by kernel_rfl) (fun c a w h => hQp c a _ _ w h) rfl (lb_ I0.size) ((wanted_at (t := 67) (c := false) (b := true) rfl rfl rfl (lb_ (fa0_11.size.trans I0.size)) (fa0_11.at_ 67)).trans (by rfl)) hS5 (fun a0_12 fa0_12 => ?_)
  clear fa0_11
  refine fa0_12.takeOff 7 71 rfl (by kernel_rfl) (by kernel_rfl) (by kernel_rfl) (fun c a w h => hQp c a _ _ w h) rfl (lb_ I0.size) ((wanted_at (t := 67) (c := false) (b := true) rfl rfl rfl (lb_ (fa0_12.size.trans I0.size)) (fa0_12.at_ 67)).trans (by rfl)) hS5 (fun a0_13 fa0_13 => ?_)
  clear fa0_12
  refine fa0_13.takeOff 8 72 rfl (by kernel_rfl) (by kernel_rfl) (by kernel_rfl) (fun c a w h => hQp c a _ _ w h) rfl (lb_ I0.size) ((wanted_at (t := 67) (c := false) (b := true) rfl rfl rfl (lb_ (fa0_13.size.trans I0.size)) (fa0_13.at_ 67)).trans (by rfl)) hS5 (fun a0_14 fa0_14 => ?_)
  clear fa0_13
  refine fa0_14.takeOff 9 73 rfl (by kernel_rfl) (by kernel_rfl) (by kernel_rfl) (fun c a w h => hQp c a _ _ w h) rfl (lb_ I0.size) ((wanted_at (t := 67) (c := false) (b := true) rfl rfl rfl (lb_ (fa0_14.size.trans I0.size)) (fa0_14.at_ 67)).trans (by rfl)) hS5 (fun a0_15 fa0_15 => ?_)
  clear fa0_14
  refine fa0_15.takeOff 10 74 rfl (by kernel_rfl) (by kernel_rfl) (by kernel_rfl) (fun c a w h => hQp c a _ _ w h) rfl (lb_ I0.size) ((wanted_at (t := 67) (c := false) (b := true) rfl rfl rfl (lb_ (fa0_15.size.trans I0.size)) (fa0_15.at_ 67)).trans (by rfl)) hS5 (fun a0_16 fa0_16 => ?_)
  clear fa0_15
  refine fa0_16.takeOff 11 75 rfl (by kernel_rfl) (by kernel_rfl) (by kernel_rfl) (fun c a w h => hQp c a _ _ w h) rfl (lb_ I0.size) ((wanted_at (t := 67) (c := false) (b := true) rfl rfl rfl (lb_ (fa0_16.size.trans I0.size)) (fa0_16.at_ 67)).trans (by rfl)) hS5 (fun a0_17 fa0_17 => ?_)
  clear fa0_16
  refine fa0_17.takeOff 12 76 rfl (by kernel_rfl) (by kernel_rfl) (by kernel_rfl) (fun c a w h => hQp c a _ _ w h) rfl (lb_ I0.size) ((wanted_at (t := 67) (c := false) (b := true) rfl rfl rfl (lb_ (fa0_17.size.trans I0.size)) (fa0_17.at_ 67)).trans (by rfl)) hS5 (fun a0_18 fa0_18 => ?_)
  clear fa0_17
  refine fa0_18.takeOff 13 77 rfl (by kernel_rfl) (by kernel_rfl) (by kernel_rfl) (fun c a w h => hQp c a _ _ w h) rfl (lb_ I0.size) ((wanted_at (t := 67) (c := false) (b := true) rfl rfl rfl (lb_ (fa0_18.size.trans I0.size)) (fa0_18.at_ 67)).trans (by rfl)) hS5 (fun a0_19 fa0_19 => ?_)
  clear fa0_18
  refine fa0_19.takeOff 14 78 rfl (by kernel_rfl) (by kernel_rfl) (by kernel_rfl) (fun c a w h => hQp c a _ _ w h) rfl (lb_ I0.size) ((wanted_at (t := 67) (c := false) (b := true) rfl rfl rfl (lb_ (fa0_19.size.trans I0.size)) (fa0_19.at_ 67)).trans (by rfl)) hS5 (fun a0_20 fa0_20 => ?_)
  clear fa0_19
  have r_a0_21 : ∀ Z, (fun Z => Z.cell? ⟨b, 1, none⟩ = some (.slice (some ⟨gg, 0, none⟩) n pc) ∧ Z.cell? ⟨gg, j, none⟩ = some (.string X)) Z → (execOp a0_20.eval { dst := some 79, op := Op.pick (Operand.tmp 67) (Operand.tmp 78) (Operand.const (Value.bool false)), type := 4, pos := "law.go:76", after := #[{ on := 3, ground := Ground.data }, { on := 14, ground := Ground.data }], guard := none }).run Try.prog Z = .ok (.value (.bool false)) Z := fun Z hZ => by
    have kc : ∀ v, a0_20.eval (.const v) = v := fun _ => rfl
    have e67 := (show a0_20.eval (.tmp 67) = .bool false from (fa0_20.at_ 67))
    have e78 := (show a0_20.eval (.tmp 78) = undef from (fa0_20.at_ 78))
    clear fa0_20 hQ hQp hj0
    generalize a0_20.eval = ρ at *
    go_simp
  refine fa0_20.take 15 79 (.bool false) rfl (by kernel_rfl) (by kernel_rfl) (by kernel_rfl) (fun c a w h => hQp c a _ _ w h) rfl (lb_ I0.size) (wanted_none rfl) r_a0_21 hS5 (fun a0_21 fa0_21 => ?_)
  clear r_a0_21
  clear fa0_20
  refine fa0_21.takeMove 16 80 (.bool false) _ (Or.inl rfl) rfl (by kernel_rfl) (by kernel_rfl) (by kernel_rfl) (fun c a w h => hQp c a _ _ w h) rfl (lb_ I0.size) (wanted_none rfl) (fa0_21.at_ 79) hS5 (fun a0_22 fa0_22 => ?_)
  clear fa0_21
  refine fa0_22.takeMove 17 81 (.int .i64 (j : Int)) _ (Or.inl rfl) rfl (by kernel_rfl) (by kernel_rfl) (by kernel_rfl) (fun c a w h => hQp c a _ _ w h) rfl (lb_ I0.size) ((wanted_at (t := 80) (c := false) (b := false) rfl rfl rfl (lb_ (fa0_22.size.trans I0.size)) (fa0_22.at_ 80)).trans (by rfl)) ((fa0_22.at_ 12).trans hj0) hS5 (fun a0_23 fa0_23 => ?_)
  clear fa0_22
  refine fa0_23.takeMove 18 82 (.int .i64 (n2 : Int)) _ (Or.inl rfl) rfl (by kernel_rfl) (by kernel_rfl) (by kernel_rfl) (fun c a w h => hQp c a _ _ w h) rfl (lb_ I0.size) ((wanted_at (t := 80) (c := false) (b := false) rfl rfl rfl (lb_ (fa0_23.size.trans I0.size)) (fa0_23.at_ 80)).trans (by rfl)) ((fa0_23.at_ 2).trans I0.s2) hS5 (fun a0_24 fa0_24 => ?_)
  clear fa0_23
  have r_a0_25 : ∀ Z, (fun Z => Z.cell? ⟨b, 1, none⟩ = some (.slice (some ⟨gg, 0, none⟩) n pc) ∧ Z.cell? ⟨gg, j, none⟩ = some (.string X)) Z → (execOp a0_24.eval { dst := some 83, op := Op.binOp BinOp.geq 3 (Operand.tmp 81) (Operand.tmp 82) 3, type := 4, pos := "law.go:76", after := #[{ on := 17, ground := Ground.data }, { on := 18, ground := Ground.data }, { on := 16, ground := Ground.guard }], guard := some (16, false) }).run Try.prog Z = .ok (.value (.bool true)) Z := fun Z hZ => by
    have e81 := (show a0_24.eval (.tmp 81) = .int .i64 (j : Int) from (fa0_24.at_ 81))
    have e82 := (show a0_24.eval (.tmp 82) = .int .i64 (n2 : Int) from (fa0_24.at_ 82))
    clear fa0_24 hQ hQp hj0
    generalize a0_24.eval = ρ at *
    go_simp
  refine fa0_24.take 19 83 (.bool true) rfl (by kernel_rfl) (by kernel_rfl) (by kernel_rfl) (fun c a w h => hQp c a _ _ w h) rfl (lb_ I0.size) ((wanted_at (t := 80) (c := false) (b := false) rfl rfl rfl (lb_ (fa0_24.size.trans I0.size)) (fa0_24.at_ 80)).trans (by rfl)) r_a0_25 hS5 (fun a0_25 fa0_25 => ?_)
  clear r_a0_25
  clear fa0_24
  refine fa0_25.takeMove 20 84 (.bool true) _ (Or.inl rfl) rfl (by kernel_rfl) (by kernel_rfl) (by kernel_rfl) (fun c a w h => hQp c a _ _ w h) rfl (lb_ I0.size) ((wanted_at (t := 80) (c := false) (b := false) rfl rfl rfl (lb_ (fa0_25.size.trans I0.size)) (fa0_25.at_ 80)).trans (by rfl)) (fa0_25.at_ 83) hS5 (fun a0_26 fa0_26 => ?_)
  clear fa0_25
  have r_a0_27 : ∀ Z, (fun Z => Z.cell? ⟨b, 1, none⟩ = some (.slice (some ⟨gg, 0, none⟩) n pc) ∧ Z.cell? ⟨gg, j, none⟩ = some (.string X)) Z → (execOp a0_26.eval { dst := some 85, op := Op.fieldAddr 26 (Operand.tmp 5) 1, type := 0, pos := "law.go:76", after := #[{ on := 20, ground := Ground.guard }], guard := some (20, true) }).run Try.prog Z = .ok (.value (.pointer (some ⟨b, 1, none⟩))) Z := fun Z hZ => by
    have e5 := (show a0_26.eval (.tmp 5) = .pointer (some ⟨b, 0, none⟩) from ((fa0_26.at_ 5).trans I0.s5))
    clear fa0_26 hQ hQp hj0
    generalize a0_26.eval = ρ at *
    go_simp
  refine fa0_26.take 21 85 (.pointer (some ⟨b, 1, none⟩)) rfl (by kernel_rfl) (by kernel_rfl) (by kernel_rfl) (fun c a w h => hQp c a _ _ w h) rfl (lb_ I0.size) ((wanted_at (t := 84) (c := true) (b := true) rfl rfl rfl (lb_ (fa0_26.size.trans I0.size)) (fa0_26.at_ 84)).trans (by rfl)) r_a0_27 hS5 (fun a0_27 fa0_27 => ?_)
  clear r_a0_27
  clear fa0_26
  have r_a0_28 : ∀ Z, (fun Z => Z.cell? ⟨b, 1, none⟩ = some (.slice (some ⟨gg, 0, none⟩) n pc) ∧ Z.cell? ⟨gg, j, none⟩ = some (.string X)) Z → (execOp a0_27.eval { dst := some 86, op := Op.load 23 (Operand.tmp 85), type := 23, pos := "law.go:76", after := #[{ on := 21, ground := Ground.data }, { on := 20, ground := Ground.guard }], guard := some (20, true) }).run Try.prog Z = .ok (.value (.slice (some ⟨gg, 0, none⟩) n pc)) Z := fun Z hZ => by
    obtain ⟨z0, z1⟩ := hZ
    have e85 := (show a0_27.eval (.tmp 85) = .pointer (some ⟨b, 1, none⟩) from (fa0_27.at_ 85))
    clear fa0_27 hQ hQp hj0
    generalize a0_27.eval = ρ at *
    go_simp
  refine fa0_27.take 22 86 (.slice (some ⟨gg, 0, none⟩) n pc) rfl (by kernel_rfl) (by kernel_rfl) (by kernel_rfl) (fun c a w h => hQp c a _ _ w h) rfl (lb_ I0.size) ((wanted_at (t := 84) (c := true) (b := true) rfl rfl rfl (lb_ (fa0_27.size.trans I0.size)) (fa0_27.at_ 84)).trans (by rfl)) r_a0_28 hS5 (fun a0_28 fa0_28 => ?_)
  clear r_a0_28
  clear fa0_27
  refine fa0_28.takeMove 23 87 (.int .i64 (j : Int)) _ (Or.inl rfl) rfl (by kernel_rfl) (by kernel_rfl) (by kernel_rfl) (fun c a w h => hQp c a _ _ w h) rfl (lb_ I0.size) ((wanted_at (t := 84) (c := true) (b := true) rfl rfl rfl (lb_ (fa0_28.size.trans I0.size)) (fa0_28.at_ 84)).trans (by rfl)) ((fa0_28.at_ 12).trans hj0) hS5 (fun a0_29 fa0_29 => ?_)
  clear fa0_28
  have r_a0_30 : ∀ Z, (fun Z => Z.cell? ⟨b, 1, none⟩ = some (.slice (some ⟨gg, 0, none⟩) n pc) ∧ Z.cell? ⟨gg, j, none⟩ = some (.string X)) Z → (execOp a0_29.eval { dst := some 88, op := Op.indexAddr 23 (Operand.tmp 86) (Operand.tmp 87), type := 0, pos := "law.go:76", after := #[{ on := 22, ground := Ground.data }, { on := 23, ground := Ground.data }, { on := 20, ground := Ground.guard }], guard := some (20, true) }).run Try.prog Z = .ok (.value (.pointer (some ⟨gg, j, none⟩))) Z := fun Z hZ => by
    have e86 := (show a0_29.eval (.tmp 86) = .slice (some ⟨gg, 0, none⟩) n pc from (fa0_29.at_ 86))
    have e87 := (show a0_29.eval (.tmp 87) = .int .i64 (j : Int) from (fa0_29.at_ 87))
    clear fa0_29 hQ hQp hj0
    generalize a0_29.eval = ρ at *
    go_simp
  refine fa0_29.take 24 88 (.pointer (some ⟨gg, j, none⟩)) rfl (by kernel_rfl) (by kernel_rfl) (by kernel_rfl) (fun c a w h => hQp c a _ _ w h) rfl (lb_ I0.size) ((wanted_at (t := 84) (c := true) (b := true) rfl rfl rfl (lb_ (fa0_29.size.trans I0.size)) (fa0_29.at_ 84)).trans (by rfl)) r_a0_30 hS5 (fun a0_30 fa0_30 => ?_)
  clear r_a0_30
  clear fa0_29
  have r_a0_31 : ∀ Z, (fun Z => Z.cell? ⟨b, 1, none⟩ = some (.slice (some ⟨gg, 0, none⟩) n pc) ∧ Z.cell? ⟨gg, j, none⟩ = some (.string X)) Z → (execOp a0_30.eval { dst := some 89, op := Op.load 9 (Operand.tmp 88), type := 9, pos := "law.go:76", after := #[{ on := 24, ground := Ground.data }, { on := 20, ground := Ground.guard }], guard := some (20, true) }).run Try.prog Z = .ok (.value (.string X)) Z := fun Z hZ => by
    obtain ⟨z0, z1⟩ := hZ
    have e88 := (show a0_30.eval (.tmp 88) = .pointer (some ⟨gg, j, none⟩) from (fa0_30.at_ 88))
    clear fa0_30 hQ hQp hj0
    generalize a0_30.eval = ρ at *
    go_simp
  refine fa0_30.take 25 89 (.string X) rfl (by kernel_rfl) (by kernel_rfl) (by kernel_rfl) (fun c a w h => hQp c a _ _ w h) rfl (lb_ I0.size) ((wanted_at (t := 84) (c := true) (b := true) rfl rfl rfl (lb_ (fa0_30.size.trans I0.size)) (fa0_30.at_ 84)).trans (by rfl)) r_a0_31 hS5 (fun a0_31 fa0_31 => ?_)
  clear r_a0_31
  clear fa0_30
  refine fa0_31.takeMove 26 90 (.int .u32 (m : Int)) _ (Or.inl rfl) rfl (by kernel_rfl) (by kernel_rfl) (by kernel_rfl) (fun c a w h => hQp c a _ _ w h) rfl (lb_ I0.size) ((wanted_at (t := 84) (c := true) (b := true) rfl rfl rfl (lb_ (fa0_31.size.trans I0.size)) (fa0_31.at_ 84)).trans (by rfl)) ((fa0_31.at_ 4).trans I0.s4) hS5 (fun a0_32 fa0_32 => ?_)
  clear fa0_31
  have r_a0_33 : ∀ Z, (fun Z => Z.cell? ⟨b, 1, none⟩ = some (.slice (some ⟨gg, 0, none⟩) n pc) ∧ Z.cell? ⟨gg, j, none⟩ = some (.string X)) Z → (execOp a0_32.eval { dst := some 91, op := Op.convert 30 5 (Operand.tmp 90), type := 5, pos := "law.go:76", after := #[{ on := 26, ground := Ground.data }, { on := 20, ground := Ground.guard }], guard := some (20, true) }).run Try.prog Z = .ok (.value (.int .u8 (m : Int))) Z := fun Z hZ => by
    have e90 := (show a0_32.eval (.tmp 90) = .int .u32 (m : Int) from (fa0_32.at_ 90))
    clear fa0_32 hQ hQp hj0
    generalize a0_32.eval = ρ at *
    go_simp
  refine fa0_32.take 27 91 (.int .u8 (m : Int)) rfl (by kernel_rfl) (by kernel_rfl) (by kernel_rfl) (fun c a w h => hQp c a _ _ w h) rfl (lb_ I0.size) ((wanted_at (t := 84) (c := true) (b := true) rfl rfl rfl (lb_ (fa0_32.size.trans I0.size)) (fa0_32.at_ 84)).trans (by rfl)) r_a0_33 hS5 (fun a0_33 fa0_33 => ?_)
  clear r_a0_33
  clear fa0_32
  have r_a0_34 : (execOp a0_33.eval { dst := some 92, op := Op.buildSlice 44 1 #[(0, Operand.tmp 91)], type := 44, pos := "law.go:76", after := #[{ on := 27, ground := Ground.data }, { on := 20, ground := Ground.guard }], guard := some (20, true) }).run Try.prog (wr.drew) = .ok (.value (.slice (some ⟨wr.heap.size, 0, none⟩) 1 1)) ((wr.alloc (.cells #[.int .u8 (m : Int)] 5)).drew) := by
    have e91 := (show a0_33.eval (.tmp 91) = .int .u8 (m : Int) from (fa0_33.at_ 91))
    clear fa0_33 hQ hQp hj0
    generalize a0_33.eval = ρ at *
    go_simp
  have hS34 : (fun Z => Z.cell? ⟨b, 1, none⟩ = some (.slice (some ⟨gg, 0, none⟩) n pc) ∧ Z.cell? ⟨gg, j, none⟩ = some (.string X)) ((wr.alloc (.cells #[.int .u8 (m : Int)] 5)).drew) := ⟨sd.keep c0, sd.keep c1⟩
  refine fa0_33.one 28 92 (.slice (some ⟨wr.heap.size, 0, none⟩) 1 1) (by kernel_rfl) rfl rfl (lb_ I0.size) ((wanted_at (t := 84) (c := true) (b := true) rfl rfl rfl (lb_ (fa0_33.size.trans I0.size)) (fa0_33.at_ 84)).trans (by rfl)) r_a0_34 hS34 (fun a0_34 fa0_34 => ?_)
  clear r_a0_34
  clear fa0_33
  have r_a0_35 : (execOp a0_34.eval { dst := some 93, op := Op.convert 44 9 (Operand.tmp 92), type := 9, pos := "law.go:76", after := #[{ on := 28, ground := Ground.data }, { on := 20, ground := Ground.guard }], guard := some (20, true) }).run Try.prog ((wr.alloc (.cells #[.int .u8 (m : Int)] 5)).drew) = .ok (.value (.string C)) ((wr.alloc (.cells #[.int .u8 (m : Int)] 5)).drew) := by
    have e92 := (show a0_34.eval (.tmp 92) = .slice (some ⟨wr.heap.size, 0, none⟩) 1 1 from (fa0_34.at_ 92))
    clear fa0_34 hQ hQp hj0
    generalize a0_34.eval = ρ at *
    go_simp
  have hS35 : (fun Z => Z.cell? ⟨b, 1, none⟩ = some (.slice (some ⟨gg, 0, none⟩) n pc) ∧ Z.cell? ⟨gg, j, none⟩ = some (.string X)) ((wr.alloc (.cells #[.int .u8 (m : Int)] 5)).drew) := ⟨sd.keep c0, sd.keep c1⟩
  refine fa0_34.one 29 93 (.string C) (by kernel_rfl) rfl rfl (lb_ I0.size) ((wanted_at (t := 84) (c := true) (b := true) rfl rfl rfl (lb_ (fa0_34.size.trans I0.size)) (fa0_34.at_ 84)).trans (by rfl)) r_a0_35 hS35 (fun a0_35 fa0_35 => ?_)
  clear r_a0_35
  clear fa0_34
  have r_a0_36 : ∀ Z, (fun Z => Z.cell? ⟨b, 1, none⟩ = some (.slice (some ⟨gg, 0, none⟩) n pc) ∧ Z.cell? ⟨gg, j, none⟩ = some (.string X)) Z → (execOp a0_35.eval { dst := some 94, op := Op.binOp BinOp.add 9 (Operand.const (Value.string { data := #[121] })) (Operand.tmp 93) 9, type := 9, pos := "law.go:76", after := #[{ on := 29, ground := Ground.data }, { on := 20, ground := Ground.guard }], guard := some (20, true) }).run Try.prog Z = .ok (.value (.string X)) Z := fun Z hZ => by
    have kc : ∀ v, a0_35.eval (.const v) = v := fun _ => rfl
    have e93 := (show a0_35.eval (.tmp 93) = .string C from (fa0_35.at_ 93))
    clear fa0_35 hQ hQp hj0
    generalize a0_35.eval = ρ at *
    go_simp
  refine fa0_35.take 30 94 (.string X) rfl (by kernel_rfl) (by kernel_rfl) (by kernel_rfl) (fun c a w h => hQp c a _ _ w h) rfl (lb_ I0.size) ((wanted_at (t := 84) (c := true) (b := true) rfl rfl rfl (lb_ (fa0_35.size.trans I0.size)) (fa0_35.at_ 84)).trans (by rfl)) r_a0_36 hS35 (fun a0_36 fa0_36 => ?_)
  clear r_a0_36
  clear fa0_35
  have r_a0_37 : ∀ Z, (fun Z => Z.cell? ⟨b, 1, none⟩ = some (.slice (some ⟨gg, 0, none⟩) n pc) ∧ Z.cell? ⟨gg, j, none⟩ = some (.string X)) Z → (execOp a0_36.eval { dst := some 95, op := Op.binOp BinOp.neq 9 (Operand.tmp 89) (Operand.tmp 94) 9, type := 4, pos := "law.go:76", after := #[{ on := 25, ground := Ground.data }, { on := 30, ground := Ground.data }, { on := 20, ground := Ground.guard }], guard := some (20, true) }).run Try.prog Z = .ok (.value (.bool false)) Z := fun Z hZ => by
    have e89 := (show a0_36.eval (.tmp 89) = .string X from (fa0_36.at_ 89))
    have e94 := (show a0_36.eval (.tmp 94) = .string X from (fa0_36.at_ 94))
    clear fa0_36 hQ hQp hj0
    generalize a0_36.eval = ρ at *
    go_simp
  refine fa0_36.take 31 95 (.bool false) rfl (by kernel_rfl) (by kernel_rfl) (by kernel_rfl) (fun c a w h => hQp c a _ _ w h) rfl (lb_ I0.size) ((wanted_at (t := 84) (c := true) (b := true) rfl rfl rfl (lb_ (fa0_36.size.trans I0.size)) (fa0_36.at_ 84)).trans (by rfl)) r_a0_37 hS35 (fun a0_37 fa0_37 => ?_)
  clear r_a0_37
  clear fa0_36
  have r_a0_38 : ∀ Z, (fun Z => Z.cell? ⟨b, 1, none⟩ = some (.slice (some ⟨gg, 0, none⟩) n pc) ∧ Z.cell? ⟨gg, j, none⟩ = some (.string X)) Z → (execOp a0_37.eval { dst := some 96, op := Op.pick (Operand.tmp 84) (Operand.tmp 95) (Operand.const (Value.bool false)), type := 4, pos := "law.go:76", after := #[{ on := 20, ground := Ground.data }, { on := 31, ground := Ground.data }, { on := 16, ground := Ground.guard }], guard := some (16, false) }).run Try.prog Z = .ok (.value (.bool false)) Z := fun Z hZ => by
    have kc : ∀ v, a0_37.eval (.const v) = v := fun _ => rfl
    have e84 := (show a0_37.eval (.tmp 84) = .bool true from (fa0_37.at_ 84))
    have e95 := (show a0_37.eval (.tmp 95) = .bool false from (fa0_37.at_ 95))
    clear fa0_37 hQ hQp hj0
    generalize a0_37.eval = ρ at *
    go_simp
  refine fa0_37.take 32 96 (.bool false) rfl (by kernel_rfl) (by kernel_rfl) (by kernel_rfl) (fun c a w h => hQp c a _ _ w h) rfl (lb_ I0.size) ((wanted_at (t := 80) (c := false) (b := false) rfl rfl rfl (lb_ (fa0_37.size.trans I0.size)) (fa0_37.at_ 80)).trans (by rfl)) r_a0_38 hS35 (fun a0_38 fa0_38 => ?_)
  clear r_a0_38
  clear fa0_37
  have r_a0_39 : ∀ Z, (fun Z => Z.cell? ⟨b, 1, none⟩ = some (.slice (some ⟨gg, 0, none⟩) n pc) ∧ Z.cell? ⟨gg, j, none⟩ = some (.string X)) Z → (execOp a0_38.eval { dst := some 97, op := Op.pick (Operand.tmp 80) (Operand.const (Value.bool true)) (Operand.tmp 96), type := 4, pos := "law.go:76", after := #[{ on := 16, ground := Ground.data }, { on := 32, ground := Ground.data }], guard := none }).run Try.prog Z = .ok (.value (.bool false)) Z := fun Z hZ => by
    have kc : ∀ v, a0_38.eval (.const v) = v := fun _ => rfl
    have e80 := (show a0_38.eval (.tmp 80) = .bool false from (fa0_38.at_ 80))
    have e96 := (show a0_38.eval (.tmp 96) = .bool false from (fa0_38.at_ 96))
    clear fa0_38 hQ hQp hj0
    generalize a0_38.eval = ρ at *
    go_simp
  refine fa0_38.take 33 97 (.bool false) rfl (by kernel_rfl) (by kernel_rfl) (by kernel_rfl) (fun c a w h => hQp c a _ _ w h) rfl (lb_ I0.size) (wanted_none rfl) r_a0_39 hS35 (fun a0_39 fa0_39 => ?_)
  clear r_a0_39
  clear fa0_38
  refine wpAnyH_done (by kernel_rfl) ?_ _
  change Code.wp _ _ _ _ _
  refine wp_cond_false (show a0_39.eval (.tmp 97) = .bool false from (fa0_39.at_ 97)) (wp_skip ?_)
  change Code.wp _ _ _ _ _
  refine wp_region_list ?_
  unfold rMK8
  refine fa0_39.move 62 (.int .i64 (j : Int)) _ (Or.inl rfl) rfl (lb_ I0.size) (wanted_none rfl) ((fa0_39.at_ 12).trans hj0) (fun a0_40 fa0_40 => ?_)
  clear fa0_39
  have r_a0_41 : (execOp a0_40.eval { dst := some 63, op := Op.binOp BinOp.add 3 (Operand.tmp 62) (Operand.const (Value.int IntKind.i64 1)) 3, type := 3, pos := "law.go:75", after := #[{ on := 0, ground := Ground.data }], guard := none }).run Try.prog ((wr.alloc (.cells #[.int .u8 (m : Int)] 5)).drew) = .ok (.value (.int .i64 ((j : Int) + 1))) ((wr.alloc (.cells #[.int .u8 (m : Int)] 5)).drew) := by
    have kc : ∀ v, a0_40.eval (.const v) = v := fun _ => rfl
    have e62 := (show a0_40.eval (.tmp 62) = .int .i64 (j : Int) from (fa0_40.at_ 62))
    clear fa0_40 hQ hQp hj0
    generalize a0_40.eval = ρ at *
    go_simp
  refine fa0_40.step 63 (.int .i64 ((j : Int) + 1)) rfl (lb_ I0.size) (wanted_none rfl) r_a0_41 (fun a0_41 fa0_41 => ?_)
  clear r_a0_41
  clear fa0_40
  refine fa0_41.move 12 (.int .i64 ((j : Int) + 1)) _ (Or.inr rfl) rfl (lb_ I0.size) (wanted_none rfl) (fa0_41.at_ 63) (fun a0_42 fa0_42 => ?_)
  clear fa0_41
  refine wpList_nil ?_
  exact hQ a0_42 (I0.keep fa0_42 rfl rfl rfl rfl rfl) (show a0_42.eval (.tmp 12) = .int .i64 ((j : Int) + 1) from (fa0_42.at_ 12))
set_option maxRecDepth 100000 in
theorem mSE {b n1 n2 n3 m n pc : Nat} {pa : Option Addr} {Q : Exit → Act → World → Prop} (a0 : Act) (wr : World) (I0 : IM b n1 n2 n3 m a0) (hj0 : a0.eval (.tmp 12) = .int .i64 (n : Int)) (c0 : wr.cell? ⟨b, 1, none⟩ = some (.slice pa n pc))
    (hQ : ∀ a', IM b n1 n2 n3 m a' → Q (.exit 2) a' wr) : cMS.wp Try.prog Q a0 wr := by
  have fa0_0 := Fe.refl a0
  unfold cMS
  refine wp_seq (wp_seq ?_)
  refine wp_region_list ?_
  unfold rMK7
  refine fa0_0.move 57 (.int .i64 (n : Int)) _ (Or.inl rfl) rfl (lb_ I0.size) (wanted_none rfl) ((fa0_0.at_ 12).trans hj0) (fun a0_1 fa0_1 => ?_)
  clear fa0_0
  have r_a0_2 : (execOp a0_1.eval { dst := some 58, op := Op.fieldAddr 26 (Operand.tmp 5) 1, type := 0, pos := "law.go:75", after := #[], guard := none }).run Try.prog (wr) = .ok (.value (.pointer (some ⟨b, 1, none⟩))) (wr) := by
    have e5 := (show a0_1.eval (.tmp 5) = .pointer (some ⟨b, 0, none⟩) from ((fa0_1.at_ 5).trans I0.s5))
    clear fa0_1 hQ hj0
    generalize a0_1.eval = ρ at *
    go_simp
  refine fa0_1.step 58 (.pointer (some ⟨b, 1, none⟩)) rfl (lb_ I0.size) (wanted_none rfl) r_a0_2 (fun a0_2 fa0_2 => ?_)
  clear r_a0_2
  clear fa0_1
  have r_a0_3 : (execOp a0_2.eval { dst := some 59, op := Op.load 23 (Operand.tmp 58), type := 23, pos := "law.go:75", after := #[{ on := 1, ground := Ground.data }], guard := none }).run Try.prog (wr) = .ok (.value (.slice pa n pc)) (wr) := by
    have e58 := (show a0_2.eval (.tmp 58) = .pointer (some ⟨b, 1, none⟩) from (fa0_2.at_ 58))
    clear fa0_2 hQ hj0
    generalize a0_2.eval = ρ at *
    go_simp
  refine fa0_2.step 59 (.slice pa n pc) rfl (lb_ I0.size) (wanted_none rfl) r_a0_3 (fun a0_3 fa0_3 => ?_)
  clear r_a0_3
  clear fa0_2
  have r_a0_4 : (execOp a0_3.eval { dst := some 60, op := Op.call { callee := Callee.builtin Builtin.len, args := #[Operand.tmp 59], argTypes := #[23] }, type := 3, pos := "law.go:75", after := #[{ on := 2, ground := Ground.data }], guard := none }).run Try.prog (wr) = .ok (.value (.int .i64 (n : Int))) (wr) := by
    have e59 := (show a0_3.eval (.tmp 59) = .slice pa n pc from (fa0_3.at_ 59))
    clear fa0_3 hQ hj0
    generalize a0_3.eval = ρ at *
    go_simp
  refine fa0_3.step 60 (.int .i64 (n : Int)) rfl (lb_ I0.size) (wanted_none rfl) r_a0_4 (fun a0_4 fa0_4 => ?_)
  clear r_a0_4
  clear fa0_3
  have r_a0_5 : (execOp a0_4.eval { dst := some 61, op := Op.binOp BinOp.lss 3 (Operand.tmp 57) (Operand.tmp 60) 3, type := 4, pos := "law.go:75", after := #[{ on := 0, ground := Ground.data }, { on := 3, ground := Ground.data }], guard := none }).run Try.prog (wr) = .ok (.value (.bool false)) (wr) := by
    have e57 := (show a0_4.eval (.tmp 57) = .int .i64 (n : Int) from (fa0_4.at_ 57))
    have e60 := (show a0_4.eval (.tmp 60) = .int .i64 (n : Int) from (fa0_4.at_ 60))
    clear fa0_4 hQ hj0
    generalize a0_4.eval = ρ at *
    go_simp
  refine fa0_4.step 61 (.bool false) rfl (lb_ I0.size) (wanted_none rfl) r_a0_5 (fun a0_5 fa0_5 => ?_)
  clear r_a0_5
  clear fa0_4
  refine wpList_nil ?_
  change Code.wp _ _ _ _ _
  refine wp_cond_false (show a0_5.eval (.tmp 61) = .bool false from (fa0_5.at_ 61)) (wp_exit ?_)
  exact hQ a0_5 (I0.keep fa0_5 rfl rfl rfl rfl rfl)
theorem mSL {b n1 n2 n3 m n pc e : Nat} {pa : Option Addr} {C X Y : ByteArray} {Q : Exit → Act → World → Prop} (hQp : ∀ c (a : Act) d v w, Q (.panic c) (a.put d v) w → Q (.panic c) a w) (a0 : Act) (V : World) (I0 : IM b n1 n2 n3 m a0) (hj0 : a0.eval (.tmp 12) = .int .i64 ((0 : Nat) : Int)) (hm : m < 100) (hn : n ≤ 1048800) (he : n = n2 + e)
    (hB : ∀ W, Same V W → W.cell? ⟨b, 1, none⟩ = some (.slice pa n pc))
    (hX : ∀ W k, Same V W → k < n2 → ∃ g, pa = some ⟨g, 0, none⟩ ∧ W.cell? ⟨g, k, none⟩ = some (.string X)) (hY : ∀ W k, Same V W → n2 ≤ k → k < n2 + e → ∃ g, pa = some ⟨g, 0, none⟩ ∧ W.cell? ⟨g, k, none⟩ = some (.string Y))
    (hc : ∀ W : World, (convert 44 9 (.slice (some ⟨W.heap.size, 0, none⟩) 1 1)).run Try.prog ((W.alloc (.cells #[.int .u8 (m : Int)] 5)).drew) = .ok (.string C) ((W.alloc (.cells #[.int .u8 (m : Int)] 5)).drew)) (hC : C.size = 1) (eX : X = (⟨#[120]⟩ : ByteArray) ++ C) (eY : Y = (⟨#[121]⟩ : ByteArray) ++ C)
    (hQ : ∀ a' W, IM b n1 n2 n3 m a' → Same V W → Q (.exit 2) a' W) : (Code.loop cMS).wp Try.prog Q a0 V := by
  refine wp_loop (fun a' W => IM b n1 n2 n3 m a' ∧ Same V W ∧ ∃ k : Nat, k ≤ n ∧ a'.eval (.tmp 12) = .int .i64 (k : Int)) (fun a' _ => n - kOfN a' 12) ⟨I0, Fr.refl _ V, 0, Nat.zero_le _, hj0⟩ ?_
  rintro a1 W ⟨I1, s1, k, hk, g1⟩
  by_cases hgo : k < n
  · have nx : ∀ a' W', Same W W' → IM b n1 n2 n3 m a' → a'.eval (.tmp 12) = .int .i64 ((k : Int) + 1) → Exit.then (fun a' W => (IM b n1 n2 n3 m a' ∧ Same V W ∧ ∃ k : Nat, k ≤ n ∧ a'.eval (.tmp 12) = .int .i64 (k : Int)) ∧ n - kOfN a' 12 < n - kOfN a1 12) Q .normal a' W' := fun a' W' s2 h1 h3 => by
      have h4 : a'.eval (.tmp 12) = .int .i64 ((k + 1 : Nat) : Int) := h3
      refine ⟨⟨h1, Fr.trans s1 s2 (fun _ _ f => f), k + 1, hgo, h4⟩, ?_⟩
      rw [kOfN_eq h4, kOfN_eq g1]
      omega
    by_cases hx : k < n2
    · obtain ⟨g, eg, c1⟩ := hX W k s1 hx
      subst eg
      exact mSX (by intro c a d v w h; exact hQp c a d v w h) a1 W I1 g1 hm hgo hn hx (hB W s1) c1 (hc W) hC eX (fun a' i2 h2 => nx a' _ (((Fr.refl _ W).alloc _).drew) i2 h2)
    · obtain ⟨g, eg, c1⟩ := hY W k s1 (Nat.le_of_not_lt hx) (by omega)
      subst eg
      exact mSY (by intro c a d v w h; exact hQp c a d v w h) a1 W I1 g1 hm hgo hn (Nat.le_of_not_lt hx) (hB W s1) c1 (hc W) hC eY (fun a' i2 h2 => nx a' _ (((Fr.refl _ W).alloc _).drew) i2 h2)
  · obtain rfl : n = k := by omega
    exact mSE a1 W I1 g1 (hB W s1) (fun a' i2 => hQ a' W i2 s1)
def cMK : Code := (Code.seq (Code.seq (Code.region 12 rMK12 false) (Code.cond (Operand.tmp 102) Code.skip (Code.exit 4))) (Code.seq (Code.block 5 (Code.seq (Code.region 14 rMK14 false) (Code.cond (Operand.tmp 133) (Code.seq (Code.region 15 rMK15 false) Code.ret) Code.skip))) (Code.region 13 rMK13 false)))
set_option maxRecDepth 100000 in
set_option maxHeartbeats 1000000 in
theorem mKX {b n1 n2 n3 m n j gg pc : Nat} {C X : ByteArray} {Q : Exit → Act → World → Prop} (_hQp : ∀ c (a : Act) d v w, Q (.panic c) (a.put d v) w → Q (.panic c) a w) (a0 : Act) (wr : World) (I0 : IM b n1 n2 n3 m a0) (hj0 : a0.eval (.tmp 13) = .int .i64 (j : Int)) (hm : m < 100) (hj : j < n) (hn : n ≤ 1048800) (hx : j < n3)
    (c0 : wr.cell? ⟨b, 2, none⟩ = some (.slice (some ⟨gg, 0, none⟩) n pc)) (c1 : wr.cell? ⟨gg, j * 33, none⟩ = some (.int .u32 (m : Int)))
    (_hC : C = X)
    (hQ : ∀ a', IM b n1 n2 n3 m a' → a'.eval (.tmp 13) = .int .i64 ((j : Int) + 1) → Q .normal a' (wr)) : cMK.wp Try.prog Q a0 wr := by
  have hji : (j : Int) < (n : Int) := by omega
  have w7 : IntKind.i64.wrap ((j : Int) + 1) = (j : Int) + 1 := by rw [IntKind.wrap_i64]; omega
  have w8 : IntKind.u8.wrap (m : Int) = (m : Int) := by rw [IntKind.wrap_u8]; omega
  have w9 : IntKind.u32.wrap ((m : Int) + 100) = (m : Int) + 100 := by rw [IntKind.wrap_u32]; omega
  have hxi : (j : Int) < (n3 : Int) := by omega
  have hxd : decide ((n3 : Int) ≤ (j : Int)) = false := decide_eq_false (by omega)
  clear hj hn hm
  have fa0_0 := Fe.refl a0
  unfold cMK
  refine wp_seq (wp_seq ?_)
  refine wp_region_list ?_
  unfold rMK12
  refine fa0_0.move 98 (.int .i64 (j : Int)) _ (Or.inl rfl) rfl (lb_ I0.size) (wanted_none rfl) ((fa0_0.at_ 13).trans hj0) (fun a0_1 fa0_1 => ?_)
  clear fa0_0
  have r_a0_2 : (execOp a0_1.eval { dst := some 99, op := Op.fieldAddr 26 (Operand.tmp 5) 2, type := 0, pos := "law.go:80", after := #[], guard := none }).run Try.prog (wr) = .ok (.value (.pointer (some ⟨b, 2, none⟩))) (wr) := by
    have e5 := (show a0_1.eval (.tmp 5) = .pointer (some ⟨b, 0, none⟩) from ((fa0_1.at_ 5).trans I0.s5))
    clear fa0_1 hQ hj0
    generalize a0_1.eval = ρ at *
    go_simp
  refine fa0_1.step 99 (.pointer (some ⟨b, 2, none⟩)) rfl (lb_ I0.size) (wanted_none rfl) r_a0_2 (fun a0_2 fa0_2 => ?_)
  clear r_a0_2
  clear fa0_1
  have r_a0_3 : (execOp a0_2.eval { dst := some 100, op := Op.load 24 (Operand.tmp 99), type := 24, pos := "law.go:80", after := #[{ on := 1, ground := Ground.data }], guard := none }).run Try.prog (wr) = .ok (.value (.slice (some ⟨gg, 0, none⟩) n pc)) (wr) := by
    have e99 := (show a0_2.eval (.tmp 99) = .pointer (some ⟨b, 2, none⟩) from (fa0_2.at_ 99))
    clear fa0_2 hQ hj0
    generalize a0_2.eval = ρ at *
    go_simp
  refine fa0_2.step 100 (.slice (some ⟨gg, 0, none⟩) n pc) rfl (lb_ I0.size) (wanted_none rfl) r_a0_3 (fun a0_3 fa0_3 => ?_)
  clear r_a0_3
  clear fa0_2
  have r_a0_4 : (execOp a0_3.eval { dst := some 101, op := Op.call { callee := Callee.builtin Builtin.len, args := #[Operand.tmp 100], argTypes := #[24] }, type := 3, pos := "law.go:80", after := #[{ on := 2, ground := Ground.data }], guard := none }).run Try.prog (wr) = .ok (.value (.int .i64 (n : Int))) (wr) := by
    have e100 := (show a0_3.eval (.tmp 100) = .slice (some ⟨gg, 0, none⟩) n pc from (fa0_3.at_ 100))
    clear fa0_3 hQ hj0
    generalize a0_3.eval = ρ at *
    go_simp
  refine fa0_3.step 101 (.int .i64 (n : Int)) rfl (lb_ I0.size) (wanted_none rfl) r_a0_4 (fun a0_4 fa0_4 => ?_)
  clear r_a0_4
  clear fa0_3
  have r_a0_5 : (execOp a0_4.eval { dst := some 102, op := Op.binOp BinOp.lss 3 (Operand.tmp 98) (Operand.tmp 101) 3, type := 4, pos := "law.go:80", after := #[{ on := 0, ground := Ground.data }, { on := 3, ground := Ground.data }], guard := none }).run Try.prog (wr) = .ok (.value (.bool true)) (wr) := by
    have e98 := (show a0_4.eval (.tmp 98) = .int .i64 (j : Int) from (fa0_4.at_ 98))
    have e101 := (show a0_4.eval (.tmp 101) = .int .i64 (n : Int) from (fa0_4.at_ 101))
    clear fa0_4 hQ hj0
    generalize a0_4.eval = ρ at *
    go_simp
  refine fa0_4.step 102 (.bool true) rfl (lb_ I0.size) (wanted_none rfl) r_a0_5 (fun a0_5 fa0_5 => ?_)
  clear r_a0_5
  clear fa0_4
  refine wpList_nil ?_
  change Code.wp _ _ _ _ _
  refine wp_cond_true (show a0_5.eval (.tmp 102) = .bool true from (fa0_5.at_ 102)) (wp_skip ?_)
  change Code.wp _ _ _ _ _
  refine wp_seq (wp_block (wp_seq ?_))
  refine wp_region_list ?_
  unfold rMK14
  refine fa0_5.move 105 (.int .i64 (j : Int)) _ (Or.inl rfl) rfl (lb_ I0.size) (wanted_none rfl) ((fa0_5.at_ 13).trans hj0) (fun a0_6 fa0_6 => ?_)
  clear fa0_5
  refine fa0_6.move 106 (.int .i64 (n3 : Int)) _ (Or.inl rfl) rfl (lb_ I0.size) (wanted_none rfl) ((fa0_6.at_ 3).trans I0.s3) (fun a0_7 fa0_7 => ?_)
  clear fa0_6
  have r_a0_8 : (execOp a0_7.eval { dst := some 107, op := Op.binOp BinOp.lss 3 (Operand.tmp 105) (Operand.tmp 106) 3, type := 4, pos := "law.go:81", after := #[{ on := 0, ground := Ground.data }, { on := 1, ground := Ground.data }], guard := none }).run Try.prog (wr) = .ok (.value (.bool true)) (wr) := by
    have e105 := (show a0_7.eval (.tmp 105) = .int .i64 (j : Int) from (fa0_7.at_ 105))
    have e106 := (show a0_7.eval (.tmp 106) = .int .i64 (n3 : Int) from (fa0_7.at_ 106))
    clear fa0_7 hQ hj0
    generalize a0_7.eval = ρ at *
    go_simp
  refine fa0_7.step 107 (.bool true) rfl (lb_ I0.size) (wanted_none rfl) r_a0_8 (fun a0_8 fa0_8 => ?_)
  clear r_a0_8
  clear fa0_7
  refine fa0_8.move 108 (.bool true) _ (Or.inl rfl) rfl (lb_ I0.size) (wanted_none rfl) (fa0_8.at_ 107) (fun a0_9 fa0_9 => ?_)
  clear fa0_8
  have r_a0_10 : (execOp a0_9.eval { dst := some 109, op := Op.fieldAddr 26 (Operand.tmp 5) 2, type := 0, pos := "law.go:81", after := #[{ on := 3, ground := Ground.guard }], guard := some (3, true) }).run Try.prog (wr) = .ok (.value (.pointer (some ⟨b, 2, none⟩))) (wr) := by
    have e5 := (show a0_9.eval (.tmp 5) = .pointer (some ⟨b, 0, none⟩) from ((fa0_9.at_ 5).trans I0.s5))
    clear fa0_9 hQ hj0
    generalize a0_9.eval = ρ at *
    go_simp
  refine fa0_9.step 109 (.pointer (some ⟨b, 2, none⟩)) rfl (lb_ I0.size) ((wanted_at (t := 108) (c := true) (b := true) rfl rfl rfl (lb_ (fa0_9.size.trans I0.size)) (fa0_9.at_ 108)).trans (by rfl)) r_a0_10 (fun a0_10 fa0_10 => ?_)
  clear r_a0_10
  clear fa0_9
  have r_a0_11 : (execOp a0_10.eval { dst := some 110, op := Op.load 24 (Operand.tmp 109), type := 24, pos := "law.go:81", after := #[{ on := 4, ground := Ground.data }, { on := 3, ground := Ground.guard }], guard := some (3, true) }).run Try.prog (wr) = .ok (.value (.slice (some ⟨gg, 0, none⟩) n pc)) (wr) := by
    have e109 := (show a0_10.eval (.tmp 109) = .pointer (some ⟨b, 2, none⟩) from (fa0_10.at_ 109))
    clear fa0_10 hQ hj0
    generalize a0_10.eval = ρ at *
    go_simp
  refine fa0_10.step 110 (.slice (some ⟨gg, 0, none⟩) n pc) rfl (lb_ I0.size) ((wanted_at (t := 108) (c := true) (b := true) rfl rfl rfl (lb_ (fa0_10.size.trans I0.size)) (fa0_10.at_ 108)).trans (by rfl)) r_a0_11 (fun a0_11 fa0_11 => ?_)
  clear r_a0_11
  clear fa0_10
  refine fa0_11.move 111 (.int .i64 (j : Int)) _ (Or.inl rfl) rfl (lb_ I0.size) ((wanted_at (t := 108) (c := true) (b := true) rfl rfl rfl (lb_ (fa0_11.size.trans I0.size)) (fa0_11.at_ 108)).trans (by rfl)) ((fa0_11.at_ 13).trans hj0) (fun a0_12 fa0_12 => ?_)
  clear fa0_11
  have r_a0_13 : (execOp a0_12.eval { dst := some 112, op := Op.indexAddr 24 (Operand.tmp 110) (Operand.tmp 111), type := 0, pos := "law.go:81", after := #[{ on := 5, ground := Ground.data }, { on := 6, ground := Ground.data }, { on := 3, ground := Ground.guard }], guard := some (3, true) }).run Try.prog (wr) = .ok (.value (.pointer (some ⟨gg, j * 33, none⟩))) (wr) := by
    have e110 := (show a0_12.eval (.tmp 110) = .slice (some ⟨gg, 0, none⟩) n pc from (fa0_12.at_ 110))
    have e111 := (show a0_12.eval (.tmp 111) = .int .i64 (j : Int) from (fa0_12.at_ 111))
    clear fa0_12 hQ hj0
    generalize a0_12.eval = ρ at *
    go_simp
  refine fa0_12.step 112 (.pointer (some ⟨gg, j * 33, none⟩)) rfl (lb_ I0.size) ((wanted_at (t := 108) (c := true) (b := true) rfl rfl rfl (lb_ (fa0_12.size.trans I0.size)) (fa0_12.at_ 108)).trans (by rfl)) r_a0_13 (fun a0_13 fa0_13 => ?_)
  clear r_a0_13
  clear fa0_12
  have r_a0_14 : (execOp a0_13.eval { dst := some 113, op := Op.fieldAddr 37 (Operand.tmp 112) 0, type := 0, pos := "law.go:81", after := #[{ on := 7, ground := Ground.data }, { on := 3, ground := Ground.guard }], guard := some (3, true) }).run Try.prog (wr) = .ok (.value (.pointer (some ⟨gg, j * 33, none⟩))) (wr) := by
    have e112 := (show a0_13.eval (.tmp 112) = .pointer (some ⟨gg, j * 33, none⟩) from (fa0_13.at_ 112))
    clear fa0_13 hQ hj0
    generalize a0_13.eval = ρ at *
    go_simp
  refine fa0_13.step 113 (.pointer (some ⟨gg, j * 33, none⟩)) rfl (lb_ I0.size) ((wanted_at (t := 108) (c := true) (b := true) rfl rfl rfl (lb_ (fa0_13.size.trans I0.size)) (fa0_13.at_ 108)).trans (by rfl)) r_a0_14 (fun a0_14 fa0_14 => ?_)
  clear r_a0_14
  clear fa0_13
  have r_a0_15 : (execOp a0_14.eval { dst := some 114, op := Op.load 30 (Operand.tmp 113), type := 30, pos := "law.go:81", after := #[{ on := 8, ground := Ground.data }, { on := 3, ground := Ground.guard }], guard := some (3, true) }).run Try.prog (wr) = .ok (.value (.int .u32 (m : Int))) (wr) := by
    have e113 := (show a0_14.eval (.tmp 113) = .pointer (some ⟨gg, j * 33, none⟩) from (fa0_14.at_ 113))
    clear fa0_14 hQ hj0
    generalize a0_14.eval = ρ at *
    go_simp
  refine fa0_14.step 114 (.int .u32 (m : Int)) rfl (lb_ I0.size) ((wanted_at (t := 108) (c := true) (b := true) rfl rfl rfl (lb_ (fa0_14.size.trans I0.size)) (fa0_14.at_ 108)).trans (by rfl)) r_a0_15 (fun a0_15 fa0_15 => ?_)
  clear r_a0_15
  clear fa0_14
  refine fa0_15.move 115 (.int .u32 (m : Int)) _ (Or.inl rfl) rfl (lb_ I0.size) ((wanted_at (t := 108) (c := true) (b := true) rfl rfl rfl (lb_ (fa0_15.size.trans I0.size)) (fa0_15.at_ 108)).trans (by rfl)) ((fa0_15.at_ 4).trans I0.s4) (fun a0_16 fa0_16 => ?_)
  clear fa0_15
  have r_a0_17 : (execOp a0_16.eval { dst := some 116, op := Op.binOp BinOp.neq 30 (Operand.tmp 114) (Operand.tmp 115) 30, type := 4, pos := "law.go:81", after := #[{ on := 9, ground := Ground.data }, { on := 10, ground := Ground.data }, { on := 3, ground := Ground.guard }], guard := some (3, true) }).run Try.prog (wr) = .ok (.value (.bool false)) (wr) := by
    have e114 := (show a0_16.eval (.tmp 114) = .int .u32 (m : Int) from (fa0_16.at_ 114))
    have e115 := (show a0_16.eval (.tmp 115) = .int .u32 (m : Int) from (fa0_16.at_ 115))
    clear fa0_16 hQ hj0
    generalize a0_16.eval = ρ at *
    go_simp
  refine fa0_16.step 116 (.bool false) rfl (lb_ I0.size) ((wanted_at (t := 108) (c := true) (b := true) rfl rfl rfl (lb_ (fa0_16.size.trans I0.size)) (fa0_16.at_ 108)).trans (by rfl)) r_a0_17 (fun a0_17 fa0_17 => ?_)
  clear r_a0_17
  clear fa0_16
  have r_a0_18 : (execOp a0_17.eval { dst := some 117, op := Op.pick (Operand.tmp 108) (Operand.tmp 116) (Operand.const (Value.bool false)), type := 4, pos := "law.go:81", after := #[{ on := 3, ground := Ground.data }, { on := 11, ground := Ground.data }], guard := none }).run Try.prog (wr) = .ok (.value (.bool false)) (wr) := by
    have kc : ∀ v, a0_17.eval (.const v) = v := fun _ => rfl
    have e108 := (show a0_17.eval (.tmp 108) = .bool true from (fa0_17.at_ 108))
    have e116 := (show a0_17.eval (.tmp 116) = .bool false from (fa0_17.at_ 116))
    clear fa0_17 hQ hj0
    generalize a0_17.eval = ρ at *
    go_simp
  refine fa0_17.step 117 (.bool false) rfl (lb_ I0.size) (wanted_none rfl) r_a0_18 (fun a0_18 fa0_18 => ?_)
  clear r_a0_18
  clear fa0_17
  refine fa0_18.move 118 (.bool false) _ (Or.inl rfl) rfl (lb_ I0.size) (wanted_none rfl) (fa0_18.at_ 117) (fun a0_19 fa0_19 => ?_)
  clear fa0_18
  refine fa0_19.move 119 (.int .i64 (j : Int)) _ (Or.inl rfl) rfl (lb_ I0.size) ((wanted_at (t := 118) (c := false) (b := false) rfl rfl rfl (lb_ (fa0_19.size.trans I0.size)) (fa0_19.at_ 118)).trans (by rfl)) ((fa0_19.at_ 13).trans hj0) (fun a0_20 fa0_20 => ?_)
  clear fa0_19
  refine fa0_20.move 120 (.int .i64 (n3 : Int)) _ (Or.inl rfl) rfl (lb_ I0.size) ((wanted_at (t := 118) (c := false) (b := false) rfl rfl rfl (lb_ (fa0_20.size.trans I0.size)) (fa0_20.at_ 118)).trans (by rfl)) ((fa0_20.at_ 3).trans I0.s3) (fun a0_21 fa0_21 => ?_)
  clear fa0_20
  have r_a0_22 : (execOp a0_21.eval { dst := some 121, op := Op.binOp BinOp.geq 3 (Operand.tmp 119) (Operand.tmp 120) 3, type := 4, pos := "law.go:81", after := #[{ on := 14, ground := Ground.data }, { on := 15, ground := Ground.data }, { on := 13, ground := Ground.guard }], guard := some (13, false) }).run Try.prog (wr) = .ok (.value (.bool false)) (wr) := by
    have e119 := (show a0_21.eval (.tmp 119) = .int .i64 (j : Int) from (fa0_21.at_ 119))
    have e120 := (show a0_21.eval (.tmp 120) = .int .i64 (n3 : Int) from (fa0_21.at_ 120))
    clear fa0_21 hQ hj0
    generalize a0_21.eval = ρ at *
    go_simp
  refine fa0_21.step 121 (.bool false) rfl (lb_ I0.size) ((wanted_at (t := 118) (c := false) (b := false) rfl rfl rfl (lb_ (fa0_21.size.trans I0.size)) (fa0_21.at_ 118)).trans (by rfl)) r_a0_22 (fun a0_22 fa0_22 => ?_)
  clear r_a0_22
  clear fa0_21
  refine fa0_22.move 122 (.bool false) _ (Or.inl rfl) rfl (lb_ I0.size) ((wanted_at (t := 118) (c := false) (b := false) rfl rfl rfl (lb_ (fa0_22.size.trans I0.size)) (fa0_22.at_ 118)).trans (by rfl)) (fa0_22.at_ 121) (fun a0_23 fa0_23 => ?_)
  clear fa0_22
  refine fa0_23.skip 123 rfl (lb_ I0.size) ((wanted_at (t := 122) (c := false) (b := true) rfl rfl rfl (lb_ (fa0_23.size.trans I0.size)) (fa0_23.at_ 122)).trans (by rfl)) (fun a0_24 fa0_24 => ?_)
  clear fa0_23
  refine fa0_24.skip 124 rfl (lb_ I0.size) ((wanted_at (t := 122) (c := false) (b := true) rfl rfl rfl (lb_ (fa0_24.size.trans I0.size)) (fa0_24.at_ 122)).trans (by rfl)) (fun a0_25 fa0_25 => ?_)
  clear fa0_24
  refine fa0_25.skip 125 rfl (lb_ I0.size) ((wanted_at (t := 122) (c := false) (b := true) rfl rfl rfl (lb_ (fa0_25.size.trans I0.size)) (fa0_25.at_ 122)).trans (by rfl)) (fun a0_26 fa0_26 => ?_)
  clear fa0_25
  refine fa0_26.skip 126 rfl (lb_ I0.size) ((wanted_at (t := 122) (c := false) (b := true) rfl rfl rfl (lb_ (fa0_26.size.trans I0.size)) (fa0_26.at_ 122)).trans (by rfl)) (fun a0_27 fa0_27 => ?_)
  clear fa0_26
  refine fa0_27.skip 127 rfl (lb_ I0.size) ((wanted_at (t := 122) (c := false) (b := true) rfl rfl rfl (lb_ (fa0_27.size.trans I0.size)) (fa0_27.at_ 122)).trans (by rfl)) (fun a0_28 fa0_28 => ?_)
  clear fa0_27
  refine fa0_28.skip 128 rfl (lb_ I0.size) ((wanted_at (t := 122) (c := false) (b := true) rfl rfl rfl (lb_ (fa0_28.size.trans I0.size)) (fa0_28.at_ 122)).trans (by rfl)) (fun a0_29 fa0_29 => ?_)
  clear fa0_28
  refine fa0_29.skip 129 rfl (lb_ I0.size) ((wanted_at (t := 122) (c := false) (b := true) rfl rfl rfl (lb_ (fa0_29.size.trans I0.size)) (fa0_29.at_ 122)).trans (by rfl)) (fun a0_30 fa0_30 => ?_)
  clear fa0_29
  refine fa0_30.skip 130 rfl (lb_ I0.size) ((wanted_at (t := 122) (c := false) (b := true) rfl rfl rfl (lb_ (fa0_30.size.trans I0.size)) (fa0_30.at_ 122)).trans (by rfl)) (fun a0_31 fa0_31 => ?_)
  clear fa0_30
  refine fa0_31.skip 131 rfl (lb_ I0.size) ((wanted_at (t := 122) (c := false) (b := true) rfl rfl rfl (lb_ (fa0_31.size.trans I0.size)) (fa0_31.at_ 122)).trans (by rfl)) (fun a0_32 fa0_32 => ?_)
  clear fa0_31
  have r_a0_33 : (execOp a0_32.eval { dst := some 132, op := Op.pick (Operand.tmp 122) (Operand.tmp 131) (Operand.const (Value.bool false)), type := 4, pos := "law.go:81", after := #[{ on := 17, ground := Ground.data }, { on := 26, ground := Ground.data }, { on := 13, ground := Ground.guard }], guard := some (13, false) }).run Try.prog (wr) = .ok (.value (.bool false)) (wr) := by
    have kc : ∀ v, a0_32.eval (.const v) = v := fun _ => rfl
    have e122 := (show a0_32.eval (.tmp 122) = .bool false from (fa0_32.at_ 122))
    have e131 := (show a0_32.eval (.tmp 131) = undef from (fa0_32.at_ 131))
    clear fa0_32 hQ hj0
    generalize a0_32.eval = ρ at *
    go_simp
  refine fa0_32.step 132 (.bool false) rfl (lb_ I0.size) ((wanted_at (t := 118) (c := false) (b := false) rfl rfl rfl (lb_ (fa0_32.size.trans I0.size)) (fa0_32.at_ 118)).trans (by rfl)) r_a0_33 (fun a0_33 fa0_33 => ?_)
  clear r_a0_33
  clear fa0_32
  have r_a0_34 : (execOp a0_33.eval { dst := some 133, op := Op.pick (Operand.tmp 118) (Operand.const (Value.bool true)) (Operand.tmp 132), type := 4, pos := "law.go:81", after := #[{ on := 13, ground := Ground.data }, { on := 27, ground := Ground.data }], guard := none }).run Try.prog (wr) = .ok (.value (.bool false)) (wr) := by
    have kc : ∀ v, a0_33.eval (.const v) = v := fun _ => rfl
    have e118 := (show a0_33.eval (.tmp 118) = .bool false from (fa0_33.at_ 118))
    have e132 := (show a0_33.eval (.tmp 132) = .bool false from (fa0_33.at_ 132))
    clear fa0_33 hQ hj0
    generalize a0_33.eval = ρ at *
    go_simp
  refine fa0_33.step 133 (.bool false) rfl (lb_ I0.size) (wanted_none rfl) r_a0_34 (fun a0_34 fa0_34 => ?_)
  clear r_a0_34
  clear fa0_33
  refine wpList_nil ?_
  change Code.wp _ _ _ _ _
  refine wp_cond_false (show a0_34.eval (.tmp 133) = .bool false from (fa0_34.at_ 133)) (wp_skip ?_)
  change Code.wp _ _ _ _ _
  refine wp_region_list ?_
  unfold rMK13
  refine fa0_34.move 103 (.int .i64 (j : Int)) _ (Or.inl rfl) rfl (lb_ I0.size) (wanted_none rfl) ((fa0_34.at_ 13).trans hj0) (fun a0_35 fa0_35 => ?_)
  clear fa0_34
  have r_a0_36 : (execOp a0_35.eval { dst := some 104, op := Op.binOp BinOp.add 3 (Operand.tmp 103) (Operand.const (Value.int IntKind.i64 1)) 3, type := 3, pos := "law.go:80", after := #[{ on := 0, ground := Ground.data }], guard := none }).run Try.prog (wr) = .ok (.value (.int .i64 ((j : Int) + 1))) (wr) := by
    have kc : ∀ v, a0_35.eval (.const v) = v := fun _ => rfl
    have e103 := (show a0_35.eval (.tmp 103) = .int .i64 (j : Int) from (fa0_35.at_ 103))
    clear fa0_35 hQ hj0
    generalize a0_35.eval = ρ at *
    go_simp
  refine fa0_35.step 104 (.int .i64 ((j : Int) + 1)) rfl (lb_ I0.size) (wanted_none rfl) r_a0_36 (fun a0_36 fa0_36 => ?_)
  clear r_a0_36
  clear fa0_35
  refine fa0_36.move 13 (.int .i64 ((j : Int) + 1)) _ (Or.inr rfl) rfl (lb_ I0.size) (wanted_none rfl) (fa0_36.at_ 104) (fun a0_37 fa0_37 => ?_)
  clear fa0_36
  refine wpList_nil ?_
  exact hQ a0_37 (I0.keep fa0_37 rfl rfl rfl rfl rfl) (show a0_37.eval (.tmp 13) = .int .i64 ((j : Int) + 1) from (fa0_37.at_ 13))
set_option maxRecDepth 100000 in
set_option maxHeartbeats 1000000 in
theorem mKY {b n1 n2 n3 m n j gg pc : Nat} {C X : ByteArray} {Q : Exit → Act → World → Prop} (_hQp : ∀ c (a : Act) d v w, Q (.panic c) (a.put d v) w → Q (.panic c) a w) (a0 : Act) (wr : World) (I0 : IM b n1 n2 n3 m a0) (hj0 : a0.eval (.tmp 13) = .int .i64 (j : Int)) (hm : m < 100) (hj : j < n) (hn : n ≤ 1048800) (hx : n3 ≤ j)
    (c0 : wr.cell? ⟨b, 2, none⟩ = some (.slice (some ⟨gg, 0, none⟩) n pc)) (c1 : wr.cell? ⟨gg, j * 33, none⟩ = some (.int .u32 ((m : Int) + 100)))
    (_hC : C = X)
    (hQ : ∀ a', IM b n1 n2 n3 m a' → a'.eval (.tmp 13) = .int .i64 ((j : Int) + 1) → Q .normal a' (wr)) : cMK.wp Try.prog Q a0 wr := by
  have hji : (j : Int) < (n : Int) := by omega
  have w7 : IntKind.i64.wrap ((j : Int) + 1) = (j : Int) + 1 := by rw [IntKind.wrap_i64]; omega
  have w8 : IntKind.u8.wrap (m : Int) = (m : Int) := by rw [IntKind.wrap_u8]; omega
  have w9 : IntKind.u32.wrap ((m : Int) + 100) = (m : Int) + 100 := by rw [IntKind.wrap_u32]; omega
  have hxi : (n3 : Int) ≤ (j : Int) := by omega
  have hxd : decide ((j : Int) < (n3 : Int)) = false := decide_eq_false (by omega)
  clear hj hn hm
  have fa0_0 := Fe.refl a0
  unfold cMK
  refine wp_seq (wp_seq ?_)
  refine wp_region_list ?_
  unfold rMK12
  refine fa0_0.move 98 (.int .i64 (j : Int)) _ (Or.inl rfl) rfl (lb_ I0.size) (wanted_none rfl) ((fa0_0.at_ 13).trans hj0) (fun a0_1 fa0_1 => ?_)
  clear fa0_0
  have r_a0_2 : (execOp a0_1.eval { dst := some 99, op := Op.fieldAddr 26 (Operand.tmp 5) 2, type := 0, pos := "law.go:80", after := #[], guard := none }).run Try.prog (wr) = .ok (.value (.pointer (some ⟨b, 2, none⟩))) (wr) := by
    have e5 := (show a0_1.eval (.tmp 5) = .pointer (some ⟨b, 0, none⟩) from ((fa0_1.at_ 5).trans I0.s5))
    clear fa0_1 hQ hj0
    generalize a0_1.eval = ρ at *
    go_simp
  refine fa0_1.step 99 (.pointer (some ⟨b, 2, none⟩)) rfl (lb_ I0.size) (wanted_none rfl) r_a0_2 (fun a0_2 fa0_2 => ?_)
  clear r_a0_2
  clear fa0_1
  have r_a0_3 : (execOp a0_2.eval { dst := some 100, op := Op.load 24 (Operand.tmp 99), type := 24, pos := "law.go:80", after := #[{ on := 1, ground := Ground.data }], guard := none }).run Try.prog (wr) = .ok (.value (.slice (some ⟨gg, 0, none⟩) n pc)) (wr) := by
    have e99 := (show a0_2.eval (.tmp 99) = .pointer (some ⟨b, 2, none⟩) from (fa0_2.at_ 99))
    clear fa0_2 hQ hj0
    generalize a0_2.eval = ρ at *
    go_simp
  refine fa0_2.step 100 (.slice (some ⟨gg, 0, none⟩) n pc) rfl (lb_ I0.size) (wanted_none rfl) r_a0_3 (fun a0_3 fa0_3 => ?_)
  clear r_a0_3
  clear fa0_2
  have r_a0_4 : (execOp a0_3.eval { dst := some 101, op := Op.call { callee := Callee.builtin Builtin.len, args := #[Operand.tmp 100], argTypes := #[24] }, type := 3, pos := "law.go:80", after := #[{ on := 2, ground := Ground.data }], guard := none }).run Try.prog (wr) = .ok (.value (.int .i64 (n : Int))) (wr) := by
    have e100 := (show a0_3.eval (.tmp 100) = .slice (some ⟨gg, 0, none⟩) n pc from (fa0_3.at_ 100))
    clear fa0_3 hQ hj0
    generalize a0_3.eval = ρ at *
    go_simp
  refine fa0_3.step 101 (.int .i64 (n : Int)) rfl (lb_ I0.size) (wanted_none rfl) r_a0_4 (fun a0_4 fa0_4 => ?_)
  clear r_a0_4
  clear fa0_3
  have r_a0_5 : (execOp a0_4.eval { dst := some 102, op := Op.binOp BinOp.lss 3 (Operand.tmp 98) (Operand.tmp 101) 3, type := 4, pos := "law.go:80", after := #[{ on := 0, ground := Ground.data }, { on := 3, ground := Ground.data }], guard := none }).run Try.prog (wr) = .ok (.value (.bool true)) (wr) := by
    have e98 := (show a0_4.eval (.tmp 98) = .int .i64 (j : Int) from (fa0_4.at_ 98))
    have e101 := (show a0_4.eval (.tmp 101) = .int .i64 (n : Int) from (fa0_4.at_ 101))
    clear fa0_4 hQ hj0
    generalize a0_4.eval = ρ at *
    go_simp
  refine fa0_4.step 102 (.bool true) rfl (lb_ I0.size) (wanted_none rfl) r_a0_5 (fun a0_5 fa0_5 => ?_)
  clear r_a0_5
  clear fa0_4
  refine wpList_nil ?_
  change Code.wp _ _ _ _ _
  refine wp_cond_true (show a0_5.eval (.tmp 102) = .bool true from (fa0_5.at_ 102)) (wp_skip ?_)
  change Code.wp _ _ _ _ _
  refine wp_seq (wp_block (wp_seq ?_))
  refine wp_region_list ?_
  unfold rMK14
  refine fa0_5.move 105 (.int .i64 (j : Int)) _ (Or.inl rfl) rfl (lb_ I0.size) (wanted_none rfl) ((fa0_5.at_ 13).trans hj0) (fun a0_6 fa0_6 => ?_)
  clear fa0_5
  refine fa0_6.move 106 (.int .i64 (n3 : Int)) _ (Or.inl rfl) rfl (lb_ I0.size) (wanted_none rfl) ((fa0_6.at_ 3).trans I0.s3) (fun a0_7 fa0_7 => ?_)
  clear fa0_6
  have r_a0_8 : (execOp a0_7.eval { dst := some 107, op := Op.binOp BinOp.lss 3 (Operand.tmp 105) (Operand.tmp 106) 3, type := 4, pos := "law.go:81", after := #[{ on := 0, ground := Ground.data }, { on := 1, ground := Ground.data }], guard := none }).run Try.prog (wr) = .ok (.value (.bool false)) (wr) := by
    have e105 := (show a0_7.eval (.tmp 105) = .int .i64 (j : Int) from (fa0_7.at_ 105))
    have e106 := (show a0_7.eval (.tmp 106) = .int .i64 (n3 : Int) from (fa0_7.at_ 106))
    clear fa0_7 hQ hj0
    generalize a0_7.eval = ρ at *
    go_simp
  refine fa0_7.step 107 (.bool false) rfl (lb_ I0.size) (wanted_none rfl) r_a0_8 (fun a0_8 fa0_8 => ?_)
  clear r_a0_8
  clear fa0_7
  refine fa0_8.move 108 (.bool false) _ (Or.inl rfl) rfl (lb_ I0.size) (wanted_none rfl) (fa0_8.at_ 107) (fun a0_9 fa0_9 => ?_)
  clear fa0_8
  refine fa0_9.skip 109 rfl (lb_ I0.size) ((wanted_at (t := 108) (c := false) (b := true) rfl rfl rfl (lb_ (fa0_9.size.trans I0.size)) (fa0_9.at_ 108)).trans (by rfl)) (fun a0_10 fa0_10 => ?_)
  clear fa0_9
  refine fa0_10.skip 110 rfl (lb_ I0.size) ((wanted_at (t := 108) (c := false) (b := true) rfl rfl rfl (lb_ (fa0_10.size.trans I0.size)) (fa0_10.at_ 108)).trans (by rfl)) (fun a0_11 fa0_11 => ?_)
  clear fa0_10
  refine fa0_11.skip 111 rfl (lb_ I0.size) ((wanted_at (t := 108) (c := false) (b := true) rfl rfl rfl (lb_ (fa0_11.size.trans I0.size)) (fa0_11.at_ 108)).trans (by rfl)) (fun a0_12 fa0_12 => ?_)
  clear fa0_11
  refine fa0_12.skip 112 rfl (lb_ I0.size) ((wanted_at (t := 108) (c := false) (b := true) rfl rfl rfl (lb_ (fa0_12.size.trans I0.size)) (fa0_12.at_ 108)).trans (by rfl)) (fun a0_13 fa0_13 => ?_)
  clear fa0_12
  refine fa0_13.skip 113 rfl (lb_ I0.size) ((wanted_at (t := 108) (c := false) (b := true) rfl rfl rfl (lb_ (fa0_13.size.trans I0.size)) (fa0_13.at_ 108)).trans (by rfl)) (fun a0_14 fa0_14 => ?_)
  clear fa0_13
  refine fa0_14.skip 114 rfl (lb_ I0.size) ((wanted_at (t := 108) (c := false) (b := true) rfl rfl rfl (lb_ (fa0_14.size.trans I0.size)) (fa0_14.at_ 108)).trans (by rfl)) (fun a0_15 fa0_15 => ?_)
  clear fa0_14
  refine fa0_15.skip 115 rfl (lb_ I0.size) ((wanted_at (t := 108) (c := false) (b := true) rfl rfl rfl (lb_ (fa0_15.size.trans I0.size)) (fa0_15.at_ 108)).trans (by rfl)) (fun a0_16 fa0_16 => ?_)
  clear fa0_15
  refine fa0_16.skip 116 rfl (lb_ I0.size) ((wanted_at (t := 108) (c := false) (b := true) rfl rfl rfl (lb_ (fa0_16.size.trans I0.size)) (fa0_16.at_ 108)).trans (by rfl)) (fun a0_17 fa0_17 => ?_)
  clear fa0_16
  have r_a0_18 : (execOp a0_17.eval { dst := some 117, op := Op.pick (Operand.tmp 108) (Operand.tmp 116) (Operand.const (Value.bool false)), type := 4, pos := "law.go:81", after := #[{ on := 3, ground := Ground.data }, { on := 11, ground := Ground.data }], guard := none }).run Try.prog (wr) = .ok (.value (.bool false)) (wr) := by
    have kc : ∀ v, a0_17.eval (.const v) = v := fun _ => rfl
    have e108 := (show a0_17.eval (.tmp 108) = .bool false from (fa0_17.at_ 108))
    have e116 := (show a0_17.eval (.tmp 116) = undef from (fa0_17.at_ 116))
    clear fa0_17 hQ hj0
    generalize a0_17.eval = ρ at *
    go_simp
  refine fa0_17.step 117 (.bool false) rfl (lb_ I0.size) (wanted_none rfl) r_a0_18 (fun a0_18 fa0_18 => ?_)
  clear r_a0_18
  clear fa0_17
  refine fa0_18.move 118 (.bool false) _ (Or.inl rfl) rfl (lb_ I0.size) (wanted_none rfl) (fa0_18.at_ 117) (fun a0_19 fa0_19 => ?_)
  clear fa0_18
  refine fa0_19.move 119 (.int .i64 (j : Int)) _ (Or.inl rfl) rfl (lb_ I0.size) ((wanted_at (t := 118) (c := false) (b := false) rfl rfl rfl (lb_ (fa0_19.size.trans I0.size)) (fa0_19.at_ 118)).trans (by rfl)) ((fa0_19.at_ 13).trans hj0) (fun a0_20 fa0_20 => ?_)
  clear fa0_19
  refine fa0_20.move 120 (.int .i64 (n3 : Int)) _ (Or.inl rfl) rfl (lb_ I0.size) ((wanted_at (t := 118) (c := false) (b := false) rfl rfl rfl (lb_ (fa0_20.size.trans I0.size)) (fa0_20.at_ 118)).trans (by rfl)) ((fa0_20.at_ 3).trans I0.s3) (fun a0_21 fa0_21 => ?_)
  clear fa0_20
  have r_a0_22 : (execOp a0_21.eval { dst := some 121, op := Op.binOp BinOp.geq 3 (Operand.tmp 119) (Operand.tmp 120) 3, type := 4, pos := "law.go:81", after := #[{ on := 14, ground := Ground.data }, { on := 15, ground := Ground.data }, { on := 13, ground := Ground.guard }], guard := some (13, false) }).run Try.prog (wr) = .ok (.value (.bool true)) (wr) := by
    have e119 := (show a0_21.eval (.tmp 119) = .int .i64 (j : Int) from (fa0_21.at_ 119))
    have e120 := (show a0_21.eval (.tmp 120) = .int .i64 (n3 : Int) from (fa0_21.at_ 120))
    clear fa0_21 hQ hj0
    generalize a0_21.eval = ρ at *
    go_simp
  refine fa0_21.step 121 (.bool true) rfl (lb_ I0.size) ((wanted_at (t := 118) (c := false) (b := false) rfl rfl rfl (lb_ (fa0_21.size.trans I0.size)) (fa0_21.at_ 118)).trans (by rfl)) r_a0_22 (fun a0_22 fa0_22 => ?_)
  clear r_a0_22
  clear fa0_21
  refine fa0_22.move 122 (.bool true) _ (Or.inl rfl) rfl (lb_ I0.size) ((wanted_at (t := 118) (c := false) (b := false) rfl rfl rfl (lb_ (fa0_22.size.trans I0.size)) (fa0_22.at_ 118)).trans (by rfl)) (fa0_22.at_ 121) (fun a0_23 fa0_23 => ?_)
  clear fa0_22
  have r_a0_24 : (execOp a0_23.eval { dst := some 123, op := Op.fieldAddr 26 (Operand.tmp 5) 2, type := 0, pos := "law.go:81", after := #[{ on := 17, ground := Ground.guard }], guard := some (17, true) }).run Try.prog (wr) = .ok (.value (.pointer (some ⟨b, 2, none⟩))) (wr) := by
    have e5 := (show a0_23.eval (.tmp 5) = .pointer (some ⟨b, 0, none⟩) from ((fa0_23.at_ 5).trans I0.s5))
    clear fa0_23 hQ hj0
    generalize a0_23.eval = ρ at *
    go_simp
  refine fa0_23.step 123 (.pointer (some ⟨b, 2, none⟩)) rfl (lb_ I0.size) ((wanted_at (t := 122) (c := true) (b := true) rfl rfl rfl (lb_ (fa0_23.size.trans I0.size)) (fa0_23.at_ 122)).trans (by rfl)) r_a0_24 (fun a0_24 fa0_24 => ?_)
  clear r_a0_24
  clear fa0_23
  have r_a0_25 : (execOp a0_24.eval { dst := some 124, op := Op.load 24 (Operand.tmp 123), type := 24, pos := "law.go:81", after := #[{ on := 18, ground := Ground.data }, { on := 17, ground := Ground.guard }], guard := some (17, true) }).run Try.prog (wr) = .ok (.value (.slice (some ⟨gg, 0, none⟩) n pc)) (wr) := by
    have e123 := (show a0_24.eval (.tmp 123) = .pointer (some ⟨b, 2, none⟩) from (fa0_24.at_ 123))
    clear fa0_24 hQ hj0
    generalize a0_24.eval = ρ at *
    go_simp
  refine fa0_24.step 124 (.slice (some ⟨gg, 0, none⟩) n pc) rfl (lb_ I0.size) ((wanted_at (t := 122) (c := true) (b := true) rfl rfl rfl (lb_ (fa0_24.size.trans I0.size)) (fa0_24.at_ 122)).trans (by rfl)) r_a0_25 (fun a0_25 fa0_25 => ?_)
  clear r_a0_25
  clear fa0_24
  refine fa0_25.move 125 (.int .i64 (j : Int)) _ (Or.inl rfl) rfl (lb_ I0.size) ((wanted_at (t := 122) (c := true) (b := true) rfl rfl rfl (lb_ (fa0_25.size.trans I0.size)) (fa0_25.at_ 122)).trans (by rfl)) ((fa0_25.at_ 13).trans hj0) (fun a0_26 fa0_26 => ?_)
  clear fa0_25
  have r_a0_27 : (execOp a0_26.eval { dst := some 126, op := Op.indexAddr 24 (Operand.tmp 124) (Operand.tmp 125), type := 0, pos := "law.go:81", after := #[{ on := 19, ground := Ground.data }, { on := 20, ground := Ground.data }, { on := 17, ground := Ground.guard }], guard := some (17, true) }).run Try.prog (wr) = .ok (.value (.pointer (some ⟨gg, j * 33, none⟩))) (wr) := by
    have e124 := (show a0_26.eval (.tmp 124) = .slice (some ⟨gg, 0, none⟩) n pc from (fa0_26.at_ 124))
    have e125 := (show a0_26.eval (.tmp 125) = .int .i64 (j : Int) from (fa0_26.at_ 125))
    clear fa0_26 hQ hj0
    generalize a0_26.eval = ρ at *
    go_simp
  refine fa0_26.step 126 (.pointer (some ⟨gg, j * 33, none⟩)) rfl (lb_ I0.size) ((wanted_at (t := 122) (c := true) (b := true) rfl rfl rfl (lb_ (fa0_26.size.trans I0.size)) (fa0_26.at_ 122)).trans (by rfl)) r_a0_27 (fun a0_27 fa0_27 => ?_)
  clear r_a0_27
  clear fa0_26
  have r_a0_28 : (execOp a0_27.eval { dst := some 127, op := Op.fieldAddr 37 (Operand.tmp 126) 0, type := 0, pos := "law.go:81", after := #[{ on := 21, ground := Ground.data }, { on := 17, ground := Ground.guard }], guard := some (17, true) }).run Try.prog (wr) = .ok (.value (.pointer (some ⟨gg, j * 33, none⟩))) (wr) := by
    have e126 := (show a0_27.eval (.tmp 126) = .pointer (some ⟨gg, j * 33, none⟩) from (fa0_27.at_ 126))
    clear fa0_27 hQ hj0
    generalize a0_27.eval = ρ at *
    go_simp
  refine fa0_27.step 127 (.pointer (some ⟨gg, j * 33, none⟩)) rfl (lb_ I0.size) ((wanted_at (t := 122) (c := true) (b := true) rfl rfl rfl (lb_ (fa0_27.size.trans I0.size)) (fa0_27.at_ 122)).trans (by rfl)) r_a0_28 (fun a0_28 fa0_28 => ?_)
  clear r_a0_28
  clear fa0_27
  have r_a0_29 : (execOp a0_28.eval { dst := some 128, op := Op.load 30 (Operand.tmp 127), type := 30, pos := "law.go:81", after := #[{ on := 22, ground := Ground.data }, { on := 17, ground := Ground.guard }], guard := some (17, true) }).run Try.prog (wr) = .ok (.value (.int .u32 ((m : Int) + 100))) (wr) := by
    have e127 := (show a0_28.eval (.tmp 127) = .pointer (some ⟨gg, j * 33, none⟩) from (fa0_28.at_ 127))
    clear fa0_28 hQ hj0
    generalize a0_28.eval = ρ at *
    go_simp
  refine fa0_28.step 128 (.int .u32 ((m : Int) + 100)) rfl (lb_ I0.size) ((wanted_at (t := 122) (c := true) (b := true) rfl rfl rfl (lb_ (fa0_28.size.trans I0.size)) (fa0_28.at_ 122)).trans (by rfl)) r_a0_29 (fun a0_29 fa0_29 => ?_)
  clear r_a0_29
  clear fa0_28
  refine fa0_29.move 129 (.int .u32 (m : Int)) _ (Or.inl rfl) rfl (lb_ I0.size) ((wanted_at (t := 122) (c := true) (b := true) rfl rfl rfl (lb_ (fa0_29.size.trans I0.size)) (fa0_29.at_ 122)).trans (by rfl)) ((fa0_29.at_ 4).trans I0.s4) (fun a0_30 fa0_30 => ?_)
  clear fa0_29
  have r_a0_31 : (execOp a0_30.eval { dst := some 130, op := Op.binOp BinOp.add 30 (Operand.tmp 129) (Operand.const (Value.int IntKind.u32 100)) 30, type := 30, pos := "law.go:81", after := #[{ on := 24, ground := Ground.data }, { on := 17, ground := Ground.guard }], guard := some (17, true) }).run Try.prog (wr) = .ok (.value (.int .u32 ((m : Int) + 100))) (wr) := by
    have kc : ∀ v, a0_30.eval (.const v) = v := fun _ => rfl
    have e129 := (show a0_30.eval (.tmp 129) = .int .u32 (m : Int) from (fa0_30.at_ 129))
    clear fa0_30 hQ hj0
    generalize a0_30.eval = ρ at *
    go_simp
  refine fa0_30.step 130 (.int .u32 ((m : Int) + 100)) rfl (lb_ I0.size) ((wanted_at (t := 122) (c := true) (b := true) rfl rfl rfl (lb_ (fa0_30.size.trans I0.size)) (fa0_30.at_ 122)).trans (by rfl)) r_a0_31 (fun a0_31 fa0_31 => ?_)
  clear r_a0_31
  clear fa0_30
  have r_a0_32 : (execOp a0_31.eval { dst := some 131, op := Op.binOp BinOp.neq 30 (Operand.tmp 128) (Operand.tmp 130) 30, type := 4, pos := "law.go:81", after := #[{ on := 23, ground := Ground.data }, { on := 25, ground := Ground.data }, { on := 17, ground := Ground.guard }], guard := some (17, true) }).run Try.prog (wr) = .ok (.value (.bool false)) (wr) := by
    have e128 := (show a0_31.eval (.tmp 128) = .int .u32 ((m : Int) + 100) from (fa0_31.at_ 128))
    have e130 := (show a0_31.eval (.tmp 130) = .int .u32 ((m : Int) + 100) from (fa0_31.at_ 130))
    clear fa0_31 hQ hj0
    generalize a0_31.eval = ρ at *
    go_simp
  refine fa0_31.step 131 (.bool false) rfl (lb_ I0.size) ((wanted_at (t := 122) (c := true) (b := true) rfl rfl rfl (lb_ (fa0_31.size.trans I0.size)) (fa0_31.at_ 122)).trans (by rfl)) r_a0_32 (fun a0_32 fa0_32 => ?_)
  clear r_a0_32
  clear fa0_31
  have r_a0_33 : (execOp a0_32.eval { dst := some 132, op := Op.pick (Operand.tmp 122) (Operand.tmp 131) (Operand.const (Value.bool false)), type := 4, pos := "law.go:81", after := #[{ on := 17, ground := Ground.data }, { on := 26, ground := Ground.data }, { on := 13, ground := Ground.guard }], guard := some (13, false) }).run Try.prog (wr) = .ok (.value (.bool false)) (wr) := by
    have kc : ∀ v, a0_32.eval (.const v) = v := fun _ => rfl
    have e122 := (show a0_32.eval (.tmp 122) = .bool true from (fa0_32.at_ 122))
    have e131 := (show a0_32.eval (.tmp 131) = .bool false from (fa0_32.at_ 131))
    clear fa0_32 hQ hj0
    generalize a0_32.eval = ρ at *
    go_simp
  refine fa0_32.step 132 (.bool false) rfl (lb_ I0.size) ((wanted_at (t := 118) (c := false) (b := false) rfl rfl rfl (lb_ (fa0_32.size.trans I0.size)) (fa0_32.at_ 118)).trans (by rfl)) r_a0_33 (fun a0_33 fa0_33 => ?_)
  clear r_a0_33
  clear fa0_32
  have r_a0_34 : (execOp a0_33.eval { dst := some 133, op := Op.pick (Operand.tmp 118) (Operand.const (Value.bool true)) (Operand.tmp 132), type := 4, pos := "law.go:81", after := #[{ on := 13, ground := Ground.data }, { on := 27, ground := Ground.data }], guard := none }).run Try.prog (wr) = .ok (.value (.bool false)) (wr) := by
    have kc : ∀ v, a0_33.eval (.const v) = v := fun _ => rfl
    have e118 := (show a0_33.eval (.tmp 118) = .bool false from (fa0_33.at_ 118))
    have e132 := (show a0_33.eval (.tmp 132) = .bool false from (fa0_33.at_ 132))
    clear fa0_33 hQ hj0
    generalize a0_33.eval = ρ at *
    go_simp
  refine fa0_33.step 133 (.bool false) rfl (lb_ I0.size) (wanted_none rfl) r_a0_34 (fun a0_34 fa0_34 => ?_)
  clear r_a0_34
  clear fa0_33
  refine wpList_nil ?_
  change Code.wp _ _ _ _ _
  refine wp_cond_false (show a0_34.eval (.tmp 133) = .bool false from (fa0_34.at_ 133)) (wp_skip ?_)
  change Code.wp _ _ _ _ _
  refine wp_region_list ?_
  unfold rMK13
  refine fa0_34.move 103 (.int .i64 (j : Int)) _ (Or.inl rfl) rfl (lb_ I0.size) (wanted_none rfl) ((fa0_34.at_ 13).trans hj0) (fun a0_35 fa0_35 => ?_)
  clear fa0_34
  have r_a0_36 : (execOp a0_35.eval { dst := some 104, op := Op.binOp BinOp.add 3 (Operand.tmp 103) (Operand.const (Value.int IntKind.i64 1)) 3, type := 3, pos := "law.go:80", after := #[{ on := 0, ground := Ground.data }], guard := none }).run Try.prog (wr) = .ok (.value (.int .i64 ((j : Int) + 1))) (wr) := by
    have kc : ∀ v, a0_35.eval (.const v) = v := fun _ => rfl
    have e103 := (show a0_35.eval (.tmp 103) = .int .i64 (j : Int) from (fa0_35.at_ 103))
    clear fa0_35 hQ hj0
    generalize a0_35.eval = ρ at *
    go_simp
  refine fa0_35.step 104 (.int .i64 ((j : Int) + 1)) rfl (lb_ I0.size) (wanted_none rfl) r_a0_36 (fun a0_36 fa0_36 => ?_)
  clear r_a0_36
  clear fa0_35
  refine fa0_36.move 13 (.int .i64 ((j : Int) + 1)) _ (Or.inr rfl) rfl (lb_ I0.size) (wanted_none rfl) (fa0_36.at_ 104) (fun a0_37 fa0_37 => ?_)
  clear fa0_36
  refine wpList_nil ?_
  exact hQ a0_37 (I0.keep fa0_37 rfl rfl rfl rfl rfl) (show a0_37.eval (.tmp 13) = .int .i64 ((j : Int) + 1) from (fa0_37.at_ 13))
set_option maxRecDepth 100000 in
theorem mKE {b n1 n2 n3 m n pc : Nat} {pa : Option Addr} {Q : Exit → Act → World → Prop} (a0 : Act) (wr : World) (I0 : IM b n1 n2 n3 m a0) (hj0 : a0.eval (.tmp 13) = .int .i64 (n : Int)) (c0 : wr.cell? ⟨b, 2, none⟩ = some (.slice pa n pc))
    (hQ : ∀ a', IM b n1 n2 n3 m a' → Q (.exit 4) a' wr) : cMK.wp Try.prog Q a0 wr := by
  have fa0_0 := Fe.refl a0
  unfold cMK
  refine wp_seq (wp_seq ?_)
  refine wp_region_list ?_
  unfold rMK12
  refine fa0_0.move 98 (.int .i64 (n : Int)) _ (Or.inl rfl) rfl (lb_ I0.size) (wanted_none rfl) ((fa0_0.at_ 13).trans hj0) (fun a0_1 fa0_1 => ?_)
  clear fa0_0
  have r_a0_2 : (execOp a0_1.eval { dst := some 99, op := Op.fieldAddr 26 (Operand.tmp 5) 2, type := 0, pos := "law.go:80", after := #[], guard := none }).run Try.prog (wr) = .ok (.value (.pointer (some ⟨b, 2, none⟩))) (wr) := by
    have e5 := (show a0_1.eval (.tmp 5) = .pointer (some ⟨b, 0, none⟩) from ((fa0_1.at_ 5).trans I0.s5))
    clear fa0_1 hQ hj0
    generalize a0_1.eval = ρ at *
    go_simp
  refine fa0_1.step 99 (.pointer (some ⟨b, 2, none⟩)) rfl (lb_ I0.size) (wanted_none rfl) r_a0_2 (fun a0_2 fa0_2 => ?_)
  clear r_a0_2
  clear fa0_1
  have r_a0_3 : (execOp a0_2.eval { dst := some 100, op := Op.load 24 (Operand.tmp 99), type := 24, pos := "law.go:80", after := #[{ on := 1, ground := Ground.data }], guard := none }).run Try.prog (wr) = .ok (.value (.slice pa n pc)) (wr) := by
    have e99 := (show a0_2.eval (.tmp 99) = .pointer (some ⟨b, 2, none⟩) from (fa0_2.at_ 99))
    clear fa0_2 hQ hj0
    generalize a0_2.eval = ρ at *
    go_simp
  refine fa0_2.step 100 (.slice pa n pc) rfl (lb_ I0.size) (wanted_none rfl) r_a0_3 (fun a0_3 fa0_3 => ?_)
  clear r_a0_3
  clear fa0_2
  have r_a0_4 : (execOp a0_3.eval { dst := some 101, op := Op.call { callee := Callee.builtin Builtin.len, args := #[Operand.tmp 100], argTypes := #[24] }, type := 3, pos := "law.go:80", after := #[{ on := 2, ground := Ground.data }], guard := none }).run Try.prog (wr) = .ok (.value (.int .i64 (n : Int))) (wr) := by
    have e100 := (show a0_3.eval (.tmp 100) = .slice pa n pc from (fa0_3.at_ 100))
    clear fa0_3 hQ hj0
    generalize a0_3.eval = ρ at *
    go_simp
  refine fa0_3.step 101 (.int .i64 (n : Int)) rfl (lb_ I0.size) (wanted_none rfl) r_a0_4 (fun a0_4 fa0_4 => ?_)
  clear r_a0_4
  clear fa0_3
  have r_a0_5 : (execOp a0_4.eval { dst := some 102, op := Op.binOp BinOp.lss 3 (Operand.tmp 98) (Operand.tmp 101) 3, type := 4, pos := "law.go:80", after := #[{ on := 0, ground := Ground.data }, { on := 3, ground := Ground.data }], guard := none }).run Try.prog (wr) = .ok (.value (.bool false)) (wr) := by
    have e98 := (show a0_4.eval (.tmp 98) = .int .i64 (n : Int) from (fa0_4.at_ 98))
    have e101 := (show a0_4.eval (.tmp 101) = .int .i64 (n : Int) from (fa0_4.at_ 101))
    clear fa0_4 hQ hj0
    generalize a0_4.eval = ρ at *
    go_simp
  refine fa0_4.step 102 (.bool false) rfl (lb_ I0.size) (wanted_none rfl) r_a0_5 (fun a0_5 fa0_5 => ?_)
  clear r_a0_5
  clear fa0_4
  refine wpList_nil ?_
  change Code.wp _ _ _ _ _
  refine wp_cond_false (show a0_5.eval (.tmp 102) = .bool false from (fa0_5.at_ 102)) (wp_exit ?_)
  exact hQ a0_5 (I0.keep fa0_5 rfl rfl rfl rfl rfl)
theorem mKL {b n1 n2 n3 m n pc e : Nat} {pa : Option Addr} {Q : Exit → Act → World → Prop} (hQp : ∀ c (a : Act) d v w, Q (.panic c) (a.put d v) w → Q (.panic c) a w) (a0 : Act) (V : World) (I0 : IM b n1 n2 n3 m a0) (hj0 : a0.eval (.tmp 13) = .int .i64 ((0 : Nat) : Int)) (hm : m < 100) (hn : n ≤ 1048800) (he : n = n3 + e)
    (hB : ∀ W, Same V W → W.cell? ⟨b, 2, none⟩ = some (.slice pa n pc))
    (hX : ∀ W k, Same V W → k < n3 → ∃ g, pa = some ⟨g, 0, none⟩ ∧ W.cell? ⟨g, k * 33, none⟩ = some (.int .u32 (m : Int))) (hY : ∀ W k, Same V W → n3 ≤ k → k < n3 + e → ∃ g, pa = some ⟨g, 0, none⟩ ∧ W.cell? ⟨g, k * 33, none⟩ = some (.int .u32 ((m : Int) + 100)))
    
    (hQ : ∀ a' W, IM b n1 n2 n3 m a' → Same V W → Q (.exit 4) a' W) : (Code.loop cMK).wp Try.prog Q a0 V := by
  refine wp_loop (fun a' W => IM b n1 n2 n3 m a' ∧ Same V W ∧ ∃ k : Nat, k ≤ n ∧ a'.eval (.tmp 13) = .int .i64 (k : Int)) (fun a' _ => n - kOfN a' 13) ⟨I0, Fr.refl _ V, 0, Nat.zero_le _, hj0⟩ ?_
  rintro a1 W ⟨I1, s1, k, hk, g1⟩
  by_cases hgo : k < n
  · have nx : ∀ a' W', Same W W' → IM b n1 n2 n3 m a' → a'.eval (.tmp 13) = .int .i64 ((k : Int) + 1) → Exit.then (fun a' W => (IM b n1 n2 n3 m a' ∧ Same V W ∧ ∃ k : Nat, k ≤ n ∧ a'.eval (.tmp 13) = .int .i64 (k : Int)) ∧ n - kOfN a' 13 < n - kOfN a1 13) Q .normal a' W' := fun a' W' s2 h1 h3 => by
      have h4 : a'.eval (.tmp 13) = .int .i64 ((k + 1 : Nat) : Int) := h3
      refine ⟨⟨h1, Fr.trans s1 s2 (fun _ _ f => f), k + 1, hgo, h4⟩, ?_⟩
      rw [kOfN_eq h4, kOfN_eq g1]
      omega
    by_cases hx : k < n3
    · obtain ⟨g, eg, c1⟩ := hX W k s1 hx
      subst eg
      exact mKX (by intro c a d v w h; exact hQp c a d v w h) a1 W I1 g1 hm hgo hn hx (hB W s1) c1 (C := ⟨#[]⟩) rfl (fun a' i2 h2 => nx a' _ (Fr.refl _ W) i2 h2)
    · obtain ⟨g, eg, c1⟩ := hY W k s1 (Nat.le_of_not_lt hx) (by omega)
      subst eg
      exact mKY (by intro c a d v w h; exact hQp c a d v w h) a1 W I1 g1 hm hgo hn (Nat.le_of_not_lt hx) (hB W s1) c1 (C := ⟨#[]⟩) rfl (fun a' i2 h2 => nx a' _ (Fr.refl _ W) i2 h2)
  · obtain rfl : n = k := by omega
    exact mKE a1 W I1 g1 (hB W s1) (fun a' i2 => hQ a' W i2 s1)
def cMRK : Code := (Code.seq (Code.region 0 rMK0 false) (Code.seq (Code.seq (Code.region 1 rMK1 false) (Code.block 0 (Code.loop cMP))) (Code.seq (Code.seq (Code.region 6 rMK6 false) (Code.block 2 (Code.loop cMS))) (Code.seq (Code.seq (Code.region 11 rMK11 false) (Code.block 4 (Code.loop cMK))) (Code.seq (Code.region 16 rMK16 false) Code.ret)))))
set_option maxRecDepth 100000 in
set_option maxHeartbeats 1000000 in
theorem marked_calls (m : Nat) (hm : m < 100) {p s k : Sl} {ap bp as_ bs ak bk : Nat} (w : World) (hP : Mk2 FP w p ap bp m) (hS : Mk2 FS w s as_ bs m) (hK : Mk2 FK w k ak bk m) (l1 : p.n ≤ 1048800) (l2 : s.n ≤ 1048800) (l3 : k.n ≤ 1048800) :
    Calls Try.prog 20 #[nV p s k, .int .i64 (ap : Int), .int .i64 (as_ : Int), .int .i64 (ak : Int), .int .u32 (m : Int)] w fun e w' => e = .returned (.bool true) ∧ Same w w' := by
  obtain ⟨V, hV⟩ : ∃ V, V = w.alloc (.cells #[p.v, s.v, k.v] 26) := ⟨_, rfl⟩
  have sx : Same w V := by rw [hV]; exact (Fr.refl _ w).alloc _
  have a0c : V.cell? ⟨w.heap.size, 0, none⟩ = some p.v := by rw [hV]; simp
  have a1c : V.cell? ⟨w.heap.size, 1, none⟩ = some s.v := by rw [hV]; simp
  have a2c : V.cell? ⟨w.heap.size, 2, none⟩ = some k.v := by rw [hV]; simp
  have HC : ∀ W, Same V W → W.cell? ⟨w.heap.size, 0, none⟩ = some p.v ∧ W.cell? ⟨w.heap.size, 1, none⟩ = some s.v ∧ W.cell? ⟨w.heap.size, 2, none⟩ = some k.v := fun W f => ⟨f.keep a0c, f.keep a1c, f.keep a2c⟩
  have np := hP.n
  have ns := hS.n
  have nk := hK.n
  have hcv := fun W => one_strD W m (by omega)
  have hCs : (⟨#[UInt8.ofNat m]⟩ : ByteArray).size = 1 := rfl
  obtain ⟨X, eX⟩ : ∃ X : ByteArray, X = (⟨#[120]⟩ : ByteArray) ++ ⟨#[UInt8.ofNat m]⟩ := ⟨_, rfl⟩
  obtain ⟨Y, eY⟩ : ∃ Y : ByteArray, Y = (⟨#[121]⟩ : ByteArray) ++ ⟨#[UInt8.ofNat m]⟩ := ⟨_, rfl⟩
  have emX : mkS m = X := by rw [eX]; exact if_pos (by omega)
  have emY : mkS (256 + m) = Y := by rw [eY]; unfold mkS; rw [if_neg (by omega), Nat.add_sub_cancel_left]
  have egX : mkG m = m := if_pos (by omega)
  have egY : mkG (256 + m) = m + 100 := by unfold mkG; rw [if_neg (by omega), Nat.add_sub_cancel_left]
  have PX : ∀ W j, Same V W → j < ap → ∃ g, p.ao = some ⟨g, 0, none⟩ ∧ W.cell? ⟨g, j * 2, none⟩ = some (.string X) := fun W j s' hj => by
    have hv : (FP.mrk m)[0]? = some (Value.string (mkS m)) := rfl
    rw [emX] at hv
    obtain ⟨g, hg, hc⟩ := (hP.same (sx.trans s')).one hj hv
    rw [FP_sz, Nat.add_zero] at hc
    exact ⟨g, hg, hc⟩
  have PY : ∀ W j, Same V W → ap ≤ j → j < ap + bp → ∃ g, p.ao = some ⟨g, 0, none⟩ ∧ W.cell? ⟨g, j * 2, none⟩ = some (.string Y) := fun W j s' hj hj2 => by
    have hv : (FP.mrk (256 + m))[0]? = some (Value.string (mkS (256 + m))) := rfl
    rw [emY] at hv
    obtain ⟨g, hg, hc⟩ := (hP.same (sx.trans s')).two hj hj2 hv
    rw [FP_sz, Nat.add_zero] at hc
    exact ⟨g, hg, hc⟩
  have SX : ∀ W j, Same V W → j < as_ → ∃ g, s.ao = some ⟨g, 0, none⟩ ∧ W.cell? ⟨g, j, none⟩ = some (.string X) := fun W j s' hj => by
    have hv : (FS.mrk m)[0]? = some (Value.string (mkS m)) := rfl
    rw [emX] at hv
    obtain ⟨g, hg, hc⟩ := (hS.same (sx.trans s')).one hj hv
    rw [FS_sz, Nat.add_zero, Nat.mul_one] at hc
    exact ⟨g, hg, hc⟩
  have SY : ∀ W j, Same V W → as_ ≤ j → j < as_ + bs → ∃ g, s.ao = some ⟨g, 0, none⟩ ∧ W.cell? ⟨g, j, none⟩ = some (.string Y) := fun W j s' hj hj2 => by
    have hv : (FS.mrk (256 + m))[0]? = some (Value.string (mkS (256 + m))) := rfl
    rw [emY] at hv
    obtain ⟨g, hg, hc⟩ := (hS.same (sx.trans s')).two hj hj2 hv
    rw [FS_sz, Nat.add_zero, Nat.mul_one] at hc
    exact ⟨g, hg, hc⟩
  have KX : ∀ W j, Same V W → j < ak → ∃ g, k.ao = some ⟨g, 0, none⟩ ∧ W.cell? ⟨g, j * 33, none⟩ = some (.int .u32 (m : Int)) := fun W j s' hj => by
    have hv : (FK.mrk m)[0]? = some (Value.int .u32 (mkG m : Nat)) := rfl
    rw [egX] at hv
    obtain ⟨g, hg, hc⟩ := (hK.same (sx.trans s')).one hj hv
    rw [FK_sz, Nat.add_zero] at hc
    exact ⟨g, hg, hc⟩
  have KY : ∀ W j, Same V W → ak ≤ j → j < ak + bk → ∃ g, k.ao = some ⟨g, 0, none⟩ ∧ W.cell? ⟨g, j * 33, none⟩ = some (.int .u32 ((m : Int) + 100)) := fun W j s' hj hj2 => by
    have hv : (FK.mrk (256 + m))[0]? = some (Value.int .u32 (mkG (256 + m) : Nat)) := rfl
    rw [egY] at hv
    obtain ⟨g, hg, hc⟩ := (hK.same (sx.trans s')).two hj hj2 hv
    rw [FK_sz, Nat.add_zero] at hc
    exact ⟨g, hg, hc⟩
  refine calls_abs (c := cMRK) Try.func20 (by kernel_rfl) 134 rfl (by simp) (fun a0 hsz hd ha => ?_)
  have fa0_0 := Fe.refl a0
  unfold cMRK
  refine wp_seq ?_
  refine wp_region_list ?_
  unfold rMK0
  have r_a0_1 : (execOp a0.eval { dst := some 5, op := Op.box 26 (Operand.tmp 0), type := 0, pos := "law.go:69", after := #[], guard := none }).run Try.prog (w) = .ok (.value (.pointer (some ⟨w.heap.size, 0, none⟩))) (w.alloc (.cells #[p.v, s.v, k.v] 26)) := by
    have e0 := (show a0.eval (.tmp 0) = nV p s k from ((fa0_0.at_ 0).trans (ha 0 _ rfl)))
    clear fa0_0 
    generalize a0.eval = ρ at *
    go_simp
  refine fa0_0.stepW 5 (.pointer (some ⟨w.heap.size, 0, none⟩)) rfl (lb_ hsz) (wanted_none rfl) r_a0_1 (fun a0_1 fa0_1 => ?_)
  clear r_a0_1
  clear fa0_0
  refine fa0_1.move 10 (.bool false) _ (Or.inr rfl) rfl (lb_ hsz) (wanted_none rfl) rfl (fun a0_2 fa0_2 => ?_)
  clear fa0_1
  refine wpList_nil ?_
  rw [← hV]
  change Code.wp _ _ _ _ _
  refine wp_seq (wp_seq ?_)
  refine wp_region_list ?_
  unfold rMK1
  refine fa0_2.move 11 (.int .i64 ((0 : Nat) : Int)) _ (Or.inr rfl) rfl (lb_ hsz) (wanted_none rfl) rfl (fun a0_3 fa0_3 => ?_)
  clear fa0_2
  refine wpList_nil ?_
  have i0 : IM w.heap.size ap as_ ak m a0_3 := ⟨fa0_3.size.trans hsz, fa0_3.defers.trans hd, (show a0_3.eval (.tmp 1) = .int .i64 (ap : Int) from ((fa0_3.at_ 1).trans (ha 1 _ rfl))), (show a0_3.eval (.tmp 2) = .int .i64 (as_ : Int) from ((fa0_3.at_ 2).trans (ha 2 _ rfl))), (show a0_3.eval (.tmp 3) = .int .i64 (ak : Int) from ((fa0_3.at_ 3).trans (ha 3 _ rfl))), (show a0_3.eval (.tmp 4) = .int .u32 (m : Int) from ((fa0_3.at_ 4).trans (ha 4 _ rfl))), (show a0_3.eval (.tmp 5) = .pointer (some ⟨w.heap.size, 0, none⟩) from (fa0_3.at_ 5))⟩
  change Code.wp _ _ _ _ _
  refine wp_block ?_
  refine mPL (by intro c a d v w h; cases d <;> exact h) a0_3 V i0 (show a0_3.eval (.tmp 11) = .int .i64 ((0 : Nat) : Int) from (fa0_3.at_ 11)) hm l1 np (fun W s1 => (HC W s1).1) PX PY hcv hCs eX eY (fun a1 W1 i1 s1 => ?_)
  change Code.wp _ _ _ _ _
  refine wp_seq (wp_seq ?_)
  have fa1_0 := Fe.refl a1
  refine wp_region_list ?_
  unfold rMK6
  refine fa1_0.move 12 (.int .i64 ((0 : Nat) : Int)) _ (Or.inr rfl) rfl (lb_ i1.size) (wanted_none rfl) rfl (fun a1_1 fa1_1 => ?_)
  clear fa1_0
  refine wpList_nil ?_
  change Code.wp _ _ _ _ _
  refine wp_block ?_
  refine mSL (by intro c a d v w h; cases d <;> exact h) a1_1 W1 (i1.keep fa1_1 rfl rfl rfl rfl rfl) (show a1_1.eval (.tmp 12) = .int .i64 ((0 : Nat) : Int) from (fa1_1.at_ 12)) hm l2 ns (fun W s2 => (HC W (s1.trans s2)).2.1) (fun W k s2 => SX W k (s1.trans s2)) (fun W k s2 => SY W k (s1.trans s2)) hcv hCs eX eY (fun a2 W2 i2 s2 => ?_)
  change Code.wp _ _ _ _ _
  refine wp_seq (wp_seq ?_)
  have fa2_0 := Fe.refl a2
  refine wp_region_list ?_
  unfold rMK11
  refine fa2_0.move 13 (.int .i64 ((0 : Nat) : Int)) _ (Or.inr rfl) rfl (lb_ i2.size) (wanted_none rfl) rfl (fun a2_1 fa2_1 => ?_)
  clear fa2_0
  refine wpList_nil ?_
  change Code.wp _ _ _ _ _
  refine wp_block ?_
  refine mKL (by intro c a d v w h; cases d <;> exact h) a2_1 W2 (i2.keep fa2_1 rfl rfl rfl rfl rfl) (show a2_1.eval (.tmp 13) = .int .i64 ((0 : Nat) : Int) from (fa2_1.at_ 13)) hm l3 nk (fun W s3 => (HC W (s1.trans (s2.trans s3))).2.2) (fun W k s3 => KX W k (s1.trans (s2.trans s3))) (fun W k s3 => KY W k (s1.trans (s2.trans s3))) (fun a3 W3 i3 s3 => ?_)
  change Code.wp _ _ _ _ _
  refine wp_seq ?_
  have fa3_0 := Fe.refl a3
  refine wp_region_list ?_
  unfold rMK16
  refine fa3_0.move 10 (.bool true) _ (Or.inr rfl) rfl (lb_ i3.size) (wanted_none rfl) rfl (fun a3_1 fa3_1 => ?_)
  clear fa3_0
  refine wpList_nil ?_
  change Code.wp _ _ _ _ _
  refine wp_ret ?_
  try simp only [Exit.then]
  exact ret_abs rfl (fa3_1.defers.trans i3.defers) (show a3_1.eval (.tmp 10) = .bool true from (fa3_1.at_ 10)) ⟨rfl, sx.trans (s1.trans (s2.trans s3))⟩
end Go.Proofs.Ytjlbkagkmcelgaa
