/- Walks over a frame that is a letter: what its slots hold is all that is known of it. -/
import Derived.BigFrame
import Derived.Deep.RegionHeld
namespace Go.Proofs.Ytpcdpdagcigigaa


theorem lb_ {d n m : Nat} (h : m = n) (hd : d < n := by decide) : d < m := Nat.lt_of_lt_of_eq hd h.symm
theorem eval_put_same {a : Act} {d : Nat} {v : Value} (h : d < a.tmps.size) : (a.put (some d) v).eval (.tmp d) = v := by
  simp [Act.put, Act.eval, Array.getD, h]
theorem eval_put_ne {a : Act} {d t : Nat} {v : Value} (h : d ≠ t) : (a.put (some d) v).eval (.tmp t) = a.eval (.tmp t) := by
  unfold Act.put Act.eval
  simp only [Array.getD_eq_getD_getElem?]
  rw [Array.getElem?_setIfInBounds_ne h]
/-- What a slot holds behind the writes of env (the last one first). -/
def look : List (Nat × Value) → Nat → Value → Value
  | [], _, d => d
  | (k, v) :: l, t, d => cond (Nat.beq k t) v (look l t d)
/-- The frame a is a0 behind the writes of env. -/
structure Fe (a0 : Act) (env : List (Nat × Value)) (a : Act) : Prop where
  size : a.tmps.size = a0.tmps.size
  defers : a.defers = a0.defers
  at_ : ∀ t, a.eval (.tmp t) = look env t (a0.eval (.tmp t))
theorem Fe.refl (a : Act) : Fe a [] a := ⟨rfl, rfl, fun _ => rfl⟩
theorem Fe.push {a0 a : Act} {d : Nat} {env : List (Nat × Value)} (h : Fe a0 env a) (hb : d < a0.tmps.size) (v : Value) : Fe a0 ((d, v) :: env) (a.put (some d) v) := by
  refine ⟨by simp only [Act.put, Array.size_setIfInBounds]; exact h.size, h.defers, fun t => ?_⟩
  show _ = cond (Nat.beq d t) v (look env t (a0.eval (.tmp t)))
  by_cases e : d = t
  · subst e
    rw [eval_put_same (by rw [h.size]; exact hb), Nat.beq_refl]
    rfl
  · have hb : Nat.beq d t = false := by
      cases hq : Nat.beq d t
      · rfl
      · exact absurd (Nat.eq_of_beq_eq_true hq) e
    rw [eval_put_ne e, hb, h.at_ t]
    rfl
section
variable {P : Program} {ops : Array Oper} {Q : Exit → Act → World → Prop} {a0 a : Act} {w : World} {rest : List Oper} {o : Oper} {env : List (Nat × Value)}
/-- An operation that is carried out, and keeps the world. -/
theorem Fe.step (h : Fe a0 env a) (d : Nat) (v : Value) (hd : o.dst = some d) (hb : d < a0.tmps.size) (hw : Region.wanted o (yielded ops a.tmps) = true)
    (hr : (execOp a.eval o).run P w = .ok (.value v) w) (k : ∀ a', Fe a0 ((d, v) :: env) a' → wpList P ops Q rest a' w) : wpList P ops Q (o :: rest) a w := by
  refine BigFrame.wpList_want hw fun K hK => ?_
  unfold Oper.wp
  rw [hr]
  show K (a.put o.dst v) w
  rw [hd]
  exact hK _ _ (k _ (h.push hb v))
/-- One that turns the world. -/
theorem Fe.stepW {w' : World} (h : Fe a0 env a) (d : Nat) (v : Value) (hd : o.dst = some d) (hb : d < a0.tmps.size) (hw : Region.wanted o (yielded ops a.tmps) = true)
    (hr : (execOp a.eval o).run P w = .ok (.value v) w') (k : ∀ a', Fe a0 ((d, v) :: env) a' → wpList P ops Q rest a' w') : wpList P ops Q (o :: rest) a w := by
  refine BigFrame.wpList_want hw fun K hK => ?_
  unfold Oper.wp
  rw [hr]
  show K (a.put o.dst v) w'
  rw [hd]
  exact hK _ _ (k _ (h.push hb v))
/-- A store: no slot is written. -/
theorem Fe.store {w' : World} (h : Fe a0 env a) (hd : o.dst = none) (hw : Region.wanted o (yielded ops a.tmps) = true)
    (hr : (execOp a.eval o).run P w = .ok .skip w') (k : ∀ a', Fe a0 env a' → wpList P ops Q rest a' w') : wpList P ops Q (o :: rest) a w := by
  refine BigFrame.wpList_want hw fun K hK => ?_
  unfold Oper.wp
  rw [hr]
  show K (a.put o.dst undef) w'
  rw [hd]
  exact hK _ _ (k _ h)
/-- A call, by its callee's contract. -/
theorem Fe.call {f : FuncId} {args : Array Value} {R : Ending → World → Prop} (h : Fe a0 env a) (d : Nat) (hd : o.dst = some d) (hb : d < a0.tmps.size) (hw : Region.wanted o (yielded ops a.tmps) = true)
    (hr : (execOp a.eval o).run P w = .ok (.enter f args) w) (hc : Calls P f args w R)
    (k : ∀ e w', R e w' → ∃ v, e = .returned v ∧ ∀ a', Fe a0 ((d, v) :: env) a' → wpList P ops Q rest a' w') : wpList P ops Q (o :: rest) a w := by
  refine BigFrame.wpList_want hw fun K hK => ?_
  unfold Oper.wp
  rw [hr, Oper.upon_enter]
  refine hc.mono fun e w' hR => ?_
  obtain ⟨v, rfl, hk⟩ := k e w' hR
  show K (a.put o.dst v) w'
  rw [hd]
  exact hK _ _ (hk _ (h.push hb v))
/-- One that its guard switches off. -/
theorem Fe.skip (h : Fe a0 env a) (d : Nat) (hd : o.dst = some d) (hb : d < a0.tmps.size) (hw : Region.wanted o (yielded ops a.tmps) = false)
    (k : ∀ a', Fe a0 ((d, undef) :: env) a' → wpList P ops Q rest a' w) : wpList P ops Q (o :: rest) a w := by
  refine wpList_step fun K hK => ?_
  rw [hw]
  show K (a.put o.dst undef) w
  rw [hd]
  exact hK _ _ (k _ (h.push hb undef))
/-- A move or an assignment. -/
theorem Fe.move (h : Fe a0 env a) (d : Nat) (v : Value) (x : Operand) (ho : o.op = .move x ∨ o.op = .assign x) (hd : o.dst = some d) (hb : d < a0.tmps.size) (hw : Region.wanted o (yielded ops a.tmps) = true)
    (hv : a.eval x = v) (k : ∀ a', Fe a0 ((d, v) :: env) a' → wpList P ops Q rest a' w) : wpList P ops Q (o :: rest) a w := by
  refine h.step d v hd hb hw ?_ k
  unfold execOp
  rcases ho with ho | ho <;> rw [ho] <;> simp only [hv] <;> rfl
end
section
variable {P : Program} {ops : Array Oper} {Q : Exit → Act → World → Prop} {a0 a : Act} {w : World} {o : Oper} {env : List (Nat × Value)} {md : Region.Mode} {S : World → Prop} {fuel i : Nat} {listed : Array Bool}
/-- In a region that draws: an operation that is taken first. -/
theorem Fe.take (h : Fe a0 env a) (i : Nat) (d : Nat) (v : Value) (hi : ops[i]? = some o) (hs : Region.noSelect ops = true) (hf : Region.free md ops listed i = true) (hr : (Region.ready md ops listed).contains i = true)
    (hQ : ∀ c a w, Q (.panic c) (a.put o.dst v) w → Q (.panic c) a w) (hd : o.dst = some d) (hb : d < a0.tmps.size) (hw : Region.wanted o (yielded ops a.tmps) = true)
    (hy : ∀ w, S w → (execOp a.eval o).run P w = .ok (.value v) w) (hS : S w) (k : ∀ a', Fe a0 ((d, v) :: env) a' → wpAnyH P md ops Q S fuel (listed.setIfInBounds i true) a' w) : wpAnyH P md ops Q S (fuel + 1) listed a w := by
  refine wpAnyH_take hi hs hf hr hQ (Or.inl ⟨hw, hy⟩) hS ?_
  rw [hd]
  exact k _ (h.push hb v)
theorem Fe.takeOff (h : Fe a0 env a) (i : Nat) (d : Nat) (hi : ops[i]? = some o) (hs : Region.noSelect ops = true) (hf : Region.free md ops listed i = true) (hr : (Region.ready md ops listed).contains i = true)
    (hQ : ∀ c a w, Q (.panic c) (a.put o.dst undef) w → Q (.panic c) a w) (hd : o.dst = some d) (hb : d < a0.tmps.size) (hw : Region.wanted o (yielded ops a.tmps) = false)
    (hS : S w) (k : ∀ a', Fe a0 ((d, undef) :: env) a' → wpAnyH P md ops Q S fuel (listed.setIfInBounds i true) a' w) : wpAnyH P md ops Q S (fuel + 1) listed a w := by
  refine wpAnyH_take hi hs hf hr hQ (Or.inr ⟨hw, rfl⟩) hS ?_
  rw [hd]
  exact k _ (h.push hb undef)
theorem Fe.takeMove (h : Fe a0 env a) (i : Nat) (d : Nat) (v : Value) (x : Operand) (ho : o.op = .move x ∨ o.op = .assign x) (hi : ops[i]? = some o) (hs : Region.noSelect ops = true) (hf : Region.free md ops listed i = true) (hr : (Region.ready md ops listed).contains i = true)
    (hQ : ∀ c a w, Q (.panic c) (a.put o.dst v) w → Q (.panic c) a w) (hd : o.dst = some d) (hb : d < a0.tmps.size) (hw : Region.wanted o (yielded ops a.tmps) = true)
    (hv : a.eval x = v) (hS : S w) (k : ∀ a', Fe a0 ((d, v) :: env) a' → wpAnyH P md ops Q S fuel (listed.setIfInBounds i true) a' w) : wpAnyH P md ops Q S (fuel + 1) listed a w := by
  refine h.take i d v hi hs hf hr hQ hd hb hw (fun w _ => ?_) hS k
  unfold execOp
  rcases ho with ho | ho <;> rw [ho] <;> simp only [hv] <;> rfl
/-- The one that may come up, and turns the world. -/
theorem Fe.one {w' : World} (h : Fe a0 env a) (i : Nat) (d : Nat) (v : Value) (hr : Region.ready md ops listed = [i]) (hi : ops[i]? = some o) (hd : o.dst = some d) (hb : d < a0.tmps.size) (hw : Region.wanted o (yielded ops a.tmps) = true)
    (hrun : (execOp a.eval o).run P w = .ok (.value v) w') (hS : S w') (k : ∀ a', Fe a0 ((d, v) :: env) a' → wpAnyH P md ops Q S fuel (listed.setIfInBounds i true) a' w') : wpAnyH P md ops Q S (fuel + 1) listed a w := by
  refine wpAnyH_ready hr (by simp) (AllReadyH.cons hi (fun K hK => ?_) AllReadyH.nil)
  rw [if_pos hw]
  unfold Oper.wp
  rw [hrun]
  show K (a.put o.dst v) w'
  rw [hd]
  exact hK.out _ _ hS (fun _ => k _ (h.push hb v))
/-- The one that may come up is a call. -/
theorem Fe.oneCall {f : FuncId} {args : Array Value} {R : Ending → World → Prop} (h : Fe a0 env a) (i : Nat) (d : Nat) (hr : Region.ready md ops listed = [i]) (hi : ops[i]? = some o) (hd : o.dst = some d) (hb : d < a0.tmps.size) (hw : Region.wanted o (yielded ops a.tmps) = true)
    (hrun : (execOp a.eval o).run P w = .ok (.enter f args) w) (hc : Calls P f args w R)
    (k : ∀ e w', R e w' → ∃ v, e = .returned v ∧ S w' ∧ ∀ a', Fe a0 ((d, v) :: env) a' → wpAnyH P md ops Q S fuel (listed.setIfInBounds i true) a' w') : wpAnyH P md ops Q S (fuel + 1) listed a w := by
  refine wpAnyH_ready hr (by simp) (AllReadyH.cons hi (fun K hK => ?_) AllReadyH.nil)
  rw [if_pos hw]
  unfold Oper.wp
  rw [hrun, Oper.upon_enter]
  refine hc.mono fun e w' hR => ?_
  obtain ⟨v, rfl, hS, hk⟩ := k e w' hR
  show K (a.put o.dst v) w'
  rw [hd]
  exact hK.out _ _ hS (fun _ => hk _ (h.push hb v))
end
theorem exec_append {P : Program} {ρ : Operand → Value} {o : Oper} {x y : Operand} {ats : Array TypeId} {v : Value} {w w' : World} (ho : o.op = .call { callee := .builtin .append, args := #[x, y], argTypes := ats })
    (h : (Builtin.append_ ats o.type #[ρ x, ρ y]).run P w = .ok v w') : (execOp ρ o).run P w = .ok (.value v) w' := by
  unfold execOp
  simp only [ho, resolve, invoke, builtin, Sem.run_bind, Sem.run_pure, Result.andThen_ok, List.map_toArray, List.map_cons, List.map_nil, h]
/-- A contract out of the body, walked over a frame that is a letter. -/
theorem calls_abs {P : Program} {f : FuncId} {fn : Func} {c : Code} {args : Array Value} {w : World} {R : Ending → World → Prop} (hf : P.funcs[f]? = some fn) (hb : fn.body = some c) (n : Nat) (hn : fn.ntmps = n) (hs : args.size ≤ n)
    (h : ∀ a0 : Act, a0.tmps.size = n → a0.defers = [] → (∀ (i : Nat) v, args[i]? = some v → a0.eval (.tmp i) = v) → c.wp P (bodyPost P fn R) a0 w) : Calls P f args w R := by
  refine calls_of_wp hf hb (h _ ?_ rfl fun i v hv => ?_)
  · simp only [Array.size_append, Array.size_replicate, hn]; omega
  · have hi : i < args.size := (Array.getElem?_eq_some_iff.1 hv).1
    show Array.getD _ i undef = v
    rw [Array.getD_eq_getD_getElem?, Array.getElem?_append_left hi, hv]
    rfl
theorem panic_put {P : Program} {fn : Func} {R : Ending → World → Prop} {c : List PanicEntry} {a : Act} {d : Option Tmp} {v : Value} {w : World} (h : bodyPost P fn R (.panic c) (a.put d v) w) : bodyPost P fn R (.panic c) a w := by cases d <;> exact h
theorem ret_abs {P : Program} {fn : Func} {R : Ending → World → Prop} {a : Act} {w : World} {t : Tmp} {v : Value} (h : fn.results = #[.tmp t]) (hd : a.defers = []) (hv : a.eval (.tmp t) = v) (hR : R (.returned v) w) : bodyPost P fn R .ret a w :=
  bodyPost_ret (results_tmp h _ _ _) hd (by rw [show a.tmps.getD t undef = v from hv]; exact hR)
theorem wanted_none {o : Oper} {y : Nat → Option Bool} (h : o.guard = none) : Region.wanted o y = true := by unfold Region.wanted; rw [h]
theorem wanted_at {o oj : Oper} {ops : Array Oper} {a : Act} {j t : Nat} {b c : Bool} (h : o.guard = some (j, b)) (hj : ops[j]? = some oj) (hd : oj.dst = some t) (hs : t < a.tmps.size) (hv : a.eval (.tmp t) = .bool c) : Region.wanted o (yielded ops a.tmps) = (c == b) := by
  unfold Region.wanted
  rw [h]
  have e : a.tmps[t]? = some (.bool c) := by
    unfold Act.eval at hv
    simp only [Array.getD_eq_getD_getElem?] at hv
    rw [Array.getElem?_eq_getElem hs] at hv ⊢
    simpa using hv
  simp only [yielded, hj, hd, Option.bind_some, e]
  cases c <;> cases b <;> rfl
theorem wanted_undef {o oj : Oper} {ops : Array Oper} {a : Act} {j t : Nat} {b : Bool} (h : o.guard = some (j, b)) (hj : ops[j]? = some oj) (hd : oj.dst = some t) (hs : t < a.tmps.size) (hv : a.eval (.tmp t) = undef) : Region.wanted o (yielded ops a.tmps) = false := by
  unfold Region.wanted
  rw [h]
  have e : a.tmps[t]? = some undef := by
    unfold Act.eval at hv
    simp only [Array.getD_eq_getD_getElem?] at hv
    rw [Array.getElem?_eq_getElem hs] at hv ⊢
    simpa using hv
  simp only [yielded, hj, hd, Option.bind_some, e]
  rfl
end Go.Proofs.Ytpcdpdagcigigaa
