/- Walks over a frame that is a letter: what its slots hold is all that is known of it. -/
import Derived.BigFrame
namespace Go.Proofs.Ytadmkeadggcipaa


theorem eval_put_same {a : Act} {d : Nat} {v : Value} (h : d < a.tmps.size) : (a.put (some d) v).eval (.tmp d) = v := by
  simp [Act.put, Act.eval, Array.getD, h]
theorem eval_put_ne {a : Act} {d t : Nat} {v : Value} (h : d ≠ t) : (a.put (some d) v).eval (.tmp t) = a.eval (.tmp t) := by
  unfold Act.put Act.eval
  simp only [Array.getD_eq_getD_getElem?]
  rw [Array.getElem?_setIfInBounds_ne h]
/-- What a slot holds behind the writes of env (the last one first). -/
def look : List (Nat × Value) → Nat → Value → Value
  | [], _, d => d
  | (k, v) :: l, t, d => cond (Nat.beq k t) v (look l t d)
/-- The frame a is a0 behind the writes of env. -/
structure Fe (a0 : Act) (env : List (Nat × Value)) (a : Act) : Prop where
  size : a.tmps.size = a0.tmps.size
  defers : a.defers = a0.defers
  at_ : ∀ t, a.eval (.tmp t) = look env t (a0.eval (.tmp t))
theorem Fe.refl (a : Act) : Fe a [] a := ⟨rfl, rfl, fun _ => rfl⟩
theorem Fe.push {a0 a : Act} {d : Nat} {env : List (Nat × Value)} (h : Fe a0 env a) (hb : d < a0.tmps.size) (v : Value) : Fe a0 ((d, v) :: env) (a.put (some d) v) := by
  refine ⟨by simp only [Act.put, Array.size_setIfInBounds]; exact h.size, h.defers, fun t => ?_⟩
  show _ = cond (Nat.beq d t) v (look env t (a0.eval (.tmp t)))
  by_cases e : d = t
  · subst e
    rw [eval_put_same (by rw [h.size]; exact hb), Nat.beq_refl]
    rfl
  · have hb : Nat.beq d t = false := by
      cases hq : Nat.beq d t
      · rfl
      · exact absurd (Nat.eq_of_beq_eq_true hq) e
    rw [eval_put_ne e, hb, h.at_ t]
    rfl
section
variable {P : Program} {ops : Array Oper} {Q : Exit → Act → World → Prop} {a0 a : Act} {w : World} {rest : List Oper} {o : Oper} {env : List (Nat × Value)}
/-- An operation that is carried out, and keeps the world. -/
theorem Fe.step (h : Fe a0 env a) (d : Nat) (v : Value) (hd : o.dst = some d) (hb : d < a0.tmps.size) (hw : Region.wanted o (yielded ops a.tmps) = true)
    (hr : (execOp a.eval o).run P w = .ok (.value v) w) (k : ∀ a', Fe a0 ((d, v) :: env) a' → wpList P ops Q rest a' w) : wpList P ops Q (o :: rest) a w := by
  refine BigFrame.wpList_want hw fun K hK => ?_
  unfold Oper.wp
  rw [hr]
  show K (a.put o.dst v) w
  rw [hd]
  exact hK _ _ (k _ (h.push hb v))
/-- One that its guard switches off. -/
theorem Fe.skip (h : Fe a0 env a) (d : Nat) (hd : o.dst = some d) (hb : d < a0.tmps.size) (hw : Region.wanted o (yielded ops a.tmps) = false)
    (k : ∀ a', Fe a0 ((d, undef) :: env) a' → wpList P ops Q rest a' w) : wpList P ops Q (o :: rest) a w := by
  refine wpList_step fun K hK => ?_
  rw [hw]
  show K (a.put o.dst undef) w
  rw [hd]
  exact hK _ _ (k _ (h.push hb undef))
/-- A move or an assignment. -/
theorem Fe.move (h : Fe a0 env a) (d : Nat) (v : Value) (x : Operand) (ho : o.op = .move x ∨ o.op = .assign x) (hd : o.dst = some d) (hb : d < a0.tmps.size) (hw : Region.wanted o (yielded ops a.tmps) = true)
    (hv : a.eval x = v) (k : ∀ a', Fe a0 ((d, v) :: env) a' → wpList P ops Q rest a' w) : wpList P ops Q (o :: rest) a w := by
  refine h.step d v hd hb hw ?_ k
  unfold execOp
  rcases ho with ho | ho <;> rw [ho] <;> simp only [hv] <;> rfl
end
theorem wanted_none {o : Oper} {y : Nat → Option Bool} (h : o.guard = none) : Region.wanted o y = true := by unfold Region.wanted; rw [h]
theorem wanted_at {o oj : Oper} {ops : Array Oper} {a : Act} {j t : Nat} {b c : Bool} (h : o.guard = some (j, b)) (hj : ops[j]? = some oj) (hd : oj.dst = some t) (hs : t < a.tmps.size) (hv : a.eval (.tmp t) = .bool c) : Region.wanted o (yielded ops a.tmps) = (c == b) := by
  unfold Region.wanted
  rw [h]
  have e : a.tmps[t]? = some (.bool c) := by
    unfold Act.eval at hv
    simp only [Array.getD_eq_getD_getElem?] at hv
    rw [Array.getElem?_eq_getElem hs] at hv ⊢
    simpa using hv
  simp only [yielded, hj, hd, Option.bind_some, e]
  cases c <;> cases b <;> rfl
theorem wanted_undef {o oj : Oper} {ops : Array Oper} {a : Act} {j t : Nat} {b : Bool} (h : o.guard = some (j, b)) (hj : ops[j]? = some oj) (hd : oj.dst = some t) (hs : t < a.tmps.size) (hv : a.eval (.tmp t) = undef) : Region.wanted o (yielded ops a.tmps) = false := by
  unfold Region.wanted
  rw [h]
  have e : a.tmps[t]? = some undef := by
    unfold Act.eval at hv
    simp only [Array.getD_eq_getD_getElem?] at hv
    rw [Array.getElem?_eq_getElem hs] at hv ⊢
    simpa using hv
  simp only [yielded, hj, hd, Option.bind_some, e]
  rfl
end Go.Proofs.Ytadmkeadggcipaa
