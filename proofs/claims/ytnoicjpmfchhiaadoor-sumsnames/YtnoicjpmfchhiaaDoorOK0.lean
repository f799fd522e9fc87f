/- Regions that draw: a call that keeps the world may be taken first; operations that may come up in any order. -/
import Derived.Test.YtnoicjpmfchhiaaDoorYA
namespace Go.Proofs.YtnoicjpmfchhiaaDoor

section
variable {P : Program} {ops : Array Oper} {Q : Exit → Act → World → Prop} {md : Region.Mode} {S : World → Prop}
/-- In every world of S the operation is a call that hands v back and keeps the world. -/
def Quick (P : Program) (ops : Array Oper) (S : World → Prop) (o : Oper) (v : Value) (a : Act) : Prop :=
  Region.wanted o (yielded ops a.tmps) = true ∧ ∀ w, S w → ∃ f args, (execOp a.eval o).run P w = .ok (.enter f args) w ∧ Calls P f args w fun e w' => e = .returned v ∧ w' = w
theorem Quick.go {i : Nat} {o : Oper} {v : Value} {a : Act} {w : World} {K : Act → World → Prop} (q : Quick P ops S o v a) (hi : ops[i]? = some o) (hS : S w) (h : K (a.put o.dst v) w) : wpOp P ops Q i K a w := by
  obtain ⟨f, args, hr, hc⟩ := q.2 w hS
  unfold Go.wpOp
  simp only [hi]
  rw [if_pos q.1]
  refine Or.inl ?_
  unfold Oper.wp
  rw [hr, Oper.upon_enter]
  exact hc.mono fun e w' ⟨he, hw⟩ => by rw [he, hw]; exact h
/-- What an operation leaves of what another one looks at. -/
theorem wpOp_rel {j : Nat} {oi oj : Oper} (hj : ops[j]? = some oj) (hap : oi.apart ops oj = true) (hsi : ∀ cs b, oi.op ≠ .select cs b) {K : Act → World → Prop} {a : Act} {w : World} (h : wpOp P ops Q j K a w) :
    wpOp P ops Q j (fun a' w' => (execOp a'.eval oi = execOp a.eval oi ∧ Region.wanted oi (yielded ops a'.tmps) = Region.wanted oi (yielded ops a.tmps)) ∧ K a' w') a w := by
  have h3 := (Oper.apart_spec hap).2.2
  have kp : ∀ (ds : List Deferred) (u : Value), execOp (({ a with defers := ds } : Act).put oj.dst u).eval oi = execOp a.eval oi ∧ Region.wanted oi (yielded ops (({ a with defers := ds } : Act).put oj.dst u).tmps) = Region.wanted oi (yielded ops a.tmps) := fun ds u =>
    ⟨execOp_put oi hsi { a with defers := ds } oj.dst u h3, wanted_put oi { a with defers := ds } oj.dst u h3⟩
  unfold Go.wpOp at h ⊢
  simp only [hj] at h ⊢
  by_cases hw : Region.wanted oj (yielded ops a.tmps) = true
  · rw [if_pos hw] at h ⊢
    rcases h with h | h
    · refine Or.inl ?_
      unfold Oper.wp at h ⊢
      generalize (execOp a.eval oj).run P w = r at h
      cases r with
      | ok n w1 =>
        cases n with
        | value u => exact ⟨kp a.defers u, h⟩
        | skip => exact ⟨kp a.defers undef, h⟩
        | «defer» d => exact ⟨kp (d :: a.defers) undef, h⟩
        | enter f args =>
          refine Calls.mono h fun e w2 he => ?_
          cases e with
          | returned u => exact ⟨kp a.defers u, he⟩
          | panicked c => exact he
          | outgrown => exact he
        | row r1 args => exact Rows.mono h fun u w2 he => ⟨kp a.defers u, he⟩
        | _ => exact h
      | halt x w1 => cases x <;> exact h
    · exact Or.inr h
  · rw [if_neg hw] at h ⊢
    exact ⟨kp a.defers undef, h⟩
theorem quick_first {i : Nat} {oi : Oper} {v : Value} (hi : ops[i]? = some oi) (hsel : ∀ (j : Nat) (o : Oper) cs b, ops[j]? = some o → o.op ≠ .select cs b) (hQ : ∀ c a w, Q (.panic c) (a.put oi.dst v) w → Q (.panic c) a w) :
    ∀ (n : Nat) (L : Array Bool) (a : Act) (w : World), (∀ j oj, ops[j]? = some oj → j ≠ i → L.getD j true = false → (∀ e ∈ oj.after, Region.binds md e = true → e.on ≠ i) → oi.apart ops oj = true) →
      i ∈ Region.ready md ops L → Quick P ops S oi v a → S w → wpAnyH P md ops Q S n (L.setIfInBounds i true) (a.put oi.dst v) w → wpAnyH P md ops Q S (n + 1) L a w
  | 0, L, a, w, _, hr, q, hS, H => by
    refine ⟨fun e => absurd hr (by rw [e]; simp), fun j hj => ?_⟩
    by_cases e : j = i
    · rw [e]; exact q.go hi hS ⟨hS, H⟩
    · exact absurd (ready_mono hj e) (by rw [H.1]; simp)
  | n + 1, L, a, w, hfree, hr, q, hS, H => by
    refine ⟨fun e => absurd hr (by rw [e]; simp), fun j hj => ?_⟩
    by_cases e : j = i
    · rw [e]; exact q.go hi hS ⟨hS, H⟩
    · obtain ⟨hun, oj, hoj, hall⟩ := mem_ready.1 hj
      have hno : ∀ d ∈ oj.after, Region.binds md d = true → d.on ≠ i := fun d hd hb hq => by
        have g1 := hall d hd hb
        have g0 := (mem_ready.1 hr).1
        rw [hq] at g1
        by_cases hl : i < L.size
        · rw [Array.getD_eq_getD_getElem?, Array.getElem?_eq_getElem hl] at g0 g1
          simp only [Option.getD_some] at g0 g1
          rw [g0] at g1
          cases g1
        · rw [Array.getD_eq_getD_getElem?, Array.getElem?_eq_none (by omega)] at g1
          cases g1
      have hap := hfree j oj hoj e hun hno
      have y0 : YieldsIf P ops (fun _ => False) oi v a := Or.inl ⟨q.1, fun _ f => f.elim⟩
      have s1 := wpOp_putIf hoj hap (fun cs b => hsel i oi cs b hi) (fun cs b => hsel j oj cs b hoj) hQ y0 (H.2 j (ready_mono hj e))
      refine wpOp_mono (fun a2 w2 ⟨⟨r1, r2⟩, _, hS2, H2⟩ => ⟨hS2, ?_⟩) (wpOp_rel hoj hap (fun cs b => hsel i oi cs b hi) s1)
      refine quick_first hi hsel hQ n (L.setIfInBounds j true) a2 w2 (fun k ok hk hki hku hkn => hfree k ok hk hki ?_ hkn) (ready_mono hr (Ne.symm e)) ⟨by rw [r2]; exact q.1, fun w3 h3 => by rw [r1]; exact q.2 w3 h3⟩ hS2 ?_
      · by_cases hjk : j = k
        · rw [← hjk]; exact hun
        · rwa [getD_set_ne true hjk] at hku
      · rw [Array.setIfInBounds_comm _ _ e]; exact H2
end
section
variable {P : Program} {ops : Array Oper} {Q : Exit → Act → World → Prop} {a0 a : Act} {w : World} {o : Oper} {env : List (Nat × Value)} {md : Region.Mode} {S : World → Prop} {fuel : Nat} {listed : Array Bool}
/-- In a region that draws: a call that keeps the world is taken first. -/
theorem Fe.takeCall (h : Fe a0 env a) (i : Nat) (d : Nat) (v : Value) (f : FuncId) (args : Array Value) (hi : ops[i]? = some o) (hs : Region.noSelect ops = true) (hf : Region.free md ops listed i = true) (hr : (Region.ready md ops listed).contains i = true)
    (hQ : ∀ c a w, Q (.panic c) (a.put o.dst v) w → Q (.panic c) a w) (hd : o.dst = some d) (hb : d < a0.tmps.size) (hw : Region.wanted o (yielded ops a.tmps) = true)
    (hy : ∀ w, S w → (execOp a.eval o).run P w = .ok (.enter f args) w) (hc : ∀ w, S w → Calls P f args w fun e w' => e = .returned v ∧ w' = w) (hS : S w) (k : ∀ a', Fe a0 ((d, v) :: env) a' → wpAnyH P md ops Q S fuel (listed.setIfInBounds i true) a' w) : wpAnyH P md ops Q S (fuel + 1) listed a w := by
  refine quick_first hi (Region.noSelect_spec hs) hQ fuel listed a w (Region.free_spec hi hf) (by simpa using hr) ⟨hw, fun W hW => ⟨f, args, hy W hW, hc W hW⟩⟩ hS ?_
  rw [hd]
  exact k _ (h.push hb v)
end
end Go.Proofs.YtnoicjpmfchhiaaDoor
