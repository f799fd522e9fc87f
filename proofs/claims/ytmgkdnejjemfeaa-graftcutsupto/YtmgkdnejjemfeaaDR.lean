/- A region that draws, met in a round of a loop over a function: what its orders do outside of one, they do there. -/
import Derived.OrdersHeld
import Derived.OrdersIn
import Derived.Deep.RegionHeld
import Derived.RangeFuncCalls
import Derived.Shelf.RegionOpen
namespace Go.Proofs.Ytmgkdnejjemfeaa

/-- The post in which the region ends as usual and nothing else. -/
def EndsIn (R : Act → World → Prop) (e : Exit) (a : Act) (w : World) : Prop := e = .normal ∧ R a w
theorem endsIn_shut {R : Act → World → Prop} : ¬ LetsOut (EndsIn R) := fun ⟨_, _, h⟩ => by cases h.1
theorem op_round {P : Program} {ops : Array Oper} {R : Act → World → Prop} {i : Nat} {K : Act → World → Prop} {a : Act} {w : World} (l n : Nat) (hnd : ∀ o, ops[i]? = some o → ∀ c, o.op ≠ .defer c)
    (h : wpOp P ops (EndsIn R) i K a w) : wpOpIn (Fence.wide.inRound l) n P ops (EndsIn R) i K a w := by
  unfold wpOp at h
  unfold wpOpIn
  cases ho : ops[i]? with
  | none => rw [ho] at h; exact h
  | some o =>
    rw [ho] at h
    simp only at h ⊢
    split at h
    · rename_i hw
      rw [if_pos hw]
      rcases h with h | ⟨_, hl⟩
      · unfold Oper.wp at h
        refine ⟨fun _ _ => trivial, ?_⟩
        rw [Oper.semAt_eq _ _ _ (hnd o ho)]
        generalize (execOp a.eval o).run P w = r at h ⊢
        cases r with
        | ok x w' =>
          cases x with
          | value v => exact h
          | skip => exact h
          | defer d => exact h
          | enter f args => exact ⟨fun e => (by cases e), CallsIn.inRound l (callsIn_wide.2 h)⟩
          | row s args =>
            refine ⟨fun e => (by cases e), fun c cs _ => ?_⟩
            obtain ⟨v, w'', r, s⟩ := h c cs
            exact ⟨v, w'', r, stepsIn_wide.2 s⟩
          | _ => exact h.elim
        | halt x w' => cases x <;> exact h
      · exact absurd hl endsIn_shut
    · rename_i hw
      rw [if_neg hw]
      exact ⟨fun _ _ => trivial, h⟩
theorem any_round {P : Program} {ops : Array Oper} {R : Act → World → Prop} {md : Region.Mode} (l n : Nat) (hnd : ∀ (i : Nat) (o : Oper), ops[i]? = some o → ∀ c, o.op ≠ .defer c) :
    ∀ (fuel : Nat) (listed : Array Bool) (a : Act) (w : World), wpAny P md ops (EndsIn R) fuel listed a w → wpAnyIn (Fence.wide.inRound l) n P md ops (EndsIn R) fuel listed a w
  | 0, _, _, _, h => h
  | fuel + 1, _, _, _, h => ⟨h.1, fun i hi => wpOpIn_mono (fun a' w' h' => any_round l n hnd fuel _ a' w' h') (op_round l n (hnd i) (h.2 i hi))⟩
theorem post_weak {F : Fence} {n : Nat} {P : Program} {c : Code} {Q Q' : Exit → Act → World → Prop} {a : Act} {w : World} (hq : ∀ e a w, Q e a w → Q' e a w) (h : c.wpIn F n P Q a w) : c.wpIn F n P Q' a w := fun b k cs h1 h2 h3 =>
  let ⟨e, a', w', q, r⟩ := h b k cs h1 h2 h3
  ⟨e, a', w', hq _ _ _ q, r⟩
def noDefers (l : List Oper) : Bool := l.all fun o => match o.op with | .defer _ => false | _ => true
theorem noDefers_spec {ops : Array Oper} (h : noDefers ops.toList = true) : ∀ (i : Nat) (o : Oper), ops[i]? = some o → ∀ c, o.op ≠ .defer c := fun i o ho c e => by
  have hm : o ∈ ops.toList := by
    rw [Array.getElem?_eq_some_iff] at ho
    obtain ⟨hlt, rfl⟩ := ho
    exact Array.getElem_mem_toList hlt
  have := List.all_eq_true.1 h o hm
  rw [e] at this
  cases this
/-- What holds behind every order outside of a round holds behind the region in one. -/
theorem region_round {P : Program} {id : Nat} {ops : Array Oper} {Q : Exit → Act → World → Prop} {a : Act} {w : World} {S : World → Prop} {l n : Nat} (R : Act → World → Prop) (hm : P.follows .mixedOrders = true) (hnd : noDefers ops.toList = true) (hS : S w.drew)
    (h : S w.drew → wpAnyH P .any ops (EndsIn R) S ops.size (Array.replicate ops.size false) a w.drew) (hR : ∀ a' w', R a' w' → Q .normal a' w') : (Code.region id ops true).wpIn (Fence.wide.inRound l) n P Q a w :=
  post_weak (fun e a w hq => by obtain ⟨rfl, hq⟩ := hq; exact hR _ _ hq) (wpIn_region_any hm (any_round l n (noDefers_spec hnd) _ _ _ _ (wpAny_of_held _ _ _ _ (h hS))))
end Go.Proofs.Ytmgkdnejjemfeaa
