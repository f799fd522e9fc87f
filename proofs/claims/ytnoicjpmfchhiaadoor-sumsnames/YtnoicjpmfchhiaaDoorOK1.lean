/- Regions that draw and end in an operation that waits for all others. -/
import Derived.Test.YtnoicjpmfchhiaaDoorOK0
namespace Go.Proofs.YtnoicjpmfchhiaaDoor

/-- What a region's last operation does, taken off: the rest of the region is walked to where it stands ready. -/
def QF (P : Program) (F : Oper) (Q : Exit → Act → World → Prop) : Exit → Act → World → Prop
  | .normal, a, w => F.wp P a w (Q .normal) Q
  | x, a, w => Q x a w
def depsOf (md : Region.Mode) (ops : Array Oper) (j : Nat) : List Nat := ((ops[j]?).map fun o => (o.after.toList.filter fun e => Region.binds md e).map (·.on)).getD []
def ancOf (md : Region.Mode) (ops : Array Oper) : Nat → List Nat → List Nat
  | 0, l => l
  | k + 1, l => ancOf md ops k (l ++ l.flatMap (depsOf md ops))
def lowQ (md : Region.Mode) (ops : Array Oper) : Bool := (List.range ops.size).all fun j => (depsOf md ops j).all fun i => decide (i < j)
def coverB (md : Region.Mode) (ops : Array Oper) (F : Oper) : Bool := (List.range ops.size).all fun j => (ancOf md ops 6 ((F.after.toList.filter fun e => Region.binds md e).map (·.on))).contains j
def Shut (md : Region.Mode) (ops : Array Oper) (L : Array Bool) : Prop := ∀ j, L.getD j false = true → ∀ i ∈ depsOf md ops j, L.getD i false = true
theorem deps_ready {md : Region.Mode} {ops : Array Oper} {j : Nat} {L : Array Bool} : j ∈ Region.ready md ops L ↔ L.getD j true = false ∧ j < ops.size ∧ ∀ i ∈ depsOf md ops j, L.getD i false = true := by
  rw [mem_ready]
  unfold depsOf
  constructor
  · rintro ⟨h0, o, ho, h⟩
    refine ⟨h0, (Array.getElem?_eq_some_iff.1 ho).1, fun i hi => ?_⟩
    rw [ho] at hi
    simp only [Option.map_some, Option.getD_some, List.mem_map, List.mem_filter] at hi
    obtain ⟨e, ⟨he, hb⟩, rfl⟩ := hi
    exact h e (by simpa using he) hb
  · rintro ⟨h0, hlt, h⟩
    refine ⟨h0, ops[j], Array.getElem?_eq_getElem hlt, fun e he hb => h _ ?_⟩
    rw [Array.getElem?_eq_getElem hlt]
    simp only [Option.map_some, Option.getD_some, List.mem_map, List.mem_filter]
    exact ⟨e, ⟨by simpa using he, hb⟩, rfl⟩
theorem anc_listed {md : Region.Mode} {ops : Array Oper} {L : Array Bool} (hs : Shut md ops L) : ∀ k l, (∀ i ∈ l, L.getD i false = true) → ∀ i ∈ ancOf md ops k l, L.getD i false = true
  | 0, _, h => h
  | k + 1, l, h => anc_listed hs k _ (fun i hi => by
      rcases List.mem_append.1 hi with h1 | h1
      · exact h i h1
      · obtain ⟨j, hj, hij⟩ := List.mem_flatMap.1 h1
        exact hs j (h j hj) i hij)
theorem all_listed {md : Region.Mode} {ops : Array Oper} {L : Array Bool} (hlow : lowQ md ops = true) (hr : Region.ready md ops L = []) : ∀ n, n ≤ ops.size → ∀ j, j < n → L.getD j true = true
  | 0, _, j, hj => absurd hj (Nat.not_lt_zero j)
  | n + 1, hn, j, hj => by
    have ih := all_listed hlow hr n (by omega)
    by_cases e : j = n
    · subst e
      cases hc : L.getD j true
      · have hm : j ∈ Region.ready md ops L := deps_ready.2 ⟨hc, by omega, fun i hi => by
          have h1 := List.all_eq_true.1 (List.all_eq_true.1 hlow j (List.mem_range.2 (by omega))) i hi
          have h2 := ih i (by simpa using h1)
          by_cases hl : i < L.size
          · simp only [Array.getD_eq_getD_getElem?, Array.getElem?_eq_getElem hl, Option.getD_some] at h2 ⊢; exact h2
          · have hj2 : ¬ j < L.size := by have : i < j := by simpa using h1
                                          omega
            simp [Array.getD_eq_getD_getElem?, Array.getElem?_eq_none (Nat.not_lt.1 hj2)] at hc⟩
        rw [hr] at hm
        cases hm
      · rfl
    · exact ih j (by omega)
section
variable {P : Program} {ops ops' : Array Oper} {F : Oper} {Q : Exit → Act → World → Prop} {md : Region.Mode}
theorem wpOp_pop (ho : ops = ops'.push F) (hg : ops'.all (·.guard.isNone) = true) {i : Nat} (hi : i < ops'.size) {K : Act → World → Prop} {a : Act} {w : World} (h : wpOp P ops' (QF P F Q) i K a w) : wpOp P ops Q i K a w := by
  have e1 : ops[i]? = some ops'[i] := by rw [ho, Array.getElem?_push_lt hi]
  have e2 : ops'[i]? = some ops'[i] := Array.getElem?_eq_getElem hi
  have hn : ops'[i].guard = none := by
    have := Array.all_eq_true_iff_forall_mem.1 hg ops'[i] (Array.getElem_mem hi)
    simpa using this
  unfold Go.wpOp at h ⊢
  rw [e2] at h
  rw [e1]
  simp only at h ⊢
  rw [if_pos (wanted_none hn)] at h ⊢
  rcases h with h | ⟨h1, h2⟩
  · refine Or.inl ?_
    unfold Oper.wp at h ⊢
    generalize (execOp a.eval ops'[i]).run P w = r at h
    cases r with
    | ok n w1 =>
      cases n with
      | enter f args =>
        refine Calls.mono h fun e w2 he => ?_
        cases e <;> exact he
      | _ => exact h
    | halt x w1 => cases x <;> exact h
  · exact Or.inr ⟨h1, h2⟩
theorem getD_push {L : Array Bool} {b d : Bool} {i : Nat} (h : i < L.size) : (L.push b).getD i d = L.getD i d := by
  simp [Array.getD_eq_getD_getElem?, Array.getElem?_push_lt h, Array.getElem?_eq_getElem h]
theorem ready_push (ho : ops = ops'.push F) (hlow : lowQ md ops' = true) {L : Array Bool} (hs : L.size = ops'.size) {b : Bool} {i : Nat} (hi : i < ops'.size) : i ∈ Region.ready md ops (L.push b) ↔ i ∈ Region.ready md ops' L := by
  rw [deps_ready, deps_ready]
  have e : depsOf md ops i = depsOf md ops' i := by unfold depsOf; rw [ho, Array.getElem?_push_lt hi, Array.getElem?_eq_getElem hi]
  have hd : ∀ k ∈ depsOf md ops' i, k < L.size := fun k hk => by
    have := List.all_eq_true.1 (List.all_eq_true.1 hlow i (List.mem_range.2 hi)) k hk
    have : k < i := by simpa using this
    omega
  rw [e, getD_push (by omega)]
  constructor
  · rintro ⟨h1, _, h2⟩; exact ⟨h1, hi, fun k hk => by rw [← getD_push (b := b) (hd k hk)]; exact h2 k hk⟩
  · rintro ⟨h1, _, h2⟩; exact ⟨h1, by rw [ho, Array.size_push]; omega, fun k hk => by rw [getD_push (hd k hk)]; exact h2 k hk⟩
theorem any_pop (ho : ops = ops'.push F) (hg : ops'.all (·.guard.isNone) = true) (hgF : F.guard = none) (hlow : lowQ md ops' = true) (hcov : coverB md ops' F = true) (hlF : (depsOf md ops ops'.size).all (fun i => decide (i < ops'.size)) = true) :
    ∀ (n : Nat) (L : Array Bool) (a : Act) (w : World), L.size = ops'.size → Shut md ops' L → wpAny P md ops' (QF P F Q) n L a w → wpAny P md ops Q (n + 1) (L.push false) a w := by
  have hFd : depsOf md ops ops'.size = (F.after.toList.filter fun e => Region.binds md e).map (·.on) := by unfold depsOf; rw [ho, Array.getElem?_push_size]; rfl
  have hFo : ops[ops'.size]? = some F := by rw [ho, Array.getElem?_push_size]
  have isz : ops.size = ops'.size + 1 := by rw [ho, Array.size_push]
  have fin : ∀ (n : Nat) (L : Array Bool) (a : Act) (w : World), L.size = ops'.size → Region.ready md ops' L = [] → QF P F Q .normal a w → wpAny P md ops Q (n + 1) (L.push false) a w := fun n L a w hs hr hq => by
    have hall := all_listed hlow hr ops'.size (Nat.le_refl _)
    have hF : ops'.size ∈ Region.ready md ops (L.push false) := deps_ready.2 ⟨by simp [Array.getD_eq_getD_getElem?, ← hs], by omega, fun i hi => by
      have h1 := List.all_eq_true.1 hlF i hi
      have h2 : i < ops'.size := by simpa using h1
      have h3 := hall i h2
      rw [getD_push (by omega)]
      simp only [Array.getD_eq_getD_getElem?, Array.getElem?_eq_getElem (show i < L.size by omega), Option.getD_some] at h3 ⊢
      exact h3⟩
    refine ⟨fun e => (by rw [e] at hF; cases hF), fun i hi => ?_⟩
    have hi2 := (deps_ready.1 hi).2.1
    by_cases e : i < ops'.size
    · have := (ready_push ho hlow hs e).1 hi
      rw [hr] at this
      cases this
    · obtain rfl : i = ops'.size := by omega
      unfold Go.wpOp
      rw [hFo]
      simp only
      rw [if_pos (wanted_none hgF)]
      refine Or.inl (Oper.wp_mono (fun a2 w2 h2 => ?_) hq)
      have hno : Region.ready md ops ((L.push false).setIfInBounds ops'.size true) = [] := by
        rw [List.eq_nil_iff_forall_not_mem]
        intro k hk
        obtain ⟨k1, k2, _⟩ := deps_ready.1 hk
        by_cases ek : k = ops'.size
        · subst ek
          simp [Array.getD_eq_getD_getElem?, ← hs] at k1
        · rw [getD_set_ne true (Ne.symm ek), getD_push (by omega), hall k (by omega)] at k1
          cases k1
      cases n with
      | zero => exact ⟨hno, h2⟩
      | succ n => exact ⟨fun _ => h2, fun k hk => by rw [hno] at hk; cases hk⟩
  intro n
  induction n with
  | zero => intro L a w hs _ h; exact fin 0 L a w hs h.1 h.2
  | succ n ih =>
    intro L a w hs hsh h
    by_cases hr : Region.ready md ops' L = []
    · exact fin (n + 1) L a w hs hr (h.1 hr)
    · refine ⟨fun e => absurd ?_ hr, fun i hi => ?_⟩
      · rw [List.eq_nil_iff_forall_not_mem]
        intro k hk
        have hk2 := (deps_ready.1 hk).2.1
        have := (ready_push (b := false) ho hlow hs hk2).2 hk
        rw [e] at this
        cases this
      · by_cases e : i < ops'.size
        · have hi2 := (ready_push ho hlow hs e).1 hi
          refine wpOp_pop ho hg e (wpOp_mono (fun a2 w2 h2 => ?_) (h.2 i hi2))
          have es : (L.push false).setIfInBounds i true = (L.setIfInBounds i true).push false := by
            apply Array.ext
            · simp
            · intro k h1 h2
              simp only [Array.size_setIfInBounds, Array.size_push] at h1
              by_cases ek : i = k
              · subst ek; simp [Array.getElem_push, show i < L.size by omega]
              · rw [Array.getElem_setIfInBounds_ne (by simpa using h1) ek]
                simp only [Array.getElem_push, Array.size_setIfInBounds]
                split
                · rw [Array.getElem_setIfInBounds_ne (by assumption) ek]
                · rfl
          rw [es]
          refine ih _ a2 w2 (by simpa using hs) (fun j hj k hk => ?_) h2
          by_cases ej : i = j
          · subst ej
            exact getD_set_true ((deps_ready.1 hi2).2.2 k hk)
          · rw [getD_set_ne false ej] at hj
            exact getD_set_true (hsh j hj k hk)
        · exfalso
          obtain rfl : i = ops'.size := by have := (deps_ready.1 hi).2.1; omega
          have hd := (deps_ready.1 hi).2.2
          rw [hFd] at hd
          have hl : ∀ j, j < ops'.size → L.getD j false = true := fun j hj => by
            have h1 := List.all_eq_true.1 hcov j (List.mem_range.2 hj)
            refine anc_listed hsh 6 _ (fun k hk => ?_) j (by simpa using h1)
            have h2 := List.all_eq_true.1 hlF k (by rw [hFd]; exact hk)
            rw [← getD_push (b := false) (by rw [hs]; simpa using h2)]
            exact hd k hk
          apply hr
          rw [List.eq_nil_iff_forall_not_mem]
          intro k hk
          obtain ⟨k1, k2, _⟩ := deps_ready.1 hk
          have := hl k k2
          simp only [Array.getD_eq_getD_getElem?, Array.getElem?_eq_getElem (show k < L.size by omega), Option.getD_some] at this k1
          rw [this] at k1
          cases k1
variable {S : World → Prop}
/-- A region that draws and whose last operation waits for all others: that one is taken off: S need not hold behind it. -/
theorem wp_region_pop {id : Nat} {a : Act} {w : World} (hm : P.follows .mixedOrders = true) (ho : ops = ops'.push F) (hg : ops'.all (·.guard.isNone) = true) (hgF : F.guard = none) (hlow : lowQ .any ops' = true) (hcov : coverB .any ops' F = true) (hlF : (depsOf .any ops ops'.size).all (fun i => decide (i < ops'.size)) = true) (hS : S w.drew)
    (h : S w.drew → wpAnyH P .any ops' (QF P F Q) S ops'.size (Array.replicate ops'.size false) a w.drew) : (Code.region id ops true).wp P Q a w := by
  refine wp_region_any hm ?_
  have e : ops.size = ops'.size + 1 := by rw [ho, Array.size_push]
  have e2 : Array.replicate ops.size false = (Array.replicate ops'.size false).push false := by rw [e]; exact Array.replicate_succ
  rw [e2, e]
  exact any_pop ho hg hgF hlow hcov hlF _ _ a _ (by simp) (fun j hj => by exfalso; simp only [Array.getD_eq_getD_getElem?, Array.getElem?_replicate] at hj; split at hj <;> simp at hj) (wpAny_of_held _ _ _ _ (h hS))
/-- The last store. -/
theorem Fe.last {a0 a : Act} {w w' : World} {env : List (Nat × Value)} (h : Fe a0 env a) (hd : F.dst = none) (hr : (execOp a.eval F).run P w = .ok .skip w') (k : ∀ a', Fe a0 env a' → Q .normal a' w') : QF P F Q .normal a w := by
  show F.wp P a w (Q .normal) Q
  unfold Oper.wp
  rw [hr]
  show Q .normal (a.put F.dst undef) w'
  rw [hd]
  exact k _ h
end
end Go.Proofs.YtnoicjpmfchhiaaDoor
