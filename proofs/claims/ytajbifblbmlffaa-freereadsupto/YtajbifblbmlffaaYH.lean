/- free: Check and the document's Check agree; plain. -/
import Derived.Test.YtajbifblbmlffaaYC
import Derived.Test.YtajbifblbmlffaaYG
import Derived.Maps.Views
namespace Go.Proofs.Ytajbifblbmlffaa
open Go.RowKit Go.Maps

/-- A set and what was seen are one. -/
structure Agr (D : SetD) (f : Nat → Bool) : Prop where
  map : IsMap D
  eq : ∀ y, hasN D y = f y
theorem Agr.put {D : SetD} {f : Nat → Bool} (h : Agr D f) (x : Nat) : Agr (putN D x) (upd f x) := by
  refine ⟨?_, fun y => ?_⟩
  · obtain ⟨es, rfl⟩ := h.map
    exact ⟨_, rfl⟩
  · unfold hasN putN upd
    by_cases e : y = x
    · subst e
      rw [if_pos rfl]
      exact has_put_same h.map (by trivial) _
    · rw [if_neg e, has_put_other (fun e2 => e (by injection e2 with _ e2; omega)) _]
      exact h.eq y
theorem own_dN {pages : Nat} : ∀ (ns : List Nat) (D : SetD) (f : Nat → Bool), Agr D f → (∀ y ∈ ns, 2 ≤ y ∧ y < pages) → (ownD pages D ns).1 = (dN f ns).1 ∧ ((dN f ns).1 = true → Agr (ownD pages D ns).2 (dN f ns).2)
  | [], D, f, h, _ => ⟨rfl, fun _ => h⟩
  | y :: ys, D, f, h, hc => by
    have h1 := hc y (List.mem_cons_self ..)
    have hcb : cntB y pages = true := by simp [cntB, h1.1, h1.2]
    unfold ownD dN
    rw [h.eq y, hcb]
    cases hf : f y with
    | true => exact ⟨rfl, fun e => by cases e⟩
    | false => exact own_dN ys (putN D y) (upd f y) (h.put y) (fun z hz => hc z (List.mem_cons_of_mem _ hz))
theorem oc_dR {p q : Int} {pages : Nat} : ∀ (L : List Bt) (D : SetD) (f : Nat → Bool), Agr D f → (ocD p q pages D L).1 = dR p q pages f L
  | [], _, _, _ => rfl
  | x :: L, D, f, h => by
    unfold ocD dR
    have hall : fitsN p q x.ns pages = true → ∀ y ∈ x.ns, 2 ≤ y ∧ y < pages := fun h1 => by
      unfold fitsN at h1
      simp only [Bool.and_eq_true] at h1
      exact rise_all x.ns 0 h1.2
    cases h1 : fitsN p q x.ns pages with
    | false =>
      have e : obD p q pages D x.pg x.ns = (false, D) := by unfold obD; rw [h1]; rfl
      rw [e]
      simp [badB, h1]
    | true =>
      have e : obD p q pages D x.pg x.ns = if (ownD pages D [x.pg]).1 = false then ownD pages D [x.pg] else ownD pages (ownD pages D [x.pg]).2 x.ns := by unfold obD; rw [h1]; rfl
      cases h2 : f x.pg with
      | true =>
        have e2 : ownD pages D [x.pg] = (false, D) := by unfold ownD; rw [h.eq, h2]; rfl
        rw [e, e2]
        simp [badB, h2]
      | false =>
        cases h3 : cntB x.pg pages with
        | false =>
          have e2 : ownD pages D [x.pg] = (false, D) := by unfold ownD; rw [h.eq, h2, h3]; rfl
          have hb : badB p q pages f x = true := by
            unfold cntB at h3
            unfold badB
            rw [h1, h2]
            simp only [Bool.and_eq_false_iff, decide_eq_false_iff_not] at h3
            simp only [Bool.not_true, Bool.false_or, Bool.or_false, Bool.or_eq_true, decide_eq_true_eq]
            omega
          rw [e, e2, hb]
          rfl
        | true =>
          have e2 : ownD pages D [x.pg] = (true, putN D x.pg) := by
            show (if hasN D x.pg then _ else if cntB x.pg pages = false then _ else ownD pages (putN D x.pg) []) = _
            rw [h.eq, h2, h3]; rfl
          have hb : badB p q pages f x = false := by
            unfold cntB at h3
            unfold badB
            rw [h1, h2]
            simp only [Bool.and_eq_true, decide_eq_true_eq] at h3
            simp only [Bool.not_true, Bool.false_or, Bool.or_false, Bool.or_eq_false_iff, decide_eq_false_iff_not]
            omega
          have e3 : obD p q pages D x.pg x.ns = ownD pages (putN D x.pg) x.ns := by rw [e, e2]; rfl
          rw [e3, hb]
          obtain ⟨k1, k2⟩ := own_dN x.ns (putN D x.pg) (upd f x.pg) (h.put x.pg) (hall h1)
          cases h4 : (dN (upd f x.pg) x.ns).1 with
          | false =>
            rw [h4] at k1
            rw [k1]
            simp only [if_true, k1]
            rfl
          | true =>
            rw [h4] at k1
            rw [k1]
            simp only [Bool.true_eq_false, if_false]
            exact oc_dR L _ _ (k2 h4)
theorem chk_both (p q : Int) (pages : Nat) (L : List Bt) : chkE p q pages L = dchkE p q pages L := by
  unfold chkE dchkE
  rw [oc_dR L (.map []) (fun _ => false) ⟨⟨[], rfl⟩, fun y => rfl⟩]
end Go.Proofs.Ytajbifblbmlffaa
