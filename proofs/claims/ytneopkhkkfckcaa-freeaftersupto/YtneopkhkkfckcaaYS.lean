/- Steps of a region that draws where several operations may come up. -/
import Derived.Test.YtneopkhkkfckcaaYA
import Derived.Test.YtneopkhkkfckcaaEE
namespace Go.Proofs.Ytneopkhkkfckcaa

section
variable {P : Program} {ops : Array Oper} {Q : Exit → Act → World → Prop} {a0 a : Act} {w : World} {o : Oper} {env : List (Nat × Value)} {md : Region.Mode} {S : World → Prop} {fuel i : Nat} {listed : Array Bool} {K : Act → World → Prop}
theorem Fe.kVal {w' : World} (h : Fe a0 env a) (hK : Shut (∀ a w, S w → (S w → wpAnyH P md ops Q S fuel (listed.setIfInBounds i true) a w) → K a w)) (d : Nat) (v : Value) (hd : o.dst = some d) (hb : d < a0.tmps.size) (hw : Region.wanted o (yielded ops a.tmps) = true)
    (hrun : (execOp a.eval o).run P w = .ok (.value v) w') (hS : S w') (k : ∀ a', Fe a0 ((d, v) :: env) a' → wpAnyH P md ops Q S fuel (listed.setIfInBounds i true) a' w') : if Region.wanted o (yielded ops a.tmps) = true then Oper.wp P o a w K Q else K (a.put o.dst undef) w := by
  rw [if_pos hw]
  unfold Oper.wp
  rw [hrun]
  show K (a.put o.dst v) w'
  rw [hd]
  exact hK.out _ _ hS (fun _ => k _ (h.push hb v))
theorem Fe.kCall {f : FuncId} {args : Array Value} {R : Ending → World → Prop} (h : Fe a0 env a) (hK : Shut (∀ a w, S w → (S w → wpAnyH P md ops Q S fuel (listed.setIfInBounds i true) a w) → K a w)) (d : Nat) (hd : o.dst = some d) (hb : d < a0.tmps.size) (hw : Region.wanted o (yielded ops a.tmps) = true)
    (hrun : (execOp a.eval o).run P w = .ok (.enter f args) w) (hc : Calls P f args w R)
    (k : ∀ e w', R e w' → ∃ v, e = .returned v ∧ S w' ∧ ∀ a', Fe a0 ((d, v) :: env) a' → wpAnyH P md ops Q S fuel (listed.setIfInBounds i true) a' w') : if Region.wanted o (yielded ops a.tmps) = true then Oper.wp P o a w K Q else K (a.put o.dst undef) w := by
  rw [if_pos hw]
  unfold Oper.wp
  rw [hrun, Oper.upon_enter]
  refine hc.mono fun e w' hR => ?_
  obtain ⟨v, rfl, hS, hk⟩ := k e w' hR
  show K (a.put o.dst v) w'
  rw [hd]
  exact hK.out _ _ hS (fun _ => hk _ (h.push hb v))
/-- A whole struct stored into a block of its own, the last that may come up. -/
theorem Fe.oneStore (h : Fe a0 env a) (i : Nat) (hr : Region.ready md ops listed = [i]) (hi : ops[i]? = some o) (hd : o.dst = none) (hgd : o.guard = none) (ty : TypeId) (x y : Operand) (ho : o.op = .store ty x y)
    (b : Nat) (cells old : Array Value) (t : TypeId) (hx : a.eval x = .pointer (some ⟨b, 0, none⟩)) (hy : a.eval y = .agg cells) (hb : w.heap[b]? = some (.cells old t (0, 0))) (hl : old.size = cells.size)
    (hif : (P.info? ty).map (·.size) = some cells.size) (h1 : cells.all (·.oneCell') = true)
    (k : ∀ w', w'.heap[b]? = some (.cells cells t (0, 0)) → Fr (fun k => k = b) w w' → S w' ∧ ∀ a', Fe a0 env a' → wpAnyH P md ops Q S fuel (listed.setIfInBounds i true) a' w') : wpAnyH P md ops Q S (fuel + 1) listed a w := by
  refine wpAnyH_ready hr (by simp) (AllReadyH.cons hi (fun K hK => ?_) AllReadyH.nil)
  have hw : Region.wanted o (yielded ops a.tmps) = true := wanted_none hgd
  rw [if_pos hw]
  have hth : w.there b 0 cells.size := there_row hb hl.symm
  have hrow := setCells_whole cells.toList old hb (by rw [hl, Array.length_toList]) (by rw [Array.length_toList]; exact hth)
  rw [Array.toArray_toList] at hrow
  obtain ⟨hS, hk⟩ := k _ hrow (Fr.setCells (S := fun k => k = b) (fun _ => rfl) _ 0 w (Fr.refl _ w))
  refine wp_store_mid ty x y ho b 0 cells hx hy hth hif h1 ?_
  rw [hd]
  exact hK.out _ _ hS (fun _ => hk _ h)
end
end Go.Proofs.Ytneopkhkkfckcaa
