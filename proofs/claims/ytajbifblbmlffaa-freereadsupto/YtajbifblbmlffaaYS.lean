/- Steps of a region that draws where several operations may come up. -/
import Derived.Test.YtajbifblbmlffaaYA
import Derived.Test.YtajbifblbmlffaaEE
namespace Go.Proofs.Ytajbifblbmlffaa

section
variable {P : Program} {ops : Array Oper} {Q : Exit → Act → World → Prop} {a0 a : Act} {w : World} {o : Oper} {env : List (Nat × Value)} {md : Region.Mode} {S : World → Prop} {fuel i : Nat} {listed : Array Bool} {K : Act → World → Prop}

/-- A whole struct stored into a block of its own, the last that may come up. -/
theorem Fe.oneStore (h : Fe a0 env a) (i : Nat) (hr : Region.ready md ops listed = [i]) (hi : ops[i]? = some o) (hd : o.dst = none) (hgd : o.guard = none) (ty : TypeId) (x y : Operand) (ho : o.op = .store ty x y)
    (b : Nat) (cells old : Array Value) (t : TypeId) (hx : a.eval x = .pointer (some ⟨b, 0, none⟩)) (hy : a.eval y = .agg cells) (hb : w.heap[b]? = some (.cells old t (0, 0))) (hl : old.size = cells.size)
    (hif : (P.info? ty).map (·.size) = some cells.size) (h1 : cells.all (·.oneCell') = true)
    (k : ∀ w', w'.heap[b]? = some (.cells cells t (0, 0)) → Fr (fun k => k = b) w w' → S w' ∧ ∀ a', Fe a0 env a' → wpAnyH P md ops Q S fuel (listed.setIfInBounds i true) a' w') : wpAnyH P md ops Q S (fuel + 1) listed a w := by
  refine wpAnyH_ready hr (by simp) (AllReadyH.cons hi (fun K hK => ?_) AllReadyH.nil)
  have hw : Region.wanted o (yielded ops a.tmps) = true := wanted_none hgd
  rw [if_pos hw]
  have hth : w.there b 0 cells.size := there_row hb hl.symm
  have hrow := setCells_whole cells.toList old hb (by rw [hl, Array.length_toList]) (by rw [Array.length_toList]; exact hth)
  rw [Array.toArray_toList] at hrow
  obtain ⟨hS, hk⟩ := k _ hrow (Fr.setCells (S := fun k => k = b) (fun _ => rfl) _ 0 w (Fr.refl _ w))
  refine wp_store_mid ty x y ho b 0 cells hx hy hth hif h1 ?_
  rw [hd]
  exact hK.out _ _ hS (fun _ => hk _ h)
end
end Go.Proofs.Ytajbifblbmlffaa
