/- disk: copies of what waits, of arms; operations on a part of a row. -/
import Derived.Test.YtjiaepeglghheaaOB
namespace Go.Proofs.Ytjiaepeglghheaa
open Go.RowKit

theorem Try.infWt : (Try.prog.info? 75).map (fun i => (i.zero, i.size, i.bytes)) = some (some (.agg #[.int .u8 0, .int .u32 0, .int .i64 0, .string ⟨#[]⟩]), 4, 32) := by kernel_rfl
theorem Try.nilSomeWts (W : World) (a : Addr) (n c : Nat) : (binOp .eql 69 (.slice (some a) n c) (.slice none 0 0)).run Try.prog W = .ok (.bool false) W := by kernel_rfl
theorem Try.nilNoneWts (W : World) (n c : Nat) : (binOp .eql 69 (.slice none n c) (.slice none 0 0)).run Try.prog W = .ok (.bool true) W := by kernel_rfl
set_option maxRecDepth 100000 in
set_option maxHeartbeats 1000000 in
theorem cloneWts_core {a : Addr} {n cp : Nat} {news : List Value} (w : World) (hl : news.length = n * 4) (hnews : ∀ j u, news[j]? = some u → w.cell? (a.add j) = some u) (h1 : ∀ u ∈ news, u.oneCell' = true) (hn : n ≤ 1048576) :
    Calls Try.prog 32 #[.slice (some a) n cp] w fun e w' => ∃ v, e = .returned v ∧ w'.ownsRow w.heap.size 75 4 v n news ∧ Same w w' := by
  have hnil := Try.nilSomeWts
  obtain ⟨i0, hi, hz0, hz1, hz2⟩ := info_parts Try.infWt
  have hown0 : (w.alloc (.cells #[] 75)).ownsRow w.heap.size 75 4 (.slice (some ⟨w.heap.size, 0, none⟩) 0 0) 0 [] := ⟨by simp, Or.inr ⟨w.heap.size, 0, #[], rfl, Nat.le_refl _, heap_alloc_new w _, Nat.le_refl _, by unfold maxLen; omega, by simp, by simp⟩⟩
  have HNW : Hid (∀ j u, news[j]? = some u → (w.alloc (.cells #[] 75)).cell? (a.add j) = some u) := fun j u hj => keepA' (hnews j u hj) _
  have h1' : Hid (∀ u ∈ news, u.oneCell' = true) := h1
  clear h1 hnews
  go_enter Try.func32, Try.ntmps32
  go_wp2_with (at_builtin; go_must (refine wpList_append_own _ (by rfl) _ _ _ (by rfl) w.heap.size 75 i0 (.agg #[.int .u8 0, .int .u32 0, .int .i64 0, .string ⟨#[]⟩]) 4 32 Try.underlying69 hi hz0 hz1 hz2 rfl (by decide) _ 0 [] (by rfl) hown0 a n cp news (by rfl) hl HNW.out h1'.out (by unfold maxLen; omega) (by omega) (by simp) ?_))
  intro v1 w1 hown hgrow _
  have s1 : Same w w1 := Fr.grown ((Fr.refl _ w).alloc _) hgrow (fun k hk hlt => by simp [Value.ownBlock] at hk; omega)
  clear hgrow
  go_wp2_with fail
  go_ret
  exact ⟨_, rfl, hown, s1⟩
set_option maxRecDepth 100000 in
theorem cloneWts_nil {n cp : Nat} (w : World) :
    Calls Try.prog 32 #[.slice none n cp] w fun e w' => e = .returned (.slice none 0 0) ∧ Same w w' := by
  have hnil := Try.nilNoneWts
  go_enter Try.func32, Try.ntmps32
  go_wp2_with fail
  go_ret
  exact ⟨rfl, Fr.refl _ _⟩
theorem Try.infArm : (Try.prog.info? 60).map (fun i => (i.zero, i.size, i.bytes)) = some (some (.agg #[.int .u8 0, .int .i64 0, .bool false, .slice none 0 0]), 4, 48) := by kernel_rfl
theorem Try.nilSomeArms (W : World) (a : Addr) (n c : Nat) : (binOp .eql 32 (.slice (some a) n c) (.slice none 0 0)).run Try.prog W = .ok (.bool false) W := by kernel_rfl
theorem Try.nilNoneArms (W : World) (n c : Nat) : (binOp .eql 32 (.slice none n c) (.slice none 0 0)).run Try.prog W = .ok (.bool true) W := by kernel_rfl
set_option maxRecDepth 100000 in
set_option maxHeartbeats 1000000 in
theorem cloneArms_core {a : Addr} {n cp : Nat} {news : List Value} (w : World) (hl : news.length = n * 4) (hnews : ∀ j u, news[j]? = some u → w.cell? (a.add j) = some u) (h1 : ∀ u ∈ news, u.oneCell' = true) (hn : n ≤ 1048576) :
    Calls Try.prog 33 #[.slice (some a) n cp] w fun e w' => ∃ v, e = .returned v ∧ w'.ownsRow w.heap.size 60 4 v n news ∧ Same w w' := by
  have hnil := Try.nilSomeArms
  obtain ⟨i0, hi, hz0, hz1, hz2⟩ := info_parts Try.infArm
  have hown0 : (w.alloc (.cells #[] 60)).ownsRow w.heap.size 60 4 (.slice (some ⟨w.heap.size, 0, none⟩) 0 0) 0 [] := ⟨by simp, Or.inr ⟨w.heap.size, 0, #[], rfl, Nat.le_refl _, heap_alloc_new w _, Nat.le_refl _, by unfold maxLen; omega, by simp, by simp⟩⟩
  have HNW : Hid (∀ j u, news[j]? = some u → (w.alloc (.cells #[] 60)).cell? (a.add j) = some u) := fun j u hj => keepA' (hnews j u hj) _
  have h1' : Hid (∀ u ∈ news, u.oneCell' = true) := h1
  clear h1 hnews
  go_enter Try.func33, Try.ntmps33
  go_wp2_with (at_builtin; go_must (refine wpList_append_own _ (by rfl) _ _ _ (by rfl) w.heap.size 60 i0 (.agg #[.int .u8 0, .int .i64 0, .bool false, .slice none 0 0]) 4 48 Try.underlying32 hi hz0 hz1 hz2 rfl (by decide) _ 0 [] (by rfl) hown0 a n cp news (by rfl) hl HNW.out h1'.out (by unfold maxLen; omega) (by omega) (by simp) ?_))
  intro v1 w1 hown hgrow _
  have s1 : Same w w1 := Fr.grown ((Fr.refl _ w).alloc _) hgrow (fun k hk hlt => by simp [Value.ownBlock] at hk; omega)
  clear hgrow
  go_wp2_with fail
  go_ret
  exact ⟨_, rfl, hown, s1⟩
set_option maxRecDepth 100000 in
theorem cloneArms_nil {n cp : Nat} (w : World) :
    Calls Try.prog 33 #[.slice none n cp] w fun e w' => e = .returned (.slice none 0 0) ∧ Same w w' := by
  have hnil := Try.nilNoneArms
  go_enter Try.func33, Try.ntmps33
  go_wp2_with fail
  go_ret
  exact ⟨rfl, Fr.refl _ _⟩
theorem cloneWts {pa : Option Addr} {pc : Nat} {l : List Wt} (w : World) (h : w.ownsRow 0 75 4 (.slice pa l.length pc) l.length (wtCs l)) (hl : l.length ≤ 1048576) :
    Calls Try.prog 32 #[.slice pa l.length pc] w fun e w' => ∃ ao c, e = .returned (.slice ao l.length c) ∧ w'.ownsRow w.heap.size 75 4 (.slice ao l.length c) l.length (wtCs l) ∧ Same w w' := by
  cases pa with
  | none =>
    have e : l = [] := by
      by_cases e : l.length = 0
      · exact List.eq_nil_of_length_eq_zero e
      · obtain ⟨g, hg, _⟩ := own_some h e; cases hg
    subst e
    exact (cloneWts_nil w).mono fun e w' ⟨he, hs⟩ => ⟨_, _, he, own_nil, hs⟩
  | some a =>
    refine (cloneWts_core w (wtCs_len l) (fun j u hj => ?_) (wtCs_one l) hl).mono fun e w' ⟨v, he, ho, hs⟩ => ?_
    · have hne : l.length ≠ 0 := fun e => by rw [List.eq_nil_of_length_eq_zero e] at hj; cases hj
      obtain ⟨g, hg, _⟩ := own_some h hne
      cases hg
      rw [WideShapes.add_plain, Nat.zero_add]; exact own_cell h hj
    · obtain ⟨ao, c, rfl⟩ := own_shape ho
      exact ⟨ao, c, he, ho, hs⟩
theorem cloneNoArms {aa : Option Addr} {ac : Nat} (w : World) :
    Calls Try.prog 33 #[.slice aa 0 ac] w fun e w' => ∃ ao c, e = .returned (.slice ao 0 c) ∧ Same w w' := by
  cases aa with
  | none => exact (cloneArms_nil w).mono fun e w' ⟨he, hs⟩ => ⟨_, _, he, hs⟩
  | some a =>
    refine (cloneArms_core (news := []) w rfl (fun j u hj => by simp at hj) (fun u hu => by cases hu) (by omega)).mono fun e w' ⟨v, he, ho, hs⟩ => ?_
    obtain ⟨ao, c, rfl⟩ := own_shape ho
    exact ⟨ao, c, he, hs⟩
theorem exec_store_mid {P : Program} {ρ : Operand → Value} {op : Oper} {w : World} (ty : TypeId) (x y : Operand) (ho : op.op = .store ty x y) (b o : Nat) (cells : Array Value) (hx : ρ x = .pointer (some ⟨b, o, none⟩)) (hy : ρ y = .agg cells)
    (ht : w.there b o cells.size) (hi : (P.info? ty).map (·.size) = some cells.size) (h1 : cells.all (·.oneCell') = true) : (execOp ρ op).run P w = .ok .skip (w.setCells b o cells.toList) := by
  unfold execOp
  simp only [ho, hx, hy, Instr.storeAt, Instr.sureAddr, Sem.run_bind, Sem.run_pure, Result.andThen_ok, run_storeVar_mid w b o ty cells ht hi h1]
theorem exec_load_mid {P : Program} {ρ : Operand → Value} {op : Oper} {w : World} (ty : TypeId) (x : Operand) (ho : op.op = .load ty x) (b o : Nat) (hx : ρ x = .pointer (some ⟨b, o, none⟩)) (cs : List Value) (d : TypeDesc) (hc : w.rangeAt b o cs)
    (hu : P.underlying ty = some d) (hd : d.isRow = true) (hi : (P.info? ty).map (·.size) = some cs.length) : (execOp ρ op).run P w = .ok (.value (.agg cs.toArray)) w := by
  unfold execOp
  simp only [ho, hx, Instr.loadAt, Instr.sureAddr, Sem.run_bind, Sem.run_pure, Result.andThen_ok, run_loadVar_mid w b o ty cs d hc hu hd hi]
section
variable {P : Program} {ops : Array Oper} {Q : Exit → Act → World → Prop} {a0 a : Act} {w : World} {o : Oper} {env : List (Nat × Value)} {md : Region.Mode} {S : World → Prop} {fuel : Nat} {listed : Array Bool}
/-- In a region that draws: a store is the one that may come up. -/
theorem Fe.oneStore {w' : World} (h : Fe a0 env a) (i : Nat) (hr : Region.ready md ops listed = [i]) (hi : ops[i]? = some o) (hd : o.dst = none) (hw : Region.wanted o (yielded ops a.tmps) = true)
    (hrun : (execOp a.eval o).run P w = .ok .skip w') (hS : S w') (k : ∀ a', Fe a0 env a' → wpAnyH P md ops Q S fuel (listed.setIfInBounds i true) a' w') : wpAnyH P md ops Q S (fuel + 1) listed a w := by
  refine wpAnyH_ready hr (by simp) (AllReadyH.cons hi (fun K hK => ?_) AllReadyH.nil)
  rw [if_pos hw]
  unfold Oper.wp
  rw [hrun]
  show K (a.put o.dst undef) w'
  rw [hd]
  exact hK.out _ _ hS (fun _ => k _ h)
end
theorem range_row {w : World} {b o : Nat} {t : TypeId} {cs : Array Value} {vs : List Value} (h : w.heap[b]? = some (.cells cs t (0, 0))) (hv : ∀ j v, vs[j]? = some v → cs[o + j]? = some v) : w.rangeAt b o vs := fun j v hj => (cell_of_row _ _ _ _ _ _ h).trans (hv j v hj)
theorem there_mid {w : World} {b o n : Nat} {t : TypeId} {old : Array Value} (h : w.heap[b]? = some (.cells old t (0, 0))) (hn : o + n ≤ old.size) : w.there b o n := by
  intro j hj
  refine ⟨?_, frozen_of_row w b (o + j) old t h⟩
  rw [cell_of_row _ _ _ _ _ _ h, Array.getElem?_eq_getElem (by omega)]; rfl
end Go.Proofs.Ytjiaepeglghheaa
