/- free: trees, of one page that a spare gives. -/
import Derived.Test.YtbpoklkaffaleaaEM
namespace Go.Proofs.Ytbpoklkaffaleaa
open Go.RowKit Go.Maps

theorem MkAt.neRow {w W : World} {mb : Nat} {M : Mk} (h : MkAt w W mb M) {B n c sz : Nat} {e : TypeId} {ao : Option Addr} {xs : List Value} (o : W.ownsRow B e sz (.slice ao n c) n xs) (he : e ≠ 86) : ∀ k, (Value.slice ao n c).ownBlock = some k → ¬ (k = mb ∨ k = M.lb) := fun k hk e2 => by
  rcases e2 with e2 | e2
  · exact own_neT o h.hm he k hk e2
  · obtain ⟨es, cl, h1, _⟩ := h.set
    obtain ⟨hl, h0 | ⟨g2, c2, cur, hv, _, hh, _⟩⟩ := o
    · have hn := h0.1
      injection hn with e1 _ _
      rw [e1] at hk
      cases hk
    · injection hv with e1 _ _
      rw [e1] at hk
      simp [Value.ownBlock] at hk
      rw [hk, e2, h1] at hh
      cases hh
/-- Row blocks that append makes are new, or the row's own: a plan under way is not touched. -/
theorem MkAt.grown {w W W' : World} {mb : Nat} {M : Mk} {row : Option Nat} (h : MkAt w W mb M) (hg : W.grownBy W' row) (hr : ∀ k, row = some k → w.heap.size ≤ k ∧ k ≠ mb ∧ k ≠ M.lb ∧ (M.S ≠ [] → k ≠ M.sb)) : MkAt w W' mb M := by
  have f : Fr (fun k => row = some k) W W' := Fr.grown (Fr.refl _ _) hg (fun k e _ => e)
  exact ⟨(f.block _ (lt_of_heap h.hm) (fun e => (hr _ e).2.1 rfl)).trans h.hm, h.set.fr f (fun e => (hr _ e).2.2.1 rfl), h.sp.fr f (fun e e2 => (hr _ e2).2.2.2 e rfl), h.ap, Fr.trans h.base f (fun k hk e => by have := (hr k e).1; omega), h.ge, h.bn, h.vs, h.sc, h.scm⟩
set_option maxRecDepth 100000 in
set_option maxHeartbeats 1000000 in
theorem trees_one {w0 w : World} {mb cb co no bt : Nat} {M : Mk} {L : List Bt} {S' : List (Nat × Nat)} (h : MkAt w0 w mb M) (hch : BtRow w0 M.ca cb co L) (hcl : M.cl = L.length) (hS : M.S = (no, bt) :: S') (hbt : bt < L.length) (hlm : L.length ≤ 100) (ho : M.opened ≤ bt + 1) (hb : M.n + 1001 * L.length ≤ 500000) :
    Calls Try.prog 43 #[.pointer (some ⟨mb, 0, none⟩), .int .i64 1] w fun e w' => ∃ ao c, e = .returned (.tuple #[.slice ao 1 c, .int .i64 0]) ∧ w'.ownsRow w.heap.size 25 1 (.slice ao 1 c) 1 (ncells [no]) ∧ (∃ sa so sc n', n' ≤ M.n + 1001 * (bt + 1 - M.opened) ∧ MkAt w0 w' mb { M with sa := sa, so := so, sc := sc, S := S', opened := bt + 1, n := n', D := delN (opD M.D ((L.drop M.opened).take (bt + 1 - M.opened))) no }) ∧ Fr (fun k => k = mb ∨ k = M.lb) w w' := by
  have HT : Hid (Calls Try.prog 52 #[.pointer (some ⟨mb, 0, none⟩)] w fun e w' => e = .returned (.tuple #[.int .u32 (no : Int), .int .i64 0]) ∧ (∃ sa so sc n', n' ≤ M.n + 1001 * (bt + 1 - M.opened) ∧ MkAt w0 w' mb { M with sa := sa, so := so, sc := sc, S := S', opened := bt + 1, n := n', D := delN (opD M.D ((L.drop M.opened).take (bt + 1 - M.opened))) no }) ∧ Fr (fun k => k = mb ∨ k = M.lb) w w') := tree_calls h hch hcl hS hbt hlm ho hb
  have HLW : Hid (w0.heap.size ≤ w.heap.size ∧ (M.S ≠ [] → M.sb < w.heap.size) ∧ S'.length ≤ M.S.length ∧ (S' ≠ [] → M.S ≠ [])) := ⟨h.base.size, fun e => (h.sp.place e).2, by rw [hS]; simp, fun _ => by rw [hS]; simp⟩
  clear h hch hcl hS hbt hlm ho hb
  go_enter Try.func43, Try.ntmps43
  go_wp2_with fail
  refine wp_loop_rounds 2 ?_
  rw [rounds_succ]
  go_wp2_with fail
  refine HT.out.mono ?_
  rintro e W1 ⟨rfl, ⟨sa, so, sc, n', hn', m1⟩, f1⟩
  have HM1 : Hid (MkAt w0 W1 mb { M with sa := sa, so := so, sc := sc, S := S', opened := bt + 1, n := n', D := delN (opD M.D ((L.drop M.opened).take (bt + 1 - M.opened))) no }) := m1
  have HF1 : Hid (Fr (fun k => k = mb ∨ k = M.lb) w W1) := f1
  have HN1 : Hid (n' ≤ M.n + 1001 * (bt + 1 - M.opened)) := hn'
  have oa : (W1.alloc (.cells #[.int .u32 (no : Int)] 25)).ownsRow w.heap.size 25 1 (.slice none 0 0) 0 [] := own_nil
  have hvb : w.heap.size ≤ (W1.alloc (.cells #[.int .u32 (no : Int)] 25)).heap.size := by have := f1.size; simp; omega
  clear m1 f1 hn'
  go_wp2_with (at_builtin; go_must (refine wpList_partNums _ (by rfl) _ _ (by rfl) (by rfl) oa (x := ⟨some ⟨W1.heap.size, 0, none⟩, 1, 1, [.int .u32 (no : Int)]⟩) (by rfl) (part_oneN _ _ (heap_alloc_new W1 _) rfl) (by show 0 + 1 ≤ 1099511627776; decide) hvb ?_; intro ao2 c2 W2 o2 g2))
  have HM2 : Hid (MkAt w0 W2 mb { M with sa := sa, so := so, sc := sc, S := S', opened := bt + 1, n := n', D := delN (opD M.D ((L.drop M.opened).take (bt + 1 - M.opened))) no }) := (HM1.out.same ((Fr.refl _ W1).alloc _)).grown g2 (fun k e => by cases e)
  have HF2 : Hid (Fr (fun k => k = mb ∨ k = M.lb) w W2) := Fr.grown (Fr.alloc HF1.out _) g2 (fun k e _ => by cases e)
  have HO2 : Hid (W2.ownsRow w.heap.size 25 1 (.slice ao2 1 c2) 1 (ncells [no])) := o2
  clear o2 g2 oa hvb HT
  rw [rounds_succ]
  go_wp2_with fail
  go_ret2
  exact ⟨ao2, c2, rfl, HO2.out, ⟨sa, so, sc, n', HN1.out, HM2.out⟩, HF2.out⟩
end Go.Proofs.Ytbpoklkaffaleaa
