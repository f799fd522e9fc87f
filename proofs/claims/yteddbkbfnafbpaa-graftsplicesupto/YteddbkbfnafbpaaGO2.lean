/- isBranch, ordered. -/
import Derived.Test.YteddbkbfnafbpaaGO1
namespace Go.Proofs.Yteddbkbfnafbpaa
open Go.RowKit

def branchG (p q : Int) (N : Nd) : Bool := decide (chkN p q N = 0) && decide (0 < N.ks.length)
set_option maxRecDepth 100000 in
set_option maxHeartbeats 1000000 in
theorem isBranchG_calls {p q : Int} {r : Nr} {N : Nd} (w : World) (h : NdAt w r N) :
    Calls Try.prog 13 #[frameV p q, ndV r N] w fun e w' => e = .returned (.bool (branchG p q N)) ∧ Same w w' := by
  have HC : Hid (∀ W, Same w W → Calls Try.prog 18 #[frameV p q, ndV r N] W fun e w' => e = .returned (.int .i64 (chkN p q N)) ∧ Same W w') := fun W s => check_calls p q W (h.same s)
  obtain ⟨V, hV⟩ : ∃ V, V = (w.alloc (.cells #[.int .i64 p, .int .i64 q] 23)).alloc (.cells #[.slice r.pa N.ps.length r.cp, .slice r.sa N.ss.length r.cs, .slice r.ka N.ks.length r.ck] 28) := ⟨_, rfl⟩
  have t1 : Same w V := by rw [hV]; exact ((Fr.refl _ w).alloc _).alloc _
  have a0 : V.cell? ⟨w.heap.size, 0, none⟩ = some (.int .i64 p) := by rw [hV]; simp
  have a1 : V.cell? ⟨w.heap.size, 1, none⟩ = some (.int .i64 q) := by rw [hV]; simp
  have n0 : V.cell? ⟨w.heap.size + 1, 0, none⟩ = some (.slice r.pa N.ps.length r.cp) := by rw [hV]; simp
  have n1 : V.cell? ⟨w.heap.size + 1, 1, none⟩ = some (.slice r.sa N.ss.length r.cs) := by rw [hV]; simp
  have n2 : V.cell? ⟨w.heap.size + 1, 2, none⟩ = some (.slice r.ka N.ks.length r.ck) := by rw [hV]; simp
  clear h
  unfold branchG
  obtain ⟨C, hC⟩ : ∃ C, C = chkN p q N := ⟨_, rfl⟩
  rw [← hC] at HC ⊢
  clear hC
  by_cases h0 : C = 0
  · subst h0
    rw [decide_eq_true rfl, Bool.true_and]
    have e0 : decide ((0 : Int) < (N.ks.length : Int)) = decide (0 < N.ks.length) := by rw [Bool.eq_iff_iff, decide_eq_true_eq, decide_eq_true_eq]; omega
    cases hb : decide (0 < N.ks.length) with
    | true =>
      rw [hb] at e0
      have e9 := of_decide_eq_true hb
      go_enter Try.func13, Try.ntmps13
      go_wp2_with fail
      rw [← hV]
      clear hV
      refine (HC.out _ t1).mono ?_
      rintro e W1 ⟨rfl, s1⟩
      have n2 := s1.keep n2
      go_wp2_with fail
      go_ret
      exact ⟨rfl, t1.trans s1⟩
    | false =>
      rw [hb] at e0
      have e9 := of_decide_eq_false hb
      go_enter Try.func13, Try.ntmps13
      go_wp2_with fail
      rw [← hV]
      clear hV
      refine (HC.out _ t1).mono ?_
      rintro e W1 ⟨rfl, s1⟩
      have n2 := s1.keep n2
      go_wp2_with fail
      go_ret
      exact ⟨rfl, t1.trans s1⟩
  · rw [decide_eq_false h0, Bool.false_and]
    go_enter Try.func13, Try.ntmps13
    go_wp2_with fail
    rw [← hV]
    clear hV
    refine (HC.out _ t1).mono ?_
    rintro e W1 ⟨rfl, s1⟩
    go_wp2_with fail
    go_ret
    exact ⟨rfl, t1.trans s1⟩
theorem find_above (k : ByteArray) : ∀ (ps : List (ByteArray × ByteArray)), (∀ x ∈ ps, Op.bytesLess x.1.toList k.toList = true) → findP k ps 0 = (ps.length, false)
  | [], _ => rfl
  | x :: ps, h => by
    rw [find_cons, find_above k ps (fun y hy => h y (List.mem_cons_of_mem _ hy))]
    have hl := h x List.mem_cons_self
    rcases cmp_cases x.1 k with ⟨_, e⟩ | ⟨e, _⟩ | ⟨e, _⟩
    · rw [e]; rfl
    · rw [e, less_self] at hl; cases hl
    · have := less_trans hl e
      rw [less_self] at this
      cases this
theorem find_firstly (k : ByteArray) (y : ByteArray × ByteArray) (l : List (ByteArray × ByteArray)) (h : Op.bytesLess y.1.toList k.toList = false) : (findP k (y :: l) 0).1 = 0 := by
  rw [find_cons]
  rcases cmp_cases y.1 k with ⟨e, _⟩ | ⟨_, e⟩ | ⟨_, e⟩
  · rw [h] at e; cases e
  · rw [e]; rfl
  · rw [e]; rfl
/-- Halves' seven cells. -/
def HCells (W : World) (b : Nat) (r1 r2 : Nr) (N1 N2 : Nd) (sp : ByteArray) : Prop := W.cell? ⟨b, 0, none⟩ = some (.slice r1.pa N1.ps.length r1.cp) ∧ W.cell? ⟨b, 1, none⟩ = some (.slice r1.sa N1.ss.length r1.cs) ∧ W.cell? ⟨b, 2, none⟩ = some (.slice r1.ka N1.ks.length r1.ck) ∧ W.cell? ⟨b, 3, none⟩ = some (.string sp) ∧ W.cell? ⟨b, 4, none⟩ = some (.slice r2.pa N2.ps.length r2.cp) ∧ W.cell? ⟨b, 5, none⟩ = some (.slice r2.sa N2.ss.length r2.cs) ∧ W.cell? ⟨b, 6, none⟩ = some (.slice r2.ka N2.ks.length r2.ck)
theorem hcells_row {W : World} {b : Nat} {r1 r2 : Nr} {N1 N2 : Nd} {sp : ByteArray} {t : TypeId} {fr : Nat × Nat} (h : W.heap[b]? = some (.cells (halvesN r1 r2 N1 N2 sp) t fr)) : HCells W b r1 r2 N1 N2 sp :=
  ⟨(cell_of_row _ _ _ _ _ _ h).trans rfl, (cell_of_row _ _ _ _ _ _ h).trans rfl, (cell_of_row _ _ _ _ _ _ h).trans rfl, (cell_of_row _ _ _ _ _ _ h).trans rfl, (cell_of_row _ _ _ _ _ _ h).trans rfl, (cell_of_row _ _ _ _ _ _ h).trans rfl, (cell_of_row _ _ _ _ _ _ h).trans rfl⟩
theorem HCells.keep {W W' : World} {b : Nat} {r1 r2 : Nr} {N1 N2 : Nd} {sp : ByteArray} (h : HCells W b r1 r2 N1 N2 sp) (s : Same W W') : HCells W' b r1 r2 N1 N2 sp := ⟨s.keep h.1, s.keep h.2.1, s.keep h.2.2.1, s.keep h.2.2.2.1, s.keep h.2.2.2.2.1, s.keep h.2.2.2.2.2.1, s.keep h.2.2.2.2.2.2⟩
end Go.Proofs.Yteddbkbfnafbpaa
