/- isBranch, ordered. -/
import Derived.Test.YtdmoglnbelembaaGreatFHJ
namespace Go.Proofs.YtdmoglnbelembaaGreat
open Go.RowKit

def branchG (p q : Int) (N : Nd) : Bool := decide (chkN p q N = 0) && decide (0 < N.ks.length)
set_option maxRecDepth 100000 in
set_option maxHeartbeats 1000000 in
theorem isBranchG_calls {p q : Int} {r : Nr} {N : Nd} (w : World) (h : NdAt w r N) :
    Calls Tryz.prog 34 #[frameV p q, ndV r N] w fun e w' => e = .returned (.bool (branchG p q N)) ∧ Same w w' := by
  have HC : Hid (∀ W, Same w W → Calls Tryz.prog 30 #[frameV p q, ndV r N] W fun e w' => e = .returned (.int .i64 (chkN p q N)) ∧ Same W w') := fun W s => check_calls p q W (h.same s)
  obtain ⟨V, hV⟩ : ∃ V, V = (w.alloc (.cells #[.int .i64 p, .int .i64 q] 23)).alloc (.cells #[.slice r.pa N.ps.length r.cp, .slice r.sa N.ss.length r.cs, .slice r.ka N.ks.length r.ck] 28) := ⟨_, rfl⟩
  have t1 : Same w V := by rw [hV]; exact ((Fr.refl _ w).alloc _).alloc _
  have a0 : V.cell? ⟨w.heap.size, 0, none⟩ = some (.int .i64 p) := by rw [hV]; simp
  have a1 : V.cell? ⟨w.heap.size, 1, none⟩ = some (.int .i64 q) := by rw [hV]; simp
  have n0 : V.cell? ⟨w.heap.size + 1, 0, none⟩ = some (.slice r.pa N.ps.length r.cp) := by rw [hV]; simp
  have n1 : V.cell? ⟨w.heap.size + 1, 1, none⟩ = some (.slice r.sa N.ss.length r.cs) := by rw [hV]; simp
  have n2 : V.cell? ⟨w.heap.size + 1, 2, none⟩ = some (.slice r.ka N.ks.length r.ck) := by rw [hV]; simp
  clear h
  unfold branchG
  obtain ⟨C, hC⟩ : ∃ C, C = chkN p q N := ⟨_, rfl⟩
  rw [← hC] at HC ⊢
  clear hC
  by_cases h0 : C = 0
  · subst h0
    rw [decide_eq_true rfl, Bool.true_and]
    have e0 : decide ((0 : Int) < (N.ks.length : Int)) = decide (0 < N.ks.length) := by rw [Bool.eq_iff_iff, decide_eq_true_eq, decide_eq_true_eq]; omega
    cases hb : decide (0 < N.ks.length) with
    | true =>
      rw [hb] at e0
      have e9 := of_decide_eq_true hb
      go_enter Tryz.func34, Tryz.ntmps34
      go_wp2_with fail
      rw [← hV]
      clear hV
      refine (HC.out _ t1).mono ?_
      rintro e W1 ⟨rfl, s1⟩
      have n2 := s1.keep n2
      go_wp2_with fail
      go_ret
      exact ⟨rfl, t1.trans s1⟩
    | false =>
      rw [hb] at e0
      have e9 := of_decide_eq_false hb
      go_enter Tryz.func34, Tryz.ntmps34
      go_wp2_with fail
      rw [← hV]
      clear hV
      refine (HC.out _ t1).mono ?_
      rintro e W1 ⟨rfl, s1⟩
      have n2 := s1.keep n2
      go_wp2_with fail
      go_ret
      exact ⟨rfl, t1.trans s1⟩
  · rw [decide_eq_false h0, Bool.false_and]
    go_enter Tryz.func34, Tryz.ntmps34
    go_wp2_with fail
    rw [← hV]
    clear hV
    refine (HC.out _ t1).mono ?_
    rintro e W1 ⟨rfl, s1⟩
    go_wp2_with fail
    go_ret
    exact ⟨rfl, t1.trans s1⟩
theorem find_above (k : ByteArray) : ∀ (ps : List (ByteArray × ByteArray)), (∀ x ∈ ps, Op.bytesLess x.1.toList k.toList = true) → findP k ps 0 = (ps.length, false)
  | [], _ => rfl
  | x :: ps, h => by
    rw [find_cons, find_above k ps (fun y hy => h y (List.mem_cons_of_mem _ hy))]
    have hl := h x List.mem_cons_self
    rcases cmp_cases x.1 k with ⟨_, e⟩ | ⟨e, _⟩ | ⟨e, _⟩
    · rw [e]; rfl
    · rw [e, less_self] at hl; cases hl
    · have := less_trans hl e
      rw [less_self] at this
      cases this
theorem find_firstly (k : ByteArray) (y : ByteArray × ByteArray) (l : List (ByteArray × ByteArray)) (h : Op.bytesLess y.1.toList k.toList = false) : (findP k (y :: l) 0).1 = 0 := by
  rw [find_cons]
  rcases cmp_cases y.1 k with ⟨e, _⟩ | ⟨_, e⟩ | ⟨_, e⟩
  · rw [h] at e; cases e
  · rw [e]; rfl
  · rw [e]; rfl
/-- Halves' seven cells. -/
def HCells (W : World) (b : Nat) (r1 r2 : Nr) (N1 N2 : Nd) (sp : ByteArray) : Prop := W.cell? ⟨b, 0, none⟩ = some (.slice r1.pa N1.ps.length r1.cp) ∧ W.cell? ⟨b, 1, none⟩ = some (.slice r1.sa N1.ss.length r1.cs) ∧ W.cell? ⟨b, 2, none⟩ = some (.slice r1.ka N1.ks.length r1.ck) ∧ W.cell? ⟨b, 3, none⟩ = some (.string sp) ∧ W.cell? ⟨b, 4, none⟩ = some (.slice r2.pa N2.ps.length r2.cp) ∧ W.cell? ⟨b, 5, none⟩ = some (.slice r2.sa N2.ss.length r2.cs) ∧ W.cell? ⟨b, 6, none⟩ = some (.slice r2.ka N2.ks.length r2.ck)
theorem hcells_row {W : World} {b : Nat} {r1 r2 : Nr} {N1 N2 : Nd} {sp : ByteArray} {t : TypeId} {fr : Nat × Nat} (h : W.heap[b]? = some (.cells (halvesN r1 r2 N1 N2 sp) t fr)) : HCells W b r1 r2 N1 N2 sp :=
  ⟨(cell_of_row _ _ _ _ _ _ h).trans rfl, (cell_of_row _ _ _ _ _ _ h).trans rfl, (cell_of_row _ _ _ _ _ _ h).trans rfl, (cell_of_row _ _ _ _ _ _ h).trans rfl, (cell_of_row _ _ _ _ _ _ h).trans rfl, (cell_of_row _ _ _ _ _ _ h).trans rfl, (cell_of_row _ _ _ _ _ _ h).trans rfl⟩
theorem HCells.keep {W W' : World} {b : Nat} {r1 r2 : Nr} {N1 N2 : Nd} {sp : ByteArray} (h : HCells W b r1 r2 N1 N2 sp) (s : Same W W') : HCells W' b r1 r2 N1 N2 sp := ⟨s.keep h.1, s.keep h.2.1, s.keep h.2.2.1, s.keep h.2.2.2.1, s.keep h.2.2.2.2.1, s.keep h.2.2.2.2.2.1, s.keep h.2.2.2.2.2.2⟩
set_option maxRecDepth 100000 in
set_option maxHeartbeats 2000000 in
theorem ordered_leaf {p q : Int} {r1 r2 : Nr} {N1 N2 : Nd} {sp : ByteArray} {b1 b2 : Bool} (w : World) (hs : Hid (N1.ss.length = 0))
    (HM : Hid (∀ W, Calls Tryz.prog 26 #[frameV p q, .string sp] W fun e w' => e = .returned (.bool true) ∧ Same W w'))
    (HF1 : Hid (∀ W, Same w W → Calls Tryz.prog 50 #[ndV r1 N1, .string sp] W fun e w' => e = .returned (.tuple #[.int .i64 (N1.ps.length : Int), .bool b1]) ∧ Same W w'))
    (HF2 : Hid (∀ W, Same w W → Calls Tryz.prog 50 #[ndV r2 N2, .string sp] W fun e w' => e = .returned (.tuple #[.int .i64 0, .bool b2]) ∧ Same W w')) :
    Calls Tryz.prog 35 #[frameV p q, .agg (halvesN r1 r2 N1 N2 sp)] w fun e w' => e = .returned (.bool true) ∧ Same w w' := by
  obtain ⟨V, hV⟩ : ∃ V, V = (w.alloc (.cells #[.int .i64 p, .int .i64 q] 23)).alloc (.cells (halvesN r1 r2 N1 N2 sp) 30) := ⟨_, rfl⟩
  have t1 : Same w V := by rw [hV]; exact ((Fr.refl _ w).alloc _).alloc _
  have c0 : V.cell? ⟨w.heap.size, 0, none⟩ = some (.int .i64 p) := by rw [hV]; simp
  have c1 : V.cell? ⟨w.heap.size, 1, none⟩ = some (.int .i64 q) := by rw [hV]; simp
  have HH : Hid (∀ W, Same V W → HCells W (w.heap.size + 1) r1 r2 N1 N2 sp) := fun W s => (hcells_row (by rw [hV]; exact heap_alloc2_new w _ _)).keep s
  unfold halvesN at hV ⊢
  go_enter Tryz.func35, Tryz.ntmps35
  go_wp2_with fail
  rw [← hV]
  clear hV
  obtain ⟨m0, m1, m2, m3, m4, m5, m6⟩ := HH.out _ (Fr.refl _ V)
  refine (HM.out _).mono ?_
  rintro e W1 ⟨rfl, s1⟩
  clear m0 m1 m2 m3 m4 m5 m6
  obtain ⟨m0, m1, m2, m3, m4, m5, m6⟩ := HH.out _ s1
  have hz : ¬ 0 < N1.ss.length := by have := hs.out; omega
  have e1 : ((N1.ps.length : Int) == (N1.ps.length : Int)) = true := by simp
  go_wp2_with fail
  refine (HF1.out _ (t1.trans s1)).mono ?_
  rintro e W2 ⟨rfl, s2⟩
  have s2 := s1.trans s2
  clear m0 m1 m2 m3 m4 m5 m6
  obtain ⟨m0, m1, m2, m3, m4, m5, m6⟩ := HH.out _ s2
  go_wp2_with fail
  refine (HF2.out _ (t1.trans s2)).mono ?_
  rintro e W3 ⟨rfl, s3⟩
  have s3 := s2.trans s3
  clear m0 m1 m2 m3 m4 m5 m6
  obtain ⟨m0, m1, m2, m3, m4, m5, m6⟩ := HH.out _ s3
  go_wp2_with fail
  go_ret
  exact ⟨rfl, t1.trans s3⟩
set_option maxRecDepth 100000 in
set_option maxHeartbeats 2000000 in
theorem ordered_branch {p q : Int} {r1 r2 : Nr} {N1 N2 : Nd} {sp x y : ByteArray} {k : Nat} (w : World) (hk : N1.ss.length = k + 1) (h1 : TRow w r1.sa r1.sb r1.so N1.ss) (h2 : TRow w r2.sa r2.sb r2.so N2.ss) (hx : N1.ss[k]? = some x) (hy : N2.ss[0]? = some y) (lx : Op.bytesLess x.toList sp.toList = true) (ly : Op.bytesLess sp.toList y.toList = true) (hb : k + 1 ≤ 1048576)
    (HM : Hid (∀ W, Calls Tryz.prog 26 #[frameV p q, .string sp] W fun e w' => e = .returned (.bool true) ∧ Same W w')) :
    Calls Tryz.prog 35 #[frameV p q, .agg (halvesN r1 r2 N1 N2 sp)] w fun e w' => e = .returned (.bool true) ∧ Same w w' := by
  obtain ⟨V, hV⟩ : ∃ V, V = (w.alloc (.cells #[.int .i64 p, .int .i64 q] 23)).alloc (.cells (halvesN r1 r2 N1 N2 sp) 30) := ⟨_, rfl⟩
  have t1 : Same w V := by rw [hV]; exact ((Fr.refl _ w).alloc _).alloc _
  have c0 : V.cell? ⟨w.heap.size, 0, none⟩ = some (.int .i64 p) := by rw [hV]; simp
  have c1 : V.cell? ⟨w.heap.size, 1, none⟩ = some (.int .i64 q) := by rw [hV]; simp
  obtain ⟨p1, _⟩ := h1.place (fun e => by rw [e] at hk; simp at hk)
  obtain ⟨p2, _⟩ := h2.place (fun e => by rw [e] at hy; simp at hy)
  have x0 := h1.cells k x hx
  have y0 := h2.cells 0 y hy
  rw [Nat.add_zero] at y0
  have hl2 : 0 < N2.ss.length := (List.getElem?_eq_some_iff.1 hy).1
  have HH : Hid (∀ W, Same V W → (W.cell? ⟨w.heap.size + 1, 0, none⟩ = some (.slice r1.pa N1.ps.length r1.cp) ∧ W.cell? ⟨w.heap.size + 1, 1, none⟩ = some (.slice (some ⟨r1.sb, r1.so, none⟩) (k + 1) r1.cs) ∧ W.cell? ⟨w.heap.size + 1, 2, none⟩ = some (.slice r1.ka N1.ks.length r1.ck) ∧ W.cell? ⟨w.heap.size + 1, 3, none⟩ = some (.string sp) ∧ W.cell? ⟨w.heap.size + 1, 4, none⟩ = some (.slice r2.pa N2.ps.length r2.cp) ∧ W.cell? ⟨w.heap.size + 1, 5, none⟩ = some (.slice (some ⟨r2.sb, r2.so, none⟩) N2.ss.length r2.cs)) ∧ W.cell? ⟨r1.sb, r1.so + k, none⟩ = some (.string x) ∧ W.cell? ⟨r2.sb, r2.so, none⟩ = some (.string y)) := fun W s => by
    obtain ⟨a0, a1, a2, a3, a4, a5, a6⟩ := (hcells_row (r1 := r1) (r2 := r2) (N1 := N1) (N2 := N2) (sp := sp) (W := V) (b := w.heap.size + 1) (t := 30) (fr := (0, 0)) (by rw [hV]; exact heap_alloc2_new w _ _)).keep s
    rw [p1, hk] at a1
    rw [p2] at a5
    exact ⟨⟨a0, a1, a2, a3, a4, a5⟩, (t1.trans s).keep x0, (t1.trans s).keep y0⟩
  have e1 : ((k : Int) + 1) - 1 = (k : Int) := by omega
  have e3 : IntKind.i64.wrap (k : Int) = (k : Int) := by rw [IntKind.wrap_i64]; omega
  have b1 : (0 : Int) ≤ (k : Int) := by omega
  have b2 : (k : Int) < (k : Int) + 1 := by omega
  have b3 : (0 : Int) < (N2.ss.length : Int) := by omega
  clear h1 h2 hx hy x0 y0
  unfold halvesN at hV ⊢
  rw [p1, p2, hk] at hV ⊢
  go_enter Tryz.func35, Tryz.ntmps35
  go_wp2_with fail
  rw [← hV]
  clear hV
  refine (HM.out _).mono ?_
  rintro e W1 ⟨rfl, s1⟩
  obtain ⟨⟨m0, m1, m2, m3, m4, m5⟩, x0, y0⟩ := HH.out _ s1
  go_wp2_with fail
  go_quiet (fail)
  have sq : Same V (W1.drewN nq) := ⟨s1.os, s1.tape, s1.output, s1.size, s1.block⟩
  go_wp2_with fail
  go_ret
  exact ⟨rfl, t1.trans sq⟩
end Go.Proofs.YtdmoglnbelembaaGreat
