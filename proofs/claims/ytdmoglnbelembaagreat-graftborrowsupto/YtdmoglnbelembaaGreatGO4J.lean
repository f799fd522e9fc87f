/- Merge, Borrow, Mend of halves that are joined. -/
import Derived.Test.YtdmoglnbelembaaGreatGO2
import Derived.Test.YtdmoglnbelembaaGreatGO3
namespace Go.Proofs.YtdmoglnbelembaaGreat
open Go.RowKit

end Go.Proofs.YtdmoglnbelembaaGreat
namespace Go.Proofs.YtdmoglnbelembaaGreat
open Go.RowKit

end Go.Proofs.YtdmoglnbelembaaGreat
namespace Go.Proofs.YtdmoglnbelembaaGreat
open Go.RowKit

theorem own_partG {w : World} {base : Nat} {e : TypeId} {sz n c : Nat} {ao : Option Addr} {xs : List Value} (h : w.ownsRow base e sz (.slice ao n c) n xs) (h1 : ∀ u ∈ xs, u.oneCell' = true) : PartOk w sz ⟨ao, n, c, xs⟩ := by
  refine ⟨h.1, fun hn => ?_, fun a ha j u hj => ?_, h1⟩
  · obtain ⟨_, ⟨h2, h3⟩ | ⟨g, c, cur, hv, _⟩⟩ := h
    · injection h2 with _ _ e3
      exact ⟨h3, e3⟩
    · injection hv with e1
      simp only at hn
      rw [hn] at e1; cases e1
  · obtain ⟨_, ⟨h2, h3⟩ | ⟨g, c, cur, hv, _, hh, h4, h5, h6, h7⟩⟩ := h
    · simp only at ha; rw [ha] at h2; cases h2
    · injection hv with e1
      simp only at ha hj
      rw [ha] at e1
      injection e1 with e1
      rw [e1, WideShapes.add_plain, Nat.zero_add, cell_of_row _ _ _ _ _ _ hh, ← Array.getElem?_toList]
      rw [← h7, List.getElem?_take] at hj
      split at hj
      · exact hj
      · cases hj
theorem concat2Pairs {a1 a2 : Option Addr} {n1 c1 n2 c2 : Nat} {l1 l2 : List Value} (w : World) (gb : Nat) (h1 : PartOk w 2 ⟨a1, n1, c1, l1⟩) (h2 : PartOk w 2 ⟨a2, n2, c2, l2⟩) (hg : w.heap[gb]? = some (.cells #[.slice a1 n1 c1, .slice a2 n2 c2] 24 (0, 0))) (hb : n1 + n2 ≤ 1048576) :
    Calls Tryz.prog 36 #[.slice (some ⟨gb, 0, none⟩) 2 2] w fun e w' => ∃ ao c, e = .returned (.slice ao (n1 + n2) c) ∧ w'.ownsRow w.heap.size 46 2 (.slice ao (n1 + n2) c) (n1 + n2) (l1 ++ l2) ∧ Same w w' := by
  have := concatPairs (gb := gb) (cc := 2) (L := [⟨a1, n1, c1, l1⟩, ⟨a2, n2, c2, l2⟩]) w (fun j x hx => ?_) (fun x hx => ?_) (by simp) (by simp [partsN]; omega)
  · rw [show partsN [⟨a1, n1, c1, l1⟩, ⟨a2, n2, c2, l2⟩] = n1 + n2 from by simp [partsN], show partsC [⟨a1, n1, c1, l1⟩, ⟨a2, n2, c2, l2⟩] = l1 ++ l2 from by simp [partsC]] at this
    exact this
  · rw [cell_of_row _ _ _ _ _ _ hg]
    rcases j with _ | _ | j
    · obtain rfl : _ = x := by simpa using hx
      rfl
    · obtain rfl : _ = x := by simpa using hx
      rfl
    · simp at hx
  · rcases List.mem_cons.1 hx with rfl | hx
    · exact h1
    · rcases List.mem_cons.1 hx with rfl | hx
      · exact h2
      · cases hx
theorem concat2Texts {a1 a2 : Option Addr} {n1 c1 n2 c2 : Nat} {l1 l2 : List Value} (w : World) (gb : Nat) (h1 : PartOk w 1 ⟨a1, n1, c1, l1⟩) (h2 : PartOk w 1 ⟨a2, n2, c2, l2⟩) (hg : w.heap[gb]? = some (.cells #[.slice a1 n1 c1, .slice a2 n2 c2] 25 (0, 0))) (hb : n1 + n2 ≤ 1048576) :
    Calls Tryz.prog 37 #[.slice (some ⟨gb, 0, none⟩) 2 2] w fun e w' => ∃ ao c, e = .returned (.slice ao (n1 + n2) c) ∧ w'.ownsRow w.heap.size 9 1 (.slice ao (n1 + n2) c) (n1 + n2) (l1 ++ l2) ∧ Same w w' := by
  have := concatTexts (gb := gb) (cc := 2) (L := [⟨a1, n1, c1, l1⟩, ⟨a2, n2, c2, l2⟩]) w (fun j x hx => ?_) (fun x hx => ?_) (by simp) (by simp [partsN]; omega)
  · rw [show partsN [⟨a1, n1, c1, l1⟩, ⟨a2, n2, c2, l2⟩] = n1 + n2 from by simp [partsN], show partsC [⟨a1, n1, c1, l1⟩, ⟨a2, n2, c2, l2⟩] = l1 ++ l2 from by simp [partsC]] at this
    exact this
  · rw [cell_of_row _ _ _ _ _ _ hg]
    rcases j with _ | _ | j
    · obtain rfl : _ = x := by simpa using hx
      rfl
    · obtain rfl : _ = x := by simpa using hx
      rfl
    · simp at hx
  · rcases List.mem_cons.1 hx with rfl | hx
    · exact h1
    · rcases List.mem_cons.1 hx with rfl | hx
      · exact h2
      · cases hx
theorem concat2Kids {a1 a2 : Option Addr} {n1 c1 n2 c2 : Nat} {l1 l2 : List Value} (w : World) (gb : Nat) (h1 : PartOk w 33 ⟨a1, n1, c1, l1⟩) (h2 : PartOk w 33 ⟨a2, n2, c2, l2⟩) (hg : w.heap[gb]? = some (.cells #[.slice a1 n1 c1, .slice a2 n2 c2] 26 (0, 0))) (hb : n1 + n2 ≤ 1048576) :
    Calls Tryz.prog 39 #[.slice (some ⟨gb, 0, none⟩) 2 2] w fun e w' => ∃ ao c, e = .returned (.slice ao (n1 + n2) c) ∧ w'.ownsRow w.heap.size 58 33 (.slice ao (n1 + n2) c) (n1 + n2) (l1 ++ l2) ∧ Same w w' := by
  have := concatKids (gb := gb) (cc := 2) (L := [⟨a1, n1, c1, l1⟩, ⟨a2, n2, c2, l2⟩]) w (fun j x hx => ?_) (fun x hx => ?_) (by simp) (by simp [partsN]; omega)
  · rw [show partsN [⟨a1, n1, c1, l1⟩, ⟨a2, n2, c2, l2⟩] = n1 + n2 from by simp [partsN], show partsC [⟨a1, n1, c1, l1⟩, ⟨a2, n2, c2, l2⟩] = l1 ++ l2 from by simp [partsC]] at this
    exact this
  · rw [cell_of_row _ _ _ _ _ _ hg]
    rcases j with _ | _ | j
    · obtain rfl : _ = x := by simpa using hx
      rfl
    · obtain rfl : _ = x := by simpa using hx
      rfl
    · simp at hx
  · rcases List.mem_cons.1 hx with rfl | hx
    · exact h1
    · rcases List.mem_cons.1 hx with rfl | hx
      · exact h2
      · cases hx
end Go.Proofs.YtdmoglnbelembaaGreat
namespace Go.Proofs.YtdmoglnbelembaaGreat
open Go.RowKit

set_option maxRecDepth 100000 in
set_option maxHeartbeats 2000000 in
theorem ordered_leafF {i1 i2 : Nat} {p q : Int} {r1 r2 : Nr} {N1 N2 : Nd} {sp : ByteArray} {b1 b2 : Bool} (w : World) (hs : Hid (N1.ss.length = 0)) (hi : ¬ i1 = N1.ps.length)
    (HM : Hid (∀ W, Calls Tryz.prog 26 #[frameV p q, .string sp] W fun e w' => e = .returned (.bool true) ∧ Same W w'))
    (HF1 : Hid (∀ W, Same w W → Calls Tryz.prog 50 #[ndV r1 N1, .string sp] W fun e w' => e = .returned (.tuple #[.int .i64 (i1 : Int), .bool b1]) ∧ Same W w'))
    (HF2 : Hid (∀ W, Same w W → Calls Tryz.prog 50 #[ndV r2 N2, .string sp] W fun e w' => e = .returned (.tuple #[.int .i64 (i2 : Int), .bool b2]) ∧ Same W w')) :
    Calls Tryz.prog 35 #[frameV p q, .agg (halvesN r1 r2 N1 N2 sp)] w fun e w' => e = .returned (.bool false) ∧ Same w w' := by
  obtain ⟨V, hV⟩ : ∃ V, V = (w.alloc (.cells #[.int .i64 p, .int .i64 q] 23)).alloc (.cells (halvesN r1 r2 N1 N2 sp) 30) := ⟨_, rfl⟩
  have t1 : Same w V := by rw [hV]; exact ((Fr.refl _ w).alloc _).alloc _
  have c0 : V.cell? ⟨w.heap.size, 0, none⟩ = some (.int .i64 p) := by rw [hV]; simp
  have c1 : V.cell? ⟨w.heap.size, 1, none⟩ = some (.int .i64 q) := by rw [hV]; simp
  have HH : Hid (∀ W, Same V W → HCells W (w.heap.size + 1) r1 r2 N1 N2 sp) := fun W s => (hcells_row (by rw [hV]; exact heap_alloc2_new w _ _)).keep s
  unfold halvesN at hV ⊢
  go_enter Tryz.func35, Tryz.ntmps35
  go_wp2_with fail
  rw [← hV]
  clear hV
  obtain ⟨m0, m1, m2, m3, m4, m5, m6⟩ := HH.out _ (Fr.refl _ V)
  refine (HM.out _).mono ?_
  rintro e W1 ⟨rfl, s1⟩
  clear m0 m1 m2 m3 m4 m5 m6
  obtain ⟨m0, m1, m2, m3, m4, m5, m6⟩ := HH.out _ s1
  have hz : ¬ 0 < N1.ss.length := by have := hs.out; omega
  have e1 : ((i1 : Int) == (N1.ps.length : Int)) = false := by rw [beq_eq_false_iff_ne]; omega
  clear hi
  go_wp2_with fail
  refine (HF1.out _ (t1.trans s1)).mono ?_
  rintro e W2 ⟨rfl, s2⟩
  have s2 := s1.trans s2
  clear m0 m1 m2 m3 m4 m5 m6
  obtain ⟨m0, m1, m2, m3, m4, m5, m6⟩ := HH.out _ s2
  go_wp2_with fail
  refine (HF2.out _ (t1.trans s2)).mono ?_
  rintro e W3 ⟨rfl, s3⟩
  have s3 := s2.trans s3
  clear m0 m1 m2 m3 m4 m5 m6
  obtain ⟨m0, m1, m2, m3, m4, m5, m6⟩ := HH.out _ s3
  go_wp2_with fail
  go_ret
  exact ⟨rfl, t1.trans s3⟩
set_option maxRecDepth 100000 in
set_option maxHeartbeats 2000000 in
theorem ordered_leafG {i2 : Nat} {p q : Int} {r1 r2 : Nr} {N1 N2 : Nd} {sp : ByteArray} {b1 b2 : Bool} (w : World) (hs : Hid (N1.ss.length = 0)) (hi : ¬ i2 = 0)
    (HM : Hid (∀ W, Calls Tryz.prog 26 #[frameV p q, .string sp] W fun e w' => e = .returned (.bool true) ∧ Same W w'))
    (HF1 : Hid (∀ W, Same w W → Calls Tryz.prog 50 #[ndV r1 N1, .string sp] W fun e w' => e = .returned (.tuple #[.int .i64 (N1.ps.length : Int), .bool b1]) ∧ Same W w'))
    (HF2 : Hid (∀ W, Same w W → Calls Tryz.prog 50 #[ndV r2 N2, .string sp] W fun e w' => e = .returned (.tuple #[.int .i64 (i2 : Int), .bool b2]) ∧ Same W w')) :
    Calls Tryz.prog 35 #[frameV p q, .agg (halvesN r1 r2 N1 N2 sp)] w fun e w' => e = .returned (.bool false) ∧ Same w w' := by
  obtain ⟨V, hV⟩ : ∃ V, V = (w.alloc (.cells #[.int .i64 p, .int .i64 q] 23)).alloc (.cells (halvesN r1 r2 N1 N2 sp) 30) := ⟨_, rfl⟩
  have t1 : Same w V := by rw [hV]; exact ((Fr.refl _ w).alloc _).alloc _
  have c0 : V.cell? ⟨w.heap.size, 0, none⟩ = some (.int .i64 p) := by rw [hV]; simp
  have c1 : V.cell? ⟨w.heap.size, 1, none⟩ = some (.int .i64 q) := by rw [hV]; simp
  have HH : Hid (∀ W, Same V W → HCells W (w.heap.size + 1) r1 r2 N1 N2 sp) := fun W s => (hcells_row (by rw [hV]; exact heap_alloc2_new w _ _)).keep s
  unfold halvesN at hV ⊢
  go_enter Tryz.func35, Tryz.ntmps35
  go_wp2_with fail
  rw [← hV]
  clear hV
  obtain ⟨m0, m1, m2, m3, m4, m5, m6⟩ := HH.out _ (Fr.refl _ V)
  refine (HM.out _).mono ?_
  rintro e W1 ⟨rfl, s1⟩
  clear m0 m1 m2 m3 m4 m5 m6
  obtain ⟨m0, m1, m2, m3, m4, m5, m6⟩ := HH.out _ s1
  have hz : ¬ 0 < N1.ss.length := by have := hs.out; omega
  have e1 : ((N1.ps.length : Int) == (N1.ps.length : Int)) = true := by simp
  have e2 : ((i2 : Int) == 0) = false := by simpa using hi
  clear hi
  go_wp2_with fail
  refine (HF1.out _ (t1.trans s1)).mono ?_
  rintro e W2 ⟨rfl, s2⟩
  have s2 := s1.trans s2
  clear m0 m1 m2 m3 m4 m5 m6
  obtain ⟨m0, m1, m2, m3, m4, m5, m6⟩ := HH.out _ s2
  go_wp2_with fail
  refine (HF2.out _ (t1.trans s2)).mono ?_
  rintro e W3 ⟨rfl, s3⟩
  have s3 := s2.trans s3
  clear m0 m1 m2 m3 m4 m5 m6
  obtain ⟨m0, m1, m2, m3, m4, m5, m6⟩ := HH.out _ s3
  go_wp2_with fail
  go_ret
  exact ⟨rfl, t1.trans s3⟩
set_option maxRecDepth 100000 in
set_option maxHeartbeats 2000000 in
theorem ordered_may {p q : Int} {r1 r2 : Nr} {N1 N2 : Nd} {sp : ByteArray} (w : World)
    (HM : Hid (∀ W, Calls Tryz.prog 26 #[frameV p q, .string sp] W fun e w' => e = .returned (.bool false) ∧ Same W w')) :
    Calls Tryz.prog 35 #[frameV p q, .agg (halvesN r1 r2 N1 N2 sp)] w fun e w' => e = .returned (.bool false) ∧ Same w w' := by
  obtain ⟨V, hV⟩ : ∃ V, V = (w.alloc (.cells #[.int .i64 p, .int .i64 q] 23)).alloc (.cells (halvesN r1 r2 N1 N2 sp) 30) := ⟨_, rfl⟩
  have t1 : Same w V := by rw [hV]; exact ((Fr.refl _ w).alloc _).alloc _
  have c0 : V.cell? ⟨w.heap.size, 0, none⟩ = some (.int .i64 p) := by rw [hV]; simp
  have c1 : V.cell? ⟨w.heap.size, 1, none⟩ = some (.int .i64 q) := by rw [hV]; simp
  have HH : Hid (∀ W, Same V W → HCells W (w.heap.size + 1) r1 r2 N1 N2 sp) := fun W s => (hcells_row (by rw [hV]; exact heap_alloc2_new w _ _)).keep s
  unfold halvesN at hV ⊢
  go_enter Tryz.func35, Tryz.ntmps35
  go_wp2_with fail
  rw [← hV]
  clear hV
  obtain ⟨m0, m1, m2, m3, m4, m5, m6⟩ := HH.out _ (Fr.refl _ V)
  refine (HM.out _).mono ?_
  rintro e W1 ⟨rfl, s1⟩
  clear m0 m1 m2 m3 m4 m5 m6
  obtain ⟨m0, m1, m2, m3, m4, m5, m6⟩ := HH.out _ s1
  go_wp2_with fail
  go_ret
  exact ⟨rfl, t1.trans s1⟩
set_option maxRecDepth 100000 in
set_option maxHeartbeats 2000000 in
theorem ordered_branchF {p q : Int} {r1 r2 : Nr} {N1 N2 : Nd} {sp x y : ByteArray} {k : Nat} (w : World) (hk : N1.ss.length = k + 1) (h1 : TRow w r1.sa r1.sb r1.so N1.ss) (h2 : TRow w r2.sa r2.sb r2.so N2.ss) (hx : N1.ss[k]? = some x) (hy : N2.ss[0]? = some y) (lx : Op.bytesLess x.toList sp.toList = false) (hb : k + 1 ≤ 1048576)
    (HM : Hid (∀ W, Calls Tryz.prog 26 #[frameV p q, .string sp] W fun e w' => e = .returned (.bool true) ∧ Same W w')) :
    Calls Tryz.prog 35 #[frameV p q, .agg (halvesN r1 r2 N1 N2 sp)] w fun e w' => e = .returned (.bool false) ∧ Same w w' := by
  obtain ⟨V, hV⟩ : ∃ V, V = (w.alloc (.cells #[.int .i64 p, .int .i64 q] 23)).alloc (.cells (halvesN r1 r2 N1 N2 sp) 30) := ⟨_, rfl⟩
  have t1 : Same w V := by rw [hV]; exact ((Fr.refl _ w).alloc _).alloc _
  have c0 : V.cell? ⟨w.heap.size, 0, none⟩ = some (.int .i64 p) := by rw [hV]; simp
  have c1 : V.cell? ⟨w.heap.size, 1, none⟩ = some (.int .i64 q) := by rw [hV]; simp
  obtain ⟨p1, _⟩ := h1.place (fun e => by rw [e] at hk; simp at hk)
  obtain ⟨p2, _⟩ := h2.place (fun e => by rw [e] at hy; simp at hy)
  have x0 := h1.cells k x hx
  have y0 := h2.cells 0 y hy
  rw [Nat.add_zero] at y0
  have hl2 : 0 < N2.ss.length := (List.getElem?_eq_some_iff.1 hy).1
  have HH : Hid (∀ W, Same V W → (W.cell? ⟨w.heap.size + 1, 0, none⟩ = some (.slice r1.pa N1.ps.length r1.cp) ∧ W.cell? ⟨w.heap.size + 1, 1, none⟩ = some (.slice (some ⟨r1.sb, r1.so, none⟩) (k + 1) r1.cs) ∧ W.cell? ⟨w.heap.size + 1, 2, none⟩ = some (.slice r1.ka N1.ks.length r1.ck) ∧ W.cell? ⟨w.heap.size + 1, 3, none⟩ = some (.string sp) ∧ W.cell? ⟨w.heap.size + 1, 4, none⟩ = some (.slice r2.pa N2.ps.length r2.cp) ∧ W.cell? ⟨w.heap.size + 1, 5, none⟩ = some (.slice (some ⟨r2.sb, r2.so, none⟩) N2.ss.length r2.cs)) ∧ W.cell? ⟨r1.sb, r1.so + k, none⟩ = some (.string x) ∧ W.cell? ⟨r2.sb, r2.so, none⟩ = some (.string y)) := fun W s => by
    obtain ⟨a0, a1, a2, a3, a4, a5, a6⟩ := (hcells_row (r1 := r1) (r2 := r2) (N1 := N1) (N2 := N2) (sp := sp) (W := V) (b := w.heap.size + 1) (t := 30) (fr := (0, 0)) (by rw [hV]; exact heap_alloc2_new w _ _)).keep s
    rw [p1, hk] at a1
    rw [p2] at a5
    exact ⟨⟨a0, a1, a2, a3, a4, a5⟩, (t1.trans s).keep x0, (t1.trans s).keep y0⟩
  have e1 : ((k : Int) + 1) - 1 = (k : Int) := by omega
  have e3 : IntKind.i64.wrap (k : Int) = (k : Int) := by rw [IntKind.wrap_i64]; omega
  have b1 : (0 : Int) ≤ (k : Int) := by omega
  have b2 : (k : Int) < (k : Int) + 1 := by omega
  have b3 : (0 : Int) < (N2.ss.length : Int) := by omega
  clear h1 h2 hx hy x0 y0
  unfold halvesN at hV ⊢
  rw [p1, p2, hk] at hV ⊢
  go_enter Tryz.func35, Tryz.ntmps35
  go_wp2_with fail
  rw [← hV]
  clear hV
  refine (HM.out _).mono ?_
  rintro e W1 ⟨rfl, s1⟩
  obtain ⟨⟨m0, m1, m2, m3, m4, m5⟩, x0, y0⟩ := HH.out _ s1
  go_wp2_with fail
  go_quiet (fail)
  have sq : Same V (W1.drewN nq) := ⟨s1.os, s1.tape, s1.output, s1.size, s1.block⟩
  go_wp2_with fail
  go_ret
  exact ⟨rfl, t1.trans sq⟩
set_option maxRecDepth 100000 in
set_option maxHeartbeats 2000000 in
theorem ordered_branchG {p q : Int} {r1 r2 : Nr} {N1 N2 : Nd} {sp x y : ByteArray} {k : Nat} (w : World) (hk : N1.ss.length = k + 1) (h1 : TRow w r1.sa r1.sb r1.so N1.ss) (h2 : TRow w r2.sa r2.sb r2.so N2.ss) (hx : N1.ss[k]? = some x) (hy : N2.ss[0]? = some y) (lx : Op.bytesLess x.toList sp.toList = true) (ly : Op.bytesLess sp.toList y.toList = false) (hb : k + 1 ≤ 1048576)
    (HM : Hid (∀ W, Calls Tryz.prog 26 #[frameV p q, .string sp] W fun e w' => e = .returned (.bool true) ∧ Same W w')) :
    Calls Tryz.prog 35 #[frameV p q, .agg (halvesN r1 r2 N1 N2 sp)] w fun e w' => e = .returned (.bool false) ∧ Same w w' := by
  obtain ⟨V, hV⟩ : ∃ V, V = (w.alloc (.cells #[.int .i64 p, .int .i64 q] 23)).alloc (.cells (halvesN r1 r2 N1 N2 sp) 30) := ⟨_, rfl⟩
  have t1 : Same w V := by rw [hV]; exact ((Fr.refl _ w).alloc _).alloc _
  have c0 : V.cell? ⟨w.heap.size, 0, none⟩ = some (.int .i64 p) := by rw [hV]; simp
  have c1 : V.cell? ⟨w.heap.size, 1, none⟩ = some (.int .i64 q) := by rw [hV]; simp
  obtain ⟨p1, _⟩ := h1.place (fun e => by rw [e] at hk; simp at hk)
  obtain ⟨p2, _⟩ := h2.place (fun e => by rw [e] at hy; simp at hy)
  have x0 := h1.cells k x hx
  have y0 := h2.cells 0 y hy
  rw [Nat.add_zero] at y0
  have hl2 : 0 < N2.ss.length := (List.getElem?_eq_some_iff.1 hy).1
  have HH : Hid (∀ W, Same V W → (W.cell? ⟨w.heap.size + 1, 0, none⟩ = some (.slice r1.pa N1.ps.length r1.cp) ∧ W.cell? ⟨w.heap.size + 1, 1, none⟩ = some (.slice (some ⟨r1.sb, r1.so, none⟩) (k + 1) r1.cs) ∧ W.cell? ⟨w.heap.size + 1, 2, none⟩ = some (.slice r1.ka N1.ks.length r1.ck) ∧ W.cell? ⟨w.heap.size + 1, 3, none⟩ = some (.string sp) ∧ W.cell? ⟨w.heap.size + 1, 4, none⟩ = some (.slice r2.pa N2.ps.length r2.cp) ∧ W.cell? ⟨w.heap.size + 1, 5, none⟩ = some (.slice (some ⟨r2.sb, r2.so, none⟩) N2.ss.length r2.cs)) ∧ W.cell? ⟨r1.sb, r1.so + k, none⟩ = some (.string x) ∧ W.cell? ⟨r2.sb, r2.so, none⟩ = some (.string y)) := fun W s => by
    obtain ⟨a0, a1, a2, a3, a4, a5, a6⟩ := (hcells_row (r1 := r1) (r2 := r2) (N1 := N1) (N2 := N2) (sp := sp) (W := V) (b := w.heap.size + 1) (t := 30) (fr := (0, 0)) (by rw [hV]; exact heap_alloc2_new w _ _)).keep s
    rw [p1, hk] at a1
    rw [p2] at a5
    exact ⟨⟨a0, a1, a2, a3, a4, a5⟩, (t1.trans s).keep x0, (t1.trans s).keep y0⟩
  have e1 : ((k : Int) + 1) - 1 = (k : Int) := by omega
  have e3 : IntKind.i64.wrap (k : Int) = (k : Int) := by rw [IntKind.wrap_i64]; omega
  have b1 : (0 : Int) ≤ (k : Int) := by omega
  have b2 : (k : Int) < (k : Int) + 1 := by omega
  have b3 : (0 : Int) < (N2.ss.length : Int) := by omega
  clear h1 h2 hx hy x0 y0
  unfold halvesN at hV ⊢
  rw [p1, p2, hk] at hV ⊢
  go_enter Tryz.func35, Tryz.ntmps35
  go_wp2_with fail
  rw [← hV]
  clear hV
  refine (HM.out _).mono ?_
  rintro e W1 ⟨rfl, s1⟩
  obtain ⟨⟨m0, m1, m2, m3, m4, m5⟩, x0, y0⟩ := HH.out _ s1
  go_wp2_with fail
  go_quiet (fail)
  have sq : Same V (W1.drewN nq) := ⟨s1.os, s1.tape, s1.output, s1.size, s1.block⟩
  go_wp2_with fail
  go_ret
  exact ⟨rfl, t1.trans sq⟩
set_option maxRecDepth 100000 in
set_option maxHeartbeats 4000000 in
theorem joined_leafO {p q : Int} {r1 r2 : Nr} {N1 N2 : Nd} {sp : ByteArray} (w : World)
    (HI1 : Hid (∀ W, Same w W → Calls Tryz.prog 25 #[frameV p q, ndV r1 N1] W fun e w' => e = .returned (.bool true) ∧ Same W w'))
    (HI2 : Hid (∀ W, Same w W → Calls Tryz.prog 25 #[frameV p q, ndV r2 N2] W fun e w' => e = .returned (.bool true) ∧ Same W w'))
    (HB1 : Hid (∀ W, Same w W → Calls Tryz.prog 34 #[frameV p q, ndV r1 N1] W fun e w' => e = .returned (.bool false) ∧ Same W w'))
    (HA : Hid (∀ W, Calls Tryz.prog 24 #[frameV p q, .bool true] W fun e w' => e = .returned (.int .i64 0) ∧ Same W w'))
    (HO : Hid (∀ W, Same w W → Calls Tryz.prog 35 #[frameV p q, .agg #[.slice r1.pa N1.ps.length r1.cp, .slice r1.sa N1.ss.length r1.cs, .slice r1.ka N1.ks.length r1.ck, .string sp, .slice r2.pa N2.ps.length r2.cp, .slice r2.sa N2.ss.length r2.cs, .slice r2.ka N2.ks.length r2.ck]] W fun e w' => e = .returned (.bool false) ∧ Same W w')) :
    Calls Tryz.prog 18 #[frameV p q, .agg (halvesN r1 r2 N1 N2 sp)] w fun e w' => e = .returned (.tuple #[nodeV none 0 0 none 0 0 none 0 0, .int .i64 81]) ∧ Same w w' := by
  obtain ⟨V, hV⟩ : ∃ V, V = ((w.alloc (.cells #[.int .i64 p, .int .i64 q] 23)).alloc (.cells (halvesN r1 r2 N1 N2 sp) 30)).alloc (.cells #[.slice none 0 0, .slice none 0 0, .slice none 0 0] 28) := ⟨_, rfl⟩
  have t1 : Same w V := by rw [hV]; exact (((Fr.refl _ w).alloc _).alloc _).alloc _
  obtain ⟨g0, g1, g2⟩ := three_boxes w (.cells #[.int .i64 p, .int .i64 q] 23) (.cells (halvesN r1 r2 N1 N2 sp) 30) (.cells #[.slice none 0 0, .slice none 0 0, .slice none 0 0] 28)
  rw [← hV] at g0 g1 g2
  have c0 : V.cell? ⟨w.heap.size, 0, none⟩ = some (.int .i64 p) := by rw [cell_of_row _ _ _ _ _ _ g0]; rfl
  have c1 : V.cell? ⟨w.heap.size, 1, none⟩ = some (.int .i64 q) := by rw [cell_of_row _ _ _ _ _ _ g0]; rfl
  have HH : Hid (∀ W, Same V W → (W.cell? ⟨w.heap.size, 0, none⟩ = some (.int .i64 p) ∧ W.cell? ⟨w.heap.size, 1, none⟩ = some (.int .i64 q)) ∧ W.cell? ⟨w.heap.size + 1, 0, none⟩ = some (.slice r1.pa N1.ps.length r1.cp) ∧ W.cell? ⟨w.heap.size + 1, 1, none⟩ = some (.slice r1.sa N1.ss.length r1.cs) ∧ W.cell? ⟨w.heap.size + 1, 2, none⟩ = some (.slice r1.ka N1.ks.length r1.ck) ∧ W.cell? ⟨w.heap.size + 1, 3, none⟩ = some (.string sp) ∧ W.cell? ⟨w.heap.size + 1, 4, none⟩ = some (.slice r2.pa N2.ps.length r2.cp) ∧ W.cell? ⟨w.heap.size + 1, 5, none⟩ = some (.slice r2.sa N2.ss.length r2.cs) ∧ W.cell? ⟨w.heap.size + 1, 6, none⟩ = some (.slice r2.ka N2.ks.length r2.ck)) := fun W s => ⟨⟨s.keep c0, s.keep c1⟩, (hcells_row g1).keep s⟩
  have HG : Hid (∀ W, Same V W → W.heap[w.heap.size + 1 + 1]? = some (.cells #[.slice none 0 0, .slice none 0 0, .slice none 0 0] 28 (0, 0))) := fun W s => (s.block _ (lt_of_heap g2) (fun e => e)).trans g2
  have HZ : Hid (w.heap.size + 3 ≤ V.heap.size) := by show _ ≤ _; rw [hV]; simp
  obtain ⟨⟨f0, f1⟩, m0, m1, m2, m3, m4, m5, m6⟩ := HH.out _ (Fr.refl _ V)
  clear g0 g1 g2 c0 c1
  unfold halvesN at hV ⊢
  go_enter Tryz.func18, Tryz.ntmps18
  go_wp2_with fail
  rw [← hV]
  clear hV
  refine (HI1.out _ t1).mono ?_
  rintro e W1 ⟨rfl, s1⟩
  clear f0 f1 m0 m1 m2 m3 m4 m5 m6
  obtain ⟨⟨f0, f1⟩, m0, m1, m2, m3, m4, m5, m6⟩ := HH.out _ s1
  go_wp2_with fail
  refine (HI2.out _ (t1.trans s1)).mono ?_
  rintro e W2 ⟨rfl, s2⟩
  have s2 := s1.trans s2
  clear f0 f1 m0 m1 m2 m3 m4 m5 m6
  obtain ⟨⟨f0, f1⟩, m0, m1, m2, m3, m4, m5, m6⟩ := HH.out _ s2
  go_wp2_with fail
  refine (HB1.out _ (t1.trans s2)).mono ?_
  rintro e W3 ⟨rfl, s3⟩
  have s3 := s2.trans s3
  clear f0 f1 m0 m1 m2 m3 m4 m5 m6
  obtain ⟨⟨f0, f1⟩, m0, m1, m2, m3, m4, m5, m6⟩ := HH.out _ s3
  go_wp2_with fail
  refine (HA.out _).mono ?_
  rintro e W4 ⟨rfl, s4⟩
  have s4 := s3.trans s4
  clear f0 f1 m0 m1 m2 m3 m4 m5 m6
  obtain ⟨⟨f0, f1⟩, m0, m1, m2, m3, m4, m5, m6⟩ := HH.out _ s4
  go_wp2_with fail
  refine (HO.out _ (t1.trans s4)).mono ?_
  rintro e W5 ⟨rfl, s5⟩
  have s5 := s4.trans s5
  clear f0 f1 m0 m1 m2 m3 m4 m5 m6
  obtain ⟨⟨f0, f1⟩, m0, m1, m2, m3, m4, m5, m6⟩ := HH.out _ s5
  have r6 := HG.out _ s5
  go_wp2_with (refine wpList_store_whole (by rfl) 28 _ _ (by rfl) (w.heap.size + 1 + 1) #[.slice none 0 0, .slice none 0 0, .slice none 0 0] _ 28 (by rfl) (by rfl) r6 rfl (by kernel_rfl) (by kernel_rfl) ?_; intro W7 r7 f7)
  have hz := HZ.out
  exact bodyPost_ret (results_row_tmp (p := 4) (u := 5) (ty := 28) (by kernel_rfl) _ _ (w.heap.size + 1 + 1) 28 _ (0, 0) _ rfl r7 Tryz.underlying28 rfl (by kernel_rfl)) rfl ⟨rfl, Fr.trans (t1.trans s5) f7 (fun i hi e => by omega)⟩
set_option maxRecDepth 100000 in
set_option maxHeartbeats 40000000 in
theorem joined_branchO {p q : Int} {r1 r2 : Nr} {N1 N2 : Nd} {sp : ByteArray} (w : World)
    (HI1 : Hid (∀ W, Same w W → Calls Tryz.prog 25 #[frameV p q, ndV r1 N1] W fun e w' => e = .returned (.bool false) ∧ Same W w'))
    (HB1 : Hid (∀ W, Same w W → Calls Tryz.prog 34 #[frameV p q, ndV r1 N1] W fun e w' => e = .returned (.bool true) ∧ Same W w'))
    (HB2 : Hid (∀ W, Same w W → Calls Tryz.prog 34 #[frameV p q, ndV r2 N2] W fun e w' => e = .returned (.bool true) ∧ Same W w'))
    (HA : Hid (∀ W, Calls Tryz.prog 24 #[frameV p q, .bool true] W fun e w' => e = .returned (.int .i64 0) ∧ Same W w'))
    (HO : Hid (∀ W, Same w W → Calls Tryz.prog 35 #[frameV p q, .agg #[.slice r1.pa N1.ps.length r1.cp, .slice r1.sa N1.ss.length r1.cs, .slice r1.ka N1.ks.length r1.ck, .string sp, .slice r2.pa N2.ps.length r2.cp, .slice r2.sa N2.ss.length r2.cs, .slice r2.ka N2.ks.length r2.ck]] W fun e w' => e = .returned (.bool false) ∧ Same W w')) :
    Calls Tryz.prog 18 #[frameV p q, .agg (halvesN r1 r2 N1 N2 sp)] w fun e w' => e = .returned (.tuple #[nodeV none 0 0 none 0 0 none 0 0, .int .i64 81]) ∧ Same w w' := by
  obtain ⟨V, hV⟩ : ∃ V, V = ((w.alloc (.cells #[.int .i64 p, .int .i64 q] 23)).alloc (.cells (halvesN r1 r2 N1 N2 sp) 30)).alloc (.cells #[.slice none 0 0, .slice none 0 0, .slice none 0 0] 28) := ⟨_, rfl⟩
  have t1 : Same w V := by rw [hV]; exact (((Fr.refl _ w).alloc _).alloc _).alloc _
  obtain ⟨g0, g1, g2⟩ := three_boxes w (.cells #[.int .i64 p, .int .i64 q] 23) (.cells (halvesN r1 r2 N1 N2 sp) 30) (.cells #[.slice none 0 0, .slice none 0 0, .slice none 0 0] 28)
  rw [← hV] at g0 g1 g2
  have c0 : V.cell? ⟨w.heap.size, 0, none⟩ = some (.int .i64 p) := by rw [cell_of_row _ _ _ _ _ _ g0]; rfl
  have c1 : V.cell? ⟨w.heap.size, 1, none⟩ = some (.int .i64 q) := by rw [cell_of_row _ _ _ _ _ _ g0]; rfl
  have HH : Hid (∀ W, Same V W → (W.cell? ⟨w.heap.size, 0, none⟩ = some (.int .i64 p) ∧ W.cell? ⟨w.heap.size, 1, none⟩ = some (.int .i64 q)) ∧ W.cell? ⟨w.heap.size + 1, 0, none⟩ = some (.slice r1.pa N1.ps.length r1.cp) ∧ W.cell? ⟨w.heap.size + 1, 1, none⟩ = some (.slice r1.sa N1.ss.length r1.cs) ∧ W.cell? ⟨w.heap.size + 1, 2, none⟩ = some (.slice r1.ka N1.ks.length r1.ck) ∧ W.cell? ⟨w.heap.size + 1, 3, none⟩ = some (.string sp) ∧ W.cell? ⟨w.heap.size + 1, 4, none⟩ = some (.slice r2.pa N2.ps.length r2.cp) ∧ W.cell? ⟨w.heap.size + 1, 5, none⟩ = some (.slice r2.sa N2.ss.length r2.cs) ∧ W.cell? ⟨w.heap.size + 1, 6, none⟩ = some (.slice r2.ka N2.ks.length r2.ck)) := fun W s => ⟨⟨s.keep c0, s.keep c1⟩, (hcells_row g1).keep s⟩
  have HG : Hid (∀ W, Same V W → W.heap[w.heap.size + 1 + 1]? = some (.cells #[.slice none 0 0, .slice none 0 0, .slice none 0 0] 28 (0, 0))) := fun W s => (s.block _ (lt_of_heap g2) (fun e => e)).trans g2
  have HZ : Hid (w.heap.size + 3 ≤ V.heap.size) := by show _ ≤ _; rw [hV]; simp
  obtain ⟨⟨f0, f1⟩, m0, m1, m2, m3, m4, m5, m6⟩ := HH.out _ (Fr.refl _ V)
  clear g0 g1 g2 c0 c1
  unfold halvesN at hV ⊢
  go_enter Tryz.func18, Tryz.ntmps18
  go_wp2_with fail
  rw [← hV]
  clear hV
  refine (HI1.out _ t1).mono ?_
  rintro e W1 ⟨rfl, s1⟩
  clear f0 f1 m0 m1 m2 m3 m4 m5 m6
  obtain ⟨⟨f0, f1⟩, m0, m1, m2, m3, m4, m5, m6⟩ := HH.out _ s1
  go_wp2_with fail
  refine (HB1.out _ (t1.trans s1)).mono ?_
  rintro e W2 ⟨rfl, s2⟩
  have s2 := s1.trans s2
  clear f0 f1 m0 m1 m2 m3 m4 m5 m6
  obtain ⟨⟨f0, f1⟩, m0, m1, m2, m3, m4, m5, m6⟩ := HH.out _ s2
  go_wp2_with fail
  refine (HB2.out _ (t1.trans s2)).mono ?_
  rintro e W3 ⟨rfl, s3⟩
  have s3 := s2.trans s3
  clear f0 f1 m0 m1 m2 m3 m4 m5 m6
  obtain ⟨⟨f0, f1⟩, m0, m1, m2, m3, m4, m5, m6⟩ := HH.out _ s3
  go_wp2_with fail
  refine (HA.out _).mono ?_
  rintro e W4 ⟨rfl, s4⟩
  have s4 := s3.trans s4
  clear f0 f1 m0 m1 m2 m3 m4 m5 m6
  obtain ⟨⟨f0, f1⟩, m0, m1, m2, m3, m4, m5, m6⟩ := HH.out _ s4
  go_wp2_with fail
  refine (HO.out _ (t1.trans s4)).mono ?_
  rintro e W5 ⟨rfl, s5⟩
  have s5 := s4.trans s5
  clear f0 f1 m0 m1 m2 m3 m4 m5 m6
  obtain ⟨⟨f0, f1⟩, m0, m1, m2, m3, m4, m5, m6⟩ := HH.out _ s5
  have r6 := HG.out _ s5
  go_wp2_with (refine wpList_store_whole (by rfl) 28 _ _ (by rfl) (w.heap.size + 1 + 1) #[.slice none 0 0, .slice none 0 0, .slice none 0 0] _ 28 (by rfl) (by rfl) r6 rfl (by kernel_rfl) (by kernel_rfl) ?_; intro W7 r7 f7)
  have hz := HZ.out
  exact bodyPost_ret (results_row_tmp (p := 4) (u := 5) (ty := 28) (by kernel_rfl) _ _ (w.heap.size + 1 + 1) 28 _ (0, 0) _ rfl r7 Tryz.underlying28 rfl (by kernel_rfl)) rfl ⟨rfl, Fr.trans (t1.trans s5) f7 (fun i hi e => by omega)⟩
set_option maxRecDepth 100000 in
set_option maxHeartbeats 4000000 in
theorem joined_sA {p q E : Int} {r1 r2 : Nr} {N1 N2 : Nd} {sp : ByteArray} (w : World) (hE : (E != 0) = true)
    (HI1 : Hid (∀ W, Same w W → Calls Tryz.prog 25 #[frameV p q, ndV r1 N1] W fun e w' => e = .returned (.bool false) ∧ Same W w'))
    (HB1 : Hid (∀ W, Same w W → Calls Tryz.prog 34 #[frameV p q, ndV r1 N1] W fun e w' => e = .returned (.bool false) ∧ Same W w'))
    (HA : Hid (∀ W, Calls Tryz.prog 24 #[frameV p q, .bool false] W fun e w' => e = .returned (.int .i64 E) ∧ Same W w')) :
    Calls Tryz.prog 18 #[frameV p q, .agg (halvesN r1 r2 N1 N2 sp)] w fun e w' => e = .returned (.tuple #[nodeV none 0 0 none 0 0 none 0 0, .int .i64 E]) ∧ Same w w' := by
  obtain ⟨V, hV⟩ : ∃ V, V = ((w.alloc (.cells #[.int .i64 p, .int .i64 q] 23)).alloc (.cells (halvesN r1 r2 N1 N2 sp) 30)).alloc (.cells #[.slice none 0 0, .slice none 0 0, .slice none 0 0] 28) := ⟨_, rfl⟩
  have t1 : Same w V := by rw [hV]; exact (((Fr.refl _ w).alloc _).alloc _).alloc _
  obtain ⟨g0, g1, g2⟩ := three_boxes w (.cells #[.int .i64 p, .int .i64 q] 23) (.cells (halvesN r1 r2 N1 N2 sp) 30) (.cells #[.slice none 0 0, .slice none 0 0, .slice none 0 0] 28)
  rw [← hV] at g0 g1 g2
  have c0 : V.cell? ⟨w.heap.size, 0, none⟩ = some (.int .i64 p) := by rw [cell_of_row _ _ _ _ _ _ g0]; rfl
  have c1 : V.cell? ⟨w.heap.size, 1, none⟩ = some (.int .i64 q) := by rw [cell_of_row _ _ _ _ _ _ g0]; rfl
  have HH : Hid (∀ W, Same V W → (W.cell? ⟨w.heap.size, 0, none⟩ = some (.int .i64 p) ∧ W.cell? ⟨w.heap.size, 1, none⟩ = some (.int .i64 q)) ∧ W.cell? ⟨w.heap.size + 1, 0, none⟩ = some (.slice r1.pa N1.ps.length r1.cp) ∧ W.cell? ⟨w.heap.size + 1, 1, none⟩ = some (.slice r1.sa N1.ss.length r1.cs) ∧ W.cell? ⟨w.heap.size + 1, 2, none⟩ = some (.slice r1.ka N1.ks.length r1.ck) ∧ W.cell? ⟨w.heap.size + 1, 3, none⟩ = some (.string sp) ∧ W.cell? ⟨w.heap.size + 1, 4, none⟩ = some (.slice r2.pa N2.ps.length r2.cp) ∧ W.cell? ⟨w.heap.size + 1, 5, none⟩ = some (.slice r2.sa N2.ss.length r2.cs) ∧ W.cell? ⟨w.heap.size + 1, 6, none⟩ = some (.slice r2.ka N2.ks.length r2.ck)) := fun W s => ⟨⟨s.keep c0, s.keep c1⟩, (hcells_row g1).keep s⟩
  have HG : Hid (∀ W, Same V W → W.heap[w.heap.size + 1 + 1]? = some (.cells #[.slice none 0 0, .slice none 0 0, .slice none 0 0] 28 (0, 0))) := fun W s => (s.block _ (lt_of_heap g2) (fun e => e)).trans g2
  have HZ : Hid (w.heap.size + 3 ≤ V.heap.size) := by show _ ≤ _; rw [hV]; simp
  obtain ⟨⟨f0, f1⟩, m0, m1, m2, m3, m4, m5, m6⟩ := HH.out _ (Fr.refl _ V)
  clear g0 g1 g2 c0 c1
  unfold halvesN at hV ⊢
  go_enter Tryz.func18, Tryz.ntmps18
  go_wp2_with fail
  rw [← hV]
  clear hV
  refine (HI1.out _ t1).mono ?_
  rintro e W1 ⟨rfl, s1⟩
  clear f0 f1 m0 m1 m2 m3 m4 m5 m6
  obtain ⟨⟨f0, f1⟩, m0, m1, m2, m3, m4, m5, m6⟩ := HH.out _ s1
  go_wp2_with fail
  refine (HB1.out _ (t1.trans s1)).mono ?_
  rintro e W2 ⟨rfl, s2⟩
  have s2 := s1.trans s2
  clear f0 f1 m0 m1 m2 m3 m4 m5 m6
  obtain ⟨⟨f0, f1⟩, m0, m1, m2, m3, m4, m5, m6⟩ := HH.out _ s2
  go_wp2_with fail
  refine (HA.out _).mono ?_
  rintro e W9 ⟨rfl, s9⟩
  have s9 := s2.trans s9
  clear f0 f1 m0 m1 m2 m3 m4 m5 m6
  obtain ⟨⟨f0, f1⟩, m0, m1, m2, m3, m4, m5, m6⟩ := HH.out _ s9
  have r6 := HG.out _ s9
  go_wp2_with (refine wpList_store_whole (by rfl) 28 _ _ (by rfl) (w.heap.size + 1 + 1) #[.slice none 0 0, .slice none 0 0, .slice none 0 0] _ 28 (by rfl) (by rfl) r6 rfl (by kernel_rfl) (by kernel_rfl) ?_; intro W7 r7 f7)
  have hz := HZ.out
  exact bodyPost_ret (results_row_tmp (p := 4) (u := 5) (ty := 28) (by kernel_rfl) _ _ (w.heap.size + 1 + 1) 28 _ (0, 0) _ rfl r7 Tryz.underlying28 rfl (by kernel_rfl)) rfl ⟨rfl, Fr.trans (t1.trans s9) f7 (fun i hi e => by omega)⟩
set_option maxRecDepth 100000 in
set_option maxHeartbeats 4000000 in
theorem joined_sB {p q E : Int} {r1 r2 : Nr} {N1 N2 : Nd} {sp : ByteArray} (w : World) (hE : (E != 0) = true)
    (HI1 : Hid (∀ W, Same w W → Calls Tryz.prog 25 #[frameV p q, ndV r1 N1] W fun e w' => e = .returned (.bool false) ∧ Same W w'))
    (HB1 : Hid (∀ W, Same w W → Calls Tryz.prog 34 #[frameV p q, ndV r1 N1] W fun e w' => e = .returned (.bool true) ∧ Same W w'))
    (HB2 : Hid (∀ W, Same w W → Calls Tryz.prog 34 #[frameV p q, ndV r2 N2] W fun e w' => e = .returned (.bool false) ∧ Same W w'))
    (HA : Hid (∀ W, Calls Tryz.prog 24 #[frameV p q, .bool false] W fun e w' => e = .returned (.int .i64 E) ∧ Same W w')) :
    Calls Tryz.prog 18 #[frameV p q, .agg (halvesN r1 r2 N1 N2 sp)] w fun e w' => e = .returned (.tuple #[nodeV none 0 0 none 0 0 none 0 0, .int .i64 E]) ∧ Same w w' := by
  obtain ⟨V, hV⟩ : ∃ V, V = ((w.alloc (.cells #[.int .i64 p, .int .i64 q] 23)).alloc (.cells (halvesN r1 r2 N1 N2 sp) 30)).alloc (.cells #[.slice none 0 0, .slice none 0 0, .slice none 0 0] 28) := ⟨_, rfl⟩
  have t1 : Same w V := by rw [hV]; exact (((Fr.refl _ w).alloc _).alloc _).alloc _
  obtain ⟨g0, g1, g2⟩ := three_boxes w (.cells #[.int .i64 p, .int .i64 q] 23) (.cells (halvesN r1 r2 N1 N2 sp) 30) (.cells #[.slice none 0 0, .slice none 0 0, .slice none 0 0] 28)
  rw [← hV] at g0 g1 g2
  have c0 : V.cell? ⟨w.heap.size, 0, none⟩ = some (.int .i64 p) := by rw [cell_of_row _ _ _ _ _ _ g0]; rfl
  have c1 : V.cell? ⟨w.heap.size, 1, none⟩ = some (.int .i64 q) := by rw [cell_of_row _ _ _ _ _ _ g0]; rfl
  have HH : Hid (∀ W, Same V W → (W.cell? ⟨w.heap.size, 0, none⟩ = some (.int .i64 p) ∧ W.cell? ⟨w.heap.size, 1, none⟩ = some (.int .i64 q)) ∧ W.cell? ⟨w.heap.size + 1, 0, none⟩ = some (.slice r1.pa N1.ps.length r1.cp) ∧ W.cell? ⟨w.heap.size + 1, 1, none⟩ = some (.slice r1.sa N1.ss.length r1.cs) ∧ W.cell? ⟨w.heap.size + 1, 2, none⟩ = some (.slice r1.ka N1.ks.length r1.ck) ∧ W.cell? ⟨w.heap.size + 1, 3, none⟩ = some (.string sp) ∧ W.cell? ⟨w.heap.size + 1, 4, none⟩ = some (.slice r2.pa N2.ps.length r2.cp) ∧ W.cell? ⟨w.heap.size + 1, 5, none⟩ = some (.slice r2.sa N2.ss.length r2.cs) ∧ W.cell? ⟨w.heap.size + 1, 6, none⟩ = some (.slice r2.ka N2.ks.length r2.ck)) := fun W s => ⟨⟨s.keep c0, s.keep c1⟩, (hcells_row g1).keep s⟩
  have HG : Hid (∀ W, Same V W → W.heap[w.heap.size + 1 + 1]? = some (.cells #[.slice none 0 0, .slice none 0 0, .slice none 0 0] 28 (0, 0))) := fun W s => (s.block _ (lt_of_heap g2) (fun e => e)).trans g2
  have HZ : Hid (w.heap.size + 3 ≤ V.heap.size) := by show _ ≤ _; rw [hV]; simp
  obtain ⟨⟨f0, f1⟩, m0, m1, m2, m3, m4, m5, m6⟩ := HH.out _ (Fr.refl _ V)
  clear g0 g1 g2 c0 c1
  unfold halvesN at hV ⊢
  go_enter Tryz.func18, Tryz.ntmps18
  go_wp2_with fail
  rw [← hV]
  clear hV
  refine (HI1.out _ t1).mono ?_
  rintro e W1 ⟨rfl, s1⟩
  clear f0 f1 m0 m1 m2 m3 m4 m5 m6
  obtain ⟨⟨f0, f1⟩, m0, m1, m2, m3, m4, m5, m6⟩ := HH.out _ s1
  go_wp2_with fail
  refine (HB1.out _ (t1.trans s1)).mono ?_
  rintro e W2 ⟨rfl, s2⟩
  have s2 := s1.trans s2
  clear f0 f1 m0 m1 m2 m3 m4 m5 m6
  obtain ⟨⟨f0, f1⟩, m0, m1, m2, m3, m4, m5, m6⟩ := HH.out _ s2
  go_wp2_with fail
  refine (HB2.out _ (t1.trans s2)).mono ?_
  rintro e W3 ⟨rfl, s3⟩
  have s3 := s2.trans s3
  clear f0 f1 m0 m1 m2 m3 m4 m5 m6
  obtain ⟨⟨f0, f1⟩, m0, m1, m2, m3, m4, m5, m6⟩ := HH.out _ s3
  go_wp2_with fail
  refine (HA.out _).mono ?_
  rintro e W9 ⟨rfl, s9⟩
  have s9 := s3.trans s9
  clear f0 f1 m0 m1 m2 m3 m4 m5 m6
  obtain ⟨⟨f0, f1⟩, m0, m1, m2, m3, m4, m5, m6⟩ := HH.out _ s9
  have r6 := HG.out _ s9
  go_wp2_with (refine wpList_store_whole (by rfl) 28 _ _ (by rfl) (w.heap.size + 1 + 1) #[.slice none 0 0, .slice none 0 0, .slice none 0 0] _ 28 (by rfl) (by rfl) r6 rfl (by kernel_rfl) (by kernel_rfl) ?_; intro W7 r7 f7)
  have hz := HZ.out
  exact bodyPost_ret (results_row_tmp (p := 4) (u := 5) (ty := 28) (by kernel_rfl) _ _ (w.heap.size + 1 + 1) 28 _ (0, 0) _ rfl r7 Tryz.underlying28 rfl (by kernel_rfl)) rfl ⟨rfl, Fr.trans (t1.trans s9) f7 (fun i hi e => by omega)⟩
set_option maxRecDepth 100000 in
set_option maxHeartbeats 4000000 in
theorem joined_sC {p q E : Int} {r1 r2 : Nr} {N1 N2 : Nd} {sp : ByteArray} (w : World) (hE : (E != 0) = true)
    (HI1 : Hid (∀ W, Same w W → Calls Tryz.prog 25 #[frameV p q, ndV r1 N1] W fun e w' => e = .returned (.bool true) ∧ Same W w'))
    (HI2 : Hid (∀ W, Same w W → Calls Tryz.prog 25 #[frameV p q, ndV r2 N2] W fun e w' => e = .returned (.bool false) ∧ Same W w'))
    (HB1 : Hid (∀ W, Same w W → Calls Tryz.prog 34 #[frameV p q, ndV r1 N1] W fun e w' => e = .returned (.bool false) ∧ Same W w'))
    (HA : Hid (∀ W, Calls Tryz.prog 24 #[frameV p q, .bool false] W fun e w' => e = .returned (.int .i64 E) ∧ Same W w')) :
    Calls Tryz.prog 18 #[frameV p q, .agg (halvesN r1 r2 N1 N2 sp)] w fun e w' => e = .returned (.tuple #[nodeV none 0 0 none 0 0 none 0 0, .int .i64 E]) ∧ Same w w' := by
  obtain ⟨V, hV⟩ : ∃ V, V = ((w.alloc (.cells #[.int .i64 p, .int .i64 q] 23)).alloc (.cells (halvesN r1 r2 N1 N2 sp) 30)).alloc (.cells #[.slice none 0 0, .slice none 0 0, .slice none 0 0] 28) := ⟨_, rfl⟩
  have t1 : Same w V := by rw [hV]; exact (((Fr.refl _ w).alloc _).alloc _).alloc _
  obtain ⟨g0, g1, g2⟩ := three_boxes w (.cells #[.int .i64 p, .int .i64 q] 23) (.cells (halvesN r1 r2 N1 N2 sp) 30) (.cells #[.slice none 0 0, .slice none 0 0, .slice none 0 0] 28)
  rw [← hV] at g0 g1 g2
  have c0 : V.cell? ⟨w.heap.size, 0, none⟩ = some (.int .i64 p) := by rw [cell_of_row _ _ _ _ _ _ g0]; rfl
  have c1 : V.cell? ⟨w.heap.size, 1, none⟩ = some (.int .i64 q) := by rw [cell_of_row _ _ _ _ _ _ g0]; rfl
  have HH : Hid (∀ W, Same V W → (W.cell? ⟨w.heap.size, 0, none⟩ = some (.int .i64 p) ∧ W.cell? ⟨w.heap.size, 1, none⟩ = some (.int .i64 q)) ∧ W.cell? ⟨w.heap.size + 1, 0, none⟩ = some (.slice r1.pa N1.ps.length r1.cp) ∧ W.cell? ⟨w.heap.size + 1, 1, none⟩ = some (.slice r1.sa N1.ss.length r1.cs) ∧ W.cell? ⟨w.heap.size + 1, 2, none⟩ = some (.slice r1.ka N1.ks.length r1.ck) ∧ W.cell? ⟨w.heap.size + 1, 3, none⟩ = some (.string sp) ∧ W.cell? ⟨w.heap.size + 1, 4, none⟩ = some (.slice r2.pa N2.ps.length r2.cp) ∧ W.cell? ⟨w.heap.size + 1, 5, none⟩ = some (.slice r2.sa N2.ss.length r2.cs) ∧ W.cell? ⟨w.heap.size + 1, 6, none⟩ = some (.slice r2.ka N2.ks.length r2.ck)) := fun W s => ⟨⟨s.keep c0, s.keep c1⟩, (hcells_row g1).keep s⟩
  have HG : Hid (∀ W, Same V W → W.heap[w.heap.size + 1 + 1]? = some (.cells #[.slice none 0 0, .slice none 0 0, .slice none 0 0] 28 (0, 0))) := fun W s => (s.block _ (lt_of_heap g2) (fun e => e)).trans g2
  have HZ : Hid (w.heap.size + 3 ≤ V.heap.size) := by show _ ≤ _; rw [hV]; simp
  obtain ⟨⟨f0, f1⟩, m0, m1, m2, m3, m4, m5, m6⟩ := HH.out _ (Fr.refl _ V)
  clear g0 g1 g2 c0 c1
  unfold halvesN at hV ⊢
  go_enter Tryz.func18, Tryz.ntmps18
  go_wp2_with fail
  rw [← hV]
  clear hV
  refine (HI1.out _ t1).mono ?_
  rintro e W1 ⟨rfl, s1⟩
  clear f0 f1 m0 m1 m2 m3 m4 m5 m6
  obtain ⟨⟨f0, f1⟩, m0, m1, m2, m3, m4, m5, m6⟩ := HH.out _ s1
  go_wp2_with fail
  refine (HI2.out _ (t1.trans s1)).mono ?_
  rintro e W2 ⟨rfl, s2⟩
  have s2 := s1.trans s2
  clear f0 f1 m0 m1 m2 m3 m4 m5 m6
  obtain ⟨⟨f0, f1⟩, m0, m1, m2, m3, m4, m5, m6⟩ := HH.out _ s2
  go_wp2_with fail
  refine (HB1.out _ (t1.trans s2)).mono ?_
  rintro e W3 ⟨rfl, s3⟩
  have s3 := s2.trans s3
  clear f0 f1 m0 m1 m2 m3 m4 m5 m6
  obtain ⟨⟨f0, f1⟩, m0, m1, m2, m3, m4, m5, m6⟩ := HH.out _ s3
  go_wp2_with fail
  refine (HA.out _).mono ?_
  rintro e W9 ⟨rfl, s9⟩
  have s9 := s3.trans s9
  clear f0 f1 m0 m1 m2 m3 m4 m5 m6
  obtain ⟨⟨f0, f1⟩, m0, m1, m2, m3, m4, m5, m6⟩ := HH.out _ s9
  have r6 := HG.out _ s9
  go_wp2_with (refine wpList_store_whole (by rfl) 28 _ _ (by rfl) (w.heap.size + 1 + 1) #[.slice none 0 0, .slice none 0 0, .slice none 0 0] _ 28 (by rfl) (by rfl) r6 rfl (by kernel_rfl) (by kernel_rfl) ?_; intro W7 r7 f7)
  have hz := HZ.out
  exact bodyPost_ret (results_row_tmp (p := 4) (u := 5) (ty := 28) (by kernel_rfl) _ _ (w.heap.size + 1 + 1) 28 _ (0, 0) _ rfl r7 Tryz.underlying28 rfl (by kernel_rfl)) rfl ⟨rfl, Fr.trans (t1.trans s9) f7 (fun i hi e => by omega)⟩
end Go.Proofs.YtdmoglnbelembaaGreat
