/- best of a leaf. -/
import Derived.Test.YtmgkdnejjemfeaaKF
namespace Go.Proofs.Ytmgkdnejjemfeaa
open Go.RowKit Go.Shelf
attribute [local go_sem] Oper.semAt_some

/-- Where the search stands behind some cuts. -/
def bestS : List (Nat × Nat × Nat) → Nat × Nat → Nat × Nat
  | [], s => s
  | x :: xs, s => if s.1 = 0 ∨ max x.2.1 x.2.2 < s.2 then bestS xs (x.1, max x.2.1 x.2.2) else s
theorem KpB.trans {B1 B2 : Nat} {A B C : World} (h : KpB B1 B2 A B) (k : KpB B1 B2 B C) : KpB B1 B2 A C := fun a v h1 h2 h3 => k a v h1 h2 (h a v h1 h2 h3)
theorem KpB.put {B1 B2 : Nat} (W : World) (l : Nat) (o o' : Obj) (h : W.heap[l]? = some o) (ho : o.isCells = false) : KpB B1 B2 W (W.putObj l o') := fun _ _ _ _ hc =>
  cell_kept hc (grownBy_putObj' W l o') (fun r e => by cases e; exact ⟨o, h, ho⟩)
theorem two_boxes (w : World) (a b c d : Obj) : ((((w.alloc a).alloc b).alloc c).alloc d).heap[w.heap.size + 1 + 1]? = some c ∧ ((((w.alloc a).alloc b).alloc c).alloc d).heap[w.heap.size + 1 + 1 + 1]? = some d := by
  have h1 := heap_alloc_new ((w.alloc a).alloc b) c
  have h2 := heap_alloc_new (((w.alloc a).alloc b).alloc c) d
  simp only [World.size_alloc] at h1 h2
  exact ⟨(heap_alloc_old _ d _ (by simp)).trans h1, h2⟩
set_option maxRecDepth 100000 in
set_option maxHeartbeats 1000000 in
theorem best_leaf {r : Nr} {N : Nd} {p q : Int} (w : World) (h : NdAt w r N) (h1 : N.ps.length ≤ 1048576) (h2 : N.ss.length ≤ 1048576) (h3 : N.ks.length = 0) (hck : chkN p q N = 0) (hok : ∀ x ∈ N.ps, x.1.size ≤ 1048576 ∧ x.2.size ≤ 1048576) :
    Calls Try.prog 31 #[frameV p q, ndV r N] w fun e w' => e = .returned (.int .i64 ((bestS (cutsN N.ps (N.ps.length - 1)) (0, 0)).1 : Int)) ∧ Same w w' := by
  have HC : Hid (∀ W, Same w W → Calls Try.prog 8 #[frameV p q, nodeV r.pa N.ps.length r.cp r.sa N.ss.length r.cs r.ka 0 r.ck] W fun e w' => ∃ r' : Nr, e = .returned (.func (.func 21) #[] #[.pointer (some ⟨W.heap.size, 0, none⟩), .pointer (some ⟨W.heap.size + 1, 0, none⟩)]) ∧
      w'.heap[W.heap.size]? = some (.cells #[.int .i64 p, .int .i64 q] 23 (0, 0)) ∧ w'.heap[W.heap.size + 1]? = some (.cells #[.slice r'.pa N.ps.length r'.cp, .slice r'.sa N.ss.length r'.cs, .slice r'.ka N.ks.length r'.ck] 28 (0, 0)) ∧
      w'.ownsRow (W.heap.size + 2) 48 2 (.slice r'.pa N.ps.length r'.cp) N.ps.length (pcells N.ps) ∧ w'.ownsRow (W.heap.size + 2) 9 1 (.slice r'.sa N.ss.length r'.cs) N.ss.length (scells N.ss) ∧ w'.ownsRow (W.heap.size + 2) 59 33 (.slice r'.ka N.ks.length r'.ck) N.ks.length (kcellsL N.ks) ∧ Same W w') := fun W s => by
    have := cuts_calls (p := p) (q := q) W (h.same s) h1 h2 (by omega)
    unfold ndV at this; rw [h3] at this ⊢; exact this
  refine (callsIn_wide (n := 3)).1 ?_
  refine callsIn_of_wp_marks Try.func31 rfl trivial ?_ rfl
  simp only [Try.ntmps31, List.size_toArray, List.length_cons, List.length_nil, Nat.reduceAdd, Nat.reduceSub, Array.replicate_succ, Array.replicate_zero, List.push_toArray, List.append_toArray, List.nil_append, List.cons_append]
  gi_wp2
  refine wpIn_wide.2 ?_
  go_step3
  go_wp2_with fail
  go_step3
  go_wp2_with fail
  refine (HC.out _ ((((Fr.refl _ w).alloc _).alloc _).alloc _ |>.alloc _)).mono ?_
  rintro e W1 ⟨r', rfl, g0, g1, op, os, ok, s1⟩
  go_wp2_with fail
  obtain ⟨B1, hB1⟩ : ∃ B1, B1 = w.heap.size + 1 + 1 := ⟨_, rfl⟩
  obtain ⟨B2, hB2⟩ : ∃ B2, B2 = w.heap.size + 1 + 1 + 1 := ⟨_, rfl⟩
  have hbx := two_boxes w (.cells #[.int .i64 p, .int .i64 q] 23) (.cells #[.slice r.pa N.ps.length r.cp, .slice r.sa N.ss.length r.cs, .slice r.ka 0 r.ck] 28) (.cells #[.int .i64 0] 3) (.cells #[.int .i64 0] 3)
  rw [← hB2, ← hB1] at hbx
  have x5 := (s1.block _ (lt_of_heap hbx.1) (fun f => f)).trans hbx.1
  have x6 := (s1.block _ (lt_of_heap hbx.2) (fun f => f)).trans hbx.2
  have c5 : W1.cell? ⟨B1, 0, none⟩ = some (.int .i64 0) := by rw [cell_of_row _ _ _ _ _ _ x5]; rfl
  have c6 : W1.cell? ⟨B2, 0, none⟩ = some (.int .i64 0) := by rw [cell_of_row _ _ _ _ _ _ x6]; rfl
  have z5 : W1.frozen? ⟨B1, 0, none⟩ = false := by simp [World.frozen?, x5]
  have z6 : W1.frozen? ⟨B2, 0, none⟩ = false := by simp [World.frozen?, x6]
  have s2 : Same w W1 := Same.trans ((((Fr.refl _ w).alloc _).alloc _).alloc _ |>.alloc _) s1
  have zz := s2.size
  simp only [World.size_alloc] at g0 g1
  rw [← hB2, ← hB1]
  rw [← hB2] at g0 g1
  have hlt1 := lt_of_heap x5
  have hlt2 := lt_of_heap x6
  have hne : B1 ≠ B2 := by omega
  have hle : w.heap.size ≤ B1 ∧ w.heap.size ≤ B2 := by omega
  have HLE : Hid ((w.heap.size ≤ B1 ∧ w.heap.size ≤ B2) ∧ B1 ≠ B2 ∧ B1 < W1.heap.size ∧ B2 < W1.heap.size ∧ w.heap.size ≤ W1.heap.size) := ⟨hle, hne, hlt1, hlt2, zz⟩
  clear hB1 hB2 hbx x5 x6 hle hlt1 hlt2
  refine (wpIn_wide (n := 3)).1 ?_
  refine wpIn_rangeFunc_ownH (n := 3) (F := Fence.wide) rfl (by omega) (gf := 21) (lb := #[.pointer (some ⟨B2 + 1, 0, none⟩), .pointer (some ⟨B2 + 1 + 1, 0, none⟩)]) (by rfl) trivial (enters_of Try.func21 (by kernel_rfl) rfl) (encs := cutV) (Kp := KpB B1 B2) (S := fun xs => xs = cutsN N.ps (N.ps.length - 1)) (Sp := fun pre => pre <+: cutsN N.ps (N.ps.length - 1)) (N := N.ps.length - 1) (w0 := W1) ?seq KpB.trans (fun W l o o' _ h ho _ => KpB.put W l o o' h ho) (Below.refl _ _) (fun _ => rfl)
    (fun pre W => (∃ s : Nat × Nat, W.cell? ⟨B1, 0, none⟩ = some (.int .i64 (s.1 : Int)) ∧ W.cell? ⟨B2, 0, none⟩ = some (.int .i64 (s.2 : Int)) ∧ W.frozen? ⟨B1, 0, none⟩ = false ∧ W.frozen? ⟨B2, 0, none⟩ = false ∧ ∀ ys, bestS (pre ++ ys) (0, 0) = bestS ys s) ∧ Same w W)
    (fun c pre W => c = .exit 0 ∧ (∃ s : Nat × Nat, W.cell? ⟨B1, 0, none⟩ = some (.int .i64 (s.1 : Int)) ∧ ∀ ys, bestS (pre ++ ys) (0, 0) = s) ∧ Same w W)
    ?hI ?hIx ⟨⟨(0, 0), c5, c6, z5, z6, fun _ => rfl⟩, s2⟩
    (fun x a' W => ∃ bx, bx ≠ B1 ∧ bx ≠ B2 ∧ W.cell? ⟨bx, 0, none⟩ = some (.int .i64 (x.2.1 : Int)) ∧ W.cell? ⟨bx, 1, none⟩ = some (.int .i64 (x.2.2 : Int)) ∧ a' = { tmps := #[frameV p q, ndV r N, .pointer (some ⟨w.heap.size, 0, none⟩), .pointer (some ⟨w.heap.size + 1, 0, none⟩), .int .i64 0, .pointer (some ⟨B1, 0, none⟩), .pointer (some ⟨B2, 0, none⟩), .int .i64 (x.1 : Int), .pointer (some ⟨bx, 0, none⟩), undef, .agg #[.int .i64 p, .int .i64 q], .agg #[.slice r.pa N.ps.length r.cp, .slice r.sa N.ss.length r.cs, .slice r.ka 0 r.ck], .func (.func 21) #[] #[.pointer (some ⟨B2 + 1, 0, none⟩), .pointer (some ⟨B2 + 1 + 1, 0, none⟩)], .int .i64 (x.1 : Int), .agg #[.int .i64 (x.2.1 : Int), .int .i64 (x.2.2 : Int)], undef, undef, undef, undef, undef, undef, undef, undef, undef, undef, undef, undef, undef, undef, undef, undef], defers := [] }) ?hAx ?assign ?body ?done ?stop
  case seq =>
    obtain ⟨j1, hp1⟩ := own_prow (own_base op (Nat.zero_le _)) rfl
    obtain ⟨j2, hs1⟩ := own_trow (own_base os (Nat.zero_le _)) rfl
    obtain ⟨j3, hk1⟩ := own_krow h.ok (own_base ok (Nat.zero_le _)) rfl
    obtain ⟨_, _, l1, l2, _⟩ := HLE.out
    intro l J Jx W hW hJ hJx hY hJ0
    have sW : Same W1 W := ⟨hW.os, hW.tape, hW.output, hW.size, fun k hk _ => hW.block k hk⟩
    have hN : NdAt W1 { r' with pb := j1, po := 0, sb := j2, so := 0, kb := j3, ko := 0 } N := ⟨hp1, hs1, hk1, h.ok, h.lp, h.ls, h.lk⟩
    have zW := sW.size
    exact cut_in 2 (by omega) l (B2 + 1) (B2 + 1 + 1) B1 B2 (r := { r' with pb := j1, po := 0, sb := j2, so := 0, kb := j3, ko := 0 }) J Jx (fun pre A B hj sAB => hJ pre A B none hj ⟨sAB.os, sAB.tape, sAB.output, sAB.size, fun k hk _ => sAB.block k hk (fun f => f)⟩ (fun r e => by cases e)) hY W ((sW.block _ (lt_of_heap g0) (fun f => f)).trans g0) ((sW.block _ (lt_of_heap g1) (fun f => f)).trans g1) (hN.same sW) hck h3 h1 hok (by omega) (by omega) hJ0
  case hI =>
    intro pre A B row hs hg hr
    obtain ⟨⟨s, a1, a2, a3, a4, a5⟩, a6⟩ := hs
    have hr' : ∀ r, row = some r → ∃ o : Obj, A.heap[r]? = some o ∧ o.isCells = false := fun r e => (hr r e).2
    exact ⟨⟨s, cell_kept a1 hg hr', cell_kept a2 hg hr', (frozen_kept a1 hg hr').trans a3, (frozen_kept a2 hg hr').trans a4, a5⟩, Fr.grown a6 hg (fun k e hk => by have := (hr k e).1; omega)⟩
  case hIx =>
    intro c pre A B row hs hg hr
    obtain ⟨a0, ⟨s, a1, a5⟩, a6⟩ := hs
    have hr' : ∀ r, row = some r → ∃ o : Obj, A.heap[r]? = some o ∧ o.isCells = false := fun r e => (hr r e).2
    exact ⟨a0, ⟨s, cell_kept a1 hg hr', a5⟩, Fr.grown a6 hg (fun k e hk => by have := (hr k e).1; omega)⟩
  case hAx =>
    intro x a' _ A B row hs hg hr
    obtain ⟨bx, b1, b2, b3, b4, rfl⟩ := hs
    have hr' : ∀ r, row = some r → ∃ o : Obj, A.heap[r]? = some o ∧ o.isCells = false := fun r e => (hr r e).2
    exact ⟨bx, b1, b2, cell_kept b3 hg hr', cell_kept b4 hg hr', rfl⟩
  case assign =>
    intro l pre x W K hi hK
    unfold cutV
    gi_wp2
    obtain ⟨⟨s, a1, a2, a3, a4, a5⟩, a6⟩ := hi
    obtain ⟨_, _, l1, l2, _⟩ := HLE.out
    have f : Same W (W.alloc (.cells #[.int .i64 (x.2.1 : Int), .int .i64 (x.2.2 : Int)] 38)) := (Fr.refl _ W).alloc _
    have l3 := World.block_lt_of_cell? _ _ a1
    have l4 := World.block_lt_of_cell? _ _ a2
    refine hK _ _ ((KeepsOthers.alloc _ _).from _) (fun a v _ _ hc => f.keep hc) ⟨⟨s, f.keep a1, f.keep a2, (World.frozen?_of_block (f.block _ l3 (fun e => e))).trans a3, (World.frozen?_of_block (f.block _ l4 (fun e => e))).trans a4, a5⟩, a6.alloc _⟩ ⟨W.heap.size, by simp only at l3; omega, by simp only at l4; omega, by simp, by simp, rfl⟩
  case body =>
    rintro l pre x a' W hl ⟨rr, hrr⟩ ⟨⟨s, a1, a2, a3, a4, a5⟩, a6⟩ ⟨bx, b1, b2, b3, b4, rfl⟩ hlt
    obtain ⟨⟨l1, l2⟩, l3, _, _, _⟩ := HLE.out
    have HGo : Hid (∀ v2 : Int, v2 = ((max x.2.1 x.2.2 : Nat) : Int) → (s.1 = 0 ∨ max x.2.1 x.2.2 < s.2) → KeepsFrom W1.heap.size W ((W.setCell ⟨B1, 0, none⟩ (.int .i64 (x.1 : Int))).setCell ⟨B2, 0, none⟩ (.int .i64 v2)) ∧ KpB B1 B2 W ((W.setCell ⟨B1, 0, none⟩ (.int .i64 (x.1 : Int))).setCell ⟨B2, 0, none⟩ (.int .i64 v2)) ∧ (∃ s' : Nat × Nat, ((W.setCell ⟨B1, 0, none⟩ (.int .i64 (x.1 : Int))).setCell ⟨B2, 0, none⟩ (.int .i64 v2)).cell? ⟨B1, 0, none⟩ = some (.int .i64 (s'.1 : Int)) ∧ ((W.setCell ⟨B1, 0, none⟩ (.int .i64 (x.1 : Int))).setCell ⟨B2, 0, none⟩ (.int .i64 v2)).cell? ⟨B2, 0, none⟩ = some (.int .i64 (s'.2 : Int)) ∧ ((W.setCell ⟨B1, 0, none⟩ (.int .i64 (x.1 : Int))).setCell ⟨B2, 0, none⟩ (.int .i64 v2)).frozen? ⟨B1, 0, none⟩ = false ∧ ((W.setCell ⟨B1, 0, none⟩ (.int .i64 (x.1 : Int))).setCell ⟨B2, 0, none⟩ (.int .i64 v2)).frozen? ⟨B2, 0, none⟩ = false ∧ ∀ ys, bestS ((pre ++ [x]) ++ ys) (0, 0) = bestS ys s') ∧ Same w ((W.setCell ⟨B1, 0, none⟩ (.int .i64 (x.1 : Int))).setCell ⟨B2, 0, none⟩ (.int .i64 v2))) := fun v2 hv2 hc => by
      subst hv2
      have f1 : Fr (fun k => k = B1 ∨ k = B2) W ((W.setCell ⟨B1, 0, none⟩ (.int .i64 (x.1 : Int))).setCell ⟨B2, 0, none⟩ (.int .i64 ((max x.2.1 x.2.2 : Nat) : Int))) := ((Fr.refl (fun k => k = B1 ∨ k = B2) W).setCell (p := ⟨B1, 0, none⟩) (fun _ => Or.inl rfl) _).setCell (p := ⟨B2, 0, none⟩) (fun _ => Or.inr rfl) _
      have e1 : (W.setCell ⟨B1, 0, none⟩ (.int .i64 (x.1 : Int))).cell? ⟨B1, 0, none⟩ = some (.int .i64 (x.1 : Int)) := World.cell?_setCell_same' _ _ _ (by rw [a1]; rfl)
      have f2 : Fr (fun k => k = B2) (W.setCell ⟨B1, 0, none⟩ (.int .i64 (x.1 : Int))) ((W.setCell ⟨B1, 0, none⟩ (.int .i64 (x.1 : Int))).setCell ⟨B2, 0, none⟩ (.int .i64 ((max x.2.1 x.2.2 : Nat) : Int))) := (Fr.refl (fun k => k = B2) _).setCell (p := ⟨B2, 0, none⟩) (fun _ => rfl) _
      have f3 : Fr (fun k => k = B1) W (W.setCell ⟨B1, 0, none⟩ (.int .i64 (x.1 : Int))) := (Fr.refl (fun k => k = B1) _).setCell (p := ⟨B1, 0, none⟩) (fun _ => rfl) _
      have e2 : (W.setCell ⟨B1, 0, none⟩ (.int .i64 (x.1 : Int))).cell? ⟨B2, 0, none⟩ = some (.int .i64 (s.2 : Int)) := (f3.cell (World.block_lt_of_cell? _ _ a2) (by simp only; omega)).trans a2
      refine ⟨((KeepsOthers.setCell _ _ _).trans (KeepsOthers.setCell _ _ _)).from _, fun a v h1 h2 hcl => (f1.cell (World.block_lt_of_cell? _ _ hcl) (fun hs => hs.elim h1 h2)).trans hcl, ⟨(x.1, max x.2.1 x.2.2), (f2.cell (World.block_lt_of_cell? _ _ e1) (by simp only; omega)).trans e1, World.cell?_setCell_same' _ _ _ (by rw [e2]; rfl), by rw [World.frozen?_setCell, World.frozen?_setCell]; exact a3, by rw [World.frozen?_setCell, World.frozen?_setCell]; exact a4, fun ys => ?_⟩, (a6.setCell (p := ⟨B1, 0, none⟩) (fun h => by simp only at h; omega) _).setCell (p := ⟨B2, 0, none⟩) (fun h => by simp only at h; omega) _⟩
      rw [List.append_assoc, a5]
      show bestS (x :: ys) s = _
      rw [bestS, if_pos hc]
    have HStop : Hid (¬ (s.1 = 0 ∨ max x.2.1 x.2.2 < s.2) → ∀ ys, bestS ((pre ++ [x]) ++ ys) (0, 0) = s) := fun hc ys => by
      rw [List.append_assoc, a5]
      show bestS (x :: ys) s = _
      rw [bestS, if_neg hc]
    gi_wp2
    · exact HGo.out _ (by omega) (by omega)
    · exact HGo.out _ (by omega) (by simp at *; omega)
    · exact ⟨(KeepsOthers.refl _).from _, rfl, ⟨s, a1, HStop.out (by simp at *; omega)⟩, a6⟩
  case done =>
    rintro D ys W hD rfl ⟨⟨s, a1, a2, a3, a4, a5⟩, a6⟩ hK
    gi_wp2
    go_wp2_with fail
    rw [Exit.noGoto_ret]
    refine ⟨by simp, .inl ⟨_, _, rfl, run_takeDeferred hK, ?_⟩⟩
    exact ⟨_, results_tmp rfl _ _ _, by have := a5 []; rw [List.append_nil] at this; rw [this]; rfl, Fr.grown a6 (grownBy_putObj' _ D (.deferred none)) (fun k e hk => by cases e; omega)⟩
  case stop =>
    rintro D c pre W hD hp ⟨rfl, ⟨s, a1, a5⟩, a6⟩ hK
    obtain ⟨ys, hys⟩ := hp
    gi_wp2
    go_wp2_with fail
    rw [Exit.noGoto_ret]
    refine ⟨by simp, .inl ⟨_, _, rfl, run_takeDeferred hK, ?_⟩⟩
    exact ⟨_, results_tmp rfl _ _ _, by have := a5 ys; rw [hys] at this; rw [this]; rfl, Fr.grown a6 (grownBy_putObj' _ D (.deferred none)) (fun k e hk => by cases e; omega)⟩
end Go.Proofs.Ytmgkdnejjemfeaa
