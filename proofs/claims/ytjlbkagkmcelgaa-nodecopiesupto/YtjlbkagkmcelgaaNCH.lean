/- grown: forty marks behind each of a node's lists. -/
import Derived.Test.YtjlbkagkmcelgaaNCG
namespace Go.Proofs.Ytjlbkagkmcelgaa
open Go.RowKit Go.Maps

/-- An append of one element to a row of a family: the old row holds what it held. -/
theorem wpList_append_fam {P : Program} {ops : Array Oper} {rest : List Oper} (w : World) {o : Oper} {a : Act} {Q : Exit → Act → World → Prop} (hgd : o.guard = none) (sl y : Operand) (t2 : TypeId)
    (ho : o.op = .call { callee := .builtin .append, args := #[sl, y], argTypes := #[t2, t2] }) {F : Fam} {x : Sl} {xs : List Value} {i0 : TypeInfo} {z : Value} {bytes : Nat} (hu : P.underlying t2 = some (.slice F.e)) (hi : P.info? F.e = some i0) (hi0 : i0.zero = some z) (hi1 : i0.size = F.sz) (hi2 : i0.bytes = bytes) (hbz : bytes ≤ 64) (hz : z.cells.size = F.sz)
    (hs : a.eval sl = .slice x.ao x.n x.c) (hown : RX F w x xs) (ad : Addr) (c : Nat) {news : List Value} (hy : a.eval y = .slice (some ad) 1 c) (hl : news.length = F.sz) (hnews : ∀ j u, news[j]? = some u → w.cell? (ad.add j) = some u) (h1 : ∀ u ∈ news, u.oneCell' = true) (hb : x.n + 1 ≤ 1099511627776)
    (hk : ∀ g' cap' w', RX F w' ⟨some ⟨g', 0, none⟩, x.n + 1, cap'⟩ (xs ++ news) → w.grownBy w' x.blk → Hold w' x.ao xs → (x.blk = some g' ∨ g' = w.heap.size) → wpList P ops Q rest (a.put o.dst (.slice (some ⟨g', 0, none⟩) (x.n + 1) cap')) w') : wpList P ops Q (o :: rest) a w := by
  obtain ⟨g', cap', w', hr, h2, h3, h4, h5⟩ := run_append_fam (P := P) w o.type t2 hu hi hi0 hi1 hi2 hbz hz hown ad c hl hnews h1 hb
  refine wpList_plain hgd fun _ hK => ?_
  unfold Oper.wp execOp
  simp only [ho, resolve, invoke, builtin, Sem.run_bind, Sem.run_pure, Result.andThen_ok, List.map_toArray, List.map_cons, List.map_nil, hs, hy]
  rw [show (Value.slice x.ao x.n x.c) = x.v from rfl, hr]
  exact hK _ _ (hk g' cap' w' h2 h3 h4 h5)
/-- A row under way beside others. -/
structure GrB (F : Fam) (w W : World) (x : Sl) (a b k : Nat) (r : Sl) : Prop where
  n : r.n = x.n + k
  row : RX F W r (rp F x.n a ++ rp F k b)
  old : Hold W x.ao (rp F x.n a)
  lt : ∀ j, x.blk = some j → j < w.heap.size
  at_ : r.ao = x.ao ∨ ∃ g, r.ao = some ⟨g, 0, none⟩ ∧ w.heap.size ≤ g
section
variable {F : Fam} {W W' w : World} {S : Nat → Prop} {x r : Sl}
theorem GrB.start {a : Nat} (h : RX F w x (rp F x.n a)) (b : Nat) (s : Same w W) : GrB F w W x a b 0 x :=
  ⟨rfl, by rw [rp_zero, List.append_nil]; exact h.fr s (fun _ _ f => f), h.hold.fr s (fun _ _ f => f), fun j hj => (h.at_ hj).2.1, Or.inl rfl⟩
theorem GrB.keep {a b k : Nat} (h : GrB F w W x a b k r) (f : Fr S W W') (hr : ∀ i, r.blk = some i → ¬ S i) (hx : ∀ i, x.blk = some i → ¬ S i) : GrB F w W' x a b k r :=
  ⟨h.n, h.row.fr f hr, h.old.fr f hx, h.lt, h.at_⟩
theorem GrB.same {a b k : Nat} (h : GrB F w W x a b k r) (s : Same W W') : GrB F w W' x a b k r := h.keep s (fun _ _ f => f) (fun _ _ f => f)
theorem GrB.blk {a b k : Nat} (h : GrB F w W x a b k r) : ∀ i, r.blk = some i → x.blk = some i ∨ w.heap.size ≤ i := fun i hi => by
  rcases h.at_ with e | ⟨g, e, hg⟩
  · left; unfold Sl.blk at hi ⊢; rw [← e]; exact hi
  · right
    unfold Sl.blk at hi
    rw [e] at hi
    have : g = i := by simpa using hi
    omega
theorem GrB.step {a b k g' cap' : Nat} (h : GrB F w W x a b k r) (hsz : w.heap.size ≤ W.heap.size) (o2 : RX F W' ⟨some ⟨g', 0, none⟩, r.n + 1, cap'⟩ ((rp F x.n a ++ rp F k b) ++ F.mrk b)) (gr : W.grownBy W' r.blk) (kp : Hold W' r.ao (rp F x.n a ++ rp F k b)) (at2 : r.blk = some g' ∨ g' = W.heap.size) :
    GrB F w W' x a b (k + 1) ⟨some ⟨g', 0, none⟩, r.n + 1, cap'⟩ := by
  have f : Fr (fun j => r.blk = some j) W W' := Fr.grown (Fr.refl _ _) gr (fun j e _ => e)
  refine ⟨by show r.n + 1 = _; rw [h.n]; omega, by rw [rp_succ, ← List.append_assoc]; exact o2, ?_, h.lt, ?_⟩
  · rcases h.at_ with e | ⟨g, e, hg⟩
    · rw [e] at kp; exact kp.left
    · refine h.old.fr f (fun j hj e2 => ?_)
      have h1 := h.lt j hj
      unfold Sl.blk at e2
      rw [e] at e2
      have : g = j := by simpa using e2
      omega
  · rcases at2 with e2 | e2
    · rcases h.at_ with e | ⟨g, e, hg⟩
      · left
        rw [← e, (h.row.at_ e2).1]
      · right
        unfold Sl.blk at e2
        rw [e] at e2
        have : g = g' := by simpa using e2
        exact ⟨g', rfl, by omega⟩
    · exact Or.inr ⟨g', rfl, by omega⟩
end
abbrev nodeC (p s k : Sl) : Obj := .cells #[p.v, s.v, k.v] 26 (0, 0)
/-- A node while it is grown: its box, its three rows. -/
structure GS (w W : World) (p s k : Sl) (m jp js jk : Nat) (xp xs xk : Sl) : Prop where
  hb : W.heap[w.heap.size]? = some (nodeC xp xs xk)
  hr : W.heap[w.heap.size + 1]? = some (.cells #[.slice none 0 0, .slice none 0 0, .slice none 0 0] 26 (0, 0))
  P : GrB FP w W p m (256 + m) jp xp
  S : GrB FS w W s m (256 + m) js xs
  K : GrB FK w W k m (256 + m) jk xk
  fr : Fr (inN p s k) w W
  ps : ∀ i, p.blk = some i → ¬ s.blk = some i
  pk : ∀ i, p.blk = some i → ¬ k.blk = some i
  sk : ∀ i, s.blk = some i → ¬ k.blk = some i
section
variable {w W W' : World} {p s k xp xs xk : Sl} {m jp js jk : Nat}
theorem GS.same (h : GS w W p s k m jp js jk xp xs xk) (t : Same W W') : GS w W' p s k m jp js jk xp xs xk :=
  ⟨(t.block _ (lt_of_heap h.hb) (fun f => f)).trans h.hb, (t.block _ (lt_of_heap h.hr) (fun f => f)).trans h.hr, h.P.same t, h.S.same t, h.K.same t, Fr.trans h.fr t (fun _ _ f => f.elim), h.ps, h.pk, h.sk⟩
theorem GS.box (h : GS w W p s k m jp js jk xp xs xk) : (W.cell? ⟨w.heap.size, 0, none⟩ = some xp.v ∧ W.cell? ⟨w.heap.size, 1, none⟩ = some xs.v ∧ W.cell? ⟨w.heap.size, 2, none⟩ = some xk.v) ∧ W.frozen? ⟨w.heap.size, 0, none⟩ = false ∧ W.frozen? ⟨w.heap.size, 1, none⟩ = false ∧ W.frozen? ⟨w.heap.size, 2, none⟩ = false :=
  ⟨⟨(cell_of_row _ _ _ _ _ _ h.hb).trans rfl, (cell_of_row _ _ _ _ _ _ h.hb).trans rfl, (cell_of_row _ _ _ _ _ _ h.hb).trans rfl⟩, frozen_of_row W _ 0 _ _ h.hb, frozen_of_row W _ 1 _ _ h.hb, frozen_of_row W _ 2 _ _ h.hb⟩
theorem GS.stepP (h : GS w W p s k m jp js jk xp xs xk) {g cap : Nat} (o2 : RX FP W' ⟨some ⟨g, 0, none⟩, xp.n + 1, cap⟩ (rp FP p.n m ++ (rp FP jp (256 + m) ++ FP.mrk (256 + m)))) (gr : W.grownBy W' xp.blk) (kp : Hold W' xp.ao (rp FP p.n m ++ rp FP jp (256 + m))) (at2 : xp.blk = some g ∨ g = W.heap.size) :
    GS w (W'.setCell ⟨w.heap.size, 0, none⟩ (.slice (some ⟨g, 0, none⟩) (xp.n + 1) cap)) p s k m (jp + 1) js jk ⟨some ⟨g, 0, none⟩, xp.n + 1, cap⟩ xs xk ∧ (W'.cell? ⟨w.heap.size, 0, none⟩ = some xp.v ∧ W'.cell? ⟨w.heap.size, 1, none⟩ = some xs.v ∧ W'.cell? ⟨w.heap.size, 2, none⟩ = some xk.v) ∧ W'.frozen? ⟨w.heap.size, 0, none⟩ = false := by
  have hsz := h.fr.size
  have g1 := h.P.step hsz (by rw [List.append_assoc]; exact o2) gr kp at2
  have nb : xp.blk ≠ some w.heap.size := h.P.row.ne h.hb (by decide)
  have nr : xp.blk ≠ some (w.heap.size + 1) := h.P.row.ne h.hr (by decide)
  have f1 : Fr (fun i => xp.blk = some i) W W' := Fr.grown (Fr.refl _ _) gr (fun j e _ => e)
  have hb' := (f1.block _ (lt_of_heap h.hb) nb).trans h.hb
  have hr' := (f1.block _ (lt_of_heap h.hr) nr).trans h.hr
  have f2 : Fr (fun i => i = w.heap.size) W' (W'.setCell ⟨w.heap.size, 0, none⟩ (.slice (some ⟨g, 0, none⟩) (xp.n + 1) cap)) := (Fr.refl (fun i => i = w.heap.size) W').setCell (p := ⟨w.heap.size, 0, none⟩) (fun _ => rfl) _
  have fT : Fr (fun i => xp.blk = some i ∨ i = w.heap.size) W (W'.setCell ⟨w.heap.size, 0, none⟩ (.slice (some ⟨g, 0, none⟩) (xp.n + 1) cap)) := Fr.trans (Fr.mono f1 (fun _ _ e => Or.inl e)) f2 (fun _ _ e => Or.inr e)
  have g2 := g1.keep f2 (fun i hi e => g1.row.ne hb' (by decide) (by rw [← e]; exact hi)) (fun i hi e => by have := h.P.lt i hi; omega)
  have kS : GrB FS w (W'.setCell ⟨w.heap.size, 0, none⟩ (.slice (some ⟨g, 0, none⟩) (xp.n + 1) cap)) s m (256 + m) js xs := h.S.keep fT (fun i hi e => by
    rcases e with e | e
    · exact h.S.row.off h.P.row (by decide) i hi e
    · exact h.S.row.ne h.hb (by decide) (by rw [← e]; exact hi)) (fun i hi e => by
    have hlt := h.S.lt i hi
    rcases e with e | e
    · rcases h.P.blk i e with e2 | e2
      · exact h.ps i e2 hi
      · omega
    · omega)
  have kK : GrB FK w (W'.setCell ⟨w.heap.size, 0, none⟩ (.slice (some ⟨g, 0, none⟩) (xp.n + 1) cap)) k m (256 + m) jk xk := h.K.keep fT (fun i hi e => by
    rcases e with e | e
    · exact h.K.row.off h.P.row (by decide) i hi e
    · exact h.K.row.ne h.hb (by decide) (by rw [← e]; exact hi)) (fun i hi e => by
    have hlt := h.K.lt i hi
    rcases e with e | e
    · rcases h.P.blk i e with e2 | e2
      · exact h.pk i e2 hi
      · omega
    · omega)
  refine ⟨⟨heap_setCell_same W' w.heap.size 0 _ _ _ hb', (f2.block _ (lt_of_heap hr') (fun e => by omega)).trans hr', g2, kS, kK, Fr.trans h.fr fT (fun i hi e => ?_), h.ps, h.pk, h.sk⟩, ⟨(cell_of_row _ _ _ _ _ _ hb').trans rfl, (cell_of_row _ _ _ _ _ _ hb').trans rfl, (cell_of_row _ _ _ _ _ _ hb').trans rfl⟩, frozen_of_row W' _ 0 _ _ hb'⟩
  rcases e with e | e
  · rcases h.P.blk i e with e2 | e2
    · exact Or.inl e2
    · omega
  · omega
theorem GS.stepS (h : GS w W p s k m jp js jk xp xs xk) {g cap : Nat} (o2 : RX FS W' ⟨some ⟨g, 0, none⟩, xs.n + 1, cap⟩ (rp FS s.n m ++ (rp FS js (256 + m) ++ FS.mrk (256 + m)))) (gr : W.grownBy W' xs.blk) (kp : Hold W' xs.ao (rp FS s.n m ++ rp FS js (256 + m))) (at2 : xs.blk = some g ∨ g = W.heap.size) :
    GS w (W'.setCell ⟨w.heap.size, 1, none⟩ (.slice (some ⟨g, 0, none⟩) (xs.n + 1) cap)) p s k m jp (js + 1) jk xp ⟨some ⟨g, 0, none⟩, xs.n + 1, cap⟩ xk ∧ (W'.cell? ⟨w.heap.size, 0, none⟩ = some xp.v ∧ W'.cell? ⟨w.heap.size, 1, none⟩ = some xs.v ∧ W'.cell? ⟨w.heap.size, 2, none⟩ = some xk.v) ∧ W'.frozen? ⟨w.heap.size, 1, none⟩ = false := by
  have hsz := h.fr.size
  have g1 := h.S.step hsz (by rw [List.append_assoc]; exact o2) gr kp at2
  have nb : xs.blk ≠ some w.heap.size := h.S.row.ne h.hb (by decide)
  have nr : xs.blk ≠ some (w.heap.size + 1) := h.S.row.ne h.hr (by decide)
  have f1 : Fr (fun i => xs.blk = some i) W W' := Fr.grown (Fr.refl _ _) gr (fun j e _ => e)
  have hb' := (f1.block _ (lt_of_heap h.hb) nb).trans h.hb
  have hr' := (f1.block _ (lt_of_heap h.hr) nr).trans h.hr
  have f2 : Fr (fun i => i = w.heap.size) W' (W'.setCell ⟨w.heap.size, 1, none⟩ (.slice (some ⟨g, 0, none⟩) (xs.n + 1) cap)) := (Fr.refl (fun i => i = w.heap.size) W').setCell (p := ⟨w.heap.size, 1, none⟩) (fun _ => rfl) _
  have fT : Fr (fun i => xs.blk = some i ∨ i = w.heap.size) W (W'.setCell ⟨w.heap.size, 1, none⟩ (.slice (some ⟨g, 0, none⟩) (xs.n + 1) cap)) := Fr.trans (Fr.mono f1 (fun _ _ e => Or.inl e)) f2 (fun _ _ e => Or.inr e)
  have g2 := g1.keep f2 (fun i hi e => g1.row.ne hb' (by decide) (by rw [← e]; exact hi)) (fun i hi e => by have := h.S.lt i hi; omega)
  have kP : GrB FP w (W'.setCell ⟨w.heap.size, 1, none⟩ (.slice (some ⟨g, 0, none⟩) (xs.n + 1) cap)) p m (256 + m) jp xp := h.P.keep fT (fun i hi e => by
    rcases e with e | e
    · exact h.P.row.off h.S.row (by decide) i hi e
    · exact h.P.row.ne h.hb (by decide) (by rw [← e]; exact hi)) (fun i hi e => by
    have hlt := h.P.lt i hi
    rcases e with e | e
    · rcases h.S.blk i e with e2 | e2
      · exact h.ps i hi e2
      · omega
    · omega)
  have kK : GrB FK w (W'.setCell ⟨w.heap.size, 1, none⟩ (.slice (some ⟨g, 0, none⟩) (xs.n + 1) cap)) k m (256 + m) jk xk := h.K.keep fT (fun i hi e => by
    rcases e with e | e
    · exact h.K.row.off h.S.row (by decide) i hi e
    · exact h.K.row.ne h.hb (by decide) (by rw [← e]; exact hi)) (fun i hi e => by
    have hlt := h.K.lt i hi
    rcases e with e | e
    · rcases h.S.blk i e with e2 | e2
      · exact h.sk i e2 hi
      · omega
    · omega)
  refine ⟨⟨heap_setCell_same W' w.heap.size 1 _ _ _ hb', (f2.block _ (lt_of_heap hr') (fun e => by omega)).trans hr', kP, g2, kK, Fr.trans h.fr fT (fun i hi e => ?_), h.ps, h.pk, h.sk⟩, ⟨(cell_of_row _ _ _ _ _ _ hb').trans rfl, (cell_of_row _ _ _ _ _ _ hb').trans rfl, (cell_of_row _ _ _ _ _ _ hb').trans rfl⟩, frozen_of_row W' _ 1 _ _ hb'⟩
  rcases e with e | e
  · rcases h.S.blk i e with e2 | e2
    · exact Or.inr (Or.inl e2)
    · omega
  · omega
theorem GS.stepK (h : GS w W p s k m jp js jk xp xs xk) {g cap : Nat} (o2 : RX FK W' ⟨some ⟨g, 0, none⟩, xk.n + 1, cap⟩ (rp FK k.n m ++ (rp FK jk (256 + m) ++ FK.mrk (256 + m)))) (gr : W.grownBy W' xk.blk) (kp : Hold W' xk.ao (rp FK k.n m ++ rp FK jk (256 + m))) (at2 : xk.blk = some g ∨ g = W.heap.size) :
    GS w (W'.setCell ⟨w.heap.size, 2, none⟩ (.slice (some ⟨g, 0, none⟩) (xk.n + 1) cap)) p s k m jp js (jk + 1) xp xs ⟨some ⟨g, 0, none⟩, xk.n + 1, cap⟩ ∧ (W'.cell? ⟨w.heap.size, 0, none⟩ = some xp.v ∧ W'.cell? ⟨w.heap.size, 1, none⟩ = some xs.v ∧ W'.cell? ⟨w.heap.size, 2, none⟩ = some xk.v) ∧ W'.frozen? ⟨w.heap.size, 2, none⟩ = false := by
  have hsz := h.fr.size
  have g1 := h.K.step hsz (by rw [List.append_assoc]; exact o2) gr kp at2
  have nb : xk.blk ≠ some w.heap.size := h.K.row.ne h.hb (by decide)
  have nr : xk.blk ≠ some (w.heap.size + 1) := h.K.row.ne h.hr (by decide)
  have f1 : Fr (fun i => xk.blk = some i) W W' := Fr.grown (Fr.refl _ _) gr (fun j e _ => e)
  have hb' := (f1.block _ (lt_of_heap h.hb) nb).trans h.hb
  have hr' := (f1.block _ (lt_of_heap h.hr) nr).trans h.hr
  have f2 : Fr (fun i => i = w.heap.size) W' (W'.setCell ⟨w.heap.size, 2, none⟩ (.slice (some ⟨g, 0, none⟩) (xk.n + 1) cap)) := (Fr.refl (fun i => i = w.heap.size) W').setCell (p := ⟨w.heap.size, 2, none⟩) (fun _ => rfl) _
  have fT : Fr (fun i => xk.blk = some i ∨ i = w.heap.size) W (W'.setCell ⟨w.heap.size, 2, none⟩ (.slice (some ⟨g, 0, none⟩) (xk.n + 1) cap)) := Fr.trans (Fr.mono f1 (fun _ _ e => Or.inl e)) f2 (fun _ _ e => Or.inr e)
  have g2 := g1.keep f2 (fun i hi e => g1.row.ne hb' (by decide) (by rw [← e]; exact hi)) (fun i hi e => by have := h.K.lt i hi; omega)
  have kP : GrB FP w (W'.setCell ⟨w.heap.size, 2, none⟩ (.slice (some ⟨g, 0, none⟩) (xk.n + 1) cap)) p m (256 + m) jp xp := h.P.keep fT (fun i hi e => by
    rcases e with e | e
    · exact h.P.row.off h.K.row (by decide) i hi e
    · exact h.P.row.ne h.hb (by decide) (by rw [← e]; exact hi)) (fun i hi e => by
    have hlt := h.P.lt i hi
    rcases e with e | e
    · rcases h.K.blk i e with e2 | e2
      · exact h.pk i hi e2
      · omega
    · omega)
  have kS : GrB FS w (W'.setCell ⟨w.heap.size, 2, none⟩ (.slice (some ⟨g, 0, none⟩) (xk.n + 1) cap)) s m (256 + m) js xs := h.S.keep fT (fun i hi e => by
    rcases e with e | e
    · exact h.S.row.off h.K.row (by decide) i hi e
    · exact h.S.row.ne h.hb (by decide) (by rw [← e]; exact hi)) (fun i hi e => by
    have hlt := h.S.lt i hi
    rcases e with e | e
    · rcases h.K.blk i e with e2 | e2
      · exact h.sk i hi e2
      · omega
    · omega)
  refine ⟨⟨heap_setCell_same W' w.heap.size 2 _ _ _ hb', (f2.block _ (lt_of_heap hr') (fun e => by omega)).trans hr', kP, kS, g2, Fr.trans h.fr fT (fun i hi e => ?_), h.ps, h.pk, h.sk⟩, ⟨(cell_of_row _ _ _ _ _ _ hb').trans rfl, (cell_of_row _ _ _ _ _ _ hb').trans rfl, (cell_of_row _ _ _ _ _ _ hb').trans rfl⟩, frozen_of_row W' _ 2 _ _ hb'⟩
  rcases e with e | e
  · rcases h.K.blk i e with e2 | e2
    · exact Or.inr (Or.inr e2)
    · omega
  · omega
end
set_option maxRecDepth 100000 in
set_option maxHeartbeats 4000000 in
theorem grown_calls (m : Nat) (hm : m < 100) {p s k : Sl} (w : World) (hP : RX FP w p (rp FP p.n m)) (hS : RX FS w s (rp FS s.n m)) (hK : RX FK w k (rp FK k.n m)) (l1 : p.n ≤ 1048700) (l2 : s.n ≤ 1048700) (l3 : k.n ≤ 1048700) :
    Calls Try.prog 19 #[nV p s k, .int .u32 (m : Nat)] w fun e w' => ∃ xp xs xk : Sl, e = .returned (nV xp xs xk) ∧ GrB FP w w' p m (256 + m) 40 xp ∧ GrB FS w w' s m (256 + m) 40 xs ∧ GrB FK w w' k m (256 + m) 40 xk ∧ Fr (inN p s k) w w' := by
  obtain ⟨V, hV⟩ : ∃ V, V = (w.alloc (.cells #[p.v, s.v, k.v] 26)).alloc (.cells #[.slice none 0 0, .slice none 0 0, .slice none 0 0] 26) := ⟨_, rfl⟩
  have sx : Same w V := by rw [hV]; exact ((Fr.refl _ w).alloc _).alloc _
  have h0 : GS w V p s k m 0 0 0 p s k := by
    refine ⟨?_, ?_, GrB.start hP _ sx, GrB.start hS _ sx, GrB.start hK _ sx, Fr.mono sx (fun _ _ f => f.elim), hP.off hS (by decide), hP.off hK (by decide), hS.off hK (by decide)⟩
    · rw [hV]; exact (heap_alloc_old _ _ (by simp)).trans (heap_alloc_new w _)
    · rw [hV]
      have := heap_alloc_new (w.alloc (.cells #[p.v, s.v, k.v] 26)) (.cells #[.slice none 0 0, .slice none 0 0, .slice none 0 0] 26)
      simpa using this
  have HG0 : Hid (GS w V p s k m 0 0 0 p s k) := h0
  obtain ⟨⟨a0, a1, a2⟩, f0, f1, f2⟩ := h0.box
  obtain ⟨i0P, hiP, hz0P, hz1P, hz2P⟩ := info_parts Try.infPair
  obtain ⟨i0S, hiS, hz0S, hz1S, hz2S⟩ := info_parts Try.infStr
  obtain ⟨i0K, hiK, hz0K, hz1K, hz2K⟩ := info_parts Try.infKid
  have hcv := fun W => one_str W m (by omega)
  have hcv2 : ∀ (W : World) (a : Addr) (v : Value), (convert 44 9 (.slice (some ⟨W.heap.size, 0, none⟩) 1 1)).run Try.prog ((W.setCell a v).alloc (.cells #[.int .u8 m] 5)) = .ok (.string ⟨#[UInt8.ofNat m]⟩) ((W.setCell a v).alloc (.cells #[.int .u8 m] 5)) := fun W a v => by
    have := one_str (W.setCell a v) m (by omega)
    rwa [show (W.setCell a v).heap.size = W.heap.size from by simp [World.setCell]] at this
  have hw1 : IntKind.u8.wrap (m : Int) = (m : Int) := by rw [IntKind.wrap_u8]; omega
  have hw2 : IntKind.u32.wrap ((m : Int) + 100) = ((m + 100 : Nat) : Int) := by rw [IntKind.wrap_u32]; omega
  have hadd := fun W => run_string_add_sum (P := Try.prog) W (⟨#[121]⟩ : ByteArray) (⟨#[UInt8.ofNat m]⟩ : ByteArray) (by have : (⟨#[121]⟩ : ByteArray).size = 1 := rfl; have : (⟨#[UInt8.ofNat m]⟩ : ByteArray).size = 1 := rfl; omega)
  have emk : mkS (256 + m) = (⟨#[121]⟩ : ByteArray) ++ ⟨#[UInt8.ofNat m]⟩ := by unfold mkS; rw [if_neg (by omega), Nat.add_sub_cancel_left]
  have emg : mkG (256 + m) = m + 100 := by unfold mkG; rw [if_neg (by omega), Nat.add_sub_cancel_left]
  obtain ⟨X, hX⟩ : ∃ X : ByteArray, X = (⟨#[121]⟩ : ByteArray) ++ ⟨#[UInt8.ofNat m]⟩ := ⟨_, rfl⟩
  rw [← hX] at hadd emk
  have mP : Hid (FP.mrk (256 + m) = [.string X, .string ⟨#[]⟩]) := by show [Value.string (mkS (256 + m)), .string ⟨#[]⟩] = _; rw [emk]
  have mS : Hid (FS.mrk (256 + m) = [.string X]) := by show [Value.string (mkS (256 + m))] = _; rw [emk]
  have mK : Hid (FK.mrk (256 + m) = [.int .u32 ((m + 100 : Nat) : Int), .int .u8 0, .int .u8 0, .int .u8 0, .int .u8 0, .int .u8 0, .int .u8 0, .int .u8 0, .int .u8 0, .int .u8 0, .int .u8 0, .int .u8 0, .int .u8 0, .int .u8 0, .int .u8 0, .int .u8 0, .int .u8 0, .int .u8 0, .int .u8 0, .int .u8 0, .int .u8 0, .int .u8 0, .int .u8 0, .int .u8 0, .int .u8 0, .int .u8 0, .int .u8 0, .int .u8 0, .int .u8 0, .int .u8 0, .int .u8 0, .int .u8 0, .int .u8 0]) := by show [Value.int .u32 (mkG (256 + m) : Nat), .int .u8 0, .int .u8 0, .int .u8 0, .int .u8 0, .int .u8 0, .int .u8 0, .int .u8 0, .int .u8 0, .int .u8 0, .int .u8 0, .int .u8 0, .int .u8 0, .int .u8 0, .int .u8 0, .int .u8 0, .int .u8 0, .int .u8 0, .int .u8 0, .int .u8 0, .int .u8 0, .int .u8 0, .int .u8 0, .int .u8 0, .int .u8 0, .int .u8 0, .int .u8 0, .int .u8 0, .int .u8 0, .int .u8 0, .int .u8 0, .int .u8 0, .int .u8 0] = _; rw [emg]
  obtain ⟨M, hM⟩ : ∃ M : Int, M = ((m + 100 : Nat) : Int) := ⟨_, rfl⟩
  rw [← hM] at hw2 mK
  clear hX emk emg hP hS hK h0 hM
  obtain ⟨C, hC⟩ : ∃ C : ByteArray, C = ⟨#[UInt8.ofNat m]⟩ := ⟨_, rfl⟩
  rw [← hC] at hadd
  simp only [← hC] at hcv hcv2
  clear hC
  unfold nV
  go_enter Try.func19, Try.ntmps19
  go_wp2_with fail
  rw [← hV]
  clear hV a0 a1 a2 f0 f1 f2
  go_loopg [5] 40 (fun g iv wr => ∃ (j : Nat) (xp xs xk : Sl), iv = .int .i64 (j : Int) ∧ j ≤ 40 ∧ g = 40 - j ∧ Hid (GS w wr p s k m j j j xp xs xk))
  case atStart => exact ⟨0, p, s, k, rfl, by omega, rfl, HG0⟩
  case round =>
    obtain ⟨j, ⟨pa, pn, pc⟩, ⟨sa, sn, sc⟩, ⟨ka, kn, kc⟩, rfl, hj, hg, HL⟩ := hrel
    obtain ⟨⟨a0, a1, a2⟩, f0, f1, f2⟩ := HL.out.box
    simp only [Sl.v] at a0 a1 a2
    by_cases hgo : j < 40
    · have i1 : (j : Int) < 40 := by omega
      have e1 : pn = p.n + j := HL.out.P.n
      have e2 : sn = s.n + j := HL.out.S.n
      have e3 : kn = k.n + j := HL.out.K.n
      have bp : pn + 1 ≤ 1099511627776 := by omega
      have bs : sn + 1 ≤ 1099511627776 := by omega
      have bk : kn + 1 ≤ 1099511627776 := by omega
      clear e1 e2 e3
      have HL1 : Hid (GS w ((wr.alloc (.cells #[.int .u8 (m : Nat)] 5)).alloc (.cells #[.string X, .string ⟨#[]⟩] 33)) p s k m j j j ⟨pa, pn, pc⟩ ⟨sa, sn, sc⟩ ⟨ka, kn, kc⟩) := (HL.out.same ((Fr.refl _ wr).alloc _)).same ((Fr.refl _ _).alloc _)
      have oP := HL1.out.P.row
      clear HL
      go_wp2_with (at_builtin; go_must (refine wpList_append_fam _ (by rfl) _ _ 22 (by rfl) (F := FP) (x := ⟨pa, pn, pc⟩) Try.underlying22 hiP hz0P hz1P hz2P (by decide) rfl (by rfl) oP ⟨wr.heap.size + 1, 0, none⟩ 1 (news := [.string X, .string ⟨#[]⟩]) (by rfl) rfl (World.news_of_block (by have := heap_alloc_new (wr.alloc (.cells #[.int .u8 (m : Nat)] 5)) (.cells #[.string X, .string ⟨#[]⟩] 33); simpa using this)) (by simp [Value.oneCell']) bp ?_))
      intro g2 cap2 w2 q1 q2 q3 q4
      rw [← mP.out] at q1
      obtain ⟨L1, ⟨b0, b1, b2⟩, b3⟩ := HL1.out.stepP q1 q2 q3 (q4.imp id (fun e => by rw [e]; simp))
      have HL2 : Hid (GS w (w2.setCell ⟨w.heap.size, 0, none⟩ (.slice (some ⟨g2, 0, none⟩) (pn + 1) cap2)) p s k m (j + 1) j j ⟨some ⟨g2, 0, none⟩, pn + 1, cap2⟩ ⟨sa, sn, sc⟩ ⟨ka, kn, kc⟩) := L1
      simp only [Sl.v] at b0 b1 b2
      clear L1 q1 q2 q3 q4 HL1 oP a0 a1 a2 f0 f1 f2
      have HL3 : Hid (GS w (((w2.setCell ⟨w.heap.size, 0, none⟩ (.slice (some ⟨g2, 0, none⟩) (pn + 1) cap2)).alloc (.cells #[.int .u8 (m : Nat)] 5)).alloc (.cells #[.string X] 9)) p s k m (j + 1) j j ⟨some ⟨g2, 0, none⟩, pn + 1, cap2⟩ ⟨sa, sn, sc⟩ ⟨ka, kn, kc⟩) := (HL2.out.same ((Fr.refl _ _).alloc _)).same ((Fr.refl _ _).alloc _)
      obtain ⟨⟨a0, a1, a2⟩, f0, f1, f2⟩ := HL2.out.box
      simp only [Sl.v] at a0 a1 a2
      have oS := HL3.out.S.row
      have nS := World.news_of_block (show (((w2.setCell ⟨w.heap.size, 0, none⟩ (.slice (some ⟨g2, 0, none⟩) (pn + 1) cap2)).alloc (.cells #[.int .u8 (m : Nat)] 5)).alloc (.cells #[.string X] 9)).heap[w2.heap.size + 1]? = _ from by have := heap_alloc_new ((w2.setCell ⟨w.heap.size, 0, none⟩ (.slice (some ⟨g2, 0, none⟩) (pn + 1) cap2)).alloc (.cells #[.int .u8 (m : Nat)] 5)) (.cells #[.string X] 9); simpa [World.setCell] using this)
      clear HL2 a0 a1 a2 f0 f1 f2
      go_wp2_with (at_builtin; go_must (refine wpList_append_fam _ (by rfl) _ _ 23 (by rfl) (F := FS) (x := ⟨sa, sn, sc⟩) Try.underlying23 hiS hz0S hz1S hz2S (by decide) rfl (by rfl) oS ⟨w2.heap.size + 1, 0, none⟩ 1 (news := [.string X]) (by rfl) rfl nS (by simp [Value.oneCell']) bs ?_))
      intro g3 cap3 w3 q1 q2 q3 q4
      rw [← mS.out] at q1
      obtain ⟨L1, ⟨c0, c1, c2⟩, c3⟩ := HL3.out.stepS q1 q2 q3 (q4.imp id (fun e => by rw [e]; simp [World.setCell]))
      have HL4 : Hid (GS w (w3.setCell ⟨w.heap.size, 1, none⟩ (.slice (some ⟨g3, 0, none⟩) (sn + 1) cap3)) p s k m (j + 1) (j + 1) j ⟨some ⟨g2, 0, none⟩, pn + 1, cap2⟩ ⟨some ⟨g3, 0, none⟩, sn + 1, cap3⟩ ⟨ka, kn, kc⟩) := L1
      simp only [Sl.v] at c0 c1 c2
      clear L1 q1 q2 q3 q4 HL3 oS nS b0 b1 b2 b3
      have HL5 : Hid (GS w ((w3.setCell ⟨w.heap.size, 1, none⟩ (.slice (some ⟨g3, 0, none⟩) (sn + 1) cap3)).alloc (.cells #[.int .u32 M, .int .u8 0, .int .u8 0, .int .u8 0, .int .u8 0, .int .u8 0, .int .u8 0, .int .u8 0, .int .u8 0, .int .u8 0, .int .u8 0, .int .u8 0, .int .u8 0, .int .u8 0, .int .u8 0, .int .u8 0, .int .u8 0, .int .u8 0, .int .u8 0, .int .u8 0, .int .u8 0, .int .u8 0, .int .u8 0, .int .u8 0, .int .u8 0, .int .u8 0, .int .u8 0, .int .u8 0, .int .u8 0, .int .u8 0, .int .u8 0, .int .u8 0, .int .u8 0] 37)) p s k m (j + 1) (j + 1) j ⟨some ⟨g2, 0, none⟩, pn + 1, cap2⟩ ⟨some ⟨g3, 0, none⟩, sn + 1, cap3⟩ ⟨ka, kn, kc⟩) := HL4.out.same ((Fr.refl _ _).alloc _)
      obtain ⟨⟨a0, a1, a2⟩, f0, f1, f2⟩ := HL4.out.box
      simp only [Sl.v] at a0 a1 a2
      have oK := HL5.out.K.row
      have nK := World.news_of_block (heap_put_new w3 ⟨w.heap.size, 1, none⟩ (.slice (some ⟨g3, 0, none⟩) (sn + 1) cap3) (.cells #[.int .u32 M, .int .u8 0, .int .u8 0, .int .u8 0, .int .u8 0, .int .u8 0, .int .u8 0, .int .u8 0, .int .u8 0, .int .u8 0, .int .u8 0, .int .u8 0, .int .u8 0, .int .u8 0, .int .u8 0, .int .u8 0, .int .u8 0, .int .u8 0, .int .u8 0, .int .u8 0, .int .u8 0, .int .u8 0, .int .u8 0, .int .u8 0, .int .u8 0, .int .u8 0, .int .u8 0, .int .u8 0, .int .u8 0, .int .u8 0, .int .u8 0, .int .u8 0, .int .u8 0] 37))
      clear HL4 a0 a1 a2 f0 f1 f2
      go_wp2_with (at_builtin; go_must (refine wpList_append_fam _ (by rfl) _ _ 24 (by rfl) (F := FK) (x := ⟨ka, kn, kc⟩) Try.underlying24 hiK hz0K hz1K hz2K (by decide) rfl (by rfl) oK ⟨w3.heap.size, 0, none⟩ 1 (news := [.int .u32 M, .int .u8 0, .int .u8 0, .int .u8 0, .int .u8 0, .int .u8 0, .int .u8 0, .int .u8 0, .int .u8 0, .int .u8 0, .int .u8 0, .int .u8 0, .int .u8 0, .int .u8 0, .int .u8 0, .int .u8 0, .int .u8 0, .int .u8 0, .int .u8 0, .int .u8 0, .int .u8 0, .int .u8 0, .int .u8 0, .int .u8 0, .int .u8 0, .int .u8 0, .int .u8 0, .int .u8 0, .int .u8 0, .int .u8 0, .int .u8 0, .int .u8 0, .int .u8 0]) (by rfl) rfl nK (by simp [Value.oneCell']) bk ?_))
      intro g4 cap4 w4 q1 q2 q3 q4
      rw [← mK.out] at q1
      obtain ⟨L1, ⟨d0, d1, d2⟩, d3⟩ := HL5.out.stepK q1 q2 q3 (q4.imp id (fun e => by rw [e]; simp [World.setCell]))
      have HL6 : Hid (GS w (w4.setCell ⟨w.heap.size, 2, none⟩ (.slice (some ⟨g4, 0, none⟩) (kn + 1) cap4)) p s k m (j + 1) (j + 1) (j + 1) ⟨some ⟨g2, 0, none⟩, pn + 1, cap2⟩ ⟨some ⟨g3, 0, none⟩, sn + 1, cap3⟩ ⟨some ⟨g4, 0, none⟩, kn + 1, cap4⟩) := L1
      simp only [Sl.v] at d0 d1 d2
      clear L1 q1 q2 q3 q4 HL5 oK nK c0 c1 c2 c3
      go_wp2_with fail
      go_roundg (40 - (j + 1))
      case measure => omega
      case rel => exact ⟨j + 1, ⟨_, _, _⟩, ⟨_, _, _⟩, ⟨_, _, _⟩, by go_num, by omega, rfl, HL6⟩
    · obtain rfl : j = 40 := by omega
      have r6 := HL.out.hr
      go_wp2_with (refine wpList_store_whole (by rfl) 26 _ _ (by rfl) (w.heap.size + 1) #[.slice pa pn pc, .slice sa sn sc, .slice ka kn kc] #[.slice none 0 0, .slice none 0 0, .slice none 0 0] 26 (by rfl) (by rfl) r6 rfl (by kernel_rfl) (by kernel_rfl) ?_; intro W7 r7 f7)
      have G := HL.out
      have lt1 : ∀ (x : Sl), (x.blk = some (w.heap.size + 1) → x.blk ≠ some (w.heap.size + 1)) → ∀ i, x.blk = some i → ¬ i = w.heap.size + 1 := fun x h i hi e => by subst e; exact h hi hi
      refine bodyPost_ret (results_row_one (p := 4) (ty := 26) (by kernel_rfl) _ _ (w.heap.size + 1) 26 _ (0, 0) _ rfl r7 Try.underlying26 rfl (by kernel_rfl)) rfl ⟨_, _, _, rfl, G.P.keep f7 (lt1 _ (fun _ => G.P.row.ne G.hr (by decide))) (fun i hi e => by have := G.P.lt i hi; omega), G.S.keep f7 (lt1 _ (fun _ => G.S.row.ne G.hr (by decide))) (fun i hi e => by have := G.S.lt i hi; omega), G.K.keep f7 (lt1 _ (fun _ => G.K.row.ne G.hr (by decide))) (fun i hi e => by have := G.K.lt i hi; omega), Fr.trans G.fr f7 (fun i hi e => by omega)⟩
end Go.Proofs.Ytjlbkagkmcelgaa
