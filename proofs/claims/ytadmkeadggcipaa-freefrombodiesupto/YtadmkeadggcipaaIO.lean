/- free: apart of lists of numbers: what it marks. -/
import Derived.Test.YtadmkeadggcipaaIN
namespace Go.Proofs.Ytadmkeadggcipaa
open Go.RowKit Go.Maps

/-- A list of numbers as a slice. -/
structure Rw where
  ao : Option Addr
  n : Nat
  c : Nat
abbrev Rw.v (x : Rw) : Value := .slice x.ao x.n x.c
def RIs (W : World) (x : Rw) (xs : List Nat) : Prop := W.ownsRow 0 27 1 (.slice x.ao x.n x.c) x.n (ncells xs)
theorem RIs.len {W : World} {x : Rw} {xs : List Nat} (h : RIs W x xs) : xs.length = x.n := by have := h.1; simpa [ncells] using this
theorem RIs.fr {W W' : World} {S : Nat → Prop} {x : Rw} {xs : List Nat} (h : RIs W x xs) (f : Fr S W W') (hn : ∀ k, x.v.ownBlock = some k → ¬ S k) : RIs W' x xs := own_frameB h f hn
theorem RIs.blk {W : World} {x : Rw} {xs : List Nat} (h : RIs W x xs) {k : Nat} (hk : x.v.ownBlock = some k) : x.ao = some ⟨k, 0, none⟩ ∧ k < W.heap.size := by
  rcases h.2 with ⟨hv, _⟩ | ⟨g, c, cur, hv, _, hh, _⟩
  · unfold Rw.v at hk; rw [hv] at hk; cases hk
  · injection hv with e1 _ _
    unfold Rw.v at hk
    rw [e1] at hk
    have : g = k := by simpa [Value.ownBlock] using hk
    subst this
    exact ⟨e1, lt_of_heap hh⟩
/-- Lists of numbers, in a list. -/
structure OutAt (w : World) (la : Option Addr) (lb lo : Nat) (L : List Rw) : Prop where
  place : L ≠ [] → la = some ⟨lb, lo, none⟩ ∧ ∃ cs fr, w.heap[lb]? = some (.cells cs 28 fr)
  cells : ∀ (i : Nat) (x : Rw), L[i]? = some x → w.cell? ⟨lb, lo + i, none⟩ = some (.slice x.ao x.n x.c)
structure Apt (w : World) (L : List Rw) : Prop where
  rows : ∀ (i : Nat) (x : Rw), L[i]? = some x → ∃ xs, RIs w x xs
  dis : ∀ (i j : Nat) (x y : Rw) (k : Nat), L[i]? = some x → L[j]? = some y → x.v.ownBlock = some k → y.v.ownBlock = some k → i = j
  len : ∀ x ∈ L, x.n ≤ 1099511627000
def inB (L : List Rw) (k : Nat) : Prop := ∃ (i : Nat) (x : Rw), L[i]? = some x ∧ x.v.ownBlock = some k
theorem OutAt.fr {w w' : World} {S : Nat → Prop} {la : Option Addr} {lb lo : Nat} {L : List Rw} (h : OutAt w la lb lo L) (f : Fr S w w') (hb : L ≠ [] → ¬ S lb) : OutAt w' la lb lo L :=
  ⟨fun e => by
    obtain ⟨h1, cs, fr, h2⟩ := h.place e
    exact ⟨h1, cs, fr, (f.block _ (lt_of_heap h2) (hb e)).trans h2⟩, fun i x hx => by
    have hne : L ≠ [] := by intro e; rw [e] at hx; simp at hx
    exact (f.cell (World.block_lt_of_cell? _ _ (h.cells i x hx)) (hb hne)).trans (h.cells i x hx)⟩
theorem OutAt.out {w : World} {la : Option Addr} {lb lo : Nat} {L : List Rw} (h : OutAt w la lb lo L) (hr : Apt w L) (hne : L ≠ []) : ¬ inB L lb := by
  rintro ⟨i, x, hx, hk⟩
  obtain ⟨_, cs, fr, h2⟩ := h.place hne
  obtain ⟨xs, hxs⟩ := hr.rows i x hx
  exact own_neT hxs h2 (by decide) lb hk rfl
/-- While lists are marked: those ahead of I bear their marks. -/
structure Mkd (w W : World) (la : Option Addr) (lb lo : Nat) (L : List Rw) (I : Nat) : Prop where
  out : OutAt W la lb lo L
  apt : Apt W L
  marked : ∀ (i : Nat) (x : Rw), i < I → L[i]? = some x → RIs W x (List.replicate x.n (100000 + i))
  base : Fr (inB L) w W
theorem set_rep {xs : List Nat} {k a : Nat} (hk : k < xs.length) (h : xs.take k = List.replicate k a) : (xs.set k a).take (k + 1) = List.replicate (k + 1) a := by
  rw [List.take_succ_eq_append_getElem (by rw [List.length_set]; exact hk), List.take_set_of_le (Nat.le_refl _), h]
  simp [List.replicate_succ']
theorem Mkd.put {w W : World} {la : Option Addr} {lb lo I k g v : Nat} {L : List Rw} {x : Rw} {xs : List Nat} (h : Mkd w W la lb lo L I) (hx : L[I]? = some x) (hr : RIs W x xs) (hao : x.ao = some ⟨g, 0, none⟩) (W' : World) (hW : W' = W.setCell ⟨g, k, none⟩ (.int .u32 (v : Int))) : Mkd w W' la lb lo L I ∧ RIs W' x (xs.set k v) := by
  subst hW
  have hblk : x.v.ownBlock = some g := by unfold Rw.v; rw [hao]; rfl
  have f : Fr (fun b => b = g) W (W.setCell ⟨g, k, none⟩ (.int .u32 (v : Int))) := Fr.setCell (S := fun b => b = g) (Fr.refl _ W) (p := ⟨g, k, none⟩) (fun _ => rfl) _
  have hset : RIs (W.setCell ⟨g, k, none⟩ (.int .u32 (v : Int))) x (xs.set k v) := by
    unfold RIs at hr ⊢
    rw [hao] at hr ⊢
    have := own_set (i := k) hr (.int .u32 (v : Int))
    have e : ncells (xs.set k v) = (ncells xs).set k (.int .u32 (v : Int)) := by unfold ncells; rw [List.map_set]
    rw [e]; exact this
  have other : ∀ (j : Nat) (y : Rw), L[j]? = some y → j ≠ I → ∀ b, y.v.ownBlock = some b → ¬ b = g := fun j y hy hne b hb e => by
    subst e
    exact hne (h.apt.dis j I y x b hy hx hb hblk)
  refine ⟨⟨h.out.fr f (fun hne e => by subst e; exact h.out.out h.apt hne ⟨I, x, hx, hblk⟩), ⟨fun j y hy => ?_, h.apt.dis, h.apt.len⟩, fun i y hi hy => ?_, Fr.trans h.base f (fun b hb e => by subst e; exact ⟨I, x, hx, hblk⟩)⟩, hset⟩
  · by_cases hj : j = I
    · subst hj
      have : y = x := by rw [hx] at hy; exact (Option.some.inj hy).symm
      subst this
      exact ⟨_, hset⟩
    · obtain ⟨ys, hys⟩ := h.apt.rows j y hy
      exact ⟨ys, hys.fr f (other j y hy hj)⟩
  · exact (h.marked i y hi hy).fr f (other i y hy (by omega))
theorem Mkd.next {w W : World} {la : Option Addr} {lb lo I : Nat} {L : List Rw} {x : Rw} {xs : List Nat} (h : Mkd w W la lb lo L I) (hx : L[I]? = some x) (hr : RIs W x xs) (ht : xs.take x.n = List.replicate x.n (100000 + I)) : Mkd w W la lb lo L (I + 1) := by
  refine ⟨h.out, h.apt, fun i y hi hy => ?_, h.base⟩
  by_cases hiI : i = I
  · subst hiI
    have : y = x := by rw [hx] at hy; exact (Option.some.inj hy).symm
    subst this
    rw [List.take_of_length_le (by rw [hr.len]; exact Nat.le_refl _)] at ht
    rw [← ht]; exact hr
  · exact h.marked i y (by omega) hy
/-- What stays of the lists, whatever is marked and grown. -/
structure St (w : World) (lb : Nat) (L : List Rw) : Prop where
  dis : ∀ (i j : Nat) (x y : Rw) (k : Nat), L[i]? = some x → L[j]? = some y → x.v.ownBlock = some k → y.v.ownBlock = some k → i = j
  lt : ∀ (i : Nat) (x : Rw) (k : Nat), L[i]? = some x → x.v.ownBlock = some k → k < w.heap.size
  lb_ : L ≠ [] → lb < w.heap.size
/-- One list under way: k marks more behind it. -/
structure Gr1 (W0 W : World) (x : Rw) (a b k : Nat) (r : Rw) : Prop where
  n : r.n = x.n + k
  row : RIs W r (List.replicate x.n a ++ List.replicate k b)
  old : ∃ gx, NRow W x.ao gx 0 (List.replicate x.n a)
  lt : ∀ a', x.ao = some a' → a'.block < W0.heap.size
  at_ : r.ao = x.ao ∨ ∃ g, r.ao = some ⟨g, 0, none⟩ ∧ W0.heap.size ≤ g
  base : Fr (fun k => x.ao.map (·.block) = some k) W0 W
theorem Rw.blk_map (x : Rw) : x.v.ownBlock = x.ao.map (·.block) := by
  obtain ⟨ao, n, c⟩ := x
  cases ao <;> rfl
theorem Gr1.start {W0 : World} {x : Rw} {a b : Nat} (h : RIs W0 x (List.replicate x.n a)) : Gr1 W0 W0 x a b 0 x := by
  obtain ⟨g, hg⟩ := own_nrow h h.len.symm
  refine ⟨rfl, by simpa using h, ⟨g, hg⟩, fun a' ha => ?_, Or.inl rfl, Fr.refl _ W0⟩
  have hb : x.v.ownBlock = some a'.block := by rw [Rw.blk_map, ha]; rfl
  exact (h.blk hb).2
theorem Gr1.same {W0 W W' : World} {x r : Rw} {a b k : Nat} (h : Gr1 W0 W x a b k r) (s : Same W W') : Gr1 W0 W' x a b k r := by
  obtain ⟨gx, ho⟩ := h.old
  exact ⟨h.n, h.row.fr s (fun _ _ e => e), ⟨gx, ho.same s⟩, h.lt, h.at_, Fr.trans h.base s (fun _ _ e => e.elim)⟩
theorem Gr1.step {W0 W W2 : World} {x r : Rw} {a b k g' cap' : Nat} (h : Gr1 W0 W x a b k r)
    (o2 : W2.ownsRow 0 27 1 (.slice (some ⟨g', 0, none⟩) (r.n + 1) cap') (r.n + 1) (ncells ((List.replicate x.n a ++ List.replicate k b) ++ [b])))
    (gr : W.grownBy W2 (r.ao.map (·.block))) (kp : ∃ pb, NRow W2 r.ao pb 0 (List.replicate x.n a ++ List.replicate k b)) (at2 : r.ao.map (·.block) = some g' ∨ g' = W.heap.size) :
    Gr1 W0 W2 x a b (k + 1) ⟨some ⟨g', 0, none⟩, r.n + 1, cap'⟩ := by
  have f : Fr (fun j => r.ao.map (·.block) = some j) W W2 := Fr.grown (Fr.refl _ _) gr (fun j e _ => e)
  have hsz := h.base.size
  refine ⟨by show r.n + 1 = _; rw [h.n]; omega, ?_, ?_, h.lt, ?_, Fr.trans h.base f (fun j hj e => ?_)⟩
  · unfold RIs
    rw [List.replicate_succ', ← List.append_assoc]
    exact o2
  · rcases h.at_ with e | ⟨g, e, hg⟩
    · obtain ⟨pb, hpb⟩ := kp
      rw [e] at hpb
      exact ⟨pb, nrow_front hpb⟩
    · obtain ⟨gx, ho⟩ := h.old
      refine ⟨gx, ho.fr f (fun hne e2 => ?_)⟩
      have h1 := h.lt _ (ho.place hne).1
      rw [e] at e2
      injection e2 with e2
      simp only at h1 e2
      omega
  · rcases at2 with e2 | e2
    · rcases h.at_ with e | ⟨g, e, hg⟩
      · left
        have hb : r.v.ownBlock = some g' := by rw [Rw.blk_map]; exact e2
        rw [← e, (h.row.blk hb).1]
      · right
        rw [e] at e2
        injection e2 with e2
        simp only at e2
        exact ⟨g', rfl, by omega⟩
    · right
      exact ⟨g', rfl, by omega⟩
  · rcases h.at_ with e2 | ⟨g, e2, hg⟩
    · rw [← e2]; exact e
    · rw [e2] at e
      injection e with e
      simp only at e
      omega
/-- While lists are grown: those ahead of I are. -/
structure Grw (w W : World) (la : Option Addr) (lb lo : Nat) (L : List Rw) (I : Nat) (ma : Option Addr) (mc : Nat) (M : List Rw) : Prop where
  out : OutAt W la lb lo L
  lenM : M.length = I
  more : W.ownsRow w.heap.size 28 1 (.slice ma I mc) I (M.map Rw.v)
  fin : ∀ (i : Nat) (x : Rw), i < I → L[i]? = some x → (∃ y, M[i]? = some y ∧ y.n = x.n + 70 ∧ RIs W y (List.replicate x.n (100000 + i) ++ List.replicate 70 (300000 + i)) ∧ (y.ao = x.ao ∨ ∃ g, y.ao = some ⟨g, 0, none⟩ ∧ w.heap.size ≤ g)) ∧ ∃ gx, NRow W x.ao gx 0 (List.replicate x.n (100000 + i))
  left : ∀ (i : Nat) (x : Rw), I ≤ i → L[i]? = some x → RIs W x (List.replicate x.n (100000 + i))
  base : Fr (inB L) w W
theorem Grw.start {w W : World} {la : Option Addr} {lb lo n : Nat} {L : List Rw} (h : Mkd w W la lb lo L n) (hn : n = L.length) : Grw w W la lb lo L 0 none 0 [] :=
  ⟨h.out, rfl, own_nil, fun i x hi => absurd hi (Nat.not_lt_zero _), fun i x _ hx => h.marked i x (by rw [hn]; exact (List.getElem?_eq_some_iff.1 hx).1) hx, h.base⟩
theorem nrow_blk {W : World} {ao : Option Addr} {gx n a : Nat} (h : NRow W ao gx 0 (List.replicate n a)) (hne : List.replicate n a ≠ []) : ao.map (·.block) = some gx := by rw [(h.place hne).1]; rfl
theorem Grw.next {w W0 W W4 : World} {la : Option Addr} {lb lo I mc mc2 : Nat} {L M : List Rw} {ma ma2 : Option Addr} {x r : Rw} (st : St w lb L) (h : Grw w W0 la lb lo L I ma mc M) (hx : L[I]? = some x) (hg : Gr1 W0 W x (100000 + I) (300000 + I) 70 r)
    (f4 : Fr (fun k => ma.map (·.block) = some k) W W4) (o4 : W4.ownsRow w.heap.size 28 1 (.slice ma2 (I + 1) mc2) (I + 1) ((M ++ [r]).map Rw.v)) : Grw w W4 la lb lo L (I + 1) ma2 mc2 (M ++ [r]) := by
  have hwz : w.heap.size ≤ W0.heap.size := h.base.size
  have hmb : ∀ k, ma.map (·.block) = some k → w.heap.size ≤ k ∧ ∃ cs fr, W0.heap[k]? = some (.cells cs 28 fr) := fun k hk => by
    rcases h.more.2 with ⟨hv, _⟩ | ⟨g, c, cur, hv, hb, hh, _⟩
    · injection hv with e1 _ _
      rw [e1] at hk; cases hk
    · injection hv with e1 _ _
      rw [e1] at hk
      injection hk with hk
      simp only at hk
      subst hk
      exact ⟨hb, cur, _, hh⟩
  have tyne : ∀ (y : Rw) (ys : List Nat) (k : Nat), RIs W0 y ys → y.ao.map (·.block) = some k → ma.map (·.block) ≠ some k := fun y ys k hy hk hm => by
    obtain ⟨_, cs, fr, hc⟩ := hmb k hm
    exact own_neT hy hc (by decide) k (by have := y.blk_map; unfold Rw.v at this; rw [this]; exact hk) rfl
  have hxr := h.left I x (Nat.le_refl _) hx
  have S04 : Fr (fun k => x.ao.map (·.block) = some k ∨ ma.map (·.block) = some k) W0 W4 := Fr.trans (Fr.mono hg.base (fun k _ e => Or.inl e)) f4 (fun k hk e => Or.inr e)
  have xlt : ∀ k, x.ao.map (·.block) = some k → k < w.heap.size := fun k hk => st.lt I x k hx (by rw [Rw.blk_map]; exact hk)
  have keepY : ∀ (j : Nat) (z y : Rw) (ys : List Nat), L[j]? = some z → j ≠ I → (y.ao = z.ao ∨ ∃ g, y.ao = some ⟨g, 0, none⟩ ∧ w.heap.size ≤ g) → RIs W0 y ys → RIs W4 y ys := fun j z y ys hz hj hor hy => by
    refine hy.fr S04 (fun k hk e => ?_)
    rw [Rw.blk_map] at hk
    rcases e with e | e
    · rcases hor with e2 | ⟨g, e2, hg2⟩
      · rw [e2] at hk
        exact hj (st.dis j I z x k hz hx (by rw [Rw.blk_map]; exact hk) (by rw [Rw.blk_map]; exact e))
      · rw [e2] at hk
        injection hk with hk
        simp only at hk
        have := xlt k e
        omega
    · exact tyne y ys k hy hk e
  have keepN : ∀ (j : Nat) (z : Rw) (gx a : Nat), L[j]? = some z → j ≠ I → NRow W0 z.ao gx 0 (List.replicate z.n a) → NRow W4 z.ao gx 0 (List.replicate z.n a) := fun j z gx a hz hj hy => by
    refine hy.fr S04 (fun hne e => ?_)
    have hb := nrow_blk hy hne
    have hb2 : z.v.ownBlock = some gx := by rw [Rw.blk_map]; exact hb
    rcases e with e | e
    · exact hj (st.dis j I z x gx hz hx hb2 (by rw [Rw.blk_map]; exact e))
    · have := (hmb gx e).1
      have := st.lt j z gx hz hb2
      omega
  refine ⟨h.out.fr S04 (fun hne e => ?_), by rw [List.length_append, h.lenM]; rfl, o4, fun i z hi hz => ?_, fun i z hi hz => ?_, ?_⟩
  · rcases e with e | e
    · obtain ⟨_, cs, fr, hc⟩ := h.out.place hne
      exact own_neT hxr hc (by decide) lb (by have := x.blk_map; unfold Rw.v at this; rw [this]; exact e) rfl
    · have := (hmb lb e).1
      have := st.lb_ hne
      omega
  · by_cases hiI : i = I
    · subst hiI
      have : z = x := by rw [hx] at hz; exact (Option.some.inj hz).symm
      subst this
      refine ⟨⟨r, by rw [List.getElem?_append_right (by rw [h.lenM]; exact Nat.le_refl _), h.lenM, Nat.sub_self]; rfl, hg.n, hg.row.fr f4 (fun k hk e => ?_), ?_⟩, ?_⟩
      · obtain ⟨_, cs, fr, hc⟩ := hmb k e
        have hc2 := (hg.base.block k (lt_of_heap hc) (fun e2 => tyne z _ k hxr e2 e)).trans hc
        exact own_neT hg.row hc2 (by decide) k hk rfl
      · rcases hg.at_ with e | ⟨g, e, hg2⟩
        · exact Or.inl e
        · exact Or.inr ⟨g, e, by omega⟩
      · obtain ⟨gx, ho⟩ := hg.old
        refine ⟨gx, ho.fr f4 (fun hne e => ?_)⟩
        have := (hmb gx e).1
        have := xlt gx (nrow_blk ho hne)
        omega
    · obtain ⟨⟨y, hy, h1, h2, h3⟩, gx, h4⟩ := h.fin i z (by omega) hz
      exact ⟨⟨y, by rw [List.getElem?_append_left (List.getElem?_eq_some_iff.1 hy).1]; exact hy, h1, keepY i z y _ hz hiI h3 h2, h3⟩, gx, keepN i z gx _ hz hiI h4⟩
  · exact keepY i z z _ hz (by omega) (Or.inl rfl) (h.left i z (by omega) hz)
  · refine Fr.trans h.base S04 (fun k hk e => ?_)
    rcases e with e | e
    · exact ⟨I, x, hx, by rw [Rw.blk_map]; exact e⟩
    · have := (hmb k e).1
      omega
theorem Try.infSl : (Try.prog.info? 28).map (fun i => (i.zero, i.size, i.bytes)) = some (some (.slice none 0 0), 1, 24) := by kernel_rfl
theorem run_partLss (w : World) (ty : TypeId) {B n : Nat} {v : Value} {xs : List Value} (hown : w.ownsRow B 28 1 v n xs) {x : Part} (hx : PartOk w 1 x) (hb : n + x.n ≤ 1099511627776) (hB : B ≤ w.heap.size) :
    ∃ v' w', (Builtin.append_ #[42, 42] ty #[v, .slice x.ao x.n x.c]).run Try.prog w = .ok v' w' ∧ w'.ownsRow B 28 1 v' (n + x.n) (xs ++ x.cells) ∧ w.grownBy w' v.ownBlock := by
  obtain ⟨i0, hi, hz0, hz1, hz2⟩ := info_parts Try.infSl
  obtain ⟨ao, m, c, cs⟩ := x
  cases ao with
  | none =>
    obtain ⟨e1, e2⟩ := hx.none rfl
    have e3 := hx.len
    simp only at e1 e2 e3
    subst e1 e2
    have e4 : cs = [] := List.eq_nil_of_length_eq_zero (by omega)
    subst e4
    refine ⟨v, w, run_append_owned_none (P := Try.prog) (w := w) B 42 ty 28 i0 1 Try.underlying42 hi v n xs hown, ?_, ⟨rfl, rfl, rfl, Nat.le_refl _, fun _ _ _ => rfl⟩⟩
    rw [List.append_nil]; exact hown
  | some a =>
    simp only at hb
    obtain ⟨v', w', h1, h2, h3, _⟩ := run_append_own (P := Try.prog) w B 42 ty 28 i0 (.slice none 0 0) 1 24 Try.underlying42 hi hz0 hz1 hz2 rfl (by decide) v n xs hown a m c cs hx.len (hx.at_ a rfl) hx.one (by unfold maxLen; omega) (by omega) hB
    exact ⟨v', w', h1, h2, h3⟩
theorem wpList_partLss (w : World) {ops : Array Oper} {rest : List Oper} {o : Oper} {a : Act} {Q : Exit → Act → World → Prop} (hgd : o.guard = none) (sl y : Operand)
    (ho : o.op = .call { callee := .builtin .append, args := #[sl, y], argTypes := #[42, 42] }) {B n : Nat} {v : Value} {xs : List Value} (hs : a.eval sl = v) (hown : w.ownsRow B 28 1 v n xs) {x : Part} (hy : a.eval y = .slice x.ao x.n x.c) (hx : PartOk w 1 x) (hb : n + x.n ≤ 1099511627776) (hB : B ≤ w.heap.size)
    (hk : ∀ ao c w', w'.ownsRow B 28 1 (.slice ao (n + x.n) c) (n + x.n) (xs ++ x.cells) → w.grownBy w' v.ownBlock → wpList Try.prog ops Q rest (a.put o.dst (.slice ao (n + x.n) c)) w') : wpList Try.prog ops Q (o :: rest) a w := by
  obtain ⟨v', w', hr, h2, h3⟩ := run_partLss w o.type hown hx hb hB
  obtain ⟨ao, c, rfl⟩ := own_shape h2
  exact Lib.wpList_append_run w hgd sl y _ _ ho _ _ hs hy _ _ hr (hk ao c w' h2 h3)
theorem Grw.mne {w W0 : World} {la : Option Addr} {lb lo I mc : Nat} {L M : List Rw} {ma : Option Addr} {x : Rw} (h : Grw w W0 la lb lo L I ma mc M) (hx : L[I]? = some x) : ∀ k, (Value.slice ma I mc).ownBlock = some k → ¬ (x.ao.map (·.block) = some k) := fun k hk e => by
  rcases h.more.2 with ⟨hv, _⟩ | ⟨g, c, cur, hv, hb, hh, _⟩
  · rw [hv] at hk; cases hk
  · rw [hv] at hk
    have : g = k := by simpa [Value.ownBlock] using hk
    subst this
    exact own_neT (h.left I x (Nat.le_refl _) hx) hh (by decide) g (by have := x.blk_map; unfold Rw.v at this; rw [this]; exact e) rfl
theorem Grw.same {w W W' : World} {la : Option Addr} {lb lo I mc : Nat} {L M : List Rw} {ma : Option Addr} (h : Grw w W la lb lo L I ma mc M) (s : Same W W') : Grw w W' la lb lo L I ma mc M :=
  ⟨h.out.fr s (fun _ e => e), h.lenM, own_frameB h.more s (fun _ _ e => e), fun i x hi hx => by
    obtain ⟨⟨y, h1, h2, h3, h4⟩, gx, h5⟩ := h.fin i x hi hx
    exact ⟨⟨y, h1, h2, h3.fr s (fun _ _ e => e), h4⟩, gx, h5.same s⟩, fun i x hi hx => (h.left i x hi hx).fr s (fun _ _ e => e), Fr.trans h.base s (fun _ _ e => e.elim)⟩
end Go.Proofs.Ytadmkeadggcipaa
