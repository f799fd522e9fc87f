/- free: slices.Concat over batches, slices.Clone over numbers. -/
import Derived.Test.YtajbifblbmlffaaEX
import Derived.Deep.LoopGhost
import Derived.Lib.AppendZerosOnto
import Derived.Laws.AppendOwnNone
import Derived.Shelf.Spec.SlicesGrow
import Derived.Test.YtajbifblbmlffaaYE
import Derived.Test.YtajbifblbmlffaaIN
namespace Go.Proofs.Ytajbifblbmlffaa
open Go.RowKit

end Go.Proofs.Ytajbifblbmlffaa
namespace Go.Proofs.Ytajbifblbmlffaa
open Go.RowKit Go.Maps

theorem own_setN {w : World} {B g cap n i sz : Nat} {e : TypeId} {xs : List Value} (h : w.ownsRow B e sz (.slice (some ⟨g, 0, none⟩) n cap) n xs) (v : Value) :
    (w.setCell ⟨g, i, none⟩ v).ownsRow B e sz (.slice (some ⟨g, 0, none⟩) n cap) n (xs.set i v) := by
  obtain ⟨hl, hn | ⟨g2, c2, cur, hv, hb, hh, hnc, hcm, hcs, htk⟩⟩ := h
  · exact absurd hn.1 (by simp)
  · injection hv with e1 _ e3
    injection e1 with e1
    injection e1 with e1
    subst e1 e3
    refine ⟨by rw [List.length_set]; exact hl, Or.inr ⟨g, cap, cur.setIfInBounds i v, rfl, hb, heap_setCell_same w g i cur e v hh, hnc, hcm, by rw [Array.size_setIfInBounds]; exact hcs, ?_⟩⟩
    rw [Array.toList_setIfInBounds, List.take_set, htk]
theorem own_frozenN {w : World} {B g cap n i sz : Nat} {e : TypeId} {xs : List Value} (h : w.ownsRow B e sz (.slice (some ⟨g, 0, none⟩) n cap) n xs) : w.frozen? ⟨g, i, none⟩ = false := by
  obtain ⟨hl, hn | ⟨g2, c2, cur, hv, hb, hh, hnc, hcm, hcs, htk⟩⟩ := h
  · exact absurd hn.1 (by simp)
  · injection hv with e1 _ e3
    injection e1 with e1
    injection e1 with e1
    subst e1 e3
    exact frozen_of_row w g i _ _ hh
theorem btCs_set {N1 R : List Bt} {x : Bt} {na : Option Addr} {nb nc : Nat} : (btCs (N1 ++ x :: R)).set (N1.length * 2 + 1) (.slice na x.ns.length nc) = btCs ((N1 ++ [⟨x.pg, na, nb, 0, nc, x.ns⟩]) ++ R) := by
  rw [btCs_app, btCs_app, btCs_app, List.set_append_right _ _ (by rw [btCs_len]; omega), btCs_len, show N1.length * 2 + 1 - N1.length * 2 = 1 from by omega, List.append_assoc]
  rfl
/-- A batch whose numbers are new memory. -/
structure NewX (w W : World) (x : Bt) : Prop where
  no : x.no = 0
  own : W.ownsRow w.heap.size 28 1 (.slice x.na x.ns.length x.nc) x.ns.length (ncells x.ns)
  row : NRow W x.na x.nb 0 x.ns
theorem NewX.fr {w W W' : World} {S : Nat → Prop} {x : Bt} (h : NewX w W x) (f : Fr S W W') (hn : ∀ k, (Value.slice x.na x.ns.length x.nc).ownBlock = some k → ¬ S k) (hb : x.ns ≠ [] → ¬ S x.nb) : NewX w W' x := ⟨h.no, own_frameB h.own f hn, h.row.fr f hb⟩
theorem blk_of {ao : Option Addr} {n c : Nat} : (Value.slice ao n c).ownBlock = ao.map (·.block) := by cases ao <;> rfl
/-- While a chain's copy gets lists of its own: A the chain, N the batches that have theirs. -/
structure AC (w W : World) (A : List Bt) (ao : Option Addr) (cc i : Nat) (N : List Bt) : Prop where
  same : Same w W
  row : W.ownsRow w.heap.size 53 2 (.slice ao A.length cc) A.length (btCs (N ++ A.drop i))
  len : N.length = i
  key : N.map Bt.key = (A.take i).map Bt.key
  new_ : ∀ x ∈ N, NewX w W x
  dis : ∀ (j k : Nat) (x y : Bt) (b : Nat), N[j]? = some x → N[k]? = some y → x.na.map (·.block) = some b → y.na.map (·.block) = some b → j = k
theorem AC.next {w W W1 : World} {A N : List Bt} {ga cc i nb c1 : Nat} {a1 : Option Addr} {x : Bt} (h : AC w W A (some ⟨ga, 0, none⟩) cc i N) (hx : A[i]? = some x) (s : Same W W1) (o1 : W1.ownsRow W.heap.size 28 1 (.slice a1 x.ns.length c1) x.ns.length (ncells x.ns)) (hr : NRow W1 a1 nb 0 x.ns) :
    AC w (W1.setCell ⟨ga, i * 2 + 1, none⟩ (.slice a1 x.ns.length c1)) A (some ⟨ga, 0, none⟩) cc (i + 1) (N ++ [⟨x.pg, a1, nb, 0, c1, x.ns⟩]) := by
  have hlt : i < A.length := (List.getElem?_eq_some_iff.1 hx).1
  have hdrop : A.drop i = x :: A.drop (i + 1) := by
    have e : A[i] = x := by rw [List.getElem?_eq_getElem hlt] at hx; exact Option.some.inj hx
    rw [List.drop_eq_getElem_cons hlt, e]
  have r1 := own_frameB h.row s (fun _ _ f => f)
  have hga := own_ge r1
  have fr : Fr (fun k => k = ga) W1 (W1.setCell ⟨ga, i * 2 + 1, none⟩ (.slice a1 x.ns.length c1)) := Fr.setCell (S := fun k => k = ga) (Fr.refl _ W1) (p := ⟨ga, i * 2 + 1, none⟩) (fun _ => rfl) _
  have hcel : ∃ cs, W1.heap[ga]? = some (.cells cs 53 (0, 0)) := own_cellsB r1 rfl
  obtain ⟨cs, hcs⟩ := hcel
  have nety : ∀ (ao : Option Addr) (n c B : Nat) (xs : List Value), W1.ownsRow B 28 1 (.slice ao n c) n xs → ∀ k, (Value.slice ao n c).ownBlock = some k → ¬ k = ga := fun ao n c B xs ho k hk e => by
    subst e
    exact own_neT (own_base ho (Nat.zero_le _)) hcs (by decide) k hk rfl
  have cellty : ∀ b : Nat, ∀ ns : List Nat, ∀ a : Option Addr, NRow W1 a b 0 ns → ns ≠ [] → b ≠ ga ∨ b = ga := fun b ns a _ _ => by omega
  have nrne : ∀ (ao : Option Addr) (n c B nb : Nat) (ns : List Nat), W1.ownsRow B 28 1 (.slice ao n c) n (ncells ns) → NRow W1 ao nb 0 ns → ns ≠ [] → ¬ nb = ga := fun ao n c B nb ns ho hn he e => by
    have hp := (hn.place he).1
    exact nety ao n c B _ ho nb (by rw [blk_of, hp]; rfl) e
  refine ⟨Fr.trans (h.same.trans s) fr (fun k hk e => by have := hga.1; have : k = ga := e; simp only at *; omega), ?_, by rw [List.length_append, h.len]; rfl, ?_, fun y hy => ?_, fun j k y z b hj hk hb hc => ?_⟩
  · rw [hdrop] at r1
    have := own_setN (i := i * 2 + 1) r1 (.slice a1 x.ns.length c1)
    rw [← h.len, btCs_set (nb := nb)] at this
    rw [← h.len]
    exact this
  · rw [List.map_append, h.key, take_key hx]; rfl
  · rcases List.mem_append.1 hy with h1 | h1
    · have hn := h.new_ y h1
      have hn1 := hn.fr s (fun _ _ f => f) (fun _ f => f)
      exact hn1.fr fr (nety _ _ _ _ _ hn1.own) (nrne _ _ _ _ _ _ hn1.own hn1.row)
    · rw [List.mem_singleton] at h1
      subst h1
      refine ⟨rfl, own_frameB (own_base o1 h.same.size) fr (nety _ _ _ _ _ o1), hr.fr fr (nrne _ _ _ _ _ _ o1 hr)⟩
  · have old : ∀ (y : Bt) (b : Nat), y ∈ N → y.na.map (·.block) = some b → b < W.heap.size := fun y b hy hb => by
      have ho := (h.new_ y hy).own
      have hbk : (Value.slice y.na y.ns.length y.nc).ownBlock = some b := by rw [blk_of]; exact hb
      obtain ⟨cur, hcur⟩ := own_cellsB ho hbk
      exact lt_of_heap hcur
    have nw : ∀ b, a1.map (·.block) = some b → W.heap.size ≤ b := fun b hb => own_blk o1 b (by rw [blk_of]; exact hb)
    have bnd : ∀ (m : Nat) (y : Bt), (N ++ [⟨x.pg, a1, nb, 0, c1, x.ns⟩])[m]? = some y → (m < i ∧ N[m]? = some y) ∨ (m = i ∧ y = ⟨x.pg, a1, nb, 0, c1, x.ns⟩) := fun m y hm => by
      by_cases e : m < N.length
      · rw [List.getElem?_append_left e] at hm; exact Or.inl ⟨by rw [← h.len]; exact e, hm⟩
      · have hl := (List.getElem?_eq_some_iff.1 hm).1
        rw [List.length_append, List.length_singleton] at hl
        have em : m = N.length := by omega
        subst em
        rw [List.getElem?_append_right (Nat.le_refl _), Nat.sub_self] at hm
        exact Or.inr ⟨h.len, by simpa using hm.symm⟩
    rcases bnd j y hj with ⟨j1, j2⟩ | ⟨j1, rfl⟩ <;> rcases bnd k z hk with ⟨k1, k2⟩ | ⟨k1, rfl⟩
    · exact h.dis j k y z b j2 k2 hb hc
    · have := old y b (List.mem_of_getElem? j2) hb
      have := nw b hc
      omega
    · have := old z b (List.mem_of_getElem? k2) hc
      have := nw b hb
      omega
    · omega
structure IF2 (T : Nat) (sl : Value) (a : Act) : Prop where
  size : a.tmps.size = 38
  defers : a.defers = []
  s6 : a.eval (.tmp 6) = sl
  s22 : a.eval (.tmp 22) = .int .i64 (T : Int)
theorem IF2.keep {T : Nat} {sl : Value} {a0 a : Act} {env : List (Nat × Value)} (h : IF2 T sl a0) (f : Fe a0 env a) (h6 : look env 6 (a0.eval (.tmp 6)) = a0.eval (.tmp 6)) (h22 : look env 22 (a0.eval (.tmp 22)) = a0.eval (.tmp 22)) : IF2 T sl a :=
  ⟨f.size.trans h.size, f.defers.trans h.defers, ((f.at_ 6).trans h6).trans h.s6, ((f.at_ 22).trans h22).trans h.s22⟩
/-- A chain that After answered. -/
structure AftAt (w W : World) (ao : Option Addr) (cc : Nat) (N : List Bt) : Prop where
  row : W.ownsRow w.heap.size 53 2 (.slice ao N.length cc) N.length (btCs N)
  new_ : ∀ x ∈ N, NewX w W x
  dis : ∀ (j k : Nat) (x y : Bt) (b : Nat), N[j]? = some x → N[k]? = some y → x.na.map (·.block) = some b → y.na.map (·.block) = some b → j = k
end Go.Proofs.Ytajbifblbmlffaa
namespace Go.Proofs.Ytajbifblbmlffaa
open Go.RowKit Go.Maps

/-- What a row's elements are, and how one is marked with a number. -/
structure Fam where
  e : TypeId
  sz : Nat
  mrk : Nat → List Value
  len : ∀ a, (mrk a).length = sz
  one : ∀ a, ∀ v ∈ mrk a, v.oneCell' = true
  pos : 0 < sz
def rp (F : Fam) (n a : Nat) : List Value := (List.replicate n (F.mrk a)).flatten
theorem rp_len (F : Fam) (n a : Nat) : (rp F n a).length = n * F.sz := by
  unfold rp
  induction n with
  | zero => simp
  | succ n ih => rw [List.replicate_succ, List.flatten_cons, List.length_append, ih, F.len, Nat.succ_mul]; omega
theorem rp_succ (F : Fam) (n a : Nat) : rp F (n + 1) a = rp F n a ++ F.mrk a := by
  unfold rp
  rw [List.replicate_succ', List.flatten_append]
  simp
theorem rp_zero (F : Fam) (a : Nat) : rp F 0 a = [] := rfl
theorem rp_at (F : Fam) {n a j i : Nat} {v : Value} (hj : j < n) (hv : (F.mrk a)[i]? = some v) : (rp F n a)[j * F.sz + i]? = some v := by
  have hi : i < F.sz := by have := (List.getElem?_eq_some_iff.1 hv).1; rw [F.len] at this; exact this
  induction n with
  | zero => omega
  | succ n ih =>
    rw [rp_succ]
    by_cases h : j < n
    · have h2 : (j + 1) * F.sz ≤ n * F.sz := Nat.mul_le_mul_right _ h
      rw [Nat.succ_mul] at h2
      rw [List.getElem?_append_left (by rw [rp_len]; omega)]
      exact ih h
    · obtain rfl : j = n := by omega
      rw [List.getElem?_append_right (by rw [rp_len]; omega), rp_len, Nat.add_sub_cancel_left]
      exact hv
/-- A slice. -/
structure Sl where
  ao : Option Addr
  n : Nat
  c : Nat
abbrev Sl.v (x : Sl) : Value := .slice x.ao x.n x.c
def Sl.blk (x : Sl) : Option Nat := x.ao.map (·.block)
theorem Sl.own (x : Sl) : (Value.slice x.ao x.n x.c).ownBlock = x.blk := blk_of
abbrev RX (F : Fam) (W : World) (x : Sl) (cs : List Value) : Prop := W.ownsRow 0 F.e F.sz (.slice x.ao x.n x.c) x.n cs
section
variable {F : Fam} {W W' w : World} {S : Nat → Prop} {x y r : Sl} {cs : List Value} {L C : List Sl}
theorem RX.fr (h : RX F W x cs) (f : Fr S W W') (hn : ∀ k, x.blk = some k → ¬ S k) : RX F W' x cs := own_frameB h f (fun k hk => hn k (by rw [← Sl.own]; exact hk))
theorem RX.at_ (h : RX F W x cs) {k : Nat} (hk : x.blk = some k) : x.ao = some ⟨k, 0, none⟩ ∧ k < W.heap.size ∧ ∃ A fr, W.heap[k]? = some (.cells A F.e fr) := by
  rcases h.2 with ⟨hv, _⟩ | ⟨g, c, cur, hv, _, hh, _⟩
  · injection hv with e1
    unfold Sl.blk at hk; rw [e1] at hk; cases hk
  · injection hv with e1
    unfold Sl.blk at hk; rw [e1] at hk
    have : g = k := by simpa using hk
    subst this
    exact ⟨e1, lt_of_heap hh, _, _, hh⟩
theorem RX.ne {t : TypeId} {A : Array Value} {fr : Nat × Nat} {k : Nat} (h : RX F W x cs) (hc : W.heap[k]? = some (.cells A t fr)) (ht : F.e ≠ t) : x.blk ≠ some k := fun hk => by
  obtain ⟨_, _, A2, fr2, h2⟩ := h.at_ hk
  rw [hc] at h2
  injection h2 with h2
  injection h2 with _ h2 _
  exact ht h2.symm
/-- The cells lie at a slice. -/
def Hold (W : World) (ao : Option Addr) (cs : List Value) : Prop := ∀ (j : Nat) (v : Value), cs[j]? = some v → ∃ g, ao = some ⟨g, 0, none⟩ ∧ W.cell? ⟨g, j, none⟩ = some v
theorem RX.hold (h : RX F W x cs) : Hold W x.ao cs := by
  intro j v hv
  obtain ⟨ao, n, c⟩ := x
  rcases h.2 with ⟨hn, h0⟩ | ⟨g, c2, cur, hn, _, hh, _⟩
  · have h1 := h.1
    simp only at h0 h1
    rw [h0, Nat.zero_mul] at h1
    rw [List.eq_nil_of_length_eq_zero h1] at hv
    simp at hv
  · injection hn with e1 _ _
    simp only at e1
    subst e1
    exact ⟨g, rfl, own_cell h hv⟩
theorem Hold.fr {ao : Option Addr} (h : Hold W ao cs) (f : Fr S W W') (hn : ∀ k, ao.map (·.block) = some k → ¬ S k) : Hold W' ao cs := by
  intro j v hv
  obtain ⟨g, e, hc⟩ := h j v hv
  exact ⟨g, e, (f.cell (World.block_lt_of_cell? _ _ hc) (hn g (by rw [e]; rfl))).trans hc⟩
theorem Hold.left {ao : Option Addr} {a b : List Value} (h : Hold W ao (a ++ b)) : Hold W ao a := fun j v hv => h j v (by rw [List.getElem?_append_left (List.getElem?_eq_some_iff.1 hv).1]; exact hv)
/-- A slice that is appended to, by one element: the old one holds what it held. -/
theorem run_append_fam {P : Program} (w : World) (ty t2 : TypeId) {i0 : TypeInfo} {z : Value} {bytes : Nat} (hu : P.underlying t2 = some (.slice F.e)) (hi : P.info? F.e = some i0) (hi0 : i0.zero = some z) (hi1 : i0.size = F.sz) (hi2 : i0.bytes = bytes) (hbz : bytes ≤ 64) (hz : z.cells.size = F.sz)
    {xs : List Value} (hown : RX F w x xs) (ad : Addr) (c : Nat) {news : List Value} (hl : news.length = F.sz) (hnews : ∀ j u, news[j]? = some u → w.cell? (ad.add j) = some u) (h1 : ∀ u ∈ news, u.oneCell' = true) (hb : x.n + 1 ≤ 1099511627776) :
    ∃ g' cap' w', (Builtin.append_ #[t2, t2] ty #[x.v, .slice (some ad) 1 c]).run P w = .ok (.slice (some ⟨g', 0, none⟩) (x.n + 1) cap') w' ∧ RX F w' ⟨some ⟨g', 0, none⟩, x.n + 1, cap'⟩ (xs ++ news) ∧ w.grownBy w' x.blk ∧ Hold w' x.ao xs ∧ (x.blk = some g' ∨ g' = w.heap.size) := by
  have hmx : x.n + 1 ≤ maxLen := by unfold maxLen; omega
  have hbb : (x.n + 1) * bytes ≤ 140737488355328 := Nat.le_trans (Nat.mul_le_mul hb hbz) (by decide)
  obtain ⟨g', cap', w', hr, ho, hg, hat, _⟩ := run_append_lies (P := P) w t2 ty 0 F.e i0 z F.sz bytes hu hi hi0 hi1 hi2 hz F.pos _ x.n xs hown ad 1 c news (by rw [Nat.one_mul]; exact hl) hnews h1 (by decide) hmx hbb (Nat.zero_le _) w.heap.size rfl
  rw [Sl.own] at hg hat
  refine ⟨g', cap', w', hr, ho, hg, ?_, hat⟩
  obtain ⟨ao, n, c0⟩ := x
  have hu0 := hown.hold
  obtain ⟨hlen, hn | ⟨g, cap, cur, hv, _, hh, hnc, hcm, hcs, htk⟩⟩ := id hown
  · intro j v hv
    have h0 : n = 0 := hn.2
    simp only at hlen
    rw [h0, Nat.zero_mul] at hlen
    rw [List.eq_nil_of_length_eq_zero hlen] at hv
    simp at hv
  · injection hv with e1 _ e3
    simp only at e1 e3 hlen
    subst e1 e3
    by_cases hroom : n + 1 ≤ c0
    · have hr2 := run_append_room (P := P) w t2 ty F.e i0 hu hi g n c0 cur hh ad 1 c news (by rw [hi1, Nat.one_mul]; exact hl) hnews h1 hroom (by
        rw [hi1, hl, hcs]
        have := Nat.mul_le_mul_right F.sz hroom
        rw [Nat.succ_mul] at this
        exact this)
      have hr3 : (Builtin.append_ #[t2, t2] ty #[Sl.v ⟨some ⟨g, 0, none⟩, n, c0⟩, .slice (some ad) 1 c]).run P w = _ := hr2
      rw [hr] at hr3
      injection hr3 with e _
      injection e with e _ _
      injection e with e
      injection e with e
      subst e
      exact (RX.hold (x := ⟨_, n + 1, cap'⟩) ho).left
    · have holds : ∀ j v, xs[j]? = some v → w.cell? ((⟨g, 0, none⟩ : Addr).add j) = some v := by
        intro j v hv
        obtain ⟨g2, e2, hc⟩ := hu0 j v hv
        cases e2
        rw [Addr.add_mid, Nat.zero_add]
        exact hc
      have hr2 := run_append_grow (P := P) w t2 ty F.e i0 z hu hi hi0 ⟨g, 0, none⟩ n c0 xs (by rw [hi1]; exact hlen) holds ad 1 c news (by rw [hi1, Nat.one_mul]; exact hl) hnews (by omega) (by simp only at hb; omega) (growslice_fits (by omega) (by rw [hi2]; exact hbb))
      have hr3 : (Builtin.append_ #[t2, t2] ty #[Sl.v ⟨some ⟨g, 0, none⟩, n, c0⟩, .slice (some ad) 1 c]).run P w = _ := hr2
      rw [hr] at hr3
      injection hr3 with _ e
      subst e
      have hlt : g < w.drew.heap.size := lt_of_heap hh
      intro j v hv
      obtain ⟨g2, e2, hc⟩ := hu0 j v hv
      cases e2
      exact ⟨g, rfl, (World.cell?_of_block (w := w) (heap_alloc_old w.drew _ _ hlt)).trans hc⟩
/-! ### Marks -/
def setsL : List Value → Nat → List Value → List Value
  | xs, _, [] => xs
  | xs, o, v :: vs => setsL (xs.set o v) (o + 1) vs
theorem setsL_take : ∀ (vs : List Value) (xs : List Value) (o : Nat), o + vs.length ≤ xs.length → (setsL xs o vs).take (o + vs.length) = xs.take o ++ vs
  | [], xs, o, _ => by simp [setsL]
  | v :: vs, xs, o, h => by
    rw [List.length_cons] at h
    have h1 := setsL_take vs (xs.set o v) (o + 1) (by rw [List.length_set]; omega)
    rw [setsL, List.length_cons, show o + (vs.length + 1) = o + 1 + vs.length from by omega, h1, List.take_succ_eq_append_getElem (by rw [List.length_set]; omega), List.take_set_of_le (Nat.le_refl _)]
    simp
theorem own_sets {B g cap n sz : Nat} {e : TypeId} : ∀ (vs : List Value) (o : Nat) (w : World) (xs : List Value), w.ownsRow B e sz (.slice (some ⟨g, 0, none⟩) n cap) n xs → (w.setCells g o vs).ownsRow B e sz (.slice (some ⟨g, 0, none⟩) n cap) n (setsL xs o vs)
  | [], _, _, _, h => h
  | v :: vs, o, w, _, h => own_sets vs (o + 1) (w.setCell ⟨g, o, none⟩ v) _ (own_setN h v)
theorem own_thereG {W : World} {B g n c k sz : Nat} {e : TypeId} {xs : List Value} (h : W.ownsRow B e sz (.slice (some ⟨g, 0, none⟩) n c) n xs) (hk : k < n) : W.there g (k * sz) sz := by
  intro j hj
  refine ⟨?_, own_frozenN h⟩
  obtain ⟨hl, hn | ⟨g2, c2, cur, hv, hb, hh, hnc, hcm, hcs, htk⟩⟩ := h
  · exact absurd hn.1 (by simp)
  · injection hv with e1 _ e3
    injection e1 with e1
    injection e1 with e1
    subst e1 e3
    have h3 : k + 1 ≤ c := by omega
    have h2 : (k + 1) * sz ≤ c * sz := Nat.mul_le_mul_right _ h3
    rw [Nat.succ_mul] at h2
    have h4 : k * sz + j < cur.size := by rw [hcs]; omega
    rw [cell_of_row _ _ _ _ _ _ hh, Array.getElem?_eq_getElem h4]
    rfl
theorem RX.there {g k : Nat} (h : RX F W x cs) (hao : x.ao = some ⟨g, 0, none⟩) (hk : k < x.n) : W.there g (k * F.sz) F.sz := by
  obtain ⟨ao, n, c⟩ := x
  simp only at hao hk
  subst hao
  exact own_thereG h hk
/-- While a row is marked: k elements are. -/
structure MkI (F : Fam) (w W : World) (x : Sl) (k a : Nat) : Prop where
  row : ∃ cs, RX F W x cs ∧ cs.take (k * F.sz) = rp F k a
  base : Fr (fun j => x.blk = some j) w W
theorem MkI.start (h : RX F w x cs) (a : Nat) : MkI F w w x 0 a := ⟨⟨cs, h, by rw [Nat.zero_mul]; rfl⟩, Fr.refl _ w⟩
theorem MkI.next {k a g : Nat} (h : MkI F w W x k a) (hao : x.ao = some ⟨g, 0, none⟩) (hk : k < x.n) : MkI F w (W.setCells g (k * F.sz) (F.mrk a)) x (k + 1) a := by
  obtain ⟨⟨cs, h1, h2⟩, h3⟩ := h
  have hb : x.blk = some g := by unfold Sl.blk; rw [hao]; rfl
  refine ⟨⟨setsL cs (k * F.sz) (F.mrk a), ?_, ?_⟩, Fr.trans h3 (Fr.setCells (S := fun j => x.blk = some j) (fun _ => hb) _ _ W (Fr.refl _ W)) (fun j _ e => e)⟩
  · obtain ⟨ao, n, c⟩ := x
    simp only at hao
    subst hao
    exact own_sets _ _ _ _ h1
  · have hl := h1.1
    have h4 : (k + 1) * F.sz ≤ x.n * F.sz := Nat.mul_le_mul_right _ hk
    rw [Nat.succ_mul] at h4
    have := setsL_take (F.mrk a) cs (k * F.sz) (by rw [F.len, hl]; exact h4)
    rw [F.len] at this
    rw [Nat.succ_mul, this, h2, rp_succ]
theorem MkI.done {a : Nat} (h : MkI F w W x x.n a) : RX F W x (rp F x.n a) := by
  obtain ⟨⟨cs, h1, h2⟩, _⟩ := h
  rw [← h1.1, List.take_length] at h2
  rw [← h2]
  exact h1
/-! ### Families in a list -/
structure OutAt (t : TypeId) (w : World) (la : Option Addr) (lb lo : Nat) (L : List Sl) : Prop where
  place : L ≠ [] → la = some ⟨lb, lo, none⟩ ∧ ∃ cs fr, w.heap[lb]? = some (.cells cs t fr)
  cells : ∀ (i : Nat) (x : Sl), L[i]? = some x → w.cell? ⟨lb, lo + i, none⟩ = some x.v
structure Apt (F : Fam) (w : World) (L : List Sl) : Prop where
  rows : ∀ (i : Nat) (x : Sl), L[i]? = some x → ∃ cs, RX F w x cs
  dis : ∀ (i j : Nat) (x y : Sl) (k : Nat), L[i]? = some x → L[j]? = some y → x.blk = some k → y.blk = some k → i = j
  len : ∀ x ∈ L, x.n ≤ 1099511627000
def inB (L : List Sl) (k : Nat) : Prop := ∃ (i : Nat) (x : Sl), L[i]? = some x ∧ x.blk = some k
theorem OutAt.fr {t : TypeId} {la : Option Addr} {lb lo : Nat} (h : OutAt t w la lb lo L) (f : Fr S w W) (hb : L ≠ [] → ¬ S lb) : OutAt t W la lb lo L :=
  ⟨fun e => by
    obtain ⟨h1, cs, fr, h2⟩ := h.place e
    exact ⟨h1, cs, fr, (f.block _ (lt_of_heap h2) (hb e)).trans h2⟩, fun i x hx => by
    have hne : L ≠ [] := by intro e; rw [e] at hx; simp at hx
    exact (f.cell (World.block_lt_of_cell? _ _ (h.cells i x hx)) (hb hne)).trans (h.cells i x hx)⟩
theorem Apt.type (h : Apt F w L) {k : Nat} (hk : inB L k) : k < w.heap.size ∧ ∃ A fr, w.heap[k]? = some (.cells A F.e fr) := by
  obtain ⟨i, x, hx, hk⟩ := hk
  obtain ⟨cs, hr⟩ := h.rows i x hx
  exact (hr.at_ hk).2
theorem Apt.out (h : Apt F w L) {k : Nat} {t : TypeId} {A : Array Value} {fr : Nat × Nat} (hc : w.heap[k]? = some (.cells A t fr)) (ht : F.e ≠ t) : ¬ inB L k := fun hk => by
  obtain ⟨_, A2, fr2, h2⟩ := h.type hk
  rw [hc] at h2
  injection h2 with h2
  injection h2 with _ h2 _
  exact ht h2.symm
theorem Apt.fr (h : Apt F w L) (f : Fr S w W) (hd : ∀ k, inB L k → ¬ S k) : Apt F W L :=
  ⟨fun i x hx => by
    obtain ⟨cs, hr⟩ := h.rows i x hx
    exact ⟨cs, hr.fr f (fun k hk => hd k ⟨i, x, hx, hk⟩)⟩, h.dis, h.len⟩
/-- Those ahead of I bear their marks. -/
structure Mrk (F : Fam) (W : World) (L : List Sl) (I a0 : Nat) : Prop where
  apt : Apt F W L
  marked : ∀ (i : Nat) (x : Sl), i < I → L[i]? = some x → RX F W x (rp F x.n (a0 + i))
theorem Mrk.start (h : Apt F W L) (a0 : Nat) : Mrk F W L 0 a0 := ⟨h, fun _ _ hi => absurd hi (Nat.not_lt_zero _)⟩
theorem Mrk.fr {I a0 : Nat} (h : Mrk F w L I a0) (f : Fr S w W) (hd : ∀ k, inB L k → ¬ S k) : Mrk F W L I a0 :=
  ⟨h.apt.fr f hd, fun i x hi hx => (h.marked i x hi hx).fr f (fun k hk => hd k ⟨i, x, hx, hk⟩)⟩
theorem Mrk.next {I a0 : Nat} (h : Mrk F w L I a0) (hx : L[I]? = some x) (f : Fr (fun j => x.blk = some j) w W) (hr : RX F W x (rp F x.n (a0 + I))) : Mrk F W L (I + 1) a0 := by
  have other : ∀ (j : Nat) (y : Sl), L[j]? = some y → j ≠ I → ∀ b, y.blk = some b → ¬ x.blk = some b := fun j y hy hne b hb e => hne (h.apt.dis j I y x b hy hx hb e)
  refine ⟨⟨fun j y hy => ?_, h.apt.dis, h.apt.len⟩, fun i y hi hy => ?_⟩
  · by_cases hj : j = I
    · subst hj
      obtain rfl : x = y := by rw [hx] at hy; exact Option.some.inj hy
      exact ⟨_, hr⟩
    · obtain ⟨ys, hys⟩ := h.apt.rows j y hy
      exact ⟨ys, hys.fr f (other j y hy hj)⟩
  · by_cases hi2 : i = I
    · subst hi2
      obtain rfl : x = y := by rw [hx] at hy; exact Option.some.inj hy
      exact hr
    · exact (h.marked i y (by omega) hy).fr f (other i y hy hi2)
/-! ### Growth -/
/-- One row under way: k marks more behind it. -/
structure Gr (F : Fam) (w W : World) (x : Sl) (a b k : Nat) (r : Sl) : Prop where
  n : r.n = x.n + k
  row : RX F W r (rp F x.n a ++ rp F k b)
  old : Hold W x.ao (rp F x.n a)
  lt : ∀ j, x.blk = some j → j < w.heap.size
  at_ : r.ao = x.ao ∨ ∃ g, r.ao = some ⟨g, 0, none⟩ ∧ w.heap.size ≤ g
  base : Fr (fun j => x.blk = some j) w W
theorem Gr.start {a : Nat} (h : RX F w x (rp F x.n a)) (b : Nat) : Gr F w w x a b 0 x :=
  ⟨rfl, by rw [rp_zero, List.append_nil]; exact h, h.hold, fun j hj => (h.at_ hj).2.1, Or.inl rfl, Fr.refl _ w⟩
theorem Gr.same {a b k : Nat} (h : Gr F w W x a b k r) (s : Same W W') : Gr F w W' x a b k r :=
  ⟨h.n, h.row.fr s (fun _ _ e => e), h.old.fr s (fun _ _ e => e), h.lt, h.at_, Fr.trans h.base s (fun _ _ e => e.elim)⟩
theorem Gr.step {a b k g' cap' : Nat} (h : Gr F w W x a b k r) (o2 : RX F W' ⟨some ⟨g', 0, none⟩, r.n + 1, cap'⟩ ((rp F x.n a ++ rp F k b) ++ F.mrk b)) (gr : W.grownBy W' r.blk) (kp : Hold W' r.ao (rp F x.n a ++ rp F k b)) (at2 : r.blk = some g' ∨ g' = W.heap.size) :
    Gr F w W' x a b (k + 1) ⟨some ⟨g', 0, none⟩, r.n + 1, cap'⟩ := by
  have f : Fr (fun j => r.blk = some j) W W' := Fr.grown (Fr.refl _ _) gr (fun j e _ => e)
  have hsz := h.base.size
  refine ⟨by show r.n + 1 = _; rw [h.n]; omega, by rw [rp_succ, ← List.append_assoc]; exact o2, ?_, h.lt, ?_, Fr.trans h.base f (fun j hj e => ?_)⟩
  · rcases h.at_ with e | ⟨g, e, hg⟩
    · rw [e] at kp; exact kp.left
    · refine h.old.fr f (fun j hj e2 => ?_)
      have h1 := h.lt j hj
      unfold Sl.blk at e2
      rw [e] at e2
      have : g = j := by simpa using e2
      omega
  · rcases at2 with e2 | e2
    · rcases h.at_ with e | ⟨g, e, hg⟩
      · left
        rw [← e, (h.row.at_ e2).1]
      · right
        unfold Sl.blk at e2
        rw [e] at e2
        have : g = g' := by simpa using e2
        exact ⟨g', rfl, by omega⟩
    · exact Or.inr ⟨g', rfl, by omega⟩
  · rcases h.at_ with e2 | ⟨g, e2, hg⟩
    · unfold Sl.blk at e ⊢
      rw [← e2]; exact e
    · unfold Sl.blk at e
      rw [e2] at e
      have : g = j := by simpa using e
      omega
/-- While rows are grown: those ahead of I are; more holds the grown ones. -/
structure Grw (F : Fam) (t : TypeId) (w W : World) (L : List Sl) (a0 b0 I : Nat) (ma : Option Addr) (mc : Nat) (M : List Sl) : Prop where
  lenM : M.length = I
  more : W.ownsRow w.heap.size t 1 (.slice ma I mc) I (M.map Sl.v)
  fin : ∀ (i : Nat) (x : Sl), i < I → L[i]? = some x → (∃ y, M[i]? = some y ∧ y.n = x.n + 70 ∧ RX F W y (rp F x.n (a0 + i) ++ rp F 70 (b0 + i)) ∧ (y.ao = x.ao ∨ ∃ g, y.ao = some ⟨g, 0, none⟩ ∧ w.heap.size ≤ g)) ∧ Hold W x.ao (rp F x.n (a0 + i))
  left : ∀ (i : Nat) (x : Sl), I ≤ i → L[i]? = some x → RX F W x (rp F x.n (a0 + i))
  base : Fr (inB L) w W
theorem Grw.start {t : TypeId} {a0 : Nat} (h : Mrk F w L L.length a0) (b0 : Nat) : Grw F t w w L a0 b0 0 none 0 [] :=
  ⟨rfl, own_nil, fun _ _ hi => absurd hi (Nat.not_lt_zero _), fun i x _ hx => h.marked i x (List.getElem?_eq_some_iff.1 hx).1 hx, Fr.refl _ w⟩
theorem Grw.next {t : TypeId} {W0 W4 : World} {a0 b0 I mc mc2 : Nat} {M : List Sl} {ma ma2 : Option Addr} (ht : F.e ≠ t) (ap : Apt F w L) (h : Grw F t w W0 L a0 b0 I ma mc M) (hx : L[I]? = some x) (hg : Gr F W0 W x (a0 + I) (b0 + I) 70 r)
    (f4 : Fr (fun k => ma.map (·.block) = some k) W W4) (o4 : W4.ownsRow w.heap.size t 1 (.slice ma2 (I + 1) mc2) (I + 1) ((M ++ [r]).map Sl.v)) : Grw F t w W4 L a0 b0 (I + 1) ma2 mc2 (M ++ [r]) := by
  have hwz : w.heap.size ≤ W0.heap.size := h.base.size
  have hmb : ∀ k, ma.map (·.block) = some k → w.heap.size ≤ k ∧ ∃ cs fr, W0.heap[k]? = some (.cells cs t fr) := fun k hk => by
    rcases h.more.2 with ⟨hv, _⟩ | ⟨g, c, cur, hv, hb, hh, _⟩
    · injection hv with e1 _ _
      rw [e1] at hk; cases hk
    · injection hv with e1 _ _
      rw [e1] at hk
      have : g = k := by simpa using hk
      subst this
      exact ⟨hb, cur, _, hh⟩
  have tyne : ∀ (y : Sl) (ys : List Value) (k : Nat), RX F W0 y ys → y.blk = some k → ma.map (·.block) ≠ some k := fun y ys k hy hk hm => by
    obtain ⟨_, cs, fr, hc⟩ := hmb k hm
    exact hy.ne hc ht hk
  have lt : ∀ (i : Nat) (x : Sl) (k : Nat), L[i]? = some x → x.blk = some k → k < w.heap.size := fun i x k hx hk => (ap.type ⟨i, x, hx, hk⟩).1
  have hxr := h.left I x (Nat.le_refl _) hx
  have S04 : Fr (fun k => x.blk = some k ∨ ma.map (·.block) = some k) W0 W4 := Fr.trans (Fr.mono hg.base (fun k _ e => Or.inl e)) f4 (fun k hk e => Or.inr e)
  have keepY : ∀ (j : Nat) (z y : Sl) (ys : List Value), L[j]? = some z → j ≠ I → (y.ao = z.ao ∨ ∃ g, y.ao = some ⟨g, 0, none⟩ ∧ w.heap.size ≤ g) → RX F W0 y ys → RX F W4 y ys := fun j z y ys hz hj hor hy => by
    refine hy.fr S04 (fun k hk e => ?_)
    rcases e with e | e
    · rcases hor with e2 | ⟨g, e2, hg2⟩
      · have hk2 : z.blk = some k := by unfold Sl.blk at hk ⊢; rw [← e2]; exact hk
        exact hj (ap.dis j I z x k hz hx hk2 e)
      · unfold Sl.blk at hk
        rw [e2] at hk
        have h1 : g = k := by simpa using hk
        have := lt I x k hx e
        omega
    · exact tyne y ys k hy hk e
  have keepN : ∀ (j : Nat) (z : Sl) (cs : List Value), L[j]? = some z → j ≠ I → Hold W0 z.ao cs → Hold W4 z.ao cs := fun j z cs hz hj hy => by
    refine hy.fr S04 (fun k hk e => ?_)
    have hk2 : z.blk = some k := hk
    rcases e with e | e
    · exact hj (ap.dis j I z x k hz hx hk2 e)
    · have := (hmb k e).1
      have := lt j z k hz hk2
      omega
  refine ⟨by rw [List.length_append, h.lenM]; rfl, o4, fun i z hi hz => ?_, fun i z hi hz => ?_, ?_⟩
  · by_cases hiI : i = I
    · subst hiI
      obtain rfl : x = z := by rw [hx] at hz; exact Option.some.inj hz
      refine ⟨⟨r, by rw [List.getElem?_append_right (by rw [h.lenM]; exact Nat.le_refl _), h.lenM, Nat.sub_self]; rfl, hg.n, hg.row.fr f4 (fun k hk e => ?_), ?_⟩, ?_⟩
      · obtain ⟨_, cs, fr, hc⟩ := hmb k e
        have hc2 := (hg.base.block k (lt_of_heap hc) (fun e2 => tyne x _ k hxr e2 e)).trans hc
        exact hg.row.ne hc2 ht hk
      · rcases hg.at_ with e | ⟨g, e, hg2⟩
        · exact Or.inl e
        · exact Or.inr ⟨g, e, by omega⟩
      · refine hg.old.fr f4 (fun k hk e => ?_)
        have := (hmb k e).1
        have := lt i x k hx hk
        omega
    · obtain ⟨⟨y, hy, h1, h2, h3⟩, h4⟩ := h.fin i z (by omega) hz
      exact ⟨⟨y, by rw [List.getElem?_append_left (List.getElem?_eq_some_iff.1 hy).1]; exact hy, h1, keepY i z y _ hz hiI h3 h2, h3⟩, keepN i z _ hz hiI h4⟩
  · exact keepY i z z _ hz (by omega) (Or.inl rfl) (h.left i z (by omega) hz)
  · refine Fr.trans h.base S04 (fun k hk e => ?_)
    rcases e with e | e
    · exact ⟨I, x, hx, e⟩
    · have := (hmb k e).1
      omega
/-- What is looked at: the list i, x, and the grown one, y. -/
structure Fnd (F : Fam) (W : World) (lb lo gm i : Nat) (x y : Sl) (a b : Nat) : Prop where
  yn : y.n = x.n + 70
  le : x.n ≤ 1099511627000
  c1 : W.cell? ⟨lb, lo + i, none⟩ = some x.v
  c2 : W.cell? ⟨gm, i, none⟩ = some y.v
  c3 : Hold W x.ao (rp F x.n a)
  c4 : Hold W y.ao (rp F x.n a ++ rp F 70 b)
theorem Hold.at_ {ao : Option Addr} {n a k i : Nat} {v : Value} {t : List Value} (h : Hold W ao (rp F n a ++ t)) (hk : k < n) (hv : (F.mrk a)[i]? = some v) : ∃ g, ao = some ⟨g, 0, none⟩ ∧ W.cell? ⟨g, k * F.sz + i, none⟩ = some v :=
  h.left _ _ (rp_at F hk hv)
theorem Hold.at2 {ao : Option Addr} {n m a b k i : Nat} {v : Value} (h : Hold W ao (rp F n a ++ rp F m b)) (hk : n ≤ k) (hk2 : k < n + m) (hv : (F.mrk b)[i]? = some v) : ∃ g, ao = some ⟨g, 0, none⟩ ∧ W.cell? ⟨g, k * F.sz + i, none⟩ = some v := by
  refine h _ _ ?_
  obtain ⟨d, rfl⟩ := Nat.exists_eq_add_of_le hk
  rw [Nat.add_mul, Nat.add_assoc, List.getElem?_append_right (by rw [rp_len]; omega), rp_len, Nat.add_sub_cancel_left]
  exact rp_at F (by omega) hv
end
end Go.Proofs.Ytajbifblbmlffaa
