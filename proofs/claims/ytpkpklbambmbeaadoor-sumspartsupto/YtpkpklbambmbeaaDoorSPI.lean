/-
  One text more, and the old row's cells are as they were; a text written into an owned row.
-/
import Derived.Test.YtpkpklbambmbeaaDoorSPH
import Derived.Deep.RegionHeld3
import Derived.Deep.RegionLaw
import Derived.Deep.DrawnRows
namespace Go.Proofs.YtpkpklbambmbeaaDoor
open Go.RowKit

/-- Texts in a row. -/
def SRow (w : World) (g o : Nat) (l : List ByteArray) : Prop := ∀ (j : Nat) (x : ByteArray), l[j]? = some x → w.cell? ⟨g, o + j, none⟩ = some (.string x)
theorem own_sat8 {w : World} {B g cap n : Nat} {l : List ByteArray} (h : w.ownsRow B 9 1 (.slice (some ⟨g, 0, none⟩) n cap) n (scells l)) : SRow w g 0 l := by
  intro j x hx
  have := h.cells (g := g) rfl j (.string x) (by simp only [scells, List.getElem?_map, hx]; rfl)
  rw [Addr.add_mid] at this
  exact this
theorem own_sat {w : World} {B cap : Nat} {pa : Option Addr} {l : List ByteArray} (h : w.ownsRow B 9 1 (.slice pa l.length cap) l.length (scells l)) : ∃ pb, SAt w pa pb 0 l ∧ (l ≠ [] → B ≤ pb ∧ pb < w.heap.size) := by
  by_cases h0 : l = []
  · subst h0
    exact ⟨0, ⟨fun e => absurd rfl e, fun j s hj => by simp at hj⟩, fun e => absurd rfl e⟩
  · rcases h.2 with ⟨hv, _⟩ | ⟨g, c, cur, hv, _⟩
    · injection hv with e1 e2 _
      exact absurd (List.eq_nil_of_length_eq_zero e2) h0
    · injection hv with e1 _ e3
      subst e1 e3
      exact ⟨g, ⟨fun _ => ⟨rfl, (h.lt g rfl).2⟩, own_sat8 h⟩, fun _ => ⟨(h.lt g rfl).1, (h.lt g rfl).2⟩⟩
theorem run_append_skept (w : World) (ty : TypeId) (B g n cap : Nat) (L : List ByteArray) (hown : w.ownsRow B 9 1 (.slice (some ⟨g, 0, none⟩) n cap) n (scells L)) (ad : Addr) (c : Nat) (x : ByteArray) (hx : w.cell? ad = some (.string x)) (hb : n + 1 ≤ 1099511627776) (hbase : B ≤ w.heap.size) :
    ∃ g' cap' w', (Builtin.append_ #[23, 23] ty #[.slice (some ⟨g, 0, none⟩) n cap, .slice (some ad) 1 c]).run Tryd.prog w = .ok (.slice (some ⟨g', 0, none⟩) (n + 1) cap') w' ∧ w'.ownsRow B 9 1 (.slice (some ⟨g', 0, none⟩) (n + 1) cap') (n + 1) (scells (L ++ [x])) ∧ w.grownBy w' (some g) ∧ SRow w' g 0 L := by
  obtain ⟨i0, hi, hi0, hi1, hi2⟩ := info_parts Tryd.infoStr
  have hnews : ∀ j u, [Value.string x][j]? = some u → w.cell? (ad.add j) = some u := by
    intro j u hu
    cases j with
    | zero => simp at hu; subst hu; have : ad.add 0 = ad := by unfold Addr.add; split <;> simp_all
              rw [this]; exact hx
    | succ j => simp at hu
  have h1 : ∀ u ∈ [Value.string x], u.oneCell' = true := by intro u hu; simp at hu; subst hu; rfl
  have hmx : n + 1 ≤ maxLen := by unfold maxLen; omega
  obtain ⟨g', cap', w', hr, ho, hg, _, _⟩ := run_append_lies (P := Tryd.prog) w 23 ty B 9 i0 (.string ⟨#[]⟩) 1 16 Tryd.underlying23 hi hi0 hi1 hi2 rfl (by decide) _ n (scells L) hown ad 1 c [.string x] rfl hnews h1 (by decide) hmx (by omega) hbase w.heap.size rfl
  refine ⟨g', cap', w', hr, by rw [scells_append]; exact ho, hg, ?_⟩
  have hu := own_sat8 hown
  obtain ⟨hlen, hn | ⟨g2, cap2, cur, hv, _, hh, hnc, hcm, hcs, htk⟩⟩ := hown
  · exact absurd hn.1 (by simp)
  · injection hv with e1 _ e3
    injection e1 with e1
    injection e1 with e1
    subst e1 e3
    by_cases hroom : n + 1 ≤ cap
    · have hr2 := run_append_room (P := Tryd.prog) w 23 ty 9 i0 Tryd.underlying23 hi g n cap cur hh ad 1 c [.string x] (by rw [hi1]; rfl) hnews h1 hroom (by rw [hi1]; simp; omega)
      rw [hr] at hr2
      injection hr2 with e _
      injection e with e _ _
      injection e with e
      injection e with e
      subst e
      have := own_sat8 (l := L ++ [x]) (by rw [scells_append]; exact ho)
      intro j y hy
      exact this j y (by rw [List.getElem?_append_left (List.getElem?_eq_some_iff.1 hy).1]; exact hy)
    · have holds : ∀ j v, (scells L)[j]? = some v → w.cell? ((⟨g, 0, none⟩ : Addr).add j) = some v := by
        intro j v hv
        rw [scells, List.getElem?_map, Option.map_eq_some_iff] at hv
        obtain ⟨y, hy, rfl⟩ := hv
        rw [Addr.add_mid]
        exact hu j y hy
      have hr2 := run_append_grow (P := Tryd.prog) w 23 ty 9 i0 (.string ⟨#[]⟩) Tryd.underlying23 hi hi0 ⟨g, 0, none⟩ n cap (scells L) (by rw [hi1]; exact hlen) holds ad 1 c [.string x] (by rw [hi1]; rfl) hnews (by omega) (by omega) (growslice_fits (by omega) (by rw [hi2]; omega))
      rw [hr] at hr2
      injection hr2 with _ e
      subst e
      have hlt : g < w.drew.heap.size := lt_of_heap hh
      intro j y hy
      rw [World.cell?_of_block (w := w) (heap_alloc_old w.drew _ hlt)]
      exact hu j y hy
theorem wp_append_skept (w : World) {o : Oper} {a : Act} {K : Act → World → Prop} {Q : Exit → Act → World → Prop} (sl y : Operand)
    (ho : o.op = .call { callee := .builtin .append, args := #[sl, y], argTypes := #[23, 23] }) (B g n cap : Nat) (L : List ByteArray) (hs : a.eval sl = .slice (some ⟨g, 0, none⟩) n cap) (hown : w.ownsRow B 9 1 (.slice (some ⟨g, 0, none⟩) n cap) n (scells L))
    (ad : Addr) (c : Nat) (x : ByteArray) (hy : a.eval y = .slice (some ad) 1 c) (hx : w.cell? ad = some (.string x)) (hb : n + 1 ≤ 1099511627776) (hbase : B ≤ w.heap.size)
    (hk : ∀ g' cap' w', w'.ownsRow B 9 1 (.slice (some ⟨g', 0, none⟩) (n + 1) cap') (n + 1) (scells (L ++ [x])) → w.grownBy w' (some g) → SRow w' g 0 L → K (a.put o.dst (.slice (some ⟨g', 0, none⟩) (n + 1) cap')) w') : o.wp Tryd.prog a w K Q := by
  obtain ⟨g', cap', w', hr, h2, h3, h4⟩ := run_append_skept w o.type B g n cap L hown ad c x hx hb hbase
  unfold Oper.wp execOp
  simp only [ho, resolve, invoke, builtin, Sem.run_bind, Sem.run_pure, Result.andThen_ok, List.map_toArray, List.map_cons, List.map_nil, hs, hy, hr]
  exact hk g' cap' w' h2 h3 h4
theorem step_append_skept (w : World) {ops : Array Oper} {o : Oper} {a : Act} {K : Act → World → Prop} {Q : Exit → Act → World → Prop} {E : Prop} (hgd : o.guard = none) (sl y : Operand)
    (ho : o.op = .call { callee := .builtin .append, args := #[sl, y], argTypes := #[23, 23] }) (B g n cap : Nat) (L : List ByteArray) (hs : a.eval sl = .slice (some ⟨g, 0, none⟩) n cap) (hown : w.ownsRow B 9 1 (.slice (some ⟨g, 0, none⟩) n cap) n (scells L))
    (ad : Addr) (c : Nat) (x : ByteArray) (hy : a.eval y = .slice (some ad) 1 c) (hx : w.cell? ad = some (.string x)) (hb : n + 1 ≤ 1099511627776) (hbase : B ≤ w.heap.size)
    (hk : ∀ g' cap' w', w'.ownsRow B 9 1 (.slice (some ⟨g', 0, none⟩) (n + 1) cap') (n + 1) (scells (L ++ [x])) → w.grownBy w' (some g) → SRow w' g 0 L → K (a.put o.dst (.slice (some ⟨g', 0, none⟩) (n + 1) cap')) w') :
    if Region.wanted o (yielded ops a.tmps) = true then Oper.wp Tryd.prog o a w K Q else E := by
  rw [if_pos (by simp [Region.wanted, hgd])]
  exact wp_append_skept w sl y ho B g n cap L hs hown ad c x hy hx hb hbase hk
theorem own_set {w : World} {B g cap n i : Nat} {e : TypeId} {xs : List Value} (h : w.ownsRow B e 1 (.slice (some ⟨g, 0, none⟩) n cap) n xs) (v : Value) :
    (w.setCell ⟨g, i, none⟩ v).ownsRow B e 1 (.slice (some ⟨g, 0, none⟩) n cap) n (xs.set i v) := by
  obtain ⟨hl, hn | ⟨g2, c2, cur, hv, hb, hh, hnc, hcm, hcs, htk⟩⟩ := h
  · exact absurd hn.1 (by simp)
  · injection hv with e1 _ e3
    injection e1 with e1
    injection e1 with e1
    subst e1 e3
    refine ⟨by rw [List.length_set]; exact hl, Or.inr ⟨g, cap, cur.setIfInBounds i v, rfl, hb, heap_setCell_same w g i cur e v hh, hnc, hcm, by rw [Array.size_setIfInBounds]; exact hcs, ?_⟩⟩
    rw [Array.toList_setIfInBounds, List.take_set, htk]
theorem own_frozen {w : World} {B g cap n i : Nat} {e : TypeId} {xs : List Value} (h : w.ownsRow B e 1 (.slice (some ⟨g, 0, none⟩) n cap) n xs) : w.frozen? ⟨g, i, none⟩ = false := by
  obtain ⟨hl, hn | ⟨g2, c2, cur, hv, hb, hh, hnc, hcm, hcs, htk⟩⟩ := h
  · exact absurd hn.1 (by simp)
  · injection hv with e1 _ e3
    injection e1 with e1
    injection e1 with e1
    subst e1 e3
    exact frozen_of_row w g i _ _ hh
theorem own_fr {w w' : World} {B n : Nat} {S : Nat → Prop} {e : TypeId} {v : Value} {xs : List Value} (h : w.ownsRow B e 1 v n xs) (s : Fr S w w') (hn : ∀ k, v.ownBlock = some k → ¬ S k) : w'.ownsRow B e 1 v n xs := by
  refine ⟨h.1, ?_⟩
  rcases h.2 with hh | ⟨a1, a2, a3, a4, a5, a6, a7⟩
  · exact Or.inl hh
  · exact Or.inr ⟨a1, a2, a3, a4, a5, by rw [s.block a1 (lt_of_heap a6) (hn a1 (by rw [a4]; rfl))]; exact a6, a7⟩
theorem SAt.fr {w w' : World} {S : Nat → Prop} {pa : Option Addr} {pb po : Nat} {ss : List ByteArray} (h : SAt w pa pb po ss) (s : Fr S w w') (hn : ss ≠ [] → ¬ S pb) : SAt w' pa pb po ss := by
  refine ⟨fun e => ⟨(h.place e).1, Nat.lt_of_lt_of_le (h.place e).2 s.size⟩, fun j x hx => ?_⟩
  have hne : ss ≠ [] := by intro e; rw [e] at hx; simp at hx
  exact (s.cell (h.place hne).2 (hn hne)).trans (h.cells j x hx)

/-- A text appended to an owned row: the row that was there holds what it held. -/
theorem run_append_both (w : World) (ty : TypeId) (B c0 : Nat) (pa : Option Addr) (L : List ByteArray) (hown : w.ownsRow B 9 1 (.slice pa L.length c0) L.length (scells L)) (ad : Addr) (c : Nat) (x : ByteArray) (hx : w.cell? ad = some (.string x)) (hb : L.length + 1 ≤ 1099511627776) (hbase : B ≤ w.heap.size) :
    ∃ g' cap' w', (Builtin.append_ #[23, 23] ty #[.slice pa L.length c0, .slice (some ad) 1 c]).run Tryd.prog w = .ok (.slice (some ⟨g', 0, none⟩) (L.length + 1) cap') w' ∧ w'.ownsRow B 9 1 (.slice (some ⟨g', 0, none⟩) (L.length + 1) cap') (L.length + 1) (scells (L ++ [x])) ∧ w.grownBy w' (pa.map (·.block)) ∧ ∃ pb, SAt w' pa pb 0 L := by
  by_cases h0 : L = []
  · subst h0
    obtain ⟨i0, hi, hi0, hi1, hi2⟩ := info_parts Tryd.infoStr
    have hnews : ∀ j u, [Value.string x][j]? = some u → w.cell? (ad.add j) = some u := by
      intro j u hu
      cases j with
      | zero => simp at hu; subst hu; have : ad.add 0 = ad := by unfold Addr.add; split <;> simp_all
                rw [this]; exact hx
      | succ j => simp at hu
    have h1 : ∀ u ∈ [Value.string x], u.oneCell' = true := by intro u hu; simp at hu; subst hu; rfl
    obtain ⟨g', cap', w', hr, ho, hg, _, _⟩ := run_append_lies (P := Tryd.prog) w 23 ty B 9 i0 (.string ⟨#[]⟩) 1 16 Tryd.underlying23 hi hi0 hi1 hi2 rfl (by decide) _ _ (scells []) hown ad 1 c [.string x] rfl hnews h1 (by decide) (by unfold maxLen; simp) (by simp) hbase w.heap.size rfl
    refine ⟨g', cap', w', hr, ho, ?_, 0, ⟨fun e => absurd rfl e, fun j s hj => by simp at hj⟩⟩
    have e : (Value.slice pa (List.length ([] : List ByteArray)) c0).ownBlock = pa.map (·.block) := by cases pa <;> rfl
    rw [← e]
    exact hg
  · rcases hown.2 with ⟨hv, _⟩ | ⟨g, c2, cur, hv, _⟩
    · injection hv with e1 e2 _
      exact absurd (List.eq_nil_of_length_eq_zero e2) h0
    · injection hv with e1 _ _
      subst e1
      obtain ⟨g', cap', w', hr, ho, hg, hk⟩ := run_append_skept w ty B g L.length c0 L hown ad c x hx hb hbase
      exact ⟨g', cap', w', hr, ho, hg, g, ⟨fun _ => ⟨rfl, Nat.lt_of_lt_of_le (hown.lt g rfl).2 hg.size⟩, hk⟩⟩
theorem wpList_append_both {ops : Array Oper} {rest : List Oper} (w : World) {o : Oper} {a : Act} {Q : Exit → Act → World → Prop} (hgd : o.guard = none) (sl y : Operand)
    (ho : o.op = .call { callee := .builtin .append, args := #[sl, y], argTypes := #[23, 23] }) (B n c0 : Nat) (pa : Option Addr) (L : List ByteArray) (hn : n = L.length) (hs : a.eval sl = .slice pa n c0) (hown : w.ownsRow B 9 1 (.slice pa n c0) n (scells L))
    (ad : Addr) (c : Nat) (x : ByteArray) (hy : a.eval y = .slice (some ad) 1 c) (hx : w.cell? ad = some (.string x)) (hb : n + 1 ≤ 1099511627776) (hbase : B ≤ w.heap.size)
    (hk : ∀ g' cap' w', w'.ownsRow B 9 1 (.slice (some ⟨g', 0, none⟩) (n + 1) cap') (n + 1) (scells (L ++ [x])) → w.grownBy w' (pa.map (·.block)) → (∃ pb, SAt w' pa pb 0 L) → wpList Tryd.prog ops Q rest (a.put o.dst (.slice (some ⟨g', 0, none⟩) (n + 1) cap')) w') : wpList Tryd.prog ops Q (o :: rest) a w := by
  subst hn
  obtain ⟨g', cap', w', hr, h2, h3, h4⟩ := run_append_both w o.type B c0 pa L hown ad c x hx hb hbase
  refine wpList_plain hgd fun _ hK => ?_
  unfold Oper.wp execOp
  simp only [ho, resolve, invoke, builtin, Sem.run_bind, Sem.run_pure, Result.andThen_ok, List.map_toArray, List.map_cons, List.map_nil, hs, hy, hr]
  exact hK _ _ (hk g' cap' w' h2 h3 h4)
end Go.Proofs.YtpkpklbambmbeaaDoor
