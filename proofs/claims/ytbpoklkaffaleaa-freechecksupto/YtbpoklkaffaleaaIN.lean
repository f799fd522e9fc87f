/- free: one number more, and the old row's cells are as they were; a number written into an owned row. -/
import Derived.Test.YtbpoklkaffaleaaIM
namespace Go.Proofs.Ytbpoklkaffaleaa
open Go.RowKit Go.Maps

/-- Numbers in a row. -/
def NuRow (w : World) (g o : Nat) (l : List Nat) : Prop := ∀ (j : Nat) (x : Nat), l[j]? = some x → w.cell? ⟨g, o + j, none⟩ = some (.int .u32 (x : Int))
theorem own_nuRow {w : World} {B g cap n : Nat} {l : List Nat} (h : w.ownsRow B 25 1 (.slice (some ⟨g, 0, none⟩) n cap) n (ncells l)) : NuRow w g 0 l := by
  intro j x hx
  have := h.cells (g := g) rfl j (.int .u32 (x : Int)) (by simp only [ncells, List.getElem?_map, hx]; rfl)
  rw [Addr.add_mid] at this
  exact this
theorem own_nrowB {w : World} {B cap : Nat} {pa : Option Addr} {l : List Nat} (h : w.ownsRow B 25 1 (.slice pa l.length cap) l.length (ncells l)) : ∃ pb, NRow w pa pb 0 l ∧ (l ≠ [] → B ≤ pb ∧ pb < w.heap.size) := by
  by_cases h0 : l = []
  · subst h0
    exact ⟨0, ⟨fun e => absurd rfl e, fun j s hj => by simp at hj⟩, fun e => absurd rfl e⟩
  · rcases h.2 with ⟨hv, _⟩ | ⟨g, c, cur, hv, _⟩
    · injection hv with e1 e2 _
      exact absurd (List.eq_nil_of_length_eq_zero e2) h0
    · injection hv with e1 _ e3
      subst e1 e3
      exact ⟨g, ⟨fun _ => ⟨rfl, (h.lt g rfl).2⟩, own_nuRow h⟩, fun _ => ⟨(h.lt g rfl).1, (h.lt g rfl).2⟩⟩
theorem run_append_nkept (w : World) (ty : TypeId) (B g n cap : Nat) (L : List Nat) (hown : w.ownsRow B 25 1 (.slice (some ⟨g, 0, none⟩) n cap) n (ncells L)) (ad : Addr) (c : Nat) (x : Nat) (hx : w.cell? ad = some (.int .u32 (x : Int))) (hb : n + 1 ≤ 1099511627776) (hbase : B ≤ w.heap.size) :
    ∃ g' cap' w', (Builtin.append_ #[33, 33] ty #[.slice (some ⟨g, 0, none⟩) n cap, .slice (some ad) 1 c]).run Try.prog w = .ok (.slice (some ⟨g', 0, none⟩) (n + 1) cap') w' ∧ w'.ownsRow B 25 1 (.slice (some ⟨g', 0, none⟩) (n + 1) cap') (n + 1) (ncells (L ++ [x])) ∧ w.grownBy w' (some g) ∧ NuRow w' g 0 L ∧ (some g = some g' ∨ g' = w.heap.size) := by
  obtain ⟨i0, hi, hi0, hi1, hi2⟩ := info_parts Try.infU32
  have hnews : ∀ j u, [Value.int .u32 (x : Int)][j]? = some u → w.cell? (ad.add j) = some u := by
    intro j u hu
    cases j with
    | zero => simp at hu; subst hu; have : ad.add 0 = ad := by unfold Addr.add; split <;> simp_all
              rw [this]; exact hx
    | succ j => simp at hu
  have h1 : ∀ u ∈ [Value.int .u32 (x : Int)], u.oneCell' = true := by intro u hu; simp at hu; subst hu; rfl
  have hmx : n + 1 ≤ maxLen := by unfold maxLen; omega
  obtain ⟨g', cap', w', hr, ho, hg, hat, _⟩ := run_append_lies (P := Try.prog) w 33 ty B 25 i0 (.int .u32 0) 1 4 Try.underlying33 hi hi0 hi1 hi2 rfl (by decide) _ n (ncells L) hown ad 1 c [.int .u32 (x : Int)] rfl hnews h1 (by decide) hmx (by omega) hbase w.heap.size rfl
  refine ⟨g', cap', w', hr, by rw [ncells_app]; exact ho, hg, ?_, hat⟩
  have hu := own_nuRow hown
  obtain ⟨hlen, hn | ⟨g2, cap2, cur, hv, _, hh, hnc, hcm, hcs, htk⟩⟩ := hown
  · exact absurd hn.1 (by simp)
  · injection hv with e1 _ e3
    injection e1 with e1
    injection e1 with e1
    subst e1 e3
    by_cases hroom : n + 1 ≤ cap
    · have hr2 := run_append_room (P := Try.prog) w 33 ty 25 i0 Try.underlying33 hi g n cap cur hh ad 1 c [.int .u32 (x : Int)] (by rw [hi1]; rfl) hnews h1 hroom (by rw [hi1]; simp; omega)
      rw [hr] at hr2
      injection hr2 with e _
      injection e with e _ _
      injection e with e
      injection e with e
      subst e
      have := own_nuRow (l := L ++ [x]) (by rw [ncells_app]; exact ho)
      intro j y hy
      exact this j y (by rw [List.getElem?_append_left (List.getElem?_eq_some_iff.1 hy).1]; exact hy)
    · have holds : ∀ j v, (ncells L)[j]? = some v → w.cell? ((⟨g, 0, none⟩ : Addr).add j) = some v := by
        intro j v hv
        rw [ncells, List.getElem?_map, Option.map_eq_some_iff] at hv
        obtain ⟨y, hy, rfl⟩ := hv
        rw [Addr.add_mid]
        exact hu j y hy
      have hr2 := run_append_grow (P := Try.prog) w 33 ty 25 i0 (.int .u32 0) Try.underlying33 hi hi0 ⟨g, 0, none⟩ n cap (ncells L) (by rw [hi1]; exact hlen) holds ad 1 c [.int .u32 (x : Int)] (by rw [hi1]; rfl) hnews (by omega) (by omega) (growslice_fits (by omega) (by rw [hi2]; omega))
      rw [hr] at hr2
      injection hr2 with _ e
      subst e
      have hlt : g < w.drew.heap.size := lt_of_heap hh
      intro j y hy
      rw [World.cell?_of_block (w := w) (heap_alloc_old w.drew _ hlt)]
      exact hu j y hy
theorem own_set {w : World} {B g cap n i : Nat} {e : TypeId} {xs : List Value} (h : w.ownsRow B e 1 (.slice (some ⟨g, 0, none⟩) n cap) n xs) (v : Value) :
    (w.setCell ⟨g, i, none⟩ v).ownsRow B e 1 (.slice (some ⟨g, 0, none⟩) n cap) n (xs.set i v) := by
  obtain ⟨hl, hn | ⟨g2, c2, cur, hv, hb, hh, hnc, hcm, hcs, htk⟩⟩ := h
  · exact absurd hn.1 (by simp)
  · injection hv with e1 _ e3
    injection e1 with e1
    injection e1 with e1
    subst e1 e3
    refine ⟨by rw [List.length_set]; exact hl, Or.inr ⟨g, cap, cur.setIfInBounds i v, rfl, hb, heap_setCell_same w g i cur e v hh, hnc, hcm, by rw [Array.size_setIfInBounds]; exact hcs, ?_⟩⟩
    rw [Array.toList_setIfInBounds, List.take_set, htk]
theorem own_frozen {w : World} {B g cap n i : Nat} {e : TypeId} {xs : List Value} (h : w.ownsRow B e 1 (.slice (some ⟨g, 0, none⟩) n cap) n xs) : w.frozen? ⟨g, i, none⟩ = false := by
  obtain ⟨hl, hn | ⟨g2, c2, cur, hv, hb, hh, hnc, hcm, hcs, htk⟩⟩ := h
  · exact absurd hn.1 (by simp)
  · injection hv with e1 _ e3
    injection e1 with e1
    injection e1 with e1
    subst e1 e3
    exact frozen_of_row w g i _ _ hh
/-- A number appended to an owned row: the row that was there holds what it held. -/
theorem run_append_nboth (w : World) (ty : TypeId) (B c0 : Nat) (pa : Option Addr) (L : List Nat) (hown : w.ownsRow B 25 1 (.slice pa L.length c0) L.length (ncells L)) (ad : Addr) (c : Nat) (x : Nat) (hx : w.cell? ad = some (.int .u32 (x : Int))) (hb : L.length + 1 ≤ 1099511627776) (hbase : B ≤ w.heap.size) :
    ∃ g' cap' w', (Builtin.append_ #[33, 33] ty #[.slice pa L.length c0, .slice (some ad) 1 c]).run Try.prog w = .ok (.slice (some ⟨g', 0, none⟩) (L.length + 1) cap') w' ∧ w'.ownsRow B 25 1 (.slice (some ⟨g', 0, none⟩) (L.length + 1) cap') (L.length + 1) (ncells (L ++ [x])) ∧ w.grownBy w' (pa.map (·.block)) ∧ (∃ pb, NRow w' pa pb 0 L) ∧ (pa.map (·.block) = some g' ∨ g' = w.heap.size) := by
  by_cases h0 : L = []
  · subst h0
    obtain ⟨i0, hi, hi0, hi1, hi2⟩ := info_parts Try.infU32
    have hnews : ∀ j u, [Value.int .u32 (x : Int)][j]? = some u → w.cell? (ad.add j) = some u := by
      intro j u hu
      cases j with
      | zero => simp at hu; subst hu; have : ad.add 0 = ad := by unfold Addr.add; split <;> simp_all
                rw [this]; exact hx
      | succ j => simp at hu
    have h1 : ∀ u ∈ [Value.int .u32 (x : Int)], u.oneCell' = true := by intro u hu; simp at hu; subst hu; rfl
    obtain ⟨g', cap', w', hr, ho, hg, hat, _⟩ := run_append_lies (P := Try.prog) w 33 ty B 25 i0 (.int .u32 0) 1 4 Try.underlying33 hi hi0 hi1 hi2 rfl (by decide) _ _ (ncells []) hown ad 1 c [.int .u32 (x : Int)] rfl hnews h1 (by decide) (by unfold maxLen; simp) (by simp) hbase w.heap.size rfl
    refine ⟨g', cap', w', hr, ho, ?_, ⟨0, ⟨fun e => absurd rfl e, fun j s hj => by simp at hj⟩⟩, ?_⟩
    · have e : (Value.slice pa (List.length ([] : List Nat)) c0).ownBlock = pa.map (·.block) := by cases pa <;> rfl
      rw [← e]
      exact hg
    · have e : (Value.slice pa (List.length ([] : List Nat)) c0).ownBlock = pa.map (·.block) := by cases pa <;> rfl
      rw [← e]
      exact hat
  · rcases hown.2 with ⟨hv, _⟩ | ⟨g, c2, cur, hv, _⟩
    · injection hv with e1 e2 _
      exact absurd (List.eq_nil_of_length_eq_zero e2) h0
    · injection hv with e1 _ _
      subst e1
      obtain ⟨g', cap', w', hr, ho, hg, hk, hat⟩ := run_append_nkept w ty B g L.length c0 L hown ad c x hx hb hbase
      exact ⟨g', cap', w', hr, ho, hg, ⟨g, ⟨fun _ => ⟨rfl, Nat.lt_of_lt_of_le (hown.lt g rfl).2 hg.size⟩, hk⟩⟩, hat⟩
theorem wpList_append_nboth {ops : Array Oper} {rest : List Oper} (w : World) {o : Oper} {a : Act} {Q : Exit → Act → World → Prop} (hgd : o.guard = none) (sl y : Operand)
    (ho : o.op = .call { callee := .builtin .append, args := #[sl, y], argTypes := #[33, 33] }) (B n c0 : Nat) (pa : Option Addr) (L : List Nat) (hn : n = L.length) (hs : a.eval sl = .slice pa n c0) (hown : w.ownsRow B 25 1 (.slice pa n c0) n (ncells L))
    (ad : Addr) (c : Nat) (x : Nat) (hy : a.eval y = .slice (some ad) 1 c) (hx : w.cell? ad = some (.int .u32 (x : Int))) (hb : n + 1 ≤ 1099511627776) (hbase : B ≤ w.heap.size)
    (hk : ∀ g' cap' w', w'.ownsRow B 25 1 (.slice (some ⟨g', 0, none⟩) (n + 1) cap') (n + 1) (ncells (L ++ [x])) → w.grownBy w' (pa.map (·.block)) → (∃ pb, NRow w' pa pb 0 L) → (pa.map (·.block) = some g' ∨ g' = w.heap.size) → wpList Try.prog ops Q rest (a.put o.dst (.slice (some ⟨g', 0, none⟩) (n + 1) cap')) w') : wpList Try.prog ops Q (o :: rest) a w := by
  subst hn
  obtain ⟨g', cap', w', hr, h2, h3, h4, h5⟩ := run_append_nboth w o.type B c0 pa L hown ad c x hx hb hbase
  refine wpList_plain hgd fun _ hK => ?_
  unfold Oper.wp execOp
  simp only [ho, resolve, invoke, builtin, Sem.run_bind, Sem.run_pure, Result.andThen_ok, List.map_toArray, List.map_cons, List.map_nil, hs, hy, hr]
  exact hK _ _ (hk g' cap' w' h2 h3 h4 h5)
end Go.Proofs.Ytbpoklkaffaleaa
