/- DiskSafe: the eight lists of what was written, in memory. -/
import Derived.Test.YtjiaepeglghheaaPJ
namespace Go.Proofs.Ytjiaepeglghheaa
open Go.RowKit

/-- Eight lists of texts at the block bw, their rows in the land S. -/
structure WrAt (w : World) (bw : Nat) (T : Nat → List ByteArray) (S : Nat → Prop) : Prop where
  at_ : ∃ (ao : Nat → Option Addr) (c : Nat → Nat), w.heap[bw]? = some (.cells ((List.range 8).map (fun i => Value.slice (ao i) (T i).length (c i))).toArray 40 (0, 0)) ∧
    (∀ i, i < 8 → w.ownsRow 0 9 1 (.slice (ao i) (T i).length (c i)) (T i).length (scells (T i))) ∧
    (∀ i, i < 8 → ∀ k, (Value.slice (ao i) (T i).length (c i)).ownBlock = some k → S k) ∧
    (∀ i j, i < 8 → j < 8 → i ≠ j → ∀ k, (Value.slice (ao i) (T i).length (c i)).ownBlock = some k → (Value.slice (ao j) (T j).length (c j)).ownBlock = some k → False)
  mem : S bw
  lt : ∀ k, S k → k < w.heap.size
theorem WrAt.fr {w w' : World} {bw : Nat} {T : Nat → List ByteArray} {S X : Nat → Prop} (h : WrAt w bw T S) (f : Fr X w w') (hd : ∀ k, S k → ¬ X k) : WrAt w' bw T S := by
  obtain ⟨⟨ao, c, h1, h2, h3, h4⟩, hm, hl⟩ := h
  exact ⟨⟨ao, c, heap_fr h1 f (hd bw hm), fun i hi => own_frameB (h2 i hi) f (fun k hk => hd k (h3 i hi k hk)), h3, h4⟩, hm, fun k hk => Nat.lt_of_lt_of_le (hl k hk) f.size⟩
theorem WrAt.land {w : World} {bw : Nat} {T : Nat → List ByteArray} {S X : Nat → Prop} (h : WrAt w bw T S) (hs : ∀ k, S k → X k) (hx : ∀ k, X k → k < w.heap.size) : WrAt w bw T X := by
  obtain ⟨⟨ao, c, h1, h2, h3, h4⟩, hm, hl⟩ := h
  exact ⟨⟨ao, c, h1, h2, fun i hi k hk => hs k (h3 i hi k hk), h4⟩, hs bw hm, hx⟩
def wrZ : Obj := .cells (List.replicate 8 (Value.slice none 0 0)).toArray 40
theorem Try.infStrs : (Try.prog.info? 40).map (fun i => (i.zero, i.size, i.bytes)) = some (some (.slice none 0 0), 1, 24) := by kernel_rfl
theorem run_wrs (w : World) : (Instr.makeSlice 50 (.int .i64 8) (.int .i64 8)).run Try.prog w = .ok (.slice (some ⟨w.heap.size, 0, none⟩) 8 8) (w.alloc wrZ) := by
  obtain ⟨i0, hi, hz0, hz1, hz2⟩ := info_parts Try.infStrs
  have h := run_make (P := Try.prog) w 50 40 i0 (.slice none 0 0) Try.underlying50 hi hz0 .i64 .i64 8 8 (by omega) (Int.le_refl _) (by rw [hz2]; omega) (by omega)
  rw [h, hz1]
  show Result.ok _ (w.alloc (.cells (madeCells #[Value.slice none 0 0] 8) _)) = _
  rw [madeCells_one]
  rfl
theorem WrAt.new (w : World) : WrAt (w.alloc wrZ) w.heap.size (fun _ => []) (fun k => w.heap.size ≤ k ∧ k < (w.alloc wrZ).heap.size) where
  at_ := ⟨fun _ => none, fun _ => 0, heap_alloc_new w _, fun i _ => own_nil, fun i _ k hk => (by cases hk), fun i j _ _ _ k hk => (by cases hk)⟩
  mem := ⟨Nat.le_refl _, by simp⟩
  lt := fun k hk => hk.2
theorem WrAt.hdr {w : World} {bw i : Nat} {T : Nat → List ByteArray} {S : Nat → Prop} (h : WrAt w bw T S) (hi : i < 8) : ∃ ao c, w.cell? ⟨bw, i, none⟩ = some (.slice ao (T i).length c) ∧ w.ownsRow 0 9 1 (.slice ao (T i).length c) (T i).length (scells (T i)) ∧ (∀ k, (Value.slice ao (T i).length c).ownBlock = some k → S k ∧ k ≠ bw) := by
  obtain ⟨⟨ao, c, h1, h2, h3, h4⟩, hm, hl⟩ := h
  refine ⟨ao i, c i, (cell_of_row _ _ _ _ _ _ h1).trans ?_, h2 i hi, fun k hk => ⟨h3 i hi k hk, own_neT (h2 i hi) h1 (by decide) k hk⟩⟩
  rw [List.getElem?_toArray, List.getElem?_map, List.getElem?_range hi]; rfl
/-- A list grown, and laid back at its place. -/
theorem WrAt.put {w w1 : World} {bw i g n' c' : Nat} {ai : Option Addr} {ci : Nat} {T : Nat → List ByteArray} {S : Nat → Prop} {L : List ByteArray} (h : WrAt w bw T S) (hi : i < 8) (hc : w.cell? ⟨bw, i, none⟩ = some (.slice ai (T i).length ci)) (f : Fr (fun k => (Value.slice ai (T i).length ci).ownBlock = some k) w w1)
    (ho : w1.ownsRow 0 9 1 (.slice (some ⟨g, 0, none⟩) n' c') n' (scells L)) (hn : n' = L.length) (hl : (Value.slice ai (T i).length ci).ownBlock = some g ∨ w.heap.size ≤ g) :
    WrAt (w1.setCell ⟨bw, i, none⟩ (.slice (some ⟨g, 0, none⟩) n' c')) bw (fun j => if j = i then L else T j) (Land S w (w1.setCell ⟨bw, i, none⟩ (.slice (some ⟨g, 0, none⟩) n' c'))) ∧ Fr S w (w1.setCell ⟨bw, i, none⟩ (.slice (some ⟨g, 0, none⟩) n' c')) := by
  obtain ⟨⟨ao, c, h1, h2, h3, h4⟩, hm, hlt⟩ := h
  subst hn
  have e0 : (Value.slice (ao i) (T i).length (c i)) = .slice ai (T i).length ci := by
    have e := (cell_of_row _ _ _ _ _ _ h1).symm.trans hc
    rw [List.getElem?_toArray, List.getElem?_map, List.getElem?_range hi] at e
    exact Option.some.inj e
  rw [← e0] at f hl
  have nb : ∀ j, j < 8 → ¬ (Value.slice (ao j) (T j).length (c j)).ownBlock = some bw := fun j hj e => own_neT (h2 j hj) h1 (by decide) bw e rfl
  have r1 := heap_fr h1 f (nb i hi)
  have f2 : Fr (fun k => k = bw) w1 (w1.setCell ⟨bw, i, none⟩ (.slice (some ⟨g, 0, none⟩) L.length c')) := Fr.setCell (S := fun k => k = bw) (Fr.refl _ w1) (p := ⟨bw, i, none⟩) (fun _ => rfl) _
  have fw : Fr S w (w1.setCell ⟨bw, i, none⟩ (.slice (some ⟨g, 0, none⟩) L.length c')) := Fr.trans (f.mono (fun k _ e => h3 i hi k e)) f2 (fun k _ e => e ▸ hm)
  have hgl : g < w1.heap.size := by obtain ⟨_, hcc⟩ := own_cellsB ho rfl; exact lt_of_heap hcc
  have hgb : g ≠ bw := own_neT ho r1 (by decide) g rfl
  refine ⟨⟨⟨fun j => if j = i then some ⟨g, 0, none⟩ else ao j, fun j => if j = i then c' else c j, ?_, fun j hj => ?_, fun j hj k hk => ?_, fun j k hj hk hne m hm1 hm2 => ?_⟩, Or.inl hm, fun k hk => land_lt hlt fw.size hk⟩, fw⟩
  · rw [heap_setCell_same w1 bw i _ _ _ r1]
    congr 2
    apply Array.ext'
    apply List.ext_getElem?
    intro j
    rw [Array.toList_setIfInBounds, List.getElem?_set, List.getElem?_map, List.getElem?_map]
    by_cases hji : i = j
    · subst hji
      simp [hi]
    · rw [if_neg hji]
      by_cases hj : j < 8
      · rw [List.getElem?_range hj]
        simp [show ¬ j = i from fun e => hji e.symm]
      · rw [List.getElem?_eq_none (by simpa using hj)]; rfl
  · by_cases e : j = i
    · subst e
      simp only [if_true]
      exact own_frameB ho f2 (fun k hk e => by simp only [Value.ownBlock, Option.some.injEq] at hk; omega)
    · simp only [if_neg e]
      exact own_frameB (own_frameB (h2 j hj) f (fun k hk e2 => h4 j i hj hi e k hk e2)) f2 (fun k hk e2 => nb j hj (e2 ▸ hk))
  · by_cases e : j = i
    · subst e
      simp only [if_true, Value.ownBlock, Option.some.injEq] at hk
      subst hk
      rcases hl with hl | hl
      · exact Or.inl (h3 j hj _ hl)
      · exact Or.inr ⟨hl, Nat.lt_of_lt_of_le hgl f2.size⟩
    · simp only [if_neg e] at hk
      exact Or.inl (h3 j hj k hk)
  · have old : ∀ q, q < 8 → q ≠ i → ∀ m, (Value.slice (ao q) (T q).length (c q)).ownBlock = some m → ¬ g = m := fun q hq hqi m hqm e => by
      subst e
      rcases hl with hl | hl
      · exact h4 q i hq hi hqi _ hqm hl
      · have := hlt _ (h3 q hq _ hqm); omega
    by_cases e1 : j = i
    · subst e1
      have e2 : ¬ k = j := fun e => hne e.symm
      simp only [if_true, Value.ownBlock, Option.some.injEq] at hm1
      simp only [if_neg e2] at hm2
      exact old k hk e2 m hm2 hm1
    · simp only [if_neg e1] at hm1
      by_cases e2 : k = i
      · subst e2
        simp only [if_true, Value.ownBlock, Option.some.injEq] at hm2
        exact old j hj e1 m hm1 hm2
      · simp only [if_neg e2] at hm2
        exact h4 j k hj hk hne m hm1 hm2
end Go.Proofs.Ytjiaepeglghheaa
