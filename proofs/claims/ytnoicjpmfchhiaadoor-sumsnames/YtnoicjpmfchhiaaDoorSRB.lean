/-
  Rows of bytes that were made of a text, or grown since: one byte more. Walks: padded.
-/
import Derived.Test.YtnoicjpmfchhiaaDoorSRA
import Derived.Test.YtnoicjpmfchhiaaDoorSO
namespace Go.Proofs.YtnoicjpmfchhiaaDoor
open Go.RowKit

/-- A row of bytes in a block of its own, of which no cell is frozen. -/
def BRow (w : World) (base g n cap : Nat) (xs : List UInt8) : Prop :=
  base ≤ g ∧ n = xs.length ∧ ∃ cur fz, w.heap[g]? = some (.cells cur 5 fz) ∧ (fz.2 = 0 ∨ cur.size ≤ fz.1) ∧ n ≤ cap ∧ cap ≤ maxLen ∧ cur.size = cap ∧ cur.toList.take n = bcells xs
theorem BRow.cell {w : World} {base g n cap : Nat} {xs : List UInt8} (h : BRow w base g n cap xs) (j : Nat) (x : UInt8) (hx : xs[j]? = some x) : w.cell? ⟨g, j, none⟩ = some (.int .u8 x.toNat) := by
  obtain ⟨_, hn, cur, fz, hh, _, _, _, _, ht⟩ := h
  rw [cell_of_row _ _ _ _ _ _ hh]
  have hj : j < n := by rw [hn]; exact (List.getElem?_eq_some_iff.1 hx).1
  have h1 : (cur.toList.take n)[j]? = some (.int .u8 x.toNat) := by rw [ht, bcells, List.getElem?_map, hx]; rfl
  rw [List.getElem?_take, if_pos hj] at h1
  rw [← Array.getElem?_toList]; exact h1
theorem BRow.lt {w : World} {base g n cap : Nat} {xs : List UInt8} (h : BRow w base g n cap xs) : g < w.heap.size := by
  obtain ⟨_, _, cur, fz, hh, _⟩ := h
  exact lt_of_heap hh
theorem BRow.alloc {w : World} {base g n cap : Nat} {xs : List UInt8} (h : BRow w base g n cap xs) (o : Obj) : BRow (w.alloc o) base g n cap xs := by
  have hl := h.lt
  obtain ⟨h1, h2, cur, fz, hh, r⟩ := h
  exact ⟨h1, h2, cur, fz, by rw [heap_alloc_old w o hl]; exact hh, r⟩

theorem run_store_one {P : Program} (w : World) (g n : Nat) (cur : Array Value) (t : TypeId) (fz : Nat × Nat) (hh : w.heap[g]? = some (.cells cur t fz)) (hz : fz.2 = 0 ∨ cur.size ≤ fz.1) (hn : n < cur.size) (v : Value) (h1 : v.oneCell' = true) :
    (storeCells ⟨g, n, none⟩ [v] 0).run P w = .ok () (w.setCell ⟨g, n, none⟩ v) := by
  have hc : w.cell? ⟨g, n, none⟩ = some cur[n] := by simp [World.cell?, hh, hn]
  have hf : w.frozen? ⟨g, n, none⟩ = false := by
    obtain ⟨lo, hi⟩ := fz
    simp only [World.frozen?, hh, Bool.and_eq_false_iff, decide_eq_false_iff_not]
    simp only at hz
    omega
  have ha : (⟨g, n, none⟩ : Addr).add 0 = ⟨g, n, none⟩ := by rw [Addr.add_mid, Nat.add_zero]
  have hst : (store ((⟨g, n, none⟩ : Addr).add 0) v).run P w = .ok () (w.setCell ⟨g, n, none⟩ v) := by
    rw [ha, run_store P w _ v _ h1, hc]
    simp [hf]
  simp only [storeCells, Sem.run_bind, hst, Result.andThen_ok]
  rfl

theorem run_append_one (w : World) (ty : TypeId) (base g n cap : Nat) (xs : List UInt8) (h : BRow w base g n cap xs) (ad : Addr) (c : Nat) (x : UInt8) (hx : w.cell? ad = some (.int .u8 x.toNat)) (hb : n + 1 ≤ 140737488355328) (hbase : base ≤ w.heap.size) :
    ∃ g' cap' w', (Builtin.append_ #[52, 52] ty #[.slice (some ⟨g, 0, none⟩) n cap, .slice (some ad) 1 c]).run Tryd.prog w = .ok (.slice (some ⟨g', 0, none⟩) (n + 1) cap') w' ∧ BRow w' base g' (n + 1) cap' (xs ++ [x]) ∧ w.grownBy w' (some g) := by
  obtain ⟨i0, hi, hi0, hi1, hi2⟩ := info_parts Tryd.info5
  have hcell := h.cell
  obtain ⟨hbg, hn, cur, fz, hh, hz, hnc, hcm, hcs, ht⟩ := h
  have hnews : ∀ j u, [Value.int .u8 x.toNat][j]? = some u → w.cell? (ad.add j) = some u := by
    intro j u hu
    cases j with
    | zero => simp at hu; subst hu; have : ad.add 0 = ad := by unfold Addr.add; split <;> simp_all
              rw [this]; exact hx
    | succ j => simp at hu
  have h1 : (Value.int .u8 x.toNat).oneCell' = true := rfl
  by_cases hroom : n + 1 ≤ cap
  · have hf := run_firstCells_some (P := Tryd.prog) w i0.size 1 ad 1 c [.int .u8 x.toNat] (by rw [hi1]; rfl) hnews
    have hst := run_store_one (P := Tryd.prog) w g n cur 5 fz hh hz (by omega) (.int .u8 x.toNat) h1
    refine ⟨g, cap, w.setCell ⟨g, n, none⟩ (.int .u8 x.toNat), ?_, ⟨hbg, by simp; omega, cur.setIfInBounds n (.int .u8 x.toNat), fz, ?_, ?_, hroom, hcm, by simpa using hcs, ?_⟩, ⟨rfl, rfl, rfl, by simp [World.setCell], fun k _ hk => Below.heap_setCell _ _ _ _ (by intro e; exact hk (by rw [e]))⟩⟩
    · rw [hi1] at hf
      simp [Builtin.append_, run_underlying Tryd.underlying52, sizeOf, typeInfo, hi, hi1, Builtin.lenOf, hroom, hf, Addr.add_lit, hst]
    · simp [World.setCell, Array.getElem?_modify, hh]
    · simpa using hz
    · rw [Array.toList_setIfInBounds, bcells_append, ← ht]
      apply List.ext_getElem?
      intro j
      have hl : (cur.toList.take n).length = n := by rw [List.length_take, Array.length_toList]; omega
      by_cases hj : j < n
      · rw [List.getElem?_take, if_pos (by omega), List.getElem?_set_ne (by omega), List.getElem?_append_left (by omega), List.getElem?_take, if_pos hj]
      · by_cases hje : j = n
        · subst hje
          rw [List.getElem?_take, if_pos (by omega), List.getElem?_set_self (by rw [Array.length_toList]; omega), List.getElem?_append_right (by omega), hl]
          simp [bcells]
        · rw [List.getElem?_take, if_neg (by omega), List.getElem?_append_right (by omega), hl]
          rw [List.getElem?_eq_none]
          simp [bcells]; omega
  · have holds : ∀ j v, (bcells xs)[j]? = some v → w.cell? ((⟨g, 0, none⟩ : Addr).add j) = some v := by
      intro j v hv
      rw [bcells, List.getElem?_map, Option.map_eq_some_iff] at hv
      obtain ⟨y, hy, rfl⟩ := hv
      rw [Addr.add_mid, Nat.zero_add]
      exact hcell j y hy
    have h63 : n + 1 ≤ maxLen := by unfold maxLen; omega
    have hr := run_append_grow (P := Tryd.prog) w 52 ty 5 i0 (.int .u8 0) Tryd.underlying52 hi hi0 ⟨g, 0, none⟩ n cap (bcells xs) (by rw [hi1, bcells_length]; omega) holds ad 1 c [.int .u8 x.toNat] (by rw [hi1]; rfl) hnews (by omega) (by omega) (growslice_fits (by omega) (by rw [hi2]; omega))
    have hge := grownCap_ge w (n + 1) cap 5
    have hle := grownCap_le_maxLen w (n + 1) cap 5 h63
    have hzc := size_zeroCells (Value.int .u8 0).cells (grownCap w (n + 1) cap 5 - (n + 1))
    have hz1 : (Value.int .u8 0).cells.size = 1 := rfl
    refine ⟨_, _, _, hr, ⟨hbase, by simp; omega, _, (0, 0), heap_alloc_new w.drew _, Or.inl rfl, hge, hle, ?_, ?_⟩, ⟨rfl, rfl, rfl, by simp, fun k hk _ => heap_alloc_old w.drew _ hk⟩⟩
    · rw [Array.size_append, Array.size_append, hzc, hz1]
      simp only [List.size_toArray, bcells_length, List.length_singleton]
      omega
    · simp only [Array.toList_append, bcells_append]
      rw [List.take_left' (by simp [bcells_length]; omega)]
      simp [bcells]
theorem wpList_append_one (w : World) {ops : Array Oper} {rest : List Oper} {o : Oper} {a : Act} {Q : Exit → Act → World → Prop} (hgd : o.guard = none) (sl y : Operand)
    (ho : o.op = .call { callee := .builtin .append, args := #[sl, y], argTypes := #[52, 52] }) (base g n cap : Nat) (xs : List UInt8) (hs : a.eval sl = .slice (some ⟨g, 0, none⟩) n cap) (h : BRow w base g n cap xs)
    (ad : Addr) (c : Nat) (x : UInt8) (hy : a.eval y = .slice (some ad) 1 c) (hx : w.cell? ad = some (.int .u8 x.toNat)) (hb : n + 1 ≤ 140737488355328) (hbase : base ≤ w.heap.size)
    (hk : ∀ g' cap' w', BRow w' base g' (n + 1) cap' (xs ++ [x]) → w.grownBy w' (some g) → wpList Tryd.prog ops Q rest (a.put o.dst (.slice (some ⟨g', 0, none⟩) (n + 1) cap')) w') : wpList Tryd.prog ops Q (o :: rest) a w := by
  refine wpList_plain hgd fun K hK => ?_
  obtain ⟨g', cap', w', hr, h2, h3⟩ := run_append_one w o.type base g n cap xs h ad c x hx hb hbase
  unfold Oper.wp execOp
  simp only [ho, resolve, invoke, builtin, Sem.run_bind, Sem.run_pure, Result.andThen_ok, List.map_toArray, List.map_cons, List.map_nil, hs, hy, hr]
  exact hK _ _ (hk g' cap' w' h2 h3)
end Go.Proofs.YtnoicjpmfchhiaaDoor
