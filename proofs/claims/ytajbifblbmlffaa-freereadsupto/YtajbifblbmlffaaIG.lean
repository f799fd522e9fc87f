/- free: bytes made of a text, grown by texts. -/
import Derived.Lib.FrozenHead
import Derived.Test.YtajbifblbmlffaaIEJ
namespace Go.Proofs.Ytajbifblbmlffaa
open Go.RowKit Go.Maps Go.Lib

/-- Bytes of one's own, whatever lies behind them. -/
def BRow (w : World) (base g n cap : Nat) (xs : List UInt8) : Prop :=
  base ≤ g ∧ n = xs.length ∧ ∃ cur fz, w.heap[g]? = some (.cells cur 5 fz) ∧ (fz.2 = 0 ∨ cur.size ≤ fz.1) ∧ n ≤ cap ∧ cap ≤ maxLen ∧ cur.size = cap ∧ cur.toList.take n = bcells xs
theorem BRow.cell {w : World} {base g n cap : Nat} {xs : List UInt8} (h : BRow w base g n cap xs) (j : Nat) (x : UInt8) (hx : xs[j]? = some x) : w.cell? ⟨g, j, none⟩ = some (.int .u8 x.toNat) := by
  obtain ⟨_, hn, cur, fz, hh, _, _, _, _, ht⟩ := h
  rw [cell_of_row _ _ _ _ _ _ hh]
  have hj : j < n := by rw [hn]; exact (List.getElem?_eq_some_iff.1 hx).1
  have h1 : (cur.toList.take n)[j]? = some (.int .u8 x.toNat) := by rw [ht, bcells, List.getElem?_map, hx]; rfl
  rw [List.getElem?_take, if_pos hj] at h1
  rw [← Array.getElem?_toList]; exact h1
theorem BRow.lt {w : World} {base g n cap : Nat} {xs : List UInt8} (h : BRow w base g n cap xs) : g < w.heap.size := by
  obtain ⟨_, _, cur, fz, hh, _⟩ := h
  exact lt_of_heap hh
theorem BRow.fr {w w' : World} {S : Nat → Prop} {base g n cap : Nat} {xs : List UInt8} (h : BRow w base g n cap xs) (f : Fr S w w') (hb : ¬ S g) : BRow w' base g n cap xs := by
  obtain ⟨h1, h2, cur, fz, hh, r⟩ := h
  exact ⟨h1, h2, cur, fz, (f.block _ (lt_of_heap hh) hb).trans hh, r⟩
theorem run_storeCells_atZ (P : Program) (g o : Nat) (t : TypeId) (fz : Nat × Nat) : ∀ (vs : List Value) (i : Nat) (cur : Array Value) (w : World), w.heap[g]? = some (.cells cur t fz) → (fz.2 = 0 ∨ cur.size ≤ fz.1) → o + i + vs.length ≤ cur.size → (∀ v ∈ vs, v.oneCell' = true) →
    (storeCells ⟨g, o, none⟩ vs i).run P w = .ok () (w.setRow g (cur.toList.take (o + i) ++ vs ++ cur.toList.drop (o + i + vs.length)).toArray)
  | [], i, cur, w, hg, _, _, _ => by
    simp only [storeCells, List.append_nil, List.length_nil, Nat.add_zero, List.take_append_drop, Array.toArray_toList]
    rw [setRow_self w g cur t fz hg]
    rfl
  | v :: rest, i, cur, w, hg, hfz, hl, h1 => by
    have hi : o + i < cur.size := by simp at hl; omega
    have hadd : (⟨g, o, none⟩ : Addr).add i = ⟨g, o + i, none⟩ := by unfold Addr.add; split <;> simp_all
    have hcell : w.cell? ⟨g, o + i, none⟩ = some cur[o + i] := by simp [World.cell?, hg, hi]
    have hfro : w.frozen? ⟨g, o + i, none⟩ = false := by
      obtain ⟨lo, hi'⟩ := fz
      simp only [World.frozen?, hg, Bool.and_eq_false_iff, decide_eq_false_iff_not]
      simp only at hfz
      omega
    have hst : (store ((⟨g, o, none⟩ : Addr).add i) v).run P w = .ok () (w.setRow g (cur.setIfInBounds (o + i) v)) := by
      rw [hadd, run_store P w _ v _ (h1 v (by simp)), hcell]
      simp [hfro, setCell_eq_setRow w g (o + i) cur t fz v hg]
    have ih := run_storeCells_atZ P g o t fz rest (i + 1) (cur.setIfInBounds (o + i) v) (w.setRow g (cur.setIfInBounds (o + i) v)) (setRow_heap w g cur _ t _ hg) (by simpa using hfz) (by simp at hl ⊢; omega) (fun x hx => h1 x (by simp [hx]))
    simp only [storeCells, Sem.run_bind, hst, Result.andThen_ok, ih, setRow_setRow]
    congr 3
    have e := list_seg_step cur.toList (o + i) v rest (by simp at hl ⊢; omega)
    simpa [Array.toList_setIfInBounds, Nat.add_assoc] using e
theorem run_append_strB (w : World) (ty : TypeId) (base g n cap : Nat) (xs : List UInt8) (h : BRow w base g n cap xs) (s : ByteArray) (hb : n + s.size ≤ 140737488355328) (hbase : base ≤ w.heap.size) :
    ∃ g' cap' w', (Builtin.append_ #[110, 9] ty #[.slice (some ⟨g, 0, none⟩) n cap, .string s]).run Try.prog w = .ok (.slice (some ⟨g', 0, none⟩) (n + s.size) cap') w' ∧ BRow w' base g' (n + s.size) cap' (xs ++ s.data.toList) ∧ w.grownBy w' (some g) := by
  obtain ⟨i0, hi, hi0, hi1, hi2⟩ := info_parts Try.info5
  have hcell := h.cell
  obtain ⟨hbg, hn, cur, fz, hh, hz, hnc, hcm, hcs, ht⟩ := h
  by_cases hroom : n + s.size ≤ cap
  · have hf := run_firstCells_string (P := Try.prog) w 1 s
    have hst := run_storeCells_atZ Try.prog g n 5 fz (strCells s) 0 cur w hh hz (by simp only [Nat.add_zero, strCells_length]; omega) (strCells_oneCell s)
    simp only [Nat.add_zero, strCells_length] at hst
    have hr : (Builtin.append_ #[110, 9] ty #[.slice (some ⟨g, 0, none⟩) n cap, .string s]).run Try.prog w = .ok (.slice (some ⟨g, 0, none⟩) (n + s.size) cap) (w.setRow g (cur.toList.take n ++ strCells s ++ cur.toList.drop (n + s.size)).toArray) := by
      simp [Builtin.append_, run_underlying Try.underlying110, run_underlying Try.underlying9, sizeOf, typeInfo, hi, hi1, Builtin.lenOf, hroom, hf, Addr.add_lit, hst]
    refine ⟨g, cap, _, hr, ⟨hbg, by simp [hn], _, fz, setRow_heap w g cur _ 5 _ hh, ?_, hroom, hcm, ?_, ?_⟩, ⟨rfl, rfl, rfl, by simp, fun k _ hk => setRow_other w g k _ (fun e => hk (by simp [e]))⟩⟩
    · have : (cur.toList.take n ++ strCells s ++ cur.toList.drop (n + s.size)).toArray.size = cur.size := by
        simp only [List.size_toArray, List.length_append, List.length_take, List.length_drop, Array.length_toList, strCells_length]
        omega
      rw [this]; exact hz
    · simp only [List.size_toArray, List.length_append, List.length_take, List.length_drop, Array.length_toList, strCells_length]
      omega
    · rw [ht, bcells_append]
      show ((bcells xs ++ bcells s.data.toList) ++ _).take _ = _
      rw [List.take_left' (by rw [List.length_append]; simp [bcells, hn])]
  · have holds : ∀ j v, (bcells xs)[j]? = some v → w.cell? ((⟨g, 0, none⟩ : Addr).add j) = some v := by
      intro j v hv
      rw [bcells, List.getElem?_map, Option.map_eq_some_iff] at hv
      obtain ⟨y, hy, rfl⟩ := hv
      rw [Addr.add_mid, Nat.zero_add]
      exact hcell j y hy
    have h63 : n + s.size ≤ maxLen := by unfold maxLen; omega
    have hr := run_append_grow_string (P := Try.prog) w 110 9 ty 5 i0 (.int .u8 0) Try.underlying110 Try.underlying9 hi hi0 ⟨g, 0, none⟩ n cap (bcells xs) (by rw [hi1]; simp [bcells, hn]) holds s (by omega) (by omega) (by rw [hi2]; exact growslice_fits (by omega) (by omega))
    have hge := grownCap_ge w (n + s.size) cap 5
    have hle := grownCap_le_maxLen w (n + s.size) cap 5 h63
    have hzc := size_zeroCells (Value.int .u8 0).cells (grownCap w (n + s.size) cap 5 - (n + s.size))
    have hz1 : (Value.int .u8 0).cells.size = 1 := rfl
    refine ⟨_, _, _, hr, ⟨hbase, by simp [hn], _, (0, 0), heap_alloc_new w.drew _, Or.inl rfl, hge, hle, ?_, ?_⟩, ⟨rfl, rfl, rfl, by simp, fun k hk _ => heap_alloc_old w.drew _ hk⟩⟩
    · rw [Array.size_append, Array.size_append, hzc, hz1]
      simp only [List.size_toArray, strCells_length, bcells, List.length_map]
      omega
    · simp only [Array.toList_append, bcells_append]
      rw [List.take_left' (by simp [bcells, hn, strCells_length])]
      rfl
theorem wpList_append_strB (w : World) {ops : Array Oper} {rest : List Oper} {o : Oper} {a : Act} {Q : Exit → Act → World → Prop} (hgd : o.guard = none) (sl y : Operand)
    (ho : o.op = .call { callee := .builtin .append, args := #[sl, y], argTypes := #[110, 9] }) (base g n cap : Nat) (xs : List UInt8) (hs : a.eval sl = .slice (some ⟨g, 0, none⟩) n cap) (h : BRow w base g n cap xs)
    (s : ByteArray) (hy : a.eval y = .string s) (hb : n + s.size ≤ 140737488355328) (hbase : base ≤ w.heap.size)
    (hk : ∀ g' cap' w', BRow w' base g' (n + s.size) cap' (xs ++ s.data.toList) → w.grownBy w' (some g) → wpList Try.prog ops Q rest (a.put o.dst (.slice (some ⟨g', 0, none⟩) (n + s.size) cap')) w') : wpList Try.prog ops Q (o :: rest) a w := by
  refine wpList_plain hgd fun K hK => ?_
  obtain ⟨g', cap', w', hr, h2, h3⟩ := run_append_strB w o.type base g n cap xs h s hb hbase
  unfold Oper.wp execOp
  simp only [ho, resolve, invoke, builtin, Sem.run_bind, Sem.run_pure, Result.andThen_ok, List.map_toArray, List.map_cons, List.map_nil, hs, hy, hr]
  exact hK _ _ (hk g' cap' w' h2 h3)
theorem str_brow (w : World) (s : ByteArray) (hs : s.size ≤ 140737488355328) :
    ∃ cs cap fr, (convert 9 110 (.string s)).run Try.prog w = .ok (.slice (some ⟨w.heap.size, 0, none⟩) s.size cap) (w.drew.alloc (.cells cs 5 fr)) ∧ BRow (w.drew.alloc (.cells cs 5 fr)) w.heap.size w.heap.size s.size cap s.data.toList := by
  have hge := grownCap_ge w s.size 0 5
  have hle := grownCap_le_maxLen w s.size 0 5 (by unfold maxLen; omega)
  refine ⟨_, _, _, run_bytes_of_string w 9 110 5 s Try.underlying9 Try.underlying110 Try.underlying5, ⟨Nat.le_refl _, by rw [bytes_length], _, _, heap_alloc_new w.drew _, Or.inr (Nat.le_refl _), hge, hle, ?_, ?_⟩⟩
  · unfold bytesRow
    have : s.data.size = s.size := rfl
    simp; omega
  · unfold bytesRow
    rw [Array.toList_append, List.take_left' (by simp)]
    simp [bcells]
theorem brow_string {w : World} {base g n cap : Nat} {xs : List UInt8} (h : BRow w base g n cap xs) : (convert 110 9 (.slice (some ⟨g, 0, none⟩) n cap)).run Try.prog w = .ok (.string ⟨xs.toArray⟩) w := by
  obtain rfl := h.2.1
  refine run_convert_bytes_back w 110 9 5 ⟨g, 0, none⟩ cap xs Try.underlying110 Try.underlying5 Try.underlying9 ?_
  intro j hj
  rw [Addr.add_mid, Nat.zero_add]
  exact h.cell j _ (List.getElem?_eq_getElem hj)
end Go.Proofs.Ytajbifblbmlffaa
