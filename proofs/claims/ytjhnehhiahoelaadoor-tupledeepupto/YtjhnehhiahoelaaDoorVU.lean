/-
  Items that came in, opened as trees.
-/
import Derived.Test.YtjhnehhiahoelaaDoorRows
import Derived.Test.YtjhnehhiahoelaaDoorV8
import Derived.ProofKit
import Derived.OpenShut
import Derived.Deep.Slices
import Derived.JoinedCond
namespace Go.Proofs.YtjhnehhiahoelaaDoor
open Go.ChangeShapes Go.WideShapes Go.ChangeAt Go.RowKit

theorem bulk_mem {H : Type} {l : List (DataW H)} {d : DataW H} (h : d ∈ l) : Rows.uptoBulk d ≤ Rows.uptoBulkAll l := by
  induction l with
  | nil => cases h
  | cons x l ih =>
    rw [Rows.uptoBulkAll]
    rcases List.mem_cons.1 h with rfl | h
    · omega
    · have := ih h; omega
theorem bulk_len {H : Type} (l : List (DataW H)) : l.length ≤ Rows.uptoBulkAll l := by
  induction l with
  | nil => simp
  | cons x l ih =>
    have h1 : 1 ≤ Rows.uptoBulk x := by
      cases x with
      | lit l => cases l <;> simp [Rows.uptoBulk]
      | nil => simp [Rows.uptoBulk]
      | ptr d => simp [Rows.uptoBulk]
      | slice a b => simp [Rows.uptoBulk]
      | agg p => simp [Rows.uptoBulk]
      | iface t d => simp [Rows.uptoBulk]
      | map e => simp [Rows.uptoBulk]
      | held h => simp [Rows.uptoBulk]
    rw [Rows.uptoBulkAll, List.length_cons]; omega
theorem six {α : Type} (l : List α) (h : l.length = 6) : ∃ a0 a1 a2 a3 a4 a5, l = [a0, a1, a2, a3, a4, a5] := by
  match l, h with
  | [a0, a1, a2, a3, a4, a5], _ => exact ⟨a0, a1, a2, a3, a4, a5, rfl⟩
theorem trod_float {H : Type} {enc : TypeId × Value → H} {P : Program} {w : World} {base : Nat} {spare : Nat → Bool} {held : Bool} {t : TypeId} {k : FloatKind} {fuel : Nat} {c : Value} {x : DataW H × List MemPlace} (ht : P.underlying t = some (.float k)) (h : DataW.trod enc P w base spare held fuel t [c] = some x) :
    ∃ b, c = .float k b ∧ x = (.lit (.float k b), []) ∧ (Lit.float k b).wf = true := by
  cases fuel with
  | zero => simp [DataW.trod] at h
  | succ n =>
    unfold DataW.trod at h
    rw [ht] at h
    cases c <;> simp at h
    rename_i k' b
    obtain ⟨⟨rfl, hw⟩, hx⟩ := h
    exact ⟨b, rfl, hx.symm, hw⟩

theorem Tryd.cellsItem : Tryd.prog.cellsOf 26 = 6 := by kernel_rfl

/-- What an item's six cells say. -/
def ItemCells (W : World) (cs : List Value) (t : ItemP) : Prop :=
  ∃ kd b i f s l la lc, t = .mk kd b i f s l ∧ cs = [.int .u8 (kd : Nat), .bool b, .int .i64 i, .float .f64 f, .string s, .slice la l.length lc] ∧ -9223372036854775808 ≤ i ∧ i ≤ 9223372036854775807 ∧ s.size ≤ 1048576 ∧ l.length ≤ 1048576 ∧ f < 18446744073709551616 ∧ kd < 256 ∧ RowIn W.heap.size W (.slice la l.length lc) l

set_option maxRecDepth 100000 in
theorem open_item {H : Type} {enc : TypeId × Value → H} {W : World} {cs : List Value} {x : DataW H × List MemPlace} {fuel : Nat}
    (hf : DataW.trod enc Tryd.prog W 0 (fun _ => true) true fuel 26 cs = some x) (hb : Rows.uptoBulk x.1 ≤ 1048576)
    (IH : ∀ {fuel : Nat} {cs : List Value} {y : DataW H × List MemPlace}, SizeOf.sizeOf y.1 < SizeOf.sizeOf x.1 → DataW.trod enc Tryd.prog W 0 (fun _ => true) true fuel 24 cs = some y → Rows.uptoBulk y.1 ≤ 1048576 → ∃ v l, cs = [v] ∧ RowIn W.heap.size W v l ∧ l.length ≤ 1048576) :
    ∃ t, ItemCells W cs t := by
  obtain ⟨xs, n, rfl, rfl, hcl, hxl, hfi⟩ := DataW.trod_struct Tryd.underlying26 hf
  rw [Tryd.cellsItem] at hcl
  obtain ⟨a0, a1, a2, a3, a4, a5, rfl⟩ := six cs hcl
  obtain ⟨x0, x1, x2, x3, x4, x5, rfl⟩ := six xs hxl
  have c0 : Tryd.prog.cellsOf 22 = 1 := by kernel_rfl
  have c1 : Tryd.prog.cellsOf 4 = 1 := by kernel_rfl
  have c2 : Tryd.prog.cellsOf 2 = 1 := by kernel_rfl
  have c3 : Tryd.prog.cellsOf 23 = 1 := by kernel_rfl
  have c4 : Tryd.prog.cellsOf 9 = 1 := by kernel_rfl
  have c5 : Tryd.prog.cellsOf 24 = 1 := by kernel_rfl
  have f0 := hfi 0 _ rfl
  have f1 := hfi 1 _ rfl
  have f2 := hfi 2 _ rfl
  have f3 := hfi 3 _ rfl
  have f4 := hfi 4 _ rfl
  have f5 := hfi 5 _ rfl
  simp only [List.getElem_toArray, List.getElem_cons_succ, List.getElem_cons_zero, c0, c1, c2, c3, c4, c5, List.drop_succ_cons, List.drop_zero, List.take_succ_cons, List.take_zero, List.getElem?_cons_succ, List.getElem?_cons_zero] at f0 f1 f2 f3 f4 f5
  clear hfi hf
  obtain ⟨kd, e0, g0, w0⟩ := DataW.trod_int Tryd.underlying22 f0
  obtain ⟨b, e1, g1⟩ := DataW.trod_bool Tryd.underlying4 f1
  obtain ⟨i, e2, g2, w2⟩ := DataW.trod_int Tryd.underlying2 f2
  obtain ⟨f, e3, g3, w3⟩ := trod_float Tryd.underlying23 f3
  obtain ⟨s, e4, g4, w4⟩ := DataW.trod_string Tryd.underlying9 f4
  simp only [List.map_cons, List.map_nil, Rows.uptoBulk, Rows.uptoBulkAll] at hb
  obtain ⟨v, l, e5, h5, hl5⟩ := IH (by simp only [List.map_cons, List.map_nil, DataW.agg.sizeOf_spec, List.cons.sizeOf_spec]; omega) f5 (by omega)
  subst g0; subst g1; subst g2; subst g3; subst g4
  simp only [List.cons.injEq, and_true] at e0 e1 e2 e4 e5
  subst e0; subst e1; subst e2; subst e3; subst e4; subst e5
  have w0' : 0 ≤ kd ∧ kd ≤ 255 := bounds_u8 w0
  have w2' := bounds_i64 w2
  have w3' : f < 18446744073709551616 := by simpa [Lit.wf] using w3
  have hbl := bytes_length s
  simp only [Rows.uptoBulk, hbl] at hb
  obtain ⟨ad, c, lb, lo, rfl, hr⟩ := id h5
  refine ⟨.mk kd.toNat b i f s l, kd.toNat, b, i, f, s, l, ad, c, rfl, ?_, w2'.1, w2'.2, by omega, hl5, w3', by omega, h5⟩
  rw [Int.toNat_of_nonneg w0'.1]
/-- An item's cells, at an address. -/
theorem ItemCells.at {W : World} {cs : List Value} {t : ItemP} (h : ItemCells W cs t) {ab o : Nat} (hc : ∀ j v, cs[j]? = some v → W.cell? ⟨ab, o + j, none⟩ = some v) : ItemAt W.heap.size W ab o t := by
  obtain ⟨kd, b, i, f, s, l, la, lc, rfl, rfl, h0, h1, h2, h3, h4, h5, h6⟩ := h
  obtain ⟨ad, c, lb, lo, e, hn, hl, hr⟩ := h6
  injection e with e1 e2 e3
  subst e1
  exact .mk ab o kd b i f s l la lc lb lo (hc 0 _ rfl) (hc 1 _ rfl) (hc 2 _ rfl) (hc 3 _ rfl) (hc 4 _ rfl) (hc 5 _ rfl) h0 h1 (by omega) (by omega) h4 h5 hl hr

instance : Inhabited ItemP := ⟨.mk 0 false 0 0 ⟨#[]⟩ []⟩
set_option maxRecDepth 100000 in
theorem open_tree {H : Type} {enc : TypeId × Value → H} {W : World} (N : Nat) : ∀ {fuel : Nat} {cs : List Value} {y : DataW H × List MemPlace}, SizeOf.sizeOf y.1 ≤ N → DataW.trod enc Tryd.prog W 0 (fun _ => true) true fuel 24 cs = some y → Rows.uptoBulk y.1 ≤ 1048576 → ∃ v l, cs = [v] ∧ RowIn W.heap.size W v l ∧ l.length ≤ 1048576 := by
  induction N with
  | zero => intro fuel cs y h; exfalso; revert h; cases y.1 <;> simp
  | succ N ih =>
    intro fuel cs y hN hf hb
    rcases Deep.open_slice Tryd.underlying24 hf with ⟨rfl, rfl⟩ | ⟨a, len, cap, mm, nn, D, Pl, rfl, _, hl, hm, hmm, rfl, hel⟩
    · exact ⟨_, [], rfl, ⟨none, 0, 0, 0, rfl, by simp, by simp, by simp⟩, by simp⟩
    · have hmc : mm = cap := by simpa using hmm
      subst hmc
      simp only at hb hN
      rw [Rows.uptoBulk] at hb
      rw [Tryd.cellsItem] at hel
      have hD : ∀ i, i < len → Rows.uptoBulk (D i) ≤ 1048576 := fun i hi => by
        have := bulk_mem (l := (List.range len).map D) (d := D i) (List.mem_map.2 ⟨i, List.mem_range.2 hi, rfl⟩)
        omega
      have hS : ∀ i, i < len → SizeOf.sizeOf (D i) ≤ N := fun i hi => by
        have := List.sizeOf_lt_of_mem (α := DataW H) («as» := (List.range len).map D) (a := D i) (List.mem_map.2 ⟨i, List.mem_range.2 hi, rfl⟩)
        rw [DataW.slice.sizeOf_spec] at hN
        omega
      obtain ⟨T, hT⟩ := Deep.choose_lt (α := ItemP) (n := len) (p := fun i t => ∃ cs, W.cells? 0 (a.add (i * 6)) 6 = some cs ∧ ItemCells W cs t) (fun i hi => by
        obtain ⟨cs', h1, h2⟩ := hel i (by omega)
        have hs := hS i hi
        obtain ⟨t, ht⟩ := open_item h2 (hD i hi) (fun hlt hf2 hb2 => ih (by simp only at hlt; omega) hf2 hb2)
        exact ⟨t, cs', h1, ht⟩)
      have hlen : ((List.range len).map T).length = len := by simp
      have hbl := bulk_len ((List.range len).map D)
      rw [List.length_map, List.length_range] at hbl
      have hlb : len ≤ 1048576 := by omega
      by_cases h0 : len = 0
      · subst h0
        exact ⟨_, [], rfl, ⟨some a, mm, 0, 0, rfl, by simp, by simp, by simp⟩, by simp⟩
      · obtain ⟨cs0, hc0, _⟩ := hT 0 (by omega)
        obtain ⟨_, hcl0, hce0⟩ := World.cells?_some hc0
        have hc0 := hce0 0 (by omega)
        rw [List.getElem?_eq_getElem (by omega)] at hc0
        obtain ⟨b, off, spot⟩ := a
        have hspot : spot = none := by simpa [Addr.add] using World.cell?_spot hc0
        subst hspot
        refine ⟨_, (List.range len).map T, rfl, ⟨some ⟨b, off, none⟩, mm, b, off, by rw [hlen], by rw [hlen]; omega, fun _ => ⟨rfl, ?_⟩, ?_⟩, by rw [hlen]; exact hlb⟩
        · have := World.block_lt_of_cell? _ _ hc0
          simpa [Addr.add] using this
        · intro k t hk
          have hk1 : k < len := by
            have := (List.getElem?_eq_some_iff.1 hk).1
            omega
          have hkt : t = T k := by
            rw [List.getElem?_map, List.getElem?_range hk1] at hk
            simpa using hk.symm
          subst hkt
          obtain ⟨cs, hc1, hc2⟩ := hT k hk1
          obtain ⟨_, hl6, hce⟩ := World.cells?_some hc1
          refine hc2.at (fun j v hj => ?_)
          have hj6 : j < 6 := by rw [← hl6]; exact (List.getElem?_eq_some_iff.1 hj).1
          have := hce j hj6
          rw [add_plain, add_plain] at this
          rw [this]; exact hj
set_option maxRecDepth 100000 in
/-- A row that came in. -/
theorem open_row {H : Type} {enc : TypeId × Value → H} {W : World} {v : Value} {d : DataW H} {pl : List MemPlace} {base : Nat}
    (hv : Value.okWide Tryd.prog W .any base 24 v) (h : DataW.Trod enc Tryd.prog W 0 (fun _ => true) true 24 v d pl) (hb : Rows.uptoBulk d ≤ 1048576) :
    ∃ l, RowIn W.heap.size W v l ∧ l.length ≤ 1048576 := by
  obtain ⟨a0, len, cap, rfl⟩ := okWide_slice Tryd.underlying24 hv
  obtain ⟨fuel, hf⟩ := h
  obtain ⟨v, l, e, h1, h2⟩ := open_tree _ (Nat.le_refl _) hf hb
  simp [Value.cells] at e
  subst e
  exact ⟨l, h1, h2⟩
end Go.Proofs.YtjhnehhiahoelaaDoor
