/- free: batches that come in, opened. -/
import Derived.Test.YtneopkhkkfckcaaIK
import Derived.Test.YtneopkhkkfckcaaYD
namespace Go.Proofs.Ytneopkhkkfckcaa
open Go.ChangeShapes Go.WideShapes Go.ChangeAt Go.RowKit Go.Joins

theorem pair_list {α : Type} (l : List α) (h : l.length = 2) : ∃ a b, l = [a, b] := by
  match l, h with
  | [a, b], _ => exact ⟨a, b, rfl⟩
instance : Inhabited Bt := ⟨⟨0, none, 0, 0, 0, []⟩⟩
theorem Try.cellsBatch : Try.prog.cellsOf 55 = 2 := by kernel_rfl
set_option maxRecDepth 100000 in
theorem open_batch_in {H : Type} {enc : TypeId × Value → H} {W : World} {cs : List Value} {x : DataW H × List MemPlace} {fuel : Nat}
    (hf : DataW.trod enc Try.prog W 0 (fun _ => true) true fuel 55 cs = some x) :
    ∃ b : Bt, cs = [.int .u32 (b.pg : Int), .slice b.na b.ns.length b.nc] ∧ NIn W b.na b.nb b.no b.nc b.ns ∧ BvOk W b ∧ b.ns.length + 1 ≤ Rows.uptoBulk x.1 := by
  obtain ⟨xs, n, rfl, rfl, hcl, hxl, hfi⟩ := DataW.trod_struct Try.underlying55 hf
  rw [Try.cellsBatch] at hcl
  obtain ⟨a0, a1, rfl⟩ := pair_list cs hcl
  obtain ⟨x0, x1, rfl⟩ := pair_list xs hxl
  have c1 : Try.prog.cellsOf 24 = 1 := by kernel_rfl
  have c2 : Try.prog.cellsOf 23 = 1 := by kernel_rfl
  have f0 := hfi 0 _ rfl
  have f1 := hfi 1 _ rfl
  simp only [List.getElem_toArray, List.getElem_cons_succ, List.getElem_cons_zero, c1, c2, List.drop_succ_cons, List.drop_zero, List.take_succ_cons, List.take_zero, List.getElem?_cons_succ, List.getElem?_cons_zero] at f0 f1
  obtain ⟨u, e0, g0, w0⟩ := DataW.trod_int Try.underlying24 f0
  obtain ⟨k, rfl, hk⟩ := u32_nat w0
  obtain ⟨A, pa, pb, po, pc, e1, h1, h2, h3⟩ := open_nums_in f1
  simp only [List.cons.injEq, and_true] at e0 e1
  subst e0 e1
  refine ⟨⟨k, pa, pb, po, pc, A⟩, rfl, h1, ⟨h1.row, hk, h3⟩, ?_⟩
  simp only [List.map_cons, List.map_nil, Rows.uptoBulk, Rows.uptoBulkAll]
  have := bulk_one x0.1
  omega
theorem bulk_sumB {H : Type} : ∀ (l : List Nat) (D : Nat → DataW H) (T : Nat → Bt), (∀ i ∈ l, (T i).ns.length + 1 ≤ Rows.uptoBulk (D i)) → wt (l.map T) ≤ Rows.uptoBulkAll (l.map D)
  | [], _, _, _ => Nat.le_refl _
  | i :: l, D, T, h => by
    have h1 := h i (List.mem_cons_self ..)
    have h2 := bulk_sumB l D T (fun j hj => h j (List.mem_cons_of_mem _ hj))
    simp only [List.map_cons, wt, Rows.uptoBulkAll]
    omega
set_option maxRecDepth 100000 in
theorem open_batches {H : Type} {enc : TypeId × Value → H} {W : World} {v : Value} {d : DataW H} {pl : List MemPlace} {base : Nat}
    (hv : Value.okWide Try.prog W .any base 22 v) (h : DataW.Trod enc Try.prog W 0 (fun _ => true) true 22 v d pl) :
    ∃ (L : List Bt) (pa : Option Addr) (pb po pc : Nat), v = .slice pa L.length pc ∧ BiRow W pa pb po L ∧ (pa = none → L = [] ∧ pc = 0) ∧ wt L ≤ Rows.uptoBulk d := by
  obtain ⟨a0, len, cap, rfl⟩ := okWide_slice Try.underlying22 hv
  obtain ⟨fuel, hf⟩ := h
  rcases Deep.open_slice Try.underlying22 hf with ⟨hcs, hx⟩ | ⟨a, len', cap', mm, nn, D, Pl, hcs, _, hl, hm, hmm, hx, hel⟩
  · simp [Value.cells] at hcs
    obtain ⟨rfl, rfl, rfl⟩ := hcs
    exact ⟨[], none, 0, 0, 0, rfl, ⟨⟨fun e => absurd rfl e, fun j x hj => by simp at hj⟩, fun x hx => by cases hx⟩, fun _ => ⟨rfl, rfl⟩, Nat.zero_le _⟩
  · simp [Value.cells] at hcs
    obtain ⟨rfl, rfl, rfl⟩ := hcs
    simp only [Prod.mk.injEq] at hx
    obtain ⟨rfl, _⟩ := hx
    have hmc : mm = cap := by simpa using hmm
    subst hmc
    rw [Rows.uptoBulk]
    rw [Try.cellsBatch] at hel
    obtain ⟨T, hT⟩ := Deep.choose_lt (α := Bt) (n := len) (p := fun i t => (∃ cs, W.cells? 0 (a.add (i * 2)) 2 = some cs ∧ cs = [.int .u32 (t.pg : Int), .slice t.na t.ns.length t.nc]) ∧ NIn W t.na t.nb t.no t.nc t.ns ∧ BvOk W t ∧ t.ns.length + 1 ≤ Rows.uptoBulk (D i)) (fun i hi => by
        obtain ⟨cs', h1, h2⟩ := hel i (by omega)
        obtain ⟨t, r1, r2, r3, r4⟩ := open_batch_in h2
        exact ⟨t, ⟨cs', h1, r1⟩, r2, r3, r4⟩)
    have hsum := bulk_sumB (List.range len) D T (fun i hi => (hT i (List.mem_range.1 hi)).2.2.2)
    have hlen : ((List.range len).map T).length = len := by simp
    have hnin : ∀ x ∈ (List.range len).map T, NIn W x.na x.nb x.no x.nc x.ns := fun x hx => by
      obtain ⟨i, hi, rfl⟩ := List.mem_map.1 hx
      exact (hT i (List.mem_range.1 hi)).2.1
    by_cases h0 : len = 0
    · subst h0
      exact ⟨[], some a, 0, 0, mm, rfl, ⟨⟨fun e => absurd rfl e, fun j x hj => by simp at hj⟩, fun x hx => by cases hx⟩, fun e => (by cases e), Nat.zero_le _⟩
    · obtain ⟨⟨cs0, hc0, hq0⟩, _⟩ := hT 0 (by omega)
      obtain ⟨_, hcl0, hce0⟩ := World.cells?_some hc0
      have hc0 := hce0 0 (by omega)
      rw [List.getElem?_eq_getElem (by omega)] at hc0
      obtain ⟨b, off, spot⟩ := a
      have hspot : spot = none := by simpa [Addr.add] using World.cell?_spot hc0
      subst hspot
      have hbl : b < W.heap.size := by simpa [Addr.add] using World.block_lt_of_cell? _ _ hc0
      refine ⟨(List.range len).map T, some ⟨b, off, none⟩, b, off, mm, by rw [hlen], ⟨⟨fun _ => ⟨rfl, hbl⟩, ?_⟩, hnin⟩, fun e => (by cases e), by omega⟩
      intro k t hk
      have hk1 : k < len := by
        have := (List.getElem?_eq_some_iff.1 hk).1
        omega
      have hkt : t = T k := by
        rw [List.getElem?_map, List.getElem?_range hk1] at hk
        simpa using hk.symm
      subst hkt
      obtain ⟨⟨cs', h1, h2⟩, h3, h4, _⟩ := hT k hk1
      obtain ⟨_, hcl, hce⟩ := World.cells?_some h1
      have g0 := hce 0 (by omega)
      have g1 := hce 1 (by omega)
      subst h2
      rw [add_plain, add_plain] at g0 g1
      exact ⟨g0, g1, h4⟩
end Go.Proofs.Ytneopkhkkfckcaa
