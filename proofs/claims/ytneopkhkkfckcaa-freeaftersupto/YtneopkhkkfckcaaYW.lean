/- free: batches, plans and turns that come in, opened. -/
import Derived.Test.YtneopkhkkfckcaaYI
namespace Go.Proofs.Ytneopkhkkfckcaa
open Go.ChangeShapes Go.WideShapes Go.ChangeAt Go.RowKit Go.Joins

set_option maxRecDepth 100000 in
theorem open_batches_in {H : Type} {enc : TypeId × Value → H} {W : World} {cs : List Value} {x : DataW H × List MemPlace} {fuel : Nat}
    (hf : DataW.trod enc Try.prog W 0 (fun _ => true) true fuel 22 cs = some x) :
    ∃ (L : List Bt) (pa : Option Addr) (pb po pc : Nat), cs = [.slice pa L.length pc] ∧ BiRow W pa pb po L ∧ (pa = none → L = [] ∧ pc = 0) ∧ wt L ≤ Rows.uptoBulk x.1 := by
  rcases Deep.open_slice Try.underlying22 hf with ⟨hcs, hx⟩ | ⟨a, len, cap, mm, nn, D, Pl, hcs, _, hl, hm, hmm, hx, hel⟩
  · subst hcs
    exact ⟨[], none, 0, 0, 0, rfl, ⟨⟨fun e => absurd rfl e, fun j x hj => by simp at hj⟩, fun x hx => by cases hx⟩, fun _ => ⟨rfl, rfl⟩, Nat.zero_le _⟩
  · subst hcs
    subst hx
    have hmc : mm = cap := by simpa using hmm
    subst hmc
    rw [Rows.uptoBulk]
    rw [Try.cellsBatch] at hel
    obtain ⟨T, hT⟩ := Deep.choose_lt (α := Bt) (n := len) (p := fun i t => (∃ cs, W.cells? 0 (a.add (i * 2)) 2 = some cs ∧ cs = [.int .u32 (t.pg : Int), .slice t.na t.ns.length t.nc]) ∧ NIn W t.na t.nb t.no t.nc t.ns ∧ BvOk W t ∧ t.ns.length + 1 ≤ Rows.uptoBulk (D i)) (fun i hi => by
        obtain ⟨cs', h1, h2⟩ := hel i (by omega)
        obtain ⟨t, r1, r2, r3, r4⟩ := open_batch_in h2
        exact ⟨t, ⟨cs', h1, r1⟩, r2, r3, r4⟩)
    have hsum := bulk_sumB (List.range len) D T (fun i hi => (hT i (List.mem_range.1 hi)).2.2.2)
    have hlen : ((List.range len).map T).length = len := by simp
    have hnin : ∀ x ∈ (List.range len).map T, NIn W x.na x.nb x.no x.nc x.ns := fun x hx => by
      obtain ⟨i, hi, rfl⟩ := List.mem_map.1 hx
      exact (hT i (List.mem_range.1 hi)).2.1
    by_cases h0 : len = 0
    · subst h0
      exact ⟨[], some a, 0, 0, mm, rfl, ⟨⟨fun e => absurd rfl e, fun j x hj => by simp at hj⟩, fun x hx => by cases hx⟩, fun e => (by cases e), Nat.zero_le _⟩
    · obtain ⟨⟨cs0, hc0, hq0⟩, _⟩ := hT 0 (by omega)
      obtain ⟨_, hcl0, hce0⟩ := World.cells?_some hc0
      have hc0 := hce0 0 (by omega)
      rw [List.getElem?_eq_getElem (by omega)] at hc0
      obtain ⟨b, off, spot⟩ := a
      have hspot : spot = none := by simpa [Addr.add] using World.cell?_spot hc0
      subst hspot
      have hbl : b < W.heap.size := by simpa [Addr.add] using World.block_lt_of_cell? _ _ hc0
      refine ⟨(List.range len).map T, some ⟨b, off, none⟩, b, off, mm, by rw [hlen], ⟨⟨fun _ => ⟨rfl, hbl⟩, ?_⟩, hnin⟩, fun e => (by cases e), by omega⟩
      intro k t hk
      have hk1 : k < len := by
        have := (List.getElem?_eq_some_iff.1 hk).1
        omega
      have hkt : t = T k := by
        rw [List.getElem?_map, List.getElem?_range hk1] at hk
        simpa using hk.symm
      subst hkt
      obtain ⟨⟨cs', h1, h2⟩, h3, h4, _⟩ := hT k hk1
      obtain ⟨_, hcl, hce⟩ := World.cells?_some h1
      have g0 := hce 0 (by omega)
      have g1 := hce 1 (by omega)
      subst h2
      rw [add_plain, add_plain] at g0 g1
      exact ⟨g0, g1, h4⟩
theorem Try.cellsPlan : Try.prog.cellsOf 26 = 4 := by kernel_rfl
set_option maxRecDepth 100000 in
theorem open_plan_in {H : Type} {enc : TypeId × Value → H} {W : World} {d : DataW H × List MemPlace} {fuel : Nat} {cs : List Value} (hz : cs.length = 4)
    (hf : DataW.trod enc Try.prog W 0 (fun _ => true) true fuel 26 cs = some d) :
    ∃ (T : List Nat) (ta : Option Addr) (tb to_ tc : Nat) (L : List Bt) (la : Option Addr) (lb lo lc : Nat) (op : Int) (pg : Nat), cs = [.slice ta T.length tc, .slice la L.length lc, .int .i64 op, .int .u32 (pg : Int)] ∧ NIn W ta tb to_ tc T ∧ BiRow W la lb lo L ∧ T.length + wt L ≤ Rows.uptoBulk d.1 ∧ (la = none → L = [] ∧ lc = 0) ∧ (∀ y ∈ T, y < 4294967296) ∧ pg < 4294967296 := by
  obtain ⟨x0, x1, x2, x3, rfl⟩ : ∃ x0 x1 x2 x3, cs = [x0, x1, x2, x3] := by
    match cs, hz with
    | [x0, x1, x2, x3], _ => exact ⟨x0, x1, x2, x3, rfl⟩
  obtain ⟨y0, y1, y2, y3, n, hd, _, f0, f1, f2, f3⟩ := trod_struct4 Try.underlying26 hf
  have c0 : Try.prog.cellsOf 23 = 1 := by kernel_rfl
  have c1 : Try.prog.cellsOf 22 = 1 := by kernel_rfl
  have c2 : Try.prog.cellsOf 3 = 1 := by kernel_rfl
  have c3 : Try.prog.cellsOf 24 = 1 := by kernel_rfl
  simp only [c0, c1, c2, c3, List.drop_succ_cons, List.drop_zero, List.take_succ_cons, List.take_zero] at f0 f1 f2 f3
  obtain ⟨T, ta, tb, to_, tc, e0, i0, l0, u0⟩ := open_nums_in f0
  obtain ⟨L, la, lb, lo, lc, e1, i1, n1, l1⟩ := open_batches_in f1
  obtain ⟨op, e2, _, _⟩ := DataW.trod_int Try.underlying3 f2
  obtain ⟨pg, e3, _, w3⟩ := DataW.trod_int Try.underlying24 f3
  obtain ⟨pg, rfl, hpg⟩ := u32_nat w3
  simp only [List.cons.injEq, and_true] at e0 e1 e2 e3
  subst e0 e1 e2 e3
  have hd1 : d.1 = (DataW.agg [y0.1, y1.1, y2.1, y3.1] : DataW H) := congrArg Prod.fst hd
  rw [hd1]
  simp only [Rows.uptoBulk, Rows.uptoBulkAll]
  exact ⟨T, ta, tb, to_, tc, L, la, lb, lo, lc, op, pg, rfl, i0, i1, by omega, n1, u0, hpg⟩
set_option maxRecDepth 100000 in
theorem open_plan {H : Type} {enc : TypeId × Value → H} {W : World} {v : Value} {d : DataW H} {pl : List MemPlace} {base : Nat}
    (hv : Value.okWide Try.prog W .any base 26 v) (h : DataW.Trod enc Try.prog W 0 (fun _ => true) true 26 v d pl) :
    ∃ (T : List Nat) (ta : Option Addr) (tb to_ tc : Nat) (L : List Bt) (la : Option Addr) (lb lo lc : Nat) (op : Int) (pg : Nat), v = .agg #[.slice ta T.length tc, .slice la L.length lc, .int .i64 op, .int .u32 (pg : Int)] ∧ NIn W ta tb to_ tc T ∧ BiRow W la lb lo L ∧ T.length + wt L ≤ Rows.uptoBulk d ∧ (la = none → L = [] ∧ lc = 0) ∧ (∀ y ∈ T, y < 4294967296) ∧ pg < 4294967296 := by
  obtain ⟨cs, rfl, hz⟩ := okWide_struct Try.underlying26 hv
  rw [Try.cellsPlan] at hz
  obtain ⟨fuel, hf⟩ := h
  obtain ⟨T, ta, tb, to_, tc, L, la, lb, lo, lc, op, pg, e, r⟩ := open_plan_in (by simpa [Value.cells] using hz) hf
  obtain ⟨l⟩ := cs
  have e1 : l = _ := e
  subst e1
  exact ⟨T, ta, tb, to_, tc, L, la, lb, lo, lc, op, pg, rfl, r⟩
-- wants 42
end Go.Proofs.Ytneopkhkkfckcaa
