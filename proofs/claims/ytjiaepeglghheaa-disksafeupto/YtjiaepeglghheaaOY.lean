/- Steps that come in, opened. -/
import Derived.Test.YtjiaepeglghheaaOZ
import Derived.Test.YtjiaepeglghheaaOU
import Derived.Deep.Slices
namespace Go.Proofs.Ytjiaepeglghheaa
open Go.ChangeShapes Go.WideShapes Go.ChangeAt Go.RowKit Go.Joins

theorem list_3 {α : Type} (l : List α) (h : l.length = 3) : ∃ a b c, l = [a, b, c] := by
  match l, h with
  | [a, b, c], _ => exact ⟨a, b, c, rfl⟩
theorem list_7 {α : Type} (l : List α) (h : l.length = 7) : ∃ a b c d e f g, l = [a, b, c, d, e, f, g] := by
  match l, h with
  | [a, b, c, d, e, f, g], _ => exact ⟨a, b, c, d, e, f, g, rfl⟩
theorem list_9 {α : Type} (l : List α) (h : l.length = 9) : ∃ a b c d e f g x y, l = [a, b, c, d, e, f, g, x, y] := by
  match l, h with
  | [a, b, c, d, e, f, g, x, y], _ => exact ⟨a, b, c, d, e, f, g, x, y, rfl⟩
instance : Inhabited Sp := ⟨⟨0, 0, 0, 0, 0, 0, 0, undef, undef⟩⟩
theorem u8_nat {u : Int} (h : (Lit.int .u8 u).wf = true) : ∃ x : UInt8, u = (x.toNat : Int) := by
  have hb : 0 ≤ u ∧ u ≤ 255 := by
    have h1 : IntKind.u8.min = 0 := by decide
    have h2 : IntKind.u8.max = 255 := by decide
    simp [Lit.wf, h1, h2] at h
    omega
  obtain ⟨k, rfl⟩ := Int.eq_ofNat_of_zero_le hb.1
  exact ⟨UInt8.ofNat k, by rw [UInt8.toNat_ofNat']; omega⟩
theorem Try.cellsStep : Try.prog.cellsOf 35 = 9 := by kernel_rfl
theorem Try.cellsData : Try.prog.cellsOf 31 = 3 := by kernel_rfl
theorem open_data_in {H : Type} {enc : TypeId × Value → H} {W : World} {cs : List Value} {x : DataW H × List MemPlace} {fuel : Nat}
    (hf : DataW.trod enc Try.prog W 0 (fun _ => true) true fuel 31 cs = some x) :
    ∃ (n : Int) (b s : UInt8), cs = [.int .i64 n, .int .u8 (b.toNat : Int), .int .u8 (s.toNat : Int)] := by
  obtain ⟨xs, n, rfl, rfl, hcl, hxl, hfi⟩ := DataW.trod_struct Try.underlying31 hf
  rw [Try.cellsData] at hcl
  obtain ⟨a0, a1, a2, rfl⟩ := list_3 cs hcl
  obtain ⟨x0, x1, x2, rfl⟩ := list_3 xs hxl
  have c1 : Try.prog.cellsOf 3 = 1 := by kernel_rfl
  have c2 : Try.prog.cellsOf 5 = 1 := by kernel_rfl
  have f0 := hfi 0 _ rfl
  have f1 := hfi 1 _ rfl
  have f2 := hfi 2 _ rfl
  simp only [List.getElem_toArray, List.getElem_cons_succ, List.getElem_cons_zero, c1, c2, List.drop_succ_cons, List.drop_zero, List.take_succ_cons, List.take_zero, List.getElem?_cons_succ, List.getElem?_cons_zero] at f0 f1 f2
  obtain ⟨u0, e0, _, w0⟩ := DataW.trod_int Try.underlying3 f0
  obtain ⟨u1, e1, _, w1⟩ := DataW.trod_int Try.underlying5 f1
  obtain ⟨u2, e2, _, w2⟩ := DataW.trod_int Try.underlying5 f2
  obtain ⟨b1, rfl⟩ := u8_nat w1
  obtain ⟨b2, rfl⟩ := u8_nat w2
  simp only [List.cons.injEq, and_true] at e0 e1 e2
  subst e0 e1 e2
  exact ⟨u0, b1, b2, rfl⟩
set_option maxRecDepth 100000 in
theorem open_step_in {H : Type} {enc : TypeId × Value → H} {W : World} {cs : List Value} {x : DataW H × List MemPlace} {fuel : Nat}
    (hf : DataW.trod enc Try.prog W 0 (fun _ => true) true fuel 35 cs = some x) : ∃ s : Sp, cs = spC s ∧ s.no < 4294967296 ∧ s.av.oneCell' = true ∧ s.fv.oneCell' = true := by
  obtain ⟨xs, n, rfl, rfl, hcl, hxl, hfi⟩ := DataW.trod_struct Try.underlying35 hf
  rw [Try.cellsStep] at hcl
  obtain ⟨a0, a1, a2, a3, a4, a5, a6, a7, a8, rfl⟩ := list_9 cs hcl
  obtain ⟨x0, x1, x2, x3, x4, x5, x6, rfl⟩ := list_7 xs hxl
  have c1 : Try.prog.cellsOf 3 = 1 := by kernel_rfl
  have c2 : Try.prog.cellsOf 29 = 1 := by kernel_rfl
  have f0 := hfi 0 _ rfl
  have f1 := hfi 1 _ rfl
  have f2 := hfi 2 _ rfl
  have f3 := hfi 3 _ rfl
  have f4 := hfi 4 _ rfl
  have f5 := hfi 5 _ rfl
  have f6 := hfi 6 _ rfl
  have c3 : Try.prog.cellsOf 32 = 1 := by kernel_rfl
  have c4 : Try.prog.cellsOf 33 = 1 := by kernel_rfl
  simp only [List.getElem_toArray, List.getElem_cons_succ, List.getElem_cons_zero, c1, c2, c3, c4, Try.cellsData, List.drop_succ_cons, List.drop_zero, List.take_succ_cons, List.take_zero, List.getElem?_cons_succ, List.getElem?_cons_zero] at f0 f1 f2 f3 f4 f5 f6
  have o7 : a7.oneCell' = true := by
    rcases DataW.trod_slice Try.underlying32 f5 with ⟨e, _⟩ | ⟨a, len, cap, el, re, m, _, e, _⟩ <;> (simp only [List.cons.injEq, and_true] at e; rw [e]; rfl)
  have o8 : a8.oneCell' = true := by
    rcases DataW.trod_slice Try.underlying33 f6 with ⟨e, _⟩ | ⟨a, len, cap, el, re, m, _, e, _⟩ <;> (simp only [List.cons.injEq, and_true] at e; rw [e]; rfl)
  obtain ⟨u0, e0, _, w0⟩ := DataW.trod_int Try.underlying3 f0
  obtain ⟨u1, e1, _, w1⟩ := DataW.trod_int Try.underlying3 f1
  obtain ⟨u2, e2, _, w2⟩ := DataW.trod_int Try.underlying29 f2
  obtain ⟨u3, e3, _, w3⟩ := DataW.trod_int Try.underlying3 f3
  obtain ⟨u4, b, s, e4⟩ := open_data_in f4
  obtain ⟨k, rfl, hk⟩ := u32_nat w2
  simp only [List.cons.injEq, and_true] at e0 e1 e2 e3 e4
  obtain ⟨e4, e5, e6⟩ := e4
  subst e0 e1 e2 e3 e4 e5 e6
  exact ⟨⟨u0, u1, k, u3, u4, b, s, a7, a8⟩, rfl, hk, o7, o8⟩
/-- Steps in memory. -/
structure SpRow (w : World) (pa : Option Addr) (L : List Sp) : Prop where
  place : L ≠ [] → ∃ g o, pa = some ⟨g, o, none⟩ ∧ g < w.heap.size
  rows : ∀ g o, pa = some ⟨g, o, none⟩ → ∀ i s, L[i]? = some s → w.rangeAt g (o + i * 9) (spC s)
  no : ∀ s ∈ L, s.no < 4294967296
  one : ∀ s ∈ L, s.av.oneCell' = true ∧ s.fv.oneCell' = true
theorem SpRow.fr {w w' : World} {pa : Option Addr} {L : List Sp} {S : Nat → Prop} (h : SpRow w pa L) (f : Fr S w w') (hn : ∀ g o, L ≠ [] → pa = some ⟨g, o, none⟩ → ¬ S g) : SpRow w' pa L :=
  ⟨fun hL => by obtain ⟨g, o, e, hg⟩ := h.place hL; exact ⟨g, o, e, Nat.lt_of_lt_of_le hg f.size⟩,
   fun g o e i s hs j v hj => by
    have c := h.rows g o e i s hs j v hj
    exact (f.cell (World.block_lt_of_cell? _ _ c) (hn g o (fun e => by rw [e] at hs; simp at hs) e)).trans c, h.no, h.one⟩
theorem SpRow.lt {w : World} {pa : Option Addr} {L : List Sp} (h : SpRow w pa L) (g o : Nat) (hne : L ≠ []) (e : pa = some ⟨g, o, none⟩) : g < w.heap.size := by
  obtain ⟨g', o', e', hg⟩ := h.place hne
  rw [e] at e'; cases e'; exact hg
set_option maxRecDepth 100000 in
theorem open_steps {H : Type} {enc : TypeId × Value → H} {W : World} {v : Value} {d : DataW H} {pl : List MemPlace} {base : Nat}
    (hv : Value.okWide Try.prog W .any base 23 v) (h : DataW.Trod enc Try.prog W 0 (fun _ => true) true 23 v d pl) :
    ∃ (L : List Sp) (pa : Option Addr) (pc : Nat), v = .slice pa L.length pc ∧ SpRow W pa L ∧ L.length + 1 ≤ Rows.uptoBulk d := by
  obtain ⟨a0, len, cap, rfl⟩ := okWide_slice Try.underlying23 hv
  obtain ⟨fuel, hf⟩ := h
  rcases Deep.open_slice Try.underlying23 hf with ⟨hcs, hx⟩ | ⟨a, len', cap', mm, nn, D, Pl, hcs, _, hl, hm, hmm, hx, hel⟩
  · simp [Value.cells] at hcs
    obtain ⟨rfl, rfl, rfl⟩ := hcs
    exact ⟨[], none, 0, rfl, ⟨fun e => absurd rfl e, fun g o e => (by cases e), fun s hs => (by cases hs), fun s hs => (by cases hs)⟩, bulk_one _⟩
  · simp [Value.cells] at hcs
    obtain ⟨rfl, rfl, rfl⟩ := hcs
    simp only [Prod.mk.injEq] at hx
    obtain ⟨rfl, _⟩ := hx
    have hmc : mm = cap := by simpa using hmm
    subst hmc
    rw [Rows.uptoBulk]
    rw [Try.cellsStep] at hel
    obtain ⟨T, hT⟩ := Deep.choose_lt (α := Sp) (n := len) (p := fun i t => W.cells? 0 (a.add (i * 9)) 9 = some (spC t) ∧ t.no < 4294967296 ∧ t.av.oneCell' = true ∧ t.fv.oneCell' = true) (fun i hi => by
        obtain ⟨cs', h1, h2⟩ := hel i (by omega)
        obtain ⟨t, r1, r2⟩ := open_step_in h2
        exact ⟨t, r1 ▸ h1, r2⟩)
    have hsum := bulk_len ((List.range len).map D)
    have hlen : ((List.range len).map T).length = len := by simp
    simp only [List.length_map, List.length_range] at hsum
    by_cases h0 : len = 0
    · subst h0
      exact ⟨[], some a, mm, rfl, ⟨fun e => absurd rfl e, fun g o e i s hs => (by simp at hs), fun s hs => (by cases hs), fun s hs => (by cases hs)⟩, Nat.le_add_left _ _⟩
    · obtain ⟨hc0, _⟩ := hT 0 (by omega)
      obtain ⟨_, hcl0, hce0⟩ := World.cells?_some hc0
      have hc0 := hce0 0 (by omega)
      rw [List.getElem?_eq_getElem (by omega)] at hc0
      obtain ⟨b, off, spot⟩ := a
      have hspot : spot = none := by simpa [Addr.add] using World.cell?_spot hc0
      subst hspot
      have hbl : b < W.heap.size := by simpa [Addr.add] using World.block_lt_of_cell? _ _ hc0
      refine ⟨(List.range len).map T, some ⟨b, off, none⟩, mm, by rw [hlen], ⟨fun _ => ⟨b, off, rfl, hbl⟩, ?_, ?_, ?_⟩, by omega⟩
      · intro g o e i s hs
        cases e
        have hk1 : i < len := by
          have := (List.getElem?_eq_some_iff.1 hs).1
          omega
        have hkt : s = T i := by
          rw [List.getElem?_map, List.getElem?_range hk1] at hs
          simpa using hs.symm
        subst hkt
        obtain ⟨h1, _⟩ := hT i hk1
        obtain ⟨_, hcl, hce⟩ := World.cells?_some h1
        intro j v hj
        have hj9 : j < 9 := (List.getElem?_eq_some_iff.1 hj).1
        have g0 := hce j (by omega)
        rw [hj, add_plain, add_plain] at g0
        exact g0
      · intro s hs
        obtain ⟨i, hi, rfl⟩ := List.mem_map.1 hs
        exact (hT i (List.mem_range.1 hi)).2.1
      · intro s hs
        obtain ⟨i, hi, rfl⟩ := List.mem_map.1 hs
        exact (hT i (List.mem_range.1 hi)).2.2
end Go.Proofs.Ytjiaepeglghheaa
