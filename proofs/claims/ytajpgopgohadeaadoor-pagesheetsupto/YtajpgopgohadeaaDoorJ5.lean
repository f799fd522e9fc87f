/- Blocks, numbers and Sheets that come in, opened. -/
import Derived.Test.YtajpgopgohadeaaDoorJ4
import Derived.Test.YtajpgopgohadeaaDoorGU
import Derived.Test.YtajpgopgohadeaaDoorRows
import Derived.Deep.Slices
import Derived.Deep.Strs
namespace Go.Proofs.YtajpgopgohadeaaDoor
open Go.ChangeShapes Go.WideShapes Go.ChangeAt Go.RowKit Go.Joins

theorem bulk_one {H : Type} (d : DataW H) : 1 ≤ Rows.uptoBulk d := by
  cases d with
  | lit l => cases l <;> simp [Rows.uptoBulk]
  | _ => simp [Rows.uptoBulk]
theorem bulk_len {H : Type} (l : List (DataW H)) : l.length ≤ Rows.uptoBulkAll l := by
  induction l with
  | nil => exact Nat.zero_le _
  | cons d l ih => have := bulk_one d; rw [Rows.uptoBulkAll, List.length_cons]; omega
theorem Tryd.cellsBlock : Tryd.prog.cellsOf 53 = 3 := by kernel_rfl
theorem Tryd.cellsSheets : Tryd.prog.cellsOf 27 = 4 := by kernel_rfl
set_option maxRecDepth 100000 in
theorem open_block {H : Type} {enc : TypeId × Value → H} {W : World} {cs : List Value} {x : DataW H × List MemPlace} {fuel : Nat} (hz : cs.length = 3)
    (hf : DataW.trod enc Tryd.prog W 0 (fun _ => true) true fuel 53 cs = some x) : ∃ b : Blk, cs = [.int .u32 b.1, .string b.2.1, .int .i64 b.2.2] := by
  obtain ⟨a0, a1, a2, rfl⟩ : ∃ x y z, cs = [x, y, z] := by
    match cs, hz with
    | [x, y, z], _ => exact ⟨x, y, z, rfl⟩
  obtain ⟨y0, y1, y2, n, hx, _, f0, f1, f2⟩ := Deep.trod_struct3 Tryd.underlying53 hf
  have c1 : Tryd.prog.cellsOf 29 = 1 := by kernel_rfl
  have c2 : Tryd.prog.cellsOf 9 = 1 := by kernel_rfl
  have c3 : Tryd.prog.cellsOf 33 = 1 := by kernel_rfl
  simp only [c1, c2, c3, List.drop_succ_cons, List.drop_zero, List.take_succ_cons, List.take_zero] at f0 f1 f2
  obtain ⟨i0, e0, _, w0⟩ := DataW.trod_int Tryd.underlying29 f0
  obtain ⟨b, e1, _, _⟩ := DataW.trod_string Tryd.underlying9 f1
  obtain ⟨i2, e2, _, _⟩ := DataW.trod_int Tryd.underlying33 f2
  simp only [List.cons.injEq, and_true] at e0 e1 e2
  subst e0; subst e1; subst e2
  obtain ⟨k0, rfl⟩ := Int.eq_ofNat_of_zero_le (bounds_u32 w0).1
  exact ⟨(k0, b, i2), rfl⟩
set_option maxRecDepth 100000 in
theorem open_blocks_in {H : Type} {enc : TypeId × Value → H} {W : World} {cs : List Value} {x : DataW H × List MemPlace} {fuel : Nat}
    (hf : DataW.trod enc Tryd.prog W 0 (fun _ => true) true fuel 24 cs = some x) :
    ∃ (L : List Blk) (pa : Option Addr) (pb po pc : Nat), cs = [.slice pa L.length pc] ∧ LAt W pa pb po L ∧ L.length ≤ Rows.uptoBulk x.1 := by
  rcases Deep.open_slice Tryd.underlying24 hf with ⟨rfl, rfl⟩ | ⟨a, len, cap, mm, nn, D, Pl, rfl, _, hl, hm, hmm, rfl, hel⟩
  · exact ⟨[], none, 0, 0, 0, rfl, ⟨fun e => absurd rfl e, fun j s hj => by simp at hj⟩, Nat.zero_le _⟩
  · have hmc : mm = cap := by simpa using hmm
    subst hmc
    rw [Tryd.cellsBlock] at hel
    have hbk := bulk_len ((List.range len).map D)
    rw [List.length_map, List.length_range] at hbk
    simp only [Rows.uptoBulk]
    obtain ⟨T, hT⟩ := Deep.choose_lt (α := Blk) (n := len) (p := fun i t => ∃ cs, W.cells? 0 (a.add (i * 3)) 3 = some cs ∧ cs = [.int .u32 t.1, .string t.2.1, .int .i64 t.2.2]) (fun i hi => by
        obtain ⟨cs', h1, h2⟩ := hel i (by omega)
        obtain ⟨_, hcl, _⟩ := World.cells?_some h1
        obtain ⟨t, r1⟩ := open_block hcl h2
        exact ⟨t, cs', h1, r1⟩)
    have hlen : ((List.range len).map T).length = len := by simp
    by_cases h0 : len = 0
    · subst h0
      exact ⟨[], some a, 0, 0, mm, rfl, ⟨fun e => absurd rfl e, fun j s hj => by simp at hj⟩, Nat.zero_le _⟩
    · obtain ⟨cs0, hc0, _⟩ := hT 0 (by omega)
      obtain ⟨_, hcl0, hce0⟩ := World.cells?_some hc0
      have hc0 := hce0 0 (by omega)
      rw [List.getElem?_eq_getElem (by omega)] at hc0
      obtain ⟨b, off, spot⟩ := a
      have hspot : spot = none := by simpa [Addr.add] using World.cell?_spot hc0
      subst hspot
      have hbl : b < W.heap.size := by simpa [Addr.add] using World.block_lt_of_cell? _ _ hc0
      refine ⟨(List.range len).map T, some ⟨b, off, none⟩, b, off, mm, by rw [hlen], ⟨fun _ => ⟨rfl, hbl⟩, ?_⟩, by rw [hlen]; omega⟩
      intro k t hk
      have hk1 : k < len := by
        have := (List.getElem?_eq_some_iff.1 hk).1
        omega
      have hkt : t = T k := by
        rw [List.getElem?_map, List.getElem?_range hk1] at hk
        simpa using hk.symm
      subst hkt
      obtain ⟨cs, hc1, hc2⟩ := hT k hk1
      obtain ⟨_, _, hce⟩ := World.cells?_some hc1
      subst hc2
      refine ⟨?_, ?_, ?_⟩
      · have := hce 0 (by omega)
        rw [Addr.add_mid, Addr.add_mid, Nat.mul_comm k 3] at this
        exact this
      · have := hce 1 (by omega)
        rw [Addr.add_mid, Addr.add_mid, Nat.mul_comm k 3] at this
        exact this
      · have := hce 2 (by omega)
        rw [Addr.add_mid, Addr.add_mid, Nat.mul_comm k 3] at this
        exact this
set_option maxRecDepth 100000 in
theorem open_nums_in {H : Type} {enc : TypeId × Value → H} {W : World} {cs : List Value} {x : DataW H × List MemPlace} {fuel : Nat}
    (hf : DataW.trod enc Tryd.prog W 0 (fun _ => true) true fuel 25 cs = some x) :
    ∃ (A : List Nat) (pa : Option Addr) (pb po pc : Nat), cs = [.slice pa A.length pc] ∧ AAt W pa pb po A ∧ A.length ≤ Rows.uptoBulk x.1 := by
  rcases Deep.open_slice1 Tryd.underlying25 (by kernel_rfl) hf with ⟨rfl, rfl⟩ | ⟨a, len, cap, mm, nn, V, D, Pl, rfl, _, hl, hm, hmm, rfl, hel⟩
  · exact ⟨[], none, 0, 0, 0, rfl, ⟨fun e => absurd rfl e, fun j s hj => by simp at hj⟩, Nat.zero_le _⟩
  · have hmc : mm = cap := by simpa using hmm
    subst hmc
    have hbk := bulk_len ((List.range len).map D)
    rw [List.length_map, List.length_range] at hbk
    simp only [Rows.uptoBulk]
    obtain ⟨T, hT⟩ := Deep.choose_lt (α := Nat) (n := len) (p := fun i t => W.cell? (a.add i) = some (.int .u32 t)) (fun i hi => by
        obtain ⟨h1, h2⟩ := hel i (by omega)
        obtain ⟨i0, e0, _, w0⟩ := DataW.trod_int Tryd.underlying29 h2
        simp only [List.cons.injEq, and_true] at e0
        obtain ⟨k0, rfl⟩ := Int.eq_ofNat_of_zero_le (bounds_u32 w0).1
        exact ⟨k0, by rw [h1, e0]⟩)
    have hlen : ((List.range len).map T).length = len := by simp
    by_cases h0 : len = 0
    · subst h0
      exact ⟨[], some a, 0, 0, mm, rfl, ⟨fun e => absurd rfl e, fun j s hj => by simp at hj⟩, Nat.zero_le _⟩
    · have hc0 := hT 0 (by omega)
      obtain ⟨b, off, spot⟩ := a
      have hspot : spot = none := by simpa [Addr.add] using World.cell?_spot hc0
      subst hspot
      have hbl : b < W.heap.size := by simpa [Addr.add] using World.block_lt_of_cell? _ _ hc0
      refine ⟨(List.range len).map T, some ⟨b, off, none⟩, b, off, mm, by rw [hlen], ⟨fun _ => ⟨rfl, hbl⟩, ?_⟩, by rw [hlen]; omega⟩
      intro k t hk
      have hk1 : k < len := by
        have := (List.getElem?_eq_some_iff.1 hk).1
        omega
      have hkt : t = T k := by
        rw [List.getElem?_map, List.getElem?_range hk1] at hk
        simpa using hk.symm
      subst hkt
      have := hT k hk1
      rw [Addr.add_mid] at this
      exact this
set_option maxRecDepth 100000 in
theorem open_sheets {H : Type} {enc : TypeId × Value → H} {W : World} {v : Value} {d : DataW H} {pl : List MemPlace} {base : Nat}
    (hv : Value.okWide Tryd.prog W .any base 27 v) (h : DataW.Trod enc Tryd.prog W 0 (fun _ => true) true 27 v d pl) :
    ∃ (p q : Int) (L : List Blk) (A : List Nat) (pa : Option Addr) (pb po pc : Nat) (qa : Option Addr) (qb qo qc : Nat), v = sheetsV p q pa L.length pc qa A.length qc ∧ LAt W pa pb po L ∧ AAt W qa qb qo A ∧ L.length ≤ Rows.uptoBulk d ∧ A.length ≤ Rows.uptoBulk d := by
  obtain ⟨cs, rfl, hz⟩ := okWide_struct Tryd.underlying27 hv
  rw [Tryd.cellsSheets] at hz
  obtain ⟨fuel, hf⟩ := h
  obtain ⟨x0, x1, x2, x3, rfl⟩ : ∃ x0 x1 x2 x3, cs = #[x0, x1, x2, x3] := by
    obtain ⟨l⟩ := cs
    match l, hz with
    | [x0, x1, x2, x3], _ => exact ⟨x0, x1, x2, x3, rfl⟩
  obtain ⟨y0, y1, y2, n, hx, _, f0, f1, f2⟩ := Deep.trod_struct3 Tryd.underlying27 hf
  have c3 : Tryd.prog.cellsOf 24 = 1 := by kernel_rfl
  have c4 : Tryd.prog.cellsOf 25 = 1 := by kernel_rfl
  simp only [Value.cells, Tryd.cellsFrame, c3, c4, List.drop_succ_cons, List.drop_zero, List.take_succ_cons, List.take_zero] at f0 f1 f2
  obtain ⟨p, q, e0⟩ := open_frame_in (by rfl) f0
  obtain ⟨L, pa, pb, po, pc, e1, hL, bL⟩ := open_blocks_in f1
  obtain ⟨A, qa, qb, qo, qc, e2, hA, bA⟩ := open_nums_in f2
  simp only [List.cons.injEq, and_true] at e0 e1 e2
  obtain ⟨rfl, rfl⟩ := e0
  subst e1; subst e2
  simp only [Prod.mk.injEq] at hx
  obtain ⟨rfl, _⟩ := hx
  refine ⟨p, q, L, A, pa, pb, po, pc, qa, qb, qo, qc, rfl, hL, hA, ?_, ?_⟩ <;> simp only [Rows.uptoBulk, Rows.uptoBulkAll] <;> omega
end Go.Proofs.YtajpgopgohadeaaDoor
