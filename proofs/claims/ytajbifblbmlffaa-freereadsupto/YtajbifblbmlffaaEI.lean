/- free: asked, of a need that may be; loosen. -/
import Derived.Test.YtajbifblbmlffaaEH
namespace Go.Proofs.Ytajbifblbmlffaa
open Go.RowKit Go.Maps

/-- A need in memory. -/
structure Nee where
  ca : Option Addr
  cb : Nat
  co : Nat
  cc : Nat
  L : List Bt
  pages : Nat
  ha : Option Addr
  hb : Nat
  ho : Nat
  hc : Nat
  hs : List Nat
  trees : Nat
  ra : Option Addr
  rb : Nat
  ro : Nat
  rc : Nat
  rs : List Nat
  most : Nat
def Nee.cells (x : Nee) : Array Value := #[.slice x.ca x.L.length x.cc, .int .u32 (x.pages : Int), .slice x.ha x.hs.length x.hc, .int .i64 (x.trees : Int), .slice x.ra x.rs.length x.rc, .int .u32 (x.most : Int)]
structure NeeAt (w : World) (x : Nee) : Prop where
  chain : BtRow w x.ca x.cb x.co x.L
  held : NRow w x.ha x.hb x.ho x.hs
  rel : NRow w x.ra x.rb x.ro x.rs
  bc : x.L.length ≤ 100
  bh : x.hs.length ≤ 1000
  br : x.rs.length ≤ 1000
  vh : ∀ y ∈ x.hs, y < 4294967296
  vr : ∀ y ∈ x.rs, y < 4294967296
theorem NeeAt.same {w w' : World} {x : Nee} (h : NeeAt w x) (s : Same w w') : NeeAt w' x := ⟨h.chain.same s, h.held.same s, h.rel.same s, h.bc, h.bh, h.br, h.vh, h.vr⟩
set_option maxRecDepth 100000 in
set_option maxHeartbeats 1000000 in
theorem fasked_good {p q : Int} {x : Nee} (w : World) (h : NeeAt w x) (hfr : frameP p q = true) (h1 : 2 ≤ x.pages) (h2 : x.pages ≤ x.most) (h3 : x.most ≤ 65536) (ht : x.trees ≤ 1000000)
    (hok : (ocD p q x.pages (.map []) x.L).1 = true) (hok2 : (ownD x.pages (ocD p q x.pages (.map []) x.L).2 x.rs).1 = true) :
    Calls Try.prog 34 #[frameV p q, .agg x.cells] w fun e w' => e = .returned (.int .i64 0) ∧ Same w w' := by
  have HO : Hid (∀ W, Same w W → Calls Try.prog 11 #[.agg #[.int .i64 p, .int .i64 q], .slice x.ca x.L.length x.cc, .int .u32 (x.pages : Int)] W fun e w' => ∃ b, e = .returned (.tuple #[.agg #[.int .i64 p, .int .i64 q, .int .u32 (x.pages : Int), .map (some b)], .int .i64 0]) ∧ W.heap.size ≤ b ∧ SetAt w' b (1001 * x.L.length) (ocD p q x.pages (.map []) x.L).2 ∧ Same W w') := fun W s => fowned_good W (h.chain.same s) h.bc hfr h1 (by omega) hok
  have HW : Hid (∀ W b, Same w W → w.heap.size ≤ b → SetAt W b (1001 * x.L.length) (ocD p q x.pages (.map []) x.L).2 → Calls Try.prog 27 #[.agg #[.int .i64 p, .int .i64 q, .int .u32 (x.pages : Int), .map (some b)], .slice x.ra x.rs.length x.rc] W fun e w' => e = .returned (.bool true) ∧ Fr (fun k => k = b) W w') := fun W b s hb m => by
    have := fown_calls (p := p) (q := q) (pages := x.pages) (cp := x.rc) W (h.rel.same s) m (by have := h.br; omega) (by have := h.bc; omega) h.vr
    rw [hok2] at this
    exact this.mono fun e w' ⟨e1, e2, e3⟩ => ⟨e1, e3⟩
  obtain ⟨V, hV⟩ : ∃ V, V = (w.alloc (.cells #[.int .i64 p, .int .i64 q] 23)).alloc (.cells x.cells 67) := ⟨_, rfl⟩
  have sx : Same w V := by rw [hV]; exact ((Fr.refl _ w).alloc _).alloc _
  have r0 : V.heap[w.heap.size]? = some (.cells #[.int .i64 p, .int .i64 q] 23 (0, 0)) := by rw [hV]; exact (((Fr.refl (fun _ => False) (w.alloc (.cells #[.int .i64 p, .int .i64 q] 23))).alloc _).block _ (by simp) (fun f => f)).trans (heap_alloc_new w _)
  have r1 : V.heap[w.heap.size + 1]? = some (.cells x.cells 67 (0, 0)) := by
    rw [hV]
    have := heap_alloc_new (w.alloc (.cells #[.int .i64 p, .int .i64 q] 23)) (.cells x.cells 67)
    simpa using this
  have HC : Hid (∀ W, Same V W → (W.cell? ⟨w.heap.size, 0, none⟩ = some (.int .i64 p) ∧ W.cell? ⟨w.heap.size, 1, none⟩ = some (.int .i64 q)) ∧ W.cell? ⟨w.heap.size + 1, 0, none⟩ = some (.slice x.ca x.L.length x.cc) ∧ W.cell? ⟨w.heap.size + 1, 1, none⟩ = some (.int .u32 (x.pages : Int)) ∧ W.cell? ⟨w.heap.size + 1, 3, none⟩ = some (.int .i64 (x.trees : Int)) ∧ W.cell? ⟨w.heap.size + 1, 4, none⟩ = some (.slice x.ra x.rs.length x.rc) ∧ W.cell? ⟨w.heap.size + 1, 5, none⟩ = some (.int .u32 (x.most : Int))) := fun W f => by
    have e0 := (f.block _ (lt_of_heap r0) (fun f => f)).trans r0
    have e1 := (f.block _ (lt_of_heap r1) (fun f => f)).trans r1
    exact ⟨⟨(cell_of_row _ _ _ _ _ _ e0).trans rfl, (cell_of_row _ _ _ _ _ _ e0).trans rfl⟩, (cell_of_row _ _ _ _ _ _ e1).trans rfl, (cell_of_row _ _ _ _ _ _ e1).trans rfl, (cell_of_row _ _ _ _ _ _ e1).trans rfl, (cell_of_row _ _ _ _ _ _ e1).trans rfl, (cell_of_row _ _ _ _ _ _ e1).trans rfl⟩
  have d1 : decide ((x.most : Int) < (x.pages : Int)) = false := decide_eq_false (by omega)
  have d2 : decide ((65536 : Int) < (x.most : Int)) = false := decide_eq_false (by omega)
  have d3 : decide ((x.trees : Int) < 0) = false := decide_eq_false (by omega)
  obtain ⟨⟨a0, a1⟩, b0, b1, b3, b4, b5⟩ := HC.out V (Fr.refl _ V)
  have HVZ : Hid (w.heap.size ≤ V.heap.size) := sx.size
  clear h hfr h1 hok hok2 r0 r1
  rw [hV] at a0 a1 b0 b1 b3 b4 b5
  unfold Nee.cells at hV a0 a1 b0 b1 b3 b4 b5 ⊢
  go_enter Try.func34, Try.ntmps34
  go_wp2_with fail
  rw [← hV]
  clear hV a0 a1 b0 b1 b3 b4 b5 d1 d2 d3 h2 h3
  refine (HO.out _ sx).mono ?_
  rintro e W1 ⟨b, rfl, hb, m1, s1⟩
  obtain ⟨X, hX⟩ : ∃ X, X = W1.alloc (.cells #[.int .i64 p, .int .i64 q, .int .u32 (x.pages : Int), .map (some b)] 48) := ⟨_, rfl⟩
  have sX : Same W1 X := by rw [hX]; exact (Fr.refl _ W1).alloc _
  have gX := heap_alloc_new W1 (.cells #[.int .i64 p, .int .i64 q, .int .u32 (x.pages : Int), .map (some b)] 48)
  rw [← hX] at gX
  have HMX : Hid (SetAt X b (1001 * x.L.length) (ocD p q x.pages (.map []) x.L).2 ∧ w.heap.size ≤ b) := ⟨m1.fr sX (fun f => f), by have := HVZ.out; omega⟩
  have HSX : Hid (Same V X ∧ Same w X) := ⟨s1.trans sX, sx.trans (s1.trans sX)⟩
  obtain ⟨⟨a0, a1⟩, b0, b1, b3, b4, b5⟩ := HC.out X HSX.out.1
  have o0 : X.cell? ⟨W1.heap.size, 0, none⟩ = some (.int .i64 p) := (cell_of_row _ _ _ _ _ _ gX).trans rfl
  have o1 : X.cell? ⟨W1.heap.size, 1, none⟩ = some (.int .i64 q) := (cell_of_row _ _ _ _ _ _ gX).trans rfl
  have o2 : X.cell? ⟨W1.heap.size, 2, none⟩ = some (.int .u32 (x.pages : Int)) := (cell_of_row _ _ _ _ _ _ gX).trans rfl
  have o3 : X.cell? ⟨W1.heap.size, 3, none⟩ = some (.map (some b)) := (cell_of_row _ _ _ _ _ _ gX).trans rfl
  rw [hX] at a0 a1 b0 b1 b3 b4 b5 o0 o1 o2 o3
  clear sX gX m1 s1 hb
  go_wp2_with fail
  rw [← hX]
  clear hX a0 a1 b0 b1 b3 b4 b5 o0 o1 o2 o3
  refine (HW.out _ _ HSX.out.2 HMX.out.2 HMX.out.1).mono ?_
  rintro e W2 ⟨rfl, f2⟩
  go_wp2_with fail
  go_ret
  exact ⟨rfl, Fr.trans HSX.out.2 f2 (fun kk hk e => by have := HMX.out.2; omega)⟩
end Go.Proofs.Ytajbifblbmlffaa
