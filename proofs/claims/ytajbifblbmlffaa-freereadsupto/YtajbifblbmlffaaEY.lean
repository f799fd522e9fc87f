/- free: Plan, where one page and one list page come out of spares. -/
import Derived.Test.YtajbifblbmlffaaEX
namespace Go.Proofs.Ytajbifblbmlffaa
open Go.RowKit Go.Maps

theorem four_all {w : World} {b : Nat} {x0 x1 x2 x3 : Value} {t : TypeId} (h : w.heap[b]? = some (.cells #[x0, x1, x2, x3] t (0, 0))) (v0 v1 v2 v3 : Value) : ((((w.setCell ⟨b, 0, none⟩ v0).setCell ⟨b, 1, none⟩ v1).setCell ⟨b, 2, none⟩ v2).setCell ⟨b, 3, none⟩ v3).heap[b]? = some (.cells #[v0, v1, v2, v3] t (0, 0)) := by
  simp [World.setCell, Array.getElem?_modify, h]
set_option maxRecDepth 100000 in
set_option maxHeartbeats 2000000 in
theorem plan_one {p q : Int} {x : Nee} {no bt no2 a1 a2 : Nat} {S'' : List (Nat × Nat)} (w : World) (h : NeeAt w x) (hfr : frameP p q = true) (h1 : 2 ≤ x.pages) (h2 : x.pages ≤ x.most) (h3 : x.most ≤ 65536) (ht : x.trees = 1)
    (hok : (ocD p q x.pages (.map []) x.L).1 = true) (hok2 : (ownD x.pages (ocD p q x.pages (.map []) x.L).2 x.rs).1 = true)
    (hS : spL (loD (.map []) x.hs) 0 x.L = (no, bt) :: (no2, bt) :: S'') (hbt : bt < x.L.length)
    (hz1 : 0 < Maps.size (delN (opD (loD (.map []) x.rs) (x.L.take (bt + 1))) no)) (hz1' : Maps.size (delN (opD (loD (.map []) x.rs) (x.L.take (bt + 1))) no) ≤ 1000) (hz2 : Maps.size (delN (delN (opD (loD (.map []) x.rs) (x.L.take (bt + 1))) no) no2) = 2)
    (hD : ∀ z : Nat, hasN (delN (delN (opD (loD (.map []) x.rs) (x.L.take (bt + 1))) no) no2) z = true ↔ (z = a1 ∨ z = a2)) (hab : a1 < a2) :
    Calls Try.prog 17 #[frameV p q, .agg x.cells] w fun e w' => ∃ (ta : Option Addr) (tc bg c g c3 : Nat), e = .returned (.tuple #[.agg #[.slice ta 1 tc, .slice (some ⟨bg, 0, none⟩) 1 c, .int .i64 ((bt + 1 : Nat) : Int), .int .u32 (x.pages : Int)], .int .i64 0]) ∧ (∃ tb, NRow w' ta tb 0 [no]) ∧ w'.cell? ⟨bg, 0, none⟩ = some (.int .u32 (no2 : Int)) ∧ w'.cell? ⟨bg, 1, none⟩ = some (.slice (some ⟨g, 0, none⟩) 2 c3) ∧ NRow w' (some ⟨g, 0, none⟩) g 0 [a1, a2] ∧ Same w w' := by
  have HK : Hid (∀ W, Same w W → Calls Try.prog 34 #[.agg #[.int .i64 p, .int .i64 q], .agg x.cells] W fun e w' => e = .returned (.int .i64 0) ∧ Same W w') := fun W s => fasked_good W (h.same s) hfr h1 h2 h3 (by omega) hok hok2
  have HBe : Hid (∀ W, Same w W → Calls Try.prog 35 #[.agg x.cells] W fun e w' => ∃ mb M, e = .returned (.pointer (some ⟨mb, 0, none⟩)) ∧ MkAt W w' mb M ∧ M.ca = x.ca ∧ M.cc = x.cc ∧ M.cl = x.L.length ∧ M.S = spL (loD (.map []) x.hs) 0 x.L ∧ M.opened = 0 ∧ M.n = x.rs.length ∧ M.D = loD (.map []) x.rs ∧ M.en = x.pages ∧ M.mo = x.most) := fun W s => begun_calls W (h.same s)
  have HE : Hid (∀ W, Calls Try.prog 20 #[.agg #[.int .i64 p, .int .i64 q]] W fun e w' => e = .returned (.int .i64 (entN p q : Int)) ∧ Same W w') := entries_calls p q
  have HEN : Hid (2 ≤ entN p q ∧ entN p q ≤ 100000) := by
    rcases entN_cases p q with ⟨e, _⟩ | ⟨_, e2, e3, e4, e5⟩
    · rw [hfr] at e; cases e
    · exact ⟨by omega, by omega⟩
  obtain ⟨V, hV⟩ : ∃ V, V = ((w.alloc (.cells #[.int .i64 p, .int .i64 q] 23)).alloc (.cells x.cells 67)).alloc (.cells #[.slice none 0 0, .slice none 0 0, .int .i64 0, .int .u32 0] 63) := ⟨_, rfl⟩
  have sx : Same w V := by rw [hV]; exact (((Fr.refl _ w).alloc _).alloc _).alloc _
  have HNA : Hid (NeeAt w x) := h
  have r0 : V.heap[w.heap.size]? = some (.cells #[.int .i64 p, .int .i64 q] 23 (0, 0)) := by rw [hV]; exact ((((Fr.refl (fun _ => False) (w.alloc (.cells #[.int .i64 p, .int .i64 q] 23))).alloc _).alloc _).block _ (by simp) (fun f => f)).trans (heap_alloc_new w _)
  have r1 : V.heap[w.heap.size + 1]? = some (.cells x.cells 67 (0, 0)) := by
    rw [hV]
    have := heap_alloc_new (w.alloc (.cells #[.int .i64 p, .int .i64 q] 23)) (.cells x.cells 67)
    rw [World.size_alloc] at this
    exact (((Fr.refl (fun _ => False) _).alloc _).block _ (lt_of_heap this) (fun f => f)).trans this
  have r2 : V.heap[w.heap.size + 1 + 1]? = some (.cells #[.slice none 0 0, .slice none 0 0, .int .i64 0, .int .u32 0] 63 (0, 0)) := by
    rw [hV]
    have := heap_alloc_new ((w.alloc (.cells #[.int .i64 p, .int .i64 q] 23)).alloc (.cells x.cells 67)) (.cells #[.slice none 0 0, .slice none 0 0, .int .i64 0, .int .u32 0] 63)
    simpa using this
  have HC : Hid (∀ W, Same V W → (W.cell? ⟨w.heap.size, 0, none⟩ = some (.int .i64 p) ∧ W.cell? ⟨w.heap.size, 1, none⟩ = some (.int .i64 q)) ∧ W.cell? ⟨w.heap.size + 1, 0, none⟩ = some (.slice x.ca x.L.length x.cc) ∧ W.cell? ⟨w.heap.size + 1, 1, none⟩ = some (.int .u32 (x.pages : Int)) ∧ W.cell? ⟨w.heap.size + 1, 2, none⟩ = some (.slice x.ha x.hs.length x.hc) ∧ W.cell? ⟨w.heap.size + 1, 3, none⟩ = some (.int .i64 (x.trees : Int)) ∧ W.cell? ⟨w.heap.size + 1, 4, none⟩ = some (.slice x.ra x.rs.length x.rc) ∧ W.cell? ⟨w.heap.size + 1, 5, none⟩ = some (.int .u32 (x.most : Int))) := fun W f => by
    have e0 := (f.block _ (lt_of_heap r0) (fun f => f)).trans r0
    have e1 := (f.block _ (lt_of_heap r1) (fun f => f)).trans r1
    exact ⟨⟨(cell_of_row _ _ _ _ _ _ e0).trans rfl, (cell_of_row _ _ _ _ _ _ e0).trans rfl⟩, (cell_of_row _ _ _ _ _ _ e1).trans rfl, (cell_of_row _ _ _ _ _ _ e1).trans rfl, (cell_of_row _ _ _ _ _ _ e1).trans rfl, (cell_of_row _ _ _ _ _ _ e1).trans rfl, (cell_of_row _ _ _ _ _ _ e1).trans rfl, (cell_of_row _ _ _ _ _ _ e1).trans rfl⟩
  have HR2 : Hid (V.heap[w.heap.size + 1 + 1]? = some (.cells #[.slice none 0 0, .slice none 0 0, .int .i64 0, .int .u32 0] 63 (0, 0)) ∧ V.heap.size = w.heap.size + 3) := ⟨r2, by rw [hV]; simp⟩
  have HALL : Hid (x.trees = 1 ∧ spL (loD (.map []) x.hs) 0 x.L = (no, bt) :: (no2, bt) :: S'' ∧ bt < x.L.length) := ⟨ht, hS, hbt⟩
  have HDD : Hid (0 < Maps.size (delN (opD (loD (.map []) x.rs) (x.L.take (bt + 1))) no) ∧ Maps.size (delN (opD (loD (.map []) x.rs) (x.L.take (bt + 1))) no) ≤ 1000 ∧ Maps.size (delN (delN (opD (loD (.map []) x.rs) (x.L.take (bt + 1))) no) no2) = 2 ∧ (∀ z : Nat, hasN (delN (delN (opD (loD (.map []) x.rs) (x.L.take (bt + 1))) no) no2) z = true ↔ (z = a1 ∨ z = a2)) ∧ a1 < a2) := ⟨hz1, hz1', hz2, hD, hab⟩
  obtain ⟨⟨a0, a1'⟩, b0, b1, b2, b3, b4, b5⟩ := HC.out V (Fr.refl _ V)
  rw [hV] at a0 a1' b0 b1 b2 b3 b4 b5
  clear h hfr h1 h2 h3 ht hok hok2 hS hbt hz1 hz1' hz2 hD hab r0 r1 r2
  unfold Nee.cells at hV HK HBe a0 a1' b0 b1 b2 b3 b4 b5 ⊢
  go_enter Try.func17, Try.ntmps17
  go_wp2_with fail
  rw [← hV]
  clear hV a0 a1' b0 b1 b2 b3 b4 b5
  refine (HK.out _ sx).mono ?_
  rintro e W1 ⟨rfl, s1⟩
  obtain ⟨⟨a0, a1'⟩, b0, b1, b2, b3, b4, b5⟩ := HC.out W1 s1
  have HS1 : Hid (Same V W1) := s1
  clear s1
  go_wp2_with fail
  refine (HBe.out _ (sx.trans HS1.out)).mono ?_
  rintro e W2 ⟨mb, M, rfl, m2, e1, e2, e3, e4, e5, e6, e7, e8, e9⟩
  clear a0 a1' b0 b1 b2 b3 b4 b5
  have HM2 : Hid (MkAt W1 W2 mb M ∧ M.ca = x.ca ∧ M.cl = x.L.length ∧ M.S = (no, bt) :: (no2, bt) :: S'' ∧ M.opened = 0 ∧ M.n = x.rs.length ∧ M.D = loD (.map []) x.rs ∧ M.en = x.pages) := ⟨m2, e1, e3, e4.trans HALL.out.2.1, e5, e6, e7, e8⟩
  have HS2 : Hid (Same V W2) := HS1.out.trans m2.base
  obtain ⟨⟨a0, a1'⟩, b0, b1, b2, b3, b4, b5⟩ := HC.out W2 HS2.out
  rw [HALL.out.1] at b3
  have b3' : W2.cell? ⟨w.heap.size + 1, 3, none⟩ = some (.int .i64 1) := b3
  clear m2 e1 e2 e3 e4 e5 e6 e7 e8 e9 b3
  go_wp2_with fail
  obtain ⟨mm2, f2a, f2b, f2c, f2d, f2e, f2f, f2g⟩ := HM2.out
  have hchn : BtRow W1 M.ca x.cb x.co x.L := by rw [f2a]; exact HNA.out.chain.same (sx.trans HS1.out)
  have HCHN : Hid (BtRow W1 M.ca x.cb x.co x.L) := hchn
  refine (trees_one mm2 hchn f2b f2c HALL.out.2.2 HNA.out.bc (by omega) (by have := HNA.out.bc; have := HNA.out.br; omega)).mono ?_
  rintro e W3 ⟨ta, tc, rfl, ow, ⟨sa, so, sc, n', hn', m3⟩, f3⟩
  have HM3 : Hid (MkAt W1 W3 mb { M with sa := sa, so := so, sc := sc, S := (no2, bt) :: S'', opened := bt + 1, n := n', D := delN (opD (loD (.map []) x.rs) (x.L.take (bt + 1))) no }) := by
    have := m3
    rw [f2f, f2d] at this
    simp only [List.drop_zero, Nat.sub_zero] at this
    exact this
  have HGE : Hid (V.heap.size ≤ mb ∧ V.heap.size ≤ M.lb) := ⟨by have := mm2.ge.1; have := HS1.out.size; omega, by have := mm2.ge.2; have := HS1.out.size; omega⟩
  have HS3 : Hid (Same V W3) := Fr.trans HS2.out f3 (fun k hk e => by have := HGE.out; omega)
  have HOW : Hid (W3.ownsRow W2.heap.size 28 1 (.slice ta 1 tc) 1 (ncells [no])) := ow
  have HEN2 : Hid (M.en = x.pages) := f2g
  clear mm2 f2a f2b f2c f2d f2e f2f f2g hchn ow m3 f3 hn' a0 a1' b0 b1 b2 b3' b4 b5
  obtain ⟨⟨a0, a1'⟩, b0, b1, b2, b3, b4, b5⟩ := HC.out W3 HS3.out
  go_wp2_with fail
  refine (HE.out _).mono ?_
  rintro e W4 ⟨rfl, s4⟩
  have HM4 : Hid (MkAt W1 W4 mb { M with sa := sa, so := so, sc := sc, S := (no2, bt) :: S'', opened := bt + 1, n := n', D := delN (opD (loD (.map []) x.rs) (x.L.take (bt + 1))) no }) := HM3.out.same s4
  have HS4 : Hid (Same V W4) := HS3.out.trans s4
  have HOW4 : Hid (W4.ownsRow W2.heap.size 28 1 (.slice ta 1 tc) 1 (ncells [no])) := own_frameB HOW.out s4 (fun _ _ e => e)
  clear s4 a0 a1' b0 b1 b2 b3 b4 b5
  go_wp2_with fail
  refine (lists_one HM4.out rfl (by show bt < bt + 1; omega) HDD.out.1 HDD.out.2.1 HDD.out.2.2.1 HDD.out.2.2.2.1 HDD.out.2.2.2.2 HEN.out.1 HEN.out.2).mono ?_
  rintro e W5 ⟨bg, c5, g, c3, rfl, k1, k2, k3, k4, k5, ⟨sa5, so5, sc5, m5⟩, f5⟩
  have HK5 : Hid (W5.cell? ⟨bg, 0, none⟩ = some (.int .u32 (no2 : Int)) ∧ W5.cell? ⟨bg, 1, none⟩ = some (.slice (some ⟨g, 0, none⟩) 2 c3) ∧ NRow W5 (some ⟨g, 0, none⟩) g 0 [a1, a2] ∧ W4.heap.size ≤ bg ∧ W4.heap.size ≤ g) := ⟨k1, k2, k3, k4, k5⟩
  have HS5 : Hid (Same V W5) := Fr.trans HS4.out f5 (fun k hk e => by
    have h1 := HGE.out
    rcases e with e | e
    · omega
    · have e' : k = M.lb := e
      omega)
  have HOW5 : Hid (W5.ownsRow W2.heap.size 28 1 (.slice ta 1 tc) 1 (ncells [no])) := own_frameB HOW4.out f5 (fun k hk e => HM4.out.neRow HOW4.out (by decide) k hk e)
  obtain ⟨_, _, q2, _, q4, _⟩ := m5.cell
  have q2' : W5.cell? ⟨mb, 2, none⟩ = some (.int .i64 ((bt + 1 : Nat) : Int)) := q2
  have q4' : W5.cell? ⟨mb, 4, none⟩ = some (.int .u32 (x.pages : Int)) := by rw [← HEN2.out]; exact q4
  have hres := (HS5.out.block _ (lt_of_heap HR2.out.1) (fun f => f)).trans HR2.out.1
  clear k1 k2 k3 k4 k5 m5 f5 q2 q4
  have p0 : W5.cell? ⟨w.heap.size + 1 + 1, 0, none⟩ = some (.slice none 0 0) := (cell_of_row _ _ _ _ _ _ hres).trans rfl
  have p1 : W5.cell? ⟨w.heap.size + 1 + 1, 1, none⟩ = some (.slice none 0 0) := (cell_of_row _ _ _ _ _ _ hres).trans rfl
  have p2 : W5.cell? ⟨w.heap.size + 1 + 1, 2, none⟩ = some (.int .i64 0) := (cell_of_row _ _ _ _ _ _ hres).trans rfl
  have p3 : W5.cell? ⟨w.heap.size + 1 + 1, 3, none⟩ = some (.int .u32 0) := (cell_of_row _ _ _ _ _ _ hres).trans rfl
  have pz : ∀ o, W5.frozen? ⟨w.heap.size + 1 + 1, o, none⟩ = false := fun o => by simp [World.frozen?, hres]
  have z0 := pz 0
  have z1 := pz 1
  have z2 := pz 2
  have z3 := pz 3
  have HRES : Hid (W5.heap[w.heap.size + 1 + 1]? = some (.cells #[.slice none 0 0, .slice none 0 0, .int .i64 0, .int .u32 0] 63 (0, 0))) := hres
  clear pz hres
  go_wp2_with fail
  go_region
  have r7 := four_all HRES.out (.slice ta 1 tc) (.slice (some ⟨bg, 0, none⟩) 1 c5) (.int .i64 ((bt : Int) + 1)) (.int .u32 (x.pages : Int))
  have f7 : Fr (fun k => k = w.heap.size + 1 + 1) W5 ((((W5.setCell ⟨w.heap.size + 1 + 1, 0, none⟩ (.slice ta 1 tc)).setCell ⟨w.heap.size + 1 + 1, 1, none⟩ (.slice (some ⟨bg, 0, none⟩) 1 c5)).setCell ⟨w.heap.size + 1 + 1, 2, none⟩ (.int .i64 ((bt : Int) + 1))).setCell ⟨w.heap.size + 1 + 1, 3, none⟩ (.int .u32 (x.pages : Int))).drew := Fr.drew (((((Fr.refl (fun k => k = w.heap.size + 1 + 1) W5).setCell (p := ⟨w.heap.size + 1 + 1, 0, none⟩) (fun _ => rfl) _).setCell (p := ⟨w.heap.size + 1 + 1, 1, none⟩) (fun _ => rfl) _).setCell (p := ⟨w.heap.size + 1 + 1, 2, none⟩) (fun _ => rfl) _).setCell (p := ⟨w.heap.size + 1 + 1, 3, none⟩) (fun _ => rfl) _)
  obtain ⟨X, hX⟩ : ∃ X, X = ((((W5.setCell ⟨w.heap.size + 1 + 1, 0, none⟩ (.slice ta 1 tc)).setCell ⟨w.heap.size + 1 + 1, 1, none⟩ (.slice (some ⟨bg, 0, none⟩) 1 c5)).setCell ⟨w.heap.size + 1 + 1, 2, none⟩ (.int .i64 ((bt : Int) + 1))).setCell ⟨w.heap.size + 1 + 1, 3, none⟩ (.int .u32 (x.pages : Int))).drew := ⟨_, rfl⟩
  have r8 : X.heap[w.heap.size + 1 + 1]? = some (.cells #[.slice ta 1 tc, .slice (some ⟨bg, 0, none⟩) 1 c5, .int .i64 ((bt : Int) + 1), .int .u32 (x.pages : Int)] 63 (0, 0)) := by rw [hX]; exact r7
  rw [← hX] at f7 ⊢
  have HX8 : Hid (X.heap[w.heap.size + 1 + 1]? = some (.cells #[.slice ta 1 tc, .slice (some ⟨bg, 0, none⟩) 1 c5, .int .i64 ((bt : Int) + 1), .int .u32 (x.pages : Int)] 63 (0, 0)) ∧ Fr (fun k => k = w.heap.size + 1 + 1) W5 X) := ⟨r8, f7⟩
  clear hX r7 r8 f7 p0 p1 p2 p3 z0 z1 z2 z3 q2' q4'
  go_wp2_with fail
  obtain ⟨r8, f8⟩ := HX8.out
  obtain ⟨k1, k2, k3, k4, k5⟩ := HK5.out
  have hv := HR2.out.2
  have hv4 := HS4.out.size
  have hv2 := HS2.out.size
  refine bodyPost_ret (results_row_tmp1 rfl _ _ _ _ _ _ _ rfl r8 Try.underlying63 rfl (by kernel_rfl)) rfl ?_
  obtain ⟨tb, hnr⟩ := own_nrow (own_frameB HOW5.out f8 (fun k hk e => by have := own_blk HOW5.out k hk; omega)) rfl
  refine ⟨ta, tc, bg, c5, g, c3, rfl, ⟨tb, hnr⟩, (f8.cell (World.block_lt_of_cell? _ _ k1) (by simp only; omega)).trans k1, (f8.cell (World.block_lt_of_cell? _ _ k2) (by simp only; omega)).trans k2, k3.fr f8 (fun _ e => by omega), Fr.trans (sx.trans HS5.out) f8 (fun k hk e => by omega)⟩
end Go.Proofs.Ytajbifblbmlffaa
