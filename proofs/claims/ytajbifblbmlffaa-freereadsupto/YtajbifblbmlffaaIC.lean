/- free: awake. -/
import Derived.Test.YtajbifblbmlffaaIB
namespace Go.Proofs.Ytajbifblbmlffaa
open Go.RowKit Go.Maps

theorem small9_calls (w : World) : Calls Try.prog 15 #[] w fun e w' => e = .returned (frameV 1024 32) ∧ Same w w' := by
  go_enter Try.func15, Try.ntmps15
  go_wp2_with fail
  exact bodyPost_ret (results_row_one (p := 0) (ty := 23) (by kernel_rfl) _ _ w.heap.size 23 _ (0, 0) _ rfl (heap_alloc_new w _) Try.underlying23 rfl (by kernel_rfl)) rfl ⟨rfl, (Fr.refl _ w).alloc _⟩
theorem nrow_heap {w : World} {ns : List Nat} {t : TypeId} (g : Nat) (fr : Nat × Nat) (h : w.heap[g]? = some (.cells (ncells ns).toArray t fr)) : NRow w (some ⟨g, 0, none⟩) g 0 ns :=
  ⟨fun _ => ⟨rfl, lt_of_heap h⟩, fun j x hx => by
    have := cell_of_row w g (0 + j) _ t fr h
    rw [this]
    simp [ncells, hx]⟩
/-- The need that awake asks with. -/
def awB (gn : Nat) : Bt := { pg := 6, na := some ⟨gn, 0, none⟩, nb := gn, no := 0, nc := 2, ns := [2, 4] }
def awN (gn gb gr : Nat) : Nee := { ca := some ⟨gb, 0, none⟩, cb := gb, co := 0, cc := 1, L := [awB gn], pages := 7, ha := none, hb := 0, ho := 0, hc := 0, hs := [], trees := 1, ra := some ⟨gr, 0, none⟩, rb := gr, ro := 0, rc := 1, rs := [5], most := 9 }
theorem aw_fr : frameP 1024 32 = true := by decide
theorem aw_body : bodyS 1024 32 0 [5, 9] = ⟨#[0, 0, 0, 0, 0, 0, 0, 2, 0, 0, 0, 5, 0, 0, 0, 9]⟩ := by kernel_rfl
theorem aw_bodyE : bodyE 1024 32 0 [5, 9] = 0 := by kernel_rfl
theorem aw_from : frOk 1024 32 ⟨#[0, 0, 0, 0, 0, 0, 0, 2, 0, 0, 0, 5, 0, 0, 0, 9]⟩ = true := by kernel_rfl
theorem aw_fromN : frNx ⟨#[0, 0, 0, 0, 0, 0, 0, 2, 0, 0, 0, 5, 0, 0, 0, 9]⟩ = 0 := by kernel_rfl
theorem aw_fromS : frNs 1024 32 ⟨#[0, 0, 0, 0, 0, 0, 0, 2, 0, 0, 0, 5, 0, 0, 0, 9]⟩ = [5, 9] := by kernel_rfl
theorem aw_oc (gn : Nat) : (ocD 1024 32 7 (.map []) [awB gn]).1 = true := by kernel_rfl
theorem aw_oc2 (gn : Nat) : (ownD 7 (ocD 1024 32 7 (.map []) [awB gn]).2 [5]).1 = true := by kernel_rfl
theorem aw_sp (gn : Nat) : spL (loD (.map []) []) 0 [awB gn] = [(2, 0), (4, 0)] := by kernel_rfl
theorem aw_D (gn : Nat) : delN (delN (opD (loD (.map []) [5]) [awB gn]) 2) 4 = .map [(.int .u32 5, .agg []), (.int .u32 6, .agg [])] := by kernel_rfl
theorem aw_D1 (gn : Nat) : Maps.size (delN (opD (loD (.map []) [5]) [awB gn]) 2) = 3 := by kernel_rfl
theorem aw_has (gn z : Nat) : hasN (delN (delN (opD (loD (.map []) [5]) [awB gn]) 2) 4) z = true ↔ (z = 5 ∨ z = 6) := by
  rw [aw_D]
  unfold hasN
  rw [Maps.has_eq]
  simp [Lit.sameKey]
  omega
theorem btrow_heap {w : World} {x : Bt} {t : TypeId} (g : Nat) (fr : Nat × Nat) (h : w.heap[g]? = some (.cells #[.int .u32 (x.pg : Int), .slice x.na x.ns.length x.nc] t fr)) (hx : BtOk w x) : BtRow w (some ⟨g, 0, none⟩) g 0 [x] :=
  ⟨fun _ => ⟨rfl, lt_of_heap h⟩, fun j y hy => by
    match j, hy with
    | 0, hy =>
      simp at hy
      subst hy
      exact ⟨(cell_of_row _ _ _ _ _ _ h).trans rfl, (cell_of_row _ _ _ _ _ _ h).trans rfl, hx⟩
    | j + 1, hy => simp at hy⟩
theorem BtOk.br {w : World} {x : Bt} (h : BtOk w x) : BrOk w x := ⟨h.row, by have := h.hl; omega⟩
theorem BtRow.br {w : World} {pa : Option Addr} {pb po : Nat} {L : List Bt} (h : BtRow w pa pb po L) : BrRow w pa pb po L :=
  ⟨h.place, fun j x hx => ⟨(h.cells j x hx).1, (h.cells j x hx).2.1, (h.cells j x hx).2.2.br⟩⟩
theorem aw_need (w : World) : NeeAt (((w.alloc (.cells #[.int .u32 2, .int .u32 4] 28)).alloc (.cells #[.int .u32 6, .slice (some ⟨w.heap.size, 0, none⟩) 2 2] 53)).alloc (.cells #[.int .u32 5] 28)) (awN w.heap.size (w.heap.size + 1) (w.heap.size + 1 + 1)) := by
  have h0 := heap_alloc_new w (.cells #[.int .u32 2, .int .u32 4] 28)
  generalize hA : w.alloc (.cells #[.int .u32 2, .int .u32 4] 28) = A at *
  have hs : A.heap.size = w.heap.size + 1 := by rw [← hA]; simp
  have h1 := heap_alloc_new A (.cells #[.int .u32 6, .slice (some ⟨w.heap.size, 0, none⟩) 2 2] 53)
  have f1 : Same A (A.alloc (.cells #[.int .u32 6, .slice (some ⟨w.heap.size, 0, none⟩) 2 2] 53)) := (Fr.refl _ A).alloc _
  generalize hB : A.alloc (.cells #[.int .u32 6, .slice (some ⟨w.heap.size, 0, none⟩) 2 2] 53) = B at *
  have hs2 : B.heap.size = w.heap.size + 1 + 1 := by rw [← hB]; simp [hs]
  have h2 := heap_alloc_new B (.cells #[.int .u32 5] 28)
  have f2 : Same B (B.alloc (.cells #[.int .u32 5] 28)) := (Fr.refl _ B).alloc _
  generalize hC : B.alloc (.cells #[.int .u32 5] 28) = C at *
  have k0 := ((f1.trans f2).block _ (lt_of_heap h0) (fun f => f)).trans h0
  have k1 := (f2.block _ (lt_of_heap h1) (fun f => f)).trans h1
  rw [hs] at k1
  rw [hs2] at h2
  exact ⟨btrow_heap (x := awB w.heap.size) _ _ k1 ⟨nrow_heap (ns := [2, 4]) _ _ k0, by simp [awB], by simp [awB], by simp [awB]⟩, ⟨fun e => absurd rfl e, fun j x hx => by simp [awN] at hx⟩, nrow_heap (ns := [5]) _ _ h2, by simp [awN], by simp [awN], by simp [awN], by simp [awN], by simp [awN]⟩
theorem aw_plan (w : World) : Calls Try.prog 17 #[frameV 1024 32, .agg #[.slice (some ⟨w.heap.size + 1, 0, none⟩) 1 1, .int .u32 7, .slice none 0 0, .int .i64 1, .slice (some ⟨w.heap.size + 1 + 1, 0, none⟩) 1 1, .int .u32 9]] (((w.alloc (.cells #[.int .u32 2, .int .u32 4] 28)).alloc (.cells #[.int .u32 6, .slice (some ⟨w.heap.size, 0, none⟩) 2 2] 53)).alloc (.cells #[.int .u32 5] 28)) fun e w' => ∃ (ta : Option Addr) (tc bg c tb : Nat) (x : Bt), e = .returned (.tuple #[.agg #[.slice ta 1 tc, .slice (some ⟨bg, 0, none⟩) 1 c, .int .i64 1, .int .u32 7], .int .i64 0]) ∧ NRow w' ta tb 0 [2] ∧ x.key = (4, [5, 6]) ∧ BrRow w' (some ⟨bg, 0, none⟩) bg 0 [x] ∧ Same w w' := by
  have h := plan_one (p := 1024) (q := 32) (no := 2) (bt := 0) (no2 := 4) (a1 := 5) (a2 := 6) (S'' := []) _ (aw_need w) aw_fr (by simp [awN]) (by simp [awN]) (by simp [awN]) rfl (aw_oc _) (aw_oc2 _) (aw_sp _) (by simp [awN]) (by show 0 < Maps.size (delN (opD (loD (.map []) [5]) [awB w.heap.size]) 2); rw [aw_D1]; decide) (by show Maps.size (delN (opD (loD (.map []) [5]) [awB w.heap.size]) 2) ≤ 1000; rw [aw_D1]; decide) (by show Maps.size (delN (delN (opD (loD (.map []) [5]) [awB w.heap.size]) 2) 4) = 2; rw [aw_D]; rfl) (fun z => aw_has w.heap.size z) (by decide)
  refine h.mono ?_
  rintro e w' ⟨ta, tc, bg, c, g, c3, rfl, ⟨tb, n1⟩, k1, k2, n2, s⟩
  refine ⟨ta, tc, bg, c, tb, { pg := 4, na := some ⟨g, 0, none⟩, nb := g, no := 0, nc := c3, ns := [5, 6] }, rfl, n1, rfl, ⟨fun _ => ⟨rfl, World.block_lt_of_cell? _ _ k1⟩, fun j y hy => ?_⟩, Same.trans (((((Fr.refl _ w).alloc _).alloc _).alloc _)) s⟩
  match j, hy with
  | 0, hy =>
    simp at hy
    subst hy
    exact ⟨k1, k2, ⟨n2, by simp⟩⟩
  | j + 1, hy => simp at hy
theorem aw_same {w : World} {ta : Option Addr} {tc bg c tb : Nat} {x : Bt} (hn : NRow w ta tb 0 [2]) (hx : x.key = (4, [5, 6])) (hb : BrRow w (some ⟨bg, 0, none⟩) bg 0 [x]) :
    Calls Try.prog 19 #[.agg #[.slice ta 1 tc, .slice (some ⟨bg, 0, none⟩) 1 c, .int .i64 1, .int .u32 7], .agg #[.slice (some ⟨w.heap.size, 0, none⟩) 1 1, .slice (some ⟨w.heap.size + 1 + 1, 0, none⟩) 1 1, .int .i64 1, .int .u32 7]] (((w.alloc (.cells #[.int .u32 2] 28)).alloc (.cells #[.int .u32 5, .int .u32 6] 28)).alloc (.cells #[.int .u32 4, .slice (some ⟨w.heap.size + 1, 0, none⟩) 2 2] 53)) fun e w' => e = .returned (.bool true) ∧ Same w w' := by
  have h0 := heap_alloc_new w (.cells #[.int .u32 2] 28)
  have f0 : Same w (w.alloc (.cells #[.int .u32 2] 28)) := (Fr.refl _ w).alloc _
  generalize hA : w.alloc (.cells #[.int .u32 2] 28) = A at *
  have hs : A.heap.size = w.heap.size + 1 := by rw [← hA]; simp
  have h1 := heap_alloc_new A (.cells #[.int .u32 5, .int .u32 6] 28)
  have f1 : Same A (A.alloc (.cells #[.int .u32 5, .int .u32 6] 28)) := (Fr.refl _ A).alloc _
  generalize hB : A.alloc (.cells #[.int .u32 5, .int .u32 6] 28) = B at *
  have hs2 : B.heap.size = w.heap.size + 1 + 1 := by rw [← hB]; simp [hs]
  have h2 := heap_alloc_new B (.cells #[.int .u32 4, .slice (some ⟨w.heap.size + 1, 0, none⟩) 2 2] 53)
  have f2 : Same B (B.alloc (.cells #[.int .u32 4, .slice (some ⟨w.heap.size + 1, 0, none⟩) 2 2] 53)) := (Fr.refl _ B).alloc _
  generalize hC : B.alloc (.cells #[.int .u32 4, .slice (some ⟨w.heap.size + 1, 0, none⟩) 2 2] 53) = C at *
  have k0 := ((f1.trans f2).block _ (lt_of_heap h0) (fun f => f)).trans h0
  have k1 := (f2.block _ (lt_of_heap h1) (fun f => f)).trans h1
  rw [hs] at k1
  rw [hs2] at h2
  have fC : Same w C := f0.trans (f1.trans f2)
  obtain ⟨y, hy⟩ : ∃ y : Bt, y = { pg := 4, na := some ⟨w.heap.size + 1, 0, none⟩, nb := w.heap.size + 1, no := 0, nc := 2, ns := [5, 6] } := ⟨_, rfl⟩
  have hrow : BtRow C (some ⟨w.heap.size + 1 + 1, 0, none⟩) (w.heap.size + 1 + 1) 0 [y] := btrow_heap (x := y) _ _ (by rw [hy]; exact h2) (by rw [hy]; exact ⟨nrow_heap (ns := [5, 6]) _ _ k1, by simp, by simp, by simp⟩)
  have h := samePlan_true (tc := tc) (tc2 := 1) (lc := c) (lc2 := 1) (op := 1) (pg := 7) C (hn.same fC) (nrow_heap (ns := [2]) _ _ k0) (by simp) (hb.same fC) hrow.br (by simp only [List.map_cons, List.map_nil]; rw [hx, hy]; rfl) (by simp)
  refine h.mono ?_
  rintro e w' ⟨rfl, s⟩
  exact ⟨rfl, fC.trans s⟩
set_option maxRecDepth 100000 in
set_option maxHeartbeats 2000000 in
theorem awake9_calls (w : World) : Calls Try.prog 5 #[] w fun e w' => e = .returned (.bool true) ∧ Same w w' := by
  have HF : Hid (∀ W, Calls Try.prog 15 #[] W fun e w' => e = .returned (frameV 1024 32) ∧ Same W w') := small9_calls
  go_enter Try.func5, Try.ntmps5
  go_wp2_with fail
  refine (HF.out _).mono ?_
  rintro e W1 ⟨rfl, s1⟩
  go_wp2_with fail
  have HB1 : Hid (Calls Try.prog 14 #[frameV 1024 32, .int .u32 0, .slice (some ⟨W1.heap.size, 0, none⟩) 2 2] (W1.alloc (.cells #[.int .u32 5, .int .u32 9] 28)) fun e w' => e = .returned (.tuple #[.string ⟨#[0, 0, 0, 0, 0, 0, 0, 2, 0, 0, 0, 5, 0, 0, 0, 9]⟩, .int .i64 0]) ∧ Same (W1.alloc (.cells #[.int .u32 5, .int .u32 9] 28)) w') := by
    have h := fbody_calls (p := 1024) (q := 32) (cp := 2) (next := 0) (W1.alloc (.cells #[.int .u32 5, .int .u32 9] 28)) (nrow_heap (ns := [5, 9]) W1.heap.size _ (heap_alloc_new W1 _)) (by decide) (by decide)
    rw [aw_body, aw_bodyE] at h
    exact h
  refine HB1.out.mono ?_
  rintro e W2 ⟨rfl, s2⟩
  have t2 : Same w W2 := s1.trans (Same.trans ((Fr.refl _ W1).alloc _) s2)
  clear HB1 s1 s2
  go_wp2_with fail
  refine (HF.out _).mono ?_
  rintro e W3 ⟨rfl, s3⟩
  have t3 := t2.trans s3
  clear t2 s3
  go_wp2_with fail
  refine (ffrom_calls (p := 1024) (q := 32) _ (by decide) W3).mono ?_
  rintro e W4 ⟨hf, s4⟩
  have HF4 : Hid (∃ ao c gb, e = .returned (.tuple #[.int .u32 0, .slice ao 2 c, .int .i64 0]) ∧ NRow W4 ao gb 0 [5, 9]) := by
    unfold FromIs at hf
    rw [aw_from, aw_fromN, aw_fromS] at hf
    rcases hf with ⟨_, ao, c, rfl, ow⟩ | ⟨hh, _⟩
    · obtain ⟨gb, hr⟩ := own_nrow ow rfl
      exact ⟨ao, c, gb, rfl, hr⟩
    · cases hh
  clear hf
  obtain ⟨ao, ac, ag, rfl, hr4⟩ := HF4.out
  have HR4 : Hid (NRow W4 ao ag 0 [5, 9]) := hr4
  have t4 := t3.trans s4
  clear HF4 hr4 t3 s4
  go_wp2_with fail
  refine (HF.out _).mono ?_
  rintro e W5 ⟨rfl, s5⟩
  have t5 := t4.trans s5
  have HR5 : Hid (NRow W5 ao ag 0 [5, 9]) := HR4.out.same s5
  clear t4 s5 HR4
  go_wp2_with fail
  refine (aw_plan W5).mono ?_
  rintro e W6 ⟨ta, tc, bg, c, tb, x, rfl, n6, hx, b6, s6⟩
  obtain ⟨P, hP⟩ : ∃ P, P = W6.alloc (.cells #[.slice ta 1 tc, .slice (some ⟨bg, 0, none⟩) 1 c, .int .i64 1, .int .u32 7] 63) := ⟨_, rfl⟩
  have sP : Same W6 P := by rw [hP]; exact (Fr.refl _ W6).alloc _
  have HP : Hid (NRow P ta tb 0 [2] ∧ x.key = (4, [5, 6]) ∧ BrRow P (some ⟨bg, 0, none⟩) bg 0 [x] ∧ Same w P ∧ P.heap[W6.heap.size]? = some (.cells #[.slice ta 1 tc, .slice (some ⟨bg, 0, none⟩) 1 c, .int .i64 1, .int .u32 7] 63 (0, 0))) := ⟨n6.same sP, hx, b6.same sP, t5.trans (s6.trans sP), by rw [hP]; exact heap_alloc_new _ _⟩
  have HR6 : Hid (NRow P ao ag 0 [5, 9]) := HR5.out.same (s6.trans sP)
  clear n6 hx b6 s6 t5 HR5 sP
  go_wp2_with fail
  rw [← hP]
  have hsz : P.heap.size = W6.heap.size + 1 := by rw [hP]; simp
  rw [← hsz]
  clear hP
  have HS1 : Hid (Calls Try.prog 18 #[.slice ao 2 ac, .slice (some ⟨P.heap.size, 0, none⟩) 2 2] (P.alloc (.cells #[.int .u32 5, .int .u32 9] 28)) fun e w' => e = .returned (.bool true) ∧ Same (P.alloc (.cells #[.int .u32 5, .int .u32 9] 28)) w') :=
    sameNumbers_true (ns := [5, 9]) _ (HR6.out.same ((Fr.refl _ P).alloc _)) (nrow_heap (ns := [5, 9]) P.heap.size _ (heap_alloc_new P _)) (by decide)
  refine HS1.out.mono ?_
  rintro e W7 ⟨rfl, s7⟩
  have s7' : Same P W7 := Same.trans ((Fr.refl _ P).alloc _) s7
  obtain ⟨n6, hx, b6, t6, r6⟩ := HP.out
  have r7 := (s7'.block _ (lt_of_heap r6) (fun f => f)).trans r6
  have HP7 : Hid (NRow W7 ta tb 0 [2] ∧ x.key = (4, [5, 6]) ∧ BrRow W7 (some ⟨bg, 0, none⟩) bg 0 [x] ∧ Same w W7) := ⟨n6.same s7', hx, b6.same s7', t6.trans s7'⟩
  have c0 : W7.cell? ⟨W6.heap.size, 0, none⟩ = some (.slice ta 1 tc) := (cell_of_row _ _ _ _ _ _ r7).trans rfl
  have c1 : W7.cell? ⟨W6.heap.size, 1, none⟩ = some (.slice (some ⟨bg, 0, none⟩) 1 c) := (cell_of_row _ _ _ _ _ _ r7).trans rfl
  have c2 : W7.cell? ⟨W6.heap.size, 2, none⟩ = some (.int .i64 1) := (cell_of_row _ _ _ _ _ _ r7).trans rfl
  have c3 : W7.cell? ⟨W6.heap.size, 3, none⟩ = some (.int .u32 7) := (cell_of_row _ _ _ _ _ _ r7).trans rfl
  clear HS1 s7 s7' n6 hx b6 t6 r6 r7 HP HR6 hsz
  go_wp2_with fail
  clear c0 c1 c2 c3
  refine (aw_same HP7.out.1 HP7.out.2.1 HP7.out.2.2.1).mono ?_
  rintro e W8 ⟨rfl, s8⟩
  have HT8 : Hid (Same w W8) := HP7.out.2.2.2.trans s8
  clear s8 HP7
  go_wp2_with fail
  refine (HF.out _).mono ?_
  rintro e W9 ⟨rfl, s9⟩
  have HT9 : Hid (Same w W9) := HT8.out.trans s9
  clear s9 HT8
  go_wp2_with fail
  have HE : Hid (Calls Try.prog 20 #[frameV 1024 32] W9 fun e w' => e = .returned (.int .i64 246) ∧ Same W9 w') := entries_calls 1024 32 W9
  refine HE.out.mono ?_
  rintro e WA ⟨rfl, sA⟩
  have HTA : Hid (Same w WA) := HT9.out.trans sA
  clear sA HT9 HE
  go_wp2_with fail
  go_ret
  exact ⟨rfl, HTA.out⟩
end Go.Proofs.Ytajbifblbmlffaa
