/- joined. -/
import Derived.Test.YtdmoglnbelembaaGreatGO2
namespace Go.Proofs.YtdmoglnbelembaaGreat
open Go.RowKit

set_option maxRecDepth 100000 in
set_option maxHeartbeats 4000000 in
theorem joined_leaf {p q : Int} {r1 r2 : Nr} {N1 N2 : Nd} {sp : ByteArray} {n : Nat} {cs : List Value} (w : World)
    (HI1 : Hid (∀ W, Same w W → Calls Tryz.prog 25 #[frameV p q, ndV r1 N1] W fun e w' => e = .returned (.bool true) ∧ Same W w'))
    (HI2 : Hid (∀ W, Same w W → Calls Tryz.prog 25 #[frameV p q, ndV r2 N2] W fun e w' => e = .returned (.bool true) ∧ Same W w'))
    (HB1 : Hid (∀ W, Same w W → Calls Tryz.prog 34 #[frameV p q, ndV r1 N1] W fun e w' => e = .returned (.bool false) ∧ Same W w'))
    (HA : Hid (∀ W, Calls Tryz.prog 24 #[frameV p q, .bool true] W fun e w' => e = .returned (.int .i64 0) ∧ Same W w'))
    (HO : Hid (∀ W, Same w W → Calls Tryz.prog 35 #[frameV p q, .agg #[.slice r1.pa N1.ps.length r1.cp, .slice r1.sa N1.ss.length r1.cs, .slice r1.ka N1.ks.length r1.ck, .string sp, .slice r2.pa N2.ps.length r2.cp, .slice r2.sa N2.ss.length r2.cs, .slice r2.ka N2.ks.length r2.ck]] W fun e w' => e = .returned (.bool true) ∧ Same W w'))
    (HCC : Hid (∀ W gb, Same w W → W.heap[gb]? = some (.cells #[.slice r1.pa N1.ps.length r1.cp, .slice r2.pa N2.ps.length r2.cp] 24 (0, 0)) → Calls Tryz.prog 36 #[.slice (some ⟨gb, 0, none⟩) 2 2] W fun e w' => ∃ ao c, e = .returned (.slice ao n c) ∧ w'.ownsRow W.heap.size 46 2 (.slice ao n c) n cs ∧ Same W w')) :
    Calls Tryz.prog 18 #[frameV p q, .agg (halvesN r1 r2 N1 N2 sp)] w fun e w' => ∃ ao c, e = .returned (.tuple #[nodeV ao n c none 0 0 none 0 0, .int .i64 0]) ∧ w'.ownsRow w.heap.size 46 2 (.slice ao n c) n cs ∧ Same w w' := by
  obtain ⟨V, hV⟩ : ∃ V, V = ((w.alloc (.cells #[.int .i64 p, .int .i64 q] 23)).alloc (.cells (halvesN r1 r2 N1 N2 sp) 30)).alloc (.cells #[.slice none 0 0, .slice none 0 0, .slice none 0 0] 28) := ⟨_, rfl⟩
  have t1 : Same w V := by rw [hV]; exact (((Fr.refl _ w).alloc _).alloc _).alloc _
  obtain ⟨g0, g1, g2⟩ := three_boxes w (.cells #[.int .i64 p, .int .i64 q] 23) (.cells (halvesN r1 r2 N1 N2 sp) 30) (.cells #[.slice none 0 0, .slice none 0 0, .slice none 0 0] 28)
  rw [← hV] at g0 g1 g2
  have c0 : V.cell? ⟨w.heap.size, 0, none⟩ = some (.int .i64 p) := by rw [cell_of_row _ _ _ _ _ _ g0]; rfl
  have c1 : V.cell? ⟨w.heap.size, 1, none⟩ = some (.int .i64 q) := by rw [cell_of_row _ _ _ _ _ _ g0]; rfl
  have HH : Hid (∀ W, Same V W → (W.cell? ⟨w.heap.size, 0, none⟩ = some (.int .i64 p) ∧ W.cell? ⟨w.heap.size, 1, none⟩ = some (.int .i64 q)) ∧ W.cell? ⟨w.heap.size + 1, 0, none⟩ = some (.slice r1.pa N1.ps.length r1.cp) ∧ W.cell? ⟨w.heap.size + 1, 1, none⟩ = some (.slice r1.sa N1.ss.length r1.cs) ∧ W.cell? ⟨w.heap.size + 1, 2, none⟩ = some (.slice r1.ka N1.ks.length r1.ck) ∧ W.cell? ⟨w.heap.size + 1, 3, none⟩ = some (.string sp) ∧ W.cell? ⟨w.heap.size + 1, 4, none⟩ = some (.slice r2.pa N2.ps.length r2.cp) ∧ W.cell? ⟨w.heap.size + 1, 5, none⟩ = some (.slice r2.sa N2.ss.length r2.cs) ∧ W.cell? ⟨w.heap.size + 1, 6, none⟩ = some (.slice r2.ka N2.ks.length r2.ck)) := fun W s => ⟨⟨s.keep c0, s.keep c1⟩, (hcells_row g1).keep s⟩
  have HG : Hid (∀ W, Same V W → W.heap[w.heap.size + 1 + 1]? = some (.cells #[.slice none 0 0, .slice none 0 0, .slice none 0 0] 28 (0, 0))) := fun W s => (s.block _ (lt_of_heap g2) (fun e => e)).trans g2
  have HZ : Hid (w.heap.size + 3 ≤ V.heap.size) := by show _ ≤ _; rw [hV]; simp
  obtain ⟨⟨f0, f1⟩, m0, m1, m2, m3, m4, m5, m6⟩ := HH.out _ (Fr.refl _ V)
  clear g0 g1 g2 c0 c1
  unfold halvesN at hV ⊢
  go_enter Tryz.func18, Tryz.ntmps18
  go_wp2_with fail
  rw [← hV]
  clear hV
  refine (HI1.out _ t1).mono ?_
  rintro e W1 ⟨rfl, s1⟩
  clear f0 f1 m0 m1 m2 m3 m4 m5 m6
  obtain ⟨⟨f0, f1⟩, m0, m1, m2, m3, m4, m5, m6⟩ := HH.out _ s1
  go_wp2_with fail
  refine (HI2.out _ (t1.trans s1)).mono ?_
  rintro e W2 ⟨rfl, s2⟩
  have s2 := s1.trans s2
  clear f0 f1 m0 m1 m2 m3 m4 m5 m6
  obtain ⟨⟨f0, f1⟩, m0, m1, m2, m3, m4, m5, m6⟩ := HH.out _ s2
  go_wp2_with fail
  refine (HB1.out _ (t1.trans s2)).mono ?_
  rintro e W3 ⟨rfl, s3⟩
  have s3 := s2.trans s3
  clear f0 f1 m0 m1 m2 m3 m4 m5 m6
  obtain ⟨⟨f0, f1⟩, m0, m1, m2, m3, m4, m5, m6⟩ := HH.out _ s3
  go_wp2_with fail
  refine (HA.out _).mono ?_
  rintro e W4 ⟨rfl, s4⟩
  have s4 := s3.trans s4
  clear f0 f1 m0 m1 m2 m3 m4 m5 m6
  obtain ⟨⟨f0, f1⟩, m0, m1, m2, m3, m4, m5, m6⟩ := HH.out _ s4
  go_wp2_with fail
  refine (HO.out _ (t1.trans s4)).mono ?_
  rintro e W5 ⟨rfl, s5⟩
  have s5 := s4.trans s5
  clear f0 f1 m0 m1 m2 m3 m4 m5 m6
  obtain ⟨⟨f0, f1⟩, m0, m1, m2, m3, m4, m5, m6⟩ := HH.out _ s5
  go_wp2_with fail
  have s5' : Same V (W5.alloc (.cells #[.slice r1.pa N1.ps.length r1.cp, .slice r2.pa N2.ps.length r2.cp] 24)) := Fr.alloc s5 _
  refine (HCC.out _ _ (t1.trans s5') (heap_alloc_new W5 _)).mono ?_
  rintro e W6 ⟨ao, c, rfl, own6, s6⟩
  have u6 : Same V W6 := s5'.trans s6
  have r6 := HG.out _ u6
  go_wp2_with (refine wpList_store_whole (by rfl) 28 _ _ (by rfl) (w.heap.size + 1 + 1) #[.slice ao n c, .slice none 0 0, .slice none 0 0] _ 28 (by rfl) (by rfl) r6 rfl (by kernel_rfl) (by kernel_rfl) ?_; intro W7 r7 f7)
  have hz := HZ.out
  have z5 := s5'.size
  exact bodyPost_ret (results_row_tmp (p := 4) (u := 5) (ty := 28) (by kernel_rfl) _ _ (w.heap.size + 1 + 1) 28 _ (0, 0) _ rfl r7 Tryz.underlying28 rfl (by kernel_rfl)) rfl ⟨ao, c, rfl, own_base (own_far own6 f7 (by omega)) (by omega), Fr.trans (t1.trans u6) f7 (fun i hi e => by omega)⟩
set_option maxRecDepth 100000 in
set_option maxHeartbeats 40000000 in
theorem joined_branch {p q : Int} {r1 r2 : Nr} {N1 N2 : Nd} {sp : ByteArray} {n3 n4 : Nat} {cs1 cs3 cs4 : List Value} (w : World)
    (HI1 : Hid (∀ W, Same w W → Calls Tryz.prog 25 #[frameV p q, ndV r1 N1] W fun e w' => e = .returned (.bool false) ∧ Same W w'))
    (HB1 : Hid (∀ W, Same w W → Calls Tryz.prog 34 #[frameV p q, ndV r1 N1] W fun e w' => e = .returned (.bool true) ∧ Same W w'))
    (HB2 : Hid (∀ W, Same w W → Calls Tryz.prog 34 #[frameV p q, ndV r2 N2] W fun e w' => e = .returned (.bool true) ∧ Same W w'))
    (HA : Hid (∀ W, Calls Tryz.prog 24 #[frameV p q, .bool true] W fun e w' => e = .returned (.int .i64 0) ∧ Same W w'))
    (HO : Hid (∀ W, Same w W → Calls Tryz.prog 35 #[frameV p q, .agg #[.slice r1.pa N1.ps.length r1.cp, .slice r1.sa N1.ss.length r1.cs, .slice r1.ka N1.ks.length r1.ck, .string sp, .slice r2.pa N2.ps.length r2.cp, .slice r2.sa N2.ss.length r2.cs, .slice r2.ka N2.ks.length r2.ck]] W fun e w' => e = .returned (.bool true) ∧ Same W w'))
    (HWT : Hid (∀ W bo, Same w W → W.heap[bo]? = some (.cells #[.string sp] 9 (0, 0)) → Calls Tryz.prog 38 #[.slice r1.sa N1.ss.length r1.cs, .int .i64 (N1.ss.length : Int), .slice (some ⟨bo, 0, none⟩) 1 1] W fun e w' => ∃ ao c, e = .returned (.slice ao (N1.ss.length + 1) c) ∧ w'.ownsRow w.heap.size 9 1 (.slice ao (N1.ss.length + 1) c) (N1.ss.length + 1) cs1 ∧ Same W w'))
    (HC1 : Hid (∀ W gb ao c B, Same w W → W.ownsRow B 9 1 (.slice ao (N1.ss.length + 1) c) (N1.ss.length + 1) cs1 → W.heap[gb]? = some (.cells #[.slice ao (N1.ss.length + 1) c, .slice r2.sa N2.ss.length r2.cs] 25 (0, 0)) → Calls Tryz.prog 37 #[.slice (some ⟨gb, 0, none⟩) 2 2] W fun e w' => ∃ ao c, e = .returned (.slice ao n3 c) ∧ w'.ownsRow w.heap.size 9 1 (.slice ao n3 c) n3 cs3 ∧ Same W w'))
    (HC2 : Hid (∀ W gb, Same w W → W.heap[gb]? = some (.cells #[.slice r1.ka N1.ks.length r1.ck, .slice r2.ka N2.ks.length r2.ck] 26 (0, 0)) → Calls Tryz.prog 39 #[.slice (some ⟨gb, 0, none⟩) 2 2] W fun e w' => ∃ ao c, e = .returned (.slice ao n4 c) ∧ w'.ownsRow w.heap.size 58 33 (.slice ao n4 c) n4 cs4 ∧ Same W w')) :
    Calls Tryz.prog 18 #[frameV p q, .agg (halvesN r1 r2 N1 N2 sp)] w fun e w' => ∃ a3 c3 a4 c4, e = .returned (.tuple #[nodeV none 0 0 a3 n3 c3 a4 n4 c4, .int .i64 0]) ∧ w'.ownsRow w.heap.size 9 1 (.slice a3 n3 c3) n3 cs3 ∧ w'.ownsRow w.heap.size 58 33 (.slice a4 n4 c4) n4 cs4 ∧ Same w w' := by
  obtain ⟨V, hV⟩ : ∃ V, V = ((w.alloc (.cells #[.int .i64 p, .int .i64 q] 23)).alloc (.cells (halvesN r1 r2 N1 N2 sp) 30)).alloc (.cells #[.slice none 0 0, .slice none 0 0, .slice none 0 0] 28) := ⟨_, rfl⟩
  have t1 : Same w V := by rw [hV]; exact (((Fr.refl _ w).alloc _).alloc _).alloc _
  obtain ⟨g0, g1, g2⟩ := three_boxes w (.cells #[.int .i64 p, .int .i64 q] 23) (.cells (halvesN r1 r2 N1 N2 sp) 30) (.cells #[.slice none 0 0, .slice none 0 0, .slice none 0 0] 28)
  rw [← hV] at g0 g1 g2
  have c0 : V.cell? ⟨w.heap.size, 0, none⟩ = some (.int .i64 p) := by rw [cell_of_row _ _ _ _ _ _ g0]; rfl
  have c1 : V.cell? ⟨w.heap.size, 1, none⟩ = some (.int .i64 q) := by rw [cell_of_row _ _ _ _ _ _ g0]; rfl
  have HH : Hid (∀ W, Same V W → (W.cell? ⟨w.heap.size, 0, none⟩ = some (.int .i64 p) ∧ W.cell? ⟨w.heap.size, 1, none⟩ = some (.int .i64 q)) ∧ W.cell? ⟨w.heap.size + 1, 0, none⟩ = some (.slice r1.pa N1.ps.length r1.cp) ∧ W.cell? ⟨w.heap.size + 1, 1, none⟩ = some (.slice r1.sa N1.ss.length r1.cs) ∧ W.cell? ⟨w.heap.size + 1, 2, none⟩ = some (.slice r1.ka N1.ks.length r1.ck) ∧ W.cell? ⟨w.heap.size + 1, 3, none⟩ = some (.string sp) ∧ W.cell? ⟨w.heap.size + 1, 4, none⟩ = some (.slice r2.pa N2.ps.length r2.cp) ∧ W.cell? ⟨w.heap.size + 1, 5, none⟩ = some (.slice r2.sa N2.ss.length r2.cs) ∧ W.cell? ⟨w.heap.size + 1, 6, none⟩ = some (.slice r2.ka N2.ks.length r2.ck)) := fun W s => ⟨⟨s.keep c0, s.keep c1⟩, (hcells_row g1).keep s⟩
  have HG : Hid (∀ W, Same V W → W.heap[w.heap.size + 1 + 1]? = some (.cells #[.slice none 0 0, .slice none 0 0, .slice none 0 0] 28 (0, 0))) := fun W s => (s.block _ (lt_of_heap g2) (fun e => e)).trans g2
  have HZ : Hid (w.heap.size + 3 ≤ V.heap.size) := by show _ ≤ _; rw [hV]; simp
  obtain ⟨⟨f0, f1⟩, m0, m1, m2, m3, m4, m5, m6⟩ := HH.out _ (Fr.refl _ V)
  clear g0 g1 g2 c0 c1
  unfold halvesN at hV ⊢
  go_enter Tryz.func18, Tryz.ntmps18
  go_wp2_with fail
  rw [← hV]
  clear hV
  refine (HI1.out _ t1).mono ?_
  rintro e W1 ⟨rfl, s1⟩
  clear f0 f1 m0 m1 m2 m3 m4 m5 m6
  obtain ⟨⟨f0, f1⟩, m0, m1, m2, m3, m4, m5, m6⟩ := HH.out _ s1
  go_wp2_with fail
  refine (HB1.out _ (t1.trans s1)).mono ?_
  rintro e W2 ⟨rfl, s2⟩
  have s2 := s1.trans s2
  clear f0 f1 m0 m1 m2 m3 m4 m5 m6
  obtain ⟨⟨f0, f1⟩, m0, m1, m2, m3, m4, m5, m6⟩ := HH.out _ s2
  go_wp2_with fail
  refine (HB2.out _ (t1.trans s2)).mono ?_
  rintro e W3 ⟨rfl, s3⟩
  have s3 := s2.trans s3
  clear f0 f1 m0 m1 m2 m3 m4 m5 m6
  obtain ⟨⟨f0, f1⟩, m0, m1, m2, m3, m4, m5, m6⟩ := HH.out _ s3
  go_wp2_with fail
  refine (HA.out _).mono ?_
  rintro e W4 ⟨rfl, s4⟩
  have s4 := s3.trans s4
  clear f0 f1 m0 m1 m2 m3 m4 m5 m6
  obtain ⟨⟨f0, f1⟩, m0, m1, m2, m3, m4, m5, m6⟩ := HH.out _ s4
  go_wp2_with fail
  refine (HO.out _ (t1.trans s4)).mono ?_
  rintro e W5 ⟨rfl, s5⟩
  have s5 := s4.trans s5
  clear f0 f1 m0 m1 m2 m3 m4 m5 m6
  obtain ⟨⟨f0, f1⟩, m0, m1, m2, m3, m4, m5, m6⟩ := HH.out _ s5
  go_wp2_with fail
  have d0 : Same V W5.drew := Fr.drew s5
  clear f0 f1 m0 m1 m2 m3 m4 m5 m6
  refine wp_region_held_drew (S := fun W => (W.cell? ⟨w.heap.size, 0, none⟩ = some (.int .i64 p) ∧ W.cell? ⟨w.heap.size, 1, none⟩ = some (.int .i64 q)) ∧ W.cell? ⟨w.heap.size + 1, 0, none⟩ = some (.slice r1.pa N1.ps.length r1.cp) ∧ W.cell? ⟨w.heap.size + 1, 1, none⟩ = some (.slice r1.sa N1.ss.length r1.cs) ∧ W.cell? ⟨w.heap.size + 1, 2, none⟩ = some (.slice r1.ka N1.ks.length r1.ck) ∧ W.cell? ⟨w.heap.size + 1, 3, none⟩ = some (.string sp) ∧ W.cell? ⟨w.heap.size + 1, 4, none⟩ = some (.slice r2.pa N2.ps.length r2.cp) ∧ W.cell? ⟨w.heap.size + 1, 5, none⟩ = some (.slice r2.sa N2.ss.length r2.cs) ∧ W.cell? ⟨w.heap.size + 1, 6, none⟩ = some (.slice r2.ka N2.ks.length r2.ck)) (by kernel_rfl) (HH.out _ d0) (fun hHeld => ?_)
  generalize W5.drew = D5 at *
  refine wpAnyH_take (i := 0) (oi := { dst := some 54, op := Op.fieldAddr 30 (Operand.tmp 3) 0, type := 0, pos := "halves.go:56", after := #[], guard := none }) (v := .pointer (some ⟨w.heap.size + 1, 0, none⟩)) rfl (by kernel_rfl) (by kernel_rfl) (by kernel_rfl) (fun _ _ _ h => h) (Or.inl ⟨by rfl, fun w hSw => by (obtain ⟨⟨q0, q1⟩, a0, a1, a2, a3, a4, a5, a6⟩ := hSw; go_simp)⟩) (by assumption) ?_
  try simp only [Act.put, List.setIfInBounds_toArray, List.set_cons_zero, List.set_cons_succ]
  refine wpAnyH_take (i := 1) (oi := { dst := some 55, op := Op.fieldAddr 28 (Operand.tmp 54) 1, type := 0, pos := "halves.go:56", after := #[{ on := 0, ground := Ground.data }], guard := none }) (v := .pointer (some ⟨w.heap.size + 1, 1, none⟩)) rfl (by kernel_rfl) (by kernel_rfl) (by kernel_rfl) (fun _ _ _ h => h) (Or.inl ⟨by rfl, fun w hSw => by (obtain ⟨⟨q0, q1⟩, a0, a1, a2, a3, a4, a5, a6⟩ := hSw; go_simp)⟩) (by assumption) ?_
  try simp only [Act.put, List.setIfInBounds_toArray, List.set_cons_zero, List.set_cons_succ]
  refine wpAnyH_take (i := 2) (oi := { dst := some 56, op := Op.load 25 (Operand.tmp 55), type := 25, pos := "halves.go:56", after := #[{ on := 1, ground := Ground.data }], guard := none }) (v := .slice r1.sa N1.ss.length r1.cs) rfl (by kernel_rfl) (by kernel_rfl) (by kernel_rfl) (fun _ _ _ h => h) (Or.inl ⟨by rfl, fun w hSw => by (obtain ⟨⟨q0, q1⟩, a0, a1, a2, a3, a4, a5, a6⟩ := hSw; go_simp)⟩) (by assumption) ?_
  try simp only [Act.put, List.setIfInBounds_toArray, List.set_cons_zero, List.set_cons_succ]
  refine wpAnyH_take (i := 3) (oi := { dst := some 57, op := Op.fieldAddr 30 (Operand.tmp 3) 0, type := 0, pos := "halves.go:56", after := #[], guard := none }) (v := .pointer (some ⟨w.heap.size + 1, 0, none⟩)) rfl (by kernel_rfl) (by kernel_rfl) (by kernel_rfl) (fun _ _ _ h => h) (Or.inl ⟨by rfl, fun w hSw => by (obtain ⟨⟨q0, q1⟩, a0, a1, a2, a3, a4, a5, a6⟩ := hSw; go_simp)⟩) (by assumption) ?_
  try simp only [Act.put, List.setIfInBounds_toArray, List.set_cons_zero, List.set_cons_succ]
  refine wpAnyH_take (i := 4) (oi := { dst := some 58, op := Op.fieldAddr 28 (Operand.tmp 57) 1, type := 0, pos := "halves.go:56", after := #[{ on := 3, ground := Ground.data }], guard := none }) (v := .pointer (some ⟨w.heap.size + 1, 1, none⟩)) rfl (by kernel_rfl) (by kernel_rfl) (by kernel_rfl) (fun _ _ _ h => h) (Or.inl ⟨by rfl, fun w hSw => by (obtain ⟨⟨q0, q1⟩, a0, a1, a2, a3, a4, a5, a6⟩ := hSw; go_simp)⟩) (by assumption) ?_
  try simp only [Act.put, List.setIfInBounds_toArray, List.set_cons_zero, List.set_cons_succ]
  refine wpAnyH_take (i := 5) (oi := { dst := some 59, op := Op.load 25 (Operand.tmp 58), type := 25, pos := "halves.go:56", after := #[{ on := 4, ground := Ground.data }], guard := none }) (v := .slice r1.sa N1.ss.length r1.cs) rfl (by kernel_rfl) (by kernel_rfl) (by kernel_rfl) (fun _ _ _ h => h) (Or.inl ⟨by rfl, fun w hSw => by (obtain ⟨⟨q0, q1⟩, a0, a1, a2, a3, a4, a5, a6⟩ := hSw; go_simp)⟩) (by assumption) ?_
  try simp only [Act.put, List.setIfInBounds_toArray, List.set_cons_zero, List.set_cons_succ]
  refine wpAnyH_take (i := 6) (oi := { dst := some 60, op := Op.call { callee := Callee.builtin Builtin.len, args := #[Operand.tmp 59], argTypes := #[25] }, type := 3, pos := "halves.go:56", after := #[{ on := 5, ground := Ground.data }], guard := none }) (v := .int .i64 (N1.ss.length : Int)) rfl (by kernel_rfl) (by kernel_rfl) (by kernel_rfl) (fun _ _ _ h => h) (Or.inl ⟨by rfl, fun w hSw => by (obtain ⟨⟨q0, q1⟩, a0, a1, a2, a3, a4, a5, a6⟩ := hSw; go_simp)⟩) (by assumption) ?_
  try simp only [Act.put, List.setIfInBounds_toArray, List.set_cons_zero, List.set_cons_succ]
  refine wpAnyH_take (i := 7) (oi := { dst := some 61, op := Op.fieldAddr 30 (Operand.tmp 3) 1, type := 0, pos := "halves.go:56", after := #[], guard := none }) (v := .pointer (some ⟨w.heap.size + 1, 3, none⟩)) rfl (by kernel_rfl) (by kernel_rfl) (by kernel_rfl) (fun _ _ _ h => h) (Or.inl ⟨by rfl, fun w hSw => by (obtain ⟨⟨q0, q1⟩, a0, a1, a2, a3, a4, a5, a6⟩ := hSw; go_simp)⟩) (by assumption) ?_
  try simp only [Act.put, List.setIfInBounds_toArray, List.set_cons_zero, List.set_cons_succ]
  refine wpAnyH_take (i := 8) (oi := { dst := some 62, op := Op.load 9 (Operand.tmp 61), type := 9, pos := "halves.go:56", after := #[{ on := 7, ground := Ground.data }], guard := none }) (v := .string sp) rfl (by kernel_rfl) (by kernel_rfl) (by kernel_rfl) (fun _ _ _ h => h) (Or.inl ⟨by rfl, fun w hSw => by (obtain ⟨⟨q0, q1⟩, a0, a1, a2, a3, a4, a5, a6⟩ := hSw; go_simp)⟩) (by assumption) ?_
  try simp only [Act.put, List.setIfInBounds_toArray, List.set_cons_zero, List.set_cons_succ]
  refine wpAnyH_take (i := 11) (oi := { dst := some 65, op := Op.fieldAddr 30 (Operand.tmp 3) 2, type := 0, pos := "halves.go:56", after := #[], guard := none }) (v := .pointer (some ⟨w.heap.size + 1, 4, none⟩)) rfl (by kernel_rfl) (by kernel_rfl) (by kernel_rfl) (fun _ _ _ h => h) (Or.inl ⟨by rfl, fun w hSw => by (obtain ⟨⟨q0, q1⟩, a0, a1, a2, a3, a4, a5, a6⟩ := hSw; go_simp)⟩) (by assumption) ?_
  try simp only [Act.put, List.setIfInBounds_toArray, List.set_cons_zero, List.set_cons_succ]
  refine wpAnyH_take (i := 12) (oi := { dst := some 66, op := Op.fieldAddr 28 (Operand.tmp 65) 1, type := 0, pos := "halves.go:56", after := #[{ on := 11, ground := Ground.data }], guard := none }) (v := .pointer (some ⟨w.heap.size + 1, 5, none⟩)) rfl (by kernel_rfl) (by kernel_rfl) (by kernel_rfl) (fun _ _ _ h => h) (Or.inl ⟨by rfl, fun w hSw => by (obtain ⟨⟨q0, q1⟩, a0, a1, a2, a3, a4, a5, a6⟩ := hSw; go_simp)⟩) (by assumption) ?_
  try simp only [Act.put, List.setIfInBounds_toArray, List.set_cons_zero, List.set_cons_succ]
  refine wpAnyH_take (i := 13) (oi := { dst := some 67, op := Op.load 25 (Operand.tmp 66), type := 25, pos := "halves.go:56", after := #[{ on := 12, ground := Ground.data }], guard := none }) (v := .slice r2.sa N2.ss.length r2.cs) rfl (by kernel_rfl) (by kernel_rfl) (by kernel_rfl) (fun _ _ _ h => h) (Or.inl ⟨by rfl, fun w hSw => by (obtain ⟨⟨q0, q1⟩, a0, a1, a2, a3, a4, a5, a6⟩ := hSw; go_simp)⟩) (by assumption) ?_
  try simp only [Act.put, List.setIfInBounds_toArray, List.set_cons_zero, List.set_cons_succ]
  refine wpAnyH_take (i := 16) (oi := { dst := some 70, op := Op.fieldAddr 30 (Operand.tmp 3) 0, type := 0, pos := "halves.go:56", after := #[], guard := none }) (v := .pointer (some ⟨w.heap.size + 1, 0, none⟩)) rfl (by kernel_rfl) (by kernel_rfl) (by kernel_rfl) (fun _ _ _ h => h) (Or.inl ⟨by rfl, fun w hSw => by (obtain ⟨⟨q0, q1⟩, a0, a1, a2, a3, a4, a5, a6⟩ := hSw; go_simp)⟩) (by assumption) ?_
  try simp only [Act.put, List.setIfInBounds_toArray, List.set_cons_zero, List.set_cons_succ]
  refine wpAnyH_take (i := 17) (oi := { dst := some 71, op := Op.fieldAddr 28 (Operand.tmp 70) 2, type := 0, pos := "halves.go:56", after := #[{ on := 16, ground := Ground.data }], guard := none }) (v := .pointer (some ⟨w.heap.size + 1, 2, none⟩)) rfl (by kernel_rfl) (by kernel_rfl) (by kernel_rfl) (fun _ _ _ h => h) (Or.inl ⟨by rfl, fun w hSw => by (obtain ⟨⟨q0, q1⟩, a0, a1, a2, a3, a4, a5, a6⟩ := hSw; go_simp)⟩) (by assumption) ?_
  try simp only [Act.put, List.setIfInBounds_toArray, List.set_cons_zero, List.set_cons_succ]
  refine wpAnyH_take (i := 18) (oi := { dst := some 72, op := Op.load 26 (Operand.tmp 71), type := 26, pos := "halves.go:56", after := #[{ on := 17, ground := Ground.data }], guard := none }) (v := .slice r1.ka N1.ks.length r1.ck) rfl (by kernel_rfl) (by kernel_rfl) (by kernel_rfl) (fun _ _ _ h => h) (Or.inl ⟨by rfl, fun w hSw => by (obtain ⟨⟨q0, q1⟩, a0, a1, a2, a3, a4, a5, a6⟩ := hSw; go_simp)⟩) (by assumption) ?_
  try simp only [Act.put, List.setIfInBounds_toArray, List.set_cons_zero, List.set_cons_succ]
  refine wpAnyH_take (i := 19) (oi := { dst := some 73, op := Op.fieldAddr 30 (Operand.tmp 3) 2, type := 0, pos := "halves.go:56", after := #[], guard := none }) (v := .pointer (some ⟨w.heap.size + 1, 4, none⟩)) rfl (by kernel_rfl) (by kernel_rfl) (by kernel_rfl) (fun _ _ _ h => h) (Or.inl ⟨by rfl, fun w hSw => by (obtain ⟨⟨q0, q1⟩, a0, a1, a2, a3, a4, a5, a6⟩ := hSw; go_simp)⟩) (by assumption) ?_
  try simp only [Act.put, List.setIfInBounds_toArray, List.set_cons_zero, List.set_cons_succ]
  refine wpAnyH_take (i := 20) (oi := { dst := some 74, op := Op.fieldAddr 28 (Operand.tmp 73) 2, type := 0, pos := "halves.go:56", after := #[{ on := 19, ground := Ground.data }], guard := none }) (v := .pointer (some ⟨w.heap.size + 1, 6, none⟩)) rfl (by kernel_rfl) (by kernel_rfl) (by kernel_rfl) (fun _ _ _ h => h) (Or.inl ⟨by rfl, fun w hSw => by (obtain ⟨⟨q0, q1⟩, a0, a1, a2, a3, a4, a5, a6⟩ := hSw; go_simp)⟩) (by assumption) ?_
  try simp only [Act.put, List.setIfInBounds_toArray, List.set_cons_zero, List.set_cons_succ]
  refine wpAnyH_take (i := 21) (oi := { dst := some 75, op := Op.load 26 (Operand.tmp 74), type := 26, pos := "halves.go:56", after := #[{ on := 20, ground := Ground.data }], guard := none }) (v := .slice r2.ka N2.ks.length r2.ck) rfl (by kernel_rfl) (by kernel_rfl) (by kernel_rfl) (fun _ _ _ h => h) (Or.inl ⟨by rfl, fun w hSw => by (obtain ⟨⟨q0, q1⟩, a0, a1, a2, a3, a4, a5, a6⟩ := hSw; go_simp)⟩) (by assumption) ?_
  try simp only [Act.put, List.setIfInBounds_toArray, List.set_cons_zero, List.set_cons_succ]
  refine wpAnyH_ready (rs := [9, 22]) (by kernel_rfl) (by simp) ?_
  refine AllReadyH.cons (o := { dst := some 63, op := Op.buildSlice 25 1 #[(0, Operand.tmp 62)], type := 25, pos := "halves.go:56", after := #[{ on := 8, ground := Ground.data }], guard := none }) rfl (fun K hK => ?_) (AllReadyH.cons (o := { dst := some 76, op := Op.buildSlice 93 2 #[(0, Operand.tmp 72), (1, Operand.tmp 75)], type := 93, pos := "halves.go:56", after := #[{ on := 18, ground := Ground.data }, { on := 21, ground := Ground.data }], guard := none }) rfl (fun K hK => ?_) AllReadyH.nil)
  · go_simp
    have x1 : Same V (World.alloc (D5) (.cells #[.string sp] 9)) := Fr.alloc d0 _
    have l9 : (World.alloc (D5) (.cells #[.string sp] 9)).heap[D5.heap.size]? = some _ := heap_alloc_new (D5) (.cells #[.string sp] 9)
    refine hK.out _ _ (HH.out _ x1) (fun hHeld => ?_)
    clear hK K
    try simp only [Act.put, List.setIfInBounds_toArray, List.set_cons_zero, List.set_cons_succ]
    generalize World.alloc (D5) (.cells #[.string sp] 9) = X1 at *
    refine wpAnyH_ready (rs := [10, 22]) (by kernel_rfl) (by simp) ?_
    refine AllReadyH.cons (o := { dst := some 64, op := Op.call { callee := Callee.value (Operand.func 38), args := #[Operand.tmp 56, Operand.tmp 60, Operand.tmp 63], argTypes := #[25, 3, 25] }, type := 25, pos := "halves.go:57", after := #[{ on := 2, ground := Ground.data }, { on := 6, ground := Ground.data }, { on := 9, ground := Ground.data }], guard := none }) rfl (fun K hK => ?_) (AllReadyH.cons (o := { dst := some 76, op := Op.buildSlice 93 2 #[(0, Operand.tmp 72), (1, Operand.tmp 75)], type := 93, pos := "halves.go:56", after := #[{ on := 18, ground := Ground.data }, { on := 21, ground := Ground.data }], guard := none }) rfl (fun K hK => ?_) AllReadyH.nil)
    · go_simp
      go_at_call 38
      refine (HWT.out _ _ (t1.trans x1) l9).mono ?_
      rintro e Z1 ⟨ao1, c1, rfl, own1, q2⟩
      try go_wp2_with fail
      have x2 : Same V Z1 := Same.trans x1 q2
      have h9_2 := (q2.block _ (lt_of_heap l9) (fun e => e)).trans l9
      refine hK.out _ _ (HH.out _ x2) (fun hHeld => ?_)
      clear hK K
      try simp only [Act.put, List.setIfInBounds_toArray, List.set_cons_zero, List.set_cons_succ]
      refine wpAnyH_ready (rs := [14, 22]) (by kernel_rfl) (by simp) ?_
      refine AllReadyH.cons (o := { dst := some 68, op := Op.buildSlice 92 2 #[(0, Operand.tmp 64), (1, Operand.tmp 67)], type := 92, pos := "halves.go:56", after := #[{ on := 10, ground := Ground.data }, { on := 13, ground := Ground.data }], guard := none }) rfl (fun K hK => ?_) (AllReadyH.cons (o := { dst := some 76, op := Op.buildSlice 93 2 #[(0, Operand.tmp 72), (1, Operand.tmp 75)], type := 93, pos := "halves.go:56", after := #[{ on := 18, ground := Ground.data }, { on := 21, ground := Ground.data }], guard := none }) rfl (fun K hK => ?_) AllReadyH.nil)
      · go_simp
        have x3 : Same V (World.alloc (Z1) (.cells #[.slice ao1 (N1.ss.length + 1) c1, .slice r2.sa N2.ss.length r2.cs] 25)) := Fr.alloc x2 _
        have l14 : (World.alloc (Z1) (.cells #[.slice ao1 (N1.ss.length + 1) c1, .slice r2.sa N2.ss.length r2.cs] 25)).heap[Z1.heap.size]? = some _ := heap_alloc_new (Z1) (.cells #[.slice ao1 (N1.ss.length + 1) c1, .slice r2.sa N2.ss.length r2.cs] 25)
        have h9_3 := (((Fr.refl (fun _ => False) (Z1)).alloc (.cells #[.slice ao1 (N1.ss.length + 1) c1, .slice r2.sa N2.ss.length r2.cs] 25)).block _ (lt_of_heap h9_2) (fun e => e)).trans h9_2
        have o1_3 := own1.alloc (.cells #[.slice ao1 (N1.ss.length + 1) c1, .slice r2.sa N2.ss.length r2.cs] 25)
        refine hK.out _ _ (HH.out _ x3) (fun hHeld => ?_)
        clear hK K
        try simp only [Act.put, List.setIfInBounds_toArray, List.set_cons_zero, List.set_cons_succ]
        generalize World.alloc (Z1) (.cells #[.slice ao1 (N1.ss.length + 1) c1, .slice r2.sa N2.ss.length r2.cs] 25) = X3 at *
        refine wpAnyH_ready (rs := [15, 22]) (by kernel_rfl) (by simp) ?_
        refine AllReadyH.cons (o := { dst := some 69, op := Op.call { callee := Callee.value (Operand.func 37), args := #[Operand.tmp 68], argTypes := #[92] }, type := 25, pos := "halves.go:57", after := #[{ on := 14, ground := Ground.data }, { on := 10, ground := Ground.chain }], guard := none }) rfl (fun K hK => ?_) (AllReadyH.cons (o := { dst := some 76, op := Op.buildSlice 93 2 #[(0, Operand.tmp 72), (1, Operand.tmp 75)], type := 93, pos := "halves.go:56", after := #[{ on := 18, ground := Ground.data }, { on := 21, ground := Ground.data }], guard := none }) rfl (fun K hK => ?_) AllReadyH.nil)
        · go_simp
          go_at_call 37
          refine (HC1.out _ _ _ _ _ (t1.trans x3) o1_3 l14).mono ?_
          rintro e Z3 ⟨ao3, c3, rfl, own3, q4⟩
          try go_wp2_with fail
          have x4 : Same V Z3 := Same.trans x3 q4
          have h9_4 := (q4.block _ (lt_of_heap h9_3) (fun e => e)).trans h9_3
          have h14_4 := (q4.block _ (lt_of_heap l14) (fun e => e)).trans l14
          have o1_4 := own_frameB o1_3 q4 (fun _ _ f => f)
          refine hK.out _ _ (HH.out _ x4) (fun hHeld => ?_)
          clear hK K
          try simp only [Act.put, List.setIfInBounds_toArray, List.set_cons_zero, List.set_cons_succ]
          refine wpAnyH_ready (rs := [22]) (by kernel_rfl) (by simp) ?_
          refine AllReadyH.cons (o := { dst := some 76, op := Op.buildSlice 93 2 #[(0, Operand.tmp 72), (1, Operand.tmp 75)], type := 93, pos := "halves.go:56", after := #[{ on := 18, ground := Ground.data }, { on := 21, ground := Ground.data }], guard := none }) rfl (fun K hK => ?_) AllReadyH.nil
          go_simp
          have x5 : Same V (World.alloc (Z3) (.cells #[.slice r1.ka N1.ks.length r1.ck, .slice r2.ka N2.ks.length r2.ck] 26)) := Fr.alloc x4 _
          have l22 : (World.alloc (Z3) (.cells #[.slice r1.ka N1.ks.length r1.ck, .slice r2.ka N2.ks.length r2.ck] 26)).heap[Z3.heap.size]? = some _ := heap_alloc_new (Z3) (.cells #[.slice r1.ka N1.ks.length r1.ck, .slice r2.ka N2.ks.length r2.ck] 26)
          have h9_5 := (((Fr.refl (fun _ => False) (Z3)).alloc (.cells #[.slice r1.ka N1.ks.length r1.ck, .slice r2.ka N2.ks.length r2.ck] 26)).block _ (lt_of_heap h9_4) (fun e => e)).trans h9_4
          have h14_5 := (((Fr.refl (fun _ => False) (Z3)).alloc (.cells #[.slice r1.ka N1.ks.length r1.ck, .slice r2.ka N2.ks.length r2.ck] 26)).block _ (lt_of_heap h14_4) (fun e => e)).trans h14_4
          have o1_5 := o1_4.alloc (.cells #[.slice r1.ka N1.ks.length r1.ck, .slice r2.ka N2.ks.length r2.ck] 26)
          have o3_5 := own3.alloc (.cells #[.slice r1.ka N1.ks.length r1.ck, .slice r2.ka N2.ks.length r2.ck] 26)
          refine hK.out _ _ (HH.out _ x5) (fun hHeld => ?_)
          clear hK K
          try simp only [Act.put, List.setIfInBounds_toArray, List.set_cons_zero, List.set_cons_succ]
          generalize World.alloc (Z3) (.cells #[.slice r1.ka N1.ks.length r1.ck, .slice r2.ka N2.ks.length r2.ck] 26) = X5 at *
          refine wpAnyH_ready (rs := [23]) (by kernel_rfl) (by simp) ?_
          refine AllReadyH.cons (o := { dst := some 77, op := Op.call { callee := Callee.value (Operand.func 39), args := #[Operand.tmp 76], argTypes := #[93] }, type := 26, pos := "halves.go:58", after := #[{ on := 22, ground := Ground.data }, { on := 15, ground := Ground.chain }], guard := none }) rfl (fun K hK => ?_) AllReadyH.nil
          go_simp
          go_at_call 39
          refine (HC2.out _ _ (t1.trans x5) l22).mono ?_
          rintro e Z4 ⟨ao4, c4, rfl, own4, q6⟩
          try go_wp2_with fail
          have x6 : Same V Z4 := Same.trans x5 q6
          have h9_6 := (q6.block _ (lt_of_heap h9_5) (fun e => e)).trans h9_5
          have h14_6 := (q6.block _ (lt_of_heap h14_5) (fun e => e)).trans h14_5
          have h22_6 := (q6.block _ (lt_of_heap l22) (fun e => e)).trans l22
          have o1_6 := own_frameB o1_5 q6 (fun _ _ f => f)
          have o3_6 := own_frameB o3_5 q6 (fun _ _ f => f)
          refine hK.out _ _ (HH.out _ x6) (fun hHeld => ?_)
          clear hK K
          try simp only [Act.put, List.setIfInBounds_toArray, List.set_cons_zero, List.set_cons_succ]
          refine wpAnyH_take (i := 24) (oi := { dst := some 78, op := Op.build 28 #[(1, Operand.tmp 69), (2, Operand.tmp 77)], type := 28, pos := "halves.go:56", after := #[{ on := 15, ground := Ground.data }, { on := 23, ground := Ground.data }], guard := none }) (v := .agg #[.slice none 0 0, .slice ao3 n3 c3, .slice ao4 n4 c4]) rfl (by kernel_rfl) (by kernel_rfl) (by kernel_rfl) (fun _ _ _ h => h) (Or.inl ⟨by rfl, fun w hSw => by (obtain ⟨⟨q0, q1⟩, a0, a1, a2, a3, a4, a5, a6⟩ := hSw; go_simp)⟩) (by assumption) ?_
          try simp only [Act.put, List.setIfInBounds_toArray, List.set_cons_zero, List.set_cons_succ]
          have r6 := HG.out _ x6
          refine wpAnyH_ready (rs := [25]) (by kernel_rfl) (by simp) ?_
          refine AllReadyH.cons (o := { dst := none, op := Op.store 28 (Operand.tmp 4) (Operand.tmp 78), type := 0, pos := "halves.go:56", after := #[{ on := 24, ground := Ground.data }, { on := 23, ground := Ground.chain }, { on := 0, ground := Ground.phase }, { on := 1, ground := Ground.phase }, { on := 2, ground := Ground.phase }, { on := 3, ground := Ground.phase }, { on := 4, ground := Ground.phase }, { on := 5, ground := Ground.phase }, { on := 6, ground := Ground.phase }, { on := 7, ground := Ground.phase }, { on := 8, ground := Ground.phase }, { on := 9, ground := Ground.phase }, { on := 10, ground := Ground.phase }, { on := 11, ground := Ground.phase }, { on := 12, ground := Ground.phase }, { on := 13, ground := Ground.phase }, { on := 14, ground := Ground.phase }, { on := 15, ground := Ground.phase }, { on := 16, ground := Ground.phase }, { on := 17, ground := Ground.phase }, { on := 18, ground := Ground.phase }, { on := 19, ground := Ground.phase }, { on := 20, ground := Ground.phase }, { on := 21, ground := Ground.phase }, { on := 22, ground := Ground.phase }, { on := 23, ground := Ground.phase }, { on := 24, ground := Ground.phase }], guard := none }) rfl (fun K hK => ?_) AllReadyH.nil
          refine step_store_whole rfl 28 _ _ rfl (w.heap.size + 1 + 1) #[.slice none 0 0, .slice ao3 n3 c3, .slice ao4 n4 c4] _ 28 (by rfl) (by rfl) r6 rfl (by kernel_rfl) (by kernel_rfl) ?_
          intro W7 r7 f7
          have hH7 : ∀ (a : Addr) v, a.block ≠ w.heap.size + 1 + 1 → Z4.cell? a = some v → W7.cell? a = some v := fun a v hne hc => (f7.cell (World.block_lt_of_cell? _ _ hc) hne).trans hc
          obtain ⟨⟨b0, b1⟩, b2, b3, b4, b5, b6, b7, b8⟩ := HH.out _ x6
          refine hK.out _ _ ⟨⟨hH7 _ _ (Nat.ne_of_lt (by simp only; omega)) b0, hH7 _ _ (Nat.ne_of_lt (by simp only; omega)) b1⟩, hH7 _ _ (Nat.ne_of_lt (by simp only; omega)) b2, hH7 _ _ (Nat.ne_of_lt (by simp only; omega)) b3, hH7 _ _ (Nat.ne_of_lt (by simp only; omega)) b4, hH7 _ _ (Nat.ne_of_lt (by simp only; omega)) b5, hH7 _ _ (Nat.ne_of_lt (by simp only; omega)) b6, hH7 _ _ (Nat.ne_of_lt (by simp only; omega)) b7, hH7 _ _ (Nat.ne_of_lt (by simp only; omega)) b8⟩ (fun hHeld => ?_)
          clear hK K
          refine wpAnyH_take (i := 26) (oi := { dst := some 5, op := Op.assign (Operand.const (Value.int IntKind.i64 0)), type := 34, pos := "halves.go:56", after := #[{ on := 25, ground := Ground.chain }, { on := 0, ground := Ground.phase }, { on := 1, ground := Ground.phase }, { on := 2, ground := Ground.phase }, { on := 3, ground := Ground.phase }, { on := 4, ground := Ground.phase }, { on := 5, ground := Ground.phase }, { on := 6, ground := Ground.phase }, { on := 7, ground := Ground.phase }, { on := 8, ground := Ground.phase }, { on := 9, ground := Ground.phase }, { on := 10, ground := Ground.phase }, { on := 11, ground := Ground.phase }, { on := 12, ground := Ground.phase }, { on := 13, ground := Ground.phase }, { on := 14, ground := Ground.phase }, { on := 15, ground := Ground.phase }, { on := 16, ground := Ground.phase }, { on := 17, ground := Ground.phase }, { on := 18, ground := Ground.phase }, { on := 19, ground := Ground.phase }, { on := 20, ground := Ground.phase }, { on := 21, ground := Ground.phase }, { on := 22, ground := Ground.phase }, { on := 23, ground := Ground.phase }, { on := 24, ground := Ground.phase }, { on := 25, ground := Ground.phase }], guard := none }) (v := .int .i64 0) rfl (by kernel_rfl) (by kernel_rfl) (by kernel_rfl) (fun _ _ _ h => h) (Or.inl ⟨by rfl, fun w hSw => by (obtain ⟨⟨q0, q1⟩, a0, a1, a2, a3, a4, a5, a6⟩ := hSw; go_simp)⟩) (by assumption) ?_
          try simp only [Act.put, List.setIfInBounds_toArray, List.set_cons_zero, List.set_cons_succ]
          refine wpAnyH_done (by kernel_rfl) ?_ _
          go_wp2_with fail
          have hz := HZ.out
          skip
          exact bodyPost_ret (results_row_tmp (p := 4) (u := 5) (ty := 28) (by kernel_rfl) _ _ (w.heap.size + 1 + 1) 28 _ (0, 0) _ rfl r7 Tryz.underlying28 rfl (by kernel_rfl)) rfl ⟨ao3, c3, ao4, c4, rfl, own_frameB o3_6 f7 (fun kk hk e => type_ne o3_6 r6 (by decide) (by rw [hk, e] <;> rfl)), own_frameB own4 f7 (fun kk hk e => type_ne own4 r6 (by decide) (by rw [hk, e] <;> rfl)), Fr.trans (t1.trans x6) f7 (fun i hi e => by omega)⟩
        · go_simp
          have x4 : Same V (World.alloc (X3) (.cells #[.slice r1.ka N1.ks.length r1.ck, .slice r2.ka N2.ks.length r2.ck] 26)) := Fr.alloc x3 _
          have l22 : (World.alloc (X3) (.cells #[.slice r1.ka N1.ks.length r1.ck, .slice r2.ka N2.ks.length r2.ck] 26)).heap[X3.heap.size]? = some _ := heap_alloc_new (X3) (.cells #[.slice r1.ka N1.ks.length r1.ck, .slice r2.ka N2.ks.length r2.ck] 26)
          have h9_4 := (((Fr.refl (fun _ => False) (X3)).alloc (.cells #[.slice r1.ka N1.ks.length r1.ck, .slice r2.ka N2.ks.length r2.ck] 26)).block _ (lt_of_heap h9_3) (fun e => e)).trans h9_3
          have h14_4 := (((Fr.refl (fun _ => False) (X3)).alloc (.cells #[.slice r1.ka N1.ks.length r1.ck, .slice r2.ka N2.ks.length r2.ck] 26)).block _ (lt_of_heap l14) (fun e => e)).trans l14
          have o1_4 := o1_3.alloc (.cells #[.slice r1.ka N1.ks.length r1.ck, .slice r2.ka N2.ks.length r2.ck] 26)
          refine hK.out _ _ (HH.out _ x4) (fun hHeld => ?_)
          clear hK K
          try simp only [Act.put, List.setIfInBounds_toArray, List.set_cons_zero, List.set_cons_succ]
          generalize World.alloc (X3) (.cells #[.slice r1.ka N1.ks.length r1.ck, .slice r2.ka N2.ks.length r2.ck] 26) = X4 at *
          refine wpAnyH_ready (rs := [15]) (by kernel_rfl) (by simp) ?_
          refine AllReadyH.cons (o := { dst := some 69, op := Op.call { callee := Callee.value (Operand.func 37), args := #[Operand.tmp 68], argTypes := #[92] }, type := 25, pos := "halves.go:57", after := #[{ on := 14, ground := Ground.data }, { on := 10, ground := Ground.chain }], guard := none }) rfl (fun K hK => ?_) AllReadyH.nil
          go_simp
          go_at_call 37
          refine (HC1.out _ _ _ _ _ (t1.trans x4) o1_4 h14_4).mono ?_
          rintro e Z3 ⟨ao3, c3, rfl, own3, q5⟩
          try go_wp2_with fail
          have x5 : Same V Z3 := Same.trans x4 q5
          have h9_5 := (q5.block _ (lt_of_heap h9_4) (fun e => e)).trans h9_4
          have h14_5 := (q5.block _ (lt_of_heap h14_4) (fun e => e)).trans h14_4
          have h22_5 := (q5.block _ (lt_of_heap l22) (fun e => e)).trans l22
          have o1_5 := own_frameB o1_4 q5 (fun _ _ f => f)
          refine hK.out _ _ (HH.out _ x5) (fun hHeld => ?_)
          clear hK K
          try simp only [Act.put, List.setIfInBounds_toArray, List.set_cons_zero, List.set_cons_succ]
          refine wpAnyH_ready (rs := [23]) (by kernel_rfl) (by simp) ?_
          refine AllReadyH.cons (o := { dst := some 77, op := Op.call { callee := Callee.value (Operand.func 39), args := #[Operand.tmp 76], argTypes := #[93] }, type := 26, pos := "halves.go:58", after := #[{ on := 22, ground := Ground.data }, { on := 15, ground := Ground.chain }], guard := none }) rfl (fun K hK => ?_) AllReadyH.nil
          go_simp
          go_at_call 39
          refine (HC2.out _ _ (t1.trans x5) h22_5).mono ?_
          rintro e Z4 ⟨ao4, c4, rfl, own4, q6⟩
          try go_wp2_with fail
          have x6 : Same V Z4 := Same.trans x5 q6
          have h9_6 := (q6.block _ (lt_of_heap h9_5) (fun e => e)).trans h9_5
          have h14_6 := (q6.block _ (lt_of_heap h14_5) (fun e => e)).trans h14_5
          have h22_6 := (q6.block _ (lt_of_heap h22_5) (fun e => e)).trans h22_5
          have o1_6 := own_frameB o1_5 q6 (fun _ _ f => f)
          have o3_6 := own_frameB own3 q6 (fun _ _ f => f)
          refine hK.out _ _ (HH.out _ x6) (fun hHeld => ?_)
          clear hK K
          try simp only [Act.put, List.setIfInBounds_toArray, List.set_cons_zero, List.set_cons_succ]
          refine wpAnyH_take (i := 24) (oi := { dst := some 78, op := Op.build 28 #[(1, Operand.tmp 69), (2, Operand.tmp 77)], type := 28, pos := "halves.go:56", after := #[{ on := 15, ground := Ground.data }, { on := 23, ground := Ground.data }], guard := none }) (v := .agg #[.slice none 0 0, .slice ao3 n3 c3, .slice ao4 n4 c4]) rfl (by kernel_rfl) (by kernel_rfl) (by kernel_rfl) (fun _ _ _ h => h) (Or.inl ⟨by rfl, fun w hSw => by (obtain ⟨⟨q0, q1⟩, a0, a1, a2, a3, a4, a5, a6⟩ := hSw; go_simp)⟩) (by assumption) ?_
          try simp only [Act.put, List.setIfInBounds_toArray, List.set_cons_zero, List.set_cons_succ]
          have r6 := HG.out _ x6
          refine wpAnyH_ready (rs := [25]) (by kernel_rfl) (by simp) ?_
          refine AllReadyH.cons (o := { dst := none, op := Op.store 28 (Operand.tmp 4) (Operand.tmp 78), type := 0, pos := "halves.go:56", after := #[{ on := 24, ground := Ground.data }, { on := 23, ground := Ground.chain }, { on := 0, ground := Ground.phase }, { on := 1, ground := Ground.phase }, { on := 2, ground := Ground.phase }, { on := 3, ground := Ground.phase }, { on := 4, ground := Ground.phase }, { on := 5, ground := Ground.phase }, { on := 6, ground := Ground.phase }, { on := 7, ground := Ground.phase }, { on := 8, ground := Ground.phase }, { on := 9, ground := Ground.phase }, { on := 10, ground := Ground.phase }, { on := 11, ground := Ground.phase }, { on := 12, ground := Ground.phase }, { on := 13, ground := Ground.phase }, { on := 14, ground := Ground.phase }, { on := 15, ground := Ground.phase }, { on := 16, ground := Ground.phase }, { on := 17, ground := Ground.phase }, { on := 18, ground := Ground.phase }, { on := 19, ground := Ground.phase }, { on := 20, ground := Ground.phase }, { on := 21, ground := Ground.phase }, { on := 22, ground := Ground.phase }, { on := 23, ground := Ground.phase }, { on := 24, ground := Ground.phase }], guard := none }) rfl (fun K hK => ?_) AllReadyH.nil
          refine step_store_whole rfl 28 _ _ rfl (w.heap.size + 1 + 1) #[.slice none 0 0, .slice ao3 n3 c3, .slice ao4 n4 c4] _ 28 (by rfl) (by rfl) r6 rfl (by kernel_rfl) (by kernel_rfl) ?_
          intro W7 r7 f7
          have hH7 : ∀ (a : Addr) v, a.block ≠ w.heap.size + 1 + 1 → Z4.cell? a = some v → W7.cell? a = some v := fun a v hne hc => (f7.cell (World.block_lt_of_cell? _ _ hc) hne).trans hc
          obtain ⟨⟨b0, b1⟩, b2, b3, b4, b5, b6, b7, b8⟩ := HH.out _ x6
          refine hK.out _ _ ⟨⟨hH7 _ _ (Nat.ne_of_lt (by simp only; omega)) b0, hH7 _ _ (Nat.ne_of_lt (by simp only; omega)) b1⟩, hH7 _ _ (Nat.ne_of_lt (by simp only; omega)) b2, hH7 _ _ (Nat.ne_of_lt (by simp only; omega)) b3, hH7 _ _ (Nat.ne_of_lt (by simp only; omega)) b4, hH7 _ _ (Nat.ne_of_lt (by simp only; omega)) b5, hH7 _ _ (Nat.ne_of_lt (by simp only; omega)) b6, hH7 _ _ (Nat.ne_of_lt (by simp only; omega)) b7, hH7 _ _ (Nat.ne_of_lt (by simp only; omega)) b8⟩ (fun hHeld => ?_)
          clear hK K
          refine wpAnyH_take (i := 26) (oi := { dst := some 5, op := Op.assign (Operand.const (Value.int IntKind.i64 0)), type := 34, pos := "halves.go:56", after := #[{ on := 25, ground := Ground.chain }, { on := 0, ground := Ground.phase }, { on := 1, ground := Ground.phase }, { on := 2, ground := Ground.phase }, { on := 3, ground := Ground.phase }, { on := 4, ground := Ground.phase }, { on := 5, ground := Ground.phase }, { on := 6, ground := Ground.phase }, { on := 7, ground := Ground.phase }, { on := 8, ground := Ground.phase }, { on := 9, ground := Ground.phase }, { on := 10, ground := Ground.phase }, { on := 11, ground := Ground.phase }, { on := 12, ground := Ground.phase }, { on := 13, ground := Ground.phase }, { on := 14, ground := Ground.phase }, { on := 15, ground := Ground.phase }, { on := 16, ground := Ground.phase }, { on := 17, ground := Ground.phase }, { on := 18, ground := Ground.phase }, { on := 19, ground := Ground.phase }, { on := 20, ground := Ground.phase }, { on := 21, ground := Ground.phase }, { on := 22, ground := Ground.phase }, { on := 23, ground := Ground.phase }, { on := 24, ground := Ground.phase }, { on := 25, ground := Ground.phase }], guard := none }) (v := .int .i64 0) rfl (by kernel_rfl) (by kernel_rfl) (by kernel_rfl) (fun _ _ _ h => h) (Or.inl ⟨by rfl, fun w hSw => by (obtain ⟨⟨q0, q1⟩, a0, a1, a2, a3, a4, a5, a6⟩ := hSw; go_simp)⟩) (by assumption) ?_
          try simp only [Act.put, List.setIfInBounds_toArray, List.set_cons_zero, List.set_cons_succ]
          refine wpAnyH_done (by kernel_rfl) ?_ _
          go_wp2_with fail
          have hz := HZ.out
          skip
          exact bodyPost_ret (results_row_tmp (p := 4) (u := 5) (ty := 28) (by kernel_rfl) _ _ (w.heap.size + 1 + 1) 28 _ (0, 0) _ rfl r7 Tryz.underlying28 rfl (by kernel_rfl)) rfl ⟨ao3, c3, ao4, c4, rfl, own_frameB o3_6 f7 (fun kk hk e => type_ne o3_6 r6 (by decide) (by rw [hk, e] <;> rfl)), own_frameB own4 f7 (fun kk hk e => type_ne own4 r6 (by decide) (by rw [hk, e] <;> rfl)), Fr.trans (t1.trans x6) f7 (fun i hi e => by omega)⟩
      · go_simp
        have x3 : Same V (World.alloc (Z1) (.cells #[.slice r1.ka N1.ks.length r1.ck, .slice r2.ka N2.ks.length r2.ck] 26)) := Fr.alloc x2 _
        have l22 : (World.alloc (Z1) (.cells #[.slice r1.ka N1.ks.length r1.ck, .slice r2.ka N2.ks.length r2.ck] 26)).heap[Z1.heap.size]? = some _ := heap_alloc_new (Z1) (.cells #[.slice r1.ka N1.ks.length r1.ck, .slice r2.ka N2.ks.length r2.ck] 26)
        have h9_3 := (((Fr.refl (fun _ => False) (Z1)).alloc (.cells #[.slice r1.ka N1.ks.length r1.ck, .slice r2.ka N2.ks.length r2.ck] 26)).block _ (lt_of_heap h9_2) (fun e => e)).trans h9_2
        have o1_3 := own1.alloc (.cells #[.slice r1.ka N1.ks.length r1.ck, .slice r2.ka N2.ks.length r2.ck] 26)
        refine hK.out _ _ (HH.out _ x3) (fun hHeld => ?_)
        clear hK K
        try simp only [Act.put, List.setIfInBounds_toArray, List.set_cons_zero, List.set_cons_succ]
        generalize World.alloc (Z1) (.cells #[.slice r1.ka N1.ks.length r1.ck, .slice r2.ka N2.ks.length r2.ck] 26) = X3 at *
        refine wpAnyH_ready (rs := [14]) (by kernel_rfl) (by simp) ?_
        refine AllReadyH.cons (o := { dst := some 68, op := Op.buildSlice 92 2 #[(0, Operand.tmp 64), (1, Operand.tmp 67)], type := 92, pos := "halves.go:56", after := #[{ on := 10, ground := Ground.data }, { on := 13, ground := Ground.data }], guard := none }) rfl (fun K hK => ?_) AllReadyH.nil
        go_simp
        have x4 : Same V (World.alloc (X3) (.cells #[.slice ao1 (N1.ss.length + 1) c1, .slice r2.sa N2.ss.length r2.cs] 25)) := Fr.alloc x3 _
        have l14 : (World.alloc (X3) (.cells #[.slice ao1 (N1.ss.length + 1) c1, .slice r2.sa N2.ss.length r2.cs] 25)).heap[X3.heap.size]? = some _ := heap_alloc_new (X3) (.cells #[.slice ao1 (N1.ss.length + 1) c1, .slice r2.sa N2.ss.length r2.cs] 25)
        have h9_4 := (((Fr.refl (fun _ => False) (X3)).alloc (.cells #[.slice ao1 (N1.ss.length + 1) c1, .slice r2.sa N2.ss.length r2.cs] 25)).block _ (lt_of_heap h9_3) (fun e => e)).trans h9_3
        have h22_4 := (((Fr.refl (fun _ => False) (X3)).alloc (.cells #[.slice ao1 (N1.ss.length + 1) c1, .slice r2.sa N2.ss.length r2.cs] 25)).block _ (lt_of_heap l22) (fun e => e)).trans l22
        have o1_4 := o1_3.alloc (.cells #[.slice ao1 (N1.ss.length + 1) c1, .slice r2.sa N2.ss.length r2.cs] 25)
        refine hK.out _ _ (HH.out _ x4) (fun hHeld => ?_)
        clear hK K
        try simp only [Act.put, List.setIfInBounds_toArray, List.set_cons_zero, List.set_cons_succ]
        generalize World.alloc (X3) (.cells #[.slice ao1 (N1.ss.length + 1) c1, .slice r2.sa N2.ss.length r2.cs] 25) = X4 at *
        refine wpAnyH_ready (rs := [15]) (by kernel_rfl) (by simp) ?_
        refine AllReadyH.cons (o := { dst := some 69, op := Op.call { callee := Callee.value (Operand.func 37), args := #[Operand.tmp 68], argTypes := #[92] }, type := 25, pos := "halves.go:57", after := #[{ on := 14, ground := Ground.data }, { on := 10, ground := Ground.chain }], guard := none }) rfl (fun K hK => ?_) AllReadyH.nil
        go_simp
        go_at_call 37
        refine (HC1.out _ _ _ _ _ (t1.trans x4) o1_4 l14).mono ?_
        rintro e Z3 ⟨ao3, c3, rfl, own3, q5⟩
        try go_wp2_with fail
        have x5 : Same V Z3 := Same.trans x4 q5
        have h9_5 := (q5.block _ (lt_of_heap h9_4) (fun e => e)).trans h9_4
        have h22_5 := (q5.block _ (lt_of_heap h22_4) (fun e => e)).trans h22_4
        have h14_5 := (q5.block _ (lt_of_heap l14) (fun e => e)).trans l14
        have o1_5 := own_frameB o1_4 q5 (fun _ _ f => f)
        refine hK.out _ _ (HH.out _ x5) (fun hHeld => ?_)
        clear hK K
        try simp only [Act.put, List.setIfInBounds_toArray, List.set_cons_zero, List.set_cons_succ]
        refine wpAnyH_ready (rs := [23]) (by kernel_rfl) (by simp) ?_
        refine AllReadyH.cons (o := { dst := some 77, op := Op.call { callee := Callee.value (Operand.func 39), args := #[Operand.tmp 76], argTypes := #[93] }, type := 26, pos := "halves.go:58", after := #[{ on := 22, ground := Ground.data }, { on := 15, ground := Ground.chain }], guard := none }) rfl (fun K hK => ?_) AllReadyH.nil
        go_simp
        go_at_call 39
        refine (HC2.out _ _ (t1.trans x5) h22_5).mono ?_
        rintro e Z4 ⟨ao4, c4, rfl, own4, q6⟩
        try go_wp2_with fail
        have x6 : Same V Z4 := Same.trans x5 q6
        have h9_6 := (q6.block _ (lt_of_heap h9_5) (fun e => e)).trans h9_5
        have h22_6 := (q6.block _ (lt_of_heap h22_5) (fun e => e)).trans h22_5
        have h14_6 := (q6.block _ (lt_of_heap h14_5) (fun e => e)).trans h14_5
        have o1_6 := own_frameB o1_5 q6 (fun _ _ f => f)
        have o3_6 := own_frameB own3 q6 (fun _ _ f => f)
        refine hK.out _ _ (HH.out _ x6) (fun hHeld => ?_)
        clear hK K
        try simp only [Act.put, List.setIfInBounds_toArray, List.set_cons_zero, List.set_cons_succ]
        refine wpAnyH_take (i := 24) (oi := { dst := some 78, op := Op.build 28 #[(1, Operand.tmp 69), (2, Operand.tmp 77)], type := 28, pos := "halves.go:56", after := #[{ on := 15, ground := Ground.data }, { on := 23, ground := Ground.data }], guard := none }) (v := .agg #[.slice none 0 0, .slice ao3 n3 c3, .slice ao4 n4 c4]) rfl (by kernel_rfl) (by kernel_rfl) (by kernel_rfl) (fun _ _ _ h => h) (Or.inl ⟨by rfl, fun w hSw => by (obtain ⟨⟨q0, q1⟩, a0, a1, a2, a3, a4, a5, a6⟩ := hSw; go_simp)⟩) (by assumption) ?_
        try simp only [Act.put, List.setIfInBounds_toArray, List.set_cons_zero, List.set_cons_succ]
        have r6 := HG.out _ x6
        refine wpAnyH_ready (rs := [25]) (by kernel_rfl) (by simp) ?_
        refine AllReadyH.cons (o := { dst := none, op := Op.store 28 (Operand.tmp 4) (Operand.tmp 78), type := 0, pos := "halves.go:56", after := #[{ on := 24, ground := Ground.data }, { on := 23, ground := Ground.chain }, { on := 0, ground := Ground.phase }, { on := 1, ground := Ground.phase }, { on := 2, ground := Ground.phase }, { on := 3, ground := Ground.phase }, { on := 4, ground := Ground.phase }, { on := 5, ground := Ground.phase }, { on := 6, ground := Ground.phase }, { on := 7, ground := Ground.phase }, { on := 8, ground := Ground.phase }, { on := 9, ground := Ground.phase }, { on := 10, ground := Ground.phase }, { on := 11, ground := Ground.phase }, { on := 12, ground := Ground.phase }, { on := 13, ground := Ground.phase }, { on := 14, ground := Ground.phase }, { on := 15, ground := Ground.phase }, { on := 16, ground := Ground.phase }, { on := 17, ground := Ground.phase }, { on := 18, ground := Ground.phase }, { on := 19, ground := Ground.phase }, { on := 20, ground := Ground.phase }, { on := 21, ground := Ground.phase }, { on := 22, ground := Ground.phase }, { on := 23, ground := Ground.phase }, { on := 24, ground := Ground.phase }], guard := none }) rfl (fun K hK => ?_) AllReadyH.nil
        refine step_store_whole rfl 28 _ _ rfl (w.heap.size + 1 + 1) #[.slice none 0 0, .slice ao3 n3 c3, .slice ao4 n4 c4] _ 28 (by rfl) (by rfl) r6 rfl (by kernel_rfl) (by kernel_rfl) ?_
        intro W7 r7 f7
        have hH7 : ∀ (a : Addr) v, a.block ≠ w.heap.size + 1 + 1 → Z4.cell? a = some v → W7.cell? a = some v := fun a v hne hc => (f7.cell (World.block_lt_of_cell? _ _ hc) hne).trans hc
        obtain ⟨⟨b0, b1⟩, b2, b3, b4, b5, b6, b7, b8⟩ := HH.out _ x6
        refine hK.out _ _ ⟨⟨hH7 _ _ (Nat.ne_of_lt (by simp only; omega)) b0, hH7 _ _ (Nat.ne_of_lt (by simp only; omega)) b1⟩, hH7 _ _ (Nat.ne_of_lt (by simp only; omega)) b2, hH7 _ _ (Nat.ne_of_lt (by simp only; omega)) b3, hH7 _ _ (Nat.ne_of_lt (by simp only; omega)) b4, hH7 _ _ (Nat.ne_of_lt (by simp only; omega)) b5, hH7 _ _ (Nat.ne_of_lt (by simp only; omega)) b6, hH7 _ _ (Nat.ne_of_lt (by simp only; omega)) b7, hH7 _ _ (Nat.ne_of_lt (by simp only; omega)) b8⟩ (fun hHeld => ?_)
        clear hK K
        refine wpAnyH_take (i := 26) (oi := { dst := some 5, op := Op.assign (Operand.const (Value.int IntKind.i64 0)), type := 34, pos := "halves.go:56", after := #[{ on := 25, ground := Ground.chain }, { on := 0, ground := Ground.phase }, { on := 1, ground := Ground.phase }, { on := 2, ground := Ground.phase }, { on := 3, ground := Ground.phase }, { on := 4, ground := Ground.phase }, { on := 5, ground := Ground.phase }, { on := 6, ground := Ground.phase }, { on := 7, ground := Ground.phase }, { on := 8, ground := Ground.phase }, { on := 9, ground := Ground.phase }, { on := 10, ground := Ground.phase }, { on := 11, ground := Ground.phase }, { on := 12, ground := Ground.phase }, { on := 13, ground := Ground.phase }, { on := 14, ground := Ground.phase }, { on := 15, ground := Ground.phase }, { on := 16, ground := Ground.phase }, { on := 17, ground := Ground.phase }, { on := 18, ground := Ground.phase }, { on := 19, ground := Ground.phase }, { on := 20, ground := Ground.phase }, { on := 21, ground := Ground.phase }, { on := 22, ground := Ground.phase }, { on := 23, ground := Ground.phase }, { on := 24, ground := Ground.phase }, { on := 25, ground := Ground.phase }], guard := none }) (v := .int .i64 0) rfl (by kernel_rfl) (by kernel_rfl) (by kernel_rfl) (fun _ _ _ h => h) (Or.inl ⟨by rfl, fun w hSw => by (obtain ⟨⟨q0, q1⟩, a0, a1, a2, a3, a4, a5, a6⟩ := hSw; go_simp)⟩) (by assumption) ?_
        try simp only [Act.put, List.setIfInBounds_toArray, List.set_cons_zero, List.set_cons_succ]
        refine wpAnyH_done (by kernel_rfl) ?_ _
        go_wp2_with fail
        have hz := HZ.out
        skip
        exact bodyPost_ret (results_row_tmp (p := 4) (u := 5) (ty := 28) (by kernel_rfl) _ _ (w.heap.size + 1 + 1) 28 _ (0, 0) _ rfl r7 Tryz.underlying28 rfl (by kernel_rfl)) rfl ⟨ao3, c3, ao4, c4, rfl, own_frameB o3_6 f7 (fun kk hk e => type_ne o3_6 r6 (by decide) (by rw [hk, e] <;> rfl)), own_frameB own4 f7 (fun kk hk e => type_ne own4 r6 (by decide) (by rw [hk, e] <;> rfl)), Fr.trans (t1.trans x6) f7 (fun i hi e => by omega)⟩
    · go_simp
      have x2 : Same V (World.alloc (X1) (.cells #[.slice r1.ka N1.ks.length r1.ck, .slice r2.ka N2.ks.length r2.ck] 26)) := Fr.alloc x1 _
      have l22 : (World.alloc (X1) (.cells #[.slice r1.ka N1.ks.length r1.ck, .slice r2.ka N2.ks.length r2.ck] 26)).heap[X1.heap.size]? = some _ := heap_alloc_new (X1) (.cells #[.slice r1.ka N1.ks.length r1.ck, .slice r2.ka N2.ks.length r2.ck] 26)
      have h9_2 := (((Fr.refl (fun _ => False) (X1)).alloc (.cells #[.slice r1.ka N1.ks.length r1.ck, .slice r2.ka N2.ks.length r2.ck] 26)).block _ (lt_of_heap l9) (fun e => e)).trans l9
      refine hK.out _ _ (HH.out _ x2) (fun hHeld => ?_)
      clear hK K
      try simp only [Act.put, List.setIfInBounds_toArray, List.set_cons_zero, List.set_cons_succ]
      generalize World.alloc (X1) (.cells #[.slice r1.ka N1.ks.length r1.ck, .slice r2.ka N2.ks.length r2.ck] 26) = X2 at *
      refine wpAnyH_ready (rs := [10]) (by kernel_rfl) (by simp) ?_
      refine AllReadyH.cons (o := { dst := some 64, op := Op.call { callee := Callee.value (Operand.func 38), args := #[Operand.tmp 56, Operand.tmp 60, Operand.tmp 63], argTypes := #[25, 3, 25] }, type := 25, pos := "halves.go:57", after := #[{ on := 2, ground := Ground.data }, { on := 6, ground := Ground.data }, { on := 9, ground := Ground.data }], guard := none }) rfl (fun K hK => ?_) AllReadyH.nil
      go_simp
      go_at_call 38
      refine (HWT.out _ _ (t1.trans x2) h9_2).mono ?_
      rintro e Z1 ⟨ao1, c1, rfl, own1, q3⟩
      try go_wp2_with fail
      have x3 : Same V Z1 := Same.trans x2 q3
      have h9_3 := (q3.block _ (lt_of_heap h9_2) (fun e => e)).trans h9_2
      have h22_3 := (q3.block _ (lt_of_heap l22) (fun e => e)).trans l22
      refine hK.out _ _ (HH.out _ x3) (fun hHeld => ?_)
      clear hK K
      try simp only [Act.put, List.setIfInBounds_toArray, List.set_cons_zero, List.set_cons_succ]
      refine wpAnyH_ready (rs := [14]) (by kernel_rfl) (by simp) ?_
      refine AllReadyH.cons (o := { dst := some 68, op := Op.buildSlice 92 2 #[(0, Operand.tmp 64), (1, Operand.tmp 67)], type := 92, pos := "halves.go:56", after := #[{ on := 10, ground := Ground.data }, { on := 13, ground := Ground.data }], guard := none }) rfl (fun K hK => ?_) AllReadyH.nil
      go_simp
      have x4 : Same V (World.alloc (Z1) (.cells #[.slice ao1 (N1.ss.length + 1) c1, .slice r2.sa N2.ss.length r2.cs] 25)) := Fr.alloc x3 _
      have l14 : (World.alloc (Z1) (.cells #[.slice ao1 (N1.ss.length + 1) c1, .slice r2.sa N2.ss.length r2.cs] 25)).heap[Z1.heap.size]? = some _ := heap_alloc_new (Z1) (.cells #[.slice ao1 (N1.ss.length + 1) c1, .slice r2.sa N2.ss.length r2.cs] 25)
      have h9_4 := (((Fr.refl (fun _ => False) (Z1)).alloc (.cells #[.slice ao1 (N1.ss.length + 1) c1, .slice r2.sa N2.ss.length r2.cs] 25)).block _ (lt_of_heap h9_3) (fun e => e)).trans h9_3
      have h22_4 := (((Fr.refl (fun _ => False) (Z1)).alloc (.cells #[.slice ao1 (N1.ss.length + 1) c1, .slice r2.sa N2.ss.length r2.cs] 25)).block _ (lt_of_heap h22_3) (fun e => e)).trans h22_3
      have o1_4 := own1.alloc (.cells #[.slice ao1 (N1.ss.length + 1) c1, .slice r2.sa N2.ss.length r2.cs] 25)
      refine hK.out _ _ (HH.out _ x4) (fun hHeld => ?_)
      clear hK K
      try simp only [Act.put, List.setIfInBounds_toArray, List.set_cons_zero, List.set_cons_succ]
      generalize World.alloc (Z1) (.cells #[.slice ao1 (N1.ss.length + 1) c1, .slice r2.sa N2.ss.length r2.cs] 25) = X4 at *
      refine wpAnyH_ready (rs := [15]) (by kernel_rfl) (by simp) ?_
      refine AllReadyH.cons (o := { dst := some 69, op := Op.call { callee := Callee.value (Operand.func 37), args := #[Operand.tmp 68], argTypes := #[92] }, type := 25, pos := "halves.go:57", after := #[{ on := 14, ground := Ground.data }, { on := 10, ground := Ground.chain }], guard := none }) rfl (fun K hK => ?_) AllReadyH.nil
      go_simp
      go_at_call 37
      refine (HC1.out _ _ _ _ _ (t1.trans x4) o1_4 l14).mono ?_
      rintro e Z3 ⟨ao3, c3, rfl, own3, q5⟩
      try go_wp2_with fail
      have x5 : Same V Z3 := Same.trans x4 q5
      have h9_5 := (q5.block _ (lt_of_heap h9_4) (fun e => e)).trans h9_4
      have h22_5 := (q5.block _ (lt_of_heap h22_4) (fun e => e)).trans h22_4
      have h14_5 := (q5.block _ (lt_of_heap l14) (fun e => e)).trans l14
      have o1_5 := own_frameB o1_4 q5 (fun _ _ f => f)
      refine hK.out _ _ (HH.out _ x5) (fun hHeld => ?_)
      clear hK K
      try simp only [Act.put, List.setIfInBounds_toArray, List.set_cons_zero, List.set_cons_succ]
      refine wpAnyH_ready (rs := [23]) (by kernel_rfl) (by simp) ?_
      refine AllReadyH.cons (o := { dst := some 77, op := Op.call { callee := Callee.value (Operand.func 39), args := #[Operand.tmp 76], argTypes := #[93] }, type := 26, pos := "halves.go:58", after := #[{ on := 22, ground := Ground.data }, { on := 15, ground := Ground.chain }], guard := none }) rfl (fun K hK => ?_) AllReadyH.nil
      go_simp
      go_at_call 39
      refine (HC2.out _ _ (t1.trans x5) h22_5).mono ?_
      rintro e Z4 ⟨ao4, c4, rfl, own4, q6⟩
      try go_wp2_with fail
      have x6 : Same V Z4 := Same.trans x5 q6
      have h9_6 := (q6.block _ (lt_of_heap h9_5) (fun e => e)).trans h9_5
      have h22_6 := (q6.block _ (lt_of_heap h22_5) (fun e => e)).trans h22_5
      have h14_6 := (q6.block _ (lt_of_heap h14_5) (fun e => e)).trans h14_5
      have o1_6 := own_frameB o1_5 q6 (fun _ _ f => f)
      have o3_6 := own_frameB own3 q6 (fun _ _ f => f)
      refine hK.out _ _ (HH.out _ x6) (fun hHeld => ?_)
      clear hK K
      try simp only [Act.put, List.setIfInBounds_toArray, List.set_cons_zero, List.set_cons_succ]
      refine wpAnyH_take (i := 24) (oi := { dst := some 78, op := Op.build 28 #[(1, Operand.tmp 69), (2, Operand.tmp 77)], type := 28, pos := "halves.go:56", after := #[{ on := 15, ground := Ground.data }, { on := 23, ground := Ground.data }], guard := none }) (v := .agg #[.slice none 0 0, .slice ao3 n3 c3, .slice ao4 n4 c4]) rfl (by kernel_rfl) (by kernel_rfl) (by kernel_rfl) (fun _ _ _ h => h) (Or.inl ⟨by rfl, fun w hSw => by (obtain ⟨⟨q0, q1⟩, a0, a1, a2, a3, a4, a5, a6⟩ := hSw; go_simp)⟩) (by assumption) ?_
      try simp only [Act.put, List.setIfInBounds_toArray, List.set_cons_zero, List.set_cons_succ]
      have r6 := HG.out _ x6
      refine wpAnyH_ready (rs := [25]) (by kernel_rfl) (by simp) ?_
      refine AllReadyH.cons (o := { dst := none, op := Op.store 28 (Operand.tmp 4) (Operand.tmp 78), type := 0, pos := "halves.go:56", after := #[{ on := 24, ground := Ground.data }, { on := 23, ground := Ground.chain }, { on := 0, ground := Ground.phase }, { on := 1, ground := Ground.phase }, { on := 2, ground := Ground.phase }, { on := 3, ground := Ground.phase }, { on := 4, ground := Ground.phase }, { on := 5, ground := Ground.phase }, { on := 6, ground := Ground.phase }, { on := 7, ground := Ground.phase }, { on := 8, ground := Ground.phase }, { on := 9, ground := Ground.phase }, { on := 10, ground := Ground.phase }, { on := 11, ground := Ground.phase }, { on := 12, ground := Ground.phase }, { on := 13, ground := Ground.phase }, { on := 14, ground := Ground.phase }, { on := 15, ground := Ground.phase }, { on := 16, ground := Ground.phase }, { on := 17, ground := Ground.phase }, { on := 18, ground := Ground.phase }, { on := 19, ground := Ground.phase }, { on := 20, ground := Ground.phase }, { on := 21, ground := Ground.phase }, { on := 22, ground := Ground.phase }, { on := 23, ground := Ground.phase }, { on := 24, ground := Ground.phase }], guard := none }) rfl (fun K hK => ?_) AllReadyH.nil
      refine step_store_whole rfl 28 _ _ rfl (w.heap.size + 1 + 1) #[.slice none 0 0, .slice ao3 n3 c3, .slice ao4 n4 c4] _ 28 (by rfl) (by rfl) r6 rfl (by kernel_rfl) (by kernel_rfl) ?_
      intro W7 r7 f7
      have hH7 : ∀ (a : Addr) v, a.block ≠ w.heap.size + 1 + 1 → Z4.cell? a = some v → W7.cell? a = some v := fun a v hne hc => (f7.cell (World.block_lt_of_cell? _ _ hc) hne).trans hc
      obtain ⟨⟨b0, b1⟩, b2, b3, b4, b5, b6, b7, b8⟩ := HH.out _ x6
      refine hK.out _ _ ⟨⟨hH7 _ _ (Nat.ne_of_lt (by simp only; omega)) b0, hH7 _ _ (Nat.ne_of_lt (by simp only; omega)) b1⟩, hH7 _ _ (Nat.ne_of_lt (by simp only; omega)) b2, hH7 _ _ (Nat.ne_of_lt (by simp only; omega)) b3, hH7 _ _ (Nat.ne_of_lt (by simp only; omega)) b4, hH7 _ _ (Nat.ne_of_lt (by simp only; omega)) b5, hH7 _ _ (Nat.ne_of_lt (by simp only; omega)) b6, hH7 _ _ (Nat.ne_of_lt (by simp only; omega)) b7, hH7 _ _ (Nat.ne_of_lt (by simp only; omega)) b8⟩ (fun hHeld => ?_)
      clear hK K
      refine wpAnyH_take (i := 26) (oi := { dst := some 5, op := Op.assign (Operand.const (Value.int IntKind.i64 0)), type := 34, pos := "halves.go:56", after := #[{ on := 25, ground := Ground.chain }, { on := 0, ground := Ground.phase }, { on := 1, ground := Ground.phase }, { on := 2, ground := Ground.phase }, { on := 3, ground := Ground.phase }, { on := 4, ground := Ground.phase }, { on := 5, ground := Ground.phase }, { on := 6, ground := Ground.phase }, { on := 7, ground := Ground.phase }, { on := 8, ground := Ground.phase }, { on := 9, ground := Ground.phase }, { on := 10, ground := Ground.phase }, { on := 11, ground := Ground.phase }, { on := 12, ground := Ground.phase }, { on := 13, ground := Ground.phase }, { on := 14, ground := Ground.phase }, { on := 15, ground := Ground.phase }, { on := 16, ground := Ground.phase }, { on := 17, ground := Ground.phase }, { on := 18, ground := Ground.phase }, { on := 19, ground := Ground.phase }, { on := 20, ground := Ground.phase }, { on := 21, ground := Ground.phase }, { on := 22, ground := Ground.phase }, { on := 23, ground := Ground.phase }, { on := 24, ground := Ground.phase }, { on := 25, ground := Ground.phase }], guard := none }) (v := .int .i64 0) rfl (by kernel_rfl) (by kernel_rfl) (by kernel_rfl) (fun _ _ _ h => h) (Or.inl ⟨by rfl, fun w hSw => by (obtain ⟨⟨q0, q1⟩, a0, a1, a2, a3, a4, a5, a6⟩ := hSw; go_simp)⟩) (by assumption) ?_
      try simp only [Act.put, List.setIfInBounds_toArray, List.set_cons_zero, List.set_cons_succ]
      refine wpAnyH_done (by kernel_rfl) ?_ _
      go_wp2_with fail
      have hz := HZ.out
      skip
      exact bodyPost_ret (results_row_tmp (p := 4) (u := 5) (ty := 28) (by kernel_rfl) _ _ (w.heap.size + 1 + 1) 28 _ (0, 0) _ rfl r7 Tryz.underlying28 rfl (by kernel_rfl)) rfl ⟨ao3, c3, ao4, c4, rfl, own_frameB o3_6 f7 (fun kk hk e => type_ne o3_6 r6 (by decide) (by rw [hk, e] <;> rfl)), own_frameB own4 f7 (fun kk hk e => type_ne own4 r6 (by decide) (by rw [hk, e] <;> rfl)), Fr.trans (t1.trans x6) f7 (fun i hi e => by omega)⟩
  · go_simp
    have x1 : Same V (World.alloc (D5) (.cells #[.slice r1.ka N1.ks.length r1.ck, .slice r2.ka N2.ks.length r2.ck] 26)) := Fr.alloc d0 _
    have l22 : (World.alloc (D5) (.cells #[.slice r1.ka N1.ks.length r1.ck, .slice r2.ka N2.ks.length r2.ck] 26)).heap[D5.heap.size]? = some _ := heap_alloc_new (D5) (.cells #[.slice r1.ka N1.ks.length r1.ck, .slice r2.ka N2.ks.length r2.ck] 26)
    refine hK.out _ _ (HH.out _ x1) (fun hHeld => ?_)
    clear hK K
    try simp only [Act.put, List.setIfInBounds_toArray, List.set_cons_zero, List.set_cons_succ]
    generalize World.alloc (D5) (.cells #[.slice r1.ka N1.ks.length r1.ck, .slice r2.ka N2.ks.length r2.ck] 26) = X1 at *
    refine wpAnyH_ready (rs := [9]) (by kernel_rfl) (by simp) ?_
    refine AllReadyH.cons (o := { dst := some 63, op := Op.buildSlice 25 1 #[(0, Operand.tmp 62)], type := 25, pos := "halves.go:56", after := #[{ on := 8, ground := Ground.data }], guard := none }) rfl (fun K hK => ?_) AllReadyH.nil
    go_simp
    have x2 : Same V (World.alloc (X1) (.cells #[.string sp] 9)) := Fr.alloc x1 _
    have l9 : (World.alloc (X1) (.cells #[.string sp] 9)).heap[X1.heap.size]? = some _ := heap_alloc_new (X1) (.cells #[.string sp] 9)
    have h22_2 := (((Fr.refl (fun _ => False) (X1)).alloc (.cells #[.string sp] 9)).block _ (lt_of_heap l22) (fun e => e)).trans l22
    refine hK.out _ _ (HH.out _ x2) (fun hHeld => ?_)
    clear hK K
    try simp only [Act.put, List.setIfInBounds_toArray, List.set_cons_zero, List.set_cons_succ]
    generalize World.alloc (X1) (.cells #[.string sp] 9) = X2 at *
    refine wpAnyH_ready (rs := [10]) (by kernel_rfl) (by simp) ?_
    refine AllReadyH.cons (o := { dst := some 64, op := Op.call { callee := Callee.value (Operand.func 38), args := #[Operand.tmp 56, Operand.tmp 60, Operand.tmp 63], argTypes := #[25, 3, 25] }, type := 25, pos := "halves.go:57", after := #[{ on := 2, ground := Ground.data }, { on := 6, ground := Ground.data }, { on := 9, ground := Ground.data }], guard := none }) rfl (fun K hK => ?_) AllReadyH.nil
    go_simp
    go_at_call 38
    refine (HWT.out _ _ (t1.trans x2) l9).mono ?_
    rintro e Z1 ⟨ao1, c1, rfl, own1, q3⟩
    try go_wp2_with fail
    have x3 : Same V Z1 := Same.trans x2 q3
    have h22_3 := (q3.block _ (lt_of_heap h22_2) (fun e => e)).trans h22_2
    have h9_3 := (q3.block _ (lt_of_heap l9) (fun e => e)).trans l9
    refine hK.out _ _ (HH.out _ x3) (fun hHeld => ?_)
    clear hK K
    try simp only [Act.put, List.setIfInBounds_toArray, List.set_cons_zero, List.set_cons_succ]
    refine wpAnyH_ready (rs := [14]) (by kernel_rfl) (by simp) ?_
    refine AllReadyH.cons (o := { dst := some 68, op := Op.buildSlice 92 2 #[(0, Operand.tmp 64), (1, Operand.tmp 67)], type := 92, pos := "halves.go:56", after := #[{ on := 10, ground := Ground.data }, { on := 13, ground := Ground.data }], guard := none }) rfl (fun K hK => ?_) AllReadyH.nil
    go_simp
    have x4 : Same V (World.alloc (Z1) (.cells #[.slice ao1 (N1.ss.length + 1) c1, .slice r2.sa N2.ss.length r2.cs] 25)) := Fr.alloc x3 _
    have l14 : (World.alloc (Z1) (.cells #[.slice ao1 (N1.ss.length + 1) c1, .slice r2.sa N2.ss.length r2.cs] 25)).heap[Z1.heap.size]? = some _ := heap_alloc_new (Z1) (.cells #[.slice ao1 (N1.ss.length + 1) c1, .slice r2.sa N2.ss.length r2.cs] 25)
    have h22_4 := (((Fr.refl (fun _ => False) (Z1)).alloc (.cells #[.slice ao1 (N1.ss.length + 1) c1, .slice r2.sa N2.ss.length r2.cs] 25)).block _ (lt_of_heap h22_3) (fun e => e)).trans h22_3
    have h9_4 := (((Fr.refl (fun _ => False) (Z1)).alloc (.cells #[.slice ao1 (N1.ss.length + 1) c1, .slice r2.sa N2.ss.length r2.cs] 25)).block _ (lt_of_heap h9_3) (fun e => e)).trans h9_3
    have o1_4 := own1.alloc (.cells #[.slice ao1 (N1.ss.length + 1) c1, .slice r2.sa N2.ss.length r2.cs] 25)
    refine hK.out _ _ (HH.out _ x4) (fun hHeld => ?_)
    clear hK K
    try simp only [Act.put, List.setIfInBounds_toArray, List.set_cons_zero, List.set_cons_succ]
    generalize World.alloc (Z1) (.cells #[.slice ao1 (N1.ss.length + 1) c1, .slice r2.sa N2.ss.length r2.cs] 25) = X4 at *
    refine wpAnyH_ready (rs := [15]) (by kernel_rfl) (by simp) ?_
    refine AllReadyH.cons (o := { dst := some 69, op := Op.call { callee := Callee.value (Operand.func 37), args := #[Operand.tmp 68], argTypes := #[92] }, type := 25, pos := "halves.go:57", after := #[{ on := 14, ground := Ground.data }, { on := 10, ground := Ground.chain }], guard := none }) rfl (fun K hK => ?_) AllReadyH.nil
    go_simp
    go_at_call 37
    refine (HC1.out _ _ _ _ _ (t1.trans x4) o1_4 l14).mono ?_
    rintro e Z3 ⟨ao3, c3, rfl, own3, q5⟩
    try go_wp2_with fail
    have x5 : Same V Z3 := Same.trans x4 q5
    have h22_5 := (q5.block _ (lt_of_heap h22_4) (fun e => e)).trans h22_4
    have h9_5 := (q5.block _ (lt_of_heap h9_4) (fun e => e)).trans h9_4
    have h14_5 := (q5.block _ (lt_of_heap l14) (fun e => e)).trans l14
    have o1_5 := own_frameB o1_4 q5 (fun _ _ f => f)
    refine hK.out _ _ (HH.out _ x5) (fun hHeld => ?_)
    clear hK K
    try simp only [Act.put, List.setIfInBounds_toArray, List.set_cons_zero, List.set_cons_succ]
    refine wpAnyH_ready (rs := [23]) (by kernel_rfl) (by simp) ?_
    refine AllReadyH.cons (o := { dst := some 77, op := Op.call { callee := Callee.value (Operand.func 39), args := #[Operand.tmp 76], argTypes := #[93] }, type := 26, pos := "halves.go:58", after := #[{ on := 22, ground := Ground.data }, { on := 15, ground := Ground.chain }], guard := none }) rfl (fun K hK => ?_) AllReadyH.nil
    go_simp
    go_at_call 39
    refine (HC2.out _ _ (t1.trans x5) h22_5).mono ?_
    rintro e Z4 ⟨ao4, c4, rfl, own4, q6⟩
    try go_wp2_with fail
    have x6 : Same V Z4 := Same.trans x5 q6
    have h22_6 := (q6.block _ (lt_of_heap h22_5) (fun e => e)).trans h22_5
    have h9_6 := (q6.block _ (lt_of_heap h9_5) (fun e => e)).trans h9_5
    have h14_6 := (q6.block _ (lt_of_heap h14_5) (fun e => e)).trans h14_5
    have o1_6 := own_frameB o1_5 q6 (fun _ _ f => f)
    have o3_6 := own_frameB own3 q6 (fun _ _ f => f)
    refine hK.out _ _ (HH.out _ x6) (fun hHeld => ?_)
    clear hK K
    try simp only [Act.put, List.setIfInBounds_toArray, List.set_cons_zero, List.set_cons_succ]
    refine wpAnyH_take (i := 24) (oi := { dst := some 78, op := Op.build 28 #[(1, Operand.tmp 69), (2, Operand.tmp 77)], type := 28, pos := "halves.go:56", after := #[{ on := 15, ground := Ground.data }, { on := 23, ground := Ground.data }], guard := none }) (v := .agg #[.slice none 0 0, .slice ao3 n3 c3, .slice ao4 n4 c4]) rfl (by kernel_rfl) (by kernel_rfl) (by kernel_rfl) (fun _ _ _ h => h) (Or.inl ⟨by rfl, fun w hSw => by (obtain ⟨⟨q0, q1⟩, a0, a1, a2, a3, a4, a5, a6⟩ := hSw; go_simp)⟩) (by assumption) ?_
    try simp only [Act.put, List.setIfInBounds_toArray, List.set_cons_zero, List.set_cons_succ]
    have r6 := HG.out _ x6
    refine wpAnyH_ready (rs := [25]) (by kernel_rfl) (by simp) ?_
    refine AllReadyH.cons (o := { dst := none, op := Op.store 28 (Operand.tmp 4) (Operand.tmp 78), type := 0, pos := "halves.go:56", after := #[{ on := 24, ground := Ground.data }, { on := 23, ground := Ground.chain }, { on := 0, ground := Ground.phase }, { on := 1, ground := Ground.phase }, { on := 2, ground := Ground.phase }, { on := 3, ground := Ground.phase }, { on := 4, ground := Ground.phase }, { on := 5, ground := Ground.phase }, { on := 6, ground := Ground.phase }, { on := 7, ground := Ground.phase }, { on := 8, ground := Ground.phase }, { on := 9, ground := Ground.phase }, { on := 10, ground := Ground.phase }, { on := 11, ground := Ground.phase }, { on := 12, ground := Ground.phase }, { on := 13, ground := Ground.phase }, { on := 14, ground := Ground.phase }, { on := 15, ground := Ground.phase }, { on := 16, ground := Ground.phase }, { on := 17, ground := Ground.phase }, { on := 18, ground := Ground.phase }, { on := 19, ground := Ground.phase }, { on := 20, ground := Ground.phase }, { on := 21, ground := Ground.phase }, { on := 22, ground := Ground.phase }, { on := 23, ground := Ground.phase }, { on := 24, ground := Ground.phase }], guard := none }) rfl (fun K hK => ?_) AllReadyH.nil
    refine step_store_whole rfl 28 _ _ rfl (w.heap.size + 1 + 1) #[.slice none 0 0, .slice ao3 n3 c3, .slice ao4 n4 c4] _ 28 (by rfl) (by rfl) r6 rfl (by kernel_rfl) (by kernel_rfl) ?_
    intro W7 r7 f7
    have hH7 : ∀ (a : Addr) v, a.block ≠ w.heap.size + 1 + 1 → Z4.cell? a = some v → W7.cell? a = some v := fun a v hne hc => (f7.cell (World.block_lt_of_cell? _ _ hc) hne).trans hc
    obtain ⟨⟨b0, b1⟩, b2, b3, b4, b5, b6, b7, b8⟩ := HH.out _ x6
    refine hK.out _ _ ⟨⟨hH7 _ _ (Nat.ne_of_lt (by simp only; omega)) b0, hH7 _ _ (Nat.ne_of_lt (by simp only; omega)) b1⟩, hH7 _ _ (Nat.ne_of_lt (by simp only; omega)) b2, hH7 _ _ (Nat.ne_of_lt (by simp only; omega)) b3, hH7 _ _ (Nat.ne_of_lt (by simp only; omega)) b4, hH7 _ _ (Nat.ne_of_lt (by simp only; omega)) b5, hH7 _ _ (Nat.ne_of_lt (by simp only; omega)) b6, hH7 _ _ (Nat.ne_of_lt (by simp only; omega)) b7, hH7 _ _ (Nat.ne_of_lt (by simp only; omega)) b8⟩ (fun hHeld => ?_)
    clear hK K
    refine wpAnyH_take (i := 26) (oi := { dst := some 5, op := Op.assign (Operand.const (Value.int IntKind.i64 0)), type := 34, pos := "halves.go:56", after := #[{ on := 25, ground := Ground.chain }, { on := 0, ground := Ground.phase }, { on := 1, ground := Ground.phase }, { on := 2, ground := Ground.phase }, { on := 3, ground := Ground.phase }, { on := 4, ground := Ground.phase }, { on := 5, ground := Ground.phase }, { on := 6, ground := Ground.phase }, { on := 7, ground := Ground.phase }, { on := 8, ground := Ground.phase }, { on := 9, ground := Ground.phase }, { on := 10, ground := Ground.phase }, { on := 11, ground := Ground.phase }, { on := 12, ground := Ground.phase }, { on := 13, ground := Ground.phase }, { on := 14, ground := Ground.phase }, { on := 15, ground := Ground.phase }, { on := 16, ground := Ground.phase }, { on := 17, ground := Ground.phase }, { on := 18, ground := Ground.phase }, { on := 19, ground := Ground.phase }, { on := 20, ground := Ground.phase }, { on := 21, ground := Ground.phase }, { on := 22, ground := Ground.phase }, { on := 23, ground := Ground.phase }, { on := 24, ground := Ground.phase }, { on := 25, ground := Ground.phase }], guard := none }) (v := .int .i64 0) rfl (by kernel_rfl) (by kernel_rfl) (by kernel_rfl) (fun _ _ _ h => h) (Or.inl ⟨by rfl, fun w hSw => by (obtain ⟨⟨q0, q1⟩, a0, a1, a2, a3, a4, a5, a6⟩ := hSw; go_simp)⟩) (by assumption) ?_
    try simp only [Act.put, List.setIfInBounds_toArray, List.set_cons_zero, List.set_cons_succ]
    refine wpAnyH_done (by kernel_rfl) ?_ _
    go_wp2_with fail
    have hz := HZ.out
    skip
    exact bodyPost_ret (results_row_tmp (p := 4) (u := 5) (ty := 28) (by kernel_rfl) _ _ (w.heap.size + 1 + 1) 28 _ (0, 0) _ rfl r7 Tryz.underlying28 rfl (by kernel_rfl)) rfl ⟨ao3, c3, ao4, c4, rfl, own_frameB o3_6 f7 (fun kk hk e => type_ne o3_6 r6 (by decide) (by rw [hk, e] <;> rfl)), own_frameB own4 f7 (fun kk hk e => type_ne own4 r6 (by decide) (by rw [hk, e] <;> rfl)), Fr.trans (t1.trans x6) f7 (fun i hi e => by omega)⟩
end Go.Proofs.YtdmoglnbelembaaGreat
