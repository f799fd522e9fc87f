/- lentHalves. -/
import Derived.Test.YtdmoglnbelembaaGreatB7J
import Derived.Test.YtdmoglnbelembaaGreatGO2
import Derived.Test.YtdmoglnbelembaaGreatC6J
import Derived.Test.YtdmoglnbelembaaGreatCHJ
import Derived.Test.YtdmoglnbelembaaGreatCCJ
namespace Go.Proofs.YtdmoglnbelembaaGreat
open Go.RowKit

set_option maxRecDepth 100000 in
set_option maxHeartbeats 2000000 in
theorem lentH_calls {r1 r2 : Nr} {N1 N2 : Nd} {sp : ByteArray} (w : World) (i1 : NdIn w r1 N1) (i2 : NdIn w r2 N2) (s1 : NdSmall N1) (s2 : NdSmall N2) :
    Calls Tryz.prog 6 #[.agg (halvesN r1 r2 N1 N2 sp)] w fun e w' => ∃ B2 gp cp gs cs gk ck gp2 cp2 gs2 cs2 gk2 ck2, e = .returned (.agg (halvesN (lentNr gp cp gs cs gk ck) (lentNr gp2 cp2 gs2 cs2 gk2 ck2) N1 N2 sp)) ∧ LentAt w' w.heap.size gp cp gs cs gk ck N1 ∧ LentAt w' B2 gp2 cp2 gs2 cs2 gk2 ck2 N2 ∧ (gp < B2 ∧ gs < B2 ∧ gk < B2 ∧ w.heap.size ≤ B2) ∧ Same w w' := by
  have HL1 : Hid (∀ W, Same w W → Calls Tryz.prog 17 #[ndV r1 N1] W fun e w' => ∃ gp cp gs cs gk ck, e = .returned (.agg #[.slice (some ⟨gp, 0, none⟩) N1.ps.length cp, .slice (some ⟨gs, 0, none⟩) N1.ss.length cs, .slice (some ⟨gk, 0, none⟩) N1.ks.length ck]) ∧ LentAt w' W.heap.size gp cp gs cs gk ck N1 ∧ Same W w') := fun W s => lent_at W (i1.same s) s1.lens.1 s1.lens.2.1 s1.lens.2.2.1
  have HL2 : Hid (∀ W, Same w W → Calls Tryz.prog 17 #[ndV r2 N2] W fun e w' => ∃ gp cp gs cs gk ck, e = .returned (.agg #[.slice (some ⟨gp, 0, none⟩) N2.ps.length cp, .slice (some ⟨gs, 0, none⟩) N2.ss.length cs, .slice (some ⟨gk, 0, none⟩) N2.ks.length ck]) ∧ LentAt w' W.heap.size gp cp gs cs gk ck N2 ∧ Same W w') := fun W s => lent_at W (i2.same s) s2.lens.1 s2.lens.2.1 s2.lens.2.2.1
  obtain ⟨V, hV⟩ : ∃ V, V = (w.alloc (.cells (halvesN r1 r2 N1 N2 sp) 30)).alloc (.cells #[.slice none 0 0, .slice none 0 0, .slice none 0 0, .string ⟨#[]⟩, .slice none 0 0, .slice none 0 0, .slice none 0 0] 30) := ⟨_, rfl⟩
  have t1 : Same w V := by rw [hV]; exact ((Fr.refl _ w).alloc _).alloc _
  have g1 : V.heap[w.heap.size + 1]? = some (.cells #[.slice none 0 0, .slice none 0 0, .slice none 0 0, .string ⟨#[]⟩, .slice none 0 0, .slice none 0 0, .slice none 0 0] 30 (0, 0)) := by rw [hV]; exact heap_alloc2_new w _ _
  have g0 : V.heap[w.heap.size]? = some (.cells (halvesN r1 r2 N1 N2 sp) 30 (0, 0)) := by rw [hV]; exact (Below.heap_alloc _ _ _ (by simp)).trans (heap_alloc_new w _)
  have HH : Hid (∀ W, Same V W → W.cell? ⟨w.heap.size, 0, none⟩ = some (.slice r1.pa N1.ps.length r1.cp) ∧ W.cell? ⟨w.heap.size, 1, none⟩ = some (.slice r1.sa N1.ss.length r1.cs) ∧ W.cell? ⟨w.heap.size, 2, none⟩ = some (.slice r1.ka N1.ks.length r1.ck) ∧ W.cell? ⟨w.heap.size, 3, none⟩ = some (.string sp) ∧ W.cell? ⟨w.heap.size, 4, none⟩ = some (.slice r2.pa N2.ps.length r2.cp) ∧ W.cell? ⟨w.heap.size, 5, none⟩ = some (.slice r2.sa N2.ss.length r2.cs) ∧ W.cell? ⟨w.heap.size, 6, none⟩ = some (.slice r2.ka N2.ks.length r2.ck)) := fun W s => (hcells_row g0).keep s
  have HG : Hid (∀ W, Same V W → W.heap[w.heap.size + 1]? = some (.cells #[.slice none 0 0, .slice none 0 0, .slice none 0 0, .string ⟨#[]⟩, .slice none 0 0, .slice none 0 0, .slice none 0 0] 30 (0, 0))) := fun W s => (s.block _ (lt_of_heap g1) (fun e => e)).trans g1
  have HZ : Hid (w.heap.size + 2 ≤ V.heap.size) := by show _ ≤ _; rw [hV]; simp
  have d0 : Same V V.drew := Fr.drew (Fr.refl _ V)
  clear g0 g1 i1 i2 s1 s2
  unfold halvesN at hV ⊢
  go_enter Tryz.func6, Tryz.ntmps6
  go_wp2_with fail
  rw [← hV]
  clear hV
  refine wp_region_held_drew (S := fun X => X.cell? ⟨w.heap.size, 0, none⟩ = some (.slice r1.pa N1.ps.length r1.cp) ∧ X.cell? ⟨w.heap.size, 1, none⟩ = some (.slice r1.sa N1.ss.length r1.cs) ∧ X.cell? ⟨w.heap.size, 2, none⟩ = some (.slice r1.ka N1.ks.length r1.ck) ∧ X.cell? ⟨w.heap.size, 3, none⟩ = some (.string sp) ∧ X.cell? ⟨w.heap.size, 4, none⟩ = some (.slice r2.pa N2.ps.length r2.cp) ∧ X.cell? ⟨w.heap.size, 5, none⟩ = some (.slice r2.sa N2.ss.length r2.cs) ∧ X.cell? ⟨w.heap.size, 6, none⟩ = some (.slice r2.ka N2.ks.length r2.ck)) (by kernel_rfl) (HH.out _ d0) (fun hHeld => ?_)
  refine wpAnyH_take (i := 0) (oi := { dst := some 3, op := Op.fieldAddr 30 (Operand.tmp 1) 0, type := 0, pos := "kit.go:104", after := #[], guard := none }) (v := .pointer (some ⟨w.heap.size, 0, none⟩)) rfl (by kernel_rfl) (by kernel_rfl) (by kernel_rfl) (fun _ _ _ h => h) (Or.inl ⟨by rfl, fun w hSw => by (obtain ⟨q0, q1, q2, q3, q4, q5, q6⟩ := hSw; go_simp)⟩) (by assumption) ?_
  try simp only [Act.put, List.setIfInBounds_toArray, List.set_cons_zero, List.set_cons_succ]
  refine wpAnyH_take (i := 1) (oi := { dst := some 4, op := Op.load 28 (Operand.tmp 3), type := 28, pos := "kit.go:104", after := #[{ on := 0, ground := Ground.data }], guard := none }) (v := .agg #[.slice r1.pa N1.ps.length r1.cp, .slice r1.sa N1.ss.length r1.cs, .slice r1.ka N1.ks.length r1.ck]) rfl (by kernel_rfl) (by kernel_rfl) (by kernel_rfl) (fun _ _ _ h => h) (Or.inl ⟨by rfl, fun w hSw => by (obtain ⟨q0, q1, q2, q3, q4, q5, q6⟩ := hSw; go_simp)⟩) (by assumption) ?_
  try simp only [Act.put, List.setIfInBounds_toArray, List.set_cons_zero, List.set_cons_succ]
  refine wpAnyH_take (i := 3) (oi := { dst := some 6, op := Op.fieldAddr 30 (Operand.tmp 1) 1, type := 0, pos := "kit.go:104", after := #[], guard := none }) (v := .pointer (some ⟨w.heap.size, 3, none⟩)) rfl (by kernel_rfl) (by kernel_rfl) (by kernel_rfl) (fun _ _ _ h => h) (Or.inl ⟨by rfl, fun w hSw => by (obtain ⟨q0, q1, q2, q3, q4, q5, q6⟩ := hSw; go_simp)⟩) (by assumption) ?_
  try simp only [Act.put, List.setIfInBounds_toArray, List.set_cons_zero, List.set_cons_succ]
  refine wpAnyH_take (i := 4) (oi := { dst := some 7, op := Op.load 9 (Operand.tmp 6), type := 9, pos := "kit.go:104", after := #[{ on := 3, ground := Ground.data }], guard := none }) (v := .string sp) rfl (by kernel_rfl) (by kernel_rfl) (by kernel_rfl) (fun _ _ _ h => h) (Or.inl ⟨by rfl, fun w hSw => by (obtain ⟨q0, q1, q2, q3, q4, q5, q6⟩ := hSw; go_simp)⟩) (by assumption) ?_
  try simp only [Act.put, List.setIfInBounds_toArray, List.set_cons_zero, List.set_cons_succ]
  refine wpAnyH_take (i := 5) (oi := { dst := some 8, op := Op.fieldAddr 30 (Operand.tmp 1) 2, type := 0, pos := "kit.go:104", after := #[], guard := none }) (v := .pointer (some ⟨w.heap.size, 4, none⟩)) rfl (by kernel_rfl) (by kernel_rfl) (by kernel_rfl) (fun _ _ _ h => h) (Or.inl ⟨by rfl, fun w hSw => by (obtain ⟨q0, q1, q2, q3, q4, q5, q6⟩ := hSw; go_simp)⟩) (by assumption) ?_
  try simp only [Act.put, List.setIfInBounds_toArray, List.set_cons_zero, List.set_cons_succ]
  refine wpAnyH_take (i := 6) (oi := { dst := some 9, op := Op.load 28 (Operand.tmp 8), type := 28, pos := "kit.go:104", after := #[{ on := 5, ground := Ground.data }], guard := none }) (v := .agg #[.slice r2.pa N2.ps.length r2.cp, .slice r2.sa N2.ss.length r2.cs, .slice r2.ka N2.ks.length r2.ck]) rfl (by kernel_rfl) (by kernel_rfl) (by kernel_rfl) (fun _ _ _ h => h) (Or.inl ⟨by rfl, fun w hSw => by (obtain ⟨q0, q1, q2, q3, q4, q5, q6⟩ := hSw; go_simp)⟩) (by assumption) ?_
  try simp only [Act.put, List.setIfInBounds_toArray, List.set_cons_zero, List.set_cons_succ]
  refine wpAnyH_ready (rs := [2]) (by kernel_rfl) (by simp) ?_
  refine AllReadyH.cons (o := { dst := some 5, op := Op.call { callee := Callee.value (Operand.func 17), args := #[Operand.tmp 4], argTypes := #[28] }, type := 28, pos := "kit.go:104", after := #[{ on := 1, ground := Ground.data }], guard := none }) rfl (fun K hK => ?_) AllReadyH.nil
  go_simp
  go_at_call 17
  refine (HL1.out _ (t1.trans d0)).mono ?_
  rintro e W1 ⟨gp, cp, gs, cs, gk, ck, rfl, l1, q1⟩
  try go_wp2_with fail
  have d1 := d0.trans q1
  refine hK.out _ _ (HH.out _ d1) (fun hHeld => ?_)
  clear hK K
  try simp only [Act.put, List.setIfInBounds_toArray, List.set_cons_zero, List.set_cons_succ]
  refine wpAnyH_ready (rs := [7]) (by kernel_rfl) (by simp) ?_
  refine AllReadyH.cons (o := { dst := some 10, op := Op.call { callee := Callee.value (Operand.func 17), args := #[Operand.tmp 9], argTypes := #[28] }, type := 28, pos := "kit.go:104", after := #[{ on := 6, ground := Ground.data }, { on := 2, ground := Ground.chain }], guard := none }) rfl (fun K hK => ?_) AllReadyH.nil
  go_simp
  go_at_call 17
  refine (HL2.out _ (t1.trans d1)).mono ?_
  rintro e W2 ⟨gp2, cp2, gs2, cs2, gk2, ck2, rfl, l2, q2⟩
  try go_wp2_with fail
  have d2 := d1.trans q2
  refine hK.out _ _ (HH.out _ d2) (fun hHeld => ?_)
  clear hK K
  try simp only [Act.put, List.setIfInBounds_toArray, List.set_cons_zero, List.set_cons_succ]
  refine wpAnyH_take (i := 8) (oi := { dst := some 11, op := Op.build 30 #[(0, Operand.tmp 5), (1, Operand.tmp 7), (2, Operand.tmp 10)], type := 30, pos := "kit.go:104", after := #[{ on := 2, ground := Ground.data }, { on := 4, ground := Ground.data }, { on := 7, ground := Ground.data }], guard := none }) (v := .agg #[.slice (some ⟨gp, 0, none⟩) N1.ps.length cp, .slice (some ⟨gs, 0, none⟩) N1.ss.length cs, .slice (some ⟨gk, 0, none⟩) N1.ks.length ck, .string sp, .slice (some ⟨gp2, 0, none⟩) N2.ps.length cp2, .slice (some ⟨gs2, 0, none⟩) N2.ss.length cs2, .slice (some ⟨gk2, 0, none⟩) N2.ks.length ck2]) rfl (by kernel_rfl) (by kernel_rfl) (by kernel_rfl) (fun _ _ _ h => h) (Or.inl ⟨by rfl, fun w hSw => by (obtain ⟨q0, q1, q2, q3, q4, q5, q6⟩ := hSw; go_simp)⟩) (by assumption) ?_
  try simp only [Act.put, List.setIfInBounds_toArray, List.set_cons_zero, List.set_cons_succ]
  have r6 := HG.out _ d2
  refine wpAnyH_ready (rs := [9]) (by kernel_rfl) (by simp) ?_
  refine AllReadyH.cons (o := { dst := none, op := Op.store 30 (Operand.tmp 2) (Operand.tmp 11), type := 0, pos := "kit.go:104", after := #[{ on := 8, ground := Ground.data }, { on := 7, ground := Ground.chain }, { on := 0, ground := Ground.phase }, { on := 1, ground := Ground.phase }, { on := 2, ground := Ground.phase }, { on := 3, ground := Ground.phase }, { on := 4, ground := Ground.phase }, { on := 5, ground := Ground.phase }, { on := 6, ground := Ground.phase }, { on := 7, ground := Ground.phase }, { on := 8, ground := Ground.phase }], guard := none }) rfl (fun K hK => ?_) AllReadyH.nil
  refine step_store_whole rfl 30 _ _ rfl (w.heap.size + 1) #[.slice (some ⟨gp, 0, none⟩) N1.ps.length cp, .slice (some ⟨gs, 0, none⟩) N1.ss.length cs, .slice (some ⟨gk, 0, none⟩) N1.ks.length ck, .string sp, .slice (some ⟨gp2, 0, none⟩) N2.ps.length cp2, .slice (some ⟨gs2, 0, none⟩) N2.ss.length cs2, .slice (some ⟨gk2, 0, none⟩) N2.ks.length ck2] _ 30 (by rfl) (by rfl) r6 rfl (by kernel_rfl) (by kernel_rfl) ?_
  intro W7 r7 f7
  obtain ⟨q0, q1x, q2x, q3, q4, q5, q6⟩ := HH.out _ d2
  have hz := HZ.out
  have z1 := d1.size
  have e1 := own_ge l1.oP
  have e2 := own_ge l1.oS
  have e3 := own_ge l1.oK
  have l1' := l1.same q2
  have y1 : LentAt W7 w.heap.size gp cp gs cs gk ck N1 := ⟨own_base (own_frameB l1'.oP f7 (fun k hk e => type_ne l1'.oP r6 (by decide) (by rw [← e]; exact hk))) (by have := d0.size; omega), own_base (own_frameB l1'.oS f7 (fun k hk e => type_ne l1'.oS r6 (by decide) (by rw [← e]; exact hk))) (by have := d0.size; omega), own_base (own_frameB l1'.oK f7 (fun k hk e => type_ne l1'.oK r6 (by decide) (by rw [← e]; exact hk))) (by have := d0.size; omega)⟩
  have y2 : LentAt W7 W1.heap.size gp2 cp2 gs2 cs2 gk2 ck2 N2 := ⟨own_frameB l2.oP f7 (fun k hk e => type_ne l2.oP r6 (by decide) (by rw [← e]; exact hk)), own_frameB l2.oS f7 (fun k hk e => type_ne l2.oS r6 (by decide) (by rw [← e]; exact hk)), own_frameB l2.oK f7 (fun k hk e => type_ne l2.oK r6 (by decide) (by rw [← e]; exact hk))⟩
  refine hK.out _ _ ⟨(f7.cell (World.block_lt_of_cell? _ _ q0) (by simp)).trans q0, (f7.cell (World.block_lt_of_cell? _ _ q1x) (by simp)).trans q1x, (f7.cell (World.block_lt_of_cell? _ _ q2x) (by simp)).trans q2x, (f7.cell (World.block_lt_of_cell? _ _ q3) (by simp)).trans q3, (f7.cell (World.block_lt_of_cell? _ _ q4) (by simp)).trans q4, (f7.cell (World.block_lt_of_cell? _ _ q5) (by simp)).trans q5, (f7.cell (World.block_lt_of_cell? _ _ q6) (by simp)).trans q6⟩ (fun hHeld => ?_)
  clear hK K
  refine wpAnyH_done (by kernel_rfl) ?_ _
  go_wp2_with fail
  exact bodyPost_ret (results_row_one (p := 2) (ty := 30) (by kernel_rfl) _ _ (w.heap.size + 1) 30 _ (0, 0) _ rfl r7 Tryz.underlying30 rfl (by kernel_rfl)) rfl ⟨W1.heap.size, gp, cp, gs, cs, gk, ck, gp2, cp2, gs2, cs2, gk2, ck2, rfl, y1, y2, ⟨e1.2, e2.2, e3.2, by omega⟩, Fr.trans (t1.trans d2) f7 (fun i hi e => by omega)⟩

set_option maxRecDepth 100000 in
set_option maxHeartbeats 2000000 in
theorem keptH_calls {r1 r2 : Nr} {N1 N2 : Nd} {sp : ByteArray} {B B2 gp cp gs cs gk ck gp2 cp2 gs2 cs2 gk2 ck2 : Nat} (w : World) (i1 : NdIn w r1 N1) (i2 : NdIn w r2 N2) (s1 : NdSmall N1) (s2 : NdSmall N2) (l1 : LentAt w B gp cp gs cs gk ck N1) (l2 : LentAt w B2 gp2 cp2 gs2 cs2 gk2 ck2 N2) :
    Calls Tryz.prog 9 #[.agg (halvesN (lentNr gp cp gs cs gk ck) (lentNr gp2 cp2 gs2 cs2 gk2 ck2) N1 N2 sp), .agg (halvesN r1 r2 N1 N2 sp)] w fun e w' => e = .returned (.bool true) ∧ Same w w' := by
  have HK1 : Hid (∀ W, Same w W → Calls Tryz.prog 21 #[ndV (lentNr gp cp gs cs gk ck) N1, ndV r1 N1] W fun e w' => e = .returned (.bool true) ∧ Same W w') := fun W s => kept_true W (l1.same s) (i1.at_.same s) s1.lens.1 s1.lens.2.1 s1.lens.2.2.1
  have HK2 : Hid (∀ W, Same w W → Calls Tryz.prog 21 #[ndV (lentNr gp2 cp2 gs2 cs2 gk2 ck2) N2, ndV r2 N2] W fun e w' => e = .returned (.bool true) ∧ Same W w') := fun W s => kept_true W (l2.same s) (i2.at_.same s) s2.lens.1 s2.lens.2.1 s2.lens.2.2.1
  obtain ⟨V, hV⟩ : ∃ V, V = (w.alloc (.cells (halvesN (lentNr gp cp gs cs gk ck) (lentNr gp2 cp2 gs2 cs2 gk2 ck2) N1 N2 sp) 30)).alloc (.cells (halvesN r1 r2 N1 N2 sp) 30) := ⟨_, rfl⟩
  have t1 : Same w V := by rw [hV]; exact ((Fr.refl _ w).alloc _).alloc _
  have g1 : V.heap[w.heap.size + 1]? = some (.cells (halvesN r1 r2 N1 N2 sp) 30 (0, 0)) := by rw [hV]; exact heap_alloc2_new w _ _
  have g0 : V.heap[w.heap.size]? = some (.cells (halvesN (lentNr gp cp gs cs gk ck) (lentNr gp2 cp2 gs2 cs2 gk2 ck2) N1 N2 sp) 30 (0, 0)) := by rw [hV]; exact (Below.heap_alloc _ _ _ (by simp)).trans (heap_alloc_new w _)
  have H0 : Hid (∀ W, Same V W → HCells W w.heap.size (lentNr gp cp gs cs gk ck) (lentNr gp2 cp2 gs2 cs2 gk2 ck2) N1 N2 sp) := fun W s => (hcells_row g0).keep s
  have H1 : Hid (∀ W, Same V W → HCells W (w.heap.size + 1) r1 r2 N1 N2 sp) := fun W s => (hcells_row g1).keep s
  have ee : (sp.toList == sp.toList) = true := by simp
  clear g0 g1 i1 i2 s1 s2 l1 l2
  unfold halvesN at hV ⊢
  unfold HCells at H0 H1
  unfold lentNr at hV H0 HK1 HK2 ⊢
  obtain ⟨a0, a1, a2, a3, a4, a5, a6⟩ := H0.out _ (Fr.refl _ V)
  obtain ⟨b0, b1, b2, b3, b4, b5, b6⟩ := H1.out _ (Fr.refl _ V)
  go_enter Tryz.func9, Tryz.ntmps9
  go_wp2_with fail
  rw [← hV]
  clear hV
  refine (HK1.out _ t1).mono ?_
  rintro e W1 ⟨rfl, s1⟩
  clear a0 a1 a2 a3 a4 a5 a6 b0 b1 b2 b3 b4 b5 b6
  obtain ⟨a0, a1, a2, a3, a4, a5, a6⟩ := H0.out _ s1
  obtain ⟨b0, b1, b2, b3, b4, b5, b6⟩ := H1.out _ s1
  go_wp2_with fail
  refine (HK2.out _ (t1.trans s1)).mono ?_
  rintro e W2 ⟨rfl, s2⟩
  go_wp2_with fail
  go_ret
  exact ⟨rfl, (t1.trans s1).trans s2⟩
end Go.Proofs.YtdmoglnbelembaaGreat
namespace Go.Proofs.YtdmoglnbelembaaGreat
open Go.RowKit

theorem LentAt.in_ {w : World} {B gp cp gs cs gk ck : Nat} {N : Nd} (h : LentAt w B gp cp gs cs gk ck N) {v : World} {r : Nr} (hn : NdAt v r N) : NdIn w (lentNr gp cp gs cs gk ck) N := by
  have a := h.nd hn
  exact ⟨a, prow_part a.hp (fun e => by cases e), trow_part a.hs (fun e => by cases e), krow_part hn.ok a.hk (fun e => by cases e)⟩
theorem LentAt.roomL {w : World} {B gp cp gs cs gk ck : Nat} {N : Nd} (h : LentAt w B gp cp gs cs gk ck N) : NdRoom (lentNr gp cp gs cs gk ck) N := by
  obtain ⟨h1, h2, h3⟩ := h.caps
  exact ⟨by show _ ≤ cp; omega, by show _ ≤ cs; omega, by show _ ≤ ck; omega, fun e => (by cases e), fun e => (by cases e), fun e => (by cases e), fun a e => (by cases e; exact ⟨gp, 0, rfl⟩), fun a e => (by cases e; exact ⟨gs, 0, rfl⟩), fun a e => (by cases e; exact ⟨gk, 0, rfl⟩)⟩
theorem LentAt.fr {w w' : World} {B gp cp gs cs gk ck : Nat} {N : Nd} {S : Nat → Prop} (h : LentAt w B gp cp gs cs gk ck N) (f : Fr S w w') (h1 : ¬ S gp) (h2 : ¬ S gs) (h3 : ¬ S gk) : LentAt w' B gp cp gs cs gk ck N :=
  ⟨own_frameB h.oP f (fun k hk => by simp [Value.ownBlock] at hk; subst hk; exact h1), own_frameB h.oS f (fun k hk => by simp [Value.ownBlock] at hk; subst hk; exact h2), own_frameB h.oK f (fun k hk => by simp [Value.ownBlock] at hk; subst hk; exact h3)⟩
theorem LentAt.spoil {w : World} {B gp cp gs cs gk ck : Nat} {N : Nd} (l : LentAt w B gp cp gs cs gk ck N) (hs : NdSmall N) : Calls Tryz.prog 10 #[ndV (lentNr gp cp gs cs gk ck) N] w fun e w' => (∃ n : Int, e = .returned (.int .i64 n)) ∧ Fr (fun k => k = gp ∨ k = gs ∨ k = gk) w w' :=
  spoil_calls w (Own.first l.oP (by omega)) (Own.first l.oS (by omega)) (Own.first l.oK (by omega)) hs.lens.1 hs.lens.2.1 hs.lens.2.2.1 (fun a h => by
    rcases h with h | h | h
    · cases h; exact Or.inl rfl
    · cases h; exact Or.inr (Or.inl rfl)
    · cases h; exact Or.inr (Or.inr rfl))
theorem LentAt.ge {w : World} {B gp cp gs cs gk ck : Nat} {N : Nd} (l : LentAt w B gp cp gs cs gk ck N) : (B ≤ gp ∧ B ≤ gs ∧ B ≤ gk) ∧ gp < w.heap.size ∧ gs < w.heap.size ∧ gk < w.heap.size :=
  ⟨⟨(own_ge l.oP).1, (own_ge l.oS).1, (own_ge l.oK).1⟩, (own_ge l.oP).2, (own_ge l.oS).2, (own_ge l.oK).2⟩
end Go.Proofs.YtdmoglnbelembaaGreat
namespace Go.Proofs.YtdmoglnbelembaaGreat
open Go.RowKit

set_option maxRecDepth 100000 in
set_option maxHeartbeats 1000000 in
theorem gborrows_great1 {p q : Int} {r1 r2 : Nr} {N1 N2 : Nd} {sp : ByteArray} (w : World) (hg : greatB N1 = true) :
    Calls Tryz.prog 3 #[frameV p q, .agg (halvesN r1 r2 N1 N2 sp)] w fun e w' => e = .returned (.bool true) ∧ Same w w' := by
  have HA : Hid (∀ W, Calls Tryz.prog 5 #[] W fun e w' => e = .returned (.bool true) ∧ Same W w') := awake_calls
  have HG1 : Hid (∀ W, Calls Tryz.prog 4 #[ndV r1 N1] W fun e w' => e = .returned (.bool true) ∧ Same W w') := fun W => by rw [← hg]; exact great_calls W
  obtain ⟨V, hV⟩ : ∃ V, V = (w.alloc (.cells #[.int .i64 p, .int .i64 q] 23)).alloc (.cells (halvesN r1 r2 N1 N2 sp) 30) := ⟨_, rfl⟩
  have t1 : Same w V := by rw [hV]; exact ((Fr.refl _ w).alloc _).alloc _
  have g1 : V.heap[w.heap.size + 1]? = some (.cells (halvesN r1 r2 N1 N2 sp) 30 (0, 0)) := by rw [hV]; exact heap_alloc2_new w _ _
  have HC : Hid (∀ W, Same V W → HCells W (w.heap.size + 1) r1 r2 N1 N2 sp) := fun W s => (hcells_row g1).keep s
  unfold HCells at HC
  unfold halvesN at hV ⊢
  clear g1 hg
  obtain ⟨m0, m1, m2, m3, m4, m5, m6⟩ := HC.out _ (Fr.refl _ V)
  go_enter Tryz.func3, Tryz.ntmps3
  go_wp2_with fail
  rw [← hV]
  clear hV
  refine (HG1.out _).mono ?_
  rintro e W1 ⟨rfl, s1⟩
  clear m0 m1 m2 m3 m4 m5 m6
  obtain ⟨m0, m1, m2, m3, m4, m5, m6⟩ := HC.out _ s1
  go_wp2_with fail
  refine (HA.out _).mono ?_
  rintro e W3 ⟨rfl, s3⟩
  go_wp2_with fail
  go_ret
  exact ⟨rfl, (t1.trans s1).trans s3⟩
set_option maxRecDepth 100000 in
set_option maxHeartbeats 1000000 in
theorem gborrows_great2 {p q : Int} {r1 r2 : Nr} {N1 N2 : Nd} {sp : ByteArray} (w : World) (hg0 : greatB N1 = false) (hg : greatB N2 = true) :
    Calls Tryz.prog 3 #[frameV p q, .agg (halvesN r1 r2 N1 N2 sp)] w fun e w' => e = .returned (.bool true) ∧ Same w w' := by
  have HA : Hid (∀ W, Calls Tryz.prog 5 #[] W fun e w' => e = .returned (.bool true) ∧ Same W w') := awake_calls
  have HG1 : Hid (∀ W, Calls Tryz.prog 4 #[ndV r1 N1] W fun e w' => e = .returned (.bool false) ∧ Same W w') := fun W => by rw [← hg0]; exact great_calls W
  have HG2 : Hid (∀ W, Calls Tryz.prog 4 #[ndV r2 N2] W fun e w' => e = .returned (.bool true) ∧ Same W w') := fun W => by rw [← hg]; exact great_calls W
  obtain ⟨V, hV⟩ : ∃ V, V = (w.alloc (.cells #[.int .i64 p, .int .i64 q] 23)).alloc (.cells (halvesN r1 r2 N1 N2 sp) 30) := ⟨_, rfl⟩
  have t1 : Same w V := by rw [hV]; exact ((Fr.refl _ w).alloc _).alloc _
  have g1 : V.heap[w.heap.size + 1]? = some (.cells (halvesN r1 r2 N1 N2 sp) 30 (0, 0)) := by rw [hV]; exact heap_alloc2_new w _ _
  have HC : Hid (∀ W, Same V W → HCells W (w.heap.size + 1) r1 r2 N1 N2 sp) := fun W s => (hcells_row g1).keep s
  unfold HCells at HC
  unfold halvesN at hV ⊢
  clear g1 hg hg0
  obtain ⟨m0, m1, m2, m3, m4, m5, m6⟩ := HC.out _ (Fr.refl _ V)
  go_enter Tryz.func3, Tryz.ntmps3
  go_wp2_with fail
  rw [← hV]
  clear hV
  refine (HG1.out _).mono ?_
  rintro e W1 ⟨rfl, s1⟩
  clear m0 m1 m2 m3 m4 m5 m6
  obtain ⟨m0, m1, m2, m3, m4, m5, m6⟩ := HC.out _ s1
  go_wp2_with fail
  refine (HG2.out _).mono ?_
  rintro e W2 ⟨rfl, s2⟩
  have s1 := s1.trans s2
  go_wp2_with fail
  refine (HA.out _).mono ?_
  rintro e W3 ⟨rfl, s3⟩
  go_wp2_with fail
  go_ret
  exact ⟨rfl, (t1.trans s1).trans s3⟩
set_option maxRecDepth 100000 in
set_option maxHeartbeats 8000000 in
theorem gborrows_core {p q E : Int} {r1 r2 : Nr} {N1 N2 M1 M2 : Nd} {sp sq : ByteArray} (w : World) (i1 : NdIn w r1 N1) (i2 : NdIn w r2 N2) (h : Small2 N1 N2 sp) (ok : TwoOk M1 M2) (hg1 : greatB N1 = false) (hg2 : greatB N2 = false)
    (HR : Hid (∀ W gp cp gs cs gk ck gp2 cp2 gs2 cs2 gk2 ck2 B B2, LentAt W B gp cp gs cs gk ck N1 → LentAt W B2 gp2 cp2 gs2 cs2 gk2 ck2 N2 → Calls Tryz.prog 7 #[frameV p q, .agg (halvesN (lentNr gp cp gs cs gk ck) (lentNr gp2 cp2 gs2 cs2 gk2 ck2) N1 N2 sp)] W fun e w' => SplitA W.heap.size M1 M2 sq E e w' ∧ Same W w'))
    (HD : Hid (∀ W, Same w W → Calls Tryz.prog 8 #[frameV p q, .agg (halvesN r1 r2 N1 N2 sp)] W fun e w' => SplitD W.heap.size M1 M2 sq E e w' ∧ Same W w')) :
    Calls Tryz.prog 3 #[frameV p q, .agg (halvesN r1 r2 N1 N2 sp)] w fun e w' => e = .returned (.bool true) ∧ Same w w' := by
  have HG1 : Hid (∀ W, Calls Tryz.prog 4 #[ndV r1 N1] W fun e w' => e = .returned (.bool false) ∧ Same W w') := fun W => by rw [← hg1]; exact great_calls W
  have HG2 : Hid (∀ W, Calls Tryz.prog 4 #[ndV r2 N2] W fun e w' => e = .returned (.bool false) ∧ Same W w') := fun W => by rw [← hg2]; exact great_calls W
  have HL : Hid (∀ W, Same w W → Calls Tryz.prog 6 #[.agg (halvesN r1 r2 N1 N2 sp)] W fun e w' => ∃ B2 gp cp gs cs gk ck gp2 cp2 gs2 cs2 gk2 ck2, e = .returned (.agg (halvesN (lentNr gp cp gs cs gk ck) (lentNr gp2 cp2 gs2 cs2 gk2 ck2) N1 N2 sp)) ∧ LentAt w' W.heap.size gp cp gs cs gk ck N1 ∧ LentAt w' B2 gp2 cp2 gs2 cs2 gk2 ck2 N2 ∧ (gp < B2 ∧ gs < B2 ∧ gk < B2 ∧ W.heap.size ≤ B2) ∧ Same W w') := fun W s => lentH_calls W (i1.same s) (i2.same s) h.one h.two
  have HK : Hid (∀ W gp cp gs cs gk ck gp2 cp2 gs2 cs2 gk2 ck2 B B2, Same w W → LentAt W B gp cp gs cs gk ck N1 → LentAt W B2 gp2 cp2 gs2 cs2 gk2 ck2 N2 → Calls Tryz.prog 9 #[.agg (halvesN (lentNr gp cp gs cs gk ck) (lentNr gp2 cp2 gs2 cs2 gk2 ck2) N1 N2 sp), .agg (halvesN r1 r2 N1 N2 sp)] W fun e w' => e = .returned (.bool true) ∧ Same W w') := fun W gp cp gs cs gk ck gp2 cp2 gs2 cs2 gk2 ck2 B B2 s l1 l2 => keptH_calls W (i1.same s) (i2.same s) h.one h.two l1 l2
  have HSP1 : Hid (∀ W gp cp gs cs gk ck B, LentAt W B gp cp gs cs gk ck N1 → Calls Tryz.prog 10 #[ndV (lentNr gp cp gs cs gk ck) N1] W fun e w' => (∃ n : Int, e = .returned (.int .i64 n)) ∧ Fr (fun k => k = gp ∨ k = gs ∨ k = gk) W w') := fun W gp cp gs cs gk ck B l => l.spoil h.one
  have HSP2 : Hid (∀ W gp cp gs cs gk ck B, LentAt W B gp cp gs cs gk ck N2 → Calls Tryz.prog 10 #[ndV (lentNr gp cp gs cs gk ck) N2] W fun e w' => (∃ n : Int, e = .returned (.int .i64 n)) ∧ Fr (fun k => k = gp ∨ k = gs ∨ k = gk) W w') := fun W gp cp gs cs gk ck B l => l.spoil h.two
  have HA : Hid (∀ W, Calls Tryz.prog 5 #[] W fun e w' => e = .returned (.bool true) ∧ Same W w') := awake_calls
  have HFR : Hid (∀ (W : World) B1 B2 B3 B4 B5 B6 r1 r2 r3 r4 r5 r6, MadeNd W B1 r1 M1 → MadeNd W B2 r2 M2 → MadeNd W B3 r3 M1 → MadeNd W B4 r4 M2 → MadeNd W B5 r5 M1 → MadeNd W B6 r6 M2 → (∀ k, blkN r2 k → ¬ blkN r1 k) → (∀ k, (blkN r3 k ∨ blkN r4 k ∨ blkN r5 k ∨ blkN r6 k) → ¬ (blkN r1 k ∨ blkN r2 k)) → Calls Tryz.prog 11 #[.agg (halvesN r1 r2 M1 M2 sq), .agg (halvesN r3 r4 M1 M2 sq), .agg (halvesN r5 r6 M1 M2 sq)] W fun e w' => e = .returned (.bool true) ∧ Fr (fun k => blkN r1 k ∨ blkN r2 k) W w') := fun W B1 B2 B3 B4 B5 B6 r1 r2 r3 r4 r5 r6 m1 m2 m3 m4 m5 m6 ap ap3 => halves_made W m1 m2 m3 m4 m5 m6 ok.s1 ok.s2 ok.k1 ok.k2 ap ap3
  have eEE : (E == E) = true := by simp
  obtain ⟨V, hV⟩ : ∃ V, V = (w.alloc (.cells #[.int .i64 p, .int .i64 q] 23)).alloc (.cells (halvesN r1 r2 N1 N2 sp) 30) := ⟨_, rfl⟩
  have t1 : Same w V := by rw [hV]; exact ((Fr.refl _ w).alloc _).alloc _
  have a0 : V.cell? ⟨w.heap.size, 0, none⟩ = some (.int .i64 p) := by rw [hV]; simp
  have a1 : V.cell? ⟨w.heap.size, 1, none⟩ = some (.int .i64 q) := by rw [hV]; simp
  have g1 : V.heap[w.heap.size + 1]? = some (.cells (halvesN r1 r2 N1 N2 sp) 30 (0, 0)) := by rw [hV]; exact heap_alloc2_new w _ _
  have HC : Hid (∀ W, Same V W → (W.cell? ⟨w.heap.size, 0, none⟩ = some (.int .i64 p) ∧ W.cell? ⟨w.heap.size, 1, none⟩ = some (.int .i64 q)) ∧ HCells W (w.heap.size + 1) r1 r2 N1 N2 sp) := fun W s => ⟨⟨s.keep a0, s.keep a1⟩, (hcells_row g1).keep s⟩
  have HVZ : Hid (w.heap.size ≤ V.heap.size) := t1.size
  clear i1 i2 h ok g1 a0 a1 hg1 hg2
  unfold HCells at HC
  unfold SplitA at HR
  unfold SplitD at HD
  unfold halvesN at hV HL HD HK HR HFR ⊢
  unfold lentNr at HL HR HK HSP1 HSP2
  simp only at HL HR HK
  obtain ⟨⟨a0, a1⟩, m0, m1, m2, m3, m4, m5, m6⟩ := HC.out _ (Fr.refl _ V)
  go_enter Tryz.func3, Tryz.ntmps3
  go_wp2_with fail
  rw [← hV]
  clear hV
  refine (HG1.out _).mono ?_
  rintro e U1 ⟨rfl, su1⟩
  clear a0 a1 m0 m1 m2 m3 m4 m5 m6
  obtain ⟨⟨a0, a1⟩, m0, m1, m2, m3, m4, m5, m6⟩ := HC.out _ su1
  go_wp2_with fail
  refine (HG2.out _).mono ?_
  rintro e U2 ⟨rfl, su2⟩
  have su2 := su1.trans su2
  clear a0 a1 m0 m1 m2 m3 m4 m5 m6
  obtain ⟨⟨a0, a1⟩, m0, m1, m2, m3, m4, m5, m6⟩ := HC.out _ su2
  go_wp2_with fail
  refine (HL.out _ (t1.trans su2)).mono ?_
  rintro e W1 ⟨B2, gp, cp, gs, cs, gk, ck, gp2, cp2, gs2, cs2, gk2, ck2, rfl, l1, l2, hB2, s1⟩
  obtain ⟨V2, hV2⟩ : ∃ V2, V2 = W1.alloc (.cells #[.slice (some ⟨gp, 0, none⟩) N1.ps.length cp, .slice (some ⟨gs, 0, none⟩) N1.ss.length cs, .slice (some ⟨gk, 0, none⟩) N1.ks.length ck, .string sp, .slice (some ⟨gp2, 0, none⟩) N2.ps.length cp2, .slice (some ⟨gs2, 0, none⟩) N2.ss.length cs2, .slice (some ⟨gk2, 0, none⟩) N2.ks.length ck2] 30) := ⟨_, rfl⟩
  have v1 : Same V V2 := by rw [hV2]; exact Fr.alloc (su2.trans s1) _
  have rx := heap_alloc_new W1 (.cells #[.slice (some ⟨gp, 0, none⟩) N1.ps.length cp, .slice (some ⟨gs, 0, none⟩) N1.ss.length cs, .slice (some ⟨gk, 0, none⟩) N1.ks.length ck, .string sp, .slice (some ⟨gp2, 0, none⟩) N2.ps.length cp2, .slice (some ⟨gs2, 0, none⟩) N2.ss.length cs2, .slice (some ⟨gk2, 0, none⟩) N2.ks.length ck2] 30)
  rw [← hV2] at rx
  have sv : Same W1 V2 := by rw [hV2]; exact (Fr.refl _ W1).alloc _
  have zv : V2.heap.size = W1.heap.size + 1 := by rw [hV2]; simp
  have HLA : Hid (∀ W, Same V2 W → LentAt W U2.heap.size gp cp gs cs gk ck N1 ∧ LentAt W B2 gp2 cp2 gs2 cs2 gk2 ck2 N2) := fun W s => ⟨l1.same (sv.trans s), l2.same (sv.trans s)⟩
  clear a0 a1 m0 m1 m2 m3 m4 m5 m6
  obtain ⟨⟨a0, a1⟩, m0, m1, m2, m3, m4, m5, m6⟩ := HC.out _ v1
  obtain ⟨xb, hxb⟩ : ∃ xb, xb = W1.heap.size := ⟨_, rfl⟩
  rw [← hxb] at rx zv
  have HX : Hid (∀ W : World, W.heap[xb]? = V2.heap[xb]? → (W.cell? ⟨xb, 0, none⟩ = some (.slice (some ⟨gp, 0, none⟩) N1.ps.length cp) ∧ W.cell? ⟨xb, 1, none⟩ = some (.slice (some ⟨gs, 0, none⟩) N1.ss.length cs) ∧ W.cell? ⟨xb, 2, none⟩ = some (.slice (some ⟨gk, 0, none⟩) N1.ks.length ck)) ∧ W.cell? ⟨xb, 3, none⟩ = some (.string sp) ∧ (W.cell? ⟨xb, 4, none⟩ = some (.slice (some ⟨gp2, 0, none⟩) N2.ps.length cp2) ∧ W.cell? ⟨xb, 5, none⟩ = some (.slice (some ⟨gs2, 0, none⟩) N2.ss.length cs2) ∧ W.cell? ⟨xb, 6, none⟩ = some (.slice (some ⟨gk2, 0, none⟩) N2.ks.length ck2))) := fun W s => by
    have e := s.trans rx
    exact ⟨⟨(cell_of_row _ _ _ _ _ _ e).trans rfl, (cell_of_row _ _ _ _ _ _ e).trans rfl, (cell_of_row _ _ _ _ _ _ e).trans rfl⟩, (cell_of_row _ _ _ _ _ _ e).trans rfl, (cell_of_row _ _ _ _ _ _ e).trans rfl, (cell_of_row _ _ _ _ _ _ e).trans rfl, (cell_of_row _ _ _ _ _ _ e).trans rfl⟩
  have HSZ : Hid ((gp < xb ∧ gs < xb ∧ gk < xb ∧ gp2 < xb ∧ gs2 < xb ∧ gk2 < xb) ∧ (V.heap.size ≤ gp ∧ V.heap.size ≤ gs ∧ V.heap.size ≤ gk ∧ V.heap.size ≤ gp2 ∧ V.heap.size ≤ gs2 ∧ V.heap.size ≤ gk2) ∧ (gp < B2 ∧ gs < B2 ∧ gk < B2 ∧ B2 ≤ gp2 ∧ B2 ≤ gs2 ∧ B2 ≤ gk2) ∧ V2.heap.size = xb + 1) := by
    have e1 := l1.ge
    have e2 := l2.ge
    have e3 := su2.size
    rw [← hxb] at e1 e2
    exact ⟨⟨e1.2.1, e1.2.2.1, e1.2.2.2, e2.2.1, e2.2.2.1, e2.2.2.2⟩, ⟨by omega, by omega, by omega, by omega, by omega, by omega⟩, ⟨hB2.1, hB2.2.1, hB2.2.2.1, e2.1.1, e2.1.2.1, e2.1.2.2⟩, zv⟩
  obtain ⟨⟨x0, x1, x2⟩, x3, x4, x5, x6⟩ := HX.out _ rfl
  rw [hV2] at a0 a1 m0 m1 m2 m3 m4 m5 m6 x0 x1 x2 x3 x4 x5 x6
  rw [hxb] at x0 x1 x2 x3 x4 x5 x6
  go_wp2_with fail
  rw [← hV2, ← hxb]
  have T2 : Hid (Same V V2) := v1
  clear hV2 hxb rx l1 l2 hB2 s1 su1 su2 sv zv a0 a1 m0 m1 m2 m3 m4 m5 m6 x0 x1 x2 x3 x4 x5 x6 HL HG1 HG2
  refine (HR.out _ _ _ _ _ _ _ _ _ _ _ _ _ _ _ (HLA.out _ (Fr.refl _ _)).1 (HLA.out _ (Fr.refl _ _)).2).mono ?_
  rintro e Y1 ⟨⟨rA1, rA2, rfl, k1, k2, apA⟩, qq⟩
  obtain ⟨V3, hV3⟩ : ∃ Z, Z = Y1.alloc (.cells #[.slice rA1.pa M1.ps.length rA1.cp, .slice rA1.sa M1.ss.length rA1.cs, .slice rA1.ka M1.ks.length rA1.ck, .string sq, .slice rA2.pa M2.ps.length rA2.cp, .slice rA2.sa M2.ss.length rA2.cs, .slice rA2.ka M2.ks.length rA2.ck] 30) := ⟨_, rfl⟩
  have s3 : Same V2 V3 := by rw [hV3]; exact Fr.alloc qq _
  have ra := heap_alloc_new Y1 (.cells #[.slice rA1.pa M1.ps.length rA1.cp, .slice rA1.sa M1.ss.length rA1.cs, .slice rA1.ka M1.ks.length rA1.ck, .string sq, .slice rA2.pa M2.ps.length rA2.cp, .slice rA2.sa M2.ss.length rA2.cs, .slice rA2.ka M2.ks.length rA2.ck] 30)
  have mm : MadeNd V3 V2.heap.size rA1 M1 ∧ MadeNd V3 V2.heap.size rA2 M2 := by rw [hV3]; exact ⟨k1.same ((Fr.refl _ _).alloc _), k2.same ((Fr.refl _ _).alloc _)⟩
  have zA : V3.heap.size = Y1.heap.size + 1 := by rw [hV3]; simp
  rw [← hV3] at ra
  obtain ⟨⟨a0, a1⟩, m0, m1, m2, m3, m4, m5, m6⟩ := HC.out _ (T2.out.trans s3)
  obtain ⟨⟨x0, x1, x2⟩, x3, x4, x5, x6⟩ := HX.out _ (s3.block xb (by have := HSZ.out; omega) (fun f => f))
  rw [hV3] at a0 a1 m0 m1 m2 m3 m4 m5 m6 x0 x1 x2 x3 x4 x5 x6
  go_wp2_with fail
  rw [← hV3]
  obtain ⟨ab, hab⟩ : ∃ ab, ab = Y1.heap.size := ⟨_, rfl⟩
  rw [← hab] at ra zA ⊢
  have HAB : Hid (V3.heap.size = ab + 1 ∧ V2.heap.size ≤ ab) := ⟨zA, by rw [hab]; exact qq.size⟩
  have HMA : Hid (MadeNd V3 V2.heap.size rA1 M1 ∧ MadeNd V3 V2.heap.size rA2 M2) := mm
  have HRA : Hid (V3.heap[ab]? = some (.cells #[.slice rA1.pa M1.ps.length rA1.cp, .slice rA1.sa M1.ss.length rA1.cs, .slice rA1.ka M1.ks.length rA1.ck, .string sq, .slice rA2.pa M2.ps.length rA2.cp, .slice rA2.sa M2.ss.length rA2.cs, .slice rA2.ka M2.ks.length rA2.ck] 30 (0, 0))) := ra
  have HS3 : Hid (Same V2 V3) := s3
  have HAPA : Hid (∀ k, blkN rA2 k → ¬ blkN rA1 k) := apA
  clear apA
  clear hV3 a0 a1 m0 m1 m2 m3 m4 m5 m6 x0 x1 x2 x3 x4 x5 x6 hab k1 k2 mm qq ra zA s3
  refine (HR.out _ _ _ _ _ _ _ _ _ _ _ _ _ _ _ (HLA.out _ HS3.out).1 (HLA.out _ HS3.out).2).mono ?_
  rintro e Y2 ⟨⟨rB1, rB2, rfl, k1, k2, apB⟩, qq⟩
  obtain ⟨V4, hV4⟩ : ∃ Z, Z = Y2.alloc (.cells #[.slice rB1.pa M1.ps.length rB1.cp, .slice rB1.sa M1.ss.length rB1.cs, .slice rB1.ka M1.ks.length rB1.ck, .string sq, .slice rB2.pa M2.ps.length rB2.cp, .slice rB2.sa M2.ss.length rB2.cs, .slice rB2.ka M2.ks.length rB2.ck] 30) := ⟨_, rfl⟩
  have s4 : Same V3 V4 := by rw [hV4]; exact Fr.alloc qq _
  have ra := heap_alloc_new Y2 (.cells #[.slice rB1.pa M1.ps.length rB1.cp, .slice rB1.sa M1.ss.length rB1.cs, .slice rB1.ka M1.ks.length rB1.ck, .string sq, .slice rB2.pa M2.ps.length rB2.cp, .slice rB2.sa M2.ss.length rB2.cs, .slice rB2.ka M2.ks.length rB2.ck] 30)
  have mm : MadeNd V4 V3.heap.size rB1 M1 ∧ MadeNd V4 V3.heap.size rB2 M2 := by rw [hV4]; exact ⟨k1.same ((Fr.refl _ _).alloc _), k2.same ((Fr.refl _ _).alloc _)⟩
  have zA : V4.heap.size = Y2.heap.size + 1 := by rw [hV4]; simp
  rw [← hV4] at ra
  obtain ⟨⟨a0, a1⟩, m0, m1, m2, m3, m4, m5, m6⟩ := HC.out _ (T2.out.trans (HS3.out.trans s4))
  obtain ⟨⟨x0, x1, x2⟩, x3, x4, x5, x6⟩ := HX.out _ ((HS3.out.trans s4).block xb (by have := HSZ.out; omega) (fun f => f))
  rw [hV4] at a0 a1 m0 m1 m2 m3 m4 m5 m6 x0 x1 x2 x3 x4 x5 x6
  go_wp2_with fail
  rw [← hV4]
  obtain ⟨bb, hbb⟩ : ∃ ab, ab = Y2.heap.size := ⟨_, rfl⟩
  rw [← hbb] at ra zA ⊢
  have HBB : Hid (V4.heap.size = bb + 1 ∧ V3.heap.size ≤ bb) := ⟨zA, by rw [hbb]; exact qq.size⟩
  have HMB : Hid (MadeNd V4 V3.heap.size rB1 M1 ∧ MadeNd V4 V3.heap.size rB2 M2) := mm
  have HRB : Hid (V4.heap[bb]? = some (.cells #[.slice rB1.pa M1.ps.length rB1.cp, .slice rB1.sa M1.ss.length rB1.cs, .slice rB1.ka M1.ks.length rB1.ck, .string sq, .slice rB2.pa M2.ps.length rB2.cp, .slice rB2.sa M2.ss.length rB2.cs, .slice rB2.ka M2.ks.length rB2.ck] 30 (0, 0))) := ra
  have HS4 : Hid (Same V3 V4) := s4
  have HAPB : Hid (∀ k, blkN rB2 k → ¬ blkN rB1 k) := apB
  clear apB
  clear hV4 a0 a1 m0 m1 m2 m3 m4 m5 m6 x0 x1 x2 x3 x4 x5 x6 hbb k1 k2 mm qq ra zA s4
  refine (HD.out _ (t1.trans (T2.out.trans (HS3.out.trans HS4.out)))).mono ?_
  rintro e Y3 ⟨⟨rC1, rC2, rfl, k1, k2⟩, qq⟩
  obtain ⟨V5, hV5⟩ : ∃ Z, Z = Y3.alloc (.cells #[.slice rC1.pa M1.ps.length rC1.cp, .slice rC1.sa M1.ss.length rC1.cs, .slice rC1.ka M1.ks.length rC1.ck, .string sq, .slice rC2.pa M2.ps.length rC2.cp, .slice rC2.sa M2.ss.length rC2.cs, .slice rC2.ka M2.ks.length rC2.ck] 30) := ⟨_, rfl⟩
  have s5 : Same V4 V5 := by rw [hV5]; exact Fr.alloc qq _
  have ra := heap_alloc_new Y3 (.cells #[.slice rC1.pa M1.ps.length rC1.cp, .slice rC1.sa M1.ss.length rC1.cs, .slice rC1.ka M1.ks.length rC1.ck, .string sq, .slice rC2.pa M2.ps.length rC2.cp, .slice rC2.sa M2.ss.length rC2.cs, .slice rC2.ka M2.ks.length rC2.ck] 30)
  have mm : MadeNd V5 V4.heap.size rC1 M1 ∧ MadeNd V5 V4.heap.size rC2 M2 := by rw [hV5]; exact ⟨k1.same ((Fr.refl _ _).alloc _), k2.same ((Fr.refl _ _).alloc _)⟩
  have zA : V5.heap.size = Y3.heap.size + 1 := by rw [hV5]; simp
  rw [← hV5] at ra
  obtain ⟨⟨a0, a1⟩, m0, m1, m2, m3, m4, m5, m6⟩ := HC.out _ (T2.out.trans ((HS3.out.trans HS4.out).trans s5))
  obtain ⟨⟨x0, x1, x2⟩, x3, x4, x5, x6⟩ := HX.out _ (((HS3.out.trans HS4.out).trans s5).block xb (by have := HSZ.out; omega) (fun f => f))
  rw [hV5] at a0 a1 m0 m1 m2 m3 m4 m5 m6 x0 x1 x2 x3 x4 x5 x6
  go_wp2_with fail
  rw [← hV5]
  obtain ⟨cb, hcb⟩ : ∃ ab, ab = Y3.heap.size := ⟨_, rfl⟩
  rw [← hcb] at ra zA ⊢
  have HCB : Hid (V5.heap.size = cb + 1 ∧ V4.heap.size ≤ cb) := ⟨zA, by rw [hcb]; exact qq.size⟩
  have HMC : Hid (MadeNd V5 V4.heap.size rC1 M1 ∧ MadeNd V5 V4.heap.size rC2 M2) := mm
  have HRC : Hid (V5.heap[cb]? = some (.cells #[.slice rC1.pa M1.ps.length rC1.cp, .slice rC1.sa M1.ss.length rC1.cs, .slice rC1.ka M1.ks.length rC1.ck, .string sq, .slice rC2.pa M2.ps.length rC2.cp, .slice rC2.sa M2.ss.length rC2.cs, .slice rC2.ka M2.ks.length rC2.ck] 30 (0, 0))) := ra
  have HS5 : Hid (Same V4 V5) := s5
  clear hV5 a0 a1 m0 m1 m2 m3 m4 m5 m6 x0 x1 x2 x3 x4 x5 x6 hcb k1 k2 mm qq ra zA s5
  have HT5 : Hid (Same V2 V5) := (HS3.out.trans HS4.out).trans HS5.out
  obtain ⟨⟨a0, a1⟩, m0, m1, m2, m3, m4, m5, m6⟩ := HC.out _ (T2.out.trans HT5.out)
  obtain ⟨⟨x0, x1, x2⟩, x3, x4, x5, x6⟩ := HX.out _ (HT5.out.block xb (by have := HSZ.out; omega) (fun f => f))
  try go_wp2_with fail
  refine (HK.out _ _ _ _ _ _ _ _ _ _ _ _ _ _ _ (t1.trans (T2.out.trans HT5.out)) (HLA.out _ HT5.out).1 (HLA.out _ HT5.out).2).mono ?_
  rintro e Y5 ⟨rfl, q5⟩
  have HT6 : Hid (Same V2 Y5) := HT5.out.trans q5
  clear a0 a1 m0 m1 m2 m3 m4 m5 m6 x0 x1 x2 x3 x4 x5 x6
  obtain ⟨⟨x0, x1, x2⟩, x3, x4, x5, x6⟩ := HX.out _ (HT6.out.block xb (by have := HSZ.out; omega) (fun f => f))
  go_wp2_with fail
  refine (HSP1.out _ _ _ _ _ _ _ _ (HLA.out _ HT6.out).1).mono ?_
  rintro e Z6 ⟨⟨nn, rfl⟩, q6⟩
  have l26 : LentAt Z6 B2 gp2 cp2 gs2 cs2 gk2 ck2 N2 := (HLA.out _ HT6.out).2.fr q6 (by have := HSZ.out; omega) (by have := HSZ.out; omega) (by have := HSZ.out; omega)
  clear x0 x1 x2 x3 x4 x5 x6
  obtain ⟨⟨x0, x1, x2⟩, x3, x4, x5, x6⟩ := HX.out Z6 ((q6.block xb (by have := HSZ.out; have := HT6.out.size; omega) (by have := HSZ.out; omega)).trans (HT6.out.block xb (by have := HSZ.out; omega) (fun f => f)))
  have HQ6 : Hid (Fr (fun k => k = gp ∨ k = gs ∨ k = gk) Y5 Z6) := q6
  have H26 : Hid (LentAt Z6 B2 gp2 cp2 gs2 cs2 gk2 ck2 N2) := l26
  clear q6 l26
  go_wp2_with fail
  refine (HSP2.out _ _ _ _ _ _ _ _ H26.out).mono ?_
  rintro e Y6 ⟨⟨nn2, rfl⟩, q7⟩
  have q67 : Fr (fun k => V.heap.size ≤ k ∧ k < xb) Y5 Y6 := Fr.trans (HQ6.out.mono (fun k _ e => by have := HSZ.out; omega)) (q7.mono (fun k _ e => by have := HSZ.out; omega)) (fun _ _ e => e)
  obtain ⟨z1, z2⟩ := HAB.out
  obtain ⟨z3, z4⟩ := HBB.out
  obtain ⟨z5, z6⟩ := HCB.out
  have z7 := HSZ.out.2.2.2
  have qa : Same V3 Y5 := (HS4.out.trans HS5.out).trans q5
  have qb : Same V4 Y5 := HS5.out.trans q5
  have fa : Y6.heap[ab]? = some (.cells #[.slice rA1.pa M1.ps.length rA1.cp, .slice rA1.sa M1.ss.length rA1.cs, .slice rA1.ka M1.ks.length rA1.ck, .string sq, .slice rA2.pa M2.ps.length rA2.cp, .slice rA2.sa M2.ss.length rA2.cs, .slice rA2.ka M2.ks.length rA2.ck] 30 (0, 0)) := (q67.block ab (by have := qa.size; omega) (by omega)).trans ((qa.block ab (by omega) (fun f => f)).trans HRA.out)
  have MA6 : MadeNd Y6 V2.heap.size rA1 M1 ∧ MadeNd Y6 V2.heap.size rA2 M2 := ⟨(HMA.out.1.same qa).fr q67 (fun kk hk e => by have := (HMA.out.1.blk hk).1; omega), (HMA.out.2.same qa).fr q67 (fun kk hk e => by have := (HMA.out.2.blk hk).1; omega)⟩
  have fb : Y6.heap[bb]? = some (.cells #[.slice rB1.pa M1.ps.length rB1.cp, .slice rB1.sa M1.ss.length rB1.cs, .slice rB1.ka M1.ks.length rB1.ck, .string sq, .slice rB2.pa M2.ps.length rB2.cp, .slice rB2.sa M2.ss.length rB2.cs, .slice rB2.ka M2.ks.length rB2.ck] 30 (0, 0)) := (q67.block bb (by have := qb.size; omega) (by omega)).trans ((qb.block bb (by omega) (fun f => f)).trans HRB.out)
  have MB6 : MadeNd Y6 V3.heap.size rB1 M1 ∧ MadeNd Y6 V3.heap.size rB2 M2 := ⟨(HMB.out.1.same qb).fr q67 (fun kk hk e => by have := (HMB.out.1.blk hk).1; omega), (HMB.out.2.same qb).fr q67 (fun kk hk e => by have := (HMB.out.2.blk hk).1; omega)⟩
  have fc : Y6.heap[cb]? = some (.cells #[.slice rC1.pa M1.ps.length rC1.cp, .slice rC1.sa M1.ss.length rC1.cs, .slice rC1.ka M1.ks.length rC1.ck, .string sq, .slice rC2.pa M2.ps.length rC2.cp, .slice rC2.sa M2.ss.length rC2.cs, .slice rC2.ka M2.ks.length rC2.ck] 30 (0, 0)) := (q67.block cb (by have := q5.size; omega) (by omega)).trans ((q5.block cb (by omega) (fun f => f)).trans HRC.out)
  have MC6 : MadeNd Y6 V4.heap.size rC1 M1 ∧ MadeNd Y6 V4.heap.size rC2 M2 := ⟨(HMC.out.1.same q5).fr q67 (fun kk hk e => by have := (HMC.out.1.blk hk).1; omega), (HMC.out.2.same q5).fr q67 (fun kk hk e => by have := (HMC.out.2.blk hk).1; omega)⟩
  have HAP3 : Hid (∀ k, (blkN rB1 k ∨ blkN rB2 k ∨ blkN rC1 k ∨ blkN rC2 k) → ¬ (blkN rA1 k ∨ blkN rA2 k)) := fun kk e1 e2 => by
    have hi : kk < V3.heap.size := by
      rcases e2 with e2 | e2
      · exact (HMA.out.1.blk e2).2
      · exact (HMA.out.2.blk e2).2
    have lo : V3.heap.size ≤ kk := by
      rcases e1 with e1 | e1 | e1 | e1
      · exact (HMB.out.1.blk e1).1
      · exact (HMB.out.2.blk e1).1
      · have := (HMC.out.1.blk e1).1; omega
      · have := (HMC.out.2.blk e1).1; omega
    omega
  have HM6 : Hid ((MadeNd Y6 V2.heap.size rA1 M1 ∧ MadeNd Y6 V2.heap.size rA2 M2) ∧ (MadeNd Y6 V3.heap.size rB1 M1 ∧ MadeNd Y6 V3.heap.size rB2 M2) ∧ (MadeNd Y6 V4.heap.size rC1 M1 ∧ MadeNd Y6 V4.heap.size rC2 M2)) := ⟨MA6, MB6, MC6⟩
  have HW6 : Hid (Same w Y6) := Fr.trans (t1.trans (T2.out.trans HT6.out)) q67 (fun kk hk e => by have := HVZ.out; omega)
  have HAL : Hid (∀ kk, (blkN rA1 kk ∨ blkN rA2 kk) → w.heap.size ≤ kk) := fun kk e => by
    have h1 := HVZ.out
    have h2 := T2.out.size
    rcases e with e | e
    · have := (HMA.out.1.blk e).1; omega
    · have := (HMA.out.2.blk e).1; omega
  have ua0 : Y6.cell? ⟨ab, 0, none⟩ = some (.slice rA1.pa M1.ps.length rA1.cp) := (cell_of_row _ _ _ _ _ _ fa).trans rfl
  have ua1 : Y6.cell? ⟨ab, 1, none⟩ = some (.slice rA1.sa M1.ss.length rA1.cs) := (cell_of_row _ _ _ _ _ _ fa).trans rfl
  have ua2 : Y6.cell? ⟨ab, 2, none⟩ = some (.slice rA1.ka M1.ks.length rA1.ck) := (cell_of_row _ _ _ _ _ _ fa).trans rfl
  have ua3 : Y6.cell? ⟨ab, 3, none⟩ = some (.string sq) := (cell_of_row _ _ _ _ _ _ fa).trans rfl
  have ua4 : Y6.cell? ⟨ab, 4, none⟩ = some (.slice rA2.pa M2.ps.length rA2.cp) := (cell_of_row _ _ _ _ _ _ fa).trans rfl
  have ua5 : Y6.cell? ⟨ab, 5, none⟩ = some (.slice rA2.sa M2.ss.length rA2.cs) := (cell_of_row _ _ _ _ _ _ fa).trans rfl
  have ua6 : Y6.cell? ⟨ab, 6, none⟩ = some (.slice rA2.ka M2.ks.length rA2.ck) := (cell_of_row _ _ _ _ _ _ fa).trans rfl
  have ub0 : Y6.cell? ⟨bb, 0, none⟩ = some (.slice rB1.pa M1.ps.length rB1.cp) := (cell_of_row _ _ _ _ _ _ fb).trans rfl
  have ub1 : Y6.cell? ⟨bb, 1, none⟩ = some (.slice rB1.sa M1.ss.length rB1.cs) := (cell_of_row _ _ _ _ _ _ fb).trans rfl
  have ub2 : Y6.cell? ⟨bb, 2, none⟩ = some (.slice rB1.ka M1.ks.length rB1.ck) := (cell_of_row _ _ _ _ _ _ fb).trans rfl
  have ub3 : Y6.cell? ⟨bb, 3, none⟩ = some (.string sq) := (cell_of_row _ _ _ _ _ _ fb).trans rfl
  have ub4 : Y6.cell? ⟨bb, 4, none⟩ = some (.slice rB2.pa M2.ps.length rB2.cp) := (cell_of_row _ _ _ _ _ _ fb).trans rfl
  have ub5 : Y6.cell? ⟨bb, 5, none⟩ = some (.slice rB2.sa M2.ss.length rB2.cs) := (cell_of_row _ _ _ _ _ _ fb).trans rfl
  have ub6 : Y6.cell? ⟨bb, 6, none⟩ = some (.slice rB2.ka M2.ks.length rB2.ck) := (cell_of_row _ _ _ _ _ _ fb).trans rfl
  have uc0 : Y6.cell? ⟨cb, 0, none⟩ = some (.slice rC1.pa M1.ps.length rC1.cp) := (cell_of_row _ _ _ _ _ _ fc).trans rfl
  have uc1 : Y6.cell? ⟨cb, 1, none⟩ = some (.slice rC1.sa M1.ss.length rC1.cs) := (cell_of_row _ _ _ _ _ _ fc).trans rfl
  have uc2 : Y6.cell? ⟨cb, 2, none⟩ = some (.slice rC1.ka M1.ks.length rC1.ck) := (cell_of_row _ _ _ _ _ _ fc).trans rfl
  have uc3 : Y6.cell? ⟨cb, 3, none⟩ = some (.string sq) := (cell_of_row _ _ _ _ _ _ fc).trans rfl
  have uc4 : Y6.cell? ⟨cb, 4, none⟩ = some (.slice rC2.pa M2.ps.length rC2.cp) := (cell_of_row _ _ _ _ _ _ fc).trans rfl
  have uc5 : Y6.cell? ⟨cb, 5, none⟩ = some (.slice rC2.sa M2.ss.length rC2.cs) := (cell_of_row _ _ _ _ _ _ fc).trans rfl
  have uc6 : Y6.cell? ⟨cb, 6, none⟩ = some (.slice rC2.ka M2.ks.length rC2.ck) := (cell_of_row _ _ _ _ _ _ fc).trans rfl
  clear z1 z2 z3 z4 z5 z6 z7 qa qb fa fb fc MA6 MB6 MC6 q67 q7 x0 x1 x2 x3 x4 x5 x6
  go_wp2_with fail
  refine (HFR.out _ _ _ _ _ _ _ _ _ _ _ _ _ HM6.out.1.1 HM6.out.1.2 HM6.out.2.1.1 HM6.out.2.1.2 HM6.out.2.2.1 HM6.out.2.2.2 HAPA.out HAP3.out).mono ?_
  rintro e Y8 ⟨rfl, q8⟩
  go_wp2_with fail
  refine (HA.out _).mono ?_
  rintro e Y9 ⟨rfl, q9⟩
  go_wp2_with fail
  go_ret
  exact ⟨rfl, Same.trans (Fr.trans HW6.out q8 (fun kk hk e => by have := HAL.out kk e; omega)) q9⟩
theorem gborrows_walk {p q : Int} {r1 r2 : Nr} {N1 N2 : Nd} {sp : ByteArray} (w : World) (i1 : NdIn w r1 N1) (i2 : NdIn w r2 N2) (h : Small2 N1 N2 sp) :
    Calls Tryz.prog 3 #[frameV p q, .agg (halvesN r1 r2 N1 N2 sp)] w fun e w' => e = .returned (.bool true) ∧ Same w w' := by
  cases hg1 : greatB N1 with
  | true => exact gborrows_great1 w hg1
  | false =>
    cases hg2 : greatB N2 with
    | true => exact gborrows_great2 w hg1 hg2
    | false =>
      obtain ⟨E, M1, M2, sq, ok, hP, hD⟩ := borrow_both (p := p) (q := q) h i1.at_.ok i2.at_.ok
      exact gborrows_core w i1 i2 h ok hg1 hg2 (fun W gp cp gs cs gk ck gp2 cp2 gs2 cs2 gk2 ck2 B B2 l1 l2 => hP _ _ _ (l1.in_ i1.at_) (l2.in_ i2.at_) l1.roomL) (fun W s => hD _ _ _ (i1.same s) (i2.same s))
end Go.Proofs.YtdmoglnbelembaaGreat
namespace Go.Proofs.YtdmoglnbelembaaGreat
open Go.ChangeShapes Go.WideShapes Go.ChangeAt Go.RowKit
open Go.ChangeMaps (open_string shut_string)

set_option maxRecDepth 100000 in
theorem gborrows_contract (H : Type) (enc : TypeId × Value → H) (W : World) (base : Nat) (args : Array Value) (ds gs : List (DataW H)) (before : List MemPlace)
    (hval : ∀ (j : Nat) t v, Tryz.f3.params[j]? = some t → args[j]? = some v → Value.okWide Tryz.prog W .any base t v)
    (hW : DataW.Whole enc Tryz.prog Tryz.f3.params.toList Rows.graftBorrowsSpec.vars false W args.toList ds gs before) (hk : Rows.uptoSmall H (ds ++ gs) = true) :
    Calls Tryz.prog 3 args W fun e W' => ∃ v, e = .returned v ∧ Rows.graftBorrowsSpec.post enc Tryz.prog Tryz.f3 false true false false W args v W' := by
  have hW' := hW
  obtain ⟨p, q, hA0, hV, rfl, hfz, hnd⟩ := hW
  have hA : DataW.TrodAll enc Tryz.prog W 0 (fun _ => true) true Tryz.f3.params.toList args.toList ds p := hA0
  rw [Tryz.params3] at hA hval
  obtain ⟨v0, vs0, d0, ds0, p0, q0, hargs, rfl, rfl, h0, r0⟩ := trodAll_cons hA
  obtain ⟨v1, vs1, d1, ds1, p1, q1, rfl, rfl, rfl, h1, r1⟩ := trodAll_cons r0
  obtain ⟨rfl, rfl, rfl⟩ := trodAll_nil r1
  obtain rfl : args = #[v0, v1] := by cases args; simp_all
  obtain ⟨rfl, rfl⟩ := trodVars_none hV
  have k0 := h0
  have lt0 : ∀ x ∈ p0, x.block < W.heap.size := by obtain ⟨m, hm⟩ := k0; exact DataW.trod_lt m _ _ _ hm
  have k1 := h1
  have lt1 : ∀ x ∈ p1, x.block < W.heap.size := by obtain ⟨m, hm⟩ := k1; exact DataW.trod_lt m _ _ _ hm
  have hB : Rows.uptoBulkAll [d0, d1] ≤ 1048576 := by
    simp only [List.append_nil] at hk
    exact of_decide_eq_true hk
  simp only [Rows.uptoBulkAll] at hB
  obtain ⟨fp0, fq0, rfl⟩ := open_frame (hval 0 23 v0 rfl rfl) h0
  obtain ⟨ra1, rb1, Na1, Nb1, sp1, rfl, ia1, ib1, hm1⟩ := open_halves (hval 1 30 v1 rfl rfl) h1 (by omega)
  clear hA0 hval
  refine (gborrows_walk (p := fp0) (q := fq0) W ia1 ib1 hm1).mono fun e W' ⟨he, sm⟩ => ?_
  subst he
  have bel : Below W.heap.size W W' := Fr.below sm (Nat.le_refl _) (fun _ f => f.elim)
  exact ⟨_, rfl, _, _, _, [], _, [], hW', trodAll_mk1 (shut_bool Tryz.underlying4 _), trodAll_cons_mk (Below.trod nd_laidOut (by kernel_rfl) (of_decide_eq_true (by kernel_rfl)) k0 bel lt0) (trodAll_cons_mk (Below.trod nd_laidOut (by kernel_rfl) (of_decide_eq_true (by kernel_rfl)) k1 bel lt1) trodAll_mk0), rfl, bel.frame _, fun h => by cases h⟩

set_option maxRecDepth 100000 in
theorem gborrows_lifted (os : Os) (started : os.Started) (H : Type) (enc : TypeId × Value → H) (F : Stop.Interp) :
    ReturnsInHanded {} Tryz.checked os 3 .any ((Rows.OpenSpec.upto Rows.graftBorrowsSpec).pre6 enc Tryz.prog Tryz.f3 Rows.graftBorrowsUptoRow.domain false) (((Rows.OpenSpec.upto Rows.graftBorrowsSpec).at F).post enc Tryz.prog Tryz.f3 false true false false) := by
  refine returnsInHanded_of_cond (C := Tryz.checked) (s := Rows.OpenSpec.upto Rows.graftBorrowsSpec) (k := Rows.uptoSmall) rfl nd_own started (by kernel_rfl) Tryz.func3
    (OpenSpec.witness (enc := enc) (C := Tryz.checked) (s := Rows.OpenSpec.upto Rows.graftBorrowsSpec) (k := Rows.uptoSmall) rfl false ⟨#[], #[.agg #[.int .i64 0, .int .i64 0], .agg #[.slice none 0 0, .slice none 0 0, .slice none 0 0, .string ⟨#[]⟩, .slice none 0 0, .slice none 0 0, .slice none 0 0]], []⟩ 8 (by kernel_rfl) (by kernel_rfl) (by kernel_rfl)
      (x := ([.agg [.lit (.int .i64 0), .lit (.int .i64 0)], .agg [.agg [.nil, .nil, .nil], .lit (.string []), .agg [.nil, .nil, .nil]]], [], [])) (by kernel_rfl) rfl (by kernel_rfl)) ?_
  intro W base args ds gs before hval hW _ hk _
  exact gborrows_contract H enc W base args ds gs before hval hW hk

theorem gborrows_holds : Rows.GraftBorrowsUptoSaid :=
  OpenClaim.holds_of_cond 3 Tryz.f3 rfl rfl rfl rfl rfl rfl rfl ⟨rfl, rfl, rfl, rfl, rfl⟩ rfl rfl rfl rfl rfl (by kernel_rfl) Tryz.func3 (by kernel_rfl)
    (of_decide_eq_true (by kernel_rfl)) (by unfold Func.isWrapper; first | (rw [if_pos (by decide +kernel)]; kernel_rfl) | (rw [if_neg (by decide +kernel)]; exact ⟨rfl, rfl⟩))
    (fun os started H enc _ F => gborrows_lifted os started H enc F)
end Go.Proofs.YtdmoglnbelembaaGreat
