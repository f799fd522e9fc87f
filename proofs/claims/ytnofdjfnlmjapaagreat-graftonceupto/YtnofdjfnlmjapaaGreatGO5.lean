/- Mend of halves that are joined. -/
import Derived.Test.YtnofdjfnlmjapaaGreatGO4
namespace Go.Proofs.YtnofdjfnlmjapaaGreat
open Go.RowKit

set_option maxRecDepth 100000 in
set_option maxHeartbeats 1000000 in
theorem mend_ok {p q : Int} {x0 x1 x2 x3 x4 x5 x6 : Value} {N : Nd} (w : World)
    (HJ : Hid (∀ W, Same w W → Calls Tryz.prog 9 #[frameV p q, .agg #[x0, x1, x2, x3, x4, x5, x6]] W fun e w' => ∃ r, e = .returned (.tuple #[ndV r N, .int .i64 0]) ∧ MadeNd w' w.heap.size r N ∧ Same W w')) :
    Calls Tryz.prog 10 #[frameV p q, .agg #[x0, x1, x2, x3, x4, x5, x6]] w fun e w' => ∃ r : Nr, e = .returned (.tuple #[.agg #[.slice r.pa N.ps.length r.cp, .slice r.sa N.ss.length r.cs, .slice r.ka N.ks.length r.ck, .string ⟨#[]⟩, .slice none 0 0, .slice none 0 0, .slice none 0 0], .bool true, .int .i64 0]) ∧ MadeNd w' w.heap.size r N ∧ Same w w' := by
  obtain ⟨V, hV⟩ : ∃ V, V = ((w.alloc (.cells #[.int .i64 p, .int .i64 q] 23)).alloc (.cells #[x0, x1, x2, x3, x4, x5, x6] 30)).alloc (.cells #[.slice none 0 0, .slice none 0 0, .slice none 0 0, .string ⟨#[]⟩, .slice none 0 0, .slice none 0 0, .slice none 0 0] 30) := ⟨_, rfl⟩
  have t1 : Same w V := by rw [hV]; exact (((Fr.refl _ w).alloc _).alloc _).alloc _
  obtain ⟨g0, g1, g2⟩ := three_boxes w (.cells #[.int .i64 p, .int .i64 q] 23) (.cells #[x0, x1, x2, x3, x4, x5, x6] 30) (.cells #[.slice none 0 0, .slice none 0 0, .slice none 0 0, .string ⟨#[]⟩, .slice none 0 0, .slice none 0 0, .slice none 0 0] 30)
  rw [← hV] at g0 g1 g2
  have HC : Hid (∀ W, Same V W → W.cell? ⟨w.heap.size, 0, none⟩ = some (.int .i64 p) ∧ W.cell? ⟨w.heap.size, 1, none⟩ = some (.int .i64 q)) := fun W s => ⟨s.keep (by rw [cell_of_row _ _ _ _ _ _ g0]; rfl), s.keep (by rw [cell_of_row _ _ _ _ _ _ g0]; rfl)⟩
  have HG : Hid (∀ W, Same V W → W.heap[w.heap.size + 1 + 1]? = some (.cells #[.slice none 0 0, .slice none 0 0, .slice none 0 0, .string ⟨#[]⟩, .slice none 0 0, .slice none 0 0, .slice none 0 0] 30 (0, 0))) := fun W s => (s.block _ (lt_of_heap g2) (fun e => e)).trans g2
  have HZ : Hid (w.heap.size + 3 ≤ V.heap.size) := by show _ ≤ _; rw [hV]; simp
  clear g0 g1 g2
  go_enter Tryz.func10, Tryz.ntmps10
  go_wp2_with fail
  rw [← hV]
  clear hV
  refine (HJ.out _ t1).mono ?_
  rintro e W1 ⟨r, rfl, m1, s1⟩
  obtain ⟨X, hX⟩ : ∃ X, X = W1.alloc (.cells #[.slice r.pa N.ps.length r.cp, .slice r.sa N.ss.length r.cs, .slice r.ka N.ks.length r.ck] 28) := ⟨_, rfl⟩
  have sX : Same V X := by rw [hX]; exact Fr.alloc s1 _
  have rX : X.heap[W1.heap.size]? = some (.cells #[.slice r.pa N.ps.length r.cp, .slice r.sa N.ss.length r.cs, .slice r.ka N.ks.length r.ck] 28 (0, 0)) := by rw [hX]; exact heap_alloc_new W1 _
  have HM : Hid (MadeNd X w.heap.size r N) := by rw [hX]; exact ⟨m1.op.alloc _, m1.os.alloc _, m1.ok.alloc _⟩
  have HN : Hid (∀ W, Same X W → W.cell? ⟨W1.heap.size, 0, none⟩ = some (.slice r.pa N.ps.length r.cp) ∧ W.cell? ⟨W1.heap.size, 1, none⟩ = some (.slice r.sa N.ss.length r.cs) ∧ W.cell? ⟨W1.heap.size, 2, none⟩ = some (.slice r.ka N.ks.length r.ck)) := fun W s => ⟨s.keep ((cell_of_row _ _ _ _ _ _ rX).trans rfl), s.keep ((cell_of_row _ _ _ _ _ _ rX).trans rfl), s.keep ((cell_of_row _ _ _ _ _ _ rX).trans rfl)⟩
  clear m1 rX
  obtain ⟨f0, f1⟩ := HC.out _ sX
  obtain ⟨n0, n1, n2⟩ := HN.out _ (Fr.refl _ X)
  rw [hX] at f0 f1 n0 n1 n2
  have u2 := sX
  have r6 := HG.out _ u2
  rw [hX] at r6
  go_wp2_with (refine wpList_store_whole (by rfl) 30 _ _ (by rfl) (w.heap.size + 1 + 1) #[.slice r.pa N.ps.length r.cp, .slice r.sa N.ss.length r.cs, .slice r.ka N.ks.length r.ck, .string ⟨#[]⟩, .slice none 0 0, .slice none 0 0, .slice none 0 0] _ 30 (by rfl) (by rfl) r6 rfl (by kernel_rfl) (by kernel_rfl) ?_; intro W7 r7 f7)
  rw [← hX] at r6 f7
  have h1 := HM.out
  exact bodyPost_ret (results_row_tmp2 (p := 4) (u := 5) (u2 := 6) (ty := 30) (by kernel_rfl) _ _ (w.heap.size + 1 + 1) 30 _ (0, 0) _ rfl r7 Tryz.underlying30 rfl (by kernel_rfl)) rfl ⟨r, rfl, ⟨own_frameB h1.op f7 (fun kk hk e => type_ne h1.op r6 (by decide) (by rw [hk, e] <;> rfl)), own_frameB h1.os f7 (fun kk hk e => type_ne h1.os r6 (by decide) (by rw [hk, e] <;> rfl)), own_frameB h1.ok f7 (fun kk hk e => type_ne h1.ok r6 (by decide) (by rw [hk, e] <;> rfl))⟩, Fr.trans (t1.trans u2) f7 (fun i hi e => by omega)⟩
set_option maxRecDepth 100000 in
set_option maxHeartbeats 2000000 in
theorem mend_full {p q : Int} {x0 x1 x2 x3 x4 x5 x6 : Value} {N1 N2 : Nd} {sp : ByteArray} (w : World)
    (HJ : Hid (∀ W, Same w W → Calls Tryz.prog 9 #[frameV p q, .agg #[x0, x1, x2, x3, x4, x5, x6]] W fun e w' => e = .returned (.tuple #[nodeV none 0 0 none 0 0 none 0 0, .int .i64 5]) ∧ Same W w'))
    (HB : Hid (∀ W, Same w W → Calls Tryz.prog 8 #[frameV p q, .agg #[x0, x1, x2, x3, x4, x5, x6]] W fun e w' => ∃ r1 r2 : Nr, e = .returned (.tuple #[.agg #[.slice r1.pa N1.ps.length r1.cp, .slice r1.sa N1.ss.length r1.cs, .slice r1.ka N1.ks.length r1.ck, .string sp, .slice r2.pa N2.ps.length r2.cp, .slice r2.sa N2.ss.length r2.cs, .slice r2.ka N2.ks.length r2.ck], .int .i64 0]) ∧ MadeNd w' w.heap.size r1 N1 ∧ MadeNd w' w.heap.size r2 N2 ∧ Same W w')) :
    Calls Tryz.prog 10 #[frameV p q, .agg #[x0, x1, x2, x3, x4, x5, x6]] w fun e w' => ∃ r1 r2 : Nr, e = .returned (.tuple #[.agg #[.slice r1.pa N1.ps.length r1.cp, .slice r1.sa N1.ss.length r1.cs, .slice r1.ka N1.ks.length r1.ck, .string sp, .slice r2.pa N2.ps.length r2.cp, .slice r2.sa N2.ss.length r2.cs, .slice r2.ka N2.ks.length r2.ck], .bool false, .int .i64 0]) ∧ MadeNd w' w.heap.size r1 N1 ∧ MadeNd w' w.heap.size r2 N2 ∧ Same w w' := by
  obtain ⟨V, hV⟩ : ∃ V, V = ((w.alloc (.cells #[.int .i64 p, .int .i64 q] 23)).alloc (.cells #[x0, x1, x2, x3, x4, x5, x6] 30)).alloc (.cells #[.slice none 0 0, .slice none 0 0, .slice none 0 0, .string ⟨#[]⟩, .slice none 0 0, .slice none 0 0, .slice none 0 0] 30) := ⟨_, rfl⟩
  have t1 : Same w V := by rw [hV]; exact (((Fr.refl _ w).alloc _).alloc _).alloc _
  obtain ⟨g0, g1, g2⟩ := three_boxes w (.cells #[.int .i64 p, .int .i64 q] 23) (.cells #[x0, x1, x2, x3, x4, x5, x6] 30) (.cells #[.slice none 0 0, .slice none 0 0, .slice none 0 0, .string ⟨#[]⟩, .slice none 0 0, .slice none 0 0, .slice none 0 0] 30)
  rw [← hV] at g0 g1 g2
  have HC : Hid (∀ W, Same V W → (W.cell? ⟨w.heap.size, 0, none⟩ = some (.int .i64 p) ∧ W.cell? ⟨w.heap.size, 1, none⟩ = some (.int .i64 q)) ∧ W.cell? ⟨w.heap.size + 1, 0, none⟩ = some x0 ∧ W.cell? ⟨w.heap.size + 1, 1, none⟩ = some x1 ∧ W.cell? ⟨w.heap.size + 1, 2, none⟩ = some x2 ∧ W.cell? ⟨w.heap.size + 1, 3, none⟩ = some x3 ∧ W.cell? ⟨w.heap.size + 1, 4, none⟩ = some x4 ∧ W.cell? ⟨w.heap.size + 1, 5, none⟩ = some x5 ∧ W.cell? ⟨w.heap.size + 1, 6, none⟩ = some x6) := fun W s => ⟨⟨s.keep (by rw [cell_of_row _ _ _ _ _ _ g0]; rfl), s.keep (by rw [cell_of_row _ _ _ _ _ _ g0]; rfl)⟩, s.keep (by rw [cell_of_row _ _ _ _ _ _ g1]; rfl), s.keep (by rw [cell_of_row _ _ _ _ _ _ g1]; rfl), s.keep (by rw [cell_of_row _ _ _ _ _ _ g1]; rfl), s.keep (by rw [cell_of_row _ _ _ _ _ _ g1]; rfl), s.keep (by rw [cell_of_row _ _ _ _ _ _ g1]; rfl), s.keep (by rw [cell_of_row _ _ _ _ _ _ g1]; rfl), s.keep (by rw [cell_of_row _ _ _ _ _ _ g1]; rfl)⟩
  have HG : Hid (∀ W, Same V W → W.heap[w.heap.size + 1 + 1]? = some (.cells #[.slice none 0 0, .slice none 0 0, .slice none 0 0, .string ⟨#[]⟩, .slice none 0 0, .slice none 0 0, .slice none 0 0] 30 (0, 0))) := fun W s => (s.block _ (lt_of_heap g2) (fun e => e)).trans g2
  have HG1 : Hid (∀ W, Same V W → W.heap[w.heap.size + 1]? = some (.cells #[x0, x1, x2, x3, x4, x5, x6] 30 (0, 0))) := fun W s => (s.block _ (lt_of_heap g1) (fun e => e)).trans g1
  clear g0 g1 g2
  go_enter Tryz.func10, Tryz.ntmps10
  go_wp2_with fail
  rw [← hV]
  clear hV
  refine (HJ.out _ t1).mono ?_
  rintro e W1 ⟨rfl, s1⟩
  obtain ⟨X, hX⟩ : ∃ X, X = W1.alloc (.cells #[.slice none 0 0, .slice none 0 0, .slice none 0 0] 28) := ⟨_, rfl⟩
  have sX : Same V X := by rw [hX]; exact Fr.alloc s1 _
  obtain ⟨⟨f0, f1⟩, m0, m1, m2, m3, m4, m5, m6⟩ := HC.out _ sX
  rw [hX] at f0 f1 m0 m1 m2 m3 m4 m5 m6
  go_wp2_with fail
  rw [← hX]
  clear f0 f1 m0 m1 m2 m3 m4 m5 m6 hX
  refine (HB.out _ (t1.trans sX)).mono ?_
  rintro e W2 ⟨r1, r2, rfl, h1, h2, s2⟩
  have u2 := sX.trans s2
  have r6 := HG1.out _ u2
  have hlt := lt_of_heap (HG.out _ u2)
  go_wp2_with (first
    | (refine wpList_store_whole (by rfl) 30 _ _ (by rfl) (w.heap.size + 1) #[.slice r1.pa N1.ps.length r1.cp, .slice r1.sa N1.ss.length r1.cs, .slice r1.ka N1.ks.length r1.ck, .string sp, .slice r2.pa N2.ps.length r2.cp, .slice r2.sa N2.ss.length r2.cs, .slice r2.ka N2.ks.length r2.ck] _ 30 (by rfl) (by rfl) r6 rfl (by kernel_rfl) (by kernel_rfl) ?_; intro W7 r7 f7; have k0 : W7.cell? ⟨w.heap.size + 1, 0, none⟩ = some (.slice r1.pa N1.ps.length r1.cp) := (cell_of_row _ _ _ _ _ _ r7).trans rfl; have k1 : W7.cell? ⟨w.heap.size + 1, 1, none⟩ = some (.slice r1.sa N1.ss.length r1.cs) := (cell_of_row _ _ _ _ _ _ r7).trans rfl; have k2 : W7.cell? ⟨w.heap.size + 1, 2, none⟩ = some (.slice r1.ka N1.ks.length r1.ck) := (cell_of_row _ _ _ _ _ _ r7).trans rfl; have k3 : W7.cell? ⟨w.heap.size + 1, 3, none⟩ = some (.string sp) := (cell_of_row _ _ _ _ _ _ r7).trans rfl; have k4 : W7.cell? ⟨w.heap.size + 1, 4, none⟩ = some (.slice r2.pa N2.ps.length r2.cp) := (cell_of_row _ _ _ _ _ _ r7).trans rfl; have k5 : W7.cell? ⟨w.heap.size + 1, 5, none⟩ = some (.slice r2.sa N2.ss.length r2.cs) := (cell_of_row _ _ _ _ _ _ r7).trans rfl; have k6 : W7.cell? ⟨w.heap.size + 1, 6, none⟩ = some (.slice r2.ka N2.ks.length r2.ck) := (cell_of_row _ _ _ _ _ _ r7).trans rfl; have r6b := (f7.block _ hlt (by omega)).trans (HG.out _ u2))
    | (refine wpList_store_whole (by rfl) 30 _ _ (by rfl) (w.heap.size + 1 + 1) #[.slice r1.pa N1.ps.length r1.cp, .slice r1.sa N1.ss.length r1.cs, .slice r1.ka N1.ks.length r1.ck, .string sp, .slice r2.pa N2.ps.length r2.cp, .slice r2.sa N2.ss.length r2.cs, .slice r2.ka N2.ks.length r2.ck] _ 30 (by rfl) (by rfl) r6b rfl (by kernel_rfl) (by kernel_rfl) ?_; intro W8 r8 f8))
  have h1' : MadeNd W7 w.heap.size r1 N1 := ⟨own_frameB h1.op f7 (fun kk hk e => type_ne h1.op r6 (by decide) (by rw [hk, e] <;> rfl)), own_frameB h1.os f7 (fun kk hk e => type_ne h1.os r6 (by decide) (by rw [hk, e] <;> rfl)), own_frameB h1.ok f7 (fun kk hk e => type_ne h1.ok r6 (by decide) (by rw [hk, e] <;> rfl))⟩
  have h2' : MadeNd W7 w.heap.size r2 N2 := ⟨own_frameB h2.op f7 (fun kk hk e => type_ne h2.op r6 (by decide) (by rw [hk, e] <;> rfl)), own_frameB h2.os f7 (fun kk hk e => type_ne h2.os r6 (by decide) (by rw [hk, e] <;> rfl)), own_frameB h2.ok f7 (fun kk hk e => type_ne h2.ok r6 (by decide) (by rw [hk, e] <;> rfl))⟩
  exact bodyPost_ret (results_row_tmp2 (p := 4) (u := 5) (u2 := 6) (ty := 30) (by kernel_rfl) _ _ (w.heap.size + 1 + 1) 30 _ (0, 0) _ rfl r8 Tryz.underlying30 rfl (by kernel_rfl)) rfl ⟨r1, r2, rfl, ⟨own_frameB h1'.op f8 (fun kk hk e => type_ne h1'.op r6b (by decide) (by rw [hk, e] <;> rfl)), own_frameB h1'.os f8 (fun kk hk e => type_ne h1'.os r6b (by decide) (by rw [hk, e] <;> rfl)), own_frameB h1'.ok f8 (fun kk hk e => type_ne h1'.ok r6b (by decide) (by rw [hk, e] <;> rfl))⟩, ⟨own_frameB h2'.op f8 (fun kk hk e => type_ne h2'.op r6b (by decide) (by rw [hk, e] <;> rfl)), own_frameB h2'.os f8 (fun kk hk e => type_ne h2'.os r6b (by decide) (by rw [hk, e] <;> rfl)), own_frameB h2'.ok f8 (fun kk hk e => type_ne h2'.ok r6b (by decide) (by rw [hk, e] <;> rfl))⟩, Fr.trans (Fr.trans (t1.trans u2) f7 (fun i hi e => by omega)) f8 (fun i hi e => by omega)⟩
end Go.Proofs.YtnofdjfnlmjapaaGreat
