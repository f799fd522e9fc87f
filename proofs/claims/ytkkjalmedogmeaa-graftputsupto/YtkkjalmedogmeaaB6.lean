/- The document's Remove. -/
import Derived.Test.YtkkjalmedogmeaaB5
namespace Go.Proofs.Ytkkjalmedogmeaa
open Go.RowKit

set_option maxRecDepth 100000 in
set_option maxHeartbeats 1000000 in
theorem rremove_ok {p q : Int} {r : Nr} {N : Nd} {k : ByteArray} (w : World) (h : NdAt w r N) (h1 : N.ps.length ≤ 1048576) (h2 : N.ss.length ≤ 1048576) (h3 : N.ks.length ≤ 1048576) (hE : askE p q (leafG p q N) = 0) :
    Calls Try.prog 13 #[frameV p q, ndV r N, .string k] w fun e w' => ∃ ao c, e = .returned (.tuple #[nodeV ao (delR k N.ps).length c none 0 0 none 0 0, .bool (findP k N.ps 0).2, .int .i64 0]) ∧ MadeLeaf w' w.heap.size ao c (delR k N.ps) ∧ Same w w' := by
  have hf : frameP p q = true := by
    unfold askE at hE
    by_cases hf : frameP p q = true
    · exact hf
    · rw [if_neg hf] at hE; exact absurd hE (by decide)
  have hl : leafG p q N = true := by
    unfold askE at hE
    rw [if_pos hf] at hE
    by_cases hl : leafG p q N = true
    · exact hl
    · rw [if_neg hl] at hE; exact absurd hE (by decide)
  have hl' := hl
  unfold leafG at hl'
  simp only [Bool.and_eq_true, decide_eq_true_eq] at hl'
  have hri := (chk_leaf hl'.1 hl'.2).2.2.2.1
  obtain ⟨e1, e2⟩ := wo_del k N.ps ⟨#[]⟩ hri
  have HR : Hid (∀ W, Calls Try.prog 21 #[frameV p q] W fun e w' => e = .returned (.bool true) ∧ Same W w') := fun W => by rw [← hf]; exact dright_calls p q W
  have HL : Hid (∀ W, Same w W → Calls Try.prog 22 #[frameV p q, ndV r N] W fun e w' => e = .returned (.bool true) ∧ Same W w') := fun W s => by rw [← hl]; exact rleaf_calls W (h.same s) h1 h2 h3
  have HW : Hid (∀ W, Same w W → Calls Try.prog 23 #[ndV r N, .string k] W fun e w' => ∃ ao c, e = .returned (.tuple #[nodeV ao (delR k N.ps).length c none 0 0 none 0 0, .bool (findP k N.ps 0).2]) ∧ MadeLeaf w' W.heap.size ao c (delR k N.ps) ∧ Same W w') := fun W s => by
    refine (without_calls W (h.same s).hp h1).mono ?_
    rintro e w' ⟨ao, c, rfl, own, sm⟩
    rw [e1] at own ⊢
    rw [e2]
    exact ⟨ao, c, rfl, ⟨own⟩, sm⟩
  generalize delR k N.ps = D at *
  generalize (findP k N.ps 0).2 = TH at *
  obtain ⟨V, hV⟩ : ∃ V, V = ((w.alloc (.cells #[.int .i64 p, .int .i64 q] 23)).alloc (.cells #[.slice r.pa N.ps.length r.cp, .slice r.sa N.ss.length r.cs, .slice r.ka N.ks.length r.ck] 28)).alloc (.cells #[.slice none 0 0, .slice none 0 0, .slice none 0 0] 28) := ⟨_, rfl⟩
  have H4 := heap3 w (.cells #[.int .i64 p, .int .i64 q] 23) (.cells #[.slice r.pa N.ps.length r.cp, .slice r.sa N.ss.length r.cs, .slice r.ka N.ks.length r.ck] 28) (.cells #[.slice none 0 0, .slice none 0 0, .slice none 0 0] 28)
  rw [← hV] at H4
  obtain ⟨g0, g1, g2⟩ := H4
  have t1 : Same w V := by rw [hV]; exact (((Fr.refl _ w).alloc _).alloc _).alloc _
  have HS : Hid (∀ W, Same V W → W.cell? ⟨w.heap.size, 0, none⟩ = some (.int .i64 p) ∧ W.cell? ⟨w.heap.size, 1, none⟩ = some (.int .i64 q) ∧ W.cell? ⟨w.heap.size + 1, 0, none⟩ = some (.slice r.pa N.ps.length r.cp) ∧ W.cell? ⟨w.heap.size + 1, 1, none⟩ = some (.slice r.sa N.ss.length r.cs) ∧ W.cell? ⟨w.heap.size + 1, 2, none⟩ = some (.slice r.ka N.ks.length r.ck)) := fun W s => ⟨s.keep (by rw [cell_of_row _ _ _ _ _ _ g0]; rfl), s.keep (by rw [cell_of_row _ _ _ _ _ _ g0]; rfl), s.keep (by rw [cell_of_row _ _ _ _ _ _ g1]; rfl), s.keep (by rw [cell_of_row _ _ _ _ _ _ g1]; rfl), s.keep (by rw [cell_of_row _ _ _ _ _ _ g1]; rfl)⟩
  have HG3 : Hid (∀ W, Same V W → W.heap[w.heap.size + 1 + 1]? = some (.cells #[.slice none 0 0, .slice none 0 0, .slice none 0 0] 28 (0, 0))) := fun W s => (s.block _ (lt_of_heap g2) (fun e => e)).trans g2
  have HVZ : Hid (w.heap.size + 3 ≤ V.heap.size) := by show _ ≤ _; rw [hV]; simp
  obtain ⟨a0, a1, n0, n1, n2⟩ := HS.out V (Fr.refl _ V)
  clear h g0 g1 g2 hE hl hl' hri e1 e2 h1 h2 h3 hf
  go_enter Try.func13, Try.ntmps13
  go_wp2_with fail
  rw [← hV]
  clear hV
  refine (HR.out _).mono ?_
  rintro e W1 ⟨rfl, s1⟩
  clear a0 a1 n0 n1 n2
  obtain ⟨a0, a1, n0, n1, n2⟩ := HS.out _ s1
  go_wp2_with fail
  refine (HL.out _ (t1.trans s1)).mono ?_
  rintro e W2 ⟨rfl, s2⟩
  have s2 := s1.trans s2
  clear a0 a1 n0 n1 n2
  obtain ⟨a0, a1, n0, n1, n2⟩ := HS.out _ s2
  go_wp2_with fail
  refine (HW.out _ (t1.trans s2)).mono ?_
  rintro e W3 ⟨ao, c, rfl, m3, q3⟩
  have s3 := s2.trans q3
  have r6 := (Fr.alloc s3 (.cells #[.slice ao D.length c, .slice none 0 0, .slice none 0 0] 28))
  have r6 := HG3.out _ r6
  go_wp2_with (refine wpList_store_whole (by rfl) 28 _ _ (by rfl) (w.heap.size + 1 + 1) #[.slice ao D.length c, .slice none 0 0, .slice none 0 0] #[.slice none 0 0, .slice none 0 0, .slice none 0 0] 28 (by rfl) (by rfl) r6 rfl (by kernel_rfl) (by kernel_rfl) ?_; intro W7 r7 f7)
  have hz := HVZ.out
  have z2 := s2.size
  have ow := m3.own.alloc (.cells #[.slice ao D.length c, .slice none 0 0, .slice none 0 0] 28)
  have o7 := own_frameB ow f7 (fun kk hk e => type_ne ow r6 (by decide) (by rw [hk, e]))
  exact bodyPost_ret (results_row_tmp2 (p := 6) (u := 7) (u2 := 8) (ty := 28) (by kernel_rfl) _ _ (w.heap.size + 1 + 1) 28 _ (0, 0) _ rfl r7 Try.underlying28 rfl (by kernel_rfl)) rfl ⟨ao, c, rfl, ⟨own_base o7 (by omega)⟩, Fr.trans (Fr.alloc (t1.trans s3) _) f7 (fun i hi e => by omega)⟩
set_option maxRecDepth 100000 in
set_option maxHeartbeats 1000000 in
theorem rremove_bad {p q E : Int} {r : Nr} {N : Nd} {k : ByteArray} (w : World) (h : NdAt w r N) (h1 : N.ps.length ≤ 1048576) (h2 : N.ss.length ≤ 1048576) (h3 : N.ks.length ≤ 1048576) (hE : askE p q (leafG p q N) = E) (h0 : ¬ E = 0) :
    Calls Try.prog 13 #[frameV p q, ndV r N, .string k] w fun e w' => e = .returned (.tuple #[nodeV none 0 0 none 0 0 none 0 0, .bool false, .int .i64 E]) ∧ Same w w' := by
  have HR : Hid (∀ W, Calls Try.prog 21 #[frameV p q] W fun e w' => e = .returned (.bool (frameP p q)) ∧ Same W w') := fun W => dright_calls p q W
  have HL : Hid (∀ W, Same w W → Calls Try.prog 22 #[frameV p q, ndV r N] W fun e w' => e = .returned (.bool (leafG p q N)) ∧ Same W w') := fun W s => rleaf_calls W (h.same s) h1 h2 h3
  have t1 : Same w (((w.alloc (.cells #[.int .i64 p, .int .i64 q] 23)).alloc (.cells #[.slice r.pa N.ps.length r.cp, .slice r.sa N.ss.length r.cs, .slice r.ka N.ks.length r.ck] 28)).alloc (.cells #[.slice none 0 0, .slice none 0 0, .slice none 0 0] 28)) := (((Fr.refl _ w).alloc _).alloc _).alloc _
  obtain ⟨g0, g1, g2⟩ := heap3 w (.cells #[.int .i64 p, .int .i64 q] 23) (.cells #[.slice r.pa N.ps.length r.cp, .slice r.sa N.ss.length r.cs, .slice r.ka N.ks.length r.ck] 28) (.cells #[.slice none 0 0, .slice none 0 0, .slice none 0 0] 28)
  have HVZ : Hid (w.heap.size + 3 ≤ (((w.alloc (.cells #[.int .i64 p, .int .i64 q] 23)).alloc (.cells #[.slice r.pa N.ps.length r.cp, .slice r.sa N.ss.length r.cs, .slice r.ka N.ks.length r.ck] 28)).alloc (.cells #[.slice none 0 0, .slice none 0 0, .slice none 0 0] 28)).heap.size) := by show _ ≤ _; simp
  obtain ⟨V, hV⟩ : ∃ V, V = ((w.alloc (.cells #[.int .i64 p, .int .i64 q] 23)).alloc (.cells #[.slice r.pa N.ps.length r.cp, .slice r.sa N.ss.length r.cs, .slice r.ka N.ks.length r.ck] 28)).alloc (.cells #[.slice none 0 0, .slice none 0 0, .slice none 0 0] 28) := ⟨_, rfl⟩
  rw [← hV] at t1 g0 g1 g2 HVZ
  have HS : Hid (∀ W, Same V W → W.cell? ⟨w.heap.size, 0, none⟩ = some (.int .i64 p) ∧ W.cell? ⟨w.heap.size, 1, none⟩ = some (.int .i64 q) ∧ W.cell? ⟨w.heap.size + 1, 0, none⟩ = some (.slice r.pa N.ps.length r.cp) ∧ W.cell? ⟨w.heap.size + 1, 1, none⟩ = some (.slice r.sa N.ss.length r.cs) ∧ W.cell? ⟨w.heap.size + 1, 2, none⟩ = some (.slice r.ka N.ks.length r.ck)) := fun W s => ⟨s.keep (by rw [cell_of_row _ _ _ _ _ _ g0]; rfl), s.keep (by rw [cell_of_row _ _ _ _ _ _ g0]; rfl), s.keep (by rw [cell_of_row _ _ _ _ _ _ g1]; rfl), s.keep (by rw [cell_of_row _ _ _ _ _ _ g1]; rfl), s.keep (by rw [cell_of_row _ _ _ _ _ _ g1]; rfl)⟩
  have HG3 : Hid (∀ W, Same V W → W.heap[w.heap.size + 1 + 1]? = some (.cells #[.slice none 0 0, .slice none 0 0, .slice none 0 0] 28 (0, 0))) := fun W s => (s.block _ (lt_of_heap g2) (fun e => e)).trans g2
  obtain ⟨a0, a1, n0, n1, n2⟩ := HS.out V (Fr.refl _ V)
  unfold askE at hE
  clear h h1 h2 h3 g0 g1 g2
  generalize leafG p q N = LG at *
  generalize frameP p q = F at *
  cases F with
  | false =>
    obtain rfl : E = 2 := by rw [← hE]; rfl
    go_enter Try.func13, Try.ntmps13
    go_wp2_with fail
    rw [← hV]
    refine (HR.out _).mono ?_
    rintro e W1 ⟨rfl, s1⟩
    have r6 := HG3.out _ s1
    go_wp2_with (refine wpList_store_whole (by rfl) 28 _ _ (by rfl) (w.heap.size + 1 + 1) #[.slice none 0 0, .slice none 0 0, .slice none 0 0] #[.slice none 0 0, .slice none 0 0, .slice none 0 0] 28 (by rfl) (by rfl) r6 rfl (by kernel_rfl) (by kernel_rfl) ?_; intro W7 r7 f7)
    have hz := HVZ.out
    exact bodyPost_ret (results_row_tmp2 (p := 6) (u := 7) (u2 := 8) (ty := 28) (by kernel_rfl) _ _ (w.heap.size + 1 + 1) 28 _ (0, 0) _ rfl r7 Try.underlying28 rfl (by kernel_rfl)) rfl ⟨rfl, Fr.trans (t1.trans s1) f7 (fun i hi e => by omega)⟩
  | true =>
    rw [if_pos rfl] at hE
    cases LG with
    | true => rw [if_pos rfl] at hE; exact absurd hE.symm h0
    | false =>
      obtain rfl : E = 80 := by rw [← hE]; rfl
      go_enter Try.func13, Try.ntmps13
      go_wp2_with fail
      rw [← hV]
      refine (HR.out _).mono ?_
      rintro e W1 ⟨rfl, s1⟩
      clear a0 a1 n0 n1 n2
      obtain ⟨a0, a1, n0, n1, n2⟩ := HS.out _ s1
      go_wp2_with fail
      refine (HL.out _ (t1.trans s1)).mono ?_
      rintro e W2 ⟨rfl, s2⟩
      have s2 := s1.trans s2
      have r6 := HG3.out _ s2
      go_wp2_with (refine wpList_store_whole (by rfl) 28 _ _ (by rfl) (w.heap.size + 1 + 1) #[.slice none 0 0, .slice none 0 0, .slice none 0 0] #[.slice none 0 0, .slice none 0 0, .slice none 0 0] 28 (by rfl) (by rfl) r6 rfl (by kernel_rfl) (by kernel_rfl) ?_; intro W7 r7 f7)
      have hz := HVZ.out
      exact bodyPost_ret (results_row_tmp2 (p := 6) (u := 7) (u2 := 8) (ty := 28) (by kernel_rfl) _ _ (w.heap.size + 1 + 1) 28 _ (0, 0) _ rfl r7 Try.underlying28 rfl (by kernel_rfl)) rfl ⟨rfl, Fr.trans (t1.trans s2) f7 (fun i hi e => by omega)⟩
end Go.Proofs.Ytkkjalmedogmeaa
