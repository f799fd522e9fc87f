/- The document's Put, asked rightly and wrongly. -/
import Derived.Test.YtkkjalmedogmeaaBB
namespace Go.Proofs.Ytkkjalmedogmeaa
open Go.RowKit

theorem putE_zero {p q : Int} {N : Nd} {k v : ByteArray} (h : putE p q N k v = 0) : askE p q (leafG p q N) = 0 ∧ 1 ≤ k.size ∧ (k.size : Int) ≤ p / 16 ∧ (v.size : Int) ≤ p / 8 := by
  unfold putE at h
  by_cases h0 : askE p q (leafG p q N) = 0
  · rw [if_pos h0] at h
    by_cases h1 : 1 ≤ k.size ∧ (k.size : Int) ≤ p / 16 ∧ (v.size : Int) ≤ p / 8
    · exact ⟨h0, h1⟩
    · rw [if_neg h1] at h; exact absurd h (by decide)
  · rw [if_neg h0] at h; exact absurd h h0
theorem askE_zero {p q : Int} {N : Nd} (hE : askE p q (leafG p q N) = 0) : frameP p q = true ∧ leafG p q N = true := by
  unfold askE at hE
  by_cases hf : frameP p q = true
  · rw [if_pos hf] at hE
    by_cases hl : leafG p q N = true
    · exact ⟨hf, hl⟩
    · rw [if_neg hl] at hE; exact absurd hE (by decide)
  · rw [if_neg hf] at hE; exact absurd hE (by decide)
theorem rput_ok {p q : Int} {r : Nr} {N : Nd} {k v : ByteArray} (w : World) (h : NdAt w r N) (h1 : N.ps.length ≤ 1048576) (h2 : N.ss.length ≤ 1048576) (h3 : N.ks.length ≤ 1048576) (hE : putE p q N k v = 0) :
    Calls Try.prog 7 #[frameV p q, ndV r N, .agg #[.string k, .string v]] w fun e w' => ∃ ao c, e = .returned (.tuple #[nodeV ao (insR k v N.ps).length c none 0 0 none 0 0, .bool (findP k N.ps 0).2, .int .i64 0]) ∧ MadeLeaf w' w.heap.size ao c (insR k v N.ps) ∧ Same w w' := by
  obtain ⟨hE, hk1, hk2, hv⟩ := putE_zero hE
  obtain ⟨hf, hl⟩ := askE_zero hE
  have hl' := hl
  unfold leafG at hl'
  simp only [Bool.and_eq_true, decide_eq_true_eq] at hl'
  have hri := (chk_leaf hl'.1 hl'.2).2.2.2.1
  obtain ⟨e1, e2⟩ := wo_del k N.ps ⟨#[]⟩ hri
  have hD : (delR k N.ps).length ≤ 1048576 := by
    have := (ins_lenE (k := k) (v := k) (ps := N.ps) rfl).2
    omega
  have := rput_core (p := p) (q := q) (r := r) (N := N) (k := k) (v := v) (D := delR k N.ps) (TH := (findP k N.ps 0).2) w hD hk1 hk2 hv (frameP_cases hf).1 (fun W => by rw [← hf]; exact dright_calls p q W) (fun W s => by rw [← hl]; exact rleaf_calls W (h.same s) h1 h2 h3) (fun W s => by
    refine (without_calls W (h.same s).hp h1).mono ?_
    rintro e w' ⟨ao, c, rfl, own, sm⟩
    rw [e1] at own ⊢
    rw [e2]
    exact ⟨ao, c, rfl, ⟨own⟩, sm⟩)
  rw [putL_ins k v N.ps ⟨#[]⟩ hri] at this
  exact this
set_option maxRecDepth 100000 in
set_option maxHeartbeats 2000000 in
theorem rput_bad1 {p q : Int} {r : Nr} {N : Nd} {k v : ByteArray} (w : World)
    (HR : Hid (∀ W, Calls Try.prog 21 #[frameV p q] W fun e w' => e = .returned (.bool false) ∧ Same W w')) :
    Calls Try.prog 7 #[frameV p q, ndV r N, .agg #[.string k, .string v]] w fun e w' => e = .returned (.tuple #[nodeV none 0 0 none 0 0 none 0 0, .bool false, .int .i64 2]) ∧ Same w w' := by
  obtain ⟨V, hV⟩ : ∃ V, V = (((w.alloc (.cells #[.int .i64 p, .int .i64 q] 23)).alloc (.cells #[.slice r.pa N.ps.length r.cp, .slice r.sa N.ss.length r.cs, .slice r.ka N.ks.length r.ck] 28)).alloc (.cells #[.string k, .string v] 30)).alloc (.cells #[.slice none 0 0, .slice none 0 0, .slice none 0 0] 28) := ⟨_, rfl⟩
  have t1 : Same w V := by rw [hV]; exact ((((Fr.refl _ w).alloc _).alloc _).alloc _).alloc _
  have H4 := heap3 w (.cells #[.int .i64 p, .int .i64 q] 23) (.cells #[.slice r.pa N.ps.length r.cp, .slice r.sa N.ss.length r.cs, .slice r.ka N.ks.length r.ck] 28) (.cells #[.string k, .string v] 30)
  have g0 : V.heap[w.heap.size]? = some (.cells #[.int .i64 p, .int .i64 q] 23 (0, 0)) := by rw [hV, Below.heap_alloc _ _ _ (by simp <;> omega)]; exact H4.1
  have g1 : V.heap[w.heap.size + 1]? = some (.cells #[.slice r.pa N.ps.length r.cp, .slice r.sa N.ss.length r.cs, .slice r.ka N.ks.length r.ck] 28 (0, 0)) := by rw [hV, Below.heap_alloc _ _ _ (by simp <;> omega)]; exact H4.2.1
  have g2 : V.heap[w.heap.size + 1 + 1]? = some (.cells #[.string k, .string v] 30 (0, 0)) := by rw [hV, Below.heap_alloc _ _ _ (by simp)]; exact H4.2.2
  have g3 : V.heap[w.heap.size + 1 + 1 + 1]? = some (.cells #[.slice none 0 0, .slice none 0 0, .slice none 0 0] 28 (0, 0)) := by
    have := heap_alloc_new (((w.alloc (.cells #[.int .i64 p, .int .i64 q] 23)).alloc (.cells #[.slice r.pa N.ps.length r.cp, .slice r.sa N.ss.length r.cs, .slice r.ka N.ks.length r.ck] 28)).alloc (.cells #[.string k, .string v] 30)) (.cells #[.slice none 0 0, .slice none 0 0, .slice none 0 0] 28)
    rw [show (((w.alloc (.cells #[.int .i64 p, .int .i64 q] 23)).alloc (.cells #[.slice r.pa N.ps.length r.cp, .slice r.sa N.ss.length r.cs, .slice r.ka N.ks.length r.ck] 28)).alloc (.cells #[.string k, .string v] 30)).heap.size = w.heap.size + 1 + 1 + 1 from by simp, ← hV] at this
    exact this
  have HVZ : Hid (V.heap.size = w.heap.size + 4) := by show _ = _; rw [hV]; simp
  have HG3 : Hid (∀ W, Same V W → W.heap[w.heap.size + 1 + 1 + 1]? = some (.cells #[.slice none 0 0, .slice none 0 0, .slice none 0 0] 28 (0, 0))) := fun W s => (s.block _ (lt_of_heap g3) (fun e => e)).trans g3
  have a0 : V.cell? ⟨w.heap.size, 0, none⟩ = some (.int .i64 p) := (cell_of_row _ _ _ _ _ _ g0).trans rfl
  have a1 : V.cell? ⟨w.heap.size, 1, none⟩ = some (.int .i64 q) := (cell_of_row _ _ _ _ _ _ g0).trans rfl
  have n0 : V.cell? ⟨w.heap.size + 1, 0, none⟩ = some (.slice r.pa N.ps.length r.cp) := (cell_of_row _ _ _ _ _ _ g1).trans rfl
  have n1 : V.cell? ⟨w.heap.size + 1, 1, none⟩ = some (.slice r.sa N.ss.length r.cs) := (cell_of_row _ _ _ _ _ _ g1).trans rfl
  have n2 : V.cell? ⟨w.heap.size + 1, 2, none⟩ = some (.slice r.ka N.ks.length r.ck) := (cell_of_row _ _ _ _ _ _ g1).trans rfl
  have k0 : V.cell? ⟨w.heap.size + 1 + 1, 0, none⟩ = some (.string k) := (cell_of_row _ _ _ _ _ _ g2).trans rfl
  have k1 : V.cell? ⟨w.heap.size + 1 + 1, 1, none⟩ = some (.string v) := (cell_of_row _ _ _ _ _ _ g2).trans rfl
  have HS : Hid (∀ W, Same V W → W.cell? ⟨w.heap.size, 0, none⟩ = some (.int .i64 p) ∧ W.cell? ⟨w.heap.size, 1, none⟩ = some (.int .i64 q) ∧ W.cell? ⟨w.heap.size + 1, 0, none⟩ = some (.slice r.pa N.ps.length r.cp) ∧ W.cell? ⟨w.heap.size + 1, 1, none⟩ = some (.slice r.sa N.ss.length r.cs) ∧ W.cell? ⟨w.heap.size + 1, 2, none⟩ = some (.slice r.ka N.ks.length r.ck) ∧ W.cell? ⟨w.heap.size + 1 + 1, 0, none⟩ = some (.string k) ∧ W.cell? ⟨w.heap.size + 1 + 1, 1, none⟩ = some (.string v)) := fun W s => ⟨s.keep a0, s.keep a1, s.keep n0, s.keep n1, s.keep n2, s.keep k0, s.keep k1⟩
  clear H4 g0 g1 g2 g3
  go_enter Try.func7, Try.ntmps7
  go_wp2_with fail
  rw [← hV]
  clear hV
  refine (HR.out _).mono ?_
  rintro e W1 ⟨rfl, s1⟩
  have r6 := HG3.out _ s1
  go_wp2_with (refine wpList_store_whole (by rfl) 28 _ _ (by rfl) (w.heap.size + 1 + 1 + 1) #[.slice none 0 0, .slice none 0 0, .slice none 0 0] #[.slice none 0 0, .slice none 0 0, .slice none 0 0] 28 (by rfl) (by rfl) r6 rfl (by kernel_rfl) (by kernel_rfl) ?_; intro W7 r7 f7)
  have hz := HVZ.out
  exact bodyPost_ret (results_row_tmp2 (p := 6) (u := 7) (u2 := 8) (ty := 28) (by kernel_rfl) _ _ (w.heap.size + 1 + 1 + 1) 28 _ (0, 0) _ rfl r7 Try.underlying28 rfl (by kernel_rfl)) rfl ⟨rfl, Fr.trans (t1.trans s1) f7 (fun i hi e => by omega)⟩
set_option maxRecDepth 100000 in
set_option maxHeartbeats 2000000 in
theorem rput_bad2 {p q : Int} {r : Nr} {N : Nd} {k v : ByteArray} (w : World)
    (HR : Hid (∀ W, Calls Try.prog 21 #[frameV p q] W fun e w' => e = .returned (.bool true) ∧ Same W w'))
    (HL : Hid (∀ W, Same w W → Calls Try.prog 22 #[frameV p q, ndV r N] W fun e w' => e = .returned (.bool false) ∧ Same W w')) :
    Calls Try.prog 7 #[frameV p q, ndV r N, .agg #[.string k, .string v]] w fun e w' => e = .returned (.tuple #[nodeV none 0 0 none 0 0 none 0 0, .bool false, .int .i64 80]) ∧ Same w w' := by
  obtain ⟨V, hV⟩ : ∃ V, V = (((w.alloc (.cells #[.int .i64 p, .int .i64 q] 23)).alloc (.cells #[.slice r.pa N.ps.length r.cp, .slice r.sa N.ss.length r.cs, .slice r.ka N.ks.length r.ck] 28)).alloc (.cells #[.string k, .string v] 30)).alloc (.cells #[.slice none 0 0, .slice none 0 0, .slice none 0 0] 28) := ⟨_, rfl⟩
  have t1 : Same w V := by rw [hV]; exact ((((Fr.refl _ w).alloc _).alloc _).alloc _).alloc _
  have H4 := heap3 w (.cells #[.int .i64 p, .int .i64 q] 23) (.cells #[.slice r.pa N.ps.length r.cp, .slice r.sa N.ss.length r.cs, .slice r.ka N.ks.length r.ck] 28) (.cells #[.string k, .string v] 30)
  have g0 : V.heap[w.heap.size]? = some (.cells #[.int .i64 p, .int .i64 q] 23 (0, 0)) := by rw [hV, Below.heap_alloc _ _ _ (by simp <;> omega)]; exact H4.1
  have g1 : V.heap[w.heap.size + 1]? = some (.cells #[.slice r.pa N.ps.length r.cp, .slice r.sa N.ss.length r.cs, .slice r.ka N.ks.length r.ck] 28 (0, 0)) := by rw [hV, Below.heap_alloc _ _ _ (by simp <;> omega)]; exact H4.2.1
  have g2 : V.heap[w.heap.size + 1 + 1]? = some (.cells #[.string k, .string v] 30 (0, 0)) := by rw [hV, Below.heap_alloc _ _ _ (by simp)]; exact H4.2.2
  have g3 : V.heap[w.heap.size + 1 + 1 + 1]? = some (.cells #[.slice none 0 0, .slice none 0 0, .slice none 0 0] 28 (0, 0)) := by
    have := heap_alloc_new (((w.alloc (.cells #[.int .i64 p, .int .i64 q] 23)).alloc (.cells #[.slice r.pa N.ps.length r.cp, .slice r.sa N.ss.length r.cs, .slice r.ka N.ks.length r.ck] 28)).alloc (.cells #[.string k, .string v] 30)) (.cells #[.slice none 0 0, .slice none 0 0, .slice none 0 0] 28)
    rw [show (((w.alloc (.cells #[.int .i64 p, .int .i64 q] 23)).alloc (.cells #[.slice r.pa N.ps.length r.cp, .slice r.sa N.ss.length r.cs, .slice r.ka N.ks.length r.ck] 28)).alloc (.cells #[.string k, .string v] 30)).heap.size = w.heap.size + 1 + 1 + 1 from by simp, ← hV] at this
    exact this
  have HVZ : Hid (V.heap.size = w.heap.size + 4) := by show _ = _; rw [hV]; simp
  have HG3 : Hid (∀ W, Same V W → W.heap[w.heap.size + 1 + 1 + 1]? = some (.cells #[.slice none 0 0, .slice none 0 0, .slice none 0 0] 28 (0, 0))) := fun W s => (s.block _ (lt_of_heap g3) (fun e => e)).trans g3
  have a0 : V.cell? ⟨w.heap.size, 0, none⟩ = some (.int .i64 p) := (cell_of_row _ _ _ _ _ _ g0).trans rfl
  have a1 : V.cell? ⟨w.heap.size, 1, none⟩ = some (.int .i64 q) := (cell_of_row _ _ _ _ _ _ g0).trans rfl
  have n0 : V.cell? ⟨w.heap.size + 1, 0, none⟩ = some (.slice r.pa N.ps.length r.cp) := (cell_of_row _ _ _ _ _ _ g1).trans rfl
  have n1 : V.cell? ⟨w.heap.size + 1, 1, none⟩ = some (.slice r.sa N.ss.length r.cs) := (cell_of_row _ _ _ _ _ _ g1).trans rfl
  have n2 : V.cell? ⟨w.heap.size + 1, 2, none⟩ = some (.slice r.ka N.ks.length r.ck) := (cell_of_row _ _ _ _ _ _ g1).trans rfl
  have k0 : V.cell? ⟨w.heap.size + 1 + 1, 0, none⟩ = some (.string k) := (cell_of_row _ _ _ _ _ _ g2).trans rfl
  have k1 : V.cell? ⟨w.heap.size + 1 + 1, 1, none⟩ = some (.string v) := (cell_of_row _ _ _ _ _ _ g2).trans rfl
  have HS : Hid (∀ W, Same V W → W.cell? ⟨w.heap.size, 0, none⟩ = some (.int .i64 p) ∧ W.cell? ⟨w.heap.size, 1, none⟩ = some (.int .i64 q) ∧ W.cell? ⟨w.heap.size + 1, 0, none⟩ = some (.slice r.pa N.ps.length r.cp) ∧ W.cell? ⟨w.heap.size + 1, 1, none⟩ = some (.slice r.sa N.ss.length r.cs) ∧ W.cell? ⟨w.heap.size + 1, 2, none⟩ = some (.slice r.ka N.ks.length r.ck) ∧ W.cell? ⟨w.heap.size + 1 + 1, 0, none⟩ = some (.string k) ∧ W.cell? ⟨w.heap.size + 1 + 1, 1, none⟩ = some (.string v)) := fun W s => ⟨s.keep a0, s.keep a1, s.keep n0, s.keep n1, s.keep n2, s.keep k0, s.keep k1⟩
  clear H4 g0 g1 g2 g3
  go_enter Try.func7, Try.ntmps7
  go_wp2_with fail
  rw [← hV]
  clear hV
  refine (HR.out _).mono ?_
  rintro e W1 ⟨rfl, s1⟩
  clear a0 a1 n0 n1 n2 k0 k1
  obtain ⟨a0, a1, n0, n1, n2, k0, k1⟩ := HS.out _ s1
  go_wp2_with fail
  refine (HL.out _ (t1.trans s1)).mono ?_
  rintro e W2 ⟨rfl, s2⟩
  have s2 := s1.trans s2
  have r6 := HG3.out _ s2
  go_wp2_with (refine wpList_store_whole (by rfl) 28 _ _ (by rfl) (w.heap.size + 1 + 1 + 1) #[.slice none 0 0, .slice none 0 0, .slice none 0 0] #[.slice none 0 0, .slice none 0 0, .slice none 0 0] 28 (by rfl) (by rfl) r6 rfl (by kernel_rfl) (by kernel_rfl) ?_; intro W7 r7 f7)
  have hz := HVZ.out
  exact bodyPost_ret (results_row_tmp2 (p := 6) (u := 7) (u2 := 8) (ty := 28) (by kernel_rfl) _ _ (w.heap.size + 1 + 1 + 1) 28 _ (0, 0) _ rfl r7 Try.underlying28 rfl (by kernel_rfl)) rfl ⟨rfl, Fr.trans (t1.trans s2) f7 (fun i hi e => by omega)⟩
set_option maxRecDepth 100000 in
set_option maxHeartbeats 2000000 in
theorem rput_bad3 {p q : Int} {r : Nr} {N : Nd} {k v : ByteArray} (w : World) (l1 : (k.size : Int) < 1)
    (HR : Hid (∀ W, Calls Try.prog 21 #[frameV p q] W fun e w' => e = .returned (.bool true) ∧ Same W w'))
    (HL : Hid (∀ W, Same w W → Calls Try.prog 22 #[frameV p q, ndV r N] W fun e w' => e = .returned (.bool true) ∧ Same W w')) :
    Calls Try.prog 7 #[frameV p q, ndV r N, .agg #[.string k, .string v]] w fun e w' => e = .returned (.tuple #[nodeV none 0 0 none 0 0 none 0 0, .bool false, .int .i64 2]) ∧ Same w w' := by
  obtain ⟨V, hV⟩ : ∃ V, V = (((w.alloc (.cells #[.int .i64 p, .int .i64 q] 23)).alloc (.cells #[.slice r.pa N.ps.length r.cp, .slice r.sa N.ss.length r.cs, .slice r.ka N.ks.length r.ck] 28)).alloc (.cells #[.string k, .string v] 30)).alloc (.cells #[.slice none 0 0, .slice none 0 0, .slice none 0 0] 28) := ⟨_, rfl⟩
  have t1 : Same w V := by rw [hV]; exact ((((Fr.refl _ w).alloc _).alloc _).alloc _).alloc _
  have H4 := heap3 w (.cells #[.int .i64 p, .int .i64 q] 23) (.cells #[.slice r.pa N.ps.length r.cp, .slice r.sa N.ss.length r.cs, .slice r.ka N.ks.length r.ck] 28) (.cells #[.string k, .string v] 30)
  have g0 : V.heap[w.heap.size]? = some (.cells #[.int .i64 p, .int .i64 q] 23 (0, 0)) := by rw [hV, Below.heap_alloc _ _ _ (by simp <;> omega)]; exact H4.1
  have g1 : V.heap[w.heap.size + 1]? = some (.cells #[.slice r.pa N.ps.length r.cp, .slice r.sa N.ss.length r.cs, .slice r.ka N.ks.length r.ck] 28 (0, 0)) := by rw [hV, Below.heap_alloc _ _ _ (by simp <;> omega)]; exact H4.2.1
  have g2 : V.heap[w.heap.size + 1 + 1]? = some (.cells #[.string k, .string v] 30 (0, 0)) := by rw [hV, Below.heap_alloc _ _ _ (by simp)]; exact H4.2.2
  have g3 : V.heap[w.heap.size + 1 + 1 + 1]? = some (.cells #[.slice none 0 0, .slice none 0 0, .slice none 0 0] 28 (0, 0)) := by
    have := heap_alloc_new (((w.alloc (.cells #[.int .i64 p, .int .i64 q] 23)).alloc (.cells #[.slice r.pa N.ps.length r.cp, .slice r.sa N.ss.length r.cs, .slice r.ka N.ks.length r.ck] 28)).alloc (.cells #[.string k, .string v] 30)) (.cells #[.slice none 0 0, .slice none 0 0, .slice none 0 0] 28)
    rw [show (((w.alloc (.cells #[.int .i64 p, .int .i64 q] 23)).alloc (.cells #[.slice r.pa N.ps.length r.cp, .slice r.sa N.ss.length r.cs, .slice r.ka N.ks.length r.ck] 28)).alloc (.cells #[.string k, .string v] 30)).heap.size = w.heap.size + 1 + 1 + 1 from by simp, ← hV] at this
    exact this
  have HVZ : Hid (V.heap.size = w.heap.size + 4) := by show _ = _; rw [hV]; simp
  have HG3 : Hid (∀ W, Same V W → W.heap[w.heap.size + 1 + 1 + 1]? = some (.cells #[.slice none 0 0, .slice none 0 0, .slice none 0 0] 28 (0, 0))) := fun W s => (s.block _ (lt_of_heap g3) (fun e => e)).trans g3
  have a0 : V.cell? ⟨w.heap.size, 0, none⟩ = some (.int .i64 p) := (cell_of_row _ _ _ _ _ _ g0).trans rfl
  have a1 : V.cell? ⟨w.heap.size, 1, none⟩ = some (.int .i64 q) := (cell_of_row _ _ _ _ _ _ g0).trans rfl
  have n0 : V.cell? ⟨w.heap.size + 1, 0, none⟩ = some (.slice r.pa N.ps.length r.cp) := (cell_of_row _ _ _ _ _ _ g1).trans rfl
  have n1 : V.cell? ⟨w.heap.size + 1, 1, none⟩ = some (.slice r.sa N.ss.length r.cs) := (cell_of_row _ _ _ _ _ _ g1).trans rfl
  have n2 : V.cell? ⟨w.heap.size + 1, 2, none⟩ = some (.slice r.ka N.ks.length r.ck) := (cell_of_row _ _ _ _ _ _ g1).trans rfl
  have k0 : V.cell? ⟨w.heap.size + 1 + 1, 0, none⟩ = some (.string k) := (cell_of_row _ _ _ _ _ _ g2).trans rfl
  have k1 : V.cell? ⟨w.heap.size + 1 + 1, 1, none⟩ = some (.string v) := (cell_of_row _ _ _ _ _ _ g2).trans rfl
  have HS : Hid (∀ W, Same V W → W.cell? ⟨w.heap.size, 0, none⟩ = some (.int .i64 p) ∧ W.cell? ⟨w.heap.size, 1, none⟩ = some (.int .i64 q) ∧ W.cell? ⟨w.heap.size + 1, 0, none⟩ = some (.slice r.pa N.ps.length r.cp) ∧ W.cell? ⟨w.heap.size + 1, 1, none⟩ = some (.slice r.sa N.ss.length r.cs) ∧ W.cell? ⟨w.heap.size + 1, 2, none⟩ = some (.slice r.ka N.ks.length r.ck) ∧ W.cell? ⟨w.heap.size + 1 + 1, 0, none⟩ = some (.string k) ∧ W.cell? ⟨w.heap.size + 1 + 1, 1, none⟩ = some (.string v)) := fun W s => ⟨s.keep a0, s.keep a1, s.keep n0, s.keep n1, s.keep n2, s.keep k0, s.keep k1⟩
  clear H4 g0 g1 g2 g3
  go_enter Try.func7, Try.ntmps7
  go_wp2_with fail
  rw [← hV]
  clear hV
  refine (HR.out _).mono ?_
  rintro e W1 ⟨rfl, s1⟩
  clear a0 a1 n0 n1 n2 k0 k1
  obtain ⟨a0, a1, n0, n1, n2, k0, k1⟩ := HS.out _ s1
  go_wp2_with fail
  refine (HL.out _ (t1.trans s1)).mono ?_
  rintro e W2 ⟨rfl, s2⟩
  have s2 := s1.trans s2
  have r6 := HG3.out _ s2
  clear a0 a1 n0 n1 n2 k0 k1
  obtain ⟨a0, a1, n0, n1, n2, k0, k1⟩ := HS.out _ s2
  go_wp2_with (refine wpList_store_whole (by rfl) 28 _ _ (by rfl) (w.heap.size + 1 + 1 + 1) #[.slice none 0 0, .slice none 0 0, .slice none 0 0] #[.slice none 0 0, .slice none 0 0, .slice none 0 0] 28 (by rfl) (by rfl) r6 rfl (by kernel_rfl) (by kernel_rfl) ?_; intro W7 r7 f7)
  have hz := HVZ.out
  exact bodyPost_ret (results_row_tmp2 (p := 6) (u := 7) (u2 := 8) (ty := 28) (by kernel_rfl) _ _ (w.heap.size + 1 + 1 + 1) 28 _ (0, 0) _ rfl r7 Try.underlying28 rfl (by kernel_rfl)) rfl ⟨rfl, Fr.trans (t1.trans s2) f7 (fun i hi e => by omega)⟩
set_option maxRecDepth 100000 in
set_option maxHeartbeats 2000000 in
theorem rput_bad4 {p q : Int} {r : Nr} {N : Nd} {k v : ByteArray} (w : World) (l1 : ¬ (k.size : Int) < 1) (l2 : p / 16 < (k.size : Int)) (hp : p = 1024 ∨ p = 2048 ∨ p = 4096 ∨ p = 8192)
    (HR : Hid (∀ W, Calls Try.prog 21 #[frameV p q] W fun e w' => e = .returned (.bool true) ∧ Same W w'))
    (HL : Hid (∀ W, Same w W → Calls Try.prog 22 #[frameV p q, ndV r N] W fun e w' => e = .returned (.bool true) ∧ Same W w')) :
    Calls Try.prog 7 #[frameV p q, ndV r N, .agg #[.string k, .string v]] w fun e w' => e = .returned (.tuple #[nodeV none 0 0 none 0 0 none 0 0, .bool false, .int .i64 2]) ∧ Same w w' := by
  obtain ⟨V, hV⟩ : ∃ V, V = (((w.alloc (.cells #[.int .i64 p, .int .i64 q] 23)).alloc (.cells #[.slice r.pa N.ps.length r.cp, .slice r.sa N.ss.length r.cs, .slice r.ka N.ks.length r.ck] 28)).alloc (.cells #[.string k, .string v] 30)).alloc (.cells #[.slice none 0 0, .slice none 0 0, .slice none 0 0] 28) := ⟨_, rfl⟩
  have t1 : Same w V := by rw [hV]; exact ((((Fr.refl _ w).alloc _).alloc _).alloc _).alloc _
  have H4 := heap3 w (.cells #[.int .i64 p, .int .i64 q] 23) (.cells #[.slice r.pa N.ps.length r.cp, .slice r.sa N.ss.length r.cs, .slice r.ka N.ks.length r.ck] 28) (.cells #[.string k, .string v] 30)
  have g0 : V.heap[w.heap.size]? = some (.cells #[.int .i64 p, .int .i64 q] 23 (0, 0)) := by rw [hV, Below.heap_alloc _ _ _ (by simp <;> omega)]; exact H4.1
  have g1 : V.heap[w.heap.size + 1]? = some (.cells #[.slice r.pa N.ps.length r.cp, .slice r.sa N.ss.length r.cs, .slice r.ka N.ks.length r.ck] 28 (0, 0)) := by rw [hV, Below.heap_alloc _ _ _ (by simp <;> omega)]; exact H4.2.1
  have g2 : V.heap[w.heap.size + 1 + 1]? = some (.cells #[.string k, .string v] 30 (0, 0)) := by rw [hV, Below.heap_alloc _ _ _ (by simp)]; exact H4.2.2
  have g3 : V.heap[w.heap.size + 1 + 1 + 1]? = some (.cells #[.slice none 0 0, .slice none 0 0, .slice none 0 0] 28 (0, 0)) := by
    have := heap_alloc_new (((w.alloc (.cells #[.int .i64 p, .int .i64 q] 23)).alloc (.cells #[.slice r.pa N.ps.length r.cp, .slice r.sa N.ss.length r.cs, .slice r.ka N.ks.length r.ck] 28)).alloc (.cells #[.string k, .string v] 30)) (.cells #[.slice none 0 0, .slice none 0 0, .slice none 0 0] 28)
    rw [show (((w.alloc (.cells #[.int .i64 p, .int .i64 q] 23)).alloc (.cells #[.slice r.pa N.ps.length r.cp, .slice r.sa N.ss.length r.cs, .slice r.ka N.ks.length r.ck] 28)).alloc (.cells #[.string k, .string v] 30)).heap.size = w.heap.size + 1 + 1 + 1 from by simp, ← hV] at this
    exact this
  have HVZ : Hid (V.heap.size = w.heap.size + 4) := by show _ = _; rw [hV]; simp
  have HG3 : Hid (∀ W, Same V W → W.heap[w.heap.size + 1 + 1 + 1]? = some (.cells #[.slice none 0 0, .slice none 0 0, .slice none 0 0] 28 (0, 0))) := fun W s => (s.block _ (lt_of_heap g3) (fun e => e)).trans g3
  have a0 : V.cell? ⟨w.heap.size, 0, none⟩ = some (.int .i64 p) := (cell_of_row _ _ _ _ _ _ g0).trans rfl
  have a1 : V.cell? ⟨w.heap.size, 1, none⟩ = some (.int .i64 q) := (cell_of_row _ _ _ _ _ _ g0).trans rfl
  have n0 : V.cell? ⟨w.heap.size + 1, 0, none⟩ = some (.slice r.pa N.ps.length r.cp) := (cell_of_row _ _ _ _ _ _ g1).trans rfl
  have n1 : V.cell? ⟨w.heap.size + 1, 1, none⟩ = some (.slice r.sa N.ss.length r.cs) := (cell_of_row _ _ _ _ _ _ g1).trans rfl
  have n2 : V.cell? ⟨w.heap.size + 1, 2, none⟩ = some (.slice r.ka N.ks.length r.ck) := (cell_of_row _ _ _ _ _ _ g1).trans rfl
  have k0 : V.cell? ⟨w.heap.size + 1 + 1, 0, none⟩ = some (.string k) := (cell_of_row _ _ _ _ _ _ g2).trans rfl
  have k1 : V.cell? ⟨w.heap.size + 1 + 1, 1, none⟩ = some (.string v) := (cell_of_row _ _ _ _ _ _ g2).trans rfl
  have HS : Hid (∀ W, Same V W → W.cell? ⟨w.heap.size, 0, none⟩ = some (.int .i64 p) ∧ W.cell? ⟨w.heap.size, 1, none⟩ = some (.int .i64 q) ∧ W.cell? ⟨w.heap.size + 1, 0, none⟩ = some (.slice r.pa N.ps.length r.cp) ∧ W.cell? ⟨w.heap.size + 1, 1, none⟩ = some (.slice r.sa N.ss.length r.cs) ∧ W.cell? ⟨w.heap.size + 1, 2, none⟩ = some (.slice r.ka N.ks.length r.ck) ∧ W.cell? ⟨w.heap.size + 1 + 1, 0, none⟩ = some (.string k) ∧ W.cell? ⟨w.heap.size + 1 + 1, 1, none⟩ = some (.string v)) := fun W s => ⟨s.keep a0, s.keep a1, s.keep n0, s.keep n1, s.keep n2, s.keep k0, s.keep k1⟩
  have hp8 : (0 : Int) ≤ p := by omega
  clear H4 g0 g1 g2 g3
  go_enter Try.func7, Try.ntmps7
  go_wp2_with fail
  rw [← hV]
  clear hV
  refine (HR.out _).mono ?_
  rintro e W1 ⟨rfl, s1⟩
  clear a0 a1 n0 n1 n2 k0 k1
  obtain ⟨a0, a1, n0, n1, n2, k0, k1⟩ := HS.out _ s1
  go_wp2_with fail
  refine (HL.out _ (t1.trans s1)).mono ?_
  rintro e W2 ⟨rfl, s2⟩
  have s2 := s1.trans s2
  have r6 := HG3.out _ s2
  clear a0 a1 n0 n1 n2 k0 k1
  obtain ⟨a0, a1, n0, n1, n2, k0, k1⟩ := HS.out _ s2
  go_wp2_with (refine wpList_store_whole (by rfl) 28 _ _ (by rfl) (w.heap.size + 1 + 1 + 1) #[.slice none 0 0, .slice none 0 0, .slice none 0 0] #[.slice none 0 0, .slice none 0 0, .slice none 0 0] 28 (by rfl) (by rfl) r6 rfl (by kernel_rfl) (by kernel_rfl) ?_; intro W7 r7 f7)
  have hz := HVZ.out
  exact bodyPost_ret (results_row_tmp2 (p := 6) (u := 7) (u2 := 8) (ty := 28) (by kernel_rfl) _ _ (w.heap.size + 1 + 1 + 1) 28 _ (0, 0) _ rfl r7 Try.underlying28 rfl (by kernel_rfl)) rfl ⟨rfl, Fr.trans (t1.trans s2) f7 (fun i hi e => by omega)⟩
set_option maxRecDepth 100000 in
set_option maxHeartbeats 2000000 in
theorem rput_bad5 {p q : Int} {r : Nr} {N : Nd} {k v : ByteArray} (w : World) (l1 : ¬ (k.size : Int) < 1) (l2 : ¬ p / 16 < (k.size : Int)) (l3 : p / 8 < (v.size : Int)) (hp : p = 1024 ∨ p = 2048 ∨ p = 4096 ∨ p = 8192)
    (HR : Hid (∀ W, Calls Try.prog 21 #[frameV p q] W fun e w' => e = .returned (.bool true) ∧ Same W w'))
    (HL : Hid (∀ W, Same w W → Calls Try.prog 22 #[frameV p q, ndV r N] W fun e w' => e = .returned (.bool true) ∧ Same W w')) :
    Calls Try.prog 7 #[frameV p q, ndV r N, .agg #[.string k, .string v]] w fun e w' => e = .returned (.tuple #[nodeV none 0 0 none 0 0 none 0 0, .bool false, .int .i64 2]) ∧ Same w w' := by
  obtain ⟨V, hV⟩ : ∃ V, V = (((w.alloc (.cells #[.int .i64 p, .int .i64 q] 23)).alloc (.cells #[.slice r.pa N.ps.length r.cp, .slice r.sa N.ss.length r.cs, .slice r.ka N.ks.length r.ck] 28)).alloc (.cells #[.string k, .string v] 30)).alloc (.cells #[.slice none 0 0, .slice none 0 0, .slice none 0 0] 28) := ⟨_, rfl⟩
  have t1 : Same w V := by rw [hV]; exact ((((Fr.refl _ w).alloc _).alloc _).alloc _).alloc _
  have H4 := heap3 w (.cells #[.int .i64 p, .int .i64 q] 23) (.cells #[.slice r.pa N.ps.length r.cp, .slice r.sa N.ss.length r.cs, .slice r.ka N.ks.length r.ck] 28) (.cells #[.string k, .string v] 30)
  have g0 : V.heap[w.heap.size]? = some (.cells #[.int .i64 p, .int .i64 q] 23 (0, 0)) := by rw [hV, Below.heap_alloc _ _ _ (by simp <;> omega)]; exact H4.1
  have g1 : V.heap[w.heap.size + 1]? = some (.cells #[.slice r.pa N.ps.length r.cp, .slice r.sa N.ss.length r.cs, .slice r.ka N.ks.length r.ck] 28 (0, 0)) := by rw [hV, Below.heap_alloc _ _ _ (by simp <;> omega)]; exact H4.2.1
  have g2 : V.heap[w.heap.size + 1 + 1]? = some (.cells #[.string k, .string v] 30 (0, 0)) := by rw [hV, Below.heap_alloc _ _ _ (by simp)]; exact H4.2.2
  have g3 : V.heap[w.heap.size + 1 + 1 + 1]? = some (.cells #[.slice none 0 0, .slice none 0 0, .slice none 0 0] 28 (0, 0)) := by
    have := heap_alloc_new (((w.alloc (.cells #[.int .i64 p, .int .i64 q] 23)).alloc (.cells #[.slice r.pa N.ps.length r.cp, .slice r.sa N.ss.length r.cs, .slice r.ka N.ks.length r.ck] 28)).alloc (.cells #[.string k, .string v] 30)) (.cells #[.slice none 0 0, .slice none 0 0, .slice none 0 0] 28)
    rw [show (((w.alloc (.cells #[.int .i64 p, .int .i64 q] 23)).alloc (.cells #[.slice r.pa N.ps.length r.cp, .slice r.sa N.ss.length r.cs, .slice r.ka N.ks.length r.ck] 28)).alloc (.cells #[.string k, .string v] 30)).heap.size = w.heap.size + 1 + 1 + 1 from by simp, ← hV] at this
    exact this
  have HVZ : Hid (V.heap.size = w.heap.size + 4) := by show _ = _; rw [hV]; simp
  have HG3 : Hid (∀ W, Same V W → W.heap[w.heap.size + 1 + 1 + 1]? = some (.cells #[.slice none 0 0, .slice none 0 0, .slice none 0 0] 28 (0, 0))) := fun W s => (s.block _ (lt_of_heap g3) (fun e => e)).trans g3
  have a0 : V.cell? ⟨w.heap.size, 0, none⟩ = some (.int .i64 p) := (cell_of_row _ _ _ _ _ _ g0).trans rfl
  have a1 : V.cell? ⟨w.heap.size, 1, none⟩ = some (.int .i64 q) := (cell_of_row _ _ _ _ _ _ g0).trans rfl
  have n0 : V.cell? ⟨w.heap.size + 1, 0, none⟩ = some (.slice r.pa N.ps.length r.cp) := (cell_of_row _ _ _ _ _ _ g1).trans rfl
  have n1 : V.cell? ⟨w.heap.size + 1, 1, none⟩ = some (.slice r.sa N.ss.length r.cs) := (cell_of_row _ _ _ _ _ _ g1).trans rfl
  have n2 : V.cell? ⟨w.heap.size + 1, 2, none⟩ = some (.slice r.ka N.ks.length r.ck) := (cell_of_row _ _ _ _ _ _ g1).trans rfl
  have k0 : V.cell? ⟨w.heap.size + 1 + 1, 0, none⟩ = some (.string k) := (cell_of_row _ _ _ _ _ _ g2).trans rfl
  have k1 : V.cell? ⟨w.heap.size + 1 + 1, 1, none⟩ = some (.string v) := (cell_of_row _ _ _ _ _ _ g2).trans rfl
  have HS : Hid (∀ W, Same V W → W.cell? ⟨w.heap.size, 0, none⟩ = some (.int .i64 p) ∧ W.cell? ⟨w.heap.size, 1, none⟩ = some (.int .i64 q) ∧ W.cell? ⟨w.heap.size + 1, 0, none⟩ = some (.slice r.pa N.ps.length r.cp) ∧ W.cell? ⟨w.heap.size + 1, 1, none⟩ = some (.slice r.sa N.ss.length r.cs) ∧ W.cell? ⟨w.heap.size + 1, 2, none⟩ = some (.slice r.ka N.ks.length r.ck) ∧ W.cell? ⟨w.heap.size + 1 + 1, 0, none⟩ = some (.string k) ∧ W.cell? ⟨w.heap.size + 1 + 1, 1, none⟩ = some (.string v)) := fun W s => ⟨s.keep a0, s.keep a1, s.keep n0, s.keep n1, s.keep n2, s.keep k0, s.keep k1⟩
  have hp8 : (0 : Int) ≤ p := by omega
  clear H4 g0 g1 g2 g3
  go_enter Try.func7, Try.ntmps7
  go_wp2_with fail
  rw [← hV]
  clear hV
  refine (HR.out _).mono ?_
  rintro e W1 ⟨rfl, s1⟩
  clear a0 a1 n0 n1 n2 k0 k1
  obtain ⟨a0, a1, n0, n1, n2, k0, k1⟩ := HS.out _ s1
  go_wp2_with fail
  refine (HL.out _ (t1.trans s1)).mono ?_
  rintro e W2 ⟨rfl, s2⟩
  have s2 := s1.trans s2
  have r6 := HG3.out _ s2
  clear a0 a1 n0 n1 n2 k0 k1
  obtain ⟨a0, a1, n0, n1, n2, k0, k1⟩ := HS.out _ s2
  go_wp2_with (refine wpList_store_whole (by rfl) 28 _ _ (by rfl) (w.heap.size + 1 + 1 + 1) #[.slice none 0 0, .slice none 0 0, .slice none 0 0] #[.slice none 0 0, .slice none 0 0, .slice none 0 0] 28 (by rfl) (by rfl) r6 rfl (by kernel_rfl) (by kernel_rfl) ?_; intro W7 r7 f7)
  have hz := HVZ.out
  exact bodyPost_ret (results_row_tmp2 (p := 6) (u := 7) (u2 := 8) (ty := 28) (by kernel_rfl) _ _ (w.heap.size + 1 + 1 + 1) 28 _ (0, 0) _ rfl r7 Try.underlying28 rfl (by kernel_rfl)) rfl ⟨rfl, Fr.trans (t1.trans s2) f7 (fun i hi e => by omega)⟩
theorem rput_bad {p q : Int} {r : Nr} {N : Nd} {k v : ByteArray} (w : World) (h : NdAt w r N) (h1 : N.ps.length ≤ 1048576) (h2 : N.ss.length ≤ 1048576) (h3 : N.ks.length ≤ 1048576) (hE : putE p q N k v ≠ 0) :
    Calls Try.prog 7 #[frameV p q, ndV r N, .agg #[.string k, .string v]] w fun e w' => e = .returned (.tuple #[nodeV none 0 0 none 0 0 none 0 0, .bool false, .int .i64 (putE p q N k v)]) ∧ Same w w' := by
  unfold putE at hE ⊢
  by_cases h0 : askE p q (leafG p q N) = 0
  · rw [if_pos h0] at hE ⊢
    obtain ⟨hf, hl⟩ := askE_zero h0
    have HR : Hid (∀ W, Calls Try.prog 21 #[frameV p q] W fun e w' => e = .returned (.bool true) ∧ Same W w') := fun W => by rw [← hf]; exact dright_calls p q W
    have HL : Hid (∀ W, Same w W → Calls Try.prog 22 #[frameV p q, ndV r N] W fun e w' => e = .returned (.bool true) ∧ Same W w') := fun W s => by rw [← hl]; exact rleaf_calls W (h.same s) h1 h2 h3
    have hp := (frameP_cases hf).1
    by_cases hs : 1 ≤ k.size ∧ (k.size : Int) ≤ p / 16 ∧ (v.size : Int) ≤ p / 8
    · rw [if_pos hs] at hE; exact absurd rfl hE
    · rw [if_neg hs]
      by_cases l1 : (k.size : Int) < 1
      · exact rput_bad3 w l1 HR HL
      · by_cases l2 : p / 16 < (k.size : Int)
        · exact rput_bad4 w l1 l2 hp HR HL
        · exact rput_bad5 w l1 l2 (by
            have : ¬ (v.size : Int) ≤ p / 8 := fun e => hs ⟨by omega, by omega, e⟩
            omega) hp HR HL
  · rw [if_neg h0]
    cases hf : frameP p q with
    | false =>
      rw [show askE p q (leafG p q N) = 2 from by unfold askE; rw [hf]; rfl]
      exact rput_bad1 w (fun W => by rw [← hf]; exact dright_calls p q W)
    | true =>
      cases hl : leafG p q N with
      | true => exact absurd (show askE p q (leafG p q N) = 0 from by unfold askE; rw [hf, hl]; rfl) h0
      | false =>
        rw [show askE p q false = 80 from by unfold askE; rw [hf]; rfl]
        exact rput_bad2 w (fun W => by rw [← hf]; exact dright_calls p q W) (fun W s => by rw [← hl]; exact rleaf_calls W (h.same s) h1 h2 h3)
end Go.Proofs.Ytkkjalmedogmeaa
