/- Put in all the ways that it is refused; Remove of a leaf. -/
import Derived.Test.YteddbkbfnafbpaaK4
import Derived.Test.YteddbkbfnafbpaaKM
namespace Go.Proofs.Yteddbkbfnafbpaa
open Go.RowKit

def leafG (p q : Int) (N : Nd) : Bool := decide (chkN p q N = 0) && decide (N.ks.length = 0)
def askE (p q : Int) (b : Bool) : Int := if frameP p q = true then (if b = true then 0 else 80) else 2
def putE (p q : Int) (N : Nd) (k v : ByteArray) : Int := if askE p q (leafG p q N) = 0 then (if 1 ≤ k.size ∧ (k.size : Int) ≤ p / 16 ∧ (v.size : Int) ≤ p / 8 then 0 else 2) else askE p q (leafG p q N)
set_option maxRecDepth 100000 in
set_option maxHeartbeats 1000000 in
theorem isLeafG_calls {p q : Int} {r : Nr} {N : Nd} (w : World) (h : NdAt w r N) :
    Calls Try.prog 36 #[frameV p q, ndV r N] w fun e w' => e = .returned (.bool (leafG p q N)) ∧ Same w w' := by
  have HC : Hid (∀ W, Same w W → Calls Try.prog 18 #[frameV p q, ndV r N] W fun e w' => e = .returned (.int .i64 (chkN p q N)) ∧ Same W w') := fun W s => check_calls p q W (h.same s)
  obtain ⟨V, hV⟩ : ∃ V, V = (w.alloc (.cells #[.int .i64 p, .int .i64 q] 23)).alloc (.cells #[.slice r.pa N.ps.length r.cp, .slice r.sa N.ss.length r.cs, .slice r.ka N.ks.length r.ck] 28) := ⟨_, rfl⟩
  have t1 : Same w V := by rw [hV]; exact ((Fr.refl _ w).alloc _).alloc _
  have a0 : V.cell? ⟨w.heap.size, 0, none⟩ = some (.int .i64 p) := by rw [hV]; simp
  have a1 : V.cell? ⟨w.heap.size, 1, none⟩ = some (.int .i64 q) := by rw [hV]; simp
  have n0 : V.cell? ⟨w.heap.size + 1, 0, none⟩ = some (.slice r.pa N.ps.length r.cp) := by rw [hV]; simp
  have n1 : V.cell? ⟨w.heap.size + 1, 1, none⟩ = some (.slice r.sa N.ss.length r.cs) := by rw [hV]; simp
  have n2 : V.cell? ⟨w.heap.size + 1, 2, none⟩ = some (.slice r.ka N.ks.length r.ck) := by rw [hV]; simp
  clear h
  unfold leafG
  obtain ⟨C, hC⟩ : ∃ C, C = chkN p q N := ⟨_, rfl⟩
  rw [← hC] at HC ⊢
  clear hC
  by_cases h0 : C = 0
  · subst h0
    rw [decide_eq_true rfl, Bool.true_and]
    have e0 := lenz N.ks.length
    cases hb : decide (N.ks.length = 0) with
    | true =>
      rw [hb] at e0
      go_enter Try.func36, Try.ntmps36
      go_wp2_with fail
      rw [← hV]
      clear hV
      refine (HC.out _ t1).mono ?_
      rintro e W1 ⟨rfl, s1⟩
      have n2 := s1.keep n2
      go_wp2_with fail
      go_ret
      exact ⟨rfl, t1.trans s1⟩
    | false =>
      rw [hb] at e0
      go_enter Try.func36, Try.ntmps36
      go_wp2_with fail
      rw [← hV]
      clear hV
      refine (HC.out _ t1).mono ?_
      rintro e W1 ⟨rfl, s1⟩
      have n2 := s1.keep n2
      go_wp2_with fail
      go_ret
      exact ⟨rfl, t1.trans s1⟩
  · rw [decide_eq_false h0, Bool.false_and]
    go_enter Try.func36, Try.ntmps36
    go_wp2_with fail
    rw [← hV]
    clear hV
    refine (HC.out _ t1).mono ?_
    rintro e W1 ⟨rfl, s1⟩
    go_wp2_with fail
    go_ret
    exact ⟨rfl, t1.trans s1⟩
set_option maxRecDepth 100000 in
set_option maxHeartbeats 1000000 in
theorem askedG_calls {p q : Int} {b : Bool} (w : World) :
    Calls Try.prog 12 #[frameV p q, .bool b] w fun e w' => e = .returned (.int .i64 (askE p q b)) ∧ Same w w' := by
  have HR : Hid (∀ W, Calls Try.prog 28 #[frameV p q] W fun e w' => e = .returned (.bool (frameP p q)) ∧ Same W w') := right_calls p q
  obtain ⟨V, hV⟩ : ∃ V, V = w.alloc (.cells #[.int .i64 p, .int .i64 q] 23) := ⟨_, rfl⟩
  have t1 : Same w V := by rw [hV]; exact (Fr.refl _ w).alloc _
  have a0 : V.cell? ⟨w.heap.size, 0, none⟩ = some (.int .i64 p) := by rw [hV]; simp
  have a1 : V.cell? ⟨w.heap.size, 1, none⟩ = some (.int .i64 q) := by rw [hV]; simp
  unfold askE
  generalize frameP p q = F at *
  cases F <;> cases b
  all_goals
    go_enter Try.func12, Try.ntmps12
    go_wp2_with fail
    rw [← hV]
    refine (HR.out _).mono ?_
    rintro e W1 ⟨rfl, s1⟩
    go_wp2_with fail
    go_ret
    exact ⟨rfl, t1.trans s1⟩
set_option maxRecDepth 100000 in
set_option maxHeartbeats 1000000 in
theorem mayKeyG_calls {p q : Int} {key : ByteArray} (w : World) (hp : p = 1024 ∨ p = 2048 ∨ p = 4096 ∨ p = 8192) :
    Calls Try.prog 37 #[frameV p q, .string key] w fun e w' => e = .returned (.bool (decide (1 ≤ key.size) && decide ((key.size : Int) ≤ p / 16))) ∧ Same w w' := by
  have HM : Hid (∀ W, Calls Try.prog 56 #[frameV p q] W fun e w' => e = .returned (.int .i64 (p / 16)) ∧ Same W w') := MaxKey_calls hp
  obtain ⟨V, hV⟩ : ∃ V, V = w.alloc (.cells #[.int .i64 p, .int .i64 q] 23) := ⟨_, rfl⟩
  have t1 : Same w V := by rw [hV]; exact (Fr.refl _ w).alloc _
  have a0 : V.cell? ⟨w.heap.size, 0, none⟩ = some (.int .i64 p) := by rw [hV]; simp
  have a1 : V.cell? ⟨w.heap.size, 1, none⟩ = some (.int .i64 q) := by rw [hV]; simp
  obtain ⟨mk, hmk⟩ : ∃ mk : Int, mk = p / 16 := ⟨_, rfl⟩
  rw [← hmk] at HM ⊢
  clear hp hmk
  by_cases h1 : 1 ≤ key.size
  · have h1' : (1 : Int) ≤ (key.size : Int) := by omega
    rw [decide_eq_true h1, Bool.true_and]
    clear h1
    go_enter Try.func37, Try.ntmps37
    go_wp2_with fail
    rw [← hV]
    refine (HM.out _).mono ?_
    rintro e W1 ⟨rfl, s1⟩
    go_wp2_with fail
    go_ret
    exact ⟨rfl, t1.trans s1⟩
  · have h1' : ¬ (1 : Int) ≤ (key.size : Int) := by omega
    rw [decide_eq_false h1, Bool.false_and]
    go_enter Try.func37, Try.ntmps37
    go_wp2_with fail
    go_ret
    exact ⟨rfl, by rw [← hV]; exact t1⟩
set_option maxRecDepth 100000 in
set_option maxHeartbeats 1000000 in
theorem put_bad1 {p q : Int} {r : Nr} {N : Nd} {k v : ByteArray} {b : Bool} {E : Int} (w : World)
    (HI : Hid (∀ W, Same w W → Calls Try.prog 36 #[frameV p q, ndV r N] W fun e w' => e = .returned (.bool b) ∧ Same W w'))
    (HA : Hid (∀ W, Calls Try.prog 12 #[frameV p q, .bool b] W fun e w' => e = .returned (.int .i64 E) ∧ Same W w')) (hE : ¬ E = 0) :
    Calls Try.prog 23 #[frameV p q, ndV r N, .agg #[.string k, .string v]] w fun e w' => e = .returned (.tuple #[nodeV none 0 0 none 0 0 none 0 0, .bool false, .int .i64 E]) ∧ Same w w' := by
  obtain ⟨V, hV⟩ : ∃ V, V = (((w.alloc (.cells #[.int .i64 p, .int .i64 q] 23)).alloc (.cells #[.slice r.pa N.ps.length r.cp, .slice r.sa N.ss.length r.cs, .slice r.ka N.ks.length r.ck] 28)).alloc (.cells #[.string k, .string v] 41)).alloc (.cells #[.slice none 0 0, .slice none 0 0, .slice none 0 0] 28) := ⟨_, rfl⟩
  have H4 := heap3 w (.cells #[.int .i64 p, .int .i64 q] 23) (.cells #[.slice r.pa N.ps.length r.cp, .slice r.sa N.ss.length r.cs, .slice r.ka N.ks.length r.ck] 28) (.cells #[.string k, .string v] 41)
  have t1 : Same w V := by rw [hV]; exact ((((Fr.refl _ w).alloc _).alloc _).alloc _).alloc _
  have g0 : V.heap[w.heap.size]? = some (.cells #[.int .i64 p, .int .i64 q] 23 (0, 0)) := by rw [hV, Below.heap_alloc _ _ _ (by simp <;> omega)]; exact H4.1
  have g1 : V.heap[w.heap.size + 1]? = some (.cells #[.slice r.pa N.ps.length r.cp, .slice r.sa N.ss.length r.cs, .slice r.ka N.ks.length r.ck] 28 (0, 0)) := by rw [hV, Below.heap_alloc _ _ _ (by simp <;> omega)]; exact H4.2.1
  have g2 : V.heap[w.heap.size + 1 + 1]? = some (.cells #[.string k, .string v] 41 (0, 0)) := by rw [hV, Below.heap_alloc _ _ _ (by simp)]; exact H4.2.2
  have g3 : V.heap[w.heap.size + 1 + 1 + 1]? = some (.cells #[.slice none 0 0, .slice none 0 0, .slice none 0 0] 28 (0, 0)) := by
    have := heap_alloc_new (((w.alloc (.cells #[.int .i64 p, .int .i64 q] 23)).alloc (.cells #[.slice r.pa N.ps.length r.cp, .slice r.sa N.ss.length r.cs, .slice r.ka N.ks.length r.ck] 28)).alloc (.cells #[.string k, .string v] 41)) (.cells #[.slice none 0 0, .slice none 0 0, .slice none 0 0] 28)
    rw [show (((w.alloc (.cells #[.int .i64 p, .int .i64 q] 23)).alloc (.cells #[.slice r.pa N.ps.length r.cp, .slice r.sa N.ss.length r.cs, .slice r.ka N.ks.length r.ck] 28)).alloc (.cells #[.string k, .string v] 41)).heap.size = w.heap.size + 1 + 1 + 1 from by simp, ← hV] at this
    exact this
  have HS : Hid (∀ W, Same V W → W.cell? ⟨w.heap.size, 0, none⟩ = some (.int .i64 p) ∧ W.cell? ⟨w.heap.size, 1, none⟩ = some (.int .i64 q) ∧ W.cell? ⟨w.heap.size + 1, 0, none⟩ = some (.slice r.pa N.ps.length r.cp) ∧ W.cell? ⟨w.heap.size + 1, 1, none⟩ = some (.slice r.sa N.ss.length r.cs) ∧ W.cell? ⟨w.heap.size + 1, 2, none⟩ = some (.slice r.ka N.ks.length r.ck) ∧ W.cell? ⟨w.heap.size + 1 + 1, 0, none⟩ = some (.string k) ∧ W.cell? ⟨w.heap.size + 1 + 1, 1, none⟩ = some (.string v)) := fun W s => ⟨s.keep (by rw [cell_of_row _ _ _ _ _ _ g0]; rfl), s.keep (by rw [cell_of_row _ _ _ _ _ _ g0]; rfl), s.keep (by rw [cell_of_row _ _ _ _ _ _ g1]; rfl), s.keep (by rw [cell_of_row _ _ _ _ _ _ g1]; rfl), s.keep (by rw [cell_of_row _ _ _ _ _ _ g1]; rfl), s.keep (by rw [cell_of_row _ _ _ _ _ _ g2]; rfl), s.keep (by rw [cell_of_row _ _ _ _ _ _ g2]; rfl)⟩
  have HG3 : Hid (∀ W, Same V W → W.heap[w.heap.size + 1 + 1 + 1]? = some (.cells #[.slice none 0 0, .slice none 0 0, .slice none 0 0] 28 (0, 0))) := fun W s => (s.block _ (lt_of_heap g3) (fun e => e)).trans g3
  have d0 : Same V V.drew := Fr.drew (Fr.refl _ V)
  have HVZ : Hid (w.heap.size + 4 ≤ V.heap.size) := by show _ ≤ _; rw [hV]; simp
  clear H4 g0 g1 g2 g3
  go_enter Try.func23, Try.ntmps23
  go_wp2_with fail
  rw [← hV]
  clear hV
  go_region_held3 (fun W => W.cell? ⟨w.heap.size, 0, none⟩ = some (.int .i64 p) ∧ W.cell? ⟨w.heap.size, 1, none⟩ = some (.int .i64 q) ∧ W.cell? ⟨w.heap.size + 1, 0, none⟩ = some (.slice r.pa N.ps.length r.cp) ∧ W.cell? ⟨w.heap.size + 1, 1, none⟩ = some (.slice r.sa N.ss.length r.cs) ∧ W.cell? ⟨w.heap.size + 1, 2, none⟩ = some (.slice r.ka N.ks.length r.ck) ∧ W.cell? ⟨w.heap.size + 1 + 1, 0, none⟩ = some (.string k) ∧ W.cell? ⟨w.heap.size + 1 + 1, 1, none⟩ = some (.string v)) (first | exact HS.out _ u2 | exact HS.out _ u1 | exact HS.out _ d0)
    (first | (go_at_call 36; refine (HI.out _ (t1.trans d0)).mono ?_; rintro e Z1 ⟨rfl, q1⟩; have u1 := Same.trans d0 q1; clear q1) | (go_at_call 12; refine (HA.out _).mono ?_; rintro e Z2 ⟨rfl, q2⟩; have u2 := Same.trans u1 q2; clear q2))
  obtain ⟨a0, a1, n0, n1, n2, k0, k1⟩ := HS.out _ u2
  have r6 := HG3.out _ u2
  go_wp2_with (refine wpList_store_whole (by rfl) 28 _ _ (by rfl) (w.heap.size + 1 + 1 + 1) #[.slice none 0 0, .slice none 0 0, .slice none 0 0] #[.slice none 0 0, .slice none 0 0, .slice none 0 0] 28 (by rfl) (by rfl) r6 rfl (by kernel_rfl) (by kernel_rfl) ?_; intro W7 r7 f7)
  have hz := HVZ.out
  exact bodyPost_ret (results_row_tmp2 (p := 6) (u := 7) (u2 := 8) (ty := 28) (by kernel_rfl) _ _ (w.heap.size + 1 + 1 + 1) 28 _ (0, 0) _ rfl r7 Try.underlying28 rfl (by kernel_rfl)) rfl ⟨rfl, Fr.trans (t1.trans u2) f7 (fun i hi e => by omega)⟩
set_option maxRecDepth 100000 in
set_option maxHeartbeats 1000000 in
theorem put_bad3 {p q : Int} {r : Nr} {N : Nd} {k v : ByteArray} {b : Bool} {mv : Int} (w : World)
    (HI : Hid (∀ W, Same w W → Calls Try.prog 36 #[frameV p q, ndV r N] W fun e w' => e = .returned (.bool b) ∧ Same W w'))
    (HA : Hid (∀ W, Calls Try.prog 12 #[frameV p q, .bool b] W fun e w' => e = .returned (.int .i64 0) ∧ Same W w'))
    (HM : Hid (∀ W, Calls Try.prog 37 #[frameV p q, .string k] W fun e w' => e = .returned (.bool true) ∧ Same W w'))
    (HV : Hid (∀ W, Calls Try.prog 38 #[frameV p q] W fun e w' => e = .returned (.int .i64 mv) ∧ Same W w')) (hv : mv < (v.size : Int)) :
    Calls Try.prog 23 #[frameV p q, ndV r N, .agg #[.string k, .string v]] w fun e w' => e = .returned (.tuple #[nodeV none 0 0 none 0 0 none 0 0, .bool false, .int .i64 2]) ∧ Same w w' := by
  obtain ⟨V, hV⟩ : ∃ V, V = (((w.alloc (.cells #[.int .i64 p, .int .i64 q] 23)).alloc (.cells #[.slice r.pa N.ps.length r.cp, .slice r.sa N.ss.length r.cs, .slice r.ka N.ks.length r.ck] 28)).alloc (.cells #[.string k, .string v] 41)).alloc (.cells #[.slice none 0 0, .slice none 0 0, .slice none 0 0] 28) := ⟨_, rfl⟩
  have H4 := heap3 w (.cells #[.int .i64 p, .int .i64 q] 23) (.cells #[.slice r.pa N.ps.length r.cp, .slice r.sa N.ss.length r.cs, .slice r.ka N.ks.length r.ck] 28) (.cells #[.string k, .string v] 41)
  have t1 : Same w V := by rw [hV]; exact ((((Fr.refl _ w).alloc _).alloc _).alloc _).alloc _
  have g0 : V.heap[w.heap.size]? = some (.cells #[.int .i64 p, .int .i64 q] 23 (0, 0)) := by rw [hV, Below.heap_alloc _ _ _ (by simp <;> omega)]; exact H4.1
  have g1 : V.heap[w.heap.size + 1]? = some (.cells #[.slice r.pa N.ps.length r.cp, .slice r.sa N.ss.length r.cs, .slice r.ka N.ks.length r.ck] 28 (0, 0)) := by rw [hV, Below.heap_alloc _ _ _ (by simp <;> omega)]; exact H4.2.1
  have g2 : V.heap[w.heap.size + 1 + 1]? = some (.cells #[.string k, .string v] 41 (0, 0)) := by rw [hV, Below.heap_alloc _ _ _ (by simp)]; exact H4.2.2
  have g3 : V.heap[w.heap.size + 1 + 1 + 1]? = some (.cells #[.slice none 0 0, .slice none 0 0, .slice none 0 0] 28 (0, 0)) := by
    have := heap_alloc_new (((w.alloc (.cells #[.int .i64 p, .int .i64 q] 23)).alloc (.cells #[.slice r.pa N.ps.length r.cp, .slice r.sa N.ss.length r.cs, .slice r.ka N.ks.length r.ck] 28)).alloc (.cells #[.string k, .string v] 41)) (.cells #[.slice none 0 0, .slice none 0 0, .slice none 0 0] 28)
    rw [show (((w.alloc (.cells #[.int .i64 p, .int .i64 q] 23)).alloc (.cells #[.slice r.pa N.ps.length r.cp, .slice r.sa N.ss.length r.cs, .slice r.ka N.ks.length r.ck] 28)).alloc (.cells #[.string k, .string v] 41)).heap.size = w.heap.size + 1 + 1 + 1 from by simp, ← hV] at this
    exact this
  have HS : Hid (∀ W, Same V W → W.cell? ⟨w.heap.size, 0, none⟩ = some (.int .i64 p) ∧ W.cell? ⟨w.heap.size, 1, none⟩ = some (.int .i64 q) ∧ W.cell? ⟨w.heap.size + 1, 0, none⟩ = some (.slice r.pa N.ps.length r.cp) ∧ W.cell? ⟨w.heap.size + 1, 1, none⟩ = some (.slice r.sa N.ss.length r.cs) ∧ W.cell? ⟨w.heap.size + 1, 2, none⟩ = some (.slice r.ka N.ks.length r.ck) ∧ W.cell? ⟨w.heap.size + 1 + 1, 0, none⟩ = some (.string k) ∧ W.cell? ⟨w.heap.size + 1 + 1, 1, none⟩ = some (.string v)) := fun W s => ⟨s.keep (by rw [cell_of_row _ _ _ _ _ _ g0]; rfl), s.keep (by rw [cell_of_row _ _ _ _ _ _ g0]; rfl), s.keep (by rw [cell_of_row _ _ _ _ _ _ g1]; rfl), s.keep (by rw [cell_of_row _ _ _ _ _ _ g1]; rfl), s.keep (by rw [cell_of_row _ _ _ _ _ _ g1]; rfl), s.keep (by rw [cell_of_row _ _ _ _ _ _ g2]; rfl), s.keep (by rw [cell_of_row _ _ _ _ _ _ g2]; rfl)⟩
  have HG3 : Hid (∀ W, Same V W → W.heap[w.heap.size + 1 + 1 + 1]? = some (.cells #[.slice none 0 0, .slice none 0 0, .slice none 0 0] 28 (0, 0))) := fun W s => (s.block _ (lt_of_heap g3) (fun e => e)).trans g3
  have d0 : Same V V.drew := Fr.drew (Fr.refl _ V)
  have HVZ : Hid (w.heap.size + 4 ≤ V.heap.size) := by show _ ≤ _; rw [hV]; simp
  clear H4 g0 g1 g2 g3
  go_enter Try.func23, Try.ntmps23
  go_wp2_with fail
  rw [← hV]
  clear hV
  go_region_held3 (fun W => W.cell? ⟨w.heap.size, 0, none⟩ = some (.int .i64 p) ∧ W.cell? ⟨w.heap.size, 1, none⟩ = some (.int .i64 q) ∧ W.cell? ⟨w.heap.size + 1, 0, none⟩ = some (.slice r.pa N.ps.length r.cp) ∧ W.cell? ⟨w.heap.size + 1, 1, none⟩ = some (.slice r.sa N.ss.length r.cs) ∧ W.cell? ⟨w.heap.size + 1, 2, none⟩ = some (.slice r.ka N.ks.length r.ck) ∧ W.cell? ⟨w.heap.size + 1 + 1, 0, none⟩ = some (.string k) ∧ W.cell? ⟨w.heap.size + 1 + 1, 1, none⟩ = some (.string v)) (first | exact HS.out _ u2 | exact HS.out _ u1 | exact HS.out _ d0)
    (first | (go_at_call 36; refine (HI.out _ (t1.trans d0)).mono ?_; rintro e Z1 ⟨rfl, q1⟩; have u1 := Same.trans d0 q1; clear q1) | (go_at_call 12; refine (HA.out _).mono ?_; rintro e Z2 ⟨rfl, q2⟩; have u2 := Same.trans u1 q2; clear q2))
  obtain ⟨a0, a1, n0, n1, n2, k0, k1⟩ := HS.out _ u2
  go_wp2_with fail
  clear a0 a1 n0 n1 n2 k0 k1
  have d1 : Same V Z2.drew := Fr.drew u2
  go_region_held3 (fun W => W.cell? ⟨w.heap.size, 0, none⟩ = some (.int .i64 p) ∧ W.cell? ⟨w.heap.size, 1, none⟩ = some (.int .i64 q) ∧ W.cell? ⟨w.heap.size + 1, 0, none⟩ = some (.slice r.pa N.ps.length r.cp) ∧ W.cell? ⟨w.heap.size + 1, 1, none⟩ = some (.slice r.sa N.ss.length r.cs) ∧ W.cell? ⟨w.heap.size + 1, 2, none⟩ = some (.slice r.ka N.ks.length r.ck) ∧ W.cell? ⟨w.heap.size + 1 + 1, 0, none⟩ = some (.string k) ∧ W.cell? ⟨w.heap.size + 1 + 1, 1, none⟩ = some (.string v)) (first | exact HS.out _ x2 | exact HS.out _ x1 | exact HS.out _ d1)
    (first | (go_at_call 37; refine (HM.out _).mono ?_; rintro e Z3 ⟨rfl, q1⟩; have x1 := Same.trans d1 q1; clear q1) | (go_at_call 38; refine (HV.out _).mono ?_; rintro e Z4 ⟨rfl, q2⟩; have x2 := Same.trans x1 q2; clear q2))
  have r6 := HG3.out _ x2
  go_wp2_with (refine wpList_store_whole (by rfl) 28 _ _ (by rfl) (w.heap.size + 1 + 1 + 1) #[.slice none 0 0, .slice none 0 0, .slice none 0 0] #[.slice none 0 0, .slice none 0 0, .slice none 0 0] 28 (by rfl) (by rfl) r6 rfl (by kernel_rfl) (by kernel_rfl) ?_; intro W7 r7 f7)
  have hz := HVZ.out
  exact bodyPost_ret (results_row_tmp2 (p := 6) (u := 7) (u2 := 8) (ty := 28) (by kernel_rfl) _ _ (w.heap.size + 1 + 1 + 1) 28 _ (0, 0) _ rfl r7 Try.underlying28 rfl (by kernel_rfl)) rfl ⟨rfl, Fr.trans (t1.trans x2) f7 (fun i hi e => by omega)⟩
set_option maxRecDepth 100000 in
set_option maxHeartbeats 1000000 in
theorem put_bad2 {p q : Int} {r : Nr} {N : Nd} {k v : ByteArray} {b : Bool}  (w : World)
    (HI : Hid (∀ W, Same w W → Calls Try.prog 36 #[frameV p q, ndV r N] W fun e w' => e = .returned (.bool b) ∧ Same W w'))
    (HA : Hid (∀ W, Calls Try.prog 12 #[frameV p q, .bool b] W fun e w' => e = .returned (.int .i64 0) ∧ Same W w'))
    (HM : Hid (∀ W, Calls Try.prog 37 #[frameV p q, .string k] W fun e w' => e = .returned (.bool false) ∧ Same W w')) :
    Calls Try.prog 23 #[frameV p q, ndV r N, .agg #[.string k, .string v]] w fun e w' => e = .returned (.tuple #[nodeV none 0 0 none 0 0 none 0 0, .bool false, .int .i64 2]) ∧ Same w w' := by
  obtain ⟨V, hV⟩ : ∃ V, V = (((w.alloc (.cells #[.int .i64 p, .int .i64 q] 23)).alloc (.cells #[.slice r.pa N.ps.length r.cp, .slice r.sa N.ss.length r.cs, .slice r.ka N.ks.length r.ck] 28)).alloc (.cells #[.string k, .string v] 41)).alloc (.cells #[.slice none 0 0, .slice none 0 0, .slice none 0 0] 28) := ⟨_, rfl⟩
  have H4 := heap3 w (.cells #[.int .i64 p, .int .i64 q] 23) (.cells #[.slice r.pa N.ps.length r.cp, .slice r.sa N.ss.length r.cs, .slice r.ka N.ks.length r.ck] 28) (.cells #[.string k, .string v] 41)
  have t1 : Same w V := by rw [hV]; exact ((((Fr.refl _ w).alloc _).alloc _).alloc _).alloc _
  have g0 : V.heap[w.heap.size]? = some (.cells #[.int .i64 p, .int .i64 q] 23 (0, 0)) := by rw [hV, Below.heap_alloc _ _ _ (by simp <;> omega)]; exact H4.1
  have g1 : V.heap[w.heap.size + 1]? = some (.cells #[.slice r.pa N.ps.length r.cp, .slice r.sa N.ss.length r.cs, .slice r.ka N.ks.length r.ck] 28 (0, 0)) := by rw [hV, Below.heap_alloc _ _ _ (by simp <;> omega)]; exact H4.2.1
  have g2 : V.heap[w.heap.size + 1 + 1]? = some (.cells #[.string k, .string v] 41 (0, 0)) := by rw [hV, Below.heap_alloc _ _ _ (by simp)]; exact H4.2.2
  have g3 : V.heap[w.heap.size + 1 + 1 + 1]? = some (.cells #[.slice none 0 0, .slice none 0 0, .slice none 0 0] 28 (0, 0)) := by
    have := heap_alloc_new (((w.alloc (.cells #[.int .i64 p, .int .i64 q] 23)).alloc (.cells #[.slice r.pa N.ps.length r.cp, .slice r.sa N.ss.length r.cs, .slice r.ka N.ks.length r.ck] 28)).alloc (.cells #[.string k, .string v] 41)) (.cells #[.slice none 0 0, .slice none 0 0, .slice none 0 0] 28)
    rw [show (((w.alloc (.cells #[.int .i64 p, .int .i64 q] 23)).alloc (.cells #[.slice r.pa N.ps.length r.cp, .slice r.sa N.ss.length r.cs, .slice r.ka N.ks.length r.ck] 28)).alloc (.cells #[.string k, .string v] 41)).heap.size = w.heap.size + 1 + 1 + 1 from by simp, ← hV] at this
    exact this
  have HS : Hid (∀ W, Same V W → W.cell? ⟨w.heap.size, 0, none⟩ = some (.int .i64 p) ∧ W.cell? ⟨w.heap.size, 1, none⟩ = some (.int .i64 q) ∧ W.cell? ⟨w.heap.size + 1, 0, none⟩ = some (.slice r.pa N.ps.length r.cp) ∧ W.cell? ⟨w.heap.size + 1, 1, none⟩ = some (.slice r.sa N.ss.length r.cs) ∧ W.cell? ⟨w.heap.size + 1, 2, none⟩ = some (.slice r.ka N.ks.length r.ck) ∧ W.cell? ⟨w.heap.size + 1 + 1, 0, none⟩ = some (.string k) ∧ W.cell? ⟨w.heap.size + 1 + 1, 1, none⟩ = some (.string v)) := fun W s => ⟨s.keep (by rw [cell_of_row _ _ _ _ _ _ g0]; rfl), s.keep (by rw [cell_of_row _ _ _ _ _ _ g0]; rfl), s.keep (by rw [cell_of_row _ _ _ _ _ _ g1]; rfl), s.keep (by rw [cell_of_row _ _ _ _ _ _ g1]; rfl), s.keep (by rw [cell_of_row _ _ _ _ _ _ g1]; rfl), s.keep (by rw [cell_of_row _ _ _ _ _ _ g2]; rfl), s.keep (by rw [cell_of_row _ _ _ _ _ _ g2]; rfl)⟩
  have HG3 : Hid (∀ W, Same V W → W.heap[w.heap.size + 1 + 1 + 1]? = some (.cells #[.slice none 0 0, .slice none 0 0, .slice none 0 0] 28 (0, 0))) := fun W s => (s.block _ (lt_of_heap g3) (fun e => e)).trans g3
  have d0 : Same V V.drew := Fr.drew (Fr.refl _ V)
  have HVZ : Hid (w.heap.size + 4 ≤ V.heap.size) := by show _ ≤ _; rw [hV]; simp
  clear H4 g0 g1 g2 g3
  go_enter Try.func23, Try.ntmps23
  go_wp2_with fail
  rw [← hV]
  clear hV
  go_region_held3 (fun W => W.cell? ⟨w.heap.size, 0, none⟩ = some (.int .i64 p) ∧ W.cell? ⟨w.heap.size, 1, none⟩ = some (.int .i64 q) ∧ W.cell? ⟨w.heap.size + 1, 0, none⟩ = some (.slice r.pa N.ps.length r.cp) ∧ W.cell? ⟨w.heap.size + 1, 1, none⟩ = some (.slice r.sa N.ss.length r.cs) ∧ W.cell? ⟨w.heap.size + 1, 2, none⟩ = some (.slice r.ka N.ks.length r.ck) ∧ W.cell? ⟨w.heap.size + 1 + 1, 0, none⟩ = some (.string k) ∧ W.cell? ⟨w.heap.size + 1 + 1, 1, none⟩ = some (.string v)) (first | exact HS.out _ u2 | exact HS.out _ u1 | exact HS.out _ d0)
    (first | (go_at_call 36; refine (HI.out _ (t1.trans d0)).mono ?_; rintro e Z1 ⟨rfl, q1⟩; have u1 := Same.trans d0 q1; clear q1) | (go_at_call 12; refine (HA.out _).mono ?_; rintro e Z2 ⟨rfl, q2⟩; have u2 := Same.trans u1 q2; clear q2))
  obtain ⟨a0, a1, n0, n1, n2, k0, k1⟩ := HS.out _ u2
  go_wp2_with fail
  clear a0 a1 n0 n1 n2 k0 k1
  have d1 : Same V Z2.drew := Fr.drew u2
  refine wp_region_held_drew (S := fun W => W.cell? ⟨w.heap.size, 0, none⟩ = some (.int .i64 p) ∧ W.cell? ⟨w.heap.size, 1, none⟩ = some (.int .i64 q) ∧ W.cell? ⟨w.heap.size + 1, 0, none⟩ = some (.slice r.pa N.ps.length r.cp) ∧ W.cell? ⟨w.heap.size + 1, 1, none⟩ = some (.slice r.sa N.ss.length r.cs) ∧ W.cell? ⟨w.heap.size + 1, 2, none⟩ = some (.slice r.ka N.ks.length r.ck) ∧ W.cell? ⟨w.heap.size + 1 + 1, 0, none⟩ = some (.string k) ∧ W.cell? ⟨w.heap.size + 1 + 1, 1, none⟩ = some (.string v)) (by kernel_rfl) (HS.out _ d1) (fun hHeld => ?_)
  refine wpAnyH_take (i := 0) (oi := { dst := some 22, op := Op.load 23 (Operand.tmp 3), type := 23, pos := "graft.go:46", after := #[], guard := none }) (v := .agg #[.int .i64 p, .int .i64 q]) rfl (by kernel_rfl) (by kernel_rfl) (by kernel_rfl) (fun _ _ _ h => h) (Or.inl ⟨by rfl, fun w hSw => by (obtain ⟨q0, q1, q2, q3, q4, q5, q6⟩ := hSw; go_simp)⟩) (by assumption) ?_
  try simp only [Act.put, List.setIfInBounds_toArray, List.set_cons_zero, List.set_cons_succ]
  refine wpAnyH_take (i := 1) (oi := { dst := some 23, op := Op.fieldAddr 41 (Operand.tmp 5) 0, type := 0, pos := "graft.go:46", after := #[], guard := none }) (v := .pointer (some ⟨w.heap.size + 1 + 1, 0, none⟩)) rfl (by kernel_rfl) (by kernel_rfl) (by kernel_rfl) (fun _ _ _ h => h) (Or.inl ⟨by rfl, fun w hSw => by (obtain ⟨q0, q1, q2, q3, q4, q5, q6⟩ := hSw; go_simp)⟩) (by assumption) ?_
  try simp only [Act.put, List.setIfInBounds_toArray, List.set_cons_zero, List.set_cons_succ]
  refine wpAnyH_take (i := 2) (oi := { dst := some 24, op := Op.load 9 (Operand.tmp 23), type := 9, pos := "graft.go:46", after := #[{ on := 1, ground := Ground.data }], guard := none }) (v := .string k) rfl (by kernel_rfl) (by kernel_rfl) (by kernel_rfl) (fun _ _ _ h => h) (Or.inl ⟨by rfl, fun w hSw => by (obtain ⟨q0, q1, q2, q3, q4, q5, q6⟩ := hSw; go_simp)⟩) (by assumption) ?_
  try simp only [Act.put, List.setIfInBounds_toArray, List.set_cons_zero, List.set_cons_succ]
  refine wpAnyH_ready (rs := [3]) (by kernel_rfl) (by simp) ?_
  refine AllReadyH.cons (o := { dst := some 25, op := Op.call { callee := Callee.value (Operand.func 37), args := #[Operand.tmp 22, Operand.tmp 24], argTypes := #[23, 9] }, type := 4, pos := "graft.go:46", after := #[{ on := 0, ground := Ground.data }, { on := 2, ground := Ground.data }], guard := none }) rfl (fun K hK => ?_) AllReadyH.nil
  go_simp
  go_at_call 37
  refine (HM.out _).mono ?_
  rintro e Z3 ⟨rfl, q1⟩
  try go_wp2_with fail
  have x1 := Same.trans d1 q1
  refine hK.out _ _ (HS.out _ x1) (fun hHeld => ?_)
  clear hK K
  try simp only [Act.put, List.setIfInBounds_toArray, List.set_cons_zero, List.set_cons_succ]
  refine wpAnyH_take (i := 4) (oi := { dst := some 26, op := Op.unOp UnOp.not 4 (Operand.tmp 25), type := 4, pos := "graft.go:46", after := #[{ on := 3, ground := Ground.data }], guard := none }) (v := .bool true) rfl (by kernel_rfl) (by kernel_rfl) (by kernel_rfl) (fun _ _ _ h => h) (Or.inl ⟨by rfl, fun w hSw => by (obtain ⟨q0, q1, q2, q3, q4, q5, q6⟩ := hSw; go_simp)⟩) (by assumption) ?_
  try simp only [Act.put, List.setIfInBounds_toArray, List.set_cons_zero, List.set_cons_succ]
  refine wpAnyH_take (i := 5) (oi := { dst := some 27, op := Op.move (Operand.tmp 26), type := 4, pos := "graft.go:46", after := #[{ on := 4, ground := Ground.data }, { on := 3, ground := Ground.chain }], guard := none }) (v := .bool true) rfl (by kernel_rfl) (by kernel_rfl) (by kernel_rfl) (fun _ _ _ h => h) (Or.inl ⟨by rfl, fun w hSw => by (obtain ⟨q0, q1, q2, q3, q4, q5, q6⟩ := hSw; go_simp)⟩) (by assumption) ?_
  try simp only [Act.put, List.setIfInBounds_toArray, List.set_cons_zero, List.set_cons_succ]
  refine wpAnyH_take (i := 6) (oi := { dst := some 28, op := Op.fieldAddr 41 (Operand.tmp 5) 1, type := 0, pos := "graft.go:46", after := #[{ on := 5, ground := Ground.guard }], guard := some (5, false) }) (v := undef) rfl (by kernel_rfl) (by kernel_rfl) (by kernel_rfl) (fun _ _ _ h => h) (Or.inr ⟨by rfl, rfl⟩) (by assumption) ?_
  try simp only [Act.put, List.setIfInBounds_toArray, List.set_cons_zero, List.set_cons_succ]
  refine wpAnyH_take (i := 7) (oi := { dst := some 29, op := Op.load 9 (Operand.tmp 28), type := 9, pos := "graft.go:46", after := #[{ on := 6, ground := Ground.data }, { on := 5, ground := Ground.guard }], guard := some (5, false) }) (v := undef) rfl (by kernel_rfl) (by kernel_rfl) (by kernel_rfl) (fun _ _ _ h => h) (Or.inr ⟨by rfl, rfl⟩) (by assumption) ?_
  try simp only [Act.put, List.setIfInBounds_toArray, List.set_cons_zero, List.set_cons_succ]
  refine wpAnyH_take (i := 8) (oi := { dst := some 30, op := Op.call { callee := Callee.builtin Builtin.len, args := #[Operand.tmp 29], argTypes := #[9] }, type := 3, pos := "graft.go:46", after := #[{ on := 7, ground := Ground.data }, { on := 5, ground := Ground.guard }], guard := some (5, false) }) (v := undef) rfl (by kernel_rfl) (by kernel_rfl) (by kernel_rfl) (fun _ _ _ h => h) (Or.inr ⟨by rfl, rfl⟩) (by assumption) ?_
  try simp only [Act.put, List.setIfInBounds_toArray, List.set_cons_zero, List.set_cons_succ]
  refine wpAnyH_take (i := 9) (oi := { dst := some 31, op := Op.load 23 (Operand.tmp 3), type := 23, pos := "graft.go:46", after := #[{ on := 5, ground := Ground.guard }], guard := some (5, false) }) (v := undef) rfl (by kernel_rfl) (by kernel_rfl) (by kernel_rfl) (fun _ _ _ h => h) (Or.inr ⟨by rfl, rfl⟩) (by assumption) ?_
  try simp only [Act.put, List.setIfInBounds_toArray, List.set_cons_zero, List.set_cons_succ]
  refine wpAnyH_take (i := 10) (oi := { dst := some 32, op := Op.call { callee := Callee.value (Operand.func 38), args := #[Operand.tmp 31], argTypes := #[23] }, type := 3, pos := "graft.go:46", after := #[{ on := 9, ground := Ground.data }, { on := 5, ground := Ground.chain }, { on := 5, ground := Ground.guard }], guard := some (5, false) }) (v := undef) rfl (by kernel_rfl) (by kernel_rfl) (by kernel_rfl) (fun _ _ _ h => h) (Or.inr ⟨by rfl, rfl⟩) (by assumption) ?_
  try simp only [Act.put, List.setIfInBounds_toArray, List.set_cons_zero, List.set_cons_succ]
  refine wpAnyH_take (i := 11) (oi := { dst := some 33, op := Op.binOp BinOp.gtr 3 (Operand.tmp 30) (Operand.tmp 32) 3, type := 4, pos := "graft.go:46", after := #[{ on := 8, ground := Ground.data }, { on := 10, ground := Ground.data }, { on := 5, ground := Ground.guard }], guard := some (5, false) }) (v := undef) rfl (by kernel_rfl) (by kernel_rfl) (by kernel_rfl) (fun _ _ _ h => h) (Or.inr ⟨by rfl, rfl⟩) (by assumption) ?_
  try simp only [Act.put, List.setIfInBounds_toArray, List.set_cons_zero, List.set_cons_succ]
  refine wpAnyH_take (i := 12) (oi := { dst := some 34, op := Op.pick (Operand.tmp 27) (Operand.const (Value.bool true)) (Operand.tmp 33), type := 4, pos := "graft.go:46", after := #[{ on := 5, ground := Ground.data }, { on := 11, ground := Ground.data }], guard := none }) (v := .bool true) rfl (by kernel_rfl) (by kernel_rfl) (by kernel_rfl) (fun _ _ _ h => h) (Or.inl ⟨by rfl, fun w hSw => by (obtain ⟨q0, q1, q2, q3, q4, q5, q6⟩ := hSw; go_simp)⟩) (by assumption) ?_
  try simp only [Act.put, List.setIfInBounds_toArray, List.set_cons_zero, List.set_cons_succ]
  refine wpAnyH_done (by kernel_rfl) ?_ _
  have r6 := HG3.out _ x1
  go_wp2_with (refine wpList_store_whole (by rfl) 28 _ _ (by rfl) (w.heap.size + 1 + 1 + 1) #[.slice none 0 0, .slice none 0 0, .slice none 0 0] #[.slice none 0 0, .slice none 0 0, .slice none 0 0] 28 (by rfl) (by rfl) r6 rfl (by kernel_rfl) (by kernel_rfl) ?_; intro W7 r7 f7)
  have hz := HVZ.out
  exact bodyPost_ret (results_row_tmp2 (p := 6) (u := 7) (u2 := 8) (ty := 28) (by kernel_rfl) _ _ (w.heap.size + 1 + 1 + 1) 28 _ (0, 0) _ rfl r7 Try.underlying28 rfl (by kernel_rfl)) rfl ⟨rfl, Fr.trans (t1.trans x1) f7 (fun i hi e => by omega)⟩
theorem put_bad {p q : Int} {r : Nr} {N : Nd} {k v : ByteArray} (w : World) (h : NdAt w r N) (hE : putE p q N k v ≠ 0) :
    Calls Try.prog 23 #[frameV p q, ndV r N, .agg #[.string k, .string v]] w fun e w' => e = .returned (.tuple #[nodeV none 0 0 none 0 0 none 0 0, .bool false, .int .i64 (putE p q N k v)]) ∧ Same w w' := by
  unfold putE at hE ⊢
  by_cases h0 : askE p q (leafG p q N) = 0
  · rw [if_pos h0] at hE ⊢
    by_cases h1 : 1 ≤ k.size ∧ (k.size : Int) ≤ p / 16 ∧ (v.size : Int) ≤ p / 8
    · rw [if_pos h1] at hE; exact absurd rfl hE
    · rw [if_neg h1]
      have hp : p = 1024 ∨ p = 2048 ∨ p = 4096 ∨ p = 8192 := by
        unfold askE at h0
        by_cases hf : frameP p q = true
        · exact (frameP_cases hf).1
        · rw [if_neg hf] at h0; exact absurd h0 (by decide)
      by_cases h2 : 1 ≤ k.size ∧ (k.size : Int) ≤ p / 16
      · refine put_bad3 (mv := p / 8) w (fun W s => isLeafG_calls W (h.same s)) (fun W => by have := askedG_calls (p := p) (q := q) (b := leafG p q N) W; rw [h0] at this; exact this) (fun W => by have := mayKeyG_calls (q := q) (key := k) W hp; rw [decide_eq_true h2.1, decide_eq_true h2.2] at this; exact this) (MaxVal_calls hp) ?_
        have : ¬ (v.size : Int) ≤ p / 8 := fun e => h1 ⟨h2.1, h2.2, e⟩
        omega
      · refine put_bad2 w (fun W s => isLeafG_calls W (h.same s)) (fun W => by have := askedG_calls (p := p) (q := q) (b := leafG p q N) W; rw [h0] at this; exact this) (fun W => ?_)
        have := mayKeyG_calls (q := q) (key := k) W hp
        rw [show (decide (1 ≤ k.size) && decide ((k.size : Int) ≤ p / 16)) = false from by
          rw [← Bool.not_eq_true, Bool.and_eq_true, decide_eq_true_eq, decide_eq_true_eq]; exact h2] at this
        exact this
  · rw [if_neg h0]
    exact put_bad1 w (fun W s => isLeafG_calls W (h.same s)) (fun W => askedG_calls W) h0
end Go.Proofs.Yteddbkbfnafbpaa
