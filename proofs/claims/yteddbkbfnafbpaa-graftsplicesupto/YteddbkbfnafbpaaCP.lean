/- The program's Splice. -/
import Derived.Test.YteddbkbfnafbpaaCO
import Derived.Test.YteddbkbfnafbpaaGO2
namespace Go.Proofs.Yteddbkbfnafbpaa
open Go.RowKit

set_option maxRecDepth 100000 in
set_option maxHeartbeats 2000000 in
theorem psplice_asked {bb : Bool} {E : Int} {p q at_ many : Int} {r : Nr} {N : Nd} {ka2 sa2 : Option Addr} {kk ck2 sl cs2 : Nat} (w : World) (hE : (E != 0) = true) (HI : Hid (∀ W, Same w W → Calls Try.prog 13 #[frameV p q, ndV r N] W fun e w' => e = .returned (.bool bb) ∧ Same W w')) (HA : Hid (∀ W, Calls Try.prog 12 #[frameV p q, .bool bb] W fun e w' => e = .returned (.int .i64 E) ∧ Same W w')) :
    Calls Try.prog 5 #[frameV p q, ndV r N, .int .i64 at_, .int .i64 many, .slice ka2 kk ck2, .slice sa2 sl cs2] w fun e w' => e = .returned (.tuple #[nodeV none 0 0 none 0 0 none 0 0, .int .i64 E]) ∧ Same w w' := by
  obtain ⟨V, hV⟩ : ∃ V, V = ((w.alloc (.cells #[.int .i64 p, .int .i64 q] 23)).alloc (.cells #[.slice r.pa N.ps.length r.cp, .slice r.sa N.ss.length r.cs, .slice r.ka N.ks.length r.ck] 28)).alloc (.cells #[.slice none 0 0, .slice none 0 0, .slice none 0 0] 28) := ⟨_, rfl⟩
  have t1 : Same w V := by rw [hV]; exact (((Fr.refl _ w).alloc _).alloc _).alloc _
  obtain ⟨g0, g1, g2⟩ := three_boxes w (.cells #[.int .i64 p, .int .i64 q] 23) (.cells #[.slice r.pa N.ps.length r.cp, .slice r.sa N.ss.length r.cs, .slice r.ka N.ks.length r.ck] 28) (.cells #[.slice none 0 0, .slice none 0 0, .slice none 0 0] 28)
  rw [← hV] at g0 g1 g2
  have HC : Hid (∀ W, Same V W → (W.cell? ⟨w.heap.size, 0, none⟩ = some (.int .i64 p) ∧ W.cell? ⟨w.heap.size, 1, none⟩ = some (.int .i64 q)) ∧ W.cell? ⟨w.heap.size + 1, 0, none⟩ = some (.slice r.pa N.ps.length r.cp) ∧ W.cell? ⟨w.heap.size + 1, 1, none⟩ = some (.slice r.sa N.ss.length r.cs) ∧ W.cell? ⟨w.heap.size + 1, 2, none⟩ = some (.slice r.ka N.ks.length r.ck)) := fun W s => ⟨⟨s.keep ((cell_of_row _ _ _ _ _ _ g0).trans rfl), s.keep ((cell_of_row _ _ _ _ _ _ g0).trans rfl)⟩, s.keep ((cell_of_row _ _ _ _ _ _ g1).trans rfl), s.keep ((cell_of_row _ _ _ _ _ _ g1).trans rfl), s.keep ((cell_of_row _ _ _ _ _ _ g1).trans rfl)⟩
  have HG : Hid (∀ W, Same V W → W.heap[w.heap.size + 1 + 1]? = some (.cells #[.slice none 0 0, .slice none 0 0, .slice none 0 0] 28 (0, 0))) := fun W s => (s.block _ (lt_of_heap g2) (fun e => e)).trans g2
  have HVZ : Hid (w.heap.size + 3 = V.heap.size) := by show _ = _; rw [hV]; simp
  obtain ⟨⟨a0, a1⟩, n0, n1, n2⟩ := HC.out _ (Fr.refl _ V)
  clear g0 g1 g2
  unfold ndV nodeV at HI ⊢
  have d0 : Same V V.drew := Fr.drew (Fr.refl _ V)
  go_enter Try.func5, Try.ntmps5
  go_wp2_with fail
  rw [← hV]
  clear hV
  go_region_held3 (fun W => (W.cell? ⟨w.heap.size, 0, none⟩ = some (.int .i64 p) ∧ W.cell? ⟨w.heap.size, 1, none⟩ = some (.int .i64 q)) ∧ W.cell? ⟨w.heap.size + 1, 0, none⟩ = some (.slice r.pa N.ps.length r.cp) ∧ W.cell? ⟨w.heap.size + 1, 1, none⟩ = some (.slice r.sa N.ss.length r.cs) ∧ W.cell? ⟨w.heap.size + 1, 2, none⟩ = some (.slice r.ka N.ks.length r.ck)) (first | exact HC.out _ u2 | exact HC.out _ u1 | exact HC.out _ d0)
    (first | (go_at_call 13; refine (HI.out _ (t1.trans d0)).mono ?_; rintro e Z1 ⟨rfl, q1⟩; have u1 := Same.trans d0 q1; clear q1) | (go_at_call 12; refine (HA.out _).mono ?_; rintro e Z2 ⟨rfl, q2⟩; have u2 := Same.trans u1 q2; clear q2))
  clear a0 a1 n0 n1 n2
  obtain ⟨⟨a0, a1⟩, n0, n1, n2⟩ := HC.out _ u2
  have r6 := HG.out _ u2
  go_wp2_with (refine wpList_store_whole (by rfl) 28 _ _ (by rfl) (w.heap.size + 1 + 1) #[.slice none 0 0, .slice none 0 0, .slice none 0 0] _ 28 (by rfl) (by rfl) r6 rfl (by kernel_rfl) (by kernel_rfl) ?_; intro W7 r7 f7)
  have hz := HVZ.out
  exact bodyPost_ret (results_row_tmp (p := 12) (u := 13) (ty := 28) (by kernel_rfl) _ _ (w.heap.size + 1 + 1) 28 _ (0, 0) _ rfl r7 Try.underlying28 rfl (by kernel_rfl)) rfl ⟨rfl, Fr.trans (t1.trans u2) f7 (fun i hi e => by omega)⟩
set_option maxRecDepth 100000 in
set_option maxHeartbeats 2000000 in
theorem psplice_c1 {p q at_ many : Int} {r : Nr} {N : Nd} {ka2 sa2 : Option Addr} {kk ck2 sl cs2 : Nat} (w : World) (h0 : at_ < 0) (hn : N.ks.length ≤ 1048576) (hkk : kk ≤ 1048576) (HI : Hid (∀ W, Same w W → Calls Try.prog 13 #[frameV p q, ndV r N] W fun e w' => e = .returned (.bool true) ∧ Same W w')) (HA : Hid (∀ W, Calls Try.prog 12 #[frameV p q, .bool true] W fun e w' => e = .returned (.int .i64 0) ∧ Same W w')) :
    Calls Try.prog 5 #[frameV p q, ndV r N, .int .i64 at_, .int .i64 many, .slice ka2 kk ck2, .slice sa2 sl cs2] w fun e w' => e = .returned (.tuple #[nodeV none 0 0 none 0 0 none 0 0, .int .i64 2]) ∧ Same w w' := by
  have hn9 : (N.ks.length : Int) ≤ 1048576 := by omega
  have hn8 : (kk : Int) ≤ 1048576 := by omega
  have c1 : decide (at_ < 0) = true := decide_eq_true (by omega)
  clear h0 hn hkk hn9 hn8
  obtain ⟨V, hV⟩ : ∃ V, V = ((w.alloc (.cells #[.int .i64 p, .int .i64 q] 23)).alloc (.cells #[.slice r.pa N.ps.length r.cp, .slice r.sa N.ss.length r.cs, .slice r.ka N.ks.length r.ck] 28)).alloc (.cells #[.slice none 0 0, .slice none 0 0, .slice none 0 0] 28) := ⟨_, rfl⟩
  have t1 : Same w V := by rw [hV]; exact (((Fr.refl _ w).alloc _).alloc _).alloc _
  obtain ⟨g0, g1, g2⟩ := three_boxes w (.cells #[.int .i64 p, .int .i64 q] 23) (.cells #[.slice r.pa N.ps.length r.cp, .slice r.sa N.ss.length r.cs, .slice r.ka N.ks.length r.ck] 28) (.cells #[.slice none 0 0, .slice none 0 0, .slice none 0 0] 28)
  rw [← hV] at g0 g1 g2
  have HC : Hid (∀ W, Same V W → (W.cell? ⟨w.heap.size, 0, none⟩ = some (.int .i64 p) ∧ W.cell? ⟨w.heap.size, 1, none⟩ = some (.int .i64 q)) ∧ W.cell? ⟨w.heap.size + 1, 0, none⟩ = some (.slice r.pa N.ps.length r.cp) ∧ W.cell? ⟨w.heap.size + 1, 1, none⟩ = some (.slice r.sa N.ss.length r.cs) ∧ W.cell? ⟨w.heap.size + 1, 2, none⟩ = some (.slice r.ka N.ks.length r.ck)) := fun W s => ⟨⟨s.keep ((cell_of_row _ _ _ _ _ _ g0).trans rfl), s.keep ((cell_of_row _ _ _ _ _ _ g0).trans rfl)⟩, s.keep ((cell_of_row _ _ _ _ _ _ g1).trans rfl), s.keep ((cell_of_row _ _ _ _ _ _ g1).trans rfl), s.keep ((cell_of_row _ _ _ _ _ _ g1).trans rfl)⟩
  have HG : Hid (∀ W, Same V W → W.heap[w.heap.size + 1 + 1]? = some (.cells #[.slice none 0 0, .slice none 0 0, .slice none 0 0] 28 (0, 0))) := fun W s => (s.block _ (lt_of_heap g2) (fun e => e)).trans g2
  have HVZ : Hid (w.heap.size + 3 = V.heap.size) := by show _ = _; rw [hV]; simp
  obtain ⟨⟨a0, a1⟩, n0, n1, n2⟩ := HC.out _ (Fr.refl _ V)
  clear g0 g1 g2
  unfold ndV nodeV at HI ⊢
  have d0 : Same V V.drew := Fr.drew (Fr.refl _ V)
  go_enter Try.func5, Try.ntmps5
  go_wp2_with fail
  rw [← hV]
  clear hV
  go_region_held3 (fun W => (W.cell? ⟨w.heap.size, 0, none⟩ = some (.int .i64 p) ∧ W.cell? ⟨w.heap.size, 1, none⟩ = some (.int .i64 q)) ∧ W.cell? ⟨w.heap.size + 1, 0, none⟩ = some (.slice r.pa N.ps.length r.cp) ∧ W.cell? ⟨w.heap.size + 1, 1, none⟩ = some (.slice r.sa N.ss.length r.cs) ∧ W.cell? ⟨w.heap.size + 1, 2, none⟩ = some (.slice r.ka N.ks.length r.ck)) (first | exact HC.out _ u2 | exact HC.out _ u1 | exact HC.out _ d0)
    (first | (go_at_call 13; refine (HI.out _ (t1.trans d0)).mono ?_; rintro e Z1 ⟨rfl, q1⟩; have u1 := Same.trans d0 q1; clear q1) | (go_at_call 12; refine (HA.out _).mono ?_; rintro e Z2 ⟨rfl, q2⟩; have u2 := Same.trans u1 q2; clear q2))
  clear a0 a1 n0 n1 n2
  obtain ⟨⟨a0, a1⟩, n0, n1, n2⟩ := HC.out _ u2
  go_upto_if 38 with fail
  have r6 := HG.out _ u2
  go_wp2_with (refine wpList_store_whole (by rfl) 28 _ _ (by rfl) (w.heap.size + 1 + 1) #[.slice none 0 0, .slice none 0 0, .slice none 0 0] _ 28 (by rfl) (by rfl) r6 rfl (by kernel_rfl) (by kernel_rfl) ?_; intro W7 r7 f7)
  have hz := HVZ.out
  exact bodyPost_ret (results_row_tmp (p := 12) (u := 13) (ty := 28) (by kernel_rfl) _ _ (w.heap.size + 1 + 1) 28 _ (0, 0) _ rfl r7 Try.underlying28 rfl (by kernel_rfl)) rfl ⟨rfl, Fr.trans (t1.trans u2) f7 (fun i hi e => by omega)⟩
set_option maxRecDepth 100000 in
set_option maxHeartbeats 2000000 in
theorem psplice_c2 {p q at_ many : Int} {r : Nr} {N : Nd} {ka2 sa2 : Option Addr} {kk ck2 sl cs2 : Nat} (w : World) (h0 : ¬ (at_ < 0)) (h1 : many < 1) (hn : N.ks.length ≤ 1048576) (hkk : kk ≤ 1048576) (HI : Hid (∀ W, Same w W → Calls Try.prog 13 #[frameV p q, ndV r N] W fun e w' => e = .returned (.bool true) ∧ Same W w')) (HA : Hid (∀ W, Calls Try.prog 12 #[frameV p q, .bool true] W fun e w' => e = .returned (.int .i64 0) ∧ Same W w')) :
    Calls Try.prog 5 #[frameV p q, ndV r N, .int .i64 at_, .int .i64 many, .slice ka2 kk ck2, .slice sa2 sl cs2] w fun e w' => e = .returned (.tuple #[nodeV none 0 0 none 0 0 none 0 0, .int .i64 2]) ∧ Same w w' := by
  have hn9 : (N.ks.length : Int) ≤ 1048576 := by omega
  have hn8 : (kk : Int) ≤ 1048576 := by omega
  have c1 : decide (at_ < 0) = false := decide_eq_false (by omega)
  have c2 : decide (many < 1) = true := decide_eq_true (by omega)
  clear h0 h1 hn hkk hn9 hn8
  obtain ⟨V, hV⟩ : ∃ V, V = ((w.alloc (.cells #[.int .i64 p, .int .i64 q] 23)).alloc (.cells #[.slice r.pa N.ps.length r.cp, .slice r.sa N.ss.length r.cs, .slice r.ka N.ks.length r.ck] 28)).alloc (.cells #[.slice none 0 0, .slice none 0 0, .slice none 0 0] 28) := ⟨_, rfl⟩
  have t1 : Same w V := by rw [hV]; exact (((Fr.refl _ w).alloc _).alloc _).alloc _
  obtain ⟨g0, g1, g2⟩ := three_boxes w (.cells #[.int .i64 p, .int .i64 q] 23) (.cells #[.slice r.pa N.ps.length r.cp, .slice r.sa N.ss.length r.cs, .slice r.ka N.ks.length r.ck] 28) (.cells #[.slice none 0 0, .slice none 0 0, .slice none 0 0] 28)
  rw [← hV] at g0 g1 g2
  have HC : Hid (∀ W, Same V W → (W.cell? ⟨w.heap.size, 0, none⟩ = some (.int .i64 p) ∧ W.cell? ⟨w.heap.size, 1, none⟩ = some (.int .i64 q)) ∧ W.cell? ⟨w.heap.size + 1, 0, none⟩ = some (.slice r.pa N.ps.length r.cp) ∧ W.cell? ⟨w.heap.size + 1, 1, none⟩ = some (.slice r.sa N.ss.length r.cs) ∧ W.cell? ⟨w.heap.size + 1, 2, none⟩ = some (.slice r.ka N.ks.length r.ck)) := fun W s => ⟨⟨s.keep ((cell_of_row _ _ _ _ _ _ g0).trans rfl), s.keep ((cell_of_row _ _ _ _ _ _ g0).trans rfl)⟩, s.keep ((cell_of_row _ _ _ _ _ _ g1).trans rfl), s.keep ((cell_of_row _ _ _ _ _ _ g1).trans rfl), s.keep ((cell_of_row _ _ _ _ _ _ g1).trans rfl)⟩
  have HG : Hid (∀ W, Same V W → W.heap[w.heap.size + 1 + 1]? = some (.cells #[.slice none 0 0, .slice none 0 0, .slice none 0 0] 28 (0, 0))) := fun W s => (s.block _ (lt_of_heap g2) (fun e => e)).trans g2
  have HVZ : Hid (w.heap.size + 3 = V.heap.size) := by show _ = _; rw [hV]; simp
  obtain ⟨⟨a0, a1⟩, n0, n1, n2⟩ := HC.out _ (Fr.refl _ V)
  clear g0 g1 g2
  unfold ndV nodeV at HI ⊢
  have d0 : Same V V.drew := Fr.drew (Fr.refl _ V)
  go_enter Try.func5, Try.ntmps5
  go_wp2_with fail
  rw [← hV]
  clear hV
  go_region_held3 (fun W => (W.cell? ⟨w.heap.size, 0, none⟩ = some (.int .i64 p) ∧ W.cell? ⟨w.heap.size, 1, none⟩ = some (.int .i64 q)) ∧ W.cell? ⟨w.heap.size + 1, 0, none⟩ = some (.slice r.pa N.ps.length r.cp) ∧ W.cell? ⟨w.heap.size + 1, 1, none⟩ = some (.slice r.sa N.ss.length r.cs) ∧ W.cell? ⟨w.heap.size + 1, 2, none⟩ = some (.slice r.ka N.ks.length r.ck)) (first | exact HC.out _ u2 | exact HC.out _ u1 | exact HC.out _ d0)
    (first | (go_at_call 13; refine (HI.out _ (t1.trans d0)).mono ?_; rintro e Z1 ⟨rfl, q1⟩; have u1 := Same.trans d0 q1; clear q1) | (go_at_call 12; refine (HA.out _).mono ?_; rintro e Z2 ⟨rfl, q2⟩; have u2 := Same.trans u1 q2; clear q2))
  clear a0 a1 n0 n1 n2
  obtain ⟨⟨a0, a1⟩, n0, n1, n2⟩ := HC.out _ u2
  go_upto_if 38 with fail
  have r6 := HG.out _ u2
  go_wp2_with (refine wpList_store_whole (by rfl) 28 _ _ (by rfl) (w.heap.size + 1 + 1) #[.slice none 0 0, .slice none 0 0, .slice none 0 0] _ 28 (by rfl) (by rfl) r6 rfl (by kernel_rfl) (by kernel_rfl) ?_; intro W7 r7 f7)
  have hz := HVZ.out
  exact bodyPost_ret (results_row_tmp (p := 12) (u := 13) (ty := 28) (by kernel_rfl) _ _ (w.heap.size + 1 + 1) 28 _ (0, 0) _ rfl r7 Try.underlying28 rfl (by kernel_rfl)) rfl ⟨rfl, Fr.trans (t1.trans u2) f7 (fun i hi e => by omega)⟩
set_option maxRecDepth 100000 in
set_option maxHeartbeats 2000000 in
theorem psplice_c3 {p q at_ many : Int} {r : Nr} {N : Nd} {ka2 sa2 : Option Addr} {kk ck2 sl cs2 : Nat} (w : World) (h0 : ¬ (at_ < 0)) (h1 : ¬ (many < 1)) (h2 : (N.ks.length : Int) - at_ < many) (hn : N.ks.length ≤ 1048576) (hkk : kk ≤ 1048576) (hat : at_ ≤ 9223372036854775807) (HI : Hid (∀ W, Same w W → Calls Try.prog 13 #[frameV p q, ndV r N] W fun e w' => e = .returned (.bool true) ∧ Same W w')) (HA : Hid (∀ W, Calls Try.prog 12 #[frameV p q, .bool true] W fun e w' => e = .returned (.int .i64 0) ∧ Same W w')) :
    Calls Try.prog 5 #[frameV p q, ndV r N, .int .i64 at_, .int .i64 many, .slice ka2 kk ck2, .slice sa2 sl cs2] w fun e w' => e = .returned (.tuple #[nodeV none 0 0 none 0 0 none 0 0, .int .i64 2]) ∧ Same w w' := by
  have hn9 : (N.ks.length : Int) ≤ 1048576 := by omega
  have hn8 : (kk : Int) ≤ 1048576 := by omega
  have c1 : decide (at_ < 0) = false := decide_eq_false (by omega)
  have c2 : decide (many < 1) = false := decide_eq_false (by omega)
  obtain ⟨d1, hd1⟩ : ∃ d1 : Int, d1 = (N.ks.length : Int) - at_ := ⟨_, rfl⟩
  have w1 : RowKit.wrap64 ((N.ks.length : Int) - at_) = d1 := by unfold RowKit.wrap64; omega
  have c4 : decide (d1 < many) = true := decide_eq_true (by omega)
  clear hd1
  clear h0 h1 h2 hat hn hkk hn9 hn8
  obtain ⟨V, hV⟩ : ∃ V, V = ((w.alloc (.cells #[.int .i64 p, .int .i64 q] 23)).alloc (.cells #[.slice r.pa N.ps.length r.cp, .slice r.sa N.ss.length r.cs, .slice r.ka N.ks.length r.ck] 28)).alloc (.cells #[.slice none 0 0, .slice none 0 0, .slice none 0 0] 28) := ⟨_, rfl⟩
  have t1 : Same w V := by rw [hV]; exact (((Fr.refl _ w).alloc _).alloc _).alloc _
  obtain ⟨g0, g1, g2⟩ := three_boxes w (.cells #[.int .i64 p, .int .i64 q] 23) (.cells #[.slice r.pa N.ps.length r.cp, .slice r.sa N.ss.length r.cs, .slice r.ka N.ks.length r.ck] 28) (.cells #[.slice none 0 0, .slice none 0 0, .slice none 0 0] 28)
  rw [← hV] at g0 g1 g2
  have HC : Hid (∀ W, Same V W → (W.cell? ⟨w.heap.size, 0, none⟩ = some (.int .i64 p) ∧ W.cell? ⟨w.heap.size, 1, none⟩ = some (.int .i64 q)) ∧ W.cell? ⟨w.heap.size + 1, 0, none⟩ = some (.slice r.pa N.ps.length r.cp) ∧ W.cell? ⟨w.heap.size + 1, 1, none⟩ = some (.slice r.sa N.ss.length r.cs) ∧ W.cell? ⟨w.heap.size + 1, 2, none⟩ = some (.slice r.ka N.ks.length r.ck)) := fun W s => ⟨⟨s.keep ((cell_of_row _ _ _ _ _ _ g0).trans rfl), s.keep ((cell_of_row _ _ _ _ _ _ g0).trans rfl)⟩, s.keep ((cell_of_row _ _ _ _ _ _ g1).trans rfl), s.keep ((cell_of_row _ _ _ _ _ _ g1).trans rfl), s.keep ((cell_of_row _ _ _ _ _ _ g1).trans rfl)⟩
  have HG : Hid (∀ W, Same V W → W.heap[w.heap.size + 1 + 1]? = some (.cells #[.slice none 0 0, .slice none 0 0, .slice none 0 0] 28 (0, 0))) := fun W s => (s.block _ (lt_of_heap g2) (fun e => e)).trans g2
  have HVZ : Hid (w.heap.size + 3 = V.heap.size) := by show _ = _; rw [hV]; simp
  obtain ⟨⟨a0, a1⟩, n0, n1, n2⟩ := HC.out _ (Fr.refl _ V)
  clear g0 g1 g2
  unfold ndV nodeV at HI ⊢
  have d0 : Same V V.drew := Fr.drew (Fr.refl _ V)
  go_enter Try.func5, Try.ntmps5
  go_wp2_with fail
  rw [← hV]
  clear hV
  go_region_held3 (fun W => (W.cell? ⟨w.heap.size, 0, none⟩ = some (.int .i64 p) ∧ W.cell? ⟨w.heap.size, 1, none⟩ = some (.int .i64 q)) ∧ W.cell? ⟨w.heap.size + 1, 0, none⟩ = some (.slice r.pa N.ps.length r.cp) ∧ W.cell? ⟨w.heap.size + 1, 1, none⟩ = some (.slice r.sa N.ss.length r.cs) ∧ W.cell? ⟨w.heap.size + 1, 2, none⟩ = some (.slice r.ka N.ks.length r.ck)) (first | exact HC.out _ u2 | exact HC.out _ u1 | exact HC.out _ d0)
    (first | (go_at_call 13; refine (HI.out _ (t1.trans d0)).mono ?_; rintro e Z1 ⟨rfl, q1⟩; have u1 := Same.trans d0 q1; clear q1) | (go_at_call 12; refine (HA.out _).mono ?_; rintro e Z2 ⟨rfl, q2⟩; have u2 := Same.trans u1 q2; clear q2))
  clear a0 a1 n0 n1 n2
  obtain ⟨⟨a0, a1⟩, n0, n1, n2⟩ := HC.out _ u2
  go_upto_if 38 with fail
  have r6 := HG.out _ u2
  go_wp2_with (refine wpList_store_whole (by rfl) 28 _ _ (by rfl) (w.heap.size + 1 + 1) #[.slice none 0 0, .slice none 0 0, .slice none 0 0] _ 28 (by rfl) (by rfl) r6 rfl (by kernel_rfl) (by kernel_rfl) ?_; intro W7 r7 f7)
  have hz := HVZ.out
  exact bodyPost_ret (results_row_tmp (p := 12) (u := 13) (ty := 28) (by kernel_rfl) _ _ (w.heap.size + 1 + 1) 28 _ (0, 0) _ rfl r7 Try.underlying28 rfl (by kernel_rfl)) rfl ⟨rfl, Fr.trans (t1.trans u2) f7 (fun i hi e => by omega)⟩
set_option maxRecDepth 100000 in
set_option maxHeartbeats 2000000 in
theorem psplice_c4 {p q at_ many : Int} {r : Nr} {N : Nd} {ka2 sa2 : Option Addr} {kk ck2 sl cs2 : Nat} (w : World) (h0 : ¬ (at_ < 0)) (h1 : ¬ (many < 1)) (h2 : ¬ ((N.ks.length : Int) - at_ < many)) (h3 : kk < 1) (hn : N.ks.length ≤ 1048576) (hkk : kk ≤ 1048576) (HI : Hid (∀ W, Same w W → Calls Try.prog 13 #[frameV p q, ndV r N] W fun e w' => e = .returned (.bool true) ∧ Same W w')) (HA : Hid (∀ W, Calls Try.prog 12 #[frameV p q, .bool true] W fun e w' => e = .returned (.int .i64 0) ∧ Same W w')) :
    Calls Try.prog 5 #[frameV p q, ndV r N, .int .i64 at_, .int .i64 many, .slice ka2 kk ck2, .slice sa2 sl cs2] w fun e w' => e = .returned (.tuple #[nodeV none 0 0 none 0 0 none 0 0, .int .i64 2]) ∧ Same w w' := by
  have hn9 : (N.ks.length : Int) ≤ 1048576 := by omega
  have hn8 : (kk : Int) ≤ 1048576 := by omega
  have c1 : decide (at_ < 0) = false := decide_eq_false (by omega)
  have c2 : decide (many < 1) = false := decide_eq_false (by omega)
  obtain ⟨d1, hd1⟩ : ∃ d1 : Int, d1 = (N.ks.length : Int) - at_ := ⟨_, rfl⟩
  have w1 : RowKit.wrap64 ((N.ks.length : Int) - at_) = d1 := by unfold RowKit.wrap64; omega
  have c4 : decide (d1 < many) = false := decide_eq_false (by omega)
  clear hd1
  obtain rfl : kk = 0 := by omega
  clear h0 h1 h2 h3 hn hkk hn9 hn8
  obtain ⟨V, hV⟩ : ∃ V, V = ((w.alloc (.cells #[.int .i64 p, .int .i64 q] 23)).alloc (.cells #[.slice r.pa N.ps.length r.cp, .slice r.sa N.ss.length r.cs, .slice r.ka N.ks.length r.ck] 28)).alloc (.cells #[.slice none 0 0, .slice none 0 0, .slice none 0 0] 28) := ⟨_, rfl⟩
  have t1 : Same w V := by rw [hV]; exact (((Fr.refl _ w).alloc _).alloc _).alloc _
  obtain ⟨g0, g1, g2⟩ := three_boxes w (.cells #[.int .i64 p, .int .i64 q] 23) (.cells #[.slice r.pa N.ps.length r.cp, .slice r.sa N.ss.length r.cs, .slice r.ka N.ks.length r.ck] 28) (.cells #[.slice none 0 0, .slice none 0 0, .slice none 0 0] 28)
  rw [← hV] at g0 g1 g2
  have HC : Hid (∀ W, Same V W → (W.cell? ⟨w.heap.size, 0, none⟩ = some (.int .i64 p) ∧ W.cell? ⟨w.heap.size, 1, none⟩ = some (.int .i64 q)) ∧ W.cell? ⟨w.heap.size + 1, 0, none⟩ = some (.slice r.pa N.ps.length r.cp) ∧ W.cell? ⟨w.heap.size + 1, 1, none⟩ = some (.slice r.sa N.ss.length r.cs) ∧ W.cell? ⟨w.heap.size + 1, 2, none⟩ = some (.slice r.ka N.ks.length r.ck)) := fun W s => ⟨⟨s.keep ((cell_of_row _ _ _ _ _ _ g0).trans rfl), s.keep ((cell_of_row _ _ _ _ _ _ g0).trans rfl)⟩, s.keep ((cell_of_row _ _ _ _ _ _ g1).trans rfl), s.keep ((cell_of_row _ _ _ _ _ _ g1).trans rfl), s.keep ((cell_of_row _ _ _ _ _ _ g1).trans rfl)⟩
  have HG : Hid (∀ W, Same V W → W.heap[w.heap.size + 1 + 1]? = some (.cells #[.slice none 0 0, .slice none 0 0, .slice none 0 0] 28 (0, 0))) := fun W s => (s.block _ (lt_of_heap g2) (fun e => e)).trans g2
  have HVZ : Hid (w.heap.size + 3 = V.heap.size) := by show _ = _; rw [hV]; simp
  obtain ⟨⟨a0, a1⟩, n0, n1, n2⟩ := HC.out _ (Fr.refl _ V)
  clear g0 g1 g2
  unfold ndV nodeV at HI ⊢
  have d0 : Same V V.drew := Fr.drew (Fr.refl _ V)
  go_enter Try.func5, Try.ntmps5
  go_wp2_with fail
  rw [← hV]
  clear hV
  go_region_held3 (fun W => (W.cell? ⟨w.heap.size, 0, none⟩ = some (.int .i64 p) ∧ W.cell? ⟨w.heap.size, 1, none⟩ = some (.int .i64 q)) ∧ W.cell? ⟨w.heap.size + 1, 0, none⟩ = some (.slice r.pa N.ps.length r.cp) ∧ W.cell? ⟨w.heap.size + 1, 1, none⟩ = some (.slice r.sa N.ss.length r.cs) ∧ W.cell? ⟨w.heap.size + 1, 2, none⟩ = some (.slice r.ka N.ks.length r.ck)) (first | exact HC.out _ u2 | exact HC.out _ u1 | exact HC.out _ d0)
    (first | (go_at_call 13; refine (HI.out _ (t1.trans d0)).mono ?_; rintro e Z1 ⟨rfl, q1⟩; have u1 := Same.trans d0 q1; clear q1) | (go_at_call 12; refine (HA.out _).mono ?_; rintro e Z2 ⟨rfl, q2⟩; have u2 := Same.trans u1 q2; clear q2))
  clear a0 a1 n0 n1 n2
  obtain ⟨⟨a0, a1⟩, n0, n1, n2⟩ := HC.out _ u2
  go_upto_if 61 with fail
  have r6 := HG.out _ u2
  go_wp2_with (refine wpList_store_whole (by rfl) 28 _ _ (by rfl) (w.heap.size + 1 + 1) #[.slice none 0 0, .slice none 0 0, .slice none 0 0] _ 28 (by rfl) (by rfl) r6 rfl (by kernel_rfl) (by kernel_rfl) ?_; intro W7 r7 f7)
  have hz := HVZ.out
  exact bodyPost_ret (results_row_tmp (p := 12) (u := 13) (ty := 28) (by kernel_rfl) _ _ (w.heap.size + 1 + 1) 28 _ (0, 0) _ rfl r7 Try.underlying28 rfl (by kernel_rfl)) rfl ⟨rfl, Fr.trans (t1.trans u2) f7 (fun i hi e => by omega)⟩
set_option maxRecDepth 100000 in
set_option maxHeartbeats 2000000 in
theorem psplice_c5 {p q at_ many : Int} {r : Nr} {N : Nd} {ka2 sa2 : Option Addr} {kk ck2 sl cs2 : Nat} (w : World) (h0 : ¬ (at_ < 0)) (h1 : ¬ (many < 1)) (h2 : ¬ ((N.ks.length : Int) - at_ < many)) (h3 : ¬ (kk < 1)) (h4 : ¬ (sl : Int) = (kk : Int) - 1) (hn : N.ks.length ≤ 1048576) (hkk : kk ≤ 1048576) (HI : Hid (∀ W, Same w W → Calls Try.prog 13 #[frameV p q, ndV r N] W fun e w' => e = .returned (.bool true) ∧ Same W w')) (HA : Hid (∀ W, Calls Try.prog 12 #[frameV p q, .bool true] W fun e w' => e = .returned (.int .i64 0) ∧ Same W w')) :
    Calls Try.prog 5 #[frameV p q, ndV r N, .int .i64 at_, .int .i64 many, .slice ka2 kk ck2, .slice sa2 sl cs2] w fun e w' => e = .returned (.tuple #[nodeV none 0 0 none 0 0 none 0 0, .int .i64 2]) ∧ Same w w' := by
  have hn9 : (N.ks.length : Int) ≤ 1048576 := by omega
  have hn8 : (kk : Int) ≤ 1048576 := by omega
  have c1 : decide (at_ < 0) = false := decide_eq_false (by omega)
  have c2 : decide (many < 1) = false := decide_eq_false (by omega)
  obtain ⟨d1, hd1⟩ : ∃ d1 : Int, d1 = (N.ks.length : Int) - at_ := ⟨_, rfl⟩
  have w1 : RowKit.wrap64 ((N.ks.length : Int) - at_) = d1 := by unfold RowKit.wrap64; omega
  have c4 : decide (d1 < many) = false := decide_eq_false (by omega)
  clear hd1
  obtain ⟨k0, rfl⟩ : ∃ k0, kk = k0 + 1 := ⟨kk - 1, by omega⟩
  have e0 : ¬ ((k0 : Int) + 1) = 0 := by omega
  have e1 : ((k0 : Int) + 1) - 1 = (k0 : Int) := by omega
  have e3 : IntKind.i64.wrap (k0 : Int) = (k0 : Int) := by rw [IntKind.wrap_i64]; omega
  have k1 : (1 : Int) ≤ (k0 : Int) + 1 := by omega
  have k2 : ¬ ((k0 : Int) + 1 < 1) := by omega
  have c6 : ¬ (sl : Int) = (k0 : Int) := by omega
  clear h0 h1 h2 h3 h4 hn hkk hn9 hn8
  obtain ⟨V, hV⟩ : ∃ V, V = ((w.alloc (.cells #[.int .i64 p, .int .i64 q] 23)).alloc (.cells #[.slice r.pa N.ps.length r.cp, .slice r.sa N.ss.length r.cs, .slice r.ka N.ks.length r.ck] 28)).alloc (.cells #[.slice none 0 0, .slice none 0 0, .slice none 0 0] 28) := ⟨_, rfl⟩
  have t1 : Same w V := by rw [hV]; exact (((Fr.refl _ w).alloc _).alloc _).alloc _
  obtain ⟨g0, g1, g2⟩ := three_boxes w (.cells #[.int .i64 p, .int .i64 q] 23) (.cells #[.slice r.pa N.ps.length r.cp, .slice r.sa N.ss.length r.cs, .slice r.ka N.ks.length r.ck] 28) (.cells #[.slice none 0 0, .slice none 0 0, .slice none 0 0] 28)
  rw [← hV] at g0 g1 g2
  have HC : Hid (∀ W, Same V W → (W.cell? ⟨w.heap.size, 0, none⟩ = some (.int .i64 p) ∧ W.cell? ⟨w.heap.size, 1, none⟩ = some (.int .i64 q)) ∧ W.cell? ⟨w.heap.size + 1, 0, none⟩ = some (.slice r.pa N.ps.length r.cp) ∧ W.cell? ⟨w.heap.size + 1, 1, none⟩ = some (.slice r.sa N.ss.length r.cs) ∧ W.cell? ⟨w.heap.size + 1, 2, none⟩ = some (.slice r.ka N.ks.length r.ck)) := fun W s => ⟨⟨s.keep ((cell_of_row _ _ _ _ _ _ g0).trans rfl), s.keep ((cell_of_row _ _ _ _ _ _ g0).trans rfl)⟩, s.keep ((cell_of_row _ _ _ _ _ _ g1).trans rfl), s.keep ((cell_of_row _ _ _ _ _ _ g1).trans rfl), s.keep ((cell_of_row _ _ _ _ _ _ g1).trans rfl)⟩
  have HG : Hid (∀ W, Same V W → W.heap[w.heap.size + 1 + 1]? = some (.cells #[.slice none 0 0, .slice none 0 0, .slice none 0 0] 28 (0, 0))) := fun W s => (s.block _ (lt_of_heap g2) (fun e => e)).trans g2
  have HVZ : Hid (w.heap.size + 3 = V.heap.size) := by show _ = _; rw [hV]; simp
  obtain ⟨⟨a0, a1⟩, n0, n1, n2⟩ := HC.out _ (Fr.refl _ V)
  clear g0 g1 g2
  unfold ndV nodeV at HI ⊢
  have d0 : Same V V.drew := Fr.drew (Fr.refl _ V)
  go_enter Try.func5, Try.ntmps5
  go_wp2_with fail
  rw [← hV]
  clear hV
  go_region_held3 (fun W => (W.cell? ⟨w.heap.size, 0, none⟩ = some (.int .i64 p) ∧ W.cell? ⟨w.heap.size, 1, none⟩ = some (.int .i64 q)) ∧ W.cell? ⟨w.heap.size + 1, 0, none⟩ = some (.slice r.pa N.ps.length r.cp) ∧ W.cell? ⟨w.heap.size + 1, 1, none⟩ = some (.slice r.sa N.ss.length r.cs) ∧ W.cell? ⟨w.heap.size + 1, 2, none⟩ = some (.slice r.ka N.ks.length r.ck)) (first | exact HC.out _ u2 | exact HC.out _ u1 | exact HC.out _ d0)
    (first | (go_at_call 13; refine (HI.out _ (t1.trans d0)).mono ?_; rintro e Z1 ⟨rfl, q1⟩; have u1 := Same.trans d0 q1; clear q1) | (go_at_call 12; refine (HA.out _).mono ?_; rintro e Z2 ⟨rfl, q2⟩; have u2 := Same.trans u1 q2; clear q2))
  clear a0 a1 n0 n1 n2
  obtain ⟨⟨a0, a1⟩, n0, n1, n2⟩ := HC.out _ u2
  go_upto_if 61 with fail
  have r6 := HG.out _ u2
  go_wp2_with (refine wpList_store_whole (by rfl) 28 _ _ (by rfl) (w.heap.size + 1 + 1) #[.slice none 0 0, .slice none 0 0, .slice none 0 0] _ 28 (by rfl) (by rfl) r6 rfl (by kernel_rfl) (by kernel_rfl) ?_; intro W7 r7 f7)
  have hz := HVZ.out
  exact bodyPost_ret (results_row_tmp (p := 12) (u := 13) (ty := 28) (by kernel_rfl) _ _ (w.heap.size + 1 + 1) 28 _ (0, 0) _ rfl r7 Try.underlying28 rfl (by kernel_rfl)) rfl ⟨rfl, Fr.trans (t1.trans u2) f7 (fun i hi e => by omega)⟩
set_option maxRecDepth 100000 in
set_option maxHeartbeats 2000000 in
theorem psplice_c6 {p q at_ many : Int} {r : Nr} {N : Nd} {ka2 sa2 : Option Addr} {kk ck2 sl cs2 : Nat} (w : World) (h0 : ¬ (at_ < 0)) (h1 : ¬ (many < 1)) (h2 : ¬ ((N.ks.length : Int) - at_ < many)) (h3 : ¬ (kk < 1)) (h4 : ¬ (¬ (sl : Int) = (kk : Int) - 1)) (h5 : (N.ks.length : Int) - many + (kk : Int) < 2) (hn : N.ks.length ≤ 1048576) (hkk : kk ≤ 1048576) (HI : Hid (∀ W, Same w W → Calls Try.prog 13 #[frameV p q, ndV r N] W fun e w' => e = .returned (.bool true) ∧ Same W w')) (HA : Hid (∀ W, Calls Try.prog 12 #[frameV p q, .bool true] W fun e w' => e = .returned (.int .i64 0) ∧ Same W w')) :
    Calls Try.prog 5 #[frameV p q, ndV r N, .int .i64 at_, .int .i64 many, .slice ka2 kk ck2, .slice sa2 sl cs2] w fun e w' => e = .returned (.tuple #[nodeV none 0 0 none 0 0 none 0 0, .int .i64 2]) ∧ Same w w' := by
  have hn9 : (N.ks.length : Int) ≤ 1048576 := by omega
  have hn8 : (kk : Int) ≤ 1048576 := by omega
  have c1 : decide (at_ < 0) = false := decide_eq_false (by omega)
  have c2 : decide (many < 1) = false := decide_eq_false (by omega)
  obtain ⟨d1, hd1⟩ : ∃ d1 : Int, d1 = (N.ks.length : Int) - at_ := ⟨_, rfl⟩
  have w1 : RowKit.wrap64 ((N.ks.length : Int) - at_) = d1 := by unfold RowKit.wrap64; omega
  have c4 : decide (d1 < many) = false := decide_eq_false (by omega)
  clear hd1
  obtain ⟨k0, rfl⟩ : ∃ k0, kk = k0 + 1 := ⟨kk - 1, by omega⟩
  have e0 : ¬ ((k0 : Int) + 1) = 0 := by omega
  have e1 : ((k0 : Int) + 1) - 1 = (k0 : Int) := by omega
  have e3 : IntKind.i64.wrap (k0 : Int) = (k0 : Int) := by rw [IntKind.wrap_i64]; omega
  have k1 : (1 : Int) ≤ (k0 : Int) + 1 := by omega
  have k2 : ¬ ((k0 : Int) + 1 < 1) := by omega
  obtain rfl : k0 = sl := by omega
  obtain ⟨d2, hd2⟩ : ∃ d2 : Int, d2 = (N.ks.length : Int) - many := ⟨_, rfl⟩
  obtain ⟨d3, hd3⟩ : ∃ d3 : Int, d3 = d2 + ((k0 : Int) + 1) := ⟨_, rfl⟩
  have w2 : RowKit.wrap64 ((N.ks.length : Int) - many) = d2 := by unfold RowKit.wrap64; omega
  have w3 : RowKit.wrap64 (d2 + ((k0 : Int) + 1)) = d3 := by unfold RowKit.wrap64; omega
  have c7 : decide (d3 < 2) = true := decide_eq_true (by omega)
  clear hd2 hd3
  clear h0 h1 h2 h3 h4 h5 hn hkk hn9 hn8
  obtain ⟨V, hV⟩ : ∃ V, V = ((w.alloc (.cells #[.int .i64 p, .int .i64 q] 23)).alloc (.cells #[.slice r.pa N.ps.length r.cp, .slice r.sa N.ss.length r.cs, .slice r.ka N.ks.length r.ck] 28)).alloc (.cells #[.slice none 0 0, .slice none 0 0, .slice none 0 0] 28) := ⟨_, rfl⟩
  have t1 : Same w V := by rw [hV]; exact (((Fr.refl _ w).alloc _).alloc _).alloc _
  obtain ⟨g0, g1, g2⟩ := three_boxes w (.cells #[.int .i64 p, .int .i64 q] 23) (.cells #[.slice r.pa N.ps.length r.cp, .slice r.sa N.ss.length r.cs, .slice r.ka N.ks.length r.ck] 28) (.cells #[.slice none 0 0, .slice none 0 0, .slice none 0 0] 28)
  rw [← hV] at g0 g1 g2
  have HC : Hid (∀ W, Same V W → (W.cell? ⟨w.heap.size, 0, none⟩ = some (.int .i64 p) ∧ W.cell? ⟨w.heap.size, 1, none⟩ = some (.int .i64 q)) ∧ W.cell? ⟨w.heap.size + 1, 0, none⟩ = some (.slice r.pa N.ps.length r.cp) ∧ W.cell? ⟨w.heap.size + 1, 1, none⟩ = some (.slice r.sa N.ss.length r.cs) ∧ W.cell? ⟨w.heap.size + 1, 2, none⟩ = some (.slice r.ka N.ks.length r.ck)) := fun W s => ⟨⟨s.keep ((cell_of_row _ _ _ _ _ _ g0).trans rfl), s.keep ((cell_of_row _ _ _ _ _ _ g0).trans rfl)⟩, s.keep ((cell_of_row _ _ _ _ _ _ g1).trans rfl), s.keep ((cell_of_row _ _ _ _ _ _ g1).trans rfl), s.keep ((cell_of_row _ _ _ _ _ _ g1).trans rfl)⟩
  have HG : Hid (∀ W, Same V W → W.heap[w.heap.size + 1 + 1]? = some (.cells #[.slice none 0 0, .slice none 0 0, .slice none 0 0] 28 (0, 0))) := fun W s => (s.block _ (lt_of_heap g2) (fun e => e)).trans g2
  have HVZ : Hid (w.heap.size + 3 = V.heap.size) := by show _ = _; rw [hV]; simp
  obtain ⟨⟨a0, a1⟩, n0, n1, n2⟩ := HC.out _ (Fr.refl _ V)
  clear g0 g1 g2
  unfold ndV nodeV at HI ⊢
  have d0 : Same V V.drew := Fr.drew (Fr.refl _ V)
  go_enter Try.func5, Try.ntmps5
  go_wp2_with fail
  rw [← hV]
  clear hV
  go_region_held3 (fun W => (W.cell? ⟨w.heap.size, 0, none⟩ = some (.int .i64 p) ∧ W.cell? ⟨w.heap.size, 1, none⟩ = some (.int .i64 q)) ∧ W.cell? ⟨w.heap.size + 1, 0, none⟩ = some (.slice r.pa N.ps.length r.cp) ∧ W.cell? ⟨w.heap.size + 1, 1, none⟩ = some (.slice r.sa N.ss.length r.cs) ∧ W.cell? ⟨w.heap.size + 1, 2, none⟩ = some (.slice r.ka N.ks.length r.ck)) (first | exact HC.out _ u2 | exact HC.out _ u1 | exact HC.out _ d0)
    (first | (go_at_call 13; refine (HI.out _ (t1.trans d0)).mono ?_; rintro e Z1 ⟨rfl, q1⟩; have u1 := Same.trans d0 q1; clear q1) | (go_at_call 12; refine (HA.out _).mono ?_; rintro e Z2 ⟨rfl, q2⟩; have u2 := Same.trans u1 q2; clear q2))
  clear a0 a1 n0 n1 n2
  obtain ⟨⟨a0, a1⟩, n0, n1, n2⟩ := HC.out _ u2
  go_upto_if 61 with fail
  have r6 := HG.out _ u2
  go_wp2_with (refine wpList_store_whole (by rfl) 28 _ _ (by rfl) (w.heap.size + 1 + 1) #[.slice none 0 0, .slice none 0 0, .slice none 0 0] _ 28 (by rfl) (by rfl) r6 rfl (by kernel_rfl) (by kernel_rfl) ?_; intro W7 r7 f7)
  have hz := HVZ.out
  exact bodyPost_ret (results_row_tmp (p := 12) (u := 13) (ty := 28) (by kernel_rfl) _ _ (w.heap.size + 1 + 1) 28 _ (0, 0) _ rfl r7 Try.underlying28 rfl (by kernel_rfl)) rfl ⟨rfl, Fr.trans (t1.trans u2) f7 (fun i hi e => by omega)⟩
set_option maxRecDepth 100000 in
set_option maxHeartbeats 8000000 in
theorem psplice_good {p q : Int} {r : Nr} {N M : Nd} {ka2 sa2 : Option Addr} {kk ck2 sl cs2 a m m1 n1 n2 n3 n4 : Nat} {l1 l3 : List Value} (w : World) (hm : m = m1 + 1) (hbl : a + m ≤ N.ks.length) (hkk : sl + 1 = kk) (h2 : 2 ≤ N.ks.length - m + kk) (hn : N.ks.length ≤ 1048576) (hk9 : kk ≤ 1048576) (hM : M.ps = [] ∧ M.ss.length = n2 ∧ M.ks.length = n4)
    (HI : Hid (∀ W, Same w W → Calls Try.prog 13 #[frameV p q, ndV r N] W fun e w' => e = .returned (.bool true) ∧ Same W w'))
    (HA : Hid (∀ W, Calls Try.prog 12 #[frameV p q, .bool true] W fun e w' => e = .returned (.int .i64 0) ∧ Same W w'))
    (HW1 : Hid (∀ W, Same w W → Calls Try.prog 15 #[.slice r.sa N.ss.length r.cs, .int .i64 (a : Int), .int .i64 (m1 : Int)] W fun e w' => ∃ ao c, e = .returned (.slice ao n1 c) ∧ w'.ownsRow W.heap.size 9 1 (.slice ao n1 c) n1 l1 ∧ Same W w'))
    (HX1 : Hid (∀ W ao c B, Same w W → W.ownsRow B 9 1 (.slice ao n1 c) n1 l1 → Calls Try.prog 14 #[.slice ao n1 c, .int .i64 (a : Int), .slice sa2 sl cs2] W fun e w' => ∃ ao c, e = .returned (.slice ao n2 c) ∧ w'.ownsRow W.heap.size 9 1 (.slice ao n2 c) n2 (scells M.ss) ∧ Same W w'))
    (HW2 : Hid (∀ W, Same w W → Calls Try.prog 17 #[.slice r.ka N.ks.length r.ck, .int .i64 (a : Int), .int .i64 (m : Int)] W fun e w' => ∃ ao c, e = .returned (.slice ao n3 c) ∧ w'.ownsRow W.heap.size 46 33 (.slice ao n3 c) n3 l3 ∧ Same W w'))
    (HX2 : Hid (∀ W ao c B, Same w W → W.ownsRow B 46 33 (.slice ao n3 c) n3 l3 → Calls Try.prog 16 #[.slice ao n3 c, .int .i64 (a : Int), .slice ka2 kk ck2] W fun e w' => ∃ ao c, e = .returned (.slice ao n4 c) ∧ w'.ownsRow W.heap.size 46 33 (.slice ao n4 c) n4 (kcellsL M.ks) ∧ Same W w'))
    (HCk : Hid (∀ W B r', MadeNd W B r' M → Calls Try.prog 18 #[frameV p q, ndV r' M] W fun e w' => e = .returned (.int .i64 0) ∧ Same W w')) :
    Calls Try.prog 5 #[frameV p q, ndV r N, .int .i64 (a : Int), .int .i64 (m : Int), .slice ka2 kk ck2, .slice sa2 sl cs2] w fun e w' => ∃ r', e = .returned (.tuple #[ndV r' M, .int .i64 0]) ∧ MadeNd w' w.heap.size r' M ∧ Same w w' := by
  have s1 : RowKit.wrap64 ((m : Int) - 1) = (m1 : Int) := by unfold RowKit.wrap64; omega
  have s2 : (m : Int) - 1 = (m1 : Int) := by omega
  have s3 : IntKind.i64.wrap (m1 : Int) = (m1 : Int) := by rw [IntKind.wrap_i64]; omega
  have c2 : decide ((m : Int) < 1) = false := decide_eq_false (by omega)
  have c2' : ¬ m < 1 := by omega
  obtain ⟨d1, hd1⟩ : ∃ d1 : Int, d1 = (N.ks.length : Int) - (a : Int) := ⟨_, rfl⟩
  have w1 : RowKit.wrap64 ((N.ks.length : Int) - (a : Int)) = d1 := by unfold RowKit.wrap64; omega
  have c4 : decide (d1 < (m : Int)) = false := decide_eq_false (by omega)
  have c5 : ((kk : Int) == 0) = false := by rw [beq_eq_false_iff_ne]; omega
  have c6 : RowKit.wrap64 ((kk : Int) - 1) = (sl : Int) := by unfold RowKit.wrap64; omega
  have c6' : IntKind.i64.wrap ((kk : Int) - 1) = (sl : Int) := by rw [IntKind.wrap_i64]; omega
  have c6e : ((sl : Int) == (sl : Int)) = true := by simp
  obtain ⟨d2, hd2⟩ : ∃ d2 : Int, d2 = (N.ks.length : Int) - (m : Int) := ⟨_, rfl⟩
  obtain ⟨d3, hd3⟩ : ∃ d3 : Int, d3 = d2 + (kk : Int) := ⟨_, rfl⟩
  have w2 : RowKit.wrap64 ((N.ks.length : Int) - (m : Int)) = d2 := by unfold RowKit.wrap64; omega
  have w3 : RowKit.wrap64 (d2 + (kk : Int)) = d3 := by unfold RowKit.wrap64; omega
  have c7 : decide (d3 < 2) = false := decide_eq_false (by omega)
  have HM : Hid (M.ps = [] ∧ M.ss.length = n2 ∧ M.ks.length = n4) := hM
  clear hd1 hd2 hd3 hm hbl hkk h2 hn hk9 hM
  obtain ⟨V, hV⟩ : ∃ V, V = ((w.alloc (.cells #[.int .i64 p, .int .i64 q] 23)).alloc (.cells #[.slice r.pa N.ps.length r.cp, .slice r.sa N.ss.length r.cs, .slice r.ka N.ks.length r.ck] 28)).alloc (.cells #[.slice none 0 0, .slice none 0 0, .slice none 0 0] 28) := ⟨_, rfl⟩
  have t1 : Same w V := by rw [hV]; exact (((Fr.refl _ w).alloc _).alloc _).alloc _
  obtain ⟨g0, g1, g2⟩ := three_boxes w (.cells #[.int .i64 p, .int .i64 q] 23) (.cells #[.slice r.pa N.ps.length r.cp, .slice r.sa N.ss.length r.cs, .slice r.ka N.ks.length r.ck] 28) (.cells #[.slice none 0 0, .slice none 0 0, .slice none 0 0] 28)
  rw [← hV] at g0 g1 g2
  have HC : Hid (∀ W, Same V W → (W.cell? ⟨w.heap.size, 0, none⟩ = some (.int .i64 p) ∧ W.cell? ⟨w.heap.size, 1, none⟩ = some (.int .i64 q)) ∧ W.cell? ⟨w.heap.size + 1, 0, none⟩ = some (.slice r.pa N.ps.length r.cp) ∧ W.cell? ⟨w.heap.size + 1, 1, none⟩ = some (.slice r.sa N.ss.length r.cs) ∧ W.cell? ⟨w.heap.size + 1, 2, none⟩ = some (.slice r.ka N.ks.length r.ck)) := fun W s => ⟨⟨s.keep ((cell_of_row _ _ _ _ _ _ g0).trans rfl), s.keep ((cell_of_row _ _ _ _ _ _ g0).trans rfl)⟩, s.keep ((cell_of_row _ _ _ _ _ _ g1).trans rfl), s.keep ((cell_of_row _ _ _ _ _ _ g1).trans rfl), s.keep ((cell_of_row _ _ _ _ _ _ g1).trans rfl)⟩
  have HG : Hid (∀ W, Same V W → W.heap[w.heap.size + 1 + 1]? = some (.cells #[.slice none 0 0, .slice none 0 0, .slice none 0 0] 28 (0, 0))) := fun W s => (s.block _ (lt_of_heap g2) (fun e => e)).trans g2
  have HVZ : Hid (w.heap.size + 3 = V.heap.size) := by show _ = _; rw [hV]; simp
  obtain ⟨⟨a0, a1⟩, n0, n1, n2⟩ := HC.out _ (Fr.refl _ V)
  have HG1 : Hid (∀ W, Same V W → W.heap[w.heap.size + 1]? = some (.cells #[.slice r.pa N.ps.length r.cp, .slice r.sa N.ss.length r.cs, .slice r.ka N.ks.length r.ck] 28 (0, 0))) := fun W s => (s.block _ (lt_of_heap g1) (fun e => e)).trans g1
  clear g0 g1 g2
  unfold ndV nodeV at HI ⊢
  have d0 : Same V V.drew := Fr.drew (Fr.refl _ V)
  go_enter Try.func5, Try.ntmps5
  go_wp2_with fail
  rw [← hV]
  clear hV
  go_region_held3 (fun W => (W.cell? ⟨w.heap.size, 0, none⟩ = some (.int .i64 p) ∧ W.cell? ⟨w.heap.size, 1, none⟩ = some (.int .i64 q)) ∧ W.cell? ⟨w.heap.size + 1, 0, none⟩ = some (.slice r.pa N.ps.length r.cp) ∧ W.cell? ⟨w.heap.size + 1, 1, none⟩ = some (.slice r.sa N.ss.length r.cs) ∧ W.cell? ⟨w.heap.size + 1, 2, none⟩ = some (.slice r.ka N.ks.length r.ck)) (first | exact HC.out _ u2 | exact HC.out _ u1 | exact HC.out _ d0)
    (first | (go_at_call 13; refine (HI.out _ (t1.trans d0)).mono ?_; rintro e Z1 ⟨rfl, q1⟩; have u1 := Same.trans d0 q1; clear q1) | (go_at_call 12; refine (HA.out _).mono ?_; rintro e Z2 ⟨rfl, q2⟩; have u2 := Same.trans u1 q2; clear q2))
  clear a0 a1 n0 n1 n2
  obtain ⟨⟨a0, a1⟩, n0, n1, n2⟩ := HC.out _ u2
  go_wp2_with fail
  have HV2 : Hid (Same V Z2) := u2
  have dd : Same Z2 Z2.drew := Fr.drew (Fr.refl _ _)
  clear a0 a1 n0 n1 n2
  refine wp_region_held_drew (S := fun _ => True) (by kernel_rfl) (trivial) (fun hHeld => ?_)
  generalize Z2.drew = D0 at *
  refine wpAnyH_take (i := 0) (oi := { dst := some 63, op := Go.Op.fieldAddr 28 (Go.Operand.tmp 7) 1, type := 0, pos := "graft.go:74", after := #[], guard := none }) (v := .pointer (some ⟨w.heap.size + 1, 1, none⟩)) rfl (by kernel_rfl) (by kernel_rfl) (by kernel_rfl) (fun _ _ _ h => h) (Or.inl ⟨by rfl, fun w _ => by go_simp⟩) (by assumption) ?_
  try simp only [Act.put, List.setIfInBounds_toArray, List.set_cons_zero, List.set_cons_succ]
  refine wpAnyH_take (i := 2) (oi := { dst := some 65, op := Go.Op.move (Go.Operand.tmp 2), type := 3, pos := "graft.go:74", after := #[], guard := none }) (v := .int .i64 (a : Int)) rfl (by kernel_rfl) (by kernel_rfl) (by kernel_rfl) (fun _ _ _ h => h) (Or.inl ⟨by rfl, fun w _ => by go_simp⟩) (by assumption) ?_
  try simp only [Act.put, List.setIfInBounds_toArray, List.set_cons_zero, List.set_cons_succ]
  refine wpAnyH_take (i := 3) (oi := { dst := some 66, op := Go.Op.move (Go.Operand.tmp 3), type := 3, pos := "graft.go:74", after := #[], guard := none }) (v := .int .i64 (m : Int)) rfl (by kernel_rfl) (by kernel_rfl) (by kernel_rfl) (fun _ _ _ h => h) (Or.inl ⟨by rfl, fun w _ => by go_simp⟩) (by assumption) ?_
  try simp only [Act.put, List.setIfInBounds_toArray, List.set_cons_zero, List.set_cons_succ]
  refine wpAnyH_take (i := 4) (oi := { dst := some 67, op := Go.Op.binOp Go.BinOp.sub 3 (Go.Operand.tmp 66) (Go.Operand.const (Go.Value.int Go.IntKind.i64 1)) 3, type := 3, pos := "graft.go:74", after := #[{ on := 3, ground := Go.Ground.data }], guard := none }) (v := .int .i64 (m1 : Int)) rfl (by kernel_rfl) (by kernel_rfl) (by kernel_rfl) (fun _ _ _ h => h) (Or.inl ⟨by rfl, fun w _ => by go_simp⟩) (by assumption) ?_
  try simp only [Act.put, List.setIfInBounds_toArray, List.set_cons_zero, List.set_cons_succ]
  refine wpAnyH_take (i := 6) (oi := { dst := some 69, op := Go.Op.move (Go.Operand.tmp 2), type := 3, pos := "graft.go:74", after := #[], guard := none }) (v := .int .i64 (a : Int)) rfl (by kernel_rfl) (by kernel_rfl) (by kernel_rfl) (fun _ _ _ h => h) (Or.inl ⟨by rfl, fun w _ => by go_simp⟩) (by assumption) ?_
  try simp only [Act.put, List.setIfInBounds_toArray, List.set_cons_zero, List.set_cons_succ]
  refine wpAnyH_take (i := 7) (oi := { dst := some 70, op := Go.Op.move (Go.Operand.tmp 5), type := 25, pos := "graft.go:74", after := #[], guard := none }) (v := .slice sa2 sl cs2) rfl (by kernel_rfl) (by kernel_rfl) (by kernel_rfl) (fun _ _ _ h => h) (Or.inl ⟨by rfl, fun w _ => by go_simp⟩) (by assumption) ?_
  try simp only [Act.put, List.setIfInBounds_toArray, List.set_cons_zero, List.set_cons_succ]
  refine wpAnyH_take (i := 9) (oi := { dst := some 72, op := Go.Op.fieldAddr 28 (Go.Operand.tmp 7) 2, type := 0, pos := "graft.go:74", after := #[], guard := none }) (v := .pointer (some ⟨w.heap.size + 1, 2, none⟩)) rfl (by kernel_rfl) (by kernel_rfl) (by kernel_rfl) (fun _ _ _ h => h) (Or.inl ⟨by rfl, fun w _ => by go_simp⟩) (by assumption) ?_
  try simp only [Act.put, List.setIfInBounds_toArray, List.set_cons_zero, List.set_cons_succ]
  refine wpAnyH_take (i := 11) (oi := { dst := some 74, op := Go.Op.move (Go.Operand.tmp 2), type := 3, pos := "graft.go:74", after := #[], guard := none }) (v := .int .i64 (a : Int)) rfl (by kernel_rfl) (by kernel_rfl) (by kernel_rfl) (fun _ _ _ h => h) (Or.inl ⟨by rfl, fun w _ => by go_simp⟩) (by assumption) ?_
  try simp only [Act.put, List.setIfInBounds_toArray, List.set_cons_zero, List.set_cons_succ]
  refine wpAnyH_take (i := 12) (oi := { dst := some 75, op := Go.Op.move (Go.Operand.tmp 3), type := 3, pos := "graft.go:74", after := #[], guard := none }) (v := .int .i64 (m : Int)) rfl (by kernel_rfl) (by kernel_rfl) (by kernel_rfl) (fun _ _ _ h => h) (Or.inl ⟨by rfl, fun w _ => by go_simp⟩) (by assumption) ?_
  try simp only [Act.put, List.setIfInBounds_toArray, List.set_cons_zero, List.set_cons_succ]
  refine wpAnyH_take (i := 14) (oi := { dst := some 77, op := Go.Op.move (Go.Operand.tmp 2), type := 3, pos := "graft.go:74", after := #[], guard := none }) (v := .int .i64 (a : Int)) rfl (by kernel_rfl) (by kernel_rfl) (by kernel_rfl) (fun _ _ _ h => h) (Or.inl ⟨by rfl, fun w _ => by go_simp⟩) (by assumption) ?_
  try simp only [Act.put, List.setIfInBounds_toArray, List.set_cons_zero, List.set_cons_succ]
  refine wpAnyH_take (i := 15) (oi := { dst := some 78, op := Go.Op.move (Go.Operand.tmp 4), type := 26, pos := "graft.go:74", after := #[], guard := none }) (v := .slice ka2 kk ck2) rfl (by kernel_rfl) (by kernel_rfl) (by kernel_rfl) (fun _ _ _ h => h) (Or.inl ⟨by rfl, fun w _ => by go_simp⟩) (by assumption) ?_
  try simp only [Act.put, List.setIfInBounds_toArray, List.set_cons_zero, List.set_cons_succ]
  refine wpAnyH_ready (rs := [1, 10]) (by kernel_rfl) (by simp) ?_
  refine AllReadyH.cons (o := { dst := some 64, op := Go.Op.load 25 (Go.Operand.tmp 63), type := 25, pos := "graft.go:74", after := #[{ on := 0, ground := Go.Ground.data }], guard := none }) rfl (fun K hK => ?_) (AllReadyH.cons (o := { dst := some 73, op := Go.Op.load 26 (Go.Operand.tmp 72), type := 26, pos := "graft.go:74", after := #[{ on := 9, ground := Go.Ground.data }], guard := none }) rfl (fun K hK => ?_) (AllReadyH.nil))
  · have hl1 := (HC.out _ (HV2.out.trans dd)).2.2.1
    go_simp
    refine hK.out _ _ trivial (fun _ => ?_)
    clear hK K
    try simp only [Act.put, List.setIfInBounds_toArray, List.set_cons_zero, List.set_cons_succ]
    refine wpAnyH_ready (rs := [5, 10]) (by kernel_rfl) (by simp) ?_
    refine AllReadyH.cons (o := { dst := some 68, op := Go.Op.call { callee := Go.Callee.value (Go.Operand.func 15), args := #[Go.Operand.tmp 64, Go.Operand.tmp 65, Go.Operand.tmp 67], argTypes := #[25, 3, 3] }, type := 25, pos := "graft.go:75", after := #[{ on := 1, ground := Go.Ground.data }, { on := 2, ground := Go.Ground.data }, { on := 4, ground := Go.Ground.data }], guard := none }) rfl (fun K hK => ?_) (AllReadyH.cons (o := { dst := some 73, op := Go.Op.load 26 (Go.Operand.tmp 72), type := 26, pos := "graft.go:74", after := #[{ on := 9, ground := Go.Ground.data }], guard := none }) rfl (fun K hK => ?_) (AllReadyH.nil))
    · go_simp
      go_at_call 15
      refine (HW1.out _ (t1.trans (HV2.out.trans dd))).mono ?_
      rintro e Y1 ⟨ao1, c1, rfl, own1, q1⟩
      try go_wp2_with fail
      have v1 := (HV2.out.trans dd).trans q1
      refine hK.out _ _ trivial (fun _ => ?_)
      clear hK K
      try simp only [Act.put, List.setIfInBounds_toArray, List.set_cons_zero, List.set_cons_succ]
      refine wpAnyH_ready (rs := [8, 10]) (by kernel_rfl) (by simp) ?_
      refine AllReadyH.cons (o := { dst := some 71, op := Go.Op.call { callee := Go.Callee.value (Go.Operand.func 14), args := #[Go.Operand.tmp 68, Go.Operand.tmp 69, Go.Operand.tmp 70], argTypes := #[25, 3, 25] }, type := 25, pos := "graft.go:75", after := #[{ on := 5, ground := Go.Ground.data }, { on := 6, ground := Go.Ground.data }, { on := 7, ground := Go.Ground.data }, { on := 5, ground := Go.Ground.chain }], guard := none }) rfl (fun K hK => ?_) (AllReadyH.cons (o := { dst := some 73, op := Go.Op.load 26 (Go.Operand.tmp 72), type := 26, pos := "graft.go:74", after := #[{ on := 9, ground := Go.Ground.data }], guard := none }) rfl (fun K hK => ?_) (AllReadyH.nil))
      · go_simp
        go_at_call 14
        refine (HX1.out _ _ _ _ (t1.trans v1) own1).mono ?_
        rintro e Y2 ⟨ao2, c2, rfl, own2, q2⟩
        try go_wp2_with fail
        have v2 := v1.trans q2
        refine hK.out _ _ trivial (fun _ => ?_)
        clear hK K
        try simp only [Act.put, List.setIfInBounds_toArray, List.set_cons_zero, List.set_cons_succ]
        refine wpAnyH_ready (rs := [10]) (by kernel_rfl) (by simp) ?_
        refine AllReadyH.cons (o := { dst := some 73, op := Go.Op.load 26 (Go.Operand.tmp 72), type := 26, pos := "graft.go:74", after := #[{ on := 9, ground := Go.Ground.data }], guard := none }) rfl (fun K hK => ?_) (AllReadyH.nil)
        have hl10 := (HC.out _ v2).2.2.2
        go_simp
        refine hK.out _ _ trivial (fun _ => ?_)
        clear hK K
        try simp only [Act.put, List.setIfInBounds_toArray, List.set_cons_zero, List.set_cons_succ]
        refine wpAnyH_ready (rs := [13]) (by kernel_rfl) (by simp) ?_
        refine AllReadyH.cons (o := { dst := some 76, op := Go.Op.call { callee := Go.Callee.value (Go.Operand.func 17), args := #[Go.Operand.tmp 73, Go.Operand.tmp 74, Go.Operand.tmp 75], argTypes := #[26, 3, 3] }, type := 26, pos := "graft.go:76", after := #[{ on := 10, ground := Go.Ground.data }, { on := 11, ground := Go.Ground.data }, { on := 12, ground := Go.Ground.data }, { on := 8, ground := Go.Ground.chain }], guard := none }) rfl (fun K hK => ?_) (AllReadyH.nil)
        go_simp
        go_at_call 17
        refine (HW2.out _ (t1.trans v2)).mono ?_
        rintro e Y3 ⟨ao3, c3, rfl, own3, q3⟩
        try go_wp2_with fail
        have v3 := v2.trans q3
        refine hK.out _ _ trivial (fun _ => ?_)
        clear hK K
        try simp only [Act.put, List.setIfInBounds_toArray, List.set_cons_zero, List.set_cons_succ]
        refine wpAnyH_ready (rs := [16]) (by kernel_rfl) (by simp) ?_
        refine AllReadyH.cons (o := { dst := some 79, op := Go.Op.call { callee := Go.Callee.value (Go.Operand.func 16), args := #[Go.Operand.tmp 76, Go.Operand.tmp 77, Go.Operand.tmp 78], argTypes := #[26, 3, 26] }, type := 26, pos := "graft.go:76", after := #[{ on := 13, ground := Go.Ground.data }, { on := 14, ground := Go.Ground.data }, { on := 15, ground := Go.Ground.data }, { on := 13, ground := Go.Ground.chain }], guard := none }) rfl (fun K hK => ?_) (AllReadyH.nil)
        go_simp
        go_at_call 16
        refine (HX2.out _ _ _ _ (t1.trans v3) own3).mono ?_
        rintro e Y4 ⟨ao4, c4, rfl, own4, q4⟩
        try go_wp2_with fail
        have v4 := v3.trans q4
        refine hK.out _ _ trivial (fun _ => ?_)
        clear hK K
        try simp only [Act.put, List.setIfInBounds_toArray, List.set_cons_zero, List.set_cons_succ]
        refine wpAnyH_take (i := 17) (oi := { dst := some 80, op := Go.Op.build 28 #[(1, Go.Operand.tmp 71), (2, Go.Operand.tmp 79)], type := 28, pos := "graft.go:74", after := #[{ on := 8, ground := Go.Ground.data }, { on := 16, ground := Go.Ground.data }], guard := none }) (v := .agg #[.slice none 0 0, .slice ao2 n2 c2, .slice ao4 n4 c4]) rfl (by kernel_rfl) (by kernel_rfl) (by kernel_rfl) (fun _ _ _ h => h) (Or.inl ⟨by rfl, fun w _ => by go_simp⟩) (by assumption) ?_
        try simp only [Act.put, List.setIfInBounds_toArray, List.set_cons_zero, List.set_cons_succ]
        have r5 := HG1.out _ v4
        refine wpAnyH_ready (rs := [18]) (by kernel_rfl) (by simp) ?_
        refine AllReadyH.cons (o := { dst := none, op := Go.Op.store 28 (Go.Operand.tmp 7) (Go.Operand.tmp 80), type := 0, pos := "graft.go:74", after := #[{ on := 17, ground := Go.Ground.data }, { on := 16, ground := Go.Ground.chain }, { on := 0, ground := Go.Ground.phase }, { on := 1, ground := Go.Ground.phase }, { on := 2, ground := Go.Ground.phase }, { on := 3, ground := Go.Ground.phase }, { on := 4, ground := Go.Ground.phase }, { on := 5, ground := Go.Ground.phase }, { on := 6, ground := Go.Ground.phase }, { on := 7, ground := Go.Ground.phase }, { on := 8, ground := Go.Ground.phase }, { on := 9, ground := Go.Ground.phase }, { on := 10, ground := Go.Ground.phase }, { on := 11, ground := Go.Ground.phase }, { on := 12, ground := Go.Ground.phase }, { on := 13, ground := Go.Ground.phase }, { on := 14, ground := Go.Ground.phase }, { on := 15, ground := Go.Ground.phase }, { on := 16, ground := Go.Ground.phase }, { on := 17, ground := Go.Ground.phase }], guard := none }) rfl (fun K hK => ?_) (AllReadyH.nil)
        refine step_store_whole rfl 28 _ _ rfl (w.heap.size + 1) #[.slice none 0 0, .slice ao2 n2 c2, .slice ao4 n4 c4] _ 28 (by rfl) (by rfl) r5 rfl (by kernel_rfl) (by kernel_rfl) ?_
        intro W7 r7 f7
        refine hK.out _ _ trivial (fun _ => ?_)
        clear hK K
        refine wpAnyH_done (by kernel_rfl) ?_ _
        obtain ⟨hm1, hm2, hm3⟩ := HM.out
        have hz := HVZ.out
        have o2 := own_frameB own2 (Same.trans q3 q4) (fun _ _ f => f)
        have z4 := (t1.trans v4).size
        have zz1 : w.heap.size ≤ Y1.heap.size := (t1.trans v1).size
        have zz3 : w.heap.size ≤ Y3.heap.size := (t1.trans v3).size
        have HMD : Hid (∀ W, Same W7 W → MadeNd W w.heap.size ⟨none, 0, 0, 0, ao2, 0, 0, c2, ao4, 0, 0, c4⟩ M) := fun W s => (⟨by show World.ownsRow _ _ _ _ (.slice none M.ps.length 0) M.ps.length _; rw [hm1]; exact own_nil, by show World.ownsRow _ _ _ _ (.slice ao2 M.ss.length c2) M.ss.length _; rw [hm2]; exact own_base (own_frameB o2 f7 (fun kk hk e => type_ne o2 r5 (by decide) (by rw [← e]; exact hk))) zz1, by show World.ownsRow _ _ _ _ (.slice ao4 M.ks.length c4) M.ks.length _; rw [hm3]; exact own_base (own_frameB own4 f7 (fun kk hk e => type_ne own4 r5 (by decide) (by rw [← e]; exact hk))) zz3⟩ : MadeNd W7 w.heap.size ⟨none, 0, 0, 0, ao2, 0, 0, c2, ao4, 0, 0, c4⟩ M).same s
        have HCk2 : Hid (∀ W, Same W7 W → Calls Try.prog 18 #[frameV p q, .agg #[.slice none 0 0, .slice ao2 n2 c2, .slice ao4 n4 c4]] W fun e w' => e = .returned (.int .i64 0) ∧ Same W w') := fun W s => by
          have := HCk.out W _ _ (HMD.out W s)
          unfold ndV nodeV at this
          simp only at this
          rw [hm1, hm2, hm3] at this
          exact this
        obtain ⟨y0, y1⟩ := (HC.out _ v4).1
        have j0 : W7.cell? ⟨w.heap.size, 0, none⟩ = some (.int .i64 p) := (f7.cell (World.block_lt_of_cell? _ _ y0) (by simp)).trans y0
        have j1 : W7.cell? ⟨w.heap.size, 1, none⟩ = some (.int .i64 q) := (f7.cell (World.block_lt_of_cell? _ _ y1) (by simp)).trans y1
        have k0 : W7.cell? ⟨w.heap.size + 1, 0, none⟩ = some (.slice none 0 0) := (cell_of_row _ _ _ _ _ _ r7).trans rfl
        have k1 : W7.cell? ⟨w.heap.size + 1, 1, none⟩ = some (.slice ao2 n2 c2) := (cell_of_row _ _ _ _ _ _ r7).trans rfl
        have k2 : W7.cell? ⟨w.heap.size + 1, 2, none⟩ = some (.slice ao4 n4 c4) := (cell_of_row _ _ _ _ _ _ r7).trans rfl
        have r8 : W7.heap[w.heap.size + 1 + 1]? = some (.cells #[.slice none 0 0, .slice none 0 0, .slice none 0 0] 28 (0, 0)) := (f7.block _ (lt_of_heap (HG.out _ v4)) (by omega)).trans (HG.out _ v4)
        have w7 : Same w W7 := Fr.trans (t1.trans v4) f7 (fun i hi e => by omega)
        have HR8 : Hid (W7.heap[w.heap.size + 1 + 1]? = some (.cells #[.slice none 0 0, .slice none 0 0, .slice none 0 0] 28 (0, 0)) ∧ Same w W7) := ⟨r8, w7⟩
        have HK7 : Hid (∀ W, Same W7 W → W.cell? ⟨w.heap.size + 1, 0, none⟩ = some (.slice none 0 0) ∧ W.cell? ⟨w.heap.size + 1, 1, none⟩ = some (.slice ao2 n2 c2) ∧ W.cell? ⟨w.heap.size + 1, 2, none⟩ = some (.slice ao4 n4 c4)) := fun W s => ⟨s.keep k0, s.keep k1, s.keep k2⟩
        clear hm1 hm2 hm3 hz o2 z4 zz1 zz3 y0 y1 r8 w7 r5 r7 f7 own1 own2 own3 own4 q1 q2 q3 q4 v1 v2 v3 v4 hl1 hl10 u1 u2 dd
        go_wp2_with fail
        refine (HCk2.out _ (Fr.refl _ _)).mono ?_
        rintro e W9 ⟨rfl, s9⟩
        clear k0 k1 k2 j0 j1
        obtain ⟨k0, k1, k2⟩ := HK7.out _ s9
        have hz := HVZ.out
        have r6 : W9.heap[w.heap.size + 1 + 1]? = some (.cells #[.slice none 0 0, .slice none 0 0, .slice none 0 0] 28 (0, 0)) := (s9.block _ (lt_of_heap HR8.out.1) (fun e => e)).trans HR8.out.1
        go_wp2_with (refine wpList_store_whole (by rfl) 28 _ _ (by rfl) (w.heap.size + 1 + 1) #[.slice none 0 0, .slice ao2 n2 c2, .slice ao4 n4 c4] _ 28 (by rfl) (by rfl) r6 rfl (by kernel_rfl) (by kernel_rfl) ?_; intro W8 r8 f8)
        have hm := HMD.out _ s9
        refine bodyPost_ret (results_row_tmp (p := 12) (u := 13) (ty := 28) (by kernel_rfl) _ _ (w.heap.size + 1 + 1) 28 _ (0, 0) _ rfl r8 Try.underlying28 rfl (by kernel_rfl)) rfl ⟨_, ?_, ⟨own_frameB hm.op f8 (fun kk hk e => type_ne hm.op r6 (by decide) (by rw [← e]; exact hk)), own_frameB hm.os f8 (fun kk hk e => type_ne hm.os r6 (by decide) (by rw [← e]; exact hk)), own_frameB hm.ok f8 (fun kk hk e => type_ne hm.ok r6 (by decide) (by rw [← e]; exact hk))⟩, Fr.trans (HR8.out.2.trans s9) f8 (fun i hi e => by omega)⟩
        obtain ⟨hm1, hm2, hm3⟩ := HM.out
        simp only
        rw [hm1, hm2, hm3]
        rfl
      · have hl10 := (HC.out _ v1).2.2.2
        go_simp
        refine hK.out _ _ trivial (fun _ => ?_)
        clear hK K
        try simp only [Act.put, List.setIfInBounds_toArray, List.set_cons_zero, List.set_cons_succ]
        refine wpAnyH_ready (rs := [8]) (by kernel_rfl) (by simp) ?_
        refine AllReadyH.cons (o := { dst := some 71, op := Go.Op.call { callee := Go.Callee.value (Go.Operand.func 14), args := #[Go.Operand.tmp 68, Go.Operand.tmp 69, Go.Operand.tmp 70], argTypes := #[25, 3, 25] }, type := 25, pos := "graft.go:75", after := #[{ on := 5, ground := Go.Ground.data }, { on := 6, ground := Go.Ground.data }, { on := 7, ground := Go.Ground.data }, { on := 5, ground := Go.Ground.chain }], guard := none }) rfl (fun K hK => ?_) (AllReadyH.nil)
        go_simp
        go_at_call 14
        refine (HX1.out _ _ _ _ (t1.trans v1) own1).mono ?_
        rintro e Y2 ⟨ao2, c2, rfl, own2, q2⟩
        try go_wp2_with fail
        have v2 := v1.trans q2
        refine hK.out _ _ trivial (fun _ => ?_)
        clear hK K
        try simp only [Act.put, List.setIfInBounds_toArray, List.set_cons_zero, List.set_cons_succ]
        refine wpAnyH_ready (rs := [13]) (by kernel_rfl) (by simp) ?_
        refine AllReadyH.cons (o := { dst := some 76, op := Go.Op.call { callee := Go.Callee.value (Go.Operand.func 17), args := #[Go.Operand.tmp 73, Go.Operand.tmp 74, Go.Operand.tmp 75], argTypes := #[26, 3, 3] }, type := 26, pos := "graft.go:76", after := #[{ on := 10, ground := Go.Ground.data }, { on := 11, ground := Go.Ground.data }, { on := 12, ground := Go.Ground.data }, { on := 8, ground := Go.Ground.chain }], guard := none }) rfl (fun K hK => ?_) (AllReadyH.nil)
        go_simp
        go_at_call 17
        refine (HW2.out _ (t1.trans v2)).mono ?_
        rintro e Y3 ⟨ao3, c3, rfl, own3, q3⟩
        try go_wp2_with fail
        have v3 := v2.trans q3
        refine hK.out _ _ trivial (fun _ => ?_)
        clear hK K
        try simp only [Act.put, List.setIfInBounds_toArray, List.set_cons_zero, List.set_cons_succ]
        refine wpAnyH_ready (rs := [16]) (by kernel_rfl) (by simp) ?_
        refine AllReadyH.cons (o := { dst := some 79, op := Go.Op.call { callee := Go.Callee.value (Go.Operand.func 16), args := #[Go.Operand.tmp 76, Go.Operand.tmp 77, Go.Operand.tmp 78], argTypes := #[26, 3, 26] }, type := 26, pos := "graft.go:76", after := #[{ on := 13, ground := Go.Ground.data }, { on := 14, ground := Go.Ground.data }, { on := 15, ground := Go.Ground.data }, { on := 13, ground := Go.Ground.chain }], guard := none }) rfl (fun K hK => ?_) (AllReadyH.nil)
        go_simp
        go_at_call 16
        refine (HX2.out _ _ _ _ (t1.trans v3) own3).mono ?_
        rintro e Y4 ⟨ao4, c4, rfl, own4, q4⟩
        try go_wp2_with fail
        have v4 := v3.trans q4
        refine hK.out _ _ trivial (fun _ => ?_)
        clear hK K
        try simp only [Act.put, List.setIfInBounds_toArray, List.set_cons_zero, List.set_cons_succ]
        refine wpAnyH_take (i := 17) (oi := { dst := some 80, op := Go.Op.build 28 #[(1, Go.Operand.tmp 71), (2, Go.Operand.tmp 79)], type := 28, pos := "graft.go:74", after := #[{ on := 8, ground := Go.Ground.data }, { on := 16, ground := Go.Ground.data }], guard := none }) (v := .agg #[.slice none 0 0, .slice ao2 n2 c2, .slice ao4 n4 c4]) rfl (by kernel_rfl) (by kernel_rfl) (by kernel_rfl) (fun _ _ _ h => h) (Or.inl ⟨by rfl, fun w _ => by go_simp⟩) (by assumption) ?_
        try simp only [Act.put, List.setIfInBounds_toArray, List.set_cons_zero, List.set_cons_succ]
        have r5 := HG1.out _ v4
        refine wpAnyH_ready (rs := [18]) (by kernel_rfl) (by simp) ?_
        refine AllReadyH.cons (o := { dst := none, op := Go.Op.store 28 (Go.Operand.tmp 7) (Go.Operand.tmp 80), type := 0, pos := "graft.go:74", after := #[{ on := 17, ground := Go.Ground.data }, { on := 16, ground := Go.Ground.chain }, { on := 0, ground := Go.Ground.phase }, { on := 1, ground := Go.Ground.phase }, { on := 2, ground := Go.Ground.phase }, { on := 3, ground := Go.Ground.phase }, { on := 4, ground := Go.Ground.phase }, { on := 5, ground := Go.Ground.phase }, { on := 6, ground := Go.Ground.phase }, { on := 7, ground := Go.Ground.phase }, { on := 8, ground := Go.Ground.phase }, { on := 9, ground := Go.Ground.phase }, { on := 10, ground := Go.Ground.phase }, { on := 11, ground := Go.Ground.phase }, { on := 12, ground := Go.Ground.phase }, { on := 13, ground := Go.Ground.phase }, { on := 14, ground := Go.Ground.phase }, { on := 15, ground := Go.Ground.phase }, { on := 16, ground := Go.Ground.phase }, { on := 17, ground := Go.Ground.phase }], guard := none }) rfl (fun K hK => ?_) (AllReadyH.nil)
        refine step_store_whole rfl 28 _ _ rfl (w.heap.size + 1) #[.slice none 0 0, .slice ao2 n2 c2, .slice ao4 n4 c4] _ 28 (by rfl) (by rfl) r5 rfl (by kernel_rfl) (by kernel_rfl) ?_
        intro W7 r7 f7
        refine hK.out _ _ trivial (fun _ => ?_)
        clear hK K
        refine wpAnyH_done (by kernel_rfl) ?_ _
        obtain ⟨hm1, hm2, hm3⟩ := HM.out
        have hz := HVZ.out
        have o2 := own_frameB own2 (Same.trans q3 q4) (fun _ _ f => f)
        have z4 := (t1.trans v4).size
        have zz1 : w.heap.size ≤ Y1.heap.size := (t1.trans v1).size
        have zz3 : w.heap.size ≤ Y3.heap.size := (t1.trans v3).size
        have HMD : Hid (∀ W, Same W7 W → MadeNd W w.heap.size ⟨none, 0, 0, 0, ao2, 0, 0, c2, ao4, 0, 0, c4⟩ M) := fun W s => (⟨by show World.ownsRow _ _ _ _ (.slice none M.ps.length 0) M.ps.length _; rw [hm1]; exact own_nil, by show World.ownsRow _ _ _ _ (.slice ao2 M.ss.length c2) M.ss.length _; rw [hm2]; exact own_base (own_frameB o2 f7 (fun kk hk e => type_ne o2 r5 (by decide) (by rw [← e]; exact hk))) zz1, by show World.ownsRow _ _ _ _ (.slice ao4 M.ks.length c4) M.ks.length _; rw [hm3]; exact own_base (own_frameB own4 f7 (fun kk hk e => type_ne own4 r5 (by decide) (by rw [← e]; exact hk))) zz3⟩ : MadeNd W7 w.heap.size ⟨none, 0, 0, 0, ao2, 0, 0, c2, ao4, 0, 0, c4⟩ M).same s
        have HCk2 : Hid (∀ W, Same W7 W → Calls Try.prog 18 #[frameV p q, .agg #[.slice none 0 0, .slice ao2 n2 c2, .slice ao4 n4 c4]] W fun e w' => e = .returned (.int .i64 0) ∧ Same W w') := fun W s => by
          have := HCk.out W _ _ (HMD.out W s)
          unfold ndV nodeV at this
          simp only at this
          rw [hm1, hm2, hm3] at this
          exact this
        obtain ⟨y0, y1⟩ := (HC.out _ v4).1
        have j0 : W7.cell? ⟨w.heap.size, 0, none⟩ = some (.int .i64 p) := (f7.cell (World.block_lt_of_cell? _ _ y0) (by simp)).trans y0
        have j1 : W7.cell? ⟨w.heap.size, 1, none⟩ = some (.int .i64 q) := (f7.cell (World.block_lt_of_cell? _ _ y1) (by simp)).trans y1
        have k0 : W7.cell? ⟨w.heap.size + 1, 0, none⟩ = some (.slice none 0 0) := (cell_of_row _ _ _ _ _ _ r7).trans rfl
        have k1 : W7.cell? ⟨w.heap.size + 1, 1, none⟩ = some (.slice ao2 n2 c2) := (cell_of_row _ _ _ _ _ _ r7).trans rfl
        have k2 : W7.cell? ⟨w.heap.size + 1, 2, none⟩ = some (.slice ao4 n4 c4) := (cell_of_row _ _ _ _ _ _ r7).trans rfl
        have r8 : W7.heap[w.heap.size + 1 + 1]? = some (.cells #[.slice none 0 0, .slice none 0 0, .slice none 0 0] 28 (0, 0)) := (f7.block _ (lt_of_heap (HG.out _ v4)) (by omega)).trans (HG.out _ v4)
        have w7 : Same w W7 := Fr.trans (t1.trans v4) f7 (fun i hi e => by omega)
        have HR8 : Hid (W7.heap[w.heap.size + 1 + 1]? = some (.cells #[.slice none 0 0, .slice none 0 0, .slice none 0 0] 28 (0, 0)) ∧ Same w W7) := ⟨r8, w7⟩
        have HK7 : Hid (∀ W, Same W7 W → W.cell? ⟨w.heap.size + 1, 0, none⟩ = some (.slice none 0 0) ∧ W.cell? ⟨w.heap.size + 1, 1, none⟩ = some (.slice ao2 n2 c2) ∧ W.cell? ⟨w.heap.size + 1, 2, none⟩ = some (.slice ao4 n4 c4)) := fun W s => ⟨s.keep k0, s.keep k1, s.keep k2⟩
        clear hm1 hm2 hm3 hz o2 z4 zz1 zz3 y0 y1 r8 w7 r5 r7 f7 own1 own2 own3 own4 q1 q2 q3 q4 v1 v2 v3 v4 hl1 hl10 u1 u2 dd
        go_wp2_with fail
        refine (HCk2.out _ (Fr.refl _ _)).mono ?_
        rintro e W9 ⟨rfl, s9⟩
        clear k0 k1 k2 j0 j1
        obtain ⟨k0, k1, k2⟩ := HK7.out _ s9
        have hz := HVZ.out
        have r6 : W9.heap[w.heap.size + 1 + 1]? = some (.cells #[.slice none 0 0, .slice none 0 0, .slice none 0 0] 28 (0, 0)) := (s9.block _ (lt_of_heap HR8.out.1) (fun e => e)).trans HR8.out.1
        go_wp2_with (refine wpList_store_whole (by rfl) 28 _ _ (by rfl) (w.heap.size + 1 + 1) #[.slice none 0 0, .slice ao2 n2 c2, .slice ao4 n4 c4] _ 28 (by rfl) (by rfl) r6 rfl (by kernel_rfl) (by kernel_rfl) ?_; intro W8 r8 f8)
        have hm := HMD.out _ s9
        refine bodyPost_ret (results_row_tmp (p := 12) (u := 13) (ty := 28) (by kernel_rfl) _ _ (w.heap.size + 1 + 1) 28 _ (0, 0) _ rfl r8 Try.underlying28 rfl (by kernel_rfl)) rfl ⟨_, ?_, ⟨own_frameB hm.op f8 (fun kk hk e => type_ne hm.op r6 (by decide) (by rw [← e]; exact hk)), own_frameB hm.os f8 (fun kk hk e => type_ne hm.os r6 (by decide) (by rw [← e]; exact hk)), own_frameB hm.ok f8 (fun kk hk e => type_ne hm.ok r6 (by decide) (by rw [← e]; exact hk))⟩, Fr.trans (HR8.out.2.trans s9) f8 (fun i hi e => by omega)⟩
        obtain ⟨hm1, hm2, hm3⟩ := HM.out
        simp only
        rw [hm1, hm2, hm3]
        rfl
    · have hl10 := (HC.out _ (HV2.out.trans dd)).2.2.2
      go_simp
      refine hK.out _ _ trivial (fun _ => ?_)
      clear hK K
      try simp only [Act.put, List.setIfInBounds_toArray, List.set_cons_zero, List.set_cons_succ]
      refine wpAnyH_ready (rs := [5]) (by kernel_rfl) (by simp) ?_
      refine AllReadyH.cons (o := { dst := some 68, op := Go.Op.call { callee := Go.Callee.value (Go.Operand.func 15), args := #[Go.Operand.tmp 64, Go.Operand.tmp 65, Go.Operand.tmp 67], argTypes := #[25, 3, 3] }, type := 25, pos := "graft.go:75", after := #[{ on := 1, ground := Go.Ground.data }, { on := 2, ground := Go.Ground.data }, { on := 4, ground := Go.Ground.data }], guard := none }) rfl (fun K hK => ?_) (AllReadyH.nil)
      go_simp
      go_at_call 15
      refine (HW1.out _ (t1.trans (HV2.out.trans dd))).mono ?_
      rintro e Y1 ⟨ao1, c1, rfl, own1, q1⟩
      try go_wp2_with fail
      have v1 := (HV2.out.trans dd).trans q1
      refine hK.out _ _ trivial (fun _ => ?_)
      clear hK K
      try simp only [Act.put, List.setIfInBounds_toArray, List.set_cons_zero, List.set_cons_succ]
      refine wpAnyH_ready (rs := [8]) (by kernel_rfl) (by simp) ?_
      refine AllReadyH.cons (o := { dst := some 71, op := Go.Op.call { callee := Go.Callee.value (Go.Operand.func 14), args := #[Go.Operand.tmp 68, Go.Operand.tmp 69, Go.Operand.tmp 70], argTypes := #[25, 3, 25] }, type := 25, pos := "graft.go:75", after := #[{ on := 5, ground := Go.Ground.data }, { on := 6, ground := Go.Ground.data }, { on := 7, ground := Go.Ground.data }, { on := 5, ground := Go.Ground.chain }], guard := none }) rfl (fun K hK => ?_) (AllReadyH.nil)
      go_simp
      go_at_call 14
      refine (HX1.out _ _ _ _ (t1.trans v1) own1).mono ?_
      rintro e Y2 ⟨ao2, c2, rfl, own2, q2⟩
      try go_wp2_with fail
      have v2 := v1.trans q2
      refine hK.out _ _ trivial (fun _ => ?_)
      clear hK K
      try simp only [Act.put, List.setIfInBounds_toArray, List.set_cons_zero, List.set_cons_succ]
      refine wpAnyH_ready (rs := [13]) (by kernel_rfl) (by simp) ?_
      refine AllReadyH.cons (o := { dst := some 76, op := Go.Op.call { callee := Go.Callee.value (Go.Operand.func 17), args := #[Go.Operand.tmp 73, Go.Operand.tmp 74, Go.Operand.tmp 75], argTypes := #[26, 3, 3] }, type := 26, pos := "graft.go:76", after := #[{ on := 10, ground := Go.Ground.data }, { on := 11, ground := Go.Ground.data }, { on := 12, ground := Go.Ground.data }, { on := 8, ground := Go.Ground.chain }], guard := none }) rfl (fun K hK => ?_) (AllReadyH.nil)
      go_simp
      go_at_call 17
      refine (HW2.out _ (t1.trans v2)).mono ?_
      rintro e Y3 ⟨ao3, c3, rfl, own3, q3⟩
      try go_wp2_with fail
      have v3 := v2.trans q3
      refine hK.out _ _ trivial (fun _ => ?_)
      clear hK K
      try simp only [Act.put, List.setIfInBounds_toArray, List.set_cons_zero, List.set_cons_succ]
      refine wpAnyH_ready (rs := [16]) (by kernel_rfl) (by simp) ?_
      refine AllReadyH.cons (o := { dst := some 79, op := Go.Op.call { callee := Go.Callee.value (Go.Operand.func 16), args := #[Go.Operand.tmp 76, Go.Operand.tmp 77, Go.Operand.tmp 78], argTypes := #[26, 3, 26] }, type := 26, pos := "graft.go:76", after := #[{ on := 13, ground := Go.Ground.data }, { on := 14, ground := Go.Ground.data }, { on := 15, ground := Go.Ground.data }, { on := 13, ground := Go.Ground.chain }], guard := none }) rfl (fun K hK => ?_) (AllReadyH.nil)
      go_simp
      go_at_call 16
      refine (HX2.out _ _ _ _ (t1.trans v3) own3).mono ?_
      rintro e Y4 ⟨ao4, c4, rfl, own4, q4⟩
      try go_wp2_with fail
      have v4 := v3.trans q4
      refine hK.out _ _ trivial (fun _ => ?_)
      clear hK K
      try simp only [Act.put, List.setIfInBounds_toArray, List.set_cons_zero, List.set_cons_succ]
      refine wpAnyH_take (i := 17) (oi := { dst := some 80, op := Go.Op.build 28 #[(1, Go.Operand.tmp 71), (2, Go.Operand.tmp 79)], type := 28, pos := "graft.go:74", after := #[{ on := 8, ground := Go.Ground.data }, { on := 16, ground := Go.Ground.data }], guard := none }) (v := .agg #[.slice none 0 0, .slice ao2 n2 c2, .slice ao4 n4 c4]) rfl (by kernel_rfl) (by kernel_rfl) (by kernel_rfl) (fun _ _ _ h => h) (Or.inl ⟨by rfl, fun w _ => by go_simp⟩) (by assumption) ?_
      try simp only [Act.put, List.setIfInBounds_toArray, List.set_cons_zero, List.set_cons_succ]
      have r5 := HG1.out _ v4
      refine wpAnyH_ready (rs := [18]) (by kernel_rfl) (by simp) ?_
      refine AllReadyH.cons (o := { dst := none, op := Go.Op.store 28 (Go.Operand.tmp 7) (Go.Operand.tmp 80), type := 0, pos := "graft.go:74", after := #[{ on := 17, ground := Go.Ground.data }, { on := 16, ground := Go.Ground.chain }, { on := 0, ground := Go.Ground.phase }, { on := 1, ground := Go.Ground.phase }, { on := 2, ground := Go.Ground.phase }, { on := 3, ground := Go.Ground.phase }, { on := 4, ground := Go.Ground.phase }, { on := 5, ground := Go.Ground.phase }, { on := 6, ground := Go.Ground.phase }, { on := 7, ground := Go.Ground.phase }, { on := 8, ground := Go.Ground.phase }, { on := 9, ground := Go.Ground.phase }, { on := 10, ground := Go.Ground.phase }, { on := 11, ground := Go.Ground.phase }, { on := 12, ground := Go.Ground.phase }, { on := 13, ground := Go.Ground.phase }, { on := 14, ground := Go.Ground.phase }, { on := 15, ground := Go.Ground.phase }, { on := 16, ground := Go.Ground.phase }, { on := 17, ground := Go.Ground.phase }], guard := none }) rfl (fun K hK => ?_) (AllReadyH.nil)
      refine step_store_whole rfl 28 _ _ rfl (w.heap.size + 1) #[.slice none 0 0, .slice ao2 n2 c2, .slice ao4 n4 c4] _ 28 (by rfl) (by rfl) r5 rfl (by kernel_rfl) (by kernel_rfl) ?_
      intro W7 r7 f7
      refine hK.out _ _ trivial (fun _ => ?_)
      clear hK K
      refine wpAnyH_done (by kernel_rfl) ?_ _
      obtain ⟨hm1, hm2, hm3⟩ := HM.out
      have hz := HVZ.out
      have o2 := own_frameB own2 (Same.trans q3 q4) (fun _ _ f => f)
      have z4 := (t1.trans v4).size
      have zz1 : w.heap.size ≤ Y1.heap.size := (t1.trans v1).size
      have zz3 : w.heap.size ≤ Y3.heap.size := (t1.trans v3).size
      have HMD : Hid (∀ W, Same W7 W → MadeNd W w.heap.size ⟨none, 0, 0, 0, ao2, 0, 0, c2, ao4, 0, 0, c4⟩ M) := fun W s => (⟨by show World.ownsRow _ _ _ _ (.slice none M.ps.length 0) M.ps.length _; rw [hm1]; exact own_nil, by show World.ownsRow _ _ _ _ (.slice ao2 M.ss.length c2) M.ss.length _; rw [hm2]; exact own_base (own_frameB o2 f7 (fun kk hk e => type_ne o2 r5 (by decide) (by rw [← e]; exact hk))) zz1, by show World.ownsRow _ _ _ _ (.slice ao4 M.ks.length c4) M.ks.length _; rw [hm3]; exact own_base (own_frameB own4 f7 (fun kk hk e => type_ne own4 r5 (by decide) (by rw [← e]; exact hk))) zz3⟩ : MadeNd W7 w.heap.size ⟨none, 0, 0, 0, ao2, 0, 0, c2, ao4, 0, 0, c4⟩ M).same s
      have HCk2 : Hid (∀ W, Same W7 W → Calls Try.prog 18 #[frameV p q, .agg #[.slice none 0 0, .slice ao2 n2 c2, .slice ao4 n4 c4]] W fun e w' => e = .returned (.int .i64 0) ∧ Same W w') := fun W s => by
        have := HCk.out W _ _ (HMD.out W s)
        unfold ndV nodeV at this
        simp only at this
        rw [hm1, hm2, hm3] at this
        exact this
      obtain ⟨y0, y1⟩ := (HC.out _ v4).1
      have j0 : W7.cell? ⟨w.heap.size, 0, none⟩ = some (.int .i64 p) := (f7.cell (World.block_lt_of_cell? _ _ y0) (by simp)).trans y0
      have j1 : W7.cell? ⟨w.heap.size, 1, none⟩ = some (.int .i64 q) := (f7.cell (World.block_lt_of_cell? _ _ y1) (by simp)).trans y1
      have k0 : W7.cell? ⟨w.heap.size + 1, 0, none⟩ = some (.slice none 0 0) := (cell_of_row _ _ _ _ _ _ r7).trans rfl
      have k1 : W7.cell? ⟨w.heap.size + 1, 1, none⟩ = some (.slice ao2 n2 c2) := (cell_of_row _ _ _ _ _ _ r7).trans rfl
      have k2 : W7.cell? ⟨w.heap.size + 1, 2, none⟩ = some (.slice ao4 n4 c4) := (cell_of_row _ _ _ _ _ _ r7).trans rfl
      have r8 : W7.heap[w.heap.size + 1 + 1]? = some (.cells #[.slice none 0 0, .slice none 0 0, .slice none 0 0] 28 (0, 0)) := (f7.block _ (lt_of_heap (HG.out _ v4)) (by omega)).trans (HG.out _ v4)
      have w7 : Same w W7 := Fr.trans (t1.trans v4) f7 (fun i hi e => by omega)
      have HR8 : Hid (W7.heap[w.heap.size + 1 + 1]? = some (.cells #[.slice none 0 0, .slice none 0 0, .slice none 0 0] 28 (0, 0)) ∧ Same w W7) := ⟨r8, w7⟩
      have HK7 : Hid (∀ W, Same W7 W → W.cell? ⟨w.heap.size + 1, 0, none⟩ = some (.slice none 0 0) ∧ W.cell? ⟨w.heap.size + 1, 1, none⟩ = some (.slice ao2 n2 c2) ∧ W.cell? ⟨w.heap.size + 1, 2, none⟩ = some (.slice ao4 n4 c4)) := fun W s => ⟨s.keep k0, s.keep k1, s.keep k2⟩
      clear hm1 hm2 hm3 hz o2 z4 zz1 zz3 y0 y1 r8 w7 r5 r7 f7 own1 own2 own3 own4 q1 q2 q3 q4 v1 v2 v3 v4 hl1 hl10 u1 u2 dd
      go_wp2_with fail
      refine (HCk2.out _ (Fr.refl _ _)).mono ?_
      rintro e W9 ⟨rfl, s9⟩
      clear k0 k1 k2 j0 j1
      obtain ⟨k0, k1, k2⟩ := HK7.out _ s9
      have hz := HVZ.out
      have r6 : W9.heap[w.heap.size + 1 + 1]? = some (.cells #[.slice none 0 0, .slice none 0 0, .slice none 0 0] 28 (0, 0)) := (s9.block _ (lt_of_heap HR8.out.1) (fun e => e)).trans HR8.out.1
      go_wp2_with (refine wpList_store_whole (by rfl) 28 _ _ (by rfl) (w.heap.size + 1 + 1) #[.slice none 0 0, .slice ao2 n2 c2, .slice ao4 n4 c4] _ 28 (by rfl) (by rfl) r6 rfl (by kernel_rfl) (by kernel_rfl) ?_; intro W8 r8 f8)
      have hm := HMD.out _ s9
      refine bodyPost_ret (results_row_tmp (p := 12) (u := 13) (ty := 28) (by kernel_rfl) _ _ (w.heap.size + 1 + 1) 28 _ (0, 0) _ rfl r8 Try.underlying28 rfl (by kernel_rfl)) rfl ⟨_, ?_, ⟨own_frameB hm.op f8 (fun kk hk e => type_ne hm.op r6 (by decide) (by rw [← e]; exact hk)), own_frameB hm.os f8 (fun kk hk e => type_ne hm.os r6 (by decide) (by rw [← e]; exact hk)), own_frameB hm.ok f8 (fun kk hk e => type_ne hm.ok r6 (by decide) (by rw [← e]; exact hk))⟩, Fr.trans (HR8.out.2.trans s9) f8 (fun i hi e => by omega)⟩
      obtain ⟨hm1, hm2, hm3⟩ := HM.out
      simp only
      rw [hm1, hm2, hm3]
      rfl
  · have hl10 := (HC.out _ (HV2.out.trans dd)).2.2.2
    go_simp
    refine hK.out _ _ trivial (fun _ => ?_)
    clear hK K
    try simp only [Act.put, List.setIfInBounds_toArray, List.set_cons_zero, List.set_cons_succ]
    refine wpAnyH_ready (rs := [1]) (by kernel_rfl) (by simp) ?_
    refine AllReadyH.cons (o := { dst := some 64, op := Go.Op.load 25 (Go.Operand.tmp 63), type := 25, pos := "graft.go:74", after := #[{ on := 0, ground := Go.Ground.data }], guard := none }) rfl (fun K hK => ?_) (AllReadyH.nil)
    have hl1 := (HC.out _ (HV2.out.trans dd)).2.2.1
    go_simp
    refine hK.out _ _ trivial (fun _ => ?_)
    clear hK K
    try simp only [Act.put, List.setIfInBounds_toArray, List.set_cons_zero, List.set_cons_succ]
    refine wpAnyH_ready (rs := [5]) (by kernel_rfl) (by simp) ?_
    refine AllReadyH.cons (o := { dst := some 68, op := Go.Op.call { callee := Go.Callee.value (Go.Operand.func 15), args := #[Go.Operand.tmp 64, Go.Operand.tmp 65, Go.Operand.tmp 67], argTypes := #[25, 3, 3] }, type := 25, pos := "graft.go:75", after := #[{ on := 1, ground := Go.Ground.data }, { on := 2, ground := Go.Ground.data }, { on := 4, ground := Go.Ground.data }], guard := none }) rfl (fun K hK => ?_) (AllReadyH.nil)
    go_simp
    go_at_call 15
    refine (HW1.out _ (t1.trans (HV2.out.trans dd))).mono ?_
    rintro e Y1 ⟨ao1, c1, rfl, own1, q1⟩
    try go_wp2_with fail
    have v1 := (HV2.out.trans dd).trans q1
    refine hK.out _ _ trivial (fun _ => ?_)
    clear hK K
    try simp only [Act.put, List.setIfInBounds_toArray, List.set_cons_zero, List.set_cons_succ]
    refine wpAnyH_ready (rs := [8]) (by kernel_rfl) (by simp) ?_
    refine AllReadyH.cons (o := { dst := some 71, op := Go.Op.call { callee := Go.Callee.value (Go.Operand.func 14), args := #[Go.Operand.tmp 68, Go.Operand.tmp 69, Go.Operand.tmp 70], argTypes := #[25, 3, 25] }, type := 25, pos := "graft.go:75", after := #[{ on := 5, ground := Go.Ground.data }, { on := 6, ground := Go.Ground.data }, { on := 7, ground := Go.Ground.data }, { on := 5, ground := Go.Ground.chain }], guard := none }) rfl (fun K hK => ?_) (AllReadyH.nil)
    go_simp
    go_at_call 14
    refine (HX1.out _ _ _ _ (t1.trans v1) own1).mono ?_
    rintro e Y2 ⟨ao2, c2, rfl, own2, q2⟩
    try go_wp2_with fail
    have v2 := v1.trans q2
    refine hK.out _ _ trivial (fun _ => ?_)
    clear hK K
    try simp only [Act.put, List.setIfInBounds_toArray, List.set_cons_zero, List.set_cons_succ]
    refine wpAnyH_ready (rs := [13]) (by kernel_rfl) (by simp) ?_
    refine AllReadyH.cons (o := { dst := some 76, op := Go.Op.call { callee := Go.Callee.value (Go.Operand.func 17), args := #[Go.Operand.tmp 73, Go.Operand.tmp 74, Go.Operand.tmp 75], argTypes := #[26, 3, 3] }, type := 26, pos := "graft.go:76", after := #[{ on := 10, ground := Go.Ground.data }, { on := 11, ground := Go.Ground.data }, { on := 12, ground := Go.Ground.data }, { on := 8, ground := Go.Ground.chain }], guard := none }) rfl (fun K hK => ?_) (AllReadyH.nil)
    go_simp
    go_at_call 17
    refine (HW2.out _ (t1.trans v2)).mono ?_
    rintro e Y3 ⟨ao3, c3, rfl, own3, q3⟩
    try go_wp2_with fail
    have v3 := v2.trans q3
    refine hK.out _ _ trivial (fun _ => ?_)
    clear hK K
    try simp only [Act.put, List.setIfInBounds_toArray, List.set_cons_zero, List.set_cons_succ]
    refine wpAnyH_ready (rs := [16]) (by kernel_rfl) (by simp) ?_
    refine AllReadyH.cons (o := { dst := some 79, op := Go.Op.call { callee := Go.Callee.value (Go.Operand.func 16), args := #[Go.Operand.tmp 76, Go.Operand.tmp 77, Go.Operand.tmp 78], argTypes := #[26, 3, 26] }, type := 26, pos := "graft.go:76", after := #[{ on := 13, ground := Go.Ground.data }, { on := 14, ground := Go.Ground.data }, { on := 15, ground := Go.Ground.data }, { on := 13, ground := Go.Ground.chain }], guard := none }) rfl (fun K hK => ?_) (AllReadyH.nil)
    go_simp
    go_at_call 16
    refine (HX2.out _ _ _ _ (t1.trans v3) own3).mono ?_
    rintro e Y4 ⟨ao4, c4, rfl, own4, q4⟩
    try go_wp2_with fail
    have v4 := v3.trans q4
    refine hK.out _ _ trivial (fun _ => ?_)
    clear hK K
    try simp only [Act.put, List.setIfInBounds_toArray, List.set_cons_zero, List.set_cons_succ]
    refine wpAnyH_take (i := 17) (oi := { dst := some 80, op := Go.Op.build 28 #[(1, Go.Operand.tmp 71), (2, Go.Operand.tmp 79)], type := 28, pos := "graft.go:74", after := #[{ on := 8, ground := Go.Ground.data }, { on := 16, ground := Go.Ground.data }], guard := none }) (v := .agg #[.slice none 0 0, .slice ao2 n2 c2, .slice ao4 n4 c4]) rfl (by kernel_rfl) (by kernel_rfl) (by kernel_rfl) (fun _ _ _ h => h) (Or.inl ⟨by rfl, fun w _ => by go_simp⟩) (by assumption) ?_
    try simp only [Act.put, List.setIfInBounds_toArray, List.set_cons_zero, List.set_cons_succ]
    have r5 := HG1.out _ v4
    refine wpAnyH_ready (rs := [18]) (by kernel_rfl) (by simp) ?_
    refine AllReadyH.cons (o := { dst := none, op := Go.Op.store 28 (Go.Operand.tmp 7) (Go.Operand.tmp 80), type := 0, pos := "graft.go:74", after := #[{ on := 17, ground := Go.Ground.data }, { on := 16, ground := Go.Ground.chain }, { on := 0, ground := Go.Ground.phase }, { on := 1, ground := Go.Ground.phase }, { on := 2, ground := Go.Ground.phase }, { on := 3, ground := Go.Ground.phase }, { on := 4, ground := Go.Ground.phase }, { on := 5, ground := Go.Ground.phase }, { on := 6, ground := Go.Ground.phase }, { on := 7, ground := Go.Ground.phase }, { on := 8, ground := Go.Ground.phase }, { on := 9, ground := Go.Ground.phase }, { on := 10, ground := Go.Ground.phase }, { on := 11, ground := Go.Ground.phase }, { on := 12, ground := Go.Ground.phase }, { on := 13, ground := Go.Ground.phase }, { on := 14, ground := Go.Ground.phase }, { on := 15, ground := Go.Ground.phase }, { on := 16, ground := Go.Ground.phase }, { on := 17, ground := Go.Ground.phase }], guard := none }) rfl (fun K hK => ?_) (AllReadyH.nil)
    refine step_store_whole rfl 28 _ _ rfl (w.heap.size + 1) #[.slice none 0 0, .slice ao2 n2 c2, .slice ao4 n4 c4] _ 28 (by rfl) (by rfl) r5 rfl (by kernel_rfl) (by kernel_rfl) ?_
    intro W7 r7 f7
    refine hK.out _ _ trivial (fun _ => ?_)
    clear hK K
    refine wpAnyH_done (by kernel_rfl) ?_ _
    obtain ⟨hm1, hm2, hm3⟩ := HM.out
    have hz := HVZ.out
    have o2 := own_frameB own2 (Same.trans q3 q4) (fun _ _ f => f)
    have z4 := (t1.trans v4).size
    have zz1 : w.heap.size ≤ Y1.heap.size := (t1.trans v1).size
    have zz3 : w.heap.size ≤ Y3.heap.size := (t1.trans v3).size
    have HMD : Hid (∀ W, Same W7 W → MadeNd W w.heap.size ⟨none, 0, 0, 0, ao2, 0, 0, c2, ao4, 0, 0, c4⟩ M) := fun W s => (⟨by show World.ownsRow _ _ _ _ (.slice none M.ps.length 0) M.ps.length _; rw [hm1]; exact own_nil, by show World.ownsRow _ _ _ _ (.slice ao2 M.ss.length c2) M.ss.length _; rw [hm2]; exact own_base (own_frameB o2 f7 (fun kk hk e => type_ne o2 r5 (by decide) (by rw [← e]; exact hk))) zz1, by show World.ownsRow _ _ _ _ (.slice ao4 M.ks.length c4) M.ks.length _; rw [hm3]; exact own_base (own_frameB own4 f7 (fun kk hk e => type_ne own4 r5 (by decide) (by rw [← e]; exact hk))) zz3⟩ : MadeNd W7 w.heap.size ⟨none, 0, 0, 0, ao2, 0, 0, c2, ao4, 0, 0, c4⟩ M).same s
    have HCk2 : Hid (∀ W, Same W7 W → Calls Try.prog 18 #[frameV p q, .agg #[.slice none 0 0, .slice ao2 n2 c2, .slice ao4 n4 c4]] W fun e w' => e = .returned (.int .i64 0) ∧ Same W w') := fun W s => by
      have := HCk.out W _ _ (HMD.out W s)
      unfold ndV nodeV at this
      simp only at this
      rw [hm1, hm2, hm3] at this
      exact this
    obtain ⟨y0, y1⟩ := (HC.out _ v4).1
    have j0 : W7.cell? ⟨w.heap.size, 0, none⟩ = some (.int .i64 p) := (f7.cell (World.block_lt_of_cell? _ _ y0) (by simp)).trans y0
    have j1 : W7.cell? ⟨w.heap.size, 1, none⟩ = some (.int .i64 q) := (f7.cell (World.block_lt_of_cell? _ _ y1) (by simp)).trans y1
    have k0 : W7.cell? ⟨w.heap.size + 1, 0, none⟩ = some (.slice none 0 0) := (cell_of_row _ _ _ _ _ _ r7).trans rfl
    have k1 : W7.cell? ⟨w.heap.size + 1, 1, none⟩ = some (.slice ao2 n2 c2) := (cell_of_row _ _ _ _ _ _ r7).trans rfl
    have k2 : W7.cell? ⟨w.heap.size + 1, 2, none⟩ = some (.slice ao4 n4 c4) := (cell_of_row _ _ _ _ _ _ r7).trans rfl
    have r8 : W7.heap[w.heap.size + 1 + 1]? = some (.cells #[.slice none 0 0, .slice none 0 0, .slice none 0 0] 28 (0, 0)) := (f7.block _ (lt_of_heap (HG.out _ v4)) (by omega)).trans (HG.out _ v4)
    have w7 : Same w W7 := Fr.trans (t1.trans v4) f7 (fun i hi e => by omega)
    have HR8 : Hid (W7.heap[w.heap.size + 1 + 1]? = some (.cells #[.slice none 0 0, .slice none 0 0, .slice none 0 0] 28 (0, 0)) ∧ Same w W7) := ⟨r8, w7⟩
    have HK7 : Hid (∀ W, Same W7 W → W.cell? ⟨w.heap.size + 1, 0, none⟩ = some (.slice none 0 0) ∧ W.cell? ⟨w.heap.size + 1, 1, none⟩ = some (.slice ao2 n2 c2) ∧ W.cell? ⟨w.heap.size + 1, 2, none⟩ = some (.slice ao4 n4 c4)) := fun W s => ⟨s.keep k0, s.keep k1, s.keep k2⟩
    clear hm1 hm2 hm3 hz o2 z4 zz1 zz3 y0 y1 r8 w7 r5 r7 f7 own1 own2 own3 own4 q1 q2 q3 q4 v1 v2 v3 v4 hl1 hl10 u1 u2 dd
    go_wp2_with fail
    refine (HCk2.out _ (Fr.refl _ _)).mono ?_
    rintro e W9 ⟨rfl, s9⟩
    clear k0 k1 k2 j0 j1
    obtain ⟨k0, k1, k2⟩ := HK7.out _ s9
    have hz := HVZ.out
    have r6 : W9.heap[w.heap.size + 1 + 1]? = some (.cells #[.slice none 0 0, .slice none 0 0, .slice none 0 0] 28 (0, 0)) := (s9.block _ (lt_of_heap HR8.out.1) (fun e => e)).trans HR8.out.1
    go_wp2_with (refine wpList_store_whole (by rfl) 28 _ _ (by rfl) (w.heap.size + 1 + 1) #[.slice none 0 0, .slice ao2 n2 c2, .slice ao4 n4 c4] _ 28 (by rfl) (by rfl) r6 rfl (by kernel_rfl) (by kernel_rfl) ?_; intro W8 r8 f8)
    have hm := HMD.out _ s9
    refine bodyPost_ret (results_row_tmp (p := 12) (u := 13) (ty := 28) (by kernel_rfl) _ _ (w.heap.size + 1 + 1) 28 _ (0, 0) _ rfl r8 Try.underlying28 rfl (by kernel_rfl)) rfl ⟨_, ?_, ⟨own_frameB hm.op f8 (fun kk hk e => type_ne hm.op r6 (by decide) (by rw [← e]; exact hk)), own_frameB hm.os f8 (fun kk hk e => type_ne hm.os r6 (by decide) (by rw [← e]; exact hk)), own_frameB hm.ok f8 (fun kk hk e => type_ne hm.ok r6 (by decide) (by rw [← e]; exact hk))⟩, Fr.trans (HR8.out.2.trans s9) f8 (fun i hi e => by omega)⟩
    obtain ⟨hm1, hm2, hm3⟩ := HM.out
    simp only
    rw [hm1, hm2, hm3]
    rfl
set_option maxRecDepth 100000 in
set_option maxHeartbeats 8000000 in
theorem psplice_order {p q : Int} {C : Int} {r : Nr} {N M : Nd} {ka2 sa2 : Option Addr} {kk ck2 sl cs2 a m m1 n1 n2 n3 n4 : Nat} {l1 l3 : List Value} (w : World) (hm : m = m1 + 1) (hbl : a + m ≤ N.ks.length) (hkk : sl + 1 = kk) (h2 : 2 ≤ N.ks.length - m + kk) (hn : N.ks.length ≤ 1048576) (hk9 : kk ≤ 1048576) (hM : M.ps = [] ∧ M.ss.length = n2 ∧ M.ks.length = n4) (hC : (C != 0) = true)
    (HI : Hid (∀ W, Same w W → Calls Try.prog 13 #[frameV p q, ndV r N] W fun e w' => e = .returned (.bool true) ∧ Same W w'))
    (HA : Hid (∀ W, Calls Try.prog 12 #[frameV p q, .bool true] W fun e w' => e = .returned (.int .i64 0) ∧ Same W w'))
    (HW1 : Hid (∀ W, Same w W → Calls Try.prog 15 #[.slice r.sa N.ss.length r.cs, .int .i64 (a : Int), .int .i64 (m1 : Int)] W fun e w' => ∃ ao c, e = .returned (.slice ao n1 c) ∧ w'.ownsRow W.heap.size 9 1 (.slice ao n1 c) n1 l1 ∧ Same W w'))
    (HX1 : Hid (∀ W ao c B, Same w W → W.ownsRow B 9 1 (.slice ao n1 c) n1 l1 → Calls Try.prog 14 #[.slice ao n1 c, .int .i64 (a : Int), .slice sa2 sl cs2] W fun e w' => ∃ ao c, e = .returned (.slice ao n2 c) ∧ w'.ownsRow W.heap.size 9 1 (.slice ao n2 c) n2 (scells M.ss) ∧ Same W w'))
    (HW2 : Hid (∀ W, Same w W → Calls Try.prog 17 #[.slice r.ka N.ks.length r.ck, .int .i64 (a : Int), .int .i64 (m : Int)] W fun e w' => ∃ ao c, e = .returned (.slice ao n3 c) ∧ w'.ownsRow W.heap.size 46 33 (.slice ao n3 c) n3 l3 ∧ Same W w'))
    (HX2 : Hid (∀ W ao c B, Same w W → W.ownsRow B 46 33 (.slice ao n3 c) n3 l3 → Calls Try.prog 16 #[.slice ao n3 c, .int .i64 (a : Int), .slice ka2 kk ck2] W fun e w' => ∃ ao c, e = .returned (.slice ao n4 c) ∧ w'.ownsRow W.heap.size 46 33 (.slice ao n4 c) n4 (kcellsL M.ks) ∧ Same W w'))
    (HCk : Hid (∀ W B r', MadeNd W B r' M → Calls Try.prog 18 #[frameV p q, ndV r' M] W fun e w' => e = .returned (.int .i64 C) ∧ Same W w')) :
    Calls Try.prog 5 #[frameV p q, ndV r N, .int .i64 (a : Int), .int .i64 (m : Int), .slice ka2 kk ck2, .slice sa2 sl cs2] w fun e w' => e = .returned (.tuple #[nodeV none 0 0 none 0 0 none 0 0, .int .i64 81]) ∧ Same w w' := by
  have s1 : RowKit.wrap64 ((m : Int) - 1) = (m1 : Int) := by unfold RowKit.wrap64; omega
  have s2 : (m : Int) - 1 = (m1 : Int) := by omega
  have s3 : IntKind.i64.wrap (m1 : Int) = (m1 : Int) := by rw [IntKind.wrap_i64]; omega
  have c2 : decide ((m : Int) < 1) = false := decide_eq_false (by omega)
  have c2' : ¬ m < 1 := by omega
  obtain ⟨d1, hd1⟩ : ∃ d1 : Int, d1 = (N.ks.length : Int) - (a : Int) := ⟨_, rfl⟩
  have w1 : RowKit.wrap64 ((N.ks.length : Int) - (a : Int)) = d1 := by unfold RowKit.wrap64; omega
  have c4 : decide (d1 < (m : Int)) = false := decide_eq_false (by omega)
  have c5 : ((kk : Int) == 0) = false := by rw [beq_eq_false_iff_ne]; omega
  have c6 : RowKit.wrap64 ((kk : Int) - 1) = (sl : Int) := by unfold RowKit.wrap64; omega
  have c6' : IntKind.i64.wrap ((kk : Int) - 1) = (sl : Int) := by rw [IntKind.wrap_i64]; omega
  have c6e : ((sl : Int) == (sl : Int)) = true := by simp
  obtain ⟨d2, hd2⟩ : ∃ d2 : Int, d2 = (N.ks.length : Int) - (m : Int) := ⟨_, rfl⟩
  obtain ⟨d3, hd3⟩ : ∃ d3 : Int, d3 = d2 + (kk : Int) := ⟨_, rfl⟩
  have w2 : RowKit.wrap64 ((N.ks.length : Int) - (m : Int)) = d2 := by unfold RowKit.wrap64; omega
  have w3 : RowKit.wrap64 (d2 + (kk : Int)) = d3 := by unfold RowKit.wrap64; omega
  have c7 : decide (d3 < 2) = false := decide_eq_false (by omega)
  have HM : Hid (M.ps = [] ∧ M.ss.length = n2 ∧ M.ks.length = n4) := hM
  clear hd1 hd2 hd3 hm hbl hkk h2 hn hk9 hM
  obtain ⟨V, hV⟩ : ∃ V, V = ((w.alloc (.cells #[.int .i64 p, .int .i64 q] 23)).alloc (.cells #[.slice r.pa N.ps.length r.cp, .slice r.sa N.ss.length r.cs, .slice r.ka N.ks.length r.ck] 28)).alloc (.cells #[.slice none 0 0, .slice none 0 0, .slice none 0 0] 28) := ⟨_, rfl⟩
  have t1 : Same w V := by rw [hV]; exact (((Fr.refl _ w).alloc _).alloc _).alloc _
  obtain ⟨g0, g1, g2⟩ := three_boxes w (.cells #[.int .i64 p, .int .i64 q] 23) (.cells #[.slice r.pa N.ps.length r.cp, .slice r.sa N.ss.length r.cs, .slice r.ka N.ks.length r.ck] 28) (.cells #[.slice none 0 0, .slice none 0 0, .slice none 0 0] 28)
  rw [← hV] at g0 g1 g2
  have HC : Hid (∀ W, Same V W → (W.cell? ⟨w.heap.size, 0, none⟩ = some (.int .i64 p) ∧ W.cell? ⟨w.heap.size, 1, none⟩ = some (.int .i64 q)) ∧ W.cell? ⟨w.heap.size + 1, 0, none⟩ = some (.slice r.pa N.ps.length r.cp) ∧ W.cell? ⟨w.heap.size + 1, 1, none⟩ = some (.slice r.sa N.ss.length r.cs) ∧ W.cell? ⟨w.heap.size + 1, 2, none⟩ = some (.slice r.ka N.ks.length r.ck)) := fun W s => ⟨⟨s.keep ((cell_of_row _ _ _ _ _ _ g0).trans rfl), s.keep ((cell_of_row _ _ _ _ _ _ g0).trans rfl)⟩, s.keep ((cell_of_row _ _ _ _ _ _ g1).trans rfl), s.keep ((cell_of_row _ _ _ _ _ _ g1).trans rfl), s.keep ((cell_of_row _ _ _ _ _ _ g1).trans rfl)⟩
  have HG : Hid (∀ W, Same V W → W.heap[w.heap.size + 1 + 1]? = some (.cells #[.slice none 0 0, .slice none 0 0, .slice none 0 0] 28 (0, 0))) := fun W s => (s.block _ (lt_of_heap g2) (fun e => e)).trans g2
  have HVZ : Hid (w.heap.size + 3 = V.heap.size) := by show _ = _; rw [hV]; simp
  obtain ⟨⟨a0, a1⟩, n0, n1, n2⟩ := HC.out _ (Fr.refl _ V)
  have HG1 : Hid (∀ W, Same V W → W.heap[w.heap.size + 1]? = some (.cells #[.slice r.pa N.ps.length r.cp, .slice r.sa N.ss.length r.cs, .slice r.ka N.ks.length r.ck] 28 (0, 0))) := fun W s => (s.block _ (lt_of_heap g1) (fun e => e)).trans g1
  clear g0 g1 g2
  unfold ndV nodeV at HI ⊢
  have d0 : Same V V.drew := Fr.drew (Fr.refl _ V)
  go_enter Try.func5, Try.ntmps5
  go_wp2_with fail
  rw [← hV]
  clear hV
  go_region_held3 (fun W => (W.cell? ⟨w.heap.size, 0, none⟩ = some (.int .i64 p) ∧ W.cell? ⟨w.heap.size, 1, none⟩ = some (.int .i64 q)) ∧ W.cell? ⟨w.heap.size + 1, 0, none⟩ = some (.slice r.pa N.ps.length r.cp) ∧ W.cell? ⟨w.heap.size + 1, 1, none⟩ = some (.slice r.sa N.ss.length r.cs) ∧ W.cell? ⟨w.heap.size + 1, 2, none⟩ = some (.slice r.ka N.ks.length r.ck)) (first | exact HC.out _ u2 | exact HC.out _ u1 | exact HC.out _ d0)
    (first | (go_at_call 13; refine (HI.out _ (t1.trans d0)).mono ?_; rintro e Z1 ⟨rfl, q1⟩; have u1 := Same.trans d0 q1; clear q1) | (go_at_call 12; refine (HA.out _).mono ?_; rintro e Z2 ⟨rfl, q2⟩; have u2 := Same.trans u1 q2; clear q2))
  clear a0 a1 n0 n1 n2
  obtain ⟨⟨a0, a1⟩, n0, n1, n2⟩ := HC.out _ u2
  go_wp2_with fail
  have HV2 : Hid (Same V Z2) := u2
  have dd : Same Z2 Z2.drew := Fr.drew (Fr.refl _ _)
  clear a0 a1 n0 n1 n2
  refine wp_region_held_drew (S := fun _ => True) (by kernel_rfl) (trivial) (fun hHeld => ?_)
  generalize Z2.drew = D0 at *
  refine wpAnyH_take (i := 0) (oi := { dst := some 63, op := Go.Op.fieldAddr 28 (Go.Operand.tmp 7) 1, type := 0, pos := "graft.go:74", after := #[], guard := none }) (v := .pointer (some ⟨w.heap.size + 1, 1, none⟩)) rfl (by kernel_rfl) (by kernel_rfl) (by kernel_rfl) (fun _ _ _ h => h) (Or.inl ⟨by rfl, fun w _ => by go_simp⟩) (by assumption) ?_
  try simp only [Act.put, List.setIfInBounds_toArray, List.set_cons_zero, List.set_cons_succ]
  refine wpAnyH_take (i := 2) (oi := { dst := some 65, op := Go.Op.move (Go.Operand.tmp 2), type := 3, pos := "graft.go:74", after := #[], guard := none }) (v := .int .i64 (a : Int)) rfl (by kernel_rfl) (by kernel_rfl) (by kernel_rfl) (fun _ _ _ h => h) (Or.inl ⟨by rfl, fun w _ => by go_simp⟩) (by assumption) ?_
  try simp only [Act.put, List.setIfInBounds_toArray, List.set_cons_zero, List.set_cons_succ]
  refine wpAnyH_take (i := 3) (oi := { dst := some 66, op := Go.Op.move (Go.Operand.tmp 3), type := 3, pos := "graft.go:74", after := #[], guard := none }) (v := .int .i64 (m : Int)) rfl (by kernel_rfl) (by kernel_rfl) (by kernel_rfl) (fun _ _ _ h => h) (Or.inl ⟨by rfl, fun w _ => by go_simp⟩) (by assumption) ?_
  try simp only [Act.put, List.setIfInBounds_toArray, List.set_cons_zero, List.set_cons_succ]
  refine wpAnyH_take (i := 4) (oi := { dst := some 67, op := Go.Op.binOp Go.BinOp.sub 3 (Go.Operand.tmp 66) (Go.Operand.const (Go.Value.int Go.IntKind.i64 1)) 3, type := 3, pos := "graft.go:74", after := #[{ on := 3, ground := Go.Ground.data }], guard := none }) (v := .int .i64 (m1 : Int)) rfl (by kernel_rfl) (by kernel_rfl) (by kernel_rfl) (fun _ _ _ h => h) (Or.inl ⟨by rfl, fun w _ => by go_simp⟩) (by assumption) ?_
  try simp only [Act.put, List.setIfInBounds_toArray, List.set_cons_zero, List.set_cons_succ]
  refine wpAnyH_take (i := 6) (oi := { dst := some 69, op := Go.Op.move (Go.Operand.tmp 2), type := 3, pos := "graft.go:74", after := #[], guard := none }) (v := .int .i64 (a : Int)) rfl (by kernel_rfl) (by kernel_rfl) (by kernel_rfl) (fun _ _ _ h => h) (Or.inl ⟨by rfl, fun w _ => by go_simp⟩) (by assumption) ?_
  try simp only [Act.put, List.setIfInBounds_toArray, List.set_cons_zero, List.set_cons_succ]
  refine wpAnyH_take (i := 7) (oi := { dst := some 70, op := Go.Op.move (Go.Operand.tmp 5), type := 25, pos := "graft.go:74", after := #[], guard := none }) (v := .slice sa2 sl cs2) rfl (by kernel_rfl) (by kernel_rfl) (by kernel_rfl) (fun _ _ _ h => h) (Or.inl ⟨by rfl, fun w _ => by go_simp⟩) (by assumption) ?_
  try simp only [Act.put, List.setIfInBounds_toArray, List.set_cons_zero, List.set_cons_succ]
  refine wpAnyH_take (i := 9) (oi := { dst := some 72, op := Go.Op.fieldAddr 28 (Go.Operand.tmp 7) 2, type := 0, pos := "graft.go:74", after := #[], guard := none }) (v := .pointer (some ⟨w.heap.size + 1, 2, none⟩)) rfl (by kernel_rfl) (by kernel_rfl) (by kernel_rfl) (fun _ _ _ h => h) (Or.inl ⟨by rfl, fun w _ => by go_simp⟩) (by assumption) ?_
  try simp only [Act.put, List.setIfInBounds_toArray, List.set_cons_zero, List.set_cons_succ]
  refine wpAnyH_take (i := 11) (oi := { dst := some 74, op := Go.Op.move (Go.Operand.tmp 2), type := 3, pos := "graft.go:74", after := #[], guard := none }) (v := .int .i64 (a : Int)) rfl (by kernel_rfl) (by kernel_rfl) (by kernel_rfl) (fun _ _ _ h => h) (Or.inl ⟨by rfl, fun w _ => by go_simp⟩) (by assumption) ?_
  try simp only [Act.put, List.setIfInBounds_toArray, List.set_cons_zero, List.set_cons_succ]
  refine wpAnyH_take (i := 12) (oi := { dst := some 75, op := Go.Op.move (Go.Operand.tmp 3), type := 3, pos := "graft.go:74", after := #[], guard := none }) (v := .int .i64 (m : Int)) rfl (by kernel_rfl) (by kernel_rfl) (by kernel_rfl) (fun _ _ _ h => h) (Or.inl ⟨by rfl, fun w _ => by go_simp⟩) (by assumption) ?_
  try simp only [Act.put, List.setIfInBounds_toArray, List.set_cons_zero, List.set_cons_succ]
  refine wpAnyH_take (i := 14) (oi := { dst := some 77, op := Go.Op.move (Go.Operand.tmp 2), type := 3, pos := "graft.go:74", after := #[], guard := none }) (v := .int .i64 (a : Int)) rfl (by kernel_rfl) (by kernel_rfl) (by kernel_rfl) (fun _ _ _ h => h) (Or.inl ⟨by rfl, fun w _ => by go_simp⟩) (by assumption) ?_
  try simp only [Act.put, List.setIfInBounds_toArray, List.set_cons_zero, List.set_cons_succ]
  refine wpAnyH_take (i := 15) (oi := { dst := some 78, op := Go.Op.move (Go.Operand.tmp 4), type := 26, pos := "graft.go:74", after := #[], guard := none }) (v := .slice ka2 kk ck2) rfl (by kernel_rfl) (by kernel_rfl) (by kernel_rfl) (fun _ _ _ h => h) (Or.inl ⟨by rfl, fun w _ => by go_simp⟩) (by assumption) ?_
  try simp only [Act.put, List.setIfInBounds_toArray, List.set_cons_zero, List.set_cons_succ]
  refine wpAnyH_ready (rs := [1, 10]) (by kernel_rfl) (by simp) ?_
  refine AllReadyH.cons (o := { dst := some 64, op := Go.Op.load 25 (Go.Operand.tmp 63), type := 25, pos := "graft.go:74", after := #[{ on := 0, ground := Go.Ground.data }], guard := none }) rfl (fun K hK => ?_) (AllReadyH.cons (o := { dst := some 73, op := Go.Op.load 26 (Go.Operand.tmp 72), type := 26, pos := "graft.go:74", after := #[{ on := 9, ground := Go.Ground.data }], guard := none }) rfl (fun K hK => ?_) (AllReadyH.nil))
  · have hl1 := (HC.out _ (HV2.out.trans dd)).2.2.1
    go_simp
    refine hK.out _ _ trivial (fun _ => ?_)
    clear hK K
    try simp only [Act.put, List.setIfInBounds_toArray, List.set_cons_zero, List.set_cons_succ]
    refine wpAnyH_ready (rs := [5, 10]) (by kernel_rfl) (by simp) ?_
    refine AllReadyH.cons (o := { dst := some 68, op := Go.Op.call { callee := Go.Callee.value (Go.Operand.func 15), args := #[Go.Operand.tmp 64, Go.Operand.tmp 65, Go.Operand.tmp 67], argTypes := #[25, 3, 3] }, type := 25, pos := "graft.go:75", after := #[{ on := 1, ground := Go.Ground.data }, { on := 2, ground := Go.Ground.data }, { on := 4, ground := Go.Ground.data }], guard := none }) rfl (fun K hK => ?_) (AllReadyH.cons (o := { dst := some 73, op := Go.Op.load 26 (Go.Operand.tmp 72), type := 26, pos := "graft.go:74", after := #[{ on := 9, ground := Go.Ground.data }], guard := none }) rfl (fun K hK => ?_) (AllReadyH.nil))
    · go_simp
      go_at_call 15
      refine (HW1.out _ (t1.trans (HV2.out.trans dd))).mono ?_
      rintro e Y1 ⟨ao1, c1, rfl, own1, q1⟩
      try go_wp2_with fail
      have v1 := (HV2.out.trans dd).trans q1
      refine hK.out _ _ trivial (fun _ => ?_)
      clear hK K
      try simp only [Act.put, List.setIfInBounds_toArray, List.set_cons_zero, List.set_cons_succ]
      refine wpAnyH_ready (rs := [8, 10]) (by kernel_rfl) (by simp) ?_
      refine AllReadyH.cons (o := { dst := some 71, op := Go.Op.call { callee := Go.Callee.value (Go.Operand.func 14), args := #[Go.Operand.tmp 68, Go.Operand.tmp 69, Go.Operand.tmp 70], argTypes := #[25, 3, 25] }, type := 25, pos := "graft.go:75", after := #[{ on := 5, ground := Go.Ground.data }, { on := 6, ground := Go.Ground.data }, { on := 7, ground := Go.Ground.data }, { on := 5, ground := Go.Ground.chain }], guard := none }) rfl (fun K hK => ?_) (AllReadyH.cons (o := { dst := some 73, op := Go.Op.load 26 (Go.Operand.tmp 72), type := 26, pos := "graft.go:74", after := #[{ on := 9, ground := Go.Ground.data }], guard := none }) rfl (fun K hK => ?_) (AllReadyH.nil))
      · go_simp
        go_at_call 14
        refine (HX1.out _ _ _ _ (t1.trans v1) own1).mono ?_
        rintro e Y2 ⟨ao2, c2, rfl, own2, q2⟩
        try go_wp2_with fail
        have v2 := v1.trans q2
        refine hK.out _ _ trivial (fun _ => ?_)
        clear hK K
        try simp only [Act.put, List.setIfInBounds_toArray, List.set_cons_zero, List.set_cons_succ]
        refine wpAnyH_ready (rs := [10]) (by kernel_rfl) (by simp) ?_
        refine AllReadyH.cons (o := { dst := some 73, op := Go.Op.load 26 (Go.Operand.tmp 72), type := 26, pos := "graft.go:74", after := #[{ on := 9, ground := Go.Ground.data }], guard := none }) rfl (fun K hK => ?_) (AllReadyH.nil)
        have hl10 := (HC.out _ v2).2.2.2
        go_simp
        refine hK.out _ _ trivial (fun _ => ?_)
        clear hK K
        try simp only [Act.put, List.setIfInBounds_toArray, List.set_cons_zero, List.set_cons_succ]
        refine wpAnyH_ready (rs := [13]) (by kernel_rfl) (by simp) ?_
        refine AllReadyH.cons (o := { dst := some 76, op := Go.Op.call { callee := Go.Callee.value (Go.Operand.func 17), args := #[Go.Operand.tmp 73, Go.Operand.tmp 74, Go.Operand.tmp 75], argTypes := #[26, 3, 3] }, type := 26, pos := "graft.go:76", after := #[{ on := 10, ground := Go.Ground.data }, { on := 11, ground := Go.Ground.data }, { on := 12, ground := Go.Ground.data }, { on := 8, ground := Go.Ground.chain }], guard := none }) rfl (fun K hK => ?_) (AllReadyH.nil)
        go_simp
        go_at_call 17
        refine (HW2.out _ (t1.trans v2)).mono ?_
        rintro e Y3 ⟨ao3, c3, rfl, own3, q3⟩
        try go_wp2_with fail
        have v3 := v2.trans q3
        refine hK.out _ _ trivial (fun _ => ?_)
        clear hK K
        try simp only [Act.put, List.setIfInBounds_toArray, List.set_cons_zero, List.set_cons_succ]
        refine wpAnyH_ready (rs := [16]) (by kernel_rfl) (by simp) ?_
        refine AllReadyH.cons (o := { dst := some 79, op := Go.Op.call { callee := Go.Callee.value (Go.Operand.func 16), args := #[Go.Operand.tmp 76, Go.Operand.tmp 77, Go.Operand.tmp 78], argTypes := #[26, 3, 26] }, type := 26, pos := "graft.go:76", after := #[{ on := 13, ground := Go.Ground.data }, { on := 14, ground := Go.Ground.data }, { on := 15, ground := Go.Ground.data }, { on := 13, ground := Go.Ground.chain }], guard := none }) rfl (fun K hK => ?_) (AllReadyH.nil)
        go_simp
        go_at_call 16
        refine (HX2.out _ _ _ _ (t1.trans v3) own3).mono ?_
        rintro e Y4 ⟨ao4, c4, rfl, own4, q4⟩
        try go_wp2_with fail
        have v4 := v3.trans q4
        refine hK.out _ _ trivial (fun _ => ?_)
        clear hK K
        try simp only [Act.put, List.setIfInBounds_toArray, List.set_cons_zero, List.set_cons_succ]
        refine wpAnyH_take (i := 17) (oi := { dst := some 80, op := Go.Op.build 28 #[(1, Go.Operand.tmp 71), (2, Go.Operand.tmp 79)], type := 28, pos := "graft.go:74", after := #[{ on := 8, ground := Go.Ground.data }, { on := 16, ground := Go.Ground.data }], guard := none }) (v := .agg #[.slice none 0 0, .slice ao2 n2 c2, .slice ao4 n4 c4]) rfl (by kernel_rfl) (by kernel_rfl) (by kernel_rfl) (fun _ _ _ h => h) (Or.inl ⟨by rfl, fun w _ => by go_simp⟩) (by assumption) ?_
        try simp only [Act.put, List.setIfInBounds_toArray, List.set_cons_zero, List.set_cons_succ]
        have r5 := HG1.out _ v4
        refine wpAnyH_ready (rs := [18]) (by kernel_rfl) (by simp) ?_
        refine AllReadyH.cons (o := { dst := none, op := Go.Op.store 28 (Go.Operand.tmp 7) (Go.Operand.tmp 80), type := 0, pos := "graft.go:74", after := #[{ on := 17, ground := Go.Ground.data }, { on := 16, ground := Go.Ground.chain }, { on := 0, ground := Go.Ground.phase }, { on := 1, ground := Go.Ground.phase }, { on := 2, ground := Go.Ground.phase }, { on := 3, ground := Go.Ground.phase }, { on := 4, ground := Go.Ground.phase }, { on := 5, ground := Go.Ground.phase }, { on := 6, ground := Go.Ground.phase }, { on := 7, ground := Go.Ground.phase }, { on := 8, ground := Go.Ground.phase }, { on := 9, ground := Go.Ground.phase }, { on := 10, ground := Go.Ground.phase }, { on := 11, ground := Go.Ground.phase }, { on := 12, ground := Go.Ground.phase }, { on := 13, ground := Go.Ground.phase }, { on := 14, ground := Go.Ground.phase }, { on := 15, ground := Go.Ground.phase }, { on := 16, ground := Go.Ground.phase }, { on := 17, ground := Go.Ground.phase }], guard := none }) rfl (fun K hK => ?_) (AllReadyH.nil)
        refine step_store_whole rfl 28 _ _ rfl (w.heap.size + 1) #[.slice none 0 0, .slice ao2 n2 c2, .slice ao4 n4 c4] _ 28 (by rfl) (by rfl) r5 rfl (by kernel_rfl) (by kernel_rfl) ?_
        intro W7 r7 f7
        refine hK.out _ _ trivial (fun _ => ?_)
        clear hK K
        refine wpAnyH_done (by kernel_rfl) ?_ _
        obtain ⟨hm1, hm2, hm3⟩ := HM.out
        have hz := HVZ.out
        have o2 := own_frameB own2 (Same.trans q3 q4) (fun _ _ f => f)
        have z4 := (t1.trans v4).size
        have zz1 : w.heap.size ≤ Y1.heap.size := (t1.trans v1).size
        have zz3 : w.heap.size ≤ Y3.heap.size := (t1.trans v3).size
        have HMD : Hid (∀ W, Same W7 W → MadeNd W w.heap.size ⟨none, 0, 0, 0, ao2, 0, 0, c2, ao4, 0, 0, c4⟩ M) := fun W s => (⟨by show World.ownsRow _ _ _ _ (.slice none M.ps.length 0) M.ps.length _; rw [hm1]; exact own_nil, by show World.ownsRow _ _ _ _ (.slice ao2 M.ss.length c2) M.ss.length _; rw [hm2]; exact own_base (own_frameB o2 f7 (fun kk hk e => type_ne o2 r5 (by decide) (by rw [← e]; exact hk))) zz1, by show World.ownsRow _ _ _ _ (.slice ao4 M.ks.length c4) M.ks.length _; rw [hm3]; exact own_base (own_frameB own4 f7 (fun kk hk e => type_ne own4 r5 (by decide) (by rw [← e]; exact hk))) zz3⟩ : MadeNd W7 w.heap.size ⟨none, 0, 0, 0, ao2, 0, 0, c2, ao4, 0, 0, c4⟩ M).same s
        have HCk2 : Hid (∀ W, Same W7 W → Calls Try.prog 18 #[frameV p q, .agg #[.slice none 0 0, .slice ao2 n2 c2, .slice ao4 n4 c4]] W fun e w' => e = .returned (.int .i64 C) ∧ Same W w') := fun W s => by
          have := HCk.out W _ _ (HMD.out W s)
          unfold ndV nodeV at this
          simp only at this
          rw [hm1, hm2, hm3] at this
          exact this
        obtain ⟨y0, y1⟩ := (HC.out _ v4).1
        have j0 : W7.cell? ⟨w.heap.size, 0, none⟩ = some (.int .i64 p) := (f7.cell (World.block_lt_of_cell? _ _ y0) (by simp)).trans y0
        have j1 : W7.cell? ⟨w.heap.size, 1, none⟩ = some (.int .i64 q) := (f7.cell (World.block_lt_of_cell? _ _ y1) (by simp)).trans y1
        have k0 : W7.cell? ⟨w.heap.size + 1, 0, none⟩ = some (.slice none 0 0) := (cell_of_row _ _ _ _ _ _ r7).trans rfl
        have k1 : W7.cell? ⟨w.heap.size + 1, 1, none⟩ = some (.slice ao2 n2 c2) := (cell_of_row _ _ _ _ _ _ r7).trans rfl
        have k2 : W7.cell? ⟨w.heap.size + 1, 2, none⟩ = some (.slice ao4 n4 c4) := (cell_of_row _ _ _ _ _ _ r7).trans rfl
        have r8 : W7.heap[w.heap.size + 1 + 1]? = some (.cells #[.slice none 0 0, .slice none 0 0, .slice none 0 0] 28 (0, 0)) := (f7.block _ (lt_of_heap (HG.out _ v4)) (by omega)).trans (HG.out _ v4)
        have w7 : Same w W7 := Fr.trans (t1.trans v4) f7 (fun i hi e => by omega)
        have HR8 : Hid (W7.heap[w.heap.size + 1 + 1]? = some (.cells #[.slice none 0 0, .slice none 0 0, .slice none 0 0] 28 (0, 0)) ∧ Same w W7) := ⟨r8, w7⟩
        have HK7 : Hid (∀ W, Same W7 W → W.cell? ⟨w.heap.size + 1, 0, none⟩ = some (.slice none 0 0) ∧ W.cell? ⟨w.heap.size + 1, 1, none⟩ = some (.slice ao2 n2 c2) ∧ W.cell? ⟨w.heap.size + 1, 2, none⟩ = some (.slice ao4 n4 c4)) := fun W s => ⟨s.keep k0, s.keep k1, s.keep k2⟩
        clear hm1 hm2 hm3 hz o2 z4 zz1 zz3 y0 y1 r8 w7 r5 r7 f7 own1 own2 own3 own4 q1 q2 q3 q4 v1 v2 v3 v4 hl1 hl10 u1 u2 dd
        go_wp2_with fail
        refine (HCk2.out _ (Fr.refl _ _)).mono ?_
        rintro e W9 ⟨rfl, s9⟩
        clear k0 k1 k2 j0 j1
        obtain ⟨k0, k1, k2⟩ := HK7.out _ s9
        have hz := HVZ.out
        have r6 : W9.heap[w.heap.size + 1 + 1]? = some (.cells #[.slice none 0 0, .slice none 0 0, .slice none 0 0] 28 (0, 0)) := (s9.block _ (lt_of_heap HR8.out.1) (fun e => e)).trans HR8.out.1
        go_wp2_with (refine wpList_store_whole (by rfl) 28 _ _ (by rfl) (w.heap.size + 1 + 1) #[.slice none 0 0, .slice none 0 0, .slice none 0 0] _ 28 (by rfl) (by rfl) r6 rfl (by kernel_rfl) (by kernel_rfl) ?_; intro W8 r8 f8)
        exact bodyPost_ret (results_row_tmp (p := 12) (u := 13) (ty := 28) (by kernel_rfl) _ _ (w.heap.size + 1 + 1) 28 _ (0, 0) _ rfl r8 Try.underlying28 rfl (by kernel_rfl)) rfl ⟨rfl, Fr.trans (HR8.out.2.trans s9) f8 (fun i hi e => by omega)⟩
      · have hl10 := (HC.out _ v1).2.2.2
        go_simp
        refine hK.out _ _ trivial (fun _ => ?_)
        clear hK K
        try simp only [Act.put, List.setIfInBounds_toArray, List.set_cons_zero, List.set_cons_succ]
        refine wpAnyH_ready (rs := [8]) (by kernel_rfl) (by simp) ?_
        refine AllReadyH.cons (o := { dst := some 71, op := Go.Op.call { callee := Go.Callee.value (Go.Operand.func 14), args := #[Go.Operand.tmp 68, Go.Operand.tmp 69, Go.Operand.tmp 70], argTypes := #[25, 3, 25] }, type := 25, pos := "graft.go:75", after := #[{ on := 5, ground := Go.Ground.data }, { on := 6, ground := Go.Ground.data }, { on := 7, ground := Go.Ground.data }, { on := 5, ground := Go.Ground.chain }], guard := none }) rfl (fun K hK => ?_) (AllReadyH.nil)
        go_simp
        go_at_call 14
        refine (HX1.out _ _ _ _ (t1.trans v1) own1).mono ?_
        rintro e Y2 ⟨ao2, c2, rfl, own2, q2⟩
        try go_wp2_with fail
        have v2 := v1.trans q2
        refine hK.out _ _ trivial (fun _ => ?_)
        clear hK K
        try simp only [Act.put, List.setIfInBounds_toArray, List.set_cons_zero, List.set_cons_succ]
        refine wpAnyH_ready (rs := [13]) (by kernel_rfl) (by simp) ?_
        refine AllReadyH.cons (o := { dst := some 76, op := Go.Op.call { callee := Go.Callee.value (Go.Operand.func 17), args := #[Go.Operand.tmp 73, Go.Operand.tmp 74, Go.Operand.tmp 75], argTypes := #[26, 3, 3] }, type := 26, pos := "graft.go:76", after := #[{ on := 10, ground := Go.Ground.data }, { on := 11, ground := Go.Ground.data }, { on := 12, ground := Go.Ground.data }, { on := 8, ground := Go.Ground.chain }], guard := none }) rfl (fun K hK => ?_) (AllReadyH.nil)
        go_simp
        go_at_call 17
        refine (HW2.out _ (t1.trans v2)).mono ?_
        rintro e Y3 ⟨ao3, c3, rfl, own3, q3⟩
        try go_wp2_with fail
        have v3 := v2.trans q3
        refine hK.out _ _ trivial (fun _ => ?_)
        clear hK K
        try simp only [Act.put, List.setIfInBounds_toArray, List.set_cons_zero, List.set_cons_succ]
        refine wpAnyH_ready (rs := [16]) (by kernel_rfl) (by simp) ?_
        refine AllReadyH.cons (o := { dst := some 79, op := Go.Op.call { callee := Go.Callee.value (Go.Operand.func 16), args := #[Go.Operand.tmp 76, Go.Operand.tmp 77, Go.Operand.tmp 78], argTypes := #[26, 3, 26] }, type := 26, pos := "graft.go:76", after := #[{ on := 13, ground := Go.Ground.data }, { on := 14, ground := Go.Ground.data }, { on := 15, ground := Go.Ground.data }, { on := 13, ground := Go.Ground.chain }], guard := none }) rfl (fun K hK => ?_) (AllReadyH.nil)
        go_simp
        go_at_call 16
        refine (HX2.out _ _ _ _ (t1.trans v3) own3).mono ?_
        rintro e Y4 ⟨ao4, c4, rfl, own4, q4⟩
        try go_wp2_with fail
        have v4 := v3.trans q4
        refine hK.out _ _ trivial (fun _ => ?_)
        clear hK K
        try simp only [Act.put, List.setIfInBounds_toArray, List.set_cons_zero, List.set_cons_succ]
        refine wpAnyH_take (i := 17) (oi := { dst := some 80, op := Go.Op.build 28 #[(1, Go.Operand.tmp 71), (2, Go.Operand.tmp 79)], type := 28, pos := "graft.go:74", after := #[{ on := 8, ground := Go.Ground.data }, { on := 16, ground := Go.Ground.data }], guard := none }) (v := .agg #[.slice none 0 0, .slice ao2 n2 c2, .slice ao4 n4 c4]) rfl (by kernel_rfl) (by kernel_rfl) (by kernel_rfl) (fun _ _ _ h => h) (Or.inl ⟨by rfl, fun w _ => by go_simp⟩) (by assumption) ?_
        try simp only [Act.put, List.setIfInBounds_toArray, List.set_cons_zero, List.set_cons_succ]
        have r5 := HG1.out _ v4
        refine wpAnyH_ready (rs := [18]) (by kernel_rfl) (by simp) ?_
        refine AllReadyH.cons (o := { dst := none, op := Go.Op.store 28 (Go.Operand.tmp 7) (Go.Operand.tmp 80), type := 0, pos := "graft.go:74", after := #[{ on := 17, ground := Go.Ground.data }, { on := 16, ground := Go.Ground.chain }, { on := 0, ground := Go.Ground.phase }, { on := 1, ground := Go.Ground.phase }, { on := 2, ground := Go.Ground.phase }, { on := 3, ground := Go.Ground.phase }, { on := 4, ground := Go.Ground.phase }, { on := 5, ground := Go.Ground.phase }, { on := 6, ground := Go.Ground.phase }, { on := 7, ground := Go.Ground.phase }, { on := 8, ground := Go.Ground.phase }, { on := 9, ground := Go.Ground.phase }, { on := 10, ground := Go.Ground.phase }, { on := 11, ground := Go.Ground.phase }, { on := 12, ground := Go.Ground.phase }, { on := 13, ground := Go.Ground.phase }, { on := 14, ground := Go.Ground.phase }, { on := 15, ground := Go.Ground.phase }, { on := 16, ground := Go.Ground.phase }, { on := 17, ground := Go.Ground.phase }], guard := none }) rfl (fun K hK => ?_) (AllReadyH.nil)
        refine step_store_whole rfl 28 _ _ rfl (w.heap.size + 1) #[.slice none 0 0, .slice ao2 n2 c2, .slice ao4 n4 c4] _ 28 (by rfl) (by rfl) r5 rfl (by kernel_rfl) (by kernel_rfl) ?_
        intro W7 r7 f7
        refine hK.out _ _ trivial (fun _ => ?_)
        clear hK K
        refine wpAnyH_done (by kernel_rfl) ?_ _
        obtain ⟨hm1, hm2, hm3⟩ := HM.out
        have hz := HVZ.out
        have o2 := own_frameB own2 (Same.trans q3 q4) (fun _ _ f => f)
        have z4 := (t1.trans v4).size
        have zz1 : w.heap.size ≤ Y1.heap.size := (t1.trans v1).size
        have zz3 : w.heap.size ≤ Y3.heap.size := (t1.trans v3).size
        have HMD : Hid (∀ W, Same W7 W → MadeNd W w.heap.size ⟨none, 0, 0, 0, ao2, 0, 0, c2, ao4, 0, 0, c4⟩ M) := fun W s => (⟨by show World.ownsRow _ _ _ _ (.slice none M.ps.length 0) M.ps.length _; rw [hm1]; exact own_nil, by show World.ownsRow _ _ _ _ (.slice ao2 M.ss.length c2) M.ss.length _; rw [hm2]; exact own_base (own_frameB o2 f7 (fun kk hk e => type_ne o2 r5 (by decide) (by rw [← e]; exact hk))) zz1, by show World.ownsRow _ _ _ _ (.slice ao4 M.ks.length c4) M.ks.length _; rw [hm3]; exact own_base (own_frameB own4 f7 (fun kk hk e => type_ne own4 r5 (by decide) (by rw [← e]; exact hk))) zz3⟩ : MadeNd W7 w.heap.size ⟨none, 0, 0, 0, ao2, 0, 0, c2, ao4, 0, 0, c4⟩ M).same s
        have HCk2 : Hid (∀ W, Same W7 W → Calls Try.prog 18 #[frameV p q, .agg #[.slice none 0 0, .slice ao2 n2 c2, .slice ao4 n4 c4]] W fun e w' => e = .returned (.int .i64 C) ∧ Same W w') := fun W s => by
          have := HCk.out W _ _ (HMD.out W s)
          unfold ndV nodeV at this
          simp only at this
          rw [hm1, hm2, hm3] at this
          exact this
        obtain ⟨y0, y1⟩ := (HC.out _ v4).1
        have j0 : W7.cell? ⟨w.heap.size, 0, none⟩ = some (.int .i64 p) := (f7.cell (World.block_lt_of_cell? _ _ y0) (by simp)).trans y0
        have j1 : W7.cell? ⟨w.heap.size, 1, none⟩ = some (.int .i64 q) := (f7.cell (World.block_lt_of_cell? _ _ y1) (by simp)).trans y1
        have k0 : W7.cell? ⟨w.heap.size + 1, 0, none⟩ = some (.slice none 0 0) := (cell_of_row _ _ _ _ _ _ r7).trans rfl
        have k1 : W7.cell? ⟨w.heap.size + 1, 1, none⟩ = some (.slice ao2 n2 c2) := (cell_of_row _ _ _ _ _ _ r7).trans rfl
        have k2 : W7.cell? ⟨w.heap.size + 1, 2, none⟩ = some (.slice ao4 n4 c4) := (cell_of_row _ _ _ _ _ _ r7).trans rfl
        have r8 : W7.heap[w.heap.size + 1 + 1]? = some (.cells #[.slice none 0 0, .slice none 0 0, .slice none 0 0] 28 (0, 0)) := (f7.block _ (lt_of_heap (HG.out _ v4)) (by omega)).trans (HG.out _ v4)
        have w7 : Same w W7 := Fr.trans (t1.trans v4) f7 (fun i hi e => by omega)
        have HR8 : Hid (W7.heap[w.heap.size + 1 + 1]? = some (.cells #[.slice none 0 0, .slice none 0 0, .slice none 0 0] 28 (0, 0)) ∧ Same w W7) := ⟨r8, w7⟩
        have HK7 : Hid (∀ W, Same W7 W → W.cell? ⟨w.heap.size + 1, 0, none⟩ = some (.slice none 0 0) ∧ W.cell? ⟨w.heap.size + 1, 1, none⟩ = some (.slice ao2 n2 c2) ∧ W.cell? ⟨w.heap.size + 1, 2, none⟩ = some (.slice ao4 n4 c4)) := fun W s => ⟨s.keep k0, s.keep k1, s.keep k2⟩
        clear hm1 hm2 hm3 hz o2 z4 zz1 zz3 y0 y1 r8 w7 r5 r7 f7 own1 own2 own3 own4 q1 q2 q3 q4 v1 v2 v3 v4 hl1 hl10 u1 u2 dd
        go_wp2_with fail
        refine (HCk2.out _ (Fr.refl _ _)).mono ?_
        rintro e W9 ⟨rfl, s9⟩
        clear k0 k1 k2 j0 j1
        obtain ⟨k0, k1, k2⟩ := HK7.out _ s9
        have hz := HVZ.out
        have r6 : W9.heap[w.heap.size + 1 + 1]? = some (.cells #[.slice none 0 0, .slice none 0 0, .slice none 0 0] 28 (0, 0)) := (s9.block _ (lt_of_heap HR8.out.1) (fun e => e)).trans HR8.out.1
        go_wp2_with (refine wpList_store_whole (by rfl) 28 _ _ (by rfl) (w.heap.size + 1 + 1) #[.slice none 0 0, .slice none 0 0, .slice none 0 0] _ 28 (by rfl) (by rfl) r6 rfl (by kernel_rfl) (by kernel_rfl) ?_; intro W8 r8 f8)
        exact bodyPost_ret (results_row_tmp (p := 12) (u := 13) (ty := 28) (by kernel_rfl) _ _ (w.heap.size + 1 + 1) 28 _ (0, 0) _ rfl r8 Try.underlying28 rfl (by kernel_rfl)) rfl ⟨rfl, Fr.trans (HR8.out.2.trans s9) f8 (fun i hi e => by omega)⟩
    · have hl10 := (HC.out _ (HV2.out.trans dd)).2.2.2
      go_simp
      refine hK.out _ _ trivial (fun _ => ?_)
      clear hK K
      try simp only [Act.put, List.setIfInBounds_toArray, List.set_cons_zero, List.set_cons_succ]
      refine wpAnyH_ready (rs := [5]) (by kernel_rfl) (by simp) ?_
      refine AllReadyH.cons (o := { dst := some 68, op := Go.Op.call { callee := Go.Callee.value (Go.Operand.func 15), args := #[Go.Operand.tmp 64, Go.Operand.tmp 65, Go.Operand.tmp 67], argTypes := #[25, 3, 3] }, type := 25, pos := "graft.go:75", after := #[{ on := 1, ground := Go.Ground.data }, { on := 2, ground := Go.Ground.data }, { on := 4, ground := Go.Ground.data }], guard := none }) rfl (fun K hK => ?_) (AllReadyH.nil)
      go_simp
      go_at_call 15
      refine (HW1.out _ (t1.trans (HV2.out.trans dd))).mono ?_
      rintro e Y1 ⟨ao1, c1, rfl, own1, q1⟩
      try go_wp2_with fail
      have v1 := (HV2.out.trans dd).trans q1
      refine hK.out _ _ trivial (fun _ => ?_)
      clear hK K
      try simp only [Act.put, List.setIfInBounds_toArray, List.set_cons_zero, List.set_cons_succ]
      refine wpAnyH_ready (rs := [8]) (by kernel_rfl) (by simp) ?_
      refine AllReadyH.cons (o := { dst := some 71, op := Go.Op.call { callee := Go.Callee.value (Go.Operand.func 14), args := #[Go.Operand.tmp 68, Go.Operand.tmp 69, Go.Operand.tmp 70], argTypes := #[25, 3, 25] }, type := 25, pos := "graft.go:75", after := #[{ on := 5, ground := Go.Ground.data }, { on := 6, ground := Go.Ground.data }, { on := 7, ground := Go.Ground.data }, { on := 5, ground := Go.Ground.chain }], guard := none }) rfl (fun K hK => ?_) (AllReadyH.nil)
      go_simp
      go_at_call 14
      refine (HX1.out _ _ _ _ (t1.trans v1) own1).mono ?_
      rintro e Y2 ⟨ao2, c2, rfl, own2, q2⟩
      try go_wp2_with fail
      have v2 := v1.trans q2
      refine hK.out _ _ trivial (fun _ => ?_)
      clear hK K
      try simp only [Act.put, List.setIfInBounds_toArray, List.set_cons_zero, List.set_cons_succ]
      refine wpAnyH_ready (rs := [13]) (by kernel_rfl) (by simp) ?_
      refine AllReadyH.cons (o := { dst := some 76, op := Go.Op.call { callee := Go.Callee.value (Go.Operand.func 17), args := #[Go.Operand.tmp 73, Go.Operand.tmp 74, Go.Operand.tmp 75], argTypes := #[26, 3, 3] }, type := 26, pos := "graft.go:76", after := #[{ on := 10, ground := Go.Ground.data }, { on := 11, ground := Go.Ground.data }, { on := 12, ground := Go.Ground.data }, { on := 8, ground := Go.Ground.chain }], guard := none }) rfl (fun K hK => ?_) (AllReadyH.nil)
      go_simp
      go_at_call 17
      refine (HW2.out _ (t1.trans v2)).mono ?_
      rintro e Y3 ⟨ao3, c3, rfl, own3, q3⟩
      try go_wp2_with fail
      have v3 := v2.trans q3
      refine hK.out _ _ trivial (fun _ => ?_)
      clear hK K
      try simp only [Act.put, List.setIfInBounds_toArray, List.set_cons_zero, List.set_cons_succ]
      refine wpAnyH_ready (rs := [16]) (by kernel_rfl) (by simp) ?_
      refine AllReadyH.cons (o := { dst := some 79, op := Go.Op.call { callee := Go.Callee.value (Go.Operand.func 16), args := #[Go.Operand.tmp 76, Go.Operand.tmp 77, Go.Operand.tmp 78], argTypes := #[26, 3, 26] }, type := 26, pos := "graft.go:76", after := #[{ on := 13, ground := Go.Ground.data }, { on := 14, ground := Go.Ground.data }, { on := 15, ground := Go.Ground.data }, { on := 13, ground := Go.Ground.chain }], guard := none }) rfl (fun K hK => ?_) (AllReadyH.nil)
      go_simp
      go_at_call 16
      refine (HX2.out _ _ _ _ (t1.trans v3) own3).mono ?_
      rintro e Y4 ⟨ao4, c4, rfl, own4, q4⟩
      try go_wp2_with fail
      have v4 := v3.trans q4
      refine hK.out _ _ trivial (fun _ => ?_)
      clear hK K
      try simp only [Act.put, List.setIfInBounds_toArray, List.set_cons_zero, List.set_cons_succ]
      refine wpAnyH_take (i := 17) (oi := { dst := some 80, op := Go.Op.build 28 #[(1, Go.Operand.tmp 71), (2, Go.Operand.tmp 79)], type := 28, pos := "graft.go:74", after := #[{ on := 8, ground := Go.Ground.data }, { on := 16, ground := Go.Ground.data }], guard := none }) (v := .agg #[.slice none 0 0, .slice ao2 n2 c2, .slice ao4 n4 c4]) rfl (by kernel_rfl) (by kernel_rfl) (by kernel_rfl) (fun _ _ _ h => h) (Or.inl ⟨by rfl, fun w _ => by go_simp⟩) (by assumption) ?_
      try simp only [Act.put, List.setIfInBounds_toArray, List.set_cons_zero, List.set_cons_succ]
      have r5 := HG1.out _ v4
      refine wpAnyH_ready (rs := [18]) (by kernel_rfl) (by simp) ?_
      refine AllReadyH.cons (o := { dst := none, op := Go.Op.store 28 (Go.Operand.tmp 7) (Go.Operand.tmp 80), type := 0, pos := "graft.go:74", after := #[{ on := 17, ground := Go.Ground.data }, { on := 16, ground := Go.Ground.chain }, { on := 0, ground := Go.Ground.phase }, { on := 1, ground := Go.Ground.phase }, { on := 2, ground := Go.Ground.phase }, { on := 3, ground := Go.Ground.phase }, { on := 4, ground := Go.Ground.phase }, { on := 5, ground := Go.Ground.phase }, { on := 6, ground := Go.Ground.phase }, { on := 7, ground := Go.Ground.phase }, { on := 8, ground := Go.Ground.phase }, { on := 9, ground := Go.Ground.phase }, { on := 10, ground := Go.Ground.phase }, { on := 11, ground := Go.Ground.phase }, { on := 12, ground := Go.Ground.phase }, { on := 13, ground := Go.Ground.phase }, { on := 14, ground := Go.Ground.phase }, { on := 15, ground := Go.Ground.phase }, { on := 16, ground := Go.Ground.phase }, { on := 17, ground := Go.Ground.phase }], guard := none }) rfl (fun K hK => ?_) (AllReadyH.nil)
      refine step_store_whole rfl 28 _ _ rfl (w.heap.size + 1) #[.slice none 0 0, .slice ao2 n2 c2, .slice ao4 n4 c4] _ 28 (by rfl) (by rfl) r5 rfl (by kernel_rfl) (by kernel_rfl) ?_
      intro W7 r7 f7
      refine hK.out _ _ trivial (fun _ => ?_)
      clear hK K
      refine wpAnyH_done (by kernel_rfl) ?_ _
      obtain ⟨hm1, hm2, hm3⟩ := HM.out
      have hz := HVZ.out
      have o2 := own_frameB own2 (Same.trans q3 q4) (fun _ _ f => f)
      have z4 := (t1.trans v4).size
      have zz1 : w.heap.size ≤ Y1.heap.size := (t1.trans v1).size
      have zz3 : w.heap.size ≤ Y3.heap.size := (t1.trans v3).size
      have HMD : Hid (∀ W, Same W7 W → MadeNd W w.heap.size ⟨none, 0, 0, 0, ao2, 0, 0, c2, ao4, 0, 0, c4⟩ M) := fun W s => (⟨by show World.ownsRow _ _ _ _ (.slice none M.ps.length 0) M.ps.length _; rw [hm1]; exact own_nil, by show World.ownsRow _ _ _ _ (.slice ao2 M.ss.length c2) M.ss.length _; rw [hm2]; exact own_base (own_frameB o2 f7 (fun kk hk e => type_ne o2 r5 (by decide) (by rw [← e]; exact hk))) zz1, by show World.ownsRow _ _ _ _ (.slice ao4 M.ks.length c4) M.ks.length _; rw [hm3]; exact own_base (own_frameB own4 f7 (fun kk hk e => type_ne own4 r5 (by decide) (by rw [← e]; exact hk))) zz3⟩ : MadeNd W7 w.heap.size ⟨none, 0, 0, 0, ao2, 0, 0, c2, ao4, 0, 0, c4⟩ M).same s
      have HCk2 : Hid (∀ W, Same W7 W → Calls Try.prog 18 #[frameV p q, .agg #[.slice none 0 0, .slice ao2 n2 c2, .slice ao4 n4 c4]] W fun e w' => e = .returned (.int .i64 C) ∧ Same W w') := fun W s => by
        have := HCk.out W _ _ (HMD.out W s)
        unfold ndV nodeV at this
        simp only at this
        rw [hm1, hm2, hm3] at this
        exact this
      obtain ⟨y0, y1⟩ := (HC.out _ v4).1
      have j0 : W7.cell? ⟨w.heap.size, 0, none⟩ = some (.int .i64 p) := (f7.cell (World.block_lt_of_cell? _ _ y0) (by simp)).trans y0
      have j1 : W7.cell? ⟨w.heap.size, 1, none⟩ = some (.int .i64 q) := (f7.cell (World.block_lt_of_cell? _ _ y1) (by simp)).trans y1
      have k0 : W7.cell? ⟨w.heap.size + 1, 0, none⟩ = some (.slice none 0 0) := (cell_of_row _ _ _ _ _ _ r7).trans rfl
      have k1 : W7.cell? ⟨w.heap.size + 1, 1, none⟩ = some (.slice ao2 n2 c2) := (cell_of_row _ _ _ _ _ _ r7).trans rfl
      have k2 : W7.cell? ⟨w.heap.size + 1, 2, none⟩ = some (.slice ao4 n4 c4) := (cell_of_row _ _ _ _ _ _ r7).trans rfl
      have r8 : W7.heap[w.heap.size + 1 + 1]? = some (.cells #[.slice none 0 0, .slice none 0 0, .slice none 0 0] 28 (0, 0)) := (f7.block _ (lt_of_heap (HG.out _ v4)) (by omega)).trans (HG.out _ v4)
      have w7 : Same w W7 := Fr.trans (t1.trans v4) f7 (fun i hi e => by omega)
      have HR8 : Hid (W7.heap[w.heap.size + 1 + 1]? = some (.cells #[.slice none 0 0, .slice none 0 0, .slice none 0 0] 28 (0, 0)) ∧ Same w W7) := ⟨r8, w7⟩
      have HK7 : Hid (∀ W, Same W7 W → W.cell? ⟨w.heap.size + 1, 0, none⟩ = some (.slice none 0 0) ∧ W.cell? ⟨w.heap.size + 1, 1, none⟩ = some (.slice ao2 n2 c2) ∧ W.cell? ⟨w.heap.size + 1, 2, none⟩ = some (.slice ao4 n4 c4)) := fun W s => ⟨s.keep k0, s.keep k1, s.keep k2⟩
      clear hm1 hm2 hm3 hz o2 z4 zz1 zz3 y0 y1 r8 w7 r5 r7 f7 own1 own2 own3 own4 q1 q2 q3 q4 v1 v2 v3 v4 hl1 hl10 u1 u2 dd
      go_wp2_with fail
      refine (HCk2.out _ (Fr.refl _ _)).mono ?_
      rintro e W9 ⟨rfl, s9⟩
      clear k0 k1 k2 j0 j1
      obtain ⟨k0, k1, k2⟩ := HK7.out _ s9
      have hz := HVZ.out
      have r6 : W9.heap[w.heap.size + 1 + 1]? = some (.cells #[.slice none 0 0, .slice none 0 0, .slice none 0 0] 28 (0, 0)) := (s9.block _ (lt_of_heap HR8.out.1) (fun e => e)).trans HR8.out.1
      go_wp2_with (refine wpList_store_whole (by rfl) 28 _ _ (by rfl) (w.heap.size + 1 + 1) #[.slice none 0 0, .slice none 0 0, .slice none 0 0] _ 28 (by rfl) (by rfl) r6 rfl (by kernel_rfl) (by kernel_rfl) ?_; intro W8 r8 f8)
      exact bodyPost_ret (results_row_tmp (p := 12) (u := 13) (ty := 28) (by kernel_rfl) _ _ (w.heap.size + 1 + 1) 28 _ (0, 0) _ rfl r8 Try.underlying28 rfl (by kernel_rfl)) rfl ⟨rfl, Fr.trans (HR8.out.2.trans s9) f8 (fun i hi e => by omega)⟩
  · have hl10 := (HC.out _ (HV2.out.trans dd)).2.2.2
    go_simp
    refine hK.out _ _ trivial (fun _ => ?_)
    clear hK K
    try simp only [Act.put, List.setIfInBounds_toArray, List.set_cons_zero, List.set_cons_succ]
    refine wpAnyH_ready (rs := [1]) (by kernel_rfl) (by simp) ?_
    refine AllReadyH.cons (o := { dst := some 64, op := Go.Op.load 25 (Go.Operand.tmp 63), type := 25, pos := "graft.go:74", after := #[{ on := 0, ground := Go.Ground.data }], guard := none }) rfl (fun K hK => ?_) (AllReadyH.nil)
    have hl1 := (HC.out _ (HV2.out.trans dd)).2.2.1
    go_simp
    refine hK.out _ _ trivial (fun _ => ?_)
    clear hK K
    try simp only [Act.put, List.setIfInBounds_toArray, List.set_cons_zero, List.set_cons_succ]
    refine wpAnyH_ready (rs := [5]) (by kernel_rfl) (by simp) ?_
    refine AllReadyH.cons (o := { dst := some 68, op := Go.Op.call { callee := Go.Callee.value (Go.Operand.func 15), args := #[Go.Operand.tmp 64, Go.Operand.tmp 65, Go.Operand.tmp 67], argTypes := #[25, 3, 3] }, type := 25, pos := "graft.go:75", after := #[{ on := 1, ground := Go.Ground.data }, { on := 2, ground := Go.Ground.data }, { on := 4, ground := Go.Ground.data }], guard := none }) rfl (fun K hK => ?_) (AllReadyH.nil)
    go_simp
    go_at_call 15
    refine (HW1.out _ (t1.trans (HV2.out.trans dd))).mono ?_
    rintro e Y1 ⟨ao1, c1, rfl, own1, q1⟩
    try go_wp2_with fail
    have v1 := (HV2.out.trans dd).trans q1
    refine hK.out _ _ trivial (fun _ => ?_)
    clear hK K
    try simp only [Act.put, List.setIfInBounds_toArray, List.set_cons_zero, List.set_cons_succ]
    refine wpAnyH_ready (rs := [8]) (by kernel_rfl) (by simp) ?_
    refine AllReadyH.cons (o := { dst := some 71, op := Go.Op.call { callee := Go.Callee.value (Go.Operand.func 14), args := #[Go.Operand.tmp 68, Go.Operand.tmp 69, Go.Operand.tmp 70], argTypes := #[25, 3, 25] }, type := 25, pos := "graft.go:75", after := #[{ on := 5, ground := Go.Ground.data }, { on := 6, ground := Go.Ground.data }, { on := 7, ground := Go.Ground.data }, { on := 5, ground := Go.Ground.chain }], guard := none }) rfl (fun K hK => ?_) (AllReadyH.nil)
    go_simp
    go_at_call 14
    refine (HX1.out _ _ _ _ (t1.trans v1) own1).mono ?_
    rintro e Y2 ⟨ao2, c2, rfl, own2, q2⟩
    try go_wp2_with fail
    have v2 := v1.trans q2
    refine hK.out _ _ trivial (fun _ => ?_)
    clear hK K
    try simp only [Act.put, List.setIfInBounds_toArray, List.set_cons_zero, List.set_cons_succ]
    refine wpAnyH_ready (rs := [13]) (by kernel_rfl) (by simp) ?_
    refine AllReadyH.cons (o := { dst := some 76, op := Go.Op.call { callee := Go.Callee.value (Go.Operand.func 17), args := #[Go.Operand.tmp 73, Go.Operand.tmp 74, Go.Operand.tmp 75], argTypes := #[26, 3, 3] }, type := 26, pos := "graft.go:76", after := #[{ on := 10, ground := Go.Ground.data }, { on := 11, ground := Go.Ground.data }, { on := 12, ground := Go.Ground.data }, { on := 8, ground := Go.Ground.chain }], guard := none }) rfl (fun K hK => ?_) (AllReadyH.nil)
    go_simp
    go_at_call 17
    refine (HW2.out _ (t1.trans v2)).mono ?_
    rintro e Y3 ⟨ao3, c3, rfl, own3, q3⟩
    try go_wp2_with fail
    have v3 := v2.trans q3
    refine hK.out _ _ trivial (fun _ => ?_)
    clear hK K
    try simp only [Act.put, List.setIfInBounds_toArray, List.set_cons_zero, List.set_cons_succ]
    refine wpAnyH_ready (rs := [16]) (by kernel_rfl) (by simp) ?_
    refine AllReadyH.cons (o := { dst := some 79, op := Go.Op.call { callee := Go.Callee.value (Go.Operand.func 16), args := #[Go.Operand.tmp 76, Go.Operand.tmp 77, Go.Operand.tmp 78], argTypes := #[26, 3, 26] }, type := 26, pos := "graft.go:76", after := #[{ on := 13, ground := Go.Ground.data }, { on := 14, ground := Go.Ground.data }, { on := 15, ground := Go.Ground.data }, { on := 13, ground := Go.Ground.chain }], guard := none }) rfl (fun K hK => ?_) (AllReadyH.nil)
    go_simp
    go_at_call 16
    refine (HX2.out _ _ _ _ (t1.trans v3) own3).mono ?_
    rintro e Y4 ⟨ao4, c4, rfl, own4, q4⟩
    try go_wp2_with fail
    have v4 := v3.trans q4
    refine hK.out _ _ trivial (fun _ => ?_)
    clear hK K
    try simp only [Act.put, List.setIfInBounds_toArray, List.set_cons_zero, List.set_cons_succ]
    refine wpAnyH_take (i := 17) (oi := { dst := some 80, op := Go.Op.build 28 #[(1, Go.Operand.tmp 71), (2, Go.Operand.tmp 79)], type := 28, pos := "graft.go:74", after := #[{ on := 8, ground := Go.Ground.data }, { on := 16, ground := Go.Ground.data }], guard := none }) (v := .agg #[.slice none 0 0, .slice ao2 n2 c2, .slice ao4 n4 c4]) rfl (by kernel_rfl) (by kernel_rfl) (by kernel_rfl) (fun _ _ _ h => h) (Or.inl ⟨by rfl, fun w _ => by go_simp⟩) (by assumption) ?_
    try simp only [Act.put, List.setIfInBounds_toArray, List.set_cons_zero, List.set_cons_succ]
    have r5 := HG1.out _ v4
    refine wpAnyH_ready (rs := [18]) (by kernel_rfl) (by simp) ?_
    refine AllReadyH.cons (o := { dst := none, op := Go.Op.store 28 (Go.Operand.tmp 7) (Go.Operand.tmp 80), type := 0, pos := "graft.go:74", after := #[{ on := 17, ground := Go.Ground.data }, { on := 16, ground := Go.Ground.chain }, { on := 0, ground := Go.Ground.phase }, { on := 1, ground := Go.Ground.phase }, { on := 2, ground := Go.Ground.phase }, { on := 3, ground := Go.Ground.phase }, { on := 4, ground := Go.Ground.phase }, { on := 5, ground := Go.Ground.phase }, { on := 6, ground := Go.Ground.phase }, { on := 7, ground := Go.Ground.phase }, { on := 8, ground := Go.Ground.phase }, { on := 9, ground := Go.Ground.phase }, { on := 10, ground := Go.Ground.phase }, { on := 11, ground := Go.Ground.phase }, { on := 12, ground := Go.Ground.phase }, { on := 13, ground := Go.Ground.phase }, { on := 14, ground := Go.Ground.phase }, { on := 15, ground := Go.Ground.phase }, { on := 16, ground := Go.Ground.phase }, { on := 17, ground := Go.Ground.phase }], guard := none }) rfl (fun K hK => ?_) (AllReadyH.nil)
    refine step_store_whole rfl 28 _ _ rfl (w.heap.size + 1) #[.slice none 0 0, .slice ao2 n2 c2, .slice ao4 n4 c4] _ 28 (by rfl) (by rfl) r5 rfl (by kernel_rfl) (by kernel_rfl) ?_
    intro W7 r7 f7
    refine hK.out _ _ trivial (fun _ => ?_)
    clear hK K
    refine wpAnyH_done (by kernel_rfl) ?_ _
    obtain ⟨hm1, hm2, hm3⟩ := HM.out
    have hz := HVZ.out
    have o2 := own_frameB own2 (Same.trans q3 q4) (fun _ _ f => f)
    have z4 := (t1.trans v4).size
    have zz1 : w.heap.size ≤ Y1.heap.size := (t1.trans v1).size
    have zz3 : w.heap.size ≤ Y3.heap.size := (t1.trans v3).size
    have HMD : Hid (∀ W, Same W7 W → MadeNd W w.heap.size ⟨none, 0, 0, 0, ao2, 0, 0, c2, ao4, 0, 0, c4⟩ M) := fun W s => (⟨by show World.ownsRow _ _ _ _ (.slice none M.ps.length 0) M.ps.length _; rw [hm1]; exact own_nil, by show World.ownsRow _ _ _ _ (.slice ao2 M.ss.length c2) M.ss.length _; rw [hm2]; exact own_base (own_frameB o2 f7 (fun kk hk e => type_ne o2 r5 (by decide) (by rw [← e]; exact hk))) zz1, by show World.ownsRow _ _ _ _ (.slice ao4 M.ks.length c4) M.ks.length _; rw [hm3]; exact own_base (own_frameB own4 f7 (fun kk hk e => type_ne own4 r5 (by decide) (by rw [← e]; exact hk))) zz3⟩ : MadeNd W7 w.heap.size ⟨none, 0, 0, 0, ao2, 0, 0, c2, ao4, 0, 0, c4⟩ M).same s
    have HCk2 : Hid (∀ W, Same W7 W → Calls Try.prog 18 #[frameV p q, .agg #[.slice none 0 0, .slice ao2 n2 c2, .slice ao4 n4 c4]] W fun e w' => e = .returned (.int .i64 C) ∧ Same W w') := fun W s => by
      have := HCk.out W _ _ (HMD.out W s)
      unfold ndV nodeV at this
      simp only at this
      rw [hm1, hm2, hm3] at this
      exact this
    obtain ⟨y0, y1⟩ := (HC.out _ v4).1
    have j0 : W7.cell? ⟨w.heap.size, 0, none⟩ = some (.int .i64 p) := (f7.cell (World.block_lt_of_cell? _ _ y0) (by simp)).trans y0
    have j1 : W7.cell? ⟨w.heap.size, 1, none⟩ = some (.int .i64 q) := (f7.cell (World.block_lt_of_cell? _ _ y1) (by simp)).trans y1
    have k0 : W7.cell? ⟨w.heap.size + 1, 0, none⟩ = some (.slice none 0 0) := (cell_of_row _ _ _ _ _ _ r7).trans rfl
    have k1 : W7.cell? ⟨w.heap.size + 1, 1, none⟩ = some (.slice ao2 n2 c2) := (cell_of_row _ _ _ _ _ _ r7).trans rfl
    have k2 : W7.cell? ⟨w.heap.size + 1, 2, none⟩ = some (.slice ao4 n4 c4) := (cell_of_row _ _ _ _ _ _ r7).trans rfl
    have r8 : W7.heap[w.heap.size + 1 + 1]? = some (.cells #[.slice none 0 0, .slice none 0 0, .slice none 0 0] 28 (0, 0)) := (f7.block _ (lt_of_heap (HG.out _ v4)) (by omega)).trans (HG.out _ v4)
    have w7 : Same w W7 := Fr.trans (t1.trans v4) f7 (fun i hi e => by omega)
    have HR8 : Hid (W7.heap[w.heap.size + 1 + 1]? = some (.cells #[.slice none 0 0, .slice none 0 0, .slice none 0 0] 28 (0, 0)) ∧ Same w W7) := ⟨r8, w7⟩
    have HK7 : Hid (∀ W, Same W7 W → W.cell? ⟨w.heap.size + 1, 0, none⟩ = some (.slice none 0 0) ∧ W.cell? ⟨w.heap.size + 1, 1, none⟩ = some (.slice ao2 n2 c2) ∧ W.cell? ⟨w.heap.size + 1, 2, none⟩ = some (.slice ao4 n4 c4)) := fun W s => ⟨s.keep k0, s.keep k1, s.keep k2⟩
    clear hm1 hm2 hm3 hz o2 z4 zz1 zz3 y0 y1 r8 w7 r5 r7 f7 own1 own2 own3 own4 q1 q2 q3 q4 v1 v2 v3 v4 hl1 hl10 u1 u2 dd
    go_wp2_with fail
    refine (HCk2.out _ (Fr.refl _ _)).mono ?_
    rintro e W9 ⟨rfl, s9⟩
    clear k0 k1 k2 j0 j1
    obtain ⟨k0, k1, k2⟩ := HK7.out _ s9
    have hz := HVZ.out
    have r6 : W9.heap[w.heap.size + 1 + 1]? = some (.cells #[.slice none 0 0, .slice none 0 0, .slice none 0 0] 28 (0, 0)) := (s9.block _ (lt_of_heap HR8.out.1) (fun e => e)).trans HR8.out.1
    go_wp2_with (refine wpList_store_whole (by rfl) 28 _ _ (by rfl) (w.heap.size + 1 + 1) #[.slice none 0 0, .slice none 0 0, .slice none 0 0] _ 28 (by rfl) (by rfl) r6 rfl (by kernel_rfl) (by kernel_rfl) ?_; intro W8 r8 f8)
    exact bodyPost_ret (results_row_tmp (p := 12) (u := 13) (ty := 28) (by kernel_rfl) _ _ (w.heap.size + 1 + 1) 28 _ (0, 0) _ rfl r8 Try.underlying28 rfl (by kernel_rfl)) rfl ⟨rfl, Fr.trans (HR8.out.2.trans s9) f8 (fun i hi e => by omega)⟩
end Go.Proofs.Yteddbkbfnafbpaa
