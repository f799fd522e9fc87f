/- The document's Splice. -/
import Derived.Test.YteddbkbfnafbpaaC3
import Derived.Test.YteddbkbfnafbpaaV3
import Derived.Test.YteddbkbfnafbpaaVD
import Derived.Test.YteddbkbfnafbpaaCB
import Derived.Deep.Cut
namespace Go.Proofs.Yteddbkbfnafbpaa
open Go.RowKit

theorem BS.drew {V W : World} {B nb : Nat} {pa : Option Addr} {np cp : Nat} {xs : List Value} {sa : Option Addr} {ns cs : Nat} {ys : List Value} {ka : Option Addr} {nk ck : Nat} {zs : List Value} (h : BS V W B nb pa np cp xs sa ns cs ys ka nk ck zs) : BS V W.drew B nb pa np cp xs sa ns cs ys ka nk ck zs := ⟨h.hb, h.oP, h.oS, h.oK, Fr.drew h.fr, h.hn, h.hB, h.hW⟩
set_option maxRecDepth 100000 in
set_option maxHeartbeats 2000000 in
theorem dsplice_frame {p q at_ many : Int} {r : Nr} {N : Nd} {ka2 sa2 : Option Addr} {kk ck2 sl cs2 : Nat} (w : World) (HR : Hid (∀ W, Calls Try.prog 19 #[frameV p q] W fun e w' => e = .returned (.bool false) ∧ Same W w')) :
    Calls Try.prog 6 #[frameV p q, ndV r N, .int .i64 at_, .int .i64 many, .slice ka2 kk ck2, .slice sa2 sl cs2] w fun e w' => e = .returned (.tuple #[nodeV none 0 0 none 0 0 none 0 0, .int .i64 2]) ∧ Same w w' := by
  obtain ⟨V, hV⟩ : ∃ V, V = ((w.alloc (.cells #[.int .i64 p, .int .i64 q] 23)).alloc (.cells #[.slice r.pa N.ps.length r.cp, .slice r.sa N.ss.length r.cs, .slice r.ka N.ks.length r.ck] 28)).alloc (.cells #[.slice none 0 0, .slice none 0 0, .slice none 0 0] 28) := ⟨_, rfl⟩
  have t1 : Same w V := by rw [hV]; exact (((Fr.refl _ w).alloc _).alloc _).alloc _
  obtain ⟨g0, g1, g2⟩ := three_boxes w (.cells #[.int .i64 p, .int .i64 q] 23) (.cells #[.slice r.pa N.ps.length r.cp, .slice r.sa N.ss.length r.cs, .slice r.ka N.ks.length r.ck] 28) (.cells #[.slice none 0 0, .slice none 0 0, .slice none 0 0] 28)
  rw [← hV] at g0 g1 g2
  have HC : Hid (∀ W, Same V W → (W.cell? ⟨w.heap.size, 0, none⟩ = some (.int .i64 p) ∧ W.cell? ⟨w.heap.size, 1, none⟩ = some (.int .i64 q)) ∧ W.cell? ⟨w.heap.size + 1, 0, none⟩ = some (.slice r.pa N.ps.length r.cp) ∧ W.cell? ⟨w.heap.size + 1, 1, none⟩ = some (.slice r.sa N.ss.length r.cs) ∧ W.cell? ⟨w.heap.size + 1, 2, none⟩ = some (.slice r.ka N.ks.length r.ck)) := fun W s => ⟨⟨s.keep ((cell_of_row _ _ _ _ _ _ g0).trans rfl), s.keep ((cell_of_row _ _ _ _ _ _ g0).trans rfl)⟩, s.keep ((cell_of_row _ _ _ _ _ _ g1).trans rfl), s.keep ((cell_of_row _ _ _ _ _ _ g1).trans rfl), s.keep ((cell_of_row _ _ _ _ _ _ g1).trans rfl)⟩
  have HG : Hid (∀ W, Same V W → W.heap[w.heap.size + 1 + 1]? = some (.cells #[.slice none 0 0, .slice none 0 0, .slice none 0 0] 28 (0, 0))) := fun W s => (s.block _ (lt_of_heap g2) (fun e => e)).trans g2
  have HVZ : Hid (w.heap.size + 3 = V.heap.size) := by show _ = _; rw [hV]; simp
  obtain ⟨⟨a0, a1⟩, n0, n1, n2⟩ := HC.out _ (Fr.refl _ V)
  clear g0 g1 g2
  unfold ndV nodeV
  go_enter Try.func6, Try.ntmps6
  go_wp2_with fail
  rw [← hV]
  clear hV
  refine (HR.out _).mono ?_
  rintro e W1 ⟨rfl, s1⟩
  clear a0 a1 n0 n1 n2
  obtain ⟨⟨a0, a1⟩, n0, n1, n2⟩ := HC.out _ s1
  have r6 := HG.out _ s1
  go_wp2_with (refine wpList_store_whole (by rfl) 28 _ _ (by rfl) (w.heap.size + 1 + 1) #[.slice none 0 0, .slice none 0 0, .slice none 0 0] _ 28 (by rfl) (by rfl) r6 rfl (by kernel_rfl) (by kernel_rfl) ?_; intro W7 r7 f7)
  have hz := HVZ.out
  exact bodyPost_ret (results_row_tmp (p := 12) (u := 13) (ty := 28) (by kernel_rfl) _ _ (w.heap.size + 1 + 1) 28 _ (0, 0) _ rfl r7 Try.underlying28 rfl (by kernel_rfl)) rfl ⟨rfl, Fr.trans (t1.trans s1) f7 (fun i hi e => by omega)⟩
set_option maxRecDepth 100000 in
set_option maxHeartbeats 2000000 in
theorem dsplice_shape {p q at_ many : Int} {r : Nr} {N : Nd} {ka2 sa2 : Option Addr} {kk ck2 sl cs2 : Nat} (w : World) (HR : Hid (∀ W, Calls Try.prog 19 #[frameV p q] W fun e w' => e = .returned (.bool true) ∧ Same W w')) (HB : Hid (∀ W, Same w W → Calls Try.prog 20 #[frameV p q, ndV r N] W fun e w' => e = .returned (.bool false) ∧ Same W w')) :
    Calls Try.prog 6 #[frameV p q, ndV r N, .int .i64 at_, .int .i64 many, .slice ka2 kk ck2, .slice sa2 sl cs2] w fun e w' => e = .returned (.tuple #[nodeV none 0 0 none 0 0 none 0 0, .int .i64 80]) ∧ Same w w' := by
  obtain ⟨V, hV⟩ : ∃ V, V = ((w.alloc (.cells #[.int .i64 p, .int .i64 q] 23)).alloc (.cells #[.slice r.pa N.ps.length r.cp, .slice r.sa N.ss.length r.cs, .slice r.ka N.ks.length r.ck] 28)).alloc (.cells #[.slice none 0 0, .slice none 0 0, .slice none 0 0] 28) := ⟨_, rfl⟩
  have t1 : Same w V := by rw [hV]; exact (((Fr.refl _ w).alloc _).alloc _).alloc _
  obtain ⟨g0, g1, g2⟩ := three_boxes w (.cells #[.int .i64 p, .int .i64 q] 23) (.cells #[.slice r.pa N.ps.length r.cp, .slice r.sa N.ss.length r.cs, .slice r.ka N.ks.length r.ck] 28) (.cells #[.slice none 0 0, .slice none 0 0, .slice none 0 0] 28)
  rw [← hV] at g0 g1 g2
  have HC : Hid (∀ W, Same V W → (W.cell? ⟨w.heap.size, 0, none⟩ = some (.int .i64 p) ∧ W.cell? ⟨w.heap.size, 1, none⟩ = some (.int .i64 q)) ∧ W.cell? ⟨w.heap.size + 1, 0, none⟩ = some (.slice r.pa N.ps.length r.cp) ∧ W.cell? ⟨w.heap.size + 1, 1, none⟩ = some (.slice r.sa N.ss.length r.cs) ∧ W.cell? ⟨w.heap.size + 1, 2, none⟩ = some (.slice r.ka N.ks.length r.ck)) := fun W s => ⟨⟨s.keep ((cell_of_row _ _ _ _ _ _ g0).trans rfl), s.keep ((cell_of_row _ _ _ _ _ _ g0).trans rfl)⟩, s.keep ((cell_of_row _ _ _ _ _ _ g1).trans rfl), s.keep ((cell_of_row _ _ _ _ _ _ g1).trans rfl), s.keep ((cell_of_row _ _ _ _ _ _ g1).trans rfl)⟩
  have HG : Hid (∀ W, Same V W → W.heap[w.heap.size + 1 + 1]? = some (.cells #[.slice none 0 0, .slice none 0 0, .slice none 0 0] 28 (0, 0))) := fun W s => (s.block _ (lt_of_heap g2) (fun e => e)).trans g2
  have HVZ : Hid (w.heap.size + 3 = V.heap.size) := by show _ = _; rw [hV]; simp
  obtain ⟨⟨a0, a1⟩, n0, n1, n2⟩ := HC.out _ (Fr.refl _ V)
  clear g0 g1 g2
  unfold ndV nodeV at HB ⊢
  go_enter Try.func6, Try.ntmps6
  go_wp2_with fail
  rw [← hV]
  clear hV
  refine (HR.out _).mono ?_
  rintro e W1 ⟨rfl, s1⟩
  clear a0 a1 n0 n1 n2
  obtain ⟨⟨a0, a1⟩, n0, n1, n2⟩ := HC.out _ s1
  go_wp2_with fail
  refine (HB.out _ (t1.trans s1)).mono ?_
  rintro e W2 ⟨rfl, s2⟩
  have s2 := s1.trans s2
  clear a0 a1 n0 n1 n2
  obtain ⟨⟨a0, a1⟩, n0, n1, n2⟩ := HC.out _ s2
  have r6 := HG.out _ s2
  go_wp2_with (refine wpList_store_whole (by rfl) 28 _ _ (by rfl) (w.heap.size + 1 + 1) #[.slice none 0 0, .slice none 0 0, .slice none 0 0] _ 28 (by rfl) (by rfl) r6 rfl (by kernel_rfl) (by kernel_rfl) ?_; intro W7 r7 f7)
  have hz := HVZ.out
  exact bodyPost_ret (results_row_tmp (p := 12) (u := 13) (ty := 28) (by kernel_rfl) _ _ (w.heap.size + 1 + 1) 28 _ (0, 0) _ rfl r7 Try.underlying28 rfl (by kernel_rfl)) rfl ⟨rfl, Fr.trans (t1.trans s2) f7 (fun i hi e => by omega)⟩
set_option maxRecDepth 100000 in
set_option maxHeartbeats 2000000 in
theorem dsplice_c1 {p q at_ many : Int} {r : Nr} {N : Nd} {ka2 sa2 : Option Addr} {kk ck2 sl cs2 : Nat} (w : World) (h0 : at_ < 0) (hn : N.ks.length ≤ 1048576) (hkk : kk ≤ 1048576) (HR : Hid (∀ W, Calls Try.prog 19 #[frameV p q] W fun e w' => e = .returned (.bool true) ∧ Same W w')) (HB : Hid (∀ W, Same w W → Calls Try.prog 20 #[frameV p q, ndV r N] W fun e w' => e = .returned (.bool true) ∧ Same W w')) :
    Calls Try.prog 6 #[frameV p q, ndV r N, .int .i64 at_, .int .i64 many, .slice ka2 kk ck2, .slice sa2 sl cs2] w fun e w' => e = .returned (.tuple #[nodeV none 0 0 none 0 0 none 0 0, .int .i64 2]) ∧ Same w w' := by
  have hn9 : (N.ks.length : Int) ≤ 1048576 := by omega
  have hn8 : (kk : Int) ≤ 1048576 := by omega
  have c1 : decide (at_ < 0) = true := decide_eq_true (by omega)
  clear h0 hn hkk hn9 hn8
  obtain ⟨V, hV⟩ : ∃ V, V = ((w.alloc (.cells #[.int .i64 p, .int .i64 q] 23)).alloc (.cells #[.slice r.pa N.ps.length r.cp, .slice r.sa N.ss.length r.cs, .slice r.ka N.ks.length r.ck] 28)).alloc (.cells #[.slice none 0 0, .slice none 0 0, .slice none 0 0] 28) := ⟨_, rfl⟩
  have t1 : Same w V := by rw [hV]; exact (((Fr.refl _ w).alloc _).alloc _).alloc _
  obtain ⟨g0, g1, g2⟩ := three_boxes w (.cells #[.int .i64 p, .int .i64 q] 23) (.cells #[.slice r.pa N.ps.length r.cp, .slice r.sa N.ss.length r.cs, .slice r.ka N.ks.length r.ck] 28) (.cells #[.slice none 0 0, .slice none 0 0, .slice none 0 0] 28)
  rw [← hV] at g0 g1 g2
  have HC : Hid (∀ W, Same V W → (W.cell? ⟨w.heap.size, 0, none⟩ = some (.int .i64 p) ∧ W.cell? ⟨w.heap.size, 1, none⟩ = some (.int .i64 q)) ∧ W.cell? ⟨w.heap.size + 1, 0, none⟩ = some (.slice r.pa N.ps.length r.cp) ∧ W.cell? ⟨w.heap.size + 1, 1, none⟩ = some (.slice r.sa N.ss.length r.cs) ∧ W.cell? ⟨w.heap.size + 1, 2, none⟩ = some (.slice r.ka N.ks.length r.ck)) := fun W s => ⟨⟨s.keep ((cell_of_row _ _ _ _ _ _ g0).trans rfl), s.keep ((cell_of_row _ _ _ _ _ _ g0).trans rfl)⟩, s.keep ((cell_of_row _ _ _ _ _ _ g1).trans rfl), s.keep ((cell_of_row _ _ _ _ _ _ g1).trans rfl), s.keep ((cell_of_row _ _ _ _ _ _ g1).trans rfl)⟩
  have HG : Hid (∀ W, Same V W → W.heap[w.heap.size + 1 + 1]? = some (.cells #[.slice none 0 0, .slice none 0 0, .slice none 0 0] 28 (0, 0))) := fun W s => (s.block _ (lt_of_heap g2) (fun e => e)).trans g2
  have HVZ : Hid (w.heap.size + 3 = V.heap.size) := by show _ = _; rw [hV]; simp
  obtain ⟨⟨a0, a1⟩, n0, n1, n2⟩ := HC.out _ (Fr.refl _ V)
  clear g0 g1 g2
  unfold ndV nodeV at HB ⊢
  go_enter Try.func6, Try.ntmps6
  go_wp2_with fail
  rw [← hV]
  clear hV
  refine (HR.out _).mono ?_
  rintro e W1 ⟨rfl, s1⟩
  clear a0 a1 n0 n1 n2
  obtain ⟨⟨a0, a1⟩, n0, n1, n2⟩ := HC.out _ s1
  go_wp2_with fail
  refine (HB.out _ (t1.trans s1)).mono ?_
  rintro e W2 ⟨rfl, s2⟩
  have s2 := s1.trans s2
  clear a0 a1 n0 n1 n2
  obtain ⟨⟨a0, a1⟩, n0, n1, n2⟩ := HC.out _ s2
  go_upto_if 69 with fail
  have r6 := HG.out _ s2
  go_wp2_with (refine wpList_store_whole (by rfl) 28 _ _ (by rfl) (w.heap.size + 1 + 1) #[.slice none 0 0, .slice none 0 0, .slice none 0 0] _ 28 (by rfl) (by rfl) r6 rfl (by kernel_rfl) (by kernel_rfl) ?_; intro W7 r7 f7)
  have hz := HVZ.out
  exact bodyPost_ret (results_row_tmp (p := 12) (u := 13) (ty := 28) (by kernel_rfl) _ _ (w.heap.size + 1 + 1) 28 _ (0, 0) _ rfl r7 Try.underlying28 rfl (by kernel_rfl)) rfl ⟨rfl, Fr.trans (t1.trans s2) f7 (fun i hi e => by omega)⟩
set_option maxRecDepth 100000 in
set_option maxHeartbeats 2000000 in
theorem dsplice_c2 {p q at_ many : Int} {r : Nr} {N : Nd} {ka2 sa2 : Option Addr} {kk ck2 sl cs2 : Nat} (w : World) (h0 : ¬ (at_ < 0)) (h1 : many < 1) (hn : N.ks.length ≤ 1048576) (hkk : kk ≤ 1048576) (HR : Hid (∀ W, Calls Try.prog 19 #[frameV p q] W fun e w' => e = .returned (.bool true) ∧ Same W w')) (HB : Hid (∀ W, Same w W → Calls Try.prog 20 #[frameV p q, ndV r N] W fun e w' => e = .returned (.bool true) ∧ Same W w')) :
    Calls Try.prog 6 #[frameV p q, ndV r N, .int .i64 at_, .int .i64 many, .slice ka2 kk ck2, .slice sa2 sl cs2] w fun e w' => e = .returned (.tuple #[nodeV none 0 0 none 0 0 none 0 0, .int .i64 2]) ∧ Same w w' := by
  have hn9 : (N.ks.length : Int) ≤ 1048576 := by omega
  have hn8 : (kk : Int) ≤ 1048576 := by omega
  have c1 : decide (at_ < 0) = false := decide_eq_false (by omega)
  have c2 : decide (many < 1) = true := decide_eq_true (by omega)
  clear h0 h1 hn hkk hn9 hn8
  obtain ⟨V, hV⟩ : ∃ V, V = ((w.alloc (.cells #[.int .i64 p, .int .i64 q] 23)).alloc (.cells #[.slice r.pa N.ps.length r.cp, .slice r.sa N.ss.length r.cs, .slice r.ka N.ks.length r.ck] 28)).alloc (.cells #[.slice none 0 0, .slice none 0 0, .slice none 0 0] 28) := ⟨_, rfl⟩
  have t1 : Same w V := by rw [hV]; exact (((Fr.refl _ w).alloc _).alloc _).alloc _
  obtain ⟨g0, g1, g2⟩ := three_boxes w (.cells #[.int .i64 p, .int .i64 q] 23) (.cells #[.slice r.pa N.ps.length r.cp, .slice r.sa N.ss.length r.cs, .slice r.ka N.ks.length r.ck] 28) (.cells #[.slice none 0 0, .slice none 0 0, .slice none 0 0] 28)
  rw [← hV] at g0 g1 g2
  have HC : Hid (∀ W, Same V W → (W.cell? ⟨w.heap.size, 0, none⟩ = some (.int .i64 p) ∧ W.cell? ⟨w.heap.size, 1, none⟩ = some (.int .i64 q)) ∧ W.cell? ⟨w.heap.size + 1, 0, none⟩ = some (.slice r.pa N.ps.length r.cp) ∧ W.cell? ⟨w.heap.size + 1, 1, none⟩ = some (.slice r.sa N.ss.length r.cs) ∧ W.cell? ⟨w.heap.size + 1, 2, none⟩ = some (.slice r.ka N.ks.length r.ck)) := fun W s => ⟨⟨s.keep ((cell_of_row _ _ _ _ _ _ g0).trans rfl), s.keep ((cell_of_row _ _ _ _ _ _ g0).trans rfl)⟩, s.keep ((cell_of_row _ _ _ _ _ _ g1).trans rfl), s.keep ((cell_of_row _ _ _ _ _ _ g1).trans rfl), s.keep ((cell_of_row _ _ _ _ _ _ g1).trans rfl)⟩
  have HG : Hid (∀ W, Same V W → W.heap[w.heap.size + 1 + 1]? = some (.cells #[.slice none 0 0, .slice none 0 0, .slice none 0 0] 28 (0, 0))) := fun W s => (s.block _ (lt_of_heap g2) (fun e => e)).trans g2
  have HVZ : Hid (w.heap.size + 3 = V.heap.size) := by show _ = _; rw [hV]; simp
  obtain ⟨⟨a0, a1⟩, n0, n1, n2⟩ := HC.out _ (Fr.refl _ V)
  clear g0 g1 g2
  unfold ndV nodeV at HB ⊢
  go_enter Try.func6, Try.ntmps6
  go_wp2_with fail
  rw [← hV]
  clear hV
  refine (HR.out _).mono ?_
  rintro e W1 ⟨rfl, s1⟩
  clear a0 a1 n0 n1 n2
  obtain ⟨⟨a0, a1⟩, n0, n1, n2⟩ := HC.out _ s1
  go_wp2_with fail
  refine (HB.out _ (t1.trans s1)).mono ?_
  rintro e W2 ⟨rfl, s2⟩
  have s2 := s1.trans s2
  clear a0 a1 n0 n1 n2
  obtain ⟨⟨a0, a1⟩, n0, n1, n2⟩ := HC.out _ s2
  go_upto_if 69 with fail
  have r6 := HG.out _ s2
  go_wp2_with (refine wpList_store_whole (by rfl) 28 _ _ (by rfl) (w.heap.size + 1 + 1) #[.slice none 0 0, .slice none 0 0, .slice none 0 0] _ 28 (by rfl) (by rfl) r6 rfl (by kernel_rfl) (by kernel_rfl) ?_; intro W7 r7 f7)
  have hz := HVZ.out
  exact bodyPost_ret (results_row_tmp (p := 12) (u := 13) (ty := 28) (by kernel_rfl) _ _ (w.heap.size + 1 + 1) 28 _ (0, 0) _ rfl r7 Try.underlying28 rfl (by kernel_rfl)) rfl ⟨rfl, Fr.trans (t1.trans s2) f7 (fun i hi e => by omega)⟩
set_option maxRecDepth 100000 in
set_option maxHeartbeats 2000000 in
theorem dsplice_c3 {p q at_ many : Int} {r : Nr} {N : Nd} {ka2 sa2 : Option Addr} {kk ck2 sl cs2 : Nat} (w : World) (h0 : ¬ (at_ < 0)) (h1 : ¬ (many < 1)) (h2 : (N.ks.length : Int) < at_) (hn : N.ks.length ≤ 1048576) (hkk : kk ≤ 1048576) (HR : Hid (∀ W, Calls Try.prog 19 #[frameV p q] W fun e w' => e = .returned (.bool true) ∧ Same W w')) (HB : Hid (∀ W, Same w W → Calls Try.prog 20 #[frameV p q, ndV r N] W fun e w' => e = .returned (.bool true) ∧ Same W w')) :
    Calls Try.prog 6 #[frameV p q, ndV r N, .int .i64 at_, .int .i64 many, .slice ka2 kk ck2, .slice sa2 sl cs2] w fun e w' => e = .returned (.tuple #[nodeV none 0 0 none 0 0 none 0 0, .int .i64 2]) ∧ Same w w' := by
  have hn9 : (N.ks.length : Int) ≤ 1048576 := by omega
  have hn8 : (kk : Int) ≤ 1048576 := by omega
  have c1 : decide (at_ < 0) = false := decide_eq_false (by omega)
  have c2 : decide (many < 1) = false := decide_eq_false (by omega)
  have c3 : decide ((N.ks.length : Int) < at_) = true := decide_eq_true (by omega)
  clear h0 h1 h2 hn hkk hn9 hn8
  obtain ⟨V, hV⟩ : ∃ V, V = ((w.alloc (.cells #[.int .i64 p, .int .i64 q] 23)).alloc (.cells #[.slice r.pa N.ps.length r.cp, .slice r.sa N.ss.length r.cs, .slice r.ka N.ks.length r.ck] 28)).alloc (.cells #[.slice none 0 0, .slice none 0 0, .slice none 0 0] 28) := ⟨_, rfl⟩
  have t1 : Same w V := by rw [hV]; exact (((Fr.refl _ w).alloc _).alloc _).alloc _
  obtain ⟨g0, g1, g2⟩ := three_boxes w (.cells #[.int .i64 p, .int .i64 q] 23) (.cells #[.slice r.pa N.ps.length r.cp, .slice r.sa N.ss.length r.cs, .slice r.ka N.ks.length r.ck] 28) (.cells #[.slice none 0 0, .slice none 0 0, .slice none 0 0] 28)
  rw [← hV] at g0 g1 g2
  have HC : Hid (∀ W, Same V W → (W.cell? ⟨w.heap.size, 0, none⟩ = some (.int .i64 p) ∧ W.cell? ⟨w.heap.size, 1, none⟩ = some (.int .i64 q)) ∧ W.cell? ⟨w.heap.size + 1, 0, none⟩ = some (.slice r.pa N.ps.length r.cp) ∧ W.cell? ⟨w.heap.size + 1, 1, none⟩ = some (.slice r.sa N.ss.length r.cs) ∧ W.cell? ⟨w.heap.size + 1, 2, none⟩ = some (.slice r.ka N.ks.length r.ck)) := fun W s => ⟨⟨s.keep ((cell_of_row _ _ _ _ _ _ g0).trans rfl), s.keep ((cell_of_row _ _ _ _ _ _ g0).trans rfl)⟩, s.keep ((cell_of_row _ _ _ _ _ _ g1).trans rfl), s.keep ((cell_of_row _ _ _ _ _ _ g1).trans rfl), s.keep ((cell_of_row _ _ _ _ _ _ g1).trans rfl)⟩
  have HG : Hid (∀ W, Same V W → W.heap[w.heap.size + 1 + 1]? = some (.cells #[.slice none 0 0, .slice none 0 0, .slice none 0 0] 28 (0, 0))) := fun W s => (s.block _ (lt_of_heap g2) (fun e => e)).trans g2
  have HVZ : Hid (w.heap.size + 3 = V.heap.size) := by show _ = _; rw [hV]; simp
  obtain ⟨⟨a0, a1⟩, n0, n1, n2⟩ := HC.out _ (Fr.refl _ V)
  clear g0 g1 g2
  unfold ndV nodeV at HB ⊢
  go_enter Try.func6, Try.ntmps6
  go_wp2_with fail
  rw [← hV]
  clear hV
  refine (HR.out _).mono ?_
  rintro e W1 ⟨rfl, s1⟩
  clear a0 a1 n0 n1 n2
  obtain ⟨⟨a0, a1⟩, n0, n1, n2⟩ := HC.out _ s1
  go_wp2_with fail
  refine (HB.out _ (t1.trans s1)).mono ?_
  rintro e W2 ⟨rfl, s2⟩
  have s2 := s1.trans s2
  clear a0 a1 n0 n1 n2
  obtain ⟨⟨a0, a1⟩, n0, n1, n2⟩ := HC.out _ s2
  go_upto_if 69 with fail
  have r6 := HG.out _ s2
  go_wp2_with (refine wpList_store_whole (by rfl) 28 _ _ (by rfl) (w.heap.size + 1 + 1) #[.slice none 0 0, .slice none 0 0, .slice none 0 0] _ 28 (by rfl) (by rfl) r6 rfl (by kernel_rfl) (by kernel_rfl) ?_; intro W7 r7 f7)
  have hz := HVZ.out
  exact bodyPost_ret (results_row_tmp (p := 12) (u := 13) (ty := 28) (by kernel_rfl) _ _ (w.heap.size + 1 + 1) 28 _ (0, 0) _ rfl r7 Try.underlying28 rfl (by kernel_rfl)) rfl ⟨rfl, Fr.trans (t1.trans s2) f7 (fun i hi e => by omega)⟩
set_option maxRecDepth 100000 in
set_option maxHeartbeats 2000000 in
theorem dsplice_c4 {p q at_ many : Int} {r : Nr} {N : Nd} {ka2 sa2 : Option Addr} {kk ck2 sl cs2 : Nat} (w : World) (h0 : ¬ (at_ < 0)) (h1 : ¬ (many < 1)) (h2 : ¬ ((N.ks.length : Int) < at_)) (h3 : (N.ks.length : Int) - at_ < many) (hn : N.ks.length ≤ 1048576) (hkk : kk ≤ 1048576) (HR : Hid (∀ W, Calls Try.prog 19 #[frameV p q] W fun e w' => e = .returned (.bool true) ∧ Same W w')) (HB : Hid (∀ W, Same w W → Calls Try.prog 20 #[frameV p q, ndV r N] W fun e w' => e = .returned (.bool true) ∧ Same W w')) :
    Calls Try.prog 6 #[frameV p q, ndV r N, .int .i64 at_, .int .i64 many, .slice ka2 kk ck2, .slice sa2 sl cs2] w fun e w' => e = .returned (.tuple #[nodeV none 0 0 none 0 0 none 0 0, .int .i64 2]) ∧ Same w w' := by
  have hn9 : (N.ks.length : Int) ≤ 1048576 := by omega
  have hn8 : (kk : Int) ≤ 1048576 := by omega
  have c1 : decide (at_ < 0) = false := decide_eq_false (by omega)
  have c2 : decide (many < 1) = false := decide_eq_false (by omega)
  have c3 : decide ((N.ks.length : Int) < at_) = false := decide_eq_false (by omega)
  obtain ⟨d1, hd1⟩ : ∃ d1 : Int, d1 = (N.ks.length : Int) - at_ := ⟨_, rfl⟩
  have w1 : RowKit.wrap64 ((N.ks.length : Int) - at_) = d1 := by unfold RowKit.wrap64; omega
  have c4 : decide (d1 < many) = true := decide_eq_true (by omega)
  clear hd1
  clear h0 h1 h2 h3 hn hkk hn9 hn8
  obtain ⟨V, hV⟩ : ∃ V, V = ((w.alloc (.cells #[.int .i64 p, .int .i64 q] 23)).alloc (.cells #[.slice r.pa N.ps.length r.cp, .slice r.sa N.ss.length r.cs, .slice r.ka N.ks.length r.ck] 28)).alloc (.cells #[.slice none 0 0, .slice none 0 0, .slice none 0 0] 28) := ⟨_, rfl⟩
  have t1 : Same w V := by rw [hV]; exact (((Fr.refl _ w).alloc _).alloc _).alloc _
  obtain ⟨g0, g1, g2⟩ := three_boxes w (.cells #[.int .i64 p, .int .i64 q] 23) (.cells #[.slice r.pa N.ps.length r.cp, .slice r.sa N.ss.length r.cs, .slice r.ka N.ks.length r.ck] 28) (.cells #[.slice none 0 0, .slice none 0 0, .slice none 0 0] 28)
  rw [← hV] at g0 g1 g2
  have HC : Hid (∀ W, Same V W → (W.cell? ⟨w.heap.size, 0, none⟩ = some (.int .i64 p) ∧ W.cell? ⟨w.heap.size, 1, none⟩ = some (.int .i64 q)) ∧ W.cell? ⟨w.heap.size + 1, 0, none⟩ = some (.slice r.pa N.ps.length r.cp) ∧ W.cell? ⟨w.heap.size + 1, 1, none⟩ = some (.slice r.sa N.ss.length r.cs) ∧ W.cell? ⟨w.heap.size + 1, 2, none⟩ = some (.slice r.ka N.ks.length r.ck)) := fun W s => ⟨⟨s.keep ((cell_of_row _ _ _ _ _ _ g0).trans rfl), s.keep ((cell_of_row _ _ _ _ _ _ g0).trans rfl)⟩, s.keep ((cell_of_row _ _ _ _ _ _ g1).trans rfl), s.keep ((cell_of_row _ _ _ _ _ _ g1).trans rfl), s.keep ((cell_of_row _ _ _ _ _ _ g1).trans rfl)⟩
  have HG : Hid (∀ W, Same V W → W.heap[w.heap.size + 1 + 1]? = some (.cells #[.slice none 0 0, .slice none 0 0, .slice none 0 0] 28 (0, 0))) := fun W s => (s.block _ (lt_of_heap g2) (fun e => e)).trans g2
  have HVZ : Hid (w.heap.size + 3 = V.heap.size) := by show _ = _; rw [hV]; simp
  obtain ⟨⟨a0, a1⟩, n0, n1, n2⟩ := HC.out _ (Fr.refl _ V)
  clear g0 g1 g2
  unfold ndV nodeV at HB ⊢
  go_enter Try.func6, Try.ntmps6
  go_wp2_with fail
  rw [← hV]
  clear hV
  refine (HR.out _).mono ?_
  rintro e W1 ⟨rfl, s1⟩
  clear a0 a1 n0 n1 n2
  obtain ⟨⟨a0, a1⟩, n0, n1, n2⟩ := HC.out _ s1
  go_wp2_with fail
  refine (HB.out _ (t1.trans s1)).mono ?_
  rintro e W2 ⟨rfl, s2⟩
  have s2 := s1.trans s2
  clear a0 a1 n0 n1 n2
  obtain ⟨⟨a0, a1⟩, n0, n1, n2⟩ := HC.out _ s2
  go_upto_if 69 with fail
  have r6 := HG.out _ s2
  go_wp2_with (refine wpList_store_whole (by rfl) 28 _ _ (by rfl) (w.heap.size + 1 + 1) #[.slice none 0 0, .slice none 0 0, .slice none 0 0] _ 28 (by rfl) (by rfl) r6 rfl (by kernel_rfl) (by kernel_rfl) ?_; intro W7 r7 f7)
  have hz := HVZ.out
  exact bodyPost_ret (results_row_tmp (p := 12) (u := 13) (ty := 28) (by kernel_rfl) _ _ (w.heap.size + 1 + 1) 28 _ (0, 0) _ rfl r7 Try.underlying28 rfl (by kernel_rfl)) rfl ⟨rfl, Fr.trans (t1.trans s2) f7 (fun i hi e => by omega)⟩
set_option maxRecDepth 100000 in
set_option maxHeartbeats 2000000 in
theorem dsplice_c5 {p q at_ many : Int} {r : Nr} {N : Nd} {ka2 sa2 : Option Addr} {kk ck2 sl cs2 : Nat} (w : World) (h0 : ¬ (at_ < 0)) (h1 : ¬ (many < 1)) (h2 : ¬ ((N.ks.length : Int) < at_)) (h3 : ¬ ((N.ks.length : Int) - at_ < many)) (h4 : kk < 1) (hn : N.ks.length ≤ 1048576) (hkk : kk ≤ 1048576) (HR : Hid (∀ W, Calls Try.prog 19 #[frameV p q] W fun e w' => e = .returned (.bool true) ∧ Same W w')) (HB : Hid (∀ W, Same w W → Calls Try.prog 20 #[frameV p q, ndV r N] W fun e w' => e = .returned (.bool true) ∧ Same W w')) :
    Calls Try.prog 6 #[frameV p q, ndV r N, .int .i64 at_, .int .i64 many, .slice ka2 kk ck2, .slice sa2 sl cs2] w fun e w' => e = .returned (.tuple #[nodeV none 0 0 none 0 0 none 0 0, .int .i64 2]) ∧ Same w w' := by
  have hn9 : (N.ks.length : Int) ≤ 1048576 := by omega
  have hn8 : (kk : Int) ≤ 1048576 := by omega
  have c1 : decide (at_ < 0) = false := decide_eq_false (by omega)
  have c2 : decide (many < 1) = false := decide_eq_false (by omega)
  have c3 : decide ((N.ks.length : Int) < at_) = false := decide_eq_false (by omega)
  obtain ⟨d1, hd1⟩ : ∃ d1 : Int, d1 = (N.ks.length : Int) - at_ := ⟨_, rfl⟩
  have w1 : RowKit.wrap64 ((N.ks.length : Int) - at_) = d1 := by unfold RowKit.wrap64; omega
  have c4 : decide (d1 < many) = false := decide_eq_false (by omega)
  clear hd1
  obtain rfl : kk = 0 := by omega
  clear h0 h1 h2 h3 h4 hn hkk hn9 hn8
  obtain ⟨V, hV⟩ : ∃ V, V = ((w.alloc (.cells #[.int .i64 p, .int .i64 q] 23)).alloc (.cells #[.slice r.pa N.ps.length r.cp, .slice r.sa N.ss.length r.cs, .slice r.ka N.ks.length r.ck] 28)).alloc (.cells #[.slice none 0 0, .slice none 0 0, .slice none 0 0] 28) := ⟨_, rfl⟩
  have t1 : Same w V := by rw [hV]; exact (((Fr.refl _ w).alloc _).alloc _).alloc _
  obtain ⟨g0, g1, g2⟩ := three_boxes w (.cells #[.int .i64 p, .int .i64 q] 23) (.cells #[.slice r.pa N.ps.length r.cp, .slice r.sa N.ss.length r.cs, .slice r.ka N.ks.length r.ck] 28) (.cells #[.slice none 0 0, .slice none 0 0, .slice none 0 0] 28)
  rw [← hV] at g0 g1 g2
  have HC : Hid (∀ W, Same V W → (W.cell? ⟨w.heap.size, 0, none⟩ = some (.int .i64 p) ∧ W.cell? ⟨w.heap.size, 1, none⟩ = some (.int .i64 q)) ∧ W.cell? ⟨w.heap.size + 1, 0, none⟩ = some (.slice r.pa N.ps.length r.cp) ∧ W.cell? ⟨w.heap.size + 1, 1, none⟩ = some (.slice r.sa N.ss.length r.cs) ∧ W.cell? ⟨w.heap.size + 1, 2, none⟩ = some (.slice r.ka N.ks.length r.ck)) := fun W s => ⟨⟨s.keep ((cell_of_row _ _ _ _ _ _ g0).trans rfl), s.keep ((cell_of_row _ _ _ _ _ _ g0).trans rfl)⟩, s.keep ((cell_of_row _ _ _ _ _ _ g1).trans rfl), s.keep ((cell_of_row _ _ _ _ _ _ g1).trans rfl), s.keep ((cell_of_row _ _ _ _ _ _ g1).trans rfl)⟩
  have HG : Hid (∀ W, Same V W → W.heap[w.heap.size + 1 + 1]? = some (.cells #[.slice none 0 0, .slice none 0 0, .slice none 0 0] 28 (0, 0))) := fun W s => (s.block _ (lt_of_heap g2) (fun e => e)).trans g2
  have HVZ : Hid (w.heap.size + 3 = V.heap.size) := by show _ = _; rw [hV]; simp
  obtain ⟨⟨a0, a1⟩, n0, n1, n2⟩ := HC.out _ (Fr.refl _ V)
  clear g0 g1 g2
  unfold ndV nodeV at HB ⊢
  go_enter Try.func6, Try.ntmps6
  go_wp2_with fail
  rw [← hV]
  clear hV
  refine (HR.out _).mono ?_
  rintro e W1 ⟨rfl, s1⟩
  clear a0 a1 n0 n1 n2
  obtain ⟨⟨a0, a1⟩, n0, n1, n2⟩ := HC.out _ s1
  go_wp2_with fail
  refine (HB.out _ (t1.trans s1)).mono ?_
  rintro e W2 ⟨rfl, s2⟩
  have s2 := s1.trans s2
  clear a0 a1 n0 n1 n2
  obtain ⟨⟨a0, a1⟩, n0, n1, n2⟩ := HC.out _ s2
  go_upto_if 69 with fail
  have r6 := HG.out _ s2
  go_wp2_with (refine wpList_store_whole (by rfl) 28 _ _ (by rfl) (w.heap.size + 1 + 1) #[.slice none 0 0, .slice none 0 0, .slice none 0 0] _ 28 (by rfl) (by rfl) r6 rfl (by kernel_rfl) (by kernel_rfl) ?_; intro W7 r7 f7)
  have hz := HVZ.out
  exact bodyPost_ret (results_row_tmp (p := 12) (u := 13) (ty := 28) (by kernel_rfl) _ _ (w.heap.size + 1 + 1) 28 _ (0, 0) _ rfl r7 Try.underlying28 rfl (by kernel_rfl)) rfl ⟨rfl, Fr.trans (t1.trans s2) f7 (fun i hi e => by omega)⟩
set_option maxRecDepth 100000 in
set_option maxHeartbeats 2000000 in
theorem dsplice_c6 {p q at_ many : Int} {r : Nr} {N : Nd} {ka2 sa2 : Option Addr} {kk ck2 sl cs2 : Nat} (w : World) (h0 : ¬ (at_ < 0)) (h1 : ¬ (many < 1)) (h2 : ¬ ((N.ks.length : Int) < at_)) (h3 : ¬ ((N.ks.length : Int) - at_ < many)) (h4 : ¬ (kk < 1)) (h5 : ¬ (sl : Int) = (kk : Int) - 1) (hn : N.ks.length ≤ 1048576) (hkk : kk ≤ 1048576) (HR : Hid (∀ W, Calls Try.prog 19 #[frameV p q] W fun e w' => e = .returned (.bool true) ∧ Same W w')) (HB : Hid (∀ W, Same w W → Calls Try.prog 20 #[frameV p q, ndV r N] W fun e w' => e = .returned (.bool true) ∧ Same W w')) :
    Calls Try.prog 6 #[frameV p q, ndV r N, .int .i64 at_, .int .i64 many, .slice ka2 kk ck2, .slice sa2 sl cs2] w fun e w' => e = .returned (.tuple #[nodeV none 0 0 none 0 0 none 0 0, .int .i64 2]) ∧ Same w w' := by
  have hn9 : (N.ks.length : Int) ≤ 1048576 := by omega
  have hn8 : (kk : Int) ≤ 1048576 := by omega
  have c1 : decide (at_ < 0) = false := decide_eq_false (by omega)
  have c2 : decide (many < 1) = false := decide_eq_false (by omega)
  have c3 : decide ((N.ks.length : Int) < at_) = false := decide_eq_false (by omega)
  obtain ⟨d1, hd1⟩ : ∃ d1 : Int, d1 = (N.ks.length : Int) - at_ := ⟨_, rfl⟩
  have w1 : RowKit.wrap64 ((N.ks.length : Int) - at_) = d1 := by unfold RowKit.wrap64; omega
  have c4 : decide (d1 < many) = false := decide_eq_false (by omega)
  clear hd1
  obtain ⟨k0, rfl⟩ : ∃ k0, kk = k0 + 1 := ⟨kk - 1, by omega⟩
  have e1 : ((k0 : Int) + 1) - 1 = (k0 : Int) := by omega
  have e3 : IntKind.i64.wrap (k0 : Int) = (k0 : Int) := by rw [IntKind.wrap_i64]; omega
  have k1 : (1 : Int) ≤ (k0 : Int) + 1 := by omega
  have k2 : ¬ ((k0 : Int) + 1 < 1) := by omega
  have c6 : ¬ (sl : Int) = (k0 : Int) := by omega
  clear h0 h1 h2 h3 h4 h5 hn hkk hn9 hn8
  obtain ⟨V, hV⟩ : ∃ V, V = ((w.alloc (.cells #[.int .i64 p, .int .i64 q] 23)).alloc (.cells #[.slice r.pa N.ps.length r.cp, .slice r.sa N.ss.length r.cs, .slice r.ka N.ks.length r.ck] 28)).alloc (.cells #[.slice none 0 0, .slice none 0 0, .slice none 0 0] 28) := ⟨_, rfl⟩
  have t1 : Same w V := by rw [hV]; exact (((Fr.refl _ w).alloc _).alloc _).alloc _
  obtain ⟨g0, g1, g2⟩ := three_boxes w (.cells #[.int .i64 p, .int .i64 q] 23) (.cells #[.slice r.pa N.ps.length r.cp, .slice r.sa N.ss.length r.cs, .slice r.ka N.ks.length r.ck] 28) (.cells #[.slice none 0 0, .slice none 0 0, .slice none 0 0] 28)
  rw [← hV] at g0 g1 g2
  have HC : Hid (∀ W, Same V W → (W.cell? ⟨w.heap.size, 0, none⟩ = some (.int .i64 p) ∧ W.cell? ⟨w.heap.size, 1, none⟩ = some (.int .i64 q)) ∧ W.cell? ⟨w.heap.size + 1, 0, none⟩ = some (.slice r.pa N.ps.length r.cp) ∧ W.cell? ⟨w.heap.size + 1, 1, none⟩ = some (.slice r.sa N.ss.length r.cs) ∧ W.cell? ⟨w.heap.size + 1, 2, none⟩ = some (.slice r.ka N.ks.length r.ck)) := fun W s => ⟨⟨s.keep ((cell_of_row _ _ _ _ _ _ g0).trans rfl), s.keep ((cell_of_row _ _ _ _ _ _ g0).trans rfl)⟩, s.keep ((cell_of_row _ _ _ _ _ _ g1).trans rfl), s.keep ((cell_of_row _ _ _ _ _ _ g1).trans rfl), s.keep ((cell_of_row _ _ _ _ _ _ g1).trans rfl)⟩
  have HG : Hid (∀ W, Same V W → W.heap[w.heap.size + 1 + 1]? = some (.cells #[.slice none 0 0, .slice none 0 0, .slice none 0 0] 28 (0, 0))) := fun W s => (s.block _ (lt_of_heap g2) (fun e => e)).trans g2
  have HVZ : Hid (w.heap.size + 3 = V.heap.size) := by show _ = _; rw [hV]; simp
  obtain ⟨⟨a0, a1⟩, n0, n1, n2⟩ := HC.out _ (Fr.refl _ V)
  clear g0 g1 g2
  unfold ndV nodeV at HB ⊢
  go_enter Try.func6, Try.ntmps6
  go_wp2_with fail
  rw [← hV]
  clear hV
  refine (HR.out _).mono ?_
  rintro e W1 ⟨rfl, s1⟩
  clear a0 a1 n0 n1 n2
  obtain ⟨⟨a0, a1⟩, n0, n1, n2⟩ := HC.out _ s1
  go_wp2_with fail
  refine (HB.out _ (t1.trans s1)).mono ?_
  rintro e W2 ⟨rfl, s2⟩
  have s2 := s1.trans s2
  clear a0 a1 n0 n1 n2
  obtain ⟨⟨a0, a1⟩, n0, n1, n2⟩ := HC.out _ s2
  go_upto_if 69 with fail
  have r6 := HG.out _ s2
  go_wp2_with (refine wpList_store_whole (by rfl) 28 _ _ (by rfl) (w.heap.size + 1 + 1) #[.slice none 0 0, .slice none 0 0, .slice none 0 0] _ 28 (by rfl) (by rfl) r6 rfl (by kernel_rfl) (by kernel_rfl) ?_; intro W7 r7 f7)
  have hz := HVZ.out
  exact bodyPost_ret (results_row_tmp (p := 12) (u := 13) (ty := 28) (by kernel_rfl) _ _ (w.heap.size + 1 + 1) 28 _ (0, 0) _ rfl r7 Try.underlying28 rfl (by kernel_rfl)) rfl ⟨rfl, Fr.trans (t1.trans s2) f7 (fun i hi e => by omega)⟩
set_option maxRecDepth 100000 in
set_option maxHeartbeats 2000000 in
theorem dsplice_c7 {p q at_ many : Int} {r : Nr} {N : Nd} {ka2 sa2 : Option Addr} {kk ck2 sl cs2 : Nat} (w : World) (h0 : ¬ (at_ < 0)) (h1 : ¬ (many < 1)) (h2 : ¬ ((N.ks.length : Int) < at_)) (h3 : ¬ ((N.ks.length : Int) - at_ < many)) (h4 : ¬ (kk < 1)) (h5 : ¬ (¬ (sl : Int) = (kk : Int) - 1)) (h6 : (N.ks.length : Int) - many + (kk : Int) < 2) (hn : N.ks.length ≤ 1048576) (hkk : kk ≤ 1048576) (HR : Hid (∀ W, Calls Try.prog 19 #[frameV p q] W fun e w' => e = .returned (.bool true) ∧ Same W w')) (HB : Hid (∀ W, Same w W → Calls Try.prog 20 #[frameV p q, ndV r N] W fun e w' => e = .returned (.bool true) ∧ Same W w')) :
    Calls Try.prog 6 #[frameV p q, ndV r N, .int .i64 at_, .int .i64 many, .slice ka2 kk ck2, .slice sa2 sl cs2] w fun e w' => e = .returned (.tuple #[nodeV none 0 0 none 0 0 none 0 0, .int .i64 2]) ∧ Same w w' := by
  have hn9 : (N.ks.length : Int) ≤ 1048576 := by omega
  have hn8 : (kk : Int) ≤ 1048576 := by omega
  have c1 : decide (at_ < 0) = false := decide_eq_false (by omega)
  have c2 : decide (many < 1) = false := decide_eq_false (by omega)
  have c3 : decide ((N.ks.length : Int) < at_) = false := decide_eq_false (by omega)
  obtain ⟨d1, hd1⟩ : ∃ d1 : Int, d1 = (N.ks.length : Int) - at_ := ⟨_, rfl⟩
  have w1 : RowKit.wrap64 ((N.ks.length : Int) - at_) = d1 := by unfold RowKit.wrap64; omega
  have c4 : decide (d1 < many) = false := decide_eq_false (by omega)
  clear hd1
  obtain ⟨k0, rfl⟩ : ∃ k0, kk = k0 + 1 := ⟨kk - 1, by omega⟩
  have e1 : ((k0 : Int) + 1) - 1 = (k0 : Int) := by omega
  have e3 : IntKind.i64.wrap (k0 : Int) = (k0 : Int) := by rw [IntKind.wrap_i64]; omega
  have k1 : (1 : Int) ≤ (k0 : Int) + 1 := by omega
  have k2 : ¬ ((k0 : Int) + 1 < 1) := by omega
  obtain rfl : k0 = sl := by omega
  obtain ⟨d2, hd2⟩ : ∃ d2 : Int, d2 = (N.ks.length : Int) - many := ⟨_, rfl⟩
  obtain ⟨d3, hd3⟩ : ∃ d3 : Int, d3 = d2 + ((k0 : Int) + 1) := ⟨_, rfl⟩
  have w2 : RowKit.wrap64 ((N.ks.length : Int) - many) = d2 := by unfold RowKit.wrap64; omega
  have w3 : RowKit.wrap64 (d2 + ((k0 : Int) + 1)) = d3 := by unfold RowKit.wrap64; omega
  have c7 : decide (d3 < 2) = true := decide_eq_true (by omega)
  clear hd2 hd3
  clear h0 h1 h2 h3 h4 h5 h6 hn hkk hn9 hn8
  obtain ⟨V, hV⟩ : ∃ V, V = ((w.alloc (.cells #[.int .i64 p, .int .i64 q] 23)).alloc (.cells #[.slice r.pa N.ps.length r.cp, .slice r.sa N.ss.length r.cs, .slice r.ka N.ks.length r.ck] 28)).alloc (.cells #[.slice none 0 0, .slice none 0 0, .slice none 0 0] 28) := ⟨_, rfl⟩
  have t1 : Same w V := by rw [hV]; exact (((Fr.refl _ w).alloc _).alloc _).alloc _
  obtain ⟨g0, g1, g2⟩ := three_boxes w (.cells #[.int .i64 p, .int .i64 q] 23) (.cells #[.slice r.pa N.ps.length r.cp, .slice r.sa N.ss.length r.cs, .slice r.ka N.ks.length r.ck] 28) (.cells #[.slice none 0 0, .slice none 0 0, .slice none 0 0] 28)
  rw [← hV] at g0 g1 g2
  have HC : Hid (∀ W, Same V W → (W.cell? ⟨w.heap.size, 0, none⟩ = some (.int .i64 p) ∧ W.cell? ⟨w.heap.size, 1, none⟩ = some (.int .i64 q)) ∧ W.cell? ⟨w.heap.size + 1, 0, none⟩ = some (.slice r.pa N.ps.length r.cp) ∧ W.cell? ⟨w.heap.size + 1, 1, none⟩ = some (.slice r.sa N.ss.length r.cs) ∧ W.cell? ⟨w.heap.size + 1, 2, none⟩ = some (.slice r.ka N.ks.length r.ck)) := fun W s => ⟨⟨s.keep ((cell_of_row _ _ _ _ _ _ g0).trans rfl), s.keep ((cell_of_row _ _ _ _ _ _ g0).trans rfl)⟩, s.keep ((cell_of_row _ _ _ _ _ _ g1).trans rfl), s.keep ((cell_of_row _ _ _ _ _ _ g1).trans rfl), s.keep ((cell_of_row _ _ _ _ _ _ g1).trans rfl)⟩
  have HG : Hid (∀ W, Same V W → W.heap[w.heap.size + 1 + 1]? = some (.cells #[.slice none 0 0, .slice none 0 0, .slice none 0 0] 28 (0, 0))) := fun W s => (s.block _ (lt_of_heap g2) (fun e => e)).trans g2
  have HVZ : Hid (w.heap.size + 3 = V.heap.size) := by show _ = _; rw [hV]; simp
  obtain ⟨⟨a0, a1⟩, n0, n1, n2⟩ := HC.out _ (Fr.refl _ V)
  clear g0 g1 g2
  unfold ndV nodeV at HB ⊢
  go_enter Try.func6, Try.ntmps6
  go_wp2_with fail
  rw [← hV]
  clear hV
  refine (HR.out _).mono ?_
  rintro e W1 ⟨rfl, s1⟩
  clear a0 a1 n0 n1 n2
  obtain ⟨⟨a0, a1⟩, n0, n1, n2⟩ := HC.out _ s1
  go_wp2_with fail
  refine (HB.out _ (t1.trans s1)).mono ?_
  rintro e W2 ⟨rfl, s2⟩
  have s2 := s1.trans s2
  clear a0 a1 n0 n1 n2
  obtain ⟨⟨a0, a1⟩, n0, n1, n2⟩ := HC.out _ s2
  go_upto_if 69 with fail
  have r6 := HG.out _ s2
  go_wp2_with (refine wpList_store_whole (by rfl) 28 _ _ (by rfl) (w.heap.size + 1 + 1) #[.slice none 0 0, .slice none 0 0, .slice none 0 0] _ 28 (by rfl) (by rfl) r6 rfl (by kernel_rfl) (by kernel_rfl) ?_; intro W7 r7 f7)
  have hz := HVZ.out
  exact bodyPost_ret (results_row_tmp (p := 12) (u := 13) (ty := 28) (by kernel_rfl) _ _ (w.heap.size + 1 + 1) 28 _ (0, 0) _ rfl r7 Try.underlying28 rfl (by kernel_rfl)) rfl ⟨rfl, Fr.trans (t1.trans s2) f7 (fun i hi e => by omega)⟩
set_option maxRecDepth 100000 in
set_option maxHeartbeats 8000000 in
theorem dsplice_good {p q : Int} {r r2 : Nr} {N : Nd} {S : List ByteArray} {K : List Kid} {a m b c : Nat} (w : World) (h : NdIn w r N) (hcap : NdCapN r N) (i2 : NdIn w r2 ⟨[], S, K⟩) (hm : 1 ≤ m) (hb : b = a + m) (hcc : c + 1 = b) (hbl : b ≤ N.ks.length) (hss : N.ss.length + 1 = N.ks.length) (hkk : S.length + 1 = K.length) (h2 : 2 ≤ N.ks.length - m + K.length) (hk2 : 2 ≤ N.ks.length) (l1 : N.ks.length ≤ 1048576) (l2 : K.length ≤ 1048576)
    (HR : Hid (∀ W, Calls Try.prog 19 #[frameV p q] W fun e w' => e = .returned (.bool true) ∧ Same W w'))
    (HB : Hid (∀ W, Same w W → Calls Try.prog 20 #[frameV p q, ndV r N] W fun e w' => e = .returned (.bool true) ∧ Same W w'))
    (HCk : Hid (∀ W B r', MadeNd W B r' ⟨[], (N.ss.take a ++ S) ++ N.ss.drop c, (N.ks.take a ++ K) ++ N.ks.drop b⟩ → Calls Try.prog 21 #[frameV p q, ndV r' ⟨[], (N.ss.take a ++ S) ++ N.ss.drop c, (N.ks.take a ++ K) ++ N.ks.drop b⟩] W fun e w' => e = .returned (.int .i64 0) ∧ Same W w')) :
    Calls Try.prog 6 #[frameV p q, ndV r N, .int .i64 (a : Int), .int .i64 (m : Int), .slice r2.ka K.length r2.ck, .slice r2.sa S.length r2.cs] w fun e w' => ∃ r', e = .returned (.tuple #[ndV r' ⟨[], (N.ss.take a ++ S) ++ N.ss.drop c, (N.ks.take a ++ K) ++ N.ks.drop b⟩, .int .i64 0]) ∧ MadeNd w' w.heap.size r' ⟨[], (N.ss.take a ++ S) ++ N.ss.drop c, (N.ks.take a ++ K) ++ N.ks.drop b⟩ ∧ Same w w' := by
  have hkne : N.ks ≠ [] := by intro e; rw [e] at hk2; simp at hk2
  have hsne : N.ss ≠ [] := by intro e; rw [e] at hss; simp at hss; omega
  have hka := (h.at_.hk.place hkne).1
  have hsa := (h.at_.hs.place hsne).1
  have HOK : Hid (∀ x ∈ N.ks, KidOk x) := h.at_.ok
  have HOK2 : Hid (∀ x ∈ K, KidOk x) := i2.at_.ok
  obtain ⟨V, hV⟩ : ∃ V, V = ((w.alloc (.cells #[.int .i64 p, .int .i64 q] 23)).alloc (.cells #[.slice r.pa N.ps.length r.cp, .slice (some ⟨r.sb, r.so, none⟩) N.ss.length r.cs, .slice (some ⟨r.kb, r.ko, none⟩) N.ks.length r.ck] 28)).alloc (.cells #[.slice none 0 0, .slice none 0 0, .slice none 0 0] 28) := ⟨_, rfl⟩
  have t1 : Same w V := by rw [hV]; exact (((Fr.refl _ w).alloc _).alloc _).alloc _
  obtain ⟨g0, g1, g2⟩ := three_boxes w (.cells #[.int .i64 p, .int .i64 q] 23) (.cells #[.slice r.pa N.ps.length r.cp, .slice (some ⟨r.sb, r.so, none⟩) N.ss.length r.cs, .slice (some ⟨r.kb, r.ko, none⟩) N.ks.length r.ck] 28) (.cells #[.slice none 0 0, .slice none 0 0, .slice none 0 0] 28)
  rw [← hV] at g0 g1 g2
  have HC : Hid (∀ W, Same V W → (W.cell? ⟨w.heap.size, 0, none⟩ = some (.int .i64 p) ∧ W.cell? ⟨w.heap.size, 1, none⟩ = some (.int .i64 q)) ∧ W.cell? ⟨w.heap.size + 1, 0, none⟩ = some (.slice r.pa N.ps.length r.cp) ∧ W.cell? ⟨w.heap.size + 1, 1, none⟩ = some (.slice (some ⟨r.sb, r.so, none⟩) N.ss.length r.cs) ∧ W.cell? ⟨w.heap.size + 1, 2, none⟩ = some (.slice (some ⟨r.kb, r.ko, none⟩) N.ks.length r.ck)) := fun W s => ⟨⟨s.keep ((cell_of_row _ _ _ _ _ _ g0).trans rfl), s.keep ((cell_of_row _ _ _ _ _ _ g0).trans rfl)⟩, s.keep ((cell_of_row _ _ _ _ _ _ g1).trans rfl), s.keep ((cell_of_row _ _ _ _ _ _ g1).trans rfl), s.keep ((cell_of_row _ _ _ _ _ _ g1).trans rfl)⟩
  have HG : Hid (∀ W, Same V W → W.heap[w.heap.size + 1 + 1]? = some (.cells #[.slice none 0 0, .slice none 0 0, .slice none 0 0] 28 (0, 0))) := fun W s => (s.block _ (lt_of_heap g2) (fun e => e)).trans g2
  have HVZ : Hid (w.heap.size + 3 = V.heap.size) := by show _ = _; rw [hV]; simp
  obtain ⟨⟨a0, a1⟩, n0, n1, n2⟩ := HC.out _ (Fr.refl _ V)
  clear g0 g1 g2
  have HZ : Hid ((N.ks.length ≤ 1048576 ∧ K.length ≤ 1048576) ∧ (1 ≤ m ∧ b = a + m ∧ c + 1 = b ∧ b ≤ N.ks.length) ∧ N.ss.length + 1 = N.ks.length ∧ S.length + 1 = K.length) := ⟨⟨l1, l2⟩, ⟨hm, hb, hcc, hbl⟩, hss, hkk⟩
  have hhK := high_kids (ao := some ⟨r.kb, r.ko, none⟩) (show a ≤ N.ks.length by omega) hcap.ck
  have hhS := high_texts (ao := some ⟨r.sb, r.so, none⟩) (show a ≤ N.ss.length by omega) hcap.cs
  have pk := h.kp
  have ps := h.sp
  simp only [hka] at pk
  simp only [hsa] at ps
  obtain ⟨ak, hlK, q1, q2⟩ := low_kids (ao := some ⟨r.kb, r.ko, none⟩) (show b ≤ N.ks.length by omega) hcap.ck (fun e => by cases e)
  obtain ⟨ax, hlS, q3, q4⟩ := low_texts (ao := some ⟨r.sb, r.so, none⟩) (show c ≤ N.ss.length by omega) hcap.cs (fun e => by cases e)
  have HP1 : Hid (∀ W, Same V W → PartOk W 33 ⟨some ⟨r.kb, r.ko, none⟩, a, r.ck, (kcellsL N.ks).take (a * 33)⟩) := fun W s => (part_highK pk (by omega)).same (t1.trans s)
  have HP2 : Hid (∀ W, Same V W → PartOk W 33 ⟨r2.ka, K.length, r2.ck, kcellsL K⟩) := fun W s => (i2.same (t1.trans s)).kp
  have HP3 : Hid (∀ W, Same V W → PartOk W 33 ⟨ak, N.ks.length - b, r.ck - b, (kcellsL N.ks).drop (b * 33)⟩) := fun W s => (part_lowK pk (by omega) hcap.ck q1 q2 (fun a e => by cases e; exact ⟨_, _, rfl⟩)).same (t1.trans s)
  have HP4 : Hid (∀ W, Same V W → PartOk W 1 ⟨some ⟨r.sb, r.so, none⟩, a, r.cs, (scells N.ss).take (a * 1)⟩) := fun W s => (part_highT ps (by omega)).same (t1.trans s)
  have HP5 : Hid (∀ W, Same V W → PartOk W 1 ⟨r2.sa, S.length, r2.cs, scells S⟩) := fun W s => (i2.same (t1.trans s)).sp
  have HP6 : Hid (∀ W, Same V W → PartOk W 1 ⟨ax, N.ss.length - c, r.cs - c, (scells N.ss).drop (c * 1)⟩) := fun W s => (part_lowT ps (by omega) hcap.cs q3 q4 (fun a e => by cases e; exact ⟨_, _, rfl⟩)).same (t1.trans s)
  have s1 : RowKit.wrap64 ((a : Int) + (m : Int)) = (b : Int) := by unfold RowKit.wrap64; omega
  have s2 : (a : Int) + (m : Int) = (b : Int) := by omega
  have s3 : IntKind.i64.wrap (b : Int) = (b : Int) := by rw [IntKind.wrap_i64]; omega
  have s4 : RowKit.wrap64 ((b : Int) - 1) = (c : Int) := by unfold RowKit.wrap64; omega
  have s5 : IntKind.i64.wrap ((b : Int) - 1) = (c : Int) := by rw [IntKind.wrap_i64]; omega
  obtain ⟨d1, hd1⟩ : ∃ d1 : Int, d1 = (N.ks.length : Int) - (a : Int) := ⟨_, rfl⟩
  have w1 : RowKit.wrap64 ((N.ks.length : Int) - (a : Int)) = d1 := by unfold RowKit.wrap64; omega
  have c3 : ¬ N.ks.length < a := by omega
  have c4 : decide (d1 < (m : Int)) = false := decide_eq_false (by omega)
  have c2 : ¬ m < 1 := by omega
  have c2' : decide ((m : Int) < 1) = false := decide_eq_false (by omega)
  have c3' : decide ((N.ks.length : Int) < (a : Int)) = false := decide_eq_false (by omega)
  have c5 : decide ((K.length : Int) < 1) = false := decide_eq_false (by omega)
  have c6 : RowKit.wrap64 ((K.length : Int) - 1) = (S.length : Int) := by unfold RowKit.wrap64; omega
  have c6' : IntKind.i64.wrap ((K.length : Int) - 1) = (S.length : Int) := by rw [IntKind.wrap_i64]; omega
  have c6e : ((S.length : Int) == (S.length : Int)) = true := by simp
  obtain ⟨d2, hd2⟩ : ∃ d2 : Int, d2 = (N.ks.length : Int) - (m : Int) := ⟨_, rfl⟩
  obtain ⟨d3, hd3⟩ : ∃ d3 : Int, d3 = d2 + (K.length : Int) := ⟨_, rfl⟩
  have w2 : RowKit.wrap64 ((N.ks.length : Int) - (m : Int)) = d2 := by unfold RowKit.wrap64; omega
  have w3 : RowKit.wrap64 (d2 + (K.length : Int)) = d3 := by unfold RowKit.wrap64; omega
  have c7 : decide (d3 < 2) = false := decide_eq_false (by omega)
  clear hd1 hd2 hd3 h hcap i2 hm hb hcc hbl hss hkk h2 hk2 l1 l2 pk ps q1 q2 q3 q4 hkne hsne
  unfold ndV nodeV at HB ⊢
  rw [hka, hsa] at HB ⊢
  go_enter Try.func6, Try.ntmps6
  go_wp2_with fail
  rw [← hV]
  clear hV
  refine (HR.out _).mono ?_
  rintro e W1 ⟨rfl, s1⟩
  clear a0 a1 n0 n1 n2
  obtain ⟨⟨a0, a1⟩, n0, n1, n2⟩ := HC.out _ s1
  go_wp2_with fail
  refine (HB.out _ (t1.trans s1)).mono ?_
  rintro e W2 ⟨rfl, s2⟩
  have s2 := s1.trans s2
  clear a0 a1 n0 n1 n2
  obtain ⟨⟨a0, a1⟩, n0, n1, n2⟩ := HC.out _ s2
  go_wp2_with fail
  obtain ⟨X0, hX0⟩ : ∃ X, X = W2.alloc (.cells #[.slice none 0 0, .slice none 0 0, .slice none 0 0] 28) := ⟨_, rfl⟩
  obtain ⟨nb, hnb⟩ : ∃ nb, nb = W2.heap.size := ⟨_, rfl⟩
  have b0 : BS V X0 V.heap.size nb none 0 0 [] none 0 0 [] none 0 0 [] := by
    rw [hX0, hnb]
    exact ⟨heap_alloc_new W2 _, own_nil, own_nil, own_nil, Fr.alloc s2 _, s2.size, Nat.le_refl _, by have := s2.size; simp; omega⟩
  rw [← hX0, ← hnb]
  clear hX0 hnb a0 a1 n0 n1 n2
  have bD1 := b0.drew
  refine wp_region_held_drew (S := fun Y => Y.cell? ⟨w.heap.size + 1, 2, none⟩ = some (.slice (some ⟨r.kb, r.ko, none⟩) N.ks.length r.ck)) (by kernel_rfl) ((HC.out _ bD1.fr).2.2.2) (fun hHeld => ?_)
  generalize X0.drew = D1 at *
  refine wpAnyH_take (i := 0) (oi := { dst := some 71, op := Go.Op.fieldAddr 28 (Go.Operand.tmp 14) 2, type := 0, pos := "ref.go:121", after := #[], guard := none }) (v := .pointer (some ⟨nb, 2, none⟩)) rfl (by kernel_rfl) (by kernel_rfl) (by kernel_rfl) (fun _ _ _ h => h) (Or.inl ⟨by rfl, fun w zz => by go_simp⟩) (by assumption) ?_
  try simp only [Act.put, List.setIfInBounds_toArray, List.set_cons_zero, List.set_cons_succ]
  refine wpAnyH_take (i := 2) (oi := { dst := some 73, op := Go.Op.fieldAddr 28 (Go.Operand.tmp 7) 2, type := 0, pos := "ref.go:121", after := #[], guard := none }) (v := .pointer (some ⟨w.heap.size + 1, 2, none⟩)) rfl (by kernel_rfl) (by kernel_rfl) (by kernel_rfl) (fun _ _ _ h => h) (Or.inl ⟨by rfl, fun w zz => by go_simp⟩) (by assumption) ?_
  try simp only [Act.put, List.setIfInBounds_toArray, List.set_cons_zero, List.set_cons_succ]
  refine wpAnyH_take (i := 3) (oi := { dst := some 74, op := Go.Op.load 26 (Go.Operand.tmp 73), type := 26, pos := "ref.go:121", after := #[{ on := 2, ground := Go.Ground.data }], guard := none }) (v := .slice (some ⟨r.kb, r.ko, none⟩) N.ks.length r.ck) rfl (by kernel_rfl) (by kernel_rfl) (by kernel_rfl) (fun _ _ _ h => h) (Or.inl ⟨by rfl, fun w zz => by go_simp⟩) (by assumption) ?_
  try simp only [Act.put, List.setIfInBounds_toArray, List.set_cons_zero, List.set_cons_succ]
  refine wpAnyH_take (i := 4) (oi := { dst := some 75, op := Go.Op.move (Go.Operand.tmp 2), type := 3, pos := "ref.go:121", after := #[], guard := none }) (v := .int .i64 (a : Int)) rfl (by kernel_rfl) (by kernel_rfl) (by kernel_rfl) (fun _ _ _ h => h) (Or.inl ⟨by rfl, fun w zz => by go_simp⟩) (by assumption) ?_
  try simp only [Act.put, List.setIfInBounds_toArray, List.set_cons_zero, List.set_cons_succ]
  refine wpAnyH_take (i := 5) (oi := { dst := some 76, op := Go.Op.slice 26 (Go.Operand.tmp 74) none (some (Go.Operand.tmp 75)) none, type := 26, pos := "ref.go:121", after := #[{ on := 3, ground := Go.Ground.data }, { on := 4, ground := Go.Ground.data }], guard := none }) (v := .slice (some ⟨r.kb, r.ko, none⟩) a r.ck) rfl (by kernel_rfl) (by kernel_rfl) (by kernel_rfl) (fun _ _ _ h => h) (Or.inl ⟨by rfl, fun w zz => by (have := hhK w; go_simp)⟩) (by assumption) ?_
  try simp only [Act.put, List.setIfInBounds_toArray, List.set_cons_zero, List.set_cons_succ]
  obtain ⟨k0, k1, k2⟩ := bD1.box
  refine wpAnyH_ready (rs := [1]) (by kernel_rfl) (by simp) ?_
  refine AllReadyH.cons (o := { dst := some 72, op := Go.Op.load 26 (Go.Operand.tmp 71), type := 26, pos := "ref.go:121", after := #[{ on := 0, ground := Go.Ground.data }], guard := none }) rfl (fun K hK => ?_) AllReadyH.nil
  go_simp
  refine hK.out _ _ (HC.out _ bD1.fr).2.2.2 (fun hHeld => ?_)
  clear hK K
  try simp only [Act.put, List.setIfInBounds_toArray, List.set_cons_zero, List.set_cons_succ]
  refine wpAnyH_ready (rs := [6]) (by kernel_rfl) (by simp) ?_
  refine AllReadyH.cons (o := { dst := some 77, op := Go.Op.call { callee := Go.Callee.builtin Go.Builtin.append, args := #[Go.Operand.tmp 72, Go.Operand.tmp 76], argTypes := #[26, 26] }, type := 26, pos := "ref.go:121", after := #[{ on := 1, ground := Go.Ground.data }, { on := 5, ground := Go.Ground.data }], guard := none }) rfl (fun K hK => ?_) AllReadyH.nil
  refine step_partKids _ rfl _ _ rfl (by rfl) bD1.oK (x := ⟨some ⟨r.kb, r.ko, none⟩, a, r.ck, (kcellsL N.ks).take (a * 33)⟩) (by rfl) (HP1.out _ bD1.fr) (by have := HZ.out; simp only; omega) bD1.hW ?_
  try simp only [Nat.zero_add, List.nil_append]
  intro ao1 cc1 Y1 o1 g1
  have vY1 : Same V Y1 := Fr.grown bD1.fr g1 (fun k hk hl => by have := bD1.oK.lt k hk; have := bD1.hB; omega)
  refine hK.out _ _ (HC.out _ vY1).2.2.2 (fun hHeld => ?_)
  clear hK K
  try simp only [Act.put, List.setIfInBounds_toArray, List.set_cons_zero, List.set_cons_succ]
  refine wpAnyH_take (i := 7) (oi := { dst := some 78, op := Go.Op.fieldAddr 28 (Go.Operand.tmp 14) 2, type := 0, pos := "ref.go:121", after := #[{ on := 0, ground := Go.Ground.phase }, { on := 1, ground := Go.Ground.phase }, { on := 2, ground := Go.Ground.phase }, { on := 3, ground := Go.Ground.phase }, { on := 4, ground := Go.Ground.phase }, { on := 5, ground := Go.Ground.phase }, { on := 6, ground := Go.Ground.phase }], guard := none }) (v := .pointer (some ⟨nb, 2, none⟩)) rfl (by kernel_rfl) (by kernel_rfl) (by kernel_rfl) (fun _ _ _ h => h) (Or.inl ⟨by rfl, fun w zz => by go_simp⟩) (by assumption) ?_
  try simp only [Act.put, List.setIfInBounds_toArray, List.set_cons_zero, List.set_cons_succ]
  obtain ⟨b1, kx, fz⟩ := bD1.growK o1 g1
  refine wpAnyH_ready (rs := [8]) (by kernel_rfl) (by simp) ?_
  refine AllReadyH.cons (o := { dst := none, op := Go.Op.store 26 (Go.Operand.tmp 78) (Go.Operand.tmp 77), type := 0, pos := "ref.go:121", after := #[{ on := 7, ground := Go.Ground.data }, { on := 6, ground := Go.Ground.data }, { on := 6, ground := Go.Ground.chain }, { on := 0, ground := Go.Ground.phase }, { on := 1, ground := Go.Ground.phase }, { on := 2, ground := Go.Ground.phase }, { on := 3, ground := Go.Ground.phase }, { on := 4, ground := Go.Ground.phase }, { on := 5, ground := Go.Ground.phase }, { on := 6, ground := Go.Ground.phase }], guard := none }) rfl (fun K hK => ?_) AllReadyH.nil
  go_simp
  refine hK.out _ _ (HC.out _ b1.fr).2.2.2 (fun hHeld => ?_)
  clear hK K
  refine wpAnyH_done (by kernel_rfl) ?_ _
  generalize Y1.setCell ⟨nb, 2, none⟩ (.slice ao1 a cc1) = X1 at *
  clear k0 k1 k2 kx fz g1 o1 vY1 bD1
  obtain ⟨k0, k1, k2⟩ := b1.box
  go_wp2_with (at_builtin; go_must (refine wpList_partKids _ (by rfl) _ _ (by rfl) (by rfl) b1.oK (x := ⟨r2.ka, K.length, r2.ck, kcellsL K⟩) (by rfl) (HP2.out _ b1.fr) (by have := HZ.out; simp only; omega) b1.hW ?_))
  intro ao2 cc2 Y2 o2 g2
  obtain ⟨b2, kx, fz⟩ := b1.growK o2 g2
  clear k0 k1 k2
  obtain ⟨k0, k1, k2⟩ := b2.box
  go_wp2_with fail
  generalize Y2.setCell ⟨nb, 2, none⟩ (.slice ao2 (a + K.length) cc2) = X2 at *
  clear k0 k1 k2 kx fz g2 o2
  have bD3 := b2.drew
  refine wp_region_held_drew (S := fun Y => Y.cell? ⟨w.heap.size + 1, 2, none⟩ = some (.slice (some ⟨r.kb, r.ko, none⟩) N.ks.length r.ck)) (by kernel_rfl) ((HC.out _ bD3.fr).2.2.2) (fun hHeld => ?_)
  generalize X2.drew = D3 at *
  refine wpAnyH_take (i := 0) (oi := { dst := some 84, op := Go.Op.fieldAddr 28 (Go.Operand.tmp 14) 2, type := 0, pos := "ref.go:123", after := #[], guard := none }) (v := .pointer (some ⟨nb, 2, none⟩)) rfl (by kernel_rfl) (by kernel_rfl) (by kernel_rfl) (fun _ _ _ h => h) (Or.inl ⟨by rfl, fun w zz => by go_simp⟩) (by assumption) ?_
  try simp only [Act.put, List.setIfInBounds_toArray, List.set_cons_zero, List.set_cons_succ]
  refine wpAnyH_take (i := 2) (oi := { dst := some 86, op := Go.Op.fieldAddr 28 (Go.Operand.tmp 7) 2, type := 0, pos := "ref.go:123", after := #[], guard := none }) (v := .pointer (some ⟨w.heap.size + 1, 2, none⟩)) rfl (by kernel_rfl) (by kernel_rfl) (by kernel_rfl) (fun _ _ _ h => h) (Or.inl ⟨by rfl, fun w zz => by go_simp⟩) (by assumption) ?_
  try simp only [Act.put, List.setIfInBounds_toArray, List.set_cons_zero, List.set_cons_succ]
  refine wpAnyH_take (i := 3) (oi := { dst := some 87, op := Go.Op.load 26 (Go.Operand.tmp 86), type := 26, pos := "ref.go:123", after := #[{ on := 2, ground := Go.Ground.data }], guard := none }) (v := .slice (some ⟨r.kb, r.ko, none⟩) N.ks.length r.ck) rfl (by kernel_rfl) (by kernel_rfl) (by kernel_rfl) (fun _ _ _ h => h) (Or.inl ⟨by rfl, fun w zz => by go_simp⟩) (by assumption) ?_
  try simp only [Act.put, List.setIfInBounds_toArray, List.set_cons_zero, List.set_cons_succ]
  refine wpAnyH_take (i := 4) (oi := { dst := some 88, op := Go.Op.move (Go.Operand.tmp 2), type := 3, pos := "ref.go:123", after := #[], guard := none }) (v := .int .i64 (a : Int)) rfl (by kernel_rfl) (by kernel_rfl) (by kernel_rfl) (fun _ _ _ h => h) (Or.inl ⟨by rfl, fun w zz => by go_simp⟩) (by assumption) ?_
  try simp only [Act.put, List.setIfInBounds_toArray, List.set_cons_zero, List.set_cons_succ]
  refine wpAnyH_take (i := 5) (oi := { dst := some 89, op := Go.Op.move (Go.Operand.tmp 3), type := 3, pos := "ref.go:123", after := #[], guard := none }) (v := .int .i64 (m : Int)) rfl (by kernel_rfl) (by kernel_rfl) (by kernel_rfl) (fun _ _ _ h => h) (Or.inl ⟨by rfl, fun w zz => by go_simp⟩) (by assumption) ?_
  try simp only [Act.put, List.setIfInBounds_toArray, List.set_cons_zero, List.set_cons_succ]
  refine wpAnyH_take (i := 6) (oi := { dst := some 90, op := Go.Op.binOp Go.BinOp.add 3 (Go.Operand.tmp 88) (Go.Operand.tmp 89) 3, type := 3, pos := "ref.go:123", after := #[{ on := 4, ground := Go.Ground.data }, { on := 5, ground := Go.Ground.data }], guard := none }) (v := .int .i64 (b : Int)) rfl (by kernel_rfl) (by kernel_rfl) (by kernel_rfl) (fun _ _ _ h => h) (Or.inl ⟨by rfl, fun w zz => by go_simp⟩) (by assumption) ?_
  try simp only [Act.put, List.setIfInBounds_toArray, List.set_cons_zero, List.set_cons_succ]
  refine wpAnyH_take (i := 7) (oi := { dst := some 91, op := Go.Op.slice 26 (Go.Operand.tmp 87) (some (Go.Operand.tmp 90)) none none, type := 26, pos := "ref.go:123", after := #[{ on := 3, ground := Go.Ground.data }, { on := 6, ground := Go.Ground.data }], guard := none }) (v := .slice ak (N.ks.length - b) (r.ck - b)) rfl (by kernel_rfl) (by kernel_rfl) (by kernel_rfl) (fun _ _ _ h => h) (Or.inl ⟨by rfl, fun w zz => by (have := hlK w; go_simp)⟩) (by assumption) ?_
  try simp only [Act.put, List.setIfInBounds_toArray, List.set_cons_zero, List.set_cons_succ]
  obtain ⟨k0, k1, k2⟩ := bD3.box
  refine wpAnyH_ready (rs := [1]) (by kernel_rfl) (by simp) ?_
  refine AllReadyH.cons (o := { dst := some 85, op := Go.Op.load 26 (Go.Operand.tmp 84), type := 26, pos := "ref.go:123", after := #[{ on := 0, ground := Go.Ground.data }], guard := none }) rfl (fun K hK => ?_) AllReadyH.nil
  go_simp
  refine hK.out _ _ (HC.out _ bD3.fr).2.2.2 (fun hHeld => ?_)
  clear hK K
  try simp only [Act.put, List.setIfInBounds_toArray, List.set_cons_zero, List.set_cons_succ]
  refine wpAnyH_ready (rs := [8]) (by kernel_rfl) (by simp) ?_
  refine AllReadyH.cons (o := { dst := some 92, op := Go.Op.call { callee := Go.Callee.builtin Go.Builtin.append, args := #[Go.Operand.tmp 85, Go.Operand.tmp 91], argTypes := #[26, 26] }, type := 26, pos := "ref.go:123", after := #[{ on := 1, ground := Go.Ground.data }, { on := 7, ground := Go.Ground.data }], guard := none }) rfl (fun K hK => ?_) AllReadyH.nil
  refine step_partKids _ rfl _ _ rfl (by rfl) bD3.oK (x := ⟨ak, N.ks.length - b, r.ck - b, (kcellsL N.ks).drop (b * 33)⟩) (by rfl) (HP3.out _ bD3.fr) (by have := HZ.out; simp only; omega) bD3.hW ?_
  intro ao3 cc3 Y3 o3 g3
  have vY3 : Same V Y3 := Fr.grown bD3.fr g3 (fun k hk hl => by have := bD3.oK.lt k hk; have := bD3.hB; omega)
  refine hK.out _ _ (HC.out _ vY3).2.2.2 (fun hHeld => ?_)
  clear hK K
  try simp only [Act.put, List.setIfInBounds_toArray, List.set_cons_zero, List.set_cons_succ]
  refine wpAnyH_take (i := 9) (oi := { dst := some 93, op := Go.Op.fieldAddr 28 (Go.Operand.tmp 14) 2, type := 0, pos := "ref.go:123", after := #[{ on := 0, ground := Go.Ground.phase }, { on := 1, ground := Go.Ground.phase }, { on := 2, ground := Go.Ground.phase }, { on := 3, ground := Go.Ground.phase }, { on := 4, ground := Go.Ground.phase }, { on := 5, ground := Go.Ground.phase }, { on := 6, ground := Go.Ground.phase }, { on := 7, ground := Go.Ground.phase }, { on := 8, ground := Go.Ground.phase }], guard := none }) (v := .pointer (some ⟨nb, 2, none⟩)) rfl (by kernel_rfl) (by kernel_rfl) (by kernel_rfl) (fun _ _ _ h => h) (Or.inl ⟨by rfl, fun w zz => by go_simp⟩) (by assumption) ?_
  try simp only [Act.put, List.setIfInBounds_toArray, List.set_cons_zero, List.set_cons_succ]
  obtain ⟨b3, kx, fz⟩ := bD3.growK o3 g3
  refine wpAnyH_ready (rs := [10]) (by kernel_rfl) (by simp) ?_
  refine AllReadyH.cons (o := { dst := none, op := Go.Op.store 26 (Go.Operand.tmp 93) (Go.Operand.tmp 92), type := 0, pos := "ref.go:123", after := #[{ on := 9, ground := Go.Ground.data }, { on := 8, ground := Go.Ground.data }, { on := 8, ground := Go.Ground.chain }, { on := 0, ground := Go.Ground.phase }, { on := 1, ground := Go.Ground.phase }, { on := 2, ground := Go.Ground.phase }, { on := 3, ground := Go.Ground.phase }, { on := 4, ground := Go.Ground.phase }, { on := 5, ground := Go.Ground.phase }, { on := 6, ground := Go.Ground.phase }, { on := 7, ground := Go.Ground.phase }, { on := 8, ground := Go.Ground.phase }], guard := none }) rfl (fun K hK => ?_) AllReadyH.nil
  go_simp
  refine hK.out _ _ (HC.out _ b3.fr).2.2.2 (fun hHeld => ?_)
  clear hK K
  refine wpAnyH_done (by kernel_rfl) ?_ _
  generalize Y3.setCell ⟨nb, 2, none⟩ (.slice ao3 (a + K.length + (N.ks.length - b)) cc3) = X3 at *
  clear k0 k1 k2 kx fz g3 o3 vY3 bD3
  go_wp2_with fail
  have bD4 := b3.drew
  refine wp_region_held_drew (S := fun Y => Y.cell? ⟨w.heap.size + 1, 1, none⟩ = some (.slice (some ⟨r.sb, r.so, none⟩) N.ss.length r.cs)) (by kernel_rfl) ((HC.out _ bD4.fr).2.2.1) (fun hHeld => ?_)
  generalize X3.drew = D4 at *
  refine wpAnyH_take (i := 0) (oi := { dst := some 94, op := Go.Op.fieldAddr 28 (Go.Operand.tmp 14) 1, type := 0, pos := "ref.go:124", after := #[], guard := none }) (v := .pointer (some ⟨nb, 1, none⟩)) rfl (by kernel_rfl) (by kernel_rfl) (by kernel_rfl) (fun _ _ _ h => h) (Or.inl ⟨by rfl, fun w zz => by go_simp⟩) (by assumption) ?_
  try simp only [Act.put, List.setIfInBounds_toArray, List.set_cons_zero, List.set_cons_succ]
  refine wpAnyH_take (i := 2) (oi := { dst := some 96, op := Go.Op.fieldAddr 28 (Go.Operand.tmp 7) 1, type := 0, pos := "ref.go:124", after := #[], guard := none }) (v := .pointer (some ⟨w.heap.size + 1, 1, none⟩)) rfl (by kernel_rfl) (by kernel_rfl) (by kernel_rfl) (fun _ _ _ h => h) (Or.inl ⟨by rfl, fun w zz => by go_simp⟩) (by assumption) ?_
  try simp only [Act.put, List.setIfInBounds_toArray, List.set_cons_zero, List.set_cons_succ]
  refine wpAnyH_take (i := 3) (oi := { dst := some 97, op := Go.Op.load 25 (Go.Operand.tmp 96), type := 25, pos := "ref.go:124", after := #[{ on := 2, ground := Go.Ground.data }], guard := none }) (v := .slice (some ⟨r.sb, r.so, none⟩) N.ss.length r.cs) rfl (by kernel_rfl) (by kernel_rfl) (by kernel_rfl) (fun _ _ _ h => h) (Or.inl ⟨by rfl, fun w zz => by go_simp⟩) (by assumption) ?_
  try simp only [Act.put, List.setIfInBounds_toArray, List.set_cons_zero, List.set_cons_succ]
  refine wpAnyH_take (i := 4) (oi := { dst := some 98, op := Go.Op.move (Go.Operand.tmp 2), type := 3, pos := "ref.go:124", after := #[], guard := none }) (v := .int .i64 (a : Int)) rfl (by kernel_rfl) (by kernel_rfl) (by kernel_rfl) (fun _ _ _ h => h) (Or.inl ⟨by rfl, fun w zz => by go_simp⟩) (by assumption) ?_
  try simp only [Act.put, List.setIfInBounds_toArray, List.set_cons_zero, List.set_cons_succ]
  refine wpAnyH_take (i := 5) (oi := { dst := some 99, op := Go.Op.slice 25 (Go.Operand.tmp 97) none (some (Go.Operand.tmp 98)) none, type := 25, pos := "ref.go:124", after := #[{ on := 3, ground := Go.Ground.data }, { on := 4, ground := Go.Ground.data }], guard := none }) (v := .slice (some ⟨r.sb, r.so, none⟩) a r.cs) rfl (by kernel_rfl) (by kernel_rfl) (by kernel_rfl) (fun _ _ _ h => h) (Or.inl ⟨by rfl, fun w zz => by (have := hhS w; go_simp)⟩) (by assumption) ?_
  try simp only [Act.put, List.setIfInBounds_toArray, List.set_cons_zero, List.set_cons_succ]
  obtain ⟨k0, k1, k2⟩ := bD4.box
  refine wpAnyH_ready (rs := [1]) (by kernel_rfl) (by simp) ?_
  refine AllReadyH.cons (o := { dst := some 95, op := Go.Op.load 25 (Go.Operand.tmp 94), type := 25, pos := "ref.go:124", after := #[{ on := 0, ground := Go.Ground.data }], guard := none }) rfl (fun K hK => ?_) AllReadyH.nil
  go_simp
  refine hK.out _ _ (HC.out _ bD4.fr).2.2.1 (fun hHeld => ?_)
  clear hK K
  try simp only [Act.put, List.setIfInBounds_toArray, List.set_cons_zero, List.set_cons_succ]
  refine wpAnyH_ready (rs := [6]) (by kernel_rfl) (by simp) ?_
  refine AllReadyH.cons (o := { dst := some 100, op := Go.Op.call { callee := Go.Callee.builtin Go.Builtin.append, args := #[Go.Operand.tmp 95, Go.Operand.tmp 99], argTypes := #[25, 25] }, type := 25, pos := "ref.go:124", after := #[{ on := 1, ground := Go.Ground.data }, { on := 5, ground := Go.Ground.data }], guard := none }) rfl (fun K hK => ?_) AllReadyH.nil
  refine step_partTexts _ rfl _ _ rfl (by rfl) bD4.oS (x := ⟨some ⟨r.sb, r.so, none⟩, a, r.cs, (scells N.ss).take (a * 1)⟩) (by rfl) (HP4.out _ bD4.fr) (by have := HZ.out; simp only; omega) bD4.hW ?_
  try simp only [Nat.zero_add, List.nil_append]
  intro ao4 cc4 Y4 o4 g4
  have vY4 : Same V Y4 := Fr.grown bD4.fr g4 (fun k hk hl => by have := bD4.oS.lt k hk; have := bD4.hB; omega)
  refine hK.out _ _ (HC.out _ vY4).2.2.1 (fun hHeld => ?_)
  clear hK K
  try simp only [Act.put, List.setIfInBounds_toArray, List.set_cons_zero, List.set_cons_succ]
  refine wpAnyH_take (i := 7) (oi := { dst := some 101, op := Go.Op.fieldAddr 28 (Go.Operand.tmp 14) 1, type := 0, pos := "ref.go:124", after := #[{ on := 0, ground := Go.Ground.phase }, { on := 1, ground := Go.Ground.phase }, { on := 2, ground := Go.Ground.phase }, { on := 3, ground := Go.Ground.phase }, { on := 4, ground := Go.Ground.phase }, { on := 5, ground := Go.Ground.phase }, { on := 6, ground := Go.Ground.phase }], guard := none }) (v := .pointer (some ⟨nb, 1, none⟩)) rfl (by kernel_rfl) (by kernel_rfl) (by kernel_rfl) (fun _ _ _ h => h) (Or.inl ⟨by rfl, fun w zz => by go_simp⟩) (by assumption) ?_
  try simp only [Act.put, List.setIfInBounds_toArray, List.set_cons_zero, List.set_cons_succ]
  obtain ⟨b4, kx, fz⟩ := bD4.growS o4 g4
  refine wpAnyH_ready (rs := [8]) (by kernel_rfl) (by simp) ?_
  refine AllReadyH.cons (o := { dst := none, op := Go.Op.store 25 (Go.Operand.tmp 101) (Go.Operand.tmp 100), type := 0, pos := "ref.go:124", after := #[{ on := 7, ground := Go.Ground.data }, { on := 6, ground := Go.Ground.data }, { on := 6, ground := Go.Ground.chain }, { on := 0, ground := Go.Ground.phase }, { on := 1, ground := Go.Ground.phase }, { on := 2, ground := Go.Ground.phase }, { on := 3, ground := Go.Ground.phase }, { on := 4, ground := Go.Ground.phase }, { on := 5, ground := Go.Ground.phase }, { on := 6, ground := Go.Ground.phase }], guard := none }) rfl (fun K hK => ?_) AllReadyH.nil
  go_simp
  refine hK.out _ _ (HC.out _ b4.fr).2.2.1 (fun hHeld => ?_)
  clear hK K
  refine wpAnyH_done (by kernel_rfl) ?_ _
  generalize Y4.setCell ⟨nb, 1, none⟩ (.slice ao4 a cc4) = X4 at *
  clear k0 k1 k2 kx fz g4 o4 vY4 bD4
  obtain ⟨k0, k1, k2⟩ := b4.box
  go_wp2_with (at_builtin; go_must (refine wpList_partTexts _ (by rfl) _ _ (by rfl) (by rfl) b4.oS (x := ⟨r2.sa, S.length, r2.cs, scells S⟩) (by rfl) (HP5.out _ b4.fr) (by have := HZ.out; simp only; omega) b4.hW ?_))
  intro ao5 cc5 Y5 o5 g5
  obtain ⟨b5, kx, fz⟩ := b4.growS o5 g5
  clear k0 k1 k2
  obtain ⟨k0, k1, k2⟩ := b5.box
  go_wp2_with fail
  generalize Y5.setCell ⟨nb, 1, none⟩ (.slice ao5 (a + S.length) cc5) = X5 at *
  clear k0 k1 k2 kx fz g5 o5
  have bD6 := b5.drew
  refine wp_region_held_drew (S := fun Y => Y.cell? ⟨w.heap.size + 1, 1, none⟩ = some (.slice (some ⟨r.sb, r.so, none⟩) N.ss.length r.cs)) (by kernel_rfl) ((HC.out _ bD6.fr).2.2.1) (fun hHeld => ?_)
  generalize X5.drew = D6 at *
  refine wpAnyH_take (i := 0) (oi := { dst := some 107, op := Go.Op.fieldAddr 28 (Go.Operand.tmp 14) 1, type := 0, pos := "ref.go:126", after := #[], guard := none }) (v := .pointer (some ⟨nb, 1, none⟩)) rfl (by kernel_rfl) (by kernel_rfl) (by kernel_rfl) (fun _ _ _ h => h) (Or.inl ⟨by rfl, fun w zz => by go_simp⟩) (by assumption) ?_
  try simp only [Act.put, List.setIfInBounds_toArray, List.set_cons_zero, List.set_cons_succ]
  refine wpAnyH_take (i := 2) (oi := { dst := some 109, op := Go.Op.fieldAddr 28 (Go.Operand.tmp 7) 1, type := 0, pos := "ref.go:126", after := #[], guard := none }) (v := .pointer (some ⟨w.heap.size + 1, 1, none⟩)) rfl (by kernel_rfl) (by kernel_rfl) (by kernel_rfl) (fun _ _ _ h => h) (Or.inl ⟨by rfl, fun w zz => by go_simp⟩) (by assumption) ?_
  try simp only [Act.put, List.setIfInBounds_toArray, List.set_cons_zero, List.set_cons_succ]
  refine wpAnyH_take (i := 3) (oi := { dst := some 110, op := Go.Op.load 25 (Go.Operand.tmp 109), type := 25, pos := "ref.go:126", after := #[{ on := 2, ground := Go.Ground.data }], guard := none }) (v := .slice (some ⟨r.sb, r.so, none⟩) N.ss.length r.cs) rfl (by kernel_rfl) (by kernel_rfl) (by kernel_rfl) (fun _ _ _ h => h) (Or.inl ⟨by rfl, fun w zz => by go_simp⟩) (by assumption) ?_
  try simp only [Act.put, List.setIfInBounds_toArray, List.set_cons_zero, List.set_cons_succ]
  refine wpAnyH_take (i := 4) (oi := { dst := some 111, op := Go.Op.move (Go.Operand.tmp 2), type := 3, pos := "ref.go:126", after := #[], guard := none }) (v := .int .i64 (a : Int)) rfl (by kernel_rfl) (by kernel_rfl) (by kernel_rfl) (fun _ _ _ h => h) (Or.inl ⟨by rfl, fun w zz => by go_simp⟩) (by assumption) ?_
  try simp only [Act.put, List.setIfInBounds_toArray, List.set_cons_zero, List.set_cons_succ]
  refine wpAnyH_take (i := 5) (oi := { dst := some 112, op := Go.Op.move (Go.Operand.tmp 3), type := 3, pos := "ref.go:126", after := #[], guard := none }) (v := .int .i64 (m : Int)) rfl (by kernel_rfl) (by kernel_rfl) (by kernel_rfl) (fun _ _ _ h => h) (Or.inl ⟨by rfl, fun w zz => by go_simp⟩) (by assumption) ?_
  try simp only [Act.put, List.setIfInBounds_toArray, List.set_cons_zero, List.set_cons_succ]
  refine wpAnyH_take (i := 6) (oi := { dst := some 113, op := Go.Op.binOp Go.BinOp.add 3 (Go.Operand.tmp 111) (Go.Operand.tmp 112) 3, type := 3, pos := "ref.go:126", after := #[{ on := 4, ground := Go.Ground.data }, { on := 5, ground := Go.Ground.data }], guard := none }) (v := .int .i64 (b : Int)) rfl (by kernel_rfl) (by kernel_rfl) (by kernel_rfl) (fun _ _ _ h => h) (Or.inl ⟨by rfl, fun w zz => by go_simp⟩) (by assumption) ?_
  try simp only [Act.put, List.setIfInBounds_toArray, List.set_cons_zero, List.set_cons_succ]
  refine wpAnyH_take (i := 7) (oi := { dst := some 114, op := Go.Op.binOp Go.BinOp.sub 3 (Go.Operand.tmp 113) (Go.Operand.const (Go.Value.int Go.IntKind.i64 1)) 3, type := 3, pos := "ref.go:126", after := #[{ on := 6, ground := Go.Ground.data }], guard := none }) (v := .int .i64 (c : Int)) rfl (by kernel_rfl) (by kernel_rfl) (by kernel_rfl) (fun _ _ _ h => h) (Or.inl ⟨by rfl, fun w zz => by go_simp⟩) (by assumption) ?_
  try simp only [Act.put, List.setIfInBounds_toArray, List.set_cons_zero, List.set_cons_succ]
  refine wpAnyH_take (i := 8) (oi := { dst := some 115, op := Go.Op.slice 25 (Go.Operand.tmp 110) (some (Go.Operand.tmp 114)) none none, type := 25, pos := "ref.go:126", after := #[{ on := 3, ground := Go.Ground.data }, { on := 7, ground := Go.Ground.data }], guard := none }) (v := .slice ax (N.ss.length - c) (r.cs - c)) rfl (by kernel_rfl) (by kernel_rfl) (by kernel_rfl) (fun _ _ _ h => h) (Or.inl ⟨by rfl, fun w zz => by (have := hlS w; go_simp)⟩) (by assumption) ?_
  try simp only [Act.put, List.setIfInBounds_toArray, List.set_cons_zero, List.set_cons_succ]
  obtain ⟨k0, k1, k2⟩ := bD6.box
  refine wpAnyH_ready (rs := [1]) (by kernel_rfl) (by simp) ?_
  refine AllReadyH.cons (o := { dst := some 108, op := Go.Op.load 25 (Go.Operand.tmp 107), type := 25, pos := "ref.go:126", after := #[{ on := 0, ground := Go.Ground.data }], guard := none }) rfl (fun K hK => ?_) AllReadyH.nil
  go_simp
  refine hK.out _ _ (HC.out _ bD6.fr).2.2.1 (fun hHeld => ?_)
  clear hK K
  try simp only [Act.put, List.setIfInBounds_toArray, List.set_cons_zero, List.set_cons_succ]
  refine wpAnyH_ready (rs := [9]) (by kernel_rfl) (by simp) ?_
  refine AllReadyH.cons (o := { dst := some 116, op := Go.Op.call { callee := Go.Callee.builtin Go.Builtin.append, args := #[Go.Operand.tmp 108, Go.Operand.tmp 115], argTypes := #[25, 25] }, type := 25, pos := "ref.go:126", after := #[{ on := 1, ground := Go.Ground.data }, { on := 8, ground := Go.Ground.data }], guard := none }) rfl (fun K hK => ?_) AllReadyH.nil
  refine step_partTexts _ rfl _ _ rfl (by rfl) bD6.oS (x := ⟨ax, N.ss.length - c, r.cs - c, (scells N.ss).drop (c * 1)⟩) (by rfl) (HP6.out _ bD6.fr) (by have := HZ.out; simp only; omega) bD6.hW ?_
  intro ao6 cc6 Y6 o6 g6
  have vY6 : Same V Y6 := Fr.grown bD6.fr g6 (fun k hk hl => by have := bD6.oS.lt k hk; have := bD6.hB; omega)
  refine hK.out _ _ (HC.out _ vY6).2.2.1 (fun hHeld => ?_)
  clear hK K
  try simp only [Act.put, List.setIfInBounds_toArray, List.set_cons_zero, List.set_cons_succ]
  refine wpAnyH_take (i := 10) (oi := { dst := some 117, op := Go.Op.fieldAddr 28 (Go.Operand.tmp 14) 1, type := 0, pos := "ref.go:126", after := #[{ on := 0, ground := Go.Ground.phase }, { on := 1, ground := Go.Ground.phase }, { on := 2, ground := Go.Ground.phase }, { on := 3, ground := Go.Ground.phase }, { on := 4, ground := Go.Ground.phase }, { on := 5, ground := Go.Ground.phase }, { on := 6, ground := Go.Ground.phase }, { on := 7, ground := Go.Ground.phase }, { on := 8, ground := Go.Ground.phase }, { on := 9, ground := Go.Ground.phase }], guard := none }) (v := .pointer (some ⟨nb, 1, none⟩)) rfl (by kernel_rfl) (by kernel_rfl) (by kernel_rfl) (fun _ _ _ h => h) (Or.inl ⟨by rfl, fun w zz => by go_simp⟩) (by assumption) ?_
  try simp only [Act.put, List.setIfInBounds_toArray, List.set_cons_zero, List.set_cons_succ]
  obtain ⟨b6, kx, fz⟩ := bD6.growS o6 g6
  refine wpAnyH_ready (rs := [11]) (by kernel_rfl) (by simp) ?_
  refine AllReadyH.cons (o := { dst := none, op := Go.Op.store 25 (Go.Operand.tmp 117) (Go.Operand.tmp 116), type := 0, pos := "ref.go:126", after := #[{ on := 10, ground := Go.Ground.data }, { on := 9, ground := Go.Ground.data }, { on := 9, ground := Go.Ground.chain }, { on := 0, ground := Go.Ground.phase }, { on := 1, ground := Go.Ground.phase }, { on := 2, ground := Go.Ground.phase }, { on := 3, ground := Go.Ground.phase }, { on := 4, ground := Go.Ground.phase }, { on := 5, ground := Go.Ground.phase }, { on := 6, ground := Go.Ground.phase }, { on := 7, ground := Go.Ground.phase }, { on := 8, ground := Go.Ground.phase }, { on := 9, ground := Go.Ground.phase }], guard := none }) rfl (fun K hK => ?_) AllReadyH.nil
  go_simp
  refine hK.out _ _ (HC.out _ b6.fr).2.2.1 (fun hHeld => ?_)
  clear hK K
  refine wpAnyH_done (by kernel_rfl) ?_ _
  generalize Y6.setCell ⟨nb, 1, none⟩ (.slice ao6 (a + S.length + (N.ss.length - c)) cc6) = X6 at *
  clear k0 k1 k2 kx fz g6 o6 vY6 bD6
  have hz := HZ.out
  have hvz := HVZ.out
  have u1 : ((N.ks.take a ++ K) ++ N.ks.drop b).length = a + K.length + (N.ks.length - b) := by simp only [List.length_append, List.length_take, List.length_drop]; omega
  have u2 : ((N.ss.take a ++ S) ++ N.ss.drop c).length = a + S.length + (N.ss.length - c) := by simp only [List.length_append, List.length_take, List.length_drop]; omega
  have e1 : kcellsL ((N.ks.take a ++ K) ++ N.ks.drop b) = ((kcellsL N.ks).take (a * 33) ++ kcellsL K) ++ (kcellsL N.ks).drop (b * 33) := by rw [kcellsL_app, kcellsL_app, kcellsL_takeK _ _ HOK.out, kcellsL_dropK _ _ HOK.out]
  have e2 : scells ((N.ss.take a ++ S) ++ N.ss.drop c) = ((scells N.ss).take (a * 1) ++ scells S) ++ (scells N.ss).drop (c * 1) := by rw [scells_app, scells_app, scells_takeK, scells_dropK]
  have HMD : Hid (∀ W, Same X6 W → MadeNd W w.heap.size ⟨none, 0, 0, 0, ao6, 0, 0, cc6, ao3, 0, 0, cc3⟩ ⟨[], (N.ss.take a ++ S) ++ N.ss.drop c, (N.ks.take a ++ K) ++ N.ks.drop b⟩) := fun W s => ⟨own_nil, by show World.ownsRow _ _ _ _ (.slice ao6 ((N.ss.take a ++ S) ++ N.ss.drop c).length cc6) ((N.ss.take a ++ S) ++ N.ss.drop c).length _; rw [u2, e2]; have bs := (b6.same s).oS; simp only [Nat.mul_one] at bs ⊢; exact own_base bs (by omega), by show World.ownsRow _ _ _ _ (.slice ao3 ((N.ks.take a ++ K) ++ N.ks.drop b).length cc3) ((N.ks.take a ++ K) ++ N.ks.drop b).length _; rw [u1, e1]; have bs := (b6.same s).oK; exact own_base bs (by omega)⟩
  have HU : Hid (((N.ks.take a ++ K) ++ N.ks.drop b).length = a + K.length + (N.ks.length - b) ∧ ((N.ss.take a ++ S) ++ N.ss.drop c).length = a + S.length + (N.ss.length - c)) := ⟨u1, u2⟩
  have HCk2 : Hid (∀ W, Same X6 W → Calls Try.prog 21 #[frameV p q, .agg #[.slice none 0 0, .slice ao6 (a + S.length + (N.ss.length - c)) cc6, .slice ao3 (a + K.length + (N.ks.length - b)) cc3]] W fun e w' => e = .returned (.int .i64 0) ∧ Same W w') := fun W s => by
    have := HCk.out W _ _ (HMD.out W s)
    unfold ndV nodeV at this
    simp only at this
    rw [u1, u2] at this
    exact this
  clear u1 u2 e1 e2 hz
  generalize a + S.length + (N.ss.length - c) = NS at *
  generalize a + K.length + (N.ks.length - b) = NK at *
  obtain ⟨⟨a0, a1⟩, n0, n1, n2⟩ := HC.out _ b6.fr
  obtain ⟨k0, k1, k2⟩ := b6.box
  go_wp2_with fail
  refine (HCk2.out _ (Fr.refl _ _)).mono ?_
  rintro e W9 ⟨rfl, s9⟩
  have b9 := b6.same s9
  clear k0 k1 k2 a0 a1 n0 n1 n2
  obtain ⟨k0, k1, k2⟩ := b9.box
  have r6 := HG.out _ b9.fr
  go_wp2_with (refine wpList_store_whole (by rfl) 28 _ _ (by rfl) (w.heap.size + 1 + 1) #[.slice none 0 0, .slice ao6 NS cc6, .slice ao3 NK cc3] _ 28 (by rfl) (by rfl) r6 rfl (by kernel_rfl) (by kernel_rfl) ?_; intro W7 r7 f7)
  have hm := HMD.out _ s9
  obtain ⟨u1, u2⟩ := HU.out
  refine bodyPost_ret (results_row_tmp (p := 12) (u := 13) (ty := 28) (by kernel_rfl) _ _ (w.heap.size + 1 + 1) 28 _ (0, 0) _ rfl r7 Try.underlying28 rfl (by kernel_rfl)) rfl ⟨_, ?_, ⟨own_frameB hm.op f7 (fun kk hk e => type_ne hm.op r6 (by decide) (by rw [← e]; exact hk)), own_frameB hm.os f7 (fun kk hk e => type_ne hm.os r6 (by decide) (by rw [← e]; exact hk)), own_frameB hm.ok f7 (fun kk hk e => type_ne hm.ok r6 (by decide) (by rw [← e]; exact hk))⟩, Fr.trans (t1.trans b9.fr) f7 (fun i hi e => by omega)⟩
  simp only
  rw [u1, u2]
  rfl
set_option maxRecDepth 100000 in
set_option maxHeartbeats 8000000 in
theorem dsplice_order {p q : Int} {C : Int} {r r2 : Nr} {N : Nd} {S : List ByteArray} {K : List Kid} {a m b c : Nat} (w : World) (h : NdIn w r N) (hcap : NdCapN r N) (i2 : NdIn w r2 ⟨[], S, K⟩) (hm : 1 ≤ m) (hb : b = a + m) (hcc : c + 1 = b) (hbl : b ≤ N.ks.length) (hss : N.ss.length + 1 = N.ks.length) (hkk : S.length + 1 = K.length) (h2 : 2 ≤ N.ks.length - m + K.length) (hk2 : 2 ≤ N.ks.length) (l1 : N.ks.length ≤ 1048576) (l2 : K.length ≤ 1048576) (hC : (C != 0) = true)
    (HR : Hid (∀ W, Calls Try.prog 19 #[frameV p q] W fun e w' => e = .returned (.bool true) ∧ Same W w'))
    (HB : Hid (∀ W, Same w W → Calls Try.prog 20 #[frameV p q, ndV r N] W fun e w' => e = .returned (.bool true) ∧ Same W w'))
    (HCk : Hid (∀ W B r', MadeNd W B r' ⟨[], (N.ss.take a ++ S) ++ N.ss.drop c, (N.ks.take a ++ K) ++ N.ks.drop b⟩ → Calls Try.prog 21 #[frameV p q, ndV r' ⟨[], (N.ss.take a ++ S) ++ N.ss.drop c, (N.ks.take a ++ K) ++ N.ks.drop b⟩] W fun e w' => e = .returned (.int .i64 C) ∧ Same W w')) :
    Calls Try.prog 6 #[frameV p q, ndV r N, .int .i64 (a : Int), .int .i64 (m : Int), .slice r2.ka K.length r2.ck, .slice r2.sa S.length r2.cs] w fun e w' => e = .returned (.tuple #[nodeV none 0 0 none 0 0 none 0 0, .int .i64 81]) ∧ Same w w' := by
  have hkne : N.ks ≠ [] := by intro e; rw [e] at hk2; simp at hk2
  have hsne : N.ss ≠ [] := by intro e; rw [e] at hss; simp at hss; omega
  have hka := (h.at_.hk.place hkne).1
  have hsa := (h.at_.hs.place hsne).1
  have HOK : Hid (∀ x ∈ N.ks, KidOk x) := h.at_.ok
  have HOK2 : Hid (∀ x ∈ K, KidOk x) := i2.at_.ok
  obtain ⟨V, hV⟩ : ∃ V, V = ((w.alloc (.cells #[.int .i64 p, .int .i64 q] 23)).alloc (.cells #[.slice r.pa N.ps.length r.cp, .slice (some ⟨r.sb, r.so, none⟩) N.ss.length r.cs, .slice (some ⟨r.kb, r.ko, none⟩) N.ks.length r.ck] 28)).alloc (.cells #[.slice none 0 0, .slice none 0 0, .slice none 0 0] 28) := ⟨_, rfl⟩
  have t1 : Same w V := by rw [hV]; exact (((Fr.refl _ w).alloc _).alloc _).alloc _
  obtain ⟨g0, g1, g2⟩ := three_boxes w (.cells #[.int .i64 p, .int .i64 q] 23) (.cells #[.slice r.pa N.ps.length r.cp, .slice (some ⟨r.sb, r.so, none⟩) N.ss.length r.cs, .slice (some ⟨r.kb, r.ko, none⟩) N.ks.length r.ck] 28) (.cells #[.slice none 0 0, .slice none 0 0, .slice none 0 0] 28)
  rw [← hV] at g0 g1 g2
  have HC : Hid (∀ W, Same V W → (W.cell? ⟨w.heap.size, 0, none⟩ = some (.int .i64 p) ∧ W.cell? ⟨w.heap.size, 1, none⟩ = some (.int .i64 q)) ∧ W.cell? ⟨w.heap.size + 1, 0, none⟩ = some (.slice r.pa N.ps.length r.cp) ∧ W.cell? ⟨w.heap.size + 1, 1, none⟩ = some (.slice (some ⟨r.sb, r.so, none⟩) N.ss.length r.cs) ∧ W.cell? ⟨w.heap.size + 1, 2, none⟩ = some (.slice (some ⟨r.kb, r.ko, none⟩) N.ks.length r.ck)) := fun W s => ⟨⟨s.keep ((cell_of_row _ _ _ _ _ _ g0).trans rfl), s.keep ((cell_of_row _ _ _ _ _ _ g0).trans rfl)⟩, s.keep ((cell_of_row _ _ _ _ _ _ g1).trans rfl), s.keep ((cell_of_row _ _ _ _ _ _ g1).trans rfl), s.keep ((cell_of_row _ _ _ _ _ _ g1).trans rfl)⟩
  have HG : Hid (∀ W, Same V W → W.heap[w.heap.size + 1 + 1]? = some (.cells #[.slice none 0 0, .slice none 0 0, .slice none 0 0] 28 (0, 0))) := fun W s => (s.block _ (lt_of_heap g2) (fun e => e)).trans g2
  have HVZ : Hid (w.heap.size + 3 = V.heap.size) := by show _ = _; rw [hV]; simp
  obtain ⟨⟨a0, a1⟩, n0, n1, n2⟩ := HC.out _ (Fr.refl _ V)
  clear g0 g1 g2
  have HZ : Hid ((N.ks.length ≤ 1048576 ∧ K.length ≤ 1048576) ∧ (1 ≤ m ∧ b = a + m ∧ c + 1 = b ∧ b ≤ N.ks.length) ∧ N.ss.length + 1 = N.ks.length ∧ S.length + 1 = K.length) := ⟨⟨l1, l2⟩, ⟨hm, hb, hcc, hbl⟩, hss, hkk⟩
  have hhK := high_kids (ao := some ⟨r.kb, r.ko, none⟩) (show a ≤ N.ks.length by omega) hcap.ck
  have hhS := high_texts (ao := some ⟨r.sb, r.so, none⟩) (show a ≤ N.ss.length by omega) hcap.cs
  have pk := h.kp
  have ps := h.sp
  simp only [hka] at pk
  simp only [hsa] at ps
  obtain ⟨ak, hlK, q1, q2⟩ := low_kids (ao := some ⟨r.kb, r.ko, none⟩) (show b ≤ N.ks.length by omega) hcap.ck (fun e => by cases e)
  obtain ⟨ax, hlS, q3, q4⟩ := low_texts (ao := some ⟨r.sb, r.so, none⟩) (show c ≤ N.ss.length by omega) hcap.cs (fun e => by cases e)
  have HP1 : Hid (∀ W, Same V W → PartOk W 33 ⟨some ⟨r.kb, r.ko, none⟩, a, r.ck, (kcellsL N.ks).take (a * 33)⟩) := fun W s => (part_highK pk (by omega)).same (t1.trans s)
  have HP2 : Hid (∀ W, Same V W → PartOk W 33 ⟨r2.ka, K.length, r2.ck, kcellsL K⟩) := fun W s => (i2.same (t1.trans s)).kp
  have HP3 : Hid (∀ W, Same V W → PartOk W 33 ⟨ak, N.ks.length - b, r.ck - b, (kcellsL N.ks).drop (b * 33)⟩) := fun W s => (part_lowK pk (by omega) hcap.ck q1 q2 (fun a e => by cases e; exact ⟨_, _, rfl⟩)).same (t1.trans s)
  have HP4 : Hid (∀ W, Same V W → PartOk W 1 ⟨some ⟨r.sb, r.so, none⟩, a, r.cs, (scells N.ss).take (a * 1)⟩) := fun W s => (part_highT ps (by omega)).same (t1.trans s)
  have HP5 : Hid (∀ W, Same V W → PartOk W 1 ⟨r2.sa, S.length, r2.cs, scells S⟩) := fun W s => (i2.same (t1.trans s)).sp
  have HP6 : Hid (∀ W, Same V W → PartOk W 1 ⟨ax, N.ss.length - c, r.cs - c, (scells N.ss).drop (c * 1)⟩) := fun W s => (part_lowT ps (by omega) hcap.cs q3 q4 (fun a e => by cases e; exact ⟨_, _, rfl⟩)).same (t1.trans s)
  have s1 : RowKit.wrap64 ((a : Int) + (m : Int)) = (b : Int) := by unfold RowKit.wrap64; omega
  have s2 : (a : Int) + (m : Int) = (b : Int) := by omega
  have s3 : IntKind.i64.wrap (b : Int) = (b : Int) := by rw [IntKind.wrap_i64]; omega
  have s4 : RowKit.wrap64 ((b : Int) - 1) = (c : Int) := by unfold RowKit.wrap64; omega
  have s5 : IntKind.i64.wrap ((b : Int) - 1) = (c : Int) := by rw [IntKind.wrap_i64]; omega
  obtain ⟨d1, hd1⟩ : ∃ d1 : Int, d1 = (N.ks.length : Int) - (a : Int) := ⟨_, rfl⟩
  have w1 : RowKit.wrap64 ((N.ks.length : Int) - (a : Int)) = d1 := by unfold RowKit.wrap64; omega
  have c3 : ¬ N.ks.length < a := by omega
  have c4 : decide (d1 < (m : Int)) = false := decide_eq_false (by omega)
  have c2 : ¬ m < 1 := by omega
  have c2' : decide ((m : Int) < 1) = false := decide_eq_false (by omega)
  have c3' : decide ((N.ks.length : Int) < (a : Int)) = false := decide_eq_false (by omega)
  have c5 : decide ((K.length : Int) < 1) = false := decide_eq_false (by omega)
  have c6 : RowKit.wrap64 ((K.length : Int) - 1) = (S.length : Int) := by unfold RowKit.wrap64; omega
  have c6' : IntKind.i64.wrap ((K.length : Int) - 1) = (S.length : Int) := by rw [IntKind.wrap_i64]; omega
  have c6e : ((S.length : Int) == (S.length : Int)) = true := by simp
  obtain ⟨d2, hd2⟩ : ∃ d2 : Int, d2 = (N.ks.length : Int) - (m : Int) := ⟨_, rfl⟩
  obtain ⟨d3, hd3⟩ : ∃ d3 : Int, d3 = d2 + (K.length : Int) := ⟨_, rfl⟩
  have w2 : RowKit.wrap64 ((N.ks.length : Int) - (m : Int)) = d2 := by unfold RowKit.wrap64; omega
  have w3 : RowKit.wrap64 (d2 + (K.length : Int)) = d3 := by unfold RowKit.wrap64; omega
  have c7 : decide (d3 < 2) = false := decide_eq_false (by omega)
  clear hd1 hd2 hd3 h hcap i2 hm hb hcc hbl hss hkk h2 hk2 l1 l2 pk ps q1 q2 q3 q4 hkne hsne
  unfold ndV nodeV at HB ⊢
  rw [hka, hsa] at HB ⊢
  go_enter Try.func6, Try.ntmps6
  go_wp2_with fail
  rw [← hV]
  clear hV
  refine (HR.out _).mono ?_
  rintro e W1 ⟨rfl, s1⟩
  clear a0 a1 n0 n1 n2
  obtain ⟨⟨a0, a1⟩, n0, n1, n2⟩ := HC.out _ s1
  go_wp2_with fail
  refine (HB.out _ (t1.trans s1)).mono ?_
  rintro e W2 ⟨rfl, s2⟩
  have s2 := s1.trans s2
  clear a0 a1 n0 n1 n2
  obtain ⟨⟨a0, a1⟩, n0, n1, n2⟩ := HC.out _ s2
  go_wp2_with fail
  obtain ⟨X0, hX0⟩ : ∃ X, X = W2.alloc (.cells #[.slice none 0 0, .slice none 0 0, .slice none 0 0] 28) := ⟨_, rfl⟩
  obtain ⟨nb, hnb⟩ : ∃ nb, nb = W2.heap.size := ⟨_, rfl⟩
  have b0 : BS V X0 V.heap.size nb none 0 0 [] none 0 0 [] none 0 0 [] := by
    rw [hX0, hnb]
    exact ⟨heap_alloc_new W2 _, own_nil, own_nil, own_nil, Fr.alloc s2 _, s2.size, Nat.le_refl _, by have := s2.size; simp; omega⟩
  rw [← hX0, ← hnb]
  clear hX0 hnb a0 a1 n0 n1 n2
  have bD1 := b0.drew
  refine wp_region_held_drew (S := fun Y => Y.cell? ⟨w.heap.size + 1, 2, none⟩ = some (.slice (some ⟨r.kb, r.ko, none⟩) N.ks.length r.ck)) (by kernel_rfl) ((HC.out _ bD1.fr).2.2.2) (fun hHeld => ?_)
  generalize X0.drew = D1 at *
  refine wpAnyH_take (i := 0) (oi := { dst := some 71, op := Go.Op.fieldAddr 28 (Go.Operand.tmp 14) 2, type := 0, pos := "ref.go:121", after := #[], guard := none }) (v := .pointer (some ⟨nb, 2, none⟩)) rfl (by kernel_rfl) (by kernel_rfl) (by kernel_rfl) (fun _ _ _ h => h) (Or.inl ⟨by rfl, fun w zz => by go_simp⟩) (by assumption) ?_
  try simp only [Act.put, List.setIfInBounds_toArray, List.set_cons_zero, List.set_cons_succ]
  refine wpAnyH_take (i := 2) (oi := { dst := some 73, op := Go.Op.fieldAddr 28 (Go.Operand.tmp 7) 2, type := 0, pos := "ref.go:121", after := #[], guard := none }) (v := .pointer (some ⟨w.heap.size + 1, 2, none⟩)) rfl (by kernel_rfl) (by kernel_rfl) (by kernel_rfl) (fun _ _ _ h => h) (Or.inl ⟨by rfl, fun w zz => by go_simp⟩) (by assumption) ?_
  try simp only [Act.put, List.setIfInBounds_toArray, List.set_cons_zero, List.set_cons_succ]
  refine wpAnyH_take (i := 3) (oi := { dst := some 74, op := Go.Op.load 26 (Go.Operand.tmp 73), type := 26, pos := "ref.go:121", after := #[{ on := 2, ground := Go.Ground.data }], guard := none }) (v := .slice (some ⟨r.kb, r.ko, none⟩) N.ks.length r.ck) rfl (by kernel_rfl) (by kernel_rfl) (by kernel_rfl) (fun _ _ _ h => h) (Or.inl ⟨by rfl, fun w zz => by go_simp⟩) (by assumption) ?_
  try simp only [Act.put, List.setIfInBounds_toArray, List.set_cons_zero, List.set_cons_succ]
  refine wpAnyH_take (i := 4) (oi := { dst := some 75, op := Go.Op.move (Go.Operand.tmp 2), type := 3, pos := "ref.go:121", after := #[], guard := none }) (v := .int .i64 (a : Int)) rfl (by kernel_rfl) (by kernel_rfl) (by kernel_rfl) (fun _ _ _ h => h) (Or.inl ⟨by rfl, fun w zz => by go_simp⟩) (by assumption) ?_
  try simp only [Act.put, List.setIfInBounds_toArray, List.set_cons_zero, List.set_cons_succ]
  refine wpAnyH_take (i := 5) (oi := { dst := some 76, op := Go.Op.slice 26 (Go.Operand.tmp 74) none (some (Go.Operand.tmp 75)) none, type := 26, pos := "ref.go:121", after := #[{ on := 3, ground := Go.Ground.data }, { on := 4, ground := Go.Ground.data }], guard := none }) (v := .slice (some ⟨r.kb, r.ko, none⟩) a r.ck) rfl (by kernel_rfl) (by kernel_rfl) (by kernel_rfl) (fun _ _ _ h => h) (Or.inl ⟨by rfl, fun w zz => by (have := hhK w; go_simp)⟩) (by assumption) ?_
  try simp only [Act.put, List.setIfInBounds_toArray, List.set_cons_zero, List.set_cons_succ]
  obtain ⟨k0, k1, k2⟩ := bD1.box
  refine wpAnyH_ready (rs := [1]) (by kernel_rfl) (by simp) ?_
  refine AllReadyH.cons (o := { dst := some 72, op := Go.Op.load 26 (Go.Operand.tmp 71), type := 26, pos := "ref.go:121", after := #[{ on := 0, ground := Go.Ground.data }], guard := none }) rfl (fun K hK => ?_) AllReadyH.nil
  go_simp
  refine hK.out _ _ (HC.out _ bD1.fr).2.2.2 (fun hHeld => ?_)
  clear hK K
  try simp only [Act.put, List.setIfInBounds_toArray, List.set_cons_zero, List.set_cons_succ]
  refine wpAnyH_ready (rs := [6]) (by kernel_rfl) (by simp) ?_
  refine AllReadyH.cons (o := { dst := some 77, op := Go.Op.call { callee := Go.Callee.builtin Go.Builtin.append, args := #[Go.Operand.tmp 72, Go.Operand.tmp 76], argTypes := #[26, 26] }, type := 26, pos := "ref.go:121", after := #[{ on := 1, ground := Go.Ground.data }, { on := 5, ground := Go.Ground.data }], guard := none }) rfl (fun K hK => ?_) AllReadyH.nil
  refine step_partKids _ rfl _ _ rfl (by rfl) bD1.oK (x := ⟨some ⟨r.kb, r.ko, none⟩, a, r.ck, (kcellsL N.ks).take (a * 33)⟩) (by rfl) (HP1.out _ bD1.fr) (by have := HZ.out; simp only; omega) bD1.hW ?_
  try simp only [Nat.zero_add, List.nil_append]
  intro ao1 cc1 Y1 o1 g1
  have vY1 : Same V Y1 := Fr.grown bD1.fr g1 (fun k hk hl => by have := bD1.oK.lt k hk; have := bD1.hB; omega)
  refine hK.out _ _ (HC.out _ vY1).2.2.2 (fun hHeld => ?_)
  clear hK K
  try simp only [Act.put, List.setIfInBounds_toArray, List.set_cons_zero, List.set_cons_succ]
  refine wpAnyH_take (i := 7) (oi := { dst := some 78, op := Go.Op.fieldAddr 28 (Go.Operand.tmp 14) 2, type := 0, pos := "ref.go:121", after := #[{ on := 0, ground := Go.Ground.phase }, { on := 1, ground := Go.Ground.phase }, { on := 2, ground := Go.Ground.phase }, { on := 3, ground := Go.Ground.phase }, { on := 4, ground := Go.Ground.phase }, { on := 5, ground := Go.Ground.phase }, { on := 6, ground := Go.Ground.phase }], guard := none }) (v := .pointer (some ⟨nb, 2, none⟩)) rfl (by kernel_rfl) (by kernel_rfl) (by kernel_rfl) (fun _ _ _ h => h) (Or.inl ⟨by rfl, fun w zz => by go_simp⟩) (by assumption) ?_
  try simp only [Act.put, List.setIfInBounds_toArray, List.set_cons_zero, List.set_cons_succ]
  obtain ⟨b1, kx, fz⟩ := bD1.growK o1 g1
  refine wpAnyH_ready (rs := [8]) (by kernel_rfl) (by simp) ?_
  refine AllReadyH.cons (o := { dst := none, op := Go.Op.store 26 (Go.Operand.tmp 78) (Go.Operand.tmp 77), type := 0, pos := "ref.go:121", after := #[{ on := 7, ground := Go.Ground.data }, { on := 6, ground := Go.Ground.data }, { on := 6, ground := Go.Ground.chain }, { on := 0, ground := Go.Ground.phase }, { on := 1, ground := Go.Ground.phase }, { on := 2, ground := Go.Ground.phase }, { on := 3, ground := Go.Ground.phase }, { on := 4, ground := Go.Ground.phase }, { on := 5, ground := Go.Ground.phase }, { on := 6, ground := Go.Ground.phase }], guard := none }) rfl (fun K hK => ?_) AllReadyH.nil
  go_simp
  refine hK.out _ _ (HC.out _ b1.fr).2.2.2 (fun hHeld => ?_)
  clear hK K
  refine wpAnyH_done (by kernel_rfl) ?_ _
  generalize Y1.setCell ⟨nb, 2, none⟩ (.slice ao1 a cc1) = X1 at *
  clear k0 k1 k2 kx fz g1 o1 vY1 bD1
  obtain ⟨k0, k1, k2⟩ := b1.box
  go_wp2_with (at_builtin; go_must (refine wpList_partKids _ (by rfl) _ _ (by rfl) (by rfl) b1.oK (x := ⟨r2.ka, K.length, r2.ck, kcellsL K⟩) (by rfl) (HP2.out _ b1.fr) (by have := HZ.out; simp only; omega) b1.hW ?_))
  intro ao2 cc2 Y2 o2 g2
  obtain ⟨b2, kx, fz⟩ := b1.growK o2 g2
  clear k0 k1 k2
  obtain ⟨k0, k1, k2⟩ := b2.box
  go_wp2_with fail
  generalize Y2.setCell ⟨nb, 2, none⟩ (.slice ao2 (a + K.length) cc2) = X2 at *
  clear k0 k1 k2 kx fz g2 o2
  have bD3 := b2.drew
  refine wp_region_held_drew (S := fun Y => Y.cell? ⟨w.heap.size + 1, 2, none⟩ = some (.slice (some ⟨r.kb, r.ko, none⟩) N.ks.length r.ck)) (by kernel_rfl) ((HC.out _ bD3.fr).2.2.2) (fun hHeld => ?_)
  generalize X2.drew = D3 at *
  refine wpAnyH_take (i := 0) (oi := { dst := some 84, op := Go.Op.fieldAddr 28 (Go.Operand.tmp 14) 2, type := 0, pos := "ref.go:123", after := #[], guard := none }) (v := .pointer (some ⟨nb, 2, none⟩)) rfl (by kernel_rfl) (by kernel_rfl) (by kernel_rfl) (fun _ _ _ h => h) (Or.inl ⟨by rfl, fun w zz => by go_simp⟩) (by assumption) ?_
  try simp only [Act.put, List.setIfInBounds_toArray, List.set_cons_zero, List.set_cons_succ]
  refine wpAnyH_take (i := 2) (oi := { dst := some 86, op := Go.Op.fieldAddr 28 (Go.Operand.tmp 7) 2, type := 0, pos := "ref.go:123", after := #[], guard := none }) (v := .pointer (some ⟨w.heap.size + 1, 2, none⟩)) rfl (by kernel_rfl) (by kernel_rfl) (by kernel_rfl) (fun _ _ _ h => h) (Or.inl ⟨by rfl, fun w zz => by go_simp⟩) (by assumption) ?_
  try simp only [Act.put, List.setIfInBounds_toArray, List.set_cons_zero, List.set_cons_succ]
  refine wpAnyH_take (i := 3) (oi := { dst := some 87, op := Go.Op.load 26 (Go.Operand.tmp 86), type := 26, pos := "ref.go:123", after := #[{ on := 2, ground := Go.Ground.data }], guard := none }) (v := .slice (some ⟨r.kb, r.ko, none⟩) N.ks.length r.ck) rfl (by kernel_rfl) (by kernel_rfl) (by kernel_rfl) (fun _ _ _ h => h) (Or.inl ⟨by rfl, fun w zz => by go_simp⟩) (by assumption) ?_
  try simp only [Act.put, List.setIfInBounds_toArray, List.set_cons_zero, List.set_cons_succ]
  refine wpAnyH_take (i := 4) (oi := { dst := some 88, op := Go.Op.move (Go.Operand.tmp 2), type := 3, pos := "ref.go:123", after := #[], guard := none }) (v := .int .i64 (a : Int)) rfl (by kernel_rfl) (by kernel_rfl) (by kernel_rfl) (fun _ _ _ h => h) (Or.inl ⟨by rfl, fun w zz => by go_simp⟩) (by assumption) ?_
  try simp only [Act.put, List.setIfInBounds_toArray, List.set_cons_zero, List.set_cons_succ]
  refine wpAnyH_take (i := 5) (oi := { dst := some 89, op := Go.Op.move (Go.Operand.tmp 3), type := 3, pos := "ref.go:123", after := #[], guard := none }) (v := .int .i64 (m : Int)) rfl (by kernel_rfl) (by kernel_rfl) (by kernel_rfl) (fun _ _ _ h => h) (Or.inl ⟨by rfl, fun w zz => by go_simp⟩) (by assumption) ?_
  try simp only [Act.put, List.setIfInBounds_toArray, List.set_cons_zero, List.set_cons_succ]
  refine wpAnyH_take (i := 6) (oi := { dst := some 90, op := Go.Op.binOp Go.BinOp.add 3 (Go.Operand.tmp 88) (Go.Operand.tmp 89) 3, type := 3, pos := "ref.go:123", after := #[{ on := 4, ground := Go.Ground.data }, { on := 5, ground := Go.Ground.data }], guard := none }) (v := .int .i64 (b : Int)) rfl (by kernel_rfl) (by kernel_rfl) (by kernel_rfl) (fun _ _ _ h => h) (Or.inl ⟨by rfl, fun w zz => by go_simp⟩) (by assumption) ?_
  try simp only [Act.put, List.setIfInBounds_toArray, List.set_cons_zero, List.set_cons_succ]
  refine wpAnyH_take (i := 7) (oi := { dst := some 91, op := Go.Op.slice 26 (Go.Operand.tmp 87) (some (Go.Operand.tmp 90)) none none, type := 26, pos := "ref.go:123", after := #[{ on := 3, ground := Go.Ground.data }, { on := 6, ground := Go.Ground.data }], guard := none }) (v := .slice ak (N.ks.length - b) (r.ck - b)) rfl (by kernel_rfl) (by kernel_rfl) (by kernel_rfl) (fun _ _ _ h => h) (Or.inl ⟨by rfl, fun w zz => by (have := hlK w; go_simp)⟩) (by assumption) ?_
  try simp only [Act.put, List.setIfInBounds_toArray, List.set_cons_zero, List.set_cons_succ]
  obtain ⟨k0, k1, k2⟩ := bD3.box
  refine wpAnyH_ready (rs := [1]) (by kernel_rfl) (by simp) ?_
  refine AllReadyH.cons (o := { dst := some 85, op := Go.Op.load 26 (Go.Operand.tmp 84), type := 26, pos := "ref.go:123", after := #[{ on := 0, ground := Go.Ground.data }], guard := none }) rfl (fun K hK => ?_) AllReadyH.nil
  go_simp
  refine hK.out _ _ (HC.out _ bD3.fr).2.2.2 (fun hHeld => ?_)
  clear hK K
  try simp only [Act.put, List.setIfInBounds_toArray, List.set_cons_zero, List.set_cons_succ]
  refine wpAnyH_ready (rs := [8]) (by kernel_rfl) (by simp) ?_
  refine AllReadyH.cons (o := { dst := some 92, op := Go.Op.call { callee := Go.Callee.builtin Go.Builtin.append, args := #[Go.Operand.tmp 85, Go.Operand.tmp 91], argTypes := #[26, 26] }, type := 26, pos := "ref.go:123", after := #[{ on := 1, ground := Go.Ground.data }, { on := 7, ground := Go.Ground.data }], guard := none }) rfl (fun K hK => ?_) AllReadyH.nil
  refine step_partKids _ rfl _ _ rfl (by rfl) bD3.oK (x := ⟨ak, N.ks.length - b, r.ck - b, (kcellsL N.ks).drop (b * 33)⟩) (by rfl) (HP3.out _ bD3.fr) (by have := HZ.out; simp only; omega) bD3.hW ?_
  intro ao3 cc3 Y3 o3 g3
  have vY3 : Same V Y3 := Fr.grown bD3.fr g3 (fun k hk hl => by have := bD3.oK.lt k hk; have := bD3.hB; omega)
  refine hK.out _ _ (HC.out _ vY3).2.2.2 (fun hHeld => ?_)
  clear hK K
  try simp only [Act.put, List.setIfInBounds_toArray, List.set_cons_zero, List.set_cons_succ]
  refine wpAnyH_take (i := 9) (oi := { dst := some 93, op := Go.Op.fieldAddr 28 (Go.Operand.tmp 14) 2, type := 0, pos := "ref.go:123", after := #[{ on := 0, ground := Go.Ground.phase }, { on := 1, ground := Go.Ground.phase }, { on := 2, ground := Go.Ground.phase }, { on := 3, ground := Go.Ground.phase }, { on := 4, ground := Go.Ground.phase }, { on := 5, ground := Go.Ground.phase }, { on := 6, ground := Go.Ground.phase }, { on := 7, ground := Go.Ground.phase }, { on := 8, ground := Go.Ground.phase }], guard := none }) (v := .pointer (some ⟨nb, 2, none⟩)) rfl (by kernel_rfl) (by kernel_rfl) (by kernel_rfl) (fun _ _ _ h => h) (Or.inl ⟨by rfl, fun w zz => by go_simp⟩) (by assumption) ?_
  try simp only [Act.put, List.setIfInBounds_toArray, List.set_cons_zero, List.set_cons_succ]
  obtain ⟨b3, kx, fz⟩ := bD3.growK o3 g3
  refine wpAnyH_ready (rs := [10]) (by kernel_rfl) (by simp) ?_
  refine AllReadyH.cons (o := { dst := none, op := Go.Op.store 26 (Go.Operand.tmp 93) (Go.Operand.tmp 92), type := 0, pos := "ref.go:123", after := #[{ on := 9, ground := Go.Ground.data }, { on := 8, ground := Go.Ground.data }, { on := 8, ground := Go.Ground.chain }, { on := 0, ground := Go.Ground.phase }, { on := 1, ground := Go.Ground.phase }, { on := 2, ground := Go.Ground.phase }, { on := 3, ground := Go.Ground.phase }, { on := 4, ground := Go.Ground.phase }, { on := 5, ground := Go.Ground.phase }, { on := 6, ground := Go.Ground.phase }, { on := 7, ground := Go.Ground.phase }, { on := 8, ground := Go.Ground.phase }], guard := none }) rfl (fun K hK => ?_) AllReadyH.nil
  go_simp
  refine hK.out _ _ (HC.out _ b3.fr).2.2.2 (fun hHeld => ?_)
  clear hK K
  refine wpAnyH_done (by kernel_rfl) ?_ _
  generalize Y3.setCell ⟨nb, 2, none⟩ (.slice ao3 (a + K.length + (N.ks.length - b)) cc3) = X3 at *
  clear k0 k1 k2 kx fz g3 o3 vY3 bD3
  go_wp2_with fail
  have bD4 := b3.drew
  refine wp_region_held_drew (S := fun Y => Y.cell? ⟨w.heap.size + 1, 1, none⟩ = some (.slice (some ⟨r.sb, r.so, none⟩) N.ss.length r.cs)) (by kernel_rfl) ((HC.out _ bD4.fr).2.2.1) (fun hHeld => ?_)
  generalize X3.drew = D4 at *
  refine wpAnyH_take (i := 0) (oi := { dst := some 94, op := Go.Op.fieldAddr 28 (Go.Operand.tmp 14) 1, type := 0, pos := "ref.go:124", after := #[], guard := none }) (v := .pointer (some ⟨nb, 1, none⟩)) rfl (by kernel_rfl) (by kernel_rfl) (by kernel_rfl) (fun _ _ _ h => h) (Or.inl ⟨by rfl, fun w zz => by go_simp⟩) (by assumption) ?_
  try simp only [Act.put, List.setIfInBounds_toArray, List.set_cons_zero, List.set_cons_succ]
  refine wpAnyH_take (i := 2) (oi := { dst := some 96, op := Go.Op.fieldAddr 28 (Go.Operand.tmp 7) 1, type := 0, pos := "ref.go:124", after := #[], guard := none }) (v := .pointer (some ⟨w.heap.size + 1, 1, none⟩)) rfl (by kernel_rfl) (by kernel_rfl) (by kernel_rfl) (fun _ _ _ h => h) (Or.inl ⟨by rfl, fun w zz => by go_simp⟩) (by assumption) ?_
  try simp only [Act.put, List.setIfInBounds_toArray, List.set_cons_zero, List.set_cons_succ]
  refine wpAnyH_take (i := 3) (oi := { dst := some 97, op := Go.Op.load 25 (Go.Operand.tmp 96), type := 25, pos := "ref.go:124", after := #[{ on := 2, ground := Go.Ground.data }], guard := none }) (v := .slice (some ⟨r.sb, r.so, none⟩) N.ss.length r.cs) rfl (by kernel_rfl) (by kernel_rfl) (by kernel_rfl) (fun _ _ _ h => h) (Or.inl ⟨by rfl, fun w zz => by go_simp⟩) (by assumption) ?_
  try simp only [Act.put, List.setIfInBounds_toArray, List.set_cons_zero, List.set_cons_succ]
  refine wpAnyH_take (i := 4) (oi := { dst := some 98, op := Go.Op.move (Go.Operand.tmp 2), type := 3, pos := "ref.go:124", after := #[], guard := none }) (v := .int .i64 (a : Int)) rfl (by kernel_rfl) (by kernel_rfl) (by kernel_rfl) (fun _ _ _ h => h) (Or.inl ⟨by rfl, fun w zz => by go_simp⟩) (by assumption) ?_
  try simp only [Act.put, List.setIfInBounds_toArray, List.set_cons_zero, List.set_cons_succ]
  refine wpAnyH_take (i := 5) (oi := { dst := some 99, op := Go.Op.slice 25 (Go.Operand.tmp 97) none (some (Go.Operand.tmp 98)) none, type := 25, pos := "ref.go:124", after := #[{ on := 3, ground := Go.Ground.data }, { on := 4, ground := Go.Ground.data }], guard := none }) (v := .slice (some ⟨r.sb, r.so, none⟩) a r.cs) rfl (by kernel_rfl) (by kernel_rfl) (by kernel_rfl) (fun _ _ _ h => h) (Or.inl ⟨by rfl, fun w zz => by (have := hhS w; go_simp)⟩) (by assumption) ?_
  try simp only [Act.put, List.setIfInBounds_toArray, List.set_cons_zero, List.set_cons_succ]
  obtain ⟨k0, k1, k2⟩ := bD4.box
  refine wpAnyH_ready (rs := [1]) (by kernel_rfl) (by simp) ?_
  refine AllReadyH.cons (o := { dst := some 95, op := Go.Op.load 25 (Go.Operand.tmp 94), type := 25, pos := "ref.go:124", after := #[{ on := 0, ground := Go.Ground.data }], guard := none }) rfl (fun K hK => ?_) AllReadyH.nil
  go_simp
  refine hK.out _ _ (HC.out _ bD4.fr).2.2.1 (fun hHeld => ?_)
  clear hK K
  try simp only [Act.put, List.setIfInBounds_toArray, List.set_cons_zero, List.set_cons_succ]
  refine wpAnyH_ready (rs := [6]) (by kernel_rfl) (by simp) ?_
  refine AllReadyH.cons (o := { dst := some 100, op := Go.Op.call { callee := Go.Callee.builtin Go.Builtin.append, args := #[Go.Operand.tmp 95, Go.Operand.tmp 99], argTypes := #[25, 25] }, type := 25, pos := "ref.go:124", after := #[{ on := 1, ground := Go.Ground.data }, { on := 5, ground := Go.Ground.data }], guard := none }) rfl (fun K hK => ?_) AllReadyH.nil
  refine step_partTexts _ rfl _ _ rfl (by rfl) bD4.oS (x := ⟨some ⟨r.sb, r.so, none⟩, a, r.cs, (scells N.ss).take (a * 1)⟩) (by rfl) (HP4.out _ bD4.fr) (by have := HZ.out; simp only; omega) bD4.hW ?_
  try simp only [Nat.zero_add, List.nil_append]
  intro ao4 cc4 Y4 o4 g4
  have vY4 : Same V Y4 := Fr.grown bD4.fr g4 (fun k hk hl => by have := bD4.oS.lt k hk; have := bD4.hB; omega)
  refine hK.out _ _ (HC.out _ vY4).2.2.1 (fun hHeld => ?_)
  clear hK K
  try simp only [Act.put, List.setIfInBounds_toArray, List.set_cons_zero, List.set_cons_succ]
  refine wpAnyH_take (i := 7) (oi := { dst := some 101, op := Go.Op.fieldAddr 28 (Go.Operand.tmp 14) 1, type := 0, pos := "ref.go:124", after := #[{ on := 0, ground := Go.Ground.phase }, { on := 1, ground := Go.Ground.phase }, { on := 2, ground := Go.Ground.phase }, { on := 3, ground := Go.Ground.phase }, { on := 4, ground := Go.Ground.phase }, { on := 5, ground := Go.Ground.phase }, { on := 6, ground := Go.Ground.phase }], guard := none }) (v := .pointer (some ⟨nb, 1, none⟩)) rfl (by kernel_rfl) (by kernel_rfl) (by kernel_rfl) (fun _ _ _ h => h) (Or.inl ⟨by rfl, fun w zz => by go_simp⟩) (by assumption) ?_
  try simp only [Act.put, List.setIfInBounds_toArray, List.set_cons_zero, List.set_cons_succ]
  obtain ⟨b4, kx, fz⟩ := bD4.growS o4 g4
  refine wpAnyH_ready (rs := [8]) (by kernel_rfl) (by simp) ?_
  refine AllReadyH.cons (o := { dst := none, op := Go.Op.store 25 (Go.Operand.tmp 101) (Go.Operand.tmp 100), type := 0, pos := "ref.go:124", after := #[{ on := 7, ground := Go.Ground.data }, { on := 6, ground := Go.Ground.data }, { on := 6, ground := Go.Ground.chain }, { on := 0, ground := Go.Ground.phase }, { on := 1, ground := Go.Ground.phase }, { on := 2, ground := Go.Ground.phase }, { on := 3, ground := Go.Ground.phase }, { on := 4, ground := Go.Ground.phase }, { on := 5, ground := Go.Ground.phase }, { on := 6, ground := Go.Ground.phase }], guard := none }) rfl (fun K hK => ?_) AllReadyH.nil
  go_simp
  refine hK.out _ _ (HC.out _ b4.fr).2.2.1 (fun hHeld => ?_)
  clear hK K
  refine wpAnyH_done (by kernel_rfl) ?_ _
  generalize Y4.setCell ⟨nb, 1, none⟩ (.slice ao4 a cc4) = X4 at *
  clear k0 k1 k2 kx fz g4 o4 vY4 bD4
  obtain ⟨k0, k1, k2⟩ := b4.box
  go_wp2_with (at_builtin; go_must (refine wpList_partTexts _ (by rfl) _ _ (by rfl) (by rfl) b4.oS (x := ⟨r2.sa, S.length, r2.cs, scells S⟩) (by rfl) (HP5.out _ b4.fr) (by have := HZ.out; simp only; omega) b4.hW ?_))
  intro ao5 cc5 Y5 o5 g5
  obtain ⟨b5, kx, fz⟩ := b4.growS o5 g5
  clear k0 k1 k2
  obtain ⟨k0, k1, k2⟩ := b5.box
  go_wp2_with fail
  generalize Y5.setCell ⟨nb, 1, none⟩ (.slice ao5 (a + S.length) cc5) = X5 at *
  clear k0 k1 k2 kx fz g5 o5
  have bD6 := b5.drew
  refine wp_region_held_drew (S := fun Y => Y.cell? ⟨w.heap.size + 1, 1, none⟩ = some (.slice (some ⟨r.sb, r.so, none⟩) N.ss.length r.cs)) (by kernel_rfl) ((HC.out _ bD6.fr).2.2.1) (fun hHeld => ?_)
  generalize X5.drew = D6 at *
  refine wpAnyH_take (i := 0) (oi := { dst := some 107, op := Go.Op.fieldAddr 28 (Go.Operand.tmp 14) 1, type := 0, pos := "ref.go:126", after := #[], guard := none }) (v := .pointer (some ⟨nb, 1, none⟩)) rfl (by kernel_rfl) (by kernel_rfl) (by kernel_rfl) (fun _ _ _ h => h) (Or.inl ⟨by rfl, fun w zz => by go_simp⟩) (by assumption) ?_
  try simp only [Act.put, List.setIfInBounds_toArray, List.set_cons_zero, List.set_cons_succ]
  refine wpAnyH_take (i := 2) (oi := { dst := some 109, op := Go.Op.fieldAddr 28 (Go.Operand.tmp 7) 1, type := 0, pos := "ref.go:126", after := #[], guard := none }) (v := .pointer (some ⟨w.heap.size + 1, 1, none⟩)) rfl (by kernel_rfl) (by kernel_rfl) (by kernel_rfl) (fun _ _ _ h => h) (Or.inl ⟨by rfl, fun w zz => by go_simp⟩) (by assumption) ?_
  try simp only [Act.put, List.setIfInBounds_toArray, List.set_cons_zero, List.set_cons_succ]
  refine wpAnyH_take (i := 3) (oi := { dst := some 110, op := Go.Op.load 25 (Go.Operand.tmp 109), type := 25, pos := "ref.go:126", after := #[{ on := 2, ground := Go.Ground.data }], guard := none }) (v := .slice (some ⟨r.sb, r.so, none⟩) N.ss.length r.cs) rfl (by kernel_rfl) (by kernel_rfl) (by kernel_rfl) (fun _ _ _ h => h) (Or.inl ⟨by rfl, fun w zz => by go_simp⟩) (by assumption) ?_
  try simp only [Act.put, List.setIfInBounds_toArray, List.set_cons_zero, List.set_cons_succ]
  refine wpAnyH_take (i := 4) (oi := { dst := some 111, op := Go.Op.move (Go.Operand.tmp 2), type := 3, pos := "ref.go:126", after := #[], guard := none }) (v := .int .i64 (a : Int)) rfl (by kernel_rfl) (by kernel_rfl) (by kernel_rfl) (fun _ _ _ h => h) (Or.inl ⟨by rfl, fun w zz => by go_simp⟩) (by assumption) ?_
  try simp only [Act.put, List.setIfInBounds_toArray, List.set_cons_zero, List.set_cons_succ]
  refine wpAnyH_take (i := 5) (oi := { dst := some 112, op := Go.Op.move (Go.Operand.tmp 3), type := 3, pos := "ref.go:126", after := #[], guard := none }) (v := .int .i64 (m : Int)) rfl (by kernel_rfl) (by kernel_rfl) (by kernel_rfl) (fun _ _ _ h => h) (Or.inl ⟨by rfl, fun w zz => by go_simp⟩) (by assumption) ?_
  try simp only [Act.put, List.setIfInBounds_toArray, List.set_cons_zero, List.set_cons_succ]
  refine wpAnyH_take (i := 6) (oi := { dst := some 113, op := Go.Op.binOp Go.BinOp.add 3 (Go.Operand.tmp 111) (Go.Operand.tmp 112) 3, type := 3, pos := "ref.go:126", after := #[{ on := 4, ground := Go.Ground.data }, { on := 5, ground := Go.Ground.data }], guard := none }) (v := .int .i64 (b : Int)) rfl (by kernel_rfl) (by kernel_rfl) (by kernel_rfl) (fun _ _ _ h => h) (Or.inl ⟨by rfl, fun w zz => by go_simp⟩) (by assumption) ?_
  try simp only [Act.put, List.setIfInBounds_toArray, List.set_cons_zero, List.set_cons_succ]
  refine wpAnyH_take (i := 7) (oi := { dst := some 114, op := Go.Op.binOp Go.BinOp.sub 3 (Go.Operand.tmp 113) (Go.Operand.const (Go.Value.int Go.IntKind.i64 1)) 3, type := 3, pos := "ref.go:126", after := #[{ on := 6, ground := Go.Ground.data }], guard := none }) (v := .int .i64 (c : Int)) rfl (by kernel_rfl) (by kernel_rfl) (by kernel_rfl) (fun _ _ _ h => h) (Or.inl ⟨by rfl, fun w zz => by go_simp⟩) (by assumption) ?_
  try simp only [Act.put, List.setIfInBounds_toArray, List.set_cons_zero, List.set_cons_succ]
  refine wpAnyH_take (i := 8) (oi := { dst := some 115, op := Go.Op.slice 25 (Go.Operand.tmp 110) (some (Go.Operand.tmp 114)) none none, type := 25, pos := "ref.go:126", after := #[{ on := 3, ground := Go.Ground.data }, { on := 7, ground := Go.Ground.data }], guard := none }) (v := .slice ax (N.ss.length - c) (r.cs - c)) rfl (by kernel_rfl) (by kernel_rfl) (by kernel_rfl) (fun _ _ _ h => h) (Or.inl ⟨by rfl, fun w zz => by (have := hlS w; go_simp)⟩) (by assumption) ?_
  try simp only [Act.put, List.setIfInBounds_toArray, List.set_cons_zero, List.set_cons_succ]
  obtain ⟨k0, k1, k2⟩ := bD6.box
  refine wpAnyH_ready (rs := [1]) (by kernel_rfl) (by simp) ?_
  refine AllReadyH.cons (o := { dst := some 108, op := Go.Op.load 25 (Go.Operand.tmp 107), type := 25, pos := "ref.go:126", after := #[{ on := 0, ground := Go.Ground.data }], guard := none }) rfl (fun K hK => ?_) AllReadyH.nil
  go_simp
  refine hK.out _ _ (HC.out _ bD6.fr).2.2.1 (fun hHeld => ?_)
  clear hK K
  try simp only [Act.put, List.setIfInBounds_toArray, List.set_cons_zero, List.set_cons_succ]
  refine wpAnyH_ready (rs := [9]) (by kernel_rfl) (by simp) ?_
  refine AllReadyH.cons (o := { dst := some 116, op := Go.Op.call { callee := Go.Callee.builtin Go.Builtin.append, args := #[Go.Operand.tmp 108, Go.Operand.tmp 115], argTypes := #[25, 25] }, type := 25, pos := "ref.go:126", after := #[{ on := 1, ground := Go.Ground.data }, { on := 8, ground := Go.Ground.data }], guard := none }) rfl (fun K hK => ?_) AllReadyH.nil
  refine step_partTexts _ rfl _ _ rfl (by rfl) bD6.oS (x := ⟨ax, N.ss.length - c, r.cs - c, (scells N.ss).drop (c * 1)⟩) (by rfl) (HP6.out _ bD6.fr) (by have := HZ.out; simp only; omega) bD6.hW ?_
  intro ao6 cc6 Y6 o6 g6
  have vY6 : Same V Y6 := Fr.grown bD6.fr g6 (fun k hk hl => by have := bD6.oS.lt k hk; have := bD6.hB; omega)
  refine hK.out _ _ (HC.out _ vY6).2.2.1 (fun hHeld => ?_)
  clear hK K
  try simp only [Act.put, List.setIfInBounds_toArray, List.set_cons_zero, List.set_cons_succ]
  refine wpAnyH_take (i := 10) (oi := { dst := some 117, op := Go.Op.fieldAddr 28 (Go.Operand.tmp 14) 1, type := 0, pos := "ref.go:126", after := #[{ on := 0, ground := Go.Ground.phase }, { on := 1, ground := Go.Ground.phase }, { on := 2, ground := Go.Ground.phase }, { on := 3, ground := Go.Ground.phase }, { on := 4, ground := Go.Ground.phase }, { on := 5, ground := Go.Ground.phase }, { on := 6, ground := Go.Ground.phase }, { on := 7, ground := Go.Ground.phase }, { on := 8, ground := Go.Ground.phase }, { on := 9, ground := Go.Ground.phase }], guard := none }) (v := .pointer (some ⟨nb, 1, none⟩)) rfl (by kernel_rfl) (by kernel_rfl) (by kernel_rfl) (fun _ _ _ h => h) (Or.inl ⟨by rfl, fun w zz => by go_simp⟩) (by assumption) ?_
  try simp only [Act.put, List.setIfInBounds_toArray, List.set_cons_zero, List.set_cons_succ]
  obtain ⟨b6, kx, fz⟩ := bD6.growS o6 g6
  refine wpAnyH_ready (rs := [11]) (by kernel_rfl) (by simp) ?_
  refine AllReadyH.cons (o := { dst := none, op := Go.Op.store 25 (Go.Operand.tmp 117) (Go.Operand.tmp 116), type := 0, pos := "ref.go:126", after := #[{ on := 10, ground := Go.Ground.data }, { on := 9, ground := Go.Ground.data }, { on := 9, ground := Go.Ground.chain }, { on := 0, ground := Go.Ground.phase }, { on := 1, ground := Go.Ground.phase }, { on := 2, ground := Go.Ground.phase }, { on := 3, ground := Go.Ground.phase }, { on := 4, ground := Go.Ground.phase }, { on := 5, ground := Go.Ground.phase }, { on := 6, ground := Go.Ground.phase }, { on := 7, ground := Go.Ground.phase }, { on := 8, ground := Go.Ground.phase }, { on := 9, ground := Go.Ground.phase }], guard := none }) rfl (fun K hK => ?_) AllReadyH.nil
  go_simp
  refine hK.out _ _ (HC.out _ b6.fr).2.2.1 (fun hHeld => ?_)
  clear hK K
  refine wpAnyH_done (by kernel_rfl) ?_ _
  generalize Y6.setCell ⟨nb, 1, none⟩ (.slice ao6 (a + S.length + (N.ss.length - c)) cc6) = X6 at *
  clear k0 k1 k2 kx fz g6 o6 vY6 bD6
  have hz := HZ.out
  have hvz := HVZ.out
  have u1 : ((N.ks.take a ++ K) ++ N.ks.drop b).length = a + K.length + (N.ks.length - b) := by simp only [List.length_append, List.length_take, List.length_drop]; omega
  have u2 : ((N.ss.take a ++ S) ++ N.ss.drop c).length = a + S.length + (N.ss.length - c) := by simp only [List.length_append, List.length_take, List.length_drop]; omega
  have e1 : kcellsL ((N.ks.take a ++ K) ++ N.ks.drop b) = ((kcellsL N.ks).take (a * 33) ++ kcellsL K) ++ (kcellsL N.ks).drop (b * 33) := by rw [kcellsL_app, kcellsL_app, kcellsL_takeK _ _ HOK.out, kcellsL_dropK _ _ HOK.out]
  have e2 : scells ((N.ss.take a ++ S) ++ N.ss.drop c) = ((scells N.ss).take (a * 1) ++ scells S) ++ (scells N.ss).drop (c * 1) := by rw [scells_app, scells_app, scells_takeK, scells_dropK]
  have HMD : Hid (∀ W, Same X6 W → MadeNd W w.heap.size ⟨none, 0, 0, 0, ao6, 0, 0, cc6, ao3, 0, 0, cc3⟩ ⟨[], (N.ss.take a ++ S) ++ N.ss.drop c, (N.ks.take a ++ K) ++ N.ks.drop b⟩) := fun W s => ⟨own_nil, by show World.ownsRow _ _ _ _ (.slice ao6 ((N.ss.take a ++ S) ++ N.ss.drop c).length cc6) ((N.ss.take a ++ S) ++ N.ss.drop c).length _; rw [u2, e2]; have bs := (b6.same s).oS; simp only [Nat.mul_one] at bs ⊢; exact own_base bs (by omega), by show World.ownsRow _ _ _ _ (.slice ao3 ((N.ks.take a ++ K) ++ N.ks.drop b).length cc3) ((N.ks.take a ++ K) ++ N.ks.drop b).length _; rw [u1, e1]; have bs := (b6.same s).oK; exact own_base bs (by omega)⟩
  have HU : Hid (((N.ks.take a ++ K) ++ N.ks.drop b).length = a + K.length + (N.ks.length - b) ∧ ((N.ss.take a ++ S) ++ N.ss.drop c).length = a + S.length + (N.ss.length - c)) := ⟨u1, u2⟩
  have HCk2 : Hid (∀ W, Same X6 W → Calls Try.prog 21 #[frameV p q, .agg #[.slice none 0 0, .slice ao6 (a + S.length + (N.ss.length - c)) cc6, .slice ao3 (a + K.length + (N.ks.length - b)) cc3]] W fun e w' => e = .returned (.int .i64 C) ∧ Same W w') := fun W s => by
    have := HCk.out W _ _ (HMD.out W s)
    unfold ndV nodeV at this
    simp only at this
    rw [u1, u2] at this
    exact this
  clear u1 u2 e1 e2 hz
  generalize a + S.length + (N.ss.length - c) = NS at *
  generalize a + K.length + (N.ks.length - b) = NK at *
  obtain ⟨⟨a0, a1⟩, n0, n1, n2⟩ := HC.out _ b6.fr
  obtain ⟨k0, k1, k2⟩ := b6.box
  go_wp2_with fail
  refine (HCk2.out _ (Fr.refl _ _)).mono ?_
  rintro e W9 ⟨rfl, s9⟩
  have b9 := b6.same s9
  clear k0 k1 k2 a0 a1 n0 n1 n2
  obtain ⟨k0, k1, k2⟩ := b9.box
  have r6 := HG.out _ b9.fr
  go_wp2_with (refine wpList_store_whole (by rfl) 28 _ _ (by rfl) (w.heap.size + 1 + 1) #[.slice none 0 0, .slice none 0 0, .slice none 0 0] _ 28 (by rfl) (by rfl) r6 rfl (by kernel_rfl) (by kernel_rfl) ?_; intro W7 r7 f7)
  exact bodyPost_ret (results_row_tmp (p := 12) (u := 13) (ty := 28) (by kernel_rfl) _ _ (w.heap.size + 1 + 1) 28 _ (0, 0) _ rfl r7 Try.underlying28 rfl (by kernel_rfl)) rfl ⟨rfl, Fr.trans (t1.trans b9.fr) f7 (fun i hi e => by omega)⟩
end Go.Proofs.Yteddbkbfnafbpaa
