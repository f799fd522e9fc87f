/- halved of a branch, whole; Split of a branch; Split refused. -/
import Derived.Test.YteddbkbfnafbpaaVC
import Derived.Test.YteddbkbfnafbpaaKH
import Derived.Test.YteddbkbfnafbpaaKV
namespace Go.Proofs.Yteddbkbfnafbpaa
open Go.RowKit

theorem flat_takeK {α : Type} (f : α → List Value) (sz : Nat) : ∀ (l : List α) (k : Nat), (∀ x ∈ l, (f x).length = sz) → (l.flatMap f).take (k * sz) = (l.take k).flatMap f
  | _, 0, _ => by rw [Nat.zero_mul, List.take_zero, List.take_zero]; rfl
  | [], k + 1, _ => by simp
  | x :: l, k + 1, h => by
    have h1 := h x List.mem_cons_self
    rw [List.flatMap_cons, List.take_succ_cons, List.flatMap_cons, ← flat_takeK f sz l k (fun y hy => h y (List.mem_cons_of_mem _ hy)), List.take_append, h1, List.take_of_length_le (by rw [h1, Nat.add_mul]; omega), Nat.add_mul, Nat.one_mul, Nat.add_sub_cancel]
theorem flat_dropK {α : Type} (f : α → List Value) (sz : Nat) : ∀ (l : List α) (k : Nat), (∀ x ∈ l, (f x).length = sz) → (l.flatMap f).drop (k * sz) = (l.drop k).flatMap f
  | _, 0, _ => by rw [Nat.zero_mul, List.drop_zero, List.drop_zero]
  | [], k + 1, _ => by simp
  | x :: l, k + 1, h => by
    have h1 := h x List.mem_cons_self
    rw [List.flatMap_cons, List.drop_succ_cons, ← flat_dropK f sz l k (fun y hy => h y (List.mem_cons_of_mem _ hy)), List.drop_append, h1, List.drop_eq_nil_of_le (by rw [h1, Nat.add_mul]; omega), List.nil_append, Nat.add_mul, Nat.one_mul, Nat.add_sub_cancel]
theorem kcellsL_takeK (l : List Kid) (k : Nat) (h : ∀ x ∈ l, KidOk x) : (kcellsL l).take (k * 33) = kcellsL (l.take k) := flat_takeK kcells 33 l k (fun x hx => kcells_length (h x hx).d)
theorem kcellsL_dropK (l : List Kid) (k : Nat) (h : ∀ x ∈ l, KidOk x) : (kcellsL l).drop (k * 33) = kcellsL (l.drop k) := flat_dropK kcells 33 l k (fun x hx => kcells_length (h x hx).d)
theorem scells_takeK (l : List ByteArray) (k : Nat) : (scells l).take (k * 1) = scells (l.take k) := by rw [Nat.mul_one, scells, scells, List.map_take]
theorem scells_dropK (l : List ByteArray) (k : Nat) : (scells l).drop (k * 1) = scells (l.drop k) := by rw [Nat.mul_one, scells, scells, List.map_drop]
/-- What Split asks of where a node lies. -/
structure NdRoom (r : Nr) (N : Nd) : Prop where
  cp : N.ps.length ≤ r.cp
  cs : N.ss.length ≤ r.cs
  ck : N.ks.length ≤ r.ck
  p0 : r.pa = none → r.cp = 0
  s0 : r.sa = none → r.cs = 0
  k0 : r.ka = none → r.ck = 0
  p3 : ∀ a, r.pa = some a → ∃ b o, a = ⟨b, o, none⟩
  s3 : ∀ a, r.sa = some a → ∃ b o, a = ⟨b, o, none⟩
  k3 : ∀ a, r.ka = some a → ∃ b o, a = ⟨b, o, none⟩
theorem halvedB_good {r : Nr} {N : Nd} {m : Nat} {sp : ByteArray} (w : World) (h : NdAt w r N) (hr : NdRoom r N) (hx : N.ss[m]? = some sp) (hk : m + 1 ≤ N.ks.length) (h2 : N.ss.length ≤ 1048576) (h3 : N.ks.length ≤ 1048576) :
    Calls Try.prog 42 #[ndV r N, .int .i64 ((m + 1 : Nat) : Int)] w fun e w' => ∃ ao1 c1 ao2 c2 ao3 c3 ao4 c4, e = .returned (.agg #[.slice none 0 0, .slice ao1 m c1, .slice ao2 (m + 1) c2, .string sp, .slice none 0 0, .slice ao3 (N.ss.length - (m + 1)) c3, .slice ao4 (N.ks.length - (m + 1)) c4]) ∧ w'.ownsRow w.heap.size 9 1 (.slice ao1 m c1) m (scells (N.ss.take m)) ∧ w'.ownsRow w.heap.size 46 33 (.slice ao2 (m + 1) c2) (m + 1) (kcellsL (N.ks.take (m + 1))) ∧ w'.ownsRow w.heap.size 9 1 (.slice ao3 (N.ss.length - (m + 1)) c3) (N.ss.length - (m + 1)) (scells (N.ss.drop (m + 1))) ∧ w'.ownsRow w.heap.size 46 33 (.slice ao4 (N.ks.length - (m + 1)) c4) (N.ks.length - (m + 1)) (kcellsL (N.ks.drop (m + 1))) ∧ Same w w' := by
  have hl : m < N.ss.length := (List.getElem?_eq_some_iff.1 hx).1
  refine halved_branch w h.hs (by omega) hx h2 (fun W s => ?_) (fun W s => ?_) (fun W s => ?_) (fun W s => ?_)
  · have := firstTexts (m := m) W (trow_part (h.hs.same s) hr.s0) hr.s3 (by omega) hr.cs h2
    rw [scells_takeK] at this
    exact this
  · have := firstKids (m := m + 1) W (krow_part h.ok (h.hk.same s) hr.k0) hr.k3 (by omega) hr.ck h3
    rw [kcellsL_takeK _ _ h.ok] at this
    exact this
  · have := withoutTexts (i := 0) (m := m + 1) W (trow_part (h.hs.same s) hr.s0) hr.s3 (by omega) hr.cs h2
    rw [Nat.zero_mul, List.take_zero, List.nil_append, Nat.zero_add, scells_dropK] at this
    exact this
  · have := withoutKids (i := 0) (m := m + 1) W (krow_part h.ok (h.hk.same s) hr.k0) hr.k3 (by omega) hr.ck h3
    rw [Nat.zero_mul, List.take_zero, List.nil_append, Nat.zero_add, kcellsL_dropK _ _ h.ok] at this
    exact this
def halvesB (ao1 ao2 ao3 ao4 : Option Addr) (n1 c1 n2 c2 n3 c3 n4 c4 : Nat) (sp : ByteArray) : Array Value := #[.slice none 0 0, .slice ao1 n1 c1, .slice ao2 n2 c2, .string sp, .slice none 0 0, .slice ao3 n3 c3, .slice ao4 n4 c4]
set_option maxRecDepth 100000 in
set_option maxHeartbeats 1000000 in
theorem split_branch {r : Nr} {N : Nd} {p q : Int} {m n3 n4 : Nat} {sp : ByteArray} {l1 l2 l3 l4 : List Value} (w : World)
    (HC : Hid (∀ W, Same w W → Calls Try.prog 18 #[frameV p q, nodeV r.pa N.ps.length r.cp r.sa N.ss.length r.cs r.ka N.ks.length r.ck] W fun e w' => e = .returned (.int .i64 0) ∧ Same W w'))
    (HA : Hid (∀ W, Calls Try.prog 12 #[frameV p q, .bool true] W fun e w' => e = .returned (.int .i64 0) ∧ Same W w'))
    (HB : Hid (∀ W, Same w W → Calls Try.prog 41 #[frameV p q, nodeV r.pa N.ps.length r.cp r.sa N.ss.length r.cs r.ka N.ks.length r.ck] W fun e w' => e = .returned (.int .i64 ((m + 1 : Nat) : Int)) ∧ Same W w'))
    (HH : Hid (∀ W, Same w W → Calls Try.prog 42 #[nodeV r.pa N.ps.length r.cp r.sa N.ss.length r.cs r.ka N.ks.length r.ck, .int .i64 ((m + 1 : Nat) : Int)] W fun e w' => ∃ ao1 c1 ao2 c2 ao3 c3 ao4 c4, e = .returned (.agg (halvesB ao1 ao2 ao3 ao4 m c1 (m + 1) c2 n3 c3 n4 c4 sp)) ∧ w'.ownsRow W.heap.size 9 1 (.slice ao1 m c1) m l1 ∧ w'.ownsRow W.heap.size 46 33 (.slice ao2 (m + 1) c2) (m + 1) l2 ∧ w'.ownsRow W.heap.size 9 1 (.slice ao3 n3 c3) n3 l3 ∧ w'.ownsRow W.heap.size 46 33 (.slice ao4 n4 c4) n4 l4 ∧ Same W w')) :
    Calls Try.prog 26 #[frameV p q, ndV r N] w fun e w' => ∃ ao1 c1 ao2 c2 ao3 c3 ao4 c4, e = .returned (.tuple #[.agg (halvesB ao1 ao2 ao3 ao4 m c1 (m + 1) c2 n3 c3 n4 c4 sp), .int .i64 0]) ∧ w'.ownsRow w.heap.size 9 1 (.slice ao1 m c1) m l1 ∧ w'.ownsRow w.heap.size 46 33 (.slice ao2 (m + 1) c2) (m + 1) l2 ∧ w'.ownsRow w.heap.size 9 1 (.slice ao3 n3 c3) n3 l3 ∧ w'.ownsRow w.heap.size 46 33 (.slice ao4 n4 c4) n4 l4 ∧ Same w w' := by
  obtain ⟨V, hV⟩ : ∃ V, V = ((w.alloc (.cells #[.int .i64 p, .int .i64 q] 23)).alloc (.cells #[.slice r.pa N.ps.length r.cp, .slice r.sa N.ss.length r.cs, .slice r.ka N.ks.length r.ck] 28)).alloc (.cells #[.slice none 0 0, .slice none 0 0, .slice none 0 0, .string ⟨#[]⟩, .slice none 0 0, .slice none 0 0, .slice none 0 0] 60) := ⟨_, rfl⟩
  have s0 : Same w V := by rw [hV]; exact (((Fr.refl _ w).alloc _).alloc _).alloc _
  obtain ⟨g0, g1, g2⟩ := three_boxes w (.cells #[.int .i64 p, .int .i64 q] 23) (.cells #[.slice r.pa N.ps.length r.cp, .slice r.sa N.ss.length r.cs, .slice r.ka N.ks.length r.ck] 28) (.cells #[.slice none 0 0, .slice none 0 0, .slice none 0 0, .string ⟨#[]⟩, .slice none 0 0, .slice none 0 0, .slice none 0 0] 60)
  rw [← hV] at g0 g1 g2
  have a0 : V.cell? ⟨w.heap.size, 0, none⟩ = some (.int .i64 p) := by rw [cell_of_row _ _ _ _ _ _ g0]; rfl
  have a1 : V.cell? ⟨w.heap.size, 1, none⟩ = some (.int .i64 q) := by rw [cell_of_row _ _ _ _ _ _ g0]; rfl
  have a2 : V.cell? ⟨w.heap.size + 1, 0, none⟩ = some (.slice r.pa N.ps.length r.cp) := by rw [cell_of_row _ _ _ _ _ _ g1]; rfl
  have a3 : V.cell? ⟨w.heap.size + 1, 1, none⟩ = some (.slice r.sa N.ss.length r.cs) := by rw [cell_of_row _ _ _ _ _ _ g1]; rfl
  have a4 : V.cell? ⟨w.heap.size + 1, 2, none⟩ = some (.slice r.ka N.ks.length r.ck) := by rw [cell_of_row _ _ _ _ _ _ g1]; rfl
  have HZ : Hid (w.heap.size + 3 ≤ V.heap.size) := by show _ ≤ _; rw [hV]; simp
  have HS : Hid (∀ W, Same V W → W.cell? ⟨w.heap.size, 0, none⟩ = some (.int .i64 p) ∧ W.cell? ⟨w.heap.size, 1, none⟩ = some (.int .i64 q) ∧ W.cell? ⟨w.heap.size + 1, 0, none⟩ = some (.slice r.pa N.ps.length r.cp) ∧ W.cell? ⟨w.heap.size + 1, 1, none⟩ = some (.slice r.sa N.ss.length r.cs) ∧ W.cell? ⟨w.heap.size + 1, 2, none⟩ = some (.slice r.ka N.ks.length r.ck)) := fun W s => ⟨s.keep a0, s.keep a1, s.keep a2, s.keep a3, s.keep a4⟩
  have HG : Hid (∀ W, Same V W → W.heap[w.heap.size + 1 + 1]? = some (.cells #[.slice none 0 0, .slice none 0 0, .slice none 0 0, .string ⟨#[]⟩, .slice none 0 0, .slice none 0 0, .slice none 0 0] 60 (0, 0))) := fun W s => (s.block _ (lt_of_heap g2) (fun e => e)).trans g2
  clear a0 a1 a2 a3 a4 g0 g1 g2
  obtain ⟨n, hn⟩ : ∃ n, n = m + 1 := ⟨_, rfl⟩
  rw [← hn] at HB HH ⊢
  have hne : ¬ (n : Int) = 0 := by omega
  clear hn
  go_enter Try.func26, Try.ntmps26
  go_wp2_with fail
  rw [← hV]
  clear hV
  have d0 : Same V V.drew := Fr.drew (Fr.refl _ V)
  go_region_held3 (fun W => W.cell? ⟨w.heap.size, 0, none⟩ = some (.int .i64 p) ∧ W.cell? ⟨w.heap.size, 1, none⟩ = some (.int .i64 q) ∧ W.cell? ⟨w.heap.size + 1, 0, none⟩ = some (.slice r.pa N.ps.length r.cp) ∧ W.cell? ⟨w.heap.size + 1, 1, none⟩ = some (.slice r.sa N.ss.length r.cs) ∧ W.cell? ⟨w.heap.size + 1, 2, none⟩ = some (.slice r.ka N.ks.length r.ck)) (first | exact HS.out _ u2 | exact HS.out _ u1 | exact HS.out _ d0)
    (first | (go_at_call 18; refine (HC.out _ (s0.trans d0)).mono ?_; rintro e Z1 ⟨rfl, q1⟩; have u1 := Same.trans d0 q1; clear q1) | (go_at_call 12; refine (HA.out _).mono ?_; rintro e Z2 ⟨rfl, q2⟩; have u2 := Same.trans u1 q2; clear q2))
  obtain ⟨a0, a1, a2, a3, a4⟩ := HS.out _ u2
  go_wp2_with fail
  refine (HB.out _ (s0.trans u2)).mono ?_
  rintro e Z3 ⟨rfl, q3⟩
  have u3 := Same.trans u2 q3
  obtain ⟨a0, a1, a2, a3, a4⟩ := HS.out _ u3
  go_wp2_with fail
  refine (HH.out _ (s0.trans u3)).mono ?_
  rintro e Z4 ⟨ao1, c1, ao2, c2, ao3, c3, ao4, c4, rfl, own1, own2, own3, own4, q4⟩
  have u4 := Same.trans u3 q4
  have r6 := HG.out _ u4
  go_wp2_with (refine wpList_store_whole (by rfl) 60 _ _ (by rfl) (w.heap.size + 1 + 1) (halvesB ao1 ao2 ao3 ao4 m c1 n c2 n3 c3 n4 c4 sp) _ 60 (by rfl) (by rfl) r6 rfl (by kernel_rfl) (by kernel_rfl) ?_; intro W7 r7 f7)
  have hz := HZ.out
  have z3 := u3.size
  exact bodyPost_ret (results_row_tmp (p := 4) (u := 5) (ty := 60) (by kernel_rfl) _ _ (w.heap.size + 1 + 1) 60 _ (0, 0) _ rfl r7 Try.underlying60 rfl (by kernel_rfl)) rfl ⟨ao1, c1, ao2, c2, ao3, c3, ao4, c4, rfl, own_base (own_far own1 f7 (by omega)) (by omega), own_base (own_far own2 f7 (by omega)) (by omega), own_base (own_far own3 f7 (by omega)) (by omega), own_base (own_far own4 f7 (by omega)) (by omega), Fr.trans (s0.trans u4) f7 (fun i hi e => by omega)⟩
set_option maxRecDepth 100000 in
set_option maxHeartbeats 1000000 in
theorem split_asked {r : Nr} {N : Nd} {p q : Int} {C E : Int} (w : World) (hE : (E != 0) = true)
    (HC : Hid (∀ W, Same w W → Calls Try.prog 18 #[frameV p q, nodeV r.pa N.ps.length r.cp r.sa N.ss.length r.cs r.ka N.ks.length r.ck] W fun e w' => e = .returned (.int .i64 C) ∧ Same W w'))
    (HA : Hid (∀ W, Calls Try.prog 12 #[frameV p q, .bool (C == 0)] W fun e w' => e = .returned (.int .i64 E) ∧ Same W w')) :
    Calls Try.prog 26 #[frameV p q, ndV r N] w fun e w' => e = .returned (.tuple #[.agg #[.slice none 0 0, .slice none 0 0, .slice none 0 0, .string ⟨#[]⟩, .slice none 0 0, .slice none 0 0, .slice none 0 0], .int .i64 E]) ∧ Same w w' := by
  obtain ⟨V, hV⟩ : ∃ V, V = ((w.alloc (.cells #[.int .i64 p, .int .i64 q] 23)).alloc (.cells #[.slice r.pa N.ps.length r.cp, .slice r.sa N.ss.length r.cs, .slice r.ka N.ks.length r.ck] 28)).alloc (.cells #[.slice none 0 0, .slice none 0 0, .slice none 0 0, .string ⟨#[]⟩, .slice none 0 0, .slice none 0 0, .slice none 0 0] 60) := ⟨_, rfl⟩
  have s0 : Same w V := by rw [hV]; exact (((Fr.refl _ w).alloc _).alloc _).alloc _
  obtain ⟨g0, g1, g2⟩ := three_boxes w (.cells #[.int .i64 p, .int .i64 q] 23) (.cells #[.slice r.pa N.ps.length r.cp, .slice r.sa N.ss.length r.cs, .slice r.ka N.ks.length r.ck] 28) (.cells #[.slice none 0 0, .slice none 0 0, .slice none 0 0, .string ⟨#[]⟩, .slice none 0 0, .slice none 0 0, .slice none 0 0] 60)
  rw [← hV] at g0 g1 g2
  have a0 : V.cell? ⟨w.heap.size, 0, none⟩ = some (.int .i64 p) := by rw [cell_of_row _ _ _ _ _ _ g0]; rfl
  have a1 : V.cell? ⟨w.heap.size, 1, none⟩ = some (.int .i64 q) := by rw [cell_of_row _ _ _ _ _ _ g0]; rfl
  have a2 : V.cell? ⟨w.heap.size + 1, 0, none⟩ = some (.slice r.pa N.ps.length r.cp) := by rw [cell_of_row _ _ _ _ _ _ g1]; rfl
  have a3 : V.cell? ⟨w.heap.size + 1, 1, none⟩ = some (.slice r.sa N.ss.length r.cs) := by rw [cell_of_row _ _ _ _ _ _ g1]; rfl
  have a4 : V.cell? ⟨w.heap.size + 1, 2, none⟩ = some (.slice r.ka N.ks.length r.ck) := by rw [cell_of_row _ _ _ _ _ _ g1]; rfl
  have HZ : Hid (w.heap.size + 3 ≤ V.heap.size) := by show _ ≤ _; rw [hV]; simp
  have HS : Hid (∀ W, Same V W → W.cell? ⟨w.heap.size, 0, none⟩ = some (.int .i64 p) ∧ W.cell? ⟨w.heap.size, 1, none⟩ = some (.int .i64 q) ∧ W.cell? ⟨w.heap.size + 1, 0, none⟩ = some (.slice r.pa N.ps.length r.cp) ∧ W.cell? ⟨w.heap.size + 1, 1, none⟩ = some (.slice r.sa N.ss.length r.cs) ∧ W.cell? ⟨w.heap.size + 1, 2, none⟩ = some (.slice r.ka N.ks.length r.ck)) := fun W s => ⟨s.keep a0, s.keep a1, s.keep a2, s.keep a3, s.keep a4⟩
  have HG : Hid (∀ W, Same V W → W.heap[w.heap.size + 1 + 1]? = some (.cells #[.slice none 0 0, .slice none 0 0, .slice none 0 0, .string ⟨#[]⟩, .slice none 0 0, .slice none 0 0, .slice none 0 0] 60 (0, 0))) := fun W s => (s.block _ (lt_of_heap g2) (fun e => e)).trans g2
  clear a0 a1 a2 a3 a4 g0 g1 g2
  go_enter Try.func26, Try.ntmps26
  go_wp2_with fail
  rw [← hV]
  clear hV
  have d0 : Same V V.drew := Fr.drew (Fr.refl _ V)
  go_region_held3 (fun W => W.cell? ⟨w.heap.size, 0, none⟩ = some (.int .i64 p) ∧ W.cell? ⟨w.heap.size, 1, none⟩ = some (.int .i64 q) ∧ W.cell? ⟨w.heap.size + 1, 0, none⟩ = some (.slice r.pa N.ps.length r.cp) ∧ W.cell? ⟨w.heap.size + 1, 1, none⟩ = some (.slice r.sa N.ss.length r.cs) ∧ W.cell? ⟨w.heap.size + 1, 2, none⟩ = some (.slice r.ka N.ks.length r.ck)) (first | exact HS.out _ u2 | exact HS.out _ u1 | exact HS.out _ d0)
    (first | (go_at_call 18; refine (HC.out _ (s0.trans d0)).mono ?_; rintro e Z1 ⟨rfl, q1⟩; have u1 := Same.trans d0 q1; clear q1) | (go_at_call 12; refine (HA.out _).mono ?_; rintro e Z2 ⟨rfl, q2⟩; have u2 := Same.trans u1 q2; clear q2))
  have r6 := HG.out _ u2
  go_wp2_with (refine wpList_store_whole (by rfl) 60 _ _ (by rfl) (w.heap.size + 1 + 1) #[.slice none 0 0, .slice none 0 0, .slice none 0 0, .string ⟨#[]⟩, .slice none 0 0, .slice none 0 0, .slice none 0 0] _ 60 (by rfl) (by rfl) r6 rfl (by kernel_rfl) (by kernel_rfl) ?_; intro W7 r7 f7)
  have hz := HZ.out
  exact bodyPost_ret (results_row_tmp (p := 4) (u := 5) (ty := 60) (by kernel_rfl) _ _ (w.heap.size + 1 + 1) 60 _ (0, 0) _ rfl r7 Try.underlying60 rfl (by kernel_rfl)) rfl ⟨rfl, Fr.trans (s0.trans u2) f7 (fun i hi e => by omega)⟩
set_option maxRecDepth 100000 in
set_option maxHeartbeats 1000000 in
theorem split_nocut {r : Nr} {N : Nd} {p q : Int} (w : World)
    (HC : Hid (∀ W, Same w W → Calls Try.prog 18 #[frameV p q, nodeV r.pa N.ps.length r.cp r.sa N.ss.length r.cs r.ka N.ks.length r.ck] W fun e w' => e = .returned (.int .i64 0) ∧ Same W w'))
    (HA : Hid (∀ W, Calls Try.prog 12 #[frameV p q, .bool true] W fun e w' => e = .returned (.int .i64 0) ∧ Same W w'))
    (HB : Hid (∀ W, Same w W → Calls Try.prog 41 #[frameV p q, nodeV r.pa N.ps.length r.cp r.sa N.ss.length r.cs r.ka N.ks.length r.ck] W fun e w' => e = .returned (.int .i64 0) ∧ Same W w')) :
    Calls Try.prog 26 #[frameV p q, ndV r N] w fun e w' => e = .returned (.tuple #[.agg #[.slice none 0 0, .slice none 0 0, .slice none 0 0, .string ⟨#[]⟩, .slice none 0 0, .slice none 0 0, .slice none 0 0], .int .i64 82]) ∧ Same w w' := by
  obtain ⟨V, hV⟩ : ∃ V, V = ((w.alloc (.cells #[.int .i64 p, .int .i64 q] 23)).alloc (.cells #[.slice r.pa N.ps.length r.cp, .slice r.sa N.ss.length r.cs, .slice r.ka N.ks.length r.ck] 28)).alloc (.cells #[.slice none 0 0, .slice none 0 0, .slice none 0 0, .string ⟨#[]⟩, .slice none 0 0, .slice none 0 0, .slice none 0 0] 60) := ⟨_, rfl⟩
  have s0 : Same w V := by rw [hV]; exact (((Fr.refl _ w).alloc _).alloc _).alloc _
  obtain ⟨g0, g1, g2⟩ := three_boxes w (.cells #[.int .i64 p, .int .i64 q] 23) (.cells #[.slice r.pa N.ps.length r.cp, .slice r.sa N.ss.length r.cs, .slice r.ka N.ks.length r.ck] 28) (.cells #[.slice none 0 0, .slice none 0 0, .slice none 0 0, .string ⟨#[]⟩, .slice none 0 0, .slice none 0 0, .slice none 0 0] 60)
  rw [← hV] at g0 g1 g2
  have a0 : V.cell? ⟨w.heap.size, 0, none⟩ = some (.int .i64 p) := by rw [cell_of_row _ _ _ _ _ _ g0]; rfl
  have a1 : V.cell? ⟨w.heap.size, 1, none⟩ = some (.int .i64 q) := by rw [cell_of_row _ _ _ _ _ _ g0]; rfl
  have a2 : V.cell? ⟨w.heap.size + 1, 0, none⟩ = some (.slice r.pa N.ps.length r.cp) := by rw [cell_of_row _ _ _ _ _ _ g1]; rfl
  have a3 : V.cell? ⟨w.heap.size + 1, 1, none⟩ = some (.slice r.sa N.ss.length r.cs) := by rw [cell_of_row _ _ _ _ _ _ g1]; rfl
  have a4 : V.cell? ⟨w.heap.size + 1, 2, none⟩ = some (.slice r.ka N.ks.length r.ck) := by rw [cell_of_row _ _ _ _ _ _ g1]; rfl
  have HZ : Hid (w.heap.size + 3 ≤ V.heap.size) := by show _ ≤ _; rw [hV]; simp
  have HS : Hid (∀ W, Same V W → W.cell? ⟨w.heap.size, 0, none⟩ = some (.int .i64 p) ∧ W.cell? ⟨w.heap.size, 1, none⟩ = some (.int .i64 q) ∧ W.cell? ⟨w.heap.size + 1, 0, none⟩ = some (.slice r.pa N.ps.length r.cp) ∧ W.cell? ⟨w.heap.size + 1, 1, none⟩ = some (.slice r.sa N.ss.length r.cs) ∧ W.cell? ⟨w.heap.size + 1, 2, none⟩ = some (.slice r.ka N.ks.length r.ck)) := fun W s => ⟨s.keep a0, s.keep a1, s.keep a2, s.keep a3, s.keep a4⟩
  have HG : Hid (∀ W, Same V W → W.heap[w.heap.size + 1 + 1]? = some (.cells #[.slice none 0 0, .slice none 0 0, .slice none 0 0, .string ⟨#[]⟩, .slice none 0 0, .slice none 0 0, .slice none 0 0] 60 (0, 0))) := fun W s => (s.block _ (lt_of_heap g2) (fun e => e)).trans g2
  clear a0 a1 a2 a3 a4 g0 g1 g2
  go_enter Try.func26, Try.ntmps26
  go_wp2_with fail
  rw [← hV]
  clear hV
  have d0 : Same V V.drew := Fr.drew (Fr.refl _ V)
  go_region_held3 (fun W => W.cell? ⟨w.heap.size, 0, none⟩ = some (.int .i64 p) ∧ W.cell? ⟨w.heap.size, 1, none⟩ = some (.int .i64 q) ∧ W.cell? ⟨w.heap.size + 1, 0, none⟩ = some (.slice r.pa N.ps.length r.cp) ∧ W.cell? ⟨w.heap.size + 1, 1, none⟩ = some (.slice r.sa N.ss.length r.cs) ∧ W.cell? ⟨w.heap.size + 1, 2, none⟩ = some (.slice r.ka N.ks.length r.ck)) (first | exact HS.out _ u2 | exact HS.out _ u1 | exact HS.out _ d0)
    (first | (go_at_call 18; refine (HC.out _ (s0.trans d0)).mono ?_; rintro e Z1 ⟨rfl, q1⟩; have u1 := Same.trans d0 q1; clear q1) | (go_at_call 12; refine (HA.out _).mono ?_; rintro e Z2 ⟨rfl, q2⟩; have u2 := Same.trans u1 q2; clear q2))
  obtain ⟨a0, a1, a2, a3, a4⟩ := HS.out _ u2
  go_wp2_with fail
  refine (HB.out _ (s0.trans u2)).mono ?_
  rintro e Z3 ⟨rfl, q3⟩
  have u3 := Same.trans u2 q3
  obtain ⟨a0, a1, a2, a3, a4⟩ := HS.out _ u3
  have r6 := HG.out _ u3
  go_wp2_with (refine wpList_store_whole (by rfl) 60 _ _ (by rfl) (w.heap.size + 1 + 1) #[.slice none 0 0, .slice none 0 0, .slice none 0 0, .string ⟨#[]⟩, .slice none 0 0, .slice none 0 0, .slice none 0 0] _ 60 (by rfl) (by rfl) r6 rfl (by kernel_rfl) (by kernel_rfl) ?_; intro W7 r7 f7)
  have hz := HZ.out
  exact bodyPost_ret (results_row_tmp (p := 4) (u := 5) (ty := 60) (by kernel_rfl) _ _ (w.heap.size + 1 + 1) 60 _ (0, 0) _ rfl r7 Try.underlying60 rfl (by kernel_rfl)) rfl ⟨rfl, Fr.trans (s0.trans u3) f7 (fun i hi e => by omega)⟩
end Go.Proofs.Yteddbkbfnafbpaa
