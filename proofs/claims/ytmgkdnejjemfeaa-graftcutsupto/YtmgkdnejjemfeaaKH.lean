/- Split of a leaf. -/
import Derived.Test.YtmgkdnejjemfeaaKG
namespace Go.Proofs.Ytmgkdnejjemfeaa
open Go.RowKit

/-- What halved answers: two leaves' pairs in lists of their own. -/
def halvesV (ao1 ao2 : Option Addr) (n1 c1 n2 c2 : Nat) (sp : ByteArray) : Array Value := #[.slice ao1 n1 c1, .slice none 0 0, .slice none 0 0, .string sp, .slice ao2 n2 c2, .slice none 0 0, .slice none 0 0]
theorem three_boxes (w : World) (a b c : Obj) : (((w.alloc a).alloc b).alloc c).heap[w.heap.size]? = some a ∧ (((w.alloc a).alloc b).alloc c).heap[w.heap.size + 1]? = some b ∧ (((w.alloc a).alloc b).alloc c).heap[w.heap.size + 1 + 1]? = some c := by
  have h1 := heap_alloc_new (w.alloc a) b
  have h2 := heap_alloc_new ((w.alloc a).alloc b) c
  simp only [World.size_alloc] at h1 h2
  exact ⟨(heap_alloc_old _ c _ (by simp only [World.size_alloc]; omega)).trans ((heap_alloc_old _ b _ (by simp only [World.size_alloc]; omega)).trans (heap_alloc_new w a)), (heap_alloc_old _ c _ (by simp only [World.size_alloc]; omega)).trans h1, h2⟩
set_option maxRecDepth 100000 in
set_option maxHeartbeats 1000000 in
theorem split_leaf {r : Nr} {N : Nd} {p q : Int} {m n2 : Nat} {sp : ByteArray} {l1 l2 : List Value} (w : World) (h3 : N.ks.length = 0)
    (HC : Hid (∀ W, Same w W → Calls Try.prog 22 #[frameV p q, nodeV r.pa N.ps.length r.cp r.sa N.ss.length r.cs r.ka 0 r.ck] W fun e w' => e = .returned (.int .i64 0) ∧ Same W w'))
    (HA : Hid (∀ W, Calls Try.prog 25 #[frameV p q, .bool true] W fun e w' => e = .returned (.int .i64 0) ∧ Same W w'))
    (HB : Hid (∀ W, Same w W → Calls Try.prog 31 #[frameV p q, nodeV r.pa N.ps.length r.cp r.sa N.ss.length r.cs r.ka 0 r.ck] W fun e w' => e = .returned (.int .i64 ((m + 1 : Nat) : Int)) ∧ Same W w'))
    (HH : Hid (∀ W, Same w W → Calls Try.prog 32 #[nodeV r.pa N.ps.length r.cp r.sa N.ss.length r.cs r.ka 0 r.ck, .int .i64 ((m + 1 : Nat) : Int)] W fun e w' => ∃ ao1 c1 ao2 c2, e = .returned (.agg (halvesV ao1 ao2 (m + 1) c1 n2 c2 sp)) ∧ w'.ownsRow W.heap.size 48 2 (.slice ao1 (m + 1) c1) (m + 1) l1 ∧ w'.ownsRow W.heap.size 48 2 (.slice ao2 n2 c2) n2 l2 ∧ Same W w')) :
    Calls Try.prog 13 #[frameV p q, ndV r N] w fun e w' => ∃ ao1 c1 ao2 c2, e = .returned (.tuple #[.agg (halvesV ao1 ao2 (m + 1) c1 n2 c2 sp), .int .i64 0]) ∧ w'.ownsRow w.heap.size 48 2 (.slice ao1 (m + 1) c1) (m + 1) l1 ∧ w'.ownsRow w.heap.size 48 2 (.slice ao2 n2 c2) n2 l2 ∧ Same w w' := by
  obtain ⟨V, hV⟩ : ∃ V, V = ((w.alloc (.cells #[.int .i64 p, .int .i64 q] 23)).alloc (.cells #[.slice r.pa N.ps.length r.cp, .slice r.sa N.ss.length r.cs, .slice r.ka 0 r.ck] 28)).alloc (.cells #[.slice none 0 0, .slice none 0 0, .slice none 0 0, .string ⟨#[]⟩, .slice none 0 0, .slice none 0 0, .slice none 0 0] 50) := ⟨_, rfl⟩
  have s0 : Same w V := by rw [hV]; exact (((Fr.refl _ w).alloc _).alloc _).alloc _
  obtain ⟨g0, g1, g2⟩ := three_boxes w (.cells #[.int .i64 p, .int .i64 q] 23) (.cells #[.slice r.pa N.ps.length r.cp, .slice r.sa N.ss.length r.cs, .slice r.ka 0 r.ck] 28) (.cells #[.slice none 0 0, .slice none 0 0, .slice none 0 0, .string ⟨#[]⟩, .slice none 0 0, .slice none 0 0, .slice none 0 0] 50)
  rw [← hV] at g0 g1 g2
  have a0 : V.cell? ⟨w.heap.size, 0, none⟩ = some (.int .i64 p) := by rw [cell_of_row _ _ _ _ _ _ g0]; rfl
  have a1 : V.cell? ⟨w.heap.size, 1, none⟩ = some (.int .i64 q) := by rw [cell_of_row _ _ _ _ _ _ g0]; rfl
  have a2 : V.cell? ⟨w.heap.size + 1, 0, none⟩ = some (.slice r.pa N.ps.length r.cp) := by rw [cell_of_row _ _ _ _ _ _ g1]; rfl
  have a3 : V.cell? ⟨w.heap.size + 1, 1, none⟩ = some (.slice r.sa N.ss.length r.cs) := by rw [cell_of_row _ _ _ _ _ _ g1]; rfl
  have a4 : V.cell? ⟨w.heap.size + 1, 2, none⟩ = some (.slice r.ka 0 r.ck) := by rw [cell_of_row _ _ _ _ _ _ g1]; rfl
  have HZ : Hid (w.heap.size + 3 ≤ V.heap.size) := by show _ ≤ _; rw [hV]; simp
  have HS : Hid (∀ W, Same V W → W.cell? ⟨w.heap.size, 0, none⟩ = some (.int .i64 p) ∧ W.cell? ⟨w.heap.size, 1, none⟩ = some (.int .i64 q) ∧ W.cell? ⟨w.heap.size + 1, 0, none⟩ = some (.slice r.pa N.ps.length r.cp) ∧ W.cell? ⟨w.heap.size + 1, 1, none⟩ = some (.slice r.sa N.ss.length r.cs) ∧ W.cell? ⟨w.heap.size + 1, 2, none⟩ = some (.slice r.ka 0 r.ck)) := fun W s => ⟨s.keep a0, s.keep a1, s.keep a2, s.keep a3, s.keep a4⟩
  have HG : Hid (∀ W, Same V W → W.heap[w.heap.size + 1 + 1]? = some (.cells #[.slice none 0 0, .slice none 0 0, .slice none 0 0, .string ⟨#[]⟩, .slice none 0 0, .slice none 0 0, .slice none 0 0] 50 (0, 0))) := fun W s => (s.block _ (lt_of_heap g2) (fun e => e)).trans g2
  clear a0 a1 a2 a3 a4 g0 g1 g2
  obtain ⟨n, hn⟩ : ∃ n, n = m + 1 := ⟨_, rfl⟩
  rw [← hn] at HB HH ⊢
  have hne : ¬ (n : Int) = 0 := by omega
  clear hn
  go_enter Try.func13, Try.ntmps13
  go_wp2_with fail
  rw [← hV]
  clear hV
  have d0 : Same V V.drew := Fr.drew (Fr.refl _ V)
  go_region_held3 (fun W => W.cell? ⟨w.heap.size, 0, none⟩ = some (.int .i64 p) ∧ W.cell? ⟨w.heap.size, 1, none⟩ = some (.int .i64 q) ∧ W.cell? ⟨w.heap.size + 1, 0, none⟩ = some (.slice r.pa N.ps.length r.cp) ∧ W.cell? ⟨w.heap.size + 1, 1, none⟩ = some (.slice r.sa N.ss.length r.cs) ∧ W.cell? ⟨w.heap.size + 1, 2, none⟩ = some (.slice r.ka 0 r.ck)) (first | exact HS.out _ u2 | exact HS.out _ u1 | exact HS.out _ d0)
    (first | (go_at_call 22; refine (HC.out _ (s0.trans d0)).mono ?_; rintro e Z1 ⟨rfl, q1⟩; have u1 := Same.trans d0 q1; clear q1) | (go_at_call 25; refine (HA.out _).mono ?_; rintro e Z2 ⟨rfl, q2⟩; have u2 := Same.trans u1 q2; clear q2))
  obtain ⟨a0, a1, a2, a3, a4⟩ := HS.out _ u2
  go_wp2_with fail
  refine (HB.out _ (s0.trans u2)).mono ?_
  rintro e Z3 ⟨rfl, q3⟩
  have u3 := Same.trans u2 q3
  obtain ⟨a0, a1, a2, a3, a4⟩ := HS.out _ u3
  go_wp2_with fail
  refine (HH.out _ (s0.trans u3)).mono ?_
  rintro e Z4 ⟨ao1, c1, ao2, c2, rfl, own1, own2, q4⟩
  have u4 := Same.trans u3 q4
  have r6 := HG.out _ u4
  go_wp2_with (refine wpList_store_whole (by rfl) 50 _ _ (by rfl) (w.heap.size + 1 + 1) (halvesV ao1 ao2 n c1 n2 c2 sp) _ 50 (by rfl) (by rfl) r6 rfl (by kernel_rfl) (by kernel_rfl) ?_; intro W7 r7 f7)
  have hz := HZ.out
  have z3 := u3.size
  exact bodyPost_ret (results_row_tmp (p := 4) (u := 5) (ty := 50) (by kernel_rfl) _ _ (w.heap.size + 1 + 1) 50 _ (0, 0) _ rfl r7 Try.underlying50 rfl (by kernel_rfl)) rfl ⟨ao1, c1, ao2, c2, rfl, own_base (own_far own1 f7 (by omega)) (by omega), own_base (own_far own2 f7 (by omega)) (by omega), Fr.trans (s0.trans u4) f7 (fun i hi e => by omega)⟩
end Go.Proofs.Ytmgkdnejjemfeaa
