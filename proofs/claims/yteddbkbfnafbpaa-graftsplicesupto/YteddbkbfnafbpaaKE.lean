/- Cuts. -/
import Derived.Test.YteddbkbfnafbpaaKD
namespace Go.Proofs.Yteddbkbfnafbpaa
open Go.RowKit

theorem own_far {w w' : World} {base b : Nat} {e : TypeId} {sz n c : Nat} {ao : Option Addr} {xs : List Value} (h : w.ownsRow base e sz (.slice ao n c) n xs) (f : Fr (fun k => k = b) w w') (hb : b < base) : w'.ownsRow base e sz (.slice ao n c) n xs :=
  own_frameB h f (fun kk hk e => by
    cases ao with
    | none => cases hk
    | some a => have := own_ge h; simp [Value.ownBlock] at hk; omega)
set_option maxRecDepth 100000 in
set_option maxHeartbeats 1000000 in
theorem cuts_calls {r : Nr} {N : Nd} {p q : Int} (w : World) (h : NdAt w r N) (h1 : N.ps.length ≤ 1048576) (h2 : N.ss.length ≤ 1048576) (h3 : N.ks.length ≤ 1048576) :
    Calls Try.prog 60 #[frameV p q, ndV r N] w fun e w' => ∃ r' : Nr, e = .returned (.func (.func 70) #[] #[.pointer (some ⟨w.heap.size, 0, none⟩), .pointer (some ⟨w.heap.size + 1, 0, none⟩)]) ∧
      w'.heap[w.heap.size]? = some (.cells #[.int .i64 p, .int .i64 q] 23 (0, 0)) ∧ w'.heap[w.heap.size + 1]? = some (.cells #[.slice r'.pa N.ps.length r'.cp, .slice r'.sa N.ss.length r'.cs, .slice r'.ka N.ks.length r'.ck] 28 (0, 0)) ∧
      w'.ownsRow (w.heap.size + 2) 41 2 (.slice r'.pa N.ps.length r'.cp) N.ps.length (pcells N.ps) ∧ w'.ownsRow (w.heap.size + 2) 9 1 (.slice r'.sa N.ss.length r'.cs) N.ss.length (scells N.ss) ∧ w'.ownsRow (w.heap.size + 2) 46 33 (.slice r'.ka N.ks.length r'.ck) N.ks.length (kcellsL N.ks) ∧ Same w w' := by
  obtain ⟨V, hV⟩ : ∃ V, V = (w.alloc (.cells #[.int .i64 p, .int .i64 q] 23)).alloc (.cells #[.slice r.pa N.ps.length r.cp, .slice r.sa N.ss.length r.cs, .slice r.ka N.ks.length r.ck] 28) := ⟨_, rfl⟩
  have s0 : Same w V := by rw [hV]; exact ((Fr.refl _ w).alloc _).alloc _
  have g0 : V.heap[w.heap.size]? = some (.cells #[.int .i64 p, .int .i64 q] 23 (0, 0)) := by rw [hV]; exact (heap_alloc_old _ _ (by simp)).trans (heap_alloc_new w _)
  have g1 : V.heap[w.heap.size + 1]? = some (.cells #[.slice r.pa N.ps.length r.cp, .slice r.sa N.ss.length r.cs, .slice r.ka N.ks.length r.ck] 28 (0, 0)) := by rw [hV]; exact heap_alloc2_new w _ _
  have HZ : V.heap.size = w.heap.size + 2 := by rw [hV]; simp
  have HC : Hid (Calls Try.prog 69 #[ndV r N] V fun e w' => ∃ r', e = .returned (ndV r' N) ∧ Copied V w' r' N ∧ Same V w') := copy_walk V (h.same s0) h1 h2 h3
  clear h h1 h2 h3
  go_enter Try.func60, Try.ntmps60
  go_wp2_with fail
  rw [← hV]
  clear hV
  refine HC.out.mono ?_
  rintro e W1 ⟨r', rfl, hc, s1⟩
  have k0 := (s1.block _ (lt_of_heap g0) (fun e => e)).trans g0
  have k1 := (s1.block _ (lt_of_heap g1) (fun e => e)).trans g1
  clear g0 g1 HC
  go_wp2_with (refine wpList_store_whole (by rfl) 28 _ _ (by rfl) (w.heap.size + 1) #[.slice r'.pa N.ps.length r'.cp, .slice r'.sa N.ss.length r'.cs, .slice r'.ka N.ks.length r'.ck] _ 28 (by rfl) (by rfl) k1 rfl (by kernel_rfl) (by kernel_rfl) ?_; intro W7 r7 f7)
  go_ret
  rw [← HZ]
  exact ⟨r', rfl, (f7.block _ (lt_of_heap k0) (by omega)).trans k0, r7, own_far hc.op f7 (by omega), own_far hc.os f7 (by omega), own_far hc.ok f7 (by omega), Fr.trans (s0.trans s1) f7 (fun i hi e => by omega)⟩
end Go.Proofs.Yteddbkbfnafbpaa
