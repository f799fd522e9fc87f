/- halved of a leaf, whole. -/
import Derived.Test.YtmgkdnejjemfeaaKC
namespace Go.Proofs.Ytmgkdnejjemfeaa
open Go.RowKit

theorem pcells_cons (x : ByteArray × ByteArray) (ps : List (ByteArray × ByteArray)) : pcells (x :: ps) = .string x.1 :: .string x.2 :: pcells ps := rfl
theorem pcells_takeK : ∀ (ps : List (ByteArray × ByteArray)) (k : Nat), (pcells ps).take (k * 2) = pcells (ps.take k)
  | _, 0 => by rw [Nat.zero_mul, List.take_zero, List.take_zero]; rfl
  | [], k + 1 => by rw [List.take_nil]; exact List.take_nil
  | x :: ps, k + 1 => by
    rw [pcells_cons, List.take_succ_cons, pcells_cons, ← pcells_takeK ps k, show (k + 1) * 2 = k * 2 + 1 + 1 from by omega, List.take_succ_cons, List.take_succ_cons]
theorem pcells_dropK : ∀ (ps : List (ByteArray × ByteArray)) (k : Nat), (pcells ps).drop (k * 2) = pcells (ps.drop k)
  | _, 0 => by rw [Nat.zero_mul, List.drop_zero, List.drop_zero]
  | [], k + 1 => by rw [List.drop_nil]; exact List.drop_nil
  | x :: ps, k + 1 => by
    rw [pcells_cons, List.drop_succ_cons, ← pcells_dropK ps k, show (k + 1) * 2 = k * 2 + 1 + 1 from by omega, List.drop_succ_cons, List.drop_succ_cons]
/-- What separates a leaf's halves. -/
def sepB (x y : ByteArray) : ByteArray := y.extract 0 (comP x.data.toList y.data.toList + 1)
theorem halved_good {r : Nr} {N : Nd} {m : Nat} {x y : ByteArray × ByteArray} (w : World) (hr : PRow w r.pa r.pb r.po N.ps) (hk : N.ks.length = 0) (hx : N.ps[m]? = some x) (hy : N.ps[m + 1]? = some y) (hn : N.ps.length ≤ 1048576)
    (hc : N.ps.length ≤ r.cp) (hc0 : r.pa = none → r.cp = 0) (h3 : ∀ a, r.pa = some a → ∃ b o, a = ⟨b, o, none⟩) (hless : Op.bytesLess x.1.toList y.1.toList = true) (hsz : x.1.size ≤ 1048576) :
    Calls Try.prog 32 #[ndV r N, .int .i64 ((m + 1 : Nat) : Int)] w fun e w' => ∃ ao1 c1 ao2 c2, e = .returned (.agg #[.slice ao1 (m + 1) c1, .slice none 0 0, .slice none 0 0, .string (sepB x.1 y.1), .slice ao2 (N.ps.length - (m + 1)) c2, .slice none 0 0, .slice none 0 0]) ∧ w'.ownsRow w.heap.size 48 2 (.slice ao1 (m + 1) c1) (m + 1) (pcells (N.ps.take (m + 1))) ∧ w'.ownsRow w.heap.size 48 2 (.slice ao2 (N.ps.length - (m + 1)) c2) (N.ps.length - (m + 1)) (pcells (N.ps.drop (m + 1))) ∧ Same w w' := by
  have hl : m + 1 < N.ps.length := (List.getElem?_eq_some_iff.1 hy).1
  refine halved_leaf w hr hk hx hy hn (fun W => between_more W hless (by omega)) (fun W s => ?_) (fun W s => ?_)
  · have := firstPairs (m := m + 1) W (prow_part (hr.same s) hc0) h3 (by omega) hc hn
    rw [pcells_takeK] at this
    exact this
  · have := withoutPairs (i := 0) (m := m + 1) W (prow_part (hr.same s) hc0) h3 (by omega) hc hn
    rw [Nat.zero_mul, List.take_zero, List.nil_append, Nat.zero_add, pcells_dropK] at this
    exact this
end Go.Proofs.Ytmgkdnejjemfeaa
namespace Go.Proofs.Ytmgkdnejjemfeaa
open Go.RowKit

theorem own_far {w w' : World} {base b : Nat} {e : TypeId} {sz n c : Nat} {ao : Option Addr} {xs : List Value} (h : w.ownsRow base e sz (.slice ao n c) n xs) (f : Fr (fun k => k = b) w w') (hb : b < base) : w'.ownsRow base e sz (.slice ao n c) n xs :=
  own_frameB h f (fun kk hk e => by
    cases ao with
    | none => cases hk
    | some a => have := own_ge h; simp [Value.ownBlock] at hk; omega)
set_option maxRecDepth 100000 in
set_option maxHeartbeats 1000000 in
theorem cuts_calls {r : Nr} {N : Nd} {p q : Int} (w : World) (h : NdAt w r N) (h1 : N.ps.length ≤ 1048576) (h2 : N.ss.length ≤ 1048576) (h3 : N.ks.length ≤ 1048576) :
    Calls Try.prog 8 #[frameV p q, ndV r N] w fun e w' => ∃ r' : Nr, e = .returned (.func (.func 21) #[] #[.pointer (some ⟨w.heap.size, 0, none⟩), .pointer (some ⟨w.heap.size + 1, 0, none⟩)]) ∧
      w'.heap[w.heap.size]? = some (.cells #[.int .i64 p, .int .i64 q] 23 (0, 0)) ∧ w'.heap[w.heap.size + 1]? = some (.cells #[.slice r'.pa N.ps.length r'.cp, .slice r'.sa N.ss.length r'.cs, .slice r'.ka N.ks.length r'.ck] 28 (0, 0)) ∧
      w'.ownsRow (w.heap.size + 2) 48 2 (.slice r'.pa N.ps.length r'.cp) N.ps.length (pcells N.ps) ∧ w'.ownsRow (w.heap.size + 2) 9 1 (.slice r'.sa N.ss.length r'.cs) N.ss.length (scells N.ss) ∧ w'.ownsRow (w.heap.size + 2) 59 33 (.slice r'.ka N.ks.length r'.ck) N.ks.length (kcellsL N.ks) ∧ Same w w' := by
  obtain ⟨V, hV⟩ : ∃ V, V = (w.alloc (.cells #[.int .i64 p, .int .i64 q] 23)).alloc (.cells #[.slice r.pa N.ps.length r.cp, .slice r.sa N.ss.length r.cs, .slice r.ka N.ks.length r.ck] 28) := ⟨_, rfl⟩
  have s0 : Same w V := by rw [hV]; exact ((Fr.refl _ w).alloc _).alloc _
  have g0 : V.heap[w.heap.size]? = some (.cells #[.int .i64 p, .int .i64 q] 23 (0, 0)) := by rw [hV]; exact (heap_alloc_old _ _ (by simp)).trans (heap_alloc_new w _)
  have g1 : V.heap[w.heap.size + 1]? = some (.cells #[.slice r.pa N.ps.length r.cp, .slice r.sa N.ss.length r.cs, .slice r.ka N.ks.length r.ck] 28 (0, 0)) := by rw [hV]; exact heap_alloc2_new w _ _
  have HZ : V.heap.size = w.heap.size + 2 := by rw [hV]; simp
  have HC : Hid (Calls Try.prog 20 #[ndV r N] V fun e w' => ∃ r', e = .returned (ndV r' N) ∧ Copied V w' r' N ∧ Same V w') := copy_walk V (h.same s0) h1 h2 h3
  clear h h1 h2 h3
  go_enter Try.func8, Try.ntmps8
  go_wp2_with fail
  rw [← hV]
  clear hV
  refine HC.out.mono ?_
  rintro e W1 ⟨r', rfl, hc, s1⟩
  have k0 := (s1.block _ (lt_of_heap g0) (fun e => e)).trans g0
  have k1 := (s1.block _ (lt_of_heap g1) (fun e => e)).trans g1
  clear g0 g1 HC
  go_wp2_with (refine wpList_store_whole (by rfl) 28 _ _ (by rfl) (w.heap.size + 1) #[.slice r'.pa N.ps.length r'.cp, .slice r'.sa N.ss.length r'.cs, .slice r'.ka N.ks.length r'.ck] _ 28 (by rfl) (by rfl) k1 rfl (by kernel_rfl) (by kernel_rfl) ?_; intro W7 r7 f7)
  go_ret
  rw [← HZ]
  exact ⟨r', rfl, (f7.block _ (lt_of_heap k0) (by omega)).trans k0, r7, own_far hc.op f7 (by omega), own_far hc.os f7 (by omega), own_far hc.ok f7 (by omega), Fr.trans (s0.trans s1) f7 (fun i hi e => by omega)⟩
end Go.Proofs.Ytmgkdnejjemfeaa
