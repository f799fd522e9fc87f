/- The document's Check of any node. -/
import Derived.Test.YtmgkdnejjemfeaaB1
import Derived.Test.YtmgkdnejjemfeaaB2
namespace Go.Proofs.Ytmgkdnejjemfeaa
open Go.RowKit

theorem dshaped_calls {p q : Int} {r : Nr} {N : Nd} (w : World) (h : NdAt w r N) (h1 : N.ps.length ≤ 1048576) (h2 : N.ss.length ≤ 1048576) (h3 : N.ks.length ≤ 1048576) (hf : frameP p q = true) :
    Calls Try.prog 34 #[frameV p q, ndV r N] w fun e w' => e = .returned (.bool (shapeP p q N)) ∧ Same w w' := by
  obtain ⟨hp, hq1, hq2⟩ := frameP_cases hf
  unfold shapeP
  by_cases hl : leafB N = true
  · rw [if_pos hl]
    refine dshaped_leaf w h h1 hp (fun W => ?_) (fun W B ao c l hl2 own => ?_)
    · have := dleaf_calls r.pa r.sa r.ka N.ps.length r.cp N.ss.length r.cs N.ks.length r.ck W
      rw [show (decide (N.ss.length = 0) && decide (N.ks.length = 0)) = true from hl] at this
      exact this
    · obtain ⟨g, t⟩ := own_trow (own_base own (Nat.zero_le _)) rfl
      exact dkeys_calls W t (by omega)
  · rw [if_neg hl]
    refine dshaped_branch w h h3 hp (fun W => ?_) (fun W x hx => dfits_calls W hq1 hq2 hx.d) (fun W s => dkeys_calls W (h.same s).hs (by omega))
    have := dleaf_calls r.pa r.sa r.ka N.ps.length r.cp N.ss.length r.cs N.ks.length r.ck W
    rw [show (decide (N.ss.length = 0) && decide (N.ks.length = 0)) = false from by rw [← Bool.not_eq_true]; exact hl] at this
    exact this
set_option maxRecDepth 100000 in
set_option maxHeartbeats 1000000 in
theorem dcheck_calls {p q : Int} {r : Nr} {N : Nd} (w : World) (h : NdAt w r N) (h1 : N.ps.length ≤ 1048576) (h2 : N.ss.length ≤ 1048576) (h3 : N.ks.length ≤ 1048576) :
    Calls Try.prog 16 #[frameV p q, ndV r N] w fun e w' => e = .returned (.int .i64 (chkN p q N)) ∧ Same w w' := by
  have HR : Hid (∀ W, Calls Try.prog 33 #[frameV p q] W fun e w' => e = .returned (.bool (frameP p q)) ∧ Same W w') := dright_calls p q
  have HS : Hid (frameP p q = true → ∀ W, Same w W → Calls Try.prog 34 #[frameV p q, ndV r N] W fun e w' => e = .returned (.bool (shapeP p q N)) ∧ Same W w') := fun hf W s => dshaped_calls W (h.same s) h1 h2 h3 hf
  obtain ⟨V, hV⟩ : ∃ V, V = (w.alloc (.cells #[.int .i64 p, .int .i64 q] 23)).alloc (.cells #[.slice r.pa N.ps.length r.cp, .slice r.sa N.ss.length r.cs, .slice r.ka N.ks.length r.ck] 28) := ⟨_, rfl⟩
  have t1 : Same w V := by rw [hV]; exact ((Fr.refl _ w).alloc _).alloc _
  have a0 : V.cell? ⟨w.heap.size, 0, none⟩ = some (.int .i64 p) := by rw [hV]; simp
  have a1 : V.cell? ⟨w.heap.size, 1, none⟩ = some (.int .i64 q) := by rw [hV]; simp
  have n0 : V.cell? ⟨w.heap.size + 1, 0, none⟩ = some (.slice r.pa N.ps.length r.cp) := by rw [hV]; simp
  have n1 : V.cell? ⟨w.heap.size + 1, 1, none⟩ = some (.slice r.sa N.ss.length r.cs) := by rw [hV]; simp
  have n2 : V.cell? ⟨w.heap.size + 1, 2, none⟩ = some (.slice r.ka N.ks.length r.ck) := by rw [hV]; simp
  unfold chkN
  clear h h1 h2 h3
  generalize frameP p q = F at *
  generalize shapeP p q N = B at *
  cases F with
  | false =>
    go_enter Try.func16, Try.ntmps16
    go_wp2_with fail
    rw [← hV]
    refine (HR.out _).mono ?_
    rintro e W1 ⟨rfl, s1⟩
    go_wp2_with fail
    go_ret
    exact ⟨rfl, t1.trans s1⟩
  | true =>
    have HS' := HS.out rfl
    cases B
    all_goals
      go_enter Try.func16, Try.ntmps16
      go_wp2_with fail
      rw [← hV]
      refine (HR.out _).mono ?_
      rintro e W1 ⟨rfl, s1⟩
      have a0 := s1.keep a0
      have a1 := s1.keep a1
      have n0 := s1.keep n0
      have n1 := s1.keep n1
      have n2 := s1.keep n2
      go_wp2_with fail
      refine (HS' _ (t1.trans s1)).mono ?_
      rintro e W2 ⟨rfl, s2⟩
      go_wp2_with fail
      go_ret
      exact ⟨rfl, (t1.trans s1).trans s2⟩
end Go.Proofs.Ytmgkdnejjemfeaa
