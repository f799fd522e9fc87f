/- Put in all the ways that it is refused; Remove of a leaf. -/
import Derived.Test.YtdmoglnbelembaaGreatK4
import Derived.Test.YtdmoglnbelembaaGreatKM
namespace Go.Proofs.YtdmoglnbelembaaGreat
open Go.RowKit

def leafG (p q : Int) (N : Nd) : Bool := decide (chkN p q N = 0) && decide (N.ks.length = 0)
def askE (p q : Int) (b : Bool) : Int := if frameP p q = true then (if b = true then 0 else 80) else 2
set_option maxRecDepth 100000 in
set_option maxHeartbeats 1000000 in
theorem isLeafG_calls {p q : Int} {r : Nr} {N : Nd} (w : World) (h : NdAt w r N) :
    Calls Tryz.prog 25 #[frameV p q, ndV r N] w fun e w' => e = .returned (.bool (leafG p q N)) ∧ Same w w' := by
  have HC : Hid (∀ W, Same w W → Calls Tryz.prog 30 #[frameV p q, ndV r N] W fun e w' => e = .returned (.int .i64 (chkN p q N)) ∧ Same W w') := fun W s => check_calls p q W (h.same s)
  obtain ⟨V, hV⟩ : ∃ V, V = (w.alloc (.cells #[.int .i64 p, .int .i64 q] 23)).alloc (.cells #[.slice r.pa N.ps.length r.cp, .slice r.sa N.ss.length r.cs, .slice r.ka N.ks.length r.ck] 28) := ⟨_, rfl⟩
  have t1 : Same w V := by rw [hV]; exact ((Fr.refl _ w).alloc _).alloc _
  have a0 : V.cell? ⟨w.heap.size, 0, none⟩ = some (.int .i64 p) := by rw [hV]; simp
  have a1 : V.cell? ⟨w.heap.size, 1, none⟩ = some (.int .i64 q) := by rw [hV]; simp
  have n0 : V.cell? ⟨w.heap.size + 1, 0, none⟩ = some (.slice r.pa N.ps.length r.cp) := by rw [hV]; simp
  have n1 : V.cell? ⟨w.heap.size + 1, 1, none⟩ = some (.slice r.sa N.ss.length r.cs) := by rw [hV]; simp
  have n2 : V.cell? ⟨w.heap.size + 1, 2, none⟩ = some (.slice r.ka N.ks.length r.ck) := by rw [hV]; simp
  clear h
  unfold leafG
  obtain ⟨C, hC⟩ : ∃ C, C = chkN p q N := ⟨_, rfl⟩
  rw [← hC] at HC ⊢
  clear hC
  by_cases h0 : C = 0
  · subst h0
    rw [decide_eq_true rfl, Bool.true_and]
    have e0 := lenz N.ks.length
    cases hb : decide (N.ks.length = 0) with
    | true =>
      rw [hb] at e0
      go_enter Tryz.func25, Tryz.ntmps25
      go_wp2_with fail
      rw [← hV]
      clear hV
      refine (HC.out _ t1).mono ?_
      rintro e W1 ⟨rfl, s1⟩
      have n2 := s1.keep n2
      go_wp2_with fail
      go_ret
      exact ⟨rfl, t1.trans s1⟩
    | false =>
      rw [hb] at e0
      go_enter Tryz.func25, Tryz.ntmps25
      go_wp2_with fail
      rw [← hV]
      clear hV
      refine (HC.out _ t1).mono ?_
      rintro e W1 ⟨rfl, s1⟩
      have n2 := s1.keep n2
      go_wp2_with fail
      go_ret
      exact ⟨rfl, t1.trans s1⟩
  · rw [decide_eq_false h0, Bool.false_and]
    go_enter Tryz.func25, Tryz.ntmps25
    go_wp2_with fail
    rw [← hV]
    clear hV
    refine (HC.out _ t1).mono ?_
    rintro e W1 ⟨rfl, s1⟩
    go_wp2_with fail
    go_ret
    exact ⟨rfl, t1.trans s1⟩
set_option maxRecDepth 100000 in
set_option maxHeartbeats 1000000 in
theorem askedG_calls {p q : Int} {b : Bool} (w : World) :
    Calls Tryz.prog 24 #[frameV p q, .bool b] w fun e w' => e = .returned (.int .i64 (askE p q b)) ∧ Same w w' := by
  have HR : Hid (∀ W, Calls Tryz.prog 48 #[frameV p q] W fun e w' => e = .returned (.bool (frameP p q)) ∧ Same W w') := right_calls p q
  obtain ⟨V, hV⟩ : ∃ V, V = w.alloc (.cells #[.int .i64 p, .int .i64 q] 23) := ⟨_, rfl⟩
  have t1 : Same w V := by rw [hV]; exact (Fr.refl _ w).alloc _
  have a0 : V.cell? ⟨w.heap.size, 0, none⟩ = some (.int .i64 p) := by rw [hV]; simp
  have a1 : V.cell? ⟨w.heap.size, 1, none⟩ = some (.int .i64 q) := by rw [hV]; simp
  unfold askE
  generalize frameP p q = F at *
  cases F <;> cases b
  all_goals
    go_enter Tryz.func24, Tryz.ntmps24
    go_wp2_with fail
    rw [← hV]
    refine (HR.out _).mono ?_
    rintro e W1 ⟨rfl, s1⟩
    go_wp2_with fail
    go_ret
    exact ⟨rfl, t1.trans s1⟩
set_option maxRecDepth 100000 in
set_option maxHeartbeats 1000000 in
theorem mayKeyG_calls {p q : Int} {key : ByteArray} (w : World) (hp : p = 1024 ∨ p = 2048 ∨ p = 4096 ∨ p = 8192) :
    Calls Tryz.prog 26 #[frameV p q, .string key] w fun e w' => e = .returned (.bool (decide (1 ≤ key.size) && decide ((key.size : Int) ≤ p / 16))) ∧ Same w w' := by
  have HM : Hid (∀ W, Calls Tryz.prog 49 #[frameV p q] W fun e w' => e = .returned (.int .i64 (p / 16)) ∧ Same W w') := MaxKey_calls hp
  obtain ⟨V, hV⟩ : ∃ V, V = w.alloc (.cells #[.int .i64 p, .int .i64 q] 23) := ⟨_, rfl⟩
  have t1 : Same w V := by rw [hV]; exact (Fr.refl _ w).alloc _
  have a0 : V.cell? ⟨w.heap.size, 0, none⟩ = some (.int .i64 p) := by rw [hV]; simp
  have a1 : V.cell? ⟨w.heap.size, 1, none⟩ = some (.int .i64 q) := by rw [hV]; simp
  obtain ⟨mk, hmk⟩ : ∃ mk : Int, mk = p / 16 := ⟨_, rfl⟩
  rw [← hmk] at HM ⊢
  clear hp hmk
  by_cases h1 : 1 ≤ key.size
  · have h1' : (1 : Int) ≤ (key.size : Int) := by omega
    rw [decide_eq_true h1, Bool.true_and]
    clear h1
    go_enter Tryz.func26, Tryz.ntmps26
    go_wp2_with fail
    rw [← hV]
    refine (HM.out _).mono ?_
    rintro e W1 ⟨rfl, s1⟩
    go_wp2_with fail
    go_ret
    exact ⟨rfl, t1.trans s1⟩
  · have h1' : ¬ (1 : Int) ≤ (key.size : Int) := by omega
    rw [decide_eq_false h1, Bool.false_and]
    go_enter Tryz.func26, Tryz.ntmps26
    go_wp2_with fail
    go_ret
    exact ⟨rfl, by rw [← hV]; exact t1⟩
end Go.Proofs.YtdmoglnbelembaaGreat
