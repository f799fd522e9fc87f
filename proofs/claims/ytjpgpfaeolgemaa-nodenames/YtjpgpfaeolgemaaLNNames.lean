/- NodeNames answers true: the numbers that node leans on are the document's, and a leaf and a branch have their forms and are read from them; no condition. -/
import Derived.Test.YtjpgpfaeolgemaaRows
import Derived.Test.YtjpgpfaeolgemaaNP
import Derived.ProofKit
import Derived.OpenShut
namespace Go.Proofs.Ytjpgpfaeolgemaa
open Go.ChangeShapes Go.WideShapes Go.ChangeAt Go.RowKit

set_option maxRecDepth 100000 in
set_option maxHeartbeats 1000000 in
theorem nnames_walk (w : World) : Calls Try.prog 3 #[] w fun e w' => e = .returned (.bool true) ∧ Same w w' := by
  have HL : Hid (∀ W, Calls Try.prog 13 #[] W fun e w' => e = .returned (.bool true) ∧ Same W w') := lives_calls
  have HK : Hid (∀ W, Calls Try.prog 8 #[frameV 4096 8] W fun e w' => e = .returned (.int .i64 256) ∧ Same W w') := fun W => MaxKey_calls (by decide) W
  have HM : Hid (∀ W, Calls Try.prog 9 #[frameV 4096 8] W fun e w' => e = .returned (.int .i64 512) ∧ Same W w') := fun W => MaxVal_calls (by decide) W
  have HR : Hid (∀ W, Calls Try.prog 10 #[frameV 4096 8] W fun e w' => e = .returned (.int .i64 4064) ∧ Same W w') := fun W => Room_calls (by decide) W
  have HLE : Hid (∀ W, Calls Try.prog 11 #[frameV 4096 8] W fun e w' => e = .returned (.int .i64 1355) ∧ Same W w') := fun W => by
    go_enter Try.func11, Try.ntmps11
    go_wp2_with fail
    refine (Room_calls (by decide) _).mono ?_
    rintro e W1 ⟨rfl, s1⟩
    go_wp2_with fail
    go_ret
    exact ⟨rfl, Same.trans ((Fr.refl _ W).alloc _) s1⟩
  have HSE : Hid (∀ W, Calls Try.prog 12 #[frameV 4096 8] W fun e w' => e = .returned (.int .i64 512) ∧ Same W w') := fun W => by
    go_enter Try.func12, Try.ntmps12
    go_wp2_with fail
    go_ret
    exact ⟨rfl, (Fr.refl _ W).alloc _⟩
  have a0 : (w.alloc (.cells #[.int .i64 4096, .int .i64 8] 23)).cell? ⟨w.heap.size, 0, none⟩ = some (.int .i64 4096) := by simp
  have a1 : (w.alloc (.cells #[.int .i64 4096, .int .i64 8] 23)).cell? ⟨w.heap.size, 1, none⟩ = some (.int .i64 8) := by simp
  have sx : Same w (w.alloc (.cells #[.int .i64 4096, .int .i64 8] 23)) := (Fr.refl _ w).alloc _
  go_enter Try.func3, Try.ntmps3
  go_wp2_with fail
  generalize (w.alloc (.cells #[.int .i64 4096, .int .i64 8] 23)) = V at *
  refine (HK.out _).mono ?_
  rintro e W1 ⟨rfl, s1⟩
  have t1 := sx.trans s1
  have a0 := s1.keep a0
  have a1 := s1.keep a1
  go_wp2_with fail
  refine (HM.out _).mono ?_
  rintro e W2 ⟨rfl, s2⟩
  have t1 := t1.trans s2
  have a0 := s2.keep a0
  have a1 := s2.keep a1
  go_wp2_with fail
  refine (HR.out _).mono ?_
  rintro e W2 ⟨rfl, s2⟩
  have t1 := t1.trans s2
  have a0 := s2.keep a0
  have a1 := s2.keep a1
  go_wp2_with fail
  refine (HLE.out _).mono ?_
  rintro e W2 ⟨rfl, s2⟩
  have t1 := t1.trans s2
  have a0 := s2.keep a0
  have a1 := s2.keep a1
  go_wp2_with fail
  refine (HSE.out _).mono ?_
  rintro e W2 ⟨rfl, s2⟩
  have t1 := t1.trans s2
  have a0 := s2.keep a0
  have a1 := s2.keep a1
  go_wp2_with fail
  refine (HL.out _).mono ?_
  rintro e W3 ⟨rfl, s3⟩
  go_wp2_with fail
  go_ret
  exact ⟨rfl, t1.trans s3⟩

theorem nd_own : ownKnob Try.prog.godebug = none := by kernel_rfl
theorem nd_laidOut : laidOutB Try.prog = true := by kernel_rfl

set_option maxRecDepth 100000 in
theorem nnames_lifted (os : Os) (started : os.Started) (H : Type) (enc : TypeId × Value → H) :
    ReturnsInHanded {} Try.checked os 3 .any (Rows.nodeNamesSpec.pre6 enc Try.prog Try.f3 Rows.nodeNamesRow.domain false) (Rows.nodeNamesSpec.post enc Try.prog Try.f3 false true false false) := by
  refine returnsInHanded_of_change (C := Try.checked) nd_own started (by kernel_rfl) Try.func3
    (ChangeSpec.witness6 (enc := enc) (C := Try.checked) false ⟨#[], #[], []⟩ 8 (by kernel_rfl) (by kernel_rfl) (by kernel_rfl) (by kernel_rfl)) ?_
  intro W base args ds gs before hval0 hW hcnd _
  have hW' := hW
  obtain ⟨p, q, hA0, hV, rfl, hfz, hnd⟩ := hW
  have hA : DataW.TrodAll enc Try.prog W 0 (fun _ => true) true Try.f3.params.toList args.toList ds p := hA0
  rw [Try.params3] at hA
  obtain ⟨hargs, rfl, rfl⟩ := trodAll_nil hA
  obtain rfl : args = #[] := by cases args; simp_all
  obtain ⟨rfl, rfl⟩ := trodVars_none hV
  clear hA0 hval0
  refine (nnames_walk W).mono fun e W' ⟨he, sm⟩ => ?_
  subst he
  have bel : Below W.heap.size W W' := Fr.below sm (Nat.le_refl _) (fun _ f => f.elim)
  exact ⟨_, rfl, _, _, _, [], _, [], hW', trodAll_mk1 (shut_bool Try.underlying4 _), trodAll_mk0, rfl, bel.frame _, fun h => by cases h⟩

theorem nnames_holds : Rows.NodeNamesSaid :=
  OpenClaim.holds_of_wide 3 Try.f3 rfl rfl rfl rfl rfl rfl rfl ⟨rfl, rfl, rfl, rfl, rfl⟩ rfl rfl rfl rfl rfl (by kernel_rfl) Try.func3 (by kernel_rfl)
    (of_decide_eq_true (by kernel_rfl)) (by unfold Func.isWrapper; first | (rw [if_pos (by decide +kernel)]; kernel_rfl) | (rw [if_neg (by decide +kernel)]; exact ⟨rfl, rfl⟩))
    (fun os started H enc _ => nnames_lifted os started H enc)
end Go.Proofs.Ytjpgpfaeolgemaa
