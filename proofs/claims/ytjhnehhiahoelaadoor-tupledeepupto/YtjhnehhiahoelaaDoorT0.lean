/-
  Walks: mayBe, width, ownSize.
-/
import Derived.Test.YtjhnehhiahoelaaDoorChecked
import Derived.WalkKit
import Derived.ProofKit
import Derived.Handy
import Derived.Test.YtjhnehhiahoelaaDoorPF
import Derived.Laws.Externs
namespace Go.Proofs.YtjhnehhiahoelaaDoor
open Go.RowKit

theorem f64bits (W : World) (x : Nat) : (callFunc 53 #[.float .f64 x]).run Tryd.prog W = .ok (.value (.int .u64 (x : Int))) W := by
  rw [run_callFunc_extern Tryd.func53 (by kernel_rfl) (by kernel_rfl) (by kernel_rfl) (e := Extern.MathFloatBits.float64bits) (by kernel_rfl)]
  rfl

theorem store_f64 (W : World) (a : Addr) (x : Nat) (m : Mode) : (store a (.float .f64 x) m).run Tryd.prog W = stored Tryd.prog W a (.float .f64 x) m := run_store _ _ _ _ _ rfl

/-- An item's value. -/
abbrev itemV (kd : Nat) (b : Bool) (i : Int) (f : Nat) (s : ByteArray) (a : Option Addr) (l c : Nat) : Value := .agg #[.int .u8 kd, .bool b, .int .i64 i, .float .f64 f, .string s, .slice a l c]
/-- An item may be. -/
def mayP (kd : Nat) (b : Bool) (i : Int) (f : Nat) (s : ByteArray) (l : Nat) : Bool :=
  decide (1 ≤ kd ∧ kd ≤ 6) && (kd == 2 || !b) && (kd == 3 || decide (i = 0)) && (kd == 4 || decide (f = 0)) && (kd == 5 || s.toList.isEmpty) && (kd == 6 || decide (l = 0))

theorem natz (l : Nat) : ((l : Int) == 0) = decide (l = 0) := by
  rw [Bool.eq_iff_iff, beq_iff_eq, decide_eq_true_eq]; omega
set_option maxRecDepth 100000 in
set_option maxHeartbeats 4000000 in
theorem mayBe_1 (w : World) (b : Bool) (i : Int) (f : Nat) (s : ByteArray) (a : Option Addr) (l c : Nat) : Calls Tryd.prog 37 #[itemV 1 b i f s a l c] w fun e w' => e = .returned (.bool (mayP 1 b i f s l)) ∧ Same w w' := by
  have hfb := f64bits
  have hsf := store_f64
  go_enter Tryd.func37, Tryd.ntmps37
  go_wp2
  all_goals go_ret
  all_goals refine ⟨?_, by repeat' (first | exact Fr.refl _ _ | refine Fr.drewN ?_ _ | refine Fr.drew ?_ | refine Fr.setCell ?_ (fun h => by simp only at h; omega) _ | refine Fr.alloc ?_ _)⟩
  all_goals first | (simp [mayP, *]; done) | (simp [mayP, natz, *]; done)
set_option maxRecDepth 100000 in
set_option maxHeartbeats 4000000 in
theorem mayBe_2 (w : World) (b : Bool) (i : Int) (f : Nat) (s : ByteArray) (a : Option Addr) (l c : Nat) : Calls Tryd.prog 37 #[itemV 2 b i f s a l c] w fun e w' => e = .returned (.bool (mayP 2 b i f s l)) ∧ Same w w' := by
  have hfb := f64bits
  have hsf := store_f64
  go_enter Tryd.func37, Tryd.ntmps37
  go_wp2
  all_goals go_ret
  all_goals refine ⟨?_, by repeat' (first | exact Fr.refl _ _ | refine Fr.drewN ?_ _ | refine Fr.drew ?_ | refine Fr.setCell ?_ (fun h => by simp only at h; omega) _ | refine Fr.alloc ?_ _)⟩
  all_goals first | (simp [mayP, *]; done) | (simp [mayP, natz, *]; done)
set_option maxRecDepth 100000 in
set_option maxHeartbeats 4000000 in
theorem mayBe_3 (w : World) (b : Bool) (i : Int) (f : Nat) (s : ByteArray) (a : Option Addr) (l c : Nat) : Calls Tryd.prog 37 #[itemV 3 b i f s a l c] w fun e w' => e = .returned (.bool (mayP 3 b i f s l)) ∧ Same w w' := by
  have hfb := f64bits
  have hsf := store_f64
  go_enter Tryd.func37, Tryd.ntmps37
  go_wp2
  all_goals go_ret
  all_goals refine ⟨?_, by repeat' (first | exact Fr.refl _ _ | refine Fr.drewN ?_ _ | refine Fr.drew ?_ | refine Fr.setCell ?_ (fun h => by simp only at h; omega) _ | refine Fr.alloc ?_ _)⟩
  all_goals first | (simp [mayP, *]; done) | (simp [mayP, natz, *]; done)
set_option maxRecDepth 100000 in
set_option maxHeartbeats 4000000 in
theorem mayBe_4 (w : World) (b : Bool) (i : Int) (f : Nat) (s : ByteArray) (a : Option Addr) (l c : Nat) : Calls Tryd.prog 37 #[itemV 4 b i f s a l c] w fun e w' => e = .returned (.bool (mayP 4 b i f s l)) ∧ Same w w' := by
  have hfb := f64bits
  have hsf := store_f64
  go_enter Tryd.func37, Tryd.ntmps37
  go_wp2
  all_goals go_ret
  all_goals refine ⟨?_, by repeat' (first | exact Fr.refl _ _ | refine Fr.drewN ?_ _ | refine Fr.drew ?_ | refine Fr.setCell ?_ (fun h => by simp only at h; omega) _ | refine Fr.alloc ?_ _)⟩
  all_goals first | (simp [mayP, *]; done) | (simp [mayP, natz, *]; done)
set_option maxRecDepth 100000 in
set_option maxHeartbeats 4000000 in
theorem mayBe_5 (w : World) (b : Bool) (i : Int) (f : Nat) (s : ByteArray) (a : Option Addr) (l c : Nat) : Calls Tryd.prog 37 #[itemV 5 b i f s a l c] w fun e w' => e = .returned (.bool (mayP 5 b i f s l)) ∧ Same w w' := by
  have hfb := f64bits
  have hsf := store_f64
  go_enter Tryd.func37, Tryd.ntmps37
  go_wp2
  all_goals go_ret
  all_goals refine ⟨?_, by repeat' (first | exact Fr.refl _ _ | refine Fr.drewN ?_ _ | refine Fr.drew ?_ | refine Fr.setCell ?_ (fun h => by simp only at h; omega) _ | refine Fr.alloc ?_ _)⟩
  all_goals first | (simp [mayP, *]; done) | (simp [mayP, natz, *]; done)
set_option maxRecDepth 100000 in
set_option maxHeartbeats 4000000 in
theorem mayBe_6 (w : World) (b : Bool) (i : Int) (f : Nat) (s : ByteArray) (a : Option Addr) (l c : Nat) : Calls Tryd.prog 37 #[itemV 6 b i f s a l c] w fun e w' => e = .returned (.bool (mayP 6 b i f s l)) ∧ Same w w' := by
  have hfb := f64bits
  have hsf := store_f64
  go_enter Tryd.func37, Tryd.ntmps37
  go_wp2
  all_goals go_ret
  all_goals refine ⟨?_, by repeat' (first | exact Fr.refl _ _ | refine Fr.drewN ?_ _ | refine Fr.drew ?_ | refine Fr.setCell ?_ (fun h => by simp only at h; omega) _ | refine Fr.alloc ?_ _)⟩
  all_goals first | (simp [mayP, *]; done) | (simp [mayP, natz, *]; done)
set_option maxRecDepth 100000 in
set_option maxHeartbeats 4000000 in
theorem mayBe_other (w : World) (kd : Nat) (hk : kd = 0 ∨ 6 < kd) (b : Bool) (i : Int) (f : Nat) (s : ByteArray) (a : Option Addr) (l c : Nat) : Calls Tryd.prog 37 #[itemV kd b i f s a l c] w fun e w' => e = .returned (.bool false) ∧ Same w w' := by
  have n1 : ¬ (kd : Int) = 1 := by omega
  have n2 : ¬ (kd : Int) = 2 := by omega
  have n3 : ¬ (kd : Int) = 3 := by omega
  have n4 : ¬ (kd : Int) = 4 := by omega
  have n5 : ¬ (kd : Int) = 5 := by omega
  have n6 : ¬ (kd : Int) = 6 := by omega
  clear hk
  go_enter Tryd.func37, Tryd.ntmps37
  go_wp2
  all_goals go_ret
  all_goals refine ⟨?_, by repeat' (first | exact Fr.refl _ _ | refine Fr.drewN ?_ _ | refine Fr.drew ?_ | refine Fr.setCell ?_ (fun h => by simp only at h; omega) _ | refine Fr.alloc ?_ _)⟩
  all_goals (simp; done)
theorem mayBe_calls (w : World) (kd : Nat) (b : Bool) (i : Int) (f : Nat) (s : ByteArray) (a : Option Addr) (l c : Nat) : Calls Tryd.prog 37 #[itemV kd b i f s a l c] w fun e w' => e = .returned (.bool (mayP kd b i f s l)) ∧ Same w w' := by
  by_cases h1 : kd = 1
  · subst h1; exact mayBe_1 w b i f s a l c
  by_cases h2 : kd = 2
  · subst h2; exact mayBe_2 w b i f s a l c
  by_cases h3 : kd = 3
  · subst h3; exact mayBe_3 w b i f s a l c
  by_cases h4 : kd = 4
  · subst h4; exact mayBe_4 w b i f s a l c
  by_cases h5 : kd = 5
  · subst h5; exact mayBe_5 w b i f s a l c
  by_cases h6 : kd = 6
  · subst h6; exact mayBe_6 w b i f s a l c
  have hk : kd = 0 ∨ 6 < kd := by omega
  have e : mayP kd b i f s l = false := by
    unfold mayP
    rw [decide_eq_false (by omega)]; simp
  rw [e]
  exact mayBe_other w kd hk b i f s a l c
end Go.Proofs.YtjhnehhiahoelaaDoor
