/-
  Walks: ownSize.
-/
import Derived.Test.YtjhnehhiahoelaaDoorT1
import Derived.Lib.Bytealg
import Derived.Deep.QuietTactic
import Derived.Deep.RegionHeld3
import Derived.Deep.RegionWith
namespace Go.Proofs.YtjhnehhiahoelaaDoor
open Go.RowKit

/-- How many bytes of a text are 00. -/
def zerosN (s : ByteArray) : Nat := Lib.countByte s.data.toList 0
theorem zerosN_le (s : ByteArray) : zerosN s ≤ s.size := by
  unfold zerosN Lib.countByte
  have h := List.count_le_length (a := (0 : UInt8)) (l := s.data.toList)
  rw [Array.length_toList] at h
  exact h

theorem countS (W : World) (s : ByteArray) : (callFunc 64 #[.string s, .int .u8 0]).run Tryd.prog W = .ok (.value (.int .i64 (zerosN s))) W := by
  rw [run_callFunc_extern Tryd.func64 (by kernel_rfl) (by kernel_rfl) (by kernel_rfl) (e := Extern.BytealgCount.count) (by kernel_rfl)]
  have := Lib.run_countString (P := Tryd.prog) s 0 W
  rw [this]
  simp [Result.andThen, zerosN]

set_option maxRecDepth 100000 in
theorem count_calls (w : World) (s : ByteArray) : Calls Tryd.prog 54 #[.string s, .string ⟨#[0]⟩] w fun e w' => e = .returned (.int .i64 (zerosN s)) ∧ w' = w := by
  have hc := countS
  have hz0 : ((⟨#[0]⟩ : ByteArray)[0]).toNat = 0 := rfl
  go_enter Tryd.func54, Tryd.ntmps54
  go_wp2
  all_goals go_ret
  all_goals exact ⟨rfl, rfl⟩

/-- How many bytes an item has, those of its list's items aside. -/
def ownN (kd : Nat) (i : Int) (s : ByteArray) : Nat := if kd = 3 then 1 + widthI i else if kd = 4 then 9 else if kd = 5 then 1 + s.size + zerosN s + 2 else if kd = 6 then 2 else 1

set_option maxRecDepth 100000 in
set_option maxHeartbeats 1000000 in
theorem ownSize_calls (w : World) (kd : Nat) (b : Bool) (i : Int) (h0 : -9223372036854775808 ≤ i) (h1 : i ≤ 9223372036854775807) (f : Nat) (s : ByteArray) (hs : s.size ≤ 281474976710656) (a : Option Addr) (l c : Nat) :
    Calls Tryd.prog 38 #[itemV kd b i f s a l c] w fun e w' => e = .returned (.int .i64 (ownN kd i s)) ∧ Same w w' := by
  have hz := zerosN_le s
  have hw := widthI_le i
  have HW : Hid (∀ W, Calls Tryd.prog 52 #[.int .i64 i] W fun e w' => e = .returned (.int .i64 (widthI i)) ∧ w' = W) := fun W => width_calls i h0 h1 W
  have HC : Hid (∀ W, Calls Tryd.prog 54 #[.string s, .string ⟨#[0]⟩] W fun e w' => e = .returned (.int .i64 (zerosN s)) ∧ w' = W) := fun W => count_calls W s
  by_cases k3 : kd = 3
  · subst k3
    go_enter Tryd.func38, Tryd.ntmps38
    go_wp2_with (first | (go_at_call 52; refine (HW.out _).mono ?_; rintro e w' ⟨rfl, rfl⟩))
    all_goals go_ret
    all_goals exact ⟨by simp [ownN]; try go_arith, by repeat' (first | exact Fr.refl _ _ | refine Fr.drewN ?_ _ | refine Fr.drew ?_ | refine Fr.setCell ?_ (fun h => by simp only at h; omega) _ | refine Fr.alloc ?_ _)⟩
  by_cases k4 : kd = 4
  · subst k4
    go_enter Tryd.func38, Tryd.ntmps38
    go_wp2_with fail
    all_goals go_ret
    all_goals exact ⟨by simp [ownN], by repeat' (first | exact Fr.refl _ _ | refine Fr.drewN ?_ _ | refine Fr.drew ?_ | refine Fr.setCell ?_ (fun h => by simp only at h; omega) _ | refine Fr.alloc ?_ _)⟩
  by_cases k5 : kd = 5
  · subst k5
    go_enter Tryd.func38, Tryd.ntmps38
    go_wp2_with fail
    go_quiet (first | (go_at_call 54; refine Calls.quiet_of_same (HC.out _)))
    go_wp2
    all_goals go_ret
    all_goals exact ⟨by simp [ownN]; try go_arith, by repeat' (first | exact Fr.refl _ _ | refine Fr.drewN ?_ _ | refine Fr.drew ?_ | refine Fr.setCell ?_ (fun h => by simp only at h; omega) _ | refine Fr.alloc ?_ _)⟩
  by_cases k6 : kd = 6
  · subst k6
    go_enter Tryd.func38, Tryd.ntmps38
    go_wp2_with fail
    all_goals go_ret
    all_goals exact ⟨by simp [ownN], by repeat' (first | exact Fr.refl _ _ | refine Fr.drewN ?_ _ | refine Fr.drew ?_ | refine Fr.setCell ?_ (fun h => by simp only at h; omega) _ | refine Fr.alloc ?_ _)⟩
  have n3 : ¬ (kd : Int) = 3 := by omega
  have n4 : ¬ (kd : Int) = 4 := by omega
  have n5 : ¬ (kd : Int) = 5 := by omega
  have n6 : ¬ (kd : Int) = 6 := by omega
  go_enter Tryd.func38, Tryd.ntmps38
  go_wp2_with fail
  all_goals go_ret
  all_goals exact ⟨by simp [ownN, k3, k4, k5, k6], by repeat' (first | exact Fr.refl _ _ | refine Fr.drewN ?_ _ | refine Fr.drew ?_ | refine Fr.setCell ?_ (fun h => by simp only at h; omega) _ | refine Fr.alloc ?_ _)⟩
end Go.Proofs.YtjhnehhiahoelaaDoor
