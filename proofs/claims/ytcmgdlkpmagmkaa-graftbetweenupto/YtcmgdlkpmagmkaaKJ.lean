/- The walks of GraftNames, GraftBetween, GraftSeparates. -/
import Derived.Test.YtcmgdlkpmagmkaaKI
import Derived.Test.YtcmgdlkpmagmkaaK7
namespace Go.Proofs.Ytcmgdlkpmagmkaa
open Go.RowKit

set_option maxRecDepth 100000 in
set_option maxHeartbeats 1000000 in
theorem gnames_walk (w : World) : Calls Try.prog 3 #[] w fun e w' => e = .returned (.bool true) ∧ Same w w' := by
  go_enter Try.func3, Try.ntmps3
  go_wp2_with fail
  refine (awake_calls _).mono ?_
  rintro e W1 ⟨rfl, s1⟩
  go_wp2_with fail
  go_ret
  exact ⟨rfl, s1⟩
set_option maxRecDepth 100000 in
set_option maxHeartbeats 1000000 in
theorem gbetween_walk {l r : ByteArray} (w : World) (hl : l.size ≤ 1048576) (hr : r.size ≤ 1048576) : Calls Try.prog 4 #[.string l, .string r] w fun e w' => e = .returned (.bool true) ∧ Same w w' := by
  obtain ⟨x, n, HA, HB⟩ : ∃ (x : ByteArray) (n : Int), Hid (∀ W, Calls Try.prog 10 #[.string l, .string r] W fun e w' => e = .returned (.tuple #[.string x, .int .i64 n]) ∧ Same W w') ∧ Hid (∀ W, Calls Try.prog 11 #[.string l, .string r] W fun e w' => e = .returned (.tuple #[.string x, .int .i64 n]) ∧ Same W w') := by
    cases h : Op.bytesLess l.toList r.toList with
    | true => exact ⟨_, 0, fun W => between_more W h (by omega), fun W => rbetween_more W h (by omega)⟩
    | false => exact ⟨_, 81, fun W => (between_less W h).mono fun e w' ⟨he, hw⟩ => ⟨he, by rw [hw]; exact Fr.refl _ _⟩, fun W => rbetween_less W h (by omega)⟩
  have e1 : (x.toList == x.toList) = true := by simp
  have e2 : (n == n) = true := by simp
  go_enter Try.func4, Try.ntmps4
  go_wp2_with fail
  refine (HA.out _).mono ?_
  rintro e W1 ⟨rfl, s1⟩
  go_wp2_with fail
  refine (HB.out _).mono ?_
  rintro e W2 ⟨rfl, s2⟩
  go_wp2_with fail
  refine (awake_calls _).mono ?_
  rintro e W3 ⟨rfl, s3⟩
  go_wp2_with fail
  go_ret
  exact ⟨rfl, (s1.trans s2).trans s3⟩
theorem less_self : ∀ x : List UInt8, Op.bytesLess x x = false := by
  intro x
  induction x with
  | nil => rfl
  | cons a l ih => simp [Op.bytesLess, ih]
theorem not_or {a b : Bool} (h : (!a && !b) = false) : (a = true) ∨ (a = false ∧ b = true) := by cases a <;> cases b <;> simp_all
theorem not_and {a b : Bool} (h : (!a && !b) = true) : a = false ∧ b = false := by cases a <;> cases b <;> simp_all
theorem sep_facts {l r : ByteArray} (h : Op.bytesLess l.toList r.toList = true) : ∃ (C : Nat) (x y : ByteArray), C = comP l.data.toList r.data.toList ∧ C < r.size ∧ x = r.extract 0 (C + 1) ∧ y = r.extract 0 C ∧ x.size = C + 1 ∧
    (Op.bytesLess x.toList l.toList = false ∧ (x.toList == l.toList) = false) ∧ (Op.bytesLess x.toList r.toList = true ∨ (Op.bytesLess x.toList r.toList = false ∧ (x.toList == r.toList) = true)) ∧ (Op.bytesLess y.toList l.toList = true ∨ (Op.bytesLess y.toList l.toList = false ∧ (y.toList == l.toList) = true)) := by
  have h' := h
  rw [ByteArray.toList_eq, ByteArray.toList_eq] at h'
  obtain ⟨_, c2⟩ := com_less h'
  have c2' := c2
  rw [bytes_length'] at c2'
  refine ⟨_, _, _, rfl, c2', rfl, rfl, ?_, not_and ?_, not_or ?_, not_or ?_⟩
  · rw [ByteArray.size_extract]; omega
  · rw [ext_less, less_take h' (by omega)]; simp
  · rw [ext_less]; exact not_less_take (less_self _)
  · rw [ext_less, less_take h' (by omega)]; simp
set_option maxRecDepth 100000 in
set_option maxHeartbeats 1000000 in
theorem gsep_walk {l r : ByteArray} (w : World) (hr : r.size ≤ maxLen) : Calls Try.prog 5 #[.string l, .string r] w fun e w' => e = .returned (.bool true) ∧ Same w w' := by
  cases h : Op.bytesLess l.toList r.toList with
  | false =>
    clear hr
    go_enter Try.func5, Try.ntmps5
    go_wp2_with fail
    refine (between_less _ h).mono ?_
    rintro e W1 ⟨rfl, rfl⟩
    go_wp2_with fail
    refine (awake_calls _).mono ?_
    rintro e W3 ⟨rfl, s3⟩
    go_wp2_with fail
    go_ret
    exact ⟨rfl, s3⟩
  | true =>
    obtain ⟨C, x, y, hC, h1, hx, hy, hn, ⟨f1, f2⟩, f3, f4⟩ := sep_facts h
    unfold maxLen at hr
    have HB : Hid (∀ W, Calls Try.prog 10 #[.string l, .string r] W fun e w' => e = .returned (.tuple #[.string x, .int .i64 0]) ∧ Same W w') := fun W => by
      have := between_core W h (by omega)
      rw [← hC, ← hx] at this
      exact this
    have i0 : ((C + 1 : Nat) : Int) - 1 = (C : Int) := by omega
    have i1 : RowKit.wrap64 (C : Int) = (C : Int) := by unfold RowKit.wrap64; omega
    have i2 : ¬ ((C + 1 : Nat) : Int) < 1 := by omega
    have i3 : ¬ (r.size : Int) < ((C + 1 : Nat) : Int) := by omega
    have i4 : ((C + 1 : Nat) : Int) ≤ (r.size : Int) := by omega
    have i5 : (C : Int) ≤ (r.size : Int) := by omega
    have i6 : ((C + 1 : Nat) : Int).toNat = C + 1 := by omega
    have i7 : (C : Int).toNat = C := by omega
    have hx' := hx.symm
    have hy' := hy.symm
    have e1 : (x.toList == x.toList) = true := by simp
    clear hC hx hy h1
    obtain ⟨n, hn'⟩ : ∃ n, n = C + 1 := ⟨_, rfl⟩
    rw [← hn'] at hn hx' i0 i2 i3 i4 i6
    have i8 : (0 : Int) ≤ (n : Int) := by omega
    have i9 : (0 : Int) ≤ (C : Int) := by omega
    clear hn'
    rcases f3 with f3 | ⟨f3, f5⟩ <;> rcases f4 with f4 | ⟨f4, f6⟩
    all_goals
      go_enter Try.func5, Try.ntmps5
      go_wp2_with fail
      refine (HB.out _).mono ?_
      rintro e W1 ⟨rfl, s1⟩
      go_wp2_with fail
      refine (awake_calls _).mono ?_
      rintro e W3 ⟨rfl, s3⟩
      go_wp2_with fail
      go_ret
      exact ⟨rfl, s1.trans s3⟩
end Go.Proofs.Ytcmgdlkpmagmkaa
