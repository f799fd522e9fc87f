/-
  Walks: firstTag of a text that Text made.
-/
import Derived.Test.YtpkpklbambmbeaaDoorSR
import Derived.Test.YtpkpklbambmbeaaDoorSV
namespace Go.Proofs.YtpkpklbambmbeaaDoor
open Go.RowKit

theorem ext_mid {T : ByteArray} {a b c : List UInt8} {s : ByteArray} {i j : Nat} (h : T.data.toList = a ++ (b ++ c)) (hb : s.data.toList = b) (hi : i = a.length) (hj : j = a.length + b.length) : T.extract i j = s := by
  have e : (T.extract i j).data.toList = s.data.toList := by
    rw [ByteArray.data_extract, Array.toList_extract, List.extract_eq_take_drop, h, hb, hi, hj, List.drop_left, Nat.add_sub_cancel_left, List.take_left]
  cases s
  generalize T.extract i j = X at *
  cases X
  simpa using e

set_option maxRecDepth 100000 in
set_option maxHeartbeats 400000 in
theorem ftag_calls (w : World) (T tag R : ByteArray) (ht : 1 ≤ tag.size ∧ tag.size ≤ 64) (hT : T.data.toList = UInt8.ofNat tag.size :: tag.data.toList ++ R.data.toList) :
    Calls Tryd.prog 15 #[.string T] w fun e w' => e = .returned (.tuple #[.string tag, .string R, .bool true]) ∧ Same w w' := by
  have HT : Hid (∀ W, Calls Tryd.prog 25 #[.int .i64 tag.size] W fun e w' => e = .returned (.bool true) ∧ w' = W) := by
    intro W
    have := isTag_calls W tag.size
    rw [decide_eq_true (by omega)] at this
    exact this
  have hsz : T.size = 1 + tag.size + R.size := by
    have := congrArg List.length hT
    simp only [List.length_cons, List.length_append, bytes_length] at this
    omega
  have hq : T.toList.isEmpty = false := by
    rw [ByteArray.toList_eq, hT]; rfl
  have h0 : 0 < T.size := by omega
  have hw : wrap64 ((T[0]'h0).toNat : Int) = (tag.size : Int) := by
    have e : T[0]'h0 = UInt8.ofNat tag.size := by
      obtain ⟨⟨l⟩⟩ := T
      simp only at hT
      subst hT
      rfl
    rw [e, UInt8.toNat_ofNat']
    have : tag.size % 256 = tag.size := by omega
    rw [this]
    rw [wrap64]; omega
  have HTT : Hid (T.data.toList = UInt8.ofNat tag.size :: tag.data.toList ++ R.data.toList) := hT
  clear hT
  have hle : ¬ (T.size : Int) ≤ (tag.size : Int) := by omega
  go_enter Tryd.func15, Tryd.ntmps15
  go_wp2_with fail
  refine (HT.out _).mono ?_
  rintro e W1 ⟨rfl, hW1⟩
  rw [hW1]
  clear hW1
  go_wp2_with fail
  go_region
  have x1 : T.extract 1 (1 + tag.size) = tag := ext_mid (a := [UInt8.ofNat tag.size]) HTT.out rfl rfl (by rw [bytes_length]; rfl)
  have x2 : T.extract (1 + tag.size) (1 + tag.size + R.size) = R := ext_mid (a := UInt8.ofNat tag.size :: tag.data.toList) (c := []) (by rw [List.append_nil]; exact HTT.out) rfl (by rw [List.length_cons, bytes_length]; omega) (by rw [List.length_cons, bytes_length, bytes_length]; omega)
  rw [x1, x2]
  go_wp2_with fail
  go_ret3
  exact ⟨rfl, Fr.drew (Fr.refl _ w)⟩
end Go.Proofs.YtpkpklbambmbeaaDoor
