/-
  Walks: SumsTogether.
-/
import Derived.Test.YtmdapkdnfjnmbaaDoorSAL
import Derived.Test.YtmdapkdnfjnmbaaDoorSG
namespace Go.Proofs.YtmdapkdnfjnmbaaDoor
open Go.RowKit

theorem crc_one (W : World) (b : Nat) (s : ByteArray) (hs : s.size ≤ 281474976710656) (h1 : TabAt W) (h2 : W.cell? ⟨b, 0, none⟩ = some (.string s)) : Calls Tryd.prog 9 #[.slice (some ⟨b, 0, none⟩) 1 1] W fun e w' => e = .returned (.int .u32 (moreP 0 s.data.toList).toNat) ∧ w' = W := by
  have := crc_calls W h1 [s] (some ⟨b, 0, none⟩) b 0 1 (fun _ => rfl) (by
    intro j t hj
    cases j with
    | zero => simp at hj; subst hj; exact h2
    | succ j => simp at hj) (by intro t ht; simp at ht; subst ht; exact hs) (by simp)
  exact this
theorem crc_three (W : World) (b : Nat) (x y z : ByteArray) (hx : x.size ≤ 281474976710656) (hy : y.size ≤ 281474976710656) (hz : z.size ≤ 281474976710656) (h1 : TabAt W) (h2 : W.cell? ⟨b, 0, none⟩ = some (.string x)) (h3 : W.cell? ⟨b, 1, none⟩ = some (.string y)) (h4 : W.cell? ⟨b, 2, none⟩ = some (.string z)) :
    Calls Tryd.prog 9 #[.slice (some ⟨b, 0, none⟩) 3 3] W fun e w' => e = .returned (.int .u32 (moreP (moreP (moreP 0 x.data.toList) y.data.toList) z.data.toList).toNat) ∧ w' = W := by
  have := crc_calls W h1 [x, y, z] (some ⟨b, 0, none⟩) b 0 3 (fun _ => rfl) (by
    intro j t hj
    match j, hj with
    | 0, hj => simp at hj; subst hj; exact h2
    | 1, hj => simp at hj; subst hj; exact h3
    | 2, hj => simp at hj; subst hj; exact h4
    | j + 3, hj => simp at hj) (by
      intro t ht
      simp at ht
      rcases ht with rfl | rfl | rfl
      · exact hx
      · exact hy
      · exact hz) (by simp)
  exact this
theorem bytes3 (x y z : ByteArray) : (x ++ y ++ z).data.toList = x.data.toList ++ y.data.toList ++ z.data.toList := by simp

set_option maxRecDepth 100000 in
set_option maxHeartbeats 400000 in
theorem stog_walk (w : World) (ht : TabAt w) (x y z : ByteArray) (hx : x.size ≤ 1048576) (hy : y.size ≤ 1048576) (hz : z.size ≤ 1048576) : Calls Tryd.prog 4 #[.string x, .string y, .string z] w fun e w' => e = .returned (.bool true) ∧ Same w w' := by
  have ly : y.data.toList.length = y.size := by simp
  have lz : z.data.toList.length = z.size := by simp
  have e1 := more_join (moreP 0 x.data.toList) y.data.toList (by omega)
  have e2 := more_join (moreP (moreP 0 x.data.toList) y.data.toList) z.data.toList (by omega)
  have e3 : moreP 0 (x ++ y ++ z).data.toList = moreP (moreP (moreP 0 x.data.toList) y.data.toList) z.data.toList := by rw [bytes3, more_app, more_app]
  rw [ly] at e1
  rw [lz] at e2
  have hX : (x ++ y ++ z).size ≤ 281474976710656 := by rw [ByteArray.size_append, ByteArray.size_append]; omega
  have HCX : Hid (∀ W b, TabAt W → W.cell? ⟨b, 0, none⟩ = some (.string (x ++ y ++ z)) → Calls Tryd.prog 9 #[.slice (some ⟨b, 0, none⟩) 1 1] W fun e w' => e = .returned (.int .u32 (moreP 0 (x ++ y ++ z).data.toList).toNat) ∧ w' = W) := fun W b h1 h2 => crc_one W b _ hX h1 h2
  have HCx : Hid (∀ W b, TabAt W → W.cell? ⟨b, 0, none⟩ = some (.string x) → Calls Tryd.prog 9 #[.slice (some ⟨b, 0, none⟩) 1 1] W fun e w' => e = .returned (.int .u32 (moreP 0 x.data.toList).toNat) ∧ w' = W) := fun W b h1 h2 => crc_one W b _ (by omega) h1 h2
  have HCy : Hid (∀ W b, TabAt W → W.cell? ⟨b, 0, none⟩ = some (.string y) → Calls Tryd.prog 9 #[.slice (some ⟨b, 0, none⟩) 1 1] W fun e w' => e = .returned (.int .u32 (moreP 0 y.data.toList).toNat) ∧ w' = W) := fun W b h1 h2 => crc_one W b _ (by omega) h1 h2
  have HCz : Hid (∀ W b, TabAt W → W.cell? ⟨b, 0, none⟩ = some (.string z) → Calls Tryd.prog 9 #[.slice (some ⟨b, 0, none⟩) 1 1] W fun e w' => e = .returned (.int .u32 (moreP 0 z.data.toList).toNat) ∧ w' = W) := fun W b h1 h2 => crc_one W b _ (by omega) h1 h2
  have HC3 : Hid (∀ W b, TabAt W → W.cell? ⟨b, 0, none⟩ = some (.string x) → W.cell? ⟨b, 1, none⟩ = some (.string y) → W.cell? ⟨b, 2, none⟩ = some (.string z) → Calls Tryd.prog 9 #[.slice (some ⟨b, 0, none⟩) 3 3] W fun e w' => e = .returned (.int .u32 (moreP (moreP (moreP 0 x.data.toList) y.data.toList) z.data.toList).toNat) ∧ w' = W) := fun W b h1 h2 h3 h4 => crc_three W b x y z (by omega) (by omega) (by omega) h1 h2 h3 h4
  have HJ1 : Hid (∀ W, Calls Tryd.prog 6 #[.int .u32 (moreP 0 x.data.toList).toNat, .int .u32 (moreP 0 y.data.toList).toNat, .int .i64 y.size] W fun e w' => e = .returned (.tuple #[.int .u32 (joinP (moreP 0 x.data.toList) (moreP 0 y.data.toList) y.size).toNat, .int .i64 0]) ∧ w' = W) := fun W => join_calls W _ _ y.size (by omega)
  have HJ2 : Hid (∀ W, Calls Tryd.prog 6 #[.int .u32 (moreP (moreP 0 x.data.toList) y.data.toList).toNat, .int .u32 (moreP 0 z.data.toList).toNat, .int .i64 z.size] W fun e w' => e = .returned (.tuple #[.int .u32 (joinP (moreP (moreP 0 x.data.toList) y.data.toList) (moreP 0 z.data.toList) z.size).toNat, .int .i64 0]) ∧ w' = W) := fun W => join_calls W _ _ z.size (by omega)
  have HM1 : Hid (∀ W, TabAt W → Calls Tryd.prog 10 #[.int .u32 (moreP 0 x.data.toList).toNat, .string y] W fun e w' => e = .returned (.int .u32 (moreP (moreP 0 x.data.toList) y.data.toList).toNat) ∧ w' = W) := fun W h => more_calls W _ y (by omega) h
  have HM2 : Hid (∀ W, TabAt W → Calls Tryd.prog 10 #[.int .u32 (moreP (moreP 0 x.data.toList) y.data.toList).toNat, .string z] W fun e w' => e = .returned (.int .u32 (moreP (moreP (moreP 0 x.data.toList) y.data.toList) z.data.toList).toNat) ∧ w' = W) := fun W h => more_calls W _ z (by omega) h
  rw [← e1] at HJ1
  rw [← e2] at HJ2
  rw [e3] at HCX
  have HT : Hid (TabAt w) := ht
  generalize moreP (moreP (moreP 0 x.data.toList) y.data.toList) z.data.toList = V at *
  generalize moreP (moreP 0 x.data.toList) y.data.toList = cxy at *
  generalize moreP 0 x.data.toList = cx at *
  generalize moreP 0 y.data.toList = cy at *
  generalize moreP 0 z.data.toList = cz at *
  clear e1 e2 e3 ht ly lz hX
  go_enter Tryd.func4, Tryd.ntmps4
  go_wp2_with fail
  have sa : Same w (w.alloc (.cells #[.string (x ++ y ++ z)] 9)) := (Fr.refl _ w).alloc _
  refine (HCX.out _ _ (HT.out.same (sa)) (by simp)).mono ?_
  rintro e W1 ⟨rfl, hW1⟩
  have s1 : Same w W1 := by rw [hW1]; exact sa
  clear hW1 sa
  go_wp2_with fail
  have sa : Same W1 (W1.alloc (.cells #[.string x] 9)) := (Fr.refl _ W1).alloc _
  refine (HCx.out _ _ (HT.out.same (s1.trans sa)) (by simp)).mono ?_
  rintro e W2 ⟨rfl, hW2⟩
  have s2 : Same w W2 := by rw [hW2]; exact s1.trans sa
  clear hW2 sa
  go_wp2_with fail
  have sa : Same W2 (W2.alloc (.cells #[.string y] 9)) := (Fr.refl _ W2).alloc _
  refine (HCy.out _ _ (HT.out.same (s2.trans sa)) (by simp)).mono ?_
  rintro e W3 ⟨rfl, hW3⟩
  have s3 : Same w W3 := by rw [hW3]; exact s2.trans sa
  clear hW3 sa
  go_wp2_with fail
  refine (HJ1.out _).mono ?_
  rintro e W9 ⟨rfl, hW9⟩
  rw [hW9]
  clear hW9
  go_wp2_with fail
  have sa : Same W3 (W3.alloc (.cells #[.string z] 9)) := (Fr.refl _ W3).alloc _
  refine (HCz.out _ _ (HT.out.same (s3.trans sa)) (by simp)).mono ?_
  rintro e W4 ⟨rfl, hW4⟩
  have s4 : Same w W4 := by rw [hW4]; exact s3.trans sa
  clear hW4 sa
  go_wp2_with fail
  refine (HJ2.out _).mono ?_
  rintro e W9 ⟨rfl, hW9⟩
  rw [hW9]
  clear hW9
  go_wp2_with fail
  have sa : Same W4 (W4.alloc (.cells #[.string x, .string y, .string z] 9)) := (Fr.refl _ W4).alloc _
  refine (HC3.out _ _ (HT.out.same (s4.trans sa)) (by simp) (by simp) (by simp)).mono ?_
  rintro e W5 ⟨rfl, hW5⟩
  have s5 : Same w W5 := by rw [hW5]; exact s4.trans sa
  clear hW5 sa
  go_wp2_with fail
  have sa : Same W5 (W5.alloc (.cells #[.string x] 9)) := (Fr.refl _ W5).alloc _
  refine (HCx.out _ _ (HT.out.same (s5.trans sa)) (by simp)).mono ?_
  rintro e W6 ⟨rfl, hW6⟩
  have s6 : Same w W6 := by rw [hW6]; exact s5.trans sa
  clear hW6 sa
  go_wp2_with fail
  refine (HM1.out _ (HT.out.same s6)).mono ?_
  rintro e W9 ⟨rfl, hW9⟩
  rw [hW9]
  clear hW9
  go_wp2_with fail
  refine (HM2.out _ (HT.out.same s6)).mono ?_
  rintro e W9 ⟨rfl, hW9⟩
  rw [hW9]
  clear hW9
  go_wp2_with fail
  refine (awake_calls W6 (HT.out.same s6)).mono ?_
  rintro e W7 ⟨rfl, s7⟩
  go_wp2_with fail
  go_ret
  exact ⟨rfl, s6.trans s7⟩
end Go.Proofs.YtmdapkdnfjnmbaaDoor
