/-
  Walks: Pack of the one number 1.
-/
import Derived.Test.YtjhnehhiahoelaaDoorT8
import Derived.LoopN
namespace Go.Proofs.YtjhnehhiahoelaaDoor
open Go.RowKit

theorem int1_bytes : ([] : List UInt8) ++ (UInt8.ofNat (20 + bytesN 1) :: (be8 1).drop (8 - bytesN 1)) = [21, 1] := by decide
theorem layInt1 (w : World) : Calls Tryd.prog 32 #[.slice none 0 0, .int .i64 1] w fun e w' => ∃ g cap, e = .returned (.slice (some ⟨g, 0, none⟩) 2 cap) ∧ Owns w' (.slice (some ⟨g, 0, none⟩) 2 cap) [21, 1] ∧ Same w w' := by
  have h := layInt_pos (w := w) (ao := none) (c := 0) (bs := []) 1 (by omega) (by omega) (World.ownsRow_nil _ _ _ _) (by simp)
  rw [int1_bytes] at h
  refine h.mono ?_
  rintro e w' ⟨g, cap, rfl, h1, h2⟩
  exact ⟨g, cap, rfl, h1, h2.1.mono (fun k _ e => by simp [Value.ownBlock] at e)⟩

set_option maxRecDepth 100000 in
set_option maxHeartbeats 1000000 in
theorem layItem1 (w : World) : Calls Tryd.prog 18 #[.slice none 0 0, itemV 3 false 1 0 ⟨#[]⟩ none 0 0] w fun e w' => ∃ g cap, e = .returned (.slice (some ⟨g, 0, none⟩) 2 cap) ∧ Owns w' (.slice (some ⟨g, 0, none⟩) 2 cap) [21, 1] ∧ Same w w' := by
  have sx : Same w (w.alloc (.cells #[.int .u8 3, .bool false, .int .i64 1, .float .f64 0, .string ⟨#[]⟩, .slice none 0 0] 26)) := (Fr.refl _ w).alloc _
  go_enter Tryd.func18, Tryd.ntmps18
  go_wp2_with fail
  refine (layInt1 _).mono ?_
  rintro e W1 ⟨g, cap, rfl, h1, s1⟩
  go_wp2_with fail
  go_ret
  exact ⟨g, cap, rfl, h1, sx.trans s1⟩

set_option maxRecDepth 100000 in
set_option maxHeartbeats 4000000 in
theorem layRow1 (w : World) (b o : Nat) (c0 : w.cell? ⟨b, o, none⟩ = some (.int .u8 3)) (c1 : w.cell? ⟨b, o + 1, none⟩ = some (.bool false)) (c2 : w.cell? ⟨b, o + 2, none⟩ = some (.int .i64 1)) (c3 : w.cell? ⟨b, o + 3, none⟩ = some (.float .f64 0)) (c4 : w.cell? ⟨b, o + 4, none⟩ = some (.string ⟨#[]⟩)) (c5 : w.cell? ⟨b, o + 5, none⟩ = some (.slice none 0 0)) :
    Calls Tryd.prog 11 #[.slice none 0 0, .slice (some ⟨b, o, none⟩) 1 1] w fun e w' => ∃ g cap, e = .returned (.slice (some ⟨g, 0, none⟩) 2 cap) ∧ Owns w' (.slice (some ⟨g, 0, none⟩) 2 cap) [21, 1] ∧ Same w w' := by
  have hsf := store_f64
  have sx : Same w (w.alloc (.cells #[.int .u8 3, .bool false, .int .i64 1, .float .f64 0, .string ⟨#[]⟩, .slice none 0 0] 26)) := (Fr.refl _ w).alloc _
  go_enter Tryd.func11, Tryd.ntmps11
  go_wp2_with fail
  refine wp_loop_rounds 3 ?_
  rw [rounds_succ]
  go_wp2_with fail
  refine (layItem1 _).mono ?_
  rintro e W1 ⟨g, cap, rfl, h1, s1⟩
  go_wp2_with fail
  rw [rounds_succ]
  go_wp2_with fail
  go_ret
  exact ⟨g, cap, rfl, h1, sx.trans s1⟩

/-- A row of one item without a list. -/
theorem row_one {w : World} {b o : Nat} (kd : Nat) (bb : Bool) (i : Int) (f : Nat) (s : ByteArray) (hi0 : -9223372036854775808 ≤ i) (hi1 : i ≤ 9223372036854775807) (hs : s.size ≤ 140737488355328) (hf : f < 18446744073709551616) (hkd : kd < 256) (c0 : w.cell? ⟨b, o, none⟩ = some (.int .u8 kd)) (c1 : w.cell? ⟨b, o + 1, none⟩ = some (.bool bb)) (c2 : w.cell? ⟨b, o + 2, none⟩ = some (.int .i64 i)) (c3 : w.cell? ⟨b, o + 3, none⟩ = some (.float .f64 f)) (c4 : w.cell? ⟨b, o + 4, none⟩ = some (.string s)) (c5 : w.cell? ⟨b, o + 5, none⟩ = some (.slice none 0 0)) (cp : Nat) :
    RowIn w.heap.size w (.slice (some ⟨b, o, none⟩) 1 cp) [.mk kd bb i f s []] := by
  refine ⟨some ⟨b, o, none⟩, cp, b, o, rfl, by simp, fun _ => ⟨rfl, World.block_lt_of_cell? _ _ c0⟩, ?_⟩
  intro k t hk
  cases k with
  | zero =>
    simp at hk
    subst hk
    exact .mk b _ kd bb i f s [] none 0 0 0 (by simpa using c0) (by simpa using c1) (by simpa using c2) (by simpa using c3) (by simpa using c4) (by simpa using c5) hi0 hi1 hs (by simp) hf hkd (by simp) (by simp)
  | succ k => simp at hk

theorem check_int1 : checkP [.mk 3 false 1 0 ⟨#[]⟩ []] = 0 := by decide +kernel
set_option maxRecDepth 100000 in
set_option maxHeartbeats 1000000 in
theorem pack_int1 (w : World) (b o : Nat) (c0 : w.cell? ⟨b, o, none⟩ = some (.int .u8 3)) (c1 : w.cell? ⟨b, o + 1, none⟩ = some (.bool false)) (c2 : w.cell? ⟨b, o + 2, none⟩ = some (.int .i64 1)) (c3 : w.cell? ⟨b, o + 3, none⟩ = some (.float .f64 0)) (c4 : w.cell? ⟨b, o + 4, none⟩ = some (.string ⟨#[]⟩)) (c5 : w.cell? ⟨b, o + 5, none⟩ = some (.slice none 0 0)) :
    Calls Tryd.prog 6 #[.slice (some ⟨b, o, none⟩) 1 1] w fun e w' => e = .returned (.tuple #[.string ⟨#[21, 1]⟩, .int .i64 0]) ∧ Same w w' := by
  have HC : Hid (Calls Tryd.prog 7 #[.slice (some ⟨b, o, none⟩) 1 1] w fun e w' => e = .returned (.int .i64 0) ∧ Same w w') := by
    have := check_calls [.mk 3 false 1 0 ⟨#[]⟩ []] (row_one (w := w) 3 false 1 0 ⟨#[]⟩ (by omega) (by omega) (by show (0 : Nat) ≤ _; omega) (by omega) (by omega) c0 c1 c2 c3 c4 c5 1) (Nat.le_refl _)
    rw [check_int1] at this
    exact this
  go_enter Tryd.func6, Tryd.ntmps6
  go_wp2_with fail
  refine HC.out.mono ?_
  rintro e W1 ⟨rfl, s1⟩
  go_wp2_with fail
  refine (layRow1 W1 b o (s1.keep c0) (s1.keep c1) (s1.keep c2) (s1.keep c3) (s1.keep c4) (s1.keep c5)).mono ?_
  rintro e W2 ⟨g, cap, rfl, h2, s2⟩
  have hcv := owns_string (P := Tryd.prog) h2 37 9 Tryd.underlying37 Tryd.underlying5 Tryd.underlying9
  go_wp2_with fail
  go_ret2
  exact ⟨rfl, s1.trans s2⟩
end Go.Proofs.YtjhnehhiahoelaaDoor
