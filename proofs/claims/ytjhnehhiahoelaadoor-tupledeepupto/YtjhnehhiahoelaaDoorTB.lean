/-
  Walks: Pack of the one null.
-/
import Derived.Test.YtjhnehhiahoelaaDoorTA
namespace Go.Proofs.YtjhnehhiahoelaaDoor
open Go.RowKit

set_option maxRecDepth 100000 in
set_option maxHeartbeats 1000000 in
theorem layNull (w : World) : Calls Tryd.prog 18 #[.slice none 0 0, itemV 1 false 0 0 ⟨#[]⟩ none 0 0] w fun e w' => ∃ g cap, e = .returned (.slice (some ⟨g, 0, none⟩) 1 cap) ∧ Owns w' (.slice (some ⟨g, 0, none⟩) 1 cap) [1] ∧ Same w w' := by
  obtain ⟨i0, hi, hz0, hz1, hz2⟩ := info_parts Tryd.info5
  have sx : Same w (w.alloc (.cells #[.int .u8 1, .bool false, .int .i64 0, .float .f64 0, .string ⟨#[]⟩, .slice none 0 0] 26)) := (Fr.refl _ w).alloc _
  go_enter Tryd.func18, Tryd.ntmps18
  go_wp2_with (at_builtin; go_must (refine wpList_append_lies _ (by rfl) _ _ _ (by rfl) 0 5 i0 (.int .u8 0) 1 1 Tryd.underlying37 hi hz0 hz1 hz2 rfl (by decide) _ 0 [] (by rfl) (World.ownsRow_nil _ _ _ _) ⟨w.heap.size + 1, 0, none⟩ 1 1 [.int .u8 1] (by rfl) (by rfl) ?_ (by simp [Value.oneCell']) (by decide) (by unfold maxLen; omega) (by omega) (Nat.zero_le _) (w.heap.size + 2) (by simp) ?_))
  · intro j u hj
    rw [add_at]
    cases j with
    | zero => simp at hj; subst hj; simp
    | succ j => simp at hj
  · intro g cap W1 hown hgrow hat _
    have s1 : Same w W1 := Fr.grown ((sx.alloc _)) hgrow (fun k hk _ => by simp [Value.ownBlock] at hk)
    clear hgrow hat
    go_wp2_with fail
    go_ret
    exact ⟨g, cap, rfl, hown, s1⟩

set_option maxRecDepth 100000 in
set_option maxHeartbeats 4000000 in
theorem layNulls (w : World) (b o cp : Nat) (c0 : w.cell? ⟨b, o, none⟩ = some (.int .u8 1)) (c1 : w.cell? ⟨b, o + 1, none⟩ = some (.bool false)) (c2 : w.cell? ⟨b, o + 2, none⟩ = some (.int .i64 0)) (c3 : w.cell? ⟨b, o + 3, none⟩ = some (.float .f64 0)) (c4 : w.cell? ⟨b, o + 4, none⟩ = some (.string ⟨#[]⟩)) (c5 : w.cell? ⟨b, o + 5, none⟩ = some (.slice none 0 0)) :
    Calls Tryd.prog 11 #[.slice none 0 0, .slice (some ⟨b, o, none⟩) 1 cp] w fun e w' => ∃ g cap, e = .returned (.slice (some ⟨g, 0, none⟩) 1 cap) ∧ Owns w' (.slice (some ⟨g, 0, none⟩) 1 cap) [1] ∧ Same w w' := by
  have hsf := store_f64
  have sx : Same w (w.alloc (.cells #[.int .u8 1, .bool false, .int .i64 0, .float .f64 0, .string ⟨#[]⟩, .slice none 0 0] 26)) := (Fr.refl _ w).alloc _
  go_enter Tryd.func11, Tryd.ntmps11
  go_wp2_with fail
  refine wp_loop_rounds 3 ?_
  rw [rounds_succ]
  go_wp2_with fail
  refine (layNull _).mono ?_
  rintro e W1 ⟨g, cap, rfl, h1, s1⟩
  go_wp2_with fail
  rw [rounds_succ]
  go_wp2_with fail
  go_ret
  exact ⟨g, cap, rfl, h1, sx.trans s1⟩

theorem check_null : checkP [.mk 1 false 0 0 ⟨#[]⟩ []] = 0 := by decide +kernel
set_option maxRecDepth 100000 in
set_option maxHeartbeats 1000000 in
theorem pack_null (w : World) (b o cp : Nat) (c0 : w.cell? ⟨b, o, none⟩ = some (.int .u8 1)) (c1 : w.cell? ⟨b, o + 1, none⟩ = some (.bool false)) (c2 : w.cell? ⟨b, o + 2, none⟩ = some (.int .i64 0)) (c3 : w.cell? ⟨b, o + 3, none⟩ = some (.float .f64 0)) (c4 : w.cell? ⟨b, o + 4, none⟩ = some (.string ⟨#[]⟩)) (c5 : w.cell? ⟨b, o + 5, none⟩ = some (.slice none 0 0)) :
    Calls Tryd.prog 6 #[.slice (some ⟨b, o, none⟩) 1 cp] w fun e w' => e = .returned (.tuple #[.string ⟨#[1]⟩, .int .i64 0]) ∧ Same w w' := by
  have HC : Hid (Calls Tryd.prog 7 #[.slice (some ⟨b, o, none⟩) 1 cp] w fun e w' => e = .returned (.int .i64 0) ∧ Same w w') := by
    have := check_calls [.mk 1 false 0 0 ⟨#[]⟩ []] (row_one (w := w) 1 false 0 0 ⟨#[]⟩ (by omega) (by omega) (by show (0 : Nat) ≤ _; omega) (by omega) (by omega) c0 c1 c2 c3 c4 c5 cp) (Nat.le_refl _)
    rw [check_null] at this
    exact this
  go_enter Tryd.func6, Tryd.ntmps6
  go_wp2_with fail
  refine HC.out.mono ?_
  rintro e W1 ⟨rfl, s1⟩
  go_wp2_with fail
  refine (layNulls W1 b o cp (s1.keep c0) (s1.keep c1) (s1.keep c2) (s1.keep c3) (s1.keep c4) (s1.keep c5)).mono ?_
  rintro e W2 ⟨g, cap, rfl, h2, s2⟩
  have hcv := owns_string (P := Tryd.prog) h2 37 9 Tryd.underlying37 Tryd.underlying5 Tryd.underlying9
  go_wp2_with fail
  go_ret2
  exact ⟨rfl, s1.trans s2⟩

/-- At block b lies a cursor. -/
def CurAt (w : World) (b : Nat) (s : ByteArray) : Prop := w.heap[b]? = some (.cells #[.string s] 44 (0, 0))

set_option maxRecDepth 100000 in
set_option maxHeartbeats 1000000 in
theorem next_one (w : World) (b : Nat) (h : CurAt w b ⟨#[1]⟩) :
    Calls Tryd.prog 17 #[.pointer (some ⟨b, 0, none⟩)] w fun e w' => e = .returned (.int .u8 1) ∧ CurAt w' b ⟨#[]⟩ ∧ Fr (fun k => k = b) w w' := by
  have c0 : w.cell? ⟨b, 0, none⟩ = some (.string ⟨#[1]⟩) := by rw [cell_of_row _ _ _ _ _ _ h]; rfl
  have f0 := frozen_of_row w b 0 _ _ h
  have hex : (⟨#[1]⟩ : ByteArray).extract 0 1 = ⟨#[1]⟩ := by rfl
  have h10 : ((⟨#[1]⟩ : ByteArray)[0]).toNat = 1 := rfl
  have hne : ¬ (⟨#[1]⟩ : ByteArray).toList = [] := by rw [Lib.toList_data]; simp
  go_enter Tryd.func17, Tryd.ntmps17
  go_wp2
  all_goals go_ret
  all_goals refine ⟨by simp, ?_, Fr.setCell (S := fun k => k = b) (Fr.refl _ w) (p := ⟨b, 0, none⟩) (fun _ => rfl) _⟩
  all_goals unfold CurAt
  all_goals rw [heap_setCell_same w b 0 _ _ _ h]
  all_goals rfl

set_option maxRecDepth 100000 in
set_option maxHeartbeats 1000000 in
theorem item_null (w : World) (b : Nat) :
    Calls Tryd.prog 16 #[.pointer (some ⟨b, 0, none⟩), .int .u8 1] w fun e w' => e = .returned (itemV 1 false 0 0 ⟨#[]⟩ none 0 0) ∧ Same w w' := by
  have hsf := store_f64
  go_enter Tryd.func16, Tryd.ntmps16
  go_wp2
  go_returns
  exact ⟨rfl, (Fr.refl _ w).alloc _⟩
end Go.Proofs.YtjhnehhiahoelaaDoor
