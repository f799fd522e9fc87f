/-
  Walks: Print of the one truth true.
-/
import Derived.Test.YtjhnehhiahoelaaDoorPT
namespace Go.Proofs.YtjhnehhiahoelaaDoor
open Go.RowKit

set_option maxRecDepth 100000 in
set_option maxHeartbeats 1000000 in
theorem iappendTrue {w : World} {ao : Option Addr} {c : Nat} {bs : List UInt8} (hown : Owns w (.slice ao bs.length c) bs) (hl : bs.length ≤ 1000000) :
    Calls Tryd.prog 56 #[.slice ao bs.length c, .bool true] w fun e w' => ∃ ao' c', e = .returned (.slice ao' (bs.length + 4) c') ∧ Owns w' (.slice ao' (bs.length + 4) c') (bs ++ [116, 114, 117, 101]) ∧ BStep (.slice ao bs.length c) (.slice ao' (bs.length + 4) c') w w' := by
  obtain ⟨i0, hi, hz0, hz1, hz2⟩ := info_parts Tryd.info5
  go_enter Tryd.func56, Tryd.ntmps56
  go_wp2_with (at_builtin; go_must (refine wpList_append_str _ (by rfl) _ _ 37 9 (by rfl) 5 i0 Tryd.underlying37 Tryd.underlying9 hi hz0 hz1 hz2 _ _ _ (by rfl) hown ⟨#[116, 114, 117, 101]⟩ (by rfl) (by show bs.length + 4 ≤ _; omega) ?_))
  intro ao' c' w1 hown1 hgrow hat
  go_wp2_with fail
  go_ret
  refine ⟨ao', c', rfl, ?_, (Fr.refl _ w).grown hgrow (fun k hk _ => hk.symm), hat⟩
  show World.ownsRow _ _ _ _ _ _ _
  rw [bcells_append, List.length_append]; exact hown1

theorem appendTrue {w : World} {ao : Option Addr} {c : Nat} {bs : List UInt8} (hown : Owns w (.slice ao bs.length c) bs) (hl : bs.length ≤ 1000000) :
    Calls Tryd.prog 45 #[.slice ao bs.length c, .bool true] w fun e w' => ∃ ao' c', e = .returned (.slice ao' (bs.length + 4) c') ∧ Owns w' (.slice ao' (bs.length + 4) c') (bs ++ [116, 114, 117, 101]) ∧ BStep (.slice ao bs.length c) (.slice ao' (bs.length + 4) c') w w' := by
  go_enter Tryd.func45, Tryd.ntmps45
  go_wp2_with fail
  refine (iappendTrue hown hl).mono ?_
  rintro e W1 ⟨ao', c', rfl, h1, b1⟩
  go_wp2_with fail
  go_ret
  exact ⟨ao', c', rfl, h1, b1⟩

set_option maxRecDepth 100000 in
set_option maxHeartbeats 1000000 in
theorem sayTrue {w : World} {ao : Option Addr} {c : Nat} {bs : List UInt8} (hown : Owns w (.slice ao bs.length c) bs) (hl : bs.length ≤ 1000000) :
    Calls Tryd.prog 26 #[.slice ao bs.length c, itemV 2 true 0 0 ⟨#[]⟩ none 0 0] w fun e w' => ∃ ao' c', e = .returned (.slice ao' (bs.length + 4) c') ∧ Owns w' (.slice ao' (bs.length + 4) c') (bs ++ [116, 114, 117, 101]) ∧ BStep (.slice ao bs.length c) (.slice ao' (bs.length + 4) c') w w' := by
  have sx : Same w (w.alloc (.cells #[.int .u8 2, .bool true, .int .i64 0, .float .f64 0, .string ⟨#[]⟩, .slice none 0 0] 26)) := (Fr.refl _ w).alloc _
  go_enter Tryd.func26, Tryd.ntmps26
  go_wp2_with fail
  refine (appendTrue (own_frame hown sx (fun _ _ f => f)) hl).mono ?_
  rintro e W1 ⟨ao', c', rfl, h1, b1⟩
  go_wp2_with fail
  go_ret
  exact ⟨ao', c', rfl, h1, BStep.same sx b1⟩

set_option maxRecDepth 100000 in
set_option maxHeartbeats 4000000 in
theorem sayTrues {w : World} {ao : Option Addr} {c : Nat} {bs : List UInt8} (hown : Owns w (.slice ao bs.length c) bs) (hl : bs.length ≤ 1000000) (b o : Nat) (c0 : w.cell? ⟨b, o, none⟩ = some (.int .u8 2)) (c1 : w.cell? ⟨b, o + 1, none⟩ = some (.bool true)) (c2 : w.cell? ⟨b, o + 2, none⟩ = some (.int .i64 0)) (c3 : w.cell? ⟨b, o + 3, none⟩ = some (.float .f64 0)) (c4 : w.cell? ⟨b, o + 4, none⟩ = some (.string ⟨#[]⟩)) (c5 : w.cell? ⟨b, o + 5, none⟩ = some (.slice none 0 0)) :
    Calls Tryd.prog 15 #[.slice ao bs.length c, .slice (some ⟨b, o, none⟩) 1 1] w fun e w' => ∃ ao' c', e = .returned (.slice ao' (bs.length + 4) c') ∧ Owns w' (.slice ao' (bs.length + 4) c') (bs ++ [116, 114, 117, 101]) ∧ BStep (.slice ao bs.length c) (.slice ao' (bs.length + 4) c') w w' := by
  have hsf := store_f64
  have sx : Same w (w.alloc (.cells #[.int .u8 2, .bool true, .int .i64 0, .float .f64 0, .string ⟨#[]⟩, .slice none 0 0] 26)) := (Fr.refl _ w).alloc _
  go_enter Tryd.func15, Tryd.ntmps15
  go_wp2_with fail
  refine wp_loop_rounds 3 ?_
  rw [rounds_succ]
  go_wp2_with fail
  refine (sayTrue (own_frame hown sx (fun _ _ f => f)) hl).mono ?_
  rintro e W1 ⟨ao', c', rfl, h1, b1⟩
  go_wp2_with fail
  rw [rounds_succ]
  go_wp2_with fail
  go_ret
  exact ⟨ao', c', rfl, h1, BStep.same sx b1⟩

theorem check_true : checkP [.mk 2 true 0 0 ⟨#[]⟩ []] = 0 := by decide +kernel
set_option maxRecDepth 100000 in
set_option maxHeartbeats 1000000 in
theorem print_true (w : World) (b o : Nat) (c0 : w.cell? ⟨b, o, none⟩ = some (.int .u8 2)) (c1 : w.cell? ⟨b, o + 1, none⟩ = some (.bool true)) (c2 : w.cell? ⟨b, o + 2, none⟩ = some (.int .i64 0)) (c3 : w.cell? ⟨b, o + 3, none⟩ = some (.float .f64 0)) (c4 : w.cell? ⟨b, o + 4, none⟩ = some (.string ⟨#[]⟩)) (c5 : w.cell? ⟨b, o + 5, none⟩ = some (.slice none 0 0)) :
    Calls Tryd.prog 9 #[.slice (some ⟨b, o, none⟩) 1 1] w fun e w' => e = .returned (.tuple #[.string ⟨#[40, 116, 114, 117, 101, 41]⟩, .int .i64 0]) ∧ Same w w' := by
  have HC : Hid (Calls Tryd.prog 7 #[.slice (some ⟨b, o, none⟩) 1 1] w fun e w' => e = .returned (.int .i64 0) ∧ Same w w') := by
    have := check_calls [.mk 2 true 0 0 ⟨#[]⟩ []] (row_one (w := w) 2 true 0 0 ⟨#[]⟩ (by omega) (by omega) (by show (0 : Nat) ≤ _; omega) (by omega) (by omega) c0 c1 c2 c3 c4 c5 1) (Nat.le_refl _)
    rw [check_true] at this
    exact this
  obtain ⟨i0, hi, hz0, hz1, hz2⟩ := info_parts Tryd.info5
  go_enter Tryd.func9, Tryd.ntmps9
  go_wp2_with fail
  refine HC.out.mono ?_
  rintro e W1 ⟨rfl, s1⟩
  have hown1 : Owns (W1.alloc (.cells #[.int .u8 40] 5)) (.slice (some ⟨W1.heap.size, 0, none⟩) ([40] : List UInt8).length 1) [40] := ⟨rfl, Or.inr ⟨W1.heap.size, 1, #[.int .u8 40], rfl, Nat.zero_le _, heap_alloc_new W1 _, Nat.le_refl _, by decide, rfl, rfl⟩⟩
  have sa : Same W1 (W1.alloc (.cells #[.int .u8 40] 5)) := (Fr.refl _ W1).alloc _
  go_wp2_with fail
  refine (sayTrues hown1 (by decide) b o (sa.keep (s1.keep c0)) (sa.keep (s1.keep c1)) (sa.keep (s1.keep c2)) (sa.keep (s1.keep c3)) (sa.keep (s1.keep c4)) (sa.keep (s1.keep c5))).mono ?_
  rintro e W2 ⟨ao', c', rfl, h2, b2⟩
  have h2' : W2.ownsRow 0 5 1 (.slice ao' 5 c') 5 (bcells [40, 116, 114, 117, 101]) := h2
  go_wp2_with (at_builtin; go_must (refine wpList_append_lies _ (by rfl) _ _ _ (by rfl) 0 5 i0 (.int .u8 0) 1 1 Tryd.underlying37 hi hz0 hz1 hz2 rfl (by decide) _ _ _ (by rfl) (h2'.alloc _) ⟨W2.heap.size, 0, none⟩ 1 1 _ (by rfl) (by rfl) (World.news_of_block (heap_alloc_new W2 _)) (by simp [Value.oneCell']) (by decide) (by unfold maxLen; omega) (by omega) (Nat.zero_le _) (W2.heap.size + 1) (by simp) ?_))
  intro g3 cap3 W3 hown3 hgrow3 hat3 _
  have hat3' : Value.ownBlock (.slice ao' 5 c') = some g3 ∨ g3 = (W2.alloc (.cells #[.int .u8 41] 5)).heap.size := by
    rcases hat3 with h | h
    · exact Or.inl h
    · right; rw [h]; simp
  obtain ⟨o3, b3⟩ := own_push (v := .slice ao' 5 c') (bs := [40, 116, 114, 117, 101]) (ns := [41]) rfl hown3 hgrow3 hat3'
  have hcv : (convert 37 9 (.slice (some ⟨g3, 0, none⟩) 6 cap3)).run Tryd.prog W3 = .ok (.string ⟨#[40, 116, 114, 117, 101, 41]⟩) W3 := owns_string (P := Tryd.prog) o3 37 9 Tryd.underlying37 Tryd.underlying5 Tryd.underlying9
  have sw : Same w (W1.alloc (.cells #[.int .u8 40] 5)) := s1.trans sa
  have hS : Same w W3 := by
    have f2 : Fr (fun k => k = W1.heap.size) (W1.alloc (.cells #[.int .u8 40] 5)) W2 := b2.1.mono (fun k _ e => by simpa [Value.ownBlock] using e)
    have f3 : Fr (fun k => some k = Value.ownBlock (.slice ao' 5 c')) W2 W3 := Fr.trans (Fr.alloc (Fr.refl _ W2) _) b3.1 (fun _ _ e => e)
    refine Fr.trans (Fr.trans sw f2 ?_) f3 ?_
    · intro i hi e; have := s1.size; omega
    · intro i hi e
      rcases b2.2 i e.symm with h | h
      · have : i = W1.heap.size := by simpa [Value.ownBlock] using h.symm
        have := s1.size; omega
      · have := sw.size; omega
  clear hown3 hgrow3 hat3 hat3' b3
  go_wp2_with fail
  go_ret2
  exact ⟨rfl, hS⟩
end Go.Proofs.YtjhnehhiahoelaaDoor
