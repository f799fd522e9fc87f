/- Walks: nil Sheets and shelves. -/
import Derived.Test.YtajpgopgohadeaaGreatDoorG8
import Derived.Laws.Cover3
namespace Go.Proofs.YtajpgopgohadeaaGreatDoor
open Go.RowKit

set_option maxRecDepth 100000 in
theorem sthere_nil (w : World) : Calls Tryz.prog 25 #[.pointer none] w fun e w' => e = .returned (.bool false) ∧ w = w' := by
  go_enter Tryz.func25, Tryz.ntmps25
  go_wp2
  go_ret
  exact ⟨rfl, rfl⟩
set_option maxRecDepth 100000 in
theorem fthere_nil (w : World) : Calls Tryz.prog 28 #[.pointer none] w fun e w' => e = .returned (.bool false) ∧ w = w' := by
  go_enter Tryz.func28, Tryz.ntmps28
  go_wp2
  go_ret
  exact ⟨rfl, rfl⟩
theorem neq_map (W : World) : (binOp .neq 53 (.map none) (.map none)).run Tryz.prog W = .ok (.bool false) W := run_neq_map_nil _ _ _ _ none Tryz.underlying53
set_option maxRecDepth 100000 in
theorem fthere_zero (w : World) (b : Nat) (h : w.cell? ⟨b, 2, none⟩ = some (.map none)) : Calls Tryz.prog 28 #[.pointer (some ⟨b, 0, none⟩)] w fun e w' => e = .returned (.bool false) ∧ w = w' := by
  have hnm := neq_map
  go_enter Tryz.func28, Tryz.ntmps28
  go_wp2
  go_ret
  exact ⟨rfl, rfl⟩
set_option maxRecDepth 100000 in
theorem spage_nil (w : World) (no : Nat) : Calls Tryz.prog 10 #[.pointer none, .int .u32 no] w fun e w' => e = .returned (.tuple #[noPage, .int .i64 1]) ∧ Same w w' := by
  go_enter Tryz.func10, Tryz.ntmps10
  go_wp2_with fail
  refine (sthere_nil _).mono ?_
  rintro e W1 ⟨rfl, rfl⟩
  go_wp2_with fail
  exact bodyPost_ret (results_row_tmp (p := 4) (u := 5) (ty := 32) (by kernel_rfl) _ _ w.heap.size 32 _ (0, 0) _ rfl (heap_alloc_new w _) Tryz.underlying32 rfl (by kernel_rfl)) rfl ⟨rfl, (Fr.refl _ w).alloc _⟩
set_option maxRecDepth 100000 in
theorem fpage_nil (w : World) (no : Nat) : Calls Tryz.prog 11 #[.pointer none, .int .u32 no] w fun e w' => e = .returned (.tuple #[noPage, .int .i64 1]) ∧ Same w w' := by
  go_enter Tryz.func11, Tryz.ntmps11
  go_wp2_with fail
  refine (fthere_nil _).mono ?_
  rintro e W1 ⟨rfl, rfl⟩
  go_wp2_with fail
  exact bodyPost_ret (results_row_tmp (p := 4) (u := 5) (ty := 32) (by kernel_rfl) _ _ w.heap.size 32 _ (0, 0) _ rfl (heap_alloc_new w _) Tryz.underlying32 rfl (by kernel_rfl)) rfl ⟨rfl, (Fr.refl _ w).alloc _⟩
set_option maxRecDepth 100000 in
theorem flay_nil (w : World) (kd no vs : Nat) (b : ByteArray) : Calls Tryz.prog 12 #[.pointer none, pageV kd no vs b] w fun e w' => e = .returned (.int .i64 1) ∧ Same w w' := by
  go_enter Tryz.func12, Tryz.ntmps12
  go_wp2_with fail
  refine (fthere_nil _).mono ?_
  rintro e W1 ⟨rfl, rfl⟩
  go_wp2_with fail
  go_ret
  exact ⟨rfl, (Fr.refl _ w).alloc _⟩
set_option maxRecDepth 100000 in
theorem fnums_nil (w : World) : Calls Tryz.prog 13 #[.pointer none] w fun e w' => e = .returned (.slice none 0 0) ∧ Same w w' := by
  go_enter Tryz.func13, Tryz.ntmps13
  go_wp2_with fail
  refine (fthere_nil _).mono ?_
  rintro e W1 ⟨rfl, rfl⟩
  go_wp2_with fail
  go_ret
  exact ⟨rfl, Fr.refl _ _⟩
set_option maxRecDepth 100000 in
theorem sthere_zero (w : World) (b : Nat) (h : w.cell? ⟨b, 0, none⟩ = some .nilIface) : Calls Tryz.prog 25 #[.pointer (some ⟨b, 0, none⟩)] w fun e w' => e = .returned (.bool false) ∧ w = w' := by
  go_enter Tryz.func25, Tryz.ntmps25
  go_wp2
  go_ret
  exact ⟨rfl, rfl⟩
set_option maxRecDepth 100000 in
theorem spage_zero (w : World) (b : Nat) (h : w.cell? ⟨b, 0, none⟩ = some .nilIface) (no : Nat) : Calls Tryz.prog 10 #[.pointer (some ⟨b, 0, none⟩), .int .u32 no] w fun e w' => e = .returned (.tuple #[noPage, .int .i64 1]) ∧ Same w w' := by
  have h2 := Same.keep ((Fr.refl (fun _ => False) w).alloc (.cells #[.int .u8 0, .int .u32 0, .int .u64 0, .string ⟨#[]⟩] 32)) h
  go_enter Tryz.func10, Tryz.ntmps10
  go_wp2_with fail
  refine (sthere_zero _ b h2).mono ?_
  rintro e W1 ⟨rfl, rfl⟩
  go_wp2_with fail
  exact bodyPost_ret (results_row_tmp (p := 4) (u := 5) (ty := 32) (by kernel_rfl) _ _ w.heap.size 32 _ (0, 0) _ rfl (heap_alloc_new w _) Tryz.underlying32 rfl (by kernel_rfl)) rfl ⟨rfl, (Fr.refl _ w).alloc _⟩
set_option maxRecDepth 100000 in
theorem fpage_zero (w : World) (b : Nat) (h : w.cell? ⟨b, 2, none⟩ = some (.map none)) (no : Nat) : Calls Tryz.prog 11 #[.pointer (some ⟨b, 0, none⟩), .int .u32 no] w fun e w' => e = .returned (.tuple #[noPage, .int .i64 1]) ∧ Same w w' := by
  have h2 := Same.keep ((Fr.refl (fun _ => False) w).alloc (.cells #[.int .u8 0, .int .u32 0, .int .u64 0, .string ⟨#[]⟩] 32)) h
  go_enter Tryz.func11, Tryz.ntmps11
  go_wp2_with fail
  refine (fthere_zero _ b h2).mono ?_
  rintro e W1 ⟨rfl, rfl⟩
  go_wp2_with fail
  exact bodyPost_ret (results_row_tmp (p := 4) (u := 5) (ty := 32) (by kernel_rfl) _ _ w.heap.size 32 _ (0, 0) _ rfl (heap_alloc_new w _) Tryz.underlying32 rfl (by kernel_rfl)) rfl ⟨rfl, (Fr.refl _ w).alloc _⟩
set_option maxRecDepth 100000 in
theorem flay_zero (w : World) (x : Nat) (h : w.cell? ⟨x, 2, none⟩ = some (.map none)) (kd no vs : Nat) (b : ByteArray) : Calls Tryz.prog 12 #[.pointer (some ⟨x, 0, none⟩), pageV kd no vs b] w fun e w' => e = .returned (.int .i64 1) ∧ Same w w' := by
  have h2 := Same.keep ((Fr.refl (fun _ => False) w).alloc (.cells #[.int .u8 kd, .int .u32 no, .int .u64 vs, .string b] 32)) h
  go_enter Tryz.func12, Tryz.ntmps12
  go_wp2_with fail
  refine (fthere_zero _ x h2).mono ?_
  rintro e W1 ⟨rfl, rfl⟩
  go_wp2_with fail
  go_ret
  exact ⟨rfl, (Fr.refl _ w).alloc _⟩
set_option maxRecDepth 100000 in
theorem fnums_zero (w : World) (x : Nat) (h : w.cell? ⟨x, 2, none⟩ = some (.map none)) : Calls Tryz.prog 13 #[.pointer (some ⟨x, 0, none⟩)] w fun e w' => e = .returned (.slice none 0 0) ∧ Same w w' := by
  go_enter Tryz.func13, Tryz.ntmps13
  go_wp2_with fail
  refine (fthere_zero _ x h).mono ?_
  rintro e W1 ⟨rfl, rfl⟩
  go_wp2_with fail
  go_ret
  exact ⟨rfl, Fr.refl _ _⟩
set_option maxRecDepth 100000 in
set_option maxHeartbeats 2000000 in
theorem pnil_walk (w : World) (ht : TabAt w) (kd no vs : Nat) (b : ByteArray) :
    Calls Tryz.prog 4 #[pageV kd no vs b] w fun e w' => e = .returned (.bool true) ∧ Same w w' := by
  have HA : Hid (∀ W, Same w W → Calls Tryz.prog 8 #[] W fun e w' => e = .returned (.bool true) ∧ Same W w') := fun W h => awake_calls W (ht.same h)
  obtain ⟨V, hV⟩ : ∃ V, V = w.alloc (.cells #[.int .u8 kd, .int .u32 no, .int .u64 vs, .string b] 32) := ⟨_, rfl⟩
  have sx : Same w V := by rw [hV]; exact (Fr.refl _ w).alloc _
  have HS : Hid (∀ W, Same V W → W.cell? ⟨w.heap.size, 0, none⟩ = some (.int .u8 kd) ∧ W.cell? ⟨w.heap.size, 1, none⟩ = some (.int .u32 no) ∧ W.cell? ⟨w.heap.size, 2, none⟩ = some (.int .u64 vs) ∧ W.cell? ⟨w.heap.size, 3, none⟩ = some (.string b)) := by
    intro W h
    refine ⟨h.keep ?_, h.keep ?_, h.keep ?_, h.keep ?_⟩ <;> (rw [hV]; simp)
  go_enter Tryz.func4, Tryz.ntmps4
  go_wp2_with fail
  rw [← hV]
  clear hV
  refine (spage_nil _ no).mono ?_
  rintro e W1 ⟨rfl, s1⟩
  have t1 : Same V ((W1.alloc (.cells #[.int .u8 0, .int .u32 0, .int .u64 0, .string ⟨#[]⟩] 32)).alloc (.cells #[.nilIface, .int .i64 0, .int .i64 0] 52)) := (s1.alloc _).alloc _
  obtain ⟨c0, c1, c2, c3⟩ := HS.out _ t1
  have k1 : ((W1.alloc (.cells #[.int .u8 0, .int .u32 0, .int .u64 0, .string ⟨#[]⟩] 32)).alloc (.cells #[.nilIface, .int .i64 0, .int .i64 0] 52)).cell? ⟨W1.heap.size + 1, 0, none⟩ = some .nilIface := by simp
  go_wp2_with fail
  refine (spage_zero _ _ k1 no).mono ?_
  rintro e W2 ⟨rfl, s2⟩
  have t2 : Same V (W2.alloc (.cells #[.int .u8 0, .int .u32 0, .int .u64 0, .string ⟨#[]⟩] 32)) := (t1.trans s2).alloc _
  clear c0 c1 c2 c3
  obtain ⟨c0, c1, c2, c3⟩ := HS.out _ t2
  go_wp2_with fail
  refine (fpage_nil _ no).mono ?_
  rintro e W3 ⟨rfl, s3⟩
  have t3 : Same V ((W3.alloc (.cells #[.int .u8 0, .int .u32 0, .int .u64 0, .string ⟨#[]⟩] 32)).alloc (.cells #[.int .i64 0, .int .i64 0, .map none] 55)) := ((t2.trans s3).alloc _).alloc _
  clear c0 c1 c2 c3
  obtain ⟨c0, c1, c2, c3⟩ := HS.out _ t3
  have k3 : ((W3.alloc (.cells #[.int .u8 0, .int .u32 0, .int .u64 0, .string ⟨#[]⟩] 32)).alloc (.cells #[.int .i64 0, .int .i64 0, .map none] 55)).cell? ⟨W3.heap.size + 1, 2, none⟩ = some (.map none) := by simp
  go_wp2_with fail
  refine (fpage_zero _ _ k3 no).mono ?_
  rintro e W4 ⟨rfl, s4⟩
  have t4 : Same V ((W4.alloc (.cells #[.int .u8 0, .int .u32 0, .int .u64 0, .string ⟨#[]⟩] 32)).alloc (.cells #[.int .i64 0, .int .i64 0, .map none] 55)) := ((t3.trans s4).alloc _).alloc _
  clear c0 c1 c2 c3
  obtain ⟨c0, c1, c2, c3⟩ := HS.out _ t4
  have k4 : ((W4.alloc (.cells #[.int .u8 0, .int .u32 0, .int .u64 0, .string ⟨#[]⟩] 32)).alloc (.cells #[.int .i64 0, .int .i64 0, .map none] 55)).cell? ⟨W4.heap.size + 1, 2, none⟩ = some (.map none) := by simp
  go_wp2_with fail
  refine (flay_nil _ kd no vs b).mono ?_
  rintro e W5 ⟨rfl, s5⟩
  have t5 := t4.trans s5
  have k5 := s5.keep k4
  clear c0 c1 c2 c3
  obtain ⟨c0, c1, c2, c3⟩ := HS.out _ t5
  go_wp2_with fail
  refine (flay_zero _ _ k5 kd no vs b).mono ?_
  rintro e W6 ⟨rfl, s6⟩
  have t6 := t5.trans s6
  have k6 := s6.keep k5
  clear c0 c1 c2 c3
  go_wp2_with fail
  refine (fnums_nil _).mono ?_
  rintro e W7 ⟨rfl, s7⟩
  have t7 := t6.trans s7
  have k7 := s7.keep k6
  go_wp2_with fail
  refine (fnums_zero _ _ k7).mono ?_
  rintro e W8 ⟨rfl, s8⟩
  have t8 := t7.trans s8
  go_wp2_with fail
  refine (HA.out _ (sx.trans t8)).mono ?_
  rintro e W9 ⟨rfl, s9⟩
  go_wp2_with fail
  go_ret
  exact ⟨rfl, (sx.trans t8).trans s9⟩
end Go.Proofs.YtajpgopgohadeaaGreatDoor
