/-
  Walks: awake.
-/
import Derived.Test.YtjhnehhiahoelaaDoorTC
namespace Go.Proofs.YtjhnehhiahoelaaDoor
open Go.RowKit

set_option maxRecDepth 100000 in
set_option maxHeartbeats 1000000 in
theorem awake_calls (w : World) : Calls Tryd.prog 5 #[] w fun e w' => e = .returned (.bool true) ∧ Same w w' := by
  have hsf := store_f64
  go_enter Tryd.func5, Tryd.ntmps5
  go_wp2_with fail
  have sa : Same w (w.alloc (.cells #[.int .u8 3, .bool false, .int .i64 1, .float .f64 0, .string ⟨#[]⟩, .slice none 0 0] 26)) := (Fr.refl _ w).alloc _
  refine (pack_int1 _ w.heap.size 0 (by simp) (by simp) (by simp) (by simp) (by simp) (by simp)).mono ?_
  rintro e W1 ⟨rfl, s1⟩
  have s01 := sa.trans s1
  go_wp2_with fail
  have sb : Same W1 (W1.alloc (.cells #[.int .u8 2, .bool true, .int .i64 0, .float .f64 0, .string ⟨#[]⟩, .slice none 0 0] 26)) := (Fr.refl _ W1).alloc _
  refine (print_true _ W1.heap.size 0 (by simp) (by simp) (by simp) (by simp) (by simp) (by simp)).mono ?_
  rintro e W2 ⟨rfl, s2⟩
  have s02 := (s01.trans sb).trans s2
  go_wp2_with fail
  refine (unpack_one _).mono ?_
  rintro e W3 ⟨g, cap, rfl, c3, s3⟩
  have s03 := s02.trans s3
  go_wp2_with fail
  go_ret
  exact ⟨rfl, s03⟩
end Go.Proofs.YtjhnehhiahoelaaDoor
