/- TrailingZeros of a page's size, filled. -/
import Derived.Test.YtaknpcimdpdekaaDoorM3
import Derived.Test.YtaknpcimdpdekaaDoorGS
namespace Go.Proofs.YtaknpcimdpdekaaDoor
open Go.RowKit

def db64 : List Int := [0,1,56,2,57,49,28,3,61,58,42,50,38,29,17,4,62,47,59,36,45,43,51,22,53,39,33,30,24,18,12,5,63,55,48,27,60,41,37,16,46,35,44,21,52,32,23,11,54,26,40,15,34,20,31,10,25,14,19,9,13,8,7,6]
/-- math/bits' table lies where the walk looks for it. -/
def TzAt (w : World) : Prop := ∀ k, k < 64 → w.cell? ⟨1, k, none⟩ = some (.int .u8 (db64.getD k 0))
theorem TzAt.same {w w' : World} (h : TzAt w) (s : Same w w') : TzAt w' := fun k hk => s.keep (h k hk)

set_option maxRecDepth 100000 in
theorem tz64_1024 (w : World) (ht : TzAt w) : Calls Tryd.prog 74 #[.int .u64 1024] w fun e w' => e = .returned (.int .i64 10) ∧ w = w' := by
  have HT : Hid (TzAt w) := ht
  have hk : w.cell? ⟨1, 55, none⟩ = some (.int .u8 10) := ht 55 (by decide)
  have h1 : IntKind.u64.wrap (-1024) = 18446744073709550592 := by rw [IntKind.wrap_u64]; decide
  have h2 : bits .and .u64 1024 18446744073709550592 = 1024 := by kernel_rfl
  have h3 : IntKind.u64.wrap 292731098164586357760 = 16029937058943083520 := by rw [IntKind.wrap_u64]; decide
  clear ht
  go_enter Tryd.func74, Tryd.ntmps74
  go_wp2
  go_ret
  exact ⟨rfl, rfl⟩
set_option maxRecDepth 100000 in
theorem tz_1024 (w : World) (ht : TzAt w) : Calls Tryd.prog 46 #[.int .u64 1024] w fun e w' => e = .returned (.int .i64 10) ∧ w = w' := by
  have H := tz64_1024 w ht
  clear ht
  go_enter Tryd.func46, Tryd.ntmps46
  go_wp2_with fail
  refine H.mono ?_
  rintro e W1 ⟨rfl, rfl⟩
  go_wp2_with fail
  go_ret
  exact ⟨rfl, rfl⟩
set_option maxRecDepth 100000 in
theorem tz64_2048 (w : World) (ht : TzAt w) : Calls Tryd.prog 74 #[.int .u64 2048] w fun e w' => e = .returned (.int .i64 11) ∧ w = w' := by
  have HT : Hid (TzAt w) := ht
  have hk : w.cell? ⟨1, 47, none⟩ = some (.int .u8 11) := ht 47 (by decide)
  have h1 : IntKind.u64.wrap (-2048) = 18446744073709549568 := by rw [IntKind.wrap_u64]; decide
  have h2 : bits .and .u64 2048 18446744073709549568 = 2048 := by kernel_rfl
  have h3 : IntKind.u64.wrap 585462196329172715520 = 13613130044176615424 := by rw [IntKind.wrap_u64]; decide
  clear ht
  go_enter Tryd.func74, Tryd.ntmps74
  go_wp2
  go_ret
  exact ⟨rfl, rfl⟩
set_option maxRecDepth 100000 in
theorem tz_2048 (w : World) (ht : TzAt w) : Calls Tryd.prog 46 #[.int .u64 2048] w fun e w' => e = .returned (.int .i64 11) ∧ w = w' := by
  have H := tz64_2048 w ht
  clear ht
  go_enter Tryd.func46, Tryd.ntmps46
  go_wp2_with fail
  refine H.mono ?_
  rintro e W1 ⟨rfl, rfl⟩
  go_wp2_with fail
  go_ret
  exact ⟨rfl, rfl⟩
set_option maxRecDepth 100000 in
theorem tz64_4096 (w : World) (ht : TzAt w) : Calls Tryd.prog 74 #[.int .u64 4096] w fun e w' => e = .returned (.int .i64 12) ∧ w = w' := by
  have HT : Hid (TzAt w) := ht
  have hk : w.cell? ⟨1, 30, none⟩ = some (.int .u8 12) := ht 30 (by decide)
  have h1 : IntKind.u64.wrap (-4096) = 18446744073709547520 := by rw [IntKind.wrap_u64]; decide
  have h2 : bits .and .u64 4096 18446744073709547520 = 4096 := by kernel_rfl
  have h3 : IntKind.u64.wrap 1170924392658345431040 = 8779516014643679232 := by rw [IntKind.wrap_u64]; decide
  clear ht
  go_enter Tryd.func74, Tryd.ntmps74
  go_wp2
  go_ret
  exact ⟨rfl, rfl⟩
set_option maxRecDepth 100000 in
theorem tz_4096 (w : World) (ht : TzAt w) : Calls Tryd.prog 46 #[.int .u64 4096] w fun e w' => e = .returned (.int .i64 12) ∧ w = w' := by
  have H := tz64_4096 w ht
  clear ht
  go_enter Tryd.func46, Tryd.ntmps46
  go_wp2_with fail
  refine H.mono ?_
  rintro e W1 ⟨rfl, rfl⟩
  go_wp2_with fail
  go_ret
  exact ⟨rfl, rfl⟩
set_option maxRecDepth 100000 in
theorem tz64_8192 (w : World) (ht : TzAt w) : Calls Tryd.prog 74 #[.int .u64 8192] w fun e w' => e = .returned (.int .i64 13) ∧ w = w' := by
  have HT : Hid (TzAt w) := ht
  have hk : w.cell? ⟨1, 60, none⟩ = some (.int .u8 13) := ht 60 (by decide)
  have h1 : IntKind.u64.wrap (-8192) = 18446744073709543424 := by rw [IntKind.wrap_u64]; decide
  have h2 : bits .and .u64 8192 18446744073709543424 = 8192 := by kernel_rfl
  have h3 : IntKind.u64.wrap 2341848785316690862080 = 17559032029287358464 := by rw [IntKind.wrap_u64]; decide
  clear ht
  go_enter Tryd.func74, Tryd.ntmps74
  go_wp2
  go_ret
  exact ⟨rfl, rfl⟩
set_option maxRecDepth 100000 in
theorem tz_8192 (w : World) (ht : TzAt w) : Calls Tryd.prog 46 #[.int .u64 8192] w fun e w' => e = .returned (.int .i64 13) ∧ w = w' := by
  have H := tz64_8192 w ht
  clear ht
  go_enter Tryd.func46, Tryd.ntmps46
  go_wp2_with fail
  refine H.mono ?_
  rintro e W1 ⟨rfl, rfl⟩
  go_wp2_with fail
  go_ret
  exact ⟨rfl, rfl⟩
theorem tz_calls {p : Int} (hp : p = 1024 ∨ p = 2048 ∨ p = 4096 ∨ p = 8192) (w : World) (ht : TzAt w) : Calls Tryd.prog 46 #[.int .u64 p] w fun e w' => e = .returned (.int .i64 (logP p)) ∧ w = w' := by
  rcases hp with rfl | rfl | rfl | rfl
  · exact tz_1024 w ht
  · exact tz_2048 w ht
  · exact tz_4096 w ht
  · exact tz_8192 w ht

set_option maxRecDepth 100000 in
set_option maxHeartbeats 1000000 in
theorem filled_calls (s : ByteArray) (n : Nat) (hs : s.size ≤ n) (hn : n ≤ 1000000) (w : World) : Calls Tryd.prog 19 #[.string s, .int .i64 n] w fun e w' => e = .returned (.string (fillS s n)) ∧ Same w w' := by
  obtain ⟨z, hz⟩ : ∃ z, z = n - s.size := ⟨_, rfl⟩
  have hw : IntKind.i64.wrap ((n : Int) - (s.size : Int)) = (z : Int) := by rw [IntKind.wrap_i64]; omega
  have HP : Hid (∀ W, Calls Tryd.prog 32 #[.string ⟨#[0]⟩, .int .i64 z] W fun e w' => e = .returned (.string (noughtS z)) ∧ Same W w') := fun W => repeat0_calls z W (by omega)
  have hZs := noughtS_size z
  have hf : s ++ noughtS z = fillS s n := by rw [hz]; rfl
  generalize noughtS z = Z at *
  have hmx : IntKind.i64.max = 9223372036854775807 := by decide
  have hcat2 : ¬ (((s.size + Z.size : Nat) : Int) > IntKind.i64.max) := by omega
  have hadd : ∀ W : World, (Op.stringOp .add s Z).run Tryd.prog W = .ok (.string (fillS s n)) W := by
    intro W; simp only [Op.stringOp, if_neg hcat2, hf]; rfl
  generalize fillS s n = F at *
  clear hf hcat2 hmx hz hZs hs
  go_enter Tryd.func19, Tryd.ntmps19
  go_wp2_with fail
  refine (HP.out _).mono ?_
  rintro e W1 ⟨rfl, s1⟩
  go_wp2_with fail
  go_ret
  exact ⟨rfl, s1⟩
end Go.Proofs.YtaknpcimdpdekaaDoor
