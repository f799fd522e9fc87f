/- Calls on a Writer that is none. -/
import Derived.Test.YtpcdpdagcigigaaWL
namespace Go.Proofs.Ytpcdpdagcigigaa
open Go.RowKit

set_option maxRecDepth 100000 in
theorem wfree_nil (w : World) (n : Int) :
    Calls Try.prog 37 #[.pointer none, .int .u64 n] w fun e w' => e = .returned (.tuple #[]) ∧ Same w w' := by
  go_enter Try.func37, Try.ntmps37
  go_wp2_with fail
  refine there_nil.mono ?_
  rintro e w' ⟨rfl, rfl⟩
  go_wp2_with fail
  refine bodyPost_ret (results_none rfl _ _ _) rfl ?_
  exact ⟨rfl, Fr.refl _ _⟩
set_option maxRecDepth 100000 in
theorem wraw_nil (w : World) (v : Value) :
    Calls Try.prog 39 #[.pointer none, v] w fun e w' => e = .returned (.tuple #[]) ∧ Same w w' := by
  go_enter Try.func39, Try.ntmps39
  go_wp2_with fail
  refine there_nil.mono ?_
  rintro e w' ⟨rfl, rfl⟩
  go_wp2_with fail
  refine bodyPost_ret (results_none rfl _ _ _) rfl ?_
  exact ⟨rfl, Fr.refl _ _⟩
set_option maxRecDepth 100000 in
theorem each_nilNu (w : World) (v f : Value) :
    Calls Try.prog 5 #[.pointer none, v, f] w fun e w' => e = .returned (.tuple #[]) ∧ Same w w' := by
  go_enter Try.func5, Try.ntmps5
  go_wp2_with fail
  refine there_nil.mono ?_
  rintro e w' ⟨rfl, rfl⟩
  go_wp2_with fail
  refine bodyPost_ret (results_none rfl _ _ _) rfl ?_
  exact ⟨rfl, Fr.refl _ _⟩
set_option maxRecDepth 100000 in
theorem each_nilNt (w : World) (v f : Value) :
    Calls Try.prog 44 #[.pointer none, v, f] w fun e w' => e = .returned (.tuple #[]) ∧ Same w w' := by
  go_enter Try.func44, Try.ntmps44
  go_wp2_with fail
  refine there_nil.mono ?_
  rintro e w' ⟨rfl, rfl⟩
  go_wp2_with fail
  refine bodyPost_ret (results_none rfl _ _ _) rfl ?_
  exact ⟨rfl, Fr.refl _ _⟩
set_option maxRecDepth 100000 in
theorem put_nil_u8 (w : World) (x : Int) :
    Calls Try.prog 28 #[.pointer none, .int .u8 x] w fun e w' => e = .returned (.tuple #[]) ∧ Same w w' := by
  go_enter Try.func28, Try.ntmps28
  go_wp2_with fail
  refine there_nil.mono ?_
  rintro e w' ⟨rfl, rfl⟩
  go_wp2_with fail
  refine bodyPost_ret (results_none rfl _ _ _) rfl ?_
  exact ⟨rfl, Fr.refl _ _⟩
set_option maxRecDepth 100000 in
theorem put_nil_u16 (w : World) (x : Int) :
    Calls Try.prog 29 #[.pointer none, .int .u16 x] w fun e w' => e = .returned (.tuple #[]) ∧ Same w w' := by
  go_enter Try.func29, Try.ntmps29
  go_wp2_with fail
  refine there_nil.mono ?_
  rintro e w' ⟨rfl, rfl⟩
  go_wp2_with fail
  refine bodyPost_ret (results_none rfl _ _ _) rfl ?_
  exact ⟨rfl, Fr.refl _ _⟩
set_option maxRecDepth 100000 in
theorem put_nil_u32 (w : World) (x : Int) :
    Calls Try.prog 30 #[.pointer none, .int .u32 x] w fun e w' => e = .returned (.tuple #[]) ∧ Same w w' := by
  go_enter Try.func30, Try.ntmps30
  go_wp2_with fail
  refine there_nil.mono ?_
  rintro e w' ⟨rfl, rfl⟩
  go_wp2_with fail
  refine bodyPost_ret (results_none rfl _ _ _) rfl ?_
  exact ⟨rfl, Fr.refl _ _⟩
set_option maxRecDepth 100000 in
theorem put_nil_u64 (w : World) (x : Int) :
    Calls Try.prog 31 #[.pointer none, .int .u64 x] w fun e w' => e = .returned (.tuple #[]) ∧ Same w w' := by
  go_enter Try.func31, Try.ntmps31
  go_wp2_with fail
  refine there_nil.mono ?_
  rintro e w' ⟨rfl, rfl⟩
  go_wp2_with fail
  refine bodyPost_ret (results_none rfl _ _ _) rfl ?_
  exact ⟨rfl, Fr.refl _ _⟩
set_option maxRecDepth 100000 in
theorem put_nil_i8 (w : World) (x : Int) :
    Calls Try.prog 32 #[.pointer none, .int .i8 x] w fun e w' => e = .returned (.tuple #[]) ∧ Same w w' := by
  go_enter Try.func32, Try.ntmps32
  go_wp2_with fail
  refine there_nil.mono ?_
  rintro e w' ⟨rfl, rfl⟩
  go_wp2_with fail
  refine bodyPost_ret (results_none rfl _ _ _) rfl ?_
  exact ⟨rfl, Fr.refl _ _⟩
set_option maxRecDepth 100000 in
theorem put_nil_i16 (w : World) (x : Int) :
    Calls Try.prog 33 #[.pointer none, .int .i16 x] w fun e w' => e = .returned (.tuple #[]) ∧ Same w w' := by
  go_enter Try.func33, Try.ntmps33
  go_wp2_with fail
  refine there_nil.mono ?_
  rintro e w' ⟨rfl, rfl⟩
  go_wp2_with fail
  refine bodyPost_ret (results_none rfl _ _ _) rfl ?_
  exact ⟨rfl, Fr.refl _ _⟩
set_option maxRecDepth 100000 in
theorem put_nil_i32 (w : World) (x : Int) :
    Calls Try.prog 34 #[.pointer none, .int .i32 x] w fun e w' => e = .returned (.tuple #[]) ∧ Same w w' := by
  go_enter Try.func34, Try.ntmps34
  go_wp2_with fail
  refine there_nil.mono ?_
  rintro e w' ⟨rfl, rfl⟩
  go_wp2_with fail
  refine bodyPost_ret (results_none rfl _ _ _) rfl ?_
  exact ⟨rfl, Fr.refl _ _⟩
set_option maxRecDepth 100000 in
theorem put_nil_i64 (w : World) (x : Int) :
    Calls Try.prog 35 #[.pointer none, .int .i64 x] w fun e w' => e = .returned (.tuple #[]) ∧ Same w w' := by
  go_enter Try.func35, Try.ntmps35
  go_wp2_with fail
  refine there_nil.mono ?_
  rintro e w' ⟨rfl, rfl⟩
  go_wp2_with fail
  refine bodyPost_ret (results_none rfl _ _ _) rfl ?_
  exact ⟨rfl, Fr.refl _ _⟩
set_option maxRecDepth 100000 in
theorem put_nil_shade (w : World) (x : Int) :
    Calls Try.prog 36 #[.pointer none, .int .u16 x] w fun e w' => e = .returned (.tuple #[]) ∧ Same w w' := by
  go_enter Try.func36, Try.ntmps36
  go_wp2_with fail
  refine there_nil.mono ?_
  rintro e w' ⟨rfl, rfl⟩
  go_wp2_with fail
  refine bodyPost_ret (results_none rfl _ _ _) rfl ?_
  exact ⟨rfl, Fr.refl _ _⟩
set_option maxRecDepth 100000 in
theorem wlen_nil (w : World) :
    Calls Try.prog 9 #[.pointer none] w fun e w' => e = .returned (.int .i64 0) ∧ Same w w' := by
  go_enter Try.func9, Try.ntmps9
  go_wp2_with fail
  refine there_nil.mono ?_
  rintro e w' ⟨rfl, rfl⟩
  go_wp2_with fail
  go_ret
  exact ⟨rfl, Fr.refl _ _⟩
set_option maxRecDepth 100000 in
theorem wstring_nil (w : World) :
    Calls Try.prog 10 #[.pointer none] w fun e w' => e = .returned (.string ⟨#[]⟩) ∧ Same w w' := by
  go_enter Try.func10, Try.ntmps10
  go_wp2_with fail
  refine there_nil.mono ?_
  rintro e w' ⟨rfl, rfl⟩
  go_wp2_with fail
  go_ret
  exact ⟨rfl, Fr.refl _ _⟩
set_option maxRecDepth 100000 in
theorem wsigned_nil (w : World) (n : Int) :
    Calls Try.prog 38 #[.pointer none, .int .i64 n] w fun e w' => e = .returned (.tuple #[]) ∧ Same w w' := by
  by_cases h : n < 0
  all_goals
    go_enter Try.func38, Try.ntmps38
    go_wp2_with fail
    refine (wfree_nil _ _).mono ?_
    rintro e w1 ⟨rfl, s1⟩
    go_wp2_with fail
    go_end0
    exact ⟨rfl, s1⟩
set_option maxRecDepth 100000 in
theorem wtext_nil (w : World) (s : ByteArray) :
    Calls Try.prog 40 #[.pointer none, .string s] w fun e w' => e = .returned (.tuple #[]) ∧ Same w w' := by
  go_enter Try.func40, Try.ntmps40
  go_wp2_with fail
  refine (wfree_nil _ _).mono ?_
  rintro e w1 ⟨rfl, s1⟩
  go_wp2_with fail
  refine (wraw_nil _ _).mono ?_
  rintro e w2 ⟨rfl, s2⟩
  go_wp2_with fail
  go_end0
  exact ⟨rfl, Same.trans (s1.alloc _) s2⟩
set_option maxRecDepth 100000 in
theorem wdigest_nil (w : World) (wd : Int) (D : List UInt8) (hD : D.length = 32) :
    Calls Try.prog 41 #[.pointer none, .int .i64 wd, .agg (bcells D).toArray] w fun e w' => e = .returned (.tuple #[]) ∧ Same w w' := by
  have hk := widthN_le wd
  have HN : Hid (∀ W, Calls Try.prog 61 #[.int .i64 wd] W fun e w' => e = .returned (.int .i64 (widthN wd)) ∧ W = w') := fun W => counting_calls W wd
  obtain ⟨A, hA⟩ : ∃ A, A = (bcells D).toArray := ⟨_, rfl⟩
  rw [← hA]
  have sa : Same w (w.alloc (.cells A 45)) := (Fr.refl _ w).alloc _
  have hcells : ∀ j (hj : j < (D.take (widthN wd)).length), (w.alloc (.cells A 45)).cell? ((⟨w.heap.size, 0, none⟩ : Addr).add j) = some (.int .u8 ((D.take (widthN wd))[j].toNat : Int)) := by
    intro j hj
    rw [Addr.add_lit, cell_of_row _ _ _ _ _ _ (heap_alloc_new w _), hA]
    have hj2 : j < D.length := by rw [List.length_take] at hj; omega
    simp [bcells, hj2]
  have hcv := run_convert_bytes_back (P := Try.prog) (w.alloc (.cells A 45)) 81 9 5 ⟨w.heap.size, 0, none⟩ 32 (D.take (widthN wd)) Try.underlying81 Try.underlying5 Try.underlying9 hcells
  rw [show (D.take (widthN wd)).length = widthN wd from by rw [List.length_take]; omega] at hcv
  clear hcells hA
  obtain ⟨k, hk2⟩ : ∃ k, k = widthN wd := ⟨_, rfl⟩
  rw [← hk2] at hk HN hcv
  clear hk2
  have hsl := fun W => slice_digest W w.heap.size k hk
  go_enter Try.func41, Try.ntmps41
  go_wp2_with fail
  refine (HN.out _).mono ?_
  rintro e w1 ⟨rfl, rfl⟩
  go_wp2_with fail
  refine (wraw_nil _ _).mono ?_
  rintro e w3 ⟨rfl, s3⟩
  go_wp2_with fail
  go_end0
  exact ⟨rfl, Same.trans (sa.alloc _) s3⟩
set_option maxRecDepth 100000 in
set_option maxHeartbeats 1000000 in
theorem lay_nil_0 {w : World} (kd : Int) (hkd : kd = 0) (n : Nat) (i : Int) (s : ByteArray) (pa : Option Addr) (pl pc : Nat) (na : Option Addr) (nl nc : Nat) (wd : Int) (m : Nat) (bd : Int) :
    Calls Try.prog 4 #[.pointer none, stepV kd n i s pa pl pc na nl nc wd m bd] w fun e w' => e = .returned (.tuple #[]) ∧ Same w w' := by
  have sa : Same w (w.alloc (.cells #[.int .i64 kd, .int .u64 n, .int .i64 i, .string s, .slice pa pl pc, .slice na nl nc, .int .i64 wd, .int .u64 m, .int .i64 bd] 26)) := (Fr.refl _ w).alloc _
  subst hkd
  go_enter Try.func4, Try.ntmps4
  go_wp2_with fail
  refine (put_nil_u8 _ _).mono ?_
  rintro e w1 ⟨rfl, s1⟩
  go_wp2_with fail
  go_end0
  exact ⟨rfl, Same.trans sa s1⟩
set_option maxRecDepth 100000 in
set_option maxHeartbeats 1000000 in
theorem lay_nil_1 {w : World} (kd : Int) (hkd : kd = 1) (n : Nat) (i : Int) (s : ByteArray) (pa : Option Addr) (pl pc : Nat) (na : Option Addr) (nl nc : Nat) (wd : Int) (m : Nat) (bd : Int) :
    Calls Try.prog 4 #[.pointer none, stepV kd n i s pa pl pc na nl nc wd m bd] w fun e w' => e = .returned (.tuple #[]) ∧ Same w w' := by
  have sa : Same w (w.alloc (.cells #[.int .i64 kd, .int .u64 n, .int .i64 i, .string s, .slice pa pl pc, .slice na nl nc, .int .i64 wd, .int .u64 m, .int .i64 bd] 26)) := (Fr.refl _ w).alloc _
  subst hkd
  go_enter Try.func4, Try.ntmps4
  go_wp2_with fail
  refine (put_nil_u16 _ _).mono ?_
  rintro e w1 ⟨rfl, s1⟩
  go_wp2_with fail
  go_end0
  exact ⟨rfl, Same.trans sa s1⟩
set_option maxRecDepth 100000 in
set_option maxHeartbeats 1000000 in
theorem lay_nil_2 {w : World} (kd : Int) (hkd : kd = 2) (n : Nat) (i : Int) (s : ByteArray) (pa : Option Addr) (pl pc : Nat) (na : Option Addr) (nl nc : Nat) (wd : Int) (m : Nat) (bd : Int) :
    Calls Try.prog 4 #[.pointer none, stepV kd n i s pa pl pc na nl nc wd m bd] w fun e w' => e = .returned (.tuple #[]) ∧ Same w w' := by
  have sa : Same w (w.alloc (.cells #[.int .i64 kd, .int .u64 n, .int .i64 i, .string s, .slice pa pl pc, .slice na nl nc, .int .i64 wd, .int .u64 m, .int .i64 bd] 26)) := (Fr.refl _ w).alloc _
  subst hkd
  go_enter Try.func4, Try.ntmps4
  go_wp2_with fail
  refine (put_nil_u32 _ _).mono ?_
  rintro e w1 ⟨rfl, s1⟩
  go_wp2_with fail
  go_end0
  exact ⟨rfl, Same.trans sa s1⟩
set_option maxRecDepth 100000 in
set_option maxHeartbeats 1000000 in
theorem lay_nil_3 {w : World} (kd : Int) (hkd : kd = 3) (n : Nat) (i : Int) (s : ByteArray) (pa : Option Addr) (pl pc : Nat) (na : Option Addr) (nl nc : Nat) (wd : Int) (m : Nat) (bd : Int) :
    Calls Try.prog 4 #[.pointer none, stepV kd n i s pa pl pc na nl nc wd m bd] w fun e w' => e = .returned (.tuple #[]) ∧ Same w w' := by
  have sa : Same w (w.alloc (.cells #[.int .i64 kd, .int .u64 n, .int .i64 i, .string s, .slice pa pl pc, .slice na nl nc, .int .i64 wd, .int .u64 m, .int .i64 bd] 26)) := (Fr.refl _ w).alloc _
  subst hkd
  go_enter Try.func4, Try.ntmps4
  go_wp2_with fail
  refine (put_nil_u64 _ _).mono ?_
  rintro e w1 ⟨rfl, s1⟩
  go_wp2_with fail
  go_end0
  exact ⟨rfl, Same.trans sa s1⟩
set_option maxRecDepth 100000 in
set_option maxHeartbeats 1000000 in
theorem lay_nil_4 {w : World} (kd : Int) (hkd : kd = 4) (n : Nat) (i : Int) (s : ByteArray) (pa : Option Addr) (pl pc : Nat) (na : Option Addr) (nl nc : Nat) (wd : Int) (m : Nat) (bd : Int) :
    Calls Try.prog 4 #[.pointer none, stepV kd n i s pa pl pc na nl nc wd m bd] w fun e w' => e = .returned (.tuple #[]) ∧ Same w w' := by
  have sa : Same w (w.alloc (.cells #[.int .i64 kd, .int .u64 n, .int .i64 i, .string s, .slice pa pl pc, .slice na nl nc, .int .i64 wd, .int .u64 m, .int .i64 bd] 26)) := (Fr.refl _ w).alloc _
  subst hkd
  go_enter Try.func4, Try.ntmps4
  go_wp2_with fail
  refine (put_nil_i8 _ _).mono ?_
  rintro e w1 ⟨rfl, s1⟩
  go_wp2_with fail
  go_end0
  exact ⟨rfl, Same.trans sa s1⟩
set_option maxRecDepth 100000 in
set_option maxHeartbeats 1000000 in
theorem lay_nil_5 {w : World} (kd : Int) (hkd : kd = 5) (n : Nat) (i : Int) (s : ByteArray) (pa : Option Addr) (pl pc : Nat) (na : Option Addr) (nl nc : Nat) (wd : Int) (m : Nat) (bd : Int) :
    Calls Try.prog 4 #[.pointer none, stepV kd n i s pa pl pc na nl nc wd m bd] w fun e w' => e = .returned (.tuple #[]) ∧ Same w w' := by
  have sa : Same w (w.alloc (.cells #[.int .i64 kd, .int .u64 n, .int .i64 i, .string s, .slice pa pl pc, .slice na nl nc, .int .i64 wd, .int .u64 m, .int .i64 bd] 26)) := (Fr.refl _ w).alloc _
  subst hkd
  go_enter Try.func4, Try.ntmps4
  go_wp2_with fail
  refine (put_nil_i16 _ _).mono ?_
  rintro e w1 ⟨rfl, s1⟩
  go_wp2_with fail
  go_end0
  exact ⟨rfl, Same.trans sa s1⟩
set_option maxRecDepth 100000 in
set_option maxHeartbeats 1000000 in
theorem lay_nil_6 {w : World} (kd : Int) (hkd : kd = 6) (n : Nat) (i : Int) (s : ByteArray) (pa : Option Addr) (pl pc : Nat) (na : Option Addr) (nl nc : Nat) (wd : Int) (m : Nat) (bd : Int) :
    Calls Try.prog 4 #[.pointer none, stepV kd n i s pa pl pc na nl nc wd m bd] w fun e w' => e = .returned (.tuple #[]) ∧ Same w w' := by
  have sa : Same w (w.alloc (.cells #[.int .i64 kd, .int .u64 n, .int .i64 i, .string s, .slice pa pl pc, .slice na nl nc, .int .i64 wd, .int .u64 m, .int .i64 bd] 26)) := (Fr.refl _ w).alloc _
  subst hkd
  go_enter Try.func4, Try.ntmps4
  go_wp2_with fail
  refine (put_nil_i32 _ _).mono ?_
  rintro e w1 ⟨rfl, s1⟩
  go_wp2_with fail
  go_end0
  exact ⟨rfl, Same.trans sa s1⟩
set_option maxRecDepth 100000 in
set_option maxHeartbeats 1000000 in
theorem lay_nil_7 {w : World} (kd : Int) (hkd : kd = 7) (n : Nat) (i : Int) (s : ByteArray) (pa : Option Addr) (pl pc : Nat) (na : Option Addr) (nl nc : Nat) (wd : Int) (m : Nat) (bd : Int) :
    Calls Try.prog 4 #[.pointer none, stepV kd n i s pa pl pc na nl nc wd m bd] w fun e w' => e = .returned (.tuple #[]) ∧ Same w w' := by
  have sa : Same w (w.alloc (.cells #[.int .i64 kd, .int .u64 n, .int .i64 i, .string s, .slice pa pl pc, .slice na nl nc, .int .i64 wd, .int .u64 m, .int .i64 bd] 26)) := (Fr.refl _ w).alloc _
  subst hkd
  go_enter Try.func4, Try.ntmps4
  go_wp2_with fail
  refine (put_nil_i64 _ _).mono ?_
  rintro e w1 ⟨rfl, s1⟩
  go_wp2_with fail
  go_end0
  exact ⟨rfl, Same.trans sa s1⟩
set_option maxRecDepth 100000 in
set_option maxHeartbeats 1000000 in
theorem lay_nil_8 {w : World} (kd : Int) (hkd : kd = 8) (n : Nat) (i : Int) (s : ByteArray) (pa : Option Addr) (pl pc : Nat) (na : Option Addr) (nl nc : Nat) (wd : Int) (m : Nat) (bd : Int) :
    Calls Try.prog 4 #[.pointer none, stepV kd n i s pa pl pc na nl nc wd m bd] w fun e w' => e = .returned (.tuple #[]) ∧ Same w w' := by
  have sa : Same w (w.alloc (.cells #[.int .i64 kd, .int .u64 n, .int .i64 i, .string s, .slice pa pl pc, .slice na nl nc, .int .i64 wd, .int .u64 m, .int .i64 bd] 26)) := (Fr.refl _ w).alloc _
  subst hkd
  go_enter Try.func4, Try.ntmps4
  go_wp2_with fail
  refine (put_nil_shade _ _).mono ?_
  rintro e w1 ⟨rfl, s1⟩
  go_wp2_with fail
  go_end0
  exact ⟨rfl, Same.trans sa s1⟩
set_option maxRecDepth 100000 in
set_option maxHeartbeats 1000000 in
theorem lay_nil_9 {w : World} (kd : Int) (hkd : kd = 9) (n : Nat) (i : Int) (s : ByteArray) (pa : Option Addr) (pl pc : Nat) (na : Option Addr) (nl nc : Nat) (wd : Int) (m : Nat) (bd : Int) :
    Calls Try.prog 4 #[.pointer none, stepV kd n i s pa pl pc na nl nc wd m bd] w fun e w' => e = .returned (.tuple #[]) ∧ Same w w' := by
  have sa : Same w (w.alloc (.cells #[.int .i64 kd, .int .u64 n, .int .i64 i, .string s, .slice pa pl pc, .slice na nl nc, .int .i64 wd, .int .u64 m, .int .i64 bd] 26)) := (Fr.refl _ w).alloc _
  subst hkd
  go_enter Try.func4, Try.ntmps4
  go_wp2_with fail
  refine (wfree_nil _ _).mono ?_
  rintro e w1 ⟨rfl, s1⟩
  go_wp2_with fail
  go_end0
  exact ⟨rfl, Same.trans sa s1⟩
set_option maxRecDepth 100000 in
set_option maxHeartbeats 1000000 in
theorem lay_nil_10 {w : World} (kd : Int) (hkd : kd = 10) (n : Nat) (i : Int) (s : ByteArray) (pa : Option Addr) (pl pc : Nat) (na : Option Addr) (nl nc : Nat) (wd : Int) (m : Nat) (bd : Int) :
    Calls Try.prog 4 #[.pointer none, stepV kd n i s pa pl pc na nl nc wd m bd] w fun e w' => e = .returned (.tuple #[]) ∧ Same w w' := by
  have sa : Same w (w.alloc (.cells #[.int .i64 kd, .int .u64 n, .int .i64 i, .string s, .slice pa pl pc, .slice na nl nc, .int .i64 wd, .int .u64 m, .int .i64 bd] 26)) := (Fr.refl _ w).alloc _
  subst hkd
  go_enter Try.func4, Try.ntmps4
  go_wp2_with fail
  refine (wsigned_nil _ _).mono ?_
  rintro e w1 ⟨rfl, s1⟩
  go_wp2_with fail
  go_end0
  exact ⟨rfl, Same.trans sa s1⟩
set_option maxRecDepth 100000 in
set_option maxHeartbeats 1000000 in
theorem lay_nil_11 {w : World} (kd : Int) (hkd : kd = 11) (n : Nat) (i : Int) (s : ByteArray) (pa : Option Addr) (pl pc : Nat) (na : Option Addr) (nl nc : Nat) (wd : Int) (m : Nat) (bd : Int) :
    Calls Try.prog 4 #[.pointer none, stepV kd n i s pa pl pc na nl nc wd m bd] w fun e w' => e = .returned (.tuple #[]) ∧ Same w w' := by
  have sa : Same w (w.alloc (.cells #[.int .i64 kd, .int .u64 n, .int .i64 i, .string s, .slice pa pl pc, .slice na nl nc, .int .i64 wd, .int .u64 m, .int .i64 bd] 26)) := (Fr.refl _ w).alloc _
  subst hkd
  go_enter Try.func4, Try.ntmps4
  go_wp2_with fail
  refine (wraw_nil _ _).mono ?_
  rintro e w1 ⟨rfl, s1⟩
  go_wp2_with fail
  go_end0
  exact ⟨rfl, Same.trans sa s1⟩
set_option maxRecDepth 100000 in
set_option maxHeartbeats 1000000 in
theorem lay_nil_12 {w : World} (kd : Int) (hkd : kd = 12) (n : Nat) (i : Int) (s : ByteArray) (pa : Option Addr) (pl pc : Nat) (na : Option Addr) (nl nc : Nat) (wd : Int) (m : Nat) (bd : Int) :
    Calls Try.prog 4 #[.pointer none, stepV kd n i s pa pl pc na nl nc wd m bd] w fun e w' => e = .returned (.tuple #[]) ∧ Same w w' := by
  have sa : Same w (w.alloc (.cells #[.int .i64 kd, .int .u64 n, .int .i64 i, .string s, .slice pa pl pc, .slice na nl nc, .int .i64 wd, .int .u64 m, .int .i64 bd] 26)) := (Fr.refl _ w).alloc _
  subst hkd
  go_enter Try.func4, Try.ntmps4
  go_wp2_with fail
  refine (wtext_nil _ _).mono ?_
  rintro e w1 ⟨rfl, s1⟩
  go_wp2_with fail
  go_end0
  exact ⟨rfl, Same.trans sa s1⟩
set_option maxRecDepth 100000 in
set_option maxHeartbeats 1000000 in
theorem lay_nil_14 {w : World} (kd : Int) (hkd : kd = 14) (n : Nat) (i : Int) (s : ByteArray) (pa : Option Addr) (pl pc : Nat) (na : Option Addr) (nl nc : Nat) (wd : Int) (m : Nat) (bd : Int) :
    Calls Try.prog 4 #[.pointer none, stepV kd n i s pa pl pc na nl nc wd m bd] w fun e w' => e = .returned (.tuple #[]) ∧ Same w w' := by
  have sa : Same w (w.alloc (.cells #[.int .i64 kd, .int .u64 n, .int .i64 i, .string s, .slice pa pl pc, .slice na nl nc, .int .i64 wd, .int .u64 m, .int .i64 bd] 26)) := (Fr.refl _ w).alloc _
  subst hkd
  go_enter Try.func4, Try.ntmps4
  go_wp2_with fail
  refine (each_nilNu _ _ _).mono ?_
  rintro e w1 ⟨rfl, s1⟩
  go_wp2_with fail
  go_end0
  exact ⟨rfl, Same.trans sa s1⟩
set_option maxRecDepth 100000 in
set_option maxHeartbeats 1000000 in
theorem lay_nil_15 {w : World} (kd : Int) (hkd : kd = 15) (n : Nat) (i : Int) (s : ByteArray) (pa : Option Addr) (pl pc : Nat) (na : Option Addr) (nl nc : Nat) (wd : Int) (m : Nat) (bd : Int) :
    Calls Try.prog 4 #[.pointer none, stepV kd n i s pa pl pc na nl nc wd m bd] w fun e w' => e = .returned (.tuple #[]) ∧ Same w w' := by
  have sa : Same w (w.alloc (.cells #[.int .i64 kd, .int .u64 n, .int .i64 i, .string s, .slice pa pl pc, .slice na nl nc, .int .i64 wd, .int .u64 m, .int .i64 bd] 26)) := (Fr.refl _ w).alloc _
  subst hkd
  go_enter Try.func4, Try.ntmps4
  go_wp2_with fail
  refine (each_nilNt _ _ _).mono ?_
  rintro e w1 ⟨rfl, s1⟩
  go_wp2_with fail
  go_end0
  exact ⟨rfl, Same.trans sa s1⟩
set_option maxRecDepth 100000 in
set_option maxHeartbeats 1000000 in
theorem lay_nil_16 {w : World} (kd : Int) (hkd : kd = 16) (n : Nat) (i : Int) (s : ByteArray) (pa : Option Addr) (pl pc : Nat) (na : Option Addr) (nl nc : Nat) (wd : Int) (m : Nat) (bd : Int) :
    Calls Try.prog 4 #[.pointer none, stepV kd n i s pa pl pc na nl nc wd m bd] w fun e w' => e = .returned (.tuple #[]) ∧ Same w w' := by
  have sa : Same w (w.alloc (.cells #[.int .i64 kd, .int .u64 n, .int .i64 i, .string s, .slice pa pl pc, .slice na nl nc, .int .i64 wd, .int .u64 m, .int .i64 bd] 26)) := (Fr.refl _ w).alloc _
  subst hkd
  go_enter Try.func4, Try.ntmps4
  go_wp2_with fail
  refine (each_nilNt _ _ _).mono ?_
  rintro e w1 ⟨rfl, s1⟩
  go_wp2_with fail
  go_end0
  exact ⟨rfl, Same.trans sa s1⟩
set_option maxRecDepth 100000 in
set_option maxHeartbeats 1000000 in
theorem lay_nil_13 {w : World} (kd : Int) (hkd : kd = 13) (n : Nat) (i : Int) (s : ByteArray) (pa : Option Addr) (pl pc : Nat) (na : Option Addr) (nl nc : Nat) (wd : Int) (m : Nat) (bd : Int) (hs : s.size ≤ 281474976710656) :
    Calls Try.prog 4 #[.pointer none, stepV kd n i s pa pl pc na nl nc wd m bd] w fun e w' => e = .returned (.tuple #[]) ∧ Same w w' := by
  have sa : Same w (w.alloc (.cells #[.int .i64 kd, .int .u64 n, .int .i64 i, .string s, .slice pa pl pc, .slice na nl nc, .int .i64 wd, .int .u64 m, .int .i64 bd] 26)) := (Fr.refl _ w).alloc _
  subst hkd
  have hD := dig32_length s
  go_enter Try.func4, Try.ntmps4
  go_wp2_with fail
  obtain ⟨W, hW⟩ : ∃ W, W = w.alloc (.cells #[.int .i64 13, .int .u64 n, .int .i64 i, .string s, .slice pa pl pc, .slice na nl nc, .int .i64 wd, .int .u64 m, .int .i64 bd] 26) := ⟨_, rfl⟩
  have c3 : W.cell? ⟨w.heap.size, 3, none⟩ = some (.string s) := by rw [hW]; simp
  have c6 : W.cell? ⟨w.heap.size, 6, none⟩ = some (.int .i64 wd) := by rw [hW]; simp
  rw [← hW] at sa ⊢
  clear hW
  have HL : Hid (∀ W1, Calls Try.prog 42 #[.string s] W1 fun e w' => e = .returned (.agg (bcells (dig32 s)).toArray) ∧ Fr (fun _ => False) W1 w') := fun W1 => ldigest_calls W1 s hs
  obtain ⟨A, hA⟩ : ∃ A, A = (bcells (dig32 s)).toArray := ⟨_, rfl⟩
  have HG : Hid (∀ W1, Calls Try.prog 41 #[.pointer none, .int .i64 wd, .agg A] W1 fun e w' => e = .returned (.tuple #[]) ∧ Same W1 w') := fun W1 => by rw [hA]; exact wdigest_nil W1 wd (dig32 s) hD
  rw [← hA] at HL
  clear hA hD
  go_region_held3 (fun w' => w'.cell? ⟨w.heap.size, 3, none⟩ = some (.string s) ∧ w'.cell? ⟨w.heap.size, 6, none⟩ = some (.int .i64 wd))
    (first | go_keep | exact ⟨d3, d6⟩ | exact ⟨e3, e6⟩)
    (first | (go_at_call 42; refine (HL.out _).mono ?_; rintro e W1 ⟨rfl, f1⟩; have d3 := (f1.cell (World.block_lt_of_cell? _ _ c3) (fun f => f)).trans c3; have d6 := (f1.cell (World.block_lt_of_cell? _ _ c6) (fun f => f)).trans c6) | (go_at_call 41; refine (HG.out _).mono ?_; rintro e W2 ⟨rfl, s2⟩; have e3 := (s2.cell (World.block_lt_of_cell? _ _ d3) (fun f => f)).trans d3; have e6 := (s2.cell (World.block_lt_of_cell? _ _ d6) (fun f => f)).trans d6))
  go_wp2_with fail
  go_end0
  exact ⟨rfl, Fr.trans (Fr.trans sa (Fr.trans ((Fr.refl _ W).drew) f1 (fun _ _ f => f)) (fun _ _ f => f)) s2 (fun _ _ f => f)⟩
set_option maxRecDepth 100000 in
set_option maxHeartbeats 1000000 in
theorem lay_nil_other {w : World} (kd : Int) (hkd : kd < 0 ∨ 16 < kd) (n : Nat) (i : Int) (s : ByteArray) (pa : Option Addr) (pl pc : Nat) (na : Option Addr) (nl nc : Nat) (wd : Int) (m : Nat) (bd : Int) :
    Calls Try.prog 4 #[.pointer none, stepV kd n i s pa pl pc na nl nc wd m bd] w fun e w' => e = .returned (.tuple #[]) ∧ Same w w' := by
  have sa : Same w (w.alloc (.cells #[.int .i64 kd, .int .u64 n, .int .i64 i, .string s, .slice pa pl pc, .slice na nl nc, .int .i64 wd, .int .u64 m, .int .i64 bd] 26)) := (Fr.refl _ w).alloc _
  rcases hkd with hkd | hkd
  all_goals
    go_enter Try.func4, Try.ntmps4
    go_wp2_with fail
    go_end0
    exact ⟨rfl, sa⟩
theorem lay_nil {w : World} (kd : Int) (n : Nat) (i : Int) (s : ByteArray) (pa : Option Addr) (pl pc : Nat) (na : Option Addr) (nl nc : Nat) (wd : Int) (m : Nat) (bd : Int) (hs : s.size ≤ 281474976710656) :
    Calls Try.prog 4 #[.pointer none, stepV kd n i s pa pl pc na nl nc wd m bd] w fun e w' => e = .returned (.tuple #[]) ∧ Same w w' := by
  by_cases h : kd < 0 ∨ 16 < kd
  · exact lay_nil_other kd h n i s pa pl pc na nl nc wd m bd
  · have hc : kd = 0 ∨ kd = 1 ∨ kd = 2 ∨ kd = 3 ∨ kd = 4 ∨ kd = 5 ∨ kd = 6 ∨ kd = 7 ∨ kd = 8 ∨ kd = 9 ∨ kd = 10 ∨ kd = 11 ∨ kd = 12 ∨ kd = 13 ∨ kd = 14 ∨ kd = 15 ∨ kd = 16 := by omega
    rcases hc with h0 | h1 | h2 | h3 | h4 | h5 | h6 | h7 | h8 | h9 | h10 | h11 | h12 | h13 | h14 | h15 | h16
    · exact lay_nil_0 kd h0 n i s pa pl pc na nl nc wd m bd
    · exact lay_nil_1 kd h1 n i s pa pl pc na nl nc wd m bd
    · exact lay_nil_2 kd h2 n i s pa pl pc na nl nc wd m bd
    · exact lay_nil_3 kd h3 n i s pa pl pc na nl nc wd m bd
    · exact lay_nil_4 kd h4 n i s pa pl pc na nl nc wd m bd
    · exact lay_nil_5 kd h5 n i s pa pl pc na nl nc wd m bd
    · exact lay_nil_6 kd h6 n i s pa pl pc na nl nc wd m bd
    · exact lay_nil_7 kd h7 n i s pa pl pc na nl nc wd m bd
    · exact lay_nil_8 kd h8 n i s pa pl pc na nl nc wd m bd
    · exact lay_nil_9 kd h9 n i s pa pl pc na nl nc wd m bd
    · exact lay_nil_10 kd h10 n i s pa pl pc na nl nc wd m bd
    · exact lay_nil_11 kd h11 n i s pa pl pc na nl nc wd m bd
    · exact lay_nil_12 kd h12 n i s pa pl pc na nl nc wd m bd
    · exact lay_nil_13 kd h13 n i s pa pl pc na nl nc wd m bd hs
    · exact lay_nil_14 kd h14 n i s pa pl pc na nl nc wd m bd
    · exact lay_nil_15 kd h15 n i s pa pl pc na nl nc wd m bd
    · exact lay_nil_16 kd h16 n i s pa pl pc na nl nc wd m bd
end Go.Proofs.Ytpcdpdagcigigaa
