/- NodeBack. -/
import Derived.Test.YtjpgpfaeolgemaaNR0
import Derived.Test.YtjpgpfaeolgemaaNS1
import Derived.Test.YtjpgpfaeolgemaaNQ
namespace Go.Proofs.Ytjpgpfaeolgemaa
open Go.RowKit

set_option maxRecDepth 100000 in
set_option maxHeartbeats 1000000 in
theorem nback_0 {p q : Int} {r : Nr} {N M : Nd} {S1 S2 : ByteArray} {SZ : Int} (w : World)
    (HP : Hid (∀ W, Same w W → Calls Try.prog 14 #[frameV p q, ndV r N] W fun e w' => e = .returned (.tuple #[.string S1, .int .i64 0]) ∧ Same W w'))
    (HU : Hid (∀ W, Same w W → Calls Try.prog 15 #[frameV p q, .string S1] W fun e w' => ∃ r1, e = .returned (.tuple #[ndV r1 N, .int .i64 0]) ∧ NdOk w' r1 q N ∧ Same W w'))
    (HSA : Hid (∀ W r1, Same w W → NdOk W r1 q N → Calls Try.prog 16 #[ndV r1 N, ndV r N, .bool false] W fun e w' => e = .returned (.bool true) ∧ Same W w'))
    (HL : Hid (∀ W, Same w W → Calls Try.prog 18 #[frameV p q, ndV r N] W fun e w' => e = .returned (.tuple #[.string S2, .int .i64 0]) ∧ Same W w'))
    (HZ : Hid (∀ W, Same w W → Calls Try.prog 17 #[frameV p q, ndV r N] W fun e w' => e = .returned (.int .i64 SZ) ∧ Same W w'))
    (HR : Hid (∀ W, Same w W → Calls Try.prog 19 #[frameV p q, .string S2] W fun e w' => ∃ r2, e = .returned (.tuple #[ndV r2 M, .int .i64 0]) ∧ NdOk w' r2 q M ∧ Same W w'))
    (HSB : Hid (∀ W r2, Same w W → NdOk W r2 q M → Calls Try.prog 16 #[ndV r2 M, ndV r N, .bool true] W fun e w' => e = .returned (.bool true) ∧ Same W w'))
    (z1 : (S1.size : Int) = SZ) (z2 : SZ ≤ p - 32) (hpw : IntKind.i64.wrap (p - 32) = p - 32)
    (z3 : (S2.size : Int) = SZ - 4 * (N.ks.length : Int)) (z4 : IntKind.i64.wrap (4 * (N.ks.length : Int)) = 4 * (N.ks.length : Int)) (z5 : IntKind.i64.wrap (SZ - 4 * (N.ks.length : Int)) = SZ - 4 * (N.ks.length : Int)) (HM : Hid (∀ x ∈ M.ks, x.page = 0)) (lM : M.ks.length ≤ 4611686018427387904)
    : Calls Try.prog 4 #[frameV p q, ndV r N] w fun e w' => e = .returned (.bool true) ∧ Same w w' := by
  have HLV : Hid (∀ W, Calls Try.prog 13 #[] W fun e w' => e = .returned (.bool true) ∧ Same W w') := lives_calls
  have z3' : ((S2.size : Int) == SZ - 4 * (N.ks.length : Int)) = true := by rw [z3]; simp
  have HZZ : Hid ((S2.size : Int) = SZ - 4 * (N.ks.length : Int)) := z3
  clear z3
  have z2' : ¬ p - 32 < (S1.size : Int) := by omega
  have z2'' : decide (p - 32 < (S1.size : Int)) = false := decide_eq_false z2'
  clear z2
  subst z1
  obtain ⟨V, hV⟩ : ∃ V, V = (w.alloc (.cells #[.int .i64 p, .int .i64 q] 23)).alloc (.cells #[.slice r.pa N.ps.length r.cp, .slice r.sa N.ss.length r.cs, .slice r.ka N.ks.length r.ck] 30) := ⟨_, rfl⟩
  have t1 : Same w V := by rw [hV]; exact ((Fr.refl _ w).alloc _).alloc _
  have a0 : V.cell? ⟨w.heap.size, 0, none⟩ = some (.int .i64 p) := by rw [hV]; simp
  have a1 : V.cell? ⟨w.heap.size, 1, none⟩ = some (.int .i64 q) := by rw [hV]; simp
  have n0 : V.cell? ⟨w.heap.size + 1, 0, none⟩ = some (.slice r.pa N.ps.length r.cp) := by rw [hV]; simp
  have n1 : V.cell? ⟨w.heap.size + 1, 1, none⟩ = some (.slice r.sa N.ss.length r.cs) := by rw [hV]; simp
  have n2 : V.cell? ⟨w.heap.size + 1, 2, none⟩ = some (.slice r.ka N.ks.length r.ck) := by rw [hV]; simp
  go_enter Try.func4, Try.ntmps4
  go_wp2_with fail
  rw [← hV]
  clear hV
  refine (HLV.out _).mono ?_
  rintro e W1 ⟨rfl, s1⟩
  have t1 := t1.trans s1
  have a0 := s1.keep a0
  have a1 := s1.keep a1
  have n0 := s1.keep n0
  have n1 := s1.keep n1
  have n2 := s1.keep n2
  clear s1
  go_wp2_with fail
  refine (HP.out _ t1).mono ?_
  rintro e W2 ⟨rfl, s1⟩
  have t1 := t1.trans s1
  have a0 := s1.keep a0
  have a1 := s1.keep a1
  have n0 := s1.keep n0
  have n1 := s1.keep n1
  have n2 := s1.keep n2
  clear s1
  go_wp2_with fail
  refine (HU.out _ t1).mono ?_
  rintro e W3 ⟨r1, rfl, m1, s1⟩
  have t1 := t1.trans s1
  have a0 := s1.keep a0
  have a1 := s1.keep a1
  have n0 := s1.keep n0
  have n1 := s1.keep n1
  have n2 := s1.keep n2
  clear s1
  have a0x := fun o => keepA a0 o
  have a1x := fun o => keepA a1 o
  have n0x := fun o => keepA n0 o
  have n1x := fun o => keepA n1 o
  have n2x := fun o => keepA n2 o
  go_wp2_with fail
  clear a0x a1x n0x n1x n2x
  obtain ⟨V3, hV3⟩ : ∃ V3, V3 = W3.alloc (.cells #[.slice r1.pa N.ps.length r1.cp, .slice r1.sa N.ss.length r1.cs, .slice r1.ka N.ks.length r1.ck] 30) := ⟨_, rfl⟩
  rw [← hV3]
  have s1 : Same W3 V3 := by rw [hV3]; exact (Fr.refl _ W3).alloc _
  have t1 := t1.trans s1
  have a0 := s1.keep a0
  have a1 := s1.keep a1
  have n0 := s1.keep n0
  have n1 := s1.keep n1
  have n2 := s1.keep n2
  have m1 := m1.same s1
  clear s1 hV3
  refine (HSA.out _ _ t1 m1).mono ?_
  rintro e W4 ⟨rfl, s1⟩
  have t1 := t1.trans s1
  have a0 := s1.keep a0
  have a1 := s1.keep a1
  have n0 := s1.keep n0
  have n1 := s1.keep n1
  have n2 := s1.keep n2
  clear s1 m1
  go_wp2_with fail
  refine (HZ.out _ t1).mono ?_
  rintro e W5 ⟨rfl, s1⟩
  have t1 := t1.trans s1
  have a0 := s1.keep a0
  have a1 := s1.keep a1
  have n0 := s1.keep n0
  have n1 := s1.keep n1
  have n2 := s1.keep n2
  clear s1
  go_wp2_with fail
  refine (HL.out _ t1).mono ?_
  rintro e W6 ⟨rfl, s1⟩
  have t1 := t1.trans s1
  have a0 := s1.keep a0
  have a1 := s1.keep a1
  have n0 := s1.keep n0
  have n1 := s1.keep n1
  have n2 := s1.keep n2
  clear s1
  go_wp2_with fail
  refine (HR.out _ t1).mono ?_
  rintro e W7 ⟨r2, rfl, m2, s1⟩
  have t1 := t1.trans s1
  have a0 := s1.keep a0
  have a1 := s1.keep a1
  have n0 := s1.keep n0
  have n1 := s1.keep n1
  have n2 := s1.keep n2
  clear s1
  have a0x := fun o => keepA a0 o
  have a1x := fun o => keepA a1 o
  have n0x := fun o => keepA n0 o
  have n1x := fun o => keepA n1 o
  have n2x := fun o => keepA n2 o
  go_wp2_with fail
  clear a0x a1x n0x n1x n2x
  obtain ⟨V7, hV7⟩ : ∃ V7, V7 = W7.alloc (.cells #[.slice r2.pa M.ps.length r2.cp, .slice r2.sa M.ss.length r2.cs, .slice r2.ka M.ks.length r2.ck] 30) := ⟨_, rfl⟩
  rw [← hV7]
  have s1 : Same W7 V7 := by rw [hV7]; exact (Fr.refl _ W7).alloc _
  have t1 := t1.trans s1
  have a0 := s1.keep a0
  have a1 := s1.keep a1
  have n0 := s1.keep n0
  have n1 := s1.keep n1
  have n2 := s1.keep n2
  have m2 := m2.same s1
  have b0 : V7.cell? ⟨W7.heap.size, 0, none⟩ = some (.slice r2.pa M.ps.length r2.cp) := by rw [hV7]; simp
  have b1 : V7.cell? ⟨W7.heap.size, 1, none⟩ = some (.slice r2.sa M.ss.length r2.cs) := by rw [hV7]; simp
  have b2 : V7.cell? ⟨W7.heap.size, 2, none⟩ = some (.slice r2.ka M.ks.length r2.ck) := by rw [hV7]; simp
  clear s1 hV7
  have d0 : Same V7 V7.drew := Fr.drew (Fr.refl _ V7)
  have HS : Hid (∀ W, Same V7 W → W.cell? ⟨w.heap.size, 0, none⟩ = some (.int .i64 p) ∧ W.cell? ⟨w.heap.size, 1, none⟩ = some (.int .i64 q) ∧ W.cell? ⟨w.heap.size + 1, 0, none⟩ = some (.slice r.pa N.ps.length r.cp) ∧ W.cell? ⟨w.heap.size + 1, 1, none⟩ = some (.slice r.sa N.ss.length r.cs) ∧ W.cell? ⟨w.heap.size + 1, 2, none⟩ = some (.slice r.ka N.ks.length r.ck) ∧ W.cell? ⟨W7.heap.size, 0, none⟩ = some (.slice r2.pa M.ps.length r2.cp) ∧ W.cell? ⟨W7.heap.size, 1, none⟩ = some (.slice r2.sa M.ss.length r2.cs) ∧ W.cell? ⟨W7.heap.size, 2, none⟩ = some (.slice r2.ka M.ks.length r2.ck)) := fun W h => ⟨h.keep a0, h.keep a1, h.keep n0, h.keep n1, h.keep n2, h.keep b0, h.keep b1, h.keep b2⟩
  clear a0 a1 n0 n1 n2 b0 b1
  go_region_held3 (fun W => W.cell? ⟨w.heap.size, 0, none⟩ = some (.int .i64 p) ∧ W.cell? ⟨w.heap.size, 1, none⟩ = some (.int .i64 q) ∧ W.cell? ⟨w.heap.size + 1, 0, none⟩ = some (.slice r.pa N.ps.length r.cp) ∧ W.cell? ⟨w.heap.size + 1, 1, none⟩ = some (.slice r.sa N.ss.length r.cs) ∧ W.cell? ⟨w.heap.size + 1, 2, none⟩ = some (.slice r.ka N.ks.length r.ck) ∧ W.cell? ⟨W7.heap.size, 0, none⟩ = some (.slice r2.pa M.ps.length r2.cp) ∧ W.cell? ⟨W7.heap.size, 1, none⟩ = some (.slice r2.sa M.ss.length r2.cs) ∧ W.cell? ⟨W7.heap.size, 2, none⟩ = some (.slice r2.ka M.ks.length r2.ck)) (first | exact HS.out _ u2 | exact HS.out _ u1 | exact HS.out _ d0)
    (first | (go_at_call 16; refine (HSB.out _ _ (t1.trans d0) (m2.same d0)).mono ?_; rintro e Z1 ⟨rfl, q1⟩; have u1 := Same.trans d0 q1; clear q1) | (go_at_call 17; refine (HZ.out _ (t1.trans u1)).mono ?_; rintro e Z2 ⟨rfl, q2⟩; have u2 := Same.trans u1 q2; clear q2))
  have b2 := u2.keep b2
  have t1 := t1.trans u2
  have m2 := m2.same u2
  go_wp2_with fail
  go_loopg [13] M.ks.length (fun g iv wr => ∃ k : Nat, iv = .int .i64 (k : Int) ∧ k ≤ M.ks.length ∧ g = M.ks.length - k ∧ Same Z2 wr)
  case atStart => exact ⟨0, rfl, by omega, rfl, Fr.refl _ Z2⟩
  case round =>
    obtain ⟨k, rfl, hk, hg, sr⟩ := hrel
    have b2 := sr.keep b2
    by_cases hgo : k < M.ks.length
    · obtain ⟨x, hx⟩ : ∃ x, M.ks[k]? = some x := ⟨_, List.getElem?_eq_getElem hgo⟩
      have c := (m2.same sr).at_.hk.cells k _ hx
      have hp0 := HM.out x (List.mem_of_getElem? hx)
      have c0 : wr.cell? ⟨r2.kb, r2.ko + k * 33, none⟩ = some (.int .u32 0) := by
        have := c 0 _ rfl
        rw [hp0] at this
        exact this
      obtain ⟨hka, _⟩ := (m2.same sr).at_.hk.place (by intro e; rw [e] at hx; simp at hx)
      rw [hka] at b2
      clear c hx hp0 HS
      go_wp2_with fail
      go_roundg (M.ks.length - (k + 1))
      case measure => omega
      case rel => exact ⟨k + 1, by go_num, by omega, rfl, sr⟩
    · obtain rfl : k = M.ks.length := by omega
      go_wp2_with fail
      go_ret
      exact ⟨rfl, t1.trans sr⟩
set_option maxRecDepth 100000 in
set_option maxHeartbeats 1000000 in
theorem nback_1 {p q : Int} {r : Nr} {N M : Nd} {S2 : ByteArray} {SZ E1 : Int} (w : World)
    (HP : Hid (∀ W, Same w W → Calls Try.prog 14 #[frameV p q, ndV r N] W fun e w' => e = .returned (.tuple #[.string ⟨#[]⟩, .int .i64 E1]) ∧ Same W w'))
    (HL : Hid (∀ W, Same w W → Calls Try.prog 18 #[frameV p q, ndV r N] W fun e w' => e = .returned (.tuple #[.string S2, .int .i64 0]) ∧ Same W w'))
    (HZ : Hid (∀ W, Same w W → Calls Try.prog 17 #[frameV p q, ndV r N] W fun e w' => e = .returned (.int .i64 SZ) ∧ Same W w'))
    (HR : Hid (∀ W, Same w W → Calls Try.prog 19 #[frameV p q, .string S2] W fun e w' => ∃ r2, e = .returned (.tuple #[ndV r2 M, .int .i64 0]) ∧ NdOk w' r2 q M ∧ Same W w'))
    (HSB : Hid (∀ W r2, Same w W → NdOk W r2 q M → Calls Try.prog 16 #[ndV r2 M, ndV r N, .bool true] W fun e w' => e = .returned (.bool true) ∧ Same W w'))
    (z3 : (S2.size : Int) = SZ - 4 * (N.ks.length : Int)) (z4 : IntKind.i64.wrap (4 * (N.ks.length : Int)) = 4 * (N.ks.length : Int)) (z5 : IntKind.i64.wrap (SZ - 4 * (N.ks.length : Int)) = SZ - 4 * (N.ks.length : Int)) (HM : Hid (∀ x ∈ M.ks, x.page = 0)) (lM : M.ks.length ≤ 4611686018427387904)
    (h1 : ¬ E1 = 0)
    : Calls Try.prog 4 #[frameV p q, ndV r N] w fun e w' => e = .returned (.bool true) ∧ Same w w' := by
  have HLV : Hid (∀ W, Calls Try.prog 13 #[] W fun e w' => e = .returned (.bool true) ∧ Same W w') := lives_calls
  have z3' : ((S2.size : Int) == SZ - 4 * (N.ks.length : Int)) = true := by rw [z3]; simp
  have HZZ : Hid ((S2.size : Int) = SZ - 4 * (N.ks.length : Int)) := z3
  clear z3
  obtain ⟨V, hV⟩ : ∃ V, V = (w.alloc (.cells #[.int .i64 p, .int .i64 q] 23)).alloc (.cells #[.slice r.pa N.ps.length r.cp, .slice r.sa N.ss.length r.cs, .slice r.ka N.ks.length r.ck] 30) := ⟨_, rfl⟩
  have t1 : Same w V := by rw [hV]; exact ((Fr.refl _ w).alloc _).alloc _
  have a0 : V.cell? ⟨w.heap.size, 0, none⟩ = some (.int .i64 p) := by rw [hV]; simp
  have a1 : V.cell? ⟨w.heap.size, 1, none⟩ = some (.int .i64 q) := by rw [hV]; simp
  have n0 : V.cell? ⟨w.heap.size + 1, 0, none⟩ = some (.slice r.pa N.ps.length r.cp) := by rw [hV]; simp
  have n1 : V.cell? ⟨w.heap.size + 1, 1, none⟩ = some (.slice r.sa N.ss.length r.cs) := by rw [hV]; simp
  have n2 : V.cell? ⟨w.heap.size + 1, 2, none⟩ = some (.slice r.ka N.ks.length r.ck) := by rw [hV]; simp
  go_enter Try.func4, Try.ntmps4
  go_wp2_with fail
  rw [← hV]
  clear hV
  refine (HLV.out _).mono ?_
  rintro e W1 ⟨rfl, s1⟩
  have t1 := t1.trans s1
  have a0 := s1.keep a0
  have a1 := s1.keep a1
  have n0 := s1.keep n0
  have n1 := s1.keep n1
  have n2 := s1.keep n2
  clear s1
  go_wp2_with fail
  refine (HP.out _ t1).mono ?_
  rintro e W2 ⟨rfl, s1⟩
  have t1 := t1.trans s1
  have a0 := s1.keep a0
  have a1 := s1.keep a1
  have n0 := s1.keep n0
  have n1 := s1.keep n1
  have n2 := s1.keep n2
  clear s1
  go_wp2_with fail
  refine (HL.out _ t1).mono ?_
  rintro e W6 ⟨rfl, s1⟩
  have t1 := t1.trans s1
  have a0 := s1.keep a0
  have a1 := s1.keep a1
  have n0 := s1.keep n0
  have n1 := s1.keep n1
  have n2 := s1.keep n2
  clear s1
  go_wp2_with fail
  refine (HR.out _ t1).mono ?_
  rintro e W7 ⟨r2, rfl, m2, s1⟩
  have t1 := t1.trans s1
  have a0 := s1.keep a0
  have a1 := s1.keep a1
  have n0 := s1.keep n0
  have n1 := s1.keep n1
  have n2 := s1.keep n2
  clear s1
  have a0x := fun o => keepA a0 o
  have a1x := fun o => keepA a1 o
  have n0x := fun o => keepA n0 o
  have n1x := fun o => keepA n1 o
  have n2x := fun o => keepA n2 o
  go_wp2_with fail
  clear a0x a1x n0x n1x n2x
  obtain ⟨V7, hV7⟩ : ∃ V7, V7 = W7.alloc (.cells #[.slice r2.pa M.ps.length r2.cp, .slice r2.sa M.ss.length r2.cs, .slice r2.ka M.ks.length r2.ck] 30) := ⟨_, rfl⟩
  rw [← hV7]
  have s1 : Same W7 V7 := by rw [hV7]; exact (Fr.refl _ W7).alloc _
  have t1 := t1.trans s1
  have a0 := s1.keep a0
  have a1 := s1.keep a1
  have n0 := s1.keep n0
  have n1 := s1.keep n1
  have n2 := s1.keep n2
  have m2 := m2.same s1
  have b0 : V7.cell? ⟨W7.heap.size, 0, none⟩ = some (.slice r2.pa M.ps.length r2.cp) := by rw [hV7]; simp
  have b1 : V7.cell? ⟨W7.heap.size, 1, none⟩ = some (.slice r2.sa M.ss.length r2.cs) := by rw [hV7]; simp
  have b2 : V7.cell? ⟨W7.heap.size, 2, none⟩ = some (.slice r2.ka M.ks.length r2.ck) := by rw [hV7]; simp
  clear s1 hV7
  have d0 : Same V7 V7.drew := Fr.drew (Fr.refl _ V7)
  have HS : Hid (∀ W, Same V7 W → W.cell? ⟨w.heap.size, 0, none⟩ = some (.int .i64 p) ∧ W.cell? ⟨w.heap.size, 1, none⟩ = some (.int .i64 q) ∧ W.cell? ⟨w.heap.size + 1, 0, none⟩ = some (.slice r.pa N.ps.length r.cp) ∧ W.cell? ⟨w.heap.size + 1, 1, none⟩ = some (.slice r.sa N.ss.length r.cs) ∧ W.cell? ⟨w.heap.size + 1, 2, none⟩ = some (.slice r.ka N.ks.length r.ck) ∧ W.cell? ⟨W7.heap.size, 0, none⟩ = some (.slice r2.pa M.ps.length r2.cp) ∧ W.cell? ⟨W7.heap.size, 1, none⟩ = some (.slice r2.sa M.ss.length r2.cs) ∧ W.cell? ⟨W7.heap.size, 2, none⟩ = some (.slice r2.ka M.ks.length r2.ck)) := fun W h => ⟨h.keep a0, h.keep a1, h.keep n0, h.keep n1, h.keep n2, h.keep b0, h.keep b1, h.keep b2⟩
  clear a0 a1 n0 n1 n2 b0 b1
  go_region_held3 (fun W => W.cell? ⟨w.heap.size, 0, none⟩ = some (.int .i64 p) ∧ W.cell? ⟨w.heap.size, 1, none⟩ = some (.int .i64 q) ∧ W.cell? ⟨w.heap.size + 1, 0, none⟩ = some (.slice r.pa N.ps.length r.cp) ∧ W.cell? ⟨w.heap.size + 1, 1, none⟩ = some (.slice r.sa N.ss.length r.cs) ∧ W.cell? ⟨w.heap.size + 1, 2, none⟩ = some (.slice r.ka N.ks.length r.ck) ∧ W.cell? ⟨W7.heap.size, 0, none⟩ = some (.slice r2.pa M.ps.length r2.cp) ∧ W.cell? ⟨W7.heap.size, 1, none⟩ = some (.slice r2.sa M.ss.length r2.cs) ∧ W.cell? ⟨W7.heap.size, 2, none⟩ = some (.slice r2.ka M.ks.length r2.ck)) (first | exact HS.out _ u2 | exact HS.out _ u1 | exact HS.out _ d0)
    (first | (go_at_call 16; refine (HSB.out _ _ (t1.trans d0) (m2.same d0)).mono ?_; rintro e Z1 ⟨rfl, q1⟩; have u1 := Same.trans d0 q1; clear q1) | (go_at_call 17; refine (HZ.out _ (t1.trans u1)).mono ?_; rintro e Z2 ⟨rfl, q2⟩; have u2 := Same.trans u1 q2; clear q2))
  have b2 := u2.keep b2
  have t1 := t1.trans u2
  have m2 := m2.same u2
  go_wp2_with fail
  go_loopg [13] M.ks.length (fun g iv wr => ∃ k : Nat, iv = .int .i64 (k : Int) ∧ k ≤ M.ks.length ∧ g = M.ks.length - k ∧ Same Z2 wr)
  case atStart => exact ⟨0, rfl, by omega, rfl, Fr.refl _ Z2⟩
  case round =>
    obtain ⟨k, rfl, hk, hg, sr⟩ := hrel
    have b2 := sr.keep b2
    by_cases hgo : k < M.ks.length
    · obtain ⟨x, hx⟩ : ∃ x, M.ks[k]? = some x := ⟨_, List.getElem?_eq_getElem hgo⟩
      have c := (m2.same sr).at_.hk.cells k _ hx
      have hp0 := HM.out x (List.mem_of_getElem? hx)
      have c0 : wr.cell? ⟨r2.kb, r2.ko + k * 33, none⟩ = some (.int .u32 0) := by
        have := c 0 _ rfl
        rw [hp0] at this
        exact this
      obtain ⟨hka, _⟩ := (m2.same sr).at_.hk.place (by intro e; rw [e] at hx; simp at hx)
      rw [hka] at b2
      clear c hx hp0 HS
      go_wp2_with fail
      go_roundg (M.ks.length - (k + 1))
      case measure => omega
      case rel => exact ⟨k + 1, by go_num, by omega, rfl, sr⟩
    · obtain rfl : k = M.ks.length := by omega
      go_wp2_with fail
      go_ret
      exact ⟨rfl, t1.trans sr⟩
set_option maxRecDepth 100000 in
set_option maxHeartbeats 1000000 in
theorem nback_2 {p q : Int} {r : Nr} {N : Nd} {E1 E2 : Int} (w : World)
    (HP : Hid (∀ W, Same w W → Calls Try.prog 14 #[frameV p q, ndV r N] W fun e w' => e = .returned (.tuple #[.string ⟨#[]⟩, .int .i64 E1]) ∧ Same W w'))
    (HL : Hid (∀ W, Same w W → Calls Try.prog 18 #[frameV p q, ndV r N] W fun e w' => e = .returned (.tuple #[.string ⟨#[]⟩, .int .i64 E2]) ∧ Same W w'))
    (h1 : ¬ E1 = 0)
    (h2 : ¬ E2 = 0)
    : Calls Try.prog 4 #[frameV p q, ndV r N] w fun e w' => e = .returned (.bool true) ∧ Same w w' := by
  have HLV : Hid (∀ W, Calls Try.prog 13 #[] W fun e w' => e = .returned (.bool true) ∧ Same W w') := lives_calls
  obtain ⟨V, hV⟩ : ∃ V, V = (w.alloc (.cells #[.int .i64 p, .int .i64 q] 23)).alloc (.cells #[.slice r.pa N.ps.length r.cp, .slice r.sa N.ss.length r.cs, .slice r.ka N.ks.length r.ck] 30) := ⟨_, rfl⟩
  have t1 : Same w V := by rw [hV]; exact ((Fr.refl _ w).alloc _).alloc _
  have a0 : V.cell? ⟨w.heap.size, 0, none⟩ = some (.int .i64 p) := by rw [hV]; simp
  have a1 : V.cell? ⟨w.heap.size, 1, none⟩ = some (.int .i64 q) := by rw [hV]; simp
  have n0 : V.cell? ⟨w.heap.size + 1, 0, none⟩ = some (.slice r.pa N.ps.length r.cp) := by rw [hV]; simp
  have n1 : V.cell? ⟨w.heap.size + 1, 1, none⟩ = some (.slice r.sa N.ss.length r.cs) := by rw [hV]; simp
  have n2 : V.cell? ⟨w.heap.size + 1, 2, none⟩ = some (.slice r.ka N.ks.length r.ck) := by rw [hV]; simp
  go_enter Try.func4, Try.ntmps4
  go_wp2_with fail
  rw [← hV]
  clear hV
  refine (HLV.out _).mono ?_
  rintro e W1 ⟨rfl, s1⟩
  have t1 := t1.trans s1
  have a0 := s1.keep a0
  have a1 := s1.keep a1
  have n0 := s1.keep n0
  have n1 := s1.keep n1
  have n2 := s1.keep n2
  clear s1
  go_wp2_with fail
  refine (HP.out _ t1).mono ?_
  rintro e W2 ⟨rfl, s1⟩
  have t1 := t1.trans s1
  have a0 := s1.keep a0
  have a1 := s1.keep a1
  have n0 := s1.keep n0
  have n1 := s1.keep n1
  have n2 := s1.keep n2
  clear s1
  go_wp2_with fail
  refine (HL.out _ t1).mono ?_
  rintro e W6 ⟨rfl, s1⟩
  have t1 := t1.trans s1
  have a0 := s1.keep a0
  have a1 := s1.keep a1
  have n0 := s1.keep n0
  have n1 := s1.keep n1
  have n2 := s1.keep n2
  clear s1
  go_wp2_with fail
  go_ret
  exact ⟨congrArg (fun b => Ending.returned (.bool b)) (show (E1 != 0) = true by simp [h1]), t1⟩

theorem pack_plain {p q : Int} {N : Nd} (h : packE p q N = 0) : plainE p q N = 0 := by
  have hc := packE_chk h
  unfold packE at h
  unfold plainE
  rw [if_pos hc] at h ⊢
  split at h
  · cases h
  · split at h
    · cases h
    · rename_i h1
      rw [if_neg h1]
theorem packS_none {p q : Int} {N : Nd} (h : ¬ packE p q N = 0) : packS p q N = ⟨#[]⟩ := by unfold packS; rw [if_neg h]
theorem plainS_none {p q : Int} {N : Nd} (h : ¬ plainE p q N = 0) : plainS p q N = ⟨#[]⟩ := by unfold plainS; rw [if_neg h]
theorem plainE_len {p q : Int} {N : Nd} (h : plainE p q N = 0) : ((formN true q N).length : Int) ≤ p - 32 := by
  have hc := plainE_chk h
  unfold plainE at h
  rw [if_pos hc] at h
  split at h
  · cases h
  · omega
theorem forms_lens {q : Int} {N : Nd} : ((formN false q N).length : Int) = ((formN true q N).length : Int) - 4 * (N.ks.length : Int) := by
  cases hl : leafB N with
  | true =>
    have e : formN true q N = formN false q N := by unfold formN; rw [if_pos hl, if_pos hl]
    rw [e, (leafB_nil hl).2]; simp
  | false =>
    have := form_len (q := q) hl
    omega
theorem wrap64 {n : Int} (h1 : -9223372036854775808 ≤ n) (h2 : n ≤ 9223372036854775807) : IntKind.i64.wrap n = n := by
  rw [IntKind.wrap_i64]; omega
theorem nback_walk {p q : Int} {r : Nr} {N : Nd} (w : World) (h : NdOk w r q N) (hkk : N.ks.length ≤ 1048576) :
    Calls Try.prog 4 #[frameV p q, ndV r N] w fun e w' => e = .returned (.bool true) ∧ Same w w' := by
  have HP := fun W (s : Same w W) => pack_calls (p := p) W (h.same s)
  have HL := fun W (s : Same w W) => plain_calls (p := p) W (h.same s)
  have HZ := fun W (s : Same w W) => size_calls (p := p) W (h.same s)
  by_cases h2 : plainE p q N = 0
  · have hc := plainE_chk h2
    have hlen := plainE_len h2
    have hfl := forms_lens (q := q) (N := N)
    have hp4 := (frameP_cases (chk_zero hc).1).1
    have hsz : sizeV p q N = ((formN true q N).length : Int) := by unfold sizeV; rw [if_pos hc]
    have hS2 : plainS p q N = ⟨(formN false q N).toArray⟩ := by unfold plainS; rw [if_pos h2]
    have hz2 : (plainS p q N).size = (formN false q N).length := by rw [hS2, size_arr]
    obtain ⟨e1, e2⟩ := taken_plainB h.at_.ok h2
    have HR := fun W (_ : Same w W) => Read_calls (p := p) (q := q) (s := plainS p q N) W (by omega)
    rw [e1, e2] at HR
    rw [h2] at HL
    have HSB : ∀ W r2, Same w W → NdOk W r2 q (bareN N) → Calls Try.prog 16 #[ndV r2 (bareN N), ndV r N, .bool true] W fun e w' => e = .returned (.bool true) ∧ Same W w' := fun W r2 s hn =>
      same_true W hn.at_ (h.same s).at_ rfl rfl (by simp [bareN]) (fun j x y hx hy => by
        have e : (bareN N).ks[j]? = (N.ks[j]?).map bareK := by simp [bareN]
        rw [e, hy] at hx
        obtain rfl : bareK y = x := by simpa using hx
        exact ⟨rfl, fun e => by cases e⟩)
    have HM : ∀ x ∈ (bareN N).ks, x.page = 0 := fun x hx => by
      obtain ⟨y, _, rfl⟩ := List.mem_map.1 (show x ∈ N.ks.map bareK from hx)
      rfl
    have lM : (bareN N).ks.length ≤ 4611686018427387904 := by
      have : (bareN N).ks.length = N.ks.length := by simp [bareN]
      omega
    have z3 : ((plainS p q N).size : Int) = sizeV p q N - 4 * (N.ks.length : Int) := by rw [hz2, hsz]; exact hfl
    have z4 : IntKind.i64.wrap (4 * (N.ks.length : Int)) = 4 * (N.ks.length : Int) := wrap64 (by omega) (by omega)
    have z5 : IntKind.i64.wrap (sizeV p q N - 4 * (N.ks.length : Int)) = sizeV p q N - 4 * (N.ks.length : Int) := wrap64 (by omega) (by omega)
    by_cases h1 : packE p q N = 0
    · have hS1 : packS p q N = ⟨(formN true q N).toArray⟩ := by unfold packS; rw [if_pos h1]
      have hz1 : (packS p q N).size = (formN true q N).length := by rw [hS1, size_arr]
      obtain ⟨g1, g2⟩ := taken_pack h.at_.ok h1
      have HU := fun W (_ : Same w W) => Unpack_calls (p := p) (q := q) (s := packS p q N) W (by omega)
      rw [g1, g2] at HU
      rw [h1] at HP
      exact nback_0 w HP HU (fun W r1 s hn => same_true W hn.at_ (h.same s).at_ rfl rfl rfl (fun j x y hx hy => by
        rw [hx] at hy; cases hy; exact ⟨rfl, fun _ => rfl⟩)) HL HZ HR HSB (by rw [hz1, hsz]) (by omega) (wrap64 (by omega) (by omega)) z3 z4 z5 HM lM
    · rw [packS_none h1] at HP
      exact nback_1 w HP HL HZ HR HSB z3 z4 z5 HM lM h1
  · have h1 : ¬ packE p q N = 0 := fun e => h2 (pack_plain e)
    rw [packS_none h1] at HP
    rw [plainS_none h2] at HL
    exact nback_2 w HP HL h1 h2
end Go.Proofs.Ytjpgpfaeolgemaa
