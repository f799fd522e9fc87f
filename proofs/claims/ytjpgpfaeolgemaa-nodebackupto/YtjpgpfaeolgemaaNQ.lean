/- NodeForms. -/
import Derived.Test.YtjpgpfaeolgemaaNP
namespace Go.Proofs.Ytjpgpfaeolgemaa
open Go.RowKit

theorem keepA {W : World} {a : Addr} {v : Value} (h : W.cell? a = some v) (o : Obj) : (W.alloc o).cell? a = some v := (World.cell?_alloc_lt _ _ _ (World.block_lt_of_cell? W _ h)).trans h
set_option maxRecDepth 100000 in
set_option maxHeartbeats 1000000 in
theorem forms_00 {p q : Int} {s : ByteArray} {N1 : Nd} {N2 : Nd} (w : World)
    (HU : Hid (∀ W, Calls Try.prog 15 #[frameV p q, .string s] W fun e w' => ∃ r, e = .returned (.tuple #[ndV r N1, .int .i64 0]) ∧ NdOk w' r q N1 ∧ Same W w'))
    (HP : Hid (∀ W r, NdOk W r q N1 → Calls Try.prog 14 #[frameV p q, ndV r N1] W fun e w' => e = .returned (.tuple #[.string s, .int .i64 0]) ∧ Same W w'))
    (HC : Hid (∀ W r, NdOk W r q N1 → Calls Try.prog 20 #[frameV p q, ndV r N1] W fun e w' => e = .returned (.int .i64 0) ∧ Same W w'))
    (HR : Hid (∀ W, Calls Try.prog 19 #[frameV p q, .string s] W fun e w' => ∃ r, e = .returned (.tuple #[ndV r N2, .int .i64 0]) ∧ NdOk w' r q N2 ∧ Same W w'))
    (HQ : Hid (∀ W r, NdOk W r q N2 → Calls Try.prog 18 #[frameV p q, ndV r N2] W fun e w' => e = .returned (.tuple #[.string s, .int .i64 0]) ∧ Same W w'))
    (HD : Hid (∀ W r, NdOk W r q N2 → Calls Try.prog 20 #[frameV p q, ndV r N2] W fun e w' => e = .returned (.int .i64 0) ∧ Same W w'))
    : Calls Try.prog 5 #[frameV p q, .string s] w fun e w' => e = .returned (.bool true) ∧ Same w w' := by
  have HL : Hid (∀ W, Calls Try.prog 13 #[] W fun e w' => e = .returned (.bool true) ∧ Same W w') := lives_calls
  obtain ⟨V, hV⟩ : ∃ V, V = w.alloc (.cells #[.int .i64 p, .int .i64 q] 23) := ⟨_, rfl⟩
  have sx : Same w V := by rw [hV]; exact (Fr.refl _ w).alloc _
  have a0 : V.cell? ⟨w.heap.size, 0, none⟩ = some (.int .i64 p) := by rw [hV]; simp
  have a1 : V.cell? ⟨w.heap.size, 1, none⟩ = some (.int .i64 q) := by rw [hV]; simp
  go_enter Try.func5, Try.ntmps5
  go_wp2_with fail
  rw [← hV]
  clear hV
  refine (HL.out _).mono ?_
  rintro e W1 ⟨rfl, s1⟩
  have t1 := sx.trans s1
  have a0 := s1.keep a0
  have a1 := s1.keep a1
  clear s1
  go_wp2_with fail
  refine (HU.out _).mono ?_
  rintro e W2 ⟨r1, rfl, n1, s2⟩
  have t1 := t1.trans s2
  have a0 := s2.keep a0
  have a1 := s2.keep a1
  have a0x := fun o => keepA a0 o
  have a1x := fun o => keepA a1 o
  clear s2
  go_wp2_with fail
  clear a0x a1x
  obtain ⟨V2, hV2⟩ : ∃ V2, V2 = W2.alloc (.cells #[.slice r1.pa N1.ps.length r1.cp, .slice r1.sa N1.ss.length r1.cs, .slice r1.ka N1.ks.length r1.ck] 30) := ⟨_, rfl⟩
  rw [← hV2]
  have s3 : Same W2 V2 := by rw [hV2]; exact (Fr.refl _ W2).alloc _
  have t1 := t1.trans s3
  have a0 := s3.keep a0
  have a1 := s3.keep a1
  have b0 : V2.cell? ⟨W2.heap.size, 0, none⟩ = some (.slice r1.pa N1.ps.length r1.cp) := by rw [hV2]; simp
  have b1 : V2.cell? ⟨W2.heap.size, 1, none⟩ = some (.slice r1.sa N1.ss.length r1.cs) := by rw [hV2]; simp
  have b2 : V2.cell? ⟨W2.heap.size, 2, none⟩ = some (.slice r1.ka N1.ks.length r1.ck) := by rw [hV2]; simp
  have n1 := n1.same s3
  clear s3 hV2
  refine (HR.out _).mono ?_
  rintro e W3 ⟨r2, rfl, n2, s4⟩
  have t1 := t1.trans s4
  have a0 := s4.keep a0
  have a1 := s4.keep a1
  have b0 := s4.keep b0
  have b1 := s4.keep b1
  have b2 := s4.keep b2
  have a0x := fun o => keepA a0 o
  have a1x := fun o => keepA a1 o
  have b0x := fun o => keepA b0 o
  have b1x := fun o => keepA b1 o
  have b2x := fun o => keepA b2 o
  have n1 := n1.same s4
  clear s4
  go_wp2_with fail
  clear a0x a1x b0x b1x b2x
  obtain ⟨V3, hV3⟩ : ∃ V3, V3 = W3.alloc (.cells #[.slice r2.pa N2.ps.length r2.cp, .slice r2.sa N2.ss.length r2.cs, .slice r2.ka N2.ks.length r2.ck] 30) := ⟨_, rfl⟩
  rw [← hV3]
  have s5 : Same W3 V3 := by rw [hV3]; exact (Fr.refl _ W3).alloc _
  have t1 := t1.trans s5
  have a0 := s5.keep a0
  have a1 := s5.keep a1
  have b0 := s5.keep b0
  have b1 := s5.keep b1
  have b2 := s5.keep b2
  have c0 : V3.cell? ⟨W3.heap.size, 0, none⟩ = some (.slice r2.pa N2.ps.length r2.cp) := by rw [hV3]; simp
  have c1 : V3.cell? ⟨W3.heap.size, 1, none⟩ = some (.slice r2.sa N2.ss.length r2.cs) := by rw [hV3]; simp
  have c2 : V3.cell? ⟨W3.heap.size, 2, none⟩ = some (.slice r2.ka N2.ks.length r2.ck) := by rw [hV3]; simp
  have n1 := n1.same s5
  have n2 := n2.same s5
  clear s5 hV3
  refine (HP.out _ _ n1).mono ?_
  rintro e W6 ⟨rfl, s6⟩
  have t1 := t1.trans s6
  have a0 := s6.keep a0
  have a1 := s6.keep a1
  have b0 := s6.keep b0
  have b1 := s6.keep b1
  have b2 := s6.keep b2
  have c0 := s6.keep c0
  have c1 := s6.keep c1
  have c2 := s6.keep c2
  have n1 := n1.same s6
  have n2 := n2.same s6
  clear s6
  go_wp2_with fail
  refine (HC.out _ _ n1).mono ?_
  rintro e W7 ⟨rfl, s6⟩
  have t1 := t1.trans s6
  have a0 := s6.keep a0
  have a1 := s6.keep a1
  have b0 := s6.keep b0
  have b1 := s6.keep b1
  have b2 := s6.keep b2
  have c0 := s6.keep c0
  have c1 := s6.keep c1
  have c2 := s6.keep c2
  have n2 := n2.same s6
  clear s6
  go_wp2_with fail
  refine (HQ.out _ _ n2).mono ?_
  rintro e W8 ⟨rfl, s6⟩
  have t1 := t1.trans s6
  have a0 := s6.keep a0
  have a1 := s6.keep a1
  have b0 := s6.keep b0
  have b1 := s6.keep b1
  have b2 := s6.keep b2
  have c0 := s6.keep c0
  have c1 := s6.keep c1
  have c2 := s6.keep c2
  have n2 := n2.same s6
  clear s6
  go_wp2_with fail
  refine (HD.out _ _ n2).mono ?_
  rintro e W9 ⟨rfl, s6⟩
  have t1 := t1.trans s6
  have a0 := s6.keep a0
  have a1 := s6.keep a1
  have b0 := s6.keep b0
  have b1 := s6.keep b1
  have b2 := s6.keep b2
  have c0 := s6.keep c0
  have c1 := s6.keep c1
  have c2 := s6.keep c2
  clear s6
  go_wp2_with fail
  go_ret
  exact ⟨rfl, t1⟩
set_option maxRecDepth 100000 in
set_option maxHeartbeats 1000000 in
theorem forms_01 {p q : Int} {s : ByteArray} {N1 : Nd} {E2 : Int} (w : World)
    (HU : Hid (∀ W, Calls Try.prog 15 #[frameV p q, .string s] W fun e w' => ∃ r, e = .returned (.tuple #[ndV r N1, .int .i64 0]) ∧ NdOk w' r q N1 ∧ Same W w'))
    (HP : Hid (∀ W r, NdOk W r q N1 → Calls Try.prog 14 #[frameV p q, ndV r N1] W fun e w' => e = .returned (.tuple #[.string s, .int .i64 0]) ∧ Same W w'))
    (HC : Hid (∀ W r, NdOk W r q N1 → Calls Try.prog 20 #[frameV p q, ndV r N1] W fun e w' => e = .returned (.int .i64 0) ∧ Same W w'))
    (HR : Hid (∀ W, Calls Try.prog 19 #[frameV p q, .string s] W fun e w' => ∃ pa cp sa cs ka ck, e = .returned (.tuple #[nodeV pa 0 cp sa 0 cs ka 0 ck, .int .i64 E2]) ∧ Same W w')) (h2 : ¬ E2 = 0)
    : Calls Try.prog 5 #[frameV p q, .string s] w fun e w' => e = .returned (.bool true) ∧ Same w w' := by
  have HL : Hid (∀ W, Calls Try.prog 13 #[] W fun e w' => e = .returned (.bool true) ∧ Same W w') := lives_calls
  obtain ⟨V, hV⟩ : ∃ V, V = w.alloc (.cells #[.int .i64 p, .int .i64 q] 23) := ⟨_, rfl⟩
  have sx : Same w V := by rw [hV]; exact (Fr.refl _ w).alloc _
  have a0 : V.cell? ⟨w.heap.size, 0, none⟩ = some (.int .i64 p) := by rw [hV]; simp
  have a1 : V.cell? ⟨w.heap.size, 1, none⟩ = some (.int .i64 q) := by rw [hV]; simp
  go_enter Try.func5, Try.ntmps5
  go_wp2_with fail
  rw [← hV]
  clear hV
  refine (HL.out _).mono ?_
  rintro e W1 ⟨rfl, s1⟩
  have t1 := sx.trans s1
  have a0 := s1.keep a0
  have a1 := s1.keep a1
  clear s1
  go_wp2_with fail
  refine (HU.out _).mono ?_
  rintro e W2 ⟨r1, rfl, n1, s2⟩
  have t1 := t1.trans s2
  have a0 := s2.keep a0
  have a1 := s2.keep a1
  have a0x := fun o => keepA a0 o
  have a1x := fun o => keepA a1 o
  clear s2
  go_wp2_with fail
  clear a0x a1x
  obtain ⟨V2, hV2⟩ : ∃ V2, V2 = W2.alloc (.cells #[.slice r1.pa N1.ps.length r1.cp, .slice r1.sa N1.ss.length r1.cs, .slice r1.ka N1.ks.length r1.ck] 30) := ⟨_, rfl⟩
  rw [← hV2]
  have s3 : Same W2 V2 := by rw [hV2]; exact (Fr.refl _ W2).alloc _
  have t1 := t1.trans s3
  have a0 := s3.keep a0
  have a1 := s3.keep a1
  have b0 : V2.cell? ⟨W2.heap.size, 0, none⟩ = some (.slice r1.pa N1.ps.length r1.cp) := by rw [hV2]; simp
  have b1 : V2.cell? ⟨W2.heap.size, 1, none⟩ = some (.slice r1.sa N1.ss.length r1.cs) := by rw [hV2]; simp
  have b2 : V2.cell? ⟨W2.heap.size, 2, none⟩ = some (.slice r1.ka N1.ks.length r1.ck) := by rw [hV2]; simp
  have n1 := n1.same s3
  clear s3 hV2
  refine (HR.out _).mono ?_
  rintro e W3 ⟨pa2, cp2, sa2, cs2, ka2, ck2, rfl, s4⟩
  have t1 := t1.trans s4
  have a0 := s4.keep a0
  have a1 := s4.keep a1
  have b0 := s4.keep b0
  have b1 := s4.keep b1
  have b2 := s4.keep b2
  have a0x := fun o => keepA a0 o
  have a1x := fun o => keepA a1 o
  have b0x := fun o => keepA b0 o
  have b1x := fun o => keepA b1 o
  have b2x := fun o => keepA b2 o
  have n1 := n1.same s4
  clear s4
  go_wp2_with fail
  clear a0x a1x b0x b1x b2x
  obtain ⟨V3, hV3⟩ : ∃ V3, V3 = W3.alloc (.cells #[.slice pa2 0 cp2, .slice sa2 0 cs2, .slice ka2 0 ck2] 30) := ⟨_, rfl⟩
  rw [← hV3]
  have s5 : Same W3 V3 := by rw [hV3]; exact (Fr.refl _ W3).alloc _
  have t1 := t1.trans s5
  have a0 := s5.keep a0
  have a1 := s5.keep a1
  have b0 := s5.keep b0
  have b1 := s5.keep b1
  have b2 := s5.keep b2
  have c0 : V3.cell? ⟨W3.heap.size, 0, none⟩ = some (.slice pa2 0 cp2) := by rw [hV3]; simp
  have c1 : V3.cell? ⟨W3.heap.size, 1, none⟩ = some (.slice sa2 0 cs2) := by rw [hV3]; simp
  have c2 : V3.cell? ⟨W3.heap.size, 2, none⟩ = some (.slice ka2 0 ck2) := by rw [hV3]; simp
  have n1 := n1.same s5
  clear s5 hV3
  refine (HP.out _ _ n1).mono ?_
  rintro e W6 ⟨rfl, s6⟩
  have t1 := t1.trans s6
  have a0 := s6.keep a0
  have a1 := s6.keep a1
  have b0 := s6.keep b0
  have b1 := s6.keep b1
  have b2 := s6.keep b2
  have c0 := s6.keep c0
  have c1 := s6.keep c1
  have c2 := s6.keep c2
  have n1 := n1.same s6
  clear s6
  go_wp2_with fail
  refine (HC.out _ _ n1).mono ?_
  rintro e W7 ⟨rfl, s6⟩
  have t1 := t1.trans s6
  have a0 := s6.keep a0
  have a1 := s6.keep a1
  have b0 := s6.keep b0
  have b1 := s6.keep b1
  have b2 := s6.keep b2
  have c0 := s6.keep c0
  have c1 := s6.keep c1
  have c2 := s6.keep c2
  clear s6
  go_wp2_with fail
  go_ret
  exact ⟨rfl, t1⟩
set_option maxRecDepth 100000 in
set_option maxHeartbeats 1000000 in
theorem forms_10 {p q : Int} {s : ByteArray} {E1 : Int} {N2 : Nd} (w : World)
    (HU : Hid (∀ W, Calls Try.prog 15 #[frameV p q, .string s] W fun e w' => ∃ pa cp sa cs ka ck, e = .returned (.tuple #[nodeV pa 0 cp sa 0 cs ka 0 ck, .int .i64 E1]) ∧ Same W w')) (h1 : ¬ E1 = 0)
    (HR : Hid (∀ W, Calls Try.prog 19 #[frameV p q, .string s] W fun e w' => ∃ r, e = .returned (.tuple #[ndV r N2, .int .i64 0]) ∧ NdOk w' r q N2 ∧ Same W w'))
    (HQ : Hid (∀ W r, NdOk W r q N2 → Calls Try.prog 18 #[frameV p q, ndV r N2] W fun e w' => e = .returned (.tuple #[.string s, .int .i64 0]) ∧ Same W w'))
    (HD : Hid (∀ W r, NdOk W r q N2 → Calls Try.prog 20 #[frameV p q, ndV r N2] W fun e w' => e = .returned (.int .i64 0) ∧ Same W w'))
    : Calls Try.prog 5 #[frameV p q, .string s] w fun e w' => e = .returned (.bool true) ∧ Same w w' := by
  have HL : Hid (∀ W, Calls Try.prog 13 #[] W fun e w' => e = .returned (.bool true) ∧ Same W w') := lives_calls
  obtain ⟨V, hV⟩ : ∃ V, V = w.alloc (.cells #[.int .i64 p, .int .i64 q] 23) := ⟨_, rfl⟩
  have sx : Same w V := by rw [hV]; exact (Fr.refl _ w).alloc _
  have a0 : V.cell? ⟨w.heap.size, 0, none⟩ = some (.int .i64 p) := by rw [hV]; simp
  have a1 : V.cell? ⟨w.heap.size, 1, none⟩ = some (.int .i64 q) := by rw [hV]; simp
  go_enter Try.func5, Try.ntmps5
  go_wp2_with fail
  rw [← hV]
  clear hV
  refine (HL.out _).mono ?_
  rintro e W1 ⟨rfl, s1⟩
  have t1 := sx.trans s1
  have a0 := s1.keep a0
  have a1 := s1.keep a1
  clear s1
  go_wp2_with fail
  refine (HU.out _).mono ?_
  rintro e W2 ⟨pa1, cp1, sa1, cs1, ka1, ck1, rfl, s2⟩
  have t1 := t1.trans s2
  have a0 := s2.keep a0
  have a1 := s2.keep a1
  have a0x := fun o => keepA a0 o
  have a1x := fun o => keepA a1 o
  clear s2
  go_wp2_with fail
  clear a0x a1x
  obtain ⟨V2, hV2⟩ : ∃ V2, V2 = W2.alloc (.cells #[.slice pa1 0 cp1, .slice sa1 0 cs1, .slice ka1 0 ck1] 30) := ⟨_, rfl⟩
  rw [← hV2]
  have s3 : Same W2 V2 := by rw [hV2]; exact (Fr.refl _ W2).alloc _
  have t1 := t1.trans s3
  have a0 := s3.keep a0
  have a1 := s3.keep a1
  have b0 : V2.cell? ⟨W2.heap.size, 0, none⟩ = some (.slice pa1 0 cp1) := by rw [hV2]; simp
  have b1 : V2.cell? ⟨W2.heap.size, 1, none⟩ = some (.slice sa1 0 cs1) := by rw [hV2]; simp
  have b2 : V2.cell? ⟨W2.heap.size, 2, none⟩ = some (.slice ka1 0 ck1) := by rw [hV2]; simp
  clear s3 hV2
  refine (HR.out _).mono ?_
  rintro e W3 ⟨r2, rfl, n2, s4⟩
  have t1 := t1.trans s4
  have a0 := s4.keep a0
  have a1 := s4.keep a1
  have b0 := s4.keep b0
  have b1 := s4.keep b1
  have b2 := s4.keep b2
  have a0x := fun o => keepA a0 o
  have a1x := fun o => keepA a1 o
  have b0x := fun o => keepA b0 o
  have b1x := fun o => keepA b1 o
  have b2x := fun o => keepA b2 o
  clear s4
  go_wp2_with fail
  clear a0x a1x b0x b1x b2x
  obtain ⟨V3, hV3⟩ : ∃ V3, V3 = W3.alloc (.cells #[.slice r2.pa N2.ps.length r2.cp, .slice r2.sa N2.ss.length r2.cs, .slice r2.ka N2.ks.length r2.ck] 30) := ⟨_, rfl⟩
  rw [← hV3]
  have s5 : Same W3 V3 := by rw [hV3]; exact (Fr.refl _ W3).alloc _
  have t1 := t1.trans s5
  have a0 := s5.keep a0
  have a1 := s5.keep a1
  have b0 := s5.keep b0
  have b1 := s5.keep b1
  have b2 := s5.keep b2
  have c0 : V3.cell? ⟨W3.heap.size, 0, none⟩ = some (.slice r2.pa N2.ps.length r2.cp) := by rw [hV3]; simp
  have c1 : V3.cell? ⟨W3.heap.size, 1, none⟩ = some (.slice r2.sa N2.ss.length r2.cs) := by rw [hV3]; simp
  have c2 : V3.cell? ⟨W3.heap.size, 2, none⟩ = some (.slice r2.ka N2.ks.length r2.ck) := by rw [hV3]; simp
  have n2 := n2.same s5
  clear s5 hV3
  refine (HQ.out _ _ n2).mono ?_
  rintro e W8 ⟨rfl, s6⟩
  have t1 := t1.trans s6
  have a0 := s6.keep a0
  have a1 := s6.keep a1
  have b0 := s6.keep b0
  have b1 := s6.keep b1
  have b2 := s6.keep b2
  have c0 := s6.keep c0
  have c1 := s6.keep c1
  have c2 := s6.keep c2
  have n2 := n2.same s6
  clear s6
  go_wp2_with fail
  refine (HD.out _ _ n2).mono ?_
  rintro e W9 ⟨rfl, s6⟩
  have t1 := t1.trans s6
  have a0 := s6.keep a0
  have a1 := s6.keep a1
  have b0 := s6.keep b0
  have b1 := s6.keep b1
  have b2 := s6.keep b2
  have c0 := s6.keep c0
  have c1 := s6.keep c1
  have c2 := s6.keep c2
  clear s6
  go_wp2_with fail
  go_ret
  exact ⟨rfl, t1⟩
set_option maxRecDepth 100000 in
set_option maxHeartbeats 1000000 in
theorem forms_11 {p q : Int} {s : ByteArray} {E1 : Int} {E2 : Int} (w : World)
    (HU : Hid (∀ W, Calls Try.prog 15 #[frameV p q, .string s] W fun e w' => ∃ pa cp sa cs ka ck, e = .returned (.tuple #[nodeV pa 0 cp sa 0 cs ka 0 ck, .int .i64 E1]) ∧ Same W w')) (h1 : ¬ E1 = 0)
    (HR : Hid (∀ W, Calls Try.prog 19 #[frameV p q, .string s] W fun e w' => ∃ pa cp sa cs ka ck, e = .returned (.tuple #[nodeV pa 0 cp sa 0 cs ka 0 ck, .int .i64 E2]) ∧ Same W w')) (h2 : ¬ E2 = 0)
    : Calls Try.prog 5 #[frameV p q, .string s] w fun e w' => e = .returned (.bool true) ∧ Same w w' := by
  have HL : Hid (∀ W, Calls Try.prog 13 #[] W fun e w' => e = .returned (.bool true) ∧ Same W w') := lives_calls
  obtain ⟨V, hV⟩ : ∃ V, V = w.alloc (.cells #[.int .i64 p, .int .i64 q] 23) := ⟨_, rfl⟩
  have sx : Same w V := by rw [hV]; exact (Fr.refl _ w).alloc _
  have a0 : V.cell? ⟨w.heap.size, 0, none⟩ = some (.int .i64 p) := by rw [hV]; simp
  have a1 : V.cell? ⟨w.heap.size, 1, none⟩ = some (.int .i64 q) := by rw [hV]; simp
  go_enter Try.func5, Try.ntmps5
  go_wp2_with fail
  rw [← hV]
  clear hV
  refine (HL.out _).mono ?_
  rintro e W1 ⟨rfl, s1⟩
  have t1 := sx.trans s1
  have a0 := s1.keep a0
  have a1 := s1.keep a1
  clear s1
  go_wp2_with fail
  refine (HU.out _).mono ?_
  rintro e W2 ⟨pa1, cp1, sa1, cs1, ka1, ck1, rfl, s2⟩
  have t1 := t1.trans s2
  have a0 := s2.keep a0
  have a1 := s2.keep a1
  have a0x := fun o => keepA a0 o
  have a1x := fun o => keepA a1 o
  clear s2
  go_wp2_with fail
  clear a0x a1x
  obtain ⟨V2, hV2⟩ : ∃ V2, V2 = W2.alloc (.cells #[.slice pa1 0 cp1, .slice sa1 0 cs1, .slice ka1 0 ck1] 30) := ⟨_, rfl⟩
  rw [← hV2]
  have s3 : Same W2 V2 := by rw [hV2]; exact (Fr.refl _ W2).alloc _
  have t1 := t1.trans s3
  have a0 := s3.keep a0
  have a1 := s3.keep a1
  have b0 : V2.cell? ⟨W2.heap.size, 0, none⟩ = some (.slice pa1 0 cp1) := by rw [hV2]; simp
  have b1 : V2.cell? ⟨W2.heap.size, 1, none⟩ = some (.slice sa1 0 cs1) := by rw [hV2]; simp
  have b2 : V2.cell? ⟨W2.heap.size, 2, none⟩ = some (.slice ka1 0 ck1) := by rw [hV2]; simp
  clear s3 hV2
  refine (HR.out _).mono ?_
  rintro e W3 ⟨pa2, cp2, sa2, cs2, ka2, ck2, rfl, s4⟩
  have t1 := t1.trans s4
  have a0 := s4.keep a0
  have a1 := s4.keep a1
  have b0 := s4.keep b0
  have b1 := s4.keep b1
  have b2 := s4.keep b2
  have a0x := fun o => keepA a0 o
  have a1x := fun o => keepA a1 o
  have b0x := fun o => keepA b0 o
  have b1x := fun o => keepA b1 o
  have b2x := fun o => keepA b2 o
  clear s4
  go_wp2_with fail
  go_ret
  exact ⟨rfl, t1.trans ((Fr.refl _ W3).alloc _)⟩

theorem takenE_yes_page {p q : Int} {s : ByteArray} (h : takenE_page p q s = 0) : packE p q (takenN_page p q s) = 0 ∧ packS p q (takenN_page p q s) = s := by
  have e2 : takenN_page p q s = rdNode_page p q s := by unfold takenN_page; rw [if_pos h]
  rw [e2]
  unfold takenE_page at h
  split at h
  · split at h
    · assumption
    · cases h
  · cases h
theorem takenE_yes_plain {p q : Int} {s : ByteArray} (h : takenE_plain p q s = 0) : plainE p q (takenN_plain p q s) = 0 ∧ plainS p q (takenN_plain p q s) = s := by
  have e2 : takenN_plain p q s = rdNode_plain p q s := by unfold takenN_plain; rw [if_pos h]
  rw [e2]
  unfold takenE_plain at h
  split at h
  · split at h
    · assumption
    · cases h
  · cases h
theorem packE_chk {p q : Int} {N : Nd} (h : packE p q N = 0) : chkN p q N = 0 := by
  unfold packE at h
  split at h
  · assumption
  · exact h
theorem plainE_chk {p q : Int} {N : Nd} (h : plainE p q N = 0) : chkN p q N = 0 := by
  unfold plainE at h
  split at h
  · assumption
  · exact h
theorem forms_walk {p q : Int} {s : ByteArray} (w : World) (hsz : s.size ≤ 1000000000) :
    Calls Try.prog 5 #[frameV p q, .string s] w fun e w' => e = .returned (.bool true) ∧ Same w w' := by
  have HU := fun W => Unpack_calls (p := p) (q := q) W hsz
  have HR := fun W => Read_calls (p := p) (q := q) W hsz
  have y1 : takenE_page p q s = 0 → (∀ W r, NdOk W r q (takenN_page p q s) → Calls Try.prog 14 #[frameV p q, ndV r (takenN_page p q s)] W fun e w' => e = .returned (.tuple #[.string s, .int .i64 0]) ∧ Same W w') := fun h W r hn => by
    have := pack_calls (p := p) W hn
    rw [(takenE_yes_page h).1, (takenE_yes_page h).2] at this
    exact this
  have z1 : takenE_page p q s = 0 → (∀ W r, NdOk W r q (takenN_page p q s) → Calls Try.prog 20 #[frameV p q, ndV r (takenN_page p q s)] W fun e w' => e = .returned (.int .i64 0) ∧ Same W w') := fun h W r hn => by
    have := check_calls p q W hn.at_
    rw [packE_chk (takenE_yes_page h).1] at this
    exact this
  have y2 : takenE_plain p q s = 0 → (∀ W r, NdOk W r q (takenN_plain p q s) → Calls Try.prog 18 #[frameV p q, ndV r (takenN_plain p q s)] W fun e w' => e = .returned (.tuple #[.string s, .int .i64 0]) ∧ Same W w') := fun h W r hn => by
    have := plain_calls (p := p) W hn
    rw [(takenE_yes_plain h).1, (takenE_yes_plain h).2] at this
    exact this
  have z2 : takenE_plain p q s = 0 → (∀ W r, NdOk W r q (takenN_plain p q s) → Calls Try.prog 20 #[frameV p q, ndV r (takenN_plain p q s)] W fun e w' => e = .returned (.int .i64 0) ∧ Same W w') := fun h W r hn => by
    have := check_calls p q W hn.at_
    rw [plainE_chk (takenE_yes_plain h).1] at this
    exact this
  have no1 : ¬ takenE_page p q s = 0 → (∀ W, Calls Try.prog 15 #[frameV p q, .string s] W fun e w' => ∃ pa cp sa cs ka ck, e = .returned (.tuple #[nodeV pa 0 cp sa 0 cs ka 0 ck, .int .i64 (takenE_page p q s)]) ∧ Same W w') := fun h W => (HU W).mono fun e w' ⟨r, he, _, hs⟩ => by
    have e2 : takenN_page p q s = noNd := by unfold takenN_page; rw [if_neg h]
    rw [e2] at he
    exact ⟨r.pa, r.cp, r.sa, r.cs, r.ka, r.ck, he, hs⟩
  have no2 : ¬ takenE_plain p q s = 0 → (∀ W, Calls Try.prog 19 #[frameV p q, .string s] W fun e w' => ∃ pa cp sa cs ka ck, e = .returned (.tuple #[nodeV pa 0 cp sa 0 cs ka 0 ck, .int .i64 (takenE_plain p q s)]) ∧ Same W w') := fun h W => (HR W).mono fun e w' ⟨r, he, _, hs⟩ => by
    have e2 : takenN_plain p q s = noNd := by unfold takenN_plain; rw [if_neg h]
    rw [e2] at he
    exact ⟨r.pa, r.cp, r.sa, r.cs, r.ka, r.ck, he, hs⟩
  by_cases h1 : takenE_page p q s = 0
  · rw [h1] at HU
    by_cases h2 : takenE_plain p q s = 0
    · rw [h2] at HR
      exact forms_00 w HU (y1 h1) (z1 h1) HR (y2 h2) (z2 h2)
    · exact forms_01 w HU (y1 h1) (z1 h1) (no2 h2) h2
  · by_cases h2 : takenE_plain p q s = 0
    · rw [h2] at HR
      exact forms_10 w (no1 h1) h1 HR (y2 h2) (z2 h2)
    · exact forms_11 w (no1 h1) h1 (no2 h2) h2
end Go.Proofs.Ytjpgpfaeolgemaa
