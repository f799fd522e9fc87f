/- The walk of GraftHalves. -/
import Derived.Test.YtmekgmpildlciaaGreatFJ
import Derived.Test.YtmekgmpildlciaaGreatKI
namespace Go.Proofs.YtmekgmpildlciaaGreat
open Go.RowKit

theorem LentAt.room {w : World} {B gp cp gs cs gk ck : Nat} {N : Nd} (h : LentAt w B gp cp gs cs gk ck N) : NdRoom (lentNr gp cp gs cs gk ck) N := by
  obtain ⟨h1, h2, h3⟩ := h.caps
  exact ⟨by show _ ≤ cp; omega, by show _ ≤ cs; omega, by show _ ≤ ck; omega, fun e => (by cases e), fun e => (by cases e), fun e => (by cases e), fun a e => (by cases e; exact ⟨gp, 0, rfl⟩), fun a e => (by cases e; exact ⟨gs, 0, rfl⟩), fun a e => (by cases e; exact ⟨gk, 0, rfl⟩)⟩
set_option maxRecDepth 100000 in
set_option maxHeartbeats 4000000 in
theorem ghalves_out {p q : Int} {r : Nr} {N : Nd} {S : Int} {F : Bool} (w : World) (h : NdIn w r N) (h1 : N.ps.length ≤ 1048576) (h2 : N.ss.length ≤ 1048576) (h3 : N.ks.length ≤ 1048576)
    (HZ : Hid (∀ W gp cp gs cs gk ck B, LentAt W B gp cp gs cs gk ck N → Calls Tryz.prog 4 #[frameV p q, ndV (lentNr gp cp gs cs gk ck) N] W fun e w' => e = .returned (.int .i64 S) ∧ Same W w'))
    (HRt : Hid (∀ W, Calls Tryz.prog 6 #[frameV p q] W fun e w' => e = .returned (.bool F) ∧ Same W w'))
    (hF : F = true → 1024 ≤ p ∧ p ≤ 8192) (hout : F = false ∨ (F = true ∧ (S ≤ p - 32 ∨ p - 32 + 2 * ((p - 30) / 3) < S))) :
    Calls Tryz.prog 3 #[frameV p q, ndV r N] w fun e w' => e = .returned (.bool true) ∧ Same w w' := by
  have HL : Hid (∀ W, Same w W → Calls Tryz.prog 5 #[ndV r N] W fun e w' => ∃ gp cp gs cs gk ck, e = .returned (ndV (lentNr gp cp gs cs gk ck) N) ∧ LentAt w' W.heap.size gp cp gs cs gk ck N ∧ Same W w') := fun W s => lent_at W (h.same s) h1 h2 h3
  have HAW : Hid (∀ W, Calls Tryz.prog 7 #[] W fun e w' => e = .returned (.bool true) ∧ Same W w') := awake_calls
  obtain ⟨V, hV⟩ : ∃ V, V = (w.alloc (.cells #[.int .i64 p, .int .i64 q] 23)).alloc (.cells #[.slice r.pa N.ps.length r.cp, .slice r.sa N.ss.length r.cs, .slice r.ka N.ks.length r.ck] 28) := ⟨_, rfl⟩
  have t1 : Same w V := by rw [hV]; exact ((Fr.refl _ w).alloc _).alloc _
  have HC : Hid (∀ W, Same V W → W.cell? ⟨w.heap.size, 0, none⟩ = some (.int .i64 p) ∧ W.cell? ⟨w.heap.size, 1, none⟩ = some (.int .i64 q) ∧ W.cell? ⟨w.heap.size + 1, 0, none⟩ = some (.slice r.pa N.ps.length r.cp) ∧ W.cell? ⟨w.heap.size + 1, 1, none⟩ = some (.slice r.sa N.ss.length r.cs) ∧ W.cell? ⟨w.heap.size + 1, 2, none⟩ = some (.slice r.ka N.ks.length r.ck)) := fun W s => ⟨s.keep (by rw [hV]; simp), s.keep (by rw [hV]; simp), s.keep (by rw [hV]; simp), s.keep (by rw [hV]; simp), s.keep (by rw [hV]; simp)⟩
  have d0 : Same V V.drew := Fr.drew (Fr.refl _ V)
  clear h
  unfold lentNr at HL HZ
  go_enter Tryz.func3, Tryz.ntmps3
  go_wp2_with fail
  rw [← hV]
  clear hV
  go_region_held3 (fun W => W.cell? ⟨w.heap.size, 0, none⟩ = some (.int .i64 p) ∧ W.cell? ⟨w.heap.size, 1, none⟩ = some (.int .i64 q) ∧ W.cell? ⟨w.heap.size + 1, 0, none⟩ = some (.slice r.pa N.ps.length r.cp) ∧ W.cell? ⟨w.heap.size + 1, 1, none⟩ = some (.slice r.sa N.ss.length r.cs) ∧ W.cell? ⟨w.heap.size + 1, 2, none⟩ = some (.slice r.ka N.ks.length r.ck)) (first | exact HC.out _ u2 | exact HC.out _ u1 | exact HC.out _ d0)
    (first | (go_at_call 5; refine (HL.out _ (t1.trans d0)).mono ?_; rintro e Z1 ⟨gp, cp, gs, cs, gk, ck, rfl, l1, q1⟩; have u1 := Same.trans d0 q1; clear q1) | (go_at_call 4; refine (HZ.out _ _ _ _ _ _ _ _ l1).mono ?_; rintro e Z2 ⟨rfl, q2⟩; have u2 := Same.trans u1 q2; clear q2))
  obtain ⟨f0, f1, c0, c1, c2⟩ := HC.out _ u2
  go_wp2_with fail
  refine (HRt.out _).mono ?_
  rintro e Z3 ⟨rfl, q3⟩
  have u3 := Same.trans u2 q3
  clear f0 f1 c0 c1 c2
  obtain ⟨f0, f1, c0, c1, c2⟩ := HC.out _ u3
  clear HZ HL l1
  rcases hout with rfl | ⟨rfl, hS | hS⟩
  · clear hF
    go_wp2_with fail
    refine (HAW.out _).mono ?_
    rintro e Y1 ⟨rfl, y1⟩
    go_wp2_with fail
    go_ret
    exact ⟨rfl, (t1.trans u3).trans y1⟩
  · obtain ⟨p1, p2⟩ := hF rfl
    clear hF
    have w1 : IntKind.i64.wrap (p - 32) = p - 32 := by rw [IntKind.wrap_i64]; omega
    go_wp2_with fail
    refine (HAW.out _).mono ?_
    rintro e Y1 ⟨rfl, y1⟩
    go_wp2_with fail
    go_ret
    exact ⟨rfl, (t1.trans u3).trans y1⟩
  · obtain ⟨p1, p2⟩ := hF rfl
    clear hF
    have w1 : IntKind.i64.wrap (p - 32) = p - 32 := by rw [IntKind.wrap_i64]; omega
    have w2 : IntKind.i64.wrap (p - 30) = p - 30 := by rw [IntKind.wrap_i64]; omega
    have w3 : IntKind.i64.wrap ((p - 30) / 3) = (p - 30) / 3 := by rw [IntKind.wrap_i64]; omega
    have w4 : IntKind.i64.wrap (2 * ((p - 30) / 3)) = 2 * ((p - 30) / 3) := by rw [IntKind.wrap_i64]; omega
    have w5 : IntKind.i64.wrap (p - 32 + 2 * ((p - 30) / 3)) = p - 32 + 2 * ((p - 30) / 3) := by rw [IntKind.wrap_i64]; omega
    have hS2 : ¬ S ≤ p - 32 := by omega
    go_wp2_with fail
    refine (HAW.out _).mono ?_
    rintro e Y1 ⟨rfl, y1⟩
    go_wp2_with fail
    go_ret
    exact ⟨rfl, (t1.trans u3).trans y1⟩
set_option maxRecDepth 100000 in
set_option maxHeartbeats 4000000 in
theorem ghalves_in {p q : Int} {r : Nr} {N N1 N2 : Nd} {S a b : Int} (w : World) (h : NdIn w r N) (h1 : N.ps.length ≤ 1048576) (h2 : N.ss.length ≤ 1048576) (h3 : N.ks.length ≤ 1048576)
    (HZ : Hid (∀ W gp cp gs cs gk ck B, LentAt W B gp cp gs cs gk ck N → Calls Tryz.prog 4 #[frameV p q, ndV (lentNr gp cp gs cs gk ck) N] W fun e w' => e = .returned (.int .i64 S) ∧ Same W w'))
    (HRt : Hid (∀ W, Calls Tryz.prog 6 #[frameV p q] W fun e w' => e = .returned (.bool true) ∧ Same W w'))
    (HSP : Hid (∀ W gp cp gs cs gk ck B, LentAt W B gp cp gs cs gk ck N → Calls Tryz.prog 8 #[frameV p q, ndV (lentNr gp cp gs cs gk ck) N] W fun e w' => HalvesIs W.heap.size N1 N2 e w' ∧ Same W w'))
    (HF1 : Hid (∀ W B r1, MadeNd W B r1 N1 → (Calls Tryz.prog 9 #[frameV p q, ndV r1 N1] W fun e w' => e = .returned (.bool false) ∧ Same W w') ∧ (Calls Tryz.prog 10 #[frameV p q, ndV r1 N1] W fun e w' => e = .returned (.bool false) ∧ Same W w') ∧ (Calls Tryz.prog 4 #[frameV p q, ndV r1 N1] W fun e w' => e = .returned (.int .i64 a) ∧ Same W w')))
    (HF2 : Hid (∀ W B r2, MadeNd W B r2 N2 → (Calls Tryz.prog 9 #[frameV p q, ndV r2 N2] W fun e w' => e = .returned (.bool false) ∧ Same W w') ∧ (Calls Tryz.prog 10 #[frameV p q, ndV r2 N2] W fun e w' => e = .returned (.bool false) ∧ Same W w') ∧ (Calls Tryz.prog 4 #[frameV p q, ndV r2 N2] W fun e w' => e = .returned (.int .i64 b) ∧ Same W w')))
    (p1 : 1024 ≤ p) (p2 : p ≤ 8192) (hS1 : ¬ S ≤ p - 32) (hS2 : ¬ p - 32 + 2 * ((p - 30) / 3) < S) (ha1 : (p - 30) / 3 ≤ a) (ha2 : a ≤ p - 32) (hb1 : (p - 30) / 3 ≤ b) (hb2 : b ≤ p - 32) :
    Calls Tryz.prog 3 #[frameV p q, ndV r N] w fun e w' => e = .returned (.bool true) ∧ Same w w' := by
  have HL : Hid (∀ W, Same w W → Calls Tryz.prog 5 #[ndV r N] W fun e w' => ∃ gp cp gs cs gk ck, e = .returned (ndV (lentNr gp cp gs cs gk ck) N) ∧ LentAt w' W.heap.size gp cp gs cs gk ck N ∧ Same W w') := fun W s => lent_at W (h.same s) h1 h2 h3
  have HAW : Hid (∀ W, Calls Tryz.prog 7 #[] W fun e w' => e = .returned (.bool true) ∧ Same W w') := awake_calls
  obtain ⟨V0, hV⟩ : ∃ V0, V0 = (w.alloc (.cells #[.int .i64 p, .int .i64 q] 23)).alloc (.cells #[.slice r.pa N.ps.length r.cp, .slice r.sa N.ss.length r.cs, .slice r.ka N.ks.length r.ck] 28) := ⟨_, rfl⟩
  have t1 : Same w V0 := by rw [hV]; exact ((Fr.refl _ w).alloc _).alloc _
  have HC : Hid (∀ W, Same V0 W → W.cell? ⟨w.heap.size, 0, none⟩ = some (.int .i64 p) ∧ W.cell? ⟨w.heap.size, 1, none⟩ = some (.int .i64 q) ∧ W.cell? ⟨w.heap.size + 1, 0, none⟩ = some (.slice r.pa N.ps.length r.cp) ∧ W.cell? ⟨w.heap.size + 1, 1, none⟩ = some (.slice r.sa N.ss.length r.cs) ∧ W.cell? ⟨w.heap.size + 1, 2, none⟩ = some (.slice r.ka N.ks.length r.ck)) := fun W s => ⟨s.keep (by rw [hV]; simp), s.keep (by rw [hV]; simp), s.keep (by rw [hV]; simp), s.keep (by rw [hV]; simp), s.keep (by rw [hV]; simp)⟩
  have d0 : Same V0 V0.drew := Fr.drew (Fr.refl _ V0)
  clear h
  unfold lentNr at HL HZ HSP
  unfold HalvesIs halvesN at HSP
  have w1 : IntKind.i64.wrap (p - 32) = p - 32 := by rw [IntKind.wrap_i64]; omega
  have w2 : IntKind.i64.wrap (p - 30) = p - 30 := by rw [IntKind.wrap_i64]; omega
  have w3 : IntKind.i64.wrap ((p - 30) / 3) = (p - 30) / 3 := by rw [IntKind.wrap_i64]; omega
  have w4 : IntKind.i64.wrap (2 * ((p - 30) / 3)) = 2 * ((p - 30) / 3) := by rw [IntKind.wrap_i64]; omega
  have w5 : IntKind.i64.wrap (p - 32 + 2 * ((p - 30) / 3)) = p - 32 + 2 * ((p - 30) / 3) := by rw [IntKind.wrap_i64]; omega
  go_enter Tryz.func3, Tryz.ntmps3
  go_wp2_with fail
  rw [← hV]
  clear hV
  go_region_held3 (fun W => W.cell? ⟨w.heap.size, 0, none⟩ = some (.int .i64 p) ∧ W.cell? ⟨w.heap.size, 1, none⟩ = some (.int .i64 q) ∧ W.cell? ⟨w.heap.size + 1, 0, none⟩ = some (.slice r.pa N.ps.length r.cp) ∧ W.cell? ⟨w.heap.size + 1, 1, none⟩ = some (.slice r.sa N.ss.length r.cs) ∧ W.cell? ⟨w.heap.size + 1, 2, none⟩ = some (.slice r.ka N.ks.length r.ck)) (first | exact HC.out _ u2 | exact HC.out _ u1 | exact HC.out _ d0)
    (first | (go_at_call 5; refine (HL.out _ (t1.trans d0)).mono ?_; rintro e Z1 ⟨gp, cp, gs, cs, gk, ck, rfl, l1, q1⟩; have u1 := Same.trans d0 q1; clear q1) | (go_at_call 4; refine (HZ.out _ _ _ _ _ _ _ _ l1).mono ?_; rintro e Z2 ⟨rfl, q2⟩; have u2 := Same.trans u1 q2; clear q2))
  obtain ⟨f0, f1, c0, c1, c2⟩ := HC.out _ u2
  go_wp2_with fail
  refine (HRt.out _).mono ?_
  rintro e Z3 ⟨rfl, q3⟩
  have u3 := Same.trans u2 q3
  clear f0 f1 c0 c1 c2
  obtain ⟨f0, f1, c0, c1, c2⟩ := HC.out _ u3
  clear HZ l1
  go_wp2_with fail
  clear f0 f1 c0 c1 c2
  have t1 := t1.trans u3
  have HC : Hid (∀ W, Same Z3 W → W.cell? ⟨w.heap.size, 0, none⟩ = some (.int .i64 p) ∧ W.cell? ⟨w.heap.size, 1, none⟩ = some (.int .i64 q) ∧ W.cell? ⟨w.heap.size + 1, 0, none⟩ = some (.slice r.pa N.ps.length r.cp) ∧ W.cell? ⟨w.heap.size + 1, 1, none⟩ = some (.slice r.sa N.ss.length r.cs) ∧ W.cell? ⟨w.heap.size + 1, 2, none⟩ = some (.slice r.ka N.ks.length r.ck)) := fun W s => HC.out _ (u3.trans s)
  clear u1 u2 u3 q3 d0
  obtain ⟨V, hV⟩ : ∃ V, V = Z3 := ⟨_, rfl⟩
  rw [← hV] at t1 HC ⊢
  clear hV
  have d0 : Same V V.drew := Fr.drew (Fr.refl _ V)
  refine wp_region_held_drew (S := fun W => W.cell? ⟨w.heap.size, 0, none⟩ = some (.int .i64 p) ∧ W.cell? ⟨w.heap.size, 1, none⟩ = some (.int .i64 q) ∧ W.cell? ⟨w.heap.size + 1, 0, none⟩ = some (.slice r.pa N.ps.length r.cp) ∧ W.cell? ⟨w.heap.size + 1, 1, none⟩ = some (.slice r.sa N.ss.length r.cs) ∧ W.cell? ⟨w.heap.size + 1, 2, none⟩ = some (.slice r.ka N.ks.length r.ck)) (by kernel_rfl) (HC.out _ d0) (fun hHeld => ?_)
  refine wpAnyH_take (i := 0) (oi := { dst := some 39, op := Op.load 23 (Operand.tmp 2), type := 23, pos := "outright.go:39", after := #[], guard := none }) (v := .agg #[.int .i64 p, .int .i64 q]) rfl (by kernel_rfl) (by kernel_rfl) (by kernel_rfl) (fun _ _ _ h => h) (Or.inl ⟨by rfl, fun w hSw => by (obtain ⟨q0, q1, q2, q3, q4⟩ := hSw; go_simp)⟩) (by assumption) ?_
  try simp only [Act.put, List.setIfInBounds_toArray, List.set_cons_zero, List.set_cons_succ]
  refine wpAnyH_take (i := 1) (oi := { dst := some 40, op := Op.load 28 (Operand.tmp 3), type := 28, pos := "outright.go:39", after := #[], guard := none }) (v := .agg #[.slice r.pa N.ps.length r.cp, .slice r.sa N.ss.length r.cs, .slice r.ka N.ks.length r.ck]) rfl (by kernel_rfl) (by kernel_rfl) (by kernel_rfl) (fun _ _ _ h => h) (Or.inl ⟨by rfl, fun w hSw => by (obtain ⟨q0, q1, q2, q3, q4⟩ := hSw; go_simp)⟩) (by assumption) ?_
  try simp only [Act.put, List.setIfInBounds_toArray, List.set_cons_zero, List.set_cons_succ]
  refine wpAnyH_ready (rs := [2, 7]) (by kernel_rfl) (by simp) ?_
  refine AllReadyH.cons (o := { dst := some 41, op := Op.call { callee := Callee.value (Operand.func 5), args := #[Operand.tmp 40], argTypes := #[28] }, type := 28, pos := "outright.go:39", after := #[{ on := 1, ground := Ground.data }], guard := none }) rfl (fun K hK => ?_) (AllReadyH.cons (o := { dst := some 6, op := Op.alloc 34, type := 0, pos := "outright.go:39", after := #[], guard := none }) rfl (fun K hK => ?_) AllReadyH.nil)
  · go_simp
    go_at_call 5
    refine (HL.out _ (t1.trans (d0))).mono ?_
    rintro e Z1 ⟨gp, cp, gs, cs, gk, ck, rfl, l1, q1⟩
    try go_wp2_with fail
    have u1 : Same V Z1 := Same.trans (d0) q1
    refine hK.out _ _ (HC.out _ u1) (fun hHeld => ?_)
    clear hK K
    try simp only [Act.put, List.setIfInBounds_toArray, List.set_cons_zero, List.set_cons_succ]
    refine wpAnyH_ready (rs := [3, 7]) (by kernel_rfl) (by simp) ?_
    refine AllReadyH.cons (o := { dst := some 42, op := Op.call { callee := Callee.value (Operand.func 8), args := #[Operand.tmp 39, Operand.tmp 41], argTypes := #[23, 28] }, type := 36, pos := "outright.go:39", after := #[{ on := 0, ground := Ground.data }, { on := 2, ground := Ground.data }, { on := 2, ground := Ground.chain }], guard := none }) rfl (fun K hK => ?_) (AllReadyH.cons (o := { dst := some 6, op := Op.alloc 34, type := 0, pos := "outright.go:39", after := #[], guard := none }) rfl (fun K hK => ?_) AllReadyH.nil)
    · go_simp
      go_at_call 8
      refine (HSP.out _ _ _ _ _ _ _ _ (l1)).mono ?_
      rintro e Z2 ⟨⟨r1, r2, sp, rfl, o1, o2⟩, q2⟩
      try go_wp2_with fail
      have u2 : Same V Z2 := Same.trans (u1) q2
      refine hK.out _ _ (HC.out _ u2) (fun hHeld => ?_)
      clear hK K
      try simp only [Act.put, List.setIfInBounds_toArray, List.set_cons_zero, List.set_cons_succ]
      refine wpAnyH_take (i := 4) (oi := { dst := some 38, op := Op.move (Operand.tmp 42), type := 36, pos := "outright.go:39", after := #[{ on := 3, ground := Ground.data }], guard := none }) (v := .tuple #[.agg #[.slice r1.pa N1.ps.length r1.cp, .slice r1.sa N1.ss.length r1.cs, .slice r1.ka N1.ks.length r1.ck, .string sp, .slice r2.pa N2.ps.length r2.cp, .slice r2.sa N2.ss.length r2.cs, .slice r2.ka N2.ks.length r2.ck], .int .i64 0]) rfl (by kernel_rfl) (by kernel_rfl) (by kernel_rfl) (fun _ _ _ h => h) (Or.inl ⟨by rfl, fun w hSw => by (obtain ⟨q0, q1, q2, q3, q4⟩ := hSw; go_simp)⟩) (by assumption) ?_
      try simp only [Act.put, List.setIfInBounds_toArray, List.set_cons_zero, List.set_cons_succ]
      refine wpAnyH_take (i := 5) (oi := { dst := some 43, op := Op.extract (Operand.tmp 38) 0, type := 34, pos := "outright.go:39", after := #[{ on := 4, ground := Ground.data }], guard := none }) (v := .agg #[.slice r1.pa N1.ps.length r1.cp, .slice r1.sa N1.ss.length r1.cs, .slice r1.ka N1.ks.length r1.ck, .string sp, .slice r2.pa N2.ps.length r2.cp, .slice r2.sa N2.ss.length r2.cs, .slice r2.ka N2.ks.length r2.ck]) rfl (by kernel_rfl) (by kernel_rfl) (by kernel_rfl) (fun _ _ _ h => h) (Or.inl ⟨by rfl, fun w hSw => by (obtain ⟨q0, q1, q2, q3, q4⟩ := hSw; go_simp)⟩) (by assumption) ?_
      try simp only [Act.put, List.setIfInBounds_toArray, List.set_cons_zero, List.set_cons_succ]
      refine wpAnyH_take (i := 6) (oi := { dst := some 44, op := Op.extract (Operand.tmp 38) 1, type := 35, pos := "outright.go:39", after := #[{ on := 4, ground := Ground.data }, { on := 8, ground := Ground.gcOnly Departure.lateStores }], guard := none }) (v := .int .i64 0) rfl (by kernel_rfl) (by kernel_rfl) (by kernel_rfl) (fun _ _ _ h => h) (Or.inl ⟨by rfl, fun w hSw => by (obtain ⟨q0, q1, q2, q3, q4⟩ := hSw; go_simp)⟩) (by assumption) ?_
      try simp only [Act.put, List.setIfInBounds_toArray, List.set_cons_zero, List.set_cons_succ]
      refine wpAnyH_ready (rs := [7]) (by kernel_rfl) (by simp) ?_
      refine AllReadyH.cons (o := { dst := some 6, op := Op.alloc 34, type := 0, pos := "outright.go:39", after := #[], guard := none }) rfl (fun K hK => ?_) AllReadyH.nil
      go_simp
      refine hK.out _ _ (HC.out _ (Fr.alloc u2 _)) (fun hHeld => ?_)
      clear hK K
      try simp only [Act.put, List.setIfInBounds_toArray, List.set_cons_zero, List.set_cons_succ]
      have r6 := heap_alloc_new Z2 (.cells #[.slice none 0 0, .slice none 0 0, .slice none 0 0, .string ⟨#[]⟩, .slice none 0 0, .slice none 0 0, .slice none 0 0] 34)
      refine wpAnyH_ready (rs := [8]) (by kernel_rfl) (by simp) ?_
      refine AllReadyH.cons (o := { dst := none, op := Op.store 34 (Operand.tmp 6) (Operand.tmp 43), type := 0, pos := "outright.go:39", after := #[{ on := 7, ground := Ground.data }, { on := 5, ground := Ground.data }, { on := 3, ground := Ground.chain }, { on := 0, ground := Ground.phase }, { on := 1, ground := Ground.phase }, { on := 2, ground := Ground.phase }, { on := 3, ground := Ground.phase }, { on := 4, ground := Ground.phase }, { on := 5, ground := Ground.phase }, { on := 6, ground := Ground.textOnly Departure.lateStores }, { on := 7, ground := Ground.phase }], guard := none }) rfl (fun K hK => ?_) AllReadyH.nil
      refine step_store_whole rfl 34 _ _ rfl (Z2.heap.size) #[.slice r1.pa N1.ps.length r1.cp, .slice r1.sa N1.ss.length r1.cs, .slice r1.ka N1.ks.length r1.ck, .string sp, .slice r2.pa N2.ps.length r2.cp, .slice r2.sa N2.ss.length r2.cs, .slice r2.ka N2.ks.length r2.ck] _ 34 (by rfl) (by rfl) r6 rfl (by kernel_rfl) (by kernel_rfl) ?_
      intro W7 r7 f7
      have x7 : Same V W7 := Fr.trans (Fr.alloc u2 _) f7 (fun i hi e => by first | omega | (have := u2.size; omega) | (have := u1.size; omega))
      refine hK.out _ _ (HC.out _ x7) (fun hHeld => ?_)
      clear hK K
      refine wpAnyH_take (i := 9) (oi := { dst := some 7, op := Op.assign (Operand.tmp 44), type := 35, pos := "outright.go:39", after := #[{ on := 6, ground := Ground.data }, { on := 8, ground := Ground.chain }, { on := 0, ground := Ground.phase }, { on := 1, ground := Ground.phase }, { on := 2, ground := Ground.phase }, { on := 3, ground := Ground.phase }, { on := 4, ground := Ground.phase }, { on := 5, ground := Ground.phase }, { on := 6, ground := Ground.phase }, { on := 7, ground := Ground.phase }, { on := 8, ground := Ground.phase }], guard := none }) (v := .int .i64 0) rfl (by kernel_rfl) (by kernel_rfl) (by kernel_rfl) (fun _ _ _ h => h) (Or.inl ⟨by rfl, fun w hSw => by (obtain ⟨q0, q1, q2, q3, q4⟩ := hSw; go_simp)⟩) (by assumption) ?_
      try simp only [Act.put, List.setIfInBounds_toArray, List.set_cons_zero, List.set_cons_succ]
      refine wpAnyH_done (by kernel_rfl) ?_ _
      have m1 : MadeNd W7 _ r1 N1 := ⟨own_frameB (o1.op.alloc _) f7 (fun kk hk e => type_ne (o1.op.alloc _) r6 (by decide) (by rw [hk, e] <;> rfl)), own_frameB (o1.os.alloc _) f7 (fun kk hk e => type_ne (o1.os.alloc _) r6 (by decide) (by rw [hk, e] <;> rfl)), own_frameB (o1.ok.alloc _) f7 (fun kk hk e => type_ne (o1.ok.alloc _) r6 (by decide) (by rw [hk, e] <;> rfl))⟩
      have m2 : MadeNd W7 _ r2 N2 := ⟨own_frameB (o2.op.alloc _) f7 (fun kk hk e => type_ne (o2.op.alloc _) r6 (by decide) (by rw [hk, e] <;> rfl)), own_frameB (o2.os.alloc _) f7 (fun kk hk e => type_ne (o2.os.alloc _) r6 (by decide) (by rw [hk, e] <;> rfl)), own_frameB (o2.ok.alloc _) f7 (fun kk hk e => type_ne (o2.ok.alloc _) r6 (by decide) (by rw [hk, e] <;> rfl))⟩
      clear o1
      clear o2
      obtain ⟨mb, hmb⟩ : ∃ mb, mb = Z2.heap.size := ⟨_, rfl⟩
      rw [← hmb] at r7 ⊢
      clear f7 r6 hmb
      clear u1 u2 q1 q2 l1
      have HB : Hid (∀ W, Same W7 W → W.cell? ⟨mb, 0, none⟩ = some (.slice r1.pa N1.ps.length r1.cp) ∧ W.cell? ⟨mb, 1, none⟩ = some (.slice r1.sa N1.ss.length r1.cs) ∧ W.cell? ⟨mb, 2, none⟩ = some (.slice r1.ka N1.ks.length r1.ck) ∧ W.cell? ⟨mb, 3, none⟩ = some (.string sp) ∧ W.cell? ⟨mb, 4, none⟩ = some (.slice r2.pa N2.ps.length r2.cp) ∧ W.cell? ⟨mb, 5, none⟩ = some (.slice r2.sa N2.ss.length r2.cs) ∧ W.cell? ⟨mb, 6, none⟩ = some (.slice r2.ka N2.ks.length r2.ck)) := fun W s => ⟨s.keep ((cell_of_row _ _ _ _ _ _ r7).trans rfl), s.keep ((cell_of_row _ _ _ _ _ _ r7).trans rfl), s.keep ((cell_of_row _ _ _ _ _ _ r7).trans rfl), s.keep ((cell_of_row _ _ _ _ _ _ r7).trans rfl), s.keep ((cell_of_row _ _ _ _ _ _ r7).trans rfl), s.keep ((cell_of_row _ _ _ _ _ _ r7).trans rfl), s.keep ((cell_of_row _ _ _ _ _ _ r7).trans rfl)⟩
      obtain ⟨B1, hm1⟩ : ∃ B1, MadeNd W7 B1 r1 N1 := ⟨_, m1⟩
      obtain ⟨B2, hm2⟩ : ∃ B2, MadeNd W7 B2 r2 N2 := ⟨_, m2⟩
      have HM1 : Hid (∀ W, Same W7 W → MadeNd W B1 r1 N1) := fun W s => hm1.same s
      have HM2 : Hid (∀ W, Same W7 W → MadeNd W B2 r2 N2) := fun W s => hm2.same s
      clear r7 m1 m2 hm1 hm2
      have z0 : Same W7 W7 := Fr.refl _ _
      obtain ⟨f0, f1, c0, c1, c2⟩ := HC.out _ x7
      obtain ⟨m0, m1, m2, m3, m4, m5, m6⟩ := HB.out _ z0
      go_wp2_with fail
      refine ((HF1.out _ _ _ (HM1.out _ z0)).1).mono ?_
      rintro e Y1 ⟨rfl, y1⟩
      have z1 := Same.trans z0 y1
      clear f0 f1 c0 c1 c2 m0 m1 m2 m3 m4 m5 m6
      obtain ⟨f0, f1, c0, c1, c2⟩ := HC.out _ (x7.trans z1)
      obtain ⟨m0, m1, m2, m3, m4, m5, m6⟩ := HB.out _ z1
      go_wp2_with fail
      refine ((HF2.out _ _ _ (HM2.out _ z1)).1).mono ?_
      rintro e Y2 ⟨rfl, y2⟩
      have z2 := Same.trans z1 y2
      clear f0 f1 c0 c1 c2 m0 m1 m2 m3 m4 m5 m6
      obtain ⟨f0, f1, c0, c1, c2⟩ := HC.out _ (x7.trans z2)
      obtain ⟨m0, m1, m2, m3, m4, m5, m6⟩ := HB.out _ z2
      go_wp2_with fail
      refine ((HF1.out _ _ _ (HM1.out _ z2)).2.1).mono ?_
      rintro e Y3 ⟨rfl, y3⟩
      have z3 := Same.trans z2 y3
      clear f0 f1 c0 c1 c2 m0 m1 m2 m3 m4 m5 m6
      obtain ⟨f0, f1, c0, c1, c2⟩ := HC.out _ (x7.trans z3)
      obtain ⟨m0, m1, m2, m3, m4, m5, m6⟩ := HB.out _ z3
      go_wp2_with fail
      refine ((HF2.out _ _ _ (HM2.out _ z3)).2.1).mono ?_
      rintro e Y4 ⟨rfl, y4⟩
      have z4 := Same.trans z3 y4
      clear f0 f1 c0 c1 c2 m0 m1 m2 m3 m4 m5 m6
      obtain ⟨f0, f1, c0, c1, c2⟩ := HC.out _ (x7.trans z4)
      obtain ⟨m0, m1, m2, m3, m4, m5, m6⟩ := HB.out _ z4
      go_wp2_with fail
      refine ((HF1.out _ _ _ (HM1.out _ z4)).2.2).mono ?_
      rintro e Y5 ⟨rfl, y5⟩
      have z5 := Same.trans z4 y5
      clear f0 f1 c0 c1 c2 m0 m1 m2 m3 m4 m5 m6
      obtain ⟨f0, f1, c0, c1, c2⟩ := HC.out _ (x7.trans z5)
      obtain ⟨m0, m1, m2, m3, m4, m5, m6⟩ := HB.out _ z5
      go_wp2_with fail
      have w6 : IntKind.i64.wrap (3 * a) = 3 * a := by rw [IntKind.wrap_i64]; omega
      have w7 : IntKind.i64.wrap (3 * b) = 3 * b := by rw [IntKind.wrap_i64]; omega
      have k1 : p - 32 ≤ 3 * a := by omega
      have k2 : p - 32 ≤ 3 * b := by omega
      refine ((HF2.out _ _ _ (HM2.out _ z5)).2.2).mono ?_
      rintro e Y6 ⟨rfl, y6⟩
      have z6 := Same.trans z5 y6
      clear f0 f1 c0 c1 c2 m0 m1 m2 m3 m4 m5 m6
      obtain ⟨f0, f1, c0, c1, c2⟩ := HC.out _ (x7.trans z6)
      obtain ⟨m0, m1, m2, m3, m4, m5, m6⟩ := HB.out _ z6
      go_wp2_with fail
      refine (HAW.out _).mono ?_
      rintro e Y7 ⟨rfl, y7⟩
      go_wp2_with fail
      go_ret
      exact ⟨rfl, ((t1.trans x7).trans z6).trans y7⟩
    · go_simp
      refine hK.out _ _ (HC.out _ (Fr.alloc u1 _)) (fun hHeld => ?_)
      clear hK K
      try simp only [Act.put, List.setIfInBounds_toArray, List.set_cons_zero, List.set_cons_succ]
      refine wpAnyH_ready (rs := [3]) (by kernel_rfl) (by simp) ?_
      refine AllReadyH.cons (o := { dst := some 42, op := Op.call { callee := Callee.value (Operand.func 8), args := #[Operand.tmp 39, Operand.tmp 41], argTypes := #[23, 28] }, type := 36, pos := "outright.go:39", after := #[{ on := 0, ground := Ground.data }, { on := 2, ground := Ground.data }, { on := 2, ground := Ground.chain }], guard := none }) rfl (fun K hK => ?_) AllReadyH.nil
      go_simp
      go_at_call 8
      refine (HSP.out _ _ _ _ _ _ _ _ (l1.same ((Fr.refl _ Z1).alloc _))).mono ?_
      rintro e Z2 ⟨⟨r1, r2, sp, rfl, o1, o2⟩, q2⟩
      try go_wp2_with fail
      have u2 : Same V Z2 := Same.trans (Fr.alloc u1 _) q2
      refine hK.out _ _ (HC.out _ u2) (fun hHeld => ?_)
      clear hK K
      try simp only [Act.put, List.setIfInBounds_toArray, List.set_cons_zero, List.set_cons_succ]
      refine wpAnyH_take (i := 4) (oi := { dst := some 38, op := Op.move (Operand.tmp 42), type := 36, pos := "outright.go:39", after := #[{ on := 3, ground := Ground.data }], guard := none }) (v := .tuple #[.agg #[.slice r1.pa N1.ps.length r1.cp, .slice r1.sa N1.ss.length r1.cs, .slice r1.ka N1.ks.length r1.ck, .string sp, .slice r2.pa N2.ps.length r2.cp, .slice r2.sa N2.ss.length r2.cs, .slice r2.ka N2.ks.length r2.ck], .int .i64 0]) rfl (by kernel_rfl) (by kernel_rfl) (by kernel_rfl) (fun _ _ _ h => h) (Or.inl ⟨by rfl, fun w hSw => by (obtain ⟨q0, q1, q2, q3, q4⟩ := hSw; go_simp)⟩) (by assumption) ?_
      try simp only [Act.put, List.setIfInBounds_toArray, List.set_cons_zero, List.set_cons_succ]
      refine wpAnyH_take (i := 5) (oi := { dst := some 43, op := Op.extract (Operand.tmp 38) 0, type := 34, pos := "outright.go:39", after := #[{ on := 4, ground := Ground.data }], guard := none }) (v := .agg #[.slice r1.pa N1.ps.length r1.cp, .slice r1.sa N1.ss.length r1.cs, .slice r1.ka N1.ks.length r1.ck, .string sp, .slice r2.pa N2.ps.length r2.cp, .slice r2.sa N2.ss.length r2.cs, .slice r2.ka N2.ks.length r2.ck]) rfl (by kernel_rfl) (by kernel_rfl) (by kernel_rfl) (fun _ _ _ h => h) (Or.inl ⟨by rfl, fun w hSw => by (obtain ⟨q0, q1, q2, q3, q4⟩ := hSw; go_simp)⟩) (by assumption) ?_
      try simp only [Act.put, List.setIfInBounds_toArray, List.set_cons_zero, List.set_cons_succ]
      refine wpAnyH_take (i := 6) (oi := { dst := some 44, op := Op.extract (Operand.tmp 38) 1, type := 35, pos := "outright.go:39", after := #[{ on := 4, ground := Ground.data }, { on := 8, ground := Ground.gcOnly Departure.lateStores }], guard := none }) (v := .int .i64 0) rfl (by kernel_rfl) (by kernel_rfl) (by kernel_rfl) (fun _ _ _ h => h) (Or.inl ⟨by rfl, fun w hSw => by (obtain ⟨q0, q1, q2, q3, q4⟩ := hSw; go_simp)⟩) (by assumption) ?_
      try simp only [Act.put, List.setIfInBounds_toArray, List.set_cons_zero, List.set_cons_succ]
      have r6 := (q2.block _ (by simp) (fun e => e)).trans (heap_alloc_new Z1 (.cells #[.slice none 0 0, .slice none 0 0, .slice none 0 0, .string ⟨#[]⟩, .slice none 0 0, .slice none 0 0, .slice none 0 0] 34))
      refine wpAnyH_ready (rs := [8]) (by kernel_rfl) (by simp) ?_
      refine AllReadyH.cons (o := { dst := none, op := Op.store 34 (Operand.tmp 6) (Operand.tmp 43), type := 0, pos := "outright.go:39", after := #[{ on := 7, ground := Ground.data }, { on := 5, ground := Ground.data }, { on := 3, ground := Ground.chain }, { on := 0, ground := Ground.phase }, { on := 1, ground := Ground.phase }, { on := 2, ground := Ground.phase }, { on := 3, ground := Ground.phase }, { on := 4, ground := Ground.phase }, { on := 5, ground := Ground.phase }, { on := 6, ground := Ground.textOnly Departure.lateStores }, { on := 7, ground := Ground.phase }], guard := none }) rfl (fun K hK => ?_) AllReadyH.nil
      refine step_store_whole rfl 34 _ _ rfl (Z1.heap.size) #[.slice r1.pa N1.ps.length r1.cp, .slice r1.sa N1.ss.length r1.cs, .slice r1.ka N1.ks.length r1.ck, .string sp, .slice r2.pa N2.ps.length r2.cp, .slice r2.sa N2.ss.length r2.cs, .slice r2.ka N2.ks.length r2.ck] _ 34 (by rfl) (by rfl) r6 rfl (by kernel_rfl) (by kernel_rfl) ?_
      intro W7 r7 f7
      have x7 : Same V W7 := Fr.trans (u2) f7 (fun i hi e => by first | omega | (have := u2.size; omega) | (have := u1.size; omega))
      refine hK.out _ _ (HC.out _ x7) (fun hHeld => ?_)
      clear hK K
      refine wpAnyH_take (i := 9) (oi := { dst := some 7, op := Op.assign (Operand.tmp 44), type := 35, pos := "outright.go:39", after := #[{ on := 6, ground := Ground.data }, { on := 8, ground := Ground.chain }, { on := 0, ground := Ground.phase }, { on := 1, ground := Ground.phase }, { on := 2, ground := Ground.phase }, { on := 3, ground := Ground.phase }, { on := 4, ground := Ground.phase }, { on := 5, ground := Ground.phase }, { on := 6, ground := Ground.phase }, { on := 7, ground := Ground.phase }, { on := 8, ground := Ground.phase }], guard := none }) (v := .int .i64 0) rfl (by kernel_rfl) (by kernel_rfl) (by kernel_rfl) (fun _ _ _ h => h) (Or.inl ⟨by rfl, fun w hSw => by (obtain ⟨q0, q1, q2, q3, q4⟩ := hSw; go_simp)⟩) (by assumption) ?_
      try simp only [Act.put, List.setIfInBounds_toArray, List.set_cons_zero, List.set_cons_succ]
      refine wpAnyH_done (by kernel_rfl) ?_ _
      have m1 : MadeNd W7 _ r1 N1 := ⟨own_frameB o1.op f7 (fun kk hk e => type_ne o1.op r6 (by decide) (by rw [hk, e] <;> rfl)), own_frameB o1.os f7 (fun kk hk e => type_ne o1.os r6 (by decide) (by rw [hk, e] <;> rfl)), own_frameB o1.ok f7 (fun kk hk e => type_ne o1.ok r6 (by decide) (by rw [hk, e] <;> rfl))⟩
      have m2 : MadeNd W7 _ r2 N2 := ⟨own_frameB o2.op f7 (fun kk hk e => type_ne o2.op r6 (by decide) (by rw [hk, e] <;> rfl)), own_frameB o2.os f7 (fun kk hk e => type_ne o2.os r6 (by decide) (by rw [hk, e] <;> rfl)), own_frameB o2.ok f7 (fun kk hk e => type_ne o2.ok r6 (by decide) (by rw [hk, e] <;> rfl))⟩
      clear o1
      clear o2
      obtain ⟨mb, hmb⟩ : ∃ mb, mb = Z1.heap.size := ⟨_, rfl⟩
      rw [← hmb] at r7 ⊢
      clear f7 r6 hmb
      clear u1 u2 q1 q2 l1
      have HB : Hid (∀ W, Same W7 W → W.cell? ⟨mb, 0, none⟩ = some (.slice r1.pa N1.ps.length r1.cp) ∧ W.cell? ⟨mb, 1, none⟩ = some (.slice r1.sa N1.ss.length r1.cs) ∧ W.cell? ⟨mb, 2, none⟩ = some (.slice r1.ka N1.ks.length r1.ck) ∧ W.cell? ⟨mb, 3, none⟩ = some (.string sp) ∧ W.cell? ⟨mb, 4, none⟩ = some (.slice r2.pa N2.ps.length r2.cp) ∧ W.cell? ⟨mb, 5, none⟩ = some (.slice r2.sa N2.ss.length r2.cs) ∧ W.cell? ⟨mb, 6, none⟩ = some (.slice r2.ka N2.ks.length r2.ck)) := fun W s => ⟨s.keep ((cell_of_row _ _ _ _ _ _ r7).trans rfl), s.keep ((cell_of_row _ _ _ _ _ _ r7).trans rfl), s.keep ((cell_of_row _ _ _ _ _ _ r7).trans rfl), s.keep ((cell_of_row _ _ _ _ _ _ r7).trans rfl), s.keep ((cell_of_row _ _ _ _ _ _ r7).trans rfl), s.keep ((cell_of_row _ _ _ _ _ _ r7).trans rfl), s.keep ((cell_of_row _ _ _ _ _ _ r7).trans rfl)⟩
      obtain ⟨B1, hm1⟩ : ∃ B1, MadeNd W7 B1 r1 N1 := ⟨_, m1⟩
      obtain ⟨B2, hm2⟩ : ∃ B2, MadeNd W7 B2 r2 N2 := ⟨_, m2⟩
      have HM1 : Hid (∀ W, Same W7 W → MadeNd W B1 r1 N1) := fun W s => hm1.same s
      have HM2 : Hid (∀ W, Same W7 W → MadeNd W B2 r2 N2) := fun W s => hm2.same s
      clear r7 m1 m2 hm1 hm2
      have z0 : Same W7 W7 := Fr.refl _ _
      obtain ⟨f0, f1, c0, c1, c2⟩ := HC.out _ x7
      obtain ⟨m0, m1, m2, m3, m4, m5, m6⟩ := HB.out _ z0
      go_wp2_with fail
      refine ((HF1.out _ _ _ (HM1.out _ z0)).1).mono ?_
      rintro e Y1 ⟨rfl, y1⟩
      have z1 := Same.trans z0 y1
      clear f0 f1 c0 c1 c2 m0 m1 m2 m3 m4 m5 m6
      obtain ⟨f0, f1, c0, c1, c2⟩ := HC.out _ (x7.trans z1)
      obtain ⟨m0, m1, m2, m3, m4, m5, m6⟩ := HB.out _ z1
      go_wp2_with fail
      refine ((HF2.out _ _ _ (HM2.out _ z1)).1).mono ?_
      rintro e Y2 ⟨rfl, y2⟩
      have z2 := Same.trans z1 y2
      clear f0 f1 c0 c1 c2 m0 m1 m2 m3 m4 m5 m6
      obtain ⟨f0, f1, c0, c1, c2⟩ := HC.out _ (x7.trans z2)
      obtain ⟨m0, m1, m2, m3, m4, m5, m6⟩ := HB.out _ z2
      go_wp2_with fail
      refine ((HF1.out _ _ _ (HM1.out _ z2)).2.1).mono ?_
      rintro e Y3 ⟨rfl, y3⟩
      have z3 := Same.trans z2 y3
      clear f0 f1 c0 c1 c2 m0 m1 m2 m3 m4 m5 m6
      obtain ⟨f0, f1, c0, c1, c2⟩ := HC.out _ (x7.trans z3)
      obtain ⟨m0, m1, m2, m3, m4, m5, m6⟩ := HB.out _ z3
      go_wp2_with fail
      refine ((HF2.out _ _ _ (HM2.out _ z3)).2.1).mono ?_
      rintro e Y4 ⟨rfl, y4⟩
      have z4 := Same.trans z3 y4
      clear f0 f1 c0 c1 c2 m0 m1 m2 m3 m4 m5 m6
      obtain ⟨f0, f1, c0, c1, c2⟩ := HC.out _ (x7.trans z4)
      obtain ⟨m0, m1, m2, m3, m4, m5, m6⟩ := HB.out _ z4
      go_wp2_with fail
      refine ((HF1.out _ _ _ (HM1.out _ z4)).2.2).mono ?_
      rintro e Y5 ⟨rfl, y5⟩
      have z5 := Same.trans z4 y5
      clear f0 f1 c0 c1 c2 m0 m1 m2 m3 m4 m5 m6
      obtain ⟨f0, f1, c0, c1, c2⟩ := HC.out _ (x7.trans z5)
      obtain ⟨m0, m1, m2, m3, m4, m5, m6⟩ := HB.out _ z5
      go_wp2_with fail
      have w6 : IntKind.i64.wrap (3 * a) = 3 * a := by rw [IntKind.wrap_i64]; omega
      have w7 : IntKind.i64.wrap (3 * b) = 3 * b := by rw [IntKind.wrap_i64]; omega
      have k1 : p - 32 ≤ 3 * a := by omega
      have k2 : p - 32 ≤ 3 * b := by omega
      refine ((HF2.out _ _ _ (HM2.out _ z5)).2.2).mono ?_
      rintro e Y6 ⟨rfl, y6⟩
      have z6 := Same.trans z5 y6
      clear f0 f1 c0 c1 c2 m0 m1 m2 m3 m4 m5 m6
      obtain ⟨f0, f1, c0, c1, c2⟩ := HC.out _ (x7.trans z6)
      obtain ⟨m0, m1, m2, m3, m4, m5, m6⟩ := HB.out _ z6
      go_wp2_with fail
      refine (HAW.out _).mono ?_
      rintro e Y7 ⟨rfl, y7⟩
      go_wp2_with fail
      go_ret
      exact ⟨rfl, ((t1.trans x7).trans z6).trans y7⟩
  · go_simp
    refine hK.out _ _ (HC.out _ (Fr.alloc d0 _)) (fun hHeld => ?_)
    clear hK K
    try simp only [Act.put, List.setIfInBounds_toArray, List.set_cons_zero, List.set_cons_succ]
    refine wpAnyH_ready (rs := [2]) (by kernel_rfl) (by simp) ?_
    refine AllReadyH.cons (o := { dst := some 41, op := Op.call { callee := Callee.value (Operand.func 5), args := #[Operand.tmp 40], argTypes := #[28] }, type := 28, pos := "outright.go:39", after := #[{ on := 1, ground := Ground.data }], guard := none }) rfl (fun K hK => ?_) AllReadyH.nil
    go_simp
    go_at_call 5
    refine (HL.out _ (t1.trans (Fr.alloc d0 _))).mono ?_
    rintro e Z1 ⟨gp, cp, gs, cs, gk, ck, rfl, l1, q1⟩
    try go_wp2_with fail
    have u1 : Same V Z1 := Same.trans (Fr.alloc d0 _) q1
    refine hK.out _ _ (HC.out _ u1) (fun hHeld => ?_)
    clear hK K
    try simp only [Act.put, List.setIfInBounds_toArray, List.set_cons_zero, List.set_cons_succ]
    refine wpAnyH_ready (rs := [3]) (by kernel_rfl) (by simp) ?_
    refine AllReadyH.cons (o := { dst := some 42, op := Op.call { callee := Callee.value (Operand.func 8), args := #[Operand.tmp 39, Operand.tmp 41], argTypes := #[23, 28] }, type := 36, pos := "outright.go:39", after := #[{ on := 0, ground := Ground.data }, { on := 2, ground := Ground.data }, { on := 2, ground := Ground.chain }], guard := none }) rfl (fun K hK => ?_) AllReadyH.nil
    go_simp
    go_at_call 8
    refine (HSP.out _ _ _ _ _ _ _ _ (l1)).mono ?_
    rintro e Z2 ⟨⟨r1, r2, sp, rfl, o1, o2⟩, q2⟩
    try go_wp2_with fail
    have u2 : Same V Z2 := Same.trans (u1) q2
    refine hK.out _ _ (HC.out _ u2) (fun hHeld => ?_)
    clear hK K
    try simp only [Act.put, List.setIfInBounds_toArray, List.set_cons_zero, List.set_cons_succ]
    refine wpAnyH_take (i := 4) (oi := { dst := some 38, op := Op.move (Operand.tmp 42), type := 36, pos := "outright.go:39", after := #[{ on := 3, ground := Ground.data }], guard := none }) (v := .tuple #[.agg #[.slice r1.pa N1.ps.length r1.cp, .slice r1.sa N1.ss.length r1.cs, .slice r1.ka N1.ks.length r1.ck, .string sp, .slice r2.pa N2.ps.length r2.cp, .slice r2.sa N2.ss.length r2.cs, .slice r2.ka N2.ks.length r2.ck], .int .i64 0]) rfl (by kernel_rfl) (by kernel_rfl) (by kernel_rfl) (fun _ _ _ h => h) (Or.inl ⟨by rfl, fun w hSw => by (obtain ⟨q0, q1, q2, q3, q4⟩ := hSw; go_simp)⟩) (by assumption) ?_
    try simp only [Act.put, List.setIfInBounds_toArray, List.set_cons_zero, List.set_cons_succ]
    refine wpAnyH_take (i := 5) (oi := { dst := some 43, op := Op.extract (Operand.tmp 38) 0, type := 34, pos := "outright.go:39", after := #[{ on := 4, ground := Ground.data }], guard := none }) (v := .agg #[.slice r1.pa N1.ps.length r1.cp, .slice r1.sa N1.ss.length r1.cs, .slice r1.ka N1.ks.length r1.ck, .string sp, .slice r2.pa N2.ps.length r2.cp, .slice r2.sa N2.ss.length r2.cs, .slice r2.ka N2.ks.length r2.ck]) rfl (by kernel_rfl) (by kernel_rfl) (by kernel_rfl) (fun _ _ _ h => h) (Or.inl ⟨by rfl, fun w hSw => by (obtain ⟨q0, q1, q2, q3, q4⟩ := hSw; go_simp)⟩) (by assumption) ?_
    try simp only [Act.put, List.setIfInBounds_toArray, List.set_cons_zero, List.set_cons_succ]
    refine wpAnyH_take (i := 6) (oi := { dst := some 44, op := Op.extract (Operand.tmp 38) 1, type := 35, pos := "outright.go:39", after := #[{ on := 4, ground := Ground.data }, { on := 8, ground := Ground.gcOnly Departure.lateStores }], guard := none }) (v := .int .i64 0) rfl (by kernel_rfl) (by kernel_rfl) (by kernel_rfl) (fun _ _ _ h => h) (Or.inl ⟨by rfl, fun w hSw => by (obtain ⟨q0, q1, q2, q3, q4⟩ := hSw; go_simp)⟩) (by assumption) ?_
    try simp only [Act.put, List.setIfInBounds_toArray, List.set_cons_zero, List.set_cons_succ]
    have r6 := ((q1.trans q2).block _ (by rw [World.size_alloc]; exact Nat.lt_succ_self _) (fun e => e)).trans (heap_alloc_new V.drew (.cells #[.slice none 0 0, .slice none 0 0, .slice none 0 0, .string ⟨#[]⟩, .slice none 0 0, .slice none 0 0, .slice none 0 0] 34))
    refine wpAnyH_ready (rs := [8]) (by kernel_rfl) (by simp) ?_
    refine AllReadyH.cons (o := { dst := none, op := Op.store 34 (Operand.tmp 6) (Operand.tmp 43), type := 0, pos := "outright.go:39", after := #[{ on := 7, ground := Ground.data }, { on := 5, ground := Ground.data }, { on := 3, ground := Ground.chain }, { on := 0, ground := Ground.phase }, { on := 1, ground := Ground.phase }, { on := 2, ground := Ground.phase }, { on := 3, ground := Ground.phase }, { on := 4, ground := Ground.phase }, { on := 5, ground := Ground.phase }, { on := 6, ground := Ground.textOnly Departure.lateStores }, { on := 7, ground := Ground.phase }], guard := none }) rfl (fun K hK => ?_) AllReadyH.nil
    refine step_store_whole rfl 34 _ _ rfl (V.heap.size) #[.slice r1.pa N1.ps.length r1.cp, .slice r1.sa N1.ss.length r1.cs, .slice r1.ka N1.ks.length r1.ck, .string sp, .slice r2.pa N2.ps.length r2.cp, .slice r2.sa N2.ss.length r2.cs, .slice r2.ka N2.ks.length r2.ck] _ 34 (by rfl) (by rfl) r6 rfl (by kernel_rfl) (by kernel_rfl) ?_
    intro W7 r7 f7
    have x7 : Same V W7 := Fr.trans (u2) f7 (fun i hi e => by first | omega | (have := u2.size; omega) | (have := u1.size; omega))
    refine hK.out _ _ (HC.out _ x7) (fun hHeld => ?_)
    clear hK K
    refine wpAnyH_take (i := 9) (oi := { dst := some 7, op := Op.assign (Operand.tmp 44), type := 35, pos := "outright.go:39", after := #[{ on := 6, ground := Ground.data }, { on := 8, ground := Ground.chain }, { on := 0, ground := Ground.phase }, { on := 1, ground := Ground.phase }, { on := 2, ground := Ground.phase }, { on := 3, ground := Ground.phase }, { on := 4, ground := Ground.phase }, { on := 5, ground := Ground.phase }, { on := 6, ground := Ground.phase }, { on := 7, ground := Ground.phase }, { on := 8, ground := Ground.phase }], guard := none }) (v := .int .i64 0) rfl (by kernel_rfl) (by kernel_rfl) (by kernel_rfl) (fun _ _ _ h => h) (Or.inl ⟨by rfl, fun w hSw => by (obtain ⟨q0, q1, q2, q3, q4⟩ := hSw; go_simp)⟩) (by assumption) ?_
    try simp only [Act.put, List.setIfInBounds_toArray, List.set_cons_zero, List.set_cons_succ]
    refine wpAnyH_done (by kernel_rfl) ?_ _
    have m1 : MadeNd W7 _ r1 N1 := ⟨own_frameB o1.op f7 (fun kk hk e => type_ne o1.op r6 (by decide) (by rw [hk, e] <;> rfl)), own_frameB o1.os f7 (fun kk hk e => type_ne o1.os r6 (by decide) (by rw [hk, e] <;> rfl)), own_frameB o1.ok f7 (fun kk hk e => type_ne o1.ok r6 (by decide) (by rw [hk, e] <;> rfl))⟩
    have m2 : MadeNd W7 _ r2 N2 := ⟨own_frameB o2.op f7 (fun kk hk e => type_ne o2.op r6 (by decide) (by rw [hk, e] <;> rfl)), own_frameB o2.os f7 (fun kk hk e => type_ne o2.os r6 (by decide) (by rw [hk, e] <;> rfl)), own_frameB o2.ok f7 (fun kk hk e => type_ne o2.ok r6 (by decide) (by rw [hk, e] <;> rfl))⟩
    clear o1
    clear o2
    obtain ⟨mb, hmb⟩ : ∃ mb, mb = V.heap.size := ⟨_, rfl⟩
    rw [← hmb] at r7 ⊢
    clear f7 r6 hmb
    clear u1 u2 q1 q2 l1
    have HB : Hid (∀ W, Same W7 W → W.cell? ⟨mb, 0, none⟩ = some (.slice r1.pa N1.ps.length r1.cp) ∧ W.cell? ⟨mb, 1, none⟩ = some (.slice r1.sa N1.ss.length r1.cs) ∧ W.cell? ⟨mb, 2, none⟩ = some (.slice r1.ka N1.ks.length r1.ck) ∧ W.cell? ⟨mb, 3, none⟩ = some (.string sp) ∧ W.cell? ⟨mb, 4, none⟩ = some (.slice r2.pa N2.ps.length r2.cp) ∧ W.cell? ⟨mb, 5, none⟩ = some (.slice r2.sa N2.ss.length r2.cs) ∧ W.cell? ⟨mb, 6, none⟩ = some (.slice r2.ka N2.ks.length r2.ck)) := fun W s => ⟨s.keep ((cell_of_row _ _ _ _ _ _ r7).trans rfl), s.keep ((cell_of_row _ _ _ _ _ _ r7).trans rfl), s.keep ((cell_of_row _ _ _ _ _ _ r7).trans rfl), s.keep ((cell_of_row _ _ _ _ _ _ r7).trans rfl), s.keep ((cell_of_row _ _ _ _ _ _ r7).trans rfl), s.keep ((cell_of_row _ _ _ _ _ _ r7).trans rfl), s.keep ((cell_of_row _ _ _ _ _ _ r7).trans rfl)⟩
    obtain ⟨B1, hm1⟩ : ∃ B1, MadeNd W7 B1 r1 N1 := ⟨_, m1⟩
    obtain ⟨B2, hm2⟩ : ∃ B2, MadeNd W7 B2 r2 N2 := ⟨_, m2⟩
    have HM1 : Hid (∀ W, Same W7 W → MadeNd W B1 r1 N1) := fun W s => hm1.same s
    have HM2 : Hid (∀ W, Same W7 W → MadeNd W B2 r2 N2) := fun W s => hm2.same s
    clear r7 m1 m2 hm1 hm2
    have z0 : Same W7 W7 := Fr.refl _ _
    obtain ⟨f0, f1, c0, c1, c2⟩ := HC.out _ x7
    obtain ⟨m0, m1, m2, m3, m4, m5, m6⟩ := HB.out _ z0
    go_wp2_with fail
    refine ((HF1.out _ _ _ (HM1.out _ z0)).1).mono ?_
    rintro e Y1 ⟨rfl, y1⟩
    have z1 := Same.trans z0 y1
    clear f0 f1 c0 c1 c2 m0 m1 m2 m3 m4 m5 m6
    obtain ⟨f0, f1, c0, c1, c2⟩ := HC.out _ (x7.trans z1)
    obtain ⟨m0, m1, m2, m3, m4, m5, m6⟩ := HB.out _ z1
    go_wp2_with fail
    refine ((HF2.out _ _ _ (HM2.out _ z1)).1).mono ?_
    rintro e Y2 ⟨rfl, y2⟩
    have z2 := Same.trans z1 y2
    clear f0 f1 c0 c1 c2 m0 m1 m2 m3 m4 m5 m6
    obtain ⟨f0, f1, c0, c1, c2⟩ := HC.out _ (x7.trans z2)
    obtain ⟨m0, m1, m2, m3, m4, m5, m6⟩ := HB.out _ z2
    go_wp2_with fail
    refine ((HF1.out _ _ _ (HM1.out _ z2)).2.1).mono ?_
    rintro e Y3 ⟨rfl, y3⟩
    have z3 := Same.trans z2 y3
    clear f0 f1 c0 c1 c2 m0 m1 m2 m3 m4 m5 m6
    obtain ⟨f0, f1, c0, c1, c2⟩ := HC.out _ (x7.trans z3)
    obtain ⟨m0, m1, m2, m3, m4, m5, m6⟩ := HB.out _ z3
    go_wp2_with fail
    refine ((HF2.out _ _ _ (HM2.out _ z3)).2.1).mono ?_
    rintro e Y4 ⟨rfl, y4⟩
    have z4 := Same.trans z3 y4
    clear f0 f1 c0 c1 c2 m0 m1 m2 m3 m4 m5 m6
    obtain ⟨f0, f1, c0, c1, c2⟩ := HC.out _ (x7.trans z4)
    obtain ⟨m0, m1, m2, m3, m4, m5, m6⟩ := HB.out _ z4
    go_wp2_with fail
    refine ((HF1.out _ _ _ (HM1.out _ z4)).2.2).mono ?_
    rintro e Y5 ⟨rfl, y5⟩
    have z5 := Same.trans z4 y5
    clear f0 f1 c0 c1 c2 m0 m1 m2 m3 m4 m5 m6
    obtain ⟨f0, f1, c0, c1, c2⟩ := HC.out _ (x7.trans z5)
    obtain ⟨m0, m1, m2, m3, m4, m5, m6⟩ := HB.out _ z5
    go_wp2_with fail
    have w6 : IntKind.i64.wrap (3 * a) = 3 * a := by rw [IntKind.wrap_i64]; omega
    have w7 : IntKind.i64.wrap (3 * b) = 3 * b := by rw [IntKind.wrap_i64]; omega
    have k1 : p - 32 ≤ 3 * a := by omega
    have k2 : p - 32 ≤ 3 * b := by omega
    refine ((HF2.out _ _ _ (HM2.out _ z5)).2.2).mono ?_
    rintro e Y6 ⟨rfl, y6⟩
    have z6 := Same.trans z5 y6
    clear f0 f1 c0 c1 c2 m0 m1 m2 m3 m4 m5 m6
    obtain ⟨f0, f1, c0, c1, c2⟩ := HC.out _ (x7.trans z6)
    obtain ⟨m0, m1, m2, m3, m4, m5, m6⟩ := HB.out _ z6
    go_wp2_with fail
    refine (HAW.out _).mono ?_
    rintro e Y7 ⟨rfl, y7⟩
    go_wp2_with fail
    go_ret
    exact ⟨rfl, ((t1.trans x7).trans z6).trans y7⟩
theorem ghalves_walk {p q : Int} {r : Nr} {N : Nd} (w : World) (h : NdIn w r N) (hs : NdSmall N) : Calls Tryz.prog 3 #[frameV p q, ndV r N] w fun e w' => e = .returned (.bool true) ∧ Same w w' := by
  obtain ⟨h1, h2, h3, _, _⟩ := hs.lens
  have HZ : Hid (∀ W gp cp gs cs gk ck B, LentAt W B gp cp gs cs gk ck N → Calls Tryz.prog 4 #[frameV p q, ndV (lentNr gp cp gs cs gk ck) N] W fun e w' => e = .returned (.int .i64 (sizeV p q N)) ∧ Same W w') := fun W gp cp gs cs gk ck B l => size_calls W (l.ok h.at_ (hs.form h.at_.ok _ _) (hs.form h.at_.ok _ _))
  have HRt : Hid (∀ W, Calls Tryz.prog 6 #[frameV p q] W fun e w' => e = .returned (.bool (frameP p q)) ∧ Same W w') := right_calls p q
  by_cases hf : frameP p q = true
  · obtain ⟨hp, _, _⟩ := frameP_cases hf
    by_cases hS1 : sizeV p q N ≤ p - 32
    · exact ghalves_out w h h1 h2 h3 HZ HRt (fun _ => by omega) (Or.inr ⟨hf, Or.inl hS1⟩)
    · by_cases hS2 : p - 32 + 2 * ((p - 30) / 3) < sizeV p q N
      · exact ghalves_out w h h1 h2 h3 HZ HRt (fun _ => by omega) (Or.inr ⟨hf, Or.inr hS2⟩)
      · obtain ⟨N1, N2, g1, g2, HSP⟩ := split_halves hs h.at_.ok hf (by omega) (by omega)
        rw [hf] at HRt
        have good : ∀ {M : Nd}, GoodHalf p q M → ∀ W B r1, MadeNd W B r1 M → (Calls Tryz.prog 9 #[frameV p q, ndV r1 M] W fun e w' => e = .returned (.bool false) ∧ Same W w') ∧ (Calls Tryz.prog 10 #[frameV p q, ndV r1 M] W fun e w' => e = .returned (.bool false) ∧ Same W w') ∧ (Calls Tryz.prog 4 #[frameV p q, ndV r1 M] W fun e w' => e = .returned (.int .i64 (sizeV p q M)) ∧ Same W w') := fun {M} g W B r1 m => by
          obtain ⟨r', e, ok⟩ := m.nd (q := q) g.small g.kok
          have a1 := full_calls (p := p) W ok
          have a2 := thin_calls (p := p) W ok
          have a3 := size_calls (p := p) W ok
          rw [e] at a1 a2 a3
          have lo := g.lo
          have hi := g.hi
          have e1 : fullV p q M = false := by
            unfold fullV
            rw [decide_eq_false (by omega), Bool.and_false]
          have e2 : thinV p q M = false := by
            unfold thinV
            rw [decide_eq_false (by omega), Bool.and_false]
          rw [e1] at a1
          rw [e2] at a2
          exact ⟨a1, a2, a3⟩
        exact ghalves_in w h h1 h2 h3 HZ HRt (fun W gp cp gs cs gk ck B l => HSP _ W (l.nd h.at_) l.room) (good g1) (good g2) (by omega) (by omega) hS1 hS2 g1.lo g1.hi g2.lo g2.hi
  · have hf : frameP p q = false := by simpa using hf
    exact ghalves_out w h h1 h2 h3 HZ HRt (fun e => by rw [hf] at e; cases e) (Or.inl hf)
end Go.Proofs.YtmekgmpildlciaaGreat
