/- The walk of GraftWays. -/
import Derived.Test.YtmgchfdgmlemdaaVW
import Derived.Test.YtmgchfdgmlemdaaKP
import Derived.Test.YtmgchfdgmlemdaaKI
namespace Go.Proofs.Ytmgchfdgmlemdaa
open Go.RowKit

theorem LentAt.room {w : World} {B gp cp gs cs gk ck : Nat} {N : Nd} (h : LentAt w B gp cp gs cs gk ck N) : NdRoom (lentNr gp cp gs cs gk ck) N := by
  obtain ⟨h1, h2, h3⟩ := h.caps
  exact ⟨by show _ ≤ cp; omega, by show _ ≤ cs; omega, by show _ ≤ ck; omega, fun e => (by cases e), fun e => (by cases e), fun e => (by cases e), fun a e => (by cases e; exact ⟨gp, 0, rfl⟩), fun a e => (by cases e; exact ⟨gs, 0, rfl⟩), fun a e => (by cases e; exact ⟨gk, 0, rfl⟩)⟩
set_option maxRecDepth 100000 in
set_option maxHeartbeats 4000000 in
theorem gways_other {p q : Int} {r : Nr} {N : Nd} {key : ByteArray} (w : World) (h : NdIn w r N) (h1 : N.ps.length ≤ 1048576) (h2 : N.ss.length ≤ 1048576) (h3 : N.ks.length ≤ 1048576)
    (HSP : Hid (∀ W gp cp gs cs gk ck B, LentAt W B gp cp gs cs gk ck N → Calls Try.prog 4 #[frameV p q, ndV (lentNr gp cp gs cs gk ck) N] W fun e w' => OtherIs N e ∧ Same W w')) :
    Calls Try.prog 3 #[frameV p q, ndV r N, .string key] w fun e w' => e = .returned (.bool true) ∧ Same w w' := by
  have HL : Hid (∀ W, Same w W → Calls Try.prog 5 #[ndV r N] W fun e w' => ∃ gp cp gs cs gk ck, e = .returned (ndV (lentNr gp cp gs cs gk ck) N) ∧ LentAt w' W.heap.size gp cp gs cs gk ck N ∧ Same W w') := fun W s => lent_at W (h.same s) h1 h2 h3
  have HAW : Hid (∀ W, Calls Try.prog 6 #[] W fun e w' => e = .returned (.bool true) ∧ Same W w') := awake_calls
  obtain ⟨V, hV⟩ : ∃ V, V = (w.alloc (.cells #[.int .i64 p, .int .i64 q] 23)).alloc (.cells #[.slice r.pa N.ps.length r.cp, .slice r.sa N.ss.length r.cs, .slice r.ka N.ks.length r.ck] 28) := ⟨_, rfl⟩
  have t1 : Same w V := by rw [hV]; exact ((Fr.refl _ w).alloc _).alloc _
  have HC : Hid (∀ W, Same V W → W.cell? ⟨w.heap.size, 0, none⟩ = some (.int .i64 p) ∧ W.cell? ⟨w.heap.size, 1, none⟩ = some (.int .i64 q) ∧ W.cell? ⟨w.heap.size + 1, 0, none⟩ = some (.slice r.pa N.ps.length r.cp) ∧ W.cell? ⟨w.heap.size + 1, 1, none⟩ = some (.slice r.sa N.ss.length r.cs) ∧ W.cell? ⟨w.heap.size + 1, 2, none⟩ = some (.slice r.ka N.ks.length r.ck)) := fun W s => ⟨s.keep (by rw [hV]; simp), s.keep (by rw [hV]; simp), s.keep (by rw [hV]; simp), s.keep (by rw [hV]; simp), s.keep (by rw [hV]; simp)⟩
  have d0 : Same V V.drew := Fr.drew (Fr.refl _ V)
  clear h
  go_enter Try.func3, Try.ntmps3
  go_wp2_with fail
  rw [← hV]
  clear hV
  unfold lentNr at HL HSP
  refine wp_region_held_drew (S := fun W => W.cell? ⟨w.heap.size, 0, none⟩ = some (.int .i64 p) ∧ W.cell? ⟨w.heap.size, 1, none⟩ = some (.int .i64 q) ∧ W.cell? ⟨w.heap.size + 1, 0, none⟩ = some (.slice r.pa N.ps.length r.cp) ∧ W.cell? ⟨w.heap.size + 1, 1, none⟩ = some (.slice r.sa N.ss.length r.cs) ∧ W.cell? ⟨w.heap.size + 1, 2, none⟩ = some (.slice r.ka N.ks.length r.ck)) (by kernel_rfl) (HC.out _ d0) (fun hHeld => ?_)
  refine wpAnyH_take (i := 0) (oi := { dst := some 17, op := Op.load 23 (Operand.tmp 3), type := 23, pos := "outright.go:83", after := #[], guard := none }) (v := .agg #[.int .i64 p, .int .i64 q]) rfl (by kernel_rfl) (by kernel_rfl) (by kernel_rfl) (fun _ _ _ h => h) (Or.inl ⟨by rfl, fun w hSw => by (obtain ⟨q0, q1, q2, q3, q4⟩ := hSw; go_simp)⟩) (by assumption) ?_
  try simp only [Act.put, List.setIfInBounds_toArray, List.set_cons_zero, List.set_cons_succ]
  refine wpAnyH_take (i := 1) (oi := { dst := some 18, op := Op.load 28 (Operand.tmp 4), type := 28, pos := "outright.go:83", after := #[], guard := none }) (v := .agg #[.slice r.pa N.ps.length r.cp, .slice r.sa N.ss.length r.cs, .slice r.ka N.ks.length r.ck]) rfl (by kernel_rfl) (by kernel_rfl) (by kernel_rfl) (fun _ _ _ h => h) (Or.inl ⟨by rfl, fun w hSw => by (obtain ⟨q0, q1, q2, q3, q4⟩ := hSw; go_simp)⟩) (by assumption) ?_
  try simp only [Act.put, List.setIfInBounds_toArray, List.set_cons_zero, List.set_cons_succ]
  refine wpAnyH_ready (rs := [2, 7]) (by kernel_rfl) (by simp) ?_
  refine AllReadyH.cons (o := { dst := some 19, op := Op.call { callee := Callee.value (Operand.func 5), args := #[Operand.tmp 18], argTypes := #[28] }, type := 28, pos := "outright.go:83", after := #[{ on := 1, ground := Ground.data }], guard := none }) rfl (fun K hK => ?_) (AllReadyH.cons (o := { dst := some 7, op := Op.alloc 30, type := 0, pos := "outright.go:83", after := #[], guard := none }) rfl (fun K hK => ?_) AllReadyH.nil)
  · go_simp
    go_at_call 5
    refine (HL.out _ (t1.trans (d0))).mono ?_
    rintro e Z1 ⟨gp, cp, gs, cs, gk, ck, rfl, l1, q1⟩
    try go_wp2_with fail
    have u1 : Same V Z1 := Same.trans (d0) q1
    refine hK.out _ _ (HC.out _ u1) (fun hHeld => ?_)
    clear hK K
    try simp only [Act.put, List.setIfInBounds_toArray, List.set_cons_zero, List.set_cons_succ]
    refine wpAnyH_ready (rs := [3, 7]) (by kernel_rfl) (by simp) ?_
    refine AllReadyH.cons (o := { dst := some 20, op := Op.call { callee := Callee.value (Operand.func 4), args := #[Operand.tmp 17, Operand.tmp 19], argTypes := #[23, 28] }, type := 32, pos := "outright.go:83", after := #[{ on := 0, ground := Ground.data }, { on := 2, ground := Ground.data }, { on := 2, ground := Ground.chain }], guard := none }) rfl (fun K hK => ?_) (AllReadyH.cons (o := { dst := some 7, op := Op.alloc 30, type := 0, pos := "outright.go:83", after := #[], guard := none }) rfl (fun K hK => ?_) AllReadyH.nil)
    · go_simp
      go_at_call 4
      refine (HSP.out _ _ _ _ _ _ _ _ (l1)).mono ?_
      rintro e Z2 ⟨⟨a0, k0, c0, a1, k1, c1, a2, k2, c2, v3, a4, k4, c4, a5, k5, c5, a6, k6, c6, E, rfl, hE⟩, q2⟩
      try go_wp2_with fail
      have u2 : Same V Z2 := Same.trans (u1) q2
      refine hK.out _ _ (HC.out _ u2) (fun hHeld => ?_)
      clear hK K
      try simp only [Act.put, List.setIfInBounds_toArray, List.set_cons_zero, List.set_cons_succ]
      refine wpAnyH_take (i := 4) (oi := { dst := some 16, op := Op.move (Operand.tmp 20), type := 32, pos := "outright.go:83", after := #[{ on := 3, ground := Ground.data }], guard := none }) (v := .tuple #[.agg #[.slice a0 k0 c0, .slice a1 k1 c1, .slice a2 k2 c2, .string v3, .slice a4 k4 c4, .slice a5 k5 c5, .slice a6 k6 c6], .int .i64 E]) rfl (by kernel_rfl) (by kernel_rfl) (by kernel_rfl) (fun _ _ _ h => h) (Or.inl ⟨by rfl, fun w hSw => by (obtain ⟨q0, q1, q2, q3, q4⟩ := hSw; go_simp)⟩) (by assumption) ?_
      try simp only [Act.put, List.setIfInBounds_toArray, List.set_cons_zero, List.set_cons_succ]
      refine wpAnyH_take (i := 5) (oi := { dst := some 21, op := Op.extract (Operand.tmp 16) 0, type := 30, pos := "outright.go:83", after := #[{ on := 4, ground := Ground.data }], guard := none }) (v := .agg #[.slice a0 k0 c0, .slice a1 k1 c1, .slice a2 k2 c2, .string v3, .slice a4 k4 c4, .slice a5 k5 c5, .slice a6 k6 c6]) rfl (by kernel_rfl) (by kernel_rfl) (by kernel_rfl) (fun _ _ _ h => h) (Or.inl ⟨by rfl, fun w hSw => by (obtain ⟨q0, q1, q2, q3, q4⟩ := hSw; go_simp)⟩) (by assumption) ?_
      try simp only [Act.put, List.setIfInBounds_toArray, List.set_cons_zero, List.set_cons_succ]
      refine wpAnyH_take (i := 6) (oi := { dst := some 22, op := Op.extract (Operand.tmp 16) 1, type := 31, pos := "outright.go:83", after := #[{ on := 4, ground := Ground.data }, { on := 8, ground := Ground.gcOnly Departure.lateStores }], guard := none }) (v := .int .i64 E) rfl (by kernel_rfl) (by kernel_rfl) (by kernel_rfl) (fun _ _ _ h => h) (Or.inl ⟨by rfl, fun w hSw => by (obtain ⟨q0, q1, q2, q3, q4⟩ := hSw; go_simp)⟩) (by assumption) ?_
      try simp only [Act.put, List.setIfInBounds_toArray, List.set_cons_zero, List.set_cons_succ]
      refine wpAnyH_ready (rs := [7]) (by kernel_rfl) (by simp) ?_
      refine AllReadyH.cons (o := { dst := some 7, op := Op.alloc 30, type := 0, pos := "outright.go:83", after := #[], guard := none }) rfl (fun K hK => ?_) AllReadyH.nil
      go_simp
      refine hK.out _ _ (HC.out _ (Fr.alloc u2 _)) (fun hHeld => ?_)
      clear hK K
      try simp only [Act.put, List.setIfInBounds_toArray, List.set_cons_zero, List.set_cons_succ]
      have r6 := heap_alloc_new Z2 (.cells #[.slice none 0 0, .slice none 0 0, .slice none 0 0, .string ⟨#[]⟩, .slice none 0 0, .slice none 0 0, .slice none 0 0] 30)
      refine wpAnyH_ready (rs := [8]) (by kernel_rfl) (by simp) ?_
      refine AllReadyH.cons (o := { dst := none, op := Op.store 30 (Operand.tmp 7) (Operand.tmp 21), type := 0, pos := "outright.go:83", after := #[{ on := 7, ground := Ground.data }, { on := 5, ground := Ground.data }, { on := 3, ground := Ground.chain }, { on := 0, ground := Ground.phase }, { on := 1, ground := Ground.phase }, { on := 2, ground := Ground.phase }, { on := 3, ground := Ground.phase }, { on := 4, ground := Ground.phase }, { on := 5, ground := Ground.phase }, { on := 6, ground := Ground.textOnly Departure.lateStores }, { on := 7, ground := Ground.phase }], guard := none }) rfl (fun K hK => ?_) AllReadyH.nil
      refine step_store_whole rfl 30 _ _ rfl (Z2.heap.size) #[.slice a0 k0 c0, .slice a1 k1 c1, .slice a2 k2 c2, .string v3, .slice a4 k4 c4, .slice a5 k5 c5, .slice a6 k6 c6] _ 30 (by rfl) (by rfl) r6 rfl (by kernel_rfl) (by kernel_rfl) ?_
      intro W7 r7 f7
      have x7 : Same V W7 := Fr.trans (Fr.alloc u2 _) f7 (fun i hi e => by first | omega | (have := u2.size; omega) | (have := u1.size; omega))
      refine hK.out _ _ (HC.out _ x7) (fun hHeld => ?_)
      clear hK K
      refine wpAnyH_take (i := 9) (oi := { dst := some 8, op := Op.assign (Operand.tmp 22), type := 31, pos := "outright.go:83", after := #[{ on := 6, ground := Ground.data }, { on := 8, ground := Ground.chain }, { on := 0, ground := Ground.phase }, { on := 1, ground := Ground.phase }, { on := 2, ground := Ground.phase }, { on := 3, ground := Ground.phase }, { on := 4, ground := Ground.phase }, { on := 5, ground := Ground.phase }, { on := 6, ground := Ground.phase }, { on := 7, ground := Ground.phase }, { on := 8, ground := Ground.phase }], guard := none }) (v := .int .i64 E) rfl (by kernel_rfl) (by kernel_rfl) (by kernel_rfl) (fun _ _ _ h => h) (Or.inl ⟨by rfl, fun w hSw => by (obtain ⟨q0, q1, q2, q3, q4⟩ := hSw; go_simp)⟩) (by assumption) ?_
      try simp only [Act.put, List.setIfInBounds_toArray, List.set_cons_zero, List.set_cons_succ]
      refine wpAnyH_done (by kernel_rfl) ?_ _
      obtain ⟨mb, hmb⟩ : ∃ mb, mb = Z2.heap.size := ⟨_, rfl⟩
      rw [← hmb] at r7 ⊢
      clear f7 r6 hmb
      clear u1 u2 q1 q2 l1
      obtain ⟨f0, f1, c0, c1, c2⟩ := HC.out _ x7
      have e0 : (E == 0) = decide (E = 0) := by simp [Bool.beq_eq_decide_eq]
      have e1 : (E != 0) = !decide (E = 0) := by rw [bne, e0]
      rcases hE with hE | ⟨hE, hk⟩
      · rw [decide_eq_false hE] at e0 e1
        clear hE
        go_wp2_with fail
        refine (HAW.out _).mono ?_
        rintro e Y1 ⟨rfl, y1⟩
        go_wp2_with fail
        go_ret
        exact ⟨rfl, (t1.trans x7).trans y1⟩
      · subst hE
        have hk1 : (0 : Int) < (N.ks.length : Int) := by omega
        go_wp2_with fail
        refine (HAW.out _).mono ?_
        rintro e Y1 ⟨rfl, y1⟩
        go_wp2_with fail
        go_ret
        exact ⟨rfl, (t1.trans x7).trans y1⟩
    · go_simp
      refine hK.out _ _ (HC.out _ (Fr.alloc u1 _)) (fun hHeld => ?_)
      clear hK K
      try simp only [Act.put, List.setIfInBounds_toArray, List.set_cons_zero, List.set_cons_succ]
      refine wpAnyH_ready (rs := [3]) (by kernel_rfl) (by simp) ?_
      refine AllReadyH.cons (o := { dst := some 20, op := Op.call { callee := Callee.value (Operand.func 4), args := #[Operand.tmp 17, Operand.tmp 19], argTypes := #[23, 28] }, type := 32, pos := "outright.go:83", after := #[{ on := 0, ground := Ground.data }, { on := 2, ground := Ground.data }, { on := 2, ground := Ground.chain }], guard := none }) rfl (fun K hK => ?_) AllReadyH.nil
      go_simp
      go_at_call 4
      refine (HSP.out _ _ _ _ _ _ _ _ (l1.same ((Fr.refl _ Z1).alloc _))).mono ?_
      rintro e Z2 ⟨⟨a0, k0, c0, a1, k1, c1, a2, k2, c2, v3, a4, k4, c4, a5, k5, c5, a6, k6, c6, E, rfl, hE⟩, q2⟩
      try go_wp2_with fail
      have u2 : Same V Z2 := Same.trans (Fr.alloc u1 _) q2
      refine hK.out _ _ (HC.out _ u2) (fun hHeld => ?_)
      clear hK K
      try simp only [Act.put, List.setIfInBounds_toArray, List.set_cons_zero, List.set_cons_succ]
      refine wpAnyH_take (i := 4) (oi := { dst := some 16, op := Op.move (Operand.tmp 20), type := 32, pos := "outright.go:83", after := #[{ on := 3, ground := Ground.data }], guard := none }) (v := .tuple #[.agg #[.slice a0 k0 c0, .slice a1 k1 c1, .slice a2 k2 c2, .string v3, .slice a4 k4 c4, .slice a5 k5 c5, .slice a6 k6 c6], .int .i64 E]) rfl (by kernel_rfl) (by kernel_rfl) (by kernel_rfl) (fun _ _ _ h => h) (Or.inl ⟨by rfl, fun w hSw => by (obtain ⟨q0, q1, q2, q3, q4⟩ := hSw; go_simp)⟩) (by assumption) ?_
      try simp only [Act.put, List.setIfInBounds_toArray, List.set_cons_zero, List.set_cons_succ]
      refine wpAnyH_take (i := 5) (oi := { dst := some 21, op := Op.extract (Operand.tmp 16) 0, type := 30, pos := "outright.go:83", after := #[{ on := 4, ground := Ground.data }], guard := none }) (v := .agg #[.slice a0 k0 c0, .slice a1 k1 c1, .slice a2 k2 c2, .string v3, .slice a4 k4 c4, .slice a5 k5 c5, .slice a6 k6 c6]) rfl (by kernel_rfl) (by kernel_rfl) (by kernel_rfl) (fun _ _ _ h => h) (Or.inl ⟨by rfl, fun w hSw => by (obtain ⟨q0, q1, q2, q3, q4⟩ := hSw; go_simp)⟩) (by assumption) ?_
      try simp only [Act.put, List.setIfInBounds_toArray, List.set_cons_zero, List.set_cons_succ]
      refine wpAnyH_take (i := 6) (oi := { dst := some 22, op := Op.extract (Operand.tmp 16) 1, type := 31, pos := "outright.go:83", after := #[{ on := 4, ground := Ground.data }, { on := 8, ground := Ground.gcOnly Departure.lateStores }], guard := none }) (v := .int .i64 E) rfl (by kernel_rfl) (by kernel_rfl) (by kernel_rfl) (fun _ _ _ h => h) (Or.inl ⟨by rfl, fun w hSw => by (obtain ⟨q0, q1, q2, q3, q4⟩ := hSw; go_simp)⟩) (by assumption) ?_
      try simp only [Act.put, List.setIfInBounds_toArray, List.set_cons_zero, List.set_cons_succ]
      have r6 := (q2.block _ (by simp) (fun e => e)).trans (heap_alloc_new Z1 (.cells #[.slice none 0 0, .slice none 0 0, .slice none 0 0, .string ⟨#[]⟩, .slice none 0 0, .slice none 0 0, .slice none 0 0] 30))
      refine wpAnyH_ready (rs := [8]) (by kernel_rfl) (by simp) ?_
      refine AllReadyH.cons (o := { dst := none, op := Op.store 30 (Operand.tmp 7) (Operand.tmp 21), type := 0, pos := "outright.go:83", after := #[{ on := 7, ground := Ground.data }, { on := 5, ground := Ground.data }, { on := 3, ground := Ground.chain }, { on := 0, ground := Ground.phase }, { on := 1, ground := Ground.phase }, { on := 2, ground := Ground.phase }, { on := 3, ground := Ground.phase }, { on := 4, ground := Ground.phase }, { on := 5, ground := Ground.phase }, { on := 6, ground := Ground.textOnly Departure.lateStores }, { on := 7, ground := Ground.phase }], guard := none }) rfl (fun K hK => ?_) AllReadyH.nil
      refine step_store_whole rfl 30 _ _ rfl (Z1.heap.size) #[.slice a0 k0 c0, .slice a1 k1 c1, .slice a2 k2 c2, .string v3, .slice a4 k4 c4, .slice a5 k5 c5, .slice a6 k6 c6] _ 30 (by rfl) (by rfl) r6 rfl (by kernel_rfl) (by kernel_rfl) ?_
      intro W7 r7 f7
      have x7 : Same V W7 := Fr.trans (u2) f7 (fun i hi e => by first | omega | (have := u2.size; omega) | (have := u1.size; omega))
      refine hK.out _ _ (HC.out _ x7) (fun hHeld => ?_)
      clear hK K
      refine wpAnyH_take (i := 9) (oi := { dst := some 8, op := Op.assign (Operand.tmp 22), type := 31, pos := "outright.go:83", after := #[{ on := 6, ground := Ground.data }, { on := 8, ground := Ground.chain }, { on := 0, ground := Ground.phase }, { on := 1, ground := Ground.phase }, { on := 2, ground := Ground.phase }, { on := 3, ground := Ground.phase }, { on := 4, ground := Ground.phase }, { on := 5, ground := Ground.phase }, { on := 6, ground := Ground.phase }, { on := 7, ground := Ground.phase }, { on := 8, ground := Ground.phase }], guard := none }) (v := .int .i64 E) rfl (by kernel_rfl) (by kernel_rfl) (by kernel_rfl) (fun _ _ _ h => h) (Or.inl ⟨by rfl, fun w hSw => by (obtain ⟨q0, q1, q2, q3, q4⟩ := hSw; go_simp)⟩) (by assumption) ?_
      try simp only [Act.put, List.setIfInBounds_toArray, List.set_cons_zero, List.set_cons_succ]
      refine wpAnyH_done (by kernel_rfl) ?_ _
      obtain ⟨mb, hmb⟩ : ∃ mb, mb = Z1.heap.size := ⟨_, rfl⟩
      rw [← hmb] at r7 ⊢
      clear f7 r6 hmb
      clear u1 u2 q1 q2 l1
      obtain ⟨f0, f1, c0, c1, c2⟩ := HC.out _ x7
      have e0 : (E == 0) = decide (E = 0) := by simp [Bool.beq_eq_decide_eq]
      have e1 : (E != 0) = !decide (E = 0) := by rw [bne, e0]
      rcases hE with hE | ⟨hE, hk⟩
      · rw [decide_eq_false hE] at e0 e1
        clear hE
        go_wp2_with fail
        refine (HAW.out _).mono ?_
        rintro e Y1 ⟨rfl, y1⟩
        go_wp2_with fail
        go_ret
        exact ⟨rfl, (t1.trans x7).trans y1⟩
      · subst hE
        have hk1 : (0 : Int) < (N.ks.length : Int) := by omega
        go_wp2_with fail
        refine (HAW.out _).mono ?_
        rintro e Y1 ⟨rfl, y1⟩
        go_wp2_with fail
        go_ret
        exact ⟨rfl, (t1.trans x7).trans y1⟩
  · go_simp
    refine hK.out _ _ (HC.out _ (Fr.alloc d0 _)) (fun hHeld => ?_)
    clear hK K
    try simp only [Act.put, List.setIfInBounds_toArray, List.set_cons_zero, List.set_cons_succ]
    refine wpAnyH_ready (rs := [2]) (by kernel_rfl) (by simp) ?_
    refine AllReadyH.cons (o := { dst := some 19, op := Op.call { callee := Callee.value (Operand.func 5), args := #[Operand.tmp 18], argTypes := #[28] }, type := 28, pos := "outright.go:83", after := #[{ on := 1, ground := Ground.data }], guard := none }) rfl (fun K hK => ?_) AllReadyH.nil
    go_simp
    go_at_call 5
    refine (HL.out _ (t1.trans (Fr.alloc d0 _))).mono ?_
    rintro e Z1 ⟨gp, cp, gs, cs, gk, ck, rfl, l1, q1⟩
    try go_wp2_with fail
    have u1 : Same V Z1 := Same.trans (Fr.alloc d0 _) q1
    refine hK.out _ _ (HC.out _ u1) (fun hHeld => ?_)
    clear hK K
    try simp only [Act.put, List.setIfInBounds_toArray, List.set_cons_zero, List.set_cons_succ]
    refine wpAnyH_ready (rs := [3]) (by kernel_rfl) (by simp) ?_
    refine AllReadyH.cons (o := { dst := some 20, op := Op.call { callee := Callee.value (Operand.func 4), args := #[Operand.tmp 17, Operand.tmp 19], argTypes := #[23, 28] }, type := 32, pos := "outright.go:83", after := #[{ on := 0, ground := Ground.data }, { on := 2, ground := Ground.data }, { on := 2, ground := Ground.chain }], guard := none }) rfl (fun K hK => ?_) AllReadyH.nil
    go_simp
    go_at_call 4
    refine (HSP.out _ _ _ _ _ _ _ _ (l1)).mono ?_
    rintro e Z2 ⟨⟨a0, k0, c0, a1, k1, c1, a2, k2, c2, v3, a4, k4, c4, a5, k5, c5, a6, k6, c6, E, rfl, hE⟩, q2⟩
    try go_wp2_with fail
    have u2 : Same V Z2 := Same.trans (u1) q2
    refine hK.out _ _ (HC.out _ u2) (fun hHeld => ?_)
    clear hK K
    try simp only [Act.put, List.setIfInBounds_toArray, List.set_cons_zero, List.set_cons_succ]
    refine wpAnyH_take (i := 4) (oi := { dst := some 16, op := Op.move (Operand.tmp 20), type := 32, pos := "outright.go:83", after := #[{ on := 3, ground := Ground.data }], guard := none }) (v := .tuple #[.agg #[.slice a0 k0 c0, .slice a1 k1 c1, .slice a2 k2 c2, .string v3, .slice a4 k4 c4, .slice a5 k5 c5, .slice a6 k6 c6], .int .i64 E]) rfl (by kernel_rfl) (by kernel_rfl) (by kernel_rfl) (fun _ _ _ h => h) (Or.inl ⟨by rfl, fun w hSw => by (obtain ⟨q0, q1, q2, q3, q4⟩ := hSw; go_simp)⟩) (by assumption) ?_
    try simp only [Act.put, List.setIfInBounds_toArray, List.set_cons_zero, List.set_cons_succ]
    refine wpAnyH_take (i := 5) (oi := { dst := some 21, op := Op.extract (Operand.tmp 16) 0, type := 30, pos := "outright.go:83", after := #[{ on := 4, ground := Ground.data }], guard := none }) (v := .agg #[.slice a0 k0 c0, .slice a1 k1 c1, .slice a2 k2 c2, .string v3, .slice a4 k4 c4, .slice a5 k5 c5, .slice a6 k6 c6]) rfl (by kernel_rfl) (by kernel_rfl) (by kernel_rfl) (fun _ _ _ h => h) (Or.inl ⟨by rfl, fun w hSw => by (obtain ⟨q0, q1, q2, q3, q4⟩ := hSw; go_simp)⟩) (by assumption) ?_
    try simp only [Act.put, List.setIfInBounds_toArray, List.set_cons_zero, List.set_cons_succ]
    refine wpAnyH_take (i := 6) (oi := { dst := some 22, op := Op.extract (Operand.tmp 16) 1, type := 31, pos := "outright.go:83", after := #[{ on := 4, ground := Ground.data }, { on := 8, ground := Ground.gcOnly Departure.lateStores }], guard := none }) (v := .int .i64 E) rfl (by kernel_rfl) (by kernel_rfl) (by kernel_rfl) (fun _ _ _ h => h) (Or.inl ⟨by rfl, fun w hSw => by (obtain ⟨q0, q1, q2, q3, q4⟩ := hSw; go_simp)⟩) (by assumption) ?_
    try simp only [Act.put, List.setIfInBounds_toArray, List.set_cons_zero, List.set_cons_succ]
    have r6 := ((q1.trans q2).block _ (by rw [World.size_alloc]; exact Nat.lt_succ_self _) (fun e => e)).trans (heap_alloc_new V.drew (.cells #[.slice none 0 0, .slice none 0 0, .slice none 0 0, .string ⟨#[]⟩, .slice none 0 0, .slice none 0 0, .slice none 0 0] 30))
    refine wpAnyH_ready (rs := [8]) (by kernel_rfl) (by simp) ?_
    refine AllReadyH.cons (o := { dst := none, op := Op.store 30 (Operand.tmp 7) (Operand.tmp 21), type := 0, pos := "outright.go:83", after := #[{ on := 7, ground := Ground.data }, { on := 5, ground := Ground.data }, { on := 3, ground := Ground.chain }, { on := 0, ground := Ground.phase }, { on := 1, ground := Ground.phase }, { on := 2, ground := Ground.phase }, { on := 3, ground := Ground.phase }, { on := 4, ground := Ground.phase }, { on := 5, ground := Ground.phase }, { on := 6, ground := Ground.textOnly Departure.lateStores }, { on := 7, ground := Ground.phase }], guard := none }) rfl (fun K hK => ?_) AllReadyH.nil
    refine step_store_whole rfl 30 _ _ rfl (V.heap.size) #[.slice a0 k0 c0, .slice a1 k1 c1, .slice a2 k2 c2, .string v3, .slice a4 k4 c4, .slice a5 k5 c5, .slice a6 k6 c6] _ 30 (by rfl) (by rfl) r6 rfl (by kernel_rfl) (by kernel_rfl) ?_
    intro W7 r7 f7
    have x7 : Same V W7 := Fr.trans (u2) f7 (fun i hi e => by first | omega | (have := u2.size; omega) | (have := u1.size; omega))
    refine hK.out _ _ (HC.out _ x7) (fun hHeld => ?_)
    clear hK K
    refine wpAnyH_take (i := 9) (oi := { dst := some 8, op := Op.assign (Operand.tmp 22), type := 31, pos := "outright.go:83", after := #[{ on := 6, ground := Ground.data }, { on := 8, ground := Ground.chain }, { on := 0, ground := Ground.phase }, { on := 1, ground := Ground.phase }, { on := 2, ground := Ground.phase }, { on := 3, ground := Ground.phase }, { on := 4, ground := Ground.phase }, { on := 5, ground := Ground.phase }, { on := 6, ground := Ground.phase }, { on := 7, ground := Ground.phase }, { on := 8, ground := Ground.phase }], guard := none }) (v := .int .i64 E) rfl (by kernel_rfl) (by kernel_rfl) (by kernel_rfl) (fun _ _ _ h => h) (Or.inl ⟨by rfl, fun w hSw => by (obtain ⟨q0, q1, q2, q3, q4⟩ := hSw; go_simp)⟩) (by assumption) ?_
    try simp only [Act.put, List.setIfInBounds_toArray, List.set_cons_zero, List.set_cons_succ]
    refine wpAnyH_done (by kernel_rfl) ?_ _
    obtain ⟨mb, hmb⟩ : ∃ mb, mb = V.heap.size := ⟨_, rfl⟩
    rw [← hmb] at r7 ⊢
    clear f7 r6 hmb
    clear u1 u2 q1 q2 l1
    obtain ⟨f0, f1, c0, c1, c2⟩ := HC.out _ x7
    have e0 : (E == 0) = decide (E = 0) := by simp [Bool.beq_eq_decide_eq]
    have e1 : (E != 0) = !decide (E = 0) := by rw [bne, e0]
    rcases hE with hE | ⟨hE, hk⟩
    · rw [decide_eq_false hE] at e0 e1
      clear hE
      go_wp2_with fail
      refine (HAW.out _).mono ?_
      rintro e Y1 ⟨rfl, y1⟩
      go_wp2_with fail
      go_ret
      exact ⟨rfl, (t1.trans x7).trans y1⟩
    · subst hE
      have hk1 : (0 : Int) < (N.ks.length : Int) := by omega
      go_wp2_with fail
      refine (HAW.out _).mono ?_
      rintro e Y1 ⟨rfl, y1⟩
      go_wp2_with fail
      go_ret
      exact ⟨rfl, (t1.trans x7).trans y1⟩
set_option maxRecDepth 100000 in
set_option maxHeartbeats 4000000 in
theorem gways_leaf {p q : Int} {r : Nr} {N : Nd} {key sp : ByteArray} {n1 n2 : Nat} {P1 P2 : List (ByteArray × ByteArray)} (w : World) (h : NdIn w r N) (h1 : N.ps.length ≤ 1048576) (h2 : N.ss.length ≤ 1048576) (h3 : N.ks.length ≤ 1048576) (hk : N.ks.length = 0) (p1 : P1.length = n1) (p2 : P2.length = n2) (b1 : n1 ≤ 1048576) (b2 : n2 ≤ 1048576)
    (hA : (findP key N.ps 0).2 = ((findP key P1 0).2 || (findP key P2 0).2)) (hL : (findP key P1 0).2 = true → Op.bytesLess key.toList sp.toList = true) (hR : (findP key P2 0).2 = true → Op.bytesLess key.toList sp.toList = false)
    (HSP : Hid (∀ W gp cp gs cs gk ck B, LentAt W B gp cp gs cs gk ck N → Calls Try.prog 4 #[frameV p q, ndV (lentNr gp cp gs cs gk ck) N] W fun e w' => (∃ ao1 c1 ao2 c2, e = .returned (.tuple #[.agg #[.slice ao1 n1 c1, .slice none 0 0, .slice none 0 0, .string sp, .slice ao2 n2 c2, .slice none 0 0, .slice none 0 0], .int .i64 0]) ∧ w'.ownsRow W.heap.size 45 2 (.slice ao1 n1 c1) n1 (pcells P1) ∧ w'.ownsRow W.heap.size 45 2 (.slice ao2 n2 c2) n2 (pcells P2)) ∧ Same W w')) :
    Calls Try.prog 3 #[frameV p q, ndV r N, .string key] w fun e w' => e = .returned (.bool true) ∧ Same w w' := by
  have HL : Hid (∀ W, Same w W → Calls Try.prog 5 #[ndV r N] W fun e w' => ∃ gp cp gs cs gk ck, e = .returned (ndV (lentNr gp cp gs cs gk ck) N) ∧ LentAt w' W.heap.size gp cp gs cs gk ck N ∧ Same W w') := fun W s => lent_at W (h.same s) h1 h2 h3
  have HF1 : Hid (∀ W gp cp gs cs gk ck B, LentAt W B gp cp gs cs gk ck N → Calls Try.prog 7 #[ndV (lentNr gp cp gs cs gk ck) N, .string key] W fun e w' => e = .returned (.tuple #[.int .i64 ((findP key N.ps 0).1 : Int), .bool (findP key N.ps 0).2]) ∧ Same W w') := fun W gp cp gs cs gk ck B l => find_core W (l.nd h.at_).hp (by omega)
  have HFa : Hid (∀ W B ao c, W.ownsRow B 45 2 (.slice ao n1 c) n1 (pcells P1) → Calls Try.prog 7 #[nodeV ao n1 c none 0 0 none 0 0, .string key] W fun e w' => e = .returned (.tuple #[.int .i64 ((findP key P1 0).1 : Int), .bool (findP key P1 0).2]) ∧ Same W w') := fun W B ao c o => by
    obtain ⟨g, hp⟩ := own_prow (own_base o (Nat.zero_le _)) p1.symm
    have := find_core (cp := c) (sa := none) (ka := none) (ns := 0) (cs := 0) (nk := 0) (ck := 0) (key := key) W hp (by omega)
    rw [p1] at this
    exact this
  have HFb : Hid (∀ W B ao c, W.ownsRow B 45 2 (.slice ao n2 c) n2 (pcells P2) → Calls Try.prog 7 #[nodeV ao n2 c none 0 0 none 0 0, .string key] W fun e w' => e = .returned (.tuple #[.int .i64 ((findP key P2 0).1 : Int), .bool (findP key P2 0).2]) ∧ Same W w') := fun W B ao c o => by
    obtain ⟨g, hp⟩ := own_prow (own_base o (Nat.zero_le _)) p2.symm
    have := find_core (cp := c) (sa := none) (ka := none) (ns := 0) (cs := 0) (nk := 0) (ck := 0) (key := key) W hp (by omega)
    rw [p2] at this
    exact this
  have HWY : Hid (∀ (W : World) (b : Nat), W.heap[b]? = some (.cells #[.string sp] 9 (0, 0)) → Calls Try.prog 8 #[nodeV none 0 0 (some ⟨b, 0, none⟩) 1 1 none 0 0, .string key] W fun e w' => e = .returned (.int .i64 (if Op.bytesLess key.toList sp.toList = true then 0 else 1)) ∧ Same W w') := fun W b hb => by
    have ht : TRow W (some ⟨b, 0, none⟩) b 0 [sp] := ⟨fun _ => ⟨rfl, lt_of_heap hb⟩, fun j x hx => by
      obtain ⟨rfl, rfl⟩ : j = 0 ∧ x = sp := by
        rcases j with _ | j
        · simp at hx; exact ⟨rfl, hx.symm⟩
        · simp at hx
      rw [cell_of_row _ _ _ _ _ _ hb]; rfl⟩
    have := way_calls (pa := some ⟨b, 0, none⟩) (cp := 1) (sa := none) (ka := none) (ns := 0) (cs := 0) (nk := 0) (ck := 0) (key := key) W ht (by simp)
    rw [way_one] at this
    exact this
  generalize (findP key N.ps 0).2 = A at *
  generalize (findP key P1 0).2 = L at *
  generalize (findP key P2 0).2 = Rr at *
  generalize ((findP key N.ps 0).1 : Int) = I0 at *
  generalize ((findP key P1 0).1 : Int) = I1 at *
  generalize ((findP key P2 0).1 : Int) = I2 at *
  subst hA
  obtain ⟨LS, hLS⟩ : ∃ LS, LS = Op.bytesLess key.toList sp.toList := ⟨_, rfl⟩
  rw [← hLS] at hL hR HWY
  have HLS : Hid (LS = Op.bytesLess key.toList sp.toList) := hLS
  clear hLS
  have HLR : Hid ((L = true → LS = true) ∧ (Rr = true → LS = false)) := ⟨hL, hR⟩
  have HNK : Hid (N.ks.length = 0) := hk
  clear hL hR hk p1 p2
  have HAW : Hid (∀ W, Calls Try.prog 6 #[] W fun e w' => e = .returned (.bool true) ∧ Same W w') := awake_calls
  obtain ⟨V, hV⟩ : ∃ V, V = (w.alloc (.cells #[.int .i64 p, .int .i64 q] 23)).alloc (.cells #[.slice r.pa N.ps.length r.cp, .slice r.sa N.ss.length r.cs, .slice r.ka N.ks.length r.ck] 28) := ⟨_, rfl⟩
  have t1 : Same w V := by rw [hV]; exact ((Fr.refl _ w).alloc _).alloc _
  have HC : Hid (∀ W, Same V W → W.cell? ⟨w.heap.size, 0, none⟩ = some (.int .i64 p) ∧ W.cell? ⟨w.heap.size, 1, none⟩ = some (.int .i64 q) ∧ W.cell? ⟨w.heap.size + 1, 0, none⟩ = some (.slice r.pa N.ps.length r.cp) ∧ W.cell? ⟨w.heap.size + 1, 1, none⟩ = some (.slice r.sa N.ss.length r.cs) ∧ W.cell? ⟨w.heap.size + 1, 2, none⟩ = some (.slice r.ka N.ks.length r.ck)) := fun W s => ⟨s.keep (by rw [hV]; simp), s.keep (by rw [hV]; simp), s.keep (by rw [hV]; simp), s.keep (by rw [hV]; simp), s.keep (by rw [hV]; simp)⟩
  have d0 : Same V V.drew := Fr.drew (Fr.refl _ V)
  clear h
  go_enter Try.func3, Try.ntmps3
  go_wp2_with fail
  rw [← hV]
  clear hV
  unfold lentNr at HL HSP HF1
  refine wp_region_held_drew (S := fun W => W.cell? ⟨w.heap.size, 0, none⟩ = some (.int .i64 p) ∧ W.cell? ⟨w.heap.size, 1, none⟩ = some (.int .i64 q) ∧ W.cell? ⟨w.heap.size + 1, 0, none⟩ = some (.slice r.pa N.ps.length r.cp) ∧ W.cell? ⟨w.heap.size + 1, 1, none⟩ = some (.slice r.sa N.ss.length r.cs) ∧ W.cell? ⟨w.heap.size + 1, 2, none⟩ = some (.slice r.ka N.ks.length r.ck)) (by kernel_rfl) (HC.out _ d0) (fun hHeld => ?_)
  refine wpAnyH_take (i := 0) (oi := { dst := some 17, op := Op.load 23 (Operand.tmp 3), type := 23, pos := "outright.go:83", after := #[], guard := none }) (v := .agg #[.int .i64 p, .int .i64 q]) rfl (by kernel_rfl) (by kernel_rfl) (by kernel_rfl) (fun _ _ _ h => h) (Or.inl ⟨by rfl, fun w hSw => by (obtain ⟨q0, q1, q2, q3, q4⟩ := hSw; go_simp)⟩) (by assumption) ?_
  try simp only [Act.put, List.setIfInBounds_toArray, List.set_cons_zero, List.set_cons_succ]
  refine wpAnyH_take (i := 1) (oi := { dst := some 18, op := Op.load 28 (Operand.tmp 4), type := 28, pos := "outright.go:83", after := #[], guard := none }) (v := .agg #[.slice r.pa N.ps.length r.cp, .slice r.sa N.ss.length r.cs, .slice r.ka N.ks.length r.ck]) rfl (by kernel_rfl) (by kernel_rfl) (by kernel_rfl) (fun _ _ _ h => h) (Or.inl ⟨by rfl, fun w hSw => by (obtain ⟨q0, q1, q2, q3, q4⟩ := hSw; go_simp)⟩) (by assumption) ?_
  try simp only [Act.put, List.setIfInBounds_toArray, List.set_cons_zero, List.set_cons_succ]
  refine wpAnyH_ready (rs := [2, 7]) (by kernel_rfl) (by simp) ?_
  refine AllReadyH.cons (o := { dst := some 19, op := Op.call { callee := Callee.value (Operand.func 5), args := #[Operand.tmp 18], argTypes := #[28] }, type := 28, pos := "outright.go:83", after := #[{ on := 1, ground := Ground.data }], guard := none }) rfl (fun K hK => ?_) (AllReadyH.cons (o := { dst := some 7, op := Op.alloc 30, type := 0, pos := "outright.go:83", after := #[], guard := none }) rfl (fun K hK => ?_) AllReadyH.nil)
  · go_simp
    go_at_call 5
    refine (HL.out _ (t1.trans (d0))).mono ?_
    rintro e Z1 ⟨gp, cp, gs, cs, gk, ck, rfl, l1, q1⟩
    try go_wp2_with fail
    have u1 : Same V Z1 := Same.trans (d0) q1
    refine hK.out _ _ (HC.out _ u1) (fun hHeld => ?_)
    clear hK K
    try simp only [Act.put, List.setIfInBounds_toArray, List.set_cons_zero, List.set_cons_succ]
    refine wpAnyH_ready (rs := [3, 7]) (by kernel_rfl) (by simp) ?_
    refine AllReadyH.cons (o := { dst := some 20, op := Op.call { callee := Callee.value (Operand.func 4), args := #[Operand.tmp 17, Operand.tmp 19], argTypes := #[23, 28] }, type := 32, pos := "outright.go:83", after := #[{ on := 0, ground := Ground.data }, { on := 2, ground := Ground.data }, { on := 2, ground := Ground.chain }], guard := none }) rfl (fun K hK => ?_) (AllReadyH.cons (o := { dst := some 7, op := Op.alloc 30, type := 0, pos := "outright.go:83", after := #[], guard := none }) rfl (fun K hK => ?_) AllReadyH.nil)
    · go_simp
      go_at_call 4
      refine (HSP.out _ _ _ _ _ _ _ _ (l1)).mono ?_
      rintro e Z2 ⟨⟨ao1, c1, ao2, c2, rfl, o1, o2⟩, q2⟩
      try go_wp2_with fail
      have u2 : Same V Z2 := Same.trans (u1) q2
      refine hK.out _ _ (HC.out _ u2) (fun hHeld => ?_)
      clear hK K
      try simp only [Act.put, List.setIfInBounds_toArray, List.set_cons_zero, List.set_cons_succ]
      refine wpAnyH_take (i := 4) (oi := { dst := some 16, op := Op.move (Operand.tmp 20), type := 32, pos := "outright.go:83", after := #[{ on := 3, ground := Ground.data }], guard := none }) (v := .tuple #[.agg #[.slice ao1 n1 c1, .slice none 0 0, .slice none 0 0, .string sp, .slice ao2 n2 c2, .slice none 0 0, .slice none 0 0], .int .i64 0]) rfl (by kernel_rfl) (by kernel_rfl) (by kernel_rfl) (fun _ _ _ h => h) (Or.inl ⟨by rfl, fun w hSw => by (obtain ⟨q0, q1, q2, q3, q4⟩ := hSw; go_simp)⟩) (by assumption) ?_
      try simp only [Act.put, List.setIfInBounds_toArray, List.set_cons_zero, List.set_cons_succ]
      refine wpAnyH_take (i := 5) (oi := { dst := some 21, op := Op.extract (Operand.tmp 16) 0, type := 30, pos := "outright.go:83", after := #[{ on := 4, ground := Ground.data }], guard := none }) (v := .agg #[.slice ao1 n1 c1, .slice none 0 0, .slice none 0 0, .string sp, .slice ao2 n2 c2, .slice none 0 0, .slice none 0 0]) rfl (by kernel_rfl) (by kernel_rfl) (by kernel_rfl) (fun _ _ _ h => h) (Or.inl ⟨by rfl, fun w hSw => by (obtain ⟨q0, q1, q2, q3, q4⟩ := hSw; go_simp)⟩) (by assumption) ?_
      try simp only [Act.put, List.setIfInBounds_toArray, List.set_cons_zero, List.set_cons_succ]
      refine wpAnyH_take (i := 6) (oi := { dst := some 22, op := Op.extract (Operand.tmp 16) 1, type := 31, pos := "outright.go:83", after := #[{ on := 4, ground := Ground.data }, { on := 8, ground := Ground.gcOnly Departure.lateStores }], guard := none }) (v := .int .i64 0) rfl (by kernel_rfl) (by kernel_rfl) (by kernel_rfl) (fun _ _ _ h => h) (Or.inl ⟨by rfl, fun w hSw => by (obtain ⟨q0, q1, q2, q3, q4⟩ := hSw; go_simp)⟩) (by assumption) ?_
      try simp only [Act.put, List.setIfInBounds_toArray, List.set_cons_zero, List.set_cons_succ]
      refine wpAnyH_ready (rs := [7]) (by kernel_rfl) (by simp) ?_
      refine AllReadyH.cons (o := { dst := some 7, op := Op.alloc 30, type := 0, pos := "outright.go:83", after := #[], guard := none }) rfl (fun K hK => ?_) AllReadyH.nil
      go_simp
      refine hK.out _ _ (HC.out _ (Fr.alloc u2 _)) (fun hHeld => ?_)
      clear hK K
      try simp only [Act.put, List.setIfInBounds_toArray, List.set_cons_zero, List.set_cons_succ]
      have r6 := heap_alloc_new Z2 (.cells #[.slice none 0 0, .slice none 0 0, .slice none 0 0, .string ⟨#[]⟩, .slice none 0 0, .slice none 0 0, .slice none 0 0] 30)
      refine wpAnyH_ready (rs := [8]) (by kernel_rfl) (by simp) ?_
      refine AllReadyH.cons (o := { dst := none, op := Op.store 30 (Operand.tmp 7) (Operand.tmp 21), type := 0, pos := "outright.go:83", after := #[{ on := 7, ground := Ground.data }, { on := 5, ground := Ground.data }, { on := 3, ground := Ground.chain }, { on := 0, ground := Ground.phase }, { on := 1, ground := Ground.phase }, { on := 2, ground := Ground.phase }, { on := 3, ground := Ground.phase }, { on := 4, ground := Ground.phase }, { on := 5, ground := Ground.phase }, { on := 6, ground := Ground.textOnly Departure.lateStores }, { on := 7, ground := Ground.phase }], guard := none }) rfl (fun K hK => ?_) AllReadyH.nil
      refine step_store_whole rfl 30 _ _ rfl (Z2.heap.size) #[.slice ao1 n1 c1, .slice none 0 0, .slice none 0 0, .string sp, .slice ao2 n2 c2, .slice none 0 0, .slice none 0 0] _ 30 (by rfl) (by rfl) r6 rfl (by kernel_rfl) (by kernel_rfl) ?_
      intro W7 r7 f7
      have x7 : Same V W7 := Fr.trans (Fr.alloc u2 _) f7 (fun i hi e => by first | omega | (have := u2.size; omega) | (have := u1.size; omega))
      refine hK.out _ _ (HC.out _ x7) (fun hHeld => ?_)
      clear hK K
      refine wpAnyH_take (i := 9) (oi := { dst := some 8, op := Op.assign (Operand.tmp 22), type := 31, pos := "outright.go:83", after := #[{ on := 6, ground := Ground.data }, { on := 8, ground := Ground.chain }, { on := 0, ground := Ground.phase }, { on := 1, ground := Ground.phase }, { on := 2, ground := Ground.phase }, { on := 3, ground := Ground.phase }, { on := 4, ground := Ground.phase }, { on := 5, ground := Ground.phase }, { on := 6, ground := Ground.phase }, { on := 7, ground := Ground.phase }, { on := 8, ground := Ground.phase }], guard := none }) (v := .int .i64 0) rfl (by kernel_rfl) (by kernel_rfl) (by kernel_rfl) (fun _ _ _ h => h) (Or.inl ⟨by rfl, fun w hSw => by (obtain ⟨q0, q1, q2, q3, q4⟩ := hSw; go_simp)⟩) (by assumption) ?_
      try simp only [Act.put, List.setIfInBounds_toArray, List.set_cons_zero, List.set_cons_succ]
      refine wpAnyH_done (by kernel_rfl) ?_ _
      have m1 := own_frameB (o1.alloc _) f7 (fun kk hk e => type_ne (o1.alloc _) r6 (by decide) (by rw [hk, e] <;> rfl))
      have m2 := own_frameB (o2.alloc _) f7 (fun kk hk e => type_ne (o2.alloc _) r6 (by decide) (by rw [hk, e] <;> rfl))
      clear o1
      clear o2
      obtain ⟨mb, hmb⟩ : ∃ mb, mb = Z2.heap.size := ⟨_, rfl⟩
      rw [← hmb] at r7 ⊢
      clear f7 r6 hmb
      clear u1 u2 q1 q2 l1
      have HB : Hid (∀ W, Same W7 W → W.cell? ⟨mb, 0, none⟩ = some (.slice ao1 n1 c1) ∧ W.cell? ⟨mb, 1, none⟩ = some (.slice none 0 0) ∧ W.cell? ⟨mb, 2, none⟩ = some (.slice none 0 0) ∧ W.cell? ⟨mb, 3, none⟩ = some (.string sp) ∧ W.cell? ⟨mb, 4, none⟩ = some (.slice ao2 n2 c2) ∧ W.cell? ⟨mb, 5, none⟩ = some (.slice none 0 0) ∧ W.cell? ⟨mb, 6, none⟩ = some (.slice none 0 0)) := fun W s => ⟨s.keep ((cell_of_row _ _ _ _ _ _ r7).trans rfl), s.keep ((cell_of_row _ _ _ _ _ _ r7).trans rfl), s.keep ((cell_of_row _ _ _ _ _ _ r7).trans rfl), s.keep ((cell_of_row _ _ _ _ _ _ r7).trans rfl), s.keep ((cell_of_row _ _ _ _ _ _ r7).trans rfl), s.keep ((cell_of_row _ _ _ _ _ _ r7).trans rfl), s.keep ((cell_of_row _ _ _ _ _ _ r7).trans rfl)⟩
      obtain ⟨B1, hm1⟩ : ∃ B1, W7.ownsRow B1 45 2 (.slice ao1 n1 c1) n1 (pcells P1) := ⟨_, m1⟩
      obtain ⟨B2, hm2⟩ : ∃ B2, W7.ownsRow B2 45 2 (.slice ao2 n2 c2) n2 (pcells P2) := ⟨_, m2⟩
      have HM1 : Hid (∀ W, Same W7 W → W.ownsRow B1 45 2 (.slice ao1 n1 c1) n1 (pcells P1)) := fun W s => own_frameB hm1 s (fun _ _ f => f)
      have HM2 : Hid (∀ W, Same W7 W → W.ownsRow B2 45 2 (.slice ao2 n2 c2) n2 (pcells P2)) := fun W s => own_frameB hm2 s (fun _ _ f => f)
      have z0 : Same W7 W7 := Fr.refl _ _
      clear r7 m1 m2 hm1 hm2
      obtain ⟨f0, f1, c0, c1', c2'⟩ := HC.out _ x7
      have hz : ¬ 0 < N.ks.length := by have := HNK.out; omega
      go_wp2_with fail
      refine (HL.out _ (t1.trans x7)).mono ?_
      rintro e Y1 ⟨gp3, cp3, gs3, cs3, gk3, ck3, rfl, l3, y1⟩
      go_wp2_with fail
      refine (HF1.out _ _ _ _ _ _ _ _ l3).mono ?_
      rintro e Y2 ⟨rfl, y2⟩
      have y2 := y1.trans y2
      obtain ⟨m0, m1, m2, m3, m4, m5, m6⟩ := HB.out _ y2
      clear f0 f1 c0 c1' c2'
      go_wp2_with fail
      refine (HFa.out _ _ _ _ (HM1.out _ y2)).mono ?_
      rintro e Y3 ⟨rfl, y3⟩
      have y3 := y2.trans y3
      clear m0 m1 m2 m3 m4 m5 m6
      obtain ⟨m0, m1, m2, m3, m4, m5, m6⟩ := HB.out _ y3
      go_wp2_with fail
      refine (HFb.out _ _ _ _ (HM2.out _ y3)).mono ?_
      rintro e Y4 ⟨rfl, y4⟩
      have y4 := y3.trans y4
      clear m0 m1 m2 m3 m4 m5 m6
      obtain ⟨m0, m1, m2, m3, m4, m5, m6⟩ := HB.out _ y4
      go_wp2_with fail
      refine (HWY.out _ _ (heap_alloc_new Y4 _)).mono ?_
      rintro e Y5 ⟨rfl, y5⟩
      have y5 : Same W7 Y5 := Same.trans (Fr.alloc y4 _) y5
      clear m0 m1 m2 m3 m4 m5 m6
      obtain ⟨m0, m1, m2, m3, m4, m5, m6⟩ := HB.out _ y5
      have hls := HLS.out
      have hlr := HLR.out
      clear HLS HLR HL HSP HF1 HFa HFb HWY HM1 HM2 y2 y3 y4
      cases L <;> cases Rr <;> cases LS <;> simp only [Bool.false_eq_true, false_implies, true_implies, and_true, true_and, and_self, if_true, if_false, Bool.or_false, Bool.or_true, reduceCtorEq, implies_true] at hlr ⊢
      all_goals
        replace hls := hls.symm
        clear hlr
        go_wp2_with fail
        refine (HAW.out _).mono ?_
        rintro e Y6 ⟨rfl, y6⟩
        go_wp2_with fail
        go_ret
        exact ⟨rfl, ((t1.trans x7).trans y5).trans y6⟩
    · go_simp
      refine hK.out _ _ (HC.out _ (Fr.alloc u1 _)) (fun hHeld => ?_)
      clear hK K
      try simp only [Act.put, List.setIfInBounds_toArray, List.set_cons_zero, List.set_cons_succ]
      refine wpAnyH_ready (rs := [3]) (by kernel_rfl) (by simp) ?_
      refine AllReadyH.cons (o := { dst := some 20, op := Op.call { callee := Callee.value (Operand.func 4), args := #[Operand.tmp 17, Operand.tmp 19], argTypes := #[23, 28] }, type := 32, pos := "outright.go:83", after := #[{ on := 0, ground := Ground.data }, { on := 2, ground := Ground.data }, { on := 2, ground := Ground.chain }], guard := none }) rfl (fun K hK => ?_) AllReadyH.nil
      go_simp
      go_at_call 4
      refine (HSP.out _ _ _ _ _ _ _ _ (l1.same ((Fr.refl _ Z1).alloc _))).mono ?_
      rintro e Z2 ⟨⟨ao1, c1, ao2, c2, rfl, o1, o2⟩, q2⟩
      try go_wp2_with fail
      have u2 : Same V Z2 := Same.trans (Fr.alloc u1 _) q2
      refine hK.out _ _ (HC.out _ u2) (fun hHeld => ?_)
      clear hK K
      try simp only [Act.put, List.setIfInBounds_toArray, List.set_cons_zero, List.set_cons_succ]
      refine wpAnyH_take (i := 4) (oi := { dst := some 16, op := Op.move (Operand.tmp 20), type := 32, pos := "outright.go:83", after := #[{ on := 3, ground := Ground.data }], guard := none }) (v := .tuple #[.agg #[.slice ao1 n1 c1, .slice none 0 0, .slice none 0 0, .string sp, .slice ao2 n2 c2, .slice none 0 0, .slice none 0 0], .int .i64 0]) rfl (by kernel_rfl) (by kernel_rfl) (by kernel_rfl) (fun _ _ _ h => h) (Or.inl ⟨by rfl, fun w hSw => by (obtain ⟨q0, q1, q2, q3, q4⟩ := hSw; go_simp)⟩) (by assumption) ?_
      try simp only [Act.put, List.setIfInBounds_toArray, List.set_cons_zero, List.set_cons_succ]
      refine wpAnyH_take (i := 5) (oi := { dst := some 21, op := Op.extract (Operand.tmp 16) 0, type := 30, pos := "outright.go:83", after := #[{ on := 4, ground := Ground.data }], guard := none }) (v := .agg #[.slice ao1 n1 c1, .slice none 0 0, .slice none 0 0, .string sp, .slice ao2 n2 c2, .slice none 0 0, .slice none 0 0]) rfl (by kernel_rfl) (by kernel_rfl) (by kernel_rfl) (fun _ _ _ h => h) (Or.inl ⟨by rfl, fun w hSw => by (obtain ⟨q0, q1, q2, q3, q4⟩ := hSw; go_simp)⟩) (by assumption) ?_
      try simp only [Act.put, List.setIfInBounds_toArray, List.set_cons_zero, List.set_cons_succ]
      refine wpAnyH_take (i := 6) (oi := { dst := some 22, op := Op.extract (Operand.tmp 16) 1, type := 31, pos := "outright.go:83", after := #[{ on := 4, ground := Ground.data }, { on := 8, ground := Ground.gcOnly Departure.lateStores }], guard := none }) (v := .int .i64 0) rfl (by kernel_rfl) (by kernel_rfl) (by kernel_rfl) (fun _ _ _ h => h) (Or.inl ⟨by rfl, fun w hSw => by (obtain ⟨q0, q1, q2, q3, q4⟩ := hSw; go_simp)⟩) (by assumption) ?_
      try simp only [Act.put, List.setIfInBounds_toArray, List.set_cons_zero, List.set_cons_succ]
      have r6 := (q2.block _ (by simp) (fun e => e)).trans (heap_alloc_new Z1 (.cells #[.slice none 0 0, .slice none 0 0, .slice none 0 0, .string ⟨#[]⟩, .slice none 0 0, .slice none 0 0, .slice none 0 0] 30))
      refine wpAnyH_ready (rs := [8]) (by kernel_rfl) (by simp) ?_
      refine AllReadyH.cons (o := { dst := none, op := Op.store 30 (Operand.tmp 7) (Operand.tmp 21), type := 0, pos := "outright.go:83", after := #[{ on := 7, ground := Ground.data }, { on := 5, ground := Ground.data }, { on := 3, ground := Ground.chain }, { on := 0, ground := Ground.phase }, { on := 1, ground := Ground.phase }, { on := 2, ground := Ground.phase }, { on := 3, ground := Ground.phase }, { on := 4, ground := Ground.phase }, { on := 5, ground := Ground.phase }, { on := 6, ground := Ground.textOnly Departure.lateStores }, { on := 7, ground := Ground.phase }], guard := none }) rfl (fun K hK => ?_) AllReadyH.nil
      refine step_store_whole rfl 30 _ _ rfl (Z1.heap.size) #[.slice ao1 n1 c1, .slice none 0 0, .slice none 0 0, .string sp, .slice ao2 n2 c2, .slice none 0 0, .slice none 0 0] _ 30 (by rfl) (by rfl) r6 rfl (by kernel_rfl) (by kernel_rfl) ?_
      intro W7 r7 f7
      have x7 : Same V W7 := Fr.trans (u2) f7 (fun i hi e => by first | omega | (have := u2.size; omega) | (have := u1.size; omega))
      refine hK.out _ _ (HC.out _ x7) (fun hHeld => ?_)
      clear hK K
      refine wpAnyH_take (i := 9) (oi := { dst := some 8, op := Op.assign (Operand.tmp 22), type := 31, pos := "outright.go:83", after := #[{ on := 6, ground := Ground.data }, { on := 8, ground := Ground.chain }, { on := 0, ground := Ground.phase }, { on := 1, ground := Ground.phase }, { on := 2, ground := Ground.phase }, { on := 3, ground := Ground.phase }, { on := 4, ground := Ground.phase }, { on := 5, ground := Ground.phase }, { on := 6, ground := Ground.phase }, { on := 7, ground := Ground.phase }, { on := 8, ground := Ground.phase }], guard := none }) (v := .int .i64 0) rfl (by kernel_rfl) (by kernel_rfl) (by kernel_rfl) (fun _ _ _ h => h) (Or.inl ⟨by rfl, fun w hSw => by (obtain ⟨q0, q1, q2, q3, q4⟩ := hSw; go_simp)⟩) (by assumption) ?_
      try simp only [Act.put, List.setIfInBounds_toArray, List.set_cons_zero, List.set_cons_succ]
      refine wpAnyH_done (by kernel_rfl) ?_ _
      have m1 := own_frameB o1 f7 (fun kk hk e => type_ne o1 r6 (by decide) (by rw [hk, e] <;> rfl))
      have m2 := own_frameB o2 f7 (fun kk hk e => type_ne o2 r6 (by decide) (by rw [hk, e] <;> rfl))
      clear o1
      clear o2
      obtain ⟨mb, hmb⟩ : ∃ mb, mb = Z1.heap.size := ⟨_, rfl⟩
      rw [← hmb] at r7 ⊢
      clear f7 r6 hmb
      clear u1 u2 q1 q2 l1
      have HB : Hid (∀ W, Same W7 W → W.cell? ⟨mb, 0, none⟩ = some (.slice ao1 n1 c1) ∧ W.cell? ⟨mb, 1, none⟩ = some (.slice none 0 0) ∧ W.cell? ⟨mb, 2, none⟩ = some (.slice none 0 0) ∧ W.cell? ⟨mb, 3, none⟩ = some (.string sp) ∧ W.cell? ⟨mb, 4, none⟩ = some (.slice ao2 n2 c2) ∧ W.cell? ⟨mb, 5, none⟩ = some (.slice none 0 0) ∧ W.cell? ⟨mb, 6, none⟩ = some (.slice none 0 0)) := fun W s => ⟨s.keep ((cell_of_row _ _ _ _ _ _ r7).trans rfl), s.keep ((cell_of_row _ _ _ _ _ _ r7).trans rfl), s.keep ((cell_of_row _ _ _ _ _ _ r7).trans rfl), s.keep ((cell_of_row _ _ _ _ _ _ r7).trans rfl), s.keep ((cell_of_row _ _ _ _ _ _ r7).trans rfl), s.keep ((cell_of_row _ _ _ _ _ _ r7).trans rfl), s.keep ((cell_of_row _ _ _ _ _ _ r7).trans rfl)⟩
      obtain ⟨B1, hm1⟩ : ∃ B1, W7.ownsRow B1 45 2 (.slice ao1 n1 c1) n1 (pcells P1) := ⟨_, m1⟩
      obtain ⟨B2, hm2⟩ : ∃ B2, W7.ownsRow B2 45 2 (.slice ao2 n2 c2) n2 (pcells P2) := ⟨_, m2⟩
      have HM1 : Hid (∀ W, Same W7 W → W.ownsRow B1 45 2 (.slice ao1 n1 c1) n1 (pcells P1)) := fun W s => own_frameB hm1 s (fun _ _ f => f)
      have HM2 : Hid (∀ W, Same W7 W → W.ownsRow B2 45 2 (.slice ao2 n2 c2) n2 (pcells P2)) := fun W s => own_frameB hm2 s (fun _ _ f => f)
      have z0 : Same W7 W7 := Fr.refl _ _
      clear r7 m1 m2 hm1 hm2
      obtain ⟨f0, f1, c0, c1', c2'⟩ := HC.out _ x7
      have hz : ¬ 0 < N.ks.length := by have := HNK.out; omega
      go_wp2_with fail
      refine (HL.out _ (t1.trans x7)).mono ?_
      rintro e Y1 ⟨gp3, cp3, gs3, cs3, gk3, ck3, rfl, l3, y1⟩
      go_wp2_with fail
      refine (HF1.out _ _ _ _ _ _ _ _ l3).mono ?_
      rintro e Y2 ⟨rfl, y2⟩
      have y2 := y1.trans y2
      obtain ⟨m0, m1, m2, m3, m4, m5, m6⟩ := HB.out _ y2
      clear f0 f1 c0 c1' c2'
      go_wp2_with fail
      refine (HFa.out _ _ _ _ (HM1.out _ y2)).mono ?_
      rintro e Y3 ⟨rfl, y3⟩
      have y3 := y2.trans y3
      clear m0 m1 m2 m3 m4 m5 m6
      obtain ⟨m0, m1, m2, m3, m4, m5, m6⟩ := HB.out _ y3
      go_wp2_with fail
      refine (HFb.out _ _ _ _ (HM2.out _ y3)).mono ?_
      rintro e Y4 ⟨rfl, y4⟩
      have y4 := y3.trans y4
      clear m0 m1 m2 m3 m4 m5 m6
      obtain ⟨m0, m1, m2, m3, m4, m5, m6⟩ := HB.out _ y4
      go_wp2_with fail
      refine (HWY.out _ _ (heap_alloc_new Y4 _)).mono ?_
      rintro e Y5 ⟨rfl, y5⟩
      have y5 : Same W7 Y5 := Same.trans (Fr.alloc y4 _) y5
      clear m0 m1 m2 m3 m4 m5 m6
      obtain ⟨m0, m1, m2, m3, m4, m5, m6⟩ := HB.out _ y5
      have hls := HLS.out
      have hlr := HLR.out
      clear HLS HLR HL HSP HF1 HFa HFb HWY HM1 HM2 y2 y3 y4
      cases L <;> cases Rr <;> cases LS <;> simp only [Bool.false_eq_true, false_implies, true_implies, and_true, true_and, and_self, if_true, if_false, Bool.or_false, Bool.or_true, reduceCtorEq, implies_true] at hlr ⊢
      all_goals
        replace hls := hls.symm
        clear hlr
        go_wp2_with fail
        refine (HAW.out _).mono ?_
        rintro e Y6 ⟨rfl, y6⟩
        go_wp2_with fail
        go_ret
        exact ⟨rfl, ((t1.trans x7).trans y5).trans y6⟩
  · go_simp
    refine hK.out _ _ (HC.out _ (Fr.alloc d0 _)) (fun hHeld => ?_)
    clear hK K
    try simp only [Act.put, List.setIfInBounds_toArray, List.set_cons_zero, List.set_cons_succ]
    refine wpAnyH_ready (rs := [2]) (by kernel_rfl) (by simp) ?_
    refine AllReadyH.cons (o := { dst := some 19, op := Op.call { callee := Callee.value (Operand.func 5), args := #[Operand.tmp 18], argTypes := #[28] }, type := 28, pos := "outright.go:83", after := #[{ on := 1, ground := Ground.data }], guard := none }) rfl (fun K hK => ?_) AllReadyH.nil
    go_simp
    go_at_call 5
    refine (HL.out _ (t1.trans (Fr.alloc d0 _))).mono ?_
    rintro e Z1 ⟨gp, cp, gs, cs, gk, ck, rfl, l1, q1⟩
    try go_wp2_with fail
    have u1 : Same V Z1 := Same.trans (Fr.alloc d0 _) q1
    refine hK.out _ _ (HC.out _ u1) (fun hHeld => ?_)
    clear hK K
    try simp only [Act.put, List.setIfInBounds_toArray, List.set_cons_zero, List.set_cons_succ]
    refine wpAnyH_ready (rs := [3]) (by kernel_rfl) (by simp) ?_
    refine AllReadyH.cons (o := { dst := some 20, op := Op.call { callee := Callee.value (Operand.func 4), args := #[Operand.tmp 17, Operand.tmp 19], argTypes := #[23, 28] }, type := 32, pos := "outright.go:83", after := #[{ on := 0, ground := Ground.data }, { on := 2, ground := Ground.data }, { on := 2, ground := Ground.chain }], guard := none }) rfl (fun K hK => ?_) AllReadyH.nil
    go_simp
    go_at_call 4
    refine (HSP.out _ _ _ _ _ _ _ _ (l1)).mono ?_
    rintro e Z2 ⟨⟨ao1, c1, ao2, c2, rfl, o1, o2⟩, q2⟩
    try go_wp2_with fail
    have u2 : Same V Z2 := Same.trans (u1) q2
    refine hK.out _ _ (HC.out _ u2) (fun hHeld => ?_)
    clear hK K
    try simp only [Act.put, List.setIfInBounds_toArray, List.set_cons_zero, List.set_cons_succ]
    refine wpAnyH_take (i := 4) (oi := { dst := some 16, op := Op.move (Operand.tmp 20), type := 32, pos := "outright.go:83", after := #[{ on := 3, ground := Ground.data }], guard := none }) (v := .tuple #[.agg #[.slice ao1 n1 c1, .slice none 0 0, .slice none 0 0, .string sp, .slice ao2 n2 c2, .slice none 0 0, .slice none 0 0], .int .i64 0]) rfl (by kernel_rfl) (by kernel_rfl) (by kernel_rfl) (fun _ _ _ h => h) (Or.inl ⟨by rfl, fun w hSw => by (obtain ⟨q0, q1, q2, q3, q4⟩ := hSw; go_simp)⟩) (by assumption) ?_
    try simp only [Act.put, List.setIfInBounds_toArray, List.set_cons_zero, List.set_cons_succ]
    refine wpAnyH_take (i := 5) (oi := { dst := some 21, op := Op.extract (Operand.tmp 16) 0, type := 30, pos := "outright.go:83", after := #[{ on := 4, ground := Ground.data }], guard := none }) (v := .agg #[.slice ao1 n1 c1, .slice none 0 0, .slice none 0 0, .string sp, .slice ao2 n2 c2, .slice none 0 0, .slice none 0 0]) rfl (by kernel_rfl) (by kernel_rfl) (by kernel_rfl) (fun _ _ _ h => h) (Or.inl ⟨by rfl, fun w hSw => by (obtain ⟨q0, q1, q2, q3, q4⟩ := hSw; go_simp)⟩) (by assumption) ?_
    try simp only [Act.put, List.setIfInBounds_toArray, List.set_cons_zero, List.set_cons_succ]
    refine wpAnyH_take (i := 6) (oi := { dst := some 22, op := Op.extract (Operand.tmp 16) 1, type := 31, pos := "outright.go:83", after := #[{ on := 4, ground := Ground.data }, { on := 8, ground := Ground.gcOnly Departure.lateStores }], guard := none }) (v := .int .i64 0) rfl (by kernel_rfl) (by kernel_rfl) (by kernel_rfl) (fun _ _ _ h => h) (Or.inl ⟨by rfl, fun w hSw => by (obtain ⟨q0, q1, q2, q3, q4⟩ := hSw; go_simp)⟩) (by assumption) ?_
    try simp only [Act.put, List.setIfInBounds_toArray, List.set_cons_zero, List.set_cons_succ]
    have r6 := ((q1.trans q2).block _ (by rw [World.size_alloc]; exact Nat.lt_succ_self _) (fun e => e)).trans (heap_alloc_new V.drew (.cells #[.slice none 0 0, .slice none 0 0, .slice none 0 0, .string ⟨#[]⟩, .slice none 0 0, .slice none 0 0, .slice none 0 0] 30))
    refine wpAnyH_ready (rs := [8]) (by kernel_rfl) (by simp) ?_
    refine AllReadyH.cons (o := { dst := none, op := Op.store 30 (Operand.tmp 7) (Operand.tmp 21), type := 0, pos := "outright.go:83", after := #[{ on := 7, ground := Ground.data }, { on := 5, ground := Ground.data }, { on := 3, ground := Ground.chain }, { on := 0, ground := Ground.phase }, { on := 1, ground := Ground.phase }, { on := 2, ground := Ground.phase }, { on := 3, ground := Ground.phase }, { on := 4, ground := Ground.phase }, { on := 5, ground := Ground.phase }, { on := 6, ground := Ground.textOnly Departure.lateStores }, { on := 7, ground := Ground.phase }], guard := none }) rfl (fun K hK => ?_) AllReadyH.nil
    refine step_store_whole rfl 30 _ _ rfl (V.heap.size) #[.slice ao1 n1 c1, .slice none 0 0, .slice none 0 0, .string sp, .slice ao2 n2 c2, .slice none 0 0, .slice none 0 0] _ 30 (by rfl) (by rfl) r6 rfl (by kernel_rfl) (by kernel_rfl) ?_
    intro W7 r7 f7
    have x7 : Same V W7 := Fr.trans (u2) f7 (fun i hi e => by first | omega | (have := u2.size; omega) | (have := u1.size; omega))
    refine hK.out _ _ (HC.out _ x7) (fun hHeld => ?_)
    clear hK K
    refine wpAnyH_take (i := 9) (oi := { dst := some 8, op := Op.assign (Operand.tmp 22), type := 31, pos := "outright.go:83", after := #[{ on := 6, ground := Ground.data }, { on := 8, ground := Ground.chain }, { on := 0, ground := Ground.phase }, { on := 1, ground := Ground.phase }, { on := 2, ground := Ground.phase }, { on := 3, ground := Ground.phase }, { on := 4, ground := Ground.phase }, { on := 5, ground := Ground.phase }, { on := 6, ground := Ground.phase }, { on := 7, ground := Ground.phase }, { on := 8, ground := Ground.phase }], guard := none }) (v := .int .i64 0) rfl (by kernel_rfl) (by kernel_rfl) (by kernel_rfl) (fun _ _ _ h => h) (Or.inl ⟨by rfl, fun w hSw => by (obtain ⟨q0, q1, q2, q3, q4⟩ := hSw; go_simp)⟩) (by assumption) ?_
    try simp only [Act.put, List.setIfInBounds_toArray, List.set_cons_zero, List.set_cons_succ]
    refine wpAnyH_done (by kernel_rfl) ?_ _
    have m1 := own_frameB o1 f7 (fun kk hk e => type_ne o1 r6 (by decide) (by rw [hk, e] <;> rfl))
    have m2 := own_frameB o2 f7 (fun kk hk e => type_ne o2 r6 (by decide) (by rw [hk, e] <;> rfl))
    clear o1
    clear o2
    obtain ⟨mb, hmb⟩ : ∃ mb, mb = V.heap.size := ⟨_, rfl⟩
    rw [← hmb] at r7 ⊢
    clear f7 r6 hmb
    clear u1 u2 q1 q2 l1
    have HB : Hid (∀ W, Same W7 W → W.cell? ⟨mb, 0, none⟩ = some (.slice ao1 n1 c1) ∧ W.cell? ⟨mb, 1, none⟩ = some (.slice none 0 0) ∧ W.cell? ⟨mb, 2, none⟩ = some (.slice none 0 0) ∧ W.cell? ⟨mb, 3, none⟩ = some (.string sp) ∧ W.cell? ⟨mb, 4, none⟩ = some (.slice ao2 n2 c2) ∧ W.cell? ⟨mb, 5, none⟩ = some (.slice none 0 0) ∧ W.cell? ⟨mb, 6, none⟩ = some (.slice none 0 0)) := fun W s => ⟨s.keep ((cell_of_row _ _ _ _ _ _ r7).trans rfl), s.keep ((cell_of_row _ _ _ _ _ _ r7).trans rfl), s.keep ((cell_of_row _ _ _ _ _ _ r7).trans rfl), s.keep ((cell_of_row _ _ _ _ _ _ r7).trans rfl), s.keep ((cell_of_row _ _ _ _ _ _ r7).trans rfl), s.keep ((cell_of_row _ _ _ _ _ _ r7).trans rfl), s.keep ((cell_of_row _ _ _ _ _ _ r7).trans rfl)⟩
    obtain ⟨B1, hm1⟩ : ∃ B1, W7.ownsRow B1 45 2 (.slice ao1 n1 c1) n1 (pcells P1) := ⟨_, m1⟩
    obtain ⟨B2, hm2⟩ : ∃ B2, W7.ownsRow B2 45 2 (.slice ao2 n2 c2) n2 (pcells P2) := ⟨_, m2⟩
    have HM1 : Hid (∀ W, Same W7 W → W.ownsRow B1 45 2 (.slice ao1 n1 c1) n1 (pcells P1)) := fun W s => own_frameB hm1 s (fun _ _ f => f)
    have HM2 : Hid (∀ W, Same W7 W → W.ownsRow B2 45 2 (.slice ao2 n2 c2) n2 (pcells P2)) := fun W s => own_frameB hm2 s (fun _ _ f => f)
    have z0 : Same W7 W7 := Fr.refl _ _
    clear r7 m1 m2 hm1 hm2
    obtain ⟨f0, f1, c0, c1', c2'⟩ := HC.out _ x7
    have hz : ¬ 0 < N.ks.length := by have := HNK.out; omega
    go_wp2_with fail
    refine (HL.out _ (t1.trans x7)).mono ?_
    rintro e Y1 ⟨gp3, cp3, gs3, cs3, gk3, ck3, rfl, l3, y1⟩
    go_wp2_with fail
    refine (HF1.out _ _ _ _ _ _ _ _ l3).mono ?_
    rintro e Y2 ⟨rfl, y2⟩
    have y2 := y1.trans y2
    obtain ⟨m0, m1, m2, m3, m4, m5, m6⟩ := HB.out _ y2
    clear f0 f1 c0 c1' c2'
    go_wp2_with fail
    refine (HFa.out _ _ _ _ (HM1.out _ y2)).mono ?_
    rintro e Y3 ⟨rfl, y3⟩
    have y3 := y2.trans y3
    clear m0 m1 m2 m3 m4 m5 m6
    obtain ⟨m0, m1, m2, m3, m4, m5, m6⟩ := HB.out _ y3
    go_wp2_with fail
    refine (HFb.out _ _ _ _ (HM2.out _ y3)).mono ?_
    rintro e Y4 ⟨rfl, y4⟩
    have y4 := y3.trans y4
    clear m0 m1 m2 m3 m4 m5 m6
    obtain ⟨m0, m1, m2, m3, m4, m5, m6⟩ := HB.out _ y4
    go_wp2_with fail
    refine (HWY.out _ _ (heap_alloc_new Y4 _)).mono ?_
    rintro e Y5 ⟨rfl, y5⟩
    have y5 : Same W7 Y5 := Same.trans (Fr.alloc y4 _) y5
    clear m0 m1 m2 m3 m4 m5 m6
    obtain ⟨m0, m1, m2, m3, m4, m5, m6⟩ := HB.out _ y5
    have hls := HLS.out
    have hlr := HLR.out
    clear HLS HLR HL HSP HF1 HFa HFb HWY HM1 HM2 y2 y3 y4
    cases L <;> cases Rr <;> cases LS <;> simp only [Bool.false_eq_true, false_implies, true_implies, and_true, true_and, and_self, if_true, if_false, Bool.or_false, Bool.or_true, reduceCtorEq, implies_true] at hlr ⊢
    all_goals
      replace hls := hls.symm
      clear hlr
      go_wp2_with fail
      refine (HAW.out _).mono ?_
      rintro e Y6 ⟨rfl, y6⟩
      go_wp2_with fail
      go_ret
      exact ⟨rfl, ((t1.trans x7).trans y5).trans y6⟩
theorem gways_walk {p q : Int} {r : Nr} {N : Nd} {key : ByteArray} (w : World) (h : NdIn w r N) (h1 : N.ps.length ≤ 1048576) (h2 : N.ss.length ≤ 1048576) (h3 : N.ks.length ≤ 1048576) (hop : ∀ x ∈ N.ps, x.1.size ≤ 1048576 ∧ x.2.size ≤ 1048576) (hos : ∀ x ∈ N.ss, x.size ≤ 1048576) : Calls Try.prog 3 #[frameV p q, ndV r N, .string key] w fun e w' => e = .returned (.bool true) ∧ Same w w' := by
  rcases split_cases (p := p) (q := q) h1 h2 h3 hop hos with H | ⟨hc, hk, m, x, y, hx, hy, hless, H⟩
  · exact gways_other w h h1 h2 h3 (fun W gp cp gs cs gk ck B l => H _ W (l.nd h.at_) l.room)
  · obtain ⟨_, _, _, hri, _⟩ := chk_leaf hc hk
    obtain ⟨w1, w2, w3⟩ := ways_plain key hri hx hy hless
    have hl : m + 1 < N.ps.length := (List.getElem?_eq_some_iff.1 hy).1
    exact gways_leaf w h h1 h2 h3 hk (by rw [List.length_take]; omega) (by rw [List.length_drop]) (by omega) (by omega) w1 w2 w3 (fun W gp cp gs cs gk ck B l => H _ W (l.nd h.at_) l.room)
end Go.Proofs.Ytmgchfdgmlemdaa
