/- The walk of GraftOnce. -/
import Derived.Test.YtnofdjfnlmjapaaGreatGO6
import Derived.Test.YtnofdjfnlmjapaaGreatKI
import Derived.Test.YtnofdjfnlmjapaaGreatKO
namespace Go.Proofs.YtnofdjfnlmjapaaGreat
open Go.RowKit

theorem LentAt.room {w : World} {B gp cp gs cs gk ck : Nat} {N : Nd} (h : LentAt w B gp cp gs cs gk ck N) : NdRoom (lentNr gp cp gs cs gk ck) N := by
  obtain ⟨h1, h2, h3⟩ := h.caps
  exact ⟨by show _ ≤ cp; omega, by show _ ≤ cs; omega, by show _ ≤ ck; omega, fun e => (by cases e), fun e => (by cases e), fun e => (by cases e), fun a e => (by cases e; exact ⟨gp, 0, rfl⟩), fun a e => (by cases e; exact ⟨gs, 0, rfl⟩), fun a e => (by cases e; exact ⟨gk, 0, rfl⟩)⟩
set_option maxRecDepth 100000 in
set_option maxHeartbeats 8000000 in
theorem gonce_bad {p q : Int} {r : Nr} {N : Nd} (w : World) (h : NdIn w r N) (h1 : N.ps.length ≤ 1048576) (h2 : N.ss.length ≤ 1048576) (h3 : N.ks.length ≤ 1048576)
    (HSP : Hid (∀ W gp cp gs cs gk ck B, LentAt W B gp cp gs cs gk ck N → Calls Tryz.prog 4 #[frameV p q, ndV (lentNr gp cp gs cs gk ck) N] W fun e w' => NoCutIs e ∧ Same W w'))
    (HS0 : Hid (∀ W, Calls Tryz.prog 6 #[nodeV none 0 0 none 0 0 none 0 0, nodeV none 0 0 none 0 0 none 0 0] W fun e w' => e = .returned (.bool true) ∧ Same W w')) :
    Calls Tryz.prog 3 #[frameV p q, ndV r N] w fun e w' => e = .returned (.bool true) ∧ Same w w' := by
  have HL : Hid (∀ W, Same w W → Calls Tryz.prog 5 #[ndV r N] W fun e w' => ∃ gp cp gs cs gk ck, e = .returned (ndV (lentNr gp cp gs cs gk ck) N) ∧ LentAt w' W.heap.size gp cp gs cs gk ck N ∧ Same W w') := fun W s => lent_at W (h.same s) h1 h2 h3
  have HAW : Hid (∀ W, Calls Tryz.prog 7 #[] W fun e w' => e = .returned (.bool true) ∧ Same W w') := awake_calls
  obtain ⟨V, hV⟩ : ∃ V, V = (w.alloc (.cells #[.int .i64 p, .int .i64 q] 23)).alloc (.cells #[.slice r.pa N.ps.length r.cp, .slice r.sa N.ss.length r.cs, .slice r.ka N.ks.length r.ck] 28) := ⟨_, rfl⟩
  have t1 : Same w V := by rw [hV]; exact ((Fr.refl _ w).alloc _).alloc _
  have HC : Hid (∀ W, Same V W → W.cell? ⟨w.heap.size, 0, none⟩ = some (.int .i64 p) ∧ W.cell? ⟨w.heap.size, 1, none⟩ = some (.int .i64 q) ∧ W.cell? ⟨w.heap.size + 1, 0, none⟩ = some (.slice r.pa N.ps.length r.cp) ∧ W.cell? ⟨w.heap.size + 1, 1, none⟩ = some (.slice r.sa N.ss.length r.cs) ∧ W.cell? ⟨w.heap.size + 1, 2, none⟩ = some (.slice r.ka N.ks.length r.ck)) := fun W s => ⟨s.keep (by rw [hV]; simp), s.keep (by rw [hV]; simp), s.keep (by rw [hV]; simp), s.keep (by rw [hV]; simp), s.keep (by rw [hV]; simp)⟩
  have d0 : Same V V.drew := Fr.drew (Fr.refl _ V)
  clear h
  go_enter Tryz.func3, Tryz.ntmps3
  go_wp2_with fail
  rw [← hV]
  clear hV
  unfold lentNr at HL HSP
  unfold NoCutIs at HSP
  refine wp_region_held_drew (S := fun W => W.cell? ⟨w.heap.size, 0, none⟩ = some (.int .i64 p) ∧ W.cell? ⟨w.heap.size, 1, none⟩ = some (.int .i64 q) ∧ W.cell? ⟨w.heap.size + 1, 0, none⟩ = some (.slice r.pa N.ps.length r.cp) ∧ W.cell? ⟨w.heap.size + 1, 1, none⟩ = some (.slice r.sa N.ss.length r.cs) ∧ W.cell? ⟨w.heap.size + 1, 2, none⟩ = some (.slice r.ka N.ks.length r.ck)) (by kernel_rfl) (HC.out _ d0) (fun hHeld => ?_)
  refine wpAnyH_take (i := 0) (oi := { dst := some 15, op := Op.load 23 (Operand.tmp 2), type := 23, pos := "outright.go:50", after := #[], guard := none }) (v := .agg #[.int .i64 p, .int .i64 q]) rfl (by kernel_rfl) (by kernel_rfl) (by kernel_rfl) (fun _ _ _ h => h) (Or.inl ⟨by rfl, fun w hSw => by (obtain ⟨q0, q1, q2, q3, q4⟩ := hSw; go_simp)⟩) (by assumption) ?_
  try simp only [Act.put, List.setIfInBounds_toArray, List.set_cons_zero, List.set_cons_succ]
  refine wpAnyH_take (i := 1) (oi := { dst := some 16, op := Op.load 28 (Operand.tmp 3), type := 28, pos := "outright.go:50", after := #[], guard := none }) (v := .agg #[.slice r.pa N.ps.length r.cp, .slice r.sa N.ss.length r.cs, .slice r.ka N.ks.length r.ck]) rfl (by kernel_rfl) (by kernel_rfl) (by kernel_rfl) (fun _ _ _ h => h) (Or.inl ⟨by rfl, fun w hSw => by (obtain ⟨q0, q1, q2, q3, q4⟩ := hSw; go_simp)⟩) (by assumption) ?_
  try simp only [Act.put, List.setIfInBounds_toArray, List.set_cons_zero, List.set_cons_succ]
  refine wpAnyH_ready (rs := [2, 7]) (by kernel_rfl) (by simp) ?_
  refine AllReadyH.cons (o := { dst := some 17, op := Op.call { callee := Callee.value (Operand.func 5), args := #[Operand.tmp 16], argTypes := #[28] }, type := 28, pos := "outright.go:50", after := #[{ on := 1, ground := Ground.data }], guard := none }) rfl (fun K hK => ?_) (AllReadyH.cons (o := { dst := some 5, op := Op.alloc 30, type := 0, pos := "outright.go:50", after := #[], guard := none }) rfl (fun K hK => ?_) AllReadyH.nil)
  · go_simp
    go_at_call 5
    refine (HL.out _ (t1.trans (d0))).mono ?_
    rintro e Z1 ⟨gp, cp, gs, cs, gk, ck, rfl, l1, q1⟩
    try go_wp2_with fail
    have u1 : Same V Z1 := Same.trans (d0) q1
    refine hK.out _ _ (HC.out _ u1) (fun hHeld => ?_)
    clear hK K
    try simp only [Act.put, List.setIfInBounds_toArray, List.set_cons_zero, List.set_cons_succ]
    refine wpAnyH_ready (rs := [3, 7]) (by kernel_rfl) (by simp) ?_
    refine AllReadyH.cons (o := { dst := some 18, op := Op.call { callee := Callee.value (Operand.func 4), args := #[Operand.tmp 15, Operand.tmp 17], argTypes := #[23, 28] }, type := 32, pos := "outright.go:50", after := #[{ on := 0, ground := Ground.data }, { on := 2, ground := Ground.data }, { on := 2, ground := Ground.chain }], guard := none }) rfl (fun K hK => ?_) (AllReadyH.cons (o := { dst := some 5, op := Op.alloc 30, type := 0, pos := "outright.go:50", after := #[], guard := none }) rfl (fun K hK => ?_) AllReadyH.nil)
    · go_simp
      go_at_call 4
      refine (HSP.out _ _ _ _ _ _ _ _ (l1)).mono ?_
      rintro e Z2 ⟨⟨E, hE, rfl⟩, q2⟩
      try go_wp2_with fail
      have u2 : Same V Z2 := Same.trans (u1) q2
      refine hK.out _ _ (HC.out _ u2) (fun hHeld => ?_)
      clear hK K
      try simp only [Act.put, List.setIfInBounds_toArray, List.set_cons_zero, List.set_cons_succ]
      refine wpAnyH_take (i := 4) (oi := { dst := some 14, op := Op.move (Operand.tmp 18), type := 32, pos := "outright.go:50", after := #[{ on := 3, ground := Ground.data }], guard := none }) (v := .tuple #[.agg #[.slice none 0 0, .slice none 0 0, .slice none 0 0, .string ⟨#[]⟩, .slice none 0 0, .slice none 0 0, .slice none 0 0], .int .i64 E]) rfl (by kernel_rfl) (by kernel_rfl) (by kernel_rfl) (fun _ _ _ h => h) (Or.inl ⟨by rfl, fun w hSw => by (obtain ⟨q0, q1, q2, q3, q4⟩ := hSw; go_simp)⟩) (by assumption) ?_
      try simp only [Act.put, List.setIfInBounds_toArray, List.set_cons_zero, List.set_cons_succ]
      refine wpAnyH_take (i := 5) (oi := { dst := some 19, op := Op.extract (Operand.tmp 14) 0, type := 30, pos := "outright.go:50", after := #[{ on := 4, ground := Ground.data }], guard := none }) (v := .agg #[.slice none 0 0, .slice none 0 0, .slice none 0 0, .string ⟨#[]⟩, .slice none 0 0, .slice none 0 0, .slice none 0 0]) rfl (by kernel_rfl) (by kernel_rfl) (by kernel_rfl) (fun _ _ _ h => h) (Or.inl ⟨by rfl, fun w hSw => by (obtain ⟨q0, q1, q2, q3, q4⟩ := hSw; go_simp)⟩) (by assumption) ?_
      try simp only [Act.put, List.setIfInBounds_toArray, List.set_cons_zero, List.set_cons_succ]
      refine wpAnyH_take (i := 6) (oi := { dst := some 20, op := Op.extract (Operand.tmp 14) 1, type := 31, pos := "outright.go:50", after := #[{ on := 4, ground := Ground.data }, { on := 8, ground := Ground.gcOnly Departure.lateStores }], guard := none }) (v := .int .i64 E) rfl (by kernel_rfl) (by kernel_rfl) (by kernel_rfl) (fun _ _ _ h => h) (Or.inl ⟨by rfl, fun w hSw => by (obtain ⟨q0, q1, q2, q3, q4⟩ := hSw; go_simp)⟩) (by assumption) ?_
      try simp only [Act.put, List.setIfInBounds_toArray, List.set_cons_zero, List.set_cons_succ]
      refine wpAnyH_ready (rs := [7]) (by kernel_rfl) (by simp) ?_
      refine AllReadyH.cons (o := { dst := some 5, op := Op.alloc 30, type := 0, pos := "outright.go:50", after := #[], guard := none }) rfl (fun K hK => ?_) AllReadyH.nil
      go_simp
      refine hK.out _ _ (HC.out _ (Fr.alloc u2 _)) (fun hHeld => ?_)
      clear hK K
      try simp only [Act.put, List.setIfInBounds_toArray, List.set_cons_zero, List.set_cons_succ]
      have r6 := heap_alloc_new Z2 (.cells #[.slice none 0 0, .slice none 0 0, .slice none 0 0, .string ⟨#[]⟩, .slice none 0 0, .slice none 0 0, .slice none 0 0] 30)
      refine wpAnyH_ready (rs := [8]) (by kernel_rfl) (by simp) ?_
      refine AllReadyH.cons (o := { dst := none, op := Op.store 30 (Operand.tmp 5) (Operand.tmp 19), type := 0, pos := "outright.go:50", after := #[{ on := 7, ground := Ground.data }, { on := 5, ground := Ground.data }, { on := 3, ground := Ground.chain }, { on := 0, ground := Ground.phase }, { on := 1, ground := Ground.phase }, { on := 2, ground := Ground.phase }, { on := 3, ground := Ground.phase }, { on := 4, ground := Ground.phase }, { on := 5, ground := Ground.phase }, { on := 6, ground := Ground.textOnly Departure.lateStores }, { on := 7, ground := Ground.phase }], guard := none }) rfl (fun K hK => ?_) AllReadyH.nil
      refine step_store_whole rfl 30 _ _ rfl (Z2.heap.size) #[.slice none 0 0, .slice none 0 0, .slice none 0 0, .string ⟨#[]⟩, .slice none 0 0, .slice none 0 0, .slice none 0 0] _ 30 (by rfl) (by rfl) r6 rfl (by kernel_rfl) (by kernel_rfl) ?_
      intro W7 r7 f7
      have x7 : Same V W7 := Fr.trans (Fr.alloc u2 _) f7 (fun i hi e => by first | omega | (have := u2.size; omega) | (have := u1.size; omega))
      refine hK.out _ _ (HC.out _ x7) (fun hHeld => ?_)
      clear hK K
      refine wpAnyH_take (i := 9) (oi := { dst := some 6, op := Op.assign (Operand.tmp 20), type := 31, pos := "outright.go:50", after := #[{ on := 6, ground := Ground.data }, { on := 8, ground := Ground.chain }, { on := 0, ground := Ground.phase }, { on := 1, ground := Ground.phase }, { on := 2, ground := Ground.phase }, { on := 3, ground := Ground.phase }, { on := 4, ground := Ground.phase }, { on := 5, ground := Ground.phase }, { on := 6, ground := Ground.phase }, { on := 7, ground := Ground.phase }, { on := 8, ground := Ground.phase }], guard := none }) (v := .int .i64 E) rfl (by kernel_rfl) (by kernel_rfl) (by kernel_rfl) (fun _ _ _ h => h) (Or.inl ⟨by rfl, fun w hSw => by (obtain ⟨q0, q1, q2, q3, q4⟩ := hSw; go_simp)⟩) (by assumption) ?_
      try simp only [Act.put, List.setIfInBounds_toArray, List.set_cons_zero, List.set_cons_succ]
      refine wpAnyH_done (by kernel_rfl) ?_ _
      obtain ⟨mb, hmb⟩ : ∃ mb, mb = Z2.heap.size := ⟨_, rfl⟩
      rw [← hmb] at r7 ⊢
      clear f7 r6 hmb
      clear u1 u2 q1 q2 l1
      have HB : Hid (∀ W, Same W7 W → W.cell? ⟨mb, 0, none⟩ = some (.slice none 0 0) ∧ W.cell? ⟨mb, 1, none⟩ = some (.slice none 0 0) ∧ W.cell? ⟨mb, 2, none⟩ = some (.slice none 0 0) ∧ W.cell? ⟨mb, 3, none⟩ = some (.string ⟨#[]⟩) ∧ W.cell? ⟨mb, 4, none⟩ = some (.slice none 0 0) ∧ W.cell? ⟨mb, 5, none⟩ = some (.slice none 0 0) ∧ W.cell? ⟨mb, 6, none⟩ = some (.slice none 0 0)) := fun W s => ⟨s.keep ((cell_of_row _ _ _ _ _ _ r7).trans rfl), s.keep ((cell_of_row _ _ _ _ _ _ r7).trans rfl), s.keep ((cell_of_row _ _ _ _ _ _ r7).trans rfl), s.keep ((cell_of_row _ _ _ _ _ _ r7).trans rfl), s.keep ((cell_of_row _ _ _ _ _ _ r7).trans rfl), s.keep ((cell_of_row _ _ _ _ _ _ r7).trans rfl), s.keep ((cell_of_row _ _ _ _ _ _ r7).trans rfl)⟩
      clear r7
      have z0 : Same W7 W7 := Fr.refl _ _
      obtain ⟨m0, m1, m2, m3, m4, m5, m6⟩ := HB.out _ z0
      have e0 : (E == 0) = false := by simp [hE]
      have e1 : (E != 0) = true := by simp [hE]
      clear hE
      go_wp2_with fail
      refine (HS0.out _).mono ?_
      rintro e Y1 ⟨rfl, y1⟩
      clear m0 m1 m2 m3 m4 m5 m6
      obtain ⟨m0, m1, m2, m3, m4, m5, m6⟩ := HB.out _ y1
      go_wp2_with fail
      refine (HS0.out _).mono ?_
      rintro e Y2 ⟨rfl, y2⟩
      have y2 := y1.trans y2
      clear m0 m1 m2 m3 m4 m5 m6
      obtain ⟨m0, m1, m2, m3, m4, m5, m6⟩ := HB.out _ y2
      go_wp2_with fail
      refine (HAW.out _).mono ?_
      rintro e Y3 ⟨rfl, y3⟩
      go_wp2_with fail
      go_ret
      exact ⟨rfl, ((t1.trans x7).trans y2).trans y3⟩
    · go_simp
      refine hK.out _ _ (HC.out _ (Fr.alloc u1 _)) (fun hHeld => ?_)
      clear hK K
      try simp only [Act.put, List.setIfInBounds_toArray, List.set_cons_zero, List.set_cons_succ]
      refine wpAnyH_ready (rs := [3]) (by kernel_rfl) (by simp) ?_
      refine AllReadyH.cons (o := { dst := some 18, op := Op.call { callee := Callee.value (Operand.func 4), args := #[Operand.tmp 15, Operand.tmp 17], argTypes := #[23, 28] }, type := 32, pos := "outright.go:50", after := #[{ on := 0, ground := Ground.data }, { on := 2, ground := Ground.data }, { on := 2, ground := Ground.chain }], guard := none }) rfl (fun K hK => ?_) AllReadyH.nil
      go_simp
      go_at_call 4
      refine (HSP.out _ _ _ _ _ _ _ _ (l1.same ((Fr.refl _ Z1).alloc _))).mono ?_
      rintro e Z2 ⟨⟨E, hE, rfl⟩, q2⟩
      try go_wp2_with fail
      have u2 : Same V Z2 := Same.trans (Fr.alloc u1 _) q2
      refine hK.out _ _ (HC.out _ u2) (fun hHeld => ?_)
      clear hK K
      try simp only [Act.put, List.setIfInBounds_toArray, List.set_cons_zero, List.set_cons_succ]
      refine wpAnyH_take (i := 4) (oi := { dst := some 14, op := Op.move (Operand.tmp 18), type := 32, pos := "outright.go:50", after := #[{ on := 3, ground := Ground.data }], guard := none }) (v := .tuple #[.agg #[.slice none 0 0, .slice none 0 0, .slice none 0 0, .string ⟨#[]⟩, .slice none 0 0, .slice none 0 0, .slice none 0 0], .int .i64 E]) rfl (by kernel_rfl) (by kernel_rfl) (by kernel_rfl) (fun _ _ _ h => h) (Or.inl ⟨by rfl, fun w hSw => by (obtain ⟨q0, q1, q2, q3, q4⟩ := hSw; go_simp)⟩) (by assumption) ?_
      try simp only [Act.put, List.setIfInBounds_toArray, List.set_cons_zero, List.set_cons_succ]
      refine wpAnyH_take (i := 5) (oi := { dst := some 19, op := Op.extract (Operand.tmp 14) 0, type := 30, pos := "outright.go:50", after := #[{ on := 4, ground := Ground.data }], guard := none }) (v := .agg #[.slice none 0 0, .slice none 0 0, .slice none 0 0, .string ⟨#[]⟩, .slice none 0 0, .slice none 0 0, .slice none 0 0]) rfl (by kernel_rfl) (by kernel_rfl) (by kernel_rfl) (fun _ _ _ h => h) (Or.inl ⟨by rfl, fun w hSw => by (obtain ⟨q0, q1, q2, q3, q4⟩ := hSw; go_simp)⟩) (by assumption) ?_
      try simp only [Act.put, List.setIfInBounds_toArray, List.set_cons_zero, List.set_cons_succ]
      refine wpAnyH_take (i := 6) (oi := { dst := some 20, op := Op.extract (Operand.tmp 14) 1, type := 31, pos := "outright.go:50", after := #[{ on := 4, ground := Ground.data }, { on := 8, ground := Ground.gcOnly Departure.lateStores }], guard := none }) (v := .int .i64 E) rfl (by kernel_rfl) (by kernel_rfl) (by kernel_rfl) (fun _ _ _ h => h) (Or.inl ⟨by rfl, fun w hSw => by (obtain ⟨q0, q1, q2, q3, q4⟩ := hSw; go_simp)⟩) (by assumption) ?_
      try simp only [Act.put, List.setIfInBounds_toArray, List.set_cons_zero, List.set_cons_succ]
      have r6 := (q2.block _ (by simp) (fun e => e)).trans (heap_alloc_new Z1 (.cells #[.slice none 0 0, .slice none 0 0, .slice none 0 0, .string ⟨#[]⟩, .slice none 0 0, .slice none 0 0, .slice none 0 0] 30))
      refine wpAnyH_ready (rs := [8]) (by kernel_rfl) (by simp) ?_
      refine AllReadyH.cons (o := { dst := none, op := Op.store 30 (Operand.tmp 5) (Operand.tmp 19), type := 0, pos := "outright.go:50", after := #[{ on := 7, ground := Ground.data }, { on := 5, ground := Ground.data }, { on := 3, ground := Ground.chain }, { on := 0, ground := Ground.phase }, { on := 1, ground := Ground.phase }, { on := 2, ground := Ground.phase }, { on := 3, ground := Ground.phase }, { on := 4, ground := Ground.phase }, { on := 5, ground := Ground.phase }, { on := 6, ground := Ground.textOnly Departure.lateStores }, { on := 7, ground := Ground.phase }], guard := none }) rfl (fun K hK => ?_) AllReadyH.nil
      refine step_store_whole rfl 30 _ _ rfl (Z1.heap.size) #[.slice none 0 0, .slice none 0 0, .slice none 0 0, .string ⟨#[]⟩, .slice none 0 0, .slice none 0 0, .slice none 0 0] _ 30 (by rfl) (by rfl) r6 rfl (by kernel_rfl) (by kernel_rfl) ?_
      intro W7 r7 f7
      have x7 : Same V W7 := Fr.trans (u2) f7 (fun i hi e => by first | omega | (have := u2.size; omega) | (have := u1.size; omega))
      refine hK.out _ _ (HC.out _ x7) (fun hHeld => ?_)
      clear hK K
      refine wpAnyH_take (i := 9) (oi := { dst := some 6, op := Op.assign (Operand.tmp 20), type := 31, pos := "outright.go:50", after := #[{ on := 6, ground := Ground.data }, { on := 8, ground := Ground.chain }, { on := 0, ground := Ground.phase }, { on := 1, ground := Ground.phase }, { on := 2, ground := Ground.phase }, { on := 3, ground := Ground.phase }, { on := 4, ground := Ground.phase }, { on := 5, ground := Ground.phase }, { on := 6, ground := Ground.phase }, { on := 7, ground := Ground.phase }, { on := 8, ground := Ground.phase }], guard := none }) (v := .int .i64 E) rfl (by kernel_rfl) (by kernel_rfl) (by kernel_rfl) (fun _ _ _ h => h) (Or.inl ⟨by rfl, fun w hSw => by (obtain ⟨q0, q1, q2, q3, q4⟩ := hSw; go_simp)⟩) (by assumption) ?_
      try simp only [Act.put, List.setIfInBounds_toArray, List.set_cons_zero, List.set_cons_succ]
      refine wpAnyH_done (by kernel_rfl) ?_ _
      obtain ⟨mb, hmb⟩ : ∃ mb, mb = Z1.heap.size := ⟨_, rfl⟩
      rw [← hmb] at r7 ⊢
      clear f7 r6 hmb
      clear u1 u2 q1 q2 l1
      have HB : Hid (∀ W, Same W7 W → W.cell? ⟨mb, 0, none⟩ = some (.slice none 0 0) ∧ W.cell? ⟨mb, 1, none⟩ = some (.slice none 0 0) ∧ W.cell? ⟨mb, 2, none⟩ = some (.slice none 0 0) ∧ W.cell? ⟨mb, 3, none⟩ = some (.string ⟨#[]⟩) ∧ W.cell? ⟨mb, 4, none⟩ = some (.slice none 0 0) ∧ W.cell? ⟨mb, 5, none⟩ = some (.slice none 0 0) ∧ W.cell? ⟨mb, 6, none⟩ = some (.slice none 0 0)) := fun W s => ⟨s.keep ((cell_of_row _ _ _ _ _ _ r7).trans rfl), s.keep ((cell_of_row _ _ _ _ _ _ r7).trans rfl), s.keep ((cell_of_row _ _ _ _ _ _ r7).trans rfl), s.keep ((cell_of_row _ _ _ _ _ _ r7).trans rfl), s.keep ((cell_of_row _ _ _ _ _ _ r7).trans rfl), s.keep ((cell_of_row _ _ _ _ _ _ r7).trans rfl), s.keep ((cell_of_row _ _ _ _ _ _ r7).trans rfl)⟩
      clear r7
      have z0 : Same W7 W7 := Fr.refl _ _
      obtain ⟨m0, m1, m2, m3, m4, m5, m6⟩ := HB.out _ z0
      have e0 : (E == 0) = false := by simp [hE]
      have e1 : (E != 0) = true := by simp [hE]
      clear hE
      go_wp2_with fail
      refine (HS0.out _).mono ?_
      rintro e Y1 ⟨rfl, y1⟩
      clear m0 m1 m2 m3 m4 m5 m6
      obtain ⟨m0, m1, m2, m3, m4, m5, m6⟩ := HB.out _ y1
      go_wp2_with fail
      refine (HS0.out _).mono ?_
      rintro e Y2 ⟨rfl, y2⟩
      have y2 := y1.trans y2
      clear m0 m1 m2 m3 m4 m5 m6
      obtain ⟨m0, m1, m2, m3, m4, m5, m6⟩ := HB.out _ y2
      go_wp2_with fail
      refine (HAW.out _).mono ?_
      rintro e Y3 ⟨rfl, y3⟩
      go_wp2_with fail
      go_ret
      exact ⟨rfl, ((t1.trans x7).trans y2).trans y3⟩
  · go_simp
    refine hK.out _ _ (HC.out _ (Fr.alloc d0 _)) (fun hHeld => ?_)
    clear hK K
    try simp only [Act.put, List.setIfInBounds_toArray, List.set_cons_zero, List.set_cons_succ]
    refine wpAnyH_ready (rs := [2]) (by kernel_rfl) (by simp) ?_
    refine AllReadyH.cons (o := { dst := some 17, op := Op.call { callee := Callee.value (Operand.func 5), args := #[Operand.tmp 16], argTypes := #[28] }, type := 28, pos := "outright.go:50", after := #[{ on := 1, ground := Ground.data }], guard := none }) rfl (fun K hK => ?_) AllReadyH.nil
    go_simp
    go_at_call 5
    refine (HL.out _ (t1.trans (Fr.alloc d0 _))).mono ?_
    rintro e Z1 ⟨gp, cp, gs, cs, gk, ck, rfl, l1, q1⟩
    try go_wp2_with fail
    have u1 : Same V Z1 := Same.trans (Fr.alloc d0 _) q1
    refine hK.out _ _ (HC.out _ u1) (fun hHeld => ?_)
    clear hK K
    try simp only [Act.put, List.setIfInBounds_toArray, List.set_cons_zero, List.set_cons_succ]
    refine wpAnyH_ready (rs := [3]) (by kernel_rfl) (by simp) ?_
    refine AllReadyH.cons (o := { dst := some 18, op := Op.call { callee := Callee.value (Operand.func 4), args := #[Operand.tmp 15, Operand.tmp 17], argTypes := #[23, 28] }, type := 32, pos := "outright.go:50", after := #[{ on := 0, ground := Ground.data }, { on := 2, ground := Ground.data }, { on := 2, ground := Ground.chain }], guard := none }) rfl (fun K hK => ?_) AllReadyH.nil
    go_simp
    go_at_call 4
    refine (HSP.out _ _ _ _ _ _ _ _ (l1)).mono ?_
    rintro e Z2 ⟨⟨E, hE, rfl⟩, q2⟩
    try go_wp2_with fail
    have u2 : Same V Z2 := Same.trans (u1) q2
    refine hK.out _ _ (HC.out _ u2) (fun hHeld => ?_)
    clear hK K
    try simp only [Act.put, List.setIfInBounds_toArray, List.set_cons_zero, List.set_cons_succ]
    refine wpAnyH_take (i := 4) (oi := { dst := some 14, op := Op.move (Operand.tmp 18), type := 32, pos := "outright.go:50", after := #[{ on := 3, ground := Ground.data }], guard := none }) (v := .tuple #[.agg #[.slice none 0 0, .slice none 0 0, .slice none 0 0, .string ⟨#[]⟩, .slice none 0 0, .slice none 0 0, .slice none 0 0], .int .i64 E]) rfl (by kernel_rfl) (by kernel_rfl) (by kernel_rfl) (fun _ _ _ h => h) (Or.inl ⟨by rfl, fun w hSw => by (obtain ⟨q0, q1, q2, q3, q4⟩ := hSw; go_simp)⟩) (by assumption) ?_
    try simp only [Act.put, List.setIfInBounds_toArray, List.set_cons_zero, List.set_cons_succ]
    refine wpAnyH_take (i := 5) (oi := { dst := some 19, op := Op.extract (Operand.tmp 14) 0, type := 30, pos := "outright.go:50", after := #[{ on := 4, ground := Ground.data }], guard := none }) (v := .agg #[.slice none 0 0, .slice none 0 0, .slice none 0 0, .string ⟨#[]⟩, .slice none 0 0, .slice none 0 0, .slice none 0 0]) rfl (by kernel_rfl) (by kernel_rfl) (by kernel_rfl) (fun _ _ _ h => h) (Or.inl ⟨by rfl, fun w hSw => by (obtain ⟨q0, q1, q2, q3, q4⟩ := hSw; go_simp)⟩) (by assumption) ?_
    try simp only [Act.put, List.setIfInBounds_toArray, List.set_cons_zero, List.set_cons_succ]
    refine wpAnyH_take (i := 6) (oi := { dst := some 20, op := Op.extract (Operand.tmp 14) 1, type := 31, pos := "outright.go:50", after := #[{ on := 4, ground := Ground.data }, { on := 8, ground := Ground.gcOnly Departure.lateStores }], guard := none }) (v := .int .i64 E) rfl (by kernel_rfl) (by kernel_rfl) (by kernel_rfl) (fun _ _ _ h => h) (Or.inl ⟨by rfl, fun w hSw => by (obtain ⟨q0, q1, q2, q3, q4⟩ := hSw; go_simp)⟩) (by assumption) ?_
    try simp only [Act.put, List.setIfInBounds_toArray, List.set_cons_zero, List.set_cons_succ]
    have r6 := ((q1.trans q2).block _ (by rw [World.size_alloc]; exact Nat.lt_succ_self _) (fun e => e)).trans (heap_alloc_new V.drew (.cells #[.slice none 0 0, .slice none 0 0, .slice none 0 0, .string ⟨#[]⟩, .slice none 0 0, .slice none 0 0, .slice none 0 0] 30))
    refine wpAnyH_ready (rs := [8]) (by kernel_rfl) (by simp) ?_
    refine AllReadyH.cons (o := { dst := none, op := Op.store 30 (Operand.tmp 5) (Operand.tmp 19), type := 0, pos := "outright.go:50", after := #[{ on := 7, ground := Ground.data }, { on := 5, ground := Ground.data }, { on := 3, ground := Ground.chain }, { on := 0, ground := Ground.phase }, { on := 1, ground := Ground.phase }, { on := 2, ground := Ground.phase }, { on := 3, ground := Ground.phase }, { on := 4, ground := Ground.phase }, { on := 5, ground := Ground.phase }, { on := 6, ground := Ground.textOnly Departure.lateStores }, { on := 7, ground := Ground.phase }], guard := none }) rfl (fun K hK => ?_) AllReadyH.nil
    refine step_store_whole rfl 30 _ _ rfl (V.heap.size) #[.slice none 0 0, .slice none 0 0, .slice none 0 0, .string ⟨#[]⟩, .slice none 0 0, .slice none 0 0, .slice none 0 0] _ 30 (by rfl) (by rfl) r6 rfl (by kernel_rfl) (by kernel_rfl) ?_
    intro W7 r7 f7
    have x7 : Same V W7 := Fr.trans (u2) f7 (fun i hi e => by first | omega | (have := u2.size; omega) | (have := u1.size; omega))
    refine hK.out _ _ (HC.out _ x7) (fun hHeld => ?_)
    clear hK K
    refine wpAnyH_take (i := 9) (oi := { dst := some 6, op := Op.assign (Operand.tmp 20), type := 31, pos := "outright.go:50", after := #[{ on := 6, ground := Ground.data }, { on := 8, ground := Ground.chain }, { on := 0, ground := Ground.phase }, { on := 1, ground := Ground.phase }, { on := 2, ground := Ground.phase }, { on := 3, ground := Ground.phase }, { on := 4, ground := Ground.phase }, { on := 5, ground := Ground.phase }, { on := 6, ground := Ground.phase }, { on := 7, ground := Ground.phase }, { on := 8, ground := Ground.phase }], guard := none }) (v := .int .i64 E) rfl (by kernel_rfl) (by kernel_rfl) (by kernel_rfl) (fun _ _ _ h => h) (Or.inl ⟨by rfl, fun w hSw => by (obtain ⟨q0, q1, q2, q3, q4⟩ := hSw; go_simp)⟩) (by assumption) ?_
    try simp only [Act.put, List.setIfInBounds_toArray, List.set_cons_zero, List.set_cons_succ]
    refine wpAnyH_done (by kernel_rfl) ?_ _
    obtain ⟨mb, hmb⟩ : ∃ mb, mb = V.heap.size := ⟨_, rfl⟩
    rw [← hmb] at r7 ⊢
    clear f7 r6 hmb
    clear u1 u2 q1 q2 l1
    have HB : Hid (∀ W, Same W7 W → W.cell? ⟨mb, 0, none⟩ = some (.slice none 0 0) ∧ W.cell? ⟨mb, 1, none⟩ = some (.slice none 0 0) ∧ W.cell? ⟨mb, 2, none⟩ = some (.slice none 0 0) ∧ W.cell? ⟨mb, 3, none⟩ = some (.string ⟨#[]⟩) ∧ W.cell? ⟨mb, 4, none⟩ = some (.slice none 0 0) ∧ W.cell? ⟨mb, 5, none⟩ = some (.slice none 0 0) ∧ W.cell? ⟨mb, 6, none⟩ = some (.slice none 0 0)) := fun W s => ⟨s.keep ((cell_of_row _ _ _ _ _ _ r7).trans rfl), s.keep ((cell_of_row _ _ _ _ _ _ r7).trans rfl), s.keep ((cell_of_row _ _ _ _ _ _ r7).trans rfl), s.keep ((cell_of_row _ _ _ _ _ _ r7).trans rfl), s.keep ((cell_of_row _ _ _ _ _ _ r7).trans rfl), s.keep ((cell_of_row _ _ _ _ _ _ r7).trans rfl), s.keep ((cell_of_row _ _ _ _ _ _ r7).trans rfl)⟩
    clear r7
    have z0 : Same W7 W7 := Fr.refl _ _
    obtain ⟨m0, m1, m2, m3, m4, m5, m6⟩ := HB.out _ z0
    have e0 : (E == 0) = false := by simp [hE]
    have e1 : (E != 0) = true := by simp [hE]
    clear hE
    go_wp2_with fail
    refine (HS0.out _).mono ?_
    rintro e Y1 ⟨rfl, y1⟩
    clear m0 m1 m2 m3 m4 m5 m6
    obtain ⟨m0, m1, m2, m3, m4, m5, m6⟩ := HB.out _ y1
    go_wp2_with fail
    refine (HS0.out _).mono ?_
    rintro e Y2 ⟨rfl, y2⟩
    have y2 := y1.trans y2
    clear m0 m1 m2 m3 m4 m5 m6
    obtain ⟨m0, m1, m2, m3, m4, m5, m6⟩ := HB.out _ y2
    go_wp2_with fail
    refine (HAW.out _).mono ?_
    rintro e Y3 ⟨rfl, y3⟩
    go_wp2_with fail
    go_ret
    exact ⟨rfl, ((t1.trans x7).trans y2).trans y3⟩
set_option maxRecDepth 100000 in
set_option maxHeartbeats 8000000 in
theorem gonce_false {p q : Int} {r : Nr} {N N1 N2 : Nd} {sp : ByteArray} (w : World) (h : NdIn w r N) (h1 : N.ps.length ≤ 1048576) (h2 : N.ss.length ≤ 1048576) (h3 : N.ks.length ≤ 1048576)
    (HSP : Hid (∀ W gp cp gs cs gk ck B, LentAt W B gp cp gs cs gk ck N → Calls Tryz.prog 4 #[frameV p q, ndV (lentNr gp cp gs cs gk ck) N] W fun e w' => CutIs W.heap.size N1 N2 sp e w' ∧ Same W w'))
    (HFL : Hid (∀ W gp cp gs cs gk ck B, LentAt W B gp cp gs cs gk ck N → Calls Tryz.prog 11 #[frameV p q, ndV (lentNr gp cp gs cs gk ck) N] W fun e w' => e = .returned (.bool false) ∧ Same W w'))
    (HBO : Hid (∀ W B B' r1 r2, MadeNd W B r1 N1 → MadeNd W B' r2 N2 → Calls Tryz.prog 8 #[frameV p q, .agg #[.slice r1.pa N1.ps.length r1.cp, .slice r1.sa N1.ss.length r1.cs, .slice r1.ka N1.ks.length r1.ck, .string sp, .slice r2.pa N2.ps.length r2.cp, .slice r2.sa N2.ss.length r2.cs, .slice r2.ka N2.ks.length r2.ck]] W fun e w' => ∃ r3 r4 : Nr, e = .returned (.tuple #[.agg #[.slice r3.pa N1.ps.length r3.cp, .slice r3.sa N1.ss.length r3.cs, .slice r3.ka N1.ks.length r3.ck, .string sp, .slice r4.pa N2.ps.length r4.cp, .slice r4.sa N2.ss.length r4.cs, .slice r4.ka N2.ks.length r4.ck], .int .i64 0]) ∧ MadeNd w' W.heap.size r3 N1 ∧ MadeNd w' W.heap.size r4 N2 ∧ Same W w'))
    (HME : Hid (∀ W B B' r1 r2, MadeNd W B r1 N1 → MadeNd W B' r2 N2 → Calls Tryz.prog 9 #[frameV p q, .agg #[.slice r1.pa N1.ps.length r1.cp, .slice r1.sa N1.ss.length r1.cs, .slice r1.ka N1.ks.length r1.ck, .string sp, .slice r2.pa N2.ps.length r2.cp, .slice r2.sa N2.ss.length r2.cs, .slice r2.ka N2.ks.length r2.ck]] W fun e w' => ∃ r5 : Nr, e = .returned (.tuple #[ndV r5 N, .int .i64 0]) ∧ MadeNd w' W.heap.size r5 N ∧ Same W w'))
    (HMD : Hid (∀ W B B' r1 r2, MadeNd W B r1 N1 → MadeNd W B' r2 N2 → Calls Tryz.prog 10 #[frameV p q, .agg #[.slice r1.pa N1.ps.length r1.cp, .slice r1.sa N1.ss.length r1.cs, .slice r1.ka N1.ks.length r1.ck, .string sp, .slice r2.pa N2.ps.length r2.cp, .slice r2.sa N2.ss.length r2.cs, .slice r2.ka N2.ks.length r2.ck]] W fun e w' => ∃ r6 : Nr, e = .returned (.tuple #[.agg #[.slice r6.pa N.ps.length r6.cp, .slice r6.sa N.ss.length r6.cs, .slice r6.ka N.ks.length r6.ck, .string ⟨#[]⟩, .slice none 0 0, .slice none 0 0, .slice none 0 0], .bool true, .int .i64 0]) ∧ MadeNd w' W.heap.size r6 N ∧ Same W w'))
    (HS1 : Hid (∀ W B B' r3 r1, MadeNd W B r3 N1 → MadeNd W B' r1 N1 → Calls Tryz.prog 6 #[ndV r3 N1, ndV r1 N1] W fun e w' => e = .returned (.bool true) ∧ Same W w'))
    (HS2 : Hid (∀ W B B' r3 r1, MadeNd W B r3 N2 → MadeNd W B' r1 N2 → Calls Tryz.prog 6 #[ndV r3 N2, ndV r1 N2] W fun e w' => e = .returned (.bool true) ∧ Same W w'))
    (HS3 : Hid (∀ W B r3, Same w W → MadeNd W B r3 N → Calls Tryz.prog 6 #[ndV r3 N, ndV r N] W fun e w' => e = .returned (.bool true) ∧ Same W w')) :
    Calls Tryz.prog 3 #[frameV p q, ndV r N] w fun e w' => e = .returned (.bool true) ∧ Same w w' := by
  have HL : Hid (∀ W, Same w W → Calls Tryz.prog 5 #[ndV r N] W fun e w' => ∃ gp cp gs cs gk ck, e = .returned (ndV (lentNr gp cp gs cs gk ck) N) ∧ LentAt w' W.heap.size gp cp gs cs gk ck N ∧ Same W w') := fun W s => lent_at W (h.same s) h1 h2 h3
  have HAW : Hid (∀ W, Calls Tryz.prog 7 #[] W fun e w' => e = .returned (.bool true) ∧ Same W w') := awake_calls
  obtain ⟨V, hV⟩ : ∃ V, V = (w.alloc (.cells #[.int .i64 p, .int .i64 q] 23)).alloc (.cells #[.slice r.pa N.ps.length r.cp, .slice r.sa N.ss.length r.cs, .slice r.ka N.ks.length r.ck] 28) := ⟨_, rfl⟩
  have t1 : Same w V := by rw [hV]; exact ((Fr.refl _ w).alloc _).alloc _
  have HC : Hid (∀ W, Same V W → W.cell? ⟨w.heap.size, 0, none⟩ = some (.int .i64 p) ∧ W.cell? ⟨w.heap.size, 1, none⟩ = some (.int .i64 q) ∧ W.cell? ⟨w.heap.size + 1, 0, none⟩ = some (.slice r.pa N.ps.length r.cp) ∧ W.cell? ⟨w.heap.size + 1, 1, none⟩ = some (.slice r.sa N.ss.length r.cs) ∧ W.cell? ⟨w.heap.size + 1, 2, none⟩ = some (.slice r.ka N.ks.length r.ck)) := fun W s => ⟨s.keep (by rw [hV]; simp), s.keep (by rw [hV]; simp), s.keep (by rw [hV]; simp), s.keep (by rw [hV]; simp), s.keep (by rw [hV]; simp)⟩
  have d0 : Same V V.drew := Fr.drew (Fr.refl _ V)
  clear h
  go_enter Tryz.func3, Tryz.ntmps3
  go_wp2_with fail
  rw [← hV]
  clear hV
  unfold lentNr at HL HSP HFL
  unfold CutIs halvesN at HSP
  refine wp_region_held_drew (S := fun W => W.cell? ⟨w.heap.size, 0, none⟩ = some (.int .i64 p) ∧ W.cell? ⟨w.heap.size, 1, none⟩ = some (.int .i64 q) ∧ W.cell? ⟨w.heap.size + 1, 0, none⟩ = some (.slice r.pa N.ps.length r.cp) ∧ W.cell? ⟨w.heap.size + 1, 1, none⟩ = some (.slice r.sa N.ss.length r.cs) ∧ W.cell? ⟨w.heap.size + 1, 2, none⟩ = some (.slice r.ka N.ks.length r.ck)) (by kernel_rfl) (HC.out _ d0) (fun hHeld => ?_)
  refine wpAnyH_take (i := 0) (oi := { dst := some 15, op := Op.load 23 (Operand.tmp 2), type := 23, pos := "outright.go:50", after := #[], guard := none }) (v := .agg #[.int .i64 p, .int .i64 q]) rfl (by kernel_rfl) (by kernel_rfl) (by kernel_rfl) (fun _ _ _ h => h) (Or.inl ⟨by rfl, fun w hSw => by (obtain ⟨q0, q1, q2, q3, q4⟩ := hSw; go_simp)⟩) (by assumption) ?_
  try simp only [Act.put, List.setIfInBounds_toArray, List.set_cons_zero, List.set_cons_succ]
  refine wpAnyH_take (i := 1) (oi := { dst := some 16, op := Op.load 28 (Operand.tmp 3), type := 28, pos := "outright.go:50", after := #[], guard := none }) (v := .agg #[.slice r.pa N.ps.length r.cp, .slice r.sa N.ss.length r.cs, .slice r.ka N.ks.length r.ck]) rfl (by kernel_rfl) (by kernel_rfl) (by kernel_rfl) (fun _ _ _ h => h) (Or.inl ⟨by rfl, fun w hSw => by (obtain ⟨q0, q1, q2, q3, q4⟩ := hSw; go_simp)⟩) (by assumption) ?_
  try simp only [Act.put, List.setIfInBounds_toArray, List.set_cons_zero, List.set_cons_succ]
  refine wpAnyH_ready (rs := [2, 7]) (by kernel_rfl) (by simp) ?_
  refine AllReadyH.cons (o := { dst := some 17, op := Op.call { callee := Callee.value (Operand.func 5), args := #[Operand.tmp 16], argTypes := #[28] }, type := 28, pos := "outright.go:50", after := #[{ on := 1, ground := Ground.data }], guard := none }) rfl (fun K hK => ?_) (AllReadyH.cons (o := { dst := some 5, op := Op.alloc 30, type := 0, pos := "outright.go:50", after := #[], guard := none }) rfl (fun K hK => ?_) AllReadyH.nil)
  · go_simp
    go_at_call 5
    refine (HL.out _ (t1.trans (d0))).mono ?_
    rintro e Z1 ⟨gp, cp, gs, cs, gk, ck, rfl, l1, q1⟩
    try go_wp2_with fail
    have u1 : Same V Z1 := Same.trans (d0) q1
    refine hK.out _ _ (HC.out _ u1) (fun hHeld => ?_)
    clear hK K
    try simp only [Act.put, List.setIfInBounds_toArray, List.set_cons_zero, List.set_cons_succ]
    refine wpAnyH_ready (rs := [3, 7]) (by kernel_rfl) (by simp) ?_
    refine AllReadyH.cons (o := { dst := some 18, op := Op.call { callee := Callee.value (Operand.func 4), args := #[Operand.tmp 15, Operand.tmp 17], argTypes := #[23, 28] }, type := 32, pos := "outright.go:50", after := #[{ on := 0, ground := Ground.data }, { on := 2, ground := Ground.data }, { on := 2, ground := Ground.chain }], guard := none }) rfl (fun K hK => ?_) (AllReadyH.cons (o := { dst := some 5, op := Op.alloc 30, type := 0, pos := "outright.go:50", after := #[], guard := none }) rfl (fun K hK => ?_) AllReadyH.nil)
    · go_simp
      go_at_call 4
      refine (HSP.out _ _ _ _ _ _ _ _ (l1)).mono ?_
      rintro e Z2 ⟨⟨r1, r2, rfl, o1, o2⟩, q2⟩
      try go_wp2_with fail
      have u2 : Same V Z2 := Same.trans (u1) q2
      refine hK.out _ _ (HC.out _ u2) (fun hHeld => ?_)
      clear hK K
      try simp only [Act.put, List.setIfInBounds_toArray, List.set_cons_zero, List.set_cons_succ]
      refine wpAnyH_take (i := 4) (oi := { dst := some 14, op := Op.move (Operand.tmp 18), type := 32, pos := "outright.go:50", after := #[{ on := 3, ground := Ground.data }], guard := none }) (v := .tuple #[.agg #[.slice r1.pa N1.ps.length r1.cp, .slice r1.sa N1.ss.length r1.cs, .slice r1.ka N1.ks.length r1.ck, .string sp, .slice r2.pa N2.ps.length r2.cp, .slice r2.sa N2.ss.length r2.cs, .slice r2.ka N2.ks.length r2.ck], .int .i64 0]) rfl (by kernel_rfl) (by kernel_rfl) (by kernel_rfl) (fun _ _ _ h => h) (Or.inl ⟨by rfl, fun w hSw => by (obtain ⟨q0, q1, q2, q3, q4⟩ := hSw; go_simp)⟩) (by assumption) ?_
      try simp only [Act.put, List.setIfInBounds_toArray, List.set_cons_zero, List.set_cons_succ]
      refine wpAnyH_take (i := 5) (oi := { dst := some 19, op := Op.extract (Operand.tmp 14) 0, type := 30, pos := "outright.go:50", after := #[{ on := 4, ground := Ground.data }], guard := none }) (v := .agg #[.slice r1.pa N1.ps.length r1.cp, .slice r1.sa N1.ss.length r1.cs, .slice r1.ka N1.ks.length r1.ck, .string sp, .slice r2.pa N2.ps.length r2.cp, .slice r2.sa N2.ss.length r2.cs, .slice r2.ka N2.ks.length r2.ck]) rfl (by kernel_rfl) (by kernel_rfl) (by kernel_rfl) (fun _ _ _ h => h) (Or.inl ⟨by rfl, fun w hSw => by (obtain ⟨q0, q1, q2, q3, q4⟩ := hSw; go_simp)⟩) (by assumption) ?_
      try simp only [Act.put, List.setIfInBounds_toArray, List.set_cons_zero, List.set_cons_succ]
      refine wpAnyH_take (i := 6) (oi := { dst := some 20, op := Op.extract (Operand.tmp 14) 1, type := 31, pos := "outright.go:50", after := #[{ on := 4, ground := Ground.data }, { on := 8, ground := Ground.gcOnly Departure.lateStores }], guard := none }) (v := .int .i64 0) rfl (by kernel_rfl) (by kernel_rfl) (by kernel_rfl) (fun _ _ _ h => h) (Or.inl ⟨by rfl, fun w hSw => by (obtain ⟨q0, q1, q2, q3, q4⟩ := hSw; go_simp)⟩) (by assumption) ?_
      try simp only [Act.put, List.setIfInBounds_toArray, List.set_cons_zero, List.set_cons_succ]
      refine wpAnyH_ready (rs := [7]) (by kernel_rfl) (by simp) ?_
      refine AllReadyH.cons (o := { dst := some 5, op := Op.alloc 30, type := 0, pos := "outright.go:50", after := #[], guard := none }) rfl (fun K hK => ?_) AllReadyH.nil
      go_simp
      refine hK.out _ _ (HC.out _ (Fr.alloc u2 _)) (fun hHeld => ?_)
      clear hK K
      try simp only [Act.put, List.setIfInBounds_toArray, List.set_cons_zero, List.set_cons_succ]
      have r6 := heap_alloc_new Z2 (.cells #[.slice none 0 0, .slice none 0 0, .slice none 0 0, .string ⟨#[]⟩, .slice none 0 0, .slice none 0 0, .slice none 0 0] 30)
      refine wpAnyH_ready (rs := [8]) (by kernel_rfl) (by simp) ?_
      refine AllReadyH.cons (o := { dst := none, op := Op.store 30 (Operand.tmp 5) (Operand.tmp 19), type := 0, pos := "outright.go:50", after := #[{ on := 7, ground := Ground.data }, { on := 5, ground := Ground.data }, { on := 3, ground := Ground.chain }, { on := 0, ground := Ground.phase }, { on := 1, ground := Ground.phase }, { on := 2, ground := Ground.phase }, { on := 3, ground := Ground.phase }, { on := 4, ground := Ground.phase }, { on := 5, ground := Ground.phase }, { on := 6, ground := Ground.textOnly Departure.lateStores }, { on := 7, ground := Ground.phase }], guard := none }) rfl (fun K hK => ?_) AllReadyH.nil
      refine step_store_whole rfl 30 _ _ rfl (Z2.heap.size) #[.slice r1.pa N1.ps.length r1.cp, .slice r1.sa N1.ss.length r1.cs, .slice r1.ka N1.ks.length r1.ck, .string sp, .slice r2.pa N2.ps.length r2.cp, .slice r2.sa N2.ss.length r2.cs, .slice r2.ka N2.ks.length r2.ck] _ 30 (by rfl) (by rfl) r6 rfl (by kernel_rfl) (by kernel_rfl) ?_
      intro W7 r7 f7
      have x7 : Same V W7 := Fr.trans (Fr.alloc u2 _) f7 (fun i hi e => by first | omega | (have := u2.size; omega) | (have := u1.size; omega))
      refine hK.out _ _ (HC.out _ x7) (fun hHeld => ?_)
      clear hK K
      refine wpAnyH_take (i := 9) (oi := { dst := some 6, op := Op.assign (Operand.tmp 20), type := 31, pos := "outright.go:50", after := #[{ on := 6, ground := Ground.data }, { on := 8, ground := Ground.chain }, { on := 0, ground := Ground.phase }, { on := 1, ground := Ground.phase }, { on := 2, ground := Ground.phase }, { on := 3, ground := Ground.phase }, { on := 4, ground := Ground.phase }, { on := 5, ground := Ground.phase }, { on := 6, ground := Ground.phase }, { on := 7, ground := Ground.phase }, { on := 8, ground := Ground.phase }], guard := none }) (v := .int .i64 0) rfl (by kernel_rfl) (by kernel_rfl) (by kernel_rfl) (fun _ _ _ h => h) (Or.inl ⟨by rfl, fun w hSw => by (obtain ⟨q0, q1, q2, q3, q4⟩ := hSw; go_simp)⟩) (by assumption) ?_
      try simp only [Act.put, List.setIfInBounds_toArray, List.set_cons_zero, List.set_cons_succ]
      refine wpAnyH_done (by kernel_rfl) ?_ _
      have m1 : MadeNd W7 _ r1 N1 := ⟨own_frameB (o1.op.alloc _) f7 (fun kk hk e => type_ne (o1.op.alloc _) r6 (by decide) (by rw [hk, e] <;> rfl)), own_frameB (o1.os.alloc _) f7 (fun kk hk e => type_ne (o1.os.alloc _) r6 (by decide) (by rw [hk, e] <;> rfl)), own_frameB (o1.ok.alloc _) f7 (fun kk hk e => type_ne (o1.ok.alloc _) r6 (by decide) (by rw [hk, e] <;> rfl))⟩
      have m2 : MadeNd W7 _ r2 N2 := ⟨own_frameB (o2.op.alloc _) f7 (fun kk hk e => type_ne (o2.op.alloc _) r6 (by decide) (by rw [hk, e] <;> rfl)), own_frameB (o2.os.alloc _) f7 (fun kk hk e => type_ne (o2.os.alloc _) r6 (by decide) (by rw [hk, e] <;> rfl)), own_frameB (o2.ok.alloc _) f7 (fun kk hk e => type_ne (o2.ok.alloc _) r6 (by decide) (by rw [hk, e] <;> rfl))⟩
      clear o1
      clear o2
      obtain ⟨mb, hmb⟩ : ∃ mb, mb = Z2.heap.size := ⟨_, rfl⟩
      rw [← hmb] at r7 ⊢
      clear f7 r6 hmb
      clear u1 u2 q1 q2 l1
      have HB : Hid (∀ W, Same W7 W → W.cell? ⟨mb, 0, none⟩ = some (.slice r1.pa N1.ps.length r1.cp) ∧ W.cell? ⟨mb, 1, none⟩ = some (.slice r1.sa N1.ss.length r1.cs) ∧ W.cell? ⟨mb, 2, none⟩ = some (.slice r1.ka N1.ks.length r1.ck) ∧ W.cell? ⟨mb, 3, none⟩ = some (.string sp) ∧ W.cell? ⟨mb, 4, none⟩ = some (.slice r2.pa N2.ps.length r2.cp) ∧ W.cell? ⟨mb, 5, none⟩ = some (.slice r2.sa N2.ss.length r2.cs) ∧ W.cell? ⟨mb, 6, none⟩ = some (.slice r2.ka N2.ks.length r2.ck)) := fun W s => ⟨s.keep ((cell_of_row _ _ _ _ _ _ r7).trans rfl), s.keep ((cell_of_row _ _ _ _ _ _ r7).trans rfl), s.keep ((cell_of_row _ _ _ _ _ _ r7).trans rfl), s.keep ((cell_of_row _ _ _ _ _ _ r7).trans rfl), s.keep ((cell_of_row _ _ _ _ _ _ r7).trans rfl), s.keep ((cell_of_row _ _ _ _ _ _ r7).trans rfl), s.keep ((cell_of_row _ _ _ _ _ _ r7).trans rfl)⟩
      obtain ⟨B1, hm1⟩ : ∃ B1, MadeNd W7 B1 r1 N1 := ⟨_, m1⟩
      obtain ⟨B2, hm2⟩ : ∃ B2, MadeNd W7 B2 r2 N2 := ⟨_, m2⟩
      have HM1 : Hid (∀ W, Same W7 W → MadeNd W B1 r1 N1) := fun W s => hm1.same s
      have HM2 : Hid (∀ W, Same W7 W → MadeNd W B2 r2 N2) := fun W s => hm2.same s
      clear r7 m1 m2 hm1 hm2
      have z0 : Same W7 W7 := Fr.refl _ _
      obtain ⟨f0, f1, c0, c1, c2⟩ := HC.out _ x7
      obtain ⟨m0, m1, m2, m3, m4, m5, m6⟩ := HB.out _ z0
      go_wp2_with fail
      refine (HBO.out _ _ _ _ _ (HM1.out _ z0) (HM2.out _ z0)).mono ?_
      rintro e Y1 ⟨r3, r4, rfl, k3, k4, y1⟩
      clear f0 f1 c0 c1 c2 m0 m1 m2 m3 m4 m5 m6
      obtain ⟨X1, hX1⟩ : ∃ X1, X1 = Y1.alloc (.cells #[.slice r3.pa N1.ps.length r3.cp, .slice r3.sa N1.ss.length r3.cs, .slice r3.ka N1.ks.length r3.ck, .string sp, .slice r4.pa N2.ps.length r4.cp, .slice r4.sa N2.ss.length r4.cs, .slice r4.ka N2.ks.length r4.ck] 30) := ⟨_, rfl⟩
      obtain ⟨bb1, hbb1⟩ : ∃ bb1, bb1 = Y1.heap.size := ⟨_, rfl⟩
      have z1 : Same W7 X1 := by rw [hX1]; exact Fr.alloc (Same.trans z0 y1) _
      have rX1 : X1.heap[bb1]? = some (.cells #[.slice r3.pa N1.ps.length r3.cp, .slice r3.sa N1.ss.length r3.cs, .slice r3.ka N1.ks.length r3.ck, .string sp, .slice r4.pa N2.ps.length r4.cp, .slice r4.sa N2.ss.length r4.cs, .slice r4.ka N2.ks.length r4.ck] 30 (0, 0)) := by rw [hX1, hbb1]; exact heap_alloc_new Y1 _
      have HX1 : Hid (∀ W, Same X1 W → W.cell? ⟨bb1, 0, none⟩ = some (.slice r3.pa N1.ps.length r3.cp) ∧ W.cell? ⟨bb1, 1, none⟩ = some (.slice r3.sa N1.ss.length r3.cs) ∧ W.cell? ⟨bb1, 2, none⟩ = some (.slice r3.ka N1.ks.length r3.ck) ∧ W.cell? ⟨bb1, 3, none⟩ = some (.string sp) ∧ W.cell? ⟨bb1, 4, none⟩ = some (.slice r4.pa N2.ps.length r4.cp) ∧ W.cell? ⟨bb1, 5, none⟩ = some (.slice r4.sa N2.ss.length r4.cs) ∧ W.cell? ⟨bb1, 6, none⟩ = some (.slice r4.ka N2.ks.length r4.ck)) := fun W s => ⟨s.keep ((cell_of_row _ _ _ _ _ _ rX1).trans rfl), s.keep ((cell_of_row _ _ _ _ _ _ rX1).trans rfl), s.keep ((cell_of_row _ _ _ _ _ _ rX1).trans rfl), s.keep ((cell_of_row _ _ _ _ _ _ rX1).trans rfl), s.keep ((cell_of_row _ _ _ _ _ _ rX1).trans rfl), s.keep ((cell_of_row _ _ _ _ _ _ rX1).trans rfl), s.keep ((cell_of_row _ _ _ _ _ _ rX1).trans rfl)⟩
      have HM3 : Hid (∀ W, Same X1 W → MadeNd W W7.heap.size r3 N1) := fun W s => MadeNd.same (by rw [hX1]; exact ⟨k3.op.alloc _, k3.os.alloc _, k3.ok.alloc _⟩) s
      have HM4 : Hid (∀ W, Same X1 W → MadeNd W W7.heap.size r4 N2) := fun W s => MadeNd.same (by rw [hX1]; exact ⟨k4.op.alloc _, k4.os.alloc _, k4.ok.alloc _⟩) s
      clear rX1 k3 k4
      have q1 : Same X1 X1 := Fr.refl _ _
      obtain ⟨f0, f1, c0, c1, c2⟩ := HC.out X1 (x7.trans z1)
      obtain ⟨m0, m1, m2, m3, m4, m5, m6⟩ := HB.out X1 z1
      obtain ⟨g1_0, g1_1, g1_2, g1_3, g1_4, g1_5, g1_6⟩ := HX1.out X1 q1
      rw [hX1] at f0 f1 c0 c1 c2 m0 m1 m2 m3 m4 m5 m6 g1_0 g1_1 g1_2 g1_3 g1_4 g1_5 g1_6
      rw [hbb1] at g1_0 g1_1 g1_2 g1_3 g1_4 g1_5 g1_6
      go_wp2_with fail
      rw [← hX1, ← hbb1]
      clear hX1 hbb1 f0 f1 c0 c1 c2 m0 m1 m2 m3 m4 m5 m6 g1_0 g1_1 g1_2 g1_3 g1_4 g1_5 g1_6
      refine (HS1.out _ _ _ _ _ (HM3.out _ q1) (HM1.out _ z1)).mono ?_
      rintro e Y2 ⟨rfl, y2⟩
      have z2 := Same.trans z1 y2
      have q2 : Same X1 Y2 := y2
      obtain ⟨f0, f1, c0, c1, c2⟩ := HC.out _ (x7.trans z2)
      obtain ⟨m0, m1, m2, m3, m4, m5, m6⟩ := HB.out _ z2
      obtain ⟨g1_0, g1_1, g1_2, g1_3, g1_4, g1_5, g1_6⟩ := HX1.out _ q2
      go_wp2_with fail
      clear f0 f1 c0 c1 c2 m0 m1 m2 m3 m4 m5 m6 g1_0 g1_1 g1_2 g1_3 g1_4 g1_5 g1_6
      refine (HS2.out _ _ _ _ _ (HM4.out _ q2) (HM2.out _ z2)).mono ?_
      rintro e Y3 ⟨rfl, y3⟩
      have z3 := Same.trans z2 y3
      have q3 : Same X1 Y3 := Same.trans q2 y3
      obtain ⟨f0, f1, c0, c1, c2⟩ := HC.out _ (x7.trans z3)
      obtain ⟨m0, m1, m2, m3, m4, m5, m6⟩ := HB.out _ z3
      obtain ⟨g1_0, g1_1, g1_2, g1_3, g1_4, g1_5, g1_6⟩ := HX1.out _ q3
      go_wp2_with fail
      clear f0 f1 c0 c1 c2 m0 m1 m2 m3 m4 m5 m6 g1_0 g1_1 g1_2 g1_3 g1_4 g1_5 g1_6
      refine (HME.out _ _ _ _ _ (HM1.out _ z3) (HM2.out _ z3)).mono ?_
      rintro e Y4 ⟨r5, rfl, k5, y4⟩
      obtain ⟨X4, hX4⟩ : ∃ X4, X4 = Y4.alloc (.cells #[.slice r5.pa N.ps.length r5.cp, .slice r5.sa N.ss.length r5.cs, .slice r5.ka N.ks.length r5.ck] 28) := ⟨_, rfl⟩
      obtain ⟨bb4, hbb4⟩ : ∃ bb4, bb4 = Y4.heap.size := ⟨_, rfl⟩
      have z4 : Same W7 X4 := by rw [hX4]; exact Fr.alloc (Same.trans z3 y4) _
      have rX4 : X4.heap[bb4]? = some (.cells #[.slice r5.pa N.ps.length r5.cp, .slice r5.sa N.ss.length r5.cs, .slice r5.ka N.ks.length r5.ck] 28 (0, 0)) := by rw [hX4, hbb4]; exact heap_alloc_new Y4 _
      have HX4 : Hid (∀ W, Same X4 W → W.cell? ⟨bb4, 0, none⟩ = some (.slice r5.pa N.ps.length r5.cp) ∧ W.cell? ⟨bb4, 1, none⟩ = some (.slice r5.sa N.ss.length r5.cs) ∧ W.cell? ⟨bb4, 2, none⟩ = some (.slice r5.ka N.ks.length r5.ck)) := fun W s => ⟨s.keep ((cell_of_row _ _ _ _ _ _ rX4).trans rfl), s.keep ((cell_of_row _ _ _ _ _ _ rX4).trans rfl), s.keep ((cell_of_row _ _ _ _ _ _ rX4).trans rfl)⟩
      clear rX4
      have HM5 : Hid (∀ W, Same X4 W → MadeNd W Y3.heap.size r5 N) := fun W s => MadeNd.same (by rw [hX4]; exact ⟨k5.op.alloc _, k5.os.alloc _, k5.ok.alloc _⟩) s
      clear k5
      have q4 : Same X4 X4 := Fr.refl _ _
      obtain ⟨f0, f1, c0, c1, c2⟩ := HC.out X4 (x7.trans z4)
      obtain ⟨m0, m1, m2, m3, m4, m5, m6⟩ := HB.out X4 z4
      obtain ⟨g4_0, g4_1, g4_2⟩ := HX4.out X4 q4
      rw [hX4] at f0 f1 c0 c1 c2 m0 m1 m2 m3 m4 m5 m6 g4_0 g4_1 g4_2
      rw [hbb4] at g4_0 g4_1 g4_2
      go_wp2_with fail
      rw [← hX4, ← hbb4]
      clear hX4 hbb4 f0 f1 c0 c1 c2 m0 m1 m2 m3 m4 m5 m6 g4_0 g4_1 g4_2
      refine (HMD.out _ _ _ _ _ (HM1.out _ z4) (HM2.out _ z4)).mono ?_
      rintro e Y5 ⟨r6, rfl, k6, y5⟩
      obtain ⟨X5, hX5⟩ : ∃ X5, X5 = Y5.alloc (.cells #[.slice r6.pa N.ps.length r6.cp, .slice r6.sa N.ss.length r6.cs, .slice r6.ka N.ks.length r6.ck, .string ⟨#[]⟩, .slice none 0 0, .slice none 0 0, .slice none 0 0] 30) := ⟨_, rfl⟩
      obtain ⟨bb5, hbb5⟩ : ∃ bb5, bb5 = Y5.heap.size := ⟨_, rfl⟩
      have z5 : Same W7 X5 := by rw [hX5]; exact Fr.alloc (Same.trans z4 y5) _
      have rX5 : X5.heap[bb5]? = some (.cells #[.slice r6.pa N.ps.length r6.cp, .slice r6.sa N.ss.length r6.cs, .slice r6.ka N.ks.length r6.ck, .string ⟨#[]⟩, .slice none 0 0, .slice none 0 0, .slice none 0 0] 30 (0, 0)) := by rw [hX5, hbb5]; exact heap_alloc_new Y5 _
      have HX5 : Hid (∀ W, Same X5 W → W.cell? ⟨bb5, 0, none⟩ = some (.slice r6.pa N.ps.length r6.cp) ∧ W.cell? ⟨bb5, 1, none⟩ = some (.slice r6.sa N.ss.length r6.cs) ∧ W.cell? ⟨bb5, 2, none⟩ = some (.slice r6.ka N.ks.length r6.ck) ∧ W.cell? ⟨bb5, 3, none⟩ = some (.string ⟨#[]⟩) ∧ W.cell? ⟨bb5, 4, none⟩ = some (.slice none 0 0) ∧ W.cell? ⟨bb5, 5, none⟩ = some (.slice none 0 0) ∧ W.cell? ⟨bb5, 6, none⟩ = some (.slice none 0 0)) := fun W s => ⟨s.keep ((cell_of_row _ _ _ _ _ _ rX5).trans rfl), s.keep ((cell_of_row _ _ _ _ _ _ rX5).trans rfl), s.keep ((cell_of_row _ _ _ _ _ _ rX5).trans rfl), s.keep ((cell_of_row _ _ _ _ _ _ rX5).trans rfl), s.keep ((cell_of_row _ _ _ _ _ _ rX5).trans rfl), s.keep ((cell_of_row _ _ _ _ _ _ rX5).trans rfl), s.keep ((cell_of_row _ _ _ _ _ _ rX5).trans rfl)⟩
      clear rX5
      have HM6 : Hid (∀ W, Same X5 W → MadeNd W X4.heap.size r6 N) := fun W s => MadeNd.same (by rw [hX5]; exact ⟨k6.op.alloc _, k6.os.alloc _, k6.ok.alloc _⟩) s
      clear k6
      have q5 : Same X4 X5 := by rw [hX5]; exact Fr.alloc y5 _
      have p5 : Same X5 X5 := Fr.refl _ _
      obtain ⟨f0, f1, c0, c1, c2⟩ := HC.out X5 (x7.trans z5)
      obtain ⟨m0, m1, m2, m3, m4, m5, m6⟩ := HB.out X5 z5
      obtain ⟨g4_0, g4_1, g4_2⟩ := HX4.out X5 q5
      obtain ⟨g5_0, g5_1, g5_2, g5_3, g5_4, g5_5, g5_6⟩ := HX5.out X5 p5
      rw [hX5] at f0 f1 c0 c1 c2 m0 m1 m2 m3 m4 m5 m6 g4_0 g4_1 g4_2 g5_0 g5_1 g5_2 g5_3 g5_4 g5_5 g5_6
      rw [hbb5] at g5_0 g5_1 g5_2 g5_3 g5_4 g5_5 g5_6
      go_wp2_with fail
      rw [← hX5, ← hbb5]
      clear hX5 hbb5 f0 f1 c0 c1 c2 m0 m1 m2 m3 m4 m5 m6 g4_0 g4_1 g4_2 g5_0 g5_1 g5_2 g5_3 g5_4 g5_5 g5_6
      have d1 : Same X5 X5.drew := Fr.drew (Fr.refl _ X5)
      go_region_held3 (fun W => W.cell? ⟨w.heap.size, 0, none⟩ = some (.int .i64 p) ∧ W.cell? ⟨w.heap.size, 1, none⟩ = some (.int .i64 q) ∧ W.cell? ⟨w.heap.size + 1, 0, none⟩ = some (.slice r.pa N.ps.length r.cp) ∧ W.cell? ⟨w.heap.size + 1, 1, none⟩ = some (.slice r.sa N.ss.length r.cs) ∧ W.cell? ⟨w.heap.size + 1, 2, none⟩ = some (.slice r.ka N.ks.length r.ck)) (first | exact HC.out _ (x7.trans (z5.trans u9)) | exact HC.out _ (x7.trans (z5.trans u8)) | exact HC.out _ (x7.trans (z5.trans d1)))
        (first | (go_at_call 5; refine (HL.out _ (t1.trans (x7.trans (z5.trans d1)))).mono ?_; rintro e Z8 ⟨gp8, cp8, gs8, cs8, gk8, ck8, rfl, l8, q8⟩; have u8 := Same.trans d1 q8; clear q8) | (go_at_call 11; refine (HFL.out _ _ _ _ _ _ _ _ l8).mono ?_; rintro e Z9 ⟨rfl, q9⟩; have u9 := Same.trans u8 q9; clear q9))
      have z9 := z5.trans u9
      obtain ⟨f0, f1, c0, c1, c2⟩ := HC.out _ (x7.trans z9)
      obtain ⟨m0, m1, m2, m3, m4, m5, m6⟩ := HB.out _ z9
      obtain ⟨g4_0, g4_1, g4_2⟩ := HX4.out _ (q5.trans u9)
      obtain ⟨g5_0, g5_1, g5_2, g5_3, g5_4, g5_5, g5_6⟩ := HX5.out _ u9
      go_wp2_with fail
      clear f0 f1 c0 c1 c2 m0 m1 m2 m3 m4 m5 m6 g4_0 g4_1 g4_2 g5_0 g5_1 g5_2 g5_3 g5_4 g5_5 g5_6
      refine (HS3.out _ _ _ ((t1.trans x7).trans z9) (HM5.out _ (q5.trans u9))).mono ?_
      rintro e Y6 ⟨rfl, y6⟩
      have z10 := z9.trans y6
      have u10 := u9.trans y6
      obtain ⟨f0, f1, c0, c1, c2⟩ := HC.out _ (x7.trans z10)
      obtain ⟨m0, m1, m2, m3, m4, m5, m6⟩ := HB.out _ z10
      obtain ⟨g5_0, g5_1, g5_2, g5_3, g5_4, g5_5, g5_6⟩ := HX5.out _ u10
      go_wp2_with fail
      clear f0 f1 c0 c1 c2 m0 m1 m2 m3 m4 m5 m6 g5_0 g5_1 g5_2 g5_3 g5_4 g5_5 g5_6
      refine (HS3.out _ _ _ ((t1.trans x7).trans z10) (HM6.out _ u10)).mono ?_
      rintro e Y7 ⟨rfl, y7⟩
      have z11 := z10.trans y7
      have u11 := u10.trans y7
      obtain ⟨f0, f1, c0, c1, c2⟩ := HC.out _ (x7.trans z11)
      obtain ⟨m0, m1, m2, m3, m4, m5, m6⟩ := HB.out _ z11
      obtain ⟨g5_0, g5_1, g5_2, g5_3, g5_4, g5_5, g5_6⟩ := HX5.out _ u11
      go_wp2_with fail
      refine (HAW.out _).mono ?_
      rintro e Y8 ⟨rfl, y8⟩
      go_wp2_with fail
      go_ret
      exact ⟨rfl, ((t1.trans x7).trans z11).trans y8⟩
    · go_simp
      refine hK.out _ _ (HC.out _ (Fr.alloc u1 _)) (fun hHeld => ?_)
      clear hK K
      try simp only [Act.put, List.setIfInBounds_toArray, List.set_cons_zero, List.set_cons_succ]
      refine wpAnyH_ready (rs := [3]) (by kernel_rfl) (by simp) ?_
      refine AllReadyH.cons (o := { dst := some 18, op := Op.call { callee := Callee.value (Operand.func 4), args := #[Operand.tmp 15, Operand.tmp 17], argTypes := #[23, 28] }, type := 32, pos := "outright.go:50", after := #[{ on := 0, ground := Ground.data }, { on := 2, ground := Ground.data }, { on := 2, ground := Ground.chain }], guard := none }) rfl (fun K hK => ?_) AllReadyH.nil
      go_simp
      go_at_call 4
      refine (HSP.out _ _ _ _ _ _ _ _ (l1.same ((Fr.refl _ Z1).alloc _))).mono ?_
      rintro e Z2 ⟨⟨r1, r2, rfl, o1, o2⟩, q2⟩
      try go_wp2_with fail
      have u2 : Same V Z2 := Same.trans (Fr.alloc u1 _) q2
      refine hK.out _ _ (HC.out _ u2) (fun hHeld => ?_)
      clear hK K
      try simp only [Act.put, List.setIfInBounds_toArray, List.set_cons_zero, List.set_cons_succ]
      refine wpAnyH_take (i := 4) (oi := { dst := some 14, op := Op.move (Operand.tmp 18), type := 32, pos := "outright.go:50", after := #[{ on := 3, ground := Ground.data }], guard := none }) (v := .tuple #[.agg #[.slice r1.pa N1.ps.length r1.cp, .slice r1.sa N1.ss.length r1.cs, .slice r1.ka N1.ks.length r1.ck, .string sp, .slice r2.pa N2.ps.length r2.cp, .slice r2.sa N2.ss.length r2.cs, .slice r2.ka N2.ks.length r2.ck], .int .i64 0]) rfl (by kernel_rfl) (by kernel_rfl) (by kernel_rfl) (fun _ _ _ h => h) (Or.inl ⟨by rfl, fun w hSw => by (obtain ⟨q0, q1, q2, q3, q4⟩ := hSw; go_simp)⟩) (by assumption) ?_
      try simp only [Act.put, List.setIfInBounds_toArray, List.set_cons_zero, List.set_cons_succ]
      refine wpAnyH_take (i := 5) (oi := { dst := some 19, op := Op.extract (Operand.tmp 14) 0, type := 30, pos := "outright.go:50", after := #[{ on := 4, ground := Ground.data }], guard := none }) (v := .agg #[.slice r1.pa N1.ps.length r1.cp, .slice r1.sa N1.ss.length r1.cs, .slice r1.ka N1.ks.length r1.ck, .string sp, .slice r2.pa N2.ps.length r2.cp, .slice r2.sa N2.ss.length r2.cs, .slice r2.ka N2.ks.length r2.ck]) rfl (by kernel_rfl) (by kernel_rfl) (by kernel_rfl) (fun _ _ _ h => h) (Or.inl ⟨by rfl, fun w hSw => by (obtain ⟨q0, q1, q2, q3, q4⟩ := hSw; go_simp)⟩) (by assumption) ?_
      try simp only [Act.put, List.setIfInBounds_toArray, List.set_cons_zero, List.set_cons_succ]
      refine wpAnyH_take (i := 6) (oi := { dst := some 20, op := Op.extract (Operand.tmp 14) 1, type := 31, pos := "outright.go:50", after := #[{ on := 4, ground := Ground.data }, { on := 8, ground := Ground.gcOnly Departure.lateStores }], guard := none }) (v := .int .i64 0) rfl (by kernel_rfl) (by kernel_rfl) (by kernel_rfl) (fun _ _ _ h => h) (Or.inl ⟨by rfl, fun w hSw => by (obtain ⟨q0, q1, q2, q3, q4⟩ := hSw; go_simp)⟩) (by assumption) ?_
      try simp only [Act.put, List.setIfInBounds_toArray, List.set_cons_zero, List.set_cons_succ]
      have r6 := (q2.block _ (by simp) (fun e => e)).trans (heap_alloc_new Z1 (.cells #[.slice none 0 0, .slice none 0 0, .slice none 0 0, .string ⟨#[]⟩, .slice none 0 0, .slice none 0 0, .slice none 0 0] 30))
      refine wpAnyH_ready (rs := [8]) (by kernel_rfl) (by simp) ?_
      refine AllReadyH.cons (o := { dst := none, op := Op.store 30 (Operand.tmp 5) (Operand.tmp 19), type := 0, pos := "outright.go:50", after := #[{ on := 7, ground := Ground.data }, { on := 5, ground := Ground.data }, { on := 3, ground := Ground.chain }, { on := 0, ground := Ground.phase }, { on := 1, ground := Ground.phase }, { on := 2, ground := Ground.phase }, { on := 3, ground := Ground.phase }, { on := 4, ground := Ground.phase }, { on := 5, ground := Ground.phase }, { on := 6, ground := Ground.textOnly Departure.lateStores }, { on := 7, ground := Ground.phase }], guard := none }) rfl (fun K hK => ?_) AllReadyH.nil
      refine step_store_whole rfl 30 _ _ rfl (Z1.heap.size) #[.slice r1.pa N1.ps.length r1.cp, .slice r1.sa N1.ss.length r1.cs, .slice r1.ka N1.ks.length r1.ck, .string sp, .slice r2.pa N2.ps.length r2.cp, .slice r2.sa N2.ss.length r2.cs, .slice r2.ka N2.ks.length r2.ck] _ 30 (by rfl) (by rfl) r6 rfl (by kernel_rfl) (by kernel_rfl) ?_
      intro W7 r7 f7
      have x7 : Same V W7 := Fr.trans (u2) f7 (fun i hi e => by first | omega | (have := u2.size; omega) | (have := u1.size; omega))
      refine hK.out _ _ (HC.out _ x7) (fun hHeld => ?_)
      clear hK K
      refine wpAnyH_take (i := 9) (oi := { dst := some 6, op := Op.assign (Operand.tmp 20), type := 31, pos := "outright.go:50", after := #[{ on := 6, ground := Ground.data }, { on := 8, ground := Ground.chain }, { on := 0, ground := Ground.phase }, { on := 1, ground := Ground.phase }, { on := 2, ground := Ground.phase }, { on := 3, ground := Ground.phase }, { on := 4, ground := Ground.phase }, { on := 5, ground := Ground.phase }, { on := 6, ground := Ground.phase }, { on := 7, ground := Ground.phase }, { on := 8, ground := Ground.phase }], guard := none }) (v := .int .i64 0) rfl (by kernel_rfl) (by kernel_rfl) (by kernel_rfl) (fun _ _ _ h => h) (Or.inl ⟨by rfl, fun w hSw => by (obtain ⟨q0, q1, q2, q3, q4⟩ := hSw; go_simp)⟩) (by assumption) ?_
      try simp only [Act.put, List.setIfInBounds_toArray, List.set_cons_zero, List.set_cons_succ]
      refine wpAnyH_done (by kernel_rfl) ?_ _
      have m1 : MadeNd W7 _ r1 N1 := ⟨own_frameB o1.op f7 (fun kk hk e => type_ne o1.op r6 (by decide) (by rw [hk, e] <;> rfl)), own_frameB o1.os f7 (fun kk hk e => type_ne o1.os r6 (by decide) (by rw [hk, e] <;> rfl)), own_frameB o1.ok f7 (fun kk hk e => type_ne o1.ok r6 (by decide) (by rw [hk, e] <;> rfl))⟩
      have m2 : MadeNd W7 _ r2 N2 := ⟨own_frameB o2.op f7 (fun kk hk e => type_ne o2.op r6 (by decide) (by rw [hk, e] <;> rfl)), own_frameB o2.os f7 (fun kk hk e => type_ne o2.os r6 (by decide) (by rw [hk, e] <;> rfl)), own_frameB o2.ok f7 (fun kk hk e => type_ne o2.ok r6 (by decide) (by rw [hk, e] <;> rfl))⟩
      clear o1
      clear o2
      obtain ⟨mb, hmb⟩ : ∃ mb, mb = Z1.heap.size := ⟨_, rfl⟩
      rw [← hmb] at r7 ⊢
      clear f7 r6 hmb
      clear u1 u2 q1 q2 l1
      have HB : Hid (∀ W, Same W7 W → W.cell? ⟨mb, 0, none⟩ = some (.slice r1.pa N1.ps.length r1.cp) ∧ W.cell? ⟨mb, 1, none⟩ = some (.slice r1.sa N1.ss.length r1.cs) ∧ W.cell? ⟨mb, 2, none⟩ = some (.slice r1.ka N1.ks.length r1.ck) ∧ W.cell? ⟨mb, 3, none⟩ = some (.string sp) ∧ W.cell? ⟨mb, 4, none⟩ = some (.slice r2.pa N2.ps.length r2.cp) ∧ W.cell? ⟨mb, 5, none⟩ = some (.slice r2.sa N2.ss.length r2.cs) ∧ W.cell? ⟨mb, 6, none⟩ = some (.slice r2.ka N2.ks.length r2.ck)) := fun W s => ⟨s.keep ((cell_of_row _ _ _ _ _ _ r7).trans rfl), s.keep ((cell_of_row _ _ _ _ _ _ r7).trans rfl), s.keep ((cell_of_row _ _ _ _ _ _ r7).trans rfl), s.keep ((cell_of_row _ _ _ _ _ _ r7).trans rfl), s.keep ((cell_of_row _ _ _ _ _ _ r7).trans rfl), s.keep ((cell_of_row _ _ _ _ _ _ r7).trans rfl), s.keep ((cell_of_row _ _ _ _ _ _ r7).trans rfl)⟩
      obtain ⟨B1, hm1⟩ : ∃ B1, MadeNd W7 B1 r1 N1 := ⟨_, m1⟩
      obtain ⟨B2, hm2⟩ : ∃ B2, MadeNd W7 B2 r2 N2 := ⟨_, m2⟩
      have HM1 : Hid (∀ W, Same W7 W → MadeNd W B1 r1 N1) := fun W s => hm1.same s
      have HM2 : Hid (∀ W, Same W7 W → MadeNd W B2 r2 N2) := fun W s => hm2.same s
      clear r7 m1 m2 hm1 hm2
      have z0 : Same W7 W7 := Fr.refl _ _
      obtain ⟨f0, f1, c0, c1, c2⟩ := HC.out _ x7
      obtain ⟨m0, m1, m2, m3, m4, m5, m6⟩ := HB.out _ z0
      go_wp2_with fail
      refine (HBO.out _ _ _ _ _ (HM1.out _ z0) (HM2.out _ z0)).mono ?_
      rintro e Y1 ⟨r3, r4, rfl, k3, k4, y1⟩
      clear f0 f1 c0 c1 c2 m0 m1 m2 m3 m4 m5 m6
      obtain ⟨X1, hX1⟩ : ∃ X1, X1 = Y1.alloc (.cells #[.slice r3.pa N1.ps.length r3.cp, .slice r3.sa N1.ss.length r3.cs, .slice r3.ka N1.ks.length r3.ck, .string sp, .slice r4.pa N2.ps.length r4.cp, .slice r4.sa N2.ss.length r4.cs, .slice r4.ka N2.ks.length r4.ck] 30) := ⟨_, rfl⟩
      obtain ⟨bb1, hbb1⟩ : ∃ bb1, bb1 = Y1.heap.size := ⟨_, rfl⟩
      have z1 : Same W7 X1 := by rw [hX1]; exact Fr.alloc (Same.trans z0 y1) _
      have rX1 : X1.heap[bb1]? = some (.cells #[.slice r3.pa N1.ps.length r3.cp, .slice r3.sa N1.ss.length r3.cs, .slice r3.ka N1.ks.length r3.ck, .string sp, .slice r4.pa N2.ps.length r4.cp, .slice r4.sa N2.ss.length r4.cs, .slice r4.ka N2.ks.length r4.ck] 30 (0, 0)) := by rw [hX1, hbb1]; exact heap_alloc_new Y1 _
      have HX1 : Hid (∀ W, Same X1 W → W.cell? ⟨bb1, 0, none⟩ = some (.slice r3.pa N1.ps.length r3.cp) ∧ W.cell? ⟨bb1, 1, none⟩ = some (.slice r3.sa N1.ss.length r3.cs) ∧ W.cell? ⟨bb1, 2, none⟩ = some (.slice r3.ka N1.ks.length r3.ck) ∧ W.cell? ⟨bb1, 3, none⟩ = some (.string sp) ∧ W.cell? ⟨bb1, 4, none⟩ = some (.slice r4.pa N2.ps.length r4.cp) ∧ W.cell? ⟨bb1, 5, none⟩ = some (.slice r4.sa N2.ss.length r4.cs) ∧ W.cell? ⟨bb1, 6, none⟩ = some (.slice r4.ka N2.ks.length r4.ck)) := fun W s => ⟨s.keep ((cell_of_row _ _ _ _ _ _ rX1).trans rfl), s.keep ((cell_of_row _ _ _ _ _ _ rX1).trans rfl), s.keep ((cell_of_row _ _ _ _ _ _ rX1).trans rfl), s.keep ((cell_of_row _ _ _ _ _ _ rX1).trans rfl), s.keep ((cell_of_row _ _ _ _ _ _ rX1).trans rfl), s.keep ((cell_of_row _ _ _ _ _ _ rX1).trans rfl), s.keep ((cell_of_row _ _ _ _ _ _ rX1).trans rfl)⟩
      have HM3 : Hid (∀ W, Same X1 W → MadeNd W W7.heap.size r3 N1) := fun W s => MadeNd.same (by rw [hX1]; exact ⟨k3.op.alloc _, k3.os.alloc _, k3.ok.alloc _⟩) s
      have HM4 : Hid (∀ W, Same X1 W → MadeNd W W7.heap.size r4 N2) := fun W s => MadeNd.same (by rw [hX1]; exact ⟨k4.op.alloc _, k4.os.alloc _, k4.ok.alloc _⟩) s
      clear rX1 k3 k4
      have q1 : Same X1 X1 := Fr.refl _ _
      obtain ⟨f0, f1, c0, c1, c2⟩ := HC.out X1 (x7.trans z1)
      obtain ⟨m0, m1, m2, m3, m4, m5, m6⟩ := HB.out X1 z1
      obtain ⟨g1_0, g1_1, g1_2, g1_3, g1_4, g1_5, g1_6⟩ := HX1.out X1 q1
      rw [hX1] at f0 f1 c0 c1 c2 m0 m1 m2 m3 m4 m5 m6 g1_0 g1_1 g1_2 g1_3 g1_4 g1_5 g1_6
      rw [hbb1] at g1_0 g1_1 g1_2 g1_3 g1_4 g1_5 g1_6
      go_wp2_with fail
      rw [← hX1, ← hbb1]
      clear hX1 hbb1 f0 f1 c0 c1 c2 m0 m1 m2 m3 m4 m5 m6 g1_0 g1_1 g1_2 g1_3 g1_4 g1_5 g1_6
      refine (HS1.out _ _ _ _ _ (HM3.out _ q1) (HM1.out _ z1)).mono ?_
      rintro e Y2 ⟨rfl, y2⟩
      have z2 := Same.trans z1 y2
      have q2 : Same X1 Y2 := y2
      obtain ⟨f0, f1, c0, c1, c2⟩ := HC.out _ (x7.trans z2)
      obtain ⟨m0, m1, m2, m3, m4, m5, m6⟩ := HB.out _ z2
      obtain ⟨g1_0, g1_1, g1_2, g1_3, g1_4, g1_5, g1_6⟩ := HX1.out _ q2
      go_wp2_with fail
      clear f0 f1 c0 c1 c2 m0 m1 m2 m3 m4 m5 m6 g1_0 g1_1 g1_2 g1_3 g1_4 g1_5 g1_6
      refine (HS2.out _ _ _ _ _ (HM4.out _ q2) (HM2.out _ z2)).mono ?_
      rintro e Y3 ⟨rfl, y3⟩
      have z3 := Same.trans z2 y3
      have q3 : Same X1 Y3 := Same.trans q2 y3
      obtain ⟨f0, f1, c0, c1, c2⟩ := HC.out _ (x7.trans z3)
      obtain ⟨m0, m1, m2, m3, m4, m5, m6⟩ := HB.out _ z3
      obtain ⟨g1_0, g1_1, g1_2, g1_3, g1_4, g1_5, g1_6⟩ := HX1.out _ q3
      go_wp2_with fail
      clear f0 f1 c0 c1 c2 m0 m1 m2 m3 m4 m5 m6 g1_0 g1_1 g1_2 g1_3 g1_4 g1_5 g1_6
      refine (HME.out _ _ _ _ _ (HM1.out _ z3) (HM2.out _ z3)).mono ?_
      rintro e Y4 ⟨r5, rfl, k5, y4⟩
      obtain ⟨X4, hX4⟩ : ∃ X4, X4 = Y4.alloc (.cells #[.slice r5.pa N.ps.length r5.cp, .slice r5.sa N.ss.length r5.cs, .slice r5.ka N.ks.length r5.ck] 28) := ⟨_, rfl⟩
      obtain ⟨bb4, hbb4⟩ : ∃ bb4, bb4 = Y4.heap.size := ⟨_, rfl⟩
      have z4 : Same W7 X4 := by rw [hX4]; exact Fr.alloc (Same.trans z3 y4) _
      have rX4 : X4.heap[bb4]? = some (.cells #[.slice r5.pa N.ps.length r5.cp, .slice r5.sa N.ss.length r5.cs, .slice r5.ka N.ks.length r5.ck] 28 (0, 0)) := by rw [hX4, hbb4]; exact heap_alloc_new Y4 _
      have HX4 : Hid (∀ W, Same X4 W → W.cell? ⟨bb4, 0, none⟩ = some (.slice r5.pa N.ps.length r5.cp) ∧ W.cell? ⟨bb4, 1, none⟩ = some (.slice r5.sa N.ss.length r5.cs) ∧ W.cell? ⟨bb4, 2, none⟩ = some (.slice r5.ka N.ks.length r5.ck)) := fun W s => ⟨s.keep ((cell_of_row _ _ _ _ _ _ rX4).trans rfl), s.keep ((cell_of_row _ _ _ _ _ _ rX4).trans rfl), s.keep ((cell_of_row _ _ _ _ _ _ rX4).trans rfl)⟩
      clear rX4
      have HM5 : Hid (∀ W, Same X4 W → MadeNd W Y3.heap.size r5 N) := fun W s => MadeNd.same (by rw [hX4]; exact ⟨k5.op.alloc _, k5.os.alloc _, k5.ok.alloc _⟩) s
      clear k5
      have q4 : Same X4 X4 := Fr.refl _ _
      obtain ⟨f0, f1, c0, c1, c2⟩ := HC.out X4 (x7.trans z4)
      obtain ⟨m0, m1, m2, m3, m4, m5, m6⟩ := HB.out X4 z4
      obtain ⟨g4_0, g4_1, g4_2⟩ := HX4.out X4 q4
      rw [hX4] at f0 f1 c0 c1 c2 m0 m1 m2 m3 m4 m5 m6 g4_0 g4_1 g4_2
      rw [hbb4] at g4_0 g4_1 g4_2
      go_wp2_with fail
      rw [← hX4, ← hbb4]
      clear hX4 hbb4 f0 f1 c0 c1 c2 m0 m1 m2 m3 m4 m5 m6 g4_0 g4_1 g4_2
      refine (HMD.out _ _ _ _ _ (HM1.out _ z4) (HM2.out _ z4)).mono ?_
      rintro e Y5 ⟨r6, rfl, k6, y5⟩
      obtain ⟨X5, hX5⟩ : ∃ X5, X5 = Y5.alloc (.cells #[.slice r6.pa N.ps.length r6.cp, .slice r6.sa N.ss.length r6.cs, .slice r6.ka N.ks.length r6.ck, .string ⟨#[]⟩, .slice none 0 0, .slice none 0 0, .slice none 0 0] 30) := ⟨_, rfl⟩
      obtain ⟨bb5, hbb5⟩ : ∃ bb5, bb5 = Y5.heap.size := ⟨_, rfl⟩
      have z5 : Same W7 X5 := by rw [hX5]; exact Fr.alloc (Same.trans z4 y5) _
      have rX5 : X5.heap[bb5]? = some (.cells #[.slice r6.pa N.ps.length r6.cp, .slice r6.sa N.ss.length r6.cs, .slice r6.ka N.ks.length r6.ck, .string ⟨#[]⟩, .slice none 0 0, .slice none 0 0, .slice none 0 0] 30 (0, 0)) := by rw [hX5, hbb5]; exact heap_alloc_new Y5 _
      have HX5 : Hid (∀ W, Same X5 W → W.cell? ⟨bb5, 0, none⟩ = some (.slice r6.pa N.ps.length r6.cp) ∧ W.cell? ⟨bb5, 1, none⟩ = some (.slice r6.sa N.ss.length r6.cs) ∧ W.cell? ⟨bb5, 2, none⟩ = some (.slice r6.ka N.ks.length r6.ck) ∧ W.cell? ⟨bb5, 3, none⟩ = some (.string ⟨#[]⟩) ∧ W.cell? ⟨bb5, 4, none⟩ = some (.slice none 0 0) ∧ W.cell? ⟨bb5, 5, none⟩ = some (.slice none 0 0) ∧ W.cell? ⟨bb5, 6, none⟩ = some (.slice none 0 0)) := fun W s => ⟨s.keep ((cell_of_row _ _ _ _ _ _ rX5).trans rfl), s.keep ((cell_of_row _ _ _ _ _ _ rX5).trans rfl), s.keep ((cell_of_row _ _ _ _ _ _ rX5).trans rfl), s.keep ((cell_of_row _ _ _ _ _ _ rX5).trans rfl), s.keep ((cell_of_row _ _ _ _ _ _ rX5).trans rfl), s.keep ((cell_of_row _ _ _ _ _ _ rX5).trans rfl), s.keep ((cell_of_row _ _ _ _ _ _ rX5).trans rfl)⟩
      clear rX5
      have HM6 : Hid (∀ W, Same X5 W → MadeNd W X4.heap.size r6 N) := fun W s => MadeNd.same (by rw [hX5]; exact ⟨k6.op.alloc _, k6.os.alloc _, k6.ok.alloc _⟩) s
      clear k6
      have q5 : Same X4 X5 := by rw [hX5]; exact Fr.alloc y5 _
      have p5 : Same X5 X5 := Fr.refl _ _
      obtain ⟨f0, f1, c0, c1, c2⟩ := HC.out X5 (x7.trans z5)
      obtain ⟨m0, m1, m2, m3, m4, m5, m6⟩ := HB.out X5 z5
      obtain ⟨g4_0, g4_1, g4_2⟩ := HX4.out X5 q5
      obtain ⟨g5_0, g5_1, g5_2, g5_3, g5_4, g5_5, g5_6⟩ := HX5.out X5 p5
      rw [hX5] at f0 f1 c0 c1 c2 m0 m1 m2 m3 m4 m5 m6 g4_0 g4_1 g4_2 g5_0 g5_1 g5_2 g5_3 g5_4 g5_5 g5_6
      rw [hbb5] at g5_0 g5_1 g5_2 g5_3 g5_4 g5_5 g5_6
      go_wp2_with fail
      rw [← hX5, ← hbb5]
      clear hX5 hbb5 f0 f1 c0 c1 c2 m0 m1 m2 m3 m4 m5 m6 g4_0 g4_1 g4_2 g5_0 g5_1 g5_2 g5_3 g5_4 g5_5 g5_6
      have d1 : Same X5 X5.drew := Fr.drew (Fr.refl _ X5)
      go_region_held3 (fun W => W.cell? ⟨w.heap.size, 0, none⟩ = some (.int .i64 p) ∧ W.cell? ⟨w.heap.size, 1, none⟩ = some (.int .i64 q) ∧ W.cell? ⟨w.heap.size + 1, 0, none⟩ = some (.slice r.pa N.ps.length r.cp) ∧ W.cell? ⟨w.heap.size + 1, 1, none⟩ = some (.slice r.sa N.ss.length r.cs) ∧ W.cell? ⟨w.heap.size + 1, 2, none⟩ = some (.slice r.ka N.ks.length r.ck)) (first | exact HC.out _ (x7.trans (z5.trans u9)) | exact HC.out _ (x7.trans (z5.trans u8)) | exact HC.out _ (x7.trans (z5.trans d1)))
        (first | (go_at_call 5; refine (HL.out _ (t1.trans (x7.trans (z5.trans d1)))).mono ?_; rintro e Z8 ⟨gp8, cp8, gs8, cs8, gk8, ck8, rfl, l8, q8⟩; have u8 := Same.trans d1 q8; clear q8) | (go_at_call 11; refine (HFL.out _ _ _ _ _ _ _ _ l8).mono ?_; rintro e Z9 ⟨rfl, q9⟩; have u9 := Same.trans u8 q9; clear q9))
      have z9 := z5.trans u9
      obtain ⟨f0, f1, c0, c1, c2⟩ := HC.out _ (x7.trans z9)
      obtain ⟨m0, m1, m2, m3, m4, m5, m6⟩ := HB.out _ z9
      obtain ⟨g4_0, g4_1, g4_2⟩ := HX4.out _ (q5.trans u9)
      obtain ⟨g5_0, g5_1, g5_2, g5_3, g5_4, g5_5, g5_6⟩ := HX5.out _ u9
      go_wp2_with fail
      clear f0 f1 c0 c1 c2 m0 m1 m2 m3 m4 m5 m6 g4_0 g4_1 g4_2 g5_0 g5_1 g5_2 g5_3 g5_4 g5_5 g5_6
      refine (HS3.out _ _ _ ((t1.trans x7).trans z9) (HM5.out _ (q5.trans u9))).mono ?_
      rintro e Y6 ⟨rfl, y6⟩
      have z10 := z9.trans y6
      have u10 := u9.trans y6
      obtain ⟨f0, f1, c0, c1, c2⟩ := HC.out _ (x7.trans z10)
      obtain ⟨m0, m1, m2, m3, m4, m5, m6⟩ := HB.out _ z10
      obtain ⟨g5_0, g5_1, g5_2, g5_3, g5_4, g5_5, g5_6⟩ := HX5.out _ u10
      go_wp2_with fail
      clear f0 f1 c0 c1 c2 m0 m1 m2 m3 m4 m5 m6 g5_0 g5_1 g5_2 g5_3 g5_4 g5_5 g5_6
      refine (HS3.out _ _ _ ((t1.trans x7).trans z10) (HM6.out _ u10)).mono ?_
      rintro e Y7 ⟨rfl, y7⟩
      have z11 := z10.trans y7
      have u11 := u10.trans y7
      obtain ⟨f0, f1, c0, c1, c2⟩ := HC.out _ (x7.trans z11)
      obtain ⟨m0, m1, m2, m3, m4, m5, m6⟩ := HB.out _ z11
      obtain ⟨g5_0, g5_1, g5_2, g5_3, g5_4, g5_5, g5_6⟩ := HX5.out _ u11
      go_wp2_with fail
      refine (HAW.out _).mono ?_
      rintro e Y8 ⟨rfl, y8⟩
      go_wp2_with fail
      go_ret
      exact ⟨rfl, ((t1.trans x7).trans z11).trans y8⟩
  · go_simp
    refine hK.out _ _ (HC.out _ (Fr.alloc d0 _)) (fun hHeld => ?_)
    clear hK K
    try simp only [Act.put, List.setIfInBounds_toArray, List.set_cons_zero, List.set_cons_succ]
    refine wpAnyH_ready (rs := [2]) (by kernel_rfl) (by simp) ?_
    refine AllReadyH.cons (o := { dst := some 17, op := Op.call { callee := Callee.value (Operand.func 5), args := #[Operand.tmp 16], argTypes := #[28] }, type := 28, pos := "outright.go:50", after := #[{ on := 1, ground := Ground.data }], guard := none }) rfl (fun K hK => ?_) AllReadyH.nil
    go_simp
    go_at_call 5
    refine (HL.out _ (t1.trans (Fr.alloc d0 _))).mono ?_
    rintro e Z1 ⟨gp, cp, gs, cs, gk, ck, rfl, l1, q1⟩
    try go_wp2_with fail
    have u1 : Same V Z1 := Same.trans (Fr.alloc d0 _) q1
    refine hK.out _ _ (HC.out _ u1) (fun hHeld => ?_)
    clear hK K
    try simp only [Act.put, List.setIfInBounds_toArray, List.set_cons_zero, List.set_cons_succ]
    refine wpAnyH_ready (rs := [3]) (by kernel_rfl) (by simp) ?_
    refine AllReadyH.cons (o := { dst := some 18, op := Op.call { callee := Callee.value (Operand.func 4), args := #[Operand.tmp 15, Operand.tmp 17], argTypes := #[23, 28] }, type := 32, pos := "outright.go:50", after := #[{ on := 0, ground := Ground.data }, { on := 2, ground := Ground.data }, { on := 2, ground := Ground.chain }], guard := none }) rfl (fun K hK => ?_) AllReadyH.nil
    go_simp
    go_at_call 4
    refine (HSP.out _ _ _ _ _ _ _ _ (l1)).mono ?_
    rintro e Z2 ⟨⟨r1, r2, rfl, o1, o2⟩, q2⟩
    try go_wp2_with fail
    have u2 : Same V Z2 := Same.trans (u1) q2
    refine hK.out _ _ (HC.out _ u2) (fun hHeld => ?_)
    clear hK K
    try simp only [Act.put, List.setIfInBounds_toArray, List.set_cons_zero, List.set_cons_succ]
    refine wpAnyH_take (i := 4) (oi := { dst := some 14, op := Op.move (Operand.tmp 18), type := 32, pos := "outright.go:50", after := #[{ on := 3, ground := Ground.data }], guard := none }) (v := .tuple #[.agg #[.slice r1.pa N1.ps.length r1.cp, .slice r1.sa N1.ss.length r1.cs, .slice r1.ka N1.ks.length r1.ck, .string sp, .slice r2.pa N2.ps.length r2.cp, .slice r2.sa N2.ss.length r2.cs, .slice r2.ka N2.ks.length r2.ck], .int .i64 0]) rfl (by kernel_rfl) (by kernel_rfl) (by kernel_rfl) (fun _ _ _ h => h) (Or.inl ⟨by rfl, fun w hSw => by (obtain ⟨q0, q1, q2, q3, q4⟩ := hSw; go_simp)⟩) (by assumption) ?_
    try simp only [Act.put, List.setIfInBounds_toArray, List.set_cons_zero, List.set_cons_succ]
    refine wpAnyH_take (i := 5) (oi := { dst := some 19, op := Op.extract (Operand.tmp 14) 0, type := 30, pos := "outright.go:50", after := #[{ on := 4, ground := Ground.data }], guard := none }) (v := .agg #[.slice r1.pa N1.ps.length r1.cp, .slice r1.sa N1.ss.length r1.cs, .slice r1.ka N1.ks.length r1.ck, .string sp, .slice r2.pa N2.ps.length r2.cp, .slice r2.sa N2.ss.length r2.cs, .slice r2.ka N2.ks.length r2.ck]) rfl (by kernel_rfl) (by kernel_rfl) (by kernel_rfl) (fun _ _ _ h => h) (Or.inl ⟨by rfl, fun w hSw => by (obtain ⟨q0, q1, q2, q3, q4⟩ := hSw; go_simp)⟩) (by assumption) ?_
    try simp only [Act.put, List.setIfInBounds_toArray, List.set_cons_zero, List.set_cons_succ]
    refine wpAnyH_take (i := 6) (oi := { dst := some 20, op := Op.extract (Operand.tmp 14) 1, type := 31, pos := "outright.go:50", after := #[{ on := 4, ground := Ground.data }, { on := 8, ground := Ground.gcOnly Departure.lateStores }], guard := none }) (v := .int .i64 0) rfl (by kernel_rfl) (by kernel_rfl) (by kernel_rfl) (fun _ _ _ h => h) (Or.inl ⟨by rfl, fun w hSw => by (obtain ⟨q0, q1, q2, q3, q4⟩ := hSw; go_simp)⟩) (by assumption) ?_
    try simp only [Act.put, List.setIfInBounds_toArray, List.set_cons_zero, List.set_cons_succ]
    have r6 := ((q1.trans q2).block _ (by rw [World.size_alloc]; exact Nat.lt_succ_self _) (fun e => e)).trans (heap_alloc_new V.drew (.cells #[.slice none 0 0, .slice none 0 0, .slice none 0 0, .string ⟨#[]⟩, .slice none 0 0, .slice none 0 0, .slice none 0 0] 30))
    refine wpAnyH_ready (rs := [8]) (by kernel_rfl) (by simp) ?_
    refine AllReadyH.cons (o := { dst := none, op := Op.store 30 (Operand.tmp 5) (Operand.tmp 19), type := 0, pos := "outright.go:50", after := #[{ on := 7, ground := Ground.data }, { on := 5, ground := Ground.data }, { on := 3, ground := Ground.chain }, { on := 0, ground := Ground.phase }, { on := 1, ground := Ground.phase }, { on := 2, ground := Ground.phase }, { on := 3, ground := Ground.phase }, { on := 4, ground := Ground.phase }, { on := 5, ground := Ground.phase }, { on := 6, ground := Ground.textOnly Departure.lateStores }, { on := 7, ground := Ground.phase }], guard := none }) rfl (fun K hK => ?_) AllReadyH.nil
    refine step_store_whole rfl 30 _ _ rfl (V.heap.size) #[.slice r1.pa N1.ps.length r1.cp, .slice r1.sa N1.ss.length r1.cs, .slice r1.ka N1.ks.length r1.ck, .string sp, .slice r2.pa N2.ps.length r2.cp, .slice r2.sa N2.ss.length r2.cs, .slice r2.ka N2.ks.length r2.ck] _ 30 (by rfl) (by rfl) r6 rfl (by kernel_rfl) (by kernel_rfl) ?_
    intro W7 r7 f7
    have x7 : Same V W7 := Fr.trans (u2) f7 (fun i hi e => by first | omega | (have := u2.size; omega) | (have := u1.size; omega))
    refine hK.out _ _ (HC.out _ x7) (fun hHeld => ?_)
    clear hK K
    refine wpAnyH_take (i := 9) (oi := { dst := some 6, op := Op.assign (Operand.tmp 20), type := 31, pos := "outright.go:50", after := #[{ on := 6, ground := Ground.data }, { on := 8, ground := Ground.chain }, { on := 0, ground := Ground.phase }, { on := 1, ground := Ground.phase }, { on := 2, ground := Ground.phase }, { on := 3, ground := Ground.phase }, { on := 4, ground := Ground.phase }, { on := 5, ground := Ground.phase }, { on := 6, ground := Ground.phase }, { on := 7, ground := Ground.phase }, { on := 8, ground := Ground.phase }], guard := none }) (v := .int .i64 0) rfl (by kernel_rfl) (by kernel_rfl) (by kernel_rfl) (fun _ _ _ h => h) (Or.inl ⟨by rfl, fun w hSw => by (obtain ⟨q0, q1, q2, q3, q4⟩ := hSw; go_simp)⟩) (by assumption) ?_
    try simp only [Act.put, List.setIfInBounds_toArray, List.set_cons_zero, List.set_cons_succ]
    refine wpAnyH_done (by kernel_rfl) ?_ _
    have m1 : MadeNd W7 _ r1 N1 := ⟨own_frameB o1.op f7 (fun kk hk e => type_ne o1.op r6 (by decide) (by rw [hk, e] <;> rfl)), own_frameB o1.os f7 (fun kk hk e => type_ne o1.os r6 (by decide) (by rw [hk, e] <;> rfl)), own_frameB o1.ok f7 (fun kk hk e => type_ne o1.ok r6 (by decide) (by rw [hk, e] <;> rfl))⟩
    have m2 : MadeNd W7 _ r2 N2 := ⟨own_frameB o2.op f7 (fun kk hk e => type_ne o2.op r6 (by decide) (by rw [hk, e] <;> rfl)), own_frameB o2.os f7 (fun kk hk e => type_ne o2.os r6 (by decide) (by rw [hk, e] <;> rfl)), own_frameB o2.ok f7 (fun kk hk e => type_ne o2.ok r6 (by decide) (by rw [hk, e] <;> rfl))⟩
    clear o1
    clear o2
    obtain ⟨mb, hmb⟩ : ∃ mb, mb = V.heap.size := ⟨_, rfl⟩
    rw [← hmb] at r7 ⊢
    clear f7 r6 hmb
    clear u1 u2 q1 q2 l1
    have HB : Hid (∀ W, Same W7 W → W.cell? ⟨mb, 0, none⟩ = some (.slice r1.pa N1.ps.length r1.cp) ∧ W.cell? ⟨mb, 1, none⟩ = some (.slice r1.sa N1.ss.length r1.cs) ∧ W.cell? ⟨mb, 2, none⟩ = some (.slice r1.ka N1.ks.length r1.ck) ∧ W.cell? ⟨mb, 3, none⟩ = some (.string sp) ∧ W.cell? ⟨mb, 4, none⟩ = some (.slice r2.pa N2.ps.length r2.cp) ∧ W.cell? ⟨mb, 5, none⟩ = some (.slice r2.sa N2.ss.length r2.cs) ∧ W.cell? ⟨mb, 6, none⟩ = some (.slice r2.ka N2.ks.length r2.ck)) := fun W s => ⟨s.keep ((cell_of_row _ _ _ _ _ _ r7).trans rfl), s.keep ((cell_of_row _ _ _ _ _ _ r7).trans rfl), s.keep ((cell_of_row _ _ _ _ _ _ r7).trans rfl), s.keep ((cell_of_row _ _ _ _ _ _ r7).trans rfl), s.keep ((cell_of_row _ _ _ _ _ _ r7).trans rfl), s.keep ((cell_of_row _ _ _ _ _ _ r7).trans rfl), s.keep ((cell_of_row _ _ _ _ _ _ r7).trans rfl)⟩
    obtain ⟨B1, hm1⟩ : ∃ B1, MadeNd W7 B1 r1 N1 := ⟨_, m1⟩
    obtain ⟨B2, hm2⟩ : ∃ B2, MadeNd W7 B2 r2 N2 := ⟨_, m2⟩
    have HM1 : Hid (∀ W, Same W7 W → MadeNd W B1 r1 N1) := fun W s => hm1.same s
    have HM2 : Hid (∀ W, Same W7 W → MadeNd W B2 r2 N2) := fun W s => hm2.same s
    clear r7 m1 m2 hm1 hm2
    have z0 : Same W7 W7 := Fr.refl _ _
    obtain ⟨f0, f1, c0, c1, c2⟩ := HC.out _ x7
    obtain ⟨m0, m1, m2, m3, m4, m5, m6⟩ := HB.out _ z0
    go_wp2_with fail
    refine (HBO.out _ _ _ _ _ (HM1.out _ z0) (HM2.out _ z0)).mono ?_
    rintro e Y1 ⟨r3, r4, rfl, k3, k4, y1⟩
    clear f0 f1 c0 c1 c2 m0 m1 m2 m3 m4 m5 m6
    obtain ⟨X1, hX1⟩ : ∃ X1, X1 = Y1.alloc (.cells #[.slice r3.pa N1.ps.length r3.cp, .slice r3.sa N1.ss.length r3.cs, .slice r3.ka N1.ks.length r3.ck, .string sp, .slice r4.pa N2.ps.length r4.cp, .slice r4.sa N2.ss.length r4.cs, .slice r4.ka N2.ks.length r4.ck] 30) := ⟨_, rfl⟩
    obtain ⟨bb1, hbb1⟩ : ∃ bb1, bb1 = Y1.heap.size := ⟨_, rfl⟩
    have z1 : Same W7 X1 := by rw [hX1]; exact Fr.alloc (Same.trans z0 y1) _
    have rX1 : X1.heap[bb1]? = some (.cells #[.slice r3.pa N1.ps.length r3.cp, .slice r3.sa N1.ss.length r3.cs, .slice r3.ka N1.ks.length r3.ck, .string sp, .slice r4.pa N2.ps.length r4.cp, .slice r4.sa N2.ss.length r4.cs, .slice r4.ka N2.ks.length r4.ck] 30 (0, 0)) := by rw [hX1, hbb1]; exact heap_alloc_new Y1 _
    have HX1 : Hid (∀ W, Same X1 W → W.cell? ⟨bb1, 0, none⟩ = some (.slice r3.pa N1.ps.length r3.cp) ∧ W.cell? ⟨bb1, 1, none⟩ = some (.slice r3.sa N1.ss.length r3.cs) ∧ W.cell? ⟨bb1, 2, none⟩ = some (.slice r3.ka N1.ks.length r3.ck) ∧ W.cell? ⟨bb1, 3, none⟩ = some (.string sp) ∧ W.cell? ⟨bb1, 4, none⟩ = some (.slice r4.pa N2.ps.length r4.cp) ∧ W.cell? ⟨bb1, 5, none⟩ = some (.slice r4.sa N2.ss.length r4.cs) ∧ W.cell? ⟨bb1, 6, none⟩ = some (.slice r4.ka N2.ks.length r4.ck)) := fun W s => ⟨s.keep ((cell_of_row _ _ _ _ _ _ rX1).trans rfl), s.keep ((cell_of_row _ _ _ _ _ _ rX1).trans rfl), s.keep ((cell_of_row _ _ _ _ _ _ rX1).trans rfl), s.keep ((cell_of_row _ _ _ _ _ _ rX1).trans rfl), s.keep ((cell_of_row _ _ _ _ _ _ rX1).trans rfl), s.keep ((cell_of_row _ _ _ _ _ _ rX1).trans rfl), s.keep ((cell_of_row _ _ _ _ _ _ rX1).trans rfl)⟩
    have HM3 : Hid (∀ W, Same X1 W → MadeNd W W7.heap.size r3 N1) := fun W s => MadeNd.same (by rw [hX1]; exact ⟨k3.op.alloc _, k3.os.alloc _, k3.ok.alloc _⟩) s
    have HM4 : Hid (∀ W, Same X1 W → MadeNd W W7.heap.size r4 N2) := fun W s => MadeNd.same (by rw [hX1]; exact ⟨k4.op.alloc _, k4.os.alloc _, k4.ok.alloc _⟩) s
    clear rX1 k3 k4
    have q1 : Same X1 X1 := Fr.refl _ _
    obtain ⟨f0, f1, c0, c1, c2⟩ := HC.out X1 (x7.trans z1)
    obtain ⟨m0, m1, m2, m3, m4, m5, m6⟩ := HB.out X1 z1
    obtain ⟨g1_0, g1_1, g1_2, g1_3, g1_4, g1_5, g1_6⟩ := HX1.out X1 q1
    rw [hX1] at f0 f1 c0 c1 c2 m0 m1 m2 m3 m4 m5 m6 g1_0 g1_1 g1_2 g1_3 g1_4 g1_5 g1_6
    rw [hbb1] at g1_0 g1_1 g1_2 g1_3 g1_4 g1_5 g1_6
    go_wp2_with fail
    rw [← hX1, ← hbb1]
    clear hX1 hbb1 f0 f1 c0 c1 c2 m0 m1 m2 m3 m4 m5 m6 g1_0 g1_1 g1_2 g1_3 g1_4 g1_5 g1_6
    refine (HS1.out _ _ _ _ _ (HM3.out _ q1) (HM1.out _ z1)).mono ?_
    rintro e Y2 ⟨rfl, y2⟩
    have z2 := Same.trans z1 y2
    have q2 : Same X1 Y2 := y2
    obtain ⟨f0, f1, c0, c1, c2⟩ := HC.out _ (x7.trans z2)
    obtain ⟨m0, m1, m2, m3, m4, m5, m6⟩ := HB.out _ z2
    obtain ⟨g1_0, g1_1, g1_2, g1_3, g1_4, g1_5, g1_6⟩ := HX1.out _ q2
    go_wp2_with fail
    clear f0 f1 c0 c1 c2 m0 m1 m2 m3 m4 m5 m6 g1_0 g1_1 g1_2 g1_3 g1_4 g1_5 g1_6
    refine (HS2.out _ _ _ _ _ (HM4.out _ q2) (HM2.out _ z2)).mono ?_
    rintro e Y3 ⟨rfl, y3⟩
    have z3 := Same.trans z2 y3
    have q3 : Same X1 Y3 := Same.trans q2 y3
    obtain ⟨f0, f1, c0, c1, c2⟩ := HC.out _ (x7.trans z3)
    obtain ⟨m0, m1, m2, m3, m4, m5, m6⟩ := HB.out _ z3
    obtain ⟨g1_0, g1_1, g1_2, g1_3, g1_4, g1_5, g1_6⟩ := HX1.out _ q3
    go_wp2_with fail
    clear f0 f1 c0 c1 c2 m0 m1 m2 m3 m4 m5 m6 g1_0 g1_1 g1_2 g1_3 g1_4 g1_5 g1_6
    refine (HME.out _ _ _ _ _ (HM1.out _ z3) (HM2.out _ z3)).mono ?_
    rintro e Y4 ⟨r5, rfl, k5, y4⟩
    obtain ⟨X4, hX4⟩ : ∃ X4, X4 = Y4.alloc (.cells #[.slice r5.pa N.ps.length r5.cp, .slice r5.sa N.ss.length r5.cs, .slice r5.ka N.ks.length r5.ck] 28) := ⟨_, rfl⟩
    obtain ⟨bb4, hbb4⟩ : ∃ bb4, bb4 = Y4.heap.size := ⟨_, rfl⟩
    have z4 : Same W7 X4 := by rw [hX4]; exact Fr.alloc (Same.trans z3 y4) _
    have rX4 : X4.heap[bb4]? = some (.cells #[.slice r5.pa N.ps.length r5.cp, .slice r5.sa N.ss.length r5.cs, .slice r5.ka N.ks.length r5.ck] 28 (0, 0)) := by rw [hX4, hbb4]; exact heap_alloc_new Y4 _
    have HX4 : Hid (∀ W, Same X4 W → W.cell? ⟨bb4, 0, none⟩ = some (.slice r5.pa N.ps.length r5.cp) ∧ W.cell? ⟨bb4, 1, none⟩ = some (.slice r5.sa N.ss.length r5.cs) ∧ W.cell? ⟨bb4, 2, none⟩ = some (.slice r5.ka N.ks.length r5.ck)) := fun W s => ⟨s.keep ((cell_of_row _ _ _ _ _ _ rX4).trans rfl), s.keep ((cell_of_row _ _ _ _ _ _ rX4).trans rfl), s.keep ((cell_of_row _ _ _ _ _ _ rX4).trans rfl)⟩
    clear rX4
    have HM5 : Hid (∀ W, Same X4 W → MadeNd W Y3.heap.size r5 N) := fun W s => MadeNd.same (by rw [hX4]; exact ⟨k5.op.alloc _, k5.os.alloc _, k5.ok.alloc _⟩) s
    clear k5
    have q4 : Same X4 X4 := Fr.refl _ _
    obtain ⟨f0, f1, c0, c1, c2⟩ := HC.out X4 (x7.trans z4)
    obtain ⟨m0, m1, m2, m3, m4, m5, m6⟩ := HB.out X4 z4
    obtain ⟨g4_0, g4_1, g4_2⟩ := HX4.out X4 q4
    rw [hX4] at f0 f1 c0 c1 c2 m0 m1 m2 m3 m4 m5 m6 g4_0 g4_1 g4_2
    rw [hbb4] at g4_0 g4_1 g4_2
    go_wp2_with fail
    rw [← hX4, ← hbb4]
    clear hX4 hbb4 f0 f1 c0 c1 c2 m0 m1 m2 m3 m4 m5 m6 g4_0 g4_1 g4_2
    refine (HMD.out _ _ _ _ _ (HM1.out _ z4) (HM2.out _ z4)).mono ?_
    rintro e Y5 ⟨r6, rfl, k6, y5⟩
    obtain ⟨X5, hX5⟩ : ∃ X5, X5 = Y5.alloc (.cells #[.slice r6.pa N.ps.length r6.cp, .slice r6.sa N.ss.length r6.cs, .slice r6.ka N.ks.length r6.ck, .string ⟨#[]⟩, .slice none 0 0, .slice none 0 0, .slice none 0 0] 30) := ⟨_, rfl⟩
    obtain ⟨bb5, hbb5⟩ : ∃ bb5, bb5 = Y5.heap.size := ⟨_, rfl⟩
    have z5 : Same W7 X5 := by rw [hX5]; exact Fr.alloc (Same.trans z4 y5) _
    have rX5 : X5.heap[bb5]? = some (.cells #[.slice r6.pa N.ps.length r6.cp, .slice r6.sa N.ss.length r6.cs, .slice r6.ka N.ks.length r6.ck, .string ⟨#[]⟩, .slice none 0 0, .slice none 0 0, .slice none 0 0] 30 (0, 0)) := by rw [hX5, hbb5]; exact heap_alloc_new Y5 _
    have HX5 : Hid (∀ W, Same X5 W → W.cell? ⟨bb5, 0, none⟩ = some (.slice r6.pa N.ps.length r6.cp) ∧ W.cell? ⟨bb5, 1, none⟩ = some (.slice r6.sa N.ss.length r6.cs) ∧ W.cell? ⟨bb5, 2, none⟩ = some (.slice r6.ka N.ks.length r6.ck) ∧ W.cell? ⟨bb5, 3, none⟩ = some (.string ⟨#[]⟩) ∧ W.cell? ⟨bb5, 4, none⟩ = some (.slice none 0 0) ∧ W.cell? ⟨bb5, 5, none⟩ = some (.slice none 0 0) ∧ W.cell? ⟨bb5, 6, none⟩ = some (.slice none 0 0)) := fun W s => ⟨s.keep ((cell_of_row _ _ _ _ _ _ rX5).trans rfl), s.keep ((cell_of_row _ _ _ _ _ _ rX5).trans rfl), s.keep ((cell_of_row _ _ _ _ _ _ rX5).trans rfl), s.keep ((cell_of_row _ _ _ _ _ _ rX5).trans rfl), s.keep ((cell_of_row _ _ _ _ _ _ rX5).trans rfl), s.keep ((cell_of_row _ _ _ _ _ _ rX5).trans rfl), s.keep ((cell_of_row _ _ _ _ _ _ rX5).trans rfl)⟩
    clear rX5
    have HM6 : Hid (∀ W, Same X5 W → MadeNd W X4.heap.size r6 N) := fun W s => MadeNd.same (by rw [hX5]; exact ⟨k6.op.alloc _, k6.os.alloc _, k6.ok.alloc _⟩) s
    clear k6
    have q5 : Same X4 X5 := by rw [hX5]; exact Fr.alloc y5 _
    have p5 : Same X5 X5 := Fr.refl _ _
    obtain ⟨f0, f1, c0, c1, c2⟩ := HC.out X5 (x7.trans z5)
    obtain ⟨m0, m1, m2, m3, m4, m5, m6⟩ := HB.out X5 z5
    obtain ⟨g4_0, g4_1, g4_2⟩ := HX4.out X5 q5
    obtain ⟨g5_0, g5_1, g5_2, g5_3, g5_4, g5_5, g5_6⟩ := HX5.out X5 p5
    rw [hX5] at f0 f1 c0 c1 c2 m0 m1 m2 m3 m4 m5 m6 g4_0 g4_1 g4_2 g5_0 g5_1 g5_2 g5_3 g5_4 g5_5 g5_6
    rw [hbb5] at g5_0 g5_1 g5_2 g5_3 g5_4 g5_5 g5_6
    go_wp2_with fail
    rw [← hX5, ← hbb5]
    clear hX5 hbb5 f0 f1 c0 c1 c2 m0 m1 m2 m3 m4 m5 m6 g4_0 g4_1 g4_2 g5_0 g5_1 g5_2 g5_3 g5_4 g5_5 g5_6
    have d1 : Same X5 X5.drew := Fr.drew (Fr.refl _ X5)
    go_region_held3 (fun W => W.cell? ⟨w.heap.size, 0, none⟩ = some (.int .i64 p) ∧ W.cell? ⟨w.heap.size, 1, none⟩ = some (.int .i64 q) ∧ W.cell? ⟨w.heap.size + 1, 0, none⟩ = some (.slice r.pa N.ps.length r.cp) ∧ W.cell? ⟨w.heap.size + 1, 1, none⟩ = some (.slice r.sa N.ss.length r.cs) ∧ W.cell? ⟨w.heap.size + 1, 2, none⟩ = some (.slice r.ka N.ks.length r.ck)) (first | exact HC.out _ (x7.trans (z5.trans u9)) | exact HC.out _ (x7.trans (z5.trans u8)) | exact HC.out _ (x7.trans (z5.trans d1)))
      (first | (go_at_call 5; refine (HL.out _ (t1.trans (x7.trans (z5.trans d1)))).mono ?_; rintro e Z8 ⟨gp8, cp8, gs8, cs8, gk8, ck8, rfl, l8, q8⟩; have u8 := Same.trans d1 q8; clear q8) | (go_at_call 11; refine (HFL.out _ _ _ _ _ _ _ _ l8).mono ?_; rintro e Z9 ⟨rfl, q9⟩; have u9 := Same.trans u8 q9; clear q9))
    have z9 := z5.trans u9
    obtain ⟨f0, f1, c0, c1, c2⟩ := HC.out _ (x7.trans z9)
    obtain ⟨m0, m1, m2, m3, m4, m5, m6⟩ := HB.out _ z9
    obtain ⟨g4_0, g4_1, g4_2⟩ := HX4.out _ (q5.trans u9)
    obtain ⟨g5_0, g5_1, g5_2, g5_3, g5_4, g5_5, g5_6⟩ := HX5.out _ u9
    go_wp2_with fail
    clear f0 f1 c0 c1 c2 m0 m1 m2 m3 m4 m5 m6 g4_0 g4_1 g4_2 g5_0 g5_1 g5_2 g5_3 g5_4 g5_5 g5_6
    refine (HS3.out _ _ _ ((t1.trans x7).trans z9) (HM5.out _ (q5.trans u9))).mono ?_
    rintro e Y6 ⟨rfl, y6⟩
    have z10 := z9.trans y6
    have u10 := u9.trans y6
    obtain ⟨f0, f1, c0, c1, c2⟩ := HC.out _ (x7.trans z10)
    obtain ⟨m0, m1, m2, m3, m4, m5, m6⟩ := HB.out _ z10
    obtain ⟨g5_0, g5_1, g5_2, g5_3, g5_4, g5_5, g5_6⟩ := HX5.out _ u10
    go_wp2_with fail
    clear f0 f1 c0 c1 c2 m0 m1 m2 m3 m4 m5 m6 g5_0 g5_1 g5_2 g5_3 g5_4 g5_5 g5_6
    refine (HS3.out _ _ _ ((t1.trans x7).trans z10) (HM6.out _ u10)).mono ?_
    rintro e Y7 ⟨rfl, y7⟩
    have z11 := z10.trans y7
    have u11 := u10.trans y7
    obtain ⟨f0, f1, c0, c1, c2⟩ := HC.out _ (x7.trans z11)
    obtain ⟨m0, m1, m2, m3, m4, m5, m6⟩ := HB.out _ z11
    obtain ⟨g5_0, g5_1, g5_2, g5_3, g5_4, g5_5, g5_6⟩ := HX5.out _ u11
    go_wp2_with fail
    refine (HAW.out _).mono ?_
    rintro e Y8 ⟨rfl, y8⟩
    go_wp2_with fail
    go_ret
    exact ⟨rfl, ((t1.trans x7).trans z11).trans y8⟩
set_option maxRecDepth 100000 in
set_option maxHeartbeats 8000000 in
theorem gonce_true {p q : Int} {r : Nr} {N N1 N2 : Nd} {sp : ByteArray} (w : World) (h : NdIn w r N) (h1 : N.ps.length ≤ 1048576) (h2 : N.ss.length ≤ 1048576) (h3 : N.ks.length ≤ 1048576)
    (HSP : Hid (∀ W gp cp gs cs gk ck B, LentAt W B gp cp gs cs gk ck N → Calls Tryz.prog 4 #[frameV p q, ndV (lentNr gp cp gs cs gk ck) N] W fun e w' => CutIs W.heap.size N1 N2 sp e w' ∧ Same W w'))
    (HFL : Hid (∀ W gp cp gs cs gk ck B, LentAt W B gp cp gs cs gk ck N → Calls Tryz.prog 11 #[frameV p q, ndV (lentNr gp cp gs cs gk ck) N] W fun e w' => e = .returned (.bool true) ∧ Same W w'))
    (HBO : Hid (∀ W B B' r1 r2, MadeNd W B r1 N1 → MadeNd W B' r2 N2 → Calls Tryz.prog 8 #[frameV p q, .agg #[.slice r1.pa N1.ps.length r1.cp, .slice r1.sa N1.ss.length r1.cs, .slice r1.ka N1.ks.length r1.ck, .string sp, .slice r2.pa N2.ps.length r2.cp, .slice r2.sa N2.ss.length r2.cs, .slice r2.ka N2.ks.length r2.ck]] W fun e w' => ∃ r3 r4 : Nr, e = .returned (.tuple #[.agg #[.slice r3.pa N1.ps.length r3.cp, .slice r3.sa N1.ss.length r3.cs, .slice r3.ka N1.ks.length r3.ck, .string sp, .slice r4.pa N2.ps.length r4.cp, .slice r4.sa N2.ss.length r4.cs, .slice r4.ka N2.ks.length r4.ck], .int .i64 0]) ∧ MadeNd w' W.heap.size r3 N1 ∧ MadeNd w' W.heap.size r4 N2 ∧ Same W w'))
    (HME : Hid (∀ W B B' r1 r2, MadeNd W B r1 N1 → MadeNd W B' r2 N2 → Calls Tryz.prog 9 #[frameV p q, .agg #[.slice r1.pa N1.ps.length r1.cp, .slice r1.sa N1.ss.length r1.cs, .slice r1.ka N1.ks.length r1.ck, .string sp, .slice r2.pa N2.ps.length r2.cp, .slice r2.sa N2.ss.length r2.cs, .slice r2.ka N2.ks.length r2.ck]] W fun e w' => e = .returned (.tuple #[nodeV none 0 0 none 0 0 none 0 0, .int .i64 5]) ∧ Same W w'))
    (HMD : Hid (∀ W B B' r1 r2, MadeNd W B r1 N1 → MadeNd W B' r2 N2 → Calls Tryz.prog 10 #[frameV p q, .agg #[.slice r1.pa N1.ps.length r1.cp, .slice r1.sa N1.ss.length r1.cs, .slice r1.ka N1.ks.length r1.ck, .string sp, .slice r2.pa N2.ps.length r2.cp, .slice r2.sa N2.ss.length r2.cs, .slice r2.ka N2.ks.length r2.ck]] W fun e w' => ∃ r6 r8 : Nr, e = .returned (.tuple #[.agg #[.slice r6.pa N1.ps.length r6.cp, .slice r6.sa N1.ss.length r6.cs, .slice r6.ka N1.ks.length r6.ck, .string sp, .slice r8.pa N2.ps.length r8.cp, .slice r8.sa N2.ss.length r8.cs, .slice r8.ka N2.ks.length r8.ck], .bool false, .int .i64 0]) ∧ Same W w'))
    (HS1 : Hid (∀ W B B' r3 r1, MadeNd W B r3 N1 → MadeNd W B' r1 N1 → Calls Tryz.prog 6 #[ndV r3 N1, ndV r1 N1] W fun e w' => e = .returned (.bool true) ∧ Same W w'))
    (HS2 : Hid (∀ W B B' r3 r1, MadeNd W B r3 N2 → MadeNd W B' r1 N2 → Calls Tryz.prog 6 #[ndV r3 N2, ndV r1 N2] W fun e w' => e = .returned (.bool true) ∧ Same W w')) :
    Calls Tryz.prog 3 #[frameV p q, ndV r N] w fun e w' => e = .returned (.bool true) ∧ Same w w' := by
  have HL : Hid (∀ W, Same w W → Calls Tryz.prog 5 #[ndV r N] W fun e w' => ∃ gp cp gs cs gk ck, e = .returned (ndV (lentNr gp cp gs cs gk ck) N) ∧ LentAt w' W.heap.size gp cp gs cs gk ck N ∧ Same W w') := fun W s => lent_at W (h.same s) h1 h2 h3
  have HAW : Hid (∀ W, Calls Tryz.prog 7 #[] W fun e w' => e = .returned (.bool true) ∧ Same W w') := awake_calls
  obtain ⟨V, hV⟩ : ∃ V, V = (w.alloc (.cells #[.int .i64 p, .int .i64 q] 23)).alloc (.cells #[.slice r.pa N.ps.length r.cp, .slice r.sa N.ss.length r.cs, .slice r.ka N.ks.length r.ck] 28) := ⟨_, rfl⟩
  have t1 : Same w V := by rw [hV]; exact ((Fr.refl _ w).alloc _).alloc _
  have HC : Hid (∀ W, Same V W → W.cell? ⟨w.heap.size, 0, none⟩ = some (.int .i64 p) ∧ W.cell? ⟨w.heap.size, 1, none⟩ = some (.int .i64 q) ∧ W.cell? ⟨w.heap.size + 1, 0, none⟩ = some (.slice r.pa N.ps.length r.cp) ∧ W.cell? ⟨w.heap.size + 1, 1, none⟩ = some (.slice r.sa N.ss.length r.cs) ∧ W.cell? ⟨w.heap.size + 1, 2, none⟩ = some (.slice r.ka N.ks.length r.ck)) := fun W s => ⟨s.keep (by rw [hV]; simp), s.keep (by rw [hV]; simp), s.keep (by rw [hV]; simp), s.keep (by rw [hV]; simp), s.keep (by rw [hV]; simp)⟩
  have d0 : Same V V.drew := Fr.drew (Fr.refl _ V)
  clear h
  go_enter Tryz.func3, Tryz.ntmps3
  go_wp2_with fail
  rw [← hV]
  clear hV
  unfold lentNr at HL HSP HFL
  unfold CutIs halvesN at HSP
  refine wp_region_held_drew (S := fun W => W.cell? ⟨w.heap.size, 0, none⟩ = some (.int .i64 p) ∧ W.cell? ⟨w.heap.size, 1, none⟩ = some (.int .i64 q) ∧ W.cell? ⟨w.heap.size + 1, 0, none⟩ = some (.slice r.pa N.ps.length r.cp) ∧ W.cell? ⟨w.heap.size + 1, 1, none⟩ = some (.slice r.sa N.ss.length r.cs) ∧ W.cell? ⟨w.heap.size + 1, 2, none⟩ = some (.slice r.ka N.ks.length r.ck)) (by kernel_rfl) (HC.out _ d0) (fun hHeld => ?_)
  refine wpAnyH_take (i := 0) (oi := { dst := some 15, op := Op.load 23 (Operand.tmp 2), type := 23, pos := "outright.go:50", after := #[], guard := none }) (v := .agg #[.int .i64 p, .int .i64 q]) rfl (by kernel_rfl) (by kernel_rfl) (by kernel_rfl) (fun _ _ _ h => h) (Or.inl ⟨by rfl, fun w hSw => by (obtain ⟨q0, q1, q2, q3, q4⟩ := hSw; go_simp)⟩) (by assumption) ?_
  try simp only [Act.put, List.setIfInBounds_toArray, List.set_cons_zero, List.set_cons_succ]
  refine wpAnyH_take (i := 1) (oi := { dst := some 16, op := Op.load 28 (Operand.tmp 3), type := 28, pos := "outright.go:50", after := #[], guard := none }) (v := .agg #[.slice r.pa N.ps.length r.cp, .slice r.sa N.ss.length r.cs, .slice r.ka N.ks.length r.ck]) rfl (by kernel_rfl) (by kernel_rfl) (by kernel_rfl) (fun _ _ _ h => h) (Or.inl ⟨by rfl, fun w hSw => by (obtain ⟨q0, q1, q2, q3, q4⟩ := hSw; go_simp)⟩) (by assumption) ?_
  try simp only [Act.put, List.setIfInBounds_toArray, List.set_cons_zero, List.set_cons_succ]
  refine wpAnyH_ready (rs := [2, 7]) (by kernel_rfl) (by simp) ?_
  refine AllReadyH.cons (o := { dst := some 17, op := Op.call { callee := Callee.value (Operand.func 5), args := #[Operand.tmp 16], argTypes := #[28] }, type := 28, pos := "outright.go:50", after := #[{ on := 1, ground := Ground.data }], guard := none }) rfl (fun K hK => ?_) (AllReadyH.cons (o := { dst := some 5, op := Op.alloc 30, type := 0, pos := "outright.go:50", after := #[], guard := none }) rfl (fun K hK => ?_) AllReadyH.nil)
  · go_simp
    go_at_call 5
    refine (HL.out _ (t1.trans (d0))).mono ?_
    rintro e Z1 ⟨gp, cp, gs, cs, gk, ck, rfl, l1, q1⟩
    try go_wp2_with fail
    have u1 : Same V Z1 := Same.trans (d0) q1
    refine hK.out _ _ (HC.out _ u1) (fun hHeld => ?_)
    clear hK K
    try simp only [Act.put, List.setIfInBounds_toArray, List.set_cons_zero, List.set_cons_succ]
    refine wpAnyH_ready (rs := [3, 7]) (by kernel_rfl) (by simp) ?_
    refine AllReadyH.cons (o := { dst := some 18, op := Op.call { callee := Callee.value (Operand.func 4), args := #[Operand.tmp 15, Operand.tmp 17], argTypes := #[23, 28] }, type := 32, pos := "outright.go:50", after := #[{ on := 0, ground := Ground.data }, { on := 2, ground := Ground.data }, { on := 2, ground := Ground.chain }], guard := none }) rfl (fun K hK => ?_) (AllReadyH.cons (o := { dst := some 5, op := Op.alloc 30, type := 0, pos := "outright.go:50", after := #[], guard := none }) rfl (fun K hK => ?_) AllReadyH.nil)
    · go_simp
      go_at_call 4
      refine (HSP.out _ _ _ _ _ _ _ _ (l1)).mono ?_
      rintro e Z2 ⟨⟨r1, r2, rfl, o1, o2⟩, q2⟩
      try go_wp2_with fail
      have u2 : Same V Z2 := Same.trans (u1) q2
      refine hK.out _ _ (HC.out _ u2) (fun hHeld => ?_)
      clear hK K
      try simp only [Act.put, List.setIfInBounds_toArray, List.set_cons_zero, List.set_cons_succ]
      refine wpAnyH_take (i := 4) (oi := { dst := some 14, op := Op.move (Operand.tmp 18), type := 32, pos := "outright.go:50", after := #[{ on := 3, ground := Ground.data }], guard := none }) (v := .tuple #[.agg #[.slice r1.pa N1.ps.length r1.cp, .slice r1.sa N1.ss.length r1.cs, .slice r1.ka N1.ks.length r1.ck, .string sp, .slice r2.pa N2.ps.length r2.cp, .slice r2.sa N2.ss.length r2.cs, .slice r2.ka N2.ks.length r2.ck], .int .i64 0]) rfl (by kernel_rfl) (by kernel_rfl) (by kernel_rfl) (fun _ _ _ h => h) (Or.inl ⟨by rfl, fun w hSw => by (obtain ⟨q0, q1, q2, q3, q4⟩ := hSw; go_simp)⟩) (by assumption) ?_
      try simp only [Act.put, List.setIfInBounds_toArray, List.set_cons_zero, List.set_cons_succ]
      refine wpAnyH_take (i := 5) (oi := { dst := some 19, op := Op.extract (Operand.tmp 14) 0, type := 30, pos := "outright.go:50", after := #[{ on := 4, ground := Ground.data }], guard := none }) (v := .agg #[.slice r1.pa N1.ps.length r1.cp, .slice r1.sa N1.ss.length r1.cs, .slice r1.ka N1.ks.length r1.ck, .string sp, .slice r2.pa N2.ps.length r2.cp, .slice r2.sa N2.ss.length r2.cs, .slice r2.ka N2.ks.length r2.ck]) rfl (by kernel_rfl) (by kernel_rfl) (by kernel_rfl) (fun _ _ _ h => h) (Or.inl ⟨by rfl, fun w hSw => by (obtain ⟨q0, q1, q2, q3, q4⟩ := hSw; go_simp)⟩) (by assumption) ?_
      try simp only [Act.put, List.setIfInBounds_toArray, List.set_cons_zero, List.set_cons_succ]
      refine wpAnyH_take (i := 6) (oi := { dst := some 20, op := Op.extract (Operand.tmp 14) 1, type := 31, pos := "outright.go:50", after := #[{ on := 4, ground := Ground.data }, { on := 8, ground := Ground.gcOnly Departure.lateStores }], guard := none }) (v := .int .i64 0) rfl (by kernel_rfl) (by kernel_rfl) (by kernel_rfl) (fun _ _ _ h => h) (Or.inl ⟨by rfl, fun w hSw => by (obtain ⟨q0, q1, q2, q3, q4⟩ := hSw; go_simp)⟩) (by assumption) ?_
      try simp only [Act.put, List.setIfInBounds_toArray, List.set_cons_zero, List.set_cons_succ]
      refine wpAnyH_ready (rs := [7]) (by kernel_rfl) (by simp) ?_
      refine AllReadyH.cons (o := { dst := some 5, op := Op.alloc 30, type := 0, pos := "outright.go:50", after := #[], guard := none }) rfl (fun K hK => ?_) AllReadyH.nil
      go_simp
      refine hK.out _ _ (HC.out _ (Fr.alloc u2 _)) (fun hHeld => ?_)
      clear hK K
      try simp only [Act.put, List.setIfInBounds_toArray, List.set_cons_zero, List.set_cons_succ]
      have r6 := heap_alloc_new Z2 (.cells #[.slice none 0 0, .slice none 0 0, .slice none 0 0, .string ⟨#[]⟩, .slice none 0 0, .slice none 0 0, .slice none 0 0] 30)
      refine wpAnyH_ready (rs := [8]) (by kernel_rfl) (by simp) ?_
      refine AllReadyH.cons (o := { dst := none, op := Op.store 30 (Operand.tmp 5) (Operand.tmp 19), type := 0, pos := "outright.go:50", after := #[{ on := 7, ground := Ground.data }, { on := 5, ground := Ground.data }, { on := 3, ground := Ground.chain }, { on := 0, ground := Ground.phase }, { on := 1, ground := Ground.phase }, { on := 2, ground := Ground.phase }, { on := 3, ground := Ground.phase }, { on := 4, ground := Ground.phase }, { on := 5, ground := Ground.phase }, { on := 6, ground := Ground.textOnly Departure.lateStores }, { on := 7, ground := Ground.phase }], guard := none }) rfl (fun K hK => ?_) AllReadyH.nil
      refine step_store_whole rfl 30 _ _ rfl (Z2.heap.size) #[.slice r1.pa N1.ps.length r1.cp, .slice r1.sa N1.ss.length r1.cs, .slice r1.ka N1.ks.length r1.ck, .string sp, .slice r2.pa N2.ps.length r2.cp, .slice r2.sa N2.ss.length r2.cs, .slice r2.ka N2.ks.length r2.ck] _ 30 (by rfl) (by rfl) r6 rfl (by kernel_rfl) (by kernel_rfl) ?_
      intro W7 r7 f7
      have x7 : Same V W7 := Fr.trans (Fr.alloc u2 _) f7 (fun i hi e => by first | omega | (have := u2.size; omega) | (have := u1.size; omega))
      refine hK.out _ _ (HC.out _ x7) (fun hHeld => ?_)
      clear hK K
      refine wpAnyH_take (i := 9) (oi := { dst := some 6, op := Op.assign (Operand.tmp 20), type := 31, pos := "outright.go:50", after := #[{ on := 6, ground := Ground.data }, { on := 8, ground := Ground.chain }, { on := 0, ground := Ground.phase }, { on := 1, ground := Ground.phase }, { on := 2, ground := Ground.phase }, { on := 3, ground := Ground.phase }, { on := 4, ground := Ground.phase }, { on := 5, ground := Ground.phase }, { on := 6, ground := Ground.phase }, { on := 7, ground := Ground.phase }, { on := 8, ground := Ground.phase }], guard := none }) (v := .int .i64 0) rfl (by kernel_rfl) (by kernel_rfl) (by kernel_rfl) (fun _ _ _ h => h) (Or.inl ⟨by rfl, fun w hSw => by (obtain ⟨q0, q1, q2, q3, q4⟩ := hSw; go_simp)⟩) (by assumption) ?_
      try simp only [Act.put, List.setIfInBounds_toArray, List.set_cons_zero, List.set_cons_succ]
      refine wpAnyH_done (by kernel_rfl) ?_ _
      have m1 : MadeNd W7 _ r1 N1 := ⟨own_frameB (o1.op.alloc _) f7 (fun kk hk e => type_ne (o1.op.alloc _) r6 (by decide) (by rw [hk, e] <;> rfl)), own_frameB (o1.os.alloc _) f7 (fun kk hk e => type_ne (o1.os.alloc _) r6 (by decide) (by rw [hk, e] <;> rfl)), own_frameB (o1.ok.alloc _) f7 (fun kk hk e => type_ne (o1.ok.alloc _) r6 (by decide) (by rw [hk, e] <;> rfl))⟩
      have m2 : MadeNd W7 _ r2 N2 := ⟨own_frameB (o2.op.alloc _) f7 (fun kk hk e => type_ne (o2.op.alloc _) r6 (by decide) (by rw [hk, e] <;> rfl)), own_frameB (o2.os.alloc _) f7 (fun kk hk e => type_ne (o2.os.alloc _) r6 (by decide) (by rw [hk, e] <;> rfl)), own_frameB (o2.ok.alloc _) f7 (fun kk hk e => type_ne (o2.ok.alloc _) r6 (by decide) (by rw [hk, e] <;> rfl))⟩
      clear o1
      clear o2
      obtain ⟨mb, hmb⟩ : ∃ mb, mb = Z2.heap.size := ⟨_, rfl⟩
      rw [← hmb] at r7 ⊢
      clear f7 r6 hmb
      clear u1 u2 q1 q2 l1
      have HB : Hid (∀ W, Same W7 W → W.cell? ⟨mb, 0, none⟩ = some (.slice r1.pa N1.ps.length r1.cp) ∧ W.cell? ⟨mb, 1, none⟩ = some (.slice r1.sa N1.ss.length r1.cs) ∧ W.cell? ⟨mb, 2, none⟩ = some (.slice r1.ka N1.ks.length r1.ck) ∧ W.cell? ⟨mb, 3, none⟩ = some (.string sp) ∧ W.cell? ⟨mb, 4, none⟩ = some (.slice r2.pa N2.ps.length r2.cp) ∧ W.cell? ⟨mb, 5, none⟩ = some (.slice r2.sa N2.ss.length r2.cs) ∧ W.cell? ⟨mb, 6, none⟩ = some (.slice r2.ka N2.ks.length r2.ck)) := fun W s => ⟨s.keep ((cell_of_row _ _ _ _ _ _ r7).trans rfl), s.keep ((cell_of_row _ _ _ _ _ _ r7).trans rfl), s.keep ((cell_of_row _ _ _ _ _ _ r7).trans rfl), s.keep ((cell_of_row _ _ _ _ _ _ r7).trans rfl), s.keep ((cell_of_row _ _ _ _ _ _ r7).trans rfl), s.keep ((cell_of_row _ _ _ _ _ _ r7).trans rfl), s.keep ((cell_of_row _ _ _ _ _ _ r7).trans rfl)⟩
      obtain ⟨B1, hm1⟩ : ∃ B1, MadeNd W7 B1 r1 N1 := ⟨_, m1⟩
      obtain ⟨B2, hm2⟩ : ∃ B2, MadeNd W7 B2 r2 N2 := ⟨_, m2⟩
      have HM1 : Hid (∀ W, Same W7 W → MadeNd W B1 r1 N1) := fun W s => hm1.same s
      have HM2 : Hid (∀ W, Same W7 W → MadeNd W B2 r2 N2) := fun W s => hm2.same s
      clear r7 m1 m2 hm1 hm2
      have z0 : Same W7 W7 := Fr.refl _ _
      obtain ⟨f0, f1, c0, c1, c2⟩ := HC.out _ x7
      obtain ⟨m0, m1, m2, m3, m4, m5, m6⟩ := HB.out _ z0
      go_wp2_with fail
      refine (HBO.out _ _ _ _ _ (HM1.out _ z0) (HM2.out _ z0)).mono ?_
      rintro e Y1 ⟨r3, r4, rfl, k3, k4, y1⟩
      clear f0 f1 c0 c1 c2 m0 m1 m2 m3 m4 m5 m6
      obtain ⟨X1, hX1⟩ : ∃ X1, X1 = Y1.alloc (.cells #[.slice r3.pa N1.ps.length r3.cp, .slice r3.sa N1.ss.length r3.cs, .slice r3.ka N1.ks.length r3.ck, .string sp, .slice r4.pa N2.ps.length r4.cp, .slice r4.sa N2.ss.length r4.cs, .slice r4.ka N2.ks.length r4.ck] 30) := ⟨_, rfl⟩
      obtain ⟨bb1, hbb1⟩ : ∃ bb1, bb1 = Y1.heap.size := ⟨_, rfl⟩
      have z1 : Same W7 X1 := by rw [hX1]; exact Fr.alloc (Same.trans z0 y1) _
      have rX1 : X1.heap[bb1]? = some (.cells #[.slice r3.pa N1.ps.length r3.cp, .slice r3.sa N1.ss.length r3.cs, .slice r3.ka N1.ks.length r3.ck, .string sp, .slice r4.pa N2.ps.length r4.cp, .slice r4.sa N2.ss.length r4.cs, .slice r4.ka N2.ks.length r4.ck] 30 (0, 0)) := by rw [hX1, hbb1]; exact heap_alloc_new Y1 _
      have HX1 : Hid (∀ W, Same X1 W → W.cell? ⟨bb1, 0, none⟩ = some (.slice r3.pa N1.ps.length r3.cp) ∧ W.cell? ⟨bb1, 1, none⟩ = some (.slice r3.sa N1.ss.length r3.cs) ∧ W.cell? ⟨bb1, 2, none⟩ = some (.slice r3.ka N1.ks.length r3.ck) ∧ W.cell? ⟨bb1, 3, none⟩ = some (.string sp) ∧ W.cell? ⟨bb1, 4, none⟩ = some (.slice r4.pa N2.ps.length r4.cp) ∧ W.cell? ⟨bb1, 5, none⟩ = some (.slice r4.sa N2.ss.length r4.cs) ∧ W.cell? ⟨bb1, 6, none⟩ = some (.slice r4.ka N2.ks.length r4.ck)) := fun W s => ⟨s.keep ((cell_of_row _ _ _ _ _ _ rX1).trans rfl), s.keep ((cell_of_row _ _ _ _ _ _ rX1).trans rfl), s.keep ((cell_of_row _ _ _ _ _ _ rX1).trans rfl), s.keep ((cell_of_row _ _ _ _ _ _ rX1).trans rfl), s.keep ((cell_of_row _ _ _ _ _ _ rX1).trans rfl), s.keep ((cell_of_row _ _ _ _ _ _ rX1).trans rfl), s.keep ((cell_of_row _ _ _ _ _ _ rX1).trans rfl)⟩
      have HM3 : Hid (∀ W, Same X1 W → MadeNd W W7.heap.size r3 N1) := fun W s => MadeNd.same (by rw [hX1]; exact ⟨k3.op.alloc _, k3.os.alloc _, k3.ok.alloc _⟩) s
      have HM4 : Hid (∀ W, Same X1 W → MadeNd W W7.heap.size r4 N2) := fun W s => MadeNd.same (by rw [hX1]; exact ⟨k4.op.alloc _, k4.os.alloc _, k4.ok.alloc _⟩) s
      clear rX1 k3 k4
      have q1 : Same X1 X1 := Fr.refl _ _
      obtain ⟨f0, f1, c0, c1, c2⟩ := HC.out X1 (x7.trans z1)
      obtain ⟨m0, m1, m2, m3, m4, m5, m6⟩ := HB.out X1 z1
      obtain ⟨g1_0, g1_1, g1_2, g1_3, g1_4, g1_5, g1_6⟩ := HX1.out X1 q1
      rw [hX1] at f0 f1 c0 c1 c2 m0 m1 m2 m3 m4 m5 m6 g1_0 g1_1 g1_2 g1_3 g1_4 g1_5 g1_6
      rw [hbb1] at g1_0 g1_1 g1_2 g1_3 g1_4 g1_5 g1_6
      go_wp2_with fail
      rw [← hX1, ← hbb1]
      clear hX1 hbb1 f0 f1 c0 c1 c2 m0 m1 m2 m3 m4 m5 m6 g1_0 g1_1 g1_2 g1_3 g1_4 g1_5 g1_6
      refine (HS1.out _ _ _ _ _ (HM3.out _ q1) (HM1.out _ z1)).mono ?_
      rintro e Y2 ⟨rfl, y2⟩
      have z2 := Same.trans z1 y2
      have q2 : Same X1 Y2 := y2
      obtain ⟨f0, f1, c0, c1, c2⟩ := HC.out _ (x7.trans z2)
      obtain ⟨m0, m1, m2, m3, m4, m5, m6⟩ := HB.out _ z2
      obtain ⟨g1_0, g1_1, g1_2, g1_3, g1_4, g1_5, g1_6⟩ := HX1.out _ q2
      go_wp2_with fail
      clear f0 f1 c0 c1 c2 m0 m1 m2 m3 m4 m5 m6 g1_0 g1_1 g1_2 g1_3 g1_4 g1_5 g1_6
      refine (HS2.out _ _ _ _ _ (HM4.out _ q2) (HM2.out _ z2)).mono ?_
      rintro e Y3 ⟨rfl, y3⟩
      have z3 := Same.trans z2 y3
      have q3 : Same X1 Y3 := Same.trans q2 y3
      obtain ⟨f0, f1, c0, c1, c2⟩ := HC.out _ (x7.trans z3)
      obtain ⟨m0, m1, m2, m3, m4, m5, m6⟩ := HB.out _ z3
      obtain ⟨g1_0, g1_1, g1_2, g1_3, g1_4, g1_5, g1_6⟩ := HX1.out _ q3
      go_wp2_with fail
      clear f0 f1 c0 c1 c2 m0 m1 m2 m3 m4 m5 m6 g1_0 g1_1 g1_2 g1_3 g1_4 g1_5 g1_6
      refine (HME.out _ _ _ _ _ (HM1.out _ z3) (HM2.out _ z3)).mono ?_
      rintro e Y4 ⟨rfl, y4⟩
      obtain ⟨X4, hX4⟩ : ∃ X4, X4 = Y4.alloc (.cells #[.slice none 0 0, .slice none 0 0, .slice none 0 0] 28) := ⟨_, rfl⟩
      obtain ⟨bb4, hbb4⟩ : ∃ bb4, bb4 = Y4.heap.size := ⟨_, rfl⟩
      have z4 : Same W7 X4 := by rw [hX4]; exact Fr.alloc (Same.trans z3 y4) _
      have rX4 : X4.heap[bb4]? = some (.cells #[.slice none 0 0, .slice none 0 0, .slice none 0 0] 28 (0, 0)) := by rw [hX4, hbb4]; exact heap_alloc_new Y4 _
      have HX4 : Hid (∀ W, Same X4 W → W.cell? ⟨bb4, 0, none⟩ = some (.slice none 0 0) ∧ W.cell? ⟨bb4, 1, none⟩ = some (.slice none 0 0) ∧ W.cell? ⟨bb4, 2, none⟩ = some (.slice none 0 0)) := fun W s => ⟨s.keep ((cell_of_row _ _ _ _ _ _ rX4).trans rfl), s.keep ((cell_of_row _ _ _ _ _ _ rX4).trans rfl), s.keep ((cell_of_row _ _ _ _ _ _ rX4).trans rfl)⟩
      clear rX4
      have q4 : Same X4 X4 := Fr.refl _ _
      obtain ⟨f0, f1, c0, c1, c2⟩ := HC.out X4 (x7.trans z4)
      obtain ⟨m0, m1, m2, m3, m4, m5, m6⟩ := HB.out X4 z4
      obtain ⟨g4_0, g4_1, g4_2⟩ := HX4.out X4 q4
      rw [hX4] at f0 f1 c0 c1 c2 m0 m1 m2 m3 m4 m5 m6 g4_0 g4_1 g4_2
      rw [hbb4] at g4_0 g4_1 g4_2
      go_wp2_with fail
      rw [← hX4, ← hbb4]
      clear hX4 hbb4 f0 f1 c0 c1 c2 m0 m1 m2 m3 m4 m5 m6 g4_0 g4_1 g4_2
      refine (HMD.out _ _ _ _ _ (HM1.out _ z4) (HM2.out _ z4)).mono ?_
      rintro e Y5 ⟨r6, r8, rfl, y5⟩
      obtain ⟨X5, hX5⟩ : ∃ X5, X5 = Y5.alloc (.cells #[.slice r6.pa N1.ps.length r6.cp, .slice r6.sa N1.ss.length r6.cs, .slice r6.ka N1.ks.length r6.ck, .string sp, .slice r8.pa N2.ps.length r8.cp, .slice r8.sa N2.ss.length r8.cs, .slice r8.ka N2.ks.length r8.ck] 30) := ⟨_, rfl⟩
      obtain ⟨bb5, hbb5⟩ : ∃ bb5, bb5 = Y5.heap.size := ⟨_, rfl⟩
      have z5 : Same W7 X5 := by rw [hX5]; exact Fr.alloc (Same.trans z4 y5) _
      have rX5 : X5.heap[bb5]? = some (.cells #[.slice r6.pa N1.ps.length r6.cp, .slice r6.sa N1.ss.length r6.cs, .slice r6.ka N1.ks.length r6.ck, .string sp, .slice r8.pa N2.ps.length r8.cp, .slice r8.sa N2.ss.length r8.cs, .slice r8.ka N2.ks.length r8.ck] 30 (0, 0)) := by rw [hX5, hbb5]; exact heap_alloc_new Y5 _
      have HX5 : Hid (∀ W, Same X5 W → W.cell? ⟨bb5, 0, none⟩ = some (.slice r6.pa N1.ps.length r6.cp) ∧ W.cell? ⟨bb5, 1, none⟩ = some (.slice r6.sa N1.ss.length r6.cs) ∧ W.cell? ⟨bb5, 2, none⟩ = some (.slice r6.ka N1.ks.length r6.ck) ∧ W.cell? ⟨bb5, 3, none⟩ = some (.string sp) ∧ W.cell? ⟨bb5, 4, none⟩ = some (.slice r8.pa N2.ps.length r8.cp) ∧ W.cell? ⟨bb5, 5, none⟩ = some (.slice r8.sa N2.ss.length r8.cs) ∧ W.cell? ⟨bb5, 6, none⟩ = some (.slice r8.ka N2.ks.length r8.ck)) := fun W s => ⟨s.keep ((cell_of_row _ _ _ _ _ _ rX5).trans rfl), s.keep ((cell_of_row _ _ _ _ _ _ rX5).trans rfl), s.keep ((cell_of_row _ _ _ _ _ _ rX5).trans rfl), s.keep ((cell_of_row _ _ _ _ _ _ rX5).trans rfl), s.keep ((cell_of_row _ _ _ _ _ _ rX5).trans rfl), s.keep ((cell_of_row _ _ _ _ _ _ rX5).trans rfl), s.keep ((cell_of_row _ _ _ _ _ _ rX5).trans rfl)⟩
      clear rX5
      have q5 : Same X4 X5 := by rw [hX5]; exact Fr.alloc y5 _
      have p5 : Same X5 X5 := Fr.refl _ _
      obtain ⟨f0, f1, c0, c1, c2⟩ := HC.out X5 (x7.trans z5)
      obtain ⟨m0, m1, m2, m3, m4, m5, m6⟩ := HB.out X5 z5
      obtain ⟨g4_0, g4_1, g4_2⟩ := HX4.out X5 q5
      obtain ⟨g5_0, g5_1, g5_2, g5_3, g5_4, g5_5, g5_6⟩ := HX5.out X5 p5
      rw [hX5] at f0 f1 c0 c1 c2 m0 m1 m2 m3 m4 m5 m6 g4_0 g4_1 g4_2 g5_0 g5_1 g5_2 g5_3 g5_4 g5_5 g5_6
      rw [hbb5] at g5_0 g5_1 g5_2 g5_3 g5_4 g5_5 g5_6
      go_wp2_with fail
      rw [← hX5, ← hbb5]
      clear hX5 hbb5 f0 f1 c0 c1 c2 m0 m1 m2 m3 m4 m5 m6 g4_0 g4_1 g4_2 g5_0 g5_1 g5_2 g5_3 g5_4 g5_5 g5_6
      have d1 : Same X5 X5.drew := Fr.drew (Fr.refl _ X5)
      go_region_held3 (fun W => W.cell? ⟨w.heap.size, 0, none⟩ = some (.int .i64 p) ∧ W.cell? ⟨w.heap.size, 1, none⟩ = some (.int .i64 q) ∧ W.cell? ⟨w.heap.size + 1, 0, none⟩ = some (.slice r.pa N.ps.length r.cp) ∧ W.cell? ⟨w.heap.size + 1, 1, none⟩ = some (.slice r.sa N.ss.length r.cs) ∧ W.cell? ⟨w.heap.size + 1, 2, none⟩ = some (.slice r.ka N.ks.length r.ck)) (first | exact HC.out _ (x7.trans (z5.trans u9)) | exact HC.out _ (x7.trans (z5.trans u8)) | exact HC.out _ (x7.trans (z5.trans d1)))
        (first | (go_at_call 5; refine (HL.out _ (t1.trans (x7.trans (z5.trans d1)))).mono ?_; rintro e Z8 ⟨gp8, cp8, gs8, cs8, gk8, ck8, rfl, l8, q8⟩; have u8 := Same.trans d1 q8; clear q8) | (go_at_call 11; refine (HFL.out _ _ _ _ _ _ _ _ l8).mono ?_; rintro e Z9 ⟨rfl, q9⟩; have u9 := Same.trans u8 q9; clear q9))
      have z9 := z5.trans u9
      obtain ⟨f0, f1, c0, c1, c2⟩ := HC.out _ (x7.trans z9)
      obtain ⟨m0, m1, m2, m3, m4, m5, m6⟩ := HB.out _ z9
      obtain ⟨g4_0, g4_1, g4_2⟩ := HX4.out _ (q5.trans u9)
      obtain ⟨g5_0, g5_1, g5_2, g5_3, g5_4, g5_5, g5_6⟩ := HX5.out _ u9
      go_wp2_with fail
      refine (HAW.out _).mono ?_
      rintro e Y8 ⟨rfl, y8⟩
      go_wp2_with fail
      go_ret
      exact ⟨rfl, ((t1.trans x7).trans z9).trans y8⟩
    · go_simp
      refine hK.out _ _ (HC.out _ (Fr.alloc u1 _)) (fun hHeld => ?_)
      clear hK K
      try simp only [Act.put, List.setIfInBounds_toArray, List.set_cons_zero, List.set_cons_succ]
      refine wpAnyH_ready (rs := [3]) (by kernel_rfl) (by simp) ?_
      refine AllReadyH.cons (o := { dst := some 18, op := Op.call { callee := Callee.value (Operand.func 4), args := #[Operand.tmp 15, Operand.tmp 17], argTypes := #[23, 28] }, type := 32, pos := "outright.go:50", after := #[{ on := 0, ground := Ground.data }, { on := 2, ground := Ground.data }, { on := 2, ground := Ground.chain }], guard := none }) rfl (fun K hK => ?_) AllReadyH.nil
      go_simp
      go_at_call 4
      refine (HSP.out _ _ _ _ _ _ _ _ (l1.same ((Fr.refl _ Z1).alloc _))).mono ?_
      rintro e Z2 ⟨⟨r1, r2, rfl, o1, o2⟩, q2⟩
      try go_wp2_with fail
      have u2 : Same V Z2 := Same.trans (Fr.alloc u1 _) q2
      refine hK.out _ _ (HC.out _ u2) (fun hHeld => ?_)
      clear hK K
      try simp only [Act.put, List.setIfInBounds_toArray, List.set_cons_zero, List.set_cons_succ]
      refine wpAnyH_take (i := 4) (oi := { dst := some 14, op := Op.move (Operand.tmp 18), type := 32, pos := "outright.go:50", after := #[{ on := 3, ground := Ground.data }], guard := none }) (v := .tuple #[.agg #[.slice r1.pa N1.ps.length r1.cp, .slice r1.sa N1.ss.length r1.cs, .slice r1.ka N1.ks.length r1.ck, .string sp, .slice r2.pa N2.ps.length r2.cp, .slice r2.sa N2.ss.length r2.cs, .slice r2.ka N2.ks.length r2.ck], .int .i64 0]) rfl (by kernel_rfl) (by kernel_rfl) (by kernel_rfl) (fun _ _ _ h => h) (Or.inl ⟨by rfl, fun w hSw => by (obtain ⟨q0, q1, q2, q3, q4⟩ := hSw; go_simp)⟩) (by assumption) ?_
      try simp only [Act.put, List.setIfInBounds_toArray, List.set_cons_zero, List.set_cons_succ]
      refine wpAnyH_take (i := 5) (oi := { dst := some 19, op := Op.extract (Operand.tmp 14) 0, type := 30, pos := "outright.go:50", after := #[{ on := 4, ground := Ground.data }], guard := none }) (v := .agg #[.slice r1.pa N1.ps.length r1.cp, .slice r1.sa N1.ss.length r1.cs, .slice r1.ka N1.ks.length r1.ck, .string sp, .slice r2.pa N2.ps.length r2.cp, .slice r2.sa N2.ss.length r2.cs, .slice r2.ka N2.ks.length r2.ck]) rfl (by kernel_rfl) (by kernel_rfl) (by kernel_rfl) (fun _ _ _ h => h) (Or.inl ⟨by rfl, fun w hSw => by (obtain ⟨q0, q1, q2, q3, q4⟩ := hSw; go_simp)⟩) (by assumption) ?_
      try simp only [Act.put, List.setIfInBounds_toArray, List.set_cons_zero, List.set_cons_succ]
      refine wpAnyH_take (i := 6) (oi := { dst := some 20, op := Op.extract (Operand.tmp 14) 1, type := 31, pos := "outright.go:50", after := #[{ on := 4, ground := Ground.data }, { on := 8, ground := Ground.gcOnly Departure.lateStores }], guard := none }) (v := .int .i64 0) rfl (by kernel_rfl) (by kernel_rfl) (by kernel_rfl) (fun _ _ _ h => h) (Or.inl ⟨by rfl, fun w hSw => by (obtain ⟨q0, q1, q2, q3, q4⟩ := hSw; go_simp)⟩) (by assumption) ?_
      try simp only [Act.put, List.setIfInBounds_toArray, List.set_cons_zero, List.set_cons_succ]
      have r6 := (q2.block _ (by simp) (fun e => e)).trans (heap_alloc_new Z1 (.cells #[.slice none 0 0, .slice none 0 0, .slice none 0 0, .string ⟨#[]⟩, .slice none 0 0, .slice none 0 0, .slice none 0 0] 30))
      refine wpAnyH_ready (rs := [8]) (by kernel_rfl) (by simp) ?_
      refine AllReadyH.cons (o := { dst := none, op := Op.store 30 (Operand.tmp 5) (Operand.tmp 19), type := 0, pos := "outright.go:50", after := #[{ on := 7, ground := Ground.data }, { on := 5, ground := Ground.data }, { on := 3, ground := Ground.chain }, { on := 0, ground := Ground.phase }, { on := 1, ground := Ground.phase }, { on := 2, ground := Ground.phase }, { on := 3, ground := Ground.phase }, { on := 4, ground := Ground.phase }, { on := 5, ground := Ground.phase }, { on := 6, ground := Ground.textOnly Departure.lateStores }, { on := 7, ground := Ground.phase }], guard := none }) rfl (fun K hK => ?_) AllReadyH.nil
      refine step_store_whole rfl 30 _ _ rfl (Z1.heap.size) #[.slice r1.pa N1.ps.length r1.cp, .slice r1.sa N1.ss.length r1.cs, .slice r1.ka N1.ks.length r1.ck, .string sp, .slice r2.pa N2.ps.length r2.cp, .slice r2.sa N2.ss.length r2.cs, .slice r2.ka N2.ks.length r2.ck] _ 30 (by rfl) (by rfl) r6 rfl (by kernel_rfl) (by kernel_rfl) ?_
      intro W7 r7 f7
      have x7 : Same V W7 := Fr.trans (u2) f7 (fun i hi e => by first | omega | (have := u2.size; omega) | (have := u1.size; omega))
      refine hK.out _ _ (HC.out _ x7) (fun hHeld => ?_)
      clear hK K
      refine wpAnyH_take (i := 9) (oi := { dst := some 6, op := Op.assign (Operand.tmp 20), type := 31, pos := "outright.go:50", after := #[{ on := 6, ground := Ground.data }, { on := 8, ground := Ground.chain }, { on := 0, ground := Ground.phase }, { on := 1, ground := Ground.phase }, { on := 2, ground := Ground.phase }, { on := 3, ground := Ground.phase }, { on := 4, ground := Ground.phase }, { on := 5, ground := Ground.phase }, { on := 6, ground := Ground.phase }, { on := 7, ground := Ground.phase }, { on := 8, ground := Ground.phase }], guard := none }) (v := .int .i64 0) rfl (by kernel_rfl) (by kernel_rfl) (by kernel_rfl) (fun _ _ _ h => h) (Or.inl ⟨by rfl, fun w hSw => by (obtain ⟨q0, q1, q2, q3, q4⟩ := hSw; go_simp)⟩) (by assumption) ?_
      try simp only [Act.put, List.setIfInBounds_toArray, List.set_cons_zero, List.set_cons_succ]
      refine wpAnyH_done (by kernel_rfl) ?_ _
      have m1 : MadeNd W7 _ r1 N1 := ⟨own_frameB o1.op f7 (fun kk hk e => type_ne o1.op r6 (by decide) (by rw [hk, e] <;> rfl)), own_frameB o1.os f7 (fun kk hk e => type_ne o1.os r6 (by decide) (by rw [hk, e] <;> rfl)), own_frameB o1.ok f7 (fun kk hk e => type_ne o1.ok r6 (by decide) (by rw [hk, e] <;> rfl))⟩
      have m2 : MadeNd W7 _ r2 N2 := ⟨own_frameB o2.op f7 (fun kk hk e => type_ne o2.op r6 (by decide) (by rw [hk, e] <;> rfl)), own_frameB o2.os f7 (fun kk hk e => type_ne o2.os r6 (by decide) (by rw [hk, e] <;> rfl)), own_frameB o2.ok f7 (fun kk hk e => type_ne o2.ok r6 (by decide) (by rw [hk, e] <;> rfl))⟩
      clear o1
      clear o2
      obtain ⟨mb, hmb⟩ : ∃ mb, mb = Z1.heap.size := ⟨_, rfl⟩
      rw [← hmb] at r7 ⊢
      clear f7 r6 hmb
      clear u1 u2 q1 q2 l1
      have HB : Hid (∀ W, Same W7 W → W.cell? ⟨mb, 0, none⟩ = some (.slice r1.pa N1.ps.length r1.cp) ∧ W.cell? ⟨mb, 1, none⟩ = some (.slice r1.sa N1.ss.length r1.cs) ∧ W.cell? ⟨mb, 2, none⟩ = some (.slice r1.ka N1.ks.length r1.ck) ∧ W.cell? ⟨mb, 3, none⟩ = some (.string sp) ∧ W.cell? ⟨mb, 4, none⟩ = some (.slice r2.pa N2.ps.length r2.cp) ∧ W.cell? ⟨mb, 5, none⟩ = some (.slice r2.sa N2.ss.length r2.cs) ∧ W.cell? ⟨mb, 6, none⟩ = some (.slice r2.ka N2.ks.length r2.ck)) := fun W s => ⟨s.keep ((cell_of_row _ _ _ _ _ _ r7).trans rfl), s.keep ((cell_of_row _ _ _ _ _ _ r7).trans rfl), s.keep ((cell_of_row _ _ _ _ _ _ r7).trans rfl), s.keep ((cell_of_row _ _ _ _ _ _ r7).trans rfl), s.keep ((cell_of_row _ _ _ _ _ _ r7).trans rfl), s.keep ((cell_of_row _ _ _ _ _ _ r7).trans rfl), s.keep ((cell_of_row _ _ _ _ _ _ r7).trans rfl)⟩
      obtain ⟨B1, hm1⟩ : ∃ B1, MadeNd W7 B1 r1 N1 := ⟨_, m1⟩
      obtain ⟨B2, hm2⟩ : ∃ B2, MadeNd W7 B2 r2 N2 := ⟨_, m2⟩
      have HM1 : Hid (∀ W, Same W7 W → MadeNd W B1 r1 N1) := fun W s => hm1.same s
      have HM2 : Hid (∀ W, Same W7 W → MadeNd W B2 r2 N2) := fun W s => hm2.same s
      clear r7 m1 m2 hm1 hm2
      have z0 : Same W7 W7 := Fr.refl _ _
      obtain ⟨f0, f1, c0, c1, c2⟩ := HC.out _ x7
      obtain ⟨m0, m1, m2, m3, m4, m5, m6⟩ := HB.out _ z0
      go_wp2_with fail
      refine (HBO.out _ _ _ _ _ (HM1.out _ z0) (HM2.out _ z0)).mono ?_
      rintro e Y1 ⟨r3, r4, rfl, k3, k4, y1⟩
      clear f0 f1 c0 c1 c2 m0 m1 m2 m3 m4 m5 m6
      obtain ⟨X1, hX1⟩ : ∃ X1, X1 = Y1.alloc (.cells #[.slice r3.pa N1.ps.length r3.cp, .slice r3.sa N1.ss.length r3.cs, .slice r3.ka N1.ks.length r3.ck, .string sp, .slice r4.pa N2.ps.length r4.cp, .slice r4.sa N2.ss.length r4.cs, .slice r4.ka N2.ks.length r4.ck] 30) := ⟨_, rfl⟩
      obtain ⟨bb1, hbb1⟩ : ∃ bb1, bb1 = Y1.heap.size := ⟨_, rfl⟩
      have z1 : Same W7 X1 := by rw [hX1]; exact Fr.alloc (Same.trans z0 y1) _
      have rX1 : X1.heap[bb1]? = some (.cells #[.slice r3.pa N1.ps.length r3.cp, .slice r3.sa N1.ss.length r3.cs, .slice r3.ka N1.ks.length r3.ck, .string sp, .slice r4.pa N2.ps.length r4.cp, .slice r4.sa N2.ss.length r4.cs, .slice r4.ka N2.ks.length r4.ck] 30 (0, 0)) := by rw [hX1, hbb1]; exact heap_alloc_new Y1 _
      have HX1 : Hid (∀ W, Same X1 W → W.cell? ⟨bb1, 0, none⟩ = some (.slice r3.pa N1.ps.length r3.cp) ∧ W.cell? ⟨bb1, 1, none⟩ = some (.slice r3.sa N1.ss.length r3.cs) ∧ W.cell? ⟨bb1, 2, none⟩ = some (.slice r3.ka N1.ks.length r3.ck) ∧ W.cell? ⟨bb1, 3, none⟩ = some (.string sp) ∧ W.cell? ⟨bb1, 4, none⟩ = some (.slice r4.pa N2.ps.length r4.cp) ∧ W.cell? ⟨bb1, 5, none⟩ = some (.slice r4.sa N2.ss.length r4.cs) ∧ W.cell? ⟨bb1, 6, none⟩ = some (.slice r4.ka N2.ks.length r4.ck)) := fun W s => ⟨s.keep ((cell_of_row _ _ _ _ _ _ rX1).trans rfl), s.keep ((cell_of_row _ _ _ _ _ _ rX1).trans rfl), s.keep ((cell_of_row _ _ _ _ _ _ rX1).trans rfl), s.keep ((cell_of_row _ _ _ _ _ _ rX1).trans rfl), s.keep ((cell_of_row _ _ _ _ _ _ rX1).trans rfl), s.keep ((cell_of_row _ _ _ _ _ _ rX1).trans rfl), s.keep ((cell_of_row _ _ _ _ _ _ rX1).trans rfl)⟩
      have HM3 : Hid (∀ W, Same X1 W → MadeNd W W7.heap.size r3 N1) := fun W s => MadeNd.same (by rw [hX1]; exact ⟨k3.op.alloc _, k3.os.alloc _, k3.ok.alloc _⟩) s
      have HM4 : Hid (∀ W, Same X1 W → MadeNd W W7.heap.size r4 N2) := fun W s => MadeNd.same (by rw [hX1]; exact ⟨k4.op.alloc _, k4.os.alloc _, k4.ok.alloc _⟩) s
      clear rX1 k3 k4
      have q1 : Same X1 X1 := Fr.refl _ _
      obtain ⟨f0, f1, c0, c1, c2⟩ := HC.out X1 (x7.trans z1)
      obtain ⟨m0, m1, m2, m3, m4, m5, m6⟩ := HB.out X1 z1
      obtain ⟨g1_0, g1_1, g1_2, g1_3, g1_4, g1_5, g1_6⟩ := HX1.out X1 q1
      rw [hX1] at f0 f1 c0 c1 c2 m0 m1 m2 m3 m4 m5 m6 g1_0 g1_1 g1_2 g1_3 g1_4 g1_5 g1_6
      rw [hbb1] at g1_0 g1_1 g1_2 g1_3 g1_4 g1_5 g1_6
      go_wp2_with fail
      rw [← hX1, ← hbb1]
      clear hX1 hbb1 f0 f1 c0 c1 c2 m0 m1 m2 m3 m4 m5 m6 g1_0 g1_1 g1_2 g1_3 g1_4 g1_5 g1_6
      refine (HS1.out _ _ _ _ _ (HM3.out _ q1) (HM1.out _ z1)).mono ?_
      rintro e Y2 ⟨rfl, y2⟩
      have z2 := Same.trans z1 y2
      have q2 : Same X1 Y2 := y2
      obtain ⟨f0, f1, c0, c1, c2⟩ := HC.out _ (x7.trans z2)
      obtain ⟨m0, m1, m2, m3, m4, m5, m6⟩ := HB.out _ z2
      obtain ⟨g1_0, g1_1, g1_2, g1_3, g1_4, g1_5, g1_6⟩ := HX1.out _ q2
      go_wp2_with fail
      clear f0 f1 c0 c1 c2 m0 m1 m2 m3 m4 m5 m6 g1_0 g1_1 g1_2 g1_3 g1_4 g1_5 g1_6
      refine (HS2.out _ _ _ _ _ (HM4.out _ q2) (HM2.out _ z2)).mono ?_
      rintro e Y3 ⟨rfl, y3⟩
      have z3 := Same.trans z2 y3
      have q3 : Same X1 Y3 := Same.trans q2 y3
      obtain ⟨f0, f1, c0, c1, c2⟩ := HC.out _ (x7.trans z3)
      obtain ⟨m0, m1, m2, m3, m4, m5, m6⟩ := HB.out _ z3
      obtain ⟨g1_0, g1_1, g1_2, g1_3, g1_4, g1_5, g1_6⟩ := HX1.out _ q3
      go_wp2_with fail
      clear f0 f1 c0 c1 c2 m0 m1 m2 m3 m4 m5 m6 g1_0 g1_1 g1_2 g1_3 g1_4 g1_5 g1_6
      refine (HME.out _ _ _ _ _ (HM1.out _ z3) (HM2.out _ z3)).mono ?_
      rintro e Y4 ⟨rfl, y4⟩
      obtain ⟨X4, hX4⟩ : ∃ X4, X4 = Y4.alloc (.cells #[.slice none 0 0, .slice none 0 0, .slice none 0 0] 28) := ⟨_, rfl⟩
      obtain ⟨bb4, hbb4⟩ : ∃ bb4, bb4 = Y4.heap.size := ⟨_, rfl⟩
      have z4 : Same W7 X4 := by rw [hX4]; exact Fr.alloc (Same.trans z3 y4) _
      have rX4 : X4.heap[bb4]? = some (.cells #[.slice none 0 0, .slice none 0 0, .slice none 0 0] 28 (0, 0)) := by rw [hX4, hbb4]; exact heap_alloc_new Y4 _
      have HX4 : Hid (∀ W, Same X4 W → W.cell? ⟨bb4, 0, none⟩ = some (.slice none 0 0) ∧ W.cell? ⟨bb4, 1, none⟩ = some (.slice none 0 0) ∧ W.cell? ⟨bb4, 2, none⟩ = some (.slice none 0 0)) := fun W s => ⟨s.keep ((cell_of_row _ _ _ _ _ _ rX4).trans rfl), s.keep ((cell_of_row _ _ _ _ _ _ rX4).trans rfl), s.keep ((cell_of_row _ _ _ _ _ _ rX4).trans rfl)⟩
      clear rX4
      have q4 : Same X4 X4 := Fr.refl _ _
      obtain ⟨f0, f1, c0, c1, c2⟩ := HC.out X4 (x7.trans z4)
      obtain ⟨m0, m1, m2, m3, m4, m5, m6⟩ := HB.out X4 z4
      obtain ⟨g4_0, g4_1, g4_2⟩ := HX4.out X4 q4
      rw [hX4] at f0 f1 c0 c1 c2 m0 m1 m2 m3 m4 m5 m6 g4_0 g4_1 g4_2
      rw [hbb4] at g4_0 g4_1 g4_2
      go_wp2_with fail
      rw [← hX4, ← hbb4]
      clear hX4 hbb4 f0 f1 c0 c1 c2 m0 m1 m2 m3 m4 m5 m6 g4_0 g4_1 g4_2
      refine (HMD.out _ _ _ _ _ (HM1.out _ z4) (HM2.out _ z4)).mono ?_
      rintro e Y5 ⟨r6, r8, rfl, y5⟩
      obtain ⟨X5, hX5⟩ : ∃ X5, X5 = Y5.alloc (.cells #[.slice r6.pa N1.ps.length r6.cp, .slice r6.sa N1.ss.length r6.cs, .slice r6.ka N1.ks.length r6.ck, .string sp, .slice r8.pa N2.ps.length r8.cp, .slice r8.sa N2.ss.length r8.cs, .slice r8.ka N2.ks.length r8.ck] 30) := ⟨_, rfl⟩
      obtain ⟨bb5, hbb5⟩ : ∃ bb5, bb5 = Y5.heap.size := ⟨_, rfl⟩
      have z5 : Same W7 X5 := by rw [hX5]; exact Fr.alloc (Same.trans z4 y5) _
      have rX5 : X5.heap[bb5]? = some (.cells #[.slice r6.pa N1.ps.length r6.cp, .slice r6.sa N1.ss.length r6.cs, .slice r6.ka N1.ks.length r6.ck, .string sp, .slice r8.pa N2.ps.length r8.cp, .slice r8.sa N2.ss.length r8.cs, .slice r8.ka N2.ks.length r8.ck] 30 (0, 0)) := by rw [hX5, hbb5]; exact heap_alloc_new Y5 _
      have HX5 : Hid (∀ W, Same X5 W → W.cell? ⟨bb5, 0, none⟩ = some (.slice r6.pa N1.ps.length r6.cp) ∧ W.cell? ⟨bb5, 1, none⟩ = some (.slice r6.sa N1.ss.length r6.cs) ∧ W.cell? ⟨bb5, 2, none⟩ = some (.slice r6.ka N1.ks.length r6.ck) ∧ W.cell? ⟨bb5, 3, none⟩ = some (.string sp) ∧ W.cell? ⟨bb5, 4, none⟩ = some (.slice r8.pa N2.ps.length r8.cp) ∧ W.cell? ⟨bb5, 5, none⟩ = some (.slice r8.sa N2.ss.length r8.cs) ∧ W.cell? ⟨bb5, 6, none⟩ = some (.slice r8.ka N2.ks.length r8.ck)) := fun W s => ⟨s.keep ((cell_of_row _ _ _ _ _ _ rX5).trans rfl), s.keep ((cell_of_row _ _ _ _ _ _ rX5).trans rfl), s.keep ((cell_of_row _ _ _ _ _ _ rX5).trans rfl), s.keep ((cell_of_row _ _ _ _ _ _ rX5).trans rfl), s.keep ((cell_of_row _ _ _ _ _ _ rX5).trans rfl), s.keep ((cell_of_row _ _ _ _ _ _ rX5).trans rfl), s.keep ((cell_of_row _ _ _ _ _ _ rX5).trans rfl)⟩
      clear rX5
      have q5 : Same X4 X5 := by rw [hX5]; exact Fr.alloc y5 _
      have p5 : Same X5 X5 := Fr.refl _ _
      obtain ⟨f0, f1, c0, c1, c2⟩ := HC.out X5 (x7.trans z5)
      obtain ⟨m0, m1, m2, m3, m4, m5, m6⟩ := HB.out X5 z5
      obtain ⟨g4_0, g4_1, g4_2⟩ := HX4.out X5 q5
      obtain ⟨g5_0, g5_1, g5_2, g5_3, g5_4, g5_5, g5_6⟩ := HX5.out X5 p5
      rw [hX5] at f0 f1 c0 c1 c2 m0 m1 m2 m3 m4 m5 m6 g4_0 g4_1 g4_2 g5_0 g5_1 g5_2 g5_3 g5_4 g5_5 g5_6
      rw [hbb5] at g5_0 g5_1 g5_2 g5_3 g5_4 g5_5 g5_6
      go_wp2_with fail
      rw [← hX5, ← hbb5]
      clear hX5 hbb5 f0 f1 c0 c1 c2 m0 m1 m2 m3 m4 m5 m6 g4_0 g4_1 g4_2 g5_0 g5_1 g5_2 g5_3 g5_4 g5_5 g5_6
      have d1 : Same X5 X5.drew := Fr.drew (Fr.refl _ X5)
      go_region_held3 (fun W => W.cell? ⟨w.heap.size, 0, none⟩ = some (.int .i64 p) ∧ W.cell? ⟨w.heap.size, 1, none⟩ = some (.int .i64 q) ∧ W.cell? ⟨w.heap.size + 1, 0, none⟩ = some (.slice r.pa N.ps.length r.cp) ∧ W.cell? ⟨w.heap.size + 1, 1, none⟩ = some (.slice r.sa N.ss.length r.cs) ∧ W.cell? ⟨w.heap.size + 1, 2, none⟩ = some (.slice r.ka N.ks.length r.ck)) (first | exact HC.out _ (x7.trans (z5.trans u9)) | exact HC.out _ (x7.trans (z5.trans u8)) | exact HC.out _ (x7.trans (z5.trans d1)))
        (first | (go_at_call 5; refine (HL.out _ (t1.trans (x7.trans (z5.trans d1)))).mono ?_; rintro e Z8 ⟨gp8, cp8, gs8, cs8, gk8, ck8, rfl, l8, q8⟩; have u8 := Same.trans d1 q8; clear q8) | (go_at_call 11; refine (HFL.out _ _ _ _ _ _ _ _ l8).mono ?_; rintro e Z9 ⟨rfl, q9⟩; have u9 := Same.trans u8 q9; clear q9))
      have z9 := z5.trans u9
      obtain ⟨f0, f1, c0, c1, c2⟩ := HC.out _ (x7.trans z9)
      obtain ⟨m0, m1, m2, m3, m4, m5, m6⟩ := HB.out _ z9
      obtain ⟨g4_0, g4_1, g4_2⟩ := HX4.out _ (q5.trans u9)
      obtain ⟨g5_0, g5_1, g5_2, g5_3, g5_4, g5_5, g5_6⟩ := HX5.out _ u9
      go_wp2_with fail
      refine (HAW.out _).mono ?_
      rintro e Y8 ⟨rfl, y8⟩
      go_wp2_with fail
      go_ret
      exact ⟨rfl, ((t1.trans x7).trans z9).trans y8⟩
  · go_simp
    refine hK.out _ _ (HC.out _ (Fr.alloc d0 _)) (fun hHeld => ?_)
    clear hK K
    try simp only [Act.put, List.setIfInBounds_toArray, List.set_cons_zero, List.set_cons_succ]
    refine wpAnyH_ready (rs := [2]) (by kernel_rfl) (by simp) ?_
    refine AllReadyH.cons (o := { dst := some 17, op := Op.call { callee := Callee.value (Operand.func 5), args := #[Operand.tmp 16], argTypes := #[28] }, type := 28, pos := "outright.go:50", after := #[{ on := 1, ground := Ground.data }], guard := none }) rfl (fun K hK => ?_) AllReadyH.nil
    go_simp
    go_at_call 5
    refine (HL.out _ (t1.trans (Fr.alloc d0 _))).mono ?_
    rintro e Z1 ⟨gp, cp, gs, cs, gk, ck, rfl, l1, q1⟩
    try go_wp2_with fail
    have u1 : Same V Z1 := Same.trans (Fr.alloc d0 _) q1
    refine hK.out _ _ (HC.out _ u1) (fun hHeld => ?_)
    clear hK K
    try simp only [Act.put, List.setIfInBounds_toArray, List.set_cons_zero, List.set_cons_succ]
    refine wpAnyH_ready (rs := [3]) (by kernel_rfl) (by simp) ?_
    refine AllReadyH.cons (o := { dst := some 18, op := Op.call { callee := Callee.value (Operand.func 4), args := #[Operand.tmp 15, Operand.tmp 17], argTypes := #[23, 28] }, type := 32, pos := "outright.go:50", after := #[{ on := 0, ground := Ground.data }, { on := 2, ground := Ground.data }, { on := 2, ground := Ground.chain }], guard := none }) rfl (fun K hK => ?_) AllReadyH.nil
    go_simp
    go_at_call 4
    refine (HSP.out _ _ _ _ _ _ _ _ (l1)).mono ?_
    rintro e Z2 ⟨⟨r1, r2, rfl, o1, o2⟩, q2⟩
    try go_wp2_with fail
    have u2 : Same V Z2 := Same.trans (u1) q2
    refine hK.out _ _ (HC.out _ u2) (fun hHeld => ?_)
    clear hK K
    try simp only [Act.put, List.setIfInBounds_toArray, List.set_cons_zero, List.set_cons_succ]
    refine wpAnyH_take (i := 4) (oi := { dst := some 14, op := Op.move (Operand.tmp 18), type := 32, pos := "outright.go:50", after := #[{ on := 3, ground := Ground.data }], guard := none }) (v := .tuple #[.agg #[.slice r1.pa N1.ps.length r1.cp, .slice r1.sa N1.ss.length r1.cs, .slice r1.ka N1.ks.length r1.ck, .string sp, .slice r2.pa N2.ps.length r2.cp, .slice r2.sa N2.ss.length r2.cs, .slice r2.ka N2.ks.length r2.ck], .int .i64 0]) rfl (by kernel_rfl) (by kernel_rfl) (by kernel_rfl) (fun _ _ _ h => h) (Or.inl ⟨by rfl, fun w hSw => by (obtain ⟨q0, q1, q2, q3, q4⟩ := hSw; go_simp)⟩) (by assumption) ?_
    try simp only [Act.put, List.setIfInBounds_toArray, List.set_cons_zero, List.set_cons_succ]
    refine wpAnyH_take (i := 5) (oi := { dst := some 19, op := Op.extract (Operand.tmp 14) 0, type := 30, pos := "outright.go:50", after := #[{ on := 4, ground := Ground.data }], guard := none }) (v := .agg #[.slice r1.pa N1.ps.length r1.cp, .slice r1.sa N1.ss.length r1.cs, .slice r1.ka N1.ks.length r1.ck, .string sp, .slice r2.pa N2.ps.length r2.cp, .slice r2.sa N2.ss.length r2.cs, .slice r2.ka N2.ks.length r2.ck]) rfl (by kernel_rfl) (by kernel_rfl) (by kernel_rfl) (fun _ _ _ h => h) (Or.inl ⟨by rfl, fun w hSw => by (obtain ⟨q0, q1, q2, q3, q4⟩ := hSw; go_simp)⟩) (by assumption) ?_
    try simp only [Act.put, List.setIfInBounds_toArray, List.set_cons_zero, List.set_cons_succ]
    refine wpAnyH_take (i := 6) (oi := { dst := some 20, op := Op.extract (Operand.tmp 14) 1, type := 31, pos := "outright.go:50", after := #[{ on := 4, ground := Ground.data }, { on := 8, ground := Ground.gcOnly Departure.lateStores }], guard := none }) (v := .int .i64 0) rfl (by kernel_rfl) (by kernel_rfl) (by kernel_rfl) (fun _ _ _ h => h) (Or.inl ⟨by rfl, fun w hSw => by (obtain ⟨q0, q1, q2, q3, q4⟩ := hSw; go_simp)⟩) (by assumption) ?_
    try simp only [Act.put, List.setIfInBounds_toArray, List.set_cons_zero, List.set_cons_succ]
    have r6 := ((q1.trans q2).block _ (by rw [World.size_alloc]; exact Nat.lt_succ_self _) (fun e => e)).trans (heap_alloc_new V.drew (.cells #[.slice none 0 0, .slice none 0 0, .slice none 0 0, .string ⟨#[]⟩, .slice none 0 0, .slice none 0 0, .slice none 0 0] 30))
    refine wpAnyH_ready (rs := [8]) (by kernel_rfl) (by simp) ?_
    refine AllReadyH.cons (o := { dst := none, op := Op.store 30 (Operand.tmp 5) (Operand.tmp 19), type := 0, pos := "outright.go:50", after := #[{ on := 7, ground := Ground.data }, { on := 5, ground := Ground.data }, { on := 3, ground := Ground.chain }, { on := 0, ground := Ground.phase }, { on := 1, ground := Ground.phase }, { on := 2, ground := Ground.phase }, { on := 3, ground := Ground.phase }, { on := 4, ground := Ground.phase }, { on := 5, ground := Ground.phase }, { on := 6, ground := Ground.textOnly Departure.lateStores }, { on := 7, ground := Ground.phase }], guard := none }) rfl (fun K hK => ?_) AllReadyH.nil
    refine step_store_whole rfl 30 _ _ rfl (V.heap.size) #[.slice r1.pa N1.ps.length r1.cp, .slice r1.sa N1.ss.length r1.cs, .slice r1.ka N1.ks.length r1.ck, .string sp, .slice r2.pa N2.ps.length r2.cp, .slice r2.sa N2.ss.length r2.cs, .slice r2.ka N2.ks.length r2.ck] _ 30 (by rfl) (by rfl) r6 rfl (by kernel_rfl) (by kernel_rfl) ?_
    intro W7 r7 f7
    have x7 : Same V W7 := Fr.trans (u2) f7 (fun i hi e => by first | omega | (have := u2.size; omega) | (have := u1.size; omega))
    refine hK.out _ _ (HC.out _ x7) (fun hHeld => ?_)
    clear hK K
    refine wpAnyH_take (i := 9) (oi := { dst := some 6, op := Op.assign (Operand.tmp 20), type := 31, pos := "outright.go:50", after := #[{ on := 6, ground := Ground.data }, { on := 8, ground := Ground.chain }, { on := 0, ground := Ground.phase }, { on := 1, ground := Ground.phase }, { on := 2, ground := Ground.phase }, { on := 3, ground := Ground.phase }, { on := 4, ground := Ground.phase }, { on := 5, ground := Ground.phase }, { on := 6, ground := Ground.phase }, { on := 7, ground := Ground.phase }, { on := 8, ground := Ground.phase }], guard := none }) (v := .int .i64 0) rfl (by kernel_rfl) (by kernel_rfl) (by kernel_rfl) (fun _ _ _ h => h) (Or.inl ⟨by rfl, fun w hSw => by (obtain ⟨q0, q1, q2, q3, q4⟩ := hSw; go_simp)⟩) (by assumption) ?_
    try simp only [Act.put, List.setIfInBounds_toArray, List.set_cons_zero, List.set_cons_succ]
    refine wpAnyH_done (by kernel_rfl) ?_ _
    have m1 : MadeNd W7 _ r1 N1 := ⟨own_frameB o1.op f7 (fun kk hk e => type_ne o1.op r6 (by decide) (by rw [hk, e] <;> rfl)), own_frameB o1.os f7 (fun kk hk e => type_ne o1.os r6 (by decide) (by rw [hk, e] <;> rfl)), own_frameB o1.ok f7 (fun kk hk e => type_ne o1.ok r6 (by decide) (by rw [hk, e] <;> rfl))⟩
    have m2 : MadeNd W7 _ r2 N2 := ⟨own_frameB o2.op f7 (fun kk hk e => type_ne o2.op r6 (by decide) (by rw [hk, e] <;> rfl)), own_frameB o2.os f7 (fun kk hk e => type_ne o2.os r6 (by decide) (by rw [hk, e] <;> rfl)), own_frameB o2.ok f7 (fun kk hk e => type_ne o2.ok r6 (by decide) (by rw [hk, e] <;> rfl))⟩
    clear o1
    clear o2
    obtain ⟨mb, hmb⟩ : ∃ mb, mb = V.heap.size := ⟨_, rfl⟩
    rw [← hmb] at r7 ⊢
    clear f7 r6 hmb
    clear u1 u2 q1 q2 l1
    have HB : Hid (∀ W, Same W7 W → W.cell? ⟨mb, 0, none⟩ = some (.slice r1.pa N1.ps.length r1.cp) ∧ W.cell? ⟨mb, 1, none⟩ = some (.slice r1.sa N1.ss.length r1.cs) ∧ W.cell? ⟨mb, 2, none⟩ = some (.slice r1.ka N1.ks.length r1.ck) ∧ W.cell? ⟨mb, 3, none⟩ = some (.string sp) ∧ W.cell? ⟨mb, 4, none⟩ = some (.slice r2.pa N2.ps.length r2.cp) ∧ W.cell? ⟨mb, 5, none⟩ = some (.slice r2.sa N2.ss.length r2.cs) ∧ W.cell? ⟨mb, 6, none⟩ = some (.slice r2.ka N2.ks.length r2.ck)) := fun W s => ⟨s.keep ((cell_of_row _ _ _ _ _ _ r7).trans rfl), s.keep ((cell_of_row _ _ _ _ _ _ r7).trans rfl), s.keep ((cell_of_row _ _ _ _ _ _ r7).trans rfl), s.keep ((cell_of_row _ _ _ _ _ _ r7).trans rfl), s.keep ((cell_of_row _ _ _ _ _ _ r7).trans rfl), s.keep ((cell_of_row _ _ _ _ _ _ r7).trans rfl), s.keep ((cell_of_row _ _ _ _ _ _ r7).trans rfl)⟩
    obtain ⟨B1, hm1⟩ : ∃ B1, MadeNd W7 B1 r1 N1 := ⟨_, m1⟩
    obtain ⟨B2, hm2⟩ : ∃ B2, MadeNd W7 B2 r2 N2 := ⟨_, m2⟩
    have HM1 : Hid (∀ W, Same W7 W → MadeNd W B1 r1 N1) := fun W s => hm1.same s
    have HM2 : Hid (∀ W, Same W7 W → MadeNd W B2 r2 N2) := fun W s => hm2.same s
    clear r7 m1 m2 hm1 hm2
    have z0 : Same W7 W7 := Fr.refl _ _
    obtain ⟨f0, f1, c0, c1, c2⟩ := HC.out _ x7
    obtain ⟨m0, m1, m2, m3, m4, m5, m6⟩ := HB.out _ z0
    go_wp2_with fail
    refine (HBO.out _ _ _ _ _ (HM1.out _ z0) (HM2.out _ z0)).mono ?_
    rintro e Y1 ⟨r3, r4, rfl, k3, k4, y1⟩
    clear f0 f1 c0 c1 c2 m0 m1 m2 m3 m4 m5 m6
    obtain ⟨X1, hX1⟩ : ∃ X1, X1 = Y1.alloc (.cells #[.slice r3.pa N1.ps.length r3.cp, .slice r3.sa N1.ss.length r3.cs, .slice r3.ka N1.ks.length r3.ck, .string sp, .slice r4.pa N2.ps.length r4.cp, .slice r4.sa N2.ss.length r4.cs, .slice r4.ka N2.ks.length r4.ck] 30) := ⟨_, rfl⟩
    obtain ⟨bb1, hbb1⟩ : ∃ bb1, bb1 = Y1.heap.size := ⟨_, rfl⟩
    have z1 : Same W7 X1 := by rw [hX1]; exact Fr.alloc (Same.trans z0 y1) _
    have rX1 : X1.heap[bb1]? = some (.cells #[.slice r3.pa N1.ps.length r3.cp, .slice r3.sa N1.ss.length r3.cs, .slice r3.ka N1.ks.length r3.ck, .string sp, .slice r4.pa N2.ps.length r4.cp, .slice r4.sa N2.ss.length r4.cs, .slice r4.ka N2.ks.length r4.ck] 30 (0, 0)) := by rw [hX1, hbb1]; exact heap_alloc_new Y1 _
    have HX1 : Hid (∀ W, Same X1 W → W.cell? ⟨bb1, 0, none⟩ = some (.slice r3.pa N1.ps.length r3.cp) ∧ W.cell? ⟨bb1, 1, none⟩ = some (.slice r3.sa N1.ss.length r3.cs) ∧ W.cell? ⟨bb1, 2, none⟩ = some (.slice r3.ka N1.ks.length r3.ck) ∧ W.cell? ⟨bb1, 3, none⟩ = some (.string sp) ∧ W.cell? ⟨bb1, 4, none⟩ = some (.slice r4.pa N2.ps.length r4.cp) ∧ W.cell? ⟨bb1, 5, none⟩ = some (.slice r4.sa N2.ss.length r4.cs) ∧ W.cell? ⟨bb1, 6, none⟩ = some (.slice r4.ka N2.ks.length r4.ck)) := fun W s => ⟨s.keep ((cell_of_row _ _ _ _ _ _ rX1).trans rfl), s.keep ((cell_of_row _ _ _ _ _ _ rX1).trans rfl), s.keep ((cell_of_row _ _ _ _ _ _ rX1).trans rfl), s.keep ((cell_of_row _ _ _ _ _ _ rX1).trans rfl), s.keep ((cell_of_row _ _ _ _ _ _ rX1).trans rfl), s.keep ((cell_of_row _ _ _ _ _ _ rX1).trans rfl), s.keep ((cell_of_row _ _ _ _ _ _ rX1).trans rfl)⟩
    have HM3 : Hid (∀ W, Same X1 W → MadeNd W W7.heap.size r3 N1) := fun W s => MadeNd.same (by rw [hX1]; exact ⟨k3.op.alloc _, k3.os.alloc _, k3.ok.alloc _⟩) s
    have HM4 : Hid (∀ W, Same X1 W → MadeNd W W7.heap.size r4 N2) := fun W s => MadeNd.same (by rw [hX1]; exact ⟨k4.op.alloc _, k4.os.alloc _, k4.ok.alloc _⟩) s
    clear rX1 k3 k4
    have q1 : Same X1 X1 := Fr.refl _ _
    obtain ⟨f0, f1, c0, c1, c2⟩ := HC.out X1 (x7.trans z1)
    obtain ⟨m0, m1, m2, m3, m4, m5, m6⟩ := HB.out X1 z1
    obtain ⟨g1_0, g1_1, g1_2, g1_3, g1_4, g1_5, g1_6⟩ := HX1.out X1 q1
    rw [hX1] at f0 f1 c0 c1 c2 m0 m1 m2 m3 m4 m5 m6 g1_0 g1_1 g1_2 g1_3 g1_4 g1_5 g1_6
    rw [hbb1] at g1_0 g1_1 g1_2 g1_3 g1_4 g1_5 g1_6
    go_wp2_with fail
    rw [← hX1, ← hbb1]
    clear hX1 hbb1 f0 f1 c0 c1 c2 m0 m1 m2 m3 m4 m5 m6 g1_0 g1_1 g1_2 g1_3 g1_4 g1_5 g1_6
    refine (HS1.out _ _ _ _ _ (HM3.out _ q1) (HM1.out _ z1)).mono ?_
    rintro e Y2 ⟨rfl, y2⟩
    have z2 := Same.trans z1 y2
    have q2 : Same X1 Y2 := y2
    obtain ⟨f0, f1, c0, c1, c2⟩ := HC.out _ (x7.trans z2)
    obtain ⟨m0, m1, m2, m3, m4, m5, m6⟩ := HB.out _ z2
    obtain ⟨g1_0, g1_1, g1_2, g1_3, g1_4, g1_5, g1_6⟩ := HX1.out _ q2
    go_wp2_with fail
    clear f0 f1 c0 c1 c2 m0 m1 m2 m3 m4 m5 m6 g1_0 g1_1 g1_2 g1_3 g1_4 g1_5 g1_6
    refine (HS2.out _ _ _ _ _ (HM4.out _ q2) (HM2.out _ z2)).mono ?_
    rintro e Y3 ⟨rfl, y3⟩
    have z3 := Same.trans z2 y3
    have q3 : Same X1 Y3 := Same.trans q2 y3
    obtain ⟨f0, f1, c0, c1, c2⟩ := HC.out _ (x7.trans z3)
    obtain ⟨m0, m1, m2, m3, m4, m5, m6⟩ := HB.out _ z3
    obtain ⟨g1_0, g1_1, g1_2, g1_3, g1_4, g1_5, g1_6⟩ := HX1.out _ q3
    go_wp2_with fail
    clear f0 f1 c0 c1 c2 m0 m1 m2 m3 m4 m5 m6 g1_0 g1_1 g1_2 g1_3 g1_4 g1_5 g1_6
    refine (HME.out _ _ _ _ _ (HM1.out _ z3) (HM2.out _ z3)).mono ?_
    rintro e Y4 ⟨rfl, y4⟩
    obtain ⟨X4, hX4⟩ : ∃ X4, X4 = Y4.alloc (.cells #[.slice none 0 0, .slice none 0 0, .slice none 0 0] 28) := ⟨_, rfl⟩
    obtain ⟨bb4, hbb4⟩ : ∃ bb4, bb4 = Y4.heap.size := ⟨_, rfl⟩
    have z4 : Same W7 X4 := by rw [hX4]; exact Fr.alloc (Same.trans z3 y4) _
    have rX4 : X4.heap[bb4]? = some (.cells #[.slice none 0 0, .slice none 0 0, .slice none 0 0] 28 (0, 0)) := by rw [hX4, hbb4]; exact heap_alloc_new Y4 _
    have HX4 : Hid (∀ W, Same X4 W → W.cell? ⟨bb4, 0, none⟩ = some (.slice none 0 0) ∧ W.cell? ⟨bb4, 1, none⟩ = some (.slice none 0 0) ∧ W.cell? ⟨bb4, 2, none⟩ = some (.slice none 0 0)) := fun W s => ⟨s.keep ((cell_of_row _ _ _ _ _ _ rX4).trans rfl), s.keep ((cell_of_row _ _ _ _ _ _ rX4).trans rfl), s.keep ((cell_of_row _ _ _ _ _ _ rX4).trans rfl)⟩
    clear rX4
    have q4 : Same X4 X4 := Fr.refl _ _
    obtain ⟨f0, f1, c0, c1, c2⟩ := HC.out X4 (x7.trans z4)
    obtain ⟨m0, m1, m2, m3, m4, m5, m6⟩ := HB.out X4 z4
    obtain ⟨g4_0, g4_1, g4_2⟩ := HX4.out X4 q4
    rw [hX4] at f0 f1 c0 c1 c2 m0 m1 m2 m3 m4 m5 m6 g4_0 g4_1 g4_2
    rw [hbb4] at g4_0 g4_1 g4_2
    go_wp2_with fail
    rw [← hX4, ← hbb4]
    clear hX4 hbb4 f0 f1 c0 c1 c2 m0 m1 m2 m3 m4 m5 m6 g4_0 g4_1 g4_2
    refine (HMD.out _ _ _ _ _ (HM1.out _ z4) (HM2.out _ z4)).mono ?_
    rintro e Y5 ⟨r6, r8, rfl, y5⟩
    obtain ⟨X5, hX5⟩ : ∃ X5, X5 = Y5.alloc (.cells #[.slice r6.pa N1.ps.length r6.cp, .slice r6.sa N1.ss.length r6.cs, .slice r6.ka N1.ks.length r6.ck, .string sp, .slice r8.pa N2.ps.length r8.cp, .slice r8.sa N2.ss.length r8.cs, .slice r8.ka N2.ks.length r8.ck] 30) := ⟨_, rfl⟩
    obtain ⟨bb5, hbb5⟩ : ∃ bb5, bb5 = Y5.heap.size := ⟨_, rfl⟩
    have z5 : Same W7 X5 := by rw [hX5]; exact Fr.alloc (Same.trans z4 y5) _
    have rX5 : X5.heap[bb5]? = some (.cells #[.slice r6.pa N1.ps.length r6.cp, .slice r6.sa N1.ss.length r6.cs, .slice r6.ka N1.ks.length r6.ck, .string sp, .slice r8.pa N2.ps.length r8.cp, .slice r8.sa N2.ss.length r8.cs, .slice r8.ka N2.ks.length r8.ck] 30 (0, 0)) := by rw [hX5, hbb5]; exact heap_alloc_new Y5 _
    have HX5 : Hid (∀ W, Same X5 W → W.cell? ⟨bb5, 0, none⟩ = some (.slice r6.pa N1.ps.length r6.cp) ∧ W.cell? ⟨bb5, 1, none⟩ = some (.slice r6.sa N1.ss.length r6.cs) ∧ W.cell? ⟨bb5, 2, none⟩ = some (.slice r6.ka N1.ks.length r6.ck) ∧ W.cell? ⟨bb5, 3, none⟩ = some (.string sp) ∧ W.cell? ⟨bb5, 4, none⟩ = some (.slice r8.pa N2.ps.length r8.cp) ∧ W.cell? ⟨bb5, 5, none⟩ = some (.slice r8.sa N2.ss.length r8.cs) ∧ W.cell? ⟨bb5, 6, none⟩ = some (.slice r8.ka N2.ks.length r8.ck)) := fun W s => ⟨s.keep ((cell_of_row _ _ _ _ _ _ rX5).trans rfl), s.keep ((cell_of_row _ _ _ _ _ _ rX5).trans rfl), s.keep ((cell_of_row _ _ _ _ _ _ rX5).trans rfl), s.keep ((cell_of_row _ _ _ _ _ _ rX5).trans rfl), s.keep ((cell_of_row _ _ _ _ _ _ rX5).trans rfl), s.keep ((cell_of_row _ _ _ _ _ _ rX5).trans rfl), s.keep ((cell_of_row _ _ _ _ _ _ rX5).trans rfl)⟩
    clear rX5
    have q5 : Same X4 X5 := by rw [hX5]; exact Fr.alloc y5 _
    have p5 : Same X5 X5 := Fr.refl _ _
    obtain ⟨f0, f1, c0, c1, c2⟩ := HC.out X5 (x7.trans z5)
    obtain ⟨m0, m1, m2, m3, m4, m5, m6⟩ := HB.out X5 z5
    obtain ⟨g4_0, g4_1, g4_2⟩ := HX4.out X5 q5
    obtain ⟨g5_0, g5_1, g5_2, g5_3, g5_4, g5_5, g5_6⟩ := HX5.out X5 p5
    rw [hX5] at f0 f1 c0 c1 c2 m0 m1 m2 m3 m4 m5 m6 g4_0 g4_1 g4_2 g5_0 g5_1 g5_2 g5_3 g5_4 g5_5 g5_6
    rw [hbb5] at g5_0 g5_1 g5_2 g5_3 g5_4 g5_5 g5_6
    go_wp2_with fail
    rw [← hX5, ← hbb5]
    clear hX5 hbb5 f0 f1 c0 c1 c2 m0 m1 m2 m3 m4 m5 m6 g4_0 g4_1 g4_2 g5_0 g5_1 g5_2 g5_3 g5_4 g5_5 g5_6
    have d1 : Same X5 X5.drew := Fr.drew (Fr.refl _ X5)
    go_region_held3 (fun W => W.cell? ⟨w.heap.size, 0, none⟩ = some (.int .i64 p) ∧ W.cell? ⟨w.heap.size, 1, none⟩ = some (.int .i64 q) ∧ W.cell? ⟨w.heap.size + 1, 0, none⟩ = some (.slice r.pa N.ps.length r.cp) ∧ W.cell? ⟨w.heap.size + 1, 1, none⟩ = some (.slice r.sa N.ss.length r.cs) ∧ W.cell? ⟨w.heap.size + 1, 2, none⟩ = some (.slice r.ka N.ks.length r.ck)) (first | exact HC.out _ (x7.trans (z5.trans u9)) | exact HC.out _ (x7.trans (z5.trans u8)) | exact HC.out _ (x7.trans (z5.trans d1)))
      (first | (go_at_call 5; refine (HL.out _ (t1.trans (x7.trans (z5.trans d1)))).mono ?_; rintro e Z8 ⟨gp8, cp8, gs8, cs8, gk8, ck8, rfl, l8, q8⟩; have u8 := Same.trans d1 q8; clear q8) | (go_at_call 11; refine (HFL.out _ _ _ _ _ _ _ _ l8).mono ?_; rintro e Z9 ⟨rfl, q9⟩; have u9 := Same.trans u8 q9; clear q9))
    have z9 := z5.trans u9
    obtain ⟨f0, f1, c0, c1, c2⟩ := HC.out _ (x7.trans z9)
    obtain ⟨m0, m1, m2, m3, m4, m5, m6⟩ := HB.out _ z9
    obtain ⟨g4_0, g4_1, g4_2⟩ := HX4.out _ (q5.trans u9)
    obtain ⟨g5_0, g5_1, g5_2, g5_3, g5_4, g5_5, g5_6⟩ := HX5.out _ u9
    go_wp2_with fail
    refine (HAW.out _).mono ?_
    rintro e Y8 ⟨rfl, y8⟩
    go_wp2_with fail
    go_ret
    exact ⟨rfl, ((t1.trans x7).trans z9).trans y8⟩
theorem own_none {w : World} {base : Nat} {e : TypeId} {sz n c : Nat} {ao : Option Addr} {xs : List Value} (h : w.ownsRow base e sz (.slice ao n c) n xs) : ao = none → c = 0 := fun ha => by
  obtain ⟨_, ⟨h2, _⟩ | ⟨g, c, cur, hv, _⟩⟩ := h
  · injection h2 with _ _ e3
  · injection hv with e1
    rw [ha] at e1; cases e1
theorem MadeNd.all {w : World} {B : Nat} {r : Nr} {N : Nd} {q : Int} (h : MadeNd w B r N) (hs : NdSmall N) (hk : ∀ x ∈ N.ks, KidOk x) : ∃ r' : Nr, ndV r' N = ndV r N ∧ NdOk w r' q N ∧ NdRoom r' N := by
  obtain ⟨g1, r1⟩ := own_prow (own_base h.op (Nat.zero_le _)) rfl
  obtain ⟨g2, r2⟩ := own_trow (own_base h.os (Nat.zero_le _)) rfl
  obtain ⟨g3, r3⟩ := own_krow hk (own_base h.ok (Nat.zero_le _)) rfl
  have c2 := own_cap (own_base h.os (Nat.zero_le _))
  obtain ⟨l1, l2, l3, _⟩ := hs.lens
  exact ⟨{ r with pb := g1, po := 0, sb := g2, so := 0, kb := g3, ko := 0 }, rfl, ⟨⟨r1, r2, r3, hk, by omega, by omega, by omega⟩, ⟨c2.1, by have := c2.2; unfold maxLen at this; show r.cs ≤ _; omega⟩, hs.form hk _ _, hs.form hk _ _⟩, ⟨own_capB h.op, own_capB h.os, own_capB h.ok, own_none h.op, own_none h.os, own_none h.ok, own_addr h.op, own_addr h.os, own_addr h.ok⟩⟩
theorem MadeNd.base {w : World} {B B' : Nat} {r : Nr} {N : Nd} (h : MadeNd w B r N) (hb : B' ≤ B) : MadeNd w B' r N := ⟨own_base h.op hb, own_base h.os hb, own_base h.ok hb⟩
theorem same_made {w : World} {B B' : Nat} {r r' : Nr} {N : Nd} (hs : NdSmall N) (hk : ∀ x ∈ N.ks, KidOk x) (h : MadeNd w B r N) (h' : MadeNd w B' r' N) : Calls Tryz.prog 6 #[ndV r N, ndV r' N] w fun e w' => e = .returned (.bool true) ∧ Same w w' := by
  obtain ⟨a, ea, oka⟩ := h.nd (q := 1) hs hk
  obtain ⟨b, eb, okb⟩ := h'.nd (q := 1) hs hk
  have := rsame_true w oka.at_ okb.at_
  rw [ea, eb] at this
  exact this
set_option maxRecDepth 100000 in
theorem gonce_walk {p q : Int} {r : Nr} {N : Nd} (w : World) (h : NdIn w r N) (hs : NdSmall N) : Calls Tryz.prog 3 #[frameV p q, ndV r N] w fun e w' => e = .returned (.bool true) ∧ Same w w' := by
  obtain ⟨h1, h2, h3, _, _⟩ := hs.lens
  have hk := h.at_.ok
  rcases split_full (p := p) (q := q) hs hk with H | ⟨hf, hc, N1, N2, sp, co, H⟩
  · exact gonce_bad w h h1 h2 h3 (fun W gp cp gs cs gk ck B l => H _ W (l.nd h.at_) l.room) (fun W => by have := rsame_true W (noNd_ok W 1).at_ (noNd_ok W 1).at_; exact this)
  · have HFL : ∀ W gp cp gs cs gk ck B, LentAt W B gp cp gs cs gk ck N → Calls Tryz.prog 11 #[frameV p q, ndV (lentNr gp cp gs cs gk ck) N] W fun e w' => e = .returned (.bool (fullV p q N)) ∧ Same W w' := fun W gp cp gs cs gk ck B l => full_calls W (l.ok h.at_ (hs.form hk _ _) (hs.form hk _ _))
    have HFM : ∀ W B r, MadeNd W B r N → Calls Tryz.prog 11 #[frameV p q, ndV r N] W fun e w' => e = .returned (.bool (fullV p q N)) ∧ Same W w' := fun W B r m => by
      obtain ⟨r', e, ok, _⟩ := m.all (q := q) hs hk
      have := full_calls (p := p) W ok
      rw [e] at this
      exact this
    have HSM : ∀ W B r, MadeNd W B r N → Calls Tryz.prog 4 #[frameV p q, ndV r N] W fun e w' => CutIs W.heap.size N1 N2 sp e w' ∧ Same W w' := fun W B r m => by
      obtain ⟨r', e, ok, rm⟩ := m.all (q := q) hs hk
      have := H r' W ok.at_ rm
      rw [e] at this
      exact this
    unfold CutIs halvesN at HSM
    have HJ : ∀ W B B' r1 r2, MadeNd W B r1 N1 → MadeNd W B' r2 N2 → ∀ W2, Same W W2 → Calls Tryz.prog 21 #[frameV p q, .agg #[.slice r1.pa N1.ps.length r1.cp, .slice r1.sa N1.ss.length r1.cs, .slice r1.ka N1.ks.length r1.ck, .string sp, .slice r2.pa N2.ps.length r2.cp, .slice r2.sa N2.ss.length r2.cs, .slice r2.ka N2.ks.length r2.ck]] W2 fun e w' => ∃ r, e = .returned (.tuple #[ndV r N, .int .i64 0]) ∧ MadeNd w' W.heap.size r N ∧ Same W2 w' := fun W B B' r1 r2 m1 m2 W2 s => by
      refine (joined_good W2 hf co hs ((m1.same s).base (Nat.zero_le _)) ((m2.same s).base (Nat.zero_le _))).mono ?_
      rintro e w' ⟨r, he, m, s'⟩
      exact ⟨r, he, m.base s.size, s'⟩
    have HBO : ∀ W B B' r1 r2, MadeNd W B r1 N1 → MadeNd W B' r2 N2 → Calls Tryz.prog 8 #[frameV p q, .agg #[.slice r1.pa N1.ps.length r1.cp, .slice r1.sa N1.ss.length r1.cs, .slice r1.ka N1.ks.length r1.ck, .string sp, .slice r2.pa N2.ps.length r2.cp, .slice r2.sa N2.ss.length r2.cs, .slice r2.ka N2.ks.length r2.ck]] W fun e w' => ∃ r3 r4 : Nr, e = .returned (.tuple #[.agg #[.slice r3.pa N1.ps.length r3.cp, .slice r3.sa N1.ss.length r3.cs, .slice r3.ka N1.ks.length r3.ck, .string sp, .slice r4.pa N2.ps.length r4.cp, .slice r4.sa N2.ss.length r4.cs, .slice r4.ka N2.ks.length r4.ck], .int .i64 0]) ∧ MadeNd w' W.heap.size r3 N1 ∧ MadeNd w' W.heap.size r4 N2 ∧ Same W w' := fun W B B' r1 r2 m1 m2 => borrow_ok W (HJ W B B' r1 r2 m1 m2) HSM
    cases hF : fullV p q N with
    | false =>
      rw [hF] at HFL HFM
      exact gonce_false w h h1 h2 h3 (fun W gp cp gs cs gk ck B l => H _ W (l.nd h.at_) l.room) HFL HBO (fun W B B' r1 r2 m1 m2 => merge_ok W (HJ W B B' r1 r2 m1 m2) HFM) (fun W B B' r1 r2 m1 m2 => mend_ok W (fun W2 s => (merge_ok W2 (fun W3 s3 => HJ W2 0 0 r1 r2 ((m1.same s).base (Nat.zero_le _)) ((m2.same s).base (Nat.zero_le _)) W3 s3) HFM).mono (by
        rintro e w' ⟨r, he, m, s'⟩
        exact ⟨r, he, m.base s.size, s'⟩))) (fun W B B' r3 r1 a b => same_made co.s1 co.k1 a b) (fun W B B' r3 r1 a b => same_made co.s2 co.k2 a b) (fun W B r3 s a => by
        obtain ⟨r', e, ok⟩ := a.nd (q := 1) hs hk
        have := rsame_true W ok.at_ (h.at_.same s)
        rw [e] at this
        exact this)
    | true =>
      rw [hF] at HFL HFM
      exact gonce_true w h h1 h2 h3 (fun W gp cp gs cs gk ck B l => H _ W (l.nd h.at_) l.room) HFL HBO (fun W B B' r1 r2 m1 m2 => merge_full W (HJ W B B' r1 r2 m1 m2) HFM) (fun W B B' r1 r2 m1 m2 => (mend_full W (fun W2 s => merge_full W2 (fun W3 s3 => HJ W2 0 0 r1 r2 ((m1.same s).base (Nat.zero_le _)) ((m2.same s).base (Nat.zero_le _)) W3 s3) HFM) (fun W2 s => (HBO W2 0 0 r1 r2 ((m1.same s).base (Nat.zero_le _)) ((m2.same s).base (Nat.zero_le _))).mono (by
        rintro e w' ⟨r3, r4, he, a, b, s'⟩
        exact ⟨r3, r4, he, a.base s.size, b.base s.size, s'⟩))).mono (by
        rintro e w' ⟨r3, r4, he, _, _, s'⟩
        exact ⟨r3, r4, he, s'⟩)) (fun W B B' r3 r1 a b => same_made co.s1 co.k1 a b) (fun W B B' r3 r1 a b => same_made co.s2 co.k2 a b)
end Go.Proofs.YtnofdjfnlmjapaaGreat
