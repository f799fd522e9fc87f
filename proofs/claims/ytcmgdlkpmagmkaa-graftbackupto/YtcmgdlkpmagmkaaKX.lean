/- The walk of GraftBack where Put refuses; GraftBack. -/
import Derived.Test.YtcmgdlkpmagmkaaKW
namespace Go.Proofs.Ytcmgdlkpmagmkaa
open Go.RowKit

theorem zero_same (W : World) : Calls Try.prog 20 #[nodeV none 0 0 none 0 0 none 0 0, nodeV none 0 0 none 0 0 none 0 0] W fun e w' => e = .returned (.bool true) ∧ Same W w' := by
  show Calls Try.prog 20 #[ndV ⟨none, 0, 0, 0, none, 0, 0, 0, none, 0, 0, 0⟩ ⟨[], [], []⟩, ndV ⟨none, 0, 0, 0, none, 0, 0, 0, none, 0, 0, 0⟩ ⟨[], [], []⟩] W _
  exact rsame_true W (zero_nd W) (zero_nd W)
set_option maxRecDepth 100000 in
set_option maxHeartbeats 1000000 in
theorem gback_bad {p q E : Int} {r : Nr} {N : Nd} {k v : ByteArray} (w : World) (h : NdIn w r N) (h1 : N.ps.length ≤ 1048576) (h2 : N.ss.length ≤ 1048576) (h3 : N.ks.length ≤ 1048576) (hE : putE p q N k v = E) (h0 : ¬ E = 0) :
    Calls Try.prog 8 #[frameV p q, ndV r N, .agg #[.string k, .string v]] w fun e w' => e = .returned (.bool true) ∧ Same w w' := by
  have HL : Hid (∀ W, Same w W → Calls Try.prog 12 #[ndV r N] W fun e w' => ∃ gp cp gs cs gk ck, e = .returned (ndV (lentNr gp cp gs cs gk ck) N) ∧ LentAt w' W.heap.size gp cp gs cs gk ck N ∧ Same W w') := fun W s => lent_at W (h.same s) h1 h2 h3
  have HP1 : Hid (∀ W gp cp gs cs gk ck B, LentAt W B gp cp gs cs gk ck N → Calls Try.prog 19 #[frameV p q, ndV (lentNr gp cp gs cs gk ck) N, .agg #[.string k, .string v]] W fun e w' => e = .returned (.tuple #[nodeV none 0 0 none 0 0 none 0 0, .bool false, .int .i64 E]) ∧ Same W w') := fun W gp cp gs cs gk ck B l => by
    have := put_bad (p := p) (q := q) (k := k) (v := v) W (l.nd h.at_) (by rw [hE]; exact h0)
    rw [hE] at this; exact this
  have HS : Hid (∀ W, Calls Try.prog 20 #[nodeV none 0 0 none 0 0 none 0 0, nodeV none 0 0 none 0 0 none 0 0] W fun e w' => e = .returned (.bool true) ∧ Same W w') := zero_same
  have HA : Hid (∀ W, Calls Try.prog 9 #[] W fun e w' => e = .returned (.bool true) ∧ Same W w') := awake_calls
  clear hE h h1 h2 h3
  obtain ⟨V, hV⟩ : ∃ V, V = ((w.alloc (.cells #[.int .i64 p, .int .i64 q] 39)).alloc (.cells #[.slice r.pa N.ps.length r.cp, .slice r.sa N.ss.length r.cs, .slice r.ka N.ks.length r.ck] 31)).alloc (.cells #[.string k, .string v] 46) := ⟨_, rfl⟩
  have t1 : Same w V := by rw [hV]; exact (((Fr.refl _ w).alloc _).alloc _).alloc _
  have H4 := heap3 w (.cells #[.int .i64 p, .int .i64 q] 39) (.cells #[.slice r.pa N.ps.length r.cp, .slice r.sa N.ss.length r.cs, .slice r.ka N.ks.length r.ck] 31) (.cells #[.string k, .string v] 46)
  rw [← hV] at H4
  obtain ⟨g0, g1, g2⟩ := H4
  have HC : Hid (∀ W, Same V W → W.cell? ⟨w.heap.size, 0, none⟩ = some (.int .i64 p) ∧ W.cell? ⟨w.heap.size, 1, none⟩ = some (.int .i64 q) ∧ W.cell? ⟨w.heap.size + 1, 0, none⟩ = some (.slice r.pa N.ps.length r.cp) ∧ W.cell? ⟨w.heap.size + 1, 1, none⟩ = some (.slice r.sa N.ss.length r.cs) ∧ W.cell? ⟨w.heap.size + 1, 2, none⟩ = some (.slice r.ka N.ks.length r.ck) ∧ W.cell? ⟨w.heap.size + 1 + 1, 0, none⟩ = some (.string k) ∧ W.cell? ⟨w.heap.size + 1 + 1, 1, none⟩ = some (.string v)) := fun W s => ⟨s.keep (by rw [cell_of_row _ _ _ _ _ _ g0]; rfl), s.keep (by rw [cell_of_row _ _ _ _ _ _ g0]; rfl), s.keep (by rw [cell_of_row _ _ _ _ _ _ g1]; rfl), s.keep (by rw [cell_of_row _ _ _ _ _ _ g1]; rfl), s.keep (by rw [cell_of_row _ _ _ _ _ _ g1]; rfl), s.keep (by rw [cell_of_row _ _ _ _ _ _ g2]; rfl), s.keep (by rw [cell_of_row _ _ _ _ _ _ g2]; rfl)⟩
  have d0 : Same V V.drew := Fr.drew (Fr.refl _ V)
  clear g0 g1 g2
  go_enter Try.func8, Try.ntmps8
  go_wp2_with fail
  rw [← hV]
  clear hV
  unfold lentNr at HL HP1
  refine wp_region_held_drew (S := fun W => W.cell? ⟨w.heap.size, 0, none⟩ = some (.int .i64 p) ∧ W.cell? ⟨w.heap.size, 1, none⟩ = some (.int .i64 q) ∧ W.cell? ⟨w.heap.size + 1, 0, none⟩ = some (.slice r.pa N.ps.length r.cp) ∧ W.cell? ⟨w.heap.size + 1, 1, none⟩ = some (.slice r.sa N.ss.length r.cs) ∧ W.cell? ⟨w.heap.size + 1, 2, none⟩ = some (.slice r.ka N.ks.length r.ck) ∧ W.cell? ⟨w.heap.size + 1 + 1, 0, none⟩ = some (.string k) ∧ W.cell? ⟨w.heap.size + 1 + 1, 1, none⟩ = some (.string v)) (by kernel_rfl) (HC.out _ d0) (fun hHeld => ?_)
  refine wpAnyH_take (i := 0) (oi := { dst := some 24, op := Op.load 39 (Operand.tmp 3), type := 39, pos := "outright.go:12", after := #[], guard := none }) (v := .agg #[.int .i64 p, .int .i64 q]) rfl (by kernel_rfl) (by kernel_rfl) (by kernel_rfl) (fun _ _ _ h => h) (Or.inl ⟨by rfl, fun w hSw => by (obtain ⟨q0, q1, q2, q3, q4, q5, q6⟩ := hSw; go_simp)⟩) (by assumption) ?_
  try simp only [Act.put, List.setIfInBounds_toArray, List.set_cons_zero, List.set_cons_succ]
  refine wpAnyH_take (i := 1) (oi := { dst := some 25, op := Op.load 31 (Operand.tmp 4), type := 31, pos := "outright.go:12", after := #[], guard := none }) (v := .agg #[.slice r.pa N.ps.length r.cp, .slice r.sa N.ss.length r.cs, .slice r.ka N.ks.length r.ck]) rfl (by kernel_rfl) (by kernel_rfl) (by kernel_rfl) (fun _ _ _ h => h) (Or.inl ⟨by rfl, fun w hSw => by (obtain ⟨q0, q1, q2, q3, q4, q5, q6⟩ := hSw; go_simp)⟩) (by assumption) ?_
  try simp only [Act.put, List.setIfInBounds_toArray, List.set_cons_zero, List.set_cons_succ]
  refine wpAnyH_take (i := 3) (oi := { dst := some 27, op := Op.load 46 (Operand.tmp 5), type := 46, pos := "outright.go:12", after := #[], guard := none }) (v := .agg #[.string k, .string v]) rfl (by kernel_rfl) (by kernel_rfl) (by kernel_rfl) (fun _ _ _ h => h) (Or.inl ⟨by rfl, fun w hSw => by (obtain ⟨q0, q1, q2, q3, q4, q5, q6⟩ := hSw; go_simp)⟩) (by assumption) ?_
  try simp only [Act.put, List.setIfInBounds_toArray, List.set_cons_zero, List.set_cons_succ]
  refine wpAnyH_ready (rs := [2, 9]) (by kernel_rfl) (by simp) ?_
  refine AllReadyH.cons (o := { dst := some 26, op := Op.call { callee := Callee.value (Operand.func 12), args := #[Operand.tmp 25], argTypes := #[31] }, type := 31, pos := "outright.go:12", after := #[{ on := 1, ground := Ground.data }], guard := none }) rfl (fun K hK => ?_) (AllReadyH.cons (o := { dst := some 7, op := Op.alloc 31, type := 0, pos := "outright.go:12", after := #[], guard := none }) rfl (fun K hK => ?_) AllReadyH.nil)
  · go_simp
    go_at_call 12
    refine (HL.out _ (t1.trans (d0))).mono ?_
    rintro e Z1 ⟨gp, cp, gs, cs, gk, ck, rfl, l1, q1⟩
    try go_wp2_with fail
    have u1 : Same V Z1 := Same.trans (d0) q1
    refine hK.out _ _ (HC.out _ u1) (fun hHeld => ?_)
    clear hK K
    try simp only [Act.put, List.setIfInBounds_toArray, List.set_cons_zero, List.set_cons_succ]
    refine wpAnyH_ready (rs := [4, 9]) (by kernel_rfl) (by simp) ?_
    refine AllReadyH.cons (o := { dst := some 28, op := Op.call { callee := Callee.value (Operand.func 19), args := #[Operand.tmp 24, Operand.tmp 26, Operand.tmp 27], argTypes := #[39, 31, 46] }, type := 47, pos := "outright.go:12", after := #[{ on := 0, ground := Ground.data }, { on := 2, ground := Ground.data }, { on := 3, ground := Ground.data }, { on := 2, ground := Ground.chain }], guard := none }) rfl (fun K hK => ?_) (AllReadyH.cons (o := { dst := some 7, op := Op.alloc 31, type := 0, pos := "outright.go:12", after := #[], guard := none }) rfl (fun K hK => ?_) AllReadyH.nil)
    · go_simp
      go_at_call 19
      refine (HP1.out _ _ _ _ _ _ _ _ (l1)).mono ?_
      rintro e Z2 ⟨rfl, q2⟩
      try go_wp2_with fail
      have u2 : Same V Z2 := Same.trans (u1) q2
      refine hK.out _ _ (HC.out _ u2) (fun hHeld => ?_)
      clear hK K
      try simp only [Act.put, List.setIfInBounds_toArray, List.set_cons_zero, List.set_cons_succ]
      refine wpAnyH_take (i := 5) (oi := { dst := some 23, op := Op.move (Operand.tmp 28), type := 47, pos := "outright.go:12", after := #[{ on := 4, ground := Ground.data }], guard := none }) (v := .tuple #[nodeV none 0 0 none 0 0 none 0 0, .bool false, .int .i64 E]) rfl (by kernel_rfl) (by kernel_rfl) (by kernel_rfl) (fun _ _ _ h => h) (Or.inl ⟨by rfl, fun w hSw => by (obtain ⟨q0, q1, q2, q3, q4, q5, q6⟩ := hSw; go_simp)⟩) (by assumption) ?_
      try simp only [Act.put, List.setIfInBounds_toArray, List.set_cons_zero, List.set_cons_succ]
      refine wpAnyH_take (i := 6) (oi := { dst := some 29, op := Op.extract (Operand.tmp 23) 0, type := 31, pos := "outright.go:12", after := #[{ on := 5, ground := Ground.data }], guard := none }) (v := nodeV none 0 0 none 0 0 none 0 0) rfl (by kernel_rfl) (by kernel_rfl) (by kernel_rfl) (fun _ _ _ h => h) (Or.inl ⟨by rfl, fun w hSw => by (obtain ⟨q0, q1, q2, q3, q4, q5, q6⟩ := hSw; go_simp)⟩) (by assumption) ?_
      try simp only [Act.put, List.setIfInBounds_toArray, List.set_cons_zero, List.set_cons_succ]
      refine wpAnyH_take (i := 7) (oi := { dst := some 30, op := Op.extract (Operand.tmp 23) 1, type := 4, pos := "outright.go:12", after := #[{ on := 5, ground := Ground.data }, { on := 10, ground := Ground.gcOnly Departure.lateStores }], guard := none }) (v := .bool false) rfl (by kernel_rfl) (by kernel_rfl) (by kernel_rfl) (fun _ _ _ h => h) (Or.inl ⟨by rfl, fun w hSw => by (obtain ⟨q0, q1, q2, q3, q4, q5, q6⟩ := hSw; go_simp)⟩) (by assumption) ?_
      try simp only [Act.put, List.setIfInBounds_toArray, List.set_cons_zero, List.set_cons_succ]
      refine wpAnyH_take (i := 8) (oi := { dst := some 31, op := Op.extract (Operand.tmp 23) 2, type := 23, pos := "outright.go:12", after := #[{ on := 5, ground := Ground.data }, { on := 11, ground := Ground.gcOnly Departure.lateStores }], guard := none }) (v := .int .i64 E) rfl (by kernel_rfl) (by kernel_rfl) (by kernel_rfl) (fun _ _ _ h => h) (Or.inl ⟨by rfl, fun w hSw => by (obtain ⟨q0, q1, q2, q3, q4, q5, q6⟩ := hSw; go_simp)⟩) (by assumption) ?_
      try simp only [Act.put, List.setIfInBounds_toArray, List.set_cons_zero, List.set_cons_succ]
      refine wpAnyH_ready (rs := [9]) (by kernel_rfl) (by simp) ?_
      refine AllReadyH.cons (o := { dst := some 7, op := Op.alloc 31, type := 0, pos := "outright.go:12", after := #[], guard := none }) rfl (fun K hK => ?_) AllReadyH.nil
      go_simp
      refine hK.out _ _ (HC.out _ (Fr.alloc u2 _)) (fun hHeld => ?_)
      clear hK K
      try simp only [Act.put, List.setIfInBounds_toArray, List.set_cons_zero, List.set_cons_succ]
      have r6 := heap_alloc_new Z2 (.cells #[.slice none 0 0, .slice none 0 0, .slice none 0 0] 31)
      refine wpAnyH_ready (rs := [10]) (by kernel_rfl) (by simp) ?_
      refine AllReadyH.cons (o := { dst := none, op := Op.store 31 (Operand.tmp 7) (Operand.tmp 29), type := 0, pos := "outright.go:12", after := #[{ on := 9, ground := Ground.data }, { on := 6, ground := Ground.data }, { on := 4, ground := Ground.chain }, { on := 0, ground := Ground.phase }, { on := 1, ground := Ground.phase }, { on := 2, ground := Ground.phase }, { on := 3, ground := Ground.phase }, { on := 4, ground := Ground.phase }, { on := 5, ground := Ground.phase }, { on := 6, ground := Ground.phase }, { on := 7, ground := Ground.textOnly Departure.lateStores }, { on := 8, ground := Ground.textOnly Departure.lateStores }, { on := 9, ground := Ground.phase }], guard := none }) rfl (fun K hK => ?_) AllReadyH.nil
      refine step_store_whole rfl 31 _ _ rfl (Z2.heap.size) #[.slice none 0 0, .slice none 0 0, .slice none 0 0] _ 31 (by rfl) (by rfl) r6 rfl (by kernel_rfl) (by kernel_rfl) ?_
      intro W7 r7 f7
      have x7 : Same V W7 := Fr.trans (Fr.alloc u2 _) f7 (fun i hi e => by first | omega | (have := u2.size; omega) | (have := u1.size; omega))
      refine hK.out _ _ (HC.out _ x7) (fun hHeld => ?_)
      clear hK K
      refine wpAnyH_take (i := 11) (oi := { dst := some 8, op := Op.assign (Operand.tmp 30), type := 4, pos := "outright.go:12", after := #[{ on := 7, ground := Ground.data }, { on := 10, ground := Ground.chain }, { on := 0, ground := Ground.phase }, { on := 1, ground := Ground.phase }, { on := 2, ground := Ground.phase }, { on := 3, ground := Ground.phase }, { on := 4, ground := Ground.phase }, { on := 5, ground := Ground.phase }, { on := 6, ground := Ground.phase }, { on := 7, ground := Ground.phase }, { on := 8, ground := Ground.textOnly Departure.lateStores }, { on := 9, ground := Ground.phase }, { on := 10, ground := Ground.phase }], guard := none }) (v := .bool false) rfl (by kernel_rfl) (by kernel_rfl) (by kernel_rfl) (fun _ _ _ h => h) (Or.inl ⟨by rfl, fun w hSw => by (obtain ⟨q0, q1, q2, q3, q4, q5, q6⟩ := hSw; go_simp)⟩) (by assumption) ?_
      try simp only [Act.put, List.setIfInBounds_toArray, List.set_cons_zero, List.set_cons_succ]
      refine wpAnyH_take (i := 12) (oi := { dst := some 9, op := Op.assign (Operand.tmp 31), type := 23, pos := "outright.go:12", after := #[{ on := 8, ground := Ground.data }, { on := 11, ground := Ground.chain }, { on := 0, ground := Ground.phase }, { on := 1, ground := Ground.phase }, { on := 2, ground := Ground.phase }, { on := 3, ground := Ground.phase }, { on := 4, ground := Ground.phase }, { on := 5, ground := Ground.phase }, { on := 6, ground := Ground.phase }, { on := 7, ground := Ground.phase }, { on := 8, ground := Ground.phase }, { on := 9, ground := Ground.phase }, { on := 10, ground := Ground.phase }, { on := 11, ground := Ground.phase }], guard := none }) (v := .int .i64 E) rfl (by kernel_rfl) (by kernel_rfl) (by kernel_rfl) (fun _ _ _ h => h) (Or.inl ⟨by rfl, fun w hSw => by (obtain ⟨q0, q1, q2, q3, q4, q5, q6⟩ := hSw; go_simp)⟩) (by assumption) ?_
      try simp only [Act.put, List.setIfInBounds_toArray, List.set_cons_zero, List.set_cons_succ]
      refine wpAnyH_done (by kernel_rfl) ?_ _
      obtain ⟨mb, hmb⟩ : ∃ mb, mb = Z2.heap.size := ⟨_, rfl⟩
      rw [← hmb] at r7 ⊢
      clear f7 r6 hmb u1 u2 q1 q2 l1
      have n0 : W7.cell? ⟨mb, 0, none⟩ = some (.slice none 0 0) := (cell_of_row _ _ _ _ _ _ r7).trans rfl
      have n1 : W7.cell? ⟨mb, 1, none⟩ = some (.slice none 0 0) := (cell_of_row _ _ _ _ _ _ r7).trans rfl
      have n2 : W7.cell? ⟨mb, 2, none⟩ = some (.slice none 0 0) := (cell_of_row _ _ _ _ _ _ r7).trans rfl
      go_wp2_with fail
      refine (HS.out _).mono ?_
      rintro e Y1 ⟨rfl, y1⟩
      go_wp2_with fail
      refine (HA.out _).mono ?_
      rintro e Y2 ⟨rfl, y2⟩
      go_wp2_with fail
      go_ret
      exact ⟨rfl, ((t1.trans x7).trans y1).trans y2⟩
    · go_simp
      refine hK.out _ _ (HC.out _ (Fr.alloc u1 _)) (fun hHeld => ?_)
      clear hK K
      try simp only [Act.put, List.setIfInBounds_toArray, List.set_cons_zero, List.set_cons_succ]
      refine wpAnyH_ready (rs := [4]) (by kernel_rfl) (by simp) ?_
      refine AllReadyH.cons (o := { dst := some 28, op := Op.call { callee := Callee.value (Operand.func 19), args := #[Operand.tmp 24, Operand.tmp 26, Operand.tmp 27], argTypes := #[39, 31, 46] }, type := 47, pos := "outright.go:12", after := #[{ on := 0, ground := Ground.data }, { on := 2, ground := Ground.data }, { on := 3, ground := Ground.data }, { on := 2, ground := Ground.chain }], guard := none }) rfl (fun K hK => ?_) AllReadyH.nil
      go_simp
      go_at_call 19
      refine (HP1.out _ _ _ _ _ _ _ _ (l1.same ((Fr.refl _ Z1).alloc _))).mono ?_
      rintro e Z2 ⟨rfl, q2⟩
      try go_wp2_with fail
      have u2 : Same V Z2 := Same.trans (Fr.alloc u1 _) q2
      refine hK.out _ _ (HC.out _ u2) (fun hHeld => ?_)
      clear hK K
      try simp only [Act.put, List.setIfInBounds_toArray, List.set_cons_zero, List.set_cons_succ]
      refine wpAnyH_take (i := 5) (oi := { dst := some 23, op := Op.move (Operand.tmp 28), type := 47, pos := "outright.go:12", after := #[{ on := 4, ground := Ground.data }], guard := none }) (v := .tuple #[nodeV none 0 0 none 0 0 none 0 0, .bool false, .int .i64 E]) rfl (by kernel_rfl) (by kernel_rfl) (by kernel_rfl) (fun _ _ _ h => h) (Or.inl ⟨by rfl, fun w hSw => by (obtain ⟨q0, q1, q2, q3, q4, q5, q6⟩ := hSw; go_simp)⟩) (by assumption) ?_
      try simp only [Act.put, List.setIfInBounds_toArray, List.set_cons_zero, List.set_cons_succ]
      refine wpAnyH_take (i := 6) (oi := { dst := some 29, op := Op.extract (Operand.tmp 23) 0, type := 31, pos := "outright.go:12", after := #[{ on := 5, ground := Ground.data }], guard := none }) (v := nodeV none 0 0 none 0 0 none 0 0) rfl (by kernel_rfl) (by kernel_rfl) (by kernel_rfl) (fun _ _ _ h => h) (Or.inl ⟨by rfl, fun w hSw => by (obtain ⟨q0, q1, q2, q3, q4, q5, q6⟩ := hSw; go_simp)⟩) (by assumption) ?_
      try simp only [Act.put, List.setIfInBounds_toArray, List.set_cons_zero, List.set_cons_succ]
      refine wpAnyH_take (i := 7) (oi := { dst := some 30, op := Op.extract (Operand.tmp 23) 1, type := 4, pos := "outright.go:12", after := #[{ on := 5, ground := Ground.data }, { on := 10, ground := Ground.gcOnly Departure.lateStores }], guard := none }) (v := .bool false) rfl (by kernel_rfl) (by kernel_rfl) (by kernel_rfl) (fun _ _ _ h => h) (Or.inl ⟨by rfl, fun w hSw => by (obtain ⟨q0, q1, q2, q3, q4, q5, q6⟩ := hSw; go_simp)⟩) (by assumption) ?_
      try simp only [Act.put, List.setIfInBounds_toArray, List.set_cons_zero, List.set_cons_succ]
      refine wpAnyH_take (i := 8) (oi := { dst := some 31, op := Op.extract (Operand.tmp 23) 2, type := 23, pos := "outright.go:12", after := #[{ on := 5, ground := Ground.data }, { on := 11, ground := Ground.gcOnly Departure.lateStores }], guard := none }) (v := .int .i64 E) rfl (by kernel_rfl) (by kernel_rfl) (by kernel_rfl) (fun _ _ _ h => h) (Or.inl ⟨by rfl, fun w hSw => by (obtain ⟨q0, q1, q2, q3, q4, q5, q6⟩ := hSw; go_simp)⟩) (by assumption) ?_
      try simp only [Act.put, List.setIfInBounds_toArray, List.set_cons_zero, List.set_cons_succ]
      have r6 := (q2.block _ (by simp) (fun e => e)).trans (heap_alloc_new Z1 (.cells #[.slice none 0 0, .slice none 0 0, .slice none 0 0] 31))
      refine wpAnyH_ready (rs := [10]) (by kernel_rfl) (by simp) ?_
      refine AllReadyH.cons (o := { dst := none, op := Op.store 31 (Operand.tmp 7) (Operand.tmp 29), type := 0, pos := "outright.go:12", after := #[{ on := 9, ground := Ground.data }, { on := 6, ground := Ground.data }, { on := 4, ground := Ground.chain }, { on := 0, ground := Ground.phase }, { on := 1, ground := Ground.phase }, { on := 2, ground := Ground.phase }, { on := 3, ground := Ground.phase }, { on := 4, ground := Ground.phase }, { on := 5, ground := Ground.phase }, { on := 6, ground := Ground.phase }, { on := 7, ground := Ground.textOnly Departure.lateStores }, { on := 8, ground := Ground.textOnly Departure.lateStores }, { on := 9, ground := Ground.phase }], guard := none }) rfl (fun K hK => ?_) AllReadyH.nil
      refine step_store_whole rfl 31 _ _ rfl (Z1.heap.size) #[.slice none 0 0, .slice none 0 0, .slice none 0 0] _ 31 (by rfl) (by rfl) r6 rfl (by kernel_rfl) (by kernel_rfl) ?_
      intro W7 r7 f7
      have x7 : Same V W7 := Fr.trans (u2) f7 (fun i hi e => by first | omega | (have := u2.size; omega) | (have := u1.size; omega))
      refine hK.out _ _ (HC.out _ x7) (fun hHeld => ?_)
      clear hK K
      refine wpAnyH_take (i := 11) (oi := { dst := some 8, op := Op.assign (Operand.tmp 30), type := 4, pos := "outright.go:12", after := #[{ on := 7, ground := Ground.data }, { on := 10, ground := Ground.chain }, { on := 0, ground := Ground.phase }, { on := 1, ground := Ground.phase }, { on := 2, ground := Ground.phase }, { on := 3, ground := Ground.phase }, { on := 4, ground := Ground.phase }, { on := 5, ground := Ground.phase }, { on := 6, ground := Ground.phase }, { on := 7, ground := Ground.phase }, { on := 8, ground := Ground.textOnly Departure.lateStores }, { on := 9, ground := Ground.phase }, { on := 10, ground := Ground.phase }], guard := none }) (v := .bool false) rfl (by kernel_rfl) (by kernel_rfl) (by kernel_rfl) (fun _ _ _ h => h) (Or.inl ⟨by rfl, fun w hSw => by (obtain ⟨q0, q1, q2, q3, q4, q5, q6⟩ := hSw; go_simp)⟩) (by assumption) ?_
      try simp only [Act.put, List.setIfInBounds_toArray, List.set_cons_zero, List.set_cons_succ]
      refine wpAnyH_take (i := 12) (oi := { dst := some 9, op := Op.assign (Operand.tmp 31), type := 23, pos := "outright.go:12", after := #[{ on := 8, ground := Ground.data }, { on := 11, ground := Ground.chain }, { on := 0, ground := Ground.phase }, { on := 1, ground := Ground.phase }, { on := 2, ground := Ground.phase }, { on := 3, ground := Ground.phase }, { on := 4, ground := Ground.phase }, { on := 5, ground := Ground.phase }, { on := 6, ground := Ground.phase }, { on := 7, ground := Ground.phase }, { on := 8, ground := Ground.phase }, { on := 9, ground := Ground.phase }, { on := 10, ground := Ground.phase }, { on := 11, ground := Ground.phase }], guard := none }) (v := .int .i64 E) rfl (by kernel_rfl) (by kernel_rfl) (by kernel_rfl) (fun _ _ _ h => h) (Or.inl ⟨by rfl, fun w hSw => by (obtain ⟨q0, q1, q2, q3, q4, q5, q6⟩ := hSw; go_simp)⟩) (by assumption) ?_
      try simp only [Act.put, List.setIfInBounds_toArray, List.set_cons_zero, List.set_cons_succ]
      refine wpAnyH_done (by kernel_rfl) ?_ _
      obtain ⟨mb, hmb⟩ : ∃ mb, mb = Z1.heap.size := ⟨_, rfl⟩
      rw [← hmb] at r7 ⊢
      clear f7 r6 hmb u1 u2 q1 q2 l1
      have n0 : W7.cell? ⟨mb, 0, none⟩ = some (.slice none 0 0) := (cell_of_row _ _ _ _ _ _ r7).trans rfl
      have n1 : W7.cell? ⟨mb, 1, none⟩ = some (.slice none 0 0) := (cell_of_row _ _ _ _ _ _ r7).trans rfl
      have n2 : W7.cell? ⟨mb, 2, none⟩ = some (.slice none 0 0) := (cell_of_row _ _ _ _ _ _ r7).trans rfl
      go_wp2_with fail
      refine (HS.out _).mono ?_
      rintro e Y1 ⟨rfl, y1⟩
      go_wp2_with fail
      refine (HA.out _).mono ?_
      rintro e Y2 ⟨rfl, y2⟩
      go_wp2_with fail
      go_ret
      exact ⟨rfl, ((t1.trans x7).trans y1).trans y2⟩
  · go_simp
    refine hK.out _ _ (HC.out _ (Fr.alloc d0 _)) (fun hHeld => ?_)
    clear hK K
    try simp only [Act.put, List.setIfInBounds_toArray, List.set_cons_zero, List.set_cons_succ]
    refine wpAnyH_ready (rs := [2]) (by kernel_rfl) (by simp) ?_
    refine AllReadyH.cons (o := { dst := some 26, op := Op.call { callee := Callee.value (Operand.func 12), args := #[Operand.tmp 25], argTypes := #[31] }, type := 31, pos := "outright.go:12", after := #[{ on := 1, ground := Ground.data }], guard := none }) rfl (fun K hK => ?_) AllReadyH.nil
    go_simp
    go_at_call 12
    refine (HL.out _ (t1.trans (Fr.alloc d0 _))).mono ?_
    rintro e Z1 ⟨gp, cp, gs, cs, gk, ck, rfl, l1, q1⟩
    try go_wp2_with fail
    have u1 : Same V Z1 := Same.trans (Fr.alloc d0 _) q1
    refine hK.out _ _ (HC.out _ u1) (fun hHeld => ?_)
    clear hK K
    try simp only [Act.put, List.setIfInBounds_toArray, List.set_cons_zero, List.set_cons_succ]
    refine wpAnyH_ready (rs := [4]) (by kernel_rfl) (by simp) ?_
    refine AllReadyH.cons (o := { dst := some 28, op := Op.call { callee := Callee.value (Operand.func 19), args := #[Operand.tmp 24, Operand.tmp 26, Operand.tmp 27], argTypes := #[39, 31, 46] }, type := 47, pos := "outright.go:12", after := #[{ on := 0, ground := Ground.data }, { on := 2, ground := Ground.data }, { on := 3, ground := Ground.data }, { on := 2, ground := Ground.chain }], guard := none }) rfl (fun K hK => ?_) AllReadyH.nil
    go_simp
    go_at_call 19
    refine (HP1.out _ _ _ _ _ _ _ _ (l1)).mono ?_
    rintro e Z2 ⟨rfl, q2⟩
    try go_wp2_with fail
    have u2 : Same V Z2 := Same.trans (u1) q2
    refine hK.out _ _ (HC.out _ u2) (fun hHeld => ?_)
    clear hK K
    try simp only [Act.put, List.setIfInBounds_toArray, List.set_cons_zero, List.set_cons_succ]
    refine wpAnyH_take (i := 5) (oi := { dst := some 23, op := Op.move (Operand.tmp 28), type := 47, pos := "outright.go:12", after := #[{ on := 4, ground := Ground.data }], guard := none }) (v := .tuple #[nodeV none 0 0 none 0 0 none 0 0, .bool false, .int .i64 E]) rfl (by kernel_rfl) (by kernel_rfl) (by kernel_rfl) (fun _ _ _ h => h) (Or.inl ⟨by rfl, fun w hSw => by (obtain ⟨q0, q1, q2, q3, q4, q5, q6⟩ := hSw; go_simp)⟩) (by assumption) ?_
    try simp only [Act.put, List.setIfInBounds_toArray, List.set_cons_zero, List.set_cons_succ]
    refine wpAnyH_take (i := 6) (oi := { dst := some 29, op := Op.extract (Operand.tmp 23) 0, type := 31, pos := "outright.go:12", after := #[{ on := 5, ground := Ground.data }], guard := none }) (v := nodeV none 0 0 none 0 0 none 0 0) rfl (by kernel_rfl) (by kernel_rfl) (by kernel_rfl) (fun _ _ _ h => h) (Or.inl ⟨by rfl, fun w hSw => by (obtain ⟨q0, q1, q2, q3, q4, q5, q6⟩ := hSw; go_simp)⟩) (by assumption) ?_
    try simp only [Act.put, List.setIfInBounds_toArray, List.set_cons_zero, List.set_cons_succ]
    refine wpAnyH_take (i := 7) (oi := { dst := some 30, op := Op.extract (Operand.tmp 23) 1, type := 4, pos := "outright.go:12", after := #[{ on := 5, ground := Ground.data }, { on := 10, ground := Ground.gcOnly Departure.lateStores }], guard := none }) (v := .bool false) rfl (by kernel_rfl) (by kernel_rfl) (by kernel_rfl) (fun _ _ _ h => h) (Or.inl ⟨by rfl, fun w hSw => by (obtain ⟨q0, q1, q2, q3, q4, q5, q6⟩ := hSw; go_simp)⟩) (by assumption) ?_
    try simp only [Act.put, List.setIfInBounds_toArray, List.set_cons_zero, List.set_cons_succ]
    refine wpAnyH_take (i := 8) (oi := { dst := some 31, op := Op.extract (Operand.tmp 23) 2, type := 23, pos := "outright.go:12", after := #[{ on := 5, ground := Ground.data }, { on := 11, ground := Ground.gcOnly Departure.lateStores }], guard := none }) (v := .int .i64 E) rfl (by kernel_rfl) (by kernel_rfl) (by kernel_rfl) (fun _ _ _ h => h) (Or.inl ⟨by rfl, fun w hSw => by (obtain ⟨q0, q1, q2, q3, q4, q5, q6⟩ := hSw; go_simp)⟩) (by assumption) ?_
    try simp only [Act.put, List.setIfInBounds_toArray, List.set_cons_zero, List.set_cons_succ]
    have r6 := ((q1.trans q2).block _ (by rw [World.size_alloc]; exact Nat.lt_succ_self _) (fun e => e)).trans (heap_alloc_new V.drew (.cells #[.slice none 0 0, .slice none 0 0, .slice none 0 0] 31))
    refine wpAnyH_ready (rs := [10]) (by kernel_rfl) (by simp) ?_
    refine AllReadyH.cons (o := { dst := none, op := Op.store 31 (Operand.tmp 7) (Operand.tmp 29), type := 0, pos := "outright.go:12", after := #[{ on := 9, ground := Ground.data }, { on := 6, ground := Ground.data }, { on := 4, ground := Ground.chain }, { on := 0, ground := Ground.phase }, { on := 1, ground := Ground.phase }, { on := 2, ground := Ground.phase }, { on := 3, ground := Ground.phase }, { on := 4, ground := Ground.phase }, { on := 5, ground := Ground.phase }, { on := 6, ground := Ground.phase }, { on := 7, ground := Ground.textOnly Departure.lateStores }, { on := 8, ground := Ground.textOnly Departure.lateStores }, { on := 9, ground := Ground.phase }], guard := none }) rfl (fun K hK => ?_) AllReadyH.nil
    refine step_store_whole rfl 31 _ _ rfl (V.heap.size) #[.slice none 0 0, .slice none 0 0, .slice none 0 0] _ 31 (by rfl) (by rfl) r6 rfl (by kernel_rfl) (by kernel_rfl) ?_
    intro W7 r7 f7
    have x7 : Same V W7 := Fr.trans (u2) f7 (fun i hi e => by first | omega | (have := u2.size; omega) | (have := u1.size; omega))
    refine hK.out _ _ (HC.out _ x7) (fun hHeld => ?_)
    clear hK K
    refine wpAnyH_take (i := 11) (oi := { dst := some 8, op := Op.assign (Operand.tmp 30), type := 4, pos := "outright.go:12", after := #[{ on := 7, ground := Ground.data }, { on := 10, ground := Ground.chain }, { on := 0, ground := Ground.phase }, { on := 1, ground := Ground.phase }, { on := 2, ground := Ground.phase }, { on := 3, ground := Ground.phase }, { on := 4, ground := Ground.phase }, { on := 5, ground := Ground.phase }, { on := 6, ground := Ground.phase }, { on := 7, ground := Ground.phase }, { on := 8, ground := Ground.textOnly Departure.lateStores }, { on := 9, ground := Ground.phase }, { on := 10, ground := Ground.phase }], guard := none }) (v := .bool false) rfl (by kernel_rfl) (by kernel_rfl) (by kernel_rfl) (fun _ _ _ h => h) (Or.inl ⟨by rfl, fun w hSw => by (obtain ⟨q0, q1, q2, q3, q4, q5, q6⟩ := hSw; go_simp)⟩) (by assumption) ?_
    try simp only [Act.put, List.setIfInBounds_toArray, List.set_cons_zero, List.set_cons_succ]
    refine wpAnyH_take (i := 12) (oi := { dst := some 9, op := Op.assign (Operand.tmp 31), type := 23, pos := "outright.go:12", after := #[{ on := 8, ground := Ground.data }, { on := 11, ground := Ground.chain }, { on := 0, ground := Ground.phase }, { on := 1, ground := Ground.phase }, { on := 2, ground := Ground.phase }, { on := 3, ground := Ground.phase }, { on := 4, ground := Ground.phase }, { on := 5, ground := Ground.phase }, { on := 6, ground := Ground.phase }, { on := 7, ground := Ground.phase }, { on := 8, ground := Ground.phase }, { on := 9, ground := Ground.phase }, { on := 10, ground := Ground.phase }, { on := 11, ground := Ground.phase }], guard := none }) (v := .int .i64 E) rfl (by kernel_rfl) (by kernel_rfl) (by kernel_rfl) (fun _ _ _ h => h) (Or.inl ⟨by rfl, fun w hSw => by (obtain ⟨q0, q1, q2, q3, q4, q5, q6⟩ := hSw; go_simp)⟩) (by assumption) ?_
    try simp only [Act.put, List.setIfInBounds_toArray, List.set_cons_zero, List.set_cons_succ]
    refine wpAnyH_done (by kernel_rfl) ?_ _
    obtain ⟨mb, hmb⟩ : ∃ mb, mb = V.heap.size := ⟨_, rfl⟩
    rw [← hmb] at r7 ⊢
    clear f7 r6 hmb u1 u2 q1 q2 l1
    have n0 : W7.cell? ⟨mb, 0, none⟩ = some (.slice none 0 0) := (cell_of_row _ _ _ _ _ _ r7).trans rfl
    have n1 : W7.cell? ⟨mb, 1, none⟩ = some (.slice none 0 0) := (cell_of_row _ _ _ _ _ _ r7).trans rfl
    have n2 : W7.cell? ⟨mb, 2, none⟩ = some (.slice none 0 0) := (cell_of_row _ _ _ _ _ _ r7).trans rfl
    go_wp2_with fail
    refine (HS.out _).mono ?_
    rintro e Y1 ⟨rfl, y1⟩
    go_wp2_with fail
    refine (HA.out _).mono ?_
    rintro e Y2 ⟨rfl, y2⟩
    go_wp2_with fail
    go_ret
    exact ⟨rfl, ((t1.trans x7).trans y1).trans y2⟩
theorem gback_walk {p q : Int} {r : Nr} {N : Nd} {k v : ByteArray} (w : World) (h : NdIn w r N) (h1 : 3 * N.ps.length ≤ 1048576) (h2 : N.ss.length ≤ 1048576) (h3 : N.ks.length ≤ 1048576) :
    Calls Try.prog 8 #[frameV p q, ndV r N, .agg #[.string k, .string v]] w fun e w' => e = .returned (.bool true) ∧ Same w w' := by
  by_cases h0 : putE p q N k v = 0
  · exact gback_good w h h1 h2 h3 h0
  · exact gback_bad w h (by omega) h2 h3 rfl h0
end Go.Proofs.Ytcmgdlkpmagmkaa
