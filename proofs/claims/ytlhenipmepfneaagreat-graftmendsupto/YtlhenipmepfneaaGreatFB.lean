/- Least, Full and Thin of the program, Full and Thin of the document. -/
import Derived.Test.YtlhenipmepfneaaGreatFA
namespace Go.Proofs.YtlhenipmepfneaaGreat
open Go.RowKit

set_option maxRecDepth 100000 in
set_option maxHeartbeats 4000000 in
theorem full_core {p q : Int} {pa sa ka : Option Addr} {np cp ns cs nk ck : Nat} {E n R : Int} (w : World)
    (HC : Hid (∀ W, Same w W → Calls Tryz.prog 32 #[frameV p q, nodeV pa np cp sa ns cs ka nk ck] W fun e w' => e = .returned (.int .i64 E) ∧ Same W w'))
    (HS : Hid (∀ W, Same w W → Calls Tryz.prog 66 #[frameV p q, nodeV pa np cp sa ns cs ka nk ck] W fun e w' => e = .returned (.int .i64 n) ∧ Same W w'))
    (HR : E = 0 → ∀ W, Calls Tryz.prog 67 #[frameV p q] W fun e w' => e = .returned (.int .i64 R) ∧ Same W w') :
    Calls Tryz.prog 37 #[frameV p q, nodeV pa np cp sa ns cs ka nk ck] w fun e w' => e = .returned (.bool (E == 0 && decide (R < n))) ∧ Same w w' := by
  obtain ⟨V, hV⟩ : ∃ V, V = ((w.alloc (.cells #[.int .i64 p, .int .i64 q] 23)).alloc (.cells #[.slice pa np cp, .slice sa ns cs, .slice ka nk ck] 28)) := ⟨_, rfl⟩
  have sx : Same w V := by rw [hV]; exact ((Fr.refl _ w).alloc _).alloc _
  have HCL : Hid (∀ W, Same V W → W.cell? ⟨w.heap.size, 0, none⟩ = some (.int .i64 p) ∧ W.cell? ⟨w.heap.size, 1, none⟩ = some (.int .i64 q) ∧ W.cell? ⟨w.heap.size + 1, 0, none⟩ = some (.slice pa np cp) ∧ W.cell? ⟨w.heap.size + 1, 1, none⟩ = some (.slice sa ns cs) ∧ W.cell? ⟨w.heap.size + 1, 2, none⟩ = some (.slice ka nk ck)) := fun W s => ⟨s.keep (by rw [hV]; simp), s.keep (by rw [hV]; simp), s.keep (by rw [hV]; simp), s.keep (by rw [hV]; simp), s.keep (by rw [hV]; simp)⟩
  have d0 : Same V V.drew := Fr.drew (Fr.refl _ V)
  by_cases hE : E = 0
  · have hE0 := hE
    have HR2 : Hid (∀ W, Calls Tryz.prog 67 #[frameV p q] W fun e w' => e = .returned (.int .i64 R) ∧ Same W w') := HR hE
    clear HR
    subst hE
    clear hE0
    have e1 : ((0 : Int) == 0 && decide (R < n)) = decide (R < n) := by simp
    rw [e1]
    clear e1
    go_enter Tryz.func37, Tryz.ntmps37
    go_wp2_with fail
    rw [← hV]
    clear hV
    go_region_held3 (fun W => W.cell? ⟨w.heap.size, 0, none⟩ = some (.int .i64 p) ∧ W.cell? ⟨w.heap.size, 1, none⟩ = some (.int .i64 q) ∧ W.cell? ⟨w.heap.size + 1, 0, none⟩ = some (.slice pa np cp) ∧ W.cell? ⟨w.heap.size + 1, 1, none⟩ = some (.slice sa ns cs) ∧ W.cell? ⟨w.heap.size + 1, 2, none⟩ = some (.slice ka nk ck)) (first | exact HCL.out _ u3 | exact HCL.out _ u2 | exact HCL.out _ u1 | exact HCL.out _ d0)
      (first | (go_at_call 67; refine (HR2.out _).mono ?_; rintro e Z3 ⟨rfl, q3⟩; have u3 := Same.trans u2 q3; clear q3) | (go_at_call 66; refine (HS.out _ (sx.trans u1)).mono ?_; rintro e Z2 ⟨rfl, q2⟩; have u2 := Same.trans u1 q2; clear q2) | (go_at_call 32; refine (HC.out _ (sx.trans d0)).mono ?_; rintro e Z1 ⟨rfl, q1⟩; have u1 := Same.trans d0 q1; clear q1))
    go_wp2_with fail
    go_ret
    exact ⟨rfl, sx.trans u3⟩
  · have e1 : (E == 0 && decide (R < n)) = false := by simp [hE]
    rw [e1]
    have hne : (E == 0) = false := by simp [hE]
    clear hE e1 HS
    go_enter Tryz.func37, Tryz.ntmps37
    go_wp2_with fail
    rw [← hV]
    clear hV
    refine wp_region_held_drew (S := fun W => W.cell? ⟨w.heap.size, 0, none⟩ = some (.int .i64 p) ∧ W.cell? ⟨w.heap.size, 1, none⟩ = some (.int .i64 q) ∧ W.cell? ⟨w.heap.size + 1, 0, none⟩ = some (.slice pa np cp) ∧ W.cell? ⟨w.heap.size + 1, 1, none⟩ = some (.slice sa ns cs) ∧ W.cell? ⟨w.heap.size + 1, 2, none⟩ = some (.slice ka nk ck)) (by kernel_rfl) (HCL.out _ d0) (fun hHeld => ?_)
    refine wpAnyH_take (i := 0) (oi := { dst := some 5, op := Op.load 23 (Operand.tmp 2), type := 23, pos := "cut.go:35", after := #[], guard := none }) (v := frameV p q) rfl (by kernel_rfl) (by kernel_rfl) (by kernel_rfl) (fun _ _ _ h => h) (Or.inl ⟨by rfl, fun w hSw => by (obtain ⟨z0, z1, z2, z3, z4⟩ := hSw; go_simp)⟩) (by assumption) ?_
    try simp only [Act.put, List.setIfInBounds_toArray, List.set_cons_zero, List.set_cons_succ]
    refine wpAnyH_take (i := 1) (oi := { dst := some 6, op := Op.load 28 (Operand.tmp 3), type := 28, pos := "cut.go:35", after := #[], guard := none }) (v := nodeV pa np cp sa ns cs ka nk ck) rfl (by kernel_rfl) (by kernel_rfl) (by kernel_rfl) (fun _ _ _ h => h) (Or.inl ⟨by rfl, fun w hSw => by (obtain ⟨z0, z1, z2, z3, z4⟩ := hSw; go_simp)⟩) (by assumption) ?_
    try simp only [Act.put, List.setIfInBounds_toArray, List.set_cons_zero, List.set_cons_succ]
    refine wpAnyH_ready (rs := [2]) (by kernel_rfl) (by simp) ?_
    refine AllReadyH.cons (o := { dst := some 7, op := Op.call { callee := Callee.value (Operand.func 32), args := #[Operand.tmp 5, Operand.tmp 6], argTypes := #[23, 28] }, type := 34, pos := "cut.go:35", after := #[{ on := 0, ground := Ground.data }, { on := 1, ground := Ground.data }], guard := none }) rfl (fun K hK => ?_) AllReadyH.nil
    go_simp
    go_at_call 32
    refine (HC.out _ (sx.trans d0)).mono ?_
    rintro e Z1 ⟨rfl, q1⟩
    try go_wp2_with fail
    have u1 := Same.trans d0 q1
    refine hK.out _ _ (HCL.out _ u1) (fun hHeld => ?_)
    clear hK K
    try simp only [Act.put, List.setIfInBounds_toArray, List.set_cons_zero, List.set_cons_succ]
    refine wpAnyH_take (i := 3) (oi := { dst := some 8, op := Op.binOp BinOp.eql 34 (Operand.tmp 7) (Operand.const (Value.int IntKind.i64 0)) 34, type := 4, pos := "cut.go:35", after := #[{ on := 2, ground := Ground.data }], guard := none }) (v := .bool false) rfl (by kernel_rfl) (by kernel_rfl) (by kernel_rfl) (fun _ _ _ h => h) (Or.inl ⟨by rfl, fun w hSw => by (obtain ⟨z0, z1, z2, z3, z4⟩ := hSw; go_simp)⟩) (by assumption) ?_
    try simp only [Act.put, List.setIfInBounds_toArray, List.set_cons_zero, List.set_cons_succ]
    refine wpAnyH_take (i := 4) (oi := { dst := some 9, op := Op.move (Operand.tmp 8), type := 4, pos := "cut.go:35", after := #[{ on := 3, ground := Ground.data }, { on := 2, ground := Ground.chain }], guard := none }) (v := .bool false) rfl (by kernel_rfl) (by kernel_rfl) (by kernel_rfl) (fun _ _ _ h => h) (Or.inl ⟨by rfl, fun w hSw => by (obtain ⟨z0, z1, z2, z3, z4⟩ := hSw; go_simp)⟩) (by assumption) ?_
    try simp only [Act.put, List.setIfInBounds_toArray, List.set_cons_zero, List.set_cons_succ]
    refine wpAnyH_take (i := 5) (oi := { dst := some 10, op := Op.load 23 (Operand.tmp 2), type := 23, pos := "cut.go:35", after := #[{ on := 4, ground := Ground.guard }], guard := some (4, true) }) (v := undef) rfl (by kernel_rfl) (by kernel_rfl) (by kernel_rfl) (fun _ _ _ h => h) (Or.inr ⟨by rfl, rfl⟩) (by assumption) ?_
    try simp only [Act.put, List.setIfInBounds_toArray, List.set_cons_zero, List.set_cons_succ]
    refine wpAnyH_take (i := 6) (oi := { dst := some 11, op := Op.load 28 (Operand.tmp 3), type := 28, pos := "cut.go:35", after := #[{ on := 4, ground := Ground.guard }], guard := some (4, true) }) (v := undef) rfl (by kernel_rfl) (by kernel_rfl) (by kernel_rfl) (fun _ _ _ h => h) (Or.inr ⟨by rfl, rfl⟩) (by assumption) ?_
    try simp only [Act.put, List.setIfInBounds_toArray, List.set_cons_zero, List.set_cons_succ]
    refine wpAnyH_take (i := 7) (oi := { dst := some 12, op := Op.call { callee := Callee.value (Operand.func 66), args := #[Operand.tmp 10, Operand.tmp 11], argTypes := #[23, 28] }, type := 3, pos := "cut.go:35", after := #[{ on := 5, ground := Ground.data }, { on := 6, ground := Ground.data }, { on := 4, ground := Ground.chain }, { on := 4, ground := Ground.guard }], guard := some (4, true) }) (v := undef) rfl (by kernel_rfl) (by kernel_rfl) (by kernel_rfl) (fun _ _ _ h => h) (Or.inr ⟨by rfl, rfl⟩) (by assumption) ?_
    try simp only [Act.put, List.setIfInBounds_toArray, List.set_cons_zero, List.set_cons_succ]
    refine wpAnyH_take (i := 8) (oi := { dst := some 13, op := Op.load 23 (Operand.tmp 2), type := 23, pos := "cut.go:35", after := #[{ on := 4, ground := Ground.guard }], guard := some (4, true) }) (v := undef) rfl (by kernel_rfl) (by kernel_rfl) (by kernel_rfl) (fun _ _ _ h => h) (Or.inr ⟨by rfl, rfl⟩) (by assumption) ?_
    try simp only [Act.put, List.setIfInBounds_toArray, List.set_cons_zero, List.set_cons_succ]
    refine wpAnyH_take (i := 9) (oi := { dst := some 14, op := Op.call { callee := Callee.value (Operand.func 67), args := #[Operand.tmp 13], argTypes := #[23] }, type := 3, pos := "cut.go:35", after := #[{ on := 8, ground := Ground.data }, { on := 7, ground := Ground.chain }, { on := 4, ground := Ground.guard }], guard := some (4, true) }) (v := undef) rfl (by kernel_rfl) (by kernel_rfl) (by kernel_rfl) (fun _ _ _ h => h) (Or.inr ⟨by rfl, rfl⟩) (by assumption) ?_
    try simp only [Act.put, List.setIfInBounds_toArray, List.set_cons_zero, List.set_cons_succ]
    refine wpAnyH_take (i := 10) (oi := { dst := some 15, op := Op.binOp BinOp.gtr 3 (Operand.tmp 12) (Operand.tmp 14) 3, type := 4, pos := "cut.go:35", after := #[{ on := 7, ground := Ground.data }, { on := 9, ground := Ground.data }, { on := 4, ground := Ground.guard }], guard := some (4, true) }) (v := undef) rfl (by kernel_rfl) (by kernel_rfl) (by kernel_rfl) (fun _ _ _ h => h) (Or.inr ⟨by rfl, rfl⟩) (by assumption) ?_
    try simp only [Act.put, List.setIfInBounds_toArray, List.set_cons_zero, List.set_cons_succ]
    refine wpAnyH_take (i := 11) (oi := { dst := some 16, op := Op.pick (Operand.tmp 9) (Operand.tmp 15) (Operand.const (Value.bool false)), type := 4, pos := "cut.go:35", after := #[{ on := 4, ground := Ground.data }, { on := 10, ground := Ground.data }], guard := none }) (v := .bool false) rfl (by kernel_rfl) (by kernel_rfl) (by kernel_rfl) (fun _ _ _ h => h) (Or.inl ⟨by rfl, fun w hSw => by (obtain ⟨z0, z1, z2, z3, z4⟩ := hSw; go_simp)⟩) (by assumption) ?_
    try simp only [Act.put, List.setIfInBounds_toArray, List.set_cons_zero, List.set_cons_succ]
    refine wpAnyH_take (i := 12) (oi := { dst := some 4, op := Op.assign (Operand.tmp 16), type := 4, pos := "cut.go:35", after := #[{ on := 11, ground := Ground.data }, { on := 9, ground := Ground.chain }, { on := 0, ground := Ground.phase }, { on := 1, ground := Ground.phase }, { on := 2, ground := Ground.phase }, { on := 3, ground := Ground.phase }, { on := 4, ground := Ground.phase }, { on := 5, ground := Ground.phase }, { on := 6, ground := Ground.phase }, { on := 7, ground := Ground.phase }, { on := 8, ground := Ground.phase }, { on := 9, ground := Ground.phase }, { on := 10, ground := Ground.phase }, { on := 11, ground := Ground.phase }], guard := none }) (v := .bool false) rfl (by kernel_rfl) (by kernel_rfl) (by kernel_rfl) (fun _ _ _ h => h) (Or.inl ⟨by rfl, fun w hSw => by (obtain ⟨z0, z1, z2, z3, z4⟩ := hSw; go_simp)⟩) (by assumption) ?_
    try simp only [Act.put, List.setIfInBounds_toArray, List.set_cons_zero, List.set_cons_succ]
    refine wpAnyH_done (by kernel_rfl) ?_ _
    go_wp2_with fail
    go_ret
    exact ⟨rfl, sx.trans u1⟩
set_option maxRecDepth 100000 in
set_option maxHeartbeats 4000000 in
theorem dfull_core {p q : Int} {pa sa ka : Option Addr} {np cp ns cs nk ck : Nat} {E n : Int} (w : World)
    (hpq : E = 0 → 1024 ≤ p ∧ p ≤ 8192) (hn : 0 ≤ n ∧ n ≤ 50000000000)
    (HC : Hid (∀ W, Same w W → Calls Tryz.prog 42 #[frameV p q, nodeV pa np cp sa ns cs ka nk ck] W fun e w' => e = .returned (.int .i64 E) ∧ Same W w'))
    (HS : Hid (∀ W, Same w W → Calls Tryz.prog 43 #[frameV p q, nodeV pa np cp sa ns cs ka nk ck] W fun e w' => e = .returned (.int .i64 n) ∧ Same W w')) :
    Calls Tryz.prog 21 #[frameV p q, nodeV pa np cp sa ns cs ka nk ck] w fun e w' => e = .returned (.bool (E == 0 && decide (p - 32 < n))) ∧ Same w w' := by
  obtain ⟨V, hV⟩ : ∃ V, V = ((w.alloc (.cells #[.int .i64 p, .int .i64 q] 23)).alloc (.cells #[.slice pa np cp, .slice sa ns cs, .slice ka nk ck] 28)) := ⟨_, rfl⟩
  have sx : Same w V := by rw [hV]; exact ((Fr.refl _ w).alloc _).alloc _
  have HCL : Hid (∀ W, Same V W → W.cell? ⟨w.heap.size, 0, none⟩ = some (.int .i64 p) ∧ W.cell? ⟨w.heap.size, 1, none⟩ = some (.int .i64 q) ∧ W.cell? ⟨w.heap.size + 1, 0, none⟩ = some (.slice pa np cp) ∧ W.cell? ⟨w.heap.size + 1, 1, none⟩ = some (.slice sa ns cs) ∧ W.cell? ⟨w.heap.size + 1, 2, none⟩ = some (.slice ka nk ck)) := fun W s => ⟨s.keep (by rw [hV]; simp), s.keep (by rw [hV]; simp), s.keep (by rw [hV]; simp), s.keep (by rw [hV]; simp), s.keep (by rw [hV]; simp)⟩
  have d0 : Same V V.drew := Fr.drew (Fr.refl _ V)
  by_cases hE : E = 0
  · obtain ⟨p1, p2⟩ := hpq hE
    obtain ⟨m1, m2⟩ := hn
    clear hpq
    have hw1 : IntKind.i64.wrap (p - 32) = p - 32 := by rw [IntKind.wrap_i64]; omega
    have hw2 : IntKind.i64.wrap (3 * n) = 3 * n := by rw [IntKind.wrap_i64]; omega
    have hE0 := hE
    subst hE
    clear hE0
    have e1 : ((0 : Int) == 0 && decide (p - 32 < n)) = decide (p - 32 < n) := by simp
    rw [e1]
    clear e1
    go_enter Tryz.func21, Tryz.ntmps21
    go_wp2_with fail
    rw [← hV]
    clear hV
    go_region_held3 (fun W => W.cell? ⟨w.heap.size, 0, none⟩ = some (.int .i64 p) ∧ W.cell? ⟨w.heap.size, 1, none⟩ = some (.int .i64 q) ∧ W.cell? ⟨w.heap.size + 1, 0, none⟩ = some (.slice pa np cp) ∧ W.cell? ⟨w.heap.size + 1, 1, none⟩ = some (.slice sa ns cs) ∧ W.cell? ⟨w.heap.size + 1, 2, none⟩ = some (.slice ka nk ck)) (first | exact HCL.out _ u3 | exact HCL.out _ u2 | exact HCL.out _ u1 | exact HCL.out _ d0)
      (first | (go_at_call 43; refine (HS.out _ (sx.trans u1)).mono ?_; rintro e Z2 ⟨rfl, q2⟩; have u2 := Same.trans u1 q2; clear q2) | (go_at_call 42; refine (HC.out _ (sx.trans d0)).mono ?_; rintro e Z1 ⟨rfl, q1⟩; have u1 := Same.trans d0 q1; clear q1))
    go_wp2_with fail
    go_ret
    exact ⟨rfl, sx.trans u2⟩
  · have e1 : (E == 0 && decide (p - 32 < n)) = false := by simp [hE]
    rw [e1]
    have hne : (E == 0) = false := by simp [hE]
    clear hE e1 HS
    go_enter Tryz.func21, Tryz.ntmps21
    go_wp2_with fail
    rw [← hV]
    clear hV
    refine wp_region_held_drew (S := fun W => W.cell? ⟨w.heap.size, 0, none⟩ = some (.int .i64 p) ∧ W.cell? ⟨w.heap.size, 1, none⟩ = some (.int .i64 q) ∧ W.cell? ⟨w.heap.size + 1, 0, none⟩ = some (.slice pa np cp) ∧ W.cell? ⟨w.heap.size + 1, 1, none⟩ = some (.slice sa ns cs) ∧ W.cell? ⟨w.heap.size + 1, 2, none⟩ = some (.slice ka nk ck)) (by kernel_rfl) (HCL.out _ d0) (fun hHeld => ?_)
    refine wpAnyH_take (i := 0) (oi := { dst := some 5, op := Op.load 23 (Operand.tmp 2), type := 23, pos := "ref.go:135", after := #[], guard := none }) (v := frameV p q) rfl (by kernel_rfl) (by kernel_rfl) (by kernel_rfl) (fun _ _ _ h => h) (Or.inl ⟨by rfl, fun w hSw => by (obtain ⟨z0, z1, z2, z3, z4⟩ := hSw; go_simp)⟩) (by assumption) ?_
    try simp only [Act.put, List.setIfInBounds_toArray, List.set_cons_zero, List.set_cons_succ]
    refine wpAnyH_take (i := 1) (oi := { dst := some 6, op := Op.load 28 (Operand.tmp 3), type := 28, pos := "ref.go:135", after := #[], guard := none }) (v := nodeV pa np cp sa ns cs ka nk ck) rfl (by kernel_rfl) (by kernel_rfl) (by kernel_rfl) (fun _ _ _ h => h) (Or.inl ⟨by rfl, fun w hSw => by (obtain ⟨z0, z1, z2, z3, z4⟩ := hSw; go_simp)⟩) (by assumption) ?_
    try simp only [Act.put, List.setIfInBounds_toArray, List.set_cons_zero, List.set_cons_succ]
    refine wpAnyH_ready (rs := [2]) (by kernel_rfl) (by simp) ?_
    refine AllReadyH.cons (o := { dst := some 7, op := Op.call { callee := Callee.value (Operand.func 42), args := #[Operand.tmp 5, Operand.tmp 6], argTypes := #[23, 28] }, type := 34, pos := "ref.go:135", after := #[{ on := 0, ground := Ground.data }, { on := 1, ground := Ground.data }], guard := none }) rfl (fun K hK => ?_) AllReadyH.nil
    go_simp
    go_at_call 42
    refine (HC.out _ (sx.trans d0)).mono ?_
    rintro e Z1 ⟨rfl, q1⟩
    try go_wp2_with fail
    have u1 := Same.trans d0 q1
    refine hK.out _ _ (HCL.out _ u1) (fun hHeld => ?_)
    clear hK K
    try simp only [Act.put, List.setIfInBounds_toArray, List.set_cons_zero, List.set_cons_succ]
    refine wpAnyH_take (i := 3) (oi := { dst := some 8, op := Op.binOp BinOp.eql 34 (Operand.tmp 7) (Operand.const (Value.int IntKind.i64 0)) 34, type := 4, pos := "ref.go:135", after := #[{ on := 2, ground := Ground.data }], guard := none }) (v := .bool false) rfl (by kernel_rfl) (by kernel_rfl) (by kernel_rfl) (fun _ _ _ h => h) (Or.inl ⟨by rfl, fun w hSw => by (obtain ⟨z0, z1, z2, z3, z4⟩ := hSw; go_simp)⟩) (by assumption) ?_
    try simp only [Act.put, List.setIfInBounds_toArray, List.set_cons_zero, List.set_cons_succ]
    refine wpAnyH_take (i := 4) (oi := { dst := some 9, op := Op.move (Operand.tmp 8), type := 4, pos := "ref.go:135", after := #[{ on := 3, ground := Ground.data }, { on := 2, ground := Ground.chain }], guard := none }) (v := .bool false) rfl (by kernel_rfl) (by kernel_rfl) (by kernel_rfl) (fun _ _ _ h => h) (Or.inl ⟨by rfl, fun w hSw => by (obtain ⟨z0, z1, z2, z3, z4⟩ := hSw; go_simp)⟩) (by assumption) ?_
    try simp only [Act.put, List.setIfInBounds_toArray, List.set_cons_zero, List.set_cons_succ]
    refine wpAnyH_take (i := 5) (oi := { dst := some 10, op := Op.load 23 (Operand.tmp 2), type := 23, pos := "ref.go:135", after := #[{ on := 4, ground := Ground.guard }], guard := some (4, true) }) (v := undef) rfl (by kernel_rfl) (by kernel_rfl) (by kernel_rfl) (fun _ _ _ h => h) (Or.inr ⟨by rfl, rfl⟩) (by assumption) ?_
    try simp only [Act.put, List.setIfInBounds_toArray, List.set_cons_zero, List.set_cons_succ]
    refine wpAnyH_take (i := 6) (oi := { dst := some 11, op := Op.load 28 (Operand.tmp 3), type := 28, pos := "ref.go:135", after := #[{ on := 4, ground := Ground.guard }], guard := some (4, true) }) (v := undef) rfl (by kernel_rfl) (by kernel_rfl) (by kernel_rfl) (fun _ _ _ h => h) (Or.inr ⟨by rfl, rfl⟩) (by assumption) ?_
    try simp only [Act.put, List.setIfInBounds_toArray, List.set_cons_zero, List.set_cons_succ]
    refine wpAnyH_take (i := 7) (oi := { dst := some 12, op := Op.call { callee := Callee.value (Operand.func 43), args := #[Operand.tmp 10, Operand.tmp 11], argTypes := #[23, 28] }, type := 3, pos := "ref.go:135", after := #[{ on := 5, ground := Ground.data }, { on := 6, ground := Ground.data }, { on := 4, ground := Ground.chain }, { on := 4, ground := Ground.guard }], guard := some (4, true) }) (v := undef) rfl (by kernel_rfl) (by kernel_rfl) (by kernel_rfl) (fun _ _ _ h => h) (Or.inr ⟨by rfl, rfl⟩) (by assumption) ?_
    try simp only [Act.put, List.setIfInBounds_toArray, List.set_cons_zero, List.set_cons_succ]
    refine wpAnyH_take (i := 8) (oi := { dst := some 13, op := Op.fieldAddr 23 (Operand.tmp 2) 0, type := 0, pos := "ref.go:135", after := #[{ on := 4, ground := Ground.guard }], guard := some (4, true) }) (v := undef) rfl (by kernel_rfl) (by kernel_rfl) (by kernel_rfl) (fun _ _ _ h => h) (Or.inr ⟨by rfl, rfl⟩) (by assumption) ?_
    try simp only [Act.put, List.setIfInBounds_toArray, List.set_cons_zero, List.set_cons_succ]
    refine wpAnyH_take (i := 9) (oi := { dst := some 14, op := Op.load 3 (Operand.tmp 13), type := 3, pos := "ref.go:135", after := #[{ on := 8, ground := Ground.data }, { on := 4, ground := Ground.guard }], guard := some (4, true) }) (v := undef) rfl (by kernel_rfl) (by kernel_rfl) (by kernel_rfl) (fun _ _ _ h => h) (Or.inr ⟨by rfl, rfl⟩) (by assumption) ?_
    try simp only [Act.put, List.setIfInBounds_toArray, List.set_cons_zero, List.set_cons_succ]
    refine wpAnyH_take (i := 10) (oi := { dst := some 15, op := Op.binOp BinOp.sub 3 (Operand.tmp 14) (Operand.const (Value.int IntKind.i64 32)) 3, type := 3, pos := "ref.go:135", after := #[{ on := 9, ground := Ground.data }, { on := 4, ground := Ground.guard }], guard := some (4, true) }) (v := undef) rfl (by kernel_rfl) (by kernel_rfl) (by kernel_rfl) (fun _ _ _ h => h) (Or.inr ⟨by rfl, rfl⟩) (by assumption) ?_
    try simp only [Act.put, List.setIfInBounds_toArray, List.set_cons_zero, List.set_cons_succ]
    refine wpAnyH_take (i := 11) (oi := { dst := some 16, op := Op.binOp BinOp.gtr 3 (Operand.tmp 12) (Operand.tmp 15) 3, type := 4, pos := "ref.go:135", after := #[{ on := 7, ground := Ground.data }, { on := 10, ground := Ground.data }, { on := 4, ground := Ground.guard }], guard := some (4, true) }) (v := undef) rfl (by kernel_rfl) (by kernel_rfl) (by kernel_rfl) (fun _ _ _ h => h) (Or.inr ⟨by rfl, rfl⟩) (by assumption) ?_
    try simp only [Act.put, List.setIfInBounds_toArray, List.set_cons_zero, List.set_cons_succ]
    refine wpAnyH_take (i := 12) (oi := { dst := some 17, op := Op.pick (Operand.tmp 9) (Operand.tmp 16) (Operand.const (Value.bool false)), type := 4, pos := "ref.go:135", after := #[{ on := 4, ground := Ground.data }, { on := 11, ground := Ground.data }], guard := none }) (v := .bool false) rfl (by kernel_rfl) (by kernel_rfl) (by kernel_rfl) (fun _ _ _ h => h) (Or.inl ⟨by rfl, fun w hSw => by (obtain ⟨z0, z1, z2, z3, z4⟩ := hSw; go_simp)⟩) (by assumption) ?_
    try simp only [Act.put, List.setIfInBounds_toArray, List.set_cons_zero, List.set_cons_succ]
    refine wpAnyH_take (i := 13) (oi := { dst := some 4, op := Op.assign (Operand.tmp 17), type := 4, pos := "ref.go:135", after := #[{ on := 12, ground := Ground.data }, { on := 7, ground := Ground.chain }, { on := 0, ground := Ground.phase }, { on := 1, ground := Ground.phase }, { on := 2, ground := Ground.phase }, { on := 3, ground := Ground.phase }, { on := 4, ground := Ground.phase }, { on := 5, ground := Ground.phase }, { on := 6, ground := Ground.phase }, { on := 7, ground := Ground.phase }, { on := 8, ground := Ground.phase }, { on := 9, ground := Ground.phase }, { on := 10, ground := Ground.phase }, { on := 11, ground := Ground.phase }, { on := 12, ground := Ground.phase }], guard := none }) (v := .bool false) rfl (by kernel_rfl) (by kernel_rfl) (by kernel_rfl) (fun _ _ _ h => h) (Or.inl ⟨by rfl, fun w hSw => by (obtain ⟨z0, z1, z2, z3, z4⟩ := hSw; go_simp)⟩) (by assumption) ?_
    try simp only [Act.put, List.setIfInBounds_toArray, List.set_cons_zero, List.set_cons_succ]
    refine wpAnyH_done (by kernel_rfl) ?_ _
    go_wp2_with fail
    go_ret
    exact ⟨rfl, sx.trans u1⟩
end Go.Proofs.YtlhenipmepfneaaGreat
