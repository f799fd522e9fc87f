/- free: the document's Entries; FreeEntries, FreeNames. -/
import Derived.Test.YtadmkeadggcipaaIC
namespace Go.Proofs.Ytadmkeadggcipaa
open Go.RowKit Go.Maps

set_option maxRecDepth 100000 in
theorem rentries_calls (p q : Int) (w : World) : Calls Try.prog 8 #[frameV p q] w fun e w' => e = .returned (.int .i64 (entN p q : Int)) ∧ Same w w' := by
  have HM : Hid (∀ W, Calls Try.prog 20 #[.agg #[.int .i64 p, .int .i64 q]] W fun e w' => e = .returned (.bool (frameP p q)) ∧ Same W w') := rframe_calls p q
  have t1 : Same w (w.alloc (.cells #[.int .i64 p, .int .i64 q] 23)) := (Fr.refl _ w).alloc _
  have HC : Hid (∀ W, Same (w.alloc (.cells #[.int .i64 p, .int .i64 q] 23)) W → W.cell? ⟨w.heap.size, 0, none⟩ = some (.int .i64 p) ∧ W.cell? ⟨w.heap.size, 1, none⟩ = some (.int .i64 q)) := fun W h => ⟨h.keep (by simp), h.keep (by simp)⟩
  rcases entN_cases p q with ⟨h1, h2⟩ | ⟨h1, h2, h3, h4, h5⟩
  · rw [h1] at HM
    rw [h2]
    go_enter Try.func8, Try.ntmps8
    go_wp2_with fail
    refine (HM.out _).mono ?_
    rintro e W1 ⟨rfl, s1⟩
    go_wp2_with fail
    go_ret
    exact ⟨rfl, t1.trans s1⟩
  · rw [h1] at HM
    have hw : RowKit.wrap64 (p - 40) = p - 40 := by unfold RowKit.wrap64; omega
    have hd : Int.tdiv (p - 40) 4 = (entN p q : Int) := by rw [h2]; exact Int.tdiv_eq_ediv_of_nonneg (by omega)
    have hw2 : RowKit.wrap64 (entN p q : Int) = (entN p q : Int) := by unfold RowKit.wrap64; omega
    go_enter Try.func8, Try.ntmps8
    go_wp2_with fail
    refine (HM.out _).mono ?_
    rintro e W1 ⟨rfl, s1⟩
    obtain ⟨c0, c1⟩ := HC.out _ s1
    go_wp2_with fail
    go_ret
    exact ⟨by first | rfl | (simp_all; try omega), t1.trans s1⟩
set_option maxRecDepth 100000 in
theorem fentries_walk {p q : Int} (w : World) : Calls Try.prog 3 #[frameV p q] w fun e w' => e = .returned (.bool true) ∧ Same w w' := by
  have HE : Hid (∀ W, Calls Try.prog 7 #[.agg #[.int .i64 p, .int .i64 q]] W fun e w' => e = .returned (.int .i64 (entN p q : Int)) ∧ Same W w') := entries_calls p q
  have HR : Hid (∀ W, Calls Try.prog 8 #[.agg #[.int .i64 p, .int .i64 q]] W fun e w' => e = .returned (.int .i64 (entN p q : Int)) ∧ Same W w') := rentries_calls p q
  have HA : Hid (∀ W, Calls Try.prog 9 #[] W fun e w' => e = .returned (.bool true) ∧ Same W w') := awake9_calls
  have t1 : Same w (w.alloc (.cells #[.int .i64 p, .int .i64 q] 23)) := (Fr.refl _ w).alloc _
  have HC : Hid (∀ W, Same (w.alloc (.cells #[.int .i64 p, .int .i64 q] 23)) W → W.cell? ⟨w.heap.size, 0, none⟩ = some (.int .i64 p) ∧ W.cell? ⟨w.heap.size, 1, none⟩ = some (.int .i64 q)) := fun W h => ⟨h.keep (by simp), h.keep (by simp)⟩
  have HK : Hid (∀ W, Same (w.alloc (.cells #[.int .i64 p, .int .i64 q] 23)) W → (W.cell? ⟨w.heap.size, 0, none⟩ = some (.int .i64 p) ∧ W.cell? ⟨w.heap.size, 1, none⟩ = some (.int .i64 q) ∧ Same w W)) := fun W h => ⟨(HC.out W h).1, (HC.out W h).2, t1.trans h⟩
  go_enter Try.func3, Try.ntmps3
  go_wp2_with fail
  refine wp_region_held_drew (S := fun Y => Y.cell? ⟨w.heap.size, 0, none⟩ = some (.int .i64 p) ∧ Y.cell? ⟨w.heap.size, 1, none⟩ = some (.int .i64 q) ∧ Same w Y) (by kernel_rfl) (HK.out _ (Fr.drew (Fr.refl _ _))) (fun hHeld => ?_)
  refine wpAnyH_take (i := 0) (oi := { dst := some 3, op := Go.Op.load 23 (Go.Operand.tmp 1), type := 23, pos := "law.go:25", after := #[], guard := none }) (v := .agg #[.int .i64 p, .int .i64 q]) rfl (by kernel_rfl) (by kernel_rfl) (by kernel_rfl) (fun _ _ _ h => h) (Or.inl ⟨by rfl, fun w hSw => by (obtain ⟨z0, z1, z2⟩ := hSw; go_simp)⟩) (by assumption) ?_
  try simp only [Act.put, List.setIfInBounds_toArray, List.set_cons_zero, List.set_cons_succ]
  refine wpAnyH_take (i := 2) (oi := { dst := some 5, op := Go.Op.load 23 (Go.Operand.tmp 1), type := 23, pos := "law.go:25", after := #[], guard := none }) (v := .agg #[.int .i64 p, .int .i64 q]) rfl (by kernel_rfl) (by kernel_rfl) (by kernel_rfl) (fun _ _ _ h => h) (Or.inl ⟨by rfl, fun w hSw => by (obtain ⟨z0, z1, z2⟩ := hSw; go_simp)⟩) (by assumption) ?_
  try simp only [Act.put, List.setIfInBounds_toArray, List.set_cons_zero, List.set_cons_succ]
  refine wpAnyH_ready (rs := [1]) (by kernel_rfl) (by simp) ?_
  refine AllReadyH.cons (o := { dst := some 4, op := Go.Op.call { callee := Go.Callee.value (Go.Operand.func 7), args := #[Go.Operand.tmp 3], argTypes := #[23] }, type := 3, pos := "law.go:25", after := #[{ on := 0, ground := Go.Ground.data }], guard := none }) rfl (fun K hK => ?_) AllReadyH.nil
  go_simp
  go_at_call 7
  refine (HE.out _).mono ?_
  rintro e W1 ⟨rfl, s1⟩
  try go_wp2_with fail
  have u1 : Same (w.alloc (.cells #[.int .i64 p, .int .i64 q] 23)) W1 := Same.trans (Fr.drew (Fr.refl _ _)) s1
  refine hK.out _ _ (HK.out _ u1) (fun hHeld => ?_)
  clear hK K
  try simp only [Act.put, List.setIfInBounds_toArray, List.set_cons_zero, List.set_cons_succ]
  refine wpAnyH_ready (rs := [3]) (by kernel_rfl) (by simp) ?_
  refine AllReadyH.cons (o := { dst := some 6, op := Go.Op.call { callee := Go.Callee.value (Go.Operand.func 8), args := #[Go.Operand.tmp 5], argTypes := #[23] }, type := 3, pos := "law.go:25", after := #[{ on := 2, ground := Go.Ground.data }, { on := 1, ground := Go.Ground.chain }], guard := none }) rfl (fun K hK => ?_) AllReadyH.nil
  go_simp
  go_at_call 8
  refine (HR.out _).mono ?_
  rintro e W2 ⟨rfl, s2⟩
  try go_wp2_with fail
  have u2 := u1.trans s2
  refine hK.out _ _ (HK.out _ u2) (fun hHeld => ?_)
  clear hK K
  try simp only [Act.put, List.setIfInBounds_toArray, List.set_cons_zero, List.set_cons_succ]
  refine wpAnyH_take (i := 4) (oi := { dst := some 7, op := Go.Op.binOp Go.BinOp.eql 3 (Go.Operand.tmp 4) (Go.Operand.tmp 6) 3, type := 4, pos := "law.go:25", after := #[{ on := 1, ground := Go.Ground.data }, { on := 3, ground := Go.Ground.data }], guard := none }) (v := .bool true) rfl (by kernel_rfl) (by kernel_rfl) (by kernel_rfl) (fun _ _ _ h => h) (Or.inl ⟨by rfl, fun w hSw => by (obtain ⟨z0, z1, z2⟩ := hSw; go_simp)⟩) (by assumption) ?_
  try simp only [Act.put, List.setIfInBounds_toArray, List.set_cons_zero, List.set_cons_succ]
  refine wpAnyH_take (i := 5) (oi := { dst := some 8, op := Go.Op.move (Go.Operand.tmp 7), type := 4, pos := "law.go:25", after := #[{ on := 4, ground := Go.Ground.data }, { on := 3, ground := Go.Ground.chain }], guard := none }) (v := .bool true) rfl (by kernel_rfl) (by kernel_rfl) (by kernel_rfl) (fun _ _ _ h => h) (Or.inl ⟨by rfl, fun w hSw => by (obtain ⟨z0, z1, z2⟩ := hSw; go_simp)⟩) (by assumption) ?_
  try simp only [Act.put, List.setIfInBounds_toArray, List.set_cons_zero, List.set_cons_succ]
  refine wpAnyH_ready (rs := [6]) (by kernel_rfl) (by simp) ?_
  refine AllReadyH.cons (o := { dst := some 9, op := Go.Op.call { callee := Go.Callee.value (Go.Operand.func 9), args := #[], argTypes := #[] }, type := 4, pos := "law.go:25", after := #[{ on := 5, ground := Go.Ground.chain }, { on := 5, ground := Go.Ground.guard }], guard := some (5, true) }) rfl (fun K hK => ?_) AllReadyH.nil
  go_simp
  go_at_call 9
  refine (HA.out _).mono ?_
  rintro e W3 ⟨rfl, s3⟩
  try go_wp2_with fail
  have u3 := u2.trans s3
  refine hK.out _ _ (HK.out _ u3) (fun hHeld => ?_)
  clear hK K
  try simp only [Act.put, List.setIfInBounds_toArray, List.set_cons_zero, List.set_cons_succ]
  refine wpAnyH_take (i := 7) (oi := { dst := some 10, op := Go.Op.pick (Go.Operand.tmp 8) (Go.Operand.tmp 9) (Go.Operand.const (Go.Value.bool false)), type := 4, pos := "law.go:25", after := #[{ on := 5, ground := Go.Ground.data }, { on := 6, ground := Go.Ground.data }], guard := none }) (v := .bool true) rfl (by kernel_rfl) (by kernel_rfl) (by kernel_rfl) (fun _ _ _ h => h) (Or.inl ⟨by rfl, fun w hSw => by (obtain ⟨z0, z1, z2⟩ := hSw; go_simp)⟩) (by assumption) ?_
  try simp only [Act.put, List.setIfInBounds_toArray, List.set_cons_zero, List.set_cons_succ]
  refine wpAnyH_take (i := 8) (oi := { dst := some 2, op := Go.Op.assign (Go.Operand.tmp 10), type := 4, pos := "law.go:25", after := #[{ on := 7, ground := Go.Ground.data }, { on := 6, ground := Go.Ground.chain }, { on := 0, ground := Go.Ground.phase }, { on := 1, ground := Go.Ground.phase }, { on := 2, ground := Go.Ground.phase }, { on := 3, ground := Go.Ground.phase }, { on := 4, ground := Go.Ground.phase }, { on := 5, ground := Go.Ground.phase }, { on := 6, ground := Go.Ground.phase }, { on := 7, ground := Go.Ground.phase }], guard := none }) (v := .bool true) rfl (by kernel_rfl) (by kernel_rfl) (by kernel_rfl) (fun _ _ _ h => h) (Or.inl ⟨by rfl, fun w hSw => by (obtain ⟨z0, z1, z2⟩ := hSw; go_simp)⟩) (by assumption) ?_
  try simp only [Act.put, List.setIfInBounds_toArray, List.set_cons_zero, List.set_cons_succ]
  refine wpAnyH_done (by kernel_rfl) ?_ _
  have t3 : Same w W3 := t1.trans u3
  go_wp2_with fail
  go_ret
  exact ⟨rfl, t3⟩
set_option maxRecDepth 100000 in
theorem fnames_walk (w : World) : Calls Try.prog 6 #[] w fun e w' => e = .returned (.bool true) ∧ Same w w' := by
  have HE : Hid (∀ W, Calls Try.prog 7 #[.agg #[.int .i64 8192, .int .i64 1]] W fun e w' => e = .returned (.int .i64 2038) ∧ Same W w') := entries_calls 8192 1
  have HA : Hid (∀ W, Calls Try.prog 9 #[] W fun e w' => e = .returned (.bool true) ∧ Same W w') := awake9_calls
  go_enter Try.func6, Try.ntmps6
  go_wp2_with fail
  refine (HE.out _).mono ?_
  rintro e W1 ⟨rfl, s1⟩
  go_wp2_with fail
  refine (HA.out _).mono ?_
  rintro e W3 ⟨rfl, s3⟩
  go_wp2_with fail
  go_ret
  exact ⟨rfl, s1.trans s3⟩
end Go.Proofs.Ytadmkeadggcipaa
