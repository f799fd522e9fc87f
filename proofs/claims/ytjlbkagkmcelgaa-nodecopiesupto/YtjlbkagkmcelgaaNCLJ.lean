/- A node that was lent: as a node, as rows of its own; kept of it. -/
import Derived.Test.YtjlbkagkmcelgaaNCJJ
namespace Go.Proofs.Ytjlbkagkmcelgaa
open Go.RowKit Go.Maps

section
variable {w w' W : World} {B : Nat} {xp xs xk : Sl} {N : Nd} {T : Nat → Prop}
theorem LentN.fr (h : LentN w B xp xs xk N) (f : Fr T w w') (hT : ∀ i, inN xp xs xk i → ¬ T i) : LentN w' B xp xs xk N :=
  ⟨own_frameB h.oP f (fun k hk => hT k (Or.inl (by rw [blk_of] at hk; exact hk))), own_frameB h.oS f (fun k hk => hT k (Or.inr (Or.inl (by rw [blk_of] at hk; exact hk)))), own_frameB h.oK f (fun k hk => hT k (Or.inr (Or.inr (by rw [blk_of] at hk; exact hk)))), h.np, h.ns, h.nk⟩
theorem LentN.same (h : LentN w B xp xs xk N) (s : Same w w') : LentN w' B xp xs xk N := h.fr s (fun _ _ f => f)
theorem LentN.low (h : LentN w B xp xs xk N) {B2 : Nat} (hb : B2 ≤ B) : LentN w B2 xp xs xk N := ⟨own_base h.oP hb, own_base h.oS hb, own_base h.oK hb, h.np, h.ns, h.nk⟩
theorem LentN.rows (h : LentN w B xp xs xk N) (hok : ∀ x ∈ N.ks, KidOk x) : ∃ gp gs gk, xp.ao = some ⟨gp, 0, none⟩ ∧ xs.ao = some ⟨gs, 0, none⟩ ∧ xk.ao = some ⟨gk, 0, none⟩ ∧ PRow w xp.ao gp 0 (N.ps ++ [mkP]) ∧ TRow w xs.ao gs 0 (N.ss ++ [mkT]) ∧ KRow w xk.ao gk 0 (N.ks ++ [mkQ]) := by
  have hk4 : ∀ x ∈ N.ks ++ [mkQ], KidOk x := fun x hx => by
    rcases List.mem_append.1 hx with h | h
    · exact hok x h
    · rw [List.mem_singleton.1 h]; exact ⟨by decide, by decide⟩
  obtain ⟨g1, r1⟩ := own_prow (own_base h.oP (Nat.zero_le _)) (by simp)
  obtain ⟨g2, r2⟩ := own_trow (own_base h.oS (Nat.zero_le _)) (by simp)
  obtain ⟨g3, r3⟩ := own_krow hk4 (own_base h.oK (Nat.zero_le _)) (by simp)
  exact ⟨g1, g2, g3, (r1.place (by simp)).1, (r2.place (by simp)).1, (r3.place (by simp)).1, r1, r2, r3⟩
/-- It is the node that it was lent from. -/
theorem LentN.nd (h : LentN w B xp xs xk N) {v : World} {r : Nr} (hn : NdAt v r N) : ∃ nr : Nr, ndV nr N = nV xp xs xk ∧ NdAt w nr N := by
  obtain ⟨gp, gs, gk, e1, e2, e3, r1, r2, r3⟩ := h.rows hn.ok
  refine ⟨⟨xp.ao, gp, 0, xp.c, xs.ao, gs, 0, xs.c, xk.ao, gk, 0, xk.c⟩, ?_, ⟨prow_front r1, trow_front r2, krow_front r3, hn.ok, hn.lp, hn.ls, hn.lk⟩⟩
  unfold ndV nodeV nV
  rw [← h.np, ← h.ns, ← h.nk]
theorem LentN.own (h : LentN w B xp xs xk N) (h1 : N.ps.length ≤ 1048576) (h2 : N.ss.length ≤ 1048576) (h3 : N.ks.length ≤ 1048576) (hok : ∀ x ∈ N.ks, KidOk x) : Own3 w xp xs xk := by
  refine ⟨⟨pcells N.ps, ?_⟩, ⟨scells N.ss, ?_⟩, ⟨kcellsL N.ks, ?_⟩, by rw [h.np]; exact h1, by rw [h.ns]; exact h2, by rw [h.nk]; exact h3⟩
  · have := own_base h.oP (Nat.zero_le B)
    rw [pcells_app] at this
    have e := own_fewer this (flat_length _ 2 N.ps (fun _ _ => rfl))
    rw [← h.np] at e
    exact e
  · have := own_base h.oS (Nat.zero_le B)
    rw [scells_app] at this
    have e := own_fewer this (by simp [scells])
    rw [← h.ns] at e
    exact e
  · have := own_base h.oK (Nat.zero_le B)
    rw [kcellsL_app] at this
    have e := own_fewer this (flat_length _ 33 N.ks (fun x hx => kcells_length (hok x hx).d))
    rw [← h.nk] at e
    exact e
end
set_option maxRecDepth 100000 in
set_option maxHeartbeats 1000000 in
theorem kept_true {B : Nat} {xp xs xk : Sl} {r : Nr} {N : Nd} (w : World) (h : LentN w B xp xs xk N) (hn : NdAt w r N) (h1 : N.ps.length ≤ 1048576) (h2 : N.ss.length ≤ 1048576) (h3 : N.ks.length ≤ 1048576) : Calls Try.prog 7 #[nV xp xs xk, ndV r N] w fun e w' => e = .returned (.bool true) ∧ Same w w' := by
  obtain ⟨nr, env, hnd⟩ := h.nd hn
  have HS : Hid (∀ W, Same w W → Calls Try.prog 6 #[nV xp xs xk, ndV r N] W fun e w' => e = .returned (.bool true) ∧ Same W w') := fun W s => by
    have := rsame_calls W (hnd.same s) (hn.same s)
    rw [env] at this
    exact this.mono fun e w' ⟨b, he, hb, hs⟩ => ⟨by rw [he, hb.2 rfl], hs⟩
  obtain ⟨gp, gs, gk, e1, e2, e3, r1, r2, r3⟩ := h.rows hn.ok
  have y1 : N.ps.length + 1 ≤ xp.c := (own_cap (own_base h.oP (Nat.zero_le _))).1
  have y2 : N.ss.length + 1 ≤ xs.c := (own_cap (own_base h.oS (Nat.zero_le _))).1
  have y3 : N.ks.length + 1 ≤ xk.c := (own_cap (own_base h.oK (Nat.zero_le _))).1
  have c1 : w.cell? ⟨gp, N.ps.length * 2, none⟩ = some (.string ⟨#[109, 97, 114, 107]⟩) := by
    have := (r1.cells N.ps.length mkP (by rw [List.getElem?_append_right (Nat.le_refl _), Nat.sub_self]; rfl)).1
    rwa [Nat.zero_add] at this
  have c2 : w.cell? ⟨gs, N.ss.length, none⟩ = some (.string ⟨#[109, 97, 114, 107]⟩) := by
    have := r2.cells N.ss.length mkT (by rw [List.getElem?_append_right (Nat.le_refl _), Nat.sub_self]; rfl)
    rwa [Nat.zero_add] at this
  have c3 : w.cell? ⟨gk, N.ks.length * 33, none⟩ = some (.int .u32 77) := by
    have := r3.cells N.ks.length mkQ (by rw [List.getElem?_append_right (Nat.le_refl _), Nat.sub_self]; rfl) 0 _ rfl
    rwa [Nat.zero_add, Nat.add_zero] at this
  have np := h.np
  have ns := h.ns
  have nk := h.nk
  obtain ⟨pa, pn, pc⟩ := xp
  obtain ⟨sa, sn, sc⟩ := xs
  obtain ⟨ka, kn, kc⟩ := xk
  simp only at e1 e2 e3 np ns nk y1 y2 y3
  subst e1 e2 e3 np ns nk
  unfold nV at HS ⊢
  simp only [Sl.v] at HS ⊢
  obtain ⟨E1, hE1⟩ : ∃ E : Nat, E = N.ps.length + 1 := ⟨_, rfl⟩
  have z1 : IntKind.i64.wrap ((N.ps.length : Int) + 1) = (E1 : Int) := by rw [IntKind.wrap_i64]; omega
  obtain ⟨E2, hE2⟩ : ∃ E : Nat, E = N.ss.length + 1 := ⟨_, rfl⟩
  have z2 : IntKind.i64.wrap ((N.ss.length : Int) + 1) = (E2 : Int) := by rw [IntKind.wrap_i64]; omega
  obtain ⟨E3, hE3⟩ : ∃ E : Nat, E = N.ks.length + 1 := ⟨_, rfl⟩
  have z3 : IntKind.i64.wrap ((N.ks.length : Int) + 1) = (E3 : Int) := by rw [IntKind.wrap_i64]; omega
  have x1 : (E1 : Int) ≤ (pc : Int) := by omega
  have x2 : (E2 : Int) ≤ (sc : Int) := by omega
  have x3 : (E3 : Int) ≤ (kc : Int) := by omega
  have v1 : (0 : Int) ≤ (E1 : Int) := by omega
  have v2 : (0 : Int) ≤ (E2 : Int) := by omega
  have v3 : (0 : Int) ≤ (E3 : Int) := by omega
  have t1 : (N.ps.length : Int) < (E1 : Int) := by omega
  have t2 : (N.ss.length : Int) < (E2 : Int) := by omega
  have t3 : (N.ks.length : Int) < (E3 : Int) := by omega
  obtain ⟨V, hV⟩ : ∃ V, V = (w.alloc (.cells #[.slice (some ⟨gp, 0, none⟩) N.ps.length pc, .slice (some ⟨gs, 0, none⟩) N.ss.length sc, .slice (some ⟨gk, 0, none⟩) N.ks.length kc] 26)).alloc (.cells #[.slice r.pa N.ps.length r.cp, .slice r.sa N.ss.length r.cs, .slice r.ka N.ks.length r.ck] 26) := ⟨_, rfl⟩
  have sx : Same w V := by rw [hV]; exact ((Fr.refl _ w).alloc _).alloc _
  have a0 : V.cell? ⟨w.heap.size, 0, none⟩ = some (.slice (some ⟨gp, 0, none⟩) N.ps.length pc) := by rw [hV]; simp
  have a1 : V.cell? ⟨w.heap.size, 1, none⟩ = some (.slice (some ⟨gs, 0, none⟩) N.ss.length sc) := by rw [hV]; simp
  have a2 : V.cell? ⟨w.heap.size, 2, none⟩ = some (.slice (some ⟨gk, 0, none⟩) N.ks.length kc) := by rw [hV]; simp
  have b0 : V.cell? ⟨w.heap.size + 1, 0, none⟩ = some (.slice r.pa N.ps.length r.cp) := by rw [hV]; simp
  have b1 : V.cell? ⟨w.heap.size + 1, 1, none⟩ = some (.slice r.sa N.ss.length r.cs) := by rw [hV]; simp
  have b2 : V.cell? ⟨w.heap.size + 1, 2, none⟩ = some (.slice r.ka N.ks.length r.ck) := by rw [hV]; simp
  have HC : Hid (∀ W, Same V W → W.cell? ⟨w.heap.size, 0, none⟩ = some (.slice (some ⟨gp, 0, none⟩) N.ps.length pc) ∧ W.cell? ⟨w.heap.size, 1, none⟩ = some (.slice (some ⟨gs, 0, none⟩) N.ss.length sc) ∧ W.cell? ⟨w.heap.size, 2, none⟩ = some (.slice (some ⟨gk, 0, none⟩) N.ks.length kc) ∧ W.cell? ⟨w.heap.size + 1, 0, none⟩ = some (.slice r.pa N.ps.length r.cp) ∧ W.cell? ⟨w.heap.size + 1, 1, none⟩ = some (.slice r.sa N.ss.length r.cs) ∧ W.cell? ⟨w.heap.size + 1, 2, none⟩ = some (.slice r.ka N.ks.length r.ck)) := fun W h => ⟨h.keep a0, h.keep a1, h.keep a2, h.keep b0, h.keep b1, h.keep b2⟩
  have HM : Hid (∀ W, Same w W → W.cell? ⟨gp, N.ps.length * 2, none⟩ = some (.string ⟨#[109, 97, 114, 107]⟩) ∧ W.cell? ⟨gs, N.ss.length, none⟩ = some (.string ⟨#[109, 97, 114, 107]⟩) ∧ W.cell? ⟨gk, N.ks.length * 33, none⟩ = some (.int .u32 77)) := fun W h => ⟨h.keep c1, h.keep c2, h.keep c3⟩
  clear hE1 hE2 hE3
  clear h hn hnd env r1 r2 r3 y1 y2 y3 h1 h2 h3 c1 c2 c3
  go_enter Try.func7, Try.ntmps7
  go_wp2_with fail
  rw [← hV]
  clear hV
  refine wp_region_held_drew (S := fun W => W.cell? ⟨w.heap.size, 0, none⟩ = some (.slice (some ⟨gp, 0, none⟩) N.ps.length pc) ∧ W.cell? ⟨w.heap.size, 1, none⟩ = some (.slice (some ⟨gs, 0, none⟩) N.ss.length sc) ∧ W.cell? ⟨w.heap.size, 2, none⟩ = some (.slice (some ⟨gk, 0, none⟩) N.ks.length kc) ∧ W.cell? ⟨w.heap.size + 1, 0, none⟩ = some (.slice r.pa N.ps.length r.cp) ∧ W.cell? ⟨w.heap.size + 1, 1, none⟩ = some (.slice r.sa N.ss.length r.cs) ∧ W.cell? ⟨w.heap.size + 1, 2, none⟩ = some (.slice r.ka N.ks.length r.ck)) (by kernel_rfl) (⟨a0, a1, a2, b0, b1, b2⟩) (fun hHeld => ?_)
  refine wpAnyH_take (i := 0) (oi := { dst := some 8, op := Op.fieldAddr 26 (Operand.tmp 2) 0, type := 0, pos := "law.go:22", after := #[], guard := none }) (v := .pointer (some ⟨w.heap.size, 0, none⟩)) rfl (by kernel_rfl) (by kernel_rfl) (by kernel_rfl) (fun _ _ _ h => h) (Or.inl ⟨by rfl, fun w hSw => by (obtain ⟨q0, q1, q2, q3, q4, q5⟩ := hSw; go_simp)⟩) (by assumption) ?_
  try simp only [Act.put, List.setIfInBounds_toArray, List.set_cons_zero, List.set_cons_succ]
  refine wpAnyH_take (i := 1) (oi := { dst := some 9, op := Op.load 22 (Operand.tmp 8), type := 22, pos := "law.go:22", after := #[{ on := 0, ground := Ground.data }], guard := none }) (v := .slice (some ⟨gp, 0, none⟩) N.ps.length pc) rfl (by kernel_rfl) (by kernel_rfl) (by kernel_rfl) (fun _ _ _ h => h) (Or.inl ⟨by rfl, fun w hSw => by (obtain ⟨q0, q1, q2, q3, q4, q5⟩ := hSw; go_simp)⟩) (by assumption) ?_
  try simp only [Act.put, List.setIfInBounds_toArray, List.set_cons_zero, List.set_cons_succ]
  refine wpAnyH_take (i := 2) (oi := { dst := some 10, op := Op.fieldAddr 26 (Operand.tmp 3) 0, type := 0, pos := "law.go:22", after := #[], guard := none }) (v := .pointer (some ⟨w.heap.size + 1, 0, none⟩)) rfl (by kernel_rfl) (by kernel_rfl) (by kernel_rfl) (fun _ _ _ h => h) (Or.inl ⟨by rfl, fun w hSw => by (obtain ⟨q0, q1, q2, q3, q4, q5⟩ := hSw; go_simp)⟩) (by assumption) ?_
  try simp only [Act.put, List.setIfInBounds_toArray, List.set_cons_zero, List.set_cons_succ]
  refine wpAnyH_take (i := 3) (oi := { dst := some 11, op := Op.load 22 (Operand.tmp 10), type := 22, pos := "law.go:22", after := #[{ on := 2, ground := Ground.data }], guard := none }) (v := .slice r.pa N.ps.length r.cp) rfl (by kernel_rfl) (by kernel_rfl) (by kernel_rfl) (fun _ _ _ h => h) (Or.inl ⟨by rfl, fun w hSw => by (obtain ⟨q0, q1, q2, q3, q4, q5⟩ := hSw; go_simp)⟩) (by assumption) ?_
  try simp only [Act.put, List.setIfInBounds_toArray, List.set_cons_zero, List.set_cons_succ]
  refine wpAnyH_take (i := 4) (oi := { dst := some 12, op := Op.call { callee := Callee.builtin Builtin.len, args := #[Operand.tmp 11], argTypes := #[22] }, type := 3, pos := "law.go:22", after := #[{ on := 3, ground := Ground.data }], guard := none }) (v := .int .i64 (N.ps.length : Int)) rfl (by kernel_rfl) (by kernel_rfl) (by kernel_rfl) (fun _ _ _ h => h) (Or.inl ⟨by rfl, fun w hSw => by (obtain ⟨q0, q1, q2, q3, q4, q5⟩ := hSw; go_simp)⟩) (by assumption) ?_
  try simp only [Act.put, List.setIfInBounds_toArray, List.set_cons_zero, List.set_cons_succ]
  refine wpAnyH_take (i := 5) (oi := { dst := some 13, op := Op.binOp BinOp.add 3 (Operand.tmp 12) (Operand.const (Value.int IntKind.i64 1)) 3, type := 3, pos := "law.go:22", after := #[{ on := 4, ground := Ground.data }], guard := none }) (v := .int .i64 (E1 : Int)) rfl (by kernel_rfl) (by kernel_rfl) (by kernel_rfl) (fun _ _ _ h => h) (Or.inl ⟨by rfl, fun w hSw => by (obtain ⟨q0, q1, q2, q3, q4, q5⟩ := hSw; go_simp)⟩) (by assumption) ?_
  try simp only [Act.put, List.setIfInBounds_toArray, List.set_cons_zero, List.set_cons_succ]
  refine wpAnyH_take (i := 6) (oi := { dst := some 14, op := Op.slice 22 (Operand.tmp 9) none (some (Operand.tmp 13)) none, type := 22, pos := "law.go:22", after := #[{ on := 1, ground := Ground.data }, { on := 5, ground := Ground.data }], guard := none }) (v := .slice (some ⟨gp, 0, none⟩) E1 pc) rfl (by kernel_rfl) (by kernel_rfl) (by kernel_rfl) (fun _ _ _ h => h) (Or.inl ⟨by rfl, fun w hSw => by (obtain ⟨q0, q1, q2, q3, q4, q5⟩ := hSw; go_simp)⟩) (by assumption) ?_
  try simp only [Act.put, List.setIfInBounds_toArray, List.set_cons_zero, List.set_cons_succ]
  refine wpAnyH_take (i := 7) (oi := { dst := some 15, op := Op.fieldAddr 26 (Operand.tmp 2) 1, type := 0, pos := "law.go:22", after := #[], guard := none }) (v := .pointer (some ⟨w.heap.size, 1, none⟩)) rfl (by kernel_rfl) (by kernel_rfl) (by kernel_rfl) (fun _ _ _ h => h) (Or.inl ⟨by rfl, fun w hSw => by (obtain ⟨q0, q1, q2, q3, q4, q5⟩ := hSw; go_simp)⟩) (by assumption) ?_
  try simp only [Act.put, List.setIfInBounds_toArray, List.set_cons_zero, List.set_cons_succ]
  refine wpAnyH_take (i := 8) (oi := { dst := some 16, op := Op.load 23 (Operand.tmp 15), type := 23, pos := "law.go:22", after := #[{ on := 7, ground := Ground.data }], guard := none }) (v := .slice (some ⟨gs, 0, none⟩) N.ss.length sc) rfl (by kernel_rfl) (by kernel_rfl) (by kernel_rfl) (fun _ _ _ h => h) (Or.inl ⟨by rfl, fun w hSw => by (obtain ⟨q0, q1, q2, q3, q4, q5⟩ := hSw; go_simp)⟩) (by assumption) ?_
  try simp only [Act.put, List.setIfInBounds_toArray, List.set_cons_zero, List.set_cons_succ]
  refine wpAnyH_take (i := 9) (oi := { dst := some 17, op := Op.fieldAddr 26 (Operand.tmp 3) 1, type := 0, pos := "law.go:22", after := #[], guard := none }) (v := .pointer (some ⟨w.heap.size + 1, 1, none⟩)) rfl (by kernel_rfl) (by kernel_rfl) (by kernel_rfl) (fun _ _ _ h => h) (Or.inl ⟨by rfl, fun w hSw => by (obtain ⟨q0, q1, q2, q3, q4, q5⟩ := hSw; go_simp)⟩) (by assumption) ?_
  try simp only [Act.put, List.setIfInBounds_toArray, List.set_cons_zero, List.set_cons_succ]
  refine wpAnyH_take (i := 10) (oi := { dst := some 18, op := Op.load 23 (Operand.tmp 17), type := 23, pos := "law.go:22", after := #[{ on := 9, ground := Ground.data }], guard := none }) (v := .slice r.sa N.ss.length r.cs) rfl (by kernel_rfl) (by kernel_rfl) (by kernel_rfl) (fun _ _ _ h => h) (Or.inl ⟨by rfl, fun w hSw => by (obtain ⟨q0, q1, q2, q3, q4, q5⟩ := hSw; go_simp)⟩) (by assumption) ?_
  try simp only [Act.put, List.setIfInBounds_toArray, List.set_cons_zero, List.set_cons_succ]
  refine wpAnyH_take (i := 11) (oi := { dst := some 19, op := Op.call { callee := Callee.builtin Builtin.len, args := #[Operand.tmp 18], argTypes := #[23] }, type := 3, pos := "law.go:22", after := #[{ on := 10, ground := Ground.data }], guard := none }) (v := .int .i64 (N.ss.length : Int)) rfl (by kernel_rfl) (by kernel_rfl) (by kernel_rfl) (fun _ _ _ h => h) (Or.inl ⟨by rfl, fun w hSw => by (obtain ⟨q0, q1, q2, q3, q4, q5⟩ := hSw; go_simp)⟩) (by assumption) ?_
  try simp only [Act.put, List.setIfInBounds_toArray, List.set_cons_zero, List.set_cons_succ]
  refine wpAnyH_take (i := 12) (oi := { dst := some 20, op := Op.binOp BinOp.add 3 (Operand.tmp 19) (Operand.const (Value.int IntKind.i64 1)) 3, type := 3, pos := "law.go:22", after := #[{ on := 11, ground := Ground.data }], guard := none }) (v := .int .i64 (E2 : Int)) rfl (by kernel_rfl) (by kernel_rfl) (by kernel_rfl) (fun _ _ _ h => h) (Or.inl ⟨by rfl, fun w hSw => by (obtain ⟨q0, q1, q2, q3, q4, q5⟩ := hSw; go_simp)⟩) (by assumption) ?_
  try simp only [Act.put, List.setIfInBounds_toArray, List.set_cons_zero, List.set_cons_succ]
  refine wpAnyH_take (i := 13) (oi := { dst := some 21, op := Op.slice 23 (Operand.tmp 16) none (some (Operand.tmp 20)) none, type := 23, pos := "law.go:22", after := #[{ on := 8, ground := Ground.data }, { on := 12, ground := Ground.data }], guard := none }) (v := .slice (some ⟨gs, 0, none⟩) E2 sc) rfl (by kernel_rfl) (by kernel_rfl) (by kernel_rfl) (fun _ _ _ h => h) (Or.inl ⟨by rfl, fun w hSw => by (obtain ⟨q0, q1, q2, q3, q4, q5⟩ := hSw; go_simp)⟩) (by assumption) ?_
  try simp only [Act.put, List.setIfInBounds_toArray, List.set_cons_zero, List.set_cons_succ]
  refine wpAnyH_take (i := 14) (oi := { dst := some 22, op := Op.fieldAddr 26 (Operand.tmp 2) 2, type := 0, pos := "law.go:22", after := #[], guard := none }) (v := .pointer (some ⟨w.heap.size, 2, none⟩)) rfl (by kernel_rfl) (by kernel_rfl) (by kernel_rfl) (fun _ _ _ h => h) (Or.inl ⟨by rfl, fun w hSw => by (obtain ⟨q0, q1, q2, q3, q4, q5⟩ := hSw; go_simp)⟩) (by assumption) ?_
  try simp only [Act.put, List.setIfInBounds_toArray, List.set_cons_zero, List.set_cons_succ]
  refine wpAnyH_take (i := 15) (oi := { dst := some 23, op := Op.load 24 (Operand.tmp 22), type := 24, pos := "law.go:22", after := #[{ on := 14, ground := Ground.data }], guard := none }) (v := .slice (some ⟨gk, 0, none⟩) N.ks.length kc) rfl (by kernel_rfl) (by kernel_rfl) (by kernel_rfl) (fun _ _ _ h => h) (Or.inl ⟨by rfl, fun w hSw => by (obtain ⟨q0, q1, q2, q3, q4, q5⟩ := hSw; go_simp)⟩) (by assumption) ?_
  try simp only [Act.put, List.setIfInBounds_toArray, List.set_cons_zero, List.set_cons_succ]
  refine wpAnyH_take (i := 16) (oi := { dst := some 24, op := Op.fieldAddr 26 (Operand.tmp 3) 2, type := 0, pos := "law.go:22", after := #[], guard := none }) (v := .pointer (some ⟨w.heap.size + 1, 2, none⟩)) rfl (by kernel_rfl) (by kernel_rfl) (by kernel_rfl) (fun _ _ _ h => h) (Or.inl ⟨by rfl, fun w hSw => by (obtain ⟨q0, q1, q2, q3, q4, q5⟩ := hSw; go_simp)⟩) (by assumption) ?_
  try simp only [Act.put, List.setIfInBounds_toArray, List.set_cons_zero, List.set_cons_succ]
  refine wpAnyH_take (i := 17) (oi := { dst := some 25, op := Op.load 24 (Operand.tmp 24), type := 24, pos := "law.go:22", after := #[{ on := 16, ground := Ground.data }], guard := none }) (v := .slice r.ka N.ks.length r.ck) rfl (by kernel_rfl) (by kernel_rfl) (by kernel_rfl) (fun _ _ _ h => h) (Or.inl ⟨by rfl, fun w hSw => by (obtain ⟨q0, q1, q2, q3, q4, q5⟩ := hSw; go_simp)⟩) (by assumption) ?_
  try simp only [Act.put, List.setIfInBounds_toArray, List.set_cons_zero, List.set_cons_succ]
  refine wpAnyH_take (i := 18) (oi := { dst := some 26, op := Op.call { callee := Callee.builtin Builtin.len, args := #[Operand.tmp 25], argTypes := #[24] }, type := 3, pos := "law.go:22", after := #[{ on := 17, ground := Ground.data }], guard := none }) (v := .int .i64 (N.ks.length : Int)) rfl (by kernel_rfl) (by kernel_rfl) (by kernel_rfl) (fun _ _ _ h => h) (Or.inl ⟨by rfl, fun w hSw => by (obtain ⟨q0, q1, q2, q3, q4, q5⟩ := hSw; go_simp)⟩) (by assumption) ?_
  try simp only [Act.put, List.setIfInBounds_toArray, List.set_cons_zero, List.set_cons_succ]
  refine wpAnyH_take (i := 19) (oi := { dst := some 27, op := Op.binOp BinOp.add 3 (Operand.tmp 26) (Operand.const (Value.int IntKind.i64 1)) 3, type := 3, pos := "law.go:22", after := #[{ on := 18, ground := Ground.data }], guard := none }) (v := .int .i64 (E3 : Int)) rfl (by kernel_rfl) (by kernel_rfl) (by kernel_rfl) (fun _ _ _ h => h) (Or.inl ⟨by rfl, fun w hSw => by (obtain ⟨q0, q1, q2, q3, q4, q5⟩ := hSw; go_simp)⟩) (by assumption) ?_
  try simp only [Act.put, List.setIfInBounds_toArray, List.set_cons_zero, List.set_cons_succ]
  refine wpAnyH_take (i := 20) (oi := { dst := some 28, op := Op.slice 24 (Operand.tmp 23) none (some (Operand.tmp 27)) none, type := 24, pos := "law.go:22", after := #[{ on := 15, ground := Ground.data }, { on := 19, ground := Ground.data }], guard := none }) (v := .slice (some ⟨gk, 0, none⟩) E3 kc) rfl (by kernel_rfl) (by kernel_rfl) (by kernel_rfl) (fun _ _ _ h => h) (Or.inl ⟨by rfl, fun w hSw => by (obtain ⟨q0, q1, q2, q3, q4, q5⟩ := hSw; go_simp)⟩) (by assumption) ?_
  try simp only [Act.put, List.setIfInBounds_toArray, List.set_cons_zero, List.set_cons_succ]
  refine wpAnyH_take (i := 21) (oi := { dst := some 5, op := Op.assign (Operand.tmp 14), type := 22, pos := "law.go:22", after := #[{ on := 6, ground := Ground.data }, { on := 0, ground := Ground.phase }, { on := 1, ground := Ground.phase }, { on := 2, ground := Ground.phase }, { on := 3, ground := Ground.phase }, { on := 4, ground := Ground.phase }, { on := 5, ground := Ground.phase }, { on := 6, ground := Ground.phase }, { on := 7, ground := Ground.textOnly Go.Departure.lateStores }, { on := 8, ground := Ground.textOnly Go.Departure.lateStores }, { on := 9, ground := Ground.textOnly Go.Departure.lateStores }, { on := 10, ground := Ground.textOnly Go.Departure.lateStores }, { on := 11, ground := Ground.textOnly Go.Departure.lateStoresUnsure }, { on := 12, ground := Ground.textOnly Go.Departure.lateStores }, { on := 13, ground := Ground.textOnly Go.Departure.lateStoresUnsure }, { on := 14, ground := Ground.textOnly Go.Departure.lateStores }, { on := 15, ground := Ground.textOnly Go.Departure.lateStores }, { on := 16, ground := Ground.textOnly Go.Departure.lateStores }, { on := 17, ground := Ground.textOnly Go.Departure.lateStores }, { on := 18, ground := Ground.textOnly Go.Departure.lateStoresUnsure }, { on := 19, ground := Ground.textOnly Go.Departure.lateStores }, { on := 20, ground := Ground.textOnly Go.Departure.lateStoresUnsure }], guard := none }) (v := .slice (some ⟨gp, 0, none⟩) E1 pc) rfl (by kernel_rfl) (by kernel_rfl) (by kernel_rfl) (fun _ _ _ h => h) (Or.inl ⟨by rfl, fun w hSw => by (obtain ⟨q0, q1, q2, q3, q4, q5⟩ := hSw; go_simp)⟩) (by assumption) ?_
  try simp only [Act.put, List.setIfInBounds_toArray, List.set_cons_zero, List.set_cons_succ]
  refine wpAnyH_take (i := 22) (oi := { dst := some 6, op := Op.assign (Operand.tmp 21), type := 23, pos := "law.go:22", after := #[{ on := 13, ground := Ground.data }, { on := 21, ground := Ground.chain }, { on := 0, ground := Ground.phase }, { on := 1, ground := Ground.phase }, { on := 2, ground := Ground.phase }, { on := 3, ground := Ground.phase }, { on := 4, ground := Ground.phase }, { on := 5, ground := Ground.phase }, { on := 6, ground := Ground.phase }, { on := 7, ground := Ground.phase }, { on := 8, ground := Ground.phase }, { on := 9, ground := Ground.phase }, { on := 10, ground := Ground.phase }, { on := 11, ground := Ground.phase }, { on := 12, ground := Ground.phase }, { on := 13, ground := Ground.phase }, { on := 14, ground := Ground.textOnly Go.Departure.lateStores }, { on := 15, ground := Ground.textOnly Go.Departure.lateStores }, { on := 16, ground := Ground.textOnly Go.Departure.lateStores }, { on := 17, ground := Ground.textOnly Go.Departure.lateStores }, { on := 18, ground := Ground.textOnly Go.Departure.lateStoresUnsure }, { on := 19, ground := Ground.textOnly Go.Departure.lateStores }, { on := 20, ground := Ground.textOnly Go.Departure.lateStoresUnsure }, { on := 21, ground := Ground.phase }], guard := none }) (v := .slice (some ⟨gs, 0, none⟩) E2 sc) rfl (by kernel_rfl) (by kernel_rfl) (by kernel_rfl) (fun _ _ _ h => h) (Or.inl ⟨by rfl, fun w hSw => by (obtain ⟨q0, q1, q2, q3, q4, q5⟩ := hSw; go_simp)⟩) (by assumption) ?_
  try simp only [Act.put, List.setIfInBounds_toArray, List.set_cons_zero, List.set_cons_succ]
  refine wpAnyH_take (i := 23) (oi := { dst := some 7, op := Op.assign (Operand.tmp 28), type := 24, pos := "law.go:22", after := #[{ on := 20, ground := Ground.data }, { on := 22, ground := Ground.chain }, { on := 0, ground := Ground.phase }, { on := 1, ground := Ground.phase }, { on := 2, ground := Ground.phase }, { on := 3, ground := Ground.phase }, { on := 4, ground := Ground.phase }, { on := 5, ground := Ground.phase }, { on := 6, ground := Ground.phase }, { on := 7, ground := Ground.phase }, { on := 8, ground := Ground.phase }, { on := 9, ground := Ground.phase }, { on := 10, ground := Ground.phase }, { on := 11, ground := Ground.phase }, { on := 12, ground := Ground.phase }, { on := 13, ground := Ground.phase }, { on := 14, ground := Ground.phase }, { on := 15, ground := Ground.phase }, { on := 16, ground := Ground.phase }, { on := 17, ground := Ground.phase }, { on := 18, ground := Ground.phase }, { on := 19, ground := Ground.phase }, { on := 20, ground := Ground.phase }, { on := 21, ground := Ground.phase }, { on := 22, ground := Ground.phase }], guard := none }) (v := .slice (some ⟨gk, 0, none⟩) E3 kc) rfl (by kernel_rfl) (by kernel_rfl) (by kernel_rfl) (fun _ _ _ h => h) (Or.inl ⟨by rfl, fun w hSw => by (obtain ⟨q0, q1, q2, q3, q4, q5⟩ := hSw; go_simp)⟩) (by assumption) ?_
  try simp only [Act.put, List.setIfInBounds_toArray, List.set_cons_zero, List.set_cons_succ]
  refine wpAnyH_done (by kernel_rfl) ?_ _
  have sd : Same V V.drew := Fr.drew (Fr.refl _ V)
  obtain ⟨a0, a1, a2, b0, b1, b2⟩ := HC.out _ sd
  go_wp2_with fail
  refine (HS.out _ (sx.trans sd)).mono ?_
  rintro e W1 ⟨rfl, s1⟩
  clear a0 a1 a2 b0 b1 b2
  obtain ⟨a0, a1, a2, b0, b1, b2⟩ := HC.out _ (sd.trans s1)
  obtain ⟨c1, c2, c3⟩ := HM.out _ (sx.trans (sd.trans s1))
  go_wp2_with fail
  go_ret
  exact ⟨rfl, sx.trans (sd.trans s1)⟩
end Go.Proofs.Ytjlbkagkmcelgaa
namespace Go.Proofs.Ytjlbkagkmcelgaa
open Go.RowKit Go.Maps

abbrev nilNode : Obj := .cells #[.slice none 0 0, .slice none 0 0, .slice none 0 0] 26 (0, 0)
abbrev nilBox : Obj := .cells #[.slice none 0 0, .slice none 0 0, .slice none 0 0] 26
section
variable {w w' W W' : World} {B : Nat} {xp xs xk : Sl} {N : Nd}
theorem LentN.ge (h : LentN w B xp xs xk N) : ∀ i, inN xp xs xk i → B ≤ i ∧ i < w.heap.size := fun i hi => by
  rcases hi with e | e | e
  · exact h.oP.lt i (by rw [blk_of]; exact e)
  · exact h.oS.lt i (by rw [blk_of]; exact e)
  · exact h.oK.lt i (by rw [blk_of]; exact e)
theorem LentN.notbox (h : LentN w B xp xs xk N) {g : Nat} {cs : Array Value} {fr : Nat × Nat} (hg : w.heap[g]? = some (.cells cs 26 fr)) : ¬ inN xp xs xk g := fun hi => by
  rcases hi with e | e | e
  · exact type_ne h.oP hg (by decide) (by rw [blk_of]; exact e)
  · exact type_ne h.oS hg (by decide) (by rw [blk_of]; exact e)
  · exact type_ne h.oK hg (by decide) (by rw [blk_of]; exact e)
end
/-- The frame and the world while the two are lent and their boxes made: c calls are done; x, y: is the box there? -/
structure SR (w0 : World) (A0 : Nat) (vA vB : Value) (N M : Nd) (c : Nat) (x y : Bool) (a : Act) (W : World) : Prop where
  size : a.tmps.size = 82
  defers : a.defers = []
  s2 : a.eval (.tmp 2) = .pointer (some ⟨A0, 0, none⟩)
  s3 : a.eval (.tmp 3) = .pointer (some ⟨A0 + 1, 0, none⟩)
  s9 : a.eval (.tmp 9) = vA
  s11 : a.eval (.tmp 11) = vB
  sm : Same w0 W
  X : 1 ≤ c → ∃ xp xs xk, a.eval (.tmp 10) = nV xp xs xk ∧ LentN W w0.heap.size xp xs xk N ∧ (2 ≤ c → ∃ yp ys yk, a.eval (.tmp 12) = nV yp ys yk ∧ LentN W w0.heap.size yp ys yk M ∧ ∀ i, inN xp xs xk i → ¬ inN yp ys yk i)
  bx : x = true → ∃ b, a.eval (.tmp 5) = .pointer (some ⟨b, 0, none⟩) ∧ W.heap[b]? = some nilNode ∧ w0.heap.size ≤ b ∧ (y = true → ∃ d, a.eval (.tmp 6) = .pointer (some ⟨d, 0, none⟩) ∧ W.heap[d]? = some nilNode ∧ w0.heap.size ≤ d ∧ b ≠ d)
  by_ : y = true → ∃ d, a.eval (.tmp 6) = .pointer (some ⟨d, 0, none⟩) ∧ W.heap[d]? = some nilNode ∧ w0.heap.size ≤ d
section
variable {w0 W W' : World} {A0 : Nat} {vA vB : Value} {N M : Nd} {c : Nat} {x y : Bool} {a : Act}
theorem SR.allocX (h : SR w0 A0 vA vB N M c false y a W) : SR w0 A0 vA vB N M c true y (a.put (some 5) (.pointer (some ⟨W.heap.size, 0, none⟩))) (W.alloc nilBox) := by
  have sA : Same W (W.alloc nilBox) := (Fr.refl _ W).alloc _
  have p : ∀ t, 5 ≠ t → (a.put (some 5) (.pointer (some ⟨W.heap.size, 0, none⟩))).eval (.tmp t) = a.eval (.tmp t) := fun t ht => eval_put_ne ht
  refine ⟨by simp [Act.put, h.size], h.defers, (p 2 (by decide)).trans h.s2, (p 3 (by decide)).trans h.s3, (p 9 (by decide)).trans h.s9, (p 11 (by decide)).trans h.s11, h.sm.trans sA, fun hc => ?_, fun _ => ?_, fun hy => ?_⟩
  · obtain ⟨xp, xs, xk, e, hl, h2⟩ := h.X hc
    exact ⟨xp, xs, xk, (p 10 (by decide)).trans e, hl.same sA, fun hc2 => by
      obtain ⟨yp, ys, yk, e2, hl2, ho⟩ := h2 hc2
      exact ⟨yp, ys, yk, (p 12 (by decide)).trans e2, hl2.same sA, ho⟩⟩
  · refine ⟨W.heap.size, eval_put_same (by rw [h.size]; decide), heap_alloc_new W _, h.sm.size, fun hy => ?_⟩
    obtain ⟨d, e, hd, hg⟩ := h.by_ hy
    exact ⟨d, (p 6 (by decide)).trans e, (sA.block _ (lt_of_heap hd) (fun f => f)).trans hd, hg, by have := lt_of_heap hd; omega⟩
  · obtain ⟨d, e, hd, hg⟩ := h.by_ hy
    exact ⟨d, (p 6 (by decide)).trans e, (sA.block _ (lt_of_heap hd) (fun f => f)).trans hd, hg⟩
theorem SR.allocY (h : SR w0 A0 vA vB N M c x false a W) : SR w0 A0 vA vB N M c x true (a.put (some 6) (.pointer (some ⟨W.heap.size, 0, none⟩))) (W.alloc nilBox) := by
  have sA : Same W (W.alloc nilBox) := (Fr.refl _ W).alloc _
  have p : ∀ t, 6 ≠ t → (a.put (some 6) (.pointer (some ⟨W.heap.size, 0, none⟩))).eval (.tmp t) = a.eval (.tmp t) := fun t ht => eval_put_ne ht
  have e6 : (a.put (some 6) (.pointer (some ⟨W.heap.size, 0, none⟩))).eval (.tmp 6) = .pointer (some ⟨W.heap.size, 0, none⟩) := eval_put_same (by rw [h.size]; decide)
  refine ⟨by simp [Act.put, h.size], h.defers, (p 2 (by decide)).trans h.s2, (p 3 (by decide)).trans h.s3, (p 9 (by decide)).trans h.s9, (p 11 (by decide)).trans h.s11, h.sm.trans sA, fun hc => ?_, fun hx => ?_, fun _ => ⟨W.heap.size, e6, heap_alloc_new W _, h.sm.size⟩⟩
  · obtain ⟨xp, xs, xk, e, hl, h2⟩ := h.X hc
    exact ⟨xp, xs, xk, (p 10 (by decide)).trans e, hl.same sA, fun hc2 => by
      obtain ⟨yp, ys, yk, e2, hl2, ho⟩ := h2 hc2
      exact ⟨yp, ys, yk, (p 12 (by decide)).trans e2, hl2.same sA, ho⟩⟩
  · obtain ⟨b, e, hb, hg, _⟩ := h.bx hx
    exact ⟨b, (p 5 (by decide)).trans e, (sA.block _ (lt_of_heap hb) (fun f => f)).trans hb, hg, fun _ => ⟨W.heap.size, e6, heap_alloc_new W _, h.sm.size, by have := lt_of_heap hb; omega⟩⟩
theorem SR.boxes (h : SR w0 A0 vA vB N M c x y a W) (s : Same W W') {a' : Act} (h5 : a'.eval (.tmp 5) = a.eval (.tmp 5)) (h6 : a'.eval (.tmp 6) = a.eval (.tmp 6)) : (x = true → ∃ b, a'.eval (.tmp 5) = .pointer (some ⟨b, 0, none⟩) ∧ W'.heap[b]? = some nilNode ∧ w0.heap.size ≤ b ∧ (y = true → ∃ d, a'.eval (.tmp 6) = .pointer (some ⟨d, 0, none⟩) ∧ W'.heap[d]? = some nilNode ∧ w0.heap.size ≤ d ∧ b ≠ d)) ∧ (y = true → ∃ d, a'.eval (.tmp 6) = .pointer (some ⟨d, 0, none⟩) ∧ W'.heap[d]? = some nilNode ∧ w0.heap.size ≤ d) := by
  refine ⟨fun hx => ?_, fun hy => ?_⟩
  · obtain ⟨b, e, hb, hg, h2⟩ := h.bx hx
    exact ⟨b, h5.trans e, (s.block _ (lt_of_heap hb) (fun f => f)).trans hb, hg, fun hy => by
      obtain ⟨d, e2, hd, hg2, hn⟩ := h2 hy
      exact ⟨d, h6.trans e2, (s.block _ (lt_of_heap hd) (fun f => f)).trans hd, hg2, hn⟩⟩
  · obtain ⟨d, e, hd, hg⟩ := h.by_ hy
    exact ⟨d, h6.trans e, (s.block _ (lt_of_heap hd) (fun f => f)).trans hd, hg⟩
theorem SR.lentA (h : SR w0 A0 vA vB N M 0 x y a W) {xp xs xk : Sl} (hl : LentN W' W.heap.size xp xs xk N) (s : Same W W') : SR w0 A0 vA vB N M 1 x y (a.put (some 10) (nV xp xs xk)) W' := by
  have p : ∀ t, 10 ≠ t → (a.put (some 10) (nV xp xs xk)).eval (.tmp t) = a.eval (.tmp t) := fun t ht => eval_put_ne ht
  obtain ⟨b1, b2⟩ := h.boxes s (p 5 (by decide)) (p 6 (by decide))
  exact ⟨by simp [Act.put, h.size], h.defers, (p 2 (by decide)).trans h.s2, (p 3 (by decide)).trans h.s3, (p 9 (by decide)).trans h.s9, (p 11 (by decide)).trans h.s11, h.sm.trans s, fun _ => ⟨xp, xs, xk, eval_put_same (by rw [h.size]; decide), hl.low h.sm.size, fun hc => by omega⟩, b1, b2⟩
theorem SR.lentB (h : SR w0 A0 vA vB N M 1 x y a W) {yp ys yk : Sl} (hl : LentN W' W.heap.size yp ys yk M) (s : Same W W') : SR w0 A0 vA vB N M 2 x y (a.put (some 12) (nV yp ys yk)) W' := by
  have p : ∀ t, 12 ≠ t → (a.put (some 12) (nV yp ys yk)).eval (.tmp t) = a.eval (.tmp t) := fun t ht => eval_put_ne ht
  obtain ⟨b1, b2⟩ := h.boxes s (p 5 (by decide)) (p 6 (by decide))
  obtain ⟨xp, xs, xk, e, hx, _⟩ := h.X (Nat.le_refl _)
  exact ⟨by simp [Act.put, h.size], h.defers, (p 2 (by decide)).trans h.s2, (p 3 (by decide)).trans h.s3, (p 9 (by decide)).trans h.s9, (p 11 (by decide)).trans h.s11, h.sm.trans s, fun _ => ⟨xp, xs, xk, (p 10 (by decide)).trans e, hx.same s, fun _ => ⟨yp, ys, yk, eval_put_same (by rw [h.size]; decide), hl.low h.sm.size, fun i h1 h2 => by
    have := (hx.ge i h1).2
    have := (hl.ge i h2).1
    omega⟩⟩, b1, b2⟩
end
/-- Behind the region. -/
structure FR (w0 : World) (A0 : Nat) (N M : Nd) (xp xs xk yp ys yk : Sl) (b d : Nat) (a : Act) (W : World) : Prop where
  size : a.tmps.size = 82
  defers : a.defers = []
  s2 : a.eval (.tmp 2) = .pointer (some ⟨A0, 0, none⟩)
  s3 : a.eval (.tmp 3) = .pointer (some ⟨A0 + 1, 0, none⟩)
  s5 : a.eval (.tmp 5) = .pointer (some ⟨b, 0, none⟩)
  s6 : a.eval (.tmp 6) = .pointer (some ⟨d, 0, none⟩)
  sm : Same w0 W
  X : LentN W w0.heap.size xp xs xk N
  Y : LentN W w0.heap.size yp ys yk M
  off : ∀ i, inN xp xs xk i → ¬ inN yp ys yk i
  hx : W.heap[b]? = some (nodeC xp xs xk)
  hy : W.heap[d]? = some (nodeC yp ys yk)
section
variable {P : Program} {ops : Array Oper} {Q : Exit → Act → World → Prop} {a : Act} {w : World} {o : Oper} {K : Act → World → Prop} {E : Prop}
theorem opr_call {f : FuncId} {args : Array Value} {R : Ending → World → Prop} {d : Nat} (hg : o.guard = none) (hd : o.dst = some d) (hr : (execOp a.eval o).run P w = .ok (.enter f args) w) (hc : Calls P f args w R)
    (k : ∀ e w', R e w' → ∃ v, e = .returned v ∧ K (a.put (some d) v) w') : if Region.wanted o (yielded ops a.tmps) = true then Oper.wp P o a w K Q else E := by
  rw [if_pos (wanted_none hg)]
  unfold Oper.wp
  rw [hr, Oper.upon_enter]
  refine hc.mono fun e w' hR => ?_
  obtain ⟨v, rfl, hk⟩ := k e w' hR
  show K (a.put o.dst v) w'
  rw [hd]
  exact hk
theorem opr_value {d : Nat} {v : Value} {w' : World} (hg : o.guard = none) (hd : o.dst = some d) (hr : (execOp a.eval o).run P w = .ok (.value v) w') (k : K (a.put (some d) v) w') : if Region.wanted o (yielded ops a.tmps) = true then Oper.wp P o a w K Q else E := by
  rw [if_pos (wanted_none hg)]
  unfold Oper.wp
  rw [hr]
  show K (a.put o.dst v) w'
  rw [hd]
  exact k
end
def rNC0 : Array Oper := #[{ dst := some 2, op := Op.box 26 (Operand.tmp 0), type := 0, pos := "law.go:117", after := #[], guard := none },
  { dst := some 3, op := Op.box 26 (Operand.tmp 1), type := 0, pos := "law.go:117", after := #[], guard := none },
  { dst := some 4, op := Op.assign (Operand.const (Value.bool false)), type := 4, pos := "law.go:117", after := #[], guard := none }]
def rNC1 : Array Oper := #[{ dst := some 9, op := Op.load 26 (Operand.tmp 2), type := 26, pos := "law.go:118", after := #[], guard := none },
  { dst := some 10, op := Op.call { callee := Callee.value (Operand.func 4), args := #[Operand.tmp 9], argTypes := #[26] }, type := 26, pos := "law.go:118", after := #[{ on := 0, ground := Ground.data }], guard := none },
  { dst := some 11, op := Op.load 26 (Operand.tmp 3), type := 26, pos := "law.go:118", after := #[], guard := none },
  { dst := some 12, op := Op.call { callee := Callee.value (Operand.func 4), args := #[Operand.tmp 11], argTypes := #[26] }, type := 26, pos := "law.go:118", after := #[{ on := 2, ground := Ground.data }, { on := 1, ground := Ground.chain }], guard := none },
  { dst := some 5, op := Op.alloc 26, type := 0, pos := "law.go:118", after := #[], guard := none },
  { dst := some 6, op := Op.alloc 26, type := 0, pos := "law.go:118", after := #[], guard := none },
  { dst := none, op := Op.store 26 (Operand.tmp 5) (Operand.tmp 10), type := 0, pos := "law.go:118", after := #[{ on := 4, ground := Ground.data }, { on := 1, ground := Ground.data }, { on := 3, ground := Ground.chain }, { on := 0, ground := Ground.phase }, { on := 1, ground := Ground.phase }, { on := 2, ground := Ground.textOnly Go.Departure.lateStores }, { on := 3, ground := Ground.textOnly Go.Departure.lateStoresUnsure }, { on := 4, ground := Ground.phase }, { on := 5, ground := Ground.phase }], guard := none },
  { dst := none, op := Op.store 26 (Operand.tmp 6) (Operand.tmp 12), type := 0, pos := "law.go:118", after := #[{ on := 5, ground := Ground.data }, { on := 3, ground := Ground.data }, { on := 6, ground := Ground.chain }, { on := 0, ground := Ground.phase }, { on := 1, ground := Ground.phase }, { on := 2, ground := Ground.phase }, { on := 3, ground := Ground.phase }, { on := 4, ground := Ground.phase }, { on := 5, ground := Ground.phase }, { on := 6, ground := Ground.phase }], guard := none }]
def rNC2 : Array Oper := #[{ dst := some 13, op := Op.load 26 (Operand.tmp 5), type := 26, pos := "law.go:119", after := #[], guard := none },
  { dst := some 14, op := Op.load 26 (Operand.tmp 6), type := 26, pos := "law.go:119", after := #[], guard := none },
  { dst := some 15, op := Op.call { callee := Callee.value (Operand.func 5), args := #[Operand.tmp 13, Operand.tmp 14], argTypes := #[26, 26] }, type := 4, pos := "law.go:119", after := #[{ on := 0, ground := Ground.data }, { on := 1, ground := Ground.data }], guard := none },
  { dst := some 16, op := Op.load 26 (Operand.tmp 2), type := 26, pos := "law.go:119", after := #[], guard := none },
  { dst := some 17, op := Op.load 26 (Operand.tmp 3), type := 26, pos := "law.go:119", after := #[], guard := none },
  { dst := some 18, op := Op.call { callee := Callee.value (Operand.func 6), args := #[Operand.tmp 16, Operand.tmp 17], argTypes := #[26, 26] }, type := 4, pos := "law.go:119", after := #[{ on := 3, ground := Ground.data }, { on := 4, ground := Ground.data }, { on := 2, ground := Ground.chain }], guard := none },
  { dst := some 19, op := Op.binOp BinOp.neq 4 (Operand.tmp 15) (Operand.tmp 18) 4, type := 4, pos := "law.go:119", after := #[{ on := 2, ground := Ground.data }, { on := 5, ground := Ground.data }], guard := none },
  { dst := some 20, op := Op.move (Operand.tmp 19), type := 4, pos := "law.go:119", after := #[{ on := 6, ground := Ground.data }, { on := 5, ground := Ground.chain }], guard := none },
  { dst := some 21, op := Op.load 26 (Operand.tmp 5), type := 26, pos := "law.go:119", after := #[{ on := 7, ground := Ground.guard }], guard := some (7, false) },
  { dst := some 22, op := Op.load 26 (Operand.tmp 5), type := 26, pos := "law.go:119", after := #[{ on := 7, ground := Ground.guard }], guard := some (7, false) },
  { dst := some 23, op := Op.call { callee := Callee.value (Operand.func 5), args := #[Operand.tmp 21, Operand.tmp 22], argTypes := #[26, 26] }, type := 4, pos := "law.go:119", after := #[{ on := 8, ground := Ground.data }, { on := 9, ground := Ground.data }, { on := 7, ground := Ground.chain }, { on := 7, ground := Ground.guard }], guard := some (7, false) },
  { dst := some 24, op := Op.unOp UnOp.not 4 (Operand.tmp 23), type := 4, pos := "law.go:119", after := #[{ on := 10, ground := Ground.data }, { on := 7, ground := Ground.guard }], guard := some (7, false) },
  { dst := some 25, op := Op.pick (Operand.tmp 20) (Operand.const (Value.bool true)) (Operand.tmp 24), type := 4, pos := "law.go:119", after := #[{ on := 7, ground := Ground.data }, { on := 11, ground := Ground.data }], guard := none },
  { dst := some 26, op := Op.move (Operand.tmp 25), type := 4, pos := "law.go:119", after := #[{ on := 12, ground := Ground.data }, { on := 10, ground := Ground.chain }], guard := none },
  { dst := some 27, op := Op.load 26 (Operand.tmp 5), type := 26, pos := "law.go:119", after := #[{ on := 13, ground := Ground.guard }], guard := some (13, false) },
  { dst := some 28, op := Op.load 26 (Operand.tmp 2), type := 26, pos := "law.go:119", after := #[{ on := 13, ground := Ground.guard }], guard := some (13, false) },
  { dst := some 29, op := Op.call { callee := Callee.value (Operand.func 7), args := #[Operand.tmp 27, Operand.tmp 28], argTypes := #[26, 26] }, type := 4, pos := "law.go:119", after := #[{ on := 14, ground := Ground.data }, { on := 15, ground := Ground.data }, { on := 13, ground := Ground.chain }, { on := 13, ground := Ground.guard }], guard := some (13, false) },
  { dst := some 30, op := Op.unOp UnOp.not 4 (Operand.tmp 29), type := 4, pos := "law.go:119", after := #[{ on := 16, ground := Ground.data }, { on := 13, ground := Ground.guard }], guard := some (13, false) },
  { dst := some 31, op := Op.pick (Operand.tmp 26) (Operand.const (Value.bool true)) (Operand.tmp 30), type := 4, pos := "law.go:119", after := #[{ on := 13, ground := Ground.data }, { on := 17, ground := Ground.data }], guard := none },
  { dst := some 32, op := Op.move (Operand.tmp 31), type := 4, pos := "law.go:119", after := #[{ on := 18, ground := Ground.data }, { on := 16, ground := Ground.chain }], guard := none },
  { dst := some 33, op := Op.load 26 (Operand.tmp 6), type := 26, pos := "law.go:119", after := #[{ on := 19, ground := Ground.guard }], guard := some (19, false) },
  { dst := some 34, op := Op.load 26 (Operand.tmp 3), type := 26, pos := "law.go:119", after := #[{ on := 19, ground := Ground.guard }], guard := some (19, false) },
  { dst := some 35, op := Op.call { callee := Callee.value (Operand.func 7), args := #[Operand.tmp 33, Operand.tmp 34], argTypes := #[26, 26] }, type := 4, pos := "law.go:119", after := #[{ on := 20, ground := Ground.data }, { on := 21, ground := Ground.data }, { on := 19, ground := Ground.chain }, { on := 19, ground := Ground.guard }], guard := some (19, false) },
  { dst := some 36, op := Op.unOp UnOp.not 4 (Operand.tmp 35), type := 4, pos := "law.go:119", after := #[{ on := 22, ground := Ground.data }, { on := 19, ground := Ground.guard }], guard := some (19, false) },
  { dst := some 37, op := Op.pick (Operand.tmp 32) (Operand.const (Value.bool true)) (Operand.tmp 36), type := 4, pos := "law.go:119", after := #[{ on := 19, ground := Ground.data }, { on := 23, ground := Ground.data }], guard := none }]
def rNC3 : Array Oper := #[{ dst := some 4, op := Op.assign (Operand.const (Value.bool false)), type := 4, pos := "law.go:120", after := #[], guard := none }]
def rNC4 : Array Oper := #[{ dst := some 38, op := Op.load 26 (Operand.tmp 5), type := 26, pos := "law.go:122", after := #[], guard := none },
  { dst := some 39, op := Op.call { callee := Callee.value (Operand.func 8), args := #[Operand.tmp 38], argTypes := #[26] }, type := 26, pos := "law.go:122", after := #[{ on := 0, ground := Ground.data }], guard := none },
  { dst := some 7, op := Op.alloc 26, type := 0, pos := "law.go:122", after := #[], guard := none },
  { dst := none, op := Op.store 26 (Operand.tmp 7) (Operand.tmp 39), type := 0, pos := "law.go:122", after := #[{ on := 2, ground := Ground.data }, { on := 1, ground := Ground.data }, { on := 1, ground := Ground.chain }, { on := 0, ground := Ground.phase }, { on := 1, ground := Ground.phase }, { on := 2, ground := Ground.phase }], guard := none }]
def rNC5 : Array Oper := #[{ dst := some 40, op := Op.load 26 (Operand.tmp 5), type := 26, pos := "law.go:123", after := #[], guard := none },
  { dst := some 41, op := Op.call { callee := Callee.value (Operand.func 8), args := #[Operand.tmp 40], argTypes := #[26] }, type := 26, pos := "law.go:123", after := #[{ on := 0, ground := Ground.data }], guard := none },
  { dst := some 8, op := Op.alloc 26, type := 0, pos := "law.go:123", after := #[], guard := none },
  { dst := none, op := Op.store 26 (Operand.tmp 8) (Operand.tmp 41), type := 0, pos := "law.go:123", after := #[{ on := 2, ground := Ground.data }, { on := 1, ground := Ground.data }, { on := 1, ground := Ground.chain }, { on := 0, ground := Ground.phase }, { on := 1, ground := Ground.phase }, { on := 2, ground := Ground.phase }], guard := none }]
def rNC6 : Array Oper := #[{ dst := some 42, op := Op.load 26 (Operand.tmp 7), type := 26, pos := "law.go:124", after := #[], guard := none },
  { dst := some 43, op := Op.load 26 (Operand.tmp 2), type := 26, pos := "law.go:124", after := #[], guard := none },
  { dst := some 44, op := Op.call { callee := Callee.value (Operand.func 6), args := #[Operand.tmp 42, Operand.tmp 43], argTypes := #[26, 26] }, type := 4, pos := "law.go:124", after := #[{ on := 0, ground := Ground.data }, { on := 1, ground := Ground.data }], guard := none },
  { dst := some 45, op := Op.unOp UnOp.not 4 (Operand.tmp 44), type := 4, pos := "law.go:124", after := #[{ on := 2, ground := Ground.data }], guard := none },
  { dst := some 46, op := Op.move (Operand.tmp 45), type := 4, pos := "law.go:124", after := #[{ on := 3, ground := Ground.data }, { on := 2, ground := Ground.chain }], guard := none },
  { dst := some 47, op := Op.load 26 (Operand.tmp 8), type := 26, pos := "law.go:124", after := #[{ on := 4, ground := Ground.guard }], guard := some (4, false) },
  { dst := some 48, op := Op.load 26 (Operand.tmp 2), type := 26, pos := "law.go:124", after := #[{ on := 4, ground := Ground.guard }], guard := some (4, false) },
  { dst := some 49, op := Op.call { callee := Callee.value (Operand.func 6), args := #[Operand.tmp 47, Operand.tmp 48], argTypes := #[26, 26] }, type := 4, pos := "law.go:124", after := #[{ on := 5, ground := Ground.data }, { on := 6, ground := Ground.data }, { on := 4, ground := Ground.chain }, { on := 4, ground := Ground.guard }], guard := some (4, false) },
  { dst := some 50, op := Op.unOp UnOp.not 4 (Operand.tmp 49), type := 4, pos := "law.go:124", after := #[{ on := 7, ground := Ground.data }, { on := 4, ground := Ground.guard }], guard := some (4, false) },
  { dst := some 51, op := Op.pick (Operand.tmp 46) (Operand.const (Value.bool true)) (Operand.tmp 50), type := 4, pos := "law.go:124", after := #[{ on := 4, ground := Ground.data }, { on := 8, ground := Ground.data }], guard := none },
  { dst := some 52, op := Op.move (Operand.tmp 51), type := 4, pos := "law.go:124", after := #[{ on := 9, ground := Ground.data }, { on := 7, ground := Ground.chain }], guard := none },
  { dst := some 53, op := Op.load 26 (Operand.tmp 5), type := 26, pos := "law.go:124", after := #[{ on := 10, ground := Ground.guard }], guard := some (10, false) },
  { dst := some 54, op := Op.load 26 (Operand.tmp 2), type := 26, pos := "law.go:124", after := #[{ on := 10, ground := Ground.guard }], guard := some (10, false) },
  { dst := some 55, op := Op.call { callee := Callee.value (Operand.func 7), args := #[Operand.tmp 53, Operand.tmp 54], argTypes := #[26, 26] }, type := 4, pos := "law.go:124", after := #[{ on := 11, ground := Ground.data }, { on := 12, ground := Ground.data }, { on := 10, ground := Ground.chain }, { on := 10, ground := Ground.guard }], guard := some (10, false) },
  { dst := some 56, op := Op.unOp UnOp.not 4 (Operand.tmp 55), type := 4, pos := "law.go:124", after := #[{ on := 13, ground := Ground.data }, { on := 10, ground := Ground.guard }], guard := some (10, false) },
  { dst := some 57, op := Op.pick (Operand.tmp 52) (Operand.const (Value.bool true)) (Operand.tmp 56), type := 4, pos := "law.go:124", after := #[{ on := 10, ground := Ground.data }, { on := 14, ground := Ground.data }], guard := none }]
def rNC7 : Array Oper := #[{ dst := some 4, op := Op.assign (Operand.const (Value.bool false)), type := 4, pos := "law.go:125", after := #[], guard := none }]
def rNC8 : Array Oper := #[{ dst := some 58, op := Op.load 26 (Operand.tmp 5), type := 26, pos := "law.go:127", after := #[], guard := none },
  { dst := some 59, op := Op.call { callee := Callee.value (Operand.func 9), args := #[Operand.tmp 58, Operand.const (Value.int IntKind.u32 3)], argTypes := #[26, 30] }, type := 0, pos := "law.go:127", after := #[{ on := 0, ground := Ground.data }], guard := none }]
def rNC9 : Array Oper := #[{ dst := some 60, op := Op.load 26 (Operand.tmp 7), type := 26, pos := "law.go:128", after := #[], guard := none },
  { dst := some 61, op := Op.load 26 (Operand.tmp 2), type := 26, pos := "law.go:128", after := #[], guard := none },
  { dst := some 62, op := Op.call { callee := Callee.value (Operand.func 6), args := #[Operand.tmp 60, Operand.tmp 61], argTypes := #[26, 26] }, type := 4, pos := "law.go:128", after := #[{ on := 0, ground := Ground.data }, { on := 1, ground := Ground.data }], guard := none },
  { dst := some 63, op := Op.move (Operand.tmp 62), type := 4, pos := "law.go:128", after := #[{ on := 2, ground := Ground.data }, { on := 2, ground := Ground.chain }], guard := none },
  { dst := some 64, op := Op.load 26 (Operand.tmp 7), type := 26, pos := "law.go:128", after := #[{ on := 3, ground := Ground.guard }], guard := some (3, true) },
  { dst := some 65, op := Op.load 26 (Operand.tmp 8), type := 26, pos := "law.go:128", after := #[{ on := 3, ground := Ground.guard }], guard := some (3, true) },
  { dst := some 66, op := Op.call { callee := Callee.value (Operand.func 10), args := #[Operand.tmp 64, Operand.tmp 65], argTypes := #[26, 26] }, type := 4, pos := "law.go:128", after := #[{ on := 4, ground := Ground.data }, { on := 5, ground := Ground.data }, { on := 3, ground := Ground.chain }, { on := 3, ground := Ground.guard }], guard := some (3, true) },
  { dst := some 67, op := Op.pick (Operand.tmp 63) (Operand.tmp 66) (Operand.const (Value.bool false)), type := 4, pos := "law.go:128", after := #[{ on := 3, ground := Ground.data }, { on := 6, ground := Ground.data }], guard := none },
  { dst := some 68, op := Op.move (Operand.tmp 67), type := 4, pos := "law.go:128", after := #[{ on := 7, ground := Ground.data }, { on := 6, ground := Ground.chain }], guard := none },
  { dst := some 69, op := Op.load 26 (Operand.tmp 6), type := 26, pos := "law.go:128", after := #[{ on := 8, ground := Ground.guard }], guard := some (8, true) },
  { dst := some 70, op := Op.call { callee := Callee.value (Operand.func 8), args := #[Operand.tmp 69], argTypes := #[26] }, type := 26, pos := "law.go:128", after := #[{ on := 9, ground := Ground.data }, { on := 8, ground := Ground.chain }, { on := 8, ground := Ground.guard }], guard := some (8, true) },
  { dst := some 71, op := Op.load 26 (Operand.tmp 3), type := 26, pos := "law.go:128", after := #[{ on := 8, ground := Ground.guard }], guard := some (8, true) },
  { dst := some 72, op := Op.call { callee := Callee.value (Operand.func 6), args := #[Operand.tmp 70, Operand.tmp 71], argTypes := #[26, 26] }, type := 4, pos := "law.go:128", after := #[{ on := 10, ground := Ground.data }, { on := 11, ground := Ground.data }, { on := 10, ground := Ground.chain }, { on := 8, ground := Ground.guard }], guard := some (8, true) },
  { dst := some 73, op := Op.pick (Operand.tmp 68) (Operand.tmp 72) (Operand.const (Value.bool false)), type := 4, pos := "law.go:128", after := #[{ on := 8, ground := Ground.data }, { on := 12, ground := Ground.data }], guard := none },
  { dst := some 74, op := Op.move (Operand.tmp 73), type := 4, pos := "law.go:128", after := #[{ on := 13, ground := Ground.data }, { on := 12, ground := Ground.chain }], guard := none },
  { dst := some 75, op := Op.load 26 (Operand.tmp 6), type := 26, pos := "law.go:128", after := #[{ on := 14, ground := Ground.guard }], guard := some (14, true) },
  { dst := some 76, op := Op.load 26 (Operand.tmp 3), type := 26, pos := "law.go:128", after := #[{ on := 14, ground := Ground.guard }], guard := some (14, true) },
  { dst := some 77, op := Op.call { callee := Callee.value (Operand.func 7), args := #[Operand.tmp 75, Operand.tmp 76], argTypes := #[26, 26] }, type := 4, pos := "law.go:128", after := #[{ on := 15, ground := Ground.data }, { on := 16, ground := Ground.data }, { on := 14, ground := Ground.chain }, { on := 14, ground := Ground.guard }], guard := some (14, true) },
  { dst := some 78, op := Op.pick (Operand.tmp 74) (Operand.tmp 77) (Operand.const (Value.bool false)), type := 4, pos := "law.go:128", after := #[{ on := 14, ground := Ground.data }, { on := 17, ground := Ground.data }], guard := none },
  { dst := some 79, op := Op.move (Operand.tmp 78), type := 4, pos := "law.go:128", after := #[{ on := 18, ground := Ground.data }, { on := 17, ground := Ground.chain }], guard := none },
  { dst := some 80, op := Op.call { callee := Callee.value (Operand.func 11), args := #[], argTypes := #[] }, type := 4, pos := "law.go:128", after := #[{ on := 19, ground := Ground.chain }, { on := 19, ground := Ground.guard }], guard := some (19, true) },
  { dst := some 81, op := Op.pick (Operand.tmp 79) (Operand.tmp 80) (Operand.const (Value.bool false)), type := 4, pos := "law.go:128", after := #[{ on := 19, ground := Ground.data }, { on := 20, ground := Ground.data }], guard := none },
  { dst := some 4, op := Op.assign (Operand.tmp 81), type := 4, pos := "law.go:128", after := #[{ on := 21, ground := Ground.data }, { on := 20, ground := Ground.chain }, { on := 0, ground := Ground.phase }, { on := 1, ground := Ground.phase }, { on := 2, ground := Ground.phase }, { on := 3, ground := Ground.phase }, { on := 4, ground := Ground.phase }, { on := 5, ground := Ground.phase }, { on := 6, ground := Ground.phase }, { on := 7, ground := Ground.phase }, { on := 8, ground := Ground.phase }, { on := 9, ground := Ground.phase }, { on := 10, ground := Ground.phase }, { on := 11, ground := Ground.phase }, { on := 12, ground := Ground.phase }, { on := 13, ground := Ground.phase }, { on := 14, ground := Ground.phase }, { on := 15, ground := Ground.phase }, { on := 16, ground := Ground.phase }, { on := 17, ground := Ground.phase }, { on := 18, ground := Ground.phase }, { on := 19, ground := Ground.phase }, { on := 20, ground := Ground.phase }, { on := 21, ground := Ground.phase }], guard := none }]
set_option maxRecDepth 100000 in
theorem nc_2tt {Q : Exit → Act → World → Prop} {S : World → Prop} {w0 : World} {A0 : Nat} {vA vB : Value} {N M : Nd} (hS : ∀ X, Same w0 X → S X)
    (_HA : ∀ W, Same w0 W → Calls Try.prog 4 #[vA] W fun e w' => ∃ xp xs xk : Sl, e = .returned (nV xp xs xk) ∧ LentN w' W.heap.size xp xs xk N ∧ Same W w')
    (_HB : ∀ W, Same w0 W → Calls Try.prog 4 #[vB] W fun e w' => ∃ xp xs xk : Sl, e = .returned (nV xp xs xk) ∧ LentN w' W.heap.size xp xs xk M ∧ Same W w')
    (hSn : ∀ W X b, Same w0 W → w0.heap.size ≤ b → Fr (fun k => k = b) W X → S X)
    (hQ : ∀ a W xp xs xk yp ys yk b d, FR w0 A0 N M xp xs xk yp ys yk b d a W → Q .normal a W) (a : Act) (W : World) (h : SR w0 A0 vA vB N M 2 true true a W) : wpAnyH Try.prog .any rNC1 Q S 2 #[true, true, true, true, true, true, false, false] a W := by
  obtain ⟨xp, xs, xk, e10, lx, h2⟩ := h.X (by decide)
  obtain ⟨yp, ys, yk, e12, ly, ho⟩ := h2 (by decide)
  obtain ⟨b, e5, hb, hgb, h3⟩ := h.bx rfl
  obtain ⟨d, e6, hd, hgd, hbd⟩ := h3 rfl
  refine wpAnyH_ready (rs := [6]) (by kernel_rfl) (by simp) (AllReadyH.cons (o := { dst := none, op := Op.store 26 (Operand.tmp 5) (Operand.tmp 10), type := 0, pos := "law.go:118", after := #[{ on := 4, ground := Ground.data }, { on := 1, ground := Ground.data }, { on := 3, ground := Ground.chain }, { on := 0, ground := Ground.phase }, { on := 1, ground := Ground.phase }, { on := 2, ground := Ground.textOnly Go.Departure.lateStores }, { on := 3, ground := Ground.textOnly Go.Departure.lateStoresUnsure }, { on := 4, ground := Ground.phase }, { on := 5, ground := Ground.phase }], guard := none }) rfl (fun K hK => ?_) AllReadyH.nil)
  refine step_store_whole rfl 26 _ _ rfl b #[xp.v, xs.v, xk.v] _ 26 e5 e10 hb rfl (by kernel_rfl) (by kernel_rfl) (fun W1 r1 f1 => ?_)
  have lx1 := lx.fr f1 (fun i hi e => lx.notbox hb (by rw [← e]; exact hi))
  have ly1 := ly.fr f1 (fun i hi e => ly.notbox hb (by rw [← e]; exact hi))
  have hd1 : W1.heap[d]? = some nilNode := (f1.block _ (lt_of_heap hd) (fun e => hbd e.symm)).trans hd
  refine hK.out _ _ (hSn W W1 b h.sm hgb f1) (fun _ => ?_)
  clear hK K
  show wpAnyH Try.prog .any rNC1 Q S 1 #[true, true, true, true, true, true, true, false] a W1
  refine wpAnyH_ready (rs := [7]) (by kernel_rfl) (by simp) (AllReadyH.cons (o := { dst := none, op := Op.store 26 (Operand.tmp 6) (Operand.tmp 12), type := 0, pos := "law.go:118", after := #[{ on := 5, ground := Ground.data }, { on := 3, ground := Ground.data }, { on := 6, ground := Ground.chain }, { on := 0, ground := Ground.phase }, { on := 1, ground := Ground.phase }, { on := 2, ground := Ground.phase }, { on := 3, ground := Ground.phase }, { on := 4, ground := Ground.phase }, { on := 5, ground := Ground.phase }, { on := 6, ground := Ground.phase }], guard := none }) rfl (fun K hK => ?_) AllReadyH.nil)
  refine step_store_whole rfl 26 _ _ rfl d #[yp.v, ys.v, yk.v] _ 26 e6 e12 hd1 rfl (by kernel_rfl) (by kernel_rfl) (fun W2 r2 f2 => ?_)
  have lx2 := lx1.fr f2 (fun i hi e => lx1.notbox hd1 (by rw [← e]; exact hi))
  have ly2 := ly1.fr f2 (fun i hi e => ly1.notbox hd1 (by rw [← e]; exact hi))
  have hx2 : W2.heap[b]? = some (nodeC xp xs xk) := (f2.block _ (lt_of_heap r1) (fun e => hbd e)).trans r1
  have s2 : Same w0 W2 := Fr.trans (Fr.trans h.sm f1 (fun i hi e => by omega)) f2 (fun i hi e => by omega)
  refine hK.out _ _ (hS _ s2) (fun _ => ?_)
  clear hK K
  refine wpAnyH_done (by kernel_rfl) ?_ _
  exact hQ a W2 xp xs xk yp ys yk b d ⟨h.size, h.defers, h.s2, h.s3, e5, e6, s2, lx2, ly2, ho, hx2, r2⟩
set_option maxRecDepth 100000 in
theorem nc_2tf {Q : Exit → Act → World → Prop} {S : World → Prop} {w0 : World} {A0 : Nat} {vA vB : Value} {N M : Nd} (hS : ∀ X, Same w0 X → S X)
    (HA : ∀ W, Same w0 W → Calls Try.prog 4 #[vA] W fun e w' => ∃ xp xs xk : Sl, e = .returned (nV xp xs xk) ∧ LentN w' W.heap.size xp xs xk N ∧ Same W w')
    (HB : ∀ W, Same w0 W → Calls Try.prog 4 #[vB] W fun e w' => ∃ xp xs xk : Sl, e = .returned (nV xp xs xk) ∧ LentN w' W.heap.size xp xs xk M ∧ Same W w')
    (hSn : ∀ W X b, Same w0 W → w0.heap.size ≤ b → Fr (fun k => k = b) W X → S X)
    (hQ : ∀ a W xp xs xk yp ys yk b d, FR w0 A0 N M xp xs xk yp ys yk b d a W → Q .normal a W) (a : Act) (W : World) (h : SR w0 A0 vA vB N M 2 true false a W) : wpAnyH Try.prog .any rNC1 Q S 3 #[true, true, true, true, true, false, false, false] a W := by
  refine wpAnyH_ready (rs := [5]) (by kernel_rfl) (by simp) ?_
  refine AllReadyH.cons (o := { dst := some 6, op := Op.alloc 26, type := 0, pos := "law.go:118", after := #[], guard := none }) rfl (fun K hK => ?_) ?_
  · have hr : (execOp a.eval { dst := some 6, op := Op.alloc 26, type := 0, pos := "law.go:118", after := #[], guard := none }).run Try.prog W = .ok (.value (.pointer (some ⟨W.heap.size, 0, none⟩))) (W.alloc nilBox) := by
      clear h hK hQ hSn HA HB hS
      generalize a.eval = ρ at *
      go_simp
    refine opr_value rfl rfl hr (hK.out _ _ (hS _ (h.sm.trans ((Fr.refl _ W).alloc _))) (fun _ => ?_))
    exact nc_2tt hS HA HB hSn hQ _ _ h.allocY
  exact AllReadyH.nil
set_option maxRecDepth 100000 in
theorem nc_2ft {Q : Exit → Act → World → Prop} {S : World → Prop} {w0 : World} {A0 : Nat} {vA vB : Value} {N M : Nd} (hS : ∀ X, Same w0 X → S X)
    (HA : ∀ W, Same w0 W → Calls Try.prog 4 #[vA] W fun e w' => ∃ xp xs xk : Sl, e = .returned (nV xp xs xk) ∧ LentN w' W.heap.size xp xs xk N ∧ Same W w')
    (HB : ∀ W, Same w0 W → Calls Try.prog 4 #[vB] W fun e w' => ∃ xp xs xk : Sl, e = .returned (nV xp xs xk) ∧ LentN w' W.heap.size xp xs xk M ∧ Same W w')
    (hSn : ∀ W X b, Same w0 W → w0.heap.size ≤ b → Fr (fun k => k = b) W X → S X)
    (hQ : ∀ a W xp xs xk yp ys yk b d, FR w0 A0 N M xp xs xk yp ys yk b d a W → Q .normal a W) (a : Act) (W : World) (h : SR w0 A0 vA vB N M 2 false true a W) : wpAnyH Try.prog .any rNC1 Q S 3 #[true, true, true, true, false, true, false, false] a W := by
  refine wpAnyH_ready (rs := [4]) (by kernel_rfl) (by simp) ?_
  refine AllReadyH.cons (o := { dst := some 5, op := Op.alloc 26, type := 0, pos := "law.go:118", after := #[], guard := none }) rfl (fun K hK => ?_) ?_
  · have hr : (execOp a.eval { dst := some 5, op := Op.alloc 26, type := 0, pos := "law.go:118", after := #[], guard := none }).run Try.prog W = .ok (.value (.pointer (some ⟨W.heap.size, 0, none⟩))) (W.alloc nilBox) := by
      clear h hK hQ hSn HA HB hS
      generalize a.eval = ρ at *
      go_simp
    refine opr_value rfl rfl hr (hK.out _ _ (hS _ (h.sm.trans ((Fr.refl _ W).alloc _))) (fun _ => ?_))
    exact nc_2tt hS HA HB hSn hQ _ _ h.allocX
  exact AllReadyH.nil
set_option maxRecDepth 100000 in
theorem nc_2ff {Q : Exit → Act → World → Prop} {S : World → Prop} {w0 : World} {A0 : Nat} {vA vB : Value} {N M : Nd} (hS : ∀ X, Same w0 X → S X)
    (HA : ∀ W, Same w0 W → Calls Try.prog 4 #[vA] W fun e w' => ∃ xp xs xk : Sl, e = .returned (nV xp xs xk) ∧ LentN w' W.heap.size xp xs xk N ∧ Same W w')
    (HB : ∀ W, Same w0 W → Calls Try.prog 4 #[vB] W fun e w' => ∃ xp xs xk : Sl, e = .returned (nV xp xs xk) ∧ LentN w' W.heap.size xp xs xk M ∧ Same W w')
    (hSn : ∀ W X b, Same w0 W → w0.heap.size ≤ b → Fr (fun k => k = b) W X → S X)
    (hQ : ∀ a W xp xs xk yp ys yk b d, FR w0 A0 N M xp xs xk yp ys yk b d a W → Q .normal a W) (a : Act) (W : World) (h : SR w0 A0 vA vB N M 2 false false a W) : wpAnyH Try.prog .any rNC1 Q S 4 #[true, true, true, true, false, false, false, false] a W := by
  refine wpAnyH_ready (rs := [4, 5]) (by kernel_rfl) (by simp) ?_
  refine AllReadyH.cons (o := { dst := some 5, op := Op.alloc 26, type := 0, pos := "law.go:118", after := #[], guard := none }) rfl (fun K hK => ?_) ?_
  · have hr : (execOp a.eval { dst := some 5, op := Op.alloc 26, type := 0, pos := "law.go:118", after := #[], guard := none }).run Try.prog W = .ok (.value (.pointer (some ⟨W.heap.size, 0, none⟩))) (W.alloc nilBox) := by
      clear h hK hQ hSn HA HB hS
      generalize a.eval = ρ at *
      go_simp
    refine opr_value rfl rfl hr (hK.out _ _ (hS _ (h.sm.trans ((Fr.refl _ W).alloc _))) (fun _ => ?_))
    exact nc_2tf hS HA HB hSn hQ _ _ h.allocX
  refine AllReadyH.cons (o := { dst := some 6, op := Op.alloc 26, type := 0, pos := "law.go:118", after := #[], guard := none }) rfl (fun K hK => ?_) ?_
  · have hr : (execOp a.eval { dst := some 6, op := Op.alloc 26, type := 0, pos := "law.go:118", after := #[], guard := none }).run Try.prog W = .ok (.value (.pointer (some ⟨W.heap.size, 0, none⟩))) (W.alloc nilBox) := by
      clear h hK hQ hSn HA HB hS
      generalize a.eval = ρ at *
      go_simp
    refine opr_value rfl rfl hr (hK.out _ _ (hS _ (h.sm.trans ((Fr.refl _ W).alloc _))) (fun _ => ?_))
    exact nc_2ft hS HA HB hSn hQ _ _ h.allocY
  exact AllReadyH.nil
set_option maxRecDepth 100000 in
theorem nc_1tt {Q : Exit → Act → World → Prop} {S : World → Prop} {w0 : World} {A0 : Nat} {vA vB : Value} {N M : Nd} (hS : ∀ X, Same w0 X → S X)
    (HA : ∀ W, Same w0 W → Calls Try.prog 4 #[vA] W fun e w' => ∃ xp xs xk : Sl, e = .returned (nV xp xs xk) ∧ LentN w' W.heap.size xp xs xk N ∧ Same W w')
    (HB : ∀ W, Same w0 W → Calls Try.prog 4 #[vB] W fun e w' => ∃ xp xs xk : Sl, e = .returned (nV xp xs xk) ∧ LentN w' W.heap.size xp xs xk M ∧ Same W w')
    (hSn : ∀ W X b, Same w0 W → w0.heap.size ≤ b → Fr (fun k => k = b) W X → S X)
    (hQ : ∀ a W xp xs xk yp ys yk b d, FR w0 A0 N M xp xs xk yp ys yk b d a W → Q .normal a W) (a : Act) (W : World) (h : SR w0 A0 vA vB N M 1 true true a W) : wpAnyH Try.prog .any rNC1 Q S 3 #[true, true, true, false, true, true, false, false] a W := by
  refine wpAnyH_ready (rs := [3]) (by kernel_rfl) (by simp) ?_
  refine AllReadyH.cons (o := { dst := some 12, op := Op.call { callee := Callee.value (Operand.func 4), args := #[Operand.tmp 11], argTypes := #[26] }, type := 26, pos := "law.go:118", after := #[{ on := 2, ground := Ground.data }, { on := 1, ground := Ground.chain }], guard := none }) rfl (fun K hK => ?_) ?_
  · have hr : (execOp a.eval { dst := some 12, op := Op.call { callee := Callee.value (Operand.func 4), args := #[Operand.tmp 11], argTypes := #[26] }, type := 26, pos := "law.go:118", after := #[{ on := 2, ground := Ground.data }, { on := 1, ground := Ground.chain }], guard := none }).run Try.prog W = .ok (.enter 4 #[vB]) W := by
      have kf : ∀ f, a.eval (.func f) = .func (.func f) #[] #[] := fun _ => rfl
      have e := h.s11
      clear h hK hQ hSn HA HB hS
      generalize a.eval = ρ at *
      go_simp
    refine opr_call rfl rfl hr (HB W h.sm) (fun e w' hR => ?_)
    obtain ⟨xp, xs, xk, rfl, hl, hs⟩ := hR
    refine ⟨_, rfl, hK.out _ _ (hS _ (h.sm.trans hs)) (fun _ => ?_)⟩
    exact nc_2tt hS HA HB hSn hQ _ _ (h.lentB hl hs)
  exact AllReadyH.nil
set_option maxRecDepth 100000 in
theorem nc_1tf {Q : Exit → Act → World → Prop} {S : World → Prop} {w0 : World} {A0 : Nat} {vA vB : Value} {N M : Nd} (hS : ∀ X, Same w0 X → S X)
    (HA : ∀ W, Same w0 W → Calls Try.prog 4 #[vA] W fun e w' => ∃ xp xs xk : Sl, e = .returned (nV xp xs xk) ∧ LentN w' W.heap.size xp xs xk N ∧ Same W w')
    (HB : ∀ W, Same w0 W → Calls Try.prog 4 #[vB] W fun e w' => ∃ xp xs xk : Sl, e = .returned (nV xp xs xk) ∧ LentN w' W.heap.size xp xs xk M ∧ Same W w')
    (hSn : ∀ W X b, Same w0 W → w0.heap.size ≤ b → Fr (fun k => k = b) W X → S X)
    (hQ : ∀ a W xp xs xk yp ys yk b d, FR w0 A0 N M xp xs xk yp ys yk b d a W → Q .normal a W) (a : Act) (W : World) (h : SR w0 A0 vA vB N M 1 true false a W) : wpAnyH Try.prog .any rNC1 Q S 4 #[true, true, true, false, true, false, false, false] a W := by
  refine wpAnyH_ready (rs := [3, 5]) (by kernel_rfl) (by simp) ?_
  refine AllReadyH.cons (o := { dst := some 12, op := Op.call { callee := Callee.value (Operand.func 4), args := #[Operand.tmp 11], argTypes := #[26] }, type := 26, pos := "law.go:118", after := #[{ on := 2, ground := Ground.data }, { on := 1, ground := Ground.chain }], guard := none }) rfl (fun K hK => ?_) ?_
  · have hr : (execOp a.eval { dst := some 12, op := Op.call { callee := Callee.value (Operand.func 4), args := #[Operand.tmp 11], argTypes := #[26] }, type := 26, pos := "law.go:118", after := #[{ on := 2, ground := Ground.data }, { on := 1, ground := Ground.chain }], guard := none }).run Try.prog W = .ok (.enter 4 #[vB]) W := by
      have kf : ∀ f, a.eval (.func f) = .func (.func f) #[] #[] := fun _ => rfl
      have e := h.s11
      clear h hK hQ hSn HA HB hS
      generalize a.eval = ρ at *
      go_simp
    refine opr_call rfl rfl hr (HB W h.sm) (fun e w' hR => ?_)
    obtain ⟨xp, xs, xk, rfl, hl, hs⟩ := hR
    refine ⟨_, rfl, hK.out _ _ (hS _ (h.sm.trans hs)) (fun _ => ?_)⟩
    exact nc_2tf hS HA HB hSn hQ _ _ (h.lentB hl hs)
  refine AllReadyH.cons (o := { dst := some 6, op := Op.alloc 26, type := 0, pos := "law.go:118", after := #[], guard := none }) rfl (fun K hK => ?_) ?_
  · have hr : (execOp a.eval { dst := some 6, op := Op.alloc 26, type := 0, pos := "law.go:118", after := #[], guard := none }).run Try.prog W = .ok (.value (.pointer (some ⟨W.heap.size, 0, none⟩))) (W.alloc nilBox) := by
      clear h hK hQ hSn HA HB hS
      generalize a.eval = ρ at *
      go_simp
    refine opr_value rfl rfl hr (hK.out _ _ (hS _ (h.sm.trans ((Fr.refl _ W).alloc _))) (fun _ => ?_))
    exact nc_1tt hS HA HB hSn hQ _ _ h.allocY
  exact AllReadyH.nil
set_option maxRecDepth 100000 in
theorem nc_1ft {Q : Exit → Act → World → Prop} {S : World → Prop} {w0 : World} {A0 : Nat} {vA vB : Value} {N M : Nd} (hS : ∀ X, Same w0 X → S X)
    (HA : ∀ W, Same w0 W → Calls Try.prog 4 #[vA] W fun e w' => ∃ xp xs xk : Sl, e = .returned (nV xp xs xk) ∧ LentN w' W.heap.size xp xs xk N ∧ Same W w')
    (HB : ∀ W, Same w0 W → Calls Try.prog 4 #[vB] W fun e w' => ∃ xp xs xk : Sl, e = .returned (nV xp xs xk) ∧ LentN w' W.heap.size xp xs xk M ∧ Same W w')
    (hSn : ∀ W X b, Same w0 W → w0.heap.size ≤ b → Fr (fun k => k = b) W X → S X)
    (hQ : ∀ a W xp xs xk yp ys yk b d, FR w0 A0 N M xp xs xk yp ys yk b d a W → Q .normal a W) (a : Act) (W : World) (h : SR w0 A0 vA vB N M 1 false true a W) : wpAnyH Try.prog .any rNC1 Q S 4 #[true, true, true, false, false, true, false, false] a W := by
  refine wpAnyH_ready (rs := [3, 4]) (by kernel_rfl) (by simp) ?_
  refine AllReadyH.cons (o := { dst := some 12, op := Op.call { callee := Callee.value (Operand.func 4), args := #[Operand.tmp 11], argTypes := #[26] }, type := 26, pos := "law.go:118", after := #[{ on := 2, ground := Ground.data }, { on := 1, ground := Ground.chain }], guard := none }) rfl (fun K hK => ?_) ?_
  · have hr : (execOp a.eval { dst := some 12, op := Op.call { callee := Callee.value (Operand.func 4), args := #[Operand.tmp 11], argTypes := #[26] }, type := 26, pos := "law.go:118", after := #[{ on := 2, ground := Ground.data }, { on := 1, ground := Ground.chain }], guard := none }).run Try.prog W = .ok (.enter 4 #[vB]) W := by
      have kf : ∀ f, a.eval (.func f) = .func (.func f) #[] #[] := fun _ => rfl
      have e := h.s11
      clear h hK hQ hSn HA HB hS
      generalize a.eval = ρ at *
      go_simp
    refine opr_call rfl rfl hr (HB W h.sm) (fun e w' hR => ?_)
    obtain ⟨xp, xs, xk, rfl, hl, hs⟩ := hR
    refine ⟨_, rfl, hK.out _ _ (hS _ (h.sm.trans hs)) (fun _ => ?_)⟩
    exact nc_2ft hS HA HB hSn hQ _ _ (h.lentB hl hs)
  refine AllReadyH.cons (o := { dst := some 5, op := Op.alloc 26, type := 0, pos := "law.go:118", after := #[], guard := none }) rfl (fun K hK => ?_) ?_
  · have hr : (execOp a.eval { dst := some 5, op := Op.alloc 26, type := 0, pos := "law.go:118", after := #[], guard := none }).run Try.prog W = .ok (.value (.pointer (some ⟨W.heap.size, 0, none⟩))) (W.alloc nilBox) := by
      clear h hK hQ hSn HA HB hS
      generalize a.eval = ρ at *
      go_simp
    refine opr_value rfl rfl hr (hK.out _ _ (hS _ (h.sm.trans ((Fr.refl _ W).alloc _))) (fun _ => ?_))
    exact nc_1tt hS HA HB hSn hQ _ _ h.allocX
  exact AllReadyH.nil
set_option maxRecDepth 100000 in
theorem nc_1ff {Q : Exit → Act → World → Prop} {S : World → Prop} {w0 : World} {A0 : Nat} {vA vB : Value} {N M : Nd} (hS : ∀ X, Same w0 X → S X)
    (HA : ∀ W, Same w0 W → Calls Try.prog 4 #[vA] W fun e w' => ∃ xp xs xk : Sl, e = .returned (nV xp xs xk) ∧ LentN w' W.heap.size xp xs xk N ∧ Same W w')
    (HB : ∀ W, Same w0 W → Calls Try.prog 4 #[vB] W fun e w' => ∃ xp xs xk : Sl, e = .returned (nV xp xs xk) ∧ LentN w' W.heap.size xp xs xk M ∧ Same W w')
    (hSn : ∀ W X b, Same w0 W → w0.heap.size ≤ b → Fr (fun k => k = b) W X → S X)
    (hQ : ∀ a W xp xs xk yp ys yk b d, FR w0 A0 N M xp xs xk yp ys yk b d a W → Q .normal a W) (a : Act) (W : World) (h : SR w0 A0 vA vB N M 1 false false a W) : wpAnyH Try.prog .any rNC1 Q S 5 #[true, true, true, false, false, false, false, false] a W := by
  refine wpAnyH_ready (rs := [3, 4, 5]) (by kernel_rfl) (by simp) ?_
  refine AllReadyH.cons (o := { dst := some 12, op := Op.call { callee := Callee.value (Operand.func 4), args := #[Operand.tmp 11], argTypes := #[26] }, type := 26, pos := "law.go:118", after := #[{ on := 2, ground := Ground.data }, { on := 1, ground := Ground.chain }], guard := none }) rfl (fun K hK => ?_) ?_
  · have hr : (execOp a.eval { dst := some 12, op := Op.call { callee := Callee.value (Operand.func 4), args := #[Operand.tmp 11], argTypes := #[26] }, type := 26, pos := "law.go:118", after := #[{ on := 2, ground := Ground.data }, { on := 1, ground := Ground.chain }], guard := none }).run Try.prog W = .ok (.enter 4 #[vB]) W := by
      have kf : ∀ f, a.eval (.func f) = .func (.func f) #[] #[] := fun _ => rfl
      have e := h.s11
      clear h hK hQ hSn HA HB hS
      generalize a.eval = ρ at *
      go_simp
    refine opr_call rfl rfl hr (HB W h.sm) (fun e w' hR => ?_)
    obtain ⟨xp, xs, xk, rfl, hl, hs⟩ := hR
    refine ⟨_, rfl, hK.out _ _ (hS _ (h.sm.trans hs)) (fun _ => ?_)⟩
    exact nc_2ff hS HA HB hSn hQ _ _ (h.lentB hl hs)
  refine AllReadyH.cons (o := { dst := some 5, op := Op.alloc 26, type := 0, pos := "law.go:118", after := #[], guard := none }) rfl (fun K hK => ?_) ?_
  · have hr : (execOp a.eval { dst := some 5, op := Op.alloc 26, type := 0, pos := "law.go:118", after := #[], guard := none }).run Try.prog W = .ok (.value (.pointer (some ⟨W.heap.size, 0, none⟩))) (W.alloc nilBox) := by
      clear h hK hQ hSn HA HB hS
      generalize a.eval = ρ at *
      go_simp
    refine opr_value rfl rfl hr (hK.out _ _ (hS _ (h.sm.trans ((Fr.refl _ W).alloc _))) (fun _ => ?_))
    exact nc_1tf hS HA HB hSn hQ _ _ h.allocX
  refine AllReadyH.cons (o := { dst := some 6, op := Op.alloc 26, type := 0, pos := "law.go:118", after := #[], guard := none }) rfl (fun K hK => ?_) ?_
  · have hr : (execOp a.eval { dst := some 6, op := Op.alloc 26, type := 0, pos := "law.go:118", after := #[], guard := none }).run Try.prog W = .ok (.value (.pointer (some ⟨W.heap.size, 0, none⟩))) (W.alloc nilBox) := by
      clear h hK hQ hSn HA HB hS
      generalize a.eval = ρ at *
      go_simp
    refine opr_value rfl rfl hr (hK.out _ _ (hS _ (h.sm.trans ((Fr.refl _ W).alloc _))) (fun _ => ?_))
    exact nc_1ft hS HA HB hSn hQ _ _ h.allocY
  exact AllReadyH.nil
set_option maxRecDepth 100000 in
theorem nc_0tt {Q : Exit → Act → World → Prop} {S : World → Prop} {w0 : World} {A0 : Nat} {vA vB : Value} {N M : Nd} (hS : ∀ X, Same w0 X → S X)
    (HA : ∀ W, Same w0 W → Calls Try.prog 4 #[vA] W fun e w' => ∃ xp xs xk : Sl, e = .returned (nV xp xs xk) ∧ LentN w' W.heap.size xp xs xk N ∧ Same W w')
    (HB : ∀ W, Same w0 W → Calls Try.prog 4 #[vB] W fun e w' => ∃ xp xs xk : Sl, e = .returned (nV xp xs xk) ∧ LentN w' W.heap.size xp xs xk M ∧ Same W w')
    (hSn : ∀ W X b, Same w0 W → w0.heap.size ≤ b → Fr (fun k => k = b) W X → S X)
    (hQ : ∀ a W xp xs xk yp ys yk b d, FR w0 A0 N M xp xs xk yp ys yk b d a W → Q .normal a W) (a : Act) (W : World) (h : SR w0 A0 vA vB N M 0 true true a W) : wpAnyH Try.prog .any rNC1 Q S 4 #[true, false, true, false, true, true, false, false] a W := by
  refine wpAnyH_ready (rs := [1]) (by kernel_rfl) (by simp) ?_
  refine AllReadyH.cons (o := { dst := some 10, op := Op.call { callee := Callee.value (Operand.func 4), args := #[Operand.tmp 9], argTypes := #[26] }, type := 26, pos := "law.go:118", after := #[{ on := 0, ground := Ground.data }], guard := none }) rfl (fun K hK => ?_) ?_
  · have hr : (execOp a.eval { dst := some 10, op := Op.call { callee := Callee.value (Operand.func 4), args := #[Operand.tmp 9], argTypes := #[26] }, type := 26, pos := "law.go:118", after := #[{ on := 0, ground := Ground.data }], guard := none }).run Try.prog W = .ok (.enter 4 #[vA]) W := by
      have kf : ∀ f, a.eval (.func f) = .func (.func f) #[] #[] := fun _ => rfl
      have e := h.s9
      clear h hK hQ hSn HA HB hS
      generalize a.eval = ρ at *
      go_simp
    refine opr_call rfl rfl hr (HA W h.sm) (fun e w' hR => ?_)
    obtain ⟨xp, xs, xk, rfl, hl, hs⟩ := hR
    refine ⟨_, rfl, hK.out _ _ (hS _ (h.sm.trans hs)) (fun _ => ?_)⟩
    exact nc_1tt hS HA HB hSn hQ _ _ (h.lentA hl hs)
  exact AllReadyH.nil
set_option maxRecDepth 100000 in
theorem nc_0tf {Q : Exit → Act → World → Prop} {S : World → Prop} {w0 : World} {A0 : Nat} {vA vB : Value} {N M : Nd} (hS : ∀ X, Same w0 X → S X)
    (HA : ∀ W, Same w0 W → Calls Try.prog 4 #[vA] W fun e w' => ∃ xp xs xk : Sl, e = .returned (nV xp xs xk) ∧ LentN w' W.heap.size xp xs xk N ∧ Same W w')
    (HB : ∀ W, Same w0 W → Calls Try.prog 4 #[vB] W fun e w' => ∃ xp xs xk : Sl, e = .returned (nV xp xs xk) ∧ LentN w' W.heap.size xp xs xk M ∧ Same W w')
    (hSn : ∀ W X b, Same w0 W → w0.heap.size ≤ b → Fr (fun k => k = b) W X → S X)
    (hQ : ∀ a W xp xs xk yp ys yk b d, FR w0 A0 N M xp xs xk yp ys yk b d a W → Q .normal a W) (a : Act) (W : World) (h : SR w0 A0 vA vB N M 0 true false a W) : wpAnyH Try.prog .any rNC1 Q S 5 #[true, false, true, false, true, false, false, false] a W := by
  refine wpAnyH_ready (rs := [1, 5]) (by kernel_rfl) (by simp) ?_
  refine AllReadyH.cons (o := { dst := some 10, op := Op.call { callee := Callee.value (Operand.func 4), args := #[Operand.tmp 9], argTypes := #[26] }, type := 26, pos := "law.go:118", after := #[{ on := 0, ground := Ground.data }], guard := none }) rfl (fun K hK => ?_) ?_
  · have hr : (execOp a.eval { dst := some 10, op := Op.call { callee := Callee.value (Operand.func 4), args := #[Operand.tmp 9], argTypes := #[26] }, type := 26, pos := "law.go:118", after := #[{ on := 0, ground := Ground.data }], guard := none }).run Try.prog W = .ok (.enter 4 #[vA]) W := by
      have kf : ∀ f, a.eval (.func f) = .func (.func f) #[] #[] := fun _ => rfl
      have e := h.s9
      clear h hK hQ hSn HA HB hS
      generalize a.eval = ρ at *
      go_simp
    refine opr_call rfl rfl hr (HA W h.sm) (fun e w' hR => ?_)
    obtain ⟨xp, xs, xk, rfl, hl, hs⟩ := hR
    refine ⟨_, rfl, hK.out _ _ (hS _ (h.sm.trans hs)) (fun _ => ?_)⟩
    exact nc_1tf hS HA HB hSn hQ _ _ (h.lentA hl hs)
  refine AllReadyH.cons (o := { dst := some 6, op := Op.alloc 26, type := 0, pos := "law.go:118", after := #[], guard := none }) rfl (fun K hK => ?_) ?_
  · have hr : (execOp a.eval { dst := some 6, op := Op.alloc 26, type := 0, pos := "law.go:118", after := #[], guard := none }).run Try.prog W = .ok (.value (.pointer (some ⟨W.heap.size, 0, none⟩))) (W.alloc nilBox) := by
      clear h hK hQ hSn HA HB hS
      generalize a.eval = ρ at *
      go_simp
    refine opr_value rfl rfl hr (hK.out _ _ (hS _ (h.sm.trans ((Fr.refl _ W).alloc _))) (fun _ => ?_))
    exact nc_0tt hS HA HB hSn hQ _ _ h.allocY
  exact AllReadyH.nil
set_option maxRecDepth 100000 in
theorem nc_0ft {Q : Exit → Act → World → Prop} {S : World → Prop} {w0 : World} {A0 : Nat} {vA vB : Value} {N M : Nd} (hS : ∀ X, Same w0 X → S X)
    (HA : ∀ W, Same w0 W → Calls Try.prog 4 #[vA] W fun e w' => ∃ xp xs xk : Sl, e = .returned (nV xp xs xk) ∧ LentN w' W.heap.size xp xs xk N ∧ Same W w')
    (HB : ∀ W, Same w0 W → Calls Try.prog 4 #[vB] W fun e w' => ∃ xp xs xk : Sl, e = .returned (nV xp xs xk) ∧ LentN w' W.heap.size xp xs xk M ∧ Same W w')
    (hSn : ∀ W X b, Same w0 W → w0.heap.size ≤ b → Fr (fun k => k = b) W X → S X)
    (hQ : ∀ a W xp xs xk yp ys yk b d, FR w0 A0 N M xp xs xk yp ys yk b d a W → Q .normal a W) (a : Act) (W : World) (h : SR w0 A0 vA vB N M 0 false true a W) : wpAnyH Try.prog .any rNC1 Q S 5 #[true, false, true, false, false, true, false, false] a W := by
  refine wpAnyH_ready (rs := [1, 4]) (by kernel_rfl) (by simp) ?_
  refine AllReadyH.cons (o := { dst := some 10, op := Op.call { callee := Callee.value (Operand.func 4), args := #[Operand.tmp 9], argTypes := #[26] }, type := 26, pos := "law.go:118", after := #[{ on := 0, ground := Ground.data }], guard := none }) rfl (fun K hK => ?_) ?_
  · have hr : (execOp a.eval { dst := some 10, op := Op.call { callee := Callee.value (Operand.func 4), args := #[Operand.tmp 9], argTypes := #[26] }, type := 26, pos := "law.go:118", after := #[{ on := 0, ground := Ground.data }], guard := none }).run Try.prog W = .ok (.enter 4 #[vA]) W := by
      have kf : ∀ f, a.eval (.func f) = .func (.func f) #[] #[] := fun _ => rfl
      have e := h.s9
      clear h hK hQ hSn HA HB hS
      generalize a.eval = ρ at *
      go_simp
    refine opr_call rfl rfl hr (HA W h.sm) (fun e w' hR => ?_)
    obtain ⟨xp, xs, xk, rfl, hl, hs⟩ := hR
    refine ⟨_, rfl, hK.out _ _ (hS _ (h.sm.trans hs)) (fun _ => ?_)⟩
    exact nc_1ft hS HA HB hSn hQ _ _ (h.lentA hl hs)
  refine AllReadyH.cons (o := { dst := some 5, op := Op.alloc 26, type := 0, pos := "law.go:118", after := #[], guard := none }) rfl (fun K hK => ?_) ?_
  · have hr : (execOp a.eval { dst := some 5, op := Op.alloc 26, type := 0, pos := "law.go:118", after := #[], guard := none }).run Try.prog W = .ok (.value (.pointer (some ⟨W.heap.size, 0, none⟩))) (W.alloc nilBox) := by
      clear h hK hQ hSn HA HB hS
      generalize a.eval = ρ at *
      go_simp
    refine opr_value rfl rfl hr (hK.out _ _ (hS _ (h.sm.trans ((Fr.refl _ W).alloc _))) (fun _ => ?_))
    exact nc_0tt hS HA HB hSn hQ _ _ h.allocX
  exact AllReadyH.nil
set_option maxRecDepth 100000 in
theorem nc_0ff {Q : Exit → Act → World → Prop} {S : World → Prop} {w0 : World} {A0 : Nat} {vA vB : Value} {N M : Nd} (hS : ∀ X, Same w0 X → S X)
    (HA : ∀ W, Same w0 W → Calls Try.prog 4 #[vA] W fun e w' => ∃ xp xs xk : Sl, e = .returned (nV xp xs xk) ∧ LentN w' W.heap.size xp xs xk N ∧ Same W w')
    (HB : ∀ W, Same w0 W → Calls Try.prog 4 #[vB] W fun e w' => ∃ xp xs xk : Sl, e = .returned (nV xp xs xk) ∧ LentN w' W.heap.size xp xs xk M ∧ Same W w')
    (hSn : ∀ W X b, Same w0 W → w0.heap.size ≤ b → Fr (fun k => k = b) W X → S X)
    (hQ : ∀ a W xp xs xk yp ys yk b d, FR w0 A0 N M xp xs xk yp ys yk b d a W → Q .normal a W) (a : Act) (W : World) (h : SR w0 A0 vA vB N M 0 false false a W) : wpAnyH Try.prog .any rNC1 Q S 6 #[true, false, true, false, false, false, false, false] a W := by
  refine wpAnyH_ready (rs := [1, 4, 5]) (by kernel_rfl) (by simp) ?_
  refine AllReadyH.cons (o := { dst := some 10, op := Op.call { callee := Callee.value (Operand.func 4), args := #[Operand.tmp 9], argTypes := #[26] }, type := 26, pos := "law.go:118", after := #[{ on := 0, ground := Ground.data }], guard := none }) rfl (fun K hK => ?_) ?_
  · have hr : (execOp a.eval { dst := some 10, op := Op.call { callee := Callee.value (Operand.func 4), args := #[Operand.tmp 9], argTypes := #[26] }, type := 26, pos := "law.go:118", after := #[{ on := 0, ground := Ground.data }], guard := none }).run Try.prog W = .ok (.enter 4 #[vA]) W := by
      have kf : ∀ f, a.eval (.func f) = .func (.func f) #[] #[] := fun _ => rfl
      have e := h.s9
      clear h hK hQ hSn HA HB hS
      generalize a.eval = ρ at *
      go_simp
    refine opr_call rfl rfl hr (HA W h.sm) (fun e w' hR => ?_)
    obtain ⟨xp, xs, xk, rfl, hl, hs⟩ := hR
    refine ⟨_, rfl, hK.out _ _ (hS _ (h.sm.trans hs)) (fun _ => ?_)⟩
    exact nc_1ff hS HA HB hSn hQ _ _ (h.lentA hl hs)
  refine AllReadyH.cons (o := { dst := some 5, op := Op.alloc 26, type := 0, pos := "law.go:118", after := #[], guard := none }) rfl (fun K hK => ?_) ?_
  · have hr : (execOp a.eval { dst := some 5, op := Op.alloc 26, type := 0, pos := "law.go:118", after := #[], guard := none }).run Try.prog W = .ok (.value (.pointer (some ⟨W.heap.size, 0, none⟩))) (W.alloc nilBox) := by
      clear h hK hQ hSn HA HB hS
      generalize a.eval = ρ at *
      go_simp
    refine opr_value rfl rfl hr (hK.out _ _ (hS _ (h.sm.trans ((Fr.refl _ W).alloc _))) (fun _ => ?_))
    exact nc_0tf hS HA HB hSn hQ _ _ h.allocX
  refine AllReadyH.cons (o := { dst := some 6, op := Op.alloc 26, type := 0, pos := "law.go:118", after := #[], guard := none }) rfl (fun K hK => ?_) ?_
  · have hr : (execOp a.eval { dst := some 6, op := Op.alloc 26, type := 0, pos := "law.go:118", after := #[], guard := none }).run Try.prog W = .ok (.value (.pointer (some ⟨W.heap.size, 0, none⟩))) (W.alloc nilBox) := by
      clear h hK hQ hSn HA HB hS
      generalize a.eval = ρ at *
      go_simp
    refine opr_value rfl rfl hr (hK.out _ _ (hS _ (h.sm.trans ((Fr.refl _ W).alloc _))) (fun _ => ?_))
    exact nc_0ft hS HA HB hSn hQ _ _ h.allocY
  exact AllReadyH.nil
end Go.Proofs.Ytjlbkagkmcelgaa
