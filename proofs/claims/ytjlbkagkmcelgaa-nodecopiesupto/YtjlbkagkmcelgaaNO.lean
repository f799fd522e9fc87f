/- Unpack, Read. -/
import Derived.Test.YtjlbkagkmcelgaaNN
namespace Go.Proofs.Ytjlbkagkmcelgaa
open Go.RowKit

theorem step_store_whole {P : Program} {ops : Array Oper} {o : Oper} {a : Act} {w : World} {K : Act → World → Prop} {Q : Exit → Act → World → Prop} {E : Prop} (hgd : o.guard = none) (ty : TypeId) (x y : Operand) (ho : o.op = .store ty x y)
    (b : Nat) (cells old : Array Value) (t : TypeId) (hx : a.eval x = .pointer (some ⟨b, 0, none⟩)) (hy : a.eval y = .agg cells) (hb : w.heap[b]? = some (.cells old t (0, 0))) (hl : old.size = cells.size)
    (hi : (P.info? ty).map (·.size) = some cells.size) (h1 : cells.all (·.oneCell') = true)
    (h : ∀ w', w'.heap[b]? = some (.cells cells t (0, 0)) → Fr (fun k => k = b) w w' → K (a.put o.dst undef) w') : if Region.wanted o (yielded ops a.tmps) = true then Oper.wp P o a w K Q else E := by
  have hw : Region.wanted o (yielded ops a.tmps) = true := by simp [Region.wanted, hgd]
  rw [if_pos hw]
  have hth : w.there b 0 cells.size := there_row hb hl.symm
  refine wp_store_mid ty x y ho b 0 cells hx hy hth hi h1 (h _ ?_ (Fr.setCells (S := fun k => k = b) (fun _ => rfl) _ 0 w (Fr.refl _ w)))
  have := setCells_whole cells.toList old hb (by rw [hl, Array.length_toList]) (by rw [Array.length_toList]; exact hth)
  rwa [Array.toArray_toList] at this
set_option maxRecDepth 100000 in
set_option maxHeartbeats 1000000 in
theorem Unpack_calls {p q : Int} {s : ByteArray} (w : World) (hsz : s.size ≤ 1000000000) :
    Calls Try.prog 23 #[frameV p q, .string s] w fun e w' => ∃ r, e = .returned (.tuple #[ndV r (takenN_page p q s), .int .i64 (takenE_page p q s)]) ∧ NdOk w' r q (takenN_page p q s) ∧ Same w w' := by
  have HT : Hid (∀ W, Calls Try.prog 34 #[frameV p q, .string s, pageV, .func (.func 21) #[] #[]] W fun e w' => ∃ r, e = .returned (.tuple #[ndV r (takenN_page p q s), .int .i64 (takenE_page p q s)]) ∧ NdOk w' r q (takenN_page p q s) ∧ Same W w') := fun W => taken_page W hsz
  have HF : Hid (∀ W, Calls Try.prog 26 #[] W fun e w' => e = .returned pageV ∧ Same W w') := fun W => pageForm_calls W
  generalize takenN_page p q s = N at *
  generalize takenE_page p q s = E at *
  clear hsz
  obtain ⟨V, hV⟩ : ∃ V, V = (w.alloc (.cells #[.int .i64 p, .int .i64 q] 48)).alloc (.cells #[.slice none 0 0, .slice none 0 0, .slice none 0 0] 26) := ⟨_, rfl⟩
  have sx : Same w V := by rw [hV]; exact ((Fr.refl _ w).alloc _).alloc _
  have a0 : V.cell? ⟨w.heap.size, 0, none⟩ = some (.int .i64 p) := by rw [hV]; simp
  have a1 : V.cell? ⟨w.heap.size, 1, none⟩ = some (.int .i64 q) := by rw [hV]; simp
  have r2 : V.heap[w.heap.size + 1]? = some (.cells #[.slice none 0 0, .slice none 0 0, .slice none 0 0] 26 (0, 0)) := by rw [hV]; exact heap_alloc2_new w _ _
  have HRES : Hid (∀ (tmps : Array Value) (W : World) (cs : Array Value), W.heap[w.heap.size + 1]? = some (.cells cs 26 (0, 0)) → cs.size = 3 → tmps.getD 4 undef = .pointer (some ⟨w.heap.size + 1, 0, none⟩) → (results Try.f23 tmps).run Try.prog W = .ok (.tuple #[.agg cs, tmps.getD 5 undef]) W) := fun tmps W cs hh h2 hp => results_row_tmp (p := 4) (u := 5) (ty := 26) (by kernel_rfl) tmps _ (w.heap.size + 1) 26 _ (0, 0) _ hp hh Try.underlying26 rfl (by rw [h2]; kernel_rfl)
  go_enter Try.func23, Try.ntmps23
  go_wp2_with fail
  rw [← hV]
  clear hV
  have r3 : V.drew.heap[w.heap.size + 1]? = some (.cells #[.slice none 0 0, .slice none 0 0, .slice none 0 0] 26 (0, 0)) := r2
  have b0 : V.drew.cell? ⟨w.heap.size, 0, none⟩ = some (.int .i64 p) := by simp only [World.cell?_drew]; exact a0
  have b1 : V.drew.cell? ⟨w.heap.size, 1, none⟩ = some (.int .i64 q) := by simp only [World.cell?_drew]; exact a1
  refine wp_region_held_drew (S := fun X => X.cell? ⟨w.heap.size, 0, none⟩ = some (.int .i64 p) ∧ X.cell? ⟨w.heap.size, 1, none⟩ = some (.int .i64 q)) (by kernel_rfl) (by simp only [World.cell?_drew]; exact ⟨a0, a1⟩) (fun hHeld => ?_)
  refine wpAnyH_take (i := 0) (oi := { dst := some 6, op := Op.load 48 (Operand.tmp 2), type := 48, pos := "form.go:141", after := #[], guard := none }) (v := frameV p q) rfl (by kernel_rfl) (by kernel_rfl) (by kernel_rfl) (fun _ _ _ h => h) (Or.inl ⟨by rfl, fun w hSw => by (obtain ⟨hA, hB⟩ := hSw; go_simp)⟩) (by assumption) ?_
  try simp only [Act.put, List.setIfInBounds_toArray, List.set_cons_zero, List.set_cons_succ]
  refine wpAnyH_take (i := 1) (oi := { dst := some 7, op := Op.move (Operand.tmp 1), type := 9, pos := "form.go:141", after := #[], guard := none }) (v := .string s) rfl (by kernel_rfl) (by kernel_rfl) (by kernel_rfl) (fun _ _ _ h => h) (Or.inl ⟨by rfl, fun w hSw => by (obtain ⟨hA, hB⟩ := hSw; go_simp)⟩) (by assumption) ?_
  try simp only [Act.put, List.setIfInBounds_toArray, List.set_cons_zero, List.set_cons_succ]
  refine wpAnyH_ready (rs := [2]) (by kernel_rfl) (by simp) ?_
  refine AllReadyH.cons (o := { dst := some 8, op := Op.call { callee := Callee.value (Operand.func 26), args := #[], argTypes := #[] }, type := 59, pos := "form.go:141", after := #[], guard := none }) rfl (fun K hK => ?_) AllReadyH.nil
  go_simp
  go_at_call 26
  refine (HF.out _).mono ?_
  rintro e W1 ⟨rfl, s1⟩
  try go_wp2_with fail
  refine hK.out _ _ (⟨s1.keep b0, s1.keep b1⟩) (fun hHeld => ?_)
  clear hK K
  try simp only [Act.put, List.setIfInBounds_toArray, List.set_cons_zero, List.set_cons_succ]
  refine wpAnyH_ready (rs := [3]) (by kernel_rfl) (by simp) ?_
  refine AllReadyH.cons (o := { dst := some 9, op := Op.call { callee := Callee.value (Operand.func 34), args := #[Operand.tmp 6, Operand.tmp 7, Operand.tmp 8, Operand.func 21], argTypes := #[48, 9, 59, 51] }, type := 52, pos := "form.go:141", after := #[{ on := 0, ground := Ground.data }, { on := 1, ground := Ground.data }, { on := 2, ground := Ground.data }, { on := 2, ground := Ground.chain }], guard := none }) rfl (fun K hK => ?_) AllReadyH.nil
  go_simp
  go_at_call 34
  refine (HT.out _).mono ?_
  rintro e W2 ⟨r, rfl, hN, s2⟩
  try go_wp2_with fail
  refine hK.out _ _ (⟨s2.keep (s1.keep b0), s2.keep (s1.keep b1)⟩) (fun hHeld => ?_)
  clear hK K
  try simp only [Act.put, List.setIfInBounds_toArray, List.set_cons_zero, List.set_cons_succ]
  have r4 := (s2.block (w.heap.size + 1) (Nat.lt_of_lt_of_le (lt_of_heap r3) s1.size) (fun e => e)).trans ((s1.block (w.heap.size + 1) (lt_of_heap r3) (fun e => e)).trans r3)
  refine wpAnyH_take (i := 4) (oi := { dst := some 10, op := Op.extract (Operand.tmp 9) 0, type := 26, pos := "form.go:141", after := #[{ on := 3, ground := Ground.data }], guard := none }) (v := ndV r N) rfl (by kernel_rfl) (by kernel_rfl) (by kernel_rfl) (fun _ _ _ h => h) (Or.inl ⟨by rfl, fun w hSw => by (obtain ⟨hA, hB⟩ := hSw; go_simp)⟩) (by assumption) ?_
  try simp only [Act.put, List.setIfInBounds_toArray, List.set_cons_zero, List.set_cons_succ]
  refine wpAnyH_take (i := 5) (oi := { dst := some 11, op := Op.extract (Operand.tmp 9) 1, type := 49, pos := "form.go:141", after := #[{ on := 3, ground := Ground.data }], guard := none }) (v := .int .i64 E) rfl (by kernel_rfl) (by kernel_rfl) (by kernel_rfl) (fun _ _ _ h => h) (Or.inl ⟨by rfl, fun w hSw => by (obtain ⟨hA, hB⟩ := hSw; go_simp)⟩) (by assumption) ?_
  try simp only [Act.put, List.setIfInBounds_toArray, List.set_cons_zero, List.set_cons_succ]
  refine wpAnyH_ready (rs := [6]) (by kernel_rfl) (by simp) ?_
  refine AllReadyH.cons (o := { dst := none, op := Op.store 26 (Operand.tmp 4) (Operand.tmp 10), type := 0, pos := "form.go:141", after := #[{ on := 4, ground := Ground.data }, { on := 3, ground := Ground.chain }, { on := 0, ground := Ground.phase }, { on := 1, ground := Ground.phase }, { on := 2, ground := Ground.phase }, { on := 3, ground := Ground.phase }, { on := 4, ground := Ground.phase }, { on := 5, ground := Ground.phase }], guard := none }) rfl (fun K hK => ?_) AllReadyH.nil
  refine step_store_whole rfl 26 _ _ rfl (w.heap.size + 1) #[.slice r.pa N.ps.length r.cp, .slice r.sa N.ss.length r.cs, .slice r.ka N.ks.length r.ck] #[.slice none 0 0, .slice none 0 0, .slice none 0 0] 26 (by rfl) (by rfl) r4 rfl (by kernel_rfl) (by kernel_rfl) ?_
  intro W5 r5 f5
  refine hK.out _ _ ⟨cell_put r4 f5 (s2.keep (s1.keep b0)) (by intro e; cases e), cell_put r4 f5 (s2.keep (s1.keep b1)) (by intro e; cases e)⟩ (fun hHeld => ?_)
  clear hK K
  refine wpAnyH_take (i := 7) (oi := { dst := some 5, op := Op.assign (Operand.tmp 11), type := 49, pos := "form.go:141", after := #[{ on := 5, ground := Ground.data }, { on := 6, ground := Ground.chain }, { on := 0, ground := Ground.phase }, { on := 1, ground := Ground.phase }, { on := 2, ground := Ground.phase }, { on := 3, ground := Ground.phase }, { on := 4, ground := Ground.phase }, { on := 5, ground := Ground.phase }, { on := 6, ground := Ground.phase }], guard := none }) (v := .int .i64 E) rfl (by kernel_rfl) (by kernel_rfl) (by kernel_rfl) (fun _ _ _ h => h) (Or.inl ⟨by rfl, fun w hSw => by (obtain ⟨hA, hB⟩ := hSw; go_simp)⟩) (by assumption) ?_
  try simp only [Act.put, List.setIfInBounds_toArray, List.set_cons_zero, List.set_cons_succ]
  refine wpAnyH_done (by kernel_rfl) ?_ _
  go_wp2_with fail
  exact bodyPost_ret (HRES.out _ _ _ r5 rfl rfl) rfl ⟨r, rfl, hN.put r4 f5, Fr.trans (Same.trans sx.drew (Same.trans s1 s2)) f5 (fun i hi e => by omega)⟩
end Go.Proofs.Ytjlbkagkmcelgaa
