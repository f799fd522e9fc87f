/- Slices that come in, appended to rows of one's own inside a region that draws; the document's Copy. -/
import Derived.Test.YtmgkdnejjemfeaaK4
import Derived.Test.YtmgkdnejjemfeaaKC
namespace Go.Proofs.Ytmgkdnejjemfeaa
open Go.RowKit

theorem run_partPairs (w : World) (ty : TypeId) {B n : Nat} {v : Value} {xs : List Value} (hown : w.ownsRow B 48 2 v n xs) {x : Part} (hx : PartOk w 2 x) (hb : n + x.n ≤ 1099511627776) (hB : B ≤ w.heap.size) :
    ∃ v' w', (Builtin.append_ #[24, 24] ty #[v, .slice x.ao x.n x.c]).run Try.prog w = .ok v' w' ∧ w'.ownsRow B 48 2 v' (n + x.n) (xs ++ x.cells) ∧ w.grownBy w' v.ownBlock := by
  obtain ⟨i0, hi, hz0, hz1, hz2⟩ := info_parts Try.infPair
  obtain ⟨ao, m, c, cs⟩ := x
  cases ao with
  | none =>
    obtain ⟨e1, e2⟩ := hx.none rfl
    have e3 := hx.len
    simp only at e1 e2 e3
    subst e1 e2
    have e4 : cs = [] := List.eq_nil_of_length_eq_zero (by omega)
    subst e4
    refine ⟨v, w, run_append_owned_none (P := Try.prog) (w := w) B 24 ty 48 i0 2 Try.underlying24 hi v n xs hown, ?_, ⟨rfl, rfl, rfl, Nat.le_refl _, fun _ _ _ => rfl⟩⟩
    rw [List.append_nil]; exact hown
  | some a =>
    simp only at hb
    obtain ⟨v', w', h1, h2, h3, _⟩ := run_append_own (P := Try.prog) w B 24 ty 48 i0 (.agg #[.string ⟨#[]⟩, .string ⟨#[]⟩]) 2 32 Try.underlying24 hi hz0 hz1 hz2 rfl (by decide) v n xs hown a m c cs hx.len (hx.at_ a rfl) hx.one (by unfold maxLen; omega) (by omega) hB
    exact ⟨v', w', h1, h2, h3⟩
theorem step_partPairs (w : World) {ops : Array Oper} {o : Oper} {a : Act} {K : Act → World → Prop} {Q : Exit → Act → World → Prop} {E : Prop} (hgd : o.guard = none) (sl y : Operand)
    (ho : o.op = .call { callee := .builtin .append, args := #[sl, y], argTypes := #[24, 24] }) {B n : Nat} {v : Value} {xs : List Value} (hs : a.eval sl = v) (hown : w.ownsRow B 48 2 v n xs) {x : Part} (hy : a.eval y = .slice x.ao x.n x.c) (hx : PartOk w 2 x) (hb : n + x.n ≤ 1099511627776) (hB : B ≤ w.heap.size)
    (hk : ∀ ao c w', w'.ownsRow B 48 2 (.slice ao (n + x.n) c) (n + x.n) (xs ++ x.cells) → w.grownBy w' v.ownBlock → K (a.put o.dst (.slice ao (n + x.n) c)) w') :
    if Region.wanted o (yielded ops a.tmps) = true then Oper.wp Try.prog o a w K Q else E := by
  rw [if_pos (by simp [Region.wanted, hgd])]
  obtain ⟨v', w', hr, h2, h3⟩ := run_partPairs w o.type hown hx hb hB
  obtain ⟨ao, c, rfl⟩ := own_shape h2
  unfold Oper.wp execOp
  simp only [ho, resolve, invoke, builtin, Sem.run_bind, Sem.run_pure, Result.andThen_ok, List.map_toArray, List.map_cons, List.map_nil, hs, hy, hr]
  exact hk ao c w' h2 h3
theorem run_partTexts (w : World) (ty : TypeId) {B n : Nat} {v : Value} {xs : List Value} (hown : w.ownsRow B 9 1 v n xs) {x : Part} (hx : PartOk w 1 x) (hb : n + x.n ≤ 1099511627776) (hB : B ≤ w.heap.size) :
    ∃ v' w', (Builtin.append_ #[25, 25] ty #[v, .slice x.ao x.n x.c]).run Try.prog w = .ok v' w' ∧ w'.ownsRow B 9 1 v' (n + x.n) (xs ++ x.cells) ∧ w.grownBy w' v.ownBlock := by
  obtain ⟨i0, hi, hz0, hz1, hz2⟩ := info_parts Try.infStr
  obtain ⟨ao, m, c, cs⟩ := x
  cases ao with
  | none =>
    obtain ⟨e1, e2⟩ := hx.none rfl
    have e3 := hx.len
    simp only at e1 e2 e3
    subst e1 e2
    have e4 : cs = [] := List.eq_nil_of_length_eq_zero (by omega)
    subst e4
    refine ⟨v, w, run_append_owned_none (P := Try.prog) (w := w) B 25 ty 9 i0 1 Try.underlying25 hi v n xs hown, ?_, ⟨rfl, rfl, rfl, Nat.le_refl _, fun _ _ _ => rfl⟩⟩
    rw [List.append_nil]; exact hown
  | some a =>
    simp only at hb
    obtain ⟨v', w', h1, h2, h3, _⟩ := run_append_own (P := Try.prog) w B 25 ty 9 i0 (.string ⟨#[]⟩) 1 16 Try.underlying25 hi hz0 hz1 hz2 rfl (by decide) v n xs hown a m c cs hx.len (hx.at_ a rfl) hx.one (by unfold maxLen; omega) (by omega) hB
    exact ⟨v', w', h1, h2, h3⟩
theorem step_partTexts (w : World) {ops : Array Oper} {o : Oper} {a : Act} {K : Act → World → Prop} {Q : Exit → Act → World → Prop} {E : Prop} (hgd : o.guard = none) (sl y : Operand)
    (ho : o.op = .call { callee := .builtin .append, args := #[sl, y], argTypes := #[25, 25] }) {B n : Nat} {v : Value} {xs : List Value} (hs : a.eval sl = v) (hown : w.ownsRow B 9 1 v n xs) {x : Part} (hy : a.eval y = .slice x.ao x.n x.c) (hx : PartOk w 1 x) (hb : n + x.n ≤ 1099511627776) (hB : B ≤ w.heap.size)
    (hk : ∀ ao c w', w'.ownsRow B 9 1 (.slice ao (n + x.n) c) (n + x.n) (xs ++ x.cells) → w.grownBy w' v.ownBlock → K (a.put o.dst (.slice ao (n + x.n) c)) w') :
    if Region.wanted o (yielded ops a.tmps) = true then Oper.wp Try.prog o a w K Q else E := by
  rw [if_pos (by simp [Region.wanted, hgd])]
  obtain ⟨v', w', hr, h2, h3⟩ := run_partTexts w o.type hown hx hb hB
  obtain ⟨ao, c, rfl⟩ := own_shape h2
  unfold Oper.wp execOp
  simp only [ho, resolve, invoke, builtin, Sem.run_bind, Sem.run_pure, Result.andThen_ok, List.map_toArray, List.map_cons, List.map_nil, hs, hy, hr]
  exact hk ao c w' h2 h3
theorem run_partKids (w : World) (ty : TypeId) {B n : Nat} {v : Value} {xs : List Value} (hown : w.ownsRow B 59 33 v n xs) {x : Part} (hx : PartOk w 33 x) (hb : n + x.n ≤ 1099511627776) (hB : B ≤ w.heap.size) :
    ∃ v' w', (Builtin.append_ #[26, 26] ty #[v, .slice x.ao x.n x.c]).run Try.prog w = .ok v' w' ∧ w'.ownsRow B 59 33 v' (n + x.n) (xs ++ x.cells) ∧ w.grownBy w' v.ownBlock := by
  obtain ⟨i0, hi, hz0, hz1, hz2⟩ := info_parts Try.infKid
  obtain ⟨ao, m, c, cs⟩ := x
  cases ao with
  | none =>
    obtain ⟨e1, e2⟩ := hx.none rfl
    have e3 := hx.len
    simp only at e1 e2 e3
    subst e1 e2
    have e4 : cs = [] := List.eq_nil_of_length_eq_zero (by omega)
    subst e4
    refine ⟨v, w, run_append_owned_none (P := Try.prog) (w := w) B 26 ty 59 i0 33 Try.underlying26 hi v n xs hown, ?_, ⟨rfl, rfl, rfl, Nat.le_refl _, fun _ _ _ => rfl⟩⟩
    rw [List.append_nil]; exact hown
  | some a =>
    simp only at hb
    obtain ⟨v', w', h1, h2, h3, _⟩ := run_append_own (P := Try.prog) w B 26 ty 59 i0 (kidV zeroKid) 33 36 Try.underlying26 hi hz0 hz1 hz2 rfl (by decide) v n xs hown a m c cs hx.len (hx.at_ a rfl) hx.one (by unfold maxLen; omega) (by omega) hB
    exact ⟨v', w', h1, h2, h3⟩
theorem step_partKids (w : World) {ops : Array Oper} {o : Oper} {a : Act} {K : Act → World → Prop} {Q : Exit → Act → World → Prop} {E : Prop} (hgd : o.guard = none) (sl y : Operand)
    (ho : o.op = .call { callee := .builtin .append, args := #[sl, y], argTypes := #[26, 26] }) {B n : Nat} {v : Value} {xs : List Value} (hs : a.eval sl = v) (hown : w.ownsRow B 59 33 v n xs) {x : Part} (hy : a.eval y = .slice x.ao x.n x.c) (hx : PartOk w 33 x) (hb : n + x.n ≤ 1099511627776) (hB : B ≤ w.heap.size)
    (hk : ∀ ao c w', w'.ownsRow B 59 33 (.slice ao (n + x.n) c) (n + x.n) (xs ++ x.cells) → w.grownBy w' v.ownBlock → K (a.put o.dst (.slice ao (n + x.n) c)) w') :
    if Region.wanted o (yielded ops a.tmps) = true then Oper.wp Try.prog o a w K Q else E := by
  rw [if_pos (by simp [Region.wanted, hgd])]
  obtain ⟨v', w', hr, h2, h3⟩ := run_partKids w o.type hown hx hb hB
  obtain ⟨ao, c, rfl⟩ := own_shape h2
  unfold Oper.wp execOp
  simp only [ho, resolve, invoke, builtin, Sem.run_bind, Sem.run_pure, Result.andThen_ok, List.map_toArray, List.map_cons, List.map_nil, hs, hy, hr]
  exact hk ao c w' h2 h3
theorem type_ne {w : World} {B g n : Nat} {e t : TypeId} {sz : Nat} {v : Value} {xs : List Value} {cs : Array Value} {fr : Nat × Nat} (h : w.ownsRow B e sz v n xs) (hg : w.heap[g]? = some (.cells cs t fr)) (hne : e ≠ t) : v.ownBlock ≠ some g := by
  obtain ⟨_, ⟨rfl, _⟩ | ⟨g', cap, cur, rfl, _, hh, _⟩⟩ := h
  · intro e; cases e
  · intro e
    simp only [Value.ownBlock, Option.some.injEq] at e
    subst e
    rw [hg] at hh
    cases hh
    exact hne rfl
theorem own_apart {w : World} {B B2 n m : Nat} {e t : TypeId} {sz sy : Nat} {v u : Value} {xs ys : List Value} (h : w.ownsRow B e sz v n xs) (k : w.ownsRow B2 t sy u m ys) (hne : e ≠ t) : ∀ g, v.ownBlock = some g → u.ownBlock ≠ some g := by
  intro g hg
  obtain ⟨_, ⟨rfl, _⟩ | ⟨g', cap, cur, rfl, _, hh, _⟩⟩ := h
  · cases hg
  · simp only [Value.ownBlock, Option.some.injEq] at hg
    subst hg
    exact type_ne k hh (fun e => hne e.symm)
/-- A node that came in: its rows, and its slices as they can be appended. -/
structure NdIn (w : World) (r : Nr) (N : Nd) : Prop where
  at_ : NdAt w r N
  pp : PartOk w 2 ⟨r.pa, N.ps.length, r.cp, pcells N.ps⟩
  sp : PartOk w 1 ⟨r.sa, N.ss.length, r.cs, scells N.ss⟩
  kp : PartOk w 33 ⟨r.ka, N.ks.length, r.ck, kcellsL N.ks⟩
theorem NdIn.same {w w' : World} {r : Nr} {N : Nd} (h : NdIn w r N) (s : Same w w') : NdIn w' r N := ⟨h.at_.same s, h.pp.same s, h.sp.same s, h.kp.same s⟩

set_option maxRecDepth 100000 in
set_option maxHeartbeats 1000000 in
theorem rcopy_calls {r : Nr} {N : Nd} (w : World) (h : NdIn w r N) (h1 : N.ps.length ≤ 1048576) (h2 : N.ss.length ≤ 1048576) (h3 : N.ks.length ≤ 1048576) : Calls Try.prog 15 #[ndV r N] w fun e w' => ∃ pa cp sa cs ka ck, e = .returned (nodeV pa N.ps.length cp sa N.ss.length cs ka N.ks.length ck) ∧ w'.ownsRow w.heap.size 48 2 (.slice pa N.ps.length cp) N.ps.length (pcells N.ps) ∧ w'.ownsRow w.heap.size 9 1 (.slice sa N.ss.length cs) N.ss.length (scells N.ss) ∧ w'.ownsRow w.heap.size 59 33 (.slice ka N.ks.length ck) N.ks.length (kcellsL N.ks) ∧ Same w w' := by
  obtain ⟨V, hV⟩ : ∃ V, V = (w.alloc (.cells #[.slice r.pa N.ps.length r.cp, .slice r.sa N.ss.length r.cs, .slice r.ka N.ks.length r.ck] 28)).alloc (.cells #[.slice none 0 0, .slice none 0 0, .slice none 0 0] 28) := ⟨_, rfl⟩
  have s0 : Same w V := by rw [hV]; exact ((Fr.refl _ w).alloc _).alloc _
  have r1 : V.heap[w.heap.size + 1]? = some (.cells #[.slice none 0 0, .slice none 0 0, .slice none 0 0] 28 (0, 0)) := by rw [hV]; exact heap_alloc2_new w _ _
  have n0 : V.cell? ⟨w.heap.size, 0, none⟩ = some (.slice r.pa N.ps.length r.cp) := by rw [hV]; simp
  have n1 : V.cell? ⟨w.heap.size, 1, none⟩ = some (.slice r.sa N.ss.length r.cs) := by rw [hV]; simp
  have n2 : V.cell? ⟨w.heap.size, 2, none⟩ = some (.slice r.ka N.ks.length r.ck) := by rw [hV]; simp
  have HZ : Hid (V.heap.size = w.heap.size + 2) := by show _ = _; rw [hV]; simp
  have HS : Hid (∀ W, Same V W → W.cell? ⟨w.heap.size, 0, none⟩ = some (.slice r.pa N.ps.length r.cp) ∧ W.cell? ⟨w.heap.size, 1, none⟩ = some (.slice r.sa N.ss.length r.cs) ∧ W.cell? ⟨w.heap.size, 2, none⟩ = some (.slice r.ka N.ks.length r.ck)) := fun W s => ⟨s.keep n0, s.keep n1, s.keep n2⟩
  have HG : Hid (∀ W, Same V W → W.heap[w.heap.size + 1]? = some (.cells #[.slice none 0 0, .slice none 0 0, .slice none 0 0] 28 (0, 0))) := fun W s => (s.block _ (lt_of_heap r1) (fun e => e)).trans r1
  have HI : Hid (∀ W, Same V W → NdIn W r N) := fun W s => h.same (s0.trans s)
  have HL : Hid (N.ps.length ≤ 1048576 ∧ N.ss.length ≤ 1048576 ∧ N.ks.length ≤ 1048576) := ⟨h1, h2, h3⟩
  have d0 : Same V V.drew := Fr.drew (Fr.refl _ V)
  clear h h1 h2 h3 r1 n0 n1 n2
  go_enter Try.func15, Try.ntmps15
  go_wp2_with fail
  rw [← hV]
  clear hV
  refine wp_region_held_drew (S := fun X => X.cell? ⟨w.heap.size, 0, none⟩ = some (.slice r.pa N.ps.length r.cp) ∧ X.cell? ⟨w.heap.size, 1, none⟩ = some (.slice r.sa N.ss.length r.cs) ∧ X.cell? ⟨w.heap.size, 2, none⟩ = some (.slice r.ka N.ks.length r.ck)) (by kernel_rfl) (HS.out _ d0) (fun hHeld => ?_)
  refine wpAnyH_take (i := 0) (oi := { dst := some 6, op := Op.move (Operand.tmp 3), type := 24, pos := "ref.go:276", after := #[], guard := none }) (v := .slice none 0 0) rfl (by kernel_rfl) (by kernel_rfl) (by kernel_rfl) (fun _ _ _ h => h) (Or.inl ⟨by rfl, fun w hSw => by (obtain ⟨q0, q1, q2⟩ := hSw; go_simp)⟩) (by assumption) ?_
  try simp only [Act.put, List.setIfInBounds_toArray, List.set_cons_zero, List.set_cons_succ]
  refine wpAnyH_take (i := 1) (oi := { dst := some 7, op := Op.fieldAddr 28 (Operand.tmp 1) 0, type := 0, pos := "ref.go:276", after := #[], guard := none }) (v := .pointer (some ⟨w.heap.size, 0, none⟩)) rfl (by kernel_rfl) (by kernel_rfl) (by kernel_rfl) (fun _ _ _ h => h) (Or.inl ⟨by rfl, fun w hSw => by (obtain ⟨q0, q1, q2⟩ := hSw; go_simp)⟩) (by assumption) ?_
  try simp only [Act.put, List.setIfInBounds_toArray, List.set_cons_zero, List.set_cons_succ]
  refine wpAnyH_take (i := 2) (oi := { dst := some 8, op := Op.load 24 (Operand.tmp 7), type := 24, pos := "ref.go:276", after := #[{ on := 1, ground := Ground.data }], guard := none }) (v := .slice r.pa N.ps.length r.cp) rfl (by kernel_rfl) (by kernel_rfl) (by kernel_rfl) (fun _ _ _ h => h) (Or.inl ⟨by rfl, fun w hSw => by (obtain ⟨q0, q1, q2⟩ := hSw; go_simp)⟩) (by assumption) ?_
  try simp only [Act.put, List.setIfInBounds_toArray, List.set_cons_zero, List.set_cons_succ]
  refine wpAnyH_take (i := 4) (oi := { dst := some 10, op := Op.move (Operand.tmp 4), type := 25, pos := "ref.go:276", after := #[], guard := none }) (v := .slice none 0 0) rfl (by kernel_rfl) (by kernel_rfl) (by kernel_rfl) (fun _ _ _ h => h) (Or.inl ⟨by rfl, fun w hSw => by (obtain ⟨q0, q1, q2⟩ := hSw; go_simp)⟩) (by assumption) ?_
  try simp only [Act.put, List.setIfInBounds_toArray, List.set_cons_zero, List.set_cons_succ]
  refine wpAnyH_take (i := 5) (oi := { dst := some 11, op := Op.fieldAddr 28 (Operand.tmp 1) 1, type := 0, pos := "ref.go:276", after := #[], guard := none }) (v := .pointer (some ⟨w.heap.size, 1, none⟩)) rfl (by kernel_rfl) (by kernel_rfl) (by kernel_rfl) (fun _ _ _ h => h) (Or.inl ⟨by rfl, fun w hSw => by (obtain ⟨q0, q1, q2⟩ := hSw; go_simp)⟩) (by assumption) ?_
  try simp only [Act.put, List.setIfInBounds_toArray, List.set_cons_zero, List.set_cons_succ]
  refine wpAnyH_take (i := 6) (oi := { dst := some 12, op := Op.load 25 (Operand.tmp 11), type := 25, pos := "ref.go:276", after := #[{ on := 5, ground := Ground.data }], guard := none }) (v := .slice r.sa N.ss.length r.cs) rfl (by kernel_rfl) (by kernel_rfl) (by kernel_rfl) (fun _ _ _ h => h) (Or.inl ⟨by rfl, fun w hSw => by (obtain ⟨q0, q1, q2⟩ := hSw; go_simp)⟩) (by assumption) ?_
  try simp only [Act.put, List.setIfInBounds_toArray, List.set_cons_zero, List.set_cons_succ]
  refine wpAnyH_take (i := 8) (oi := { dst := some 14, op := Op.move (Operand.tmp 5), type := 26, pos := "ref.go:276", after := #[], guard := none }) (v := .slice none 0 0) rfl (by kernel_rfl) (by kernel_rfl) (by kernel_rfl) (fun _ _ _ h => h) (Or.inl ⟨by rfl, fun w hSw => by (obtain ⟨q0, q1, q2⟩ := hSw; go_simp)⟩) (by assumption) ?_
  try simp only [Act.put, List.setIfInBounds_toArray, List.set_cons_zero, List.set_cons_succ]
  refine wpAnyH_take (i := 9) (oi := { dst := some 15, op := Op.fieldAddr 28 (Operand.tmp 1) 2, type := 0, pos := "ref.go:276", after := #[], guard := none }) (v := .pointer (some ⟨w.heap.size, 2, none⟩)) rfl (by kernel_rfl) (by kernel_rfl) (by kernel_rfl) (fun _ _ _ h => h) (Or.inl ⟨by rfl, fun w hSw => by (obtain ⟨q0, q1, q2⟩ := hSw; go_simp)⟩) (by assumption) ?_
  try simp only [Act.put, List.setIfInBounds_toArray, List.set_cons_zero, List.set_cons_succ]
  refine wpAnyH_take (i := 10) (oi := { dst := some 16, op := Op.load 26 (Operand.tmp 15), type := 26, pos := "ref.go:276", after := #[{ on := 9, ground := Ground.data }], guard := none }) (v := .slice r.ka N.ks.length r.ck) rfl (by kernel_rfl) (by kernel_rfl) (by kernel_rfl) (fun _ _ _ h => h) (Or.inl ⟨by rfl, fun w hSw => by (obtain ⟨q0, q1, q2⟩ := hSw; go_simp)⟩) (by assumption) ?_
  try simp only [Act.put, List.setIfInBounds_toArray, List.set_cons_zero, List.set_cons_succ]
  refine wpAnyH_ready (rs := [3]) (by kernel_rfl) (by simp) ?_
  refine AllReadyH.cons (o := { dst := some 9, op := Op.call { callee := Callee.builtin Builtin.append, args := #[Operand.tmp 6, Operand.tmp 8], argTypes := #[24, 24] }, type := 24, pos := "ref.go:276", after := #[{ on := 0, ground := Ground.data }, { on := 2, ground := Ground.data }], guard := none }) rfl (fun K hK => ?_) AllReadyH.nil
  refine step_partPairs (B := w.heap.size) _ rfl _ _ rfl (by rfl) own_nil (x := ⟨r.pa, N.ps.length, r.cp, pcells N.ps⟩) (by rfl) (HI.out _ d0).pp (by have := HL.out; simp only; omega) (by have := HZ.out; have := d0.size; omega) ?_
  simp only [Nat.zero_add, List.nil_append]
  intro ao1 c1 W1 o1 g1
  have d1 : Same V W1 := Fr.grown d0 g1 (fun k hk => by cases hk)
  have e1 : Same V.drew W1 := Fr.grown (Fr.refl _ _) g1 (fun k hk => by cases hk)
  refine hK.out _ _ (HS.out _ d1) (fun hHeld => ?_)
  clear hK K
  try simp only [Act.put, List.setIfInBounds_toArray, List.set_cons_zero, List.set_cons_succ]
  refine wpAnyH_ready (rs := [7]) (by kernel_rfl) (by simp) ?_
  refine AllReadyH.cons (o := { dst := some 13, op := Op.call { callee := Callee.builtin Builtin.append, args := #[Operand.tmp 10, Operand.tmp 12], argTypes := #[25, 25] }, type := 25, pos := "ref.go:276", after := #[{ on := 4, ground := Ground.data }, { on := 6, ground := Ground.data }, { on := 3, ground := Ground.chain }], guard := none }) rfl (fun K hK => ?_) AllReadyH.nil
  refine step_partTexts (B := w.heap.size) _ rfl _ _ rfl (by rfl) own_nil (x := ⟨r.sa, N.ss.length, r.cs, scells N.ss⟩) (by rfl) (HI.out _ d1).sp (by have := HL.out; simp only; omega) (by have := HZ.out; have := d1.size; omega) ?_
  simp only [Nat.zero_add, List.nil_append]
  intro ao2 c2 W2 o2 g2
  have d2 : Same V W2 := Fr.grown d1 g2 (fun k hk => by cases hk)
  have e2 : Same W1 W2 := Fr.grown (Fr.refl _ _) g2 (fun k hk => by cases hk)
  refine hK.out _ _ (HS.out _ d2) (fun hHeld => ?_)
  clear hK K
  try simp only [Act.put, List.setIfInBounds_toArray, List.set_cons_zero, List.set_cons_succ]
  refine wpAnyH_ready (rs := [11]) (by kernel_rfl) (by simp) ?_
  refine AllReadyH.cons (o := { dst := some 17, op := Op.call { callee := Callee.builtin Builtin.append, args := #[Operand.tmp 14, Operand.tmp 16], argTypes := #[26, 26] }, type := 26, pos := "ref.go:276", after := #[{ on := 8, ground := Ground.data }, { on := 10, ground := Ground.data }, { on := 7, ground := Ground.chain }], guard := none }) rfl (fun K hK => ?_) AllReadyH.nil
  refine step_partKids (B := w.heap.size) _ rfl _ _ rfl (by rfl) own_nil (x := ⟨r.ka, N.ks.length, r.ck, kcellsL N.ks⟩) (by rfl) (HI.out _ d2).kp (by have := HL.out; simp only; omega) (by have := HZ.out; have := d2.size; omega) ?_
  simp only [Nat.zero_add, List.nil_append]
  intro ao3 c3 W3 o3 g3
  have d3 : Same V W3 := Fr.grown d2 g3 (fun k hk => by cases hk)
  have e3 : Same W2 W3 := Fr.grown (Fr.refl _ _) g3 (fun k hk => by cases hk)
  refine hK.out _ _ (HS.out _ d3) (fun hHeld => ?_)
  clear hK K
  try simp only [Act.put, List.setIfInBounds_toArray, List.set_cons_zero, List.set_cons_succ]
  refine wpAnyH_take (i := 12) (oi := { dst := some 18, op := Op.build 28 #[(0, Operand.tmp 9), (1, Operand.tmp 13), (2, Operand.tmp 17)], type := 28, pos := "ref.go:276", after := #[{ on := 3, ground := Ground.data }, { on := 7, ground := Ground.data }, { on := 11, ground := Ground.data }], guard := none }) (v := .agg #[.slice ao1 N.ps.length c1, .slice ao2 N.ss.length c2, .slice ao3 N.ks.length c3]) rfl (by kernel_rfl) (by kernel_rfl) (by kernel_rfl) (fun _ _ _ h => h) (Or.inl ⟨by rfl, fun w hSw => by (obtain ⟨q0, q1, q2⟩ := hSw; go_simp)⟩) (by assumption) ?_
  try simp only [Act.put, List.setIfInBounds_toArray, List.set_cons_zero, List.set_cons_succ]
  have r6 := HG.out _ d3
  refine wpAnyH_ready (rs := [13]) (by kernel_rfl) (by simp) ?_
  refine AllReadyH.cons (o := { dst := none, op := Op.store 28 (Operand.tmp 2) (Operand.tmp 18), type := 0, pos := "ref.go:276", after := #[{ on := 12, ground := Ground.data }, { on := 11, ground := Ground.chain }, { on := 0, ground := Ground.phase }, { on := 1, ground := Ground.phase }, { on := 2, ground := Ground.phase }, { on := 3, ground := Ground.phase }, { on := 4, ground := Ground.phase }, { on := 5, ground := Ground.phase }, { on := 6, ground := Ground.phase }, { on := 7, ground := Ground.phase }, { on := 8, ground := Ground.phase }, { on := 9, ground := Ground.phase }, { on := 10, ground := Ground.phase }, { on := 11, ground := Ground.phase }, { on := 12, ground := Ground.phase }], guard := none }) rfl (fun K hK => ?_) AllReadyH.nil
  refine step_store_whole rfl 28 _ _ rfl (w.heap.size + 1) #[.slice ao1 N.ps.length c1, .slice ao2 N.ss.length c2, .slice ao3 N.ks.length c3] _ 28 (by rfl) (by rfl) r6 rfl (by kernel_rfl) (by kernel_rfl) ?_
  intro W7 r7 f7
  obtain ⟨q0, q1, q2⟩ := HS.out _ d3
  refine hK.out _ _ ⟨(f7.cell (World.block_lt_of_cell? _ _ q0) (by simp)).trans q0, (f7.cell (World.block_lt_of_cell? _ _ q1) (by simp)).trans q1, (f7.cell (World.block_lt_of_cell? _ _ q2) (by simp)).trans q2⟩ (fun hHeld => ?_)
  clear hK K
  refine wpAnyH_done (by kernel_rfl) ?_ _
  go_wp2_with fail
  have hz := HZ.out
  have z0 := s0.size
  have t1 := type_ne (own_frameB (own_frameB o1 e2 (fun _ _ f => f)) e3 (fun _ _ f => f)) r6 (by decide)
  have t2 := type_ne (own_frameB o2 e3 (fun _ _ f => f)) r6 (by decide)
  have t3 := type_ne o3 r6 (by decide)
  have p1 := own_frameB (own_frameB (own_frameB o1 e2 (fun _ _ f => f)) e3 (fun _ _ f => f)) f7 (fun k hk e => t1 (by rw [hk, e]))
  have p2 := own_frameB (own_frameB o2 e3 (fun _ _ f => f)) f7 (fun k hk e => t2 (by rw [hk, e]))
  have p3 := own_frameB o3 f7 (fun k hk e => t3 (by rw [hk, e]))
  exact bodyPost_ret (results_row_one (p := 2) (ty := 28) (by kernel_rfl) _ _ (w.heap.size + 1) 28 _ (0, 0) _ rfl r7 Try.underlying28 rfl (by kernel_rfl)) rfl ⟨ao1, c1, ao2, c2, ao3, c3, rfl, p1, p2, p3, Fr.trans (s0.trans d3) f7 (fun i hi e => by omega)⟩
end Go.Proofs.Ytmgkdnejjemfeaa
