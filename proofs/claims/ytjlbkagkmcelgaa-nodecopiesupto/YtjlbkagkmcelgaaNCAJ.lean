/- Picked: KP, ZA, KV. -/
import Derived.Test.YtjlbkagkmcelgaaNT
import Derived.Test.YtjlbkagkmcelgaaNP
import Derived.Test.YtjlbkagkmcelgaaNSAJ
import Derived.WalkKit
import Derived.WalkSpells
import Derived.WalkLawsBesides
import Derived.Deep.AppendLies
import Derived.Lib.AppendStr
import Derived.Laws.IdiomStrings
import Derived.Test.YtjlbkagkmcelgaaProg
import Derived.Deep.LoopGhost
import Derived.Laws.Rows
import Derived.Deep.MidRow
import Derived.Deep.DeepMust
import Derived.Handy
import Derived.Laws.BitsAllLaws
import Derived.Deep.RegionLaw
import Derived.Deep.DrawnRows
import Derived.Lib.Strings
import Derived.Deep.QuietTactic
import Derived.BigQuiet
import Derived.Laws.ResultCell
import Derived.Laws.CopyOwn
import Derived.ChangeKeysEq
import Derived.BigFrame
import Derived.Deep.RegionHeld3
import Derived.Laws.DeepNot64
import Derived.Lib.LazyBuf
import Derived.Deep.OwnRows
import Derived.Laws.AppendOwn
import Derived.Lib.AppendZerosOnto
import Derived.Laws.AppendOwnNone
import Derived.Shelf.Spec.SlicesGrow
import Derived.Lib.Bytealg
import Derived.WalkMore
import Derived.OwnWalk
import Derived.Lib.BitFns
import Derived.Lib.Small
import Derived.Deep.RegionHeld
import Derived.Test.YtjlbkagkmcelgaaChecked
import Derived.ProofKit
import Derived.Test.YtjlbkagkmcelgaaRows
import Derived.OpenShut
import Derived.SliceStrings
import Derived.JoinedCond
import Derived.Deep.Slices
import Derived.RegionTactic
import Derived.Deep.RegionWith
import Derived.Laws.Concat
import Derived.RangeFuncNested
import Derived.RangeFuncBound
import Derived.RangeFuncCalls
import Derived.RangeFuncLeaves
import Derived.Shelf.Abstract
import Derived.Shelf.RegionOpen
import Derived.OwnWalkIn
import Derived.TacticsInMore
import Derived.LoopNIn
import Derived.LoopIn
import Derived.Deep.Strs
import Derived.Lib.SmallJoins
import Derived.Lib.AppendZeros
import Derived.Maps.Own
import Derived.Maps.OwnOps
import Derived.Maps.OwnSet
import Derived.RangeFuncSeq
import Derived.Sort.MapsRangeIn
import Derived.Lib.FrozenHead
namespace Go.Proofs.Ytjlbkagkmcelgaa
open Go.RowKit

theorem PRow.take {W : World} {pa : Option Addr} {pb po : Nat} {ps : List (ByteArray × ByteArray)} (h : PRow W pa pb po ps) (m : Nat) : PRow W pa pb po (ps.take m) := by
  refine ⟨fun e => h.place (by intro e2; rw [e2] at e; simp at e), fun j x hx => h.cells j x ?_⟩
  rw [List.getElem?_take] at hx
  split at hx
  · exact hx
  · cases hx

/-- A slice that is handed in: where it lies, how long it is, its cells. -/
structure Part where
  ao : Option Addr
  n : Nat
  c : Nat
  cells : List Value
structure PartOk (w : World) (sz : Nat) (x : Part) : Prop where
  len : x.cells.length = x.n * sz
  none : x.ao = none → x.n = 0 ∧ x.c = 0
  at_ : ∀ a, x.ao = some a → ∀ j u, x.cells[j]? = some u → w.cell? (a.add j) = some u
  one : ∀ u ∈ x.cells, u.oneCell' = true
theorem PartOk.same {w w' : World} {sz : Nat} {x : Part} (h : PartOk w sz x) (s : Same w w') : PartOk w' sz x := ⟨h.len, h.none, fun a ha j u hj => s.keep (h.at_ a ha j u hj), h.one⟩
theorem prow_part {w : World} {pa : Option Addr} {pb po cp : Nat} {ps : List (ByteArray × ByteArray)} (h : PRow w pa pb po ps) (hc : pa = none → cp = 0) : PartOk w 2 ⟨pa, ps.length, cp, pcells ps⟩ := by
  refine ⟨flat_length (fun x : ByteArray × ByteArray => [Value.string x.1, Value.string x.2]) 2 ps (fun _ _ => rfl), fun e => ?_, fun a ha j u hj => ?_, pcells_one ps⟩
  · simp only at e
    refine ⟨?_, hc e⟩
    show ps.length = 0
    have : ps = [] := Classical.byContradiction fun e2 => by have := (h.place e2).1; rw [e] at this; cases this
    rw [this]; rfl
  · obtain ⟨e, _⟩ := h.place (by intro e; simp only at hj; rw [e] at hj; simp [pcells] at hj)
    simp only at ha
    rw [e] at ha
    cases ha
    rw [WideShapes.add_plain]; exact prow_news h j u hj
theorem results_row_one {P : Program} {fn : Func} {p : Tmp} {ty : TypeId} (h : fn.results = #[.cell p ty]) (tmps : Array Value) (w : World) (g : Nat) (t : TypeId) (cs : Array Value) (fr : Nat × Nat) (d : TypeDesc)
    (hp : tmps.getD p undef = .pointer (some ⟨g, 0, none⟩)) (hg : w.heap[g]? = some (.cells cs t fr))
    (hu : P.underlying ty = some d) (hd : (match d with | .struct _ | .array _ _ => true | _ => false) = true) (hi : (P.info? ty).map (·.size) = some cs.size) :
    (results fn tmps).run P w = .ok (.agg cs) w := by
  have hp' : tmps[p]?.getD undef = .pointer (some ⟨g, 0, none⟩) := by simpa using hp
  simp [results, h, hp', asAddr, run_loadVar_row w g t ty cs fr d hg hu hd hi]
theorem run_partPairs (w : World) (ty : TypeId) {B n : Nat} {v : Value} {xs : List Value} (hown : w.ownsRow B 33 2 v n xs) {x : Part} (hx : PartOk w 2 x) (hb : n + x.n ≤ 1099511627776) (hB : B ≤ w.heap.size) :
    ∃ v' w', (Builtin.append_ #[22, 22] ty #[v, .slice x.ao x.n x.c]).run Try.prog w = .ok v' w' ∧ w'.ownsRow B 33 2 v' (n + x.n) (xs ++ x.cells) ∧ w.grownBy w' v.ownBlock := by
  obtain ⟨i0, hi, hz0, hz1, hz2⟩ := info_parts Try.infPair
  obtain ⟨ao, m, c, cs⟩ := x
  cases ao with
  | none =>
    obtain ⟨e1, e2⟩ := hx.none rfl
    have e3 := hx.len
    simp only at e1 e2 e3
    subst e1 e2
    have e4 : cs = [] := List.eq_nil_of_length_eq_zero (by omega)
    subst e4
    refine ⟨v, w, run_append_owned_none (P := Try.prog) (w := w) B 22 ty 33 i0 2 Try.underlying22 hi v n xs hown, ?_, ⟨rfl, rfl, rfl, Nat.le_refl _, fun _ _ _ => rfl⟩⟩
    rw [List.append_nil]; exact hown
  | some a =>
    simp only at hb
    obtain ⟨v', w', h1, h2, h3, _⟩ := run_append_own (P := Try.prog) w B 22 ty 33 i0 (.agg #[.string ⟨#[]⟩, .string ⟨#[]⟩]) 2 32 Try.underlying22 hi hz0 hz1 hz2 rfl (by decide) v n xs hown a m c cs hx.len (hx.at_ a rfl) hx.one (by unfold maxLen; omega) (by omega) hB
    exact ⟨v', w', h1, h2, h3⟩
theorem step_partPairs (w : World) {ops : Array Oper} {o : Oper} {a : Act} {K : Act → World → Prop} {Q : Exit → Act → World → Prop} {E : Prop} (hgd : o.guard = none) (sl y : Operand)
    (ho : o.op = .call { callee := .builtin .append, args := #[sl, y], argTypes := #[22, 22] }) {B n : Nat} {v : Value} {xs : List Value} (hs : a.eval sl = v) (hown : w.ownsRow B 33 2 v n xs) {x : Part} (hy : a.eval y = .slice x.ao x.n x.c) (hx : PartOk w 2 x) (hb : n + x.n ≤ 1099511627776) (hB : B ≤ w.heap.size)
    (hk : ∀ ao c w', w'.ownsRow B 33 2 (.slice ao (n + x.n) c) (n + x.n) (xs ++ x.cells) → w.grownBy w' v.ownBlock → K (a.put o.dst (.slice ao (n + x.n) c)) w') :
    if Region.wanted o (yielded ops a.tmps) = true then Oper.wp Try.prog o a w K Q else E := by
  rw [if_pos (by simp [Region.wanted, hgd])]
  obtain ⟨v', w', hr, h2, h3⟩ := run_partPairs w o.type hown hx hb hB
  obtain ⟨ao, c, rfl⟩ := own_shape h2
  unfold Oper.wp execOp
  simp only [ho, resolve, invoke, builtin, Sem.run_bind, Sem.run_pure, Result.andThen_ok, List.map_toArray, List.map_cons, List.map_nil, hs, hy, hr]
  exact hk ao c w' h2 h3
theorem run_partTexts (w : World) (ty : TypeId) {B n : Nat} {v : Value} {xs : List Value} (hown : w.ownsRow B 9 1 v n xs) {x : Part} (hx : PartOk w 1 x) (hb : n + x.n ≤ 1099511627776) (hB : B ≤ w.heap.size) :
    ∃ v' w', (Builtin.append_ #[23, 23] ty #[v, .slice x.ao x.n x.c]).run Try.prog w = .ok v' w' ∧ w'.ownsRow B 9 1 v' (n + x.n) (xs ++ x.cells) ∧ w.grownBy w' v.ownBlock := by
  obtain ⟨i0, hi, hz0, hz1, hz2⟩ := info_parts Try.infStr
  obtain ⟨ao, m, c, cs⟩ := x
  cases ao with
  | none =>
    obtain ⟨e1, e2⟩ := hx.none rfl
    have e3 := hx.len
    simp only at e1 e2 e3
    subst e1 e2
    have e4 : cs = [] := List.eq_nil_of_length_eq_zero (by omega)
    subst e4
    refine ⟨v, w, run_append_owned_none (P := Try.prog) (w := w) B 23 ty 9 i0 1 Try.underlying23 hi v n xs hown, ?_, ⟨rfl, rfl, rfl, Nat.le_refl _, fun _ _ _ => rfl⟩⟩
    rw [List.append_nil]; exact hown
  | some a =>
    simp only at hb
    obtain ⟨v', w', h1, h2, h3, _⟩ := run_append_own (P := Try.prog) w B 23 ty 9 i0 (.string ⟨#[]⟩) 1 16 Try.underlying23 hi hz0 hz1 hz2 rfl (by decide) v n xs hown a m c cs hx.len (hx.at_ a rfl) hx.one (by unfold maxLen; omega) (by omega) hB
    exact ⟨v', w', h1, h2, h3⟩
theorem step_partTexts (w : World) {ops : Array Oper} {o : Oper} {a : Act} {K : Act → World → Prop} {Q : Exit → Act → World → Prop} {E : Prop} (hgd : o.guard = none) (sl y : Operand)
    (ho : o.op = .call { callee := .builtin .append, args := #[sl, y], argTypes := #[23, 23] }) {B n : Nat} {v : Value} {xs : List Value} (hs : a.eval sl = v) (hown : w.ownsRow B 9 1 v n xs) {x : Part} (hy : a.eval y = .slice x.ao x.n x.c) (hx : PartOk w 1 x) (hb : n + x.n ≤ 1099511627776) (hB : B ≤ w.heap.size)
    (hk : ∀ ao c w', w'.ownsRow B 9 1 (.slice ao (n + x.n) c) (n + x.n) (xs ++ x.cells) → w.grownBy w' v.ownBlock → K (a.put o.dst (.slice ao (n + x.n) c)) w') :
    if Region.wanted o (yielded ops a.tmps) = true then Oper.wp Try.prog o a w K Q else E := by
  rw [if_pos (by simp [Region.wanted, hgd])]
  obtain ⟨v', w', hr, h2, h3⟩ := run_partTexts w o.type hown hx hb hB
  obtain ⟨ao, c, rfl⟩ := own_shape h2
  unfold Oper.wp execOp
  simp only [ho, resolve, invoke, builtin, Sem.run_bind, Sem.run_pure, Result.andThen_ok, List.map_toArray, List.map_cons, List.map_nil, hs, hy, hr]
  exact hk ao c w' h2 h3
theorem run_partKids (w : World) (ty : TypeId) {B n : Nat} {v : Value} {xs : List Value} (hown : w.ownsRow B 37 33 v n xs) {x : Part} (hx : PartOk w 33 x) (hb : n + x.n ≤ 1099511627776) (hB : B ≤ w.heap.size) :
    ∃ v' w', (Builtin.append_ #[24, 24] ty #[v, .slice x.ao x.n x.c]).run Try.prog w = .ok v' w' ∧ w'.ownsRow B 37 33 v' (n + x.n) (xs ++ x.cells) ∧ w.grownBy w' v.ownBlock := by
  obtain ⟨i0, hi, hz0, hz1, hz2⟩ := info_parts Try.infKid
  obtain ⟨ao, m, c, cs⟩ := x
  cases ao with
  | none =>
    obtain ⟨e1, e2⟩ := hx.none rfl
    have e3 := hx.len
    simp only at e1 e2 e3
    subst e1 e2
    have e4 : cs = [] := List.eq_nil_of_length_eq_zero (by omega)
    subst e4
    refine ⟨v, w, run_append_owned_none (P := Try.prog) (w := w) B 24 ty 37 i0 33 Try.underlying24 hi v n xs hown, ?_, ⟨rfl, rfl, rfl, Nat.le_refl _, fun _ _ _ => rfl⟩⟩
    rw [List.append_nil]; exact hown
  | some a =>
    simp only at hb
    obtain ⟨v', w', h1, h2, h3, _⟩ := run_append_own (P := Try.prog) w B 24 ty 37 i0 (kidV zeroKid) 33 36 Try.underlying24 hi hz0 hz1 hz2 rfl (by decide) v n xs hown a m c cs hx.len (hx.at_ a rfl) hx.one (by unfold maxLen; omega) (by omega) hB
    exact ⟨v', w', h1, h2, h3⟩
theorem step_partKids (w : World) {ops : Array Oper} {o : Oper} {a : Act} {K : Act → World → Prop} {Q : Exit → Act → World → Prop} {E : Prop} (hgd : o.guard = none) (sl y : Operand)
    (ho : o.op = .call { callee := .builtin .append, args := #[sl, y], argTypes := #[24, 24] }) {B n : Nat} {v : Value} {xs : List Value} (hs : a.eval sl = v) (hown : w.ownsRow B 37 33 v n xs) {x : Part} (hy : a.eval y = .slice x.ao x.n x.c) (hx : PartOk w 33 x) (hb : n + x.n ≤ 1099511627776) (hB : B ≤ w.heap.size)
    (hk : ∀ ao c w', w'.ownsRow B 37 33 (.slice ao (n + x.n) c) (n + x.n) (xs ++ x.cells) → w.grownBy w' v.ownBlock → K (a.put o.dst (.slice ao (n + x.n) c)) w') :
    if Region.wanted o (yielded ops a.tmps) = true then Oper.wp Try.prog o a w K Q else E := by
  rw [if_pos (by simp [Region.wanted, hgd])]
  obtain ⟨v', w', hr, h2, h3⟩ := run_partKids w o.type hown hx hb hB
  obtain ⟨ao, c, rfl⟩ := own_shape h2
  unfold Oper.wp execOp
  simp only [ho, resolve, invoke, builtin, Sem.run_bind, Sem.run_pure, Result.andThen_ok, List.map_toArray, List.map_cons, List.map_nil, hs, hy, hr]
  exact hk ao c w' h2 h3
theorem type_ne {w : World} {B g n : Nat} {e t : TypeId} {sz : Nat} {v : Value} {xs : List Value} {cs : Array Value} {fr : Nat × Nat} (h : w.ownsRow B e sz v n xs) (hg : w.heap[g]? = some (.cells cs t fr)) (hne : e ≠ t) : v.ownBlock ≠ some g := by
  obtain ⟨_, ⟨rfl, _⟩ | ⟨g', cap, cur, rfl, _, hh, _⟩⟩ := h
  · intro e; cases e
  · intro e
    simp only [Value.ownBlock, Option.some.injEq] at e
    subst e
    rw [hg] at hh
    cases hh
    exact hne rfl
/-- A node that came in: its rows, and its slices as they can be appended. -/
structure NdIn (w : World) (r : Nr) (N : Nd) : Prop where
  at_ : NdAt w r N
  pp : PartOk w 2 ⟨r.pa, N.ps.length, r.cp, pcells N.ps⟩
  sp : PartOk w 1 ⟨r.sa, N.ss.length, r.cs, scells N.ss⟩
  kp : PartOk w 33 ⟨r.ka, N.ks.length, r.ck, kcellsL N.ks⟩
theorem NdIn.same {w w' : World} {r : Nr} {N : Nd} (h : NdIn w r N) (s : Same w w') : NdIn w' r N := ⟨h.at_.same s, h.pp.same s, h.sp.same s, h.kp.same s⟩

set_option maxRecDepth 100000 in
set_option maxHeartbeats 1000000 in
theorem rcopy_calls {r : Nr} {N : Nd} (w : World) (h : NdIn w r N) (h1 : N.ps.length ≤ 1048576) (h2 : N.ss.length ≤ 1048576) (h3 : N.ks.length ≤ 1048576) : Calls Try.prog 12 #[ndV r N] w fun e w' => ∃ pa cp sa cs ka ck, e = .returned (nodeV pa N.ps.length cp sa N.ss.length cs ka N.ks.length ck) ∧ w'.ownsRow w.heap.size 33 2 (.slice pa N.ps.length cp) N.ps.length (pcells N.ps) ∧ w'.ownsRow w.heap.size 9 1 (.slice sa N.ss.length cs) N.ss.length (scells N.ss) ∧ w'.ownsRow w.heap.size 37 33 (.slice ka N.ks.length ck) N.ks.length (kcellsL N.ks) ∧ Same w w' := by
  obtain ⟨V, hV⟩ : ∃ V, V = (w.alloc (.cells #[.slice r.pa N.ps.length r.cp, .slice r.sa N.ss.length r.cs, .slice r.ka N.ks.length r.ck] 26)).alloc (.cells #[.slice none 0 0, .slice none 0 0, .slice none 0 0] 26) := ⟨_, rfl⟩
  have s0 : Same w V := by rw [hV]; exact ((Fr.refl _ w).alloc _).alloc _
  have r1 : V.heap[w.heap.size + 1]? = some (.cells #[.slice none 0 0, .slice none 0 0, .slice none 0 0] 26 (0, 0)) := by rw [hV]; exact heap_alloc2_new w _ _
  have n0 : V.cell? ⟨w.heap.size, 0, none⟩ = some (.slice r.pa N.ps.length r.cp) := by rw [hV]; simp
  have n1 : V.cell? ⟨w.heap.size, 1, none⟩ = some (.slice r.sa N.ss.length r.cs) := by rw [hV]; simp
  have n2 : V.cell? ⟨w.heap.size, 2, none⟩ = some (.slice r.ka N.ks.length r.ck) := by rw [hV]; simp
  have HZ : Hid (V.heap.size = w.heap.size + 2) := by show _ = _; rw [hV]; simp
  have HS : Hid (∀ W, Same V W → W.cell? ⟨w.heap.size, 0, none⟩ = some (.slice r.pa N.ps.length r.cp) ∧ W.cell? ⟨w.heap.size, 1, none⟩ = some (.slice r.sa N.ss.length r.cs) ∧ W.cell? ⟨w.heap.size, 2, none⟩ = some (.slice r.ka N.ks.length r.ck)) := fun W s => ⟨s.keep n0, s.keep n1, s.keep n2⟩
  have HG : Hid (∀ W, Same V W → W.heap[w.heap.size + 1]? = some (.cells #[.slice none 0 0, .slice none 0 0, .slice none 0 0] 26 (0, 0))) := fun W s => (s.block _ (lt_of_heap r1) (fun e => e)).trans r1
  have HI : Hid (∀ W, Same V W → NdIn W r N) := fun W s => h.same (s0.trans s)
  have HL : Hid (N.ps.length ≤ 1048576 ∧ N.ss.length ≤ 1048576 ∧ N.ks.length ≤ 1048576) := ⟨h1, h2, h3⟩
  have d0 : Same V V.drew := Fr.drew (Fr.refl _ V)
  clear h h1 h2 h3 r1 n0 n1 n2
  go_enter Try.func12, Try.ntmps12
  go_wp2_with fail
  rw [← hV]
  clear hV
  refine wp_region_held_drew (S := fun X => X.cell? ⟨w.heap.size, 0, none⟩ = some (.slice r.pa N.ps.length r.cp) ∧ X.cell? ⟨w.heap.size, 1, none⟩ = some (.slice r.sa N.ss.length r.cs) ∧ X.cell? ⟨w.heap.size, 2, none⟩ = some (.slice r.ka N.ks.length r.ck)) (by kernel_rfl) (HS.out _ d0) (fun hHeld => ?_)
  refine wpAnyH_take (i := 0) (oi := { dst := some 6, op := Op.move (Operand.tmp 3), type := 22, pos := "ref.go:276", after := #[], guard := none }) (v := .slice none 0 0) rfl (by kernel_rfl) (by kernel_rfl) (by kernel_rfl) (fun _ _ _ h => h) (Or.inl ⟨by rfl, fun w hSw => by (obtain ⟨q0, q1, q2⟩ := hSw; go_simp)⟩) (by assumption) ?_
  try simp only [Act.put, List.setIfInBounds_toArray, List.set_cons_zero, List.set_cons_succ]
  refine wpAnyH_take (i := 1) (oi := { dst := some 7, op := Op.fieldAddr 26 (Operand.tmp 1) 0, type := 0, pos := "ref.go:276", after := #[], guard := none }) (v := .pointer (some ⟨w.heap.size, 0, none⟩)) rfl (by kernel_rfl) (by kernel_rfl) (by kernel_rfl) (fun _ _ _ h => h) (Or.inl ⟨by rfl, fun w hSw => by (obtain ⟨q0, q1, q2⟩ := hSw; go_simp)⟩) (by assumption) ?_
  try simp only [Act.put, List.setIfInBounds_toArray, List.set_cons_zero, List.set_cons_succ]
  refine wpAnyH_take (i := 2) (oi := { dst := some 8, op := Op.load 22 (Operand.tmp 7), type := 22, pos := "ref.go:276", after := #[{ on := 1, ground := Ground.data }], guard := none }) (v := .slice r.pa N.ps.length r.cp) rfl (by kernel_rfl) (by kernel_rfl) (by kernel_rfl) (fun _ _ _ h => h) (Or.inl ⟨by rfl, fun w hSw => by (obtain ⟨q0, q1, q2⟩ := hSw; go_simp)⟩) (by assumption) ?_
  try simp only [Act.put, List.setIfInBounds_toArray, List.set_cons_zero, List.set_cons_succ]
  refine wpAnyH_take (i := 4) (oi := { dst := some 10, op := Op.move (Operand.tmp 4), type := 23, pos := "ref.go:276", after := #[], guard := none }) (v := .slice none 0 0) rfl (by kernel_rfl) (by kernel_rfl) (by kernel_rfl) (fun _ _ _ h => h) (Or.inl ⟨by rfl, fun w hSw => by (obtain ⟨q0, q1, q2⟩ := hSw; go_simp)⟩) (by assumption) ?_
  try simp only [Act.put, List.setIfInBounds_toArray, List.set_cons_zero, List.set_cons_succ]
  refine wpAnyH_take (i := 5) (oi := { dst := some 11, op := Op.fieldAddr 26 (Operand.tmp 1) 1, type := 0, pos := "ref.go:276", after := #[], guard := none }) (v := .pointer (some ⟨w.heap.size, 1, none⟩)) rfl (by kernel_rfl) (by kernel_rfl) (by kernel_rfl) (fun _ _ _ h => h) (Or.inl ⟨by rfl, fun w hSw => by (obtain ⟨q0, q1, q2⟩ := hSw; go_simp)⟩) (by assumption) ?_
  try simp only [Act.put, List.setIfInBounds_toArray, List.set_cons_zero, List.set_cons_succ]
  refine wpAnyH_take (i := 6) (oi := { dst := some 12, op := Op.load 23 (Operand.tmp 11), type := 23, pos := "ref.go:276", after := #[{ on := 5, ground := Ground.data }], guard := none }) (v := .slice r.sa N.ss.length r.cs) rfl (by kernel_rfl) (by kernel_rfl) (by kernel_rfl) (fun _ _ _ h => h) (Or.inl ⟨by rfl, fun w hSw => by (obtain ⟨q0, q1, q2⟩ := hSw; go_simp)⟩) (by assumption) ?_
  try simp only [Act.put, List.setIfInBounds_toArray, List.set_cons_zero, List.set_cons_succ]
  refine wpAnyH_take (i := 8) (oi := { dst := some 14, op := Op.move (Operand.tmp 5), type := 24, pos := "ref.go:276", after := #[], guard := none }) (v := .slice none 0 0) rfl (by kernel_rfl) (by kernel_rfl) (by kernel_rfl) (fun _ _ _ h => h) (Or.inl ⟨by rfl, fun w hSw => by (obtain ⟨q0, q1, q2⟩ := hSw; go_simp)⟩) (by assumption) ?_
  try simp only [Act.put, List.setIfInBounds_toArray, List.set_cons_zero, List.set_cons_succ]
  refine wpAnyH_take (i := 9) (oi := { dst := some 15, op := Op.fieldAddr 26 (Operand.tmp 1) 2, type := 0, pos := "ref.go:276", after := #[], guard := none }) (v := .pointer (some ⟨w.heap.size, 2, none⟩)) rfl (by kernel_rfl) (by kernel_rfl) (by kernel_rfl) (fun _ _ _ h => h) (Or.inl ⟨by rfl, fun w hSw => by (obtain ⟨q0, q1, q2⟩ := hSw; go_simp)⟩) (by assumption) ?_
  try simp only [Act.put, List.setIfInBounds_toArray, List.set_cons_zero, List.set_cons_succ]
  refine wpAnyH_take (i := 10) (oi := { dst := some 16, op := Op.load 24 (Operand.tmp 15), type := 24, pos := "ref.go:276", after := #[{ on := 9, ground := Ground.data }], guard := none }) (v := .slice r.ka N.ks.length r.ck) rfl (by kernel_rfl) (by kernel_rfl) (by kernel_rfl) (fun _ _ _ h => h) (Or.inl ⟨by rfl, fun w hSw => by (obtain ⟨q0, q1, q2⟩ := hSw; go_simp)⟩) (by assumption) ?_
  try simp only [Act.put, List.setIfInBounds_toArray, List.set_cons_zero, List.set_cons_succ]
  refine wpAnyH_ready (rs := [3]) (by kernel_rfl) (by simp) ?_
  refine AllReadyH.cons (o := { dst := some 9, op := Op.call { callee := Callee.builtin Builtin.append, args := #[Operand.tmp 6, Operand.tmp 8], argTypes := #[22, 22] }, type := 22, pos := "ref.go:276", after := #[{ on := 0, ground := Ground.data }, { on := 2, ground := Ground.data }], guard := none }) rfl (fun K hK => ?_) AllReadyH.nil
  refine step_partPairs (B := w.heap.size) _ rfl _ _ rfl (by rfl) own_nil (x := ⟨r.pa, N.ps.length, r.cp, pcells N.ps⟩) (by rfl) (HI.out _ d0).pp (by have := HL.out; simp only; omega) (by have := HZ.out; have := d0.size; omega) ?_
  simp only [Nat.zero_add, List.nil_append]
  intro ao1 c1 W1 o1 g1
  have d1 : Same V W1 := Fr.grown d0 g1 (fun k hk => by cases hk)
  have e1 : Same V.drew W1 := Fr.grown (Fr.refl _ _) g1 (fun k hk => by cases hk)
  refine hK.out _ _ (HS.out _ d1) (fun hHeld => ?_)
  clear hK K
  try simp only [Act.put, List.setIfInBounds_toArray, List.set_cons_zero, List.set_cons_succ]
  refine wpAnyH_ready (rs := [7]) (by kernel_rfl) (by simp) ?_
  refine AllReadyH.cons (o := { dst := some 13, op := Op.call { callee := Callee.builtin Builtin.append, args := #[Operand.tmp 10, Operand.tmp 12], argTypes := #[23, 23] }, type := 23, pos := "ref.go:276", after := #[{ on := 4, ground := Ground.data }, { on := 6, ground := Ground.data }, { on := 3, ground := Ground.chain }], guard := none }) rfl (fun K hK => ?_) AllReadyH.nil
  refine step_partTexts (B := w.heap.size) _ rfl _ _ rfl (by rfl) own_nil (x := ⟨r.sa, N.ss.length, r.cs, scells N.ss⟩) (by rfl) (HI.out _ d1).sp (by have := HL.out; simp only; omega) (by have := HZ.out; have := d1.size; omega) ?_
  simp only [Nat.zero_add, List.nil_append]
  intro ao2 c2 W2 o2 g2
  have d2 : Same V W2 := Fr.grown d1 g2 (fun k hk => by cases hk)
  have e2 : Same W1 W2 := Fr.grown (Fr.refl _ _) g2 (fun k hk => by cases hk)
  refine hK.out _ _ (HS.out _ d2) (fun hHeld => ?_)
  clear hK K
  try simp only [Act.put, List.setIfInBounds_toArray, List.set_cons_zero, List.set_cons_succ]
  refine wpAnyH_ready (rs := [11]) (by kernel_rfl) (by simp) ?_
  refine AllReadyH.cons (o := { dst := some 17, op := Op.call { callee := Callee.builtin Builtin.append, args := #[Operand.tmp 14, Operand.tmp 16], argTypes := #[24, 24] }, type := 24, pos := "ref.go:276", after := #[{ on := 8, ground := Ground.data }, { on := 10, ground := Ground.data }, { on := 7, ground := Ground.chain }], guard := none }) rfl (fun K hK => ?_) AllReadyH.nil
  refine step_partKids (B := w.heap.size) _ rfl _ _ rfl (by rfl) own_nil (x := ⟨r.ka, N.ks.length, r.ck, kcellsL N.ks⟩) (by rfl) (HI.out _ d2).kp (by have := HL.out; simp only; omega) (by have := HZ.out; have := d2.size; omega) ?_
  simp only [Nat.zero_add, List.nil_append]
  intro ao3 c3 W3 o3 g3
  have d3 : Same V W3 := Fr.grown d2 g3 (fun k hk => by cases hk)
  have e3 : Same W2 W3 := Fr.grown (Fr.refl _ _) g3 (fun k hk => by cases hk)
  refine hK.out _ _ (HS.out _ d3) (fun hHeld => ?_)
  clear hK K
  try simp only [Act.put, List.setIfInBounds_toArray, List.set_cons_zero, List.set_cons_succ]
  refine wpAnyH_take (i := 12) (oi := { dst := some 18, op := Op.build 26 #[(0, Operand.tmp 9), (1, Operand.tmp 13), (2, Operand.tmp 17)], type := 26, pos := "ref.go:276", after := #[{ on := 3, ground := Ground.data }, { on := 7, ground := Ground.data }, { on := 11, ground := Ground.data }], guard := none }) (v := .agg #[.slice ao1 N.ps.length c1, .slice ao2 N.ss.length c2, .slice ao3 N.ks.length c3]) rfl (by kernel_rfl) (by kernel_rfl) (by kernel_rfl) (fun _ _ _ h => h) (Or.inl ⟨by rfl, fun w hSw => by (obtain ⟨q0, q1, q2⟩ := hSw; go_simp)⟩) (by assumption) ?_
  try simp only [Act.put, List.setIfInBounds_toArray, List.set_cons_zero, List.set_cons_succ]
  have r6 := HG.out _ d3
  refine wpAnyH_ready (rs := [13]) (by kernel_rfl) (by simp) ?_
  refine AllReadyH.cons (o := { dst := none, op := Op.store 26 (Operand.tmp 2) (Operand.tmp 18), type := 0, pos := "ref.go:276", after := #[{ on := 12, ground := Ground.data }, { on := 11, ground := Ground.chain }, { on := 0, ground := Ground.phase }, { on := 1, ground := Ground.phase }, { on := 2, ground := Ground.phase }, { on := 3, ground := Ground.phase }, { on := 4, ground := Ground.phase }, { on := 5, ground := Ground.phase }, { on := 6, ground := Ground.phase }, { on := 7, ground := Ground.phase }, { on := 8, ground := Ground.phase }, { on := 9, ground := Ground.phase }, { on := 10, ground := Ground.phase }, { on := 11, ground := Ground.phase }, { on := 12, ground := Ground.phase }], guard := none }) rfl (fun K hK => ?_) AllReadyH.nil
  refine step_store_whole rfl 26 _ _ rfl (w.heap.size + 1) #[.slice ao1 N.ps.length c1, .slice ao2 N.ss.length c2, .slice ao3 N.ks.length c3] _ 26 (by rfl) (by rfl) r6 rfl (by kernel_rfl) (by kernel_rfl) ?_
  intro W7 r7 f7
  obtain ⟨q0, q1, q2⟩ := HS.out _ d3
  refine hK.out _ _ ⟨(f7.cell (World.block_lt_of_cell? _ _ q0) (by simp)).trans q0, (f7.cell (World.block_lt_of_cell? _ _ q1) (by simp)).trans q1, (f7.cell (World.block_lt_of_cell? _ _ q2) (by simp)).trans q2⟩ (fun hHeld => ?_)
  clear hK K
  refine wpAnyH_done (by kernel_rfl) ?_ _
  go_wp2_with fail
  have hz := HZ.out
  have z0 := s0.size
  have t1 := type_ne (own_frameB (own_frameB o1 e2 (fun _ _ f => f)) e3 (fun _ _ f => f)) r6 (by decide)
  have t2 := type_ne (own_frameB o2 e3 (fun _ _ f => f)) r6 (by decide)
  have t3 := type_ne o3 r6 (by decide)
  have p1 := own_frameB (own_frameB (own_frameB o1 e2 (fun _ _ f => f)) e3 (fun _ _ f => f)) f7 (fun k hk e => t1 (by rw [hk, e]))
  have p2 := own_frameB (own_frameB o2 e3 (fun _ _ f => f)) f7 (fun k hk e => t2 (by rw [hk, e]))
  have p3 := own_frameB o3 f7 (fun k hk e => t3 (by rw [hk, e]))
  exact bodyPost_ret (results_row_one (p := 2) (ty := 26) (by kernel_rfl) _ _ (w.heap.size + 1) 26 _ (0, 0) _ rfl r7 Try.underlying26 rfl (by kernel_rfl)) rfl ⟨ao1, c1, ao2, c2, ao3, c3, rfl, p1, p2, p3, Fr.trans (s0.trans d3) f7 (fun i hi e => by omega)⟩


theorem pcells_app (a b : List (ByteArray × ByteArray)) : pcells (a ++ b) = pcells a ++ pcells b := List.flatMap_append
theorem scells_app (a b : List ByteArray) : scells (a ++ b) = scells a ++ scells b := List.map_append
theorem kcellsL_app (a b : List Kid) : kcellsL (a ++ b) = kcellsL a ++ kcellsL b := List.flatMap_append
theorem heap_put_new (w : World) (a : Addr) (v : Value) (o : Obj) : ((w.setCell a v).alloc o).heap[w.heap.size]? = some o := by
  have := heap_alloc_new (w.setCell a v) o
  rwa [show (w.setCell a v).heap.size = w.heap.size from by simp [World.setCell]] at this
theorem prow_front {w : World} {pa : Option Addr} {pb po : Nat} {a b : List (ByteArray × ByteArray)} (h : PRow w pa pb po (a ++ b)) : PRow w pa pb po a :=
  ⟨fun e => h.place (by intro e2; exact e (List.append_eq_nil_iff.1 e2).1), fun j x hx => h.cells j x (by rw [List.getElem?_append_left (List.getElem?_eq_some_iff.1 hx).1]; exact hx)⟩
theorem trow_front {w : World} {pa : Option Addr} {pb po : Nat} {a b : List ByteArray} (h : TRow w pa pb po (a ++ b)) : TRow w pa pb po a :=
  ⟨fun e => h.place (by intro e2; exact e (List.append_eq_nil_iff.1 e2).1), fun j x hx => h.cells j x (by rw [List.getElem?_append_left (List.getElem?_eq_some_iff.1 hx).1]; exact hx)⟩
theorem krow_front {w : World} {pa : Option Addr} {pb po : Nat} {a b : List Kid} (h : KRow w pa pb po (a ++ b)) : KRow w pa pb po a :=
  ⟨fun e => h.place (by intro e2; exact e (List.append_eq_nil_iff.1 e2).1), fun j x hx => h.cells j x (by rw [List.getElem?_append_left (List.getElem?_eq_some_iff.1 hx).1]; exact hx)⟩

/-- A batch as it stands in memory. -/
structure Bt where
  pg : Nat
  na : Option Addr
  nb : Nat
  no : Nat
  nc : Nat
  ns : List Nat
/-- How many numbers batches name. -/
def wt : List Bt → Nat
  | [] => 0
  | x :: L => x.ns.length + 1 + wt L
theorem own_setN {w : World} {B g cap n i sz : Nat} {e : TypeId} {xs : List Value} (h : w.ownsRow B e sz (.slice (some ⟨g, 0, none⟩) n cap) n xs) (v : Value) :
    (w.setCell ⟨g, i, none⟩ v).ownsRow B e sz (.slice (some ⟨g, 0, none⟩) n cap) n (xs.set i v) := by
  obtain ⟨hl, hn | ⟨g2, c2, cur, hv, hb, hh, hnc, hcm, hcs, htk⟩⟩ := h
  · exact absurd hn.1 (by simp)
  · injection hv with e1 _ e3
    injection e1 with e1
    injection e1 with e1
    subst e1 e3
    refine ⟨by rw [List.length_set]; exact hl, Or.inr ⟨g, cap, cur.setIfInBounds i v, rfl, hb, heap_setCell_same w g i cur e v hh, hnc, hcm, by rw [Array.size_setIfInBounds]; exact hcs, ?_⟩⟩
    rw [Array.toList_setIfInBounds, List.take_set, htk]
theorem own_frozenN {w : World} {B g cap n i sz : Nat} {e : TypeId} {xs : List Value} (h : w.ownsRow B e sz (.slice (some ⟨g, 0, none⟩) n cap) n xs) : w.frozen? ⟨g, i, none⟩ = false := by
  obtain ⟨hl, hn | ⟨g2, c2, cur, hv, hb, hh, hnc, hcm, hcs, htk⟩⟩ := h
  · exact absurd hn.1 (by simp)
  · injection hv with e1 _ e3
    injection e1 with e1
    injection e1 with e1
    subst e1 e3
    exact frozen_of_row w g i _ _ hh
theorem blk_of {ao : Option Addr} {n c : Nat} : (Value.slice ao n c).ownBlock = ao.map (·.block) := by cases ao <;> rfl

theorem trow_part {w : World} {pa : Option Addr} {pb po cp : Nat} {ps : List ByteArray} (h : TRow w pa pb po ps) (hc : pa = none → cp = 0) : PartOk w 1 ⟨pa, ps.length, cp, scells ps⟩ := by
  refine ⟨by simp [scells], fun e => ?_, fun a ha j u hj => ?_, scells_one ps⟩
  · simp only at e
    refine ⟨?_, hc e⟩
    show ps.length = 0
    have : ps = [] := Classical.byContradiction fun e2 => by have := (h.place e2).1; rw [e] at this; cases this
    rw [this]; rfl
  · obtain ⟨e, _⟩ := h.place (by intro e; simp only at hj; rw [e] at hj; simp [scells] at hj)
    simp only at ha
    rw [e] at ha
    cases ha
    rw [WideShapes.add_plain]; exact trow_news h j u hj
theorem krow_part {w : World} {pa : Option Addr} {pb po cp : Nat} {ps : List Kid} (hok : ∀ x ∈ ps, KidOk x) (h : KRow w pa pb po ps) (hc : pa = none → cp = 0) : PartOk w 33 ⟨pa, ps.length, cp, kcellsL ps⟩ := by
  refine ⟨flat_length kcells 33 ps (fun x hx => kcells_length (hok x hx).d), fun e => ?_, fun a ha j u hj => ?_, kcellsL_one ps⟩
  · simp only at e
    refine ⟨?_, hc e⟩
    show ps.length = 0
    have : ps = [] := Classical.byContradiction fun e2 => by have := (h.place e2).1; rw [e] at this; cases this
    rw [this]; rfl
  · obtain ⟨e, _⟩ := h.place (by intro e; simp only at hj; rw [e] at hj; simp [kcellsL] at hj)
    simp only at ha
    rw [e] at ha
    cases ha
    rw [WideShapes.add_plain]; exact krow_news hok h j u hj
theorem Try.cellsDig : Try.prog.cellsOf 35 = 32 := by kernel_rfl
open Go.ChangeShapes Go.WideShapes Go.ChangeAt Go.RowKit Go.Joins
open Go.ChangeMaps (open_string shut_string)
instance : Inhabited Kid := ⟨⟨0, []⟩⟩
theorem list_of_ones (l : List Value) (h : ∀ i, i < l.length → ∃ x : UInt8, l[i]? = some (.int .u8 x.toNat)) : ∃ D : List UInt8, l = bcells D := by
  induction l with
  | nil => exact ⟨[], rfl⟩
  | cons v l ih =>
    obtain ⟨x, hx⟩ := h 0 (by simp)
    obtain ⟨D, hD⟩ := ih (fun i hi => by have := h (i + 1) (by simp; omega); simpa using this)
    refine ⟨x :: D, ?_⟩
    rw [List.getElem?_cons_zero, Option.some.injEq] at hx
    rw [hx, hD]; rfl
set_option maxRecDepth 100000 in
theorem open_digest_in {H : Type} {enc : TypeId × Value → H} {W : World} {d : DataW H × List MemPlace} {fuel : Nat} {cs : List Value}
    (hf : DataW.trod enc Try.prog W 0 (fun _ => true) true fuel 35 cs = some d) : ∃ D : List UInt8, cs = bcells D ∧ D.length = 32 := by
  obtain ⟨xs, m, _, _, hl, hn, hi⟩ := DataW.trod_array Try.aund32 hf
  rw [Try.cellsDig] at hl
  rw [Try.cells8] at hi
  have hall : ∀ i, i < cs.length → ∃ x : UInt8, cs[i]? = some (.int .u8 x.toNat) := by
    intro i hlt
    have h1 := hi i (by omega)
    rw [List.getElem?_eq_getElem (show i < xs.length by omega), Nat.mul_one] at h1
    obtain ⟨n, e, _, wf⟩ := DataW.trod_int Try.und8 h1
    have hb := bounds_u8 wf
    have e2 : cs[i]? = some (.int .u8 n) := by
      have := congrArg (fun l => l[0]?) e
      simp only [List.getElem?_take, List.getElem?_drop, List.getElem?_cons_zero, Nat.add_zero] at this
      simpa using this
    refine ⟨UInt8.ofNat n.toNat, ?_⟩
    rw [e2]
    congr 2
    rw [UInt8.toNat_ofNat']
    omega
  obtain ⟨D, hD⟩ := list_of_ones cs hall
  exact ⟨D, hD, by rw [hD, bcells_length] at hl; exact hl⟩
theorem one_of {cs : List Value} {i : Nat} {v : Value} (h : (cs.drop i).take 1 = [v]) : cs[i]? = some v := by
  have := congrArg (fun l => l[0]?) h
  simp only [List.getElem?_take, List.getElem?_drop, List.getElem?_cons_zero, Nat.add_zero] at this
  simpa using this
theorem one_get {cs : List Value} {i : Nat} {v : Value} (h : (cs.drop i).take 1 = [v]) : cs.drop i = v :: cs.drop (i + 1) := by
  have h1 := one_of h
  have hlt := (List.getElem?_eq_some_iff.1 h1).1
  rw [List.drop_eq_getElem_cons hlt]
  congr 1
  rw [List.getElem?_eq_getElem hlt] at h1
  exact Option.some.inj h1

theorem add_pl (b o i : Nat) : (⟨b, o, none⟩ : Addr).add i = ⟨b, o + i, none⟩ := by
  unfold Addr.add; split
  · next h => subst h; rfl
  · rfl
theorem bulk_sumG {H : Type} {α : Type} (wt : α → Nat) (l : List Nat) (D : Nat → DataW H) (T : Nat → α) (h : ∀ i ∈ l, wt (T i) ≤ Rows.uptoBulk (D i)) : ((l.map T).map wt).sum ≤ Rows.uptoBulkAll (l.map D) := by
  induction l with
  | nil => simp
  | cons x l ih =>
    have h1 := h x (by simp)
    have h2 := ih (fun i hi => h i (by simp [hi]))
    rw [List.map_cons, List.map_cons, List.sum_cons, List.map_cons, Rows.uptoBulkAll]; omega
set_option maxRecDepth 100000 in
/-- A list of things of so many cells that came in. -/
theorem open_rows {H : Type} {enc : TypeId × Value → H} {W : World} {d : DataW H × List MemPlace} {fuel : Nat} {cs : List Value} {t e : TypeId} {α : Type} [Inhabited α] (n : Nat) (hn : 0 < n) (cells : α → List Value) (OK : α → Prop) (wt : α → Nat)
    (hu : Try.prog.underlying t = some (.slice e)) (hc : Try.prog.cellsOf e = n)
    (hE : ∀ (m : Nat) (c : List Value) (x : DataW H × List MemPlace), c.length = n → DataW.trod enc Try.prog W 0 (fun _ => true) true m e c = some x → ∃ a : α, c = cells a ∧ OK a ∧ wt a ≤ Rows.uptoBulk x.1)
    (hf : DataW.trod enc Try.prog W 0 (fun _ => true) true fuel t cs = some d) :
    ∃ (pa : Option Addr) (pb po cp : Nat) (xs : List α), cs = [.slice pa xs.length cp] ∧ xs.length ≤ cp ∧ cp ≤ maxLen ∧ (xs ≠ [] → pa = some ⟨pb, po, none⟩ ∧ pb < W.heap.size) ∧ (∀ j x, xs[j]? = some x → W.rangeAt pb (po + j * n) (cells x)) ∧ (∀ x ∈ xs, OK x) ∧ (pa = none → cp = 0) ∧ (xs.map wt).sum ≤ Rows.uptoBulk d.1 := by
  rcases Deep.open_slice hu hf with ⟨rfl, rfl⟩ | ⟨a, len, cap, mm, nn, D, Pl, rfl, _, hl, hm, hmm, rfl, hel⟩
  · exact ⟨none, 0, 0, 0, [], rfl, by simp, by simp, fun h => absurd rfl h, fun j x hx => by simp at hx, by simp, fun _ => rfl, by simp⟩
  · have hmc : mm = cap := by simpa using hmm
    subst hmc
    rw [hc] at hel
    obtain ⟨T, hT⟩ := Deep.choose_lt (α := α) (n := len) (p := fun i x => W.cells? 0 (a.add (i * n)) n = some (cells x) ∧ OK x ∧ wt x ≤ Rows.uptoBulk (D i)) (fun i hi => by
      obtain ⟨c, h1, h2⟩ := hel i (by omega)
      obtain ⟨_, hcl, _⟩ := World.cells?_some h1
      obtain ⟨x, rfl, h3, h4⟩ := hE nn c _ hcl h2
      exact ⟨x, h1, h3, h4⟩)
    have hsum := bulk_sumG wt (List.range len) D T (fun i hi => (hT i (List.mem_range.1 hi)).2.2)
    have hlen : ((List.range len).map T).length = len := by simp
    have hs : 0 < len → ∃ b off, a = ⟨b, off, none⟩ ∧ b < W.heap.size := fun h0 => by
      obtain ⟨_, hcl, hce⟩ := World.cells?_some (hT 0 h0).1
      have hc0 := hce 0 hn
      rw [List.getElem?_eq_getElem (by omega)] at hc0
      obtain ⟨b, off, spot⟩ := a
      have hspot : spot = none := by simpa [Addr.add] using World.cell?_spot hc0
      subst hspot
      refine ⟨b, off, rfl, ?_⟩
      have := World.block_lt_of_cell? _ _ hc0
      simpa [Addr.add] using this
    refine ⟨some a, a.block, a.off, mm, (List.range len).map T, by rw [hlen], by omega, hm, ?_, ?_, ?_, fun e => by (cases e), ?_⟩
    · intro hne
      have h0 : 0 < len := by
        rcases Nat.eq_zero_or_pos len with h | h
        · subst h; exact absurd rfl hne
        · exact h
      obtain ⟨b, off, rfl, hb⟩ := hs h0
      exact ⟨rfl, hb⟩
    · intro j x hj
      have hj1 : j < len := by
        have := (List.getElem?_eq_some_iff.1 hj).1
        omega
      have hjt : x = T j := by
        rw [List.getElem?_map, List.getElem?_range hj1] at hj
        simpa using hj.symm
      subst hjt
      obtain ⟨_, hcl, hce⟩ := World.cells?_some (hT j hj1).1
      intro i v hv
      have hi : i < n := by
        have := (List.getElem?_eq_some_iff.1 hv).1
        omega
      have h1 := hce i hi
      rw [hv] at h1
      obtain ⟨b, off, rfl, hb⟩ := hs (by omega)
      rw [add_pl, add_pl] at h1
      exact h1
    · intro x hx
      obtain ⟨k, hk, rfl⟩ := List.mem_map.1 hx
      exact (hT k (List.mem_range.1 hk)).2.1
    · rw [Rows.uptoBulk]; omega
set_option maxRecDepth 100000 in
theorem open_pair_in {H : Type} {enc : TypeId × Value → H} {W : World} {d : DataW H × List MemPlace} {fuel : Nat} {cs : List Value} (hz : cs.length = 2)
    (hf : DataW.trod enc Try.prog W 0 (fun _ => true) true fuel 33 cs = some d) : ∃ x : ByteArray × ByteArray, cs = [.string x.1, .string x.2] ∧ True ∧ x.1.size + x.2.size + 3 ≤ Rows.uptoBulk d.1 := by
  obtain ⟨x, y, rfl⟩ : ∃ x y, cs = [x, y] := by
    match cs, hz with
    | [x, y], _ => exact ⟨x, y, rfl⟩
  obtain ⟨y0, y1, n, hx, _, f0, f1⟩ := trod_struct2 Try.underlying33 hf
  have c4 : Try.prog.cellsOf 9 = 1 := by kernel_rfl
  simp only [c4, List.drop_succ_cons, List.drop_zero, List.take_succ_cons, List.take_zero] at f0 f1
  obtain ⟨s0, e0, g0, _⟩ := DataW.trod_string Try.underlying9 f0
  obtain ⟨s1, e1, g1, _⟩ := DataW.trod_string Try.underlying9 f1
  simp only [List.cons.injEq, and_true] at e0 e1
  subst e0 e1
  refine ⟨(s0, s1), rfl, trivial, ?_⟩
  rw [hx]
  simp only [g0, g1, Rows.uptoBulk, Rows.uptoBulkAll, bytes_length]
  omega
theorem open_text_in {H : Type} {enc : TypeId × Value → H} {W : World} {d : DataW H × List MemPlace} {fuel : Nat} {cs : List Value}
    (hf : DataW.trod enc Try.prog W 0 (fun _ => true) true fuel 9 cs = some d) : ∃ x : ByteArray, cs = [.string x] ∧ True ∧ x.size + 1 ≤ Rows.uptoBulk d.1 := by
  obtain ⟨s0, e0, g0, _⟩ := DataW.trod_string Try.underlying9 hf
  refine ⟨s0, e0, trivial, ?_⟩
  rw [g0]; simp only [Rows.uptoBulk, bytes_length]; omega
set_option maxRecDepth 100000 in
theorem open_kid_in {H : Type} {enc : TypeId × Value → H} {W : World} {d : DataW H × List MemPlace} {fuel : Nat} {cs : List Value} (hz : cs.length = 33)
    (hf : DataW.trod enc Try.prog W 0 (fun _ => true) true fuel 37 cs = some d) : ∃ k : Kid, cs = kcells k ∧ KidOk k ∧ 1 ≤ Rows.uptoBulk d.1 := by
  obtain ⟨y0, y1, n, hx, _, f0, f1⟩ := trod_struct2 Try.underlying37 hf
  have c2 : Try.prog.cellsOf 30 = 1 := by kernel_rfl
  simp only [c2, Try.cellsDig] at f0 f1
  obtain ⟨a0, e0, _, w0⟩ := DataW.trod_int Try.underlying30 f0
  obtain ⟨D, iD, hD⟩ := open_digest_in f1
  have k0 := bounds_u32 w0
  obtain ⟨a0, rfl⟩ := Int.eq_ofNat_of_zero_le k0.1
  refine ⟨⟨a0, D⟩, ?_, ⟨by simp only; omega, hD⟩, by rw [hx]; simp [Rows.uptoBulk]⟩
  have h1 := one_get e0
  rw [List.drop_zero] at h1
  rw [h1]
  show _ = Value.int .u32 a0 :: bcells D
  congr 1
  rw [List.take_of_length_le (by rw [List.length_drop]; omega)] at iD
  exact iD
theorem sum_len {α : Type} (wt : α → Nat) (l : List α) (h : ∀ x ∈ l, 1 ≤ wt x) : l.length ≤ (l.map wt).sum := by
  induction l with
  | nil => simp
  | cons x l ih =>
    have h1 := h x (by simp)
    have h2 := ih (fun y hy => h y (by simp [hy]))
    rw [List.map_cons, List.sum_cons, List.length_cons]; omega
/-- How much a node that came in holds. -/
structure NdSmall (N : Nd) : Prop where
  hp : (N.ps.map fun x => x.1.size + x.2.size + 3).sum ≤ 1048576
  hs : (N.ss.map fun x => x.size + 1).sum ≤ 1048576
  hk : N.ks.length ≤ 1048576
set_option maxRecDepth 100000 in
theorem open_node {H : Type} {enc : TypeId × Value → H} {W : World} {v : Value} {d : DataW H} {pl : List MemPlace} {base : Nat}
    (hv : Value.okWide Try.prog W .any base 26 v) (h : DataW.Trod enc Try.prog W 0 (fun _ => true) true 26 v d pl) (hb : Rows.uptoBulk d ≤ 1048576) :
    ∃ (r : Nr) (N : Nd), v = ndV r N ∧ NdIn W r N ∧ NdSmall N := by
  obtain ⟨cs, rfl, hz⟩ := okWide_struct Try.underlying26 hv
  rw [show Try.prog.cellsOf 26 = 3 from by kernel_rfl] at hz
  obtain ⟨fuel, hf⟩ := h
  obtain ⟨x, y, z, rfl⟩ : ∃ x y z, cs = #[x, y, z] := by
    obtain ⟨l⟩ := cs
    match l, hz with
    | [x, y, z], _ => exact ⟨x, y, z, rfl⟩
  obtain ⟨y0, y1, y2, n, hx, _, f0, f1, f2⟩ := Deep.trod_struct3 Try.underlying26 hf
  have c0 : Try.prog.cellsOf 22 = 1 := by kernel_rfl
  have c1 : Try.prog.cellsOf 23 = 1 := by kernel_rfl
  have c2 : Try.prog.cellsOf 24 = 1 := by kernel_rfl
  simp only [Value.cells, c0, c1, c2, List.drop_succ_cons, List.drop_zero, List.take_succ_cons, List.take_zero] at f0 f1 f2
  obtain ⟨pa, pb, po, cp, ps, e0, l0, m0, a0, b0, _, z0, s0⟩ := open_rows (α := ByteArray × ByteArray) 2 (by decide) (fun x => [.string x.1, .string x.2]) (fun _ => True) (fun x => x.1.size + x.2.size + 3) Try.underlying22 (by kernel_rfl) (fun m c x hc h => open_pair_in hc h) f0
  obtain ⟨sa, sb, so, cs', ss, e1, l1, m1, a1, b1, _, z1, s1⟩ := open_rows (α := ByteArray) 1 (by decide) (fun x => [.string x]) (fun _ => True) (fun x => x.size + 1) Try.underlying23 (by kernel_rfl) (fun m c x hc h => open_text_in h) f1
  obtain ⟨ka, kb, ko, ck, ks, e2, l2, m2, a2, b2, k2, z2, s2⟩ := open_rows (α := Kid) 33 (by decide) kcells KidOk (fun _ => 1) Try.underlying24 (by kernel_rfl) (fun m c x hc h => open_kid_in hc h) f2
  simp only [List.cons.injEq, and_true] at e0 e1 e2
  subst e0 e1 e2
  have hd : d = (DataW.agg [y0.1, y1.1, y2.1] : DataW H) := congrArg Prod.fst hx
  rw [hd] at hb
  simp only [Rows.uptoBulk, Rows.uptoBulkAll] at hb
  have n0 := sum_len (fun x : ByteArray × ByteArray => x.1.size + x.2.size + 3) ps (fun x _ => by omega)
  have n1 := sum_len (fun x : ByteArray => x.size + 1) ss (fun x _ => by omega)
  have n2 := sum_len (fun _ : Kid => 1) ks (fun x _ => by omega)
  have sm : NdSmall ⟨ps, ss, ks⟩ := ⟨by show (ps.map _).sum ≤ _; omega, by show (ss.map _).sum ≤ _; omega, by show ks.length ≤ _; omega⟩
  have hml : maxLen = 9223372036854775807 := rfl
  have P : PRow W pa pb po ps := ⟨a0, fun j x hx => ⟨b0 j x hx 0 _ rfl, b0 j x hx 1 _ rfl⟩⟩
  have T : TRow W sa sb so ss := ⟨a1, fun j x hx => by have := b1 j x hx 0 _ rfl; simpa using this⟩
  have K : KRow W ka kb ko ks := ⟨a2, b2⟩
  exact ⟨⟨pa, pb, po, cp, sa, sb, so, cs', ka, kb, ko, ck⟩, ⟨ps, ss, ks⟩, rfl, ⟨⟨P, T, K, k2, by show ps.length ≤ _; omega, by show ss.length ≤ _; omega, by show ks.length ≤ _; omega⟩, prow_part P z0, trow_part T z1, krow_part k2 K z2⟩, sm⟩
theorem sum_mem {α : Type} (wt : α → Nat) (l : List α) {x : α} (h : x ∈ l) : wt x ≤ (l.map wt).sum := by
  induction l with
  | nil => cases h
  | cons y l ih =>
    rw [List.map_cons, List.sum_cons]
    rcases List.mem_cons.1 h with rfl | h
    · omega
    · have := ih h; omega
theorem sum_len3 (l : List (ByteArray × ByteArray)) : 3 * l.length ≤ (l.map fun x => x.1.size + x.2.size + 3).sum := by
  induction l with
  | nil => simp
  | cons x l ih => rw [List.map_cons, List.sum_cons, List.length_cons]; omega
theorem NdSmall.lens {N : Nd} (h : NdSmall N) : N.ps.length ≤ 1048576 ∧ N.ss.length ≤ 1048576 ∧ N.ks.length ≤ 1048576 ∧ 3 * N.ps.length ≤ 1048576 ∧ (∀ x ∈ N.ps, x.1.size ≤ 1048576 ∧ x.2.size ≤ 1048576) := by
  have n0 := sum_len (fun x : ByteArray × ByteArray => x.1.size + x.2.size + 3) N.ps (fun x _ => by omega)
  have n1 := sum_len (fun x : ByteArray => x.size + 1) N.ss (fun x _ => by omega)
  have h1 := h.hp; have h2 := h.hs
  have n3 := sum_len3 N.ps
  refine ⟨by omega, by omega, h.hk, by omega, fun x hx => ?_⟩
  have := sum_mem (fun x : ByteArray × ByteArray => x.1.size + x.2.size + 3) N.ps hx
  omega

end Go.Proofs.Ytjlbkagkmcelgaa
namespace Go.Proofs.Ytjlbkagkmcelgaa
open Go.RowKit Go.Maps

/-- What a row's elements are, and how one is marked with a number. -/
structure Fam where
  e : TypeId
  sz : Nat
  mrk : Nat → List Value
  len : ∀ a, (mrk a).length = sz
  one : ∀ a, ∀ v ∈ mrk a, v.oneCell' = true
  pos : 0 < sz
def rp (F : Fam) (n a : Nat) : List Value := (List.replicate n (F.mrk a)).flatten
theorem rp_len (F : Fam) (n a : Nat) : (rp F n a).length = n * F.sz := by
  unfold rp
  induction n with
  | zero => simp
  | succ n ih => rw [List.replicate_succ, List.flatten_cons, List.length_append, ih, F.len, Nat.succ_mul]; omega
theorem rp_succ (F : Fam) (n a : Nat) : rp F (n + 1) a = rp F n a ++ F.mrk a := by
  unfold rp
  rw [List.replicate_succ', List.flatten_append]
  simp
theorem rp_zero (F : Fam) (a : Nat) : rp F 0 a = [] := rfl
theorem rp_at (F : Fam) {n a j i : Nat} {v : Value} (hj : j < n) (hv : (F.mrk a)[i]? = some v) : (rp F n a)[j * F.sz + i]? = some v := by
  have hi : i < F.sz := by have := (List.getElem?_eq_some_iff.1 hv).1; rw [F.len] at this; exact this
  induction n with
  | zero => omega
  | succ n ih =>
    rw [rp_succ]
    by_cases h : j < n
    · have h2 : (j + 1) * F.sz ≤ n * F.sz := Nat.mul_le_mul_right _ h
      rw [Nat.succ_mul] at h2
      rw [List.getElem?_append_left (by rw [rp_len]; omega)]
      exact ih h
    · obtain rfl : j = n := by omega
      rw [List.getElem?_append_right (by rw [rp_len]; omega), rp_len, Nat.add_sub_cancel_left]
      exact hv
/-- A slice. -/
structure Sl where
  ao : Option Addr
  n : Nat
  c : Nat
abbrev Sl.v (x : Sl) : Value := .slice x.ao x.n x.c
def Sl.blk (x : Sl) : Option Nat := x.ao.map (·.block)
theorem Sl.own (x : Sl) : (Value.slice x.ao x.n x.c).ownBlock = x.blk := blk_of
abbrev RX (F : Fam) (W : World) (x : Sl) (cs : List Value) : Prop := W.ownsRow 0 F.e F.sz (.slice x.ao x.n x.c) x.n cs
section
variable {F : Fam} {W W' w : World} {S : Nat → Prop} {x y r : Sl} {cs : List Value} {L C : List Sl}
theorem RX.fr (h : RX F W x cs) (f : Fr S W W') (hn : ∀ k, x.blk = some k → ¬ S k) : RX F W' x cs := own_frameB h f (fun k hk => hn k (by rw [← Sl.own]; exact hk))
theorem RX.at_ (h : RX F W x cs) {k : Nat} (hk : x.blk = some k) : x.ao = some ⟨k, 0, none⟩ ∧ k < W.heap.size ∧ ∃ A fr, W.heap[k]? = some (.cells A F.e fr) := by
  rcases h.2 with ⟨hv, _⟩ | ⟨g, c, cur, hv, _, hh, _⟩
  · injection hv with e1
    unfold Sl.blk at hk; rw [e1] at hk; cases hk
  · injection hv with e1
    unfold Sl.blk at hk; rw [e1] at hk
    have : g = k := by simpa using hk
    subst this
    exact ⟨e1, lt_of_heap hh, _, _, hh⟩
theorem RX.ne {t : TypeId} {A : Array Value} {fr : Nat × Nat} {k : Nat} (h : RX F W x cs) (hc : W.heap[k]? = some (.cells A t fr)) (ht : F.e ≠ t) : x.blk ≠ some k := fun hk => by
  obtain ⟨_, _, A2, fr2, h2⟩ := h.at_ hk
  rw [hc] at h2
  injection h2 with h2
  injection h2 with _ h2 _
  exact ht h2.symm
/-- The cells lie at a slice. -/
def Hold (W : World) (ao : Option Addr) (cs : List Value) : Prop := ∀ (j : Nat) (v : Value), cs[j]? = some v → ∃ g, ao = some ⟨g, 0, none⟩ ∧ W.cell? ⟨g, j, none⟩ = some v
theorem RX.hold (h : RX F W x cs) : Hold W x.ao cs := by
  intro j v hv
  obtain ⟨ao, n, c⟩ := x
  rcases h.2 with ⟨hn, h0⟩ | ⟨g, c2, cur, hn, _, hh, _⟩
  · have h1 := h.1
    simp only at h0 h1
    rw [h0, Nat.zero_mul] at h1
    rw [List.eq_nil_of_length_eq_zero h1] at hv
    simp at hv
  · injection hn with e1 _ _
    simp only at e1
    subst e1
    exact ⟨g, rfl, own_cell h hv⟩
theorem Hold.fr {ao : Option Addr} (h : Hold W ao cs) (f : Fr S W W') (hn : ∀ k, ao.map (·.block) = some k → ¬ S k) : Hold W' ao cs := by
  intro j v hv
  obtain ⟨g, e, hc⟩ := h j v hv
  exact ⟨g, e, (f.cell (World.block_lt_of_cell? _ _ hc) (hn g (by rw [e]; rfl))).trans hc⟩
theorem Hold.left {ao : Option Addr} {a b : List Value} (h : Hold W ao (a ++ b)) : Hold W ao a := fun j v hv => h j v (by rw [List.getElem?_append_left (List.getElem?_eq_some_iff.1 hv).1]; exact hv)
/-- A slice that is appended to, by one element: the old one holds what it held. -/
theorem run_append_fam {P : Program} (w : World) (ty t2 : TypeId) {i0 : TypeInfo} {z : Value} {bytes : Nat} (hu : P.underlying t2 = some (.slice F.e)) (hi : P.info? F.e = some i0) (hi0 : i0.zero = some z) (hi1 : i0.size = F.sz) (hi2 : i0.bytes = bytes) (hbz : bytes ≤ 64) (hz : z.cells.size = F.sz)
    {xs : List Value} (hown : RX F w x xs) (ad : Addr) (c : Nat) {news : List Value} (hl : news.length = F.sz) (hnews : ∀ j u, news[j]? = some u → w.cell? (ad.add j) = some u) (h1 : ∀ u ∈ news, u.oneCell' = true) (hb : x.n + 1 ≤ 1099511627776) :
    ∃ g' cap' w', (Builtin.append_ #[t2, t2] ty #[x.v, .slice (some ad) 1 c]).run P w = .ok (.slice (some ⟨g', 0, none⟩) (x.n + 1) cap') w' ∧ RX F w' ⟨some ⟨g', 0, none⟩, x.n + 1, cap'⟩ (xs ++ news) ∧ w.grownBy w' x.blk ∧ Hold w' x.ao xs ∧ (x.blk = some g' ∨ g' = w.heap.size) := by
  have hmx : x.n + 1 ≤ maxLen := by unfold maxLen; omega
  have hbb : (x.n + 1) * bytes ≤ 140737488355328 := Nat.le_trans (Nat.mul_le_mul hb hbz) (by decide)
  obtain ⟨g', cap', w', hr, ho, hg, hat, _⟩ := run_append_lies (P := P) w t2 ty 0 F.e i0 z F.sz bytes hu hi hi0 hi1 hi2 hz F.pos _ x.n xs hown ad 1 c news (by rw [Nat.one_mul]; exact hl) hnews h1 (by decide) hmx hbb (Nat.zero_le _) w.heap.size rfl
  rw [Sl.own] at hg hat
  refine ⟨g', cap', w', hr, ho, hg, ?_, hat⟩
  obtain ⟨ao, n, c0⟩ := x
  have hu0 := hown.hold
  obtain ⟨hlen, hn | ⟨g, cap, cur, hv, _, hh, hnc, hcm, hcs, htk⟩⟩ := id hown
  · intro j v hv
    have h0 : n = 0 := hn.2
    simp only at hlen
    rw [h0, Nat.zero_mul] at hlen
    rw [List.eq_nil_of_length_eq_zero hlen] at hv
    simp at hv
  · injection hv with e1 _ e3
    simp only at e1 e3 hlen
    subst e1 e3
    by_cases hroom : n + 1 ≤ c0
    · have hr2 := run_append_room (P := P) w t2 ty F.e i0 hu hi g n c0 cur hh ad 1 c news (by rw [hi1, Nat.one_mul]; exact hl) hnews h1 hroom (by
        rw [hi1, hl, hcs]
        have := Nat.mul_le_mul_right F.sz hroom
        rw [Nat.succ_mul] at this
        exact this)
      have hr3 : (Builtin.append_ #[t2, t2] ty #[Sl.v ⟨some ⟨g, 0, none⟩, n, c0⟩, .slice (some ad) 1 c]).run P w = _ := hr2
      rw [hr] at hr3
      injection hr3 with e _
      injection e with e _ _
      injection e with e
      injection e with e
      subst e
      exact (RX.hold (x := ⟨_, n + 1, cap'⟩) ho).left
    · have holds : ∀ j v, xs[j]? = some v → w.cell? ((⟨g, 0, none⟩ : Addr).add j) = some v := by
        intro j v hv
        obtain ⟨g2, e2, hc⟩ := hu0 j v hv
        cases e2
        rw [Addr.add_mid, Nat.zero_add]
        exact hc
      have hr2 := run_append_grow (P := P) w t2 ty F.e i0 z hu hi hi0 ⟨g, 0, none⟩ n c0 xs (by rw [hi1]; exact hlen) holds ad 1 c news (by rw [hi1, Nat.one_mul]; exact hl) hnews (by omega) (by simp only at hb; omega) (growslice_fits (by omega) (by rw [hi2]; exact hbb))
      have hr3 : (Builtin.append_ #[t2, t2] ty #[Sl.v ⟨some ⟨g, 0, none⟩, n, c0⟩, .slice (some ad) 1 c]).run P w = _ := hr2
      rw [hr] at hr3
      injection hr3 with _ e
      subst e
      have hlt : g < w.drew.heap.size := lt_of_heap hh
      intro j v hv
      obtain ⟨g2, e2, hc⟩ := hu0 j v hv
      cases e2
      exact ⟨g, rfl, (World.cell?_of_block (w := w) (heap_alloc_old w.drew _ hlt)).trans hc⟩
/-! ### Marks -/
def setsL : List Value → Nat → List Value → List Value
  | xs, _, [] => xs
  | xs, o, v :: vs => setsL (xs.set o v) (o + 1) vs
theorem setsL_take : ∀ (vs : List Value) (xs : List Value) (o : Nat), o + vs.length ≤ xs.length → (setsL xs o vs).take (o + vs.length) = xs.take o ++ vs
  | [], xs, o, _ => by simp [setsL]
  | v :: vs, xs, o, h => by
    rw [List.length_cons] at h
    have h1 := setsL_take vs (xs.set o v) (o + 1) (by rw [List.length_set]; omega)
    rw [setsL, List.length_cons, show o + (vs.length + 1) = o + 1 + vs.length from by omega, h1, List.take_succ_eq_append_getElem (by rw [List.length_set]; omega), List.take_set_of_le (Nat.le_refl _)]
    simp
theorem own_sets {B g cap n sz : Nat} {e : TypeId} : ∀ (vs : List Value) (o : Nat) (w : World) (xs : List Value), w.ownsRow B e sz (.slice (some ⟨g, 0, none⟩) n cap) n xs → (w.setCells g o vs).ownsRow B e sz (.slice (some ⟨g, 0, none⟩) n cap) n (setsL xs o vs)
  | [], _, _, _, h => h
  | v :: vs, o, w, _, h => own_sets vs (o + 1) (w.setCell ⟨g, o, none⟩ v) _ (own_setN h v)
theorem own_thereG {W : World} {B g n c k sz : Nat} {e : TypeId} {xs : List Value} (h : W.ownsRow B e sz (.slice (some ⟨g, 0, none⟩) n c) n xs) (hk : k < n) : W.there g (k * sz) sz := by
  intro j hj
  refine ⟨?_, own_frozenN h⟩
  obtain ⟨hl, hn | ⟨g2, c2, cur, hv, hb, hh, hnc, hcm, hcs, htk⟩⟩ := h
  · exact absurd hn.1 (by simp)
  · injection hv with e1 _ e3
    injection e1 with e1
    injection e1 with e1
    subst e1 e3
    have h3 : k + 1 ≤ c := by omega
    have h2 : (k + 1) * sz ≤ c * sz := Nat.mul_le_mul_right _ h3
    rw [Nat.succ_mul] at h2
    have h4 : k * sz + j < cur.size := by rw [hcs]; omega
    rw [cell_of_row _ _ _ _ _ _ hh, Array.getElem?_eq_getElem h4]
    rfl
theorem RX.there {g k : Nat} (h : RX F W x cs) (hao : x.ao = some ⟨g, 0, none⟩) (hk : k < x.n) : W.there g (k * F.sz) F.sz := by
  obtain ⟨ao, n, c⟩ := x
  simp only at hao hk
  subst hao
  exact own_thereG h hk
/-- While a row is marked: k elements are. -/
structure MkI (F : Fam) (w W : World) (x : Sl) (k a : Nat) : Prop where
  row : ∃ cs, RX F W x cs ∧ cs.take (k * F.sz) = rp F k a
  base : Fr (fun j => x.blk = some j) w W
theorem MkI.start (h : RX F w x cs) (a : Nat) : MkI F w w x 0 a := ⟨⟨cs, h, by rw [Nat.zero_mul]; rfl⟩, Fr.refl _ w⟩
theorem MkI.next {k a g : Nat} (h : MkI F w W x k a) (hao : x.ao = some ⟨g, 0, none⟩) (hk : k < x.n) : MkI F w (W.setCells g (k * F.sz) (F.mrk a)) x (k + 1) a := by
  obtain ⟨⟨cs, h1, h2⟩, h3⟩ := h
  have hb : x.blk = some g := by unfold Sl.blk; rw [hao]; rfl
  refine ⟨⟨setsL cs (k * F.sz) (F.mrk a), ?_, ?_⟩, Fr.trans h3 (Fr.setCells (S := fun j => x.blk = some j) (fun _ => hb) _ _ W (Fr.refl _ W)) (fun j _ e => e)⟩
  · obtain ⟨ao, n, c⟩ := x
    simp only at hao
    subst hao
    exact own_sets _ _ _ _ h1
  · have hl := h1.1
    have h4 : (k + 1) * F.sz ≤ x.n * F.sz := Nat.mul_le_mul_right _ hk
    rw [Nat.succ_mul] at h4
    have := setsL_take (F.mrk a) cs (k * F.sz) (by rw [F.len, hl]; exact h4)
    rw [F.len] at this
    rw [Nat.succ_mul, this, h2, rp_succ]
theorem MkI.done {a : Nat} (h : MkI F w W x x.n a) : RX F W x (rp F x.n a) := by
  obtain ⟨⟨cs, h1, h2⟩, _⟩ := h
  rw [← h1.1, List.take_length] at h2
  rw [← h2]
  exact h1
/-- One row under way: k marks more behind it. -/
structure Gr (F : Fam) (w W : World) (x : Sl) (a b k : Nat) (r : Sl) : Prop where
  n : r.n = x.n + k
  row : RX F W r (rp F x.n a ++ rp F k b)
  old : Hold W x.ao (rp F x.n a)
  lt : ∀ j, x.blk = some j → j < w.heap.size
  at_ : r.ao = x.ao ∨ ∃ g, r.ao = some ⟨g, 0, none⟩ ∧ w.heap.size ≤ g
  base : Fr (fun j => x.blk = some j) w W
theorem Gr.start {a : Nat} (h : RX F w x (rp F x.n a)) (b : Nat) : Gr F w w x a b 0 x :=
  ⟨rfl, by rw [rp_zero, List.append_nil]; exact h, h.hold, fun j hj => (h.at_ hj).2.1, Or.inl rfl, Fr.refl _ w⟩
theorem Gr.same {a b k : Nat} (h : Gr F w W x a b k r) (s : Same W W') : Gr F w W' x a b k r :=
  ⟨h.n, h.row.fr s (fun _ _ e => e), h.old.fr s (fun _ _ e => e), h.lt, h.at_, Fr.trans h.base s (fun _ _ e => e.elim)⟩
theorem Gr.step {a b k g' cap' : Nat} (h : Gr F w W x a b k r) (o2 : RX F W' ⟨some ⟨g', 0, none⟩, r.n + 1, cap'⟩ ((rp F x.n a ++ rp F k b) ++ F.mrk b)) (gr : W.grownBy W' r.blk) (kp : Hold W' r.ao (rp F x.n a ++ rp F k b)) (at2 : r.blk = some g' ∨ g' = W.heap.size) :
    Gr F w W' x a b (k + 1) ⟨some ⟨g', 0, none⟩, r.n + 1, cap'⟩ := by
  have f : Fr (fun j => r.blk = some j) W W' := Fr.grown (Fr.refl _ _) gr (fun j e _ => e)
  have hsz := h.base.size
  refine ⟨by show r.n + 1 = _; rw [h.n]; omega, by rw [rp_succ, ← List.append_assoc]; exact o2, ?_, h.lt, ?_, Fr.trans h.base f (fun j hj e => ?_)⟩
  · rcases h.at_ with e | ⟨g, e, hg⟩
    · rw [e] at kp; exact kp.left
    · refine h.old.fr f (fun j hj e2 => ?_)
      have h1 := h.lt j hj
      unfold Sl.blk at e2
      rw [e] at e2
      have : g = j := by simpa using e2
      omega
  · rcases at2 with e2 | e2
    · rcases h.at_ with e | ⟨g, e, hg⟩
      · left
        rw [← e, (h.row.at_ e2).1]
      · right
        unfold Sl.blk at e2
        rw [e] at e2
        have : g = g' := by simpa using e2
        exact ⟨g', rfl, by omega⟩
    · exact Or.inr ⟨g', rfl, by omega⟩
  · rcases h.at_ with e2 | ⟨g, e2, hg⟩
    · unfold Sl.blk at e ⊢
      rw [← e2]; exact e
    · unfold Sl.blk at e
      rw [e2] at e
      have : g = j := by simpa using e
      omega
theorem Hold.at_ {ao : Option Addr} {n a k i : Nat} {v : Value} {t : List Value} (h : Hold W ao (rp F n a ++ t)) (hk : k < n) (hv : (F.mrk a)[i]? = some v) : ∃ g, ao = some ⟨g, 0, none⟩ ∧ W.cell? ⟨g, k * F.sz + i, none⟩ = some v :=
  h.left _ _ (rp_at F hk hv)
theorem Hold.at2 {ao : Option Addr} {n m a b k i : Nat} {v : Value} (h : Hold W ao (rp F n a ++ rp F m b)) (hk : n ≤ k) (hk2 : k < n + m) (hv : (F.mrk b)[i]? = some v) : ∃ g, ao = some ⟨g, 0, none⟩ ∧ W.cell? ⟨g, k * F.sz + i, none⟩ = some v := by
  refine h _ _ ?_
  obtain ⟨d, rfl⟩ := Nat.exists_eq_add_of_le hk
  rw [Nat.add_mul, Nat.add_assoc, List.getElem?_append_right (by rw [rp_len]; omega), rp_len, Nat.add_sub_cancel_left]
  exact rp_at F (by omega) hv
end
end Go.Proofs.Ytjlbkagkmcelgaa
