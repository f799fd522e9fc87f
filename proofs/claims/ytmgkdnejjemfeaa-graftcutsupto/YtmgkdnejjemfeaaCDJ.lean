/- Plain: the document's best cut is the program's. -/
import Derived.Test.YtmgkdnejjemfeaaFHJ
import Derived.Test.YtmgkdnejjemfeaaCB
namespace Go.Proofs.Ytmgkdnejjemfeaa
open Go.RowKit

abbrev CutN : Type := Nat × Nat × Nat
end Go.Proofs.Ytmgkdnejjemfeaa
namespace Go.Proofs.Ytmgkdnejjemfeaa
open Go.RowKit

theorem Try.infCut : (Try.prog.info? 40).map (fun i => (i.zero, i.size, i.bytes)) = some (some (.agg #[.int .i64 0, .int .i64 0, .int .i64 0]), 3, 24) := by kernel_rfl
theorem run_partCuts (w : World) (ty : TypeId) {B n : Nat} {v : Value} {xs : List Value} (hown : w.ownsRow B 40 3 v n xs) {x : Part} (hx : PartOk w 3 x) (hb : n + x.n ≤ 1099511627776) (hB : B ≤ w.heap.size) :
    ∃ v' w', (Builtin.append_ #[32, 32] ty #[v, .slice x.ao x.n x.c]).run Try.prog w = .ok v' w' ∧ w'.ownsRow B 40 3 v' (n + x.n) (xs ++ x.cells) ∧ w.grownBy w' v.ownBlock := by
  obtain ⟨i0, hi, hz0, hz1, hz2⟩ := info_parts Try.infCut
  obtain ⟨ao, m, c, cs⟩ := x
  cases ao with
  | none =>
    obtain ⟨e1, e2⟩ := hx.none rfl
    have e3 := hx.len
    simp only at e1 e2 e3
    subst e1 e2
    have e4 : cs = [] := List.eq_nil_of_length_eq_zero (by omega)
    subst e4
    refine ⟨v, w, run_append_owned_none (P := Try.prog) (w := w) B 32 ty 40 i0 3 Try.underlying32 hi v n xs hown, ?_, ⟨rfl, rfl, rfl, Nat.le_refl _, fun _ _ _ => rfl⟩⟩
    rw [List.append_nil]; exact hown
  | some a =>
    simp only at hb
    obtain ⟨v', w', h1, h2, h3, _⟩ := run_append_own (P := Try.prog) w B 32 ty 40 i0 (.agg #[.int .i64 0, .int .i64 0, .int .i64 0]) 3 24 Try.underlying32 hi hz0 hz1 hz2 rfl (by decide) v n xs hown a m c cs hx.len (hx.at_ a rfl) hx.one (by unfold maxLen; omega) (by omega) hB
    exact ⟨v', w', h1, h2, h3⟩
theorem step_partCuts (w : World) {ops : Array Oper} {o : Oper} {a : Act} {K : Act → World → Prop} {Q : Exit → Act → World → Prop} {E : Prop} (hgd : o.guard = none) (sl y : Operand)
    (ho : o.op = .call { callee := .builtin .append, args := #[sl, y], argTypes := #[32, 32] }) {B n : Nat} {v : Value} {xs : List Value} (hs : a.eval sl = v) (hown : w.ownsRow B 40 3 v n xs) {x : Part} (hy : a.eval y = .slice x.ao x.n x.c) (hx : PartOk w 3 x) (hb : n + x.n ≤ 1099511627776) (hB : B ≤ w.heap.size)
    (hk : ∀ ao c w', w'.ownsRow B 40 3 (.slice ao (n + x.n) c) (n + x.n) (xs ++ x.cells) → w.grownBy w' v.ownBlock → K (a.put o.dst (.slice ao (n + x.n) c)) w') :
    if Region.wanted o (yielded ops a.tmps) = true then Oper.wp Try.prog o a w K Q else E := by
  rw [if_pos (by simp [Region.wanted, hgd])]
  obtain ⟨v', w', hr, h2, h3⟩ := run_partCuts w o.type hown hx hb hB
  obtain ⟨ao, c, rfl⟩ := own_shape h2
  unfold Oper.wp execOp
  simp only [ho, resolve, invoke, builtin, Sem.run_bind, Sem.run_pure, Result.andThen_ok, List.map_toArray, List.map_cons, List.map_nil, hs, hy, hr]
  exact hk ao c w' h2 h3
def ccells (L : List CutN) : List Value := L.flatMap fun x => [.int .i64 (x.1 : Int), .int .i64 (x.2.1 : Int), .int .i64 (x.2.2 : Int)]
theorem ccells_app (a b : List CutN) : ccells (a ++ b) = ccells a ++ ccells b := List.flatMap_append
/-- All cuts from a place on. -/
def cutsL (fr k : Nat) (a b : Nat → Nat) : List CutN := (List.range k).map fun j => (j + fr, a (j + fr), b (j + fr))
theorem cutsL_succ (fr k : Nat) (a b : Nat → Nat) : cutsL fr (k + 1) a b = cutsL fr k a b ++ [(k + fr, a (k + fr), b (k + fr))] := by
  unfold cutsL; rw [List.range_succ, List.map_append]; rfl
theorem part_three {W : World} {g : Nat} {x y z : Value} (t : TypeId) (fr : Nat × Nat) (h : W.heap[g]? = some (.cells #[x, y, z] t fr)) (hx : x.oneCell' = true) (hy : y.oneCell' = true) (hz : z.oneCell' = true) : PartOk W 3 ⟨some ⟨g, 0, none⟩, 1, 1, [x, y, z]⟩ :=
  ⟨rfl, fun e => (by cases e), fun a ha j u hj => by
    cases ha
    rw [WideShapes.add_plain, Nat.zero_add, cell_of_row _ _ _ _ _ _ h, ← Array.getElem?_toList]
    exact hj, fun u hu => by
      simp only [List.mem_cons, List.not_mem_nil, or_false] at hu
      rcases hu with rfl | rfl | rfl
      · exact hx
      · exact hy
      · exact hz⟩
set_option maxRecDepth 100000 in
set_option maxHeartbeats 8000000 in
theorem dcuts_leaf {p q : Int} {r : Nr} {N : Nd} {k : Nat} {N1 N2 : Nat → Nd} {sp : Nat → ByteArray} {a b : Nat → Nat} (w : World) (hk : k = N.ps.length - 1) (hn : N.ps.length ≤ 1048576)
    (HK : Hid (∀ W, Same w W → Calls Try.prog 16 #[frameV p q, ndV r N] W fun e w' => e = .returned (.int .i64 0) ∧ Same W w'))
    (HLf : Hid (∀ W, Calls Try.prog 17 #[ndV r N] W fun e w' => e = .returned (.bool true) ∧ Same W w'))
    (HCut : Hid (∀ W i, Same w W → 1 ≤ i → i < k + 1 → Calls Try.prog 18 #[ndV r N, .int .i64 (i : Int)] W fun e w' => ∃ r1 r2, e = .returned (.agg (halvesN r1 r2 (N1 i) (N2 i) (sp i))) ∧ MadeNd w' W.heap.size r1 (N1 i) ∧ MadeNd w' W.heap.size r2 (N2 i) ∧ Same W w'))
    (HZ1 : Hid (∀ W B i r', 1 ≤ i → i < k + 1 → MadeNd W B r' (N1 i) → Calls Try.prog 19 #[frameV p q, ndV r' (N1 i)] W fun e w' => e = .returned (.int .i64 (a i : Int)) ∧ Same W w'))
    (HZ2 : Hid (∀ W B i r', 1 ≤ i → i < k + 1 → MadeNd W B r' (N2 i) → Calls Try.prog 19 #[frameV p q, ndV r' (N2 i)] W fun e w' => e = .returned (.int .i64 (b i : Int)) ∧ Same W w')) :
    Calls Try.prog 7 #[frameV p q, ndV r N] w fun e w' => ∃ ao c, e = .returned (.slice ao k c) ∧ w'.ownsRow w.heap.size 40 3 (.slice ao k c) k (ccells (cutsL 1 k a b)) ∧ Same w w' := by
  obtain ⟨V, hV⟩ : ∃ V, V = (w.alloc (.cells #[.int .i64 p, .int .i64 q] 23)).alloc (.cells #[.slice r.pa N.ps.length r.cp, .slice r.sa N.ss.length r.cs, .slice r.ka N.ks.length r.ck] 28) := ⟨_, rfl⟩
  have t1 : Same w V := by rw [hV]; exact ((Fr.refl _ w).alloc _).alloc _
  have a0 : V.cell? ⟨w.heap.size, 0, none⟩ = some (.int .i64 p) := by rw [hV]; simp
  have a1 : V.cell? ⟨w.heap.size, 1, none⟩ = some (.int .i64 q) := by rw [hV]; simp
  have n0 : V.cell? ⟨w.heap.size + 1, 0, none⟩ = some (.slice r.pa N.ps.length r.cp) := by rw [hV]; simp
  have n1 : V.cell? ⟨w.heap.size + 1, 1, none⟩ = some (.slice r.sa N.ss.length r.cs) := by rw [hV]; simp
  have n2 : V.cell? ⟨w.heap.size + 1, 2, none⟩ = some (.slice r.ka N.ks.length r.ck) := by rw [hV]; simp
  have HC : Hid (∀ W, Same V W → (W.cell? ⟨w.heap.size, 0, none⟩ = some (.int .i64 p) ∧ W.cell? ⟨w.heap.size, 1, none⟩ = some (.int .i64 q)) ∧ W.cell? ⟨w.heap.size + 1, 0, none⟩ = some (.slice r.pa N.ps.length r.cp) ∧ W.cell? ⟨w.heap.size + 1, 1, none⟩ = some (.slice r.sa N.ss.length r.cs) ∧ W.cell? ⟨w.heap.size + 1, 2, none⟩ = some (.slice r.ka N.ks.length r.ck)) := fun W s => ⟨⟨s.keep a0, s.keep a1⟩, s.keep n0, s.keep n1, s.keep n2⟩
  have HVZ : Hid (w.heap.size ≤ V.heap.size) := t1.size
  obtain ⟨TT, hTT⟩ : ∃ TT : Int, TT = (N.ps.length : Int) - 1 := ⟨_, rfl⟩
  have HTT : Hid (TT < (k : Int) + 1 ∧ (k ≠ 0 → TT = (k : Int))) := ⟨by omega, fun h => by omega⟩
  have wT : RowKit.wrap64 ((N.ps.length : Int) - 1) = TT := by unfold RowKit.wrap64; omega
  have wT2 : IntKind.i64.wrap ((N.ps.length : Int) - 1) = TT := by rw [IntKind.wrap_i64]; omega
  have HL : Hid (k ≤ 1048576) := by show k ≤ _; omega
  clear hTT hk hn
  unfold ndV nodeV at HK HLf HCut ⊢
  go_enter Try.func7, Try.ntmps7
  go_wp2_with fail
  rw [← hV]
  clear hV
  refine (HK.out _ t1).mono ?_
  rintro e W1 ⟨rfl, s1⟩
  clear a0 a1 n0 n1 n2
  obtain ⟨⟨a0, a1⟩, n0, n1, n2⟩ := HC.out _ s1
  go_wp2_with fail
  refine (HLf.out _).mono ?_
  rintro e W2 ⟨rfl, s2⟩
  have s2 := s1.trans s2
  clear a0 a1 n0 n1 n2
  obtain ⟨⟨a0, a1⟩, n0, n1, n2⟩ := HC.out _ s2
  go_wp2_with fail
  go_loopg [5, 8] k (fun g lv iv wr => ∃ (j : Nat) (ao : Option Addr) (c : Nat), lv = .slice ao j c ∧ iv = .int .i64 ((j + 1 : Nat) : Int) ∧ j ≤ k ∧ g = k - j ∧ Hid (wr.ownsRow V.heap.size 40 3 (.slice ao j c) j (ccells (cutsL 1 j a b))) ∧ Hid (Same V wr))
  case atStart => exact ⟨0, none, 0, rfl, rfl, by omega, rfl, own_nil, s2⟩
  case round =>
    clear a0 a1 n0 n1 n2
    obtain ⟨j, ao, c, rfl, rfl, hj, hg, HO, HS⟩ := hrel
    obtain ⟨⟨a0, a1⟩, n0, n1, n2⟩ := HC.out _ HS.out
    obtain ⟨I, hI⟩ : ∃ I, I = j + 1 := ⟨_, rfl⟩
    rw [← hI]
    have HI : Hid (I = j + 1) := hI
    by_cases hgo : j < k
    · have hle : (I : Int) ≤ TT := by have := HTT.out.2 (by omega); omega
      have hb1 : 1 ≤ I := by omega
      have hb2 : I < k + 1 := by omega
      have HB : Hid (1 ≤ I ∧ I < k + 1) := ⟨hb1, hb2⟩
      clear hI hb1 hb2
      go_wp2_with fail
      refine (HCut.out _ I (t1.trans HS.out) HB.out.1 HB.out.2).mono ?_
      rintro e W3 ⟨r1, r2, rfl, m1, m2, s3⟩
      unfold halvesN
      obtain ⟨X, hX⟩ : ∃ X, X = W3.alloc (.cells #[.slice r1.pa (N1 I).ps.length r1.cp, .slice r1.sa (N1 I).ss.length r1.cs, .slice r1.ka (N1 I).ks.length r1.ck, .string (sp I), .slice r2.pa (N2 I).ps.length r2.cp, .slice r2.sa (N2 I).ss.length r2.cs, .slice r2.ka (N2 I).ks.length r2.ck] 50) := ⟨_, rfl⟩
      have sX : Same wr X := by rw [hX]; exact Fr.alloc s3 _
      have rX : X.heap[W3.heap.size]? = some (.cells #[.slice r1.pa (N1 I).ps.length r1.cp, .slice r1.sa (N1 I).ss.length r1.cs, .slice r1.ka (N1 I).ks.length r1.ck, .string (sp I), .slice r2.pa (N2 I).ps.length r2.cp, .slice r2.sa (N2 I).ss.length r2.cs, .slice r2.ka (N2 I).ks.length r2.ck] 50 (0, 0)) := by rw [hX]; exact heap_alloc_new W3 _
      obtain ⟨hb, hhb⟩ : ∃ hb, hb = W3.heap.size := ⟨_, rfl⟩
      rw [← hhb] at rX
      have M1 : MadeNd X wr.heap.size r1 (N1 I) := by rw [hX]; exact m1.same ((Fr.refl _ _).alloc _)
      have M2 : MadeNd X wr.heap.size r2 (N2 I) := by rw [hX]; exact m2.same ((Fr.refl _ _).alloc _)
      have HM : Hid (MadeNd X wr.heap.size r1 (N1 I) ∧ MadeNd X wr.heap.size r2 (N2 I)) := ⟨M1, M2⟩
      have HH : Hid (∀ W : World, W.heap[hb]? = X.heap[hb]? → HCells W hb r1 r2 (N1 I) (N2 I) (sp I)) := fun W e => hcells_row (e.trans rX)
      have OX : X.ownsRow V.heap.size 40 3 (.slice ao j c) j (ccells (cutsL 1 j a b)) := own_frameB HO.out sX (fun _ _ f => f)
      have HOX : Hid (X.ownsRow V.heap.size 40 3 (.slice ao j c) j (ccells (cutsL 1 j a b))) := OX
      have HSX : Hid (Same V X) := HS.out.trans sX
      have HRX : Hid (X.heap[hb]? = some (.cells #[.slice r1.pa (N1 I).ps.length r1.cp, .slice r1.sa (N1 I).ss.length r1.cs, .slice r1.ka (N1 I).ks.length r1.ck, .string (sp I), .slice r2.pa (N2 I).ps.length r2.cp, .slice r2.sa (N2 I).ss.length r2.cs, .slice r2.ka (N2 I).ks.length r2.ck] 50 (0, 0))) := rX
      unfold HCells at HH
      clear m1 m2 s3 sX rX M1 M2 OX HO HS
      clear a0 a1 n0 n1 n2
      obtain ⟨⟨a0, a1⟩, n0, n1, n2⟩ := HC.out _ HSX.out
      obtain ⟨h0, h1, h2, h3, h4, h5, h6⟩ := HH.out X rfl
      rw [hX] at a0 a1 n0 n1 n2 h0 h1 h2 h3 h4 h5 h6
      rw [hhb] at h0 h1 h2 h3 h4 h5 h6
      go_wp2_with fail
      rw [← hX, ← hhb]
      rw [← hX] at a0 a1 n0 n1 n2 h0 h1 h2 h3 h4 h5 h6
      rw [← hhb] at h0 h1 h2 h3 h4 h5 h6
      clear hX hhb
      have d0 : Same X X.drew := Fr.drew (Fr.refl _ _)
      have lx : hb < X.heap.size := lt_of_heap HRX.out
      refine wp_region_held_drew (S := fun Y => (Y.cell? ⟨w.heap.size, 0, none⟩ = some (.int .i64 p) ∧ Y.cell? ⟨w.heap.size, 1, none⟩ = some (.int .i64 q)) ∧ Y.cell? ⟨hb, 0, none⟩ = some (.slice r1.pa (N1 I).ps.length r1.cp) ∧ Y.cell? ⟨hb, 1, none⟩ = some (.slice r1.sa (N1 I).ss.length r1.cs) ∧ Y.cell? ⟨hb, 2, none⟩ = some (.slice r1.ka (N1 I).ks.length r1.ck) ∧ Y.cell? ⟨hb, 3, none⟩ = some (.string (sp I)) ∧ Y.cell? ⟨hb, 4, none⟩ = some (.slice r2.pa (N2 I).ps.length r2.cp) ∧ Y.cell? ⟨hb, 5, none⟩ = some (.slice r2.sa (N2 I).ss.length r2.cs) ∧ Y.cell? ⟨hb, 6, none⟩ = some (.slice r2.ka (N2 I).ks.length r2.ck)) (by kernel_rfl) (⟨(HC.out _ (HSX.out.trans d0)).1, HH.out _ (d0.block _ lx (fun e => e))⟩) (fun hHeld => ?_)
      generalize X.drew = D0 at *
      refine wpAnyH_take (i := 0) (oi := { dst := some 35, op := Go.Op.move (Go.Operand.tmp 5), type := 32, pos := "ref.go:179", after := #[], guard := none }) (v := .slice ao j c) rfl (by kernel_rfl) (by kernel_rfl) (by kernel_rfl) (fun _ _ _ h => h) (Or.inl ⟨by rfl, fun w hSw => by (obtain ⟨⟨z0, z1⟩, z2, z3, z4, z5, z6, z7, z8⟩ := hSw; go_simp)⟩) (by assumption) ?_
      try simp only [Act.put, List.setIfInBounds_toArray, List.set_cons_zero, List.set_cons_succ]
      refine wpAnyH_take (i := 1) (oi := { dst := some 36, op := Go.Op.move (Go.Operand.tmp 8), type := 3, pos := "ref.go:179", after := #[], guard := none }) (v := .int .i64 (I : Int)) rfl (by kernel_rfl) (by kernel_rfl) (by kernel_rfl) (fun _ _ _ h => h) (Or.inl ⟨by rfl, fun w hSw => by (obtain ⟨⟨z0, z1⟩, z2, z3, z4, z5, z6, z7, z8⟩ := hSw; go_simp)⟩) (by assumption) ?_
      try simp only [Act.put, List.setIfInBounds_toArray, List.set_cons_zero, List.set_cons_succ]
      refine wpAnyH_take (i := 2) (oi := { dst := some 37, op := Go.Op.load 23 (Go.Operand.tmp 2), type := 23, pos := "ref.go:179", after := #[], guard := none }) (v := .agg #[.int .i64 p, .int .i64 q]) rfl (by kernel_rfl) (by kernel_rfl) (by kernel_rfl) (fun _ _ _ h => h) (Or.inl ⟨by rfl, fun w hSw => by (obtain ⟨⟨z0, z1⟩, z2, z3, z4, z5, z6, z7, z8⟩ := hSw; go_simp)⟩) (by assumption) ?_
      try simp only [Act.put, List.setIfInBounds_toArray, List.set_cons_zero, List.set_cons_succ]
      refine wpAnyH_take (i := 3) (oi := { dst := some 38, op := Go.Op.fieldAddr 50 (Go.Operand.tmp 9) 0, type := 0, pos := "ref.go:179", after := #[], guard := none }) (v := .pointer (some ⟨hb, 0, none⟩)) rfl (by kernel_rfl) (by kernel_rfl) (by kernel_rfl) (fun _ _ _ h => h) (Or.inl ⟨by rfl, fun w hSw => by (obtain ⟨⟨z0, z1⟩, z2, z3, z4, z5, z6, z7, z8⟩ := hSw; go_simp)⟩) (by assumption) ?_
      try simp only [Act.put, List.setIfInBounds_toArray, List.set_cons_zero, List.set_cons_succ]
      refine wpAnyH_take (i := 4) (oi := { dst := some 39, op := Go.Op.load 28 (Go.Operand.tmp 38), type := 28, pos := "ref.go:179", after := #[{ on := 3, ground := Go.Ground.data }], guard := none }) (v := .agg #[.slice r1.pa (N1 I).ps.length r1.cp, .slice r1.sa (N1 I).ss.length r1.cs, .slice r1.ka (N1 I).ks.length r1.ck]) rfl (by kernel_rfl) (by kernel_rfl) (by kernel_rfl) (fun _ _ _ h => h) (Or.inl ⟨by rfl, fun w hSw => by (obtain ⟨⟨z0, z1⟩, z2, z3, z4, z5, z6, z7, z8⟩ := hSw; go_simp)⟩) (by assumption) ?_
      try simp only [Act.put, List.setIfInBounds_toArray, List.set_cons_zero, List.set_cons_succ]
      refine wpAnyH_take (i := 6) (oi := { dst := some 41, op := Go.Op.load 23 (Go.Operand.tmp 2), type := 23, pos := "ref.go:179", after := #[], guard := none }) (v := .agg #[.int .i64 p, .int .i64 q]) rfl (by kernel_rfl) (by kernel_rfl) (by kernel_rfl) (fun _ _ _ h => h) (Or.inl ⟨by rfl, fun w hSw => by (obtain ⟨⟨z0, z1⟩, z2, z3, z4, z5, z6, z7, z8⟩ := hSw; go_simp)⟩) (by assumption) ?_
      try simp only [Act.put, List.setIfInBounds_toArray, List.set_cons_zero, List.set_cons_succ]
      refine wpAnyH_take (i := 7) (oi := { dst := some 42, op := Go.Op.fieldAddr 50 (Go.Operand.tmp 9) 2, type := 0, pos := "ref.go:179", after := #[], guard := none }) (v := .pointer (some ⟨hb, 4, none⟩)) rfl (by kernel_rfl) (by kernel_rfl) (by kernel_rfl) (fun _ _ _ h => h) (Or.inl ⟨by rfl, fun w hSw => by (obtain ⟨⟨z0, z1⟩, z2, z3, z4, z5, z6, z7, z8⟩ := hSw; go_simp)⟩) (by assumption) ?_
      try simp only [Act.put, List.setIfInBounds_toArray, List.set_cons_zero, List.set_cons_succ]
      refine wpAnyH_take (i := 8) (oi := { dst := some 43, op := Go.Op.load 28 (Go.Operand.tmp 42), type := 28, pos := "ref.go:179", after := #[{ on := 7, ground := Go.Ground.data }], guard := none }) (v := .agg #[.slice r2.pa (N2 I).ps.length r2.cp, .slice r2.sa (N2 I).ss.length r2.cs, .slice r2.ka (N2 I).ks.length r2.ck]) rfl (by kernel_rfl) (by kernel_rfl) (by kernel_rfl) (fun _ _ _ h => h) (Or.inl ⟨by rfl, fun w hSw => by (obtain ⟨⟨z0, z1⟩, z2, z3, z4, z5, z6, z7, z8⟩ := hSw; go_simp)⟩) (by assumption) ?_
      try simp only [Act.put, List.setIfInBounds_toArray, List.set_cons_zero, List.set_cons_succ]
      refine wpAnyH_ready (rs := [5]) (by kernel_rfl) (by simp) ?_
      refine AllReadyH.cons (o := { dst := some 40, op := Go.Op.call { callee := Go.Callee.value (Go.Operand.func 19), args := #[Go.Operand.tmp 37, Go.Operand.tmp 39], argTypes := #[23, 28] }, type := 3, pos := "ref.go:179", after := #[{ on := 2, ground := Go.Ground.data }, { on := 4, ground := Go.Ground.data }], guard := none }) rfl (fun K hK => ?_) AllReadyH.nil
      go_simp
      go_at_call 19
      refine (HZ1.out _ _ _ _ HB.out.1 HB.out.2 (HM.out.1.same d0)).mono ?_
      rintro e Z1 ⟨rfl, q1⟩
      try go_wp2_with fail
      have d1 := d0.trans q1
      refine hK.out _ _ (⟨(HC.out _ (HSX.out.trans d1)).1, HH.out _ (d1.block _ lx (fun e => e))⟩) (fun hHeld => ?_)
      clear hK K
      try simp only [Act.put, List.setIfInBounds_toArray, List.set_cons_zero, List.set_cons_succ]
      refine wpAnyH_ready (rs := [9]) (by kernel_rfl) (by simp) ?_
      refine AllReadyH.cons (o := { dst := some 44, op := Go.Op.call { callee := Go.Callee.value (Go.Operand.func 19), args := #[Go.Operand.tmp 41, Go.Operand.tmp 43], argTypes := #[23, 28] }, type := 3, pos := "ref.go:179", after := #[{ on := 6, ground := Go.Ground.data }, { on := 8, ground := Go.Ground.data }, { on := 5, ground := Go.Ground.chain }], guard := none }) rfl (fun K hK => ?_) AllReadyH.nil
      go_simp
      go_at_call 19
      refine (HZ2.out _ _ _ _ HB.out.1 HB.out.2 (HM.out.2.same d1)).mono ?_
      rintro e Z2 ⟨rfl, q2⟩
      try go_wp2_with fail
      have d2 := d1.trans q2
      refine hK.out _ _ (⟨(HC.out _ (HSX.out.trans d2)).1, HH.out _ (d2.block _ lx (fun e => e))⟩) (fun hHeld => ?_)
      clear hK K
      try simp only [Act.put, List.setIfInBounds_toArray, List.set_cons_zero, List.set_cons_succ]
      refine wpAnyH_take (i := 10) (oi := { dst := some 45, op := Go.Op.build 40 #[(0, Go.Operand.tmp 36), (1, Go.Operand.tmp 40), (2, Go.Operand.tmp 44)], type := 40, pos := "ref.go:179", after := #[{ on := 1, ground := Go.Ground.data }, { on := 5, ground := Go.Ground.data }, { on := 9, ground := Go.Ground.data }], guard := none }) (v := .agg #[.int .i64 (I : Int), .int .i64 (a I : Int), .int .i64 (b I : Int)]) rfl (by kernel_rfl) (by kernel_rfl) (by kernel_rfl) (fun _ _ _ h => h) (Or.inl ⟨by rfl, fun w hSw => by (obtain ⟨⟨z0, z1⟩, z2, z3, z4, z5, z6, z7, z8⟩ := hSw; go_simp)⟩) (by assumption) ?_
      try simp only [Act.put, List.setIfInBounds_toArray, List.set_cons_zero, List.set_cons_succ]
      have d3 : Same X (Z2.alloc (.cells #[.int .i64 (I : Int), .int .i64 (a I : Int), .int .i64 (b I : Int)] 40)) := Fr.alloc d2 _
      have r3 := heap_alloc_new Z2 (.cells #[.int .i64 (I : Int), .int .i64 (a I : Int), .int .i64 (b I : Int)] 40)
      refine wpAnyH_ready (rs := [11]) (by kernel_rfl) (by simp) ?_
      refine AllReadyH.cons (o := { dst := some 46, op := Go.Op.buildSlice 32 1 #[(0, Go.Operand.tmp 45)], type := 32, pos := "ref.go:179", after := #[{ on := 10, ground := Go.Ground.data }], guard := none }) rfl (fun K hK => ?_) AllReadyH.nil
      go_simp
      refine hK.out _ _ ⟨(HC.out _ (HSX.out.trans d3)).1, HH.out _ (d3.block _ lx (fun e => e))⟩ (fun hHeld => ?_)
      clear hK K
      try simp only [Act.put, List.setIfInBounds_toArray, List.set_cons_zero, List.set_cons_succ]
      have o3 := own_frameB HOX.out d3 (fun _ _ f => f)
      refine wpAnyH_ready (rs := [12]) (by kernel_rfl) (by simp) ?_
      refine AllReadyH.cons (o := { dst := some 47, op := Go.Op.call { callee := Go.Callee.builtin Go.Builtin.append, args := #[Go.Operand.tmp 35, Go.Operand.tmp 46], argTypes := #[32, 32] }, type := 32, pos := "ref.go:179", after := #[{ on := 0, ground := Go.Ground.data }, { on := 11, ground := Go.Ground.data }, { on := 9, ground := Go.Ground.chain }], guard := none }) rfl (fun K hK => ?_) AllReadyH.nil
      refine step_partCuts (B := V.heap.size) _ rfl _ _ rfl (by rfl) o3 (x := ⟨some ⟨Z2.heap.size, 0, none⟩, 1, 1, [.int .i64 (I : Int), .int .i64 (a I : Int), .int .i64 (b I : Int)]⟩) (by rfl) (part_three _ _ r3 rfl rfl rfl) (by have := HL.out; simp only; omega) ((HSX.out.trans d3).size) ?_
      intro ao4 c4 W4 o4 g4
      have f4 : Fr (fun k => Value.ownBlock (.slice ao j c) = some k) (Z2.alloc (.cells #[.int .i64 (I : Int), .int .i64 (a I : Int), .int .i64 (b I : Int)] 40)) W4 := Fr.grown (Fr.refl _ _) g4 (fun k hk _ => hk)
      have v4 : Same V W4 := Fr.grown (HSX.out.trans d3) g4 (fun k hk hl => by have := o3.lt k hk; omega)
      have b4 : W4.heap[hb]? = X.heap[hb]? := (f4.block hb (Nat.lt_of_lt_of_le lx d3.size) (fun e => type_ne o3 ((d3.block hb lx (fun e => e)).trans HRX.out) (by decide) e)).trans (d3.block hb lx (fun e => e))
      refine hK.out _ _ ⟨(HC.out _ (v4)).1, HH.out _ (b4)⟩ (fun hHeld => ?_)
      clear hK K
      try simp only [Act.put, List.setIfInBounds_toArray, List.set_cons_zero, List.set_cons_succ]
      refine wpAnyH_take (i := 13) (oi := { dst := some 5, op := Go.Op.assign (Go.Operand.tmp 47), type := 32, pos := "ref.go:179", after := #[{ on := 12, ground := Go.Ground.data }, { on := 12, ground := Go.Ground.chain }, { on := 0, ground := Go.Ground.phase }, { on := 1, ground := Go.Ground.phase }, { on := 2, ground := Go.Ground.phase }, { on := 3, ground := Go.Ground.phase }, { on := 4, ground := Go.Ground.phase }, { on := 5, ground := Go.Ground.phase }, { on := 6, ground := Go.Ground.phase }, { on := 7, ground := Go.Ground.phase }, { on := 8, ground := Go.Ground.phase }, { on := 9, ground := Go.Ground.phase }, { on := 10, ground := Go.Ground.phase }, { on := 11, ground := Go.Ground.phase }, { on := 12, ground := Go.Ground.phase }], guard := none }) (v := .slice ao4 (j + 1) c4) rfl (by kernel_rfl) (by kernel_rfl) (by kernel_rfl) (fun _ _ _ h => h) (Or.inl ⟨by rfl, fun w hSw => by (obtain ⟨⟨z0, z1⟩, z2, z3, z4, z5, z6, z7, z8⟩ := hSw; go_simp)⟩) (by assumption) ?_
      try simp only [Act.put, List.setIfInBounds_toArray, List.set_cons_zero, List.set_cons_succ]
      refine wpAnyH_done (by kernel_rfl) ?_ _
      have HO4 : Hid (W4.ownsRow V.heap.size 40 3 (.slice ao4 (j + 1) c4) (j + 1) (ccells (cutsL 1 (j + 1) a b))) := by
        have e : ccells (cutsL 1 (j + 1) a b) = ccells (cutsL 1 j a b) ++ [.int .i64 (I : Int), .int .i64 (a I : Int), .int .i64 (b I : Int)] := by rw [cutsL_succ, ccells_app, HI.out]; rfl
        show W4.ownsRow _ _ _ _ _ _
        rw [e]
        exact o4
      have HwI : Hid (RowKit.wrap64 ((I : Int) + 1) = ((j + 1 + 1 : Nat) : Int)) := by show _ = _; unfold RowKit.wrap64; have := HI.out; have := HL.out; omega
      have HV4 : Hid (Same V W4) := v4
      clear o4 g4 f4 v4 b4 o3 r3 d3 d2 d1 d0 q1 q2 a0 a1 n0 n1 n2 h0 h1 h2 h3 h4 h5 h6 lx
      go_wp2_with fail
      go_roundg (k - (j + 1))
      case measure => omega
      case rel => exact ⟨j + 1, ao4, c4, rfl, by rw [HwI.out], by omega, rfl, HO4, HV4⟩
    · have hle : decide ((I : Int) ≤ TT) = false := decide_eq_false (by have := HTT.out.1; omega)
      obtain rfl : k = j := by omega
      clear hI
      go_wp2_with fail
      go_ret
      have := HVZ.out
      exact ⟨ao, c, rfl, own_base HO.out (by omega), t1.trans HS.out⟩
set_option maxRecDepth 100000 in
set_option maxHeartbeats 8000000 in
theorem dcuts_branch {p q : Int} {r : Nr} {N : Nd} {k : Nat} {N1 N2 : Nat → Nd} {sp : Nat → ByteArray} {a b : Nat → Nat} (w : World) (hk : k = N.ks.length - 3) (hk2 : 2 ≤ N.ks.length) (hn : N.ks.length ≤ 1048576) (hn2 : N.ps.length ≤ 1048576)
    (HK : Hid (∀ W, Same w W → Calls Try.prog 16 #[frameV p q, ndV r N] W fun e w' => e = .returned (.int .i64 0) ∧ Same W w'))
    (HLf : Hid (∀ W, Calls Try.prog 17 #[ndV r N] W fun e w' => e = .returned (.bool false) ∧ Same W w'))
    (HCut : Hid (∀ W i, Same w W → 2 ≤ i → i < k + 2 → Calls Try.prog 18 #[ndV r N, .int .i64 (i : Int)] W fun e w' => ∃ r1 r2, e = .returned (.agg (halvesN r1 r2 (N1 i) (N2 i) (sp i))) ∧ MadeNd w' W.heap.size r1 (N1 i) ∧ MadeNd w' W.heap.size r2 (N2 i) ∧ Same W w'))
    (HZ1 : Hid (∀ W B i r', 2 ≤ i → i < k + 2 → MadeNd W B r' (N1 i) → Calls Try.prog 19 #[frameV p q, ndV r' (N1 i)] W fun e w' => e = .returned (.int .i64 (a i : Int)) ∧ Same W w'))
    (HZ2 : Hid (∀ W B i r', 2 ≤ i → i < k + 2 → MadeNd W B r' (N2 i) → Calls Try.prog 19 #[frameV p q, ndV r' (N2 i)] W fun e w' => e = .returned (.int .i64 (b i : Int)) ∧ Same W w')) :
    Calls Try.prog 7 #[frameV p q, ndV r N] w fun e w' => ∃ ao c, e = .returned (.slice ao k c) ∧ w'.ownsRow w.heap.size 40 3 (.slice ao k c) k (ccells (cutsL 2 k a b)) ∧ Same w w' := by
  obtain ⟨V, hV⟩ : ∃ V, V = (w.alloc (.cells #[.int .i64 p, .int .i64 q] 23)).alloc (.cells #[.slice r.pa N.ps.length r.cp, .slice r.sa N.ss.length r.cs, .slice r.ka N.ks.length r.ck] 28) := ⟨_, rfl⟩
  have t1 : Same w V := by rw [hV]; exact ((Fr.refl _ w).alloc _).alloc _
  have a0 : V.cell? ⟨w.heap.size, 0, none⟩ = some (.int .i64 p) := by rw [hV]; simp
  have a1 : V.cell? ⟨w.heap.size, 1, none⟩ = some (.int .i64 q) := by rw [hV]; simp
  have n0 : V.cell? ⟨w.heap.size + 1, 0, none⟩ = some (.slice r.pa N.ps.length r.cp) := by rw [hV]; simp
  have n1 : V.cell? ⟨w.heap.size + 1, 1, none⟩ = some (.slice r.sa N.ss.length r.cs) := by rw [hV]; simp
  have n2 : V.cell? ⟨w.heap.size + 1, 2, none⟩ = some (.slice r.ka N.ks.length r.ck) := by rw [hV]; simp
  have HC : Hid (∀ W, Same V W → (W.cell? ⟨w.heap.size, 0, none⟩ = some (.int .i64 p) ∧ W.cell? ⟨w.heap.size, 1, none⟩ = some (.int .i64 q)) ∧ W.cell? ⟨w.heap.size + 1, 0, none⟩ = some (.slice r.pa N.ps.length r.cp) ∧ W.cell? ⟨w.heap.size + 1, 1, none⟩ = some (.slice r.sa N.ss.length r.cs) ∧ W.cell? ⟨w.heap.size + 1, 2, none⟩ = some (.slice r.ka N.ks.length r.ck)) := fun W s => ⟨⟨s.keep a0, s.keep a1⟩, s.keep n0, s.keep n1, s.keep n2⟩
  have HVZ : Hid (w.heap.size ≤ V.heap.size) := t1.size
  obtain ⟨TT, hTT⟩ : ∃ TT : Int, TT = (N.ks.length : Int) - 2 := ⟨_, rfl⟩
  have HTT : Hid (TT < (k : Int) + 2 ∧ (k ≠ 0 → TT = (k : Int) + 1)) := ⟨by omega, fun h => by omega⟩
  have wT : RowKit.wrap64 ((N.ks.length : Int) - 2) = TT := by unfold RowKit.wrap64; omega
  have wT2 : IntKind.i64.wrap ((N.ks.length : Int) - 2) = TT := by rw [IntKind.wrap_i64]; omega
  have wS : RowKit.wrap64 ((N.ps.length : Int) - 1) = (N.ps.length : Int) - 1 := by unfold RowKit.wrap64; omega
  have HL : Hid (k ≤ 1048576) := by show k ≤ _; omega
  clear hTT hk hk2 hn hn2
  unfold ndV nodeV at HK HLf HCut ⊢
  go_enter Try.func7, Try.ntmps7
  go_wp2_with fail
  rw [← hV]
  clear hV
  refine (HK.out _ t1).mono ?_
  rintro e W1 ⟨rfl, s1⟩
  clear a0 a1 n0 n1 n2
  obtain ⟨⟨a0, a1⟩, n0, n1, n2⟩ := HC.out _ s1
  go_wp2_with fail
  refine (HLf.out _).mono ?_
  rintro e W2 ⟨rfl, s2⟩
  have s2 := s1.trans s2
  clear a0 a1 n0 n1 n2
  obtain ⟨⟨a0, a1⟩, n0, n1, n2⟩ := HC.out _ s2
  go_wp2_with fail
  go_loopg [5, 8] k (fun g lv iv wr => ∃ (j : Nat) (ao : Option Addr) (c : Nat), lv = .slice ao j c ∧ iv = .int .i64 ((j + 2 : Nat) : Int) ∧ j ≤ k ∧ g = k - j ∧ Hid (wr.ownsRow V.heap.size 40 3 (.slice ao j c) j (ccells (cutsL 2 j a b))) ∧ Hid (Same V wr))
  case atStart => exact ⟨0, none, 0, rfl, rfl, by omega, rfl, own_nil, s2⟩
  case round =>
    clear a0 a1 n0 n1 n2
    obtain ⟨j, ao, c, rfl, rfl, hj, hg, HO, HS⟩ := hrel
    obtain ⟨⟨a0, a1⟩, n0, n1, n2⟩ := HC.out _ HS.out
    obtain ⟨I, hI⟩ : ∃ I, I = j + 2 := ⟨_, rfl⟩
    rw [← hI]
    have HI : Hid (I = j + 2) := hI
    by_cases hgo : j < k
    · have hle : (I : Int) ≤ TT := by have := HTT.out.2 (by omega); omega
      have hb1 : 2 ≤ I := by omega
      have hb2 : I < k + 2 := by omega
      have HB : Hid (2 ≤ I ∧ I < k + 2) := ⟨hb1, hb2⟩
      clear hI hb1 hb2
      go_wp2_with fail
      refine (HCut.out _ I (t1.trans HS.out) HB.out.1 HB.out.2).mono ?_
      rintro e W3 ⟨r1, r2, rfl, m1, m2, s3⟩
      unfold halvesN
      obtain ⟨X, hX⟩ : ∃ X, X = W3.alloc (.cells #[.slice r1.pa (N1 I).ps.length r1.cp, .slice r1.sa (N1 I).ss.length r1.cs, .slice r1.ka (N1 I).ks.length r1.ck, .string (sp I), .slice r2.pa (N2 I).ps.length r2.cp, .slice r2.sa (N2 I).ss.length r2.cs, .slice r2.ka (N2 I).ks.length r2.ck] 50) := ⟨_, rfl⟩
      have sX : Same wr X := by rw [hX]; exact Fr.alloc s3 _
      have rX : X.heap[W3.heap.size]? = some (.cells #[.slice r1.pa (N1 I).ps.length r1.cp, .slice r1.sa (N1 I).ss.length r1.cs, .slice r1.ka (N1 I).ks.length r1.ck, .string (sp I), .slice r2.pa (N2 I).ps.length r2.cp, .slice r2.sa (N2 I).ss.length r2.cs, .slice r2.ka (N2 I).ks.length r2.ck] 50 (0, 0)) := by rw [hX]; exact heap_alloc_new W3 _
      obtain ⟨hb, hhb⟩ : ∃ hb, hb = W3.heap.size := ⟨_, rfl⟩
      rw [← hhb] at rX
      have M1 : MadeNd X wr.heap.size r1 (N1 I) := by rw [hX]; exact m1.same ((Fr.refl _ _).alloc _)
      have M2 : MadeNd X wr.heap.size r2 (N2 I) := by rw [hX]; exact m2.same ((Fr.refl _ _).alloc _)
      have HM : Hid (MadeNd X wr.heap.size r1 (N1 I) ∧ MadeNd X wr.heap.size r2 (N2 I)) := ⟨M1, M2⟩
      have HH : Hid (∀ W : World, W.heap[hb]? = X.heap[hb]? → HCells W hb r1 r2 (N1 I) (N2 I) (sp I)) := fun W e => hcells_row (e.trans rX)
      have OX : X.ownsRow V.heap.size 40 3 (.slice ao j c) j (ccells (cutsL 2 j a b)) := own_frameB HO.out sX (fun _ _ f => f)
      have HOX : Hid (X.ownsRow V.heap.size 40 3 (.slice ao j c) j (ccells (cutsL 2 j a b))) := OX
      have HSX : Hid (Same V X) := HS.out.trans sX
      have HRX : Hid (X.heap[hb]? = some (.cells #[.slice r1.pa (N1 I).ps.length r1.cp, .slice r1.sa (N1 I).ss.length r1.cs, .slice r1.ka (N1 I).ks.length r1.ck, .string (sp I), .slice r2.pa (N2 I).ps.length r2.cp, .slice r2.sa (N2 I).ss.length r2.cs, .slice r2.ka (N2 I).ks.length r2.ck] 50 (0, 0))) := rX
      unfold HCells at HH
      clear m1 m2 s3 sX rX M1 M2 OX HO HS
      clear a0 a1 n0 n1 n2
      obtain ⟨⟨a0, a1⟩, n0, n1, n2⟩ := HC.out _ HSX.out
      obtain ⟨h0, h1, h2, h3, h4, h5, h6⟩ := HH.out X rfl
      rw [hX] at a0 a1 n0 n1 n2 h0 h1 h2 h3 h4 h5 h6
      rw [hhb] at h0 h1 h2 h3 h4 h5 h6
      go_wp2_with fail
      rw [← hX, ← hhb]
      rw [← hX] at a0 a1 n0 n1 n2 h0 h1 h2 h3 h4 h5 h6
      rw [← hhb] at h0 h1 h2 h3 h4 h5 h6
      clear hX hhb
      have d0 : Same X X.drew := Fr.drew (Fr.refl _ _)
      have lx : hb < X.heap.size := lt_of_heap HRX.out
      refine wp_region_held_drew (S := fun Y => (Y.cell? ⟨w.heap.size, 0, none⟩ = some (.int .i64 p) ∧ Y.cell? ⟨w.heap.size, 1, none⟩ = some (.int .i64 q)) ∧ Y.cell? ⟨hb, 0, none⟩ = some (.slice r1.pa (N1 I).ps.length r1.cp) ∧ Y.cell? ⟨hb, 1, none⟩ = some (.slice r1.sa (N1 I).ss.length r1.cs) ∧ Y.cell? ⟨hb, 2, none⟩ = some (.slice r1.ka (N1 I).ks.length r1.ck) ∧ Y.cell? ⟨hb, 3, none⟩ = some (.string (sp I)) ∧ Y.cell? ⟨hb, 4, none⟩ = some (.slice r2.pa (N2 I).ps.length r2.cp) ∧ Y.cell? ⟨hb, 5, none⟩ = some (.slice r2.sa (N2 I).ss.length r2.cs) ∧ Y.cell? ⟨hb, 6, none⟩ = some (.slice r2.ka (N2 I).ks.length r2.ck)) (by kernel_rfl) (⟨(HC.out _ (HSX.out.trans d0)).1, HH.out _ (d0.block _ lx (fun e => e))⟩) (fun hHeld => ?_)
      generalize X.drew = D0 at *
      refine wpAnyH_take (i := 0) (oi := { dst := some 35, op := Go.Op.move (Go.Operand.tmp 5), type := 32, pos := "ref.go:179", after := #[], guard := none }) (v := .slice ao j c) rfl (by kernel_rfl) (by kernel_rfl) (by kernel_rfl) (fun _ _ _ h => h) (Or.inl ⟨by rfl, fun w hSw => by (obtain ⟨⟨z0, z1⟩, z2, z3, z4, z5, z6, z7, z8⟩ := hSw; go_simp)⟩) (by assumption) ?_
      try simp only [Act.put, List.setIfInBounds_toArray, List.set_cons_zero, List.set_cons_succ]
      refine wpAnyH_take (i := 1) (oi := { dst := some 36, op := Go.Op.move (Go.Operand.tmp 8), type := 3, pos := "ref.go:179", after := #[], guard := none }) (v := .int .i64 (I : Int)) rfl (by kernel_rfl) (by kernel_rfl) (by kernel_rfl) (fun _ _ _ h => h) (Or.inl ⟨by rfl, fun w hSw => by (obtain ⟨⟨z0, z1⟩, z2, z3, z4, z5, z6, z7, z8⟩ := hSw; go_simp)⟩) (by assumption) ?_
      try simp only [Act.put, List.setIfInBounds_toArray, List.set_cons_zero, List.set_cons_succ]
      refine wpAnyH_take (i := 2) (oi := { dst := some 37, op := Go.Op.load 23 (Go.Operand.tmp 2), type := 23, pos := "ref.go:179", after := #[], guard := none }) (v := .agg #[.int .i64 p, .int .i64 q]) rfl (by kernel_rfl) (by kernel_rfl) (by kernel_rfl) (fun _ _ _ h => h) (Or.inl ⟨by rfl, fun w hSw => by (obtain ⟨⟨z0, z1⟩, z2, z3, z4, z5, z6, z7, z8⟩ := hSw; go_simp)⟩) (by assumption) ?_
      try simp only [Act.put, List.setIfInBounds_toArray, List.set_cons_zero, List.set_cons_succ]
      refine wpAnyH_take (i := 3) (oi := { dst := some 38, op := Go.Op.fieldAddr 50 (Go.Operand.tmp 9) 0, type := 0, pos := "ref.go:179", after := #[], guard := none }) (v := .pointer (some ⟨hb, 0, none⟩)) rfl (by kernel_rfl) (by kernel_rfl) (by kernel_rfl) (fun _ _ _ h => h) (Or.inl ⟨by rfl, fun w hSw => by (obtain ⟨⟨z0, z1⟩, z2, z3, z4, z5, z6, z7, z8⟩ := hSw; go_simp)⟩) (by assumption) ?_
      try simp only [Act.put, List.setIfInBounds_toArray, List.set_cons_zero, List.set_cons_succ]
      refine wpAnyH_take (i := 4) (oi := { dst := some 39, op := Go.Op.load 28 (Go.Operand.tmp 38), type := 28, pos := "ref.go:179", after := #[{ on := 3, ground := Go.Ground.data }], guard := none }) (v := .agg #[.slice r1.pa (N1 I).ps.length r1.cp, .slice r1.sa (N1 I).ss.length r1.cs, .slice r1.ka (N1 I).ks.length r1.ck]) rfl (by kernel_rfl) (by kernel_rfl) (by kernel_rfl) (fun _ _ _ h => h) (Or.inl ⟨by rfl, fun w hSw => by (obtain ⟨⟨z0, z1⟩, z2, z3, z4, z5, z6, z7, z8⟩ := hSw; go_simp)⟩) (by assumption) ?_
      try simp only [Act.put, List.setIfInBounds_toArray, List.set_cons_zero, List.set_cons_succ]
      refine wpAnyH_take (i := 6) (oi := { dst := some 41, op := Go.Op.load 23 (Go.Operand.tmp 2), type := 23, pos := "ref.go:179", after := #[], guard := none }) (v := .agg #[.int .i64 p, .int .i64 q]) rfl (by kernel_rfl) (by kernel_rfl) (by kernel_rfl) (fun _ _ _ h => h) (Or.inl ⟨by rfl, fun w hSw => by (obtain ⟨⟨z0, z1⟩, z2, z3, z4, z5, z6, z7, z8⟩ := hSw; go_simp)⟩) (by assumption) ?_
      try simp only [Act.put, List.setIfInBounds_toArray, List.set_cons_zero, List.set_cons_succ]
      refine wpAnyH_take (i := 7) (oi := { dst := some 42, op := Go.Op.fieldAddr 50 (Go.Operand.tmp 9) 2, type := 0, pos := "ref.go:179", after := #[], guard := none }) (v := .pointer (some ⟨hb, 4, none⟩)) rfl (by kernel_rfl) (by kernel_rfl) (by kernel_rfl) (fun _ _ _ h => h) (Or.inl ⟨by rfl, fun w hSw => by (obtain ⟨⟨z0, z1⟩, z2, z3, z4, z5, z6, z7, z8⟩ := hSw; go_simp)⟩) (by assumption) ?_
      try simp only [Act.put, List.setIfInBounds_toArray, List.set_cons_zero, List.set_cons_succ]
      refine wpAnyH_take (i := 8) (oi := { dst := some 43, op := Go.Op.load 28 (Go.Operand.tmp 42), type := 28, pos := "ref.go:179", after := #[{ on := 7, ground := Go.Ground.data }], guard := none }) (v := .agg #[.slice r2.pa (N2 I).ps.length r2.cp, .slice r2.sa (N2 I).ss.length r2.cs, .slice r2.ka (N2 I).ks.length r2.ck]) rfl (by kernel_rfl) (by kernel_rfl) (by kernel_rfl) (fun _ _ _ h => h) (Or.inl ⟨by rfl, fun w hSw => by (obtain ⟨⟨z0, z1⟩, z2, z3, z4, z5, z6, z7, z8⟩ := hSw; go_simp)⟩) (by assumption) ?_
      try simp only [Act.put, List.setIfInBounds_toArray, List.set_cons_zero, List.set_cons_succ]
      refine wpAnyH_ready (rs := [5]) (by kernel_rfl) (by simp) ?_
      refine AllReadyH.cons (o := { dst := some 40, op := Go.Op.call { callee := Go.Callee.value (Go.Operand.func 19), args := #[Go.Operand.tmp 37, Go.Operand.tmp 39], argTypes := #[23, 28] }, type := 3, pos := "ref.go:179", after := #[{ on := 2, ground := Go.Ground.data }, { on := 4, ground := Go.Ground.data }], guard := none }) rfl (fun K hK => ?_) AllReadyH.nil
      go_simp
      go_at_call 19
      refine (HZ1.out _ _ _ _ HB.out.1 HB.out.2 (HM.out.1.same d0)).mono ?_
      rintro e Z1 ⟨rfl, q1⟩
      try go_wp2_with fail
      have d1 := d0.trans q1
      refine hK.out _ _ (⟨(HC.out _ (HSX.out.trans d1)).1, HH.out _ (d1.block _ lx (fun e => e))⟩) (fun hHeld => ?_)
      clear hK K
      try simp only [Act.put, List.setIfInBounds_toArray, List.set_cons_zero, List.set_cons_succ]
      refine wpAnyH_ready (rs := [9]) (by kernel_rfl) (by simp) ?_
      refine AllReadyH.cons (o := { dst := some 44, op := Go.Op.call { callee := Go.Callee.value (Go.Operand.func 19), args := #[Go.Operand.tmp 41, Go.Operand.tmp 43], argTypes := #[23, 28] }, type := 3, pos := "ref.go:179", after := #[{ on := 6, ground := Go.Ground.data }, { on := 8, ground := Go.Ground.data }, { on := 5, ground := Go.Ground.chain }], guard := none }) rfl (fun K hK => ?_) AllReadyH.nil
      go_simp
      go_at_call 19
      refine (HZ2.out _ _ _ _ HB.out.1 HB.out.2 (HM.out.2.same d1)).mono ?_
      rintro e Z2 ⟨rfl, q2⟩
      try go_wp2_with fail
      have d2 := d1.trans q2
      refine hK.out _ _ (⟨(HC.out _ (HSX.out.trans d2)).1, HH.out _ (d2.block _ lx (fun e => e))⟩) (fun hHeld => ?_)
      clear hK K
      try simp only [Act.put, List.setIfInBounds_toArray, List.set_cons_zero, List.set_cons_succ]
      refine wpAnyH_take (i := 10) (oi := { dst := some 45, op := Go.Op.build 40 #[(0, Go.Operand.tmp 36), (1, Go.Operand.tmp 40), (2, Go.Operand.tmp 44)], type := 40, pos := "ref.go:179", after := #[{ on := 1, ground := Go.Ground.data }, { on := 5, ground := Go.Ground.data }, { on := 9, ground := Go.Ground.data }], guard := none }) (v := .agg #[.int .i64 (I : Int), .int .i64 (a I : Int), .int .i64 (b I : Int)]) rfl (by kernel_rfl) (by kernel_rfl) (by kernel_rfl) (fun _ _ _ h => h) (Or.inl ⟨by rfl, fun w hSw => by (obtain ⟨⟨z0, z1⟩, z2, z3, z4, z5, z6, z7, z8⟩ := hSw; go_simp)⟩) (by assumption) ?_
      try simp only [Act.put, List.setIfInBounds_toArray, List.set_cons_zero, List.set_cons_succ]
      have d3 : Same X (Z2.alloc (.cells #[.int .i64 (I : Int), .int .i64 (a I : Int), .int .i64 (b I : Int)] 40)) := Fr.alloc d2 _
      have r3 := heap_alloc_new Z2 (.cells #[.int .i64 (I : Int), .int .i64 (a I : Int), .int .i64 (b I : Int)] 40)
      refine wpAnyH_ready (rs := [11]) (by kernel_rfl) (by simp) ?_
      refine AllReadyH.cons (o := { dst := some 46, op := Go.Op.buildSlice 32 1 #[(0, Go.Operand.tmp 45)], type := 32, pos := "ref.go:179", after := #[{ on := 10, ground := Go.Ground.data }], guard := none }) rfl (fun K hK => ?_) AllReadyH.nil
      go_simp
      refine hK.out _ _ ⟨(HC.out _ (HSX.out.trans d3)).1, HH.out _ (d3.block _ lx (fun e => e))⟩ (fun hHeld => ?_)
      clear hK K
      try simp only [Act.put, List.setIfInBounds_toArray, List.set_cons_zero, List.set_cons_succ]
      have o3 := own_frameB HOX.out d3 (fun _ _ f => f)
      refine wpAnyH_ready (rs := [12]) (by kernel_rfl) (by simp) ?_
      refine AllReadyH.cons (o := { dst := some 47, op := Go.Op.call { callee := Go.Callee.builtin Go.Builtin.append, args := #[Go.Operand.tmp 35, Go.Operand.tmp 46], argTypes := #[32, 32] }, type := 32, pos := "ref.go:179", after := #[{ on := 0, ground := Go.Ground.data }, { on := 11, ground := Go.Ground.data }, { on := 9, ground := Go.Ground.chain }], guard := none }) rfl (fun K hK => ?_) AllReadyH.nil
      refine step_partCuts (B := V.heap.size) _ rfl _ _ rfl (by rfl) o3 (x := ⟨some ⟨Z2.heap.size, 0, none⟩, 1, 1, [.int .i64 (I : Int), .int .i64 (a I : Int), .int .i64 (b I : Int)]⟩) (by rfl) (part_three _ _ r3 rfl rfl rfl) (by have := HL.out; simp only; omega) ((HSX.out.trans d3).size) ?_
      intro ao4 c4 W4 o4 g4
      have f4 : Fr (fun k => Value.ownBlock (.slice ao j c) = some k) (Z2.alloc (.cells #[.int .i64 (I : Int), .int .i64 (a I : Int), .int .i64 (b I : Int)] 40)) W4 := Fr.grown (Fr.refl _ _) g4 (fun k hk _ => hk)
      have v4 : Same V W4 := Fr.grown (HSX.out.trans d3) g4 (fun k hk hl => by have := o3.lt k hk; omega)
      have b4 : W4.heap[hb]? = X.heap[hb]? := (f4.block hb (Nat.lt_of_lt_of_le lx d3.size) (fun e => type_ne o3 ((d3.block hb lx (fun e => e)).trans HRX.out) (by decide) e)).trans (d3.block hb lx (fun e => e))
      refine hK.out _ _ ⟨(HC.out _ (v4)).1, HH.out _ (b4)⟩ (fun hHeld => ?_)
      clear hK K
      try simp only [Act.put, List.setIfInBounds_toArray, List.set_cons_zero, List.set_cons_succ]
      refine wpAnyH_take (i := 13) (oi := { dst := some 5, op := Go.Op.assign (Go.Operand.tmp 47), type := 32, pos := "ref.go:179", after := #[{ on := 12, ground := Go.Ground.data }, { on := 12, ground := Go.Ground.chain }, { on := 0, ground := Go.Ground.phase }, { on := 1, ground := Go.Ground.phase }, { on := 2, ground := Go.Ground.phase }, { on := 3, ground := Go.Ground.phase }, { on := 4, ground := Go.Ground.phase }, { on := 5, ground := Go.Ground.phase }, { on := 6, ground := Go.Ground.phase }, { on := 7, ground := Go.Ground.phase }, { on := 8, ground := Go.Ground.phase }, { on := 9, ground := Go.Ground.phase }, { on := 10, ground := Go.Ground.phase }, { on := 11, ground := Go.Ground.phase }, { on := 12, ground := Go.Ground.phase }], guard := none }) (v := .slice ao4 (j + 1) c4) rfl (by kernel_rfl) (by kernel_rfl) (by kernel_rfl) (fun _ _ _ h => h) (Or.inl ⟨by rfl, fun w hSw => by (obtain ⟨⟨z0, z1⟩, z2, z3, z4, z5, z6, z7, z8⟩ := hSw; go_simp)⟩) (by assumption) ?_
      try simp only [Act.put, List.setIfInBounds_toArray, List.set_cons_zero, List.set_cons_succ]
      refine wpAnyH_done (by kernel_rfl) ?_ _
      have HO4 : Hid (W4.ownsRow V.heap.size 40 3 (.slice ao4 (j + 1) c4) (j + 1) (ccells (cutsL 2 (j + 1) a b))) := by
        have e : ccells (cutsL 2 (j + 1) a b) = ccells (cutsL 2 j a b) ++ [.int .i64 (I : Int), .int .i64 (a I : Int), .int .i64 (b I : Int)] := by rw [cutsL_succ, ccells_app, HI.out]; rfl
        show W4.ownsRow _ _ _ _ _ _
        rw [e]
        exact o4
      have HwI : Hid (RowKit.wrap64 ((I : Int) + 1) = ((j + 1 + 2 : Nat) : Int)) := by show _ = _; unfold RowKit.wrap64; have := HI.out; have := HL.out; omega
      have HV4 : Hid (Same V W4) := v4
      clear o4 g4 f4 v4 b4 o3 r3 d3 d2 d1 d0 q1 q2 a0 a1 n0 n1 n2 h0 h1 h2 h3 h4 h5 h6 lx
      go_wp2_with fail
      go_roundg (k - (j + 1))
      case measure => omega
      case rel => exact ⟨j + 1, ao4, c4, rfl, by rw [HwI.out], by omega, rfl, HO4, HV4⟩
    · have hle : decide ((I : Int) ≤ TT) = false := decide_eq_false (by have := HTT.out.1; omega)
      obtain rfl : k = j := by omega
      clear hI
      go_wp2_with fail
      go_ret
      have := HVZ.out
      exact ⟨ao, c, rfl, own_base HO.out (by omega), t1.trans HS.out⟩
end Go.Proofs.Ytmgkdnejjemfeaa
namespace Go.Proofs.Ytmgkdnejjemfeaa
open Go.RowKit

theorem own_crow {W : World} {t : TypeId} {n cap : Nat} {L : List CutN} {ao : Option Addr} (h : W.ownsRow 0 t 3 (.slice ao n cap) n (ccells L)) (hn : n = L.length) (h0 : L ≠ []) : ∃ g, ao = some ⟨g, 0, none⟩ ∧ g < W.heap.size ∧ ∀ (j : Nat) (x : CutN), L[j]? = some x → W.cell? ⟨g, j * 3, none⟩ = some (.int .i64 (x.1 : Int)) ∧ W.cell? ⟨g, j * 3 + 1, none⟩ = some (.int .i64 (x.2.1 : Int)) ∧ W.cell? ⟨g, j * 3 + 2, none⟩ = some (.int .i64 (x.2.2 : Int)) := by
  have hl : n ≠ 0 := by rw [hn]; intro e; exact h0 (List.eq_nil_of_length_eq_zero e)
  obtain ⟨g, rfl, hg⟩ := own_some h hl
  refine ⟨g, rfl, hg, fun j x hx => ?_⟩
  have f := fun i (hi : i < 3) => flat_get (fun x : CutN => [Value.int .i64 (x.1 : Int), Value.int .i64 (x.2.1 : Int), Value.int .i64 (x.2.2 : Int)]) 3 L (fun _ _ => rfl) j i x hx hi
  refine ⟨own_cell h ?_, own_cell h ?_, own_cell h ?_⟩
  · have := f 0 (by omega)
    rw [Nat.add_zero] at this
    exact this.trans rfl
  · exact (f 1 (by omega)).trans rfl
  · exact (f 2 (by omega)).trans rfl
end Go.Proofs.Ytmgkdnejjemfeaa
