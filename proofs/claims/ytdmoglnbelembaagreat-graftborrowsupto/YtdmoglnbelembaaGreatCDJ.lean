/- Plain: the document's best cut is the program's. -/
import Derived.Test.YtdmoglnbelembaaGreatFHJ
import Derived.Test.YtdmoglnbelembaaGreatCB
namespace Go.Proofs.YtdmoglnbelembaaGreat
open Go.RowKit

abbrev CutN : Type := Nat × Nat × Nat
def lgr (x : CutN) : Nat := max x.2.1 x.2.2
def bet (b x : CutN) : CutN := if lgr x < lgr b then x else b
theorem bet_stay : ∀ (T : List CutN) (b : CutN), (∀ y ∈ T, lgr b ≤ lgr y) → T.foldl bet b = b
  | [], _, _ => rfl
  | y :: T, b, h => by
    rw [List.foldl_cons]
    have e : bet b y = b := if_neg (by have := h y List.mem_cons_self; omega)
    rw [e]
    exact bet_stay T b (fun z hz => h z (List.mem_cons_of_mem _ hz))
theorem best_fold : ∀ (T : List CutN) (b : CutN), b.1 ≠ 0 → (∀ x ∈ T, b.2.1 ≤ x.2.1 ∧ x.2.2 < b.2.2) → Parts T → (∀ x ∈ T, x.1 ≠ 0) → (bestS T (b.1, lgr b)).1 = (T.foldl bet b).1
  | [], _, _, _, _, _ => rfl
  | x :: T, b, h1, h2, h3, h4 => by
    obtain ⟨p1, p2⟩ := List.pairwise_cons.1 h3
    obtain ⟨hx1, hx2⟩ := h2 x List.mem_cons_self
    rw [bestS, List.foldl_cons]
    by_cases hc : max x.2.1 x.2.2 < lgr b
    · rw [if_pos (Or.inr hc)]
      have e : bet b x = x := if_pos hc
      rw [e]
      exact best_fold T x (h4 x List.mem_cons_self) p1 p2 (fun y hy => h4 y (List.mem_cons_of_mem _ hy))
    · rw [if_neg (by simp only; omega)]
      have e : bet b x = b := if_neg hc
      rw [e, bet_stay T b]
      intro y hy
      have := p1 y hy
      unfold lgr at hc ⊢
      omega
/-- The first of the cuts whose larger side is the least. -/
theorem best_first {z : CutN} {T : List CutN} (hp : Parts (z :: T)) (h0 : ∀ x ∈ z :: T, x.1 ≠ 0) : (bestS (z :: T) (0, 0)).1 = ((z :: T).foldl bet z).1 := by
  obtain ⟨p1, p2⟩ := List.pairwise_cons.1 hp
  rw [bestS, if_pos (Or.inl rfl), List.foldl_cons]
  have e : bet z z = z := if_neg (by omega)
  rw [e]
  exact best_fold T z (h0 z List.mem_cons_self) p1 p2 (fun y hy => h0 y (List.mem_cons_of_mem _ hy))
theorem textN_pos (n : Nat) : 1 ≤ textN n := by
  unfold textN numN
  omega
theorem leaf_parts {ps : List (ByteArray × ByteArray)} (hn : ps.length ≤ 1048576) : Parts (cutsN ps (ps.length - 1)) ∧ ∀ x ∈ cutsN ps (ps.length - 1), x.1 ≠ 0 := by
  have hM : ∀ i, i < ps.length → pairsN (ps.take i) + 1 ≤ pairsN (ps.take (i + 1)) := fun i hi => by
    obtain ⟨x, hx⟩ : ∃ x, ps[i]? = some x := ⟨_, List.getElem?_eq_getElem hi⟩
    rw [pairs_succ hx]
    have := textN_pos x.1.size
    omega
  refine ⟨?_, fun x hx => ?_⟩
  · unfold Parts cutsN
    rw [List.pairwise_map]
    refine List.Pairwise.imp_of_mem ?_ List.pairwise_lt_range
    intro a b ha hb hab
    rw [List.mem_range] at ha hb
    have m1 := numN_mono (show a + 1 ≤ b + 1 by omega) (by omega)
    have m2 := numN_mono (show ps.length - (b + 1) ≤ ps.length - (a + 1) by omega) (by omega)
    have m3 := pairs_take_le ps (show a + 1 ≤ b by omega)
    have m4 := hM b (by omega)
    have m5 := pairs_take_le ps (show b + 1 ≤ ps.length by omega)
    have m6 := pairs_take_le ps (show a + 1 ≤ ps.length by omega)
    unfold sideN
    simp only [Nat.sub_zero]
    rw [show pairsN (ps.take 0) = 0 from rfl]
    omega
  · unfold cutsN at hx
    obtain ⟨i, _, rfl⟩ := List.mem_map.1 hx
    simp
theorem branch_cuts {ss : List ByteArray} {K n : Nat} (hss : ss.length + 1 = n) (hK1 : 1 ≤ K) (hn : n ≤ 1048576) : Parts (cutsB K n ss (n - 3)) ∧ ∀ x ∈ cutsB K n ss (n - 3), x.1 ≠ 0 := by
  obtain ⟨U, hU⟩ : ∃ U : Nat → Nat, U = fun i => i * K + textsN (ss.take i) := ⟨_, rfl⟩
  have ustep : ∀ i, U i + K ≤ U (i + 1) := fun i => by
    rw [hU]
    simp only
    rw [Nat.add_mul, Nat.one_mul]
    by_cases hi : i < ss.length
    · obtain ⟨x, hx⟩ : ∃ x, ss[i]? = some x := ⟨_, List.getElem?_eq_getElem hi⟩
      rw [texts_succ hx]
      omega
    · rw [List.take_of_length_le (by omega), List.take_of_length_le (by omega)]
      omega
  have umono : ∀ a b, a ≤ b → U a ≤ U b := fun a b h => by
    induction h with
    | refl => exact Nat.le_refl _
    | @step m _ ih => exact Nat.le_trans ih (Nat.le_trans (Nat.le_add_right _ _) (ustep m))
  have hside : ∀ i, 1 ≤ i → i < n → bsideN K ss 0 i = 1 + numN i + (U (i - 1) + K) ∧ bsideN K ss i n = 1 + numN (n - i) + (U n - U i) ∧ U i ≤ U n := fun i hi hin => by
    have c := umono i n (by omega)
    refine ⟨?_, ?_, c⟩
    · unfold bsideN
      rw [hU]
      simp only
      rw [show textsN (ss.take 0) = 0 from rfl, Nat.sub_zero, Nat.sub_zero]
      obtain ⟨t, rfl⟩ : ∃ t, i = t + 1 := ⟨i - 1, by omega⟩
      rw [Nat.add_sub_cancel, Nat.add_mul, Nat.one_mul]
      omega
    · unfold bsideN
      rw [hU]
      simp only
      rw [List.take_of_length_le (show ss.length ≤ n - 1 by omega), List.take_of_length_le (show ss.length ≤ n by omega)]
      have e1 : textsN (ss.take i) ≤ textsN ss := by
        have := texts_take_le ss (show i ≤ ss.length by omega)
        rwa [List.take_length] at this
      obtain ⟨t, rfl⟩ : ∃ t, n = i + t := ⟨n - i, by omega⟩
      rw [Nat.add_sub_cancel_left, Nat.add_mul]
      omega
  refine ⟨?_, fun x hx => ?_⟩
  · unfold Parts cutsB
    rw [List.pairwise_map]
    refine List.Pairwise.imp_of_mem ?_ List.pairwise_lt_range
    intro a b ha hb hab
    rw [List.mem_range] at ha hb
    obtain ⟨ea, fa, ga⟩ := hside (a + 2) (by omega) (by omega)
    obtain ⟨eb, fb, gb⟩ := hside (b + 2) (by omega) (by omega)
    simp only
    rw [ea, eb, fa, fb]
    have m1 := numN_mono (show a + 2 ≤ b + 2 by omega) (by omega)
    have m2 := numN_mono (show n - (b + 2) ≤ n - (a + 2) by omega) (by omega)
    have m3 := umono (a + 2 - 1) (b + 2 - 1) (by omega)
    have m4 := umono (a + 2) (b + 1) (by omega)
    have m5 : U (b + 1) + K ≤ U (b + 2) := ustep (b + 1)
    omega
  · unfold cutsB at hx
    obtain ⟨i, _, rfl⟩ := List.mem_map.1 hx
    simp
end Go.Proofs.YtdmoglnbelembaaGreat
namespace Go.Proofs.YtdmoglnbelembaaGreat
open Go.RowKit

theorem Tryz.infCut : (Tryz.prog.info? 78).map (fun i => (i.zero, i.size, i.bytes)) = some (some (.agg #[.int .i64 0, .int .i64 0, .int .i64 0]), 3, 24) := by kernel_rfl
theorem run_partCuts (w : World) (ty : TypeId) {B n : Nat} {v : Value} {xs : List Value} (hown : w.ownsRow B 78 3 v n xs) {x : Part} (hx : PartOk w 3 x) (hb : n + x.n ≤ 1099511627776) (hB : B ≤ w.heap.size) :
    ∃ v' w', (Builtin.append_ #[74, 74] ty #[v, .slice x.ao x.n x.c]).run Tryz.prog w = .ok v' w' ∧ w'.ownsRow B 78 3 v' (n + x.n) (xs ++ x.cells) ∧ w.grownBy w' v.ownBlock := by
  obtain ⟨i0, hi, hz0, hz1, hz2⟩ := info_parts Tryz.infCut
  obtain ⟨ao, m, c, cs⟩ := x
  cases ao with
  | none =>
    obtain ⟨e1, e2⟩ := hx.none rfl
    have e3 := hx.len
    simp only at e1 e2 e3
    subst e1 e2
    have e4 : cs = [] := List.eq_nil_of_length_eq_zero (by omega)
    subst e4
    refine ⟨v, w, run_append_owned_none (P := Tryz.prog) (w := w) B 74 ty 78 i0 3 Tryz.underlying74 hi v n xs hown, ?_, ⟨rfl, rfl, rfl, Nat.le_refl _, fun _ _ _ => rfl⟩⟩
    rw [List.append_nil]; exact hown
  | some a =>
    simp only at hb
    obtain ⟨v', w', h1, h2, h3, _⟩ := run_append_own (P := Tryz.prog) w B 74 ty 78 i0 (.agg #[.int .i64 0, .int .i64 0, .int .i64 0]) 3 24 Tryz.underlying74 hi hz0 hz1 hz2 rfl (by decide) v n xs hown a m c cs hx.len (hx.at_ a rfl) hx.one (by unfold maxLen; omega) (by omega) hB
    exact ⟨v', w', h1, h2, h3⟩
theorem step_partCuts (w : World) {ops : Array Oper} {o : Oper} {a : Act} {K : Act → World → Prop} {Q : Exit → Act → World → Prop} {E : Prop} (hgd : o.guard = none) (sl y : Operand)
    (ho : o.op = .call { callee := .builtin .append, args := #[sl, y], argTypes := #[74, 74] }) {B n : Nat} {v : Value} {xs : List Value} (hs : a.eval sl = v) (hown : w.ownsRow B 78 3 v n xs) {x : Part} (hy : a.eval y = .slice x.ao x.n x.c) (hx : PartOk w 3 x) (hb : n + x.n ≤ 1099511627776) (hB : B ≤ w.heap.size)
    (hk : ∀ ao c w', w'.ownsRow B 78 3 (.slice ao (n + x.n) c) (n + x.n) (xs ++ x.cells) → w.grownBy w' v.ownBlock → K (a.put o.dst (.slice ao (n + x.n) c)) w') :
    if Region.wanted o (yielded ops a.tmps) = true then Oper.wp Tryz.prog o a w K Q else E := by
  rw [if_pos (by simp [Region.wanted, hgd])]
  obtain ⟨v', w', hr, h2, h3⟩ := run_partCuts w o.type hown hx hb hB
  obtain ⟨ao, c, rfl⟩ := own_shape h2
  unfold Oper.wp execOp
  simp only [ho, resolve, invoke, builtin, Sem.run_bind, Sem.run_pure, Result.andThen_ok, List.map_toArray, List.map_cons, List.map_nil, hs, hy, hr]
  exact hk ao c w' h2 h3
def ccells (L : List CutN) : List Value := L.flatMap fun x => [.int .i64 (x.1 : Int), .int .i64 (x.2.1 : Int), .int .i64 (x.2.2 : Int)]
theorem ccells_app (a b : List CutN) : ccells (a ++ b) = ccells a ++ ccells b := List.flatMap_append
/-- All cuts from a place on. -/
def cutsL (fr k : Nat) (a b : Nat → Nat) : List CutN := (List.range k).map fun j => (j + fr, a (j + fr), b (j + fr))
theorem cutsL_succ (fr k : Nat) (a b : Nat → Nat) : cutsL fr (k + 1) a b = cutsL fr k a b ++ [(k + fr, a (k + fr), b (k + fr))] := by
  unfold cutsL; rw [List.range_succ, List.map_append]; rfl
theorem part_three {W : World} {g : Nat} {x y z : Value} (t : TypeId) (fr : Nat × Nat) (h : W.heap[g]? = some (.cells #[x, y, z] t fr)) (hx : x.oneCell' = true) (hy : y.oneCell' = true) (hz : z.oneCell' = true) : PartOk W 3 ⟨some ⟨g, 0, none⟩, 1, 1, [x, y, z]⟩ :=
  ⟨rfl, fun e => (by cases e), fun a ha j u hj => by
    cases ha
    rw [WideShapes.add_plain, Nat.zero_add, cell_of_row _ _ _ _ _ _ h, ← Array.getElem?_toList]
    exact hj, fun u hu => by
      simp only [List.mem_cons, List.not_mem_nil, or_false] at hu
      rcases hu with rfl | rfl | rfl
      · exact hx
      · exact hy
      · exact hz⟩
set_option maxRecDepth 100000 in
set_option maxHeartbeats 8000000 in
theorem dcuts_leaf {p q : Int} {r : Nr} {N : Nd} {k : Nat} {N1 N2 : Nat → Nd} {sp : Nat → ByteArray} {a b : Nat → Nat} (w : World) (hk : k = N.ps.length - 1) (hn : N.ps.length ≤ 1048576)
    (HK : Hid (∀ W, Same w W → Calls Tryz.prog 44 #[frameV p q, ndV r N] W fun e w' => e = .returned (.int .i64 0) ∧ Same W w'))
    (HLf : Hid (∀ W, Calls Tryz.prog 64 #[ndV r N] W fun e w' => e = .returned (.bool true) ∧ Same W w'))
    (HCut : Hid (∀ W i, Same w W → 1 ≤ i → i < k + 1 → Calls Tryz.prog 47 #[ndV r N, .int .i64 (i : Int)] W fun e w' => ∃ r1 r2, e = .returned (.agg (halvesN r1 r2 (N1 i) (N2 i) (sp i))) ∧ MadeNd w' W.heap.size r1 (N1 i) ∧ MadeNd w' W.heap.size r2 (N2 i) ∧ Same W w'))
    (HZ1 : Hid (∀ W B i r', 1 ≤ i → i < k + 1 → MadeNd W B r' (N1 i) → Calls Tryz.prog 66 #[frameV p q, ndV r' (N1 i)] W fun e w' => e = .returned (.int .i64 (a i : Int)) ∧ Same W w'))
    (HZ2 : Hid (∀ W B i r', 1 ≤ i → i < k + 1 → MadeNd W B r' (N2 i) → Calls Tryz.prog 66 #[frameV p q, ndV r' (N2 i)] W fun e w' => e = .returned (.int .i64 (b i : Int)) ∧ Same W w')) :
    Calls Tryz.prog 45 #[frameV p q, ndV r N] w fun e w' => ∃ ao c, e = .returned (.slice ao k c) ∧ w'.ownsRow w.heap.size 78 3 (.slice ao k c) k (ccells (cutsL 1 k a b)) ∧ Same w w' := by
  obtain ⟨V, hV⟩ : ∃ V, V = (w.alloc (.cells #[.int .i64 p, .int .i64 q] 23)).alloc (.cells #[.slice r.pa N.ps.length r.cp, .slice r.sa N.ss.length r.cs, .slice r.ka N.ks.length r.ck] 28) := ⟨_, rfl⟩
  have t1 : Same w V := by rw [hV]; exact ((Fr.refl _ w).alloc _).alloc _
  have a0 : V.cell? ⟨w.heap.size, 0, none⟩ = some (.int .i64 p) := by rw [hV]; simp
  have a1 : V.cell? ⟨w.heap.size, 1, none⟩ = some (.int .i64 q) := by rw [hV]; simp
  have n0 : V.cell? ⟨w.heap.size + 1, 0, none⟩ = some (.slice r.pa N.ps.length r.cp) := by rw [hV]; simp
  have n1 : V.cell? ⟨w.heap.size + 1, 1, none⟩ = some (.slice r.sa N.ss.length r.cs) := by rw [hV]; simp
  have n2 : V.cell? ⟨w.heap.size + 1, 2, none⟩ = some (.slice r.ka N.ks.length r.ck) := by rw [hV]; simp
  have HC : Hid (∀ W, Same V W → (W.cell? ⟨w.heap.size, 0, none⟩ = some (.int .i64 p) ∧ W.cell? ⟨w.heap.size, 1, none⟩ = some (.int .i64 q)) ∧ W.cell? ⟨w.heap.size + 1, 0, none⟩ = some (.slice r.pa N.ps.length r.cp) ∧ W.cell? ⟨w.heap.size + 1, 1, none⟩ = some (.slice r.sa N.ss.length r.cs) ∧ W.cell? ⟨w.heap.size + 1, 2, none⟩ = some (.slice r.ka N.ks.length r.ck)) := fun W s => ⟨⟨s.keep a0, s.keep a1⟩, s.keep n0, s.keep n1, s.keep n2⟩
  have HVZ : Hid (w.heap.size ≤ V.heap.size) := t1.size
  obtain ⟨TT, hTT⟩ : ∃ TT : Int, TT = (N.ps.length : Int) - 1 := ⟨_, rfl⟩
  have HTT : Hid (TT < (k : Int) + 1 ∧ (k ≠ 0 → TT = (k : Int))) := ⟨by omega, fun h => by omega⟩
  have wT : RowKit.wrap64 ((N.ps.length : Int) - 1) = TT := by unfold RowKit.wrap64; omega
  have wT2 : IntKind.i64.wrap ((N.ps.length : Int) - 1) = TT := by rw [IntKind.wrap_i64]; omega
  have HL : Hid (k ≤ 1048576) := by show k ≤ _; omega
  clear hTT hk hn
  unfold ndV nodeV at HK HLf HCut ⊢
  go_enter Tryz.func45, Tryz.ntmps45
  go_wp2_with fail
  rw [← hV]
  clear hV
  refine (HK.out _ t1).mono ?_
  rintro e W1 ⟨rfl, s1⟩
  clear a0 a1 n0 n1 n2
  obtain ⟨⟨a0, a1⟩, n0, n1, n2⟩ := HC.out _ s1
  go_wp2_with fail
  refine (HLf.out _).mono ?_
  rintro e W2 ⟨rfl, s2⟩
  have s2 := s1.trans s2
  clear a0 a1 n0 n1 n2
  obtain ⟨⟨a0, a1⟩, n0, n1, n2⟩ := HC.out _ s2
  go_wp2_with fail
  go_loopg [5, 8] k (fun g lv iv wr => ∃ (j : Nat) (ao : Option Addr) (c : Nat), lv = .slice ao j c ∧ iv = .int .i64 ((j + 1 : Nat) : Int) ∧ j ≤ k ∧ g = k - j ∧ Hid (wr.ownsRow V.heap.size 78 3 (.slice ao j c) j (ccells (cutsL 1 j a b))) ∧ Hid (Same V wr))
  case atStart => exact ⟨0, none, 0, rfl, rfl, by omega, rfl, own_nil, s2⟩
  case round =>
    clear a0 a1 n0 n1 n2
    obtain ⟨j, ao, c, rfl, rfl, hj, hg, HO, HS⟩ := hrel
    obtain ⟨⟨a0, a1⟩, n0, n1, n2⟩ := HC.out _ HS.out
    obtain ⟨I, hI⟩ : ∃ I, I = j + 1 := ⟨_, rfl⟩
    rw [← hI]
    have HI : Hid (I = j + 1) := hI
    by_cases hgo : j < k
    · have hle : (I : Int) ≤ TT := by have := HTT.out.2 (by omega); omega
      have hb1 : 1 ≤ I := by omega
      have hb2 : I < k + 1 := by omega
      have HB : Hid (1 ≤ I ∧ I < k + 1) := ⟨hb1, hb2⟩
      clear hI hb1 hb2
      go_wp2_with fail
      refine (HCut.out _ I (t1.trans HS.out) HB.out.1 HB.out.2).mono ?_
      rintro e W3 ⟨r1, r2, rfl, m1, m2, s3⟩
      unfold halvesN
      obtain ⟨X, hX⟩ : ∃ X, X = W3.alloc (.cells #[.slice r1.pa (N1 I).ps.length r1.cp, .slice r1.sa (N1 I).ss.length r1.cs, .slice r1.ka (N1 I).ks.length r1.ck, .string (sp I), .slice r2.pa (N2 I).ps.length r2.cp, .slice r2.sa (N2 I).ss.length r2.cs, .slice r2.ka (N2 I).ks.length r2.ck] 30) := ⟨_, rfl⟩
      have sX : Same wr X := by rw [hX]; exact Fr.alloc s3 _
      have rX : X.heap[W3.heap.size]? = some (.cells #[.slice r1.pa (N1 I).ps.length r1.cp, .slice r1.sa (N1 I).ss.length r1.cs, .slice r1.ka (N1 I).ks.length r1.ck, .string (sp I), .slice r2.pa (N2 I).ps.length r2.cp, .slice r2.sa (N2 I).ss.length r2.cs, .slice r2.ka (N2 I).ks.length r2.ck] 30 (0, 0)) := by rw [hX]; exact heap_alloc_new W3 _
      obtain ⟨hb, hhb⟩ : ∃ hb, hb = W3.heap.size := ⟨_, rfl⟩
      rw [← hhb] at rX
      have M1 : MadeNd X wr.heap.size r1 (N1 I) := by rw [hX]; exact m1.same ((Fr.refl _ _).alloc _)
      have M2 : MadeNd X wr.heap.size r2 (N2 I) := by rw [hX]; exact m2.same ((Fr.refl _ _).alloc _)
      have HM : Hid (MadeNd X wr.heap.size r1 (N1 I) ∧ MadeNd X wr.heap.size r2 (N2 I)) := ⟨M1, M2⟩
      have HH : Hid (∀ W : World, W.heap[hb]? = X.heap[hb]? → HCells W hb r1 r2 (N1 I) (N2 I) (sp I)) := fun W e => hcells_row (e.trans rX)
      have OX : X.ownsRow V.heap.size 78 3 (.slice ao j c) j (ccells (cutsL 1 j a b)) := own_frameB HO.out sX (fun _ _ f => f)
      have HOX : Hid (X.ownsRow V.heap.size 78 3 (.slice ao j c) j (ccells (cutsL 1 j a b))) := OX
      have HSX : Hid (Same V X) := HS.out.trans sX
      have HRX : Hid (X.heap[hb]? = some (.cells #[.slice r1.pa (N1 I).ps.length r1.cp, .slice r1.sa (N1 I).ss.length r1.cs, .slice r1.ka (N1 I).ks.length r1.ck, .string (sp I), .slice r2.pa (N2 I).ps.length r2.cp, .slice r2.sa (N2 I).ss.length r2.cs, .slice r2.ka (N2 I).ks.length r2.ck] 30 (0, 0))) := rX
      unfold HCells at HH
      clear m1 m2 s3 sX rX M1 M2 OX HO HS
      clear a0 a1 n0 n1 n2
      obtain ⟨⟨a0, a1⟩, n0, n1, n2⟩ := HC.out _ HSX.out
      obtain ⟨h0, h1, h2, h3, h4, h5, h6⟩ := HH.out X rfl
      rw [hX] at a0 a1 n0 n1 n2 h0 h1 h2 h3 h4 h5 h6
      rw [hhb] at h0 h1 h2 h3 h4 h5 h6
      go_wp2_with fail
      rw [← hX, ← hhb]
      rw [← hX] at a0 a1 n0 n1 n2 h0 h1 h2 h3 h4 h5 h6
      rw [← hhb] at h0 h1 h2 h3 h4 h5 h6
      clear hX hhb
      have d0 : Same X X.drew := Fr.drew (Fr.refl _ _)
      have lx : hb < X.heap.size := lt_of_heap HRX.out
      refine wp_region_held_drew (S := fun Y => (Y.cell? ⟨w.heap.size, 0, none⟩ = some (.int .i64 p) ∧ Y.cell? ⟨w.heap.size, 1, none⟩ = some (.int .i64 q)) ∧ Y.cell? ⟨hb, 0, none⟩ = some (.slice r1.pa (N1 I).ps.length r1.cp) ∧ Y.cell? ⟨hb, 1, none⟩ = some (.slice r1.sa (N1 I).ss.length r1.cs) ∧ Y.cell? ⟨hb, 2, none⟩ = some (.slice r1.ka (N1 I).ks.length r1.ck) ∧ Y.cell? ⟨hb, 3, none⟩ = some (.string (sp I)) ∧ Y.cell? ⟨hb, 4, none⟩ = some (.slice r2.pa (N2 I).ps.length r2.cp) ∧ Y.cell? ⟨hb, 5, none⟩ = some (.slice r2.sa (N2 I).ss.length r2.cs) ∧ Y.cell? ⟨hb, 6, none⟩ = some (.slice r2.ka (N2 I).ks.length r2.ck)) (by kernel_rfl) (⟨(HC.out _ (HSX.out.trans d0)).1, HH.out _ (d0.block _ lx (fun e => e))⟩) (fun hHeld => ?_)
      generalize X.drew = D0 at *
      refine wpAnyH_take (i := 0) (oi := { dst := some 35, op := Go.Op.move (Go.Operand.tmp 5), type := 74, pos := "ref.go:179", after := #[], guard := none }) (v := .slice ao j c) rfl (by kernel_rfl) (by kernel_rfl) (by kernel_rfl) (fun _ _ _ h => h) (Or.inl ⟨by rfl, fun w hSw => by (obtain ⟨⟨z0, z1⟩, z2, z3, z4, z5, z6, z7, z8⟩ := hSw; go_simp)⟩) (by assumption) ?_
      try simp only [Act.put, List.setIfInBounds_toArray, List.set_cons_zero, List.set_cons_succ]
      refine wpAnyH_take (i := 1) (oi := { dst := some 36, op := Go.Op.move (Go.Operand.tmp 8), type := 3, pos := "ref.go:179", after := #[], guard := none }) (v := .int .i64 (I : Int)) rfl (by kernel_rfl) (by kernel_rfl) (by kernel_rfl) (fun _ _ _ h => h) (Or.inl ⟨by rfl, fun w hSw => by (obtain ⟨⟨z0, z1⟩, z2, z3, z4, z5, z6, z7, z8⟩ := hSw; go_simp)⟩) (by assumption) ?_
      try simp only [Act.put, List.setIfInBounds_toArray, List.set_cons_zero, List.set_cons_succ]
      refine wpAnyH_take (i := 2) (oi := { dst := some 37, op := Go.Op.load 23 (Go.Operand.tmp 2), type := 23, pos := "ref.go:179", after := #[], guard := none }) (v := .agg #[.int .i64 p, .int .i64 q]) rfl (by kernel_rfl) (by kernel_rfl) (by kernel_rfl) (fun _ _ _ h => h) (Or.inl ⟨by rfl, fun w hSw => by (obtain ⟨⟨z0, z1⟩, z2, z3, z4, z5, z6, z7, z8⟩ := hSw; go_simp)⟩) (by assumption) ?_
      try simp only [Act.put, List.setIfInBounds_toArray, List.set_cons_zero, List.set_cons_succ]
      refine wpAnyH_take (i := 3) (oi := { dst := some 38, op := Go.Op.fieldAddr 30 (Go.Operand.tmp 9) 0, type := 0, pos := "ref.go:179", after := #[], guard := none }) (v := .pointer (some ⟨hb, 0, none⟩)) rfl (by kernel_rfl) (by kernel_rfl) (by kernel_rfl) (fun _ _ _ h => h) (Or.inl ⟨by rfl, fun w hSw => by (obtain ⟨⟨z0, z1⟩, z2, z3, z4, z5, z6, z7, z8⟩ := hSw; go_simp)⟩) (by assumption) ?_
      try simp only [Act.put, List.setIfInBounds_toArray, List.set_cons_zero, List.set_cons_succ]
      refine wpAnyH_take (i := 4) (oi := { dst := some 39, op := Go.Op.load 28 (Go.Operand.tmp 38), type := 28, pos := "ref.go:179", after := #[{ on := 3, ground := Go.Ground.data }], guard := none }) (v := .agg #[.slice r1.pa (N1 I).ps.length r1.cp, .slice r1.sa (N1 I).ss.length r1.cs, .slice r1.ka (N1 I).ks.length r1.ck]) rfl (by kernel_rfl) (by kernel_rfl) (by kernel_rfl) (fun _ _ _ h => h) (Or.inl ⟨by rfl, fun w hSw => by (obtain ⟨⟨z0, z1⟩, z2, z3, z4, z5, z6, z7, z8⟩ := hSw; go_simp)⟩) (by assumption) ?_
      try simp only [Act.put, List.setIfInBounds_toArray, List.set_cons_zero, List.set_cons_succ]
      refine wpAnyH_take (i := 6) (oi := { dst := some 41, op := Go.Op.load 23 (Go.Operand.tmp 2), type := 23, pos := "ref.go:179", after := #[], guard := none }) (v := .agg #[.int .i64 p, .int .i64 q]) rfl (by kernel_rfl) (by kernel_rfl) (by kernel_rfl) (fun _ _ _ h => h) (Or.inl ⟨by rfl, fun w hSw => by (obtain ⟨⟨z0, z1⟩, z2, z3, z4, z5, z6, z7, z8⟩ := hSw; go_simp)⟩) (by assumption) ?_
      try simp only [Act.put, List.setIfInBounds_toArray, List.set_cons_zero, List.set_cons_succ]
      refine wpAnyH_take (i := 7) (oi := { dst := some 42, op := Go.Op.fieldAddr 30 (Go.Operand.tmp 9) 2, type := 0, pos := "ref.go:179", after := #[], guard := none }) (v := .pointer (some ⟨hb, 4, none⟩)) rfl (by kernel_rfl) (by kernel_rfl) (by kernel_rfl) (fun _ _ _ h => h) (Or.inl ⟨by rfl, fun w hSw => by (obtain ⟨⟨z0, z1⟩, z2, z3, z4, z5, z6, z7, z8⟩ := hSw; go_simp)⟩) (by assumption) ?_
      try simp only [Act.put, List.setIfInBounds_toArray, List.set_cons_zero, List.set_cons_succ]
      refine wpAnyH_take (i := 8) (oi := { dst := some 43, op := Go.Op.load 28 (Go.Operand.tmp 42), type := 28, pos := "ref.go:179", after := #[{ on := 7, ground := Go.Ground.data }], guard := none }) (v := .agg #[.slice r2.pa (N2 I).ps.length r2.cp, .slice r2.sa (N2 I).ss.length r2.cs, .slice r2.ka (N2 I).ks.length r2.ck]) rfl (by kernel_rfl) (by kernel_rfl) (by kernel_rfl) (fun _ _ _ h => h) (Or.inl ⟨by rfl, fun w hSw => by (obtain ⟨⟨z0, z1⟩, z2, z3, z4, z5, z6, z7, z8⟩ := hSw; go_simp)⟩) (by assumption) ?_
      try simp only [Act.put, List.setIfInBounds_toArray, List.set_cons_zero, List.set_cons_succ]
      refine wpAnyH_ready (rs := [5]) (by kernel_rfl) (by simp) ?_
      refine AllReadyH.cons (o := { dst := some 40, op := Go.Op.call { callee := Go.Callee.value (Go.Operand.func 66), args := #[Go.Operand.tmp 37, Go.Operand.tmp 39], argTypes := #[23, 28] }, type := 3, pos := "ref.go:179", after := #[{ on := 2, ground := Go.Ground.data }, { on := 4, ground := Go.Ground.data }], guard := none }) rfl (fun K hK => ?_) AllReadyH.nil
      go_simp
      go_at_call 66
      refine (HZ1.out _ _ _ _ HB.out.1 HB.out.2 (HM.out.1.same d0)).mono ?_
      rintro e Z1 ⟨rfl, q1⟩
      try go_wp2_with fail
      have d1 := d0.trans q1
      refine hK.out _ _ (⟨(HC.out _ (HSX.out.trans d1)).1, HH.out _ (d1.block _ lx (fun e => e))⟩) (fun hHeld => ?_)
      clear hK K
      try simp only [Act.put, List.setIfInBounds_toArray, List.set_cons_zero, List.set_cons_succ]
      refine wpAnyH_ready (rs := [9]) (by kernel_rfl) (by simp) ?_
      refine AllReadyH.cons (o := { dst := some 44, op := Go.Op.call { callee := Go.Callee.value (Go.Operand.func 66), args := #[Go.Operand.tmp 41, Go.Operand.tmp 43], argTypes := #[23, 28] }, type := 3, pos := "ref.go:179", after := #[{ on := 6, ground := Go.Ground.data }, { on := 8, ground := Go.Ground.data }, { on := 5, ground := Go.Ground.chain }], guard := none }) rfl (fun K hK => ?_) AllReadyH.nil
      go_simp
      go_at_call 66
      refine (HZ2.out _ _ _ _ HB.out.1 HB.out.2 (HM.out.2.same d1)).mono ?_
      rintro e Z2 ⟨rfl, q2⟩
      try go_wp2_with fail
      have d2 := d1.trans q2
      refine hK.out _ _ (⟨(HC.out _ (HSX.out.trans d2)).1, HH.out _ (d2.block _ lx (fun e => e))⟩) (fun hHeld => ?_)
      clear hK K
      try simp only [Act.put, List.setIfInBounds_toArray, List.set_cons_zero, List.set_cons_succ]
      refine wpAnyH_take (i := 10) (oi := { dst := some 45, op := Go.Op.build 78 #[(0, Go.Operand.tmp 36), (1, Go.Operand.tmp 40), (2, Go.Operand.tmp 44)], type := 78, pos := "ref.go:179", after := #[{ on := 1, ground := Go.Ground.data }, { on := 5, ground := Go.Ground.data }, { on := 9, ground := Go.Ground.data }], guard := none }) (v := .agg #[.int .i64 (I : Int), .int .i64 (a I : Int), .int .i64 (b I : Int)]) rfl (by kernel_rfl) (by kernel_rfl) (by kernel_rfl) (fun _ _ _ h => h) (Or.inl ⟨by rfl, fun w hSw => by (obtain ⟨⟨z0, z1⟩, z2, z3, z4, z5, z6, z7, z8⟩ := hSw; go_simp)⟩) (by assumption) ?_
      try simp only [Act.put, List.setIfInBounds_toArray, List.set_cons_zero, List.set_cons_succ]
      have d3 : Same X (Z2.alloc (.cells #[.int .i64 (I : Int), .int .i64 (a I : Int), .int .i64 (b I : Int)] 78)) := Fr.alloc d2 _
      have r3 := heap_alloc_new Z2 (.cells #[.int .i64 (I : Int), .int .i64 (a I : Int), .int .i64 (b I : Int)] 78)
      refine wpAnyH_ready (rs := [11]) (by kernel_rfl) (by simp) ?_
      refine AllReadyH.cons (o := { dst := some 46, op := Go.Op.buildSlice 74 1 #[(0, Go.Operand.tmp 45)], type := 74, pos := "ref.go:179", after := #[{ on := 10, ground := Go.Ground.data }], guard := none }) rfl (fun K hK => ?_) AllReadyH.nil
      go_simp
      refine hK.out _ _ ⟨(HC.out _ (HSX.out.trans d3)).1, HH.out _ (d3.block _ lx (fun e => e))⟩ (fun hHeld => ?_)
      clear hK K
      try simp only [Act.put, List.setIfInBounds_toArray, List.set_cons_zero, List.set_cons_succ]
      have o3 := own_frameB HOX.out d3 (fun _ _ f => f)
      refine wpAnyH_ready (rs := [12]) (by kernel_rfl) (by simp) ?_
      refine AllReadyH.cons (o := { dst := some 47, op := Go.Op.call { callee := Go.Callee.builtin Go.Builtin.append, args := #[Go.Operand.tmp 35, Go.Operand.tmp 46], argTypes := #[74, 74] }, type := 74, pos := "ref.go:179", after := #[{ on := 0, ground := Go.Ground.data }, { on := 11, ground := Go.Ground.data }, { on := 9, ground := Go.Ground.chain }], guard := none }) rfl (fun K hK => ?_) AllReadyH.nil
      refine step_partCuts (B := V.heap.size) _ rfl _ _ rfl (by rfl) o3 (x := ⟨some ⟨Z2.heap.size, 0, none⟩, 1, 1, [.int .i64 (I : Int), .int .i64 (a I : Int), .int .i64 (b I : Int)]⟩) (by rfl) (part_three _ _ r3 rfl rfl rfl) (by have := HL.out; simp only; omega) ((HSX.out.trans d3).size) ?_
      intro ao4 c4 W4 o4 g4
      have f4 : Fr (fun k => Value.ownBlock (.slice ao j c) = some k) (Z2.alloc (.cells #[.int .i64 (I : Int), .int .i64 (a I : Int), .int .i64 (b I : Int)] 78)) W4 := Fr.grown (Fr.refl _ _) g4 (fun k hk _ => hk)
      have v4 : Same V W4 := Fr.grown (HSX.out.trans d3) g4 (fun k hk hl => by have := o3.lt k hk; omega)
      have b4 : W4.heap[hb]? = X.heap[hb]? := (f4.block hb (Nat.lt_of_lt_of_le lx d3.size) (fun e => type_ne o3 ((d3.block hb lx (fun e => e)).trans HRX.out) (by decide) e)).trans (d3.block hb lx (fun e => e))
      refine hK.out _ _ ⟨(HC.out _ (v4)).1, HH.out _ (b4)⟩ (fun hHeld => ?_)
      clear hK K
      try simp only [Act.put, List.setIfInBounds_toArray, List.set_cons_zero, List.set_cons_succ]
      refine wpAnyH_take (i := 13) (oi := { dst := some 5, op := Go.Op.assign (Go.Operand.tmp 47), type := 74, pos := "ref.go:179", after := #[{ on := 12, ground := Go.Ground.data }, { on := 12, ground := Go.Ground.chain }, { on := 0, ground := Go.Ground.phase }, { on := 1, ground := Go.Ground.phase }, { on := 2, ground := Go.Ground.phase }, { on := 3, ground := Go.Ground.phase }, { on := 4, ground := Go.Ground.phase }, { on := 5, ground := Go.Ground.phase }, { on := 6, ground := Go.Ground.phase }, { on := 7, ground := Go.Ground.phase }, { on := 8, ground := Go.Ground.phase }, { on := 9, ground := Go.Ground.phase }, { on := 10, ground := Go.Ground.phase }, { on := 11, ground := Go.Ground.phase }, { on := 12, ground := Go.Ground.phase }], guard := none }) (v := .slice ao4 (j + 1) c4) rfl (by kernel_rfl) (by kernel_rfl) (by kernel_rfl) (fun _ _ _ h => h) (Or.inl ⟨by rfl, fun w hSw => by (obtain ⟨⟨z0, z1⟩, z2, z3, z4, z5, z6, z7, z8⟩ := hSw; go_simp)⟩) (by assumption) ?_
      try simp only [Act.put, List.setIfInBounds_toArray, List.set_cons_zero, List.set_cons_succ]
      refine wpAnyH_done (by kernel_rfl) ?_ _
      have HO4 : Hid (W4.ownsRow V.heap.size 78 3 (.slice ao4 (j + 1) c4) (j + 1) (ccells (cutsL 1 (j + 1) a b))) := by
        have e : ccells (cutsL 1 (j + 1) a b) = ccells (cutsL 1 j a b) ++ [.int .i64 (I : Int), .int .i64 (a I : Int), .int .i64 (b I : Int)] := by rw [cutsL_succ, ccells_app, HI.out]; rfl
        show W4.ownsRow _ _ _ _ _ _
        rw [e]
        exact o4
      have HwI : Hid (RowKit.wrap64 ((I : Int) + 1) = ((j + 1 + 1 : Nat) : Int)) := by show _ = _; unfold RowKit.wrap64; have := HI.out; have := HL.out; omega
      have HV4 : Hid (Same V W4) := v4
      clear o4 g4 f4 v4 b4 o3 r3 d3 d2 d1 d0 q1 q2 a0 a1 n0 n1 n2 h0 h1 h2 h3 h4 h5 h6 lx
      go_wp2_with fail
      go_roundg (k - (j + 1))
      case measure => omega
      case rel => exact ⟨j + 1, ao4, c4, rfl, by rw [HwI.out], by omega, rfl, HO4, HV4⟩
    · have hle : decide ((I : Int) ≤ TT) = false := decide_eq_false (by have := HTT.out.1; omega)
      obtain rfl : k = j := by omega
      clear hI
      go_wp2_with fail
      go_ret
      have := HVZ.out
      exact ⟨ao, c, rfl, own_base HO.out (by omega), t1.trans HS.out⟩
set_option maxRecDepth 100000 in
set_option maxHeartbeats 8000000 in
theorem dcuts_branch {p q : Int} {r : Nr} {N : Nd} {k : Nat} {N1 N2 : Nat → Nd} {sp : Nat → ByteArray} {a b : Nat → Nat} (w : World) (hk : k = N.ks.length - 3) (hk2 : 2 ≤ N.ks.length) (hn : N.ks.length ≤ 1048576) (hn2 : N.ps.length ≤ 1048576)
    (HK : Hid (∀ W, Same w W → Calls Tryz.prog 44 #[frameV p q, ndV r N] W fun e w' => e = .returned (.int .i64 0) ∧ Same W w'))
    (HLf : Hid (∀ W, Calls Tryz.prog 64 #[ndV r N] W fun e w' => e = .returned (.bool false) ∧ Same W w'))
    (HCut : Hid (∀ W i, Same w W → 2 ≤ i → i < k + 2 → Calls Tryz.prog 47 #[ndV r N, .int .i64 (i : Int)] W fun e w' => ∃ r1 r2, e = .returned (.agg (halvesN r1 r2 (N1 i) (N2 i) (sp i))) ∧ MadeNd w' W.heap.size r1 (N1 i) ∧ MadeNd w' W.heap.size r2 (N2 i) ∧ Same W w'))
    (HZ1 : Hid (∀ W B i r', 2 ≤ i → i < k + 2 → MadeNd W B r' (N1 i) → Calls Tryz.prog 66 #[frameV p q, ndV r' (N1 i)] W fun e w' => e = .returned (.int .i64 (a i : Int)) ∧ Same W w'))
    (HZ2 : Hid (∀ W B i r', 2 ≤ i → i < k + 2 → MadeNd W B r' (N2 i) → Calls Tryz.prog 66 #[frameV p q, ndV r' (N2 i)] W fun e w' => e = .returned (.int .i64 (b i : Int)) ∧ Same W w')) :
    Calls Tryz.prog 45 #[frameV p q, ndV r N] w fun e w' => ∃ ao c, e = .returned (.slice ao k c) ∧ w'.ownsRow w.heap.size 78 3 (.slice ao k c) k (ccells (cutsL 2 k a b)) ∧ Same w w' := by
  obtain ⟨V, hV⟩ : ∃ V, V = (w.alloc (.cells #[.int .i64 p, .int .i64 q] 23)).alloc (.cells #[.slice r.pa N.ps.length r.cp, .slice r.sa N.ss.length r.cs, .slice r.ka N.ks.length r.ck] 28) := ⟨_, rfl⟩
  have t1 : Same w V := by rw [hV]; exact ((Fr.refl _ w).alloc _).alloc _
  have a0 : V.cell? ⟨w.heap.size, 0, none⟩ = some (.int .i64 p) := by rw [hV]; simp
  have a1 : V.cell? ⟨w.heap.size, 1, none⟩ = some (.int .i64 q) := by rw [hV]; simp
  have n0 : V.cell? ⟨w.heap.size + 1, 0, none⟩ = some (.slice r.pa N.ps.length r.cp) := by rw [hV]; simp
  have n1 : V.cell? ⟨w.heap.size + 1, 1, none⟩ = some (.slice r.sa N.ss.length r.cs) := by rw [hV]; simp
  have n2 : V.cell? ⟨w.heap.size + 1, 2, none⟩ = some (.slice r.ka N.ks.length r.ck) := by rw [hV]; simp
  have HC : Hid (∀ W, Same V W → (W.cell? ⟨w.heap.size, 0, none⟩ = some (.int .i64 p) ∧ W.cell? ⟨w.heap.size, 1, none⟩ = some (.int .i64 q)) ∧ W.cell? ⟨w.heap.size + 1, 0, none⟩ = some (.slice r.pa N.ps.length r.cp) ∧ W.cell? ⟨w.heap.size + 1, 1, none⟩ = some (.slice r.sa N.ss.length r.cs) ∧ W.cell? ⟨w.heap.size + 1, 2, none⟩ = some (.slice r.ka N.ks.length r.ck)) := fun W s => ⟨⟨s.keep a0, s.keep a1⟩, s.keep n0, s.keep n1, s.keep n2⟩
  have HVZ : Hid (w.heap.size ≤ V.heap.size) := t1.size
  obtain ⟨TT, hTT⟩ : ∃ TT : Int, TT = (N.ks.length : Int) - 2 := ⟨_, rfl⟩
  have HTT : Hid (TT < (k : Int) + 2 ∧ (k ≠ 0 → TT = (k : Int) + 1)) := ⟨by omega, fun h => by omega⟩
  have wT : RowKit.wrap64 ((N.ks.length : Int) - 2) = TT := by unfold RowKit.wrap64; omega
  have wT2 : IntKind.i64.wrap ((N.ks.length : Int) - 2) = TT := by rw [IntKind.wrap_i64]; omega
  have wS : RowKit.wrap64 ((N.ps.length : Int) - 1) = (N.ps.length : Int) - 1 := by unfold RowKit.wrap64; omega
  have HL : Hid (k ≤ 1048576) := by show k ≤ _; omega
  clear hTT hk hk2 hn hn2
  unfold ndV nodeV at HK HLf HCut ⊢
  go_enter Tryz.func45, Tryz.ntmps45
  go_wp2_with fail
  rw [← hV]
  clear hV
  refine (HK.out _ t1).mono ?_
  rintro e W1 ⟨rfl, s1⟩
  clear a0 a1 n0 n1 n2
  obtain ⟨⟨a0, a1⟩, n0, n1, n2⟩ := HC.out _ s1
  go_wp2_with fail
  refine (HLf.out _).mono ?_
  rintro e W2 ⟨rfl, s2⟩
  have s2 := s1.trans s2
  clear a0 a1 n0 n1 n2
  obtain ⟨⟨a0, a1⟩, n0, n1, n2⟩ := HC.out _ s2
  go_wp2_with fail
  go_loopg [5, 8] k (fun g lv iv wr => ∃ (j : Nat) (ao : Option Addr) (c : Nat), lv = .slice ao j c ∧ iv = .int .i64 ((j + 2 : Nat) : Int) ∧ j ≤ k ∧ g = k - j ∧ Hid (wr.ownsRow V.heap.size 78 3 (.slice ao j c) j (ccells (cutsL 2 j a b))) ∧ Hid (Same V wr))
  case atStart => exact ⟨0, none, 0, rfl, rfl, by omega, rfl, own_nil, s2⟩
  case round =>
    clear a0 a1 n0 n1 n2
    obtain ⟨j, ao, c, rfl, rfl, hj, hg, HO, HS⟩ := hrel
    obtain ⟨⟨a0, a1⟩, n0, n1, n2⟩ := HC.out _ HS.out
    obtain ⟨I, hI⟩ : ∃ I, I = j + 2 := ⟨_, rfl⟩
    rw [← hI]
    have HI : Hid (I = j + 2) := hI
    by_cases hgo : j < k
    · have hle : (I : Int) ≤ TT := by have := HTT.out.2 (by omega); omega
      have hb1 : 2 ≤ I := by omega
      have hb2 : I < k + 2 := by omega
      have HB : Hid (2 ≤ I ∧ I < k + 2) := ⟨hb1, hb2⟩
      clear hI hb1 hb2
      go_wp2_with fail
      refine (HCut.out _ I (t1.trans HS.out) HB.out.1 HB.out.2).mono ?_
      rintro e W3 ⟨r1, r2, rfl, m1, m2, s3⟩
      unfold halvesN
      obtain ⟨X, hX⟩ : ∃ X, X = W3.alloc (.cells #[.slice r1.pa (N1 I).ps.length r1.cp, .slice r1.sa (N1 I).ss.length r1.cs, .slice r1.ka (N1 I).ks.length r1.ck, .string (sp I), .slice r2.pa (N2 I).ps.length r2.cp, .slice r2.sa (N2 I).ss.length r2.cs, .slice r2.ka (N2 I).ks.length r2.ck] 30) := ⟨_, rfl⟩
      have sX : Same wr X := by rw [hX]; exact Fr.alloc s3 _
      have rX : X.heap[W3.heap.size]? = some (.cells #[.slice r1.pa (N1 I).ps.length r1.cp, .slice r1.sa (N1 I).ss.length r1.cs, .slice r1.ka (N1 I).ks.length r1.ck, .string (sp I), .slice r2.pa (N2 I).ps.length r2.cp, .slice r2.sa (N2 I).ss.length r2.cs, .slice r2.ka (N2 I).ks.length r2.ck] 30 (0, 0)) := by rw [hX]; exact heap_alloc_new W3 _
      obtain ⟨hb, hhb⟩ : ∃ hb, hb = W3.heap.size := ⟨_, rfl⟩
      rw [← hhb] at rX
      have M1 : MadeNd X wr.heap.size r1 (N1 I) := by rw [hX]; exact m1.same ((Fr.refl _ _).alloc _)
      have M2 : MadeNd X wr.heap.size r2 (N2 I) := by rw [hX]; exact m2.same ((Fr.refl _ _).alloc _)
      have HM : Hid (MadeNd X wr.heap.size r1 (N1 I) ∧ MadeNd X wr.heap.size r2 (N2 I)) := ⟨M1, M2⟩
      have HH : Hid (∀ W : World, W.heap[hb]? = X.heap[hb]? → HCells W hb r1 r2 (N1 I) (N2 I) (sp I)) := fun W e => hcells_row (e.trans rX)
      have OX : X.ownsRow V.heap.size 78 3 (.slice ao j c) j (ccells (cutsL 2 j a b)) := own_frameB HO.out sX (fun _ _ f => f)
      have HOX : Hid (X.ownsRow V.heap.size 78 3 (.slice ao j c) j (ccells (cutsL 2 j a b))) := OX
      have HSX : Hid (Same V X) := HS.out.trans sX
      have HRX : Hid (X.heap[hb]? = some (.cells #[.slice r1.pa (N1 I).ps.length r1.cp, .slice r1.sa (N1 I).ss.length r1.cs, .slice r1.ka (N1 I).ks.length r1.ck, .string (sp I), .slice r2.pa (N2 I).ps.length r2.cp, .slice r2.sa (N2 I).ss.length r2.cs, .slice r2.ka (N2 I).ks.length r2.ck] 30 (0, 0))) := rX
      unfold HCells at HH
      clear m1 m2 s3 sX rX M1 M2 OX HO HS
      clear a0 a1 n0 n1 n2
      obtain ⟨⟨a0, a1⟩, n0, n1, n2⟩ := HC.out _ HSX.out
      obtain ⟨h0, h1, h2, h3, h4, h5, h6⟩ := HH.out X rfl
      rw [hX] at a0 a1 n0 n1 n2 h0 h1 h2 h3 h4 h5 h6
      rw [hhb] at h0 h1 h2 h3 h4 h5 h6
      go_wp2_with fail
      rw [← hX, ← hhb]
      rw [← hX] at a0 a1 n0 n1 n2 h0 h1 h2 h3 h4 h5 h6
      rw [← hhb] at h0 h1 h2 h3 h4 h5 h6
      clear hX hhb
      have d0 : Same X X.drew := Fr.drew (Fr.refl _ _)
      have lx : hb < X.heap.size := lt_of_heap HRX.out
      refine wp_region_held_drew (S := fun Y => (Y.cell? ⟨w.heap.size, 0, none⟩ = some (.int .i64 p) ∧ Y.cell? ⟨w.heap.size, 1, none⟩ = some (.int .i64 q)) ∧ Y.cell? ⟨hb, 0, none⟩ = some (.slice r1.pa (N1 I).ps.length r1.cp) ∧ Y.cell? ⟨hb, 1, none⟩ = some (.slice r1.sa (N1 I).ss.length r1.cs) ∧ Y.cell? ⟨hb, 2, none⟩ = some (.slice r1.ka (N1 I).ks.length r1.ck) ∧ Y.cell? ⟨hb, 3, none⟩ = some (.string (sp I)) ∧ Y.cell? ⟨hb, 4, none⟩ = some (.slice r2.pa (N2 I).ps.length r2.cp) ∧ Y.cell? ⟨hb, 5, none⟩ = some (.slice r2.sa (N2 I).ss.length r2.cs) ∧ Y.cell? ⟨hb, 6, none⟩ = some (.slice r2.ka (N2 I).ks.length r2.ck)) (by kernel_rfl) (⟨(HC.out _ (HSX.out.trans d0)).1, HH.out _ (d0.block _ lx (fun e => e))⟩) (fun hHeld => ?_)
      generalize X.drew = D0 at *
      refine wpAnyH_take (i := 0) (oi := { dst := some 35, op := Go.Op.move (Go.Operand.tmp 5), type := 74, pos := "ref.go:179", after := #[], guard := none }) (v := .slice ao j c) rfl (by kernel_rfl) (by kernel_rfl) (by kernel_rfl) (fun _ _ _ h => h) (Or.inl ⟨by rfl, fun w hSw => by (obtain ⟨⟨z0, z1⟩, z2, z3, z4, z5, z6, z7, z8⟩ := hSw; go_simp)⟩) (by assumption) ?_
      try simp only [Act.put, List.setIfInBounds_toArray, List.set_cons_zero, List.set_cons_succ]
      refine wpAnyH_take (i := 1) (oi := { dst := some 36, op := Go.Op.move (Go.Operand.tmp 8), type := 3, pos := "ref.go:179", after := #[], guard := none }) (v := .int .i64 (I : Int)) rfl (by kernel_rfl) (by kernel_rfl) (by kernel_rfl) (fun _ _ _ h => h) (Or.inl ⟨by rfl, fun w hSw => by (obtain ⟨⟨z0, z1⟩, z2, z3, z4, z5, z6, z7, z8⟩ := hSw; go_simp)⟩) (by assumption) ?_
      try simp only [Act.put, List.setIfInBounds_toArray, List.set_cons_zero, List.set_cons_succ]
      refine wpAnyH_take (i := 2) (oi := { dst := some 37, op := Go.Op.load 23 (Go.Operand.tmp 2), type := 23, pos := "ref.go:179", after := #[], guard := none }) (v := .agg #[.int .i64 p, .int .i64 q]) rfl (by kernel_rfl) (by kernel_rfl) (by kernel_rfl) (fun _ _ _ h => h) (Or.inl ⟨by rfl, fun w hSw => by (obtain ⟨⟨z0, z1⟩, z2, z3, z4, z5, z6, z7, z8⟩ := hSw; go_simp)⟩) (by assumption) ?_
      try simp only [Act.put, List.setIfInBounds_toArray, List.set_cons_zero, List.set_cons_succ]
      refine wpAnyH_take (i := 3) (oi := { dst := some 38, op := Go.Op.fieldAddr 30 (Go.Operand.tmp 9) 0, type := 0, pos := "ref.go:179", after := #[], guard := none }) (v := .pointer (some ⟨hb, 0, none⟩)) rfl (by kernel_rfl) (by kernel_rfl) (by kernel_rfl) (fun _ _ _ h => h) (Or.inl ⟨by rfl, fun w hSw => by (obtain ⟨⟨z0, z1⟩, z2, z3, z4, z5, z6, z7, z8⟩ := hSw; go_simp)⟩) (by assumption) ?_
      try simp only [Act.put, List.setIfInBounds_toArray, List.set_cons_zero, List.set_cons_succ]
      refine wpAnyH_take (i := 4) (oi := { dst := some 39, op := Go.Op.load 28 (Go.Operand.tmp 38), type := 28, pos := "ref.go:179", after := #[{ on := 3, ground := Go.Ground.data }], guard := none }) (v := .agg #[.slice r1.pa (N1 I).ps.length r1.cp, .slice r1.sa (N1 I).ss.length r1.cs, .slice r1.ka (N1 I).ks.length r1.ck]) rfl (by kernel_rfl) (by kernel_rfl) (by kernel_rfl) (fun _ _ _ h => h) (Or.inl ⟨by rfl, fun w hSw => by (obtain ⟨⟨z0, z1⟩, z2, z3, z4, z5, z6, z7, z8⟩ := hSw; go_simp)⟩) (by assumption) ?_
      try simp only [Act.put, List.setIfInBounds_toArray, List.set_cons_zero, List.set_cons_succ]
      refine wpAnyH_take (i := 6) (oi := { dst := some 41, op := Go.Op.load 23 (Go.Operand.tmp 2), type := 23, pos := "ref.go:179", after := #[], guard := none }) (v := .agg #[.int .i64 p, .int .i64 q]) rfl (by kernel_rfl) (by kernel_rfl) (by kernel_rfl) (fun _ _ _ h => h) (Or.inl ⟨by rfl, fun w hSw => by (obtain ⟨⟨z0, z1⟩, z2, z3, z4, z5, z6, z7, z8⟩ := hSw; go_simp)⟩) (by assumption) ?_
      try simp only [Act.put, List.setIfInBounds_toArray, List.set_cons_zero, List.set_cons_succ]
      refine wpAnyH_take (i := 7) (oi := { dst := some 42, op := Go.Op.fieldAddr 30 (Go.Operand.tmp 9) 2, type := 0, pos := "ref.go:179", after := #[], guard := none }) (v := .pointer (some ⟨hb, 4, none⟩)) rfl (by kernel_rfl) (by kernel_rfl) (by kernel_rfl) (fun _ _ _ h => h) (Or.inl ⟨by rfl, fun w hSw => by (obtain ⟨⟨z0, z1⟩, z2, z3, z4, z5, z6, z7, z8⟩ := hSw; go_simp)⟩) (by assumption) ?_
      try simp only [Act.put, List.setIfInBounds_toArray, List.set_cons_zero, List.set_cons_succ]
      refine wpAnyH_take (i := 8) (oi := { dst := some 43, op := Go.Op.load 28 (Go.Operand.tmp 42), type := 28, pos := "ref.go:179", after := #[{ on := 7, ground := Go.Ground.data }], guard := none }) (v := .agg #[.slice r2.pa (N2 I).ps.length r2.cp, .slice r2.sa (N2 I).ss.length r2.cs, .slice r2.ka (N2 I).ks.length r2.ck]) rfl (by kernel_rfl) (by kernel_rfl) (by kernel_rfl) (fun _ _ _ h => h) (Or.inl ⟨by rfl, fun w hSw => by (obtain ⟨⟨z0, z1⟩, z2, z3, z4, z5, z6, z7, z8⟩ := hSw; go_simp)⟩) (by assumption) ?_
      try simp only [Act.put, List.setIfInBounds_toArray, List.set_cons_zero, List.set_cons_succ]
      refine wpAnyH_ready (rs := [5]) (by kernel_rfl) (by simp) ?_
      refine AllReadyH.cons (o := { dst := some 40, op := Go.Op.call { callee := Go.Callee.value (Go.Operand.func 66), args := #[Go.Operand.tmp 37, Go.Operand.tmp 39], argTypes := #[23, 28] }, type := 3, pos := "ref.go:179", after := #[{ on := 2, ground := Go.Ground.data }, { on := 4, ground := Go.Ground.data }], guard := none }) rfl (fun K hK => ?_) AllReadyH.nil
      go_simp
      go_at_call 66
      refine (HZ1.out _ _ _ _ HB.out.1 HB.out.2 (HM.out.1.same d0)).mono ?_
      rintro e Z1 ⟨rfl, q1⟩
      try go_wp2_with fail
      have d1 := d0.trans q1
      refine hK.out _ _ (⟨(HC.out _ (HSX.out.trans d1)).1, HH.out _ (d1.block _ lx (fun e => e))⟩) (fun hHeld => ?_)
      clear hK K
      try simp only [Act.put, List.setIfInBounds_toArray, List.set_cons_zero, List.set_cons_succ]
      refine wpAnyH_ready (rs := [9]) (by kernel_rfl) (by simp) ?_
      refine AllReadyH.cons (o := { dst := some 44, op := Go.Op.call { callee := Go.Callee.value (Go.Operand.func 66), args := #[Go.Operand.tmp 41, Go.Operand.tmp 43], argTypes := #[23, 28] }, type := 3, pos := "ref.go:179", after := #[{ on := 6, ground := Go.Ground.data }, { on := 8, ground := Go.Ground.data }, { on := 5, ground := Go.Ground.chain }], guard := none }) rfl (fun K hK => ?_) AllReadyH.nil
      go_simp
      go_at_call 66
      refine (HZ2.out _ _ _ _ HB.out.1 HB.out.2 (HM.out.2.same d1)).mono ?_
      rintro e Z2 ⟨rfl, q2⟩
      try go_wp2_with fail
      have d2 := d1.trans q2
      refine hK.out _ _ (⟨(HC.out _ (HSX.out.trans d2)).1, HH.out _ (d2.block _ lx (fun e => e))⟩) (fun hHeld => ?_)
      clear hK K
      try simp only [Act.put, List.setIfInBounds_toArray, List.set_cons_zero, List.set_cons_succ]
      refine wpAnyH_take (i := 10) (oi := { dst := some 45, op := Go.Op.build 78 #[(0, Go.Operand.tmp 36), (1, Go.Operand.tmp 40), (2, Go.Operand.tmp 44)], type := 78, pos := "ref.go:179", after := #[{ on := 1, ground := Go.Ground.data }, { on := 5, ground := Go.Ground.data }, { on := 9, ground := Go.Ground.data }], guard := none }) (v := .agg #[.int .i64 (I : Int), .int .i64 (a I : Int), .int .i64 (b I : Int)]) rfl (by kernel_rfl) (by kernel_rfl) (by kernel_rfl) (fun _ _ _ h => h) (Or.inl ⟨by rfl, fun w hSw => by (obtain ⟨⟨z0, z1⟩, z2, z3, z4, z5, z6, z7, z8⟩ := hSw; go_simp)⟩) (by assumption) ?_
      try simp only [Act.put, List.setIfInBounds_toArray, List.set_cons_zero, List.set_cons_succ]
      have d3 : Same X (Z2.alloc (.cells #[.int .i64 (I : Int), .int .i64 (a I : Int), .int .i64 (b I : Int)] 78)) := Fr.alloc d2 _
      have r3 := heap_alloc_new Z2 (.cells #[.int .i64 (I : Int), .int .i64 (a I : Int), .int .i64 (b I : Int)] 78)
      refine wpAnyH_ready (rs := [11]) (by kernel_rfl) (by simp) ?_
      refine AllReadyH.cons (o := { dst := some 46, op := Go.Op.buildSlice 74 1 #[(0, Go.Operand.tmp 45)], type := 74, pos := "ref.go:179", after := #[{ on := 10, ground := Go.Ground.data }], guard := none }) rfl (fun K hK => ?_) AllReadyH.nil
      go_simp
      refine hK.out _ _ ⟨(HC.out _ (HSX.out.trans d3)).1, HH.out _ (d3.block _ lx (fun e => e))⟩ (fun hHeld => ?_)
      clear hK K
      try simp only [Act.put, List.setIfInBounds_toArray, List.set_cons_zero, List.set_cons_succ]
      have o3 := own_frameB HOX.out d3 (fun _ _ f => f)
      refine wpAnyH_ready (rs := [12]) (by kernel_rfl) (by simp) ?_
      refine AllReadyH.cons (o := { dst := some 47, op := Go.Op.call { callee := Go.Callee.builtin Go.Builtin.append, args := #[Go.Operand.tmp 35, Go.Operand.tmp 46], argTypes := #[74, 74] }, type := 74, pos := "ref.go:179", after := #[{ on := 0, ground := Go.Ground.data }, { on := 11, ground := Go.Ground.data }, { on := 9, ground := Go.Ground.chain }], guard := none }) rfl (fun K hK => ?_) AllReadyH.nil
      refine step_partCuts (B := V.heap.size) _ rfl _ _ rfl (by rfl) o3 (x := ⟨some ⟨Z2.heap.size, 0, none⟩, 1, 1, [.int .i64 (I : Int), .int .i64 (a I : Int), .int .i64 (b I : Int)]⟩) (by rfl) (part_three _ _ r3 rfl rfl rfl) (by have := HL.out; simp only; omega) ((HSX.out.trans d3).size) ?_
      intro ao4 c4 W4 o4 g4
      have f4 : Fr (fun k => Value.ownBlock (.slice ao j c) = some k) (Z2.alloc (.cells #[.int .i64 (I : Int), .int .i64 (a I : Int), .int .i64 (b I : Int)] 78)) W4 := Fr.grown (Fr.refl _ _) g4 (fun k hk _ => hk)
      have v4 : Same V W4 := Fr.grown (HSX.out.trans d3) g4 (fun k hk hl => by have := o3.lt k hk; omega)
      have b4 : W4.heap[hb]? = X.heap[hb]? := (f4.block hb (Nat.lt_of_lt_of_le lx d3.size) (fun e => type_ne o3 ((d3.block hb lx (fun e => e)).trans HRX.out) (by decide) e)).trans (d3.block hb lx (fun e => e))
      refine hK.out _ _ ⟨(HC.out _ (v4)).1, HH.out _ (b4)⟩ (fun hHeld => ?_)
      clear hK K
      try simp only [Act.put, List.setIfInBounds_toArray, List.set_cons_zero, List.set_cons_succ]
      refine wpAnyH_take (i := 13) (oi := { dst := some 5, op := Go.Op.assign (Go.Operand.tmp 47), type := 74, pos := "ref.go:179", after := #[{ on := 12, ground := Go.Ground.data }, { on := 12, ground := Go.Ground.chain }, { on := 0, ground := Go.Ground.phase }, { on := 1, ground := Go.Ground.phase }, { on := 2, ground := Go.Ground.phase }, { on := 3, ground := Go.Ground.phase }, { on := 4, ground := Go.Ground.phase }, { on := 5, ground := Go.Ground.phase }, { on := 6, ground := Go.Ground.phase }, { on := 7, ground := Go.Ground.phase }, { on := 8, ground := Go.Ground.phase }, { on := 9, ground := Go.Ground.phase }, { on := 10, ground := Go.Ground.phase }, { on := 11, ground := Go.Ground.phase }, { on := 12, ground := Go.Ground.phase }], guard := none }) (v := .slice ao4 (j + 1) c4) rfl (by kernel_rfl) (by kernel_rfl) (by kernel_rfl) (fun _ _ _ h => h) (Or.inl ⟨by rfl, fun w hSw => by (obtain ⟨⟨z0, z1⟩, z2, z3, z4, z5, z6, z7, z8⟩ := hSw; go_simp)⟩) (by assumption) ?_
      try simp only [Act.put, List.setIfInBounds_toArray, List.set_cons_zero, List.set_cons_succ]
      refine wpAnyH_done (by kernel_rfl) ?_ _
      have HO4 : Hid (W4.ownsRow V.heap.size 78 3 (.slice ao4 (j + 1) c4) (j + 1) (ccells (cutsL 2 (j + 1) a b))) := by
        have e : ccells (cutsL 2 (j + 1) a b) = ccells (cutsL 2 j a b) ++ [.int .i64 (I : Int), .int .i64 (a I : Int), .int .i64 (b I : Int)] := by rw [cutsL_succ, ccells_app, HI.out]; rfl
        show W4.ownsRow _ _ _ _ _ _
        rw [e]
        exact o4
      have HwI : Hid (RowKit.wrap64 ((I : Int) + 1) = ((j + 1 + 2 : Nat) : Int)) := by show _ = _; unfold RowKit.wrap64; have := HI.out; have := HL.out; omega
      have HV4 : Hid (Same V W4) := v4
      clear o4 g4 f4 v4 b4 o3 r3 d3 d2 d1 d0 q1 q2 a0 a1 n0 n1 n2 h0 h1 h2 h3 h4 h5 h6 lx
      go_wp2_with fail
      go_roundg (k - (j + 1))
      case measure => omega
      case rel => exact ⟨j + 1, ao4, c4, rfl, by rw [HwI.out], by omega, rfl, HO4, HV4⟩
    · have hle : decide ((I : Int) ≤ TT) = false := decide_eq_false (by have := HTT.out.1; omega)
      obtain rfl : k = j := by omega
      clear hI
      go_wp2_with fail
      go_ret
      have := HVZ.out
      exact ⟨ao, c, rfl, own_base HO.out (by omega), t1.trans HS.out⟩
end Go.Proofs.YtdmoglnbelembaaGreat
namespace Go.Proofs.YtdmoglnbelembaaGreat
open Go.RowKit

set_option maxRecDepth 100000 in
theorem larger_calls {a l r : Int} (w : World) : Calls Tryz.prog 46 #[.agg #[.int .i64 a, .int .i64 l, .int .i64 r]] w fun e w' => e = .returned (.int .i64 (if r < l then l else r)) ∧ Same w w' := by
  have t1 : Same w (w.alloc (.cells #[.int .i64 a, .int .i64 l, .int .i64 r] 78)) := (Fr.refl _ w).alloc _
  by_cases h : r < l
  · rw [if_pos h]
    go_enter Tryz.func46, Tryz.ntmps46
    go_wp2_with fail
    go_ret
    exact ⟨rfl, t1⟩
  · rw [if_neg h]
    have h1 : decide (r < l) = false := decide_eq_false h
    clear h
    go_enter Tryz.func46, Tryz.ntmps46
    go_wp2_with fail
    go_ret
    exact ⟨rfl, t1⟩
theorem own_crow {W : World} {t : TypeId} {n cap : Nat} {L : List CutN} {ao : Option Addr} (h : W.ownsRow 0 t 3 (.slice ao n cap) n (ccells L)) (hn : n = L.length) (h0 : L ≠ []) : ∃ g, ao = some ⟨g, 0, none⟩ ∧ g < W.heap.size ∧ ∀ (j : Nat) (x : CutN), L[j]? = some x → W.cell? ⟨g, j * 3, none⟩ = some (.int .i64 (x.1 : Int)) ∧ W.cell? ⟨g, j * 3 + 1, none⟩ = some (.int .i64 (x.2.1 : Int)) ∧ W.cell? ⟨g, j * 3 + 2, none⟩ = some (.int .i64 (x.2.2 : Int)) := by
  have hl : n ≠ 0 := by rw [hn]; intro e; exact h0 (List.eq_nil_of_length_eq_zero e)
  obtain ⟨g, rfl, hg⟩ := own_some h hl
  refine ⟨g, rfl, hg, fun j x hx => ?_⟩
  have f := fun i (hi : i < 3) => flat_get (fun x : CutN => [Value.int .i64 (x.1 : Int), Value.int .i64 (x.2.1 : Int), Value.int .i64 (x.2.2 : Int)]) 3 L (fun _ _ => rfl) j i x hx hi
  refine ⟨own_cell h ?_, own_cell h ?_, own_cell h ?_⟩
  · have := f 0 (by omega)
    rw [Nat.add_zero] at this
    exact this.trans rfl
  · exact (f 1 (by omega)).trans rfl
  · exact (f 2 (by omega)).trans rfl
set_option maxRecDepth 100000 in
set_option maxHeartbeats 8000000 in
theorem dsplit_arg {p q : Int} {r : Nr} {N : Nd} (w : World)
    (HR : Hid (∀ W, Calls Tryz.prog 40 #[frameV p q] W fun e w' => e = .returned (.bool false) ∧ Same W w')) :
    Calls Tryz.prog 20 #[frameV p q, ndV r N] w fun e w' => e = .returned (.tuple #[.agg #[.slice none 0 0, .slice none 0 0, .slice none 0 0, .string ⟨#[]⟩, .slice none 0 0, .slice none 0 0, .slice none 0 0], .int .i64 2]) ∧ Same w w' := by
  obtain ⟨V, hV⟩ : ∃ V, V = ((w.alloc (.cells #[.int .i64 p, .int .i64 q] 23)).alloc (.cells #[.slice r.pa N.ps.length r.cp, .slice r.sa N.ss.length r.cs, .slice r.ka N.ks.length r.ck] 28)).alloc (.cells #[.slice none 0 0, .slice none 0 0, .slice none 0 0, .string ⟨#[]⟩, .slice none 0 0, .slice none 0 0, .slice none 0 0] 30) := ⟨_, rfl⟩
  have t1 : Same w V := by rw [hV]; exact (((Fr.refl _ w).alloc _).alloc _).alloc _
  obtain ⟨g0, g1, g2⟩ := three_boxes w (.cells #[.int .i64 p, .int .i64 q] 23) (.cells #[.slice r.pa N.ps.length r.cp, .slice r.sa N.ss.length r.cs, .slice r.ka N.ks.length r.ck] 28) (.cells #[.slice none 0 0, .slice none 0 0, .slice none 0 0, .string ⟨#[]⟩, .slice none 0 0, .slice none 0 0, .slice none 0 0] 30)
  rw [← hV] at g0 g1 g2
  have HC : Hid (∀ W, Same V W → (W.cell? ⟨w.heap.size, 0, none⟩ = some (.int .i64 p) ∧ W.cell? ⟨w.heap.size, 1, none⟩ = some (.int .i64 q)) ∧ W.cell? ⟨w.heap.size + 1, 0, none⟩ = some (.slice r.pa N.ps.length r.cp) ∧ W.cell? ⟨w.heap.size + 1, 1, none⟩ = some (.slice r.sa N.ss.length r.cs) ∧ W.cell? ⟨w.heap.size + 1, 2, none⟩ = some (.slice r.ka N.ks.length r.ck)) := fun W s => ⟨⟨s.keep ((cell_of_row _ _ _ _ _ _ g0).trans rfl), s.keep ((cell_of_row _ _ _ _ _ _ g0).trans rfl)⟩, s.keep ((cell_of_row _ _ _ _ _ _ g1).trans rfl), s.keep ((cell_of_row _ _ _ _ _ _ g1).trans rfl), s.keep ((cell_of_row _ _ _ _ _ _ g1).trans rfl)⟩
  have HG : Hid (∀ W, Same V W → W.heap[w.heap.size + 1 + 1]? = some (.cells #[.slice none 0 0, .slice none 0 0, .slice none 0 0, .string ⟨#[]⟩, .slice none 0 0, .slice none 0 0, .slice none 0 0] 30 (0, 0))) := fun W s => (s.block _ (lt_of_heap g2) (fun e => e)).trans g2
  have HVZ : Hid (w.heap.size + 3 ≤ V.heap.size) := by show _ ≤ _; rw [hV]; simp
  obtain ⟨⟨a0, a1⟩, n0, n1, n2⟩ := HC.out _ (Fr.refl _ V)
  clear g0 g1 g2
  unfold ndV nodeV
  go_enter Tryz.func20, Tryz.ntmps20
  go_wp2_with fail
  rw [← hV]
  clear hV
  refine (HR.out _).mono ?_
  rintro e W1 ⟨rfl, s1⟩
  clear a0 a1 n0 n1 n2
  obtain ⟨⟨a0, a1⟩, n0, n1, n2⟩ := HC.out _ s1
  have r6 := HG.out _ s1
  go_wp2_with (refine wpList_store_whole (by rfl) 30 _ _ (by rfl) (w.heap.size + 1 + 1) #[.slice none 0 0, .slice none 0 0, .slice none 0 0, .string ⟨#[]⟩, .slice none 0 0, .slice none 0 0, .slice none 0 0] _ 30 (by rfl) (by rfl) r6 rfl (by kernel_rfl) (by kernel_rfl) ?_; intro W7 r7 f7)
  have hz := HVZ.out
  exact bodyPost_ret (results_row_tmp (p := 4) (u := 5) (ty := 30) (by kernel_rfl) _ _ (w.heap.size + 1 + 1) 30 _ (0, 0) _ rfl r7 Tryz.underlying30 rfl (by kernel_rfl)) rfl ⟨rfl, Fr.trans (t1.trans s1) f7 (fun i hi e => by omega)⟩
set_option maxRecDepth 100000 in
set_option maxHeartbeats 8000000 in
theorem dsplit_shape {p q : Int} {r : Nr} {N : Nd} {C : Int} (w : World)
    (HR : Hid (∀ W, Calls Tryz.prog 40 #[frameV p q] W fun e w' => e = .returned (.bool true) ∧ Same W w')) (hC : (C != 0) = true)
    (HK : Hid (∀ W, Same w W → Calls Tryz.prog 44 #[frameV p q, ndV r N] W fun e w' => e = .returned (.int .i64 C) ∧ Same W w')) :
    Calls Tryz.prog 20 #[frameV p q, ndV r N] w fun e w' => e = .returned (.tuple #[.agg #[.slice none 0 0, .slice none 0 0, .slice none 0 0, .string ⟨#[]⟩, .slice none 0 0, .slice none 0 0, .slice none 0 0], .int .i64 80]) ∧ Same w w' := by
  obtain ⟨V, hV⟩ : ∃ V, V = ((w.alloc (.cells #[.int .i64 p, .int .i64 q] 23)).alloc (.cells #[.slice r.pa N.ps.length r.cp, .slice r.sa N.ss.length r.cs, .slice r.ka N.ks.length r.ck] 28)).alloc (.cells #[.slice none 0 0, .slice none 0 0, .slice none 0 0, .string ⟨#[]⟩, .slice none 0 0, .slice none 0 0, .slice none 0 0] 30) := ⟨_, rfl⟩
  have t1 : Same w V := by rw [hV]; exact (((Fr.refl _ w).alloc _).alloc _).alloc _
  obtain ⟨g0, g1, g2⟩ := three_boxes w (.cells #[.int .i64 p, .int .i64 q] 23) (.cells #[.slice r.pa N.ps.length r.cp, .slice r.sa N.ss.length r.cs, .slice r.ka N.ks.length r.ck] 28) (.cells #[.slice none 0 0, .slice none 0 0, .slice none 0 0, .string ⟨#[]⟩, .slice none 0 0, .slice none 0 0, .slice none 0 0] 30)
  rw [← hV] at g0 g1 g2
  have HC : Hid (∀ W, Same V W → (W.cell? ⟨w.heap.size, 0, none⟩ = some (.int .i64 p) ∧ W.cell? ⟨w.heap.size, 1, none⟩ = some (.int .i64 q)) ∧ W.cell? ⟨w.heap.size + 1, 0, none⟩ = some (.slice r.pa N.ps.length r.cp) ∧ W.cell? ⟨w.heap.size + 1, 1, none⟩ = some (.slice r.sa N.ss.length r.cs) ∧ W.cell? ⟨w.heap.size + 1, 2, none⟩ = some (.slice r.ka N.ks.length r.ck)) := fun W s => ⟨⟨s.keep ((cell_of_row _ _ _ _ _ _ g0).trans rfl), s.keep ((cell_of_row _ _ _ _ _ _ g0).trans rfl)⟩, s.keep ((cell_of_row _ _ _ _ _ _ g1).trans rfl), s.keep ((cell_of_row _ _ _ _ _ _ g1).trans rfl), s.keep ((cell_of_row _ _ _ _ _ _ g1).trans rfl)⟩
  have HG : Hid (∀ W, Same V W → W.heap[w.heap.size + 1 + 1]? = some (.cells #[.slice none 0 0, .slice none 0 0, .slice none 0 0, .string ⟨#[]⟩, .slice none 0 0, .slice none 0 0, .slice none 0 0] 30 (0, 0))) := fun W s => (s.block _ (lt_of_heap g2) (fun e => e)).trans g2
  have HVZ : Hid (w.heap.size + 3 ≤ V.heap.size) := by show _ ≤ _; rw [hV]; simp
  obtain ⟨⟨a0, a1⟩, n0, n1, n2⟩ := HC.out _ (Fr.refl _ V)
  clear g0 g1 g2
  unfold ndV nodeV at HK ⊢
  go_enter Tryz.func20, Tryz.ntmps20
  go_wp2_with fail
  rw [← hV]
  clear hV
  refine (HR.out _).mono ?_
  rintro e W1 ⟨rfl, s1⟩
  clear a0 a1 n0 n1 n2
  obtain ⟨⟨a0, a1⟩, n0, n1, n2⟩ := HC.out _ s1
  go_wp2_with fail
  refine (HK.out _ (t1.trans s1)).mono ?_
  rintro e W2 ⟨rfl, s2⟩
  have s2 := s1.trans s2
  clear a0 a1 n0 n1 n2
  obtain ⟨⟨a0, a1⟩, n0, n1, n2⟩ := HC.out _ s2
  have r6 := HG.out _ s2
  go_wp2_with (refine wpList_store_whole (by rfl) 30 _ _ (by rfl) (w.heap.size + 1 + 1) #[.slice none 0 0, .slice none 0 0, .slice none 0 0, .string ⟨#[]⟩, .slice none 0 0, .slice none 0 0, .slice none 0 0] _ 30 (by rfl) (by rfl) r6 rfl (by kernel_rfl) (by kernel_rfl) ?_; intro W7 r7 f7)
  have hz := HVZ.out
  exact bodyPost_ret (results_row_tmp (p := 4) (u := 5) (ty := 30) (by kernel_rfl) _ _ (w.heap.size + 1 + 1) 30 _ (0, 0) _ rfl r7 Tryz.underlying30 rfl (by kernel_rfl)) rfl ⟨rfl, Fr.trans (t1.trans s2) f7 (fun i hi e => by omega)⟩
set_option maxRecDepth 100000 in
set_option maxHeartbeats 8000000 in
theorem dsplit_nocut {p q : Int} {r : Nr} {N : Nd} (w : World)
    (HR : Hid (∀ W, Calls Tryz.prog 40 #[frameV p q] W fun e w' => e = .returned (.bool true) ∧ Same W w'))
    (HK : Hid (∀ W, Same w W → Calls Tryz.prog 44 #[frameV p q, ndV r N] W fun e w' => e = .returned (.int .i64 0) ∧ Same W w'))
    (HCS : Hid (∀ W, Same w W → Calls Tryz.prog 45 #[frameV p q, ndV r N] W fun e w' => ∃ ao c, e = .returned (.slice ao 0 c) ∧ w'.ownsRow W.heap.size 78 3 (.slice ao 0 c) 0 (ccells []) ∧ Same W w')) :
    Calls Tryz.prog 20 #[frameV p q, ndV r N] w fun e w' => e = .returned (.tuple #[.agg #[.slice none 0 0, .slice none 0 0, .slice none 0 0, .string ⟨#[]⟩, .slice none 0 0, .slice none 0 0, .slice none 0 0], .int .i64 82]) ∧ Same w w' := by
  obtain ⟨V, hV⟩ : ∃ V, V = ((w.alloc (.cells #[.int .i64 p, .int .i64 q] 23)).alloc (.cells #[.slice r.pa N.ps.length r.cp, .slice r.sa N.ss.length r.cs, .slice r.ka N.ks.length r.ck] 28)).alloc (.cells #[.slice none 0 0, .slice none 0 0, .slice none 0 0, .string ⟨#[]⟩, .slice none 0 0, .slice none 0 0, .slice none 0 0] 30) := ⟨_, rfl⟩
  have t1 : Same w V := by rw [hV]; exact (((Fr.refl _ w).alloc _).alloc _).alloc _
  obtain ⟨g0, g1, g2⟩ := three_boxes w (.cells #[.int .i64 p, .int .i64 q] 23) (.cells #[.slice r.pa N.ps.length r.cp, .slice r.sa N.ss.length r.cs, .slice r.ka N.ks.length r.ck] 28) (.cells #[.slice none 0 0, .slice none 0 0, .slice none 0 0, .string ⟨#[]⟩, .slice none 0 0, .slice none 0 0, .slice none 0 0] 30)
  rw [← hV] at g0 g1 g2
  have HC : Hid (∀ W, Same V W → (W.cell? ⟨w.heap.size, 0, none⟩ = some (.int .i64 p) ∧ W.cell? ⟨w.heap.size, 1, none⟩ = some (.int .i64 q)) ∧ W.cell? ⟨w.heap.size + 1, 0, none⟩ = some (.slice r.pa N.ps.length r.cp) ∧ W.cell? ⟨w.heap.size + 1, 1, none⟩ = some (.slice r.sa N.ss.length r.cs) ∧ W.cell? ⟨w.heap.size + 1, 2, none⟩ = some (.slice r.ka N.ks.length r.ck)) := fun W s => ⟨⟨s.keep ((cell_of_row _ _ _ _ _ _ g0).trans rfl), s.keep ((cell_of_row _ _ _ _ _ _ g0).trans rfl)⟩, s.keep ((cell_of_row _ _ _ _ _ _ g1).trans rfl), s.keep ((cell_of_row _ _ _ _ _ _ g1).trans rfl), s.keep ((cell_of_row _ _ _ _ _ _ g1).trans rfl)⟩
  have HG : Hid (∀ W, Same V W → W.heap[w.heap.size + 1 + 1]? = some (.cells #[.slice none 0 0, .slice none 0 0, .slice none 0 0, .string ⟨#[]⟩, .slice none 0 0, .slice none 0 0, .slice none 0 0] 30 (0, 0))) := fun W s => (s.block _ (lt_of_heap g2) (fun e => e)).trans g2
  have HVZ : Hid (w.heap.size + 3 ≤ V.heap.size) := by show _ ≤ _; rw [hV]; simp
  obtain ⟨⟨a0, a1⟩, n0, n1, n2⟩ := HC.out _ (Fr.refl _ V)
  clear g0 g1 g2
  unfold ndV nodeV at HK HCS ⊢
  go_enter Tryz.func20, Tryz.ntmps20
  go_wp2_with fail
  rw [← hV]
  clear hV
  refine (HR.out _).mono ?_
  rintro e W1 ⟨rfl, s1⟩
  clear a0 a1 n0 n1 n2
  obtain ⟨⟨a0, a1⟩, n0, n1, n2⟩ := HC.out _ s1
  go_wp2_with fail
  refine (HK.out _ (t1.trans s1)).mono ?_
  rintro e W2 ⟨rfl, s2⟩
  have s2 := s1.trans s2
  clear a0 a1 n0 n1 n2
  obtain ⟨⟨a0, a1⟩, n0, n1, n2⟩ := HC.out _ s2
  go_wp2_with fail
  refine (HCS.out _ (t1.trans s2)).mono ?_
  rintro e W3 ⟨ao, c, rfl, o3, s3⟩
  have s3' := s2.trans s3
  clear a0 a1 n0 n1 n2
  obtain ⟨⟨a0, a1⟩, n0, n1, n2⟩ := HC.out _ s3'
  have r6 := HG.out _ s3'
  go_wp2_with (refine wpList_store_whole (by rfl) 30 _ _ (by rfl) (w.heap.size + 1 + 1) #[.slice none 0 0, .slice none 0 0, .slice none 0 0, .string ⟨#[]⟩, .slice none 0 0, .slice none 0 0, .slice none 0 0] _ 30 (by rfl) (by rfl) r6 rfl (by kernel_rfl) (by kernel_rfl) ?_; intro W7 r7 f7)
  have hz := HVZ.out
  exact bodyPost_ret (results_row_tmp (p := 4) (u := 5) (ty := 30) (by kernel_rfl) _ _ (w.heap.size + 1 + 1) 30 _ (0, 0) _ rfl r7 Tryz.underlying30 rfl (by kernel_rfl)) rfl ⟨rfl, Fr.trans (t1.trans s3') f7 (fun i hi e => by omega)⟩
set_option maxRecDepth 100000 in
set_option maxHeartbeats 8000000 in
theorem dsplit_good {p q : Int} {r : Nr} {N : Nd} {L T : List CutN} {z : CutN} {m : Nat} {N1 N2 : Nd} {sp : ByteArray} (w : World)
    (HR : Hid (∀ W, Calls Tryz.prog 40 #[frameV p q] W fun e w' => e = .returned (.bool true) ∧ Same W w')) (hz : L = z :: T) (hL : L.length ≤ 1048576) (hm : (L.foldl bet z).1 = m)
    (HK : Hid (∀ W, Same w W → Calls Tryz.prog 44 #[frameV p q, ndV r N] W fun e w' => e = .returned (.int .i64 0) ∧ Same W w'))
    (HCS : Hid (∀ W, Same w W → Calls Tryz.prog 45 #[frameV p q, ndV r N] W fun e w' => ∃ ao c, e = .returned (.slice ao L.length c) ∧ w'.ownsRow W.heap.size 78 3 (.slice ao L.length c) L.length (ccells L) ∧ Same W w'))
    (HCut : Hid (∀ W, Same w W → Calls Tryz.prog 47 #[ndV r N, .int .i64 (m : Int)] W fun e w' => ∃ r1 r2, e = .returned (.agg (halvesN r1 r2 N1 N2 sp)) ∧ MadeNd w' W.heap.size r1 N1 ∧ MadeNd w' W.heap.size r2 N2 ∧ Same W w')) :
    Calls Tryz.prog 20 #[frameV p q, ndV r N] w fun e w' => ∃ r1 r2, e = .returned (.tuple #[.agg (halvesN r1 r2 N1 N2 sp), .int .i64 0]) ∧ MadeNd w' w.heap.size r1 N1 ∧ MadeNd w' w.heap.size r2 N2 ∧ Same w w' := by
  obtain ⟨V, hV⟩ : ∃ V, V = ((w.alloc (.cells #[.int .i64 p, .int .i64 q] 23)).alloc (.cells #[.slice r.pa N.ps.length r.cp, .slice r.sa N.ss.length r.cs, .slice r.ka N.ks.length r.ck] 28)).alloc (.cells #[.slice none 0 0, .slice none 0 0, .slice none 0 0, .string ⟨#[]⟩, .slice none 0 0, .slice none 0 0, .slice none 0 0] 30) := ⟨_, rfl⟩
  have t1 : Same w V := by rw [hV]; exact (((Fr.refl _ w).alloc _).alloc _).alloc _
  obtain ⟨g0, g1, g2⟩ := three_boxes w (.cells #[.int .i64 p, .int .i64 q] 23) (.cells #[.slice r.pa N.ps.length r.cp, .slice r.sa N.ss.length r.cs, .slice r.ka N.ks.length r.ck] 28) (.cells #[.slice none 0 0, .slice none 0 0, .slice none 0 0, .string ⟨#[]⟩, .slice none 0 0, .slice none 0 0, .slice none 0 0] 30)
  rw [← hV] at g0 g1 g2
  have HC : Hid (∀ W, Same V W → (W.cell? ⟨w.heap.size, 0, none⟩ = some (.int .i64 p) ∧ W.cell? ⟨w.heap.size, 1, none⟩ = some (.int .i64 q)) ∧ W.cell? ⟨w.heap.size + 1, 0, none⟩ = some (.slice r.pa N.ps.length r.cp) ∧ W.cell? ⟨w.heap.size + 1, 1, none⟩ = some (.slice r.sa N.ss.length r.cs) ∧ W.cell? ⟨w.heap.size + 1, 2, none⟩ = some (.slice r.ka N.ks.length r.ck)) := fun W s => ⟨⟨s.keep ((cell_of_row _ _ _ _ _ _ g0).trans rfl), s.keep ((cell_of_row _ _ _ _ _ _ g0).trans rfl)⟩, s.keep ((cell_of_row _ _ _ _ _ _ g1).trans rfl), s.keep ((cell_of_row _ _ _ _ _ _ g1).trans rfl), s.keep ((cell_of_row _ _ _ _ _ _ g1).trans rfl)⟩
  have HG : Hid (∀ W, Same V W → W.heap[w.heap.size + 1 + 1]? = some (.cells #[.slice none 0 0, .slice none 0 0, .slice none 0 0, .string ⟨#[]⟩, .slice none 0 0, .slice none 0 0, .slice none 0 0] 30 (0, 0))) := fun W s => (s.block _ (lt_of_heap g2) (fun e => e)).trans g2
  have HVZ : Hid (w.heap.size + 3 ≤ V.heap.size) := by show _ ≤ _; rw [hV]; simp
  obtain ⟨⟨a0, a1⟩, n0, n1, n2⟩ := HC.out _ (Fr.refl _ V)
  clear g0 g1 g2
  have hne : L ≠ [] := by rw [hz]; simp
  have HM : Hid ((L.foldl bet z).1 = m) := hm
  have HL : Hid (L.length ≤ 1048576) := hL
  have HL0 : Hid (L[0]? = some z) := by show L[0]? = _; rw [hz]; rfl
  have hl0 : 0 < L.length := by rw [hz]; simp
  clear hz hm hL
  unfold ndV nodeV at HK HCS HCut ⊢
  go_enter Tryz.func20, Tryz.ntmps20
  go_wp2_with fail
  rw [← hV]
  clear hV
  refine (HR.out _).mono ?_
  rintro e W1 ⟨rfl, s1⟩
  clear a0 a1 n0 n1 n2
  obtain ⟨⟨a0, a1⟩, n0, n1, n2⟩ := HC.out _ s1
  go_wp2_with fail
  refine (HK.out _ (t1.trans s1)).mono ?_
  rintro e W2 ⟨rfl, s2⟩
  have s2 := s1.trans s2
  clear a0 a1 n0 n1 n2
  obtain ⟨⟨a0, a1⟩, n0, n1, n2⟩ := HC.out _ s2
  go_wp2_with fail
  refine (HCS.out _ (t1.trans s2)).mono ?_
  rintro e W3 ⟨ao, c, rfl, o3, s3⟩
  have s3' := s2.trans s3
  clear a0 a1 n0 n1 n2
  obtain ⟨⟨a0, a1⟩, n0, n1, n2⟩ := HC.out _ s3'
  obtain ⟨gg, rfl, hgl, hcells⟩ := own_crow (own_base o3 (Nat.zero_le _)) rfl hne
  have HCE : Hid (∀ W, Same W3 W → ∀ (j : Nat) (x : CutN), L[j]? = some x → W.cell? ⟨gg, j * 3, none⟩ = some (.int .i64 (x.1 : Int)) ∧ W.cell? ⟨gg, j * 3 + 1, none⟩ = some (.int .i64 (x.2.1 : Int)) ∧ W.cell? ⟨gg, j * 3 + 2, none⟩ = some (.int .i64 (x.2.2 : Int))) := fun W s j x hx => ⟨s.keep (hcells j x hx).1, s.keep (hcells j x hx).2.1, s.keep (hcells j x hx).2.2⟩
  have HO3 : Hid (W3.ownsRow W2.heap.size 78 3 (.slice (some ⟨gg, 0, none⟩) L.length c) L.length (ccells L)) := o3
  have HGL : Hid (gg < W3.heap.size) := hgl
  have HV3 : Hid (Same V W3) := s3'
  clear hcells o3 hgl s3 s3' hne
  have el0 : ((L.length : Int) == 0) = false := by rw [beq_eq_false_iff_ne]; omega
  go_wp2_with fail
  go_loopg [7, 8] L.length (fun g bv iv wr => ∃ (j bi : Nat), bv = .int .i64 (bi : Int) ∧ iv = .int .i64 (j : Int) ∧ j ≤ L.length ∧ g = L.length - j ∧ Hid (L[bi]? = some ((L.take j).foldl bet z)) ∧ Hid (Same W3 wr))
  case atStart => exact ⟨0, 0, rfl, rfl, by omega, rfl, HL0.out, Fr.refl _ _⟩
  case round =>
    clear a0 a1 n0 n1 n2
    obtain ⟨j, bi, rfl, rfl, hj, hg, HB, HS⟩ := hrel
    obtain ⟨⟨a0, a1⟩, n0, n1, n2⟩ := HC.out _ (HV3.out.trans HS.out)
    have hbl : bi < L.length := (List.getElem?_eq_some_iff.1 HB.out).1
    obtain ⟨ev, hev⟩ : ∃ ev, ev = (L.take j).foldl bet z := ⟨_, rfl⟩
    rw [← hev] at HB
    have HEV : Hid (ev = (L.take j).foldl bet z) := hev
    clear hev
    have b1 : (0 : Int) ≤ (bi : Int) := by omega
    have b2 : (bi : Int) < (L.length : Int) := by omega
    by_cases hgo : j < L.length
    · obtain ⟨x, hx⟩ : ∃ x, L[j]? = some x := ⟨_, List.getElem?_eq_getElem hgo⟩
      have hgo' : (j : Int) < (L.length : Int) := by omega
      have b3 : (0 : Int) ≤ (j : Int) := by omega
      have HX : Hid (L[j]? = some x) := hx
      have HwJ : Hid (RowKit.wrap64 ((j : Int) + 1) = ((j + 1 : Nat) : Int)) := by show _ = _; unfold RowKit.wrap64; have := HL.out; omega
      have HT : Hid ((L.take (j + 1)).foldl bet z = bet ev x) := by
        show _ = _
        rw [List.take_add_one, hx, Option.toList_some, List.foldl_append, ← HEV.out]; rfl
      clear hx
      go_wp2_with fail
      have HCX := fun W (s : Same wr W) => HCE.out W (HS.out.trans s) j x HX.out
      have HCB := fun W (s : Same wr W) => HCE.out W (HS.out.trans s) bi ev HB.out
      obtain ⟨x0, x1, x2⟩ := x
      obtain ⟨e0, e1, e2⟩ := ev
      have HCX' : Hid (∀ W, Same wr W → W.cell? ⟨gg, j * 3, none⟩ = some (.int .i64 (x0 : Int)) ∧ W.cell? ⟨gg, j * 3 + 1, none⟩ = some (.int .i64 (x1 : Int)) ∧ W.cell? ⟨gg, j * 3 + 2, none⟩ = some (.int .i64 (x2 : Int))) := HCX
      have HCB' : Hid (∀ W, Same wr W → W.cell? ⟨gg, bi * 3, none⟩ = some (.int .i64 (e0 : Int)) ∧ W.cell? ⟨gg, bi * 3 + 1, none⟩ = some (.int .i64 (e1 : Int)) ∧ W.cell? ⟨gg, bi * 3 + 2, none⟩ = some (.int .i64 (e2 : Int))) := HCB
      clear HCX HCB
      have HLG : Hid (∀ x1 x2 : Nat, (if (x2 : Int) < (x1 : Int) then (x1 : Int) else (x2 : Int)) = ((max x1 x2 : Nat) : Int)) := fun x1 x2 => by split <;> omega
      have HLX := HLG.out x1 x2
      have HLV := HLG.out e1 e2
      have HBT : Hid ((((max x1 x2 : Nat) : Int) < ((max e1 e2 : Nat) : Int) → bet (e0, e1, e2) (x0, x1, x2) = (x0, x1, x2)) ∧ (¬ ((max x1 x2 : Nat) : Int) < ((max e1 e2 : Nat) : Int) → bet (e0, e1, e2) (x0, x1, x2) = (e0, e1, e2))) := ⟨fun h => by unfold bet lgr; rw [if_pos (by simp only; omega)], fun h => by unfold bet lgr; rw [if_neg (by simp only; omega)]⟩
      have HG1 : Hid (∀ W, Calls Tryz.prog 46 #[.agg #[.int .i64 (x0 : Int), .int .i64 (x1 : Int), .int .i64 (x2 : Int)]] W fun e w' => e = .returned (.int .i64 ((max x1 x2 : Nat) : Int)) ∧ Same W w') := fun W => by rw [← HLX]; exact larger_calls W
      have HG2 : Hid (∀ W, Calls Tryz.prog 46 #[.agg #[.int .i64 (e0 : Int), .int .i64 (e1 : Int), .int .i64 (e2 : Int)]] W fun e w' => e = .returned (.int .i64 ((max e1 e2 : Nat) : Int)) ∧ Same W w') := fun W => by rw [← HLV]; exact larger_calls W
      clear HLX HLV HLG
      rw [← HT.out] at HBT
      generalize ((max x1 x2 : Nat) : Int) = lx at *
      generalize ((max e1 e2 : Nat) : Int) = le at *
      generalize (x1 : Int) = X1 at *
      generalize (x2 : Int) = X2 at *
      generalize (e1 : Int) = E1 at *
      generalize (e2 : Int) = E2 at *
      generalize hX0 : (x0 : Int) = X0 at *
      generalize hE0 : (e0 : Int) = E0 at *
      clear hX0 hE0
      have d0 : Same wr wr.drew := Fr.drew (Fr.refl _ _)
      refine wp_region_held_drew (S := fun Y => (Y.cell? ⟨gg, j * 3, none⟩ = some (.int .i64 X0) ∧ Y.cell? ⟨gg, j * 3 + 1, none⟩ = some (.int .i64 X1) ∧ Y.cell? ⟨gg, j * 3 + 2, none⟩ = some (.int .i64 X2)) ∧ Y.cell? ⟨gg, bi * 3, none⟩ = some (.int .i64 E0) ∧ Y.cell? ⟨gg, bi * 3 + 1, none⟩ = some (.int .i64 E1) ∧ Y.cell? ⟨gg, bi * 3 + 2, none⟩ = some (.int .i64 E2)) (by kernel_rfl) (⟨HCX'.out _ (d0), HCB'.out _ (d0)⟩) (fun hHeld => ?_)
      generalize wr.drew = D0 at *
      refine wpAnyH_take (i := 0) (oi := { dst := some 31, op := Go.Op.move (Go.Operand.tmp 6), type := 74, pos := "ref.go:206", after := #[], guard := none }) (v := .slice (some ⟨gg, 0, none⟩) L.length c) rfl (by kernel_rfl) (by kernel_rfl) (by kernel_rfl) (fun _ _ _ h => h) (Or.inl ⟨by rfl, fun w hSw => by (obtain ⟨⟨z0, z1, z2⟩, z3, z4, z5⟩ := hSw; go_simp)⟩) (by assumption) ?_
      try simp only [Act.put, List.setIfInBounds_toArray, List.set_cons_zero, List.set_cons_succ]
      refine wpAnyH_take (i := 1) (oi := { dst := some 32, op := Go.Op.move (Go.Operand.tmp 8), type := 3, pos := "ref.go:206", after := #[], guard := none }) (v := .int .i64 (j : Int)) rfl (by kernel_rfl) (by kernel_rfl) (by kernel_rfl) (fun _ _ _ h => h) (Or.inl ⟨by rfl, fun w hSw => by (obtain ⟨⟨z0, z1, z2⟩, z3, z4, z5⟩ := hSw; go_simp)⟩) (by assumption) ?_
      try simp only [Act.put, List.setIfInBounds_toArray, List.set_cons_zero, List.set_cons_succ]
      refine wpAnyH_take (i := 2) (oi := { dst := some 33, op := Go.Op.indexAddr 74 (Go.Operand.tmp 31) (Go.Operand.tmp 32), type := 0, pos := "ref.go:206", after := #[{ on := 0, ground := Go.Ground.data }, { on := 1, ground := Go.Ground.data }], guard := none }) (v := .pointer (some ⟨gg, j * 3, none⟩)) rfl (by kernel_rfl) (by kernel_rfl) (by kernel_rfl) (fun _ _ _ h => h) (Or.inl ⟨by rfl, fun w hSw => by (obtain ⟨⟨z0, z1, z2⟩, z3, z4, z5⟩ := hSw; go_simp)⟩) (by assumption) ?_
      try simp only [Act.put, List.setIfInBounds_toArray, List.set_cons_zero, List.set_cons_succ]
      refine wpAnyH_take (i := 3) (oi := { dst := some 34, op := Go.Op.load 78 (Go.Operand.tmp 33), type := 78, pos := "ref.go:206", after := #[{ on := 2, ground := Go.Ground.data }], guard := none }) (v := .agg #[.int .i64 X0, .int .i64 X1, .int .i64 X2]) rfl (by kernel_rfl) (by kernel_rfl) (by kernel_rfl) (fun _ _ _ h => h) (Or.inl ⟨by rfl, fun w hSw => by (obtain ⟨⟨z0, z1, z2⟩, z3, z4, z5⟩ := hSw; go_simp)⟩) (by assumption) ?_
      try simp only [Act.put, List.setIfInBounds_toArray, List.set_cons_zero, List.set_cons_succ]
      refine wpAnyH_take (i := 5) (oi := { dst := some 36, op := Go.Op.move (Go.Operand.tmp 6), type := 74, pos := "ref.go:206", after := #[], guard := none }) (v := .slice (some ⟨gg, 0, none⟩) L.length c) rfl (by kernel_rfl) (by kernel_rfl) (by kernel_rfl) (fun _ _ _ h => h) (Or.inl ⟨by rfl, fun w hSw => by (obtain ⟨⟨z0, z1, z2⟩, z3, z4, z5⟩ := hSw; go_simp)⟩) (by assumption) ?_
      try simp only [Act.put, List.setIfInBounds_toArray, List.set_cons_zero, List.set_cons_succ]
      refine wpAnyH_take (i := 6) (oi := { dst := some 37, op := Go.Op.move (Go.Operand.tmp 7), type := 3, pos := "ref.go:206", after := #[], guard := none }) (v := .int .i64 (bi : Int)) rfl (by kernel_rfl) (by kernel_rfl) (by kernel_rfl) (fun _ _ _ h => h) (Or.inl ⟨by rfl, fun w hSw => by (obtain ⟨⟨z0, z1, z2⟩, z3, z4, z5⟩ := hSw; go_simp)⟩) (by assumption) ?_
      try simp only [Act.put, List.setIfInBounds_toArray, List.set_cons_zero, List.set_cons_succ]
      refine wpAnyH_take (i := 7) (oi := { dst := some 38, op := Go.Op.indexAddr 74 (Go.Operand.tmp 36) (Go.Operand.tmp 37), type := 0, pos := "ref.go:206", after := #[{ on := 5, ground := Go.Ground.data }, { on := 6, ground := Go.Ground.data }], guard := none }) (v := .pointer (some ⟨gg, bi * 3, none⟩)) rfl (by kernel_rfl) (by kernel_rfl) (by kernel_rfl) (fun _ _ _ h => h) (Or.inl ⟨by rfl, fun w hSw => by (obtain ⟨⟨z0, z1, z2⟩, z3, z4, z5⟩ := hSw; go_simp)⟩) (by assumption) ?_
      try simp only [Act.put, List.setIfInBounds_toArray, List.set_cons_zero, List.set_cons_succ]
      refine wpAnyH_take (i := 8) (oi := { dst := some 39, op := Go.Op.load 78 (Go.Operand.tmp 38), type := 78, pos := "ref.go:206", after := #[{ on := 7, ground := Go.Ground.data }], guard := none }) (v := .agg #[.int .i64 E0, .int .i64 E1, .int .i64 E2]) rfl (by kernel_rfl) (by kernel_rfl) (by kernel_rfl) (fun _ _ _ h => h) (Or.inl ⟨by rfl, fun w hSw => by (obtain ⟨⟨z0, z1, z2⟩, z3, z4, z5⟩ := hSw; go_simp)⟩) (by assumption) ?_
      try simp only [Act.put, List.setIfInBounds_toArray, List.set_cons_zero, List.set_cons_succ]
      refine wpAnyH_ready (rs := [4]) (by kernel_rfl) (by simp) ?_
      refine AllReadyH.cons (o := { dst := some 35, op := Go.Op.call { callee := Go.Callee.value (Go.Operand.func 46), args := #[Go.Operand.tmp 34], argTypes := #[78] }, type := 3, pos := "ref.go:206", after := #[{ on := 3, ground := Go.Ground.data }], guard := none }) rfl (fun K hK => ?_) AllReadyH.nil
      go_simp
      go_at_call 46
      refine (HG1.out _).mono ?_
      rintro e Z1 ⟨rfl, q1⟩
      try go_wp2_with fail
      have d1 := d0.trans q1
      refine hK.out _ _ (⟨HCX'.out _ (d1), HCB'.out _ (d1)⟩) (fun hHeld => ?_)
      clear hK K
      try simp only [Act.put, List.setIfInBounds_toArray, List.set_cons_zero, List.set_cons_succ]
      refine wpAnyH_ready (rs := [9]) (by kernel_rfl) (by simp) ?_
      refine AllReadyH.cons (o := { dst := some 40, op := Go.Op.call { callee := Go.Callee.value (Go.Operand.func 46), args := #[Go.Operand.tmp 39], argTypes := #[78] }, type := 3, pos := "ref.go:206", after := #[{ on := 8, ground := Go.Ground.data }, { on := 4, ground := Go.Ground.chain }], guard := none }) rfl (fun K hK => ?_) AllReadyH.nil
      go_simp
      go_at_call 46
      refine (HG2.out _).mono ?_
      rintro e Z2 ⟨rfl, q2⟩
      try go_wp2_with fail
      have d2 := d1.trans q2
      refine hK.out _ _ (⟨HCX'.out _ (d2), HCB'.out _ (d2)⟩) (fun hHeld => ?_)
      clear hK K
      try simp only [Act.put, List.setIfInBounds_toArray, List.set_cons_zero, List.set_cons_succ]
      by_cases hlt : lx < le
      · have hd : decide (lx < le) = true := decide_eq_true hlt
        have HBN : Hid (L[j]? = some ((L.take (j + 1)).foldl bet z)) := by show _ = _; rw [HBT.out.1 (by omega)]; exact HX.out
        refine wpAnyH_take (i := 10) (oi := { dst := some 41, op := Go.Op.binOp Go.BinOp.lss 3 (Go.Operand.tmp 35) (Go.Operand.tmp 40) 3, type := 4, pos := "ref.go:206", after := #[{ on := 4, ground := Go.Ground.data }, { on := 9, ground := Go.Ground.data }], guard := none }) (v := .bool true) rfl (by kernel_rfl) (by kernel_rfl) (by kernel_rfl) (fun _ _ _ h => h) (Or.inl ⟨by rfl, fun w hSw => by (obtain ⟨⟨z0, z1, z2⟩, z3, z4, z5⟩ := hSw; go_simp)⟩) (by assumption) ?_
        try simp only [Act.put, List.setIfInBounds_toArray, List.set_cons_zero, List.set_cons_succ]
        refine wpAnyH_done (by kernel_rfl) ?_ _
        go_wp2_with fail
        go_roundg (L.length - (j + 1))
        case measure => omega
        case rel => exact ⟨j + 1, j, rfl, by rw [HwJ.out], by omega, rfl, HBN, HS.out.trans d2⟩
      · have hd : decide (lx < le) = false := decide_eq_false hlt
        have HBN : Hid (L[bi]? = some ((L.take (j + 1)).foldl bet z)) := by show _ = _; rw [HBT.out.2 (by omega)]; exact HB.out
        clear hlt
        refine wpAnyH_take (i := 10) (oi := { dst := some 41, op := Go.Op.binOp Go.BinOp.lss 3 (Go.Operand.tmp 35) (Go.Operand.tmp 40) 3, type := 4, pos := "ref.go:206", after := #[{ on := 4, ground := Go.Ground.data }, { on := 9, ground := Go.Ground.data }], guard := none }) (v := .bool false) rfl (by kernel_rfl) (by kernel_rfl) (by kernel_rfl) (fun _ _ _ h => h) (Or.inl ⟨by rfl, fun w hSw => by (obtain ⟨⟨z0, z1, z2⟩, z3, z4, z5⟩ := hSw; go_simp)⟩) (by assumption) ?_
        try simp only [Act.put, List.setIfInBounds_toArray, List.set_cons_zero, List.set_cons_succ]
        refine wpAnyH_done (by kernel_rfl) ?_ _
        go_wp2_with fail
        go_roundg (L.length - (j + 1))
        case measure => omega
        case rel => exact ⟨j + 1, bi, rfl, by rw [HwJ.out], by omega, rfl, HBN, HS.out.trans d2⟩
    · obtain rfl : j = L.length := by omega
      rw [List.take_length] at HEV
      have hce := HCE.out _ HS.out bi ev HB.out
      have hat : ev.1 = m := by rw [HEV.out]; exact HM.out
      rw [hat] at hce
      have HCB : Hid (∀ W, Same wr W → W.cell? ⟨gg, bi * 3, none⟩ = some (.int .i64 (m : Int))) := fun W s => s.keep hce.1
      clear hce hat hgo
      go_wp2_with fail
      have HVW : Hid (Same V wr) := HV3.out.trans HS.out
      have d0 : Same wr wr.drew := Fr.drew (Fr.refl _ _)
      refine wp_region_held_drew (S := fun Y => (Y.cell? ⟨w.heap.size + 1, 0, none⟩ = some (.slice r.pa N.ps.length r.cp) ∧ Y.cell? ⟨w.heap.size + 1, 1, none⟩ = some (.slice r.sa N.ss.length r.cs) ∧ Y.cell? ⟨w.heap.size + 1, 2, none⟩ = some (.slice r.ka N.ks.length r.ck)) ∧ Y.cell? ⟨gg, bi * 3, none⟩ = some (.int .i64 (m : Int))) (by kernel_rfl) (⟨(HC.out _ (HVW.out.trans (d0))).2, HCB.out _ (d0)⟩) (fun hHeld => ?_)
      generalize wr.drew = D0 at *
      refine wpAnyH_take (i := 0) (oi := { dst := some 43, op := Go.Op.load 28 (Go.Operand.tmp 3), type := 28, pos := "ref.go:210", after := #[], guard := none }) (v := .agg #[.slice r.pa N.ps.length r.cp, .slice r.sa N.ss.length r.cs, .slice r.ka N.ks.length r.ck]) rfl (by kernel_rfl) (by kernel_rfl) (by kernel_rfl) (fun _ _ _ h => h) (Or.inl ⟨by rfl, fun w hSw => by (obtain ⟨⟨z0, z1, z2⟩, z3⟩ := hSw; go_simp)⟩) (by assumption) ?_
      try simp only [Act.put, List.setIfInBounds_toArray, List.set_cons_zero, List.set_cons_succ]
      refine wpAnyH_take (i := 1) (oi := { dst := some 44, op := Go.Op.move (Go.Operand.tmp 6), type := 74, pos := "ref.go:210", after := #[], guard := none }) (v := .slice (some ⟨gg, 0, none⟩) L.length c) rfl (by kernel_rfl) (by kernel_rfl) (by kernel_rfl) (fun _ _ _ h => h) (Or.inl ⟨by rfl, fun w hSw => by (obtain ⟨⟨z0, z1, z2⟩, z3⟩ := hSw; go_simp)⟩) (by assumption) ?_
      try simp only [Act.put, List.setIfInBounds_toArray, List.set_cons_zero, List.set_cons_succ]
      refine wpAnyH_take (i := 2) (oi := { dst := some 45, op := Go.Op.move (Go.Operand.tmp 7), type := 3, pos := "ref.go:210", after := #[], guard := none }) (v := .int .i64 (bi : Int)) rfl (by kernel_rfl) (by kernel_rfl) (by kernel_rfl) (fun _ _ _ h => h) (Or.inl ⟨by rfl, fun w hSw => by (obtain ⟨⟨z0, z1, z2⟩, z3⟩ := hSw; go_simp)⟩) (by assumption) ?_
      try simp only [Act.put, List.setIfInBounds_toArray, List.set_cons_zero, List.set_cons_succ]
      refine wpAnyH_take (i := 3) (oi := { dst := some 46, op := Go.Op.indexAddr 74 (Go.Operand.tmp 44) (Go.Operand.tmp 45), type := 0, pos := "ref.go:210", after := #[{ on := 1, ground := Go.Ground.data }, { on := 2, ground := Go.Ground.data }], guard := none }) (v := .pointer (some ⟨gg, bi * 3, none⟩)) rfl (by kernel_rfl) (by kernel_rfl) (by kernel_rfl) (fun _ _ _ h => h) (Or.inl ⟨by rfl, fun w hSw => by (obtain ⟨⟨z0, z1, z2⟩, z3⟩ := hSw; go_simp)⟩) (by assumption) ?_
      try simp only [Act.put, List.setIfInBounds_toArray, List.set_cons_zero, List.set_cons_succ]
      refine wpAnyH_take (i := 4) (oi := { dst := some 47, op := Go.Op.fieldAddr 78 (Go.Operand.tmp 46) 0, type := 0, pos := "ref.go:210", after := #[{ on := 3, ground := Go.Ground.data }], guard := none }) (v := .pointer (some ⟨gg, bi * 3, none⟩)) rfl (by kernel_rfl) (by kernel_rfl) (by kernel_rfl) (fun _ _ _ h => h) (Or.inl ⟨by rfl, fun w hSw => by (obtain ⟨⟨z0, z1, z2⟩, z3⟩ := hSw; go_simp)⟩) (by assumption) ?_
      try simp only [Act.put, List.setIfInBounds_toArray, List.set_cons_zero, List.set_cons_succ]
      refine wpAnyH_take (i := 5) (oi := { dst := some 48, op := Go.Op.load 3 (Go.Operand.tmp 47), type := 3, pos := "ref.go:210", after := #[{ on := 4, ground := Go.Ground.data }], guard := none }) (v := .int .i64 (m : Int)) rfl (by kernel_rfl) (by kernel_rfl) (by kernel_rfl) (fun _ _ _ h => h) (Or.inl ⟨by rfl, fun w hSw => by (obtain ⟨⟨z0, z1, z2⟩, z3⟩ := hSw; go_simp)⟩) (by assumption) ?_
      try simp only [Act.put, List.setIfInBounds_toArray, List.set_cons_zero, List.set_cons_succ]
      refine wpAnyH_ready (rs := [6]) (by kernel_rfl) (by simp) ?_
      refine AllReadyH.cons (o := { dst := some 49, op := Go.Op.call { callee := Go.Callee.value (Go.Operand.func 47), args := #[Go.Operand.tmp 43, Go.Operand.tmp 48], argTypes := #[28, 3] }, type := 30, pos := "ref.go:210", after := #[{ on := 0, ground := Go.Ground.data }, { on := 5, ground := Go.Ground.data }], guard := none }) rfl (fun K hK => ?_) AllReadyH.nil
      go_simp
      go_at_call 47
      refine (HCut.out _ ((t1.trans HVW.out).trans d0)).mono ?_
      rintro e Z1 ⟨r1, r2, rfl, k1, k2, q1⟩
      try go_wp2_with fail
      have d1 := d0.trans q1
      refine hK.out _ _ (⟨(HC.out _ (HVW.out.trans (d1))).2, HCB.out _ (d1)⟩) (fun hHeld => ?_)
      clear hK K
      try simp only [Act.put, List.setIfInBounds_toArray, List.set_cons_zero, List.set_cons_succ]
      have r6 := HG.out _ (HVW.out.trans d1)
      unfold halvesN
      refine wpAnyH_ready (rs := [7]) (by kernel_rfl) (by simp) ?_
      refine AllReadyH.cons (o := { dst := none, op := Go.Op.store 30 (Go.Operand.tmp 4) (Go.Operand.tmp 49), type := 0, pos := "ref.go:210", after := #[{ on := 6, ground := Go.Ground.data }, { on := 6, ground := Go.Ground.chain }, { on := 0, ground := Go.Ground.phase }, { on := 1, ground := Go.Ground.phase }, { on := 2, ground := Go.Ground.phase }, { on := 3, ground := Go.Ground.phase }, { on := 4, ground := Go.Ground.phase }, { on := 5, ground := Go.Ground.phase }, { on := 6, ground := Go.Ground.phase }], guard := none }) rfl (fun K hK => ?_) AllReadyH.nil
      refine step_store_whole rfl 30 _ _ rfl (w.heap.size + 1 + 1) #[.slice r1.pa N1.ps.length r1.cp, .slice r1.sa N1.ss.length r1.cs, .slice r1.ka N1.ks.length r1.ck, .string sp, .slice r2.pa N2.ps.length r2.cp, .slice r2.sa N2.ss.length r2.cs, .slice r2.ka N2.ks.length r2.ck] _ 30 (by rfl) (by rfl) r6 rfl (by kernel_rfl) (by kernel_rfl) ?_
      intro W7 r7 f7
      obtain ⟨⟨y0, y1, y2⟩, y3⟩ := (show _ ∧ _ from ⟨(HC.out _ (HVW.out.trans (d1))).2, HCB.out _ (d1)⟩)
      have gne : gg ≠ w.heap.size + 1 + 1 := fun e => type_ne HO3.out (by rw [e]; exact HG.out _ HV3.out) (by decide) rfl
      refine hK.out _ _ ⟨⟨(f7.cell (World.block_lt_of_cell? _ _ y0) (by simp)).trans y0, (f7.cell (World.block_lt_of_cell? _ _ y1) (by simp)).trans y1, (f7.cell (World.block_lt_of_cell? _ _ y2) (by simp)).trans y2⟩, (f7.cell (World.block_lt_of_cell? _ _ y3) (by exact gne)).trans y3⟩ (fun hHeld => ?_)
      clear hK K
      try simp only [Act.put]
      refine wpAnyH_take (i := 8) (oi := { dst := some 5, op := Go.Op.assign (Go.Operand.const (Go.Value.int Go.IntKind.i64 0)), type := 34, pos := "ref.go:210", after := #[{ on := 7, ground := Go.Ground.chain }, { on := 0, ground := Go.Ground.phase }, { on := 1, ground := Go.Ground.phase }, { on := 2, ground := Go.Ground.phase }, { on := 3, ground := Go.Ground.phase }, { on := 4, ground := Go.Ground.phase }, { on := 5, ground := Go.Ground.phase }, { on := 6, ground := Go.Ground.phase }, { on := 7, ground := Go.Ground.phase }], guard := none }) (v := .int .i64 0) rfl (by kernel_rfl) (by kernel_rfl) (by kernel_rfl) (fun _ _ _ h => h) (Or.inl ⟨by rfl, fun w hSw => by (obtain ⟨⟨z0, z1, z2⟩, z3⟩ := hSw; go_simp)⟩) (by assumption) ?_
      try simp only [Act.put, List.setIfInBounds_toArray, List.set_cons_zero, List.set_cons_succ]
      refine wpAnyH_done (by kernel_rfl) ?_ _
      go_wp2_with fail
      have hz := HVZ.out
      have hz2 := (HVW.out.trans d0).size
      have j1 : MadeNd W7 w.heap.size r1 N1 := ⟨own_base (own_frameB k1.op f7 (fun kk hk e => type_ne k1.op r6 (by decide) (by rw [← e]; exact hk))) (by omega), own_base (own_frameB k1.os f7 (fun kk hk e => type_ne k1.os r6 (by decide) (by rw [← e]; exact hk))) (by omega), own_base (own_frameB k1.ok f7 (fun kk hk e => type_ne k1.ok r6 (by decide) (by rw [← e]; exact hk))) (by omega)⟩
      have j2 : MadeNd W7 w.heap.size r2 N2 := ⟨own_base (own_frameB k2.op f7 (fun kk hk e => type_ne k2.op r6 (by decide) (by rw [← e]; exact hk))) (by omega), own_base (own_frameB k2.os f7 (fun kk hk e => type_ne k2.os r6 (by decide) (by rw [← e]; exact hk))) (by omega), own_base (own_frameB k2.ok f7 (fun kk hk e => type_ne k2.ok r6 (by decide) (by rw [← e]; exact hk))) (by omega)⟩
      exact bodyPost_ret (results_row_tmp (p := 4) (u := 5) (ty := 30) (by kernel_rfl) _ _ (w.heap.size + 1 + 1) 30 _ (0, 0) _ rfl r7 Tryz.underlying30 rfl (by kernel_rfl)) rfl ⟨r1, r2, rfl, j1, j2, Fr.trans ((t1.trans HVW.out).trans d1) f7 (fun i hi e => by omega)⟩
end Go.Proofs.YtdmoglnbelembaaGreat
namespace Go.Proofs.YtdmoglnbelembaaGreat
open Go.RowKit

theorem fold_mem : ∀ (T : List CutN) (b : CutN), T.foldl bet b = b ∨ T.foldl bet b ∈ T
  | [], _ => Or.inl rfl
  | x :: T, b => by
    rw [List.foldl_cons]
    rcases fold_mem T (bet b x) with h | h
    · rw [h]
      unfold bet
      split
      · exact Or.inr List.mem_cons_self
      · exact Or.inl rfl
    · exact Or.inr (List.mem_cons_of_mem _ h)
theorem best_zero {L : List CutN} (hp : Parts L) (h0 : ∀ x ∈ L, x.1 ≠ 0) (hb : (bestS L (0, 0)).1 = 0) : L = [] := by
  cases L with
  | nil => rfl
  | cons z T =>
    exfalso
    rw [best_first hp h0] at hb
    rcases fold_mem (z :: T) z with e | e
    · rw [e] at hb; exact h0 z List.mem_cons_self hb
    · exact h0 _ e hb
theorem leaf_cutsL (ps : List (ByteArray × ByteArray)) (k : Nat) : cutsL 1 k (fun i => sideN ps 0 i) (fun i => sideN ps i ps.length) = cutsN ps k := rfl
theorem branch_cutsL (K n : Nat) (ss : List ByteArray) (k : Nat) : cutsL 2 k (fun i => bsideN K ss 0 i) (fun i => bsideN K ss i n) = cutsB K n ss k := rfl
theorem leaf_sizes {p q : Int} {ps : List (ByteArray × ByteArray)} (hs : NdSmall ⟨ps, [], []⟩) (hc : chkN p q ⟨ps, [], []⟩ = 0) {i : Nat} (h1 : 1 ≤ i) (h2 : i < ps.length) :
    (sizeV p q ⟨ps.take i, [], []⟩ = (sideN ps 0 i : Int) ∧ NdSmall ⟨ps.take i, [], []⟩) ∧ sizeV p q ⟨ps.drop i, [], []⟩ = (sideN ps i ps.length : Int) ∧ NdSmall ⟨ps.drop i, [], []⟩ := by
  obtain ⟨l1, _, _, _, hop⟩ := hs.lens
  obtain ⟨hf, _⟩ := chk_zero hc
  obtain ⟨_, _, _, hri, hlo⟩ := chk_leaf hc rfl
  simp only at l1 hop hri hlo
  have k1 : chkN p q ⟨ps.take i, [], []⟩ = 0 := leaf_chk hf (by rw [List.map_take]; exact rises_take _ _ _ hri) (fun z hz => hlo z (List.mem_of_mem_take hz))
  have k2 : chkN p q ⟨ps.drop i, [], []⟩ = 0 := leaf_chk hf (by rw [List.map_drop]; exact rises_drop _ _ _ hri) (fun z hz => hlo z (List.mem_of_mem_drop hz))
  have t1 : (ps.take i).length = i := by rw [List.length_take]; omega
  have t2 : (ps.drop i).length = ps.length - i := List.length_drop
  have z1 := size_leaf k1 (by rw [t1]; omega) (fun z hz => hop z (List.mem_of_mem_take hz))
  have z2 := size_leaf k2 (by rw [t2]; omega) (fun z hz => hop z (List.mem_of_mem_drop hz))
  have e1 : 1 + numN (ps.take i).length + pairsN (ps.take i) = sideN ps 0 i := by
    unfold sideN
    rw [t1, show pairsN (ps.take 0) = 0 from rfl]
    rfl
  have e2 : 1 + numN (ps.drop i).length + pairsN (ps.drop i) = sideN ps i ps.length := by
    unfold sideN
    rw [t2, pairsN_drop, List.take_length]
  rw [e1] at z1
  rw [e2] at z2
  obtain ⟨s1, s2⟩ := small_leaf_take hs i
  exact ⟨⟨z1, s1⟩, z2, s2⟩
theorem branch_sizes {p q : Int} {K : Nat} {ss : List ByteArray} {ks : List Kid} (hs : NdSmall ⟨[], ss, ks⟩) (hko : ∀ x ∈ ks, KidOk x) (hc : chkN p q ⟨[], ss, ks⟩ = 0) (hk0 : 0 < ks.length) (hK : (K : Int) = 4 + q) {i : Nat} (h1 : 2 ≤ i) (h2 : i + 2 ≤ ks.length) :
    (sizeV p q ⟨[], ss.take (i - 1), ks.take i⟩ = (bsideN K ss 0 i : Int) ∧ NdSmall ⟨[], ss.take (i - 1), ks.take i⟩) ∧ sizeV p q ⟨[], ss.drop i, ks.drop i⟩ = (bsideN K ss i ks.length : Int) ∧ NdSmall ⟨[], ss.drop i, ks.drop i⟩ := by
  obtain ⟨_, l2, l3, _, _⟩ := hs.lens
  simp only at l2 l3
  have hos : ∀ x ∈ ss, x.size ≤ 1048576 := fun x hx => by
    have := mem_le_sum (fun x : ByteArray => x.size + 1) ss x hx
    have : (ss.map fun x => x.size + 1).sum ≤ 1048576 := hs.hs
    omega
  obtain ⟨hf, _⟩ := chk_zero hc
  obtain ⟨_, hss, _⟩ := chk_branch hc hk0
  obtain ⟨_, hri, hlo⟩ := branch_parts hc hk0
  simp only at hss hri hlo
  have t1 : (ks.take i).length = i := by rw [List.length_take]; omega
  have t2 : (ks.drop i).length = ks.length - i := List.length_drop
  have t3 : (ss.take (i - 1)).length = i - 1 := by rw [List.length_take]; omega
  have t4 : (ss.drop i).length = ss.length - i := List.length_drop
  have ko1 : ∀ x ∈ ks.take i, KidOk x := fun z hz => hko z (List.mem_of_mem_take hz)
  have ko2 : ∀ x ∈ ks.drop i, KidOk x := fun z hz => hko z (List.mem_of_mem_drop hz)
  have k1 : chkN p q ⟨[], ss.take (i - 1), ks.take i⟩ = 0 := branch_chk hf (rises_take _ _ _ hri) (fun z hz => hlo z (List.mem_of_mem_take hz)) (by omega) (by omega)
  have k2 : chkN p q ⟨[], ss.drop i, ks.drop i⟩ = 0 := branch_chk hf (rises_drop _ _ _ hri) (fun z hz => hlo z (List.mem_of_mem_drop hz)) (by omega) (by omega)
  have z1 := size_branch (K := K) k1 (by show 0 < (ks.take i).length; omega) (by show (ks.take i).length ≤ _; omega) (fun z hz => hos z (List.mem_of_mem_take hz)) ko1 hK
  have z2 := size_branch (K := K) k2 (by show 0 < (ks.drop i).length; omega) (by show (ks.drop i).length ≤ _; omega) (fun z hz => hos z (List.mem_of_mem_drop hz)) ko2 hK
  simp only at z1 z2
  have e1 : 1 + numN (ks.take i).length + (ks.take i).length * K + textsN (ss.take (i - 1)) = bsideN K ss 0 i := by
    unfold bsideN
    rw [t1, show textsN (ss.take 0) = 0 from rfl]
    rfl
  have e2 : 1 + numN (ks.drop i).length + (ks.drop i).length * K + textsN (ss.drop i) = bsideN K ss i ks.length := by
    unfold bsideN
    rw [t2, textsN_drop, List.take_of_length_le (show ss.length ≤ ks.length - 1 by omega)]
  rw [e1] at z1
  rw [e2] at z2
  obtain ⟨s1, _⟩ := small_branch_take hs (i - 1) i
  obtain ⟨_, s2⟩ := small_branch_take hs i i
  exact ⟨⟨z1, s1⟩, z2, s2⟩
theorem MadeNd.dsize {W : World} {B : Nat} {r : Nr} {N : Nd} {p q : Int} (m : MadeNd W B r N) (hs : NdSmall N) (hk : ∀ x ∈ N.ks, KidOk x) : Calls Tryz.prog 66 #[frameV p q, ndV r N] W fun e w' => e = .returned (.int .i64 (sizeV p q N)) ∧ Same W w' := by
  obtain ⟨r', e, ok⟩ := m.nd (q := q) hs hk
  rw [← e]
  exact dsize_calls W ok.at_ (hs.form hk _ _) hs.lens.1 hs.lens.2.1 hs.lens.2.2.1
def pairAt (ps : List (ByteArray × ByteArray)) (i : Nat) : ByteArray × ByteArray := ps[i]?.getD (⟨#[]⟩, ⟨#[]⟩)
theorem pairAt_eq {ps : List (ByteArray × ByteArray)} {i : Nat} {x : ByteArray × ByteArray} (h : ps[i]? = some x) : pairAt ps i = x := by unfold pairAt; rw [h]; rfl
def textAt (ss : List ByteArray) (i : Nat) : ByteArray := ss[i]?.getD ⟨#[]⟩
theorem textAt_eq {ss : List ByteArray} {i : Nat} {x : ByteArray} (h : ss[i]? = some x) : textAt ss i = x := by unfold textAt; rw [h]; rfl
theorem dcutL {p q : Int} {r : Nr} {ps : List (ByteArray × ByteArray)} (hs : NdSmall ⟨ps, [], []⟩) (hc : chkN p q ⟨ps, [], []⟩ = 0) {i : Nat} (h1 : 1 ≤ i) (h2 : i < ps.length) (w : World) (h : NdIn w r ⟨ps, [], []⟩) (hcap : NdCapN r ⟨ps, [], []⟩) :
    Calls Tryz.prog 47 #[ndV r ⟨ps, [], []⟩, .int .i64 (i : Int)] w fun e w' => ∃ r1 r2, e = .returned (.agg (halvesN r1 r2 ⟨ps.take i, [], []⟩ ⟨ps.drop i, [], []⟩ (sepB (pairAt ps (i - 1)).1 (pairAt ps i).1))) ∧ MadeNd w' w.heap.size r1 ⟨ps.take i, [], []⟩ ∧ MadeNd w' w.heap.size r2 ⟨ps.drop i, [], []⟩ ∧ Same w w' := by
  obtain ⟨l1, _, _, _, hop⟩ := hs.lens
  obtain ⟨_, _, _, hri, _⟩ := chk_leaf hc rfl
  simp only at l1 hop hri
  obtain ⟨x, hx⟩ : ∃ x, ps[i - 1]? = some x := ⟨_, List.getElem?_eq_getElem (by omega)⟩
  obtain ⟨y, hy⟩ : ∃ y, ps[i]? = some y := ⟨_, List.getElem?_eq_getElem h2⟩
  have hless := rises_adj _ _ (i - 1) x.1 y.1 hri (by rw [List.getElem?_map, hx]; rfl) (by rw [List.getElem?_map, show i - 1 + 1 = i by omega, hy]; rfl)
  rw [pairAt_eq hx, pairAt_eq hy]
  exact dcut_leaf (N := ⟨ps, [], []⟩) (m := i - 1) w h hcap (by omega) hx hy l1 (fun W => dleaf_calls _ _ _ _ _ _ _ _ _ W) (fun W => rbetween_more W hless (by have := (hop y (List.mem_of_getElem? hy)).1; omega))
theorem dcutB {p q : Int} {r : Nr} {ss : List ByteArray} {ks : List Kid} (hs : NdSmall ⟨[], ss, ks⟩) (hc : chkN p q ⟨[], ss, ks⟩ = 0) (hk0 : 0 < ks.length) {i : Nat} (h1 : 2 ≤ i) (h2 : i + 2 ≤ ks.length) (w : World) (h : NdIn w r ⟨[], ss, ks⟩) (hcap : NdCapN r ⟨[], ss, ks⟩) :
    Calls Tryz.prog 47 #[ndV r ⟨[], ss, ks⟩, .int .i64 (i : Int)] w fun e w' => ∃ r1 r2, e = .returned (.agg (halvesN r1 r2 ⟨[], ss.take (i - 1), ks.take i⟩ ⟨[], ss.drop i, ks.drop i⟩ (textAt ss (i - 1)))) ∧ MadeNd w' w.heap.size r1 ⟨[], ss.take (i - 1), ks.take i⟩ ∧ MadeNd w' w.heap.size r2 ⟨[], ss.drop i, ks.drop i⟩ ∧ Same w w' := by
  obtain ⟨_, l2, l3, _, _⟩ := hs.lens
  obtain ⟨_, hss, _⟩ := chk_branch hc hk0
  simp only at l2 l3 hss
  obtain ⟨x, hx⟩ : ∃ x, ss[i - 1]? = some x := ⟨_, List.getElem?_eq_getElem (by omega)⟩
  rw [textAt_eq hx]
  refine dcut_branch (N := ⟨[], ss, ks⟩) (m := i - 1) w h hcap (by omega) hx (by show i < ks.length; omega) (by show i ≤ ss.length; omega) l3 l2 (fun W => ?_)
  have := dleaf_calls r.pa r.sa r.ka 0 r.cp ss.length r.cs ks.length r.ck W
  have e : leafB ⟨[], ss, ks⟩ = false := by
    unfold leafB
    rw [show decide ((⟨[], ss, ks⟩ : Nd).ks.length = 0) = false from decide_eq_false (by show ¬ ks.length = 0; omega)]
    simp
  unfold leafB at e
  simp only at e
  exact this.mono fun e' w' hh => ⟨hh.1.trans (by congr 2), hh.2⟩
end Go.Proofs.YtdmoglnbelembaaGreat
