/- The walk of GraftCuts. -/
import Derived.Test.YtmgkdnejjemfeaaCCJ
import Derived.Test.YtmgkdnejjemfeaaDA
import Derived.Test.YtmgkdnejjemfeaaDR
namespace Go.Proofs.Ytmgkdnejjemfeaa
open Go.RowKit Go.Shelf
attribute [local go_sem] Oper.semAt_some

/-- Blocks that hold what loops have left to be done: nothing. -/
def DsOk (B : Nat) (Ds : List Nat) (W : World) : Prop := Ds.Pairwise (fun a b => b < a) ∧ ∀ D ∈ Ds, B ≤ D ∧ W.heap[D]? = some (.deferred (some []))
def dfr (D : Nat) : Deferred := { target := .collected D, args := #[] }
theorem leaves_ds {fn : Func} {tm : Array Value} {R : Ending → World → Prop} {w0 : World} {B : Nat} (hB : w0.heap.size ≤ B) : ∀ (Ds : List Nat) (W : World), DsOk B Ds W → Same w0 W → (∀ W', Same w0 W' → (∀ a u, W.cell? a = some u → W'.cell? a = some u) → LeavesIn Fence.wide 3 Try.prog fn tm R [] .returning W') → LeavesInM Fence.wide 3 Try.prog fn tm R (Ds.map dfr) .returning W
  | [], W, _, s, h => h W s (fun _ _ e => e)
  | D :: Ds, W, ⟨hp, hd⟩, s, h => by
    have hD := hd D (List.mem_cons_self ..)
    refine ⟨by simp, .inl ⟨D, _, rfl, run_takeDeferred hD.2, ?_⟩⟩
    have hk : ∀ a u, W.cell? a = some u → (W.putObj D (.deferred none)).cell? a = some u := fun a u hc => cell_kept hc (grownBy_putObj' W D _) (fun r e => by cases e; exact ⟨_, hD.2, rfl⟩)
    refine leaves_ds hB Ds _ ⟨(List.pairwise_cons.1 hp).2, fun D' h' => ?_⟩ (Fr.grown s (grownBy_putObj' _ D (.deferred none)) (fun k e hk => by cases e; omega)) (fun W' s' h2 => h W' s' (fun a u hc => h2 a u (hk a u hc)))
    have hlt := (List.pairwise_cons.1 hp).1 D' h'
    refine ⟨(hd D' (List.mem_cons_of_mem _ h')).1, ?_⟩
    rw [World.putObj_heap_other (by omega)]
    exact (hd D' (List.mem_cons_of_mem _ h')).2
theorem eql_cuts (W : World) (fB gB : Nat) : (binOp .eql 35 (.func (.func 21) #[] #[.pointer (some ⟨fB, 0, none⟩), .pointer (some ⟨gB, 0, none⟩)]) .nilFunc).run Try.prog W = .ok (.bool false) W := by kernel_rfl
theorem results_box {fn : Func} {p : Tmp} (h : fn.results = #[.cell p 4]) (tmps : Array Value) (w : World) (g : Nat) (b : Bool) (hp : tmps.getD p undef = .pointer (some ⟨g, 0, none⟩)) (hc : w.cell? ⟨g, 0, none⟩ = some (.bool b)) : (results fn tmps).run Try.prog w = .ok (.bool b) w := by
  have hp' : tmps[p]?.getD undef = .pointer (some ⟨g, 0, none⟩) := by simpa using hp
  simp [results, h, hp', asAddr, go_sem, hc]
set_option maxRecDepth 100000 in
theorem cut_neq (W : World) (a b c a' b' c' : Int) : (binOp .neq 40 (.agg #[.int .i64 a, .int .i64 b, .int .i64 c]) (.agg #[.int .i64 a', .int .i64 b', .int .i64 c'])).run Try.prog W = .ok (.bool (!(a == a' && b == b' && c == c'))) W := by
  by_cases h1 : a = a' <;> by_cases h2 : b = b' <;> by_cases h3 : c = c' <;> simp [go_sem, Try.underlying40, Try.underlying3, h1, h2, h3]
theorem cut_eqB (x y : CutN) : (!(((y.1 : Int) == (x.1 : Int)) && ((y.2.1 : Int) == (x.2.1 : Int)) && ((y.2.2 : Int) == (x.2.2 : Int)))) = decide (x ≠ y) := by
  obtain ⟨a, b, c⟩ := x
  obtain ⟨a', b', c'⟩ := y
  by_cases h : a' = a ∧ b' = b ∧ c' = c
  · obtain ⟨rfl, rfl, rfl⟩ := h
    simp
  · have hn : ((a, b, c) : CutN) ≠ (a', b', c') := fun e => h (by cases e; exact ⟨rfl, rfl, rfl⟩)
    rw [decide_eq_true hn]
    simp only [Bool.not_eq_true', Bool.eq_false_iff, ne_eq, Bool.and_eq_true, beq_iff_eq]
    intro e
    exact h ⟨by omega, by omega, by omega⟩
theorem bn_true {x y : CutN} (h : true = decide (x ≠ y)) : x ≠ y := of_decide_eq_true h.symm
theorem bn_false {x y : CutN} (h : false = decide (x ≠ y)) : x = y := Decidable.byContradiction (fun hn => by rw [decide_eq_true hn] at h; cases h)
theorem prefix_snoc {L pre : List CutN} {x y : CutN} (hp : pre <+: L) (hy : L[pre.length]? = some y) : (pre ++ [x] <+: L ↔ x = y) := by
  obtain ⟨t, rfl⟩ := hp
  rw [List.getElem?_append_right (Nat.le_refl _), Nat.sub_self] at hy
  cases t with
  | nil => simp at hy
  | cons z t =>
    simp at hy
    subst hy
    rw [List.prefix_append_right_inj]
    simp
set_option maxRecDepth 100000 in
set_option maxHeartbeats 8000000 in
theorem gcuts_core {p q ms : Int} {r : Nr} {N : Nd} {L : List CutN} (w : World) (h : NdIn w r N) (hs : NdSmall N) (hg : greatB N = false) (hL : L.length ≤ 1048576)
    (HD : Hid (∀ W, Same w W → Calls Try.prog 7 #[frameV p q, ndV r N] W fun e w' => ∃ ao c, e = .returned (.slice ao L.length c) ∧ w'.ownsRow W.heap.size 40 3 (.slice ao L.length c) L.length (ccells L) ∧ Same W w'))
    (HI : Hid (∀ (W : World) (r : Nr) (fb nb : Nat), W.heap[fb]? = some (.cells #[.int .i64 p, .int .i64 q] 23 (0, 0)) → W.heap[nb]? = some (.cells #[.slice r.pa N.ps.length r.cp, .slice r.sa N.ss.length r.cs, .slice r.ka N.ks.length r.ck] 28 (0, 0)) → NdAt W r N → CutIn fb nb L W)) :
    Calls Try.prog 3 #[frameV p q, ndV r N, .int .i64 ms] w fun e w' => e = .returned (.bool true) ∧ Same w w' := by
  obtain ⟨h1, h2, h3, _, _⟩ := hs.lens
  have HGR : Hid (∀ W, Calls Try.prog 4 #[ndV r N] W fun e w' => e = .returned (.bool false) ∧ Same W w') := fun W => by rw [← hg]; exact great_calls W
  have HL : Hid (∀ W, Same w W → Calls Try.prog 6 #[ndV r N] W fun e w' => ∃ gp cp gs cs gk ck, e = .returned (ndV (lentNr gp cp gs cs gk ck) N) ∧ LentAt w' W.heap.size gp cp gs cs gk ck N ∧ Same W w') := fun W s => lent_at W (h.same s) h1 h2 h3
  have HK : Hid (∀ W gp cp gs cs gk ck B, Same w W → LentAt W B gp cp gs cs gk ck N → Calls Try.prog 9 #[ndV (lentNr gp cp gs cs gk ck) N, ndV r N] W fun e w' => e = .returned (.bool true) ∧ Same W w') := fun W gp cp gs cs gk ck B s l => kept_true W l (h.at_.same s) h1 h2 h3
  have HCU : Hid (∀ W gp cp gs cs gk ck B, LentAt W B gp cp gs cs gk ck N → Calls Try.prog 8 #[frameV p q, ndV (lentNr gp cp gs cs gk ck) N] W fun e w' => e = .returned (.func (.func 21) #[] #[.pointer (some ⟨W.heap.size, 0, none⟩), .pointer (some ⟨W.heap.size + 1, 0, none⟩)]) ∧ Same W w' ∧ ∀ W', Same w' W' → CutIn W.heap.size (W.heap.size + 1) L W') := fun W gp cp gs cs gk ck B l => by
    refine (cuts_calls W (l.nd h.at_) h1 h2 h3).mono ?_
    rintro e w' ⟨r', rfl, g0, g1, op, os, ok, s⟩
    refine ⟨rfl, s, fun W' sW => ?_⟩
    obtain ⟨j1, hp1⟩ := own_prow (own_base op (Nat.zero_le _)) rfl
    obtain ⟨j2, hs1⟩ := own_trow (own_base os (Nat.zero_le _)) rfl
    obtain ⟨j3, hk1⟩ := own_krow h.at_.ok (own_base ok (Nat.zero_le _)) rfl
    have hN : NdAt w' { r' with pb := j1, po := 0, sb := j2, so := 0, kb := j3, ko := 0 } N := ⟨hp1, hs1, hk1, h.at_.ok, h.at_.lp, h.at_.ls, h.at_.lk⟩
    exact HI.out W' { r' with pb := j1, po := 0, sb := j2, so := 0, kb := j3, ko := 0 } _ _ ((sW.block _ (lt_of_heap g0) (fun f => f)).trans g0) ((sW.block _ (lt_of_heap g1) (fun f => f)).trans g1) (hN.same sW)
  have HA : Hid (∀ W, Calls Try.prog 5 #[] W fun e w' => e = .returned (.bool true) ∧ Same W w') := awake_calls
  clear HI h hs hg h1 h2 h3
  unfold lentNr at HL HK HCU
  refine (callsIn_wide (n := 3)).1 ?_
  refine callsIn_of_wp_marks Try.func3 rfl trivial ?_ rfl
  simp only [Try.ntmps3, List.size_toArray, List.length_cons, List.length_nil, Nat.reduceAdd, Nat.reduceSub, Array.replicate_succ, Array.replicate_zero, List.push_toArray, List.append_toArray, List.nil_append, List.cons_append]
  refine wpIn_wide.2 ?_
  unfold ndV nodeV
  obtain ⟨V, hV⟩ : ∃ V, V = (((w.alloc (.cells #[.int .i64 p, .int .i64 q] 23)).alloc (.cells #[.slice r.pa N.ps.length r.cp, .slice r.sa N.ss.length r.cs, .slice r.ka N.ks.length r.ck] 28)).alloc (.cells #[.int .i64 ms] 3)).alloc (.cells #[.bool false] 4) := ⟨_, rfl⟩
  have t1 : Same w V := by rw [hV]; exact ((((Fr.refl _ w).alloc _).alloc _).alloc _).alloc _
  have hbx := two_boxes w (.cells #[.int .i64 p, .int .i64 q] 23) (.cells #[.slice r.pa N.ps.length r.cp, .slice r.sa N.ss.length r.cs, .slice r.ka N.ks.length r.ck] 28) (.cells #[.int .i64 ms] 3) (.cells #[.bool false] 4)
  rw [← hV] at hbx
  have ra : V.heap[w.heap.size]? = some (.cells #[.int .i64 p, .int .i64 q] 23 (0, 0)) := by
    rw [hV]
    exact ((((Fr.refl (fun _ => False) (w.alloc (.cells #[.int .i64 p, .int .i64 q] 23))).alloc _).alloc _).alloc _ |>.block _ (by simp) (fun f => f)).trans (heap_alloc_new w _)
  have rb : V.heap[w.heap.size + 1]? = some (.cells #[.slice r.pa N.ps.length r.cp, .slice r.sa N.ss.length r.cs, .slice r.ka N.ks.length r.ck] 28 (0, 0)) := by
    rw [hV]
    exact (((Fr.refl (fun _ => False) ((w.alloc (.cells #[.int .i64 p, .int .i64 q] 23)).alloc (.cells #[.slice r.pa N.ps.length r.cp, .slice r.sa N.ss.length r.cs, .slice r.ka N.ks.length r.ck] 28))).alloc _).alloc _ |>.block _ (by simp) (fun f => f)).trans (heap_alloc2_new w _ _)
  have a0 : V.cell? ⟨w.heap.size, 0, none⟩ = some (.int .i64 p) := (cell_of_row _ _ _ _ _ _ ra).trans rfl
  have a1 : V.cell? ⟨w.heap.size, 1, none⟩ = some (.int .i64 q) := (cell_of_row _ _ _ _ _ _ ra).trans rfl
  have n0 : V.cell? ⟨w.heap.size + 1, 0, none⟩ = some (.slice r.pa N.ps.length r.cp) := (cell_of_row _ _ _ _ _ _ rb).trans rfl
  have n1 : V.cell? ⟨w.heap.size + 1, 1, none⟩ = some (.slice r.sa N.ss.length r.cs) := (cell_of_row _ _ _ _ _ _ rb).trans rfl
  have n2 : V.cell? ⟨w.heap.size + 1, 2, none⟩ = some (.slice r.ka N.ks.length r.ck) := (cell_of_row _ _ _ _ _ _ rb).trans rfl
  have HC : Hid (∀ W, Same V W → W.cell? ⟨w.heap.size, 0, none⟩ = some (.int .i64 p) ∧ W.cell? ⟨w.heap.size, 1, none⟩ = some (.int .i64 q) ∧ W.cell? ⟨w.heap.size + 1, 0, none⟩ = some (.slice r.pa N.ps.length r.cp) ∧ W.cell? ⟨w.heap.size + 1, 1, none⟩ = some (.slice r.sa N.ss.length r.cs) ∧ W.cell? ⟨w.heap.size + 1, 2, none⟩ = some (.slice r.ka N.ks.length r.ck)) := fun W s => ⟨s.keep a0, s.keep a1, s.keep n0, s.keep n1, s.keep n2⟩
  have HMB : Hid (∀ W, Same V W → W.heap[w.heap.size + 1 + 1]? = some (.cells #[.int .i64 ms] 3 (0, 0)) ∧ W.heap[w.heap.size + 1 + 1 + 1]? = some (.cells #[.bool false] 4 (0, 0))) := fun W s => ⟨(s.block _ (lt_of_heap hbx.1) (fun f => f)).trans hbx.1, (s.block _ (lt_of_heap hbx.2) (fun f => f)).trans hbx.2⟩
  have HVZ : Hid (V.heap.size = w.heap.size + 4) := by show _ = _; rw [hV]; simp
  clear hbx ra rb
  go_wp2_with fail
  rw [← hV]
  clear hV
  refine (HGR.out _).mono ?_
  rintro e W0 ⟨rfl, s0⟩
  clear a0 a1 n0 n1 n2
  obtain ⟨a0, a1, n0, n1, n2⟩ := HC.out _ s0
  go_wp2_with fail
  refine (HL.out _ (t1.trans s0)).mono ?_
  rintro e W1 ⟨gp, cp, gs, cs, gk, ck, rfl, l1, s1⟩
  unfold ndV nodeV
  obtain ⟨V2, hV2⟩ : ∃ V2, V2 = W1.alloc (.cells #[.slice (some ⟨gp, 0, none⟩) N.ps.length cp, .slice (some ⟨gs, 0, none⟩) N.ss.length cs, .slice (some ⟨gk, 0, none⟩) N.ks.length ck] 28) := ⟨_, rfl⟩
  have v1 : Same V V2 := by rw [hV2]; exact Fr.alloc (s0.trans s1) _
  have rx := heap_alloc_new W1 (.cells #[.slice (some ⟨gp, 0, none⟩) N.ps.length cp, .slice (some ⟨gs, 0, none⟩) N.ss.length cs, .slice (some ⟨gk, 0, none⟩) N.ks.length ck] 28)
  rw [← hV2] at rx
  have sv : Same W1 V2 := by rw [hV2]; exact (Fr.refl _ W1).alloc _
  have HLA : Hid (∀ W, Same V2 W → LentAt W W0.heap.size gp cp gs cs gk ck N) := fun W s => l1.same (sv.trans s)
  clear a0 a1 n0 n1 n2
  obtain ⟨a0, a1, n0, n1, n2⟩ := HC.out _ v1
  obtain ⟨xb, hxb⟩ : ∃ xb, xb = W1.heap.size := ⟨_, rfl⟩
  rw [← hxb] at rx
  have HX : Hid (∀ W : World, Same V2 W → W.cell? ⟨xb, 0, none⟩ = some (.slice (some ⟨gp, 0, none⟩) N.ps.length cp) ∧ W.cell? ⟨xb, 1, none⟩ = some (.slice (some ⟨gs, 0, none⟩) N.ss.length cs) ∧ W.cell? ⟨xb, 2, none⟩ = some (.slice (some ⟨gk, 0, none⟩) N.ks.length ck)) := fun W s => by
    have e := (s.block _ (lt_of_heap rx) (fun f => f)).trans rx
    exact ⟨(cell_of_row _ _ _ _ _ _ e).trans rfl, (cell_of_row _ _ _ _ _ _ e).trans rfl, (cell_of_row _ _ _ _ _ _ e).trans rfl⟩
  rw [hV2] at a0 a1 n0 n1 n2
  go_wp2_with fail
  rw [← hV2, ← hxb]
  have T2 : Hid (Same V V2) := v1
  clear hV2 hxb rx l1 s0 s1 sv a0 a1 n0 n1 n2 HL HGR v1
  refine (HD.out _ (t1.trans T2.out)).mono ?_
  rintro e Y1 ⟨ao, cw, rfl, ow, q1⟩
  obtain ⟨V3, hV3⟩ : ∃ Z, Z = Y1.alloc (.cells #[.slice ao L.length cw] 32) := ⟨_, rfl⟩
  have s3 : Same V2 V3 := by rw [hV3]; exact Fr.alloc q1 _
  have rw3 := heap_alloc_new Y1 (.cells #[.slice ao L.length cw] 32)
  rw [← hV3] at rw3
  have ow3 : V3.ownsRow V2.heap.size 40 3 (.slice ao L.length cw) L.length (ccells L) := by rw [hV3]; exact own_frameB ow ((Fr.refl (fun _ => False) Y1).alloc _) (fun kk hk e => e)
  obtain ⟨a0, a1, n0, n1, n2⟩ := HC.out _ (T2.out.trans s3)
  obtain ⟨x0, x1, x2⟩ := HX.out _ s3
  rw [hV3] at a0 a1 n0 n1 n2 x0 x1 x2
  go_wp2_with fail
  rw [← hV3]
  obtain ⟨wb, hwb⟩ : ∃ wb, wb = Y1.heap.size := ⟨_, rfl⟩
  rw [← hwb] at rw3 ⊢
  have HW3 : Hid (V3.heap[wb]? = some (.cells #[.slice ao L.length cw] 32 (0, 0))) := rw3
  have HO3 : Hid (V3.ownsRow V2.heap.size 40 3 (.slice ao L.length cw) L.length (ccells L)) := ow3
  have HS3 : Hid (Same V2 V3) := s3
  clear hV3 a0 a1 n0 n1 n2 x0 x1 x2 hwb q1 s3 rw3 ow ow3
  obtain ⟨a0, a1, n0, n1, n2⟩ := HC.out _ (T2.out.trans HS3.out)
  obtain ⟨x0, x1, x2⟩ := HX.out _ HS3.out
  try go_wp2_with fail
  refine (HCU.out _ _ _ _ _ _ _ _ (HLA.out _ HS3.out)).mono ?_
  rintro e Y2 ⟨rfl, q2, hcin⟩
  have HS4 : Hid (Same V2 Y2) := HS3.out.trans q2
  clear a0 a1 n0 n1 n2 x0 x1 x2
  obtain ⟨a0, a1, n0, n1, n2⟩ := HC.out _ (T2.out.trans HS4.out)
  obtain ⟨x0, x1, x2⟩ := HX.out _ HS4.out
  obtain ⟨fB, hfB⟩ : ∃ fB, fB = V3.heap.size := ⟨_, rfl⟩
  rw [← hfB] at hcin ⊢
  have HCI : Hid (∀ W', Same Y2 W' → CutIn fB (fB + 1) L W') := hcin
  have HS34 : Hid (Same V3 Y2) := q2
  clear hfB hcin q2
  have heq := eql_cuts Y2 fB (fB + 1)
  go_wp2_with fail
  refine (HK.out _ _ _ _ _ _ _ _ (t1.trans (T2.out.trans HS4.out)) (HLA.out _ HS4.out)).mono ?_
  rintro e Y3 ⟨rfl, q3⟩
  clear heq
  clear a0 a1 n0 n1 n2 x0 x1 x2
  have HT3 : Hid (Same V Y3) := T2.out.trans (HS4.out.trans q3)
  have HW : Hid (∀ W, Same Y3 W → W.heap[wb]? = some (.cells #[.slice ao L.length cw] 32 (0, 0)) ∧ W.ownsRow V2.heap.size 40 3 (.slice ao L.length cw) L.length (ccells L)) := fun W s => by
    have t := HS34.out.trans (q3.trans s)
    exact ⟨(t.block _ (lt_of_heap HW3.out) (fun f => f)).trans HW3.out, own_frameB HO3.out t (fun kk hk e => e)⟩
  have HCI3 : Hid (∀ W', Same Y3 W' → CutIn fB (fB + 1) L W') := fun W' s => HCI.out W' (q3.trans s)
  have HB : Hid (∀ W, Same Y3 W → W.heap[w.heap.size + 1 + 1]? = some (.cells #[.int .i64 ms] 3 (0, 0)) ∧ W.heap[w.heap.size + 1 + 1 + 1]? = some (.cells #[.bool false] 4 (0, 0))) := fun W s => HMB.out _ (HT3.out.trans s)
  have HSZ : Hid (w.heap.size + 4 ≤ Y3.heap.size ∧ wb < Y3.heap.size) := ⟨by have := HT3.out.size; have := HVZ.out; omega, lt_of_heap (HW.out _ (Fr.refl _ _)).1⟩
  have HT : Hid (Same w Y3) := t1.trans HT3.out
  clear HC HX HLA HK HCU HD HMB HCI HS34 HO3 HW3 HS3 HS4 T2 HT3 q3 t1 HVZ
  go_wp2_with fail
  have hr0 := heap_alloc_new Y3 (.cells #[.int .i64 0] 3)
  refine wp_loop_ghost_k (fun g a W => ∃ (rho bR : Nat) (Ds : List Nat) (u11 u16 u17 u18 u19 u20 u21 u22 u23 u24 u25 u26 u27 u28 u29 u30 u31 u32 u33 u34 u35 u36 u37 u66 u67 u68 u69 u70 u71 u72 u73 u74 u75 u76 u77 u78 u79 u80 : Value), rho + g = 2 ∧ a = { tmps := #[frameV p q, .agg #[.slice r.pa N.ps.length r.cp, .slice r.sa N.ss.length r.cs, .slice r.ka N.ks.length r.ck], .int .i64 ms, .pointer (some ⟨w.heap.size, 0, none⟩), .pointer (some ⟨w.heap.size + 1, 0, none⟩), .pointer (some ⟨w.heap.size + 1 + 1, 0, none⟩), .pointer (some ⟨w.heap.size + 1 + 1 + 1, 0, none⟩), .pointer (some ⟨xb, 0, none⟩), .pointer (some ⟨wb, 0, none⟩), .func (.func 21) #[] #[.pointer (some ⟨fB, 0, none⟩), .pointer (some ⟨fB + 1, 0, none⟩)], .pointer (some ⟨bR, 0, none⟩), u11, undef, undef, .agg #[.slice r.pa N.ps.length r.cp, .slice r.sa N.ss.length r.cs, .slice r.ka N.ks.length r.ck], .bool false, u16, u17, u18, u19, u20, u21, u22, u23, u24, u25, u26, u27, u28, u29, u30, u31, u32, u33, u34, u35, u36, u37, undef, undef, undef, undef, undef, undef, undef, undef, undef, undef, undef, undef, undef, undef, undef, undef, undef, undef, undef, undef, undef, undef, undef, undef, undef, undef, undef, undef, u66, u67, u68, u69, u70, u71, u72, u73, u74, u75, u76, u77, u78, u79, u80, undef], defers := Ds.map dfr } ∧ Hid (W.heap[bR]? = some (.cells #[.int .i64 (rho : Int)] 3 (0, 0)) ∧ Y3.heap.size ≤ bR) ∧ Hid (Same Y3 W) ∧ Hid (DsOk Y3.heap.size Ds W)) 2 ⟨0, Y3.heap.size, [], _, _, _, _, _, _, _, _, _, _, _, _, _, _, _, _, _, _, _, _, _, _, _, _, _, _, _, _, _, _, _, _, _, _, _, _, _, _, rfl, rfl, ⟨hr0, Nat.le_refl _⟩, (Fr.refl _ Y3).alloc _, ⟨List.Pairwise.nil, by simp⟩⟩ ?_
  clear hr0
  rintro g a W ⟨rho, bR, Ds, u11, u16, u17, u18, u19, u20, u21, u22, u23, u24, u25, u26, u27, u28, u29, u30, u31, u32, u33, u34, u35, u36, u37, u66, u67, u68, u69, u70, u71, u72, u73, u74, u75, u76, u77, u78, u79, u80, hg, rfl, HR, HS, HDs⟩ J K hJ hK
  obtain ⟨ds, hds⟩ : ∃ ds, ds = Ds.map dfr := ⟨_, rfl⟩
  rw [← hds]
  have HDS : Hid (ds = Ds.map dfr) := hds
  clear hds
  have cR : W.cell? ⟨bR, 0, none⟩ = some (.int .i64 (rho : Int)) := (cell_of_row _ _ _ _ _ _ HR.out.1).trans rfl
  by_cases hr2 : rho = 2
  · subst hr2
    go_wp2_with fail
    refine (HA.out _).mono ?_
    rintro e Z ⟨rfl, q⟩
    have sZ := HS.out.trans q
    have rB := (HB.out _ sZ).2
    have cB : Z.cell? ⟨w.heap.size + 1 + 1 + 1, 0, none⟩ = some (.bool false) := (cell_of_row _ _ _ _ _ _ rB).trans rfl
    have zB : Z.frozen? ⟨w.heap.size + 1 + 1 + 1, 0, none⟩ = false := by simp [World.frozen?, rB]
    have HCB : Hid (Z.cell? ⟨w.heap.size + 1 + 1 + 1, 0, none⟩ = some (.bool false)) := cB
    have HDZ : Hid (DsOk Y3.heap.size Ds Z) := ⟨HDs.out.1, fun D hD => ⟨(HDs.out.2 D hD).1, (q.block _ (lt_of_heap (HDs.out.2 D hD).2) (fun f => f)).trans (HDs.out.2 D hD).2⟩⟩
    go_wp2_with fail
    rw [HDS.out]
    have sw : Same w (Z.setCell ⟨w.heap.size + 1 + 1 + 1, 0, none⟩ (.bool true)) := (HT.out.trans sZ).setCell (p := ⟨w.heap.size + 1 + 1 + 1, 0, none⟩) (fun h => by simp only at h; omega) _
    have cT : (Z.setCell ⟨w.heap.size + 1 + 1 + 1, 0, none⟩ (.bool true)).cell? ⟨w.heap.size + 1 + 1 + 1, 0, none⟩ = some (.bool true) := World.cell?_setCell_same' _ _ _ (by rw [HCB.out]; rfl)
    refine leaves_ds (B := Y3.heap.size) (by have := HSZ.out; omega) Ds _ ⟨HDZ.out.1, fun D hD => ⟨(HDZ.out.2 D hD).1, ?_⟩⟩ sw (fun W' s' hk => ⟨_, results_box rfl _ _ _ _ rfl (hk _ _ cT), rfl, s'⟩)
    have f3 : Fr (fun k => k = w.heap.size + 1 + 1 + 1) Z (Z.setCell ⟨w.heap.size + 1 + 1 + 1, 0, none⟩ (.bool true)) := (Fr.refl (fun k => k = w.heap.size + 1 + 1 + 1) _).setCell (p := ⟨w.heap.size + 1 + 1 + 1, 0, none⟩) (fun _ => rfl) _
    exact (f3.block _ (lt_of_heap (HDZ.out.2 D hD).2) (by have := (HDZ.out.2 D hD).1; have := HSZ.out; omega)).trans (HDZ.out.2 D hD).2
  · have hlt : (rho : Int) < 2 := by omega
    have HG : Hid (rho < 2 ∧ rho + g = 2) := ⟨by omega, hg⟩
    clear hr2 hg
    go_wp2_with fail
    have rA := heap_alloc_new W (.cells #[.int .i64 0] 3)
    obtain ⟨W5, hW5⟩ : ∃ W5, W5 = W.alloc (.cells #[.int .i64 0] 3) := ⟨_, rfl⟩
    obtain ⟨AB, hAB⟩ : ∃ AB, AB = W.heap.size := ⟨_, rfl⟩
    rw [← hAB, ← hW5]
    rw [← hAB, ← hW5] at rA
    have HA5 : Hid (W5.heap[AB]? = some (.cells #[.int .i64 0] 3 (0, 0))) := rA
    have HZ5 : Hid (W5.heap.size = AB + 1 ∧ Y3.heap.size ≤ AB ∧ bR < AB ∧ Y3.heap.size ≤ bR) := ⟨by rw [hW5, hAB]; simp, by rw [hAB]; exact HS.out.size, by rw [hAB]; exact lt_of_heap HR.out.1, HR.out.2⟩
    have HS5 : Hid (Same Y3 W5) := by rw [hW5]; exact Fr.alloc HS.out _
    have HR5 : Hid (W5.heap[bR]? = some (.cells #[.int .i64 (rho : Int)] 3 (0, 0))) := by rw [hW5]; exact (heap_alloc_old _ _ (lt_of_heap HR.out.1)).trans HR.out.1
    have HD5 : Hid (∀ D ∈ Ds, D < AB ∧ W5.heap[D]? = some (.deferred (some []))) := fun D hD => by
      have := (HDs.out.2 D hD).2
      exact ⟨by rw [hAB]; exact lt_of_heap this, by rw [hW5]; exact (heap_alloc_old _ _ (lt_of_heap this)).trans this⟩
    have HDp : Hid (DsOk Y3.heap.size Ds W) := HDs.out
    clear hW5 hAB rA cR HS HR HDs hlt
    refine (wpIn_wide (n := 3)).1 ?_
    refine wpIn_rangeFunc_ownH (n := 3) (F := Fence.wide) rfl (by omega) (gf := 21) (lb := #[.pointer (some ⟨fB, 0, none⟩), .pointer (some ⟨fB + 1, 0, none⟩)]) (by rfl) trivial (enters_of Try.func21 (by kernel_rfl) rfl) (encs := cutV) (Kp := KpB AB AB) (S := fun xs => xs = L) (Sp := fun pre => pre <+: L) (N := L.length) (w0 := W5) ?seq KpB.trans (fun W l o o' _ h ho _ => KpB.put W l o o' h ho) (Below.refl _ _) (fun _ => rfl)
      (fun pre W => pre <+: L ∧ W.heap[AB]? = some (.cells #[.int .i64 (pre.length : Int)] 3 (0, 0)) ∧ Fr (fun k => k = AB) W5 W)
      (fun c pre W => (c = .exit 2 ∧ rho = 0 ∧ (pre.length : Int) = ms ∧ pre <+: L ∧ W.heap[AB]? = some (.cells #[.int .i64 (pre.length : Int)] 3 (0, 0)) ∧ Fr (fun k => k = AB) W5 W) ∨ ¬ pre <+: L)
      ?hI ?hIx ⟨List.nil_prefix, HA5.out, Fr.refl _ _⟩
      (fun x a' W => ∃ bx, W5.heap.size ≤ bx ∧ W.cell? ⟨bx, 0, none⟩ = some (.int .i64 (x.2.1 : Int)) ∧ W.cell? ⟨bx, 1, none⟩ = some (.int .i64 (x.2.2 : Int)) ∧ a' = { tmps := #[frameV p q, .agg #[.slice r.pa N.ps.length r.cp, .slice r.sa N.ss.length r.cs, .slice r.ka N.ks.length r.ck], .int .i64 ms, .pointer (some ⟨w.heap.size, 0, none⟩), .pointer (some ⟨w.heap.size + 1, 0, none⟩), .pointer (some ⟨w.heap.size + 1 + 1, 0, none⟩), .pointer (some ⟨w.heap.size + 1 + 1 + 1, 0, none⟩), .pointer (some ⟨xb, 0, none⟩), .pointer (some ⟨wb, 0, none⟩), .func (.func 21) #[] #[.pointer (some ⟨fB, 0, none⟩), .pointer (some ⟨fB + 1, 0, none⟩)], .pointer (some ⟨bR, 0, none⟩), .pointer (some ⟨AB, 0, none⟩), .int .i64 (x.1 : Int), .pointer (some ⟨bx, 0, none⟩), .agg #[.slice r.pa N.ps.length r.cp, .slice r.sa N.ss.length r.cs, .slice r.ka N.ks.length r.ck], .bool false, u16, u17, u18, u19, u20, u21, u22, u23, u24, u25, u26, u27, u28, u29, u30, u31, u32, .int .i64 (rho : Int), .bool true, u35, u36, .func (.func 21) #[] #[.pointer (some ⟨fB, 0, none⟩), .pointer (some ⟨fB + 1, 0, none⟩)], .int .i64 (x.1 : Int), .agg #[.int .i64 (x.2.1 : Int), .int .i64 (x.2.2 : Int)], undef, undef, undef, undef, undef, undef, undef, undef, undef, undef, undef, undef, undef, undef, undef, undef, undef, undef, undef, undef, undef, undef, undef, undef, undef, undef, u66, u67, u68, u69, u70, u71, u72, u73, u74, u75, u76, u77, u78, u79, u80, undef], defers := [] }) ?hAx ?assign ?body ?done ?stop
    case seq =>
      intro l J Jx W hW hJ hJx hY hJ0
      have sW : Same W5 W := ⟨hW.os, hW.tape, hW.output, hW.size, fun k hk _ => hW.block k hk⟩
      have zW := sW.size
      have := HZ5.out
      exact HCI3.out W (HS5.out.trans sW) l AB AB J Jx (fun pre A B hj sAB => hJ pre A B none hj ⟨sAB.os, sAB.tape, sAB.output, sAB.size, fun k hk _ => sAB.block k hk (fun f => f)⟩ (fun r e => by cases e)) hY (by omega) (by omega) hJ0
    case hI =>
      intro pre A B row hs hg hr
      obtain ⟨h1, h2, h3⟩ := hs
      exact ⟨h1, Boxed.kept h2 hg (fun e => by have := (hr AB e.symm).1; have := HZ5.out; omega), Fr.grown h3 hg (fun k e hk => by have := (hr k e).1; omega)⟩
    case hIx =>
      intro c pre A B row hs hg hr
      rcases hs with ⟨h1, h2, h3, h4, h5, h6⟩ | h
      · exact .inl ⟨h1, h2, h3, h4, Boxed.kept h5 hg (fun e => by have := (hr AB e.symm).1; have := HZ5.out; omega), Fr.grown h6 hg (fun k e hk => by have := (hr k e).1; omega)⟩
      · exact .inr h
    case hAx =>
      intro x a' _ A B row hs hg hr
      obtain ⟨bx, b0, b1, b2, rfl⟩ := hs
      have hr' : ∀ r, row = some r → ∃ o : Obj, A.heap[r]? = some o ∧ o.isCells = false := fun r e => (hr r e).2
      exact ⟨bx, b0, cell_kept b1 hg hr', cell_kept b2 hg hr', rfl⟩
    case assign =>
      intro l pre x W K hi hK
      unfold cutV
      gi_wp2
      obtain ⟨h1, h2, h3⟩ := hi
      have f : Same W (W.alloc (.cells #[.int .i64 (x.2.1 : Int), .int .i64 (x.2.2 : Int)] 38)) := (Fr.refl _ W).alloc _
      refine hK _ _ ((KeepsOthers.alloc _ _).from _) (fun a v _ _ hc => f.keep hc) ⟨h1, (f.block _ (lt_of_heap h2) (fun e => e)).trans h2, Fr.alloc h3 _⟩ ⟨W.heap.size, h3.size, by simp, by simp, rfl⟩
    case body =>
      rintro l pre x a' W hl ⟨rr, hrr⟩ ⟨h1, h2, h3⟩ ⟨bx, b0, b1, b2, rfl⟩ hlt
      obtain ⟨z5, z6, z7, z8⟩ := HZ5.out
      obtain ⟨s1, s2⟩ := HSZ.out
      obtain ⟨y, hy⟩ : ∃ y, L[pre.length]? = some y := ⟨_, List.getElem?_eq_getElem hlt⟩
      have hpx := prefix_snoc (x := x) h1 hy
      have T : ∀ k, k < AB → W.heap[k]? = W5.heap[k]? := fun k hk => h3.block k (by omega) (by omega)
      have rW := (HW.out _ HS5.out).1
      have oW := own_frameB (HW.out _ HS5.out).2 h3 (fun kk hk e => by
        cases ao with
        | none => cases hk
        | some a => have := own_ge (HW.out _ (Fr.refl _ Y3)).2; simp [Value.ownBlock] at hk; omega)
      obtain ⟨gg, rfl, hgg, hcell⟩ := own_crow (own_base oW (Nat.zero_le _)) rfl (fun e => by rw [e] at hlt; simp at hlt)
      obtain ⟨e0, e1, e2⟩ := hcell _ _ hy
      have cA : W.cell? ⟨AB, 0, none⟩ = some (.int .i64 (pre.length : Int)) := (cell_of_row _ _ _ _ _ _ h2).trans rfl
      have zA : W.frozen? ⟨AB, 0, none⟩ = false := by simp [World.frozen?, h2]
      have cR : W.cell? ⟨bR, 0, none⟩ = some (.int .i64 (rho : Int)) := (cell_of_row _ _ _ _ _ _ ((T bR z7).trans HR5.out)).trans rfl
      have cW : W.cell? ⟨wb, 0, none⟩ = some (.slice (some ⟨gg, 0, none⟩) L.length cw) := (cell_of_row _ _ _ _ _ _ ((T wb (by omega)).trans rW)).trans rfl
      obtain ⟨rm, rb⟩ := HB.out _ HS5.out
      have cM : W.cell? ⟨w.heap.size + 1 + 1, 0, none⟩ = some (.int .i64 ms) := (cell_of_row _ _ _ _ _ _ ((T _ (by omega)).trans rm)).trans rfl
      have rb' := (T _ (by omega)).trans rb
      have cB : W.cell? ⟨w.heap.size + 1 + 1 + 1, 0, none⟩ = some (.bool false) := (cell_of_row _ _ _ _ _ _ rb').trans rfl
      have zB : W.frozen? ⟨w.heap.size + 1 + 1 + 1, 0, none⟩ = false := by simp [World.frozen?, rb']
      have HT5 : Hid ((∀ k, k < AB → W.heap[k]? = W5.heap[k]?) ∧ W.heap[AB]? = some (.cells #[.int .i64 (pre.length : Int)] 3 (0, 0)) ∧ Fr (fun k => k = AB) W5 W ∧ pre <+: L) := ⟨T, h2, h3, h1⟩
      have HPX : Hid (pre ++ [x] <+: L ↔ x = y) := hpx
      have HLT : Hid (pre.length < L.length ∧ L.length ≤ 1048576) := ⟨hlt, hL⟩
      obtain ⟨j, hj⟩ : ∃ j, j = pre.length := ⟨_, rfl⟩
      rw [← hj] at e0 e1 e2 cA HT5 HLT
      have HJ : Hid (j = pre.length) := hj
      have hge : ¬ (L.length : Int) ≤ (j : Int) := by have := HLT.out; omega
      clear T rW oW rm rb rb' h1 h2 h3 hpx hy hj hlt hcell hrr hl
      gi_wp2
      have hmix : Try.prog.follows .mixedOrders = true := by kernel_rfl
      obtain ⟨bn, hbn⟩ : ∃ bn, bn = decide (x ≠ y) := ⟨_, rfl⟩
      have HBN : Hid (bn = decide (x ≠ y)) := hbn
      have heq : ∀ W', (binOp .neq 40 (.agg #[.int .i64 (y.1 : Int), .int .i64 (y.2.1 : Int), .int .i64 (y.2.2 : Int)]) (.agg #[.int .i64 (x.1 : Int), .int .i64 (x.2.1 : Int), .int .i64 (x.2.2 : Int)])).run Try.prog W' = .ok (.bool bn) W' := fun W' => by rw [cut_neq, cut_eqB, hbn]
      clear hbn
      have d0 : Same W W.drew := Fr.drew (Fr.refl _ _)
      refine region_round (S := fun Y => (Y.cell? ⟨AB, 0, none⟩ = some (.int .i64 (j : Int)) ∧ Y.cell? ⟨wb, 0, none⟩ = some (.slice (some ⟨gg, 0, none⟩) L.length cw)) ∧ (Y.cell? ⟨gg, j * 3, none⟩ = some (.int .i64 (y.1 : Int)) ∧ Y.cell? ⟨gg, j * 3 + 1, none⟩ = some (.int .i64 (y.2.1 : Int)) ∧ Y.cell? ⟨gg, j * 3 + 2, none⟩ = some (.int .i64 (y.2.2 : Int))) ∧ Y.cell? ⟨bx, 0, none⟩ = some (.int .i64 (x.2.1 : Int)) ∧ Y.cell? ⟨bx, 1, none⟩ = some (.int .i64 (x.2.2 : Int)))
        (fun a' w' => a' = { tmps := #[frameV p q, .agg #[.slice r.pa N.ps.length r.cp, .slice r.sa N.ss.length r.cs, .slice r.ka N.ks.length r.ck], .int .i64 ms, .pointer (some ⟨w.heap.size, 0, none⟩), .pointer (some ⟨w.heap.size + 1, 0, none⟩), .pointer (some ⟨w.heap.size + 1 + 1, 0, none⟩), .pointer (some ⟨w.heap.size + 1 + 1 + 1, 0, none⟩), .pointer (some ⟨xb, 0, none⟩), .pointer (some ⟨wb, 0, none⟩), .func (.func 21) #[] #[.pointer (some ⟨fB, 0, none⟩), .pointer (some ⟨fB + 1, 0, none⟩)], .pointer (some ⟨bR, 0, none⟩), .pointer (some ⟨AB, 0, none⟩), .int .i64 (x.1 : Int), .pointer (some ⟨bx, 0, none⟩), .agg #[.slice r.pa N.ps.length r.cp, .slice r.sa N.ss.length r.cs, .slice r.ka N.ks.length r.ck], .bool false, u16, u17, u18, u19, u20, u21, u22, u23, u24, u25, u26, u27, u28, u29, u30, u31, u32, .int .i64 (rho : Int), .bool true, u35, u36, .func (.func 21) #[] #[.pointer (some ⟨fB, 0, none⟩), .pointer (some ⟨fB + 1, 0, none⟩)], .int .i64 (x.1 : Int), .agg #[.int .i64 (x.2.1 : Int), .int .i64 (x.2.2 : Int)], .int .i64 (j : Int), .slice (some ⟨gg, 0, none⟩) L.length cw, .int .i64 (L.length : Int), .bool false, .bool false, .slice (some ⟨gg, 0, none⟩) L.length cw, .int .i64 (j : Int), .pointer (some ⟨gg, j * 3, none⟩), .agg #[.int .i64 (y.1 : Int), .int .i64 (y.2.1 : Int), .int .i64 (y.2.2 : Int)], .int .i64 (x.1 : Int), .pointer (some ⟨bx, 0, none⟩), .int .i64 (x.2.1 : Int), .pointer (some ⟨bx, 1, none⟩), .int .i64 (x.2.2 : Int), .agg #[.int .i64 (x.1 : Int), .int .i64 (x.2.1 : Int), .int .i64 (x.2.2 : Int)], .bool bn, .bool bn, undef, undef, undef, undef, undef, undef, undef, undef, undef, u66, u67, u68, u69, u70, u71, u72, u73, u74, u75, u76, u77, u78, u79, u80, undef], defers := [] } ∧ w' = W.drew) (by kernel_rfl) (by kernel_rfl) ⟨⟨cA, cW⟩, ⟨e0, e1, e2⟩, b1, b2⟩ (fun hHeld => ?reg) (fun a' w' hR => ?behind)
      case reg =>
        have hjl : (j : Int) < (L.length : Int) := by have := HLT.out; omega
        have hjn : j < L.length := HLT.out.1
        generalize W.drew = D0 at *
        refine wpAnyH_take (i := 0) (oi := { dst := some 40, op := Go.Op.load 3 (Go.Operand.tmp 11), type := 3, pos := "law.go:103", after := #[], guard := none }) (v := .int .i64 (j : Int)) rfl (by kernel_rfl) (by kernel_rfl) (by kernel_rfl) (fun _ _ _ h => absurd h.1 (by simp)) (Or.inl ⟨by rfl, fun w hSw => by (obtain ⟨⟨z0, z1⟩, ⟨z2, z3, z4⟩, z5, z6⟩ := hSw; go_simp)⟩) (by assumption) ?_
        try simp only [Act.put, List.setIfInBounds_toArray, List.set_cons_zero, List.set_cons_succ]
        refine wpAnyH_take (i := 1) (oi := { dst := some 41, op := Go.Op.load 32 (Go.Operand.tmp 8), type := 32, pos := "law.go:103", after := #[], guard := none }) (v := .slice (some ⟨gg, 0, none⟩) L.length cw) rfl (by kernel_rfl) (by kernel_rfl) (by kernel_rfl) (fun _ _ _ h => absurd h.1 (by simp)) (Or.inl ⟨by rfl, fun w hSw => by (obtain ⟨⟨z0, z1⟩, ⟨z2, z3, z4⟩, z5, z6⟩ := hSw; go_simp)⟩) (by assumption) ?_
        try simp only [Act.put, List.setIfInBounds_toArray, List.set_cons_zero, List.set_cons_succ]
        refine wpAnyH_take (i := 2) (oi := { dst := some 42, op := Go.Op.call { callee := Go.Callee.builtin Go.Builtin.len, args := #[Go.Operand.tmp 41], argTypes := #[32] }, type := 3, pos := "law.go:103", after := #[{ on := 1, ground := Go.Ground.data }], guard := none }) (v := .int .i64 (L.length : Int)) rfl (by kernel_rfl) (by kernel_rfl) (by kernel_rfl) (fun _ _ _ h => absurd h.1 (by simp)) (Or.inl ⟨by rfl, fun w hSw => by (obtain ⟨⟨z0, z1⟩, ⟨z2, z3, z4⟩, z5, z6⟩ := hSw; go_simp)⟩) (by assumption) ?_
        try simp only [Act.put, List.setIfInBounds_toArray, List.set_cons_zero, List.set_cons_succ]
        refine wpAnyH_take (i := 3) (oi := { dst := some 43, op := Go.Op.binOp Go.BinOp.geq 3 (Go.Operand.tmp 40) (Go.Operand.tmp 42) 3, type := 4, pos := "law.go:103", after := #[{ on := 0, ground := Go.Ground.data }, { on := 2, ground := Go.Ground.data }], guard := none }) (v := .bool false) rfl (by kernel_rfl) (by kernel_rfl) (by kernel_rfl) (fun _ _ _ h => absurd h.1 (by simp)) (Or.inl ⟨by rfl, fun w hSw => by (obtain ⟨⟨z0, z1⟩, ⟨z2, z3, z4⟩, z5, z6⟩ := hSw; go_simp)⟩) (by assumption) ?_
        try simp only [Act.put, List.setIfInBounds_toArray, List.set_cons_zero, List.set_cons_succ]
        refine wpAnyH_take (i := 4) (oi := { dst := some 44, op := Go.Op.move (Go.Operand.tmp 43), type := 4, pos := "law.go:103", after := #[{ on := 3, ground := Go.Ground.data }], guard := none }) (v := .bool false) rfl (by kernel_rfl) (by kernel_rfl) (by kernel_rfl) (fun _ _ _ h => absurd h.1 (by simp)) (Or.inl ⟨by rfl, fun w hSw => by (obtain ⟨⟨z0, z1⟩, ⟨z2, z3, z4⟩, z5, z6⟩ := hSw; go_simp)⟩) (by assumption) ?_
        try simp only [Act.put, List.setIfInBounds_toArray, List.set_cons_zero, List.set_cons_succ]
        refine wpAnyH_take (i := 5) (oi := { dst := some 45, op := Go.Op.load 32 (Go.Operand.tmp 8), type := 32, pos := "law.go:103", after := #[{ on := 4, ground := Go.Ground.guard }], guard := some (4, false) }) (v := .slice (some ⟨gg, 0, none⟩) L.length cw) rfl (by kernel_rfl) (by kernel_rfl) (by kernel_rfl) (fun _ _ _ h => absurd h.1 (by simp)) (Or.inl ⟨by rfl, fun w hSw => by (obtain ⟨⟨z0, z1⟩, ⟨z2, z3, z4⟩, z5, z6⟩ := hSw; go_simp)⟩) (by assumption) ?_
        try simp only [Act.put, List.setIfInBounds_toArray, List.set_cons_zero, List.set_cons_succ]
        refine wpAnyH_take (i := 6) (oi := { dst := some 46, op := Go.Op.load 3 (Go.Operand.tmp 11), type := 3, pos := "law.go:103", after := #[{ on := 4, ground := Go.Ground.guard }], guard := some (4, false) }) (v := .int .i64 (j : Int)) rfl (by kernel_rfl) (by kernel_rfl) (by kernel_rfl) (fun _ _ _ h => absurd h.1 (by simp)) (Or.inl ⟨by rfl, fun w hSw => by (obtain ⟨⟨z0, z1⟩, ⟨z2, z3, z4⟩, z5, z6⟩ := hSw; go_simp)⟩) (by assumption) ?_
        try simp only [Act.put, List.setIfInBounds_toArray, List.set_cons_zero, List.set_cons_succ]
        refine wpAnyH_take (i := 7) (oi := { dst := some 47, op := Go.Op.indexAddr 32 (Go.Operand.tmp 45) (Go.Operand.tmp 46), type := 0, pos := "law.go:103", after := #[{ on := 5, ground := Go.Ground.data }, { on := 6, ground := Go.Ground.data }, { on := 4, ground := Go.Ground.guard }], guard := some (4, false) }) (v := .pointer (some ⟨gg, j * 3, none⟩)) rfl (by kernel_rfl) (by kernel_rfl) (by kernel_rfl) (fun _ _ _ h => absurd h.1 (by simp)) (Or.inl ⟨by rfl, fun w hSw => by (obtain ⟨⟨z0, z1⟩, ⟨z2, z3, z4⟩, z5, z6⟩ := hSw; go_simp)⟩) (by assumption) ?_
        try simp only [Act.put, List.setIfInBounds_toArray, List.set_cons_zero, List.set_cons_succ]
        refine wpAnyH_take (i := 8) (oi := { dst := some 48, op := Go.Op.load 40 (Go.Operand.tmp 47), type := 40, pos := "law.go:103", after := #[{ on := 7, ground := Go.Ground.data }, { on := 4, ground := Go.Ground.guard }], guard := some (4, false) }) (v := .agg #[.int .i64 (y.1 : Int), .int .i64 (y.2.1 : Int), .int .i64 (y.2.2 : Int)]) rfl (by kernel_rfl) (by kernel_rfl) (by kernel_rfl) (fun _ _ _ h => absurd h.1 (by simp)) (Or.inl ⟨by rfl, fun w hSw => by (obtain ⟨⟨z0, z1⟩, ⟨z2, z3, z4⟩, z5, z6⟩ := hSw; go_simp)⟩) (by assumption) ?_
        try simp only [Act.put, List.setIfInBounds_toArray, List.set_cons_zero, List.set_cons_succ]
        refine wpAnyH_take (i := 9) (oi := { dst := some 49, op := Go.Op.move (Go.Operand.tmp 12), type := 3, pos := "law.go:103", after := #[{ on := 4, ground := Go.Ground.guard }], guard := some (4, false) }) (v := .int .i64 (x.1 : Int)) rfl (by kernel_rfl) (by kernel_rfl) (by kernel_rfl) (fun _ _ _ h => absurd h.1 (by simp)) (Or.inl ⟨by rfl, fun w hSw => by (obtain ⟨⟨z0, z1⟩, ⟨z2, z3, z4⟩, z5, z6⟩ := hSw; go_simp)⟩) (by assumption) ?_
        try simp only [Act.put, List.setIfInBounds_toArray, List.set_cons_zero, List.set_cons_succ]
        refine wpAnyH_take (i := 10) (oi := { dst := some 50, op := Go.Op.indexAddr 38 (Go.Operand.tmp 13) (Go.Operand.const (Go.Value.int Go.IntKind.i64 0)), type := 0, pos := "law.go:103", after := #[{ on := 4, ground := Go.Ground.guard }], guard := some (4, false) }) (v := .pointer (some ⟨bx, 0, none⟩)) rfl (by kernel_rfl) (by kernel_rfl) (by kernel_rfl) (fun _ _ _ h => absurd h.1 (by simp)) (Or.inl ⟨by rfl, fun w hSw => by (obtain ⟨⟨z0, z1⟩, ⟨z2, z3, z4⟩, z5, z6⟩ := hSw; go_simp)⟩) (by assumption) ?_
        try simp only [Act.put, List.setIfInBounds_toArray, List.set_cons_zero, List.set_cons_succ]
        refine wpAnyH_take (i := 11) (oi := { dst := some 51, op := Go.Op.load 3 (Go.Operand.tmp 50), type := 3, pos := "law.go:103", after := #[{ on := 10, ground := Go.Ground.data }, { on := 4, ground := Go.Ground.guard }], guard := some (4, false) }) (v := .int .i64 (x.2.1 : Int)) rfl (by kernel_rfl) (by kernel_rfl) (by kernel_rfl) (fun _ _ _ h => absurd h.1 (by simp)) (Or.inl ⟨by rfl, fun w hSw => by (obtain ⟨⟨z0, z1⟩, ⟨z2, z3, z4⟩, z5, z6⟩ := hSw; go_simp)⟩) (by assumption) ?_
        try simp only [Act.put, List.setIfInBounds_toArray, List.set_cons_zero, List.set_cons_succ]
        refine wpAnyH_take (i := 12) (oi := { dst := some 52, op := Go.Op.indexAddr 38 (Go.Operand.tmp 13) (Go.Operand.const (Go.Value.int Go.IntKind.i64 1)), type := 0, pos := "law.go:103", after := #[{ on := 4, ground := Go.Ground.guard }], guard := some (4, false) }) (v := .pointer (some ⟨bx, 1, none⟩)) rfl (by kernel_rfl) (by kernel_rfl) (by kernel_rfl) (fun _ _ _ h => absurd h.1 (by simp)) (Or.inl ⟨by rfl, fun w hSw => by (obtain ⟨⟨z0, z1⟩, ⟨z2, z3, z4⟩, z5, z6⟩ := hSw; go_simp)⟩) (by assumption) ?_
        try simp only [Act.put, List.setIfInBounds_toArray, List.set_cons_zero, List.set_cons_succ]
        refine wpAnyH_take (i := 13) (oi := { dst := some 53, op := Go.Op.load 3 (Go.Operand.tmp 52), type := 3, pos := "law.go:103", after := #[{ on := 12, ground := Go.Ground.data }, { on := 4, ground := Go.Ground.guard }], guard := some (4, false) }) (v := .int .i64 (x.2.2 : Int)) rfl (by kernel_rfl) (by kernel_rfl) (by kernel_rfl) (fun _ _ _ h => absurd h.1 (by simp)) (Or.inl ⟨by rfl, fun w hSw => by (obtain ⟨⟨z0, z1⟩, ⟨z2, z3, z4⟩, z5, z6⟩ := hSw; go_simp)⟩) (by assumption) ?_
        try simp only [Act.put, List.setIfInBounds_toArray, List.set_cons_zero, List.set_cons_succ]
        refine wpAnyH_take (i := 14) (oi := { dst := some 54, op := Go.Op.build 40 #[(0, Go.Operand.tmp 49), (1, Go.Operand.tmp 51), (2, Go.Operand.tmp 53)], type := 40, pos := "law.go:103", after := #[{ on := 9, ground := Go.Ground.data }, { on := 11, ground := Go.Ground.data }, { on := 13, ground := Go.Ground.data }, { on := 4, ground := Go.Ground.guard }], guard := some (4, false) }) (v := .agg #[.int .i64 (x.1 : Int), .int .i64 (x.2.1 : Int), .int .i64 (x.2.2 : Int)]) rfl (by kernel_rfl) (by kernel_rfl) (by kernel_rfl) (fun _ _ _ h => absurd h.1 (by simp)) (Or.inl ⟨by rfl, fun w hSw => by (obtain ⟨⟨z0, z1⟩, ⟨z2, z3, z4⟩, z5, z6⟩ := hSw; go_simp)⟩) (by assumption) ?_
        try simp only [Act.put, List.setIfInBounds_toArray, List.set_cons_zero, List.set_cons_succ]
        refine wpAnyH_take (i := 15) (oi := { dst := some 55, op := Go.Op.binOp Go.BinOp.neq 40 (Go.Operand.tmp 48) (Go.Operand.tmp 54) 40, type := 4, pos := "law.go:103", after := #[{ on := 8, ground := Go.Ground.data }, { on := 14, ground := Go.Ground.data }, { on := 4, ground := Go.Ground.guard }], guard := some (4, false) }) (v := .bool bn) rfl (by kernel_rfl) (by kernel_rfl) (by kernel_rfl) (fun _ _ _ h => absurd h.1 (by simp)) (Or.inl ⟨by rfl, fun w hSw => by (obtain ⟨⟨z0, z1⟩, ⟨z2, z3, z4⟩, z5, z6⟩ := hSw; go_simp)⟩) (by assumption) ?_
        try simp only [Act.put, List.setIfInBounds_toArray, List.set_cons_zero, List.set_cons_succ]
        refine wpAnyH_take (i := 16) (oi := { dst := some 56, op := Go.Op.pick (Go.Operand.tmp 44) (Go.Operand.const (Go.Value.bool true)) (Go.Operand.tmp 55), type := 4, pos := "law.go:103", after := #[{ on := 4, ground := Go.Ground.data }, { on := 15, ground := Go.Ground.data }], guard := none }) (v := .bool bn) rfl (by kernel_rfl) (by kernel_rfl) (by kernel_rfl) (fun _ _ _ h => absurd h.1 (by simp)) (Or.inl ⟨by rfl, fun w hSw => by (obtain ⟨⟨z0, z1⟩, ⟨z2, z3, z4⟩, z5, z6⟩ := hSw; go_simp)⟩) (by assumption) ?_
        try simp only [Act.put, List.setIfInBounds_toArray, List.set_cons_zero, List.set_cons_succ]
        refine wpAnyH_done (by kernel_rfl) ?_ _
        exact ⟨rfl, rfl, rfl⟩
      case behind =>
        obtain ⟨rfl, rfl⟩ := hR
        clear heq hmix e0 e1 e2 b1 b2 cW hge
        have cA := d0.keep cA
        have cR := d0.keep cR
        have cM := d0.keep cM
        have cB := d0.keep cB
        have zA : W.drew.frozen? ⟨AB, 0, none⟩ = false := zA
        have zB : W.drew.frozen? ⟨w.heap.size + 1 + 1 + 1, 0, none⟩ = false := zB
        have HK1 : Hid (KeepsOthers W W.drew ∧ Same W W.drew) := ⟨KeepsOthers.drew W, d0⟩
        generalize W.drew = D0 at *
        cases bn with
        | true =>
          have hne : ¬ (pre ++ [x] <+: L) := fun hp => bn_true HBN.out (HPX.out.1 hp)
          clear z5 z6 z7 z8 s1 s2
          gi_wp2
          exact ⟨(HK1.out.1.trans (KeepsOthers.setCell _ _ _)).from _, .inr hne⟩
        | false =>
          have HPRE : Hid (pre ++ [x] <+: L) := HPX.out.2 (bn_false HBN.out)
          have hw : RowKit.wrap64 ((j : Int) + 1) = (j : Int) + 1 := by have := HLT.out; unfold RowKit.wrap64; omega
          have hw2 : IntKind.i64.wrap ((j : Int) + 1) = (j : Int) + 1 := by have := HLT.out; rw [IntKind.wrap_i64]; omega
          have f1 : Fr (fun k => k = AB) D0 (D0.setCell ⟨AB, 0, none⟩ (.int .i64 ((j : Int) + 1))) := (Fr.refl (fun k => k = AB) _).setCell (p := ⟨AB, 0, none⟩) (fun _ => rfl) _
          have rA : D0.heap[AB]? = some (.cells #[.int .i64 (j : Int)] 3 (0, 0)) := (HK1.out.2.block _ (lt_of_heap HT5.out.2.1) (fun f => f)).trans HT5.out.2.1
          have HPost : Hid (KeepsFrom W5.heap.size W (D0.setCell ⟨AB, 0, none⟩ (.int .i64 ((j : Int) + 1))) ∧ KpB AB AB W (D0.setCell ⟨AB, 0, none⟩ (.int .i64 ((j : Int) + 1))) ∧ (D0.setCell ⟨AB, 0, none⟩ (.int .i64 ((j : Int) + 1))).heap[AB]? = some (.cells #[.int .i64 ((pre ++ [x]).length : Int)] 3 (0, 0)) ∧ Fr (fun k => k = AB) W5 (D0.setCell ⟨AB, 0, none⟩ (.int .i64 ((j : Int) + 1)))) := by
            have hjj : (pre ++ [x]).length = j + 1 := by rw [List.length_append, HJ.out]; rfl
            refine ⟨(HK1.out.1.trans (KeepsOthers.setCell _ _ _)).from _, fun a v n1 n2 hc => ?_, ?_, ?_⟩
            · have hc2 := HK1.out.2.keep hc
              exact (f1.cell (World.block_lt_of_cell? _ _ hc2) n1).trans hc2
            · rw [show (((pre ++ [x]).length : Nat) : Int) = (j : Int) + 1 from by rw [hjj]; omega]; exact Boxed.set (.int .i64 ((j : Int) + 1)) rA
            · exact (Fr.trans HT5.out.2.2.1 (HK1.out.2.mono (fun _ _ e => e.elim)) (fun _ _ e => e)).setCell (p := ⟨AB, 0, none⟩) (fun _ => rfl) _
          have cR1 : (D0.setCell ⟨AB, 0, none⟩ (.int .i64 ((j : Int) + 1))).cell? ⟨bR, 0, none⟩ = some (.int .i64 (rho : Int)) := (f1.cell (World.block_lt_of_cell? _ _ cR) (by have := HZ5.out; simp only; omega)).trans cR
          have cM1 : (D0.setCell ⟨AB, 0, none⟩ (.int .i64 ((j : Int) + 1))).cell? ⟨w.heap.size + 1 + 1, 0, none⟩ = some (.int .i64 ms) := (f1.cell (World.block_lt_of_cell? _ _ cM) (by have := HZ5.out; have := HSZ.out; simp only; omega)).trans cM
          have cA1 : (D0.setCell ⟨AB, 0, none⟩ (.int .i64 ((j : Int) + 1))).cell? ⟨AB, 0, none⟩ = some (.int .i64 ((j : Int) + 1)) := World.cell?_setCell_same' _ _ _ (by rw [cA]; rfl)
          have HJJ : Hid ((((pre ++ [x]).length : Nat) : Int) = (j : Int) + 1) := by show _ = _; rw [List.length_append, HJ.out]; rfl
          clear f1 rA z5 z6 z7 z8 s1 s2
          by_cases hr : rho = 0
          · subst hr
            by_cases hm : ms = (j : Int) + 1
            · subst hm
              gi_wp2
              exact ⟨HPost.out.1, .inl ⟨rfl, HJJ.out, HPRE.out, HPost.out.2.2.1, HPost.out.2.2.2⟩⟩
            · have hm2 : ¬ (j : Int) + 1 = ms := fun e => hm e.symm
              gi_wp2
              exact ⟨HPost.out.1, HPost.out.2.1, HPRE.out, HPost.out.2.2.1, HPost.out.2.2.2⟩
          · have hr2 : ¬ (rho : Int) = 0 := by omega
            gi_wp2
            exact ⟨HPost.out.1, HPost.out.2.1, HPRE.out, HPost.out.2.2.1, HPost.out.2.2.2⟩
    case done =>
      rintro D xs W' hD hxs ⟨h1, h2, h3⟩ hKd
      rw [hxs] at h2
      have HF : Hid (Fr (fun k => k = AB) W5 W') := h3
      have HDd : Hid (W'.heap[D]? = some (.deferred (some [])) ∧ W5.heap.size ≤ D) := ⟨hKd, hD⟩
      have T : ∀ k, k < AB → W'.heap[k]? = W5.heap[k]? := fun k hk => h3.block k (by have := HZ5.out; omega) (by omega)
      have cA : W'.cell? ⟨AB, 0, none⟩ = some (.int .i64 (L.length : Int)) := (cell_of_row _ _ _ _ _ _ h2).trans rfl
      have cR : W'.cell? ⟨bR, 0, none⟩ = some (.int .i64 (rho : Int)) := (cell_of_row _ _ _ _ _ _ ((T bR HZ5.out.2.2.1).trans HR5.out)).trans rfl
      have cW : W'.cell? ⟨wb, 0, none⟩ = some (.slice ao L.length cw) := (cell_of_row _ _ _ _ _ _ ((T wb (by have := HZ5.out; have := HSZ.out; omega)).trans (HW.out _ HS5.out).1)).trans rfl
      have hw : RowKit.wrap64 ((rho : Int) + 1) = ((rho + 1 : Nat) : Int) := by have := HG.out; unfold RowKit.wrap64; omega
      clear h1 h2 h3 hKd hD hxs T
      have HNX : Hid (Y3.heap.size ≤ W'.heap.size ∧ Same Y3 (W'.alloc (.cells #[.int .i64 ((rho : Int) + 1)] 3)) ∧ DsOk Y3.heap.size (D :: Ds) (W'.alloc (.cells #[.int .i64 ((rho : Int) + 1)] 3))) := by
        obtain ⟨z1, z2, z3, z4⟩ := HZ5.out
        have z5 := HF.out.size
        obtain ⟨d1, d2⟩ := HDd.out
        refine ⟨by omega, Fr.alloc (Fr.trans HS5.out HF.out (fun kk hk e => by omega)) _, List.pairwise_cons.2 ⟨fun b hb => by have := (HD5.out b hb).1; omega, HDp.out.1⟩, fun b hb => ?_⟩
        rcases List.mem_cons.1 hb with rfl | hb
        · exact ⟨by omega, (heap_alloc_old _ _ (lt_of_heap d1)).trans d1⟩
        · obtain ⟨k1, k2⟩ := HD5.out b hb
          have k3 := (HF.out.block b (by omega) (by omega)).trans k2
          exact ⟨(HDp.out.2 b hb).1, (heap_alloc_old _ _ (lt_of_heap k3)).trans k3⟩
      gi_wp2
      go_wp2_with fail
      rw [HDS.out]
      refine Handed.intro (g - 1) (by have := HG.out; omega) (hJ _ _ _ ⟨rho + 1, W'.heap.size, D :: Ds, _, _, _, _, _, _, _, _, _, _, _, _, _, _, _, _, _, _, _, _, _, _, _, _, _, _, _, _, _, _, _, _, _, _, _, _, _, _, by have := HG.out; omega, rfl, ⟨heap_alloc_new W' (.cells #[.int .i64 ((rho : Int) + 1)] 3), HNX.out.1⟩, HNX.out.2.1, HNX.out.2.2⟩)
    case stop =>
      rintro D c pre W' hD hp hs hKd
      rcases hs with ⟨rfl, hr0, hlen, h1, h2, h3⟩ | hn
      case inr => exact absurd hp hn
      subst hr0
      subst hlen
      have HF : Hid (Fr (fun k => k = AB) W5 W') := h3
      have HDd : Hid (W'.heap[D]? = some (.deferred (some [])) ∧ W5.heap.size ≤ D) := ⟨hKd, hD⟩
      have T : ∀ k, k < AB → W'.heap[k]? = W5.heap[k]? := fun k hk => h3.block k (by have := HZ5.out; omega) (by omega)
      have cA : W'.cell? ⟨AB, 0, none⟩ = some (.int .i64 (pre.length : Int)) := (cell_of_row _ _ _ _ _ _ h2).trans rfl
      have cR : W'.cell? ⟨bR, 0, none⟩ = some (.int .i64 ((0 : Nat) : Int)) := (cell_of_row _ _ _ _ _ _ ((T bR HZ5.out.2.2.1).trans HR5.out)).trans rfl
      have cR' : W'.cell? ⟨bR, 0, none⟩ = some (.int .i64 0) := cR
      have cW : W'.cell? ⟨wb, 0, none⟩ = some (.slice ao L.length cw) := (cell_of_row _ _ _ _ _ _ ((T wb (by have := HZ5.out; have := HSZ.out; omega)).trans (HW.out _ HS5.out).1)).trans rfl
      have cM : W'.cell? ⟨w.heap.size + 1 + 1, 0, none⟩ = some (.int .i64 (pre.length : Int)) := (cell_of_row _ _ _ _ _ _ ((T _ (by have := HZ5.out; have := HSZ.out; omega)).trans (HB.out _ HS5.out).1)).trans rfl
      clear h1 h2 h3 hKd hD T hp
      have HNX : Hid (Y3.heap.size ≤ W'.heap.size ∧ Same Y3 (W'.alloc (.cells #[.int .i64 (1)] 3)) ∧ DsOk Y3.heap.size (D :: Ds) (W'.alloc (.cells #[.int .i64 (1)] 3))) := by
        obtain ⟨z1, z2, z3, z4⟩ := HZ5.out
        have z5 := HF.out.size
        obtain ⟨d1, d2⟩ := HDd.out
        refine ⟨by omega, Fr.alloc (Fr.trans HS5.out HF.out (fun kk hk e => by omega)) _, List.pairwise_cons.2 ⟨fun b hb => by have := (HD5.out b hb).1; omega, HDp.out.1⟩, fun b hb => ?_⟩
        rcases List.mem_cons.1 hb with rfl | hb
        · exact ⟨by omega, (heap_alloc_old _ _ (lt_of_heap d1)).trans d1⟩
        · obtain ⟨k1, k2⟩ := HD5.out b hb
          have k3 := (HF.out.block b (by omega) (by omega)).trans k2
          exact ⟨(HDp.out.2 b hb).1, (heap_alloc_old _ _ (lt_of_heap k3)).trans k3⟩
      by_cases hpl : pre.length = L.length
      · have hpi : (pre.length : Int) = (L.length : Int) := by omega
        gi_wp2
        go_wp2_with fail
        rw [HDS.out]
        refine Handed.intro (g - 1) (by have := HG.out; omega) (hJ _ _ _ ⟨0 + 1, W'.heap.size, D :: Ds, _, _, _, _, _, _, _, _, _, _, _, _, _, _, _, _, _, _, _, _, _, _, _, _, _, _, _, _, _, _, _, _, _, _, _, _, _, _, by have := HG.out; omega, rfl, ⟨heap_alloc_new W' (.cells #[.int .i64 1] 3), HNX.out.1⟩, HNX.out.2.1, HNX.out.2.2⟩)
      · have hpi : ¬ (pre.length : Int) = (L.length : Int) := by omega
        gi_wp2
        go_wp2_with fail
        rw [HDS.out]
        refine Handed.intro (g - 1) (by have := HG.out; omega) (hJ _ _ _ ⟨0 + 1, W'.heap.size, D :: Ds, _, _, _, _, _, _, _, _, _, _, _, _, _, _, _, _, _, _, _, _, _, _, _, _, _, _, _, _, _, _, _, _, _, _, _, _, _, _, by have := HG.out; omega, rfl, ⟨heap_alloc_new W' (.cells #[.int .i64 1] 3), HNX.out.1⟩, HNX.out.2.1, HNX.out.2.2⟩)
end Go.Proofs.Ytmgkdnejjemfeaa
namespace Go.Proofs.Ytmgkdnejjemfeaa
open Go.RowKit Go.Shelf
attribute [local go_sem] Oper.semAt_some

set_option maxRecDepth 100000 in
set_option maxHeartbeats 1000000 in
theorem gcuts_great {p q ms : Int} {r : Nr} {N : Nd} (w : World) (hg : greatB N = true) :
    Calls Try.prog 3 #[frameV p q, ndV r N, .int .i64 ms] w fun e w' => e = .returned (.bool true) ∧ Same w w' := by
  have HGR : Hid (∀ W, Calls Try.prog 4 #[ndV r N] W fun e w' => e = .returned (.bool true) ∧ Same W w') := fun W => by rw [← hg]; exact great_calls W
  have HA : Hid (∀ W, Calls Try.prog 5 #[] W fun e w' => e = .returned (.bool true) ∧ Same W w') := awake_calls
  clear hg
  refine (callsIn_wide (n := 3)).1 ?_
  refine callsIn_of_wp_marks Try.func3 rfl trivial ?_ rfl
  simp only [Try.ntmps3, List.size_toArray, List.length_cons, List.length_nil, Nat.reduceAdd, Nat.reduceSub, Array.replicate_succ, Array.replicate_zero, List.push_toArray, List.append_toArray, List.nil_append, List.cons_append]
  refine wpIn_wide.2 ?_
  unfold ndV nodeV
  obtain ⟨V, hV⟩ : ∃ V, V = (((w.alloc (.cells #[.int .i64 p, .int .i64 q] 23)).alloc (.cells #[.slice r.pa N.ps.length r.cp, .slice r.sa N.ss.length r.cs, .slice r.ka N.ks.length r.ck] 28)).alloc (.cells #[.int .i64 ms] 3)).alloc (.cells #[.bool false] 4) := ⟨_, rfl⟩
  have t1 : Same w V := by rw [hV]; exact ((((Fr.refl _ w).alloc _).alloc _).alloc _).alloc _
  have hbx := two_boxes w (.cells #[.int .i64 p, .int .i64 q] 23) (.cells #[.slice r.pa N.ps.length r.cp, .slice r.sa N.ss.length r.cs, .slice r.ka N.ks.length r.ck] 28) (.cells #[.int .i64 ms] 3) (.cells #[.bool false] 4)
  rw [← hV] at hbx
  have HBX : Hid (V.heap[w.heap.size + 1 + 1 + 1]? = some (.cells #[.bool false] 4 (0, 0))) := hbx.2
  clear hbx
  go_wp2_with fail
  rw [← hV]
  clear hV
  refine (HGR.out _).mono ?_
  rintro e W0 ⟨rfl, s0⟩
  go_wp2_with fail
  refine (HA.out _).mono ?_
  rintro e Z ⟨rfl, q⟩
  have rB := ((s0.trans q).block _ (lt_of_heap HBX.out) (fun f => f)).trans HBX.out
  have cB : Z.cell? ⟨w.heap.size + 1 + 1 + 1, 0, none⟩ = some (.bool false) := (cell_of_row _ _ _ _ _ _ rB).trans rfl
  have zB : Z.frozen? ⟨w.heap.size + 1 + 1 + 1, 0, none⟩ = false := by simp [World.frozen?, rB]
  have HCB : Hid (Z.cell? ⟨w.heap.size + 1 + 1 + 1, 0, none⟩ = some (.bool false)) := cB
  clear rB
  go_wp2_with fail
  have sw : Same w (Z.setCell ⟨w.heap.size + 1 + 1 + 1, 0, none⟩ (.bool true)) := (t1.trans (s0.trans q)).setCell (p := ⟨w.heap.size + 1 + 1 + 1, 0, none⟩) (fun h => by simp only at h; omega) _
  have cT : (Z.setCell ⟨w.heap.size + 1 + 1 + 1, 0, none⟩ (.bool true)).cell? ⟨w.heap.size + 1 + 1 + 1, 0, none⟩ = some (.bool true) := World.cell?_setCell_same' _ _ _ (by rw [HCB.out]; rfl)
  exact leaves_ds (Nat.le_refl _) [] _ ⟨List.Pairwise.nil, by simp⟩ sw (fun W' s' hk => ⟨_, results_box rfl _ _ _ _ rfl (hk _ _ cT), rfl, s'⟩)
theorem gcuts_walk {p q ms : Int} {r : Nr} {N : Nd} (w : World) (h : NdIn w r N) (hc : NdCapN r N) (hs : NdSmall N) :
    Calls Try.prog 3 #[frameV p q, ndV r N, .int .i64 ms] w fun e w' => e = .returned (.bool true) ∧ Same w w' := by
  cases hg : greatB N with
  | true => exact gcuts_great w hg
  | false =>
    obtain ⟨L, hL, hD, hI⟩ := cuts_both (p := p) (q := q) hs h.at_.ok
    exact gcuts_core w h hs hg hL (fun W s => hD _ _ (h.same s) hc) hI
end Go.Proofs.Ytmgkdnejjemfeaa
