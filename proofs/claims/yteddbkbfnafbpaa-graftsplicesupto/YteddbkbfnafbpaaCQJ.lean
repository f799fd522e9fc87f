/- Nodes opened, with the room behind their lists. -/
import Derived.Test.YteddbkbfnafbpaaKV
import Derived.Test.YteddbkbfnafbpaaCB
import Derived.Test.YteddbkbfnafbpaaCP
import Derived.Test.YteddbkbfnafbpaaB7J
namespace Go.Proofs.Yteddbkbfnafbpaa
open Go.ChangeShapes Go.WideShapes Go.ChangeAt Go.RowKit

set_option maxRecDepth 100000 in
theorem open_nodeC {H : Type} {enc : TypeId × Value → H} {W : World} {v : Value} {d : DataW H} {pl : List MemPlace} {base : Nat}
    (hv : Value.okWide Try.prog W .any base 28 v) (h : DataW.Trod enc Try.prog W 0 (fun _ => true) true 28 v d pl) (hb : Rows.uptoBulk d ≤ 1048576) :
    ∃ (r : Nr) (N : Nd), v = ndV r N ∧ NdIn W r N ∧ NdCapN r N ∧ NdSmall N := by
  obtain ⟨cs, rfl, hz⟩ := okWide_struct Try.underlying28 hv
  rw [show Try.prog.cellsOf 28 = 3 from by kernel_rfl] at hz
  obtain ⟨fuel, hf⟩ := h
  obtain ⟨x, y, z, rfl⟩ : ∃ x y z, cs = #[x, y, z] := by
    obtain ⟨l⟩ := cs
    match l, hz with
    | [x, y, z], _ => exact ⟨x, y, z, rfl⟩
  obtain ⟨y0, y1, y2, n, hx, _, f0, f1, f2⟩ := Deep.trod_struct3 Try.underlying28 hf
  have c0 : Try.prog.cellsOf 24 = 1 := by kernel_rfl
  have c1 : Try.prog.cellsOf 25 = 1 := by kernel_rfl
  have c2 : Try.prog.cellsOf 26 = 1 := by kernel_rfl
  simp only [Value.cells, c0, c1, c2, List.drop_succ_cons, List.drop_zero, List.take_succ_cons, List.take_zero] at f0 f1 f2
  obtain ⟨pa, pb, po, cp, ps, e0, l0, m0, a0, b0, _, z0, s0⟩ := open_rows (α := ByteArray × ByteArray) 2 (by decide) (fun x => [.string x.1, .string x.2]) (fun _ => True) (fun x => x.1.size + x.2.size + 3) Try.underlying24 (by kernel_rfl) (fun m c x hc h => open_pair_in hc h) f0
  obtain ⟨sa, sb, so, cs', ss, e1, l1, m1, a1, b1, _, z1, s1⟩ := open_rows (α := ByteArray) 1 (by decide) (fun x => [.string x]) (fun _ => True) (fun x => x.size + 1) Try.underlying25 (by kernel_rfl) (fun m c x hc h => open_text_in h) f1
  obtain ⟨ka, kb, ko, ck, ks, e2, l2, m2, a2, b2, k2, z2, s2⟩ := open_rows (α := Kid) 33 (by decide) kcells KidOk (fun _ => 1) Try.underlying26 (by kernel_rfl) (fun m c x hc h => open_kid_in hc h) f2
  simp only [List.cons.injEq, and_true] at e0 e1 e2
  subst e0 e1 e2
  have hd : d = (DataW.agg [y0.1, y1.1, y2.1] : DataW H) := congrArg Prod.fst hx
  rw [hd] at hb
  simp only [Rows.uptoBulk, Rows.uptoBulkAll] at hb
  have n0 := sum_len (fun x : ByteArray × ByteArray => x.1.size + x.2.size + 3) ps (fun x _ => by omega)
  have n1 := sum_len (fun x : ByteArray => x.size + 1) ss (fun x _ => by omega)
  have n2 := sum_len (fun _ : Kid => 1) ks (fun x _ => by omega)
  have sm : NdSmall ⟨ps, ss, ks⟩ := ⟨by show (ps.map _).sum ≤ _; omega, by show (ss.map _).sum ≤ _; omega, by show ks.length ≤ _; omega⟩
  have hml : maxLen = 9223372036854775807 := rfl
  have P : PRow W pa pb po ps := ⟨a0, fun j x hx => ⟨b0 j x hx 0 _ rfl, b0 j x hx 1 _ rfl⟩⟩
  have T : TRow W sa sb so ss := ⟨a1, fun j x hx => by have := b1 j x hx 0 _ rfl; simpa using this⟩
  have K : KRow W ka kb ko ks := ⟨a2, b2⟩
  exact ⟨⟨pa, pb, po, cp, sa, sb, so, cs', ka, kb, ko, ck⟩, ⟨ps, ss, ks⟩, rfl, ⟨⟨P, T, K, k2, by show ps.length ≤ _; omega, by show ss.length ≤ _; omega, by show ks.length ≤ _; omega⟩, prow_part P z0, trow_part T z1, krow_part k2 K z2⟩, ⟨l0, l1, l2⟩, sm⟩
end Go.Proofs.Yteddbkbfnafbpaa
namespace Go.Proofs.Yteddbkbfnafbpaa
open Go.RowKit

theorem own_partS {w : World} {base : Nat} {e : TypeId} {sz n c : Nat} {ao : Option Addr} {xs : List Value} (h : w.ownsRow base e sz (.slice ao n c) n xs) (h1 : ∀ u ∈ xs, u.oneCell' = true) : PartOk w sz ⟨ao, n, c, xs⟩ := by
  refine ⟨h.1, fun hn => ?_, fun a ha j u hj => ?_, h1⟩
  · obtain ⟨_, ⟨h2, h3⟩ | ⟨g, c, cur, hv, _⟩⟩ := h
    · injection h2 with _ _ e3
      exact ⟨h3, e3⟩
    · injection hv with e1
      simp only at hn
      rw [hn] at e1; cases e1
  · obtain ⟨_, ⟨h2, h3⟩ | ⟨g, c, cur, hv, _, hh, h4, h5, h6, h7⟩⟩ := h
    · simp only at ha; rw [ha] at h2; cases h2
    · injection hv with e1
      simp only at ha hj
      rw [ha] at e1
      injection e1 with e1
      rw [e1, WideShapes.add_plain, Nat.zero_add, cell_of_row _ _ _ _ _ _ hh, ← Array.getElem?_toList]
      rw [← h7, List.getElem?_take] at hj
      split at hj
      · exact hj
      · cases hj
structure SmallS (N : Nd) (S : List ByteArray) (K : List Kid) : Prop where
  hp : (N.ps.map fun x => x.1.size + x.2.size + 3).sum ≤ 1048576
  hs : (N.ss.map fun x => x.size + 1).sum + (S.map fun x => x.size + 1).sum ≤ 1048576
  hk : N.ks.length + K.length ≤ 1048576
theorem SmallS.one {N : Nd} {S : List ByteArray} {K : List Kid} (h : SmallS N S K) : NdSmall N := ⟨h.hp, by have := h.hs; omega, by have := h.hk; omega⟩
theorem SmallS.two {N : Nd} {S : List ByteArray} {K : List Kid} (h : SmallS N S K) : NdSmall ⟨[], S, K⟩ := ⟨by simp, by have := h.hs; show (S.map fun x => x.size + 1).sum ≤ 1048576; omega, by have := h.hk; show K.length ≤ 1048576; omega⟩
theorem sum_parts (l : List Nat) : ∀ (a c : Nat), a ≤ c → (l.take a).sum + (l.drop c).sum ≤ l.sum := by
  induction l with
  | nil => intro a c _; simp
  | cons x t ih =>
    intro a c h
    cases a with
    | zero =>
      cases c with
      | zero => simp
      | succ c => have := ih 0 c (Nat.zero_le _); simp at this ⊢; omega
    | succ a =>
      cases c with
      | zero => omega
      | succ c => have := ih a c (by omega); simp at this ⊢; omega
def spM (N : Nd) (S : List ByteArray) (K : List Kid) (a b c : Nat) : Nd := ⟨[], (N.ss.take a ++ S) ++ N.ss.drop c, (N.ks.take a ++ K) ++ N.ks.drop b⟩
theorem spM_small {N : Nd} {S : List ByteArray} {K : List Kid} {a b c : Nat} (h : SmallS N S K) (hac : a ≤ c) (hab : a ≤ b) : NdSmall (spM N S K a b c) := by
  refine ⟨by simp [spM], ?_, ?_⟩
  · show (((N.ss.take a ++ S) ++ N.ss.drop c).map fun x => x.size + 1).sum ≤ 1048576
    have := sum_parts (N.ss.map fun x => x.size + 1) a c hac
    rw [← List.map_take, ← List.map_drop] at this
    rw [List.map_append, List.map_append, List.sum_append, List.sum_append]
    have := h.hs
    omega
  · show ((N.ks.take a ++ K) ++ N.ks.drop b).length ≤ 1048576
    simp only [List.length_append, List.length_take, List.length_drop]
    have := h.hk
    omega
theorem spM_ok {N : Nd} {S : List ByteArray} {K : List Kid} {a b c : Nat} (kN : ∀ x ∈ N.ks, KidOk x) (kK : ∀ x ∈ K, KidOk x) : ∀ x ∈ (spM N S K a b c).ks, KidOk x := fun x hx => by
  rcases List.mem_append.1 hx with hx | hx
  · rcases List.mem_append.1 hx with hx | hx
    · exact kN x (List.mem_of_mem_take hx)
    · exact kK x hx
  · exact kN x (List.mem_of_mem_drop hx)
theorem parts_t {α : Type} (l : List α) {a c : Nat} (h : a ≤ l.length) : (l.take a ++ l.drop c).take a = l.take a := List.take_left' (by rw [List.length_take]; omega)
theorem parts_d {α : Type} (l : List α) {a c : Nat} (h : a ≤ l.length) : (l.take a ++ l.drop c).drop a = l.drop c := List.drop_left' (by rw [List.length_take]; omega)
theorem made_check {W : World} {B : Nat} {r : Nr} {N : Nd} {p q : Int} (m : MadeNd W B r N) (hs : NdSmall N) (hk : ∀ x ∈ N.ks, KidOk x) : Calls Try.prog 18 #[frameV p q, ndV r N] W fun e w' => e = .returned (.int .i64 (chkN p q N)) ∧ Same W w' := by
  obtain ⟨r', e, ok⟩ := m.nd (q := q) hs hk
  rw [← e]
  exact check_calls p q W ok.at_
theorem made_dcheck {W : World} {B : Nat} {r : Nr} {N : Nd} {p q : Int} (m : MadeNd W B r N) (hs : NdSmall N) (hk : ∀ x ∈ N.ks, KidOk x) : Calls Try.prog 21 #[frameV p q, ndV r N] W fun e w' => e = .returned (.int .i64 (chkN p q N)) ∧ Same W w' := by
  obtain ⟨r', e, ok⟩ := m.nd (q := q) hs hk
  rw [← e]
  exact dcheck_calls W ok.at_ hs.lens.1 hs.lens.2.1 hs.lens.2.2.1
def BothSp (p q at_ many : Int) (N : Nd) (S : List ByteArray) (K : List Kid) (M : Nd) (E : Int) : Prop :=
  (∀ (r r2 : Nr) (w : World), NdIn w r N → NdRoom r N → NdIn w r2 ⟨[], S, K⟩ → Calls Try.prog 5 #[frameV p q, ndV r N, .int .i64 at_, .int .i64 many, .slice r2.ka K.length r2.ck, .slice r2.sa S.length r2.cs] w fun e w' => (∃ r', e = .returned (.tuple #[ndV r' M, .int .i64 E]) ∧ MadeNd w' w.heap.size r' M) ∧ Same w w') ∧
  (∀ (r r2 : Nr) (w : World), NdIn w r N → NdCapN r N → NdIn w r2 ⟨[], S, K⟩ → Calls Try.prog 6 #[frameV p q, ndV r N, .int .i64 at_, .int .i64 many, .slice r2.ka K.length r2.ck, .slice r2.sa S.length r2.cs] w fun e w' => (∃ r', e = .returned (.tuple #[ndV r' M, .int .i64 E]) ∧ MadeNd w' w.heap.size r' M) ∧ Same w w')
theorem bad_out {w w' : World} {E : Int} {e : Ending} (h : e = .returned (.tuple #[nodeV none 0 0 none 0 0 none 0 0, .int .i64 E]) ∧ Same w w') : (∃ r', e = .returned (.tuple #[ndV r' noNd, .int .i64 E]) ∧ MadeNd w' w.heap.size r' noNd) ∧ Same w w' := ⟨⟨noNr, h.1, ⟨own_nil, own_nil, own_nil⟩⟩, h.2⟩
theorem splice_good {p q : Int} {N : Nd} {S : List ByteArray} {K : List Kid} {a m m1 b c : Nat} (h : SmallS N S K) (kN : ∀ x ∈ N.ks, KidOk x) (kK : ∀ x ∈ K, KidOk x) (hf : frameP p q = true) (hg : branchG p q N = true) (hm : m = m1 + 1) (hb : b = a + m) (hc : c = a + m1) (hbl : b ≤ N.ks.length) (hkk : S.length + 1 = K.length) (h2 : 2 ≤ N.ks.length - m + K.length) (hss : N.ss.length + 1 = N.ks.length) (hk2 : 2 ≤ N.ks.length) :
    BothSp p q (a : Int) (m : Int) N S K (if chkN p q (spM N S K a b c) = 0 then spM N S K a b c else noNd) (if chkN p q (spM N S K a b c) = 0 then 0 else 81) := by
  have sm : NdSmall (spM N S K a b c) := spM_small h (by omega) (by omega)
  have so : ∀ x ∈ (spM N S K a b c).ks, KidOk x := spM_ok kN kK
  have l1 : N.ss.length + S.length ≤ 1048576 := by
    have := h.hk
    omega
  have hM : (spM N S K a b c).ps = [] ∧ (spM N S K a b c).ss.length = N.ss.length - m1 + S.length ∧ (spM N S K a b c).ks.length = N.ks.length - m + K.length := by
    refine ⟨rfl, ?_, ?_⟩
    · show ((N.ss.take a ++ S) ++ N.ss.drop c).length = _
      simp only [List.length_append, List.length_take, List.length_drop]; omega
    · show ((N.ks.take a ++ K) ++ N.ks.drop b).length = _
      simp only [List.length_append, List.length_take, List.length_drop]; omega
  have hA : ∀ W, Calls Try.prog 12 #[frameV p q, .bool true] W fun e w' => e = .returned (.int .i64 0) ∧ Same W w' := fun W => by
    have := askedG_calls (p := p) (q := q) (b := true) W
    unfold askE at this
    rw [if_pos hf] at this
    exact this
  have hR : ∀ W, Calls Try.prog 19 #[frameV p q] W fun e w' => e = .returned (.bool true) ∧ Same W w' := fun W => by
    have := dright_calls p q W
    rw [hf] at this
    exact this
  have W1 : ∀ (r : Nr) (w : World), NdIn w r N → NdRoom r N → ∀ W, Same w W → Calls Try.prog 15 #[.slice r.sa N.ss.length r.cs, .int .i64 (a : Int), .int .i64 (m1 : Int)] W fun e w' => ∃ ao c', e = .returned (.slice ao (N.ss.length - m1) c') ∧ w'.ownsRow W.heap.size 9 1 (.slice ao (N.ss.length - m1) c') (N.ss.length - m1) (scells (N.ss.take a ++ N.ss.drop c)) ∧ Same W w' := fun r w i rm W s => by
    have := withoutTexts (i := a) (m := m1) W (i.same s).sp rm.s3 (by omega) rm.cs (by omega)
    rw [← hc, scells_takeK, scells_dropK, ← scells_app] at this
    exact this
  have X1 : ∀ (r2 : Nr) (w : World), NdIn w r2 ⟨[], S, K⟩ → ∀ W ao c' B, Same w W → W.ownsRow B 9 1 (.slice ao (N.ss.length - m1) c') (N.ss.length - m1) (scells (N.ss.take a ++ N.ss.drop c)) → Calls Try.prog 14 #[.slice ao (N.ss.length - m1) c', .int .i64 (a : Int), .slice r2.sa S.length r2.cs] W fun e w' => ∃ ao c', e = .returned (.slice ao (N.ss.length - m1 + S.length) c') ∧ w'.ownsRow W.heap.size 9 1 (.slice ao (N.ss.length - m1 + S.length) c') (N.ss.length - m1 + S.length) (scells (spM N S K a b c).ss) ∧ Same W w' := fun r2 w i2 W ao c' B s ow => by
    have := withTexts (i := a) W (own_partS ow (scells_one _)) (own_addr ow) (i2.same s).sp (by omega) (own_capB ow) (by show N.ss.length - m1 + S.length ≤ 1048576; omega)
    rw [scells_takeK, scells_dropK, parts_t _ (by omega), parts_d _ (by omega)] at this
    rw [show scells (spM N S K a b c).ss = scells (N.ss.take a) ++ (scells S ++ scells (N.ss.drop c)) from by show scells ((N.ss.take a ++ S) ++ N.ss.drop c) = _; rw [scells_app, scells_app, List.append_assoc]]
    exact this
  have W2 : ∀ (r : Nr) (w : World), NdIn w r N → NdRoom r N → ∀ W, Same w W → Calls Try.prog 17 #[.slice r.ka N.ks.length r.ck, .int .i64 (a : Int), .int .i64 (m : Int)] W fun e w' => ∃ ao c', e = .returned (.slice ao (N.ks.length - m) c') ∧ w'.ownsRow W.heap.size 46 33 (.slice ao (N.ks.length - m) c') (N.ks.length - m) (kcellsL (N.ks.take a ++ N.ks.drop b)) ∧ Same W w' := fun r w i rm W s => by
    have := withoutKids (i := a) (m := m) W (i.same s).kp rm.k3 (by omega) rm.ck h.one.hk
    rw [← hb, kcellsL_takeK _ _ kN, kcellsL_dropK _ _ kN, ← kcellsL_app] at this
    exact this
  have kL : ∀ x ∈ N.ks.take a ++ N.ks.drop b, KidOk x := fun x hx => by
    rcases List.mem_append.1 hx with hx | hx
    · exact kN x (List.mem_of_mem_take hx)
    · exact kN x (List.mem_of_mem_drop hx)
  have X2 : ∀ (r2 : Nr) (w : World), NdIn w r2 ⟨[], S, K⟩ → ∀ W ao c' B, Same w W → W.ownsRow B 46 33 (.slice ao (N.ks.length - m) c') (N.ks.length - m) (kcellsL (N.ks.take a ++ N.ks.drop b)) → Calls Try.prog 16 #[.slice ao (N.ks.length - m) c', .int .i64 (a : Int), .slice r2.ka K.length r2.ck] W fun e w' => ∃ ao c', e = .returned (.slice ao (N.ks.length - m + K.length) c') ∧ w'.ownsRow W.heap.size 46 33 (.slice ao (N.ks.length - m + K.length) c') (N.ks.length - m + K.length) (kcellsL (spM N S K a b c).ks) ∧ Same W w' := fun r2 w i2 W ao c' B s ow => by
    have := withKids (i := a) W (own_partS ow (kcellsL_one _)) (own_addr ow) (i2.same s).kp (by omega) (own_capB ow) (by show N.ks.length - m + K.length ≤ 1048576; have := h.hk; omega)
    rw [kcellsL_takeK _ _ kL, kcellsL_dropK _ _ kL, parts_t _ (by omega), parts_d _ (by omega)] at this
    rw [show kcellsL (spM N S K a b c).ks = kcellsL (N.ks.take a) ++ (kcellsL K ++ kcellsL (N.ks.drop b)) from by show kcellsL ((N.ks.take a ++ K) ++ N.ks.drop b) = _; rw [kcellsL_app, kcellsL_app, List.append_assoc]]
    exact this
  have hI : ∀ (r : Nr) (w : World), NdIn w r N → ∀ W, Same w W → Calls Try.prog 13 #[frameV p q, ndV r N] W fun e w' => e = .returned (.bool true) ∧ Same W w' := fun r w i W s => by
    have := isBranchG_calls (p := p) (q := q) W (i.at_.same s)
    rw [hg] at this
    exact this
  have hB : ∀ (r : Nr) (w : World), NdIn w r N → ∀ W, Same w W → Calls Try.prog 20 #[frameV p q, ndV r N] W fun e w' => e = .returned (.bool true) ∧ Same W w' := fun r w i W s => by
    have := dbranchG_calls (p := p) (q := q) W (i.at_.same s) h.one.lens.1 h.one.lens.2.1 h.one.lens.2.2.1
    rw [hg] at this
    exact this
  have kl := h.hk
  by_cases hck : chkN p q (spM N S K a b c) = 0
  · rw [if_pos hck, if_pos hck]
    refine ⟨fun r r2 w i rm i2 => ?_, fun r r2 w i cp i2 => ?_⟩
    · exact (psplice_good w hm (by omega) hkk h2 (by omega) (by omega) hM (hI r w i) hA (W1 r w i rm) (X1 r2 w i2) (W2 r w i rm) (X2 r2 w i2) (fun W B r' md => by have := made_check (p := p) (q := q) (N := spM N S K a b c) md sm so; rw [hck] at this; exact this)).mono fun e w' ⟨r', e1, e2, e3⟩ => ⟨⟨r', e1, e2⟩, e3⟩
    · exact (dsplice_good w i cp i2 (by omega) hb (by omega) hbl hss hkk h2 hk2 (by omega) (by omega) hR (hB r w i) (fun W B r' md => by have := made_dcheck (p := p) (q := q) (N := spM N S K a b c) md sm so; rw [hck] at this; exact this)).mono fun e w' ⟨r', e1, e2, e3⟩ => ⟨⟨r', e1, e2⟩, e3⟩
  · rw [if_neg hck, if_neg hck]
    have hC : (chkN p q (spM N S K a b c) != 0) = true := by simpa using hck
    refine ⟨fun r r2 w i rm i2 => ?_, fun r r2 w i cp i2 => ?_⟩
    · exact (psplice_order w hm (by omega) hkk h2 (by omega) (by omega) hM hC (hI r w i) hA (W1 r w i rm) (X1 r2 w i2) (W2 r w i rm) (X2 r2 w i2) (fun W B r' md => made_check (N := spM N S K a b c) md sm so)).mono fun e w' h => bad_out h
    · exact (dsplice_order w i cp i2 (by omega) hb (by omega) hbl hss hkk h2 hk2 (by omega) (by omega) hC hR (hB r w i) (fun W B r' md => made_dcheck (N := spM N S K a b c) md sm so)).mono fun e w' h => bad_out h
theorem splice_both {p q at_ many : Int} {N : Nd} {S : List ByteArray} {K : List Kid} (h : SmallS N S K) (kN : ∀ x ∈ N.ks, KidOk x) (kK : ∀ x ∈ K, KidOk x) (hat : at_ ≤ 9223372036854775807) :
    ∃ (M : Nd) (E : Int), NdSmall M ∧ (∀ x ∈ M.ks, KidOk x) ∧ BothSp p q at_ many N S K M E := by
  have hI : ∀ (r : Nr) (w : World), NdIn w r N → ∀ W, Same w W → Calls Try.prog 13 #[frameV p q, ndV r N] W fun e w' => e = .returned (.bool (branchG p q N)) ∧ Same W w' := fun r w i W s => isBranchG_calls W (i.at_.same s)
  have hB : ∀ (r : Nr) (w : World), NdIn w r N → ∀ W, Same w W → Calls Try.prog 20 #[frameV p q, ndV r N] W fun e w' => e = .returned (.bool (branchG p q N)) ∧ Same W w' := fun r w i W s => dbranchG_calls W (i.at_.same s) h.one.lens.1 h.one.lens.2.1 h.one.lens.2.2.1
  have hA : ∀ bb W, Calls Try.prog 12 #[frameV p q, .bool bb] W fun e w' => e = .returned (.int .i64 (askE p q bb)) ∧ Same W w' := fun bb W => askedG_calls W
  have hR : ∀ W, Calls Try.prog 19 #[frameV p q] W fun e w' => e = .returned (.bool (frameP p q)) ∧ Same W w' := fun W => dright_calls p q W
  have ns : NdSmall noNd := ⟨by simp [noNd], by simp [noNd], by simp [noNd]⟩
  have nk : ∀ x ∈ noNd.ks, KidOk x := fun x hx => by simp [noNd] at hx
  have kl := h.hk
  cases hf : frameP p q with
  | false =>
    have a2 : ∀ bb, askE p q bb = 2 := fun bb => by unfold askE; rw [hf]; rfl
    rw [hf] at hR
    refine ⟨noNd, 2, ns, nk, fun r r2 w i rm i2 => ?_, fun r r2 w i cp i2 => ?_⟩
    · exact (psplice_asked w (E := 2) (by decide) (hI r w i) (fun W => by have := hA (branchG p q N) W; rw [a2] at this; exact this)).mono fun e w' h => bad_out h
    · exact (dsplice_frame w hR).mono fun e w' h => bad_out h
  | true =>
    rw [hf] at hR
    cases hg : branchG p q N with
    | false =>
      rw [hg] at hI hB
      have a2 : askE p q false = 80 := by unfold askE; rw [hf]; rfl
      refine ⟨noNd, 80, ns, nk, fun r r2 w i rm i2 => ?_, fun r r2 w i cp i2 => ?_⟩
      · exact (psplice_asked w (E := 80) (by decide) (hI r w i) (fun W => by have := hA false W; rw [a2] at this; exact this)).mono fun e w' h => bad_out h
      · exact (dsplice_shape w hR (hB r w i)).mono fun e w' h => bad_out h
    | true =>
      obtain ⟨hss, hk2⟩ : N.ss.length + 1 = N.ks.length ∧ 2 ≤ N.ks.length := by
        have hg2 := hg
        unfold branchG at hg2
        simp only [Bool.and_eq_true, decide_eq_true_eq] at hg2
        exact (chk_branch hg2.1 hg2.2).2
      rw [hg] at hI hB
      have a2 : askE p q true = 0 := by unfold askE; rw [hf]; rfl
      have hA0 : ∀ W, Calls Try.prog 12 #[frameV p q, .bool true] W fun e w' => e = .returned (.int .i64 0) ∧ Same W w' := fun W => by have := hA true W; rw [a2] at this; exact this
      have n1 : N.ks.length ≤ 1048576 := by omega
      have n2 : K.length ≤ 1048576 := by omega
      by_cases c1 : at_ < 0
      · exact ⟨noNd, 2, ns, nk, fun r r2 w i rm i2 => (psplice_c1 w c1 n1 n2 (hI r w i) hA0).mono fun e w' h => bad_out h, fun r r2 w i cp i2 => (dsplice_c1 w c1 n1 n2 hR (hB r w i)).mono fun e w' h => bad_out h⟩
      by_cases c2 : many < 1
      · exact ⟨noNd, 2, ns, nk, fun r r2 w i rm i2 => (psplice_c2 w c1 c2 n1 n2 (hI r w i) hA0).mono fun e w' h => bad_out h, fun r r2 w i cp i2 => (dsplice_c2 w c1 c2 n1 n2 hR (hB r w i)).mono fun e w' h => bad_out h⟩
      by_cases c4 : (N.ks.length : Int) - at_ < many
      · by_cases c3 : (N.ks.length : Int) < at_
        · exact ⟨noNd, 2, ns, nk, fun r r2 w i rm i2 => (psplice_c3 w c1 c2 c4 n1 n2 hat (hI r w i) hA0).mono fun e w' h => bad_out h, fun r r2 w i cp i2 => (dsplice_c3 w c1 c2 c3 n1 n2 hR (hB r w i)).mono fun e w' h => bad_out h⟩
        · exact ⟨noNd, 2, ns, nk, fun r r2 w i rm i2 => (psplice_c3 w c1 c2 c4 n1 n2 hat (hI r w i) hA0).mono fun e w' h => bad_out h, fun r r2 w i cp i2 => (dsplice_c4 w c1 c2 c3 c4 n1 n2 hR (hB r w i)).mono fun e w' h => bad_out h⟩
      have c3 : ¬ (N.ks.length : Int) < at_ := by omega
      by_cases c5 : K.length < 1
      · exact ⟨noNd, 2, ns, nk, fun r r2 w i rm i2 => (psplice_c4 w c1 c2 c4 c5 n1 n2 (hI r w i) hA0).mono fun e w' h => bad_out h, fun r r2 w i cp i2 => (dsplice_c5 w c1 c2 c3 c4 c5 n1 n2 hR (hB r w i)).mono fun e w' h => bad_out h⟩
      by_cases c6 : ¬ (S.length : Int) = (K.length : Int) - 1
      · exact ⟨noNd, 2, ns, nk, fun r r2 w i rm i2 => (psplice_c5 w c1 c2 c4 c5 c6 n1 n2 (hI r w i) hA0).mono fun e w' h => bad_out h, fun r r2 w i cp i2 => (dsplice_c6 w c1 c2 c3 c4 c5 c6 n1 n2 hR (hB r w i)).mono fun e w' h => bad_out h⟩
      by_cases c7 : (N.ks.length : Int) - many + (K.length : Int) < 2
      · exact ⟨noNd, 2, ns, nk, fun r r2 w i rm i2 => (psplice_c6 w c1 c2 c4 c5 c6 c7 n1 n2 (hI r w i) hA0).mono fun e w' h => bad_out h, fun r r2 w i cp i2 => (dsplice_c7 w c1 c2 c3 c4 c5 c6 c7 n1 n2 hR (hB r w i)).mono fun e w' h => bad_out h⟩
      obtain ⟨a, rfl⟩ : ∃ a : Nat, at_ = (a : Int) := ⟨at_.toNat, by omega⟩
      obtain ⟨m, rfl⟩ : ∃ m : Nat, many = (m : Int) := ⟨many.toNat, by omega⟩
      refine ⟨_, _, ?_, ?_, splice_good (a := a) (m := m) (m1 := m - 1) (b := a + m) (c := a + (m - 1)) h kN kK hf hg (by omega) rfl rfl (by omega) (by omega) (by omega) hss hk2⟩
      · split
        · exact spM_small h (by omega) (by omega)
        · exact ns
      · split
        · exact spM_ok kN kK
        · exact nk
end Go.Proofs.Yteddbkbfnafbpaa
namespace Go.Proofs.Yteddbkbfnafbpaa
open Go.ChangeShapes Go.WideShapes Go.ChangeAt Go.RowKit

theorem trod_struct6 {H : Type} {enc : TypeId × Value → H} {P : Program} {w : World} {base : Nat} {spare : Nat → Bool} {held : Bool} {t : TypeId} {f0 f1 f2 f3 f4 f5 : Field} {fuel : Nat} {cs : List Value} {x : DataW H × List MemPlace} (ht : P.underlying t = some (.struct #[f0, f1, f2, f3, f4, f5])) (h : DataW.trod enc P w base spare held fuel t cs = some x) :
    ∃ y0 y1 y2 y3 y4 y5 n, x.1 = .agg [y0.1, y1.1, y2.1, y3.1, y4.1, y5.1] ∧ DataW.trod enc P w base spare held n f0.type ((cs.drop f0.offset).take (P.cellsOf f0.type)) = some y0 ∧
      DataW.trod enc P w base spare held n f1.type ((cs.drop f1.offset).take (P.cellsOf f1.type)) = some y1 ∧ DataW.trod enc P w base spare held n f2.type ((cs.drop f2.offset).take (P.cellsOf f2.type)) = some y2 ∧
      DataW.trod enc P w base spare held n f3.type ((cs.drop f3.offset).take (P.cellsOf f3.type)) = some y3 ∧ DataW.trod enc P w base spare held n f4.type ((cs.drop f4.offset).take (P.cellsOf f4.type)) = some y4 ∧
      DataW.trod enc P w base spare held n f5.type ((cs.drop f5.offset).take (P.cellsOf f5.type)) = some y5 := by
  obtain ⟨xs, n, _, rfl, hl, hlen, hf⟩ := DataW.trod_struct ht h
  match xs, hlen with
  | [y0, y1, y2, y3, y4, y5], _ => exact ⟨y0, y1, y2, y3, y4, y5, n, by simp, by simpa using hf 0 f0 rfl, by simpa using hf 1 f1 rfl, by simpa using hf 2 f2 rfl, by simpa using hf 3 f3 rfl, by simpa using hf 4 f4 rfl, by simpa using hf 5 f5 rfl⟩

set_option maxRecDepth 100000 in
theorem open_node_inC {H : Type} {enc : TypeId × Value → H} {W : World} {d : DataW H × List MemPlace} {fuel : Nat} {cs : List Value} (hz : cs.length = 3)
    (hf : DataW.trod enc Try.prog W 0 (fun _ => true) true fuel 28 cs = some d) (hb : Rows.uptoBulk d.1 ≤ 1048576) :
    ∃ (r : Nr) (N : Nd), cs = [.slice r.pa N.ps.length r.cp, .slice r.sa N.ss.length r.cs, .slice r.ka N.ks.length r.ck] ∧ NdIn W r N ∧ NdCapN r N ∧ (N.ps.map fun x => x.1.size + x.2.size + 3).sum + (N.ss.map fun x => x.size + 1).sum + N.ks.length ≤ Rows.uptoBulk d.1 := by
  obtain ⟨x, y, z, rfl⟩ : ∃ x y z, cs = [x, y, z] := by
    match cs, hz with
    | [x, y, z], _ => exact ⟨x, y, z, rfl⟩
  obtain ⟨y0, y1, y2, n, hx, _, f0, f1, f2⟩ := Deep.trod_struct3 Try.underlying28 hf
  have c0 : Try.prog.cellsOf 24 = 1 := by kernel_rfl
  have c1 : Try.prog.cellsOf 25 = 1 := by kernel_rfl
  have c2 : Try.prog.cellsOf 26 = 1 := by kernel_rfl
  simp only [c0, c1, c2, List.drop_succ_cons, List.drop_zero, List.take_succ_cons, List.take_zero] at f0 f1 f2
  obtain ⟨pa, pb, po, cp, ps, e0, l0, m0, a0, b0, _, z0, s0⟩ := open_rows (α := ByteArray × ByteArray) 2 (by decide) (fun x => [.string x.1, .string x.2]) (fun _ => True) (fun x => x.1.size + x.2.size + 3) Try.underlying24 (by kernel_rfl) (fun m c x hc h => open_pair_in hc h) f0
  obtain ⟨sa, sb, so, cs', ss, e1, l1, m1, a1, b1, _, z1, s1⟩ := open_rows (α := ByteArray) 1 (by decide) (fun x => [.string x]) (fun _ => True) (fun x => x.size + 1) Try.underlying25 (by kernel_rfl) (fun m c x hc h => open_text_in h) f1
  obtain ⟨ka, kb, ko, ck, ks, e2, l2, m2, a2, b2, k2, z2, s2⟩ := open_rows (α := Kid) 33 (by decide) kcells KidOk (fun _ => 1) Try.underlying26 (by kernel_rfl) (fun m c x hc h => open_kid_in hc h) f2
  simp only [List.cons.injEq, and_true] at e0 e1 e2
  subst e0 e1 e2
  have hd : d.1 = (DataW.agg [y0.1, y1.1, y2.1] : DataW H) := congrArg Prod.fst hx
  rw [hd] at hb ⊢
  simp only [Rows.uptoBulk, Rows.uptoBulkAll] at hb ⊢
  have n0 := sum_len (fun x : ByteArray × ByteArray => x.1.size + x.2.size + 3) ps (fun x _ => by omega)
  have n1 := sum_len (fun x : ByteArray => x.size + 1) ss (fun x _ => by omega)
  have n2 := sum_len (fun _ : Kid => 1) ks (fun x _ => by omega)
  have hml : maxLen = 9223372036854775807 := rfl
  have P : PRow W pa pb po ps := ⟨a0, fun j x hx => ⟨b0 j x hx 0 _ rfl, b0 j x hx 1 _ rfl⟩⟩
  have T : TRow W sa sb so ss := ⟨a1, fun j x hx => by have := b1 j x hx 0 _ rfl; simpa using this⟩
  have K : KRow W ka kb ko ks := ⟨a2, b2⟩
  refine ⟨⟨pa, pb, po, cp, sa, sb, so, cs', ka, kb, ko, ck⟩, ⟨ps, ss, ks⟩, rfl, ⟨⟨P, T, K, k2, by show ps.length ≤ _; omega, by show ss.length ≤ _; omega, by show ks.length ≤ _; omega⟩, prow_part P z0, trow_part T z1, krow_part k2 K z2⟩, ⟨l0, l1, l2⟩, ?_⟩
  show (ps.map _).sum + (ss.map _).sum + ks.length ≤ _
  omega

set_option maxRecDepth 100000 in
theorem open_spliced {H : Type} {enc : TypeId × Value → H} {W : World} {v : Value} {d : DataW H} {pl : List MemPlace} {base : Nat}
    (hv : Value.okWide Try.prog W .any base 30 v) (h : DataW.Trod enc Try.prog W 0 (fun _ => true) true 30 v d pl) (hb : Rows.uptoBulk d ≤ 1048576) :
    ∃ (p q at_ many : Int) (r1 : Nr) (N : Nd) (S : List ByteArray) (K : List Kid) (sa : Option Addr) (sb so cs0 : Nat) (ka : Option Addr) (kb ko ck0 : Nat), v = .agg #[.int .i64 p, .int .i64 q, .slice r1.pa N.ps.length r1.cp, .slice r1.sa N.ss.length r1.cs, .slice r1.ka N.ks.length r1.ck, .int .i64 at_, .int .i64 many, .slice ka K.length ck0, .slice sa S.length cs0] ∧ NdIn W r1 N ∧ NdCapN r1 N ∧ NdIn W (⟨none, 0, 0, 0, sa, sb, so, cs0, ka, kb, ko, ck0⟩ : Nr) ⟨[], S, K⟩ ∧ SmallS N S K ∧ at_ ≤ 9223372036854775807 := by
  obtain ⟨cs, rfl, hz⟩ := okWide_struct Try.underlying30 hv
  rw [show Try.prog.cellsOf 30 = 9 from by kernel_rfl] at hz
  obtain ⟨fuel, hf⟩ := h
  obtain ⟨x0, x1, x2, x3, x4, x5, x6, x7, x8, rfl⟩ : ∃ x0 x1 x2 x3 x4 x5 x6 x7 x8, cs = #[x0, x1, x2, x3, x4, x5, x6, x7, x8] := by
    obtain ⟨l⟩ := cs
    match l, hz with
    | [x0, x1, x2, x3, x4, x5, x6, x7, x8], _ => exact ⟨x0, x1, x2, x3, x4, x5, x6, x7, x8, rfl⟩
  obtain ⟨y0, y1, y2, y3, y4, y5, n, hd, f0, f1, f2, f3, f4, f5⟩ := trod_struct6 Try.underlying30 hf
  have c0 : Try.prog.cellsOf 23 = 2 := by kernel_rfl
  have c1 : Try.prog.cellsOf 28 = 3 := by kernel_rfl
  have c2 : Try.prog.cellsOf 3 = 1 := by kernel_rfl
  have c3 : Try.prog.cellsOf 26 = 1 := by kernel_rfl
  have c4 : Try.prog.cellsOf 25 = 1 := by kernel_rfl
  simp only [Value.cells, c0, c1, c2, c3, c4, List.drop_succ_cons, List.drop_zero, List.take_succ_cons, List.take_zero] at f0 f1 f2 f3 f4 f5
  simp only at hd
  rw [hd] at hb
  simp only [Rows.uptoBulk, Rows.uptoBulkAll] at hb
  obtain ⟨z0, z1, m, hz0, _, g0, g1⟩ := trod_struct2 Try.underlying23 f0
  simp only [c2, List.drop_succ_cons, List.drop_zero, List.take_succ_cons, List.take_zero] at g0 g1
  obtain ⟨p, e0, _, _⟩ := DataW.trod_int Try.underlying3 g0
  obtain ⟨q, e1, _, _⟩ := DataW.trod_int Try.underlying3 g1
  obtain ⟨r1, N, e2, i1, cap1, b1⟩ := open_node_inC rfl f1 (by omega)
  obtain ⟨at_, e3, _, wf3⟩ := DataW.trod_int Try.underlying3 f2
  obtain ⟨many, e4, _, _⟩ := DataW.trod_int Try.underlying3 f3
  obtain ⟨ka, kb, ko, ck, ks, e5, l2, m2, a2, b2, k2, w2, s2⟩ := open_rows (α := Kid) 33 (by decide) kcells KidOk (fun _ => 1) Try.underlying26 (by kernel_rfl) (fun m c x hc h => open_kid_in hc h) f4
  obtain ⟨sa, sb, so, cs', ss, e6, l1, m1, a1, b3, _, w1, s1⟩ := open_rows (α := ByteArray) 1 (by decide) (fun x => [.string x]) (fun _ => True) (fun x => x.size + 1) Try.underlying25 (by kernel_rfl) (fun m c x hc h => open_text_in h) f5
  simp only [List.cons.injEq, and_true] at e0 e1 e2 e3 e4 e5 e6
  obtain ⟨rfl, rfl, rfl⟩ := e2
  subst e0 e1 e3 e4 e5 e6
  have n1 := sum_len (fun x : ByteArray => x.size + 1) ss (fun x _ => by omega)
  have n2 := sum_len (fun _ : Kid => 1) ks (fun x _ => by omega)
  have hml : maxLen = 9223372036854775807 := rfl
  have T : TRow W sa sb so ss := ⟨a1, fun j x hx => by have := b3 j x hx 0 _ rfl; simpa using this⟩
  have K : KRow W ka kb ko ks := ⟨a2, b2⟩
  have P0 : PRow W none 0 0 [] := ⟨fun h => absurd rfl h, fun j x hx => by simp at hx⟩
  refine ⟨p, q, at_, many, r1, N, ss, ks, sa, sb, so, cs', ka, kb, ko, ck, rfl, i1, cap1, ⟨⟨P0, T, K, k2, by show ([] : List (ByteArray × ByteArray)).length ≤ _; simp, by show ss.length ≤ _; omega, by show ks.length ≤ _; omega⟩, prow_part P0 (fun _ => rfl), trow_part T w1, krow_part k2 K w2⟩, ⟨by omega, by omega, by omega⟩, ?_⟩
  simp [Lit.wf, IntKind.min, IntKind.max, IntKind.bits, IntKind.signed] at wf3
  omega
end Go.Proofs.Yteddbkbfnafbpaa
namespace Go.Proofs.Yteddbkbfnafbpaa
open Go.RowKit

theorem LentAt.in_ {w : World} {B gp cp gs cs gk ck : Nat} {N : Nd} (h : LentAt w B gp cp gs cs gk ck N) {v : World} {r : Nr} (hn : NdAt v r N) : NdIn w (lentNr gp cp gs cs gk ck) N := by
  have a := h.nd hn
  exact ⟨a, prow_part a.hp (fun e => by cases e), trow_part a.hs (fun e => by cases e), krow_part hn.ok a.hk (fun e => by cases e)⟩
theorem LentAt.roomL {w : World} {B gp cp gs cs gk ck : Nat} {N : Nd} (h : LentAt w B gp cp gs cs gk ck N) : NdRoom (lentNr gp cp gs cs gk ck) N := by
  obtain ⟨h1, h2, h3⟩ := h.caps
  exact ⟨by show _ ≤ cp; omega, by show _ ≤ cs; omega, by show _ ≤ ck; omega, fun e => (by cases e), fun e => (by cases e), fun e => (by cases e), fun a e => (by cases e; exact ⟨gp, 0, rfl⟩), fun a e => (by cases e; exact ⟨gs, 0, rfl⟩), fun a e => (by cases e; exact ⟨gk, 0, rfl⟩)⟩
theorem LentAt.fr {w w' : World} {B gp cp gs cs gk ck : Nat} {N : Nd} {S : Nat → Prop} (h : LentAt w B gp cp gs cs gk ck N) (f : Fr S w w') (h1 : ¬ S gp) (h2 : ¬ S gs) (h3 : ¬ S gk) : LentAt w' B gp cp gs cs gk ck N :=
  ⟨own_frameB h.oP f (fun k hk => by simp [Value.ownBlock] at hk; subst hk; exact h1), own_frameB h.oS f (fun k hk => by simp [Value.ownBlock] at hk; subst hk; exact h2), own_frameB h.oK f (fun k hk => by simp [Value.ownBlock] at hk; subst hk; exact h3)⟩
theorem LentAt.spoil {w : World} {B gp cp gs cs gk ck : Nat} {N : Nd} (l : LentAt w B gp cp gs cs gk ck N) (hs : NdSmall N) : Calls Try.prog 8 #[ndV (lentNr gp cp gs cs gk ck) N] w fun e w' => (∃ n : Int, e = .returned (.int .i64 n)) ∧ Fr (fun k => k = gp ∨ k = gs ∨ k = gk) w w' :=
  spoil_calls w (Own.first l.oP (by omega)) (Own.first l.oS (by omega)) (Own.first l.oK (by omega)) hs.lens.1 hs.lens.2.1 hs.lens.2.2.1 (fun a h => by
    rcases h with h | h | h
    · cases h; exact Or.inl rfl
    · cases h; exact Or.inr (Or.inl rfl)
    · cases h; exact Or.inr (Or.inr rfl))
theorem LentAt.ge {w : World} {B gp cp gs cs gk ck : Nat} {N : Nd} (l : LentAt w B gp cp gs cs gk ck N) : (B ≤ gp ∧ B ≤ gs ∧ B ≤ gk) ∧ gp < w.heap.size ∧ gs < w.heap.size ∧ gk < w.heap.size :=
  ⟨⟨(own_ge l.oP).1, (own_ge l.oS).1, (own_ge l.oK).1⟩, (own_ge l.oP).2, (own_ge l.oS).2, (own_ge l.oK).2⟩
set_option maxRecDepth 100000 in
set_option maxHeartbeats 8000000 in
theorem gsplices_core {p q at_ many E : Int} {r1 : Nr} {N M : Nd} {S : List ByteArray} {K : List Kid} {sa : Option Addr} {sb so cs0 : Nat} {ka : Option Addr} {kb ko ck0 : Nat} (w : World) (i1 : NdIn w r1 N) (i2 : NdIn w (⟨none, 0, 0, 0, sa, sb, so, cs0, ka, kb, ko, ck0⟩ : Nr) ⟨[], S, K⟩) (h : SmallS N S K) (hM : NdSmall M) (hk : ∀ x ∈ M.ks, KidOk x)
    (HR : Hid (∀ W gp cp gs cs gk ck gp2 cp2 gs2 cs2 gk2 ck2 B B2, LentAt W B gp cp gs cs gk ck N → LentAt W B2 gp2 cp2 gs2 cs2 gk2 ck2 ⟨[], S, K⟩ → Calls Try.prog 5 #[.agg #[.int .i64 p, .int .i64 q], .agg #[.slice (some ⟨gp, 0, none⟩) N.ps.length cp, .slice (some ⟨gs, 0, none⟩) N.ss.length cs, .slice (some ⟨gk, 0, none⟩) N.ks.length ck], .int .i64 at_, .int .i64 many, .slice (some ⟨gk2, 0, none⟩) K.length ck2, .slice (some ⟨gs2, 0, none⟩) S.length cs2] W fun e w' => ∃ r', e = .returned (.tuple #[.agg #[.slice r'.pa M.ps.length r'.cp, .slice r'.sa M.ss.length r'.cs, .slice r'.ka M.ks.length r'.ck], .int .i64 E]) ∧ MadeNd w' W.heap.size r' M ∧ Same W w'))
    (HD : Hid (∀ W, Same w W → Calls Try.prog 6 #[.agg #[.int .i64 p, .int .i64 q], .agg #[.slice r1.pa N.ps.length r1.cp, .slice r1.sa N.ss.length r1.cs, .slice r1.ka N.ks.length r1.ck], .int .i64 at_, .int .i64 many, .slice ka K.length ck0, .slice sa S.length cs0] W fun e w' => ∃ r', e = .returned (.tuple #[.agg #[.slice r'.pa M.ps.length r'.cp, .slice r'.sa M.ss.length r'.cs, .slice r'.ka M.ks.length r'.ck], .int .i64 E]) ∧ MadeNd w' W.heap.size r' M ∧ Same W w')) :
    Calls Try.prog 3 #[.agg #[.int .i64 p, .int .i64 q, .slice r1.pa N.ps.length r1.cp, .slice r1.sa N.ss.length r1.cs, .slice r1.ka N.ks.length r1.ck, .int .i64 at_, .int .i64 many, .slice ka K.length ck0, .slice sa S.length cs0]] w fun e w' => e = .returned (.bool true) ∧ Same w w' := by
  have HL : Hid (∀ W, Same w W → Calls Try.prog 4 #[.agg #[.slice r1.pa N.ps.length r1.cp, .slice r1.sa N.ss.length r1.cs, .slice r1.ka N.ks.length r1.ck]] W fun e w' => ∃ gp cp gs cs gk ck, e = .returned (.agg #[.slice (some ⟨gp, 0, none⟩) N.ps.length cp, .slice (some ⟨gs, 0, none⟩) N.ss.length cs, .slice (some ⟨gk, 0, none⟩) N.ks.length ck]) ∧ LentAt w' W.heap.size gp cp gs cs gk ck N ∧ Same W w') := fun W s => lent_at W (i1.same s) h.one.lens.1 h.one.lens.2.1 h.one.lens.2.2.1
  have HL2 : Hid (∀ W, Same w W → Calls Try.prog 4 #[.agg #[.slice none 0 0, .slice sa S.length cs0, .slice ka K.length ck0]] W fun e w' => ∃ gp2 cp2 gs2 cs2 gk2 ck2, e = .returned (.agg #[.slice (some ⟨gp2, 0, none⟩) 0 cp2, .slice (some ⟨gs2, 0, none⟩) S.length cs2, .slice (some ⟨gk2, 0, none⟩) K.length ck2]) ∧ LentAt w' W.heap.size gp2 cp2 gs2 cs2 gk2 ck2 ⟨[], S, K⟩ ∧ Same W w') := fun W s => lent_at W (i2.same s) h.two.lens.1 h.two.lens.2.1 h.two.lens.2.2.1
  have HK : Hid (∀ W gp cp gs cs gk ck B, Same w W → LentAt W B gp cp gs cs gk ck N → Calls Try.prog 7 #[.agg #[.slice (some ⟨gp, 0, none⟩) N.ps.length cp, .slice (some ⟨gs, 0, none⟩) N.ss.length cs, .slice (some ⟨gk, 0, none⟩) N.ks.length ck], .agg #[.slice r1.pa N.ps.length r1.cp, .slice r1.sa N.ss.length r1.cs, .slice r1.ka N.ks.length r1.ck]] W fun e w' => e = .returned (.bool true) ∧ Same W w') := fun W gp cp gs cs gk ck B s l => kept_true W l (i1.at_.same s) h.one.lens.1 h.one.lens.2.1 h.one.lens.2.2.1
  have HK2 : Hid (∀ W gp2 cp2 gs2 cs2 gk2 ck2 B, Same w W → LentAt W B gp2 cp2 gs2 cs2 gk2 ck2 ⟨[], S, K⟩ → Calls Try.prog 7 #[.agg #[.slice (some ⟨gp2, 0, none⟩) 0 cp2, .slice (some ⟨gs2, 0, none⟩) S.length cs2, .slice (some ⟨gk2, 0, none⟩) K.length ck2], .agg #[.slice none 0 0, .slice sa S.length cs0, .slice ka K.length ck0]] W fun e w' => e = .returned (.bool true) ∧ Same W w') := fun W gp cp gs cs gk ck B s l => kept_true (gp := gp) (cp := cp) (gs := gs) (cs := cs) (gk := gk) (ck := ck) (r := (⟨none, 0, 0, 0, sa, sb, so, cs0, ka, kb, ko, ck0⟩ : Nr)) (N := ⟨[], S, K⟩) W l (i2.at_.same s) h.two.lens.1 h.two.lens.2.1 h.two.lens.2.2.1
  have HSP1 : Hid (∀ W gp cp gs cs gk ck B, LentAt W B gp cp gs cs gk ck N → Calls Try.prog 8 #[.agg #[.slice (some ⟨gp, 0, none⟩) N.ps.length cp, .slice (some ⟨gs, 0, none⟩) N.ss.length cs, .slice (some ⟨gk, 0, none⟩) N.ks.length ck]] W fun e w' => (∃ n : Int, e = .returned (.int .i64 n)) ∧ Fr (fun k => k = gp ∨ k = gs ∨ k = gk) W w') := fun W gp cp gs cs gk ck B l => l.spoil h.one
  have HSP2 : Hid (∀ W gp2 cp2 gs2 cs2 gk2 ck2 B, LentAt W B gp2 cp2 gs2 cs2 gk2 ck2 ⟨[], S, K⟩ → Calls Try.prog 8 #[.agg #[.slice (some ⟨gp2, 0, none⟩) 0 cp2, .slice (some ⟨gs2, 0, none⟩) S.length cs2, .slice (some ⟨gk2, 0, none⟩) K.length ck2]] W fun e w' => (∃ n : Int, e = .returned (.int .i64 n)) ∧ Fr (fun k => k = gp2 ∨ k = gs2 ∨ k = gk2) W w') := fun W gp cp gs cs gk ck B l => l.spoil h.two
  have HA : Hid (∀ W, Calls Try.prog 10 #[] W fun e w' => e = .returned (.bool true) ∧ Same W w') := awake_calls
  have HFR : Hid (∀ (W : World) Ba Bb Bw ra rb rw_, MadeNd W Ba ra M → MadeNd W Bb rb M → MadeNd W Bw rw_ M → (∀ k, blkN rb k → ¬ blkN ra k) → (∀ k, blkN rw_ k → ¬ blkN ra k) → Calls Try.prog 9 #[.agg #[.slice ra.pa M.ps.length ra.cp, .slice ra.sa M.ss.length ra.cs, .slice ra.ka M.ks.length ra.ck], .agg #[.slice rb.pa M.ps.length rb.cp, .slice rb.sa M.ss.length rb.cs, .slice rb.ka M.ks.length rb.ck], .agg #[.slice rw_.pa M.ps.length rw_.cp, .slice rw_.sa M.ss.length rw_.cs, .slice rw_.ka M.ks.length rw_.ck]] W fun e w' => e = .returned (.bool true) ∧ Fr (blkN ra) W w') := fun W Ba Bb Bw ra rb rw_ ha hb hw hab haw => fresh_nd W ha hb hw hM hk hab haw
  have eEE : (E == E) = true := by simp
  obtain ⟨V, hV⟩ : ∃ V, V = w.alloc (.cells #[.int .i64 p, .int .i64 q, .slice r1.pa N.ps.length r1.cp, .slice r1.sa N.ss.length r1.cs, .slice r1.ka N.ks.length r1.ck, .int .i64 at_, .int .i64 many, .slice ka K.length ck0, .slice sa S.length cs0] 30) := ⟨_, rfl⟩
  have t1 : Same w V := by rw [hV]; exact (Fr.refl _ w).alloc _
  have g1 : V.heap[w.heap.size]? = some (.cells #[.int .i64 p, .int .i64 q, .slice r1.pa N.ps.length r1.cp, .slice r1.sa N.ss.length r1.cs, .slice r1.ka N.ks.length r1.ck, .int .i64 at_, .int .i64 many, .slice ka K.length ck0, .slice sa S.length cs0] 30 (0, 0)) := by rw [hV]; exact heap_alloc_new w _
  have HC : Hid (∀ W, Same V W → W.cell? ⟨w.heap.size, 0, none⟩ = some (.int .i64 p) ∧ W.cell? ⟨w.heap.size, 1, none⟩ = some (.int .i64 q) ∧ W.cell? ⟨w.heap.size, 2, none⟩ = some (.slice r1.pa N.ps.length r1.cp) ∧ W.cell? ⟨w.heap.size, 3, none⟩ = some (.slice r1.sa N.ss.length r1.cs) ∧ W.cell? ⟨w.heap.size, 4, none⟩ = some (.slice r1.ka N.ks.length r1.ck) ∧ W.cell? ⟨w.heap.size, 5, none⟩ = some (.int .i64 at_) ∧ W.cell? ⟨w.heap.size, 6, none⟩ = some (.int .i64 many) ∧ W.cell? ⟨w.heap.size, 7, none⟩ = some (.slice ka K.length ck0) ∧ W.cell? ⟨w.heap.size, 8, none⟩ = some (.slice sa S.length cs0)) := fun W s => by
    have e := (s.block _ (lt_of_heap g1) (fun e => e)).trans g1
    exact ⟨(cell_of_row _ _ _ _ _ _ e).trans rfl, (cell_of_row _ _ _ _ _ _ e).trans rfl, (cell_of_row _ _ _ _ _ _ e).trans rfl, (cell_of_row _ _ _ _ _ _ e).trans rfl, (cell_of_row _ _ _ _ _ _ e).trans rfl, (cell_of_row _ _ _ _ _ _ e).trans rfl, (cell_of_row _ _ _ _ _ _ e).trans rfl, (cell_of_row _ _ _ _ _ _ e).trans rfl, (cell_of_row _ _ _ _ _ _ e).trans rfl⟩
  have HVZ : Hid (w.heap.size ≤ V.heap.size) := t1.size
  clear i1 i2 h hM hk g1
  obtain ⟨m0, m1, m2, m3, m4, m5, m6, m7, m8⟩ := HC.out _ (Fr.refl _ V)
  go_enter Try.func3, Try.ntmps3
  go_wp2_with fail
  rw [← hV]
  clear hV
  refine (HL.out _ t1).mono ?_
  rintro e W1 ⟨gp, cp, gs, cs, gk, ck, rfl, l1, s1⟩
  obtain ⟨V1, hV1⟩ : ∃ V1, V1 = W1.alloc (.cells #[.slice (some ⟨gp, 0, none⟩) N.ps.length cp, .slice (some ⟨gs, 0, none⟩) N.ss.length cs, .slice (some ⟨gk, 0, none⟩) N.ks.length ck] 28) := ⟨_, rfl⟩
  have v1 : Same V V1 := by rw [hV1]; exact Fr.alloc s1 _
  have rx := heap_alloc_new W1 (.cells #[.slice (some ⟨gp, 0, none⟩) N.ps.length cp, .slice (some ⟨gs, 0, none⟩) N.ss.length cs, .slice (some ⟨gk, 0, none⟩) N.ks.length ck] 28)
  rw [← hV1] at rx
  have sv : Same W1 V1 := by rw [hV1]; exact (Fr.refl _ W1).alloc _
  have zv : V1.heap.size = W1.heap.size + 1 := by rw [hV1]; simp
  obtain ⟨xb, hxb⟩ : ∃ xb, xb = W1.heap.size := ⟨_, rfl⟩
  have e1 := l1.ge
  rw [← hxb] at rx zv e1
  have HL1 : Hid (∀ W, Same V1 W → LentAt W V.heap.size gp cp gs cs gk ck N) := fun W s => l1.same (sv.trans s)
  have HX : Hid (∀ W : World, W.heap[xb]? = V1.heap[xb]? → W.cell? ⟨xb, 0, none⟩ = some (.slice (some ⟨gp, 0, none⟩) N.ps.length cp) ∧ W.cell? ⟨xb, 1, none⟩ = some (.slice (some ⟨gs, 0, none⟩) N.ss.length cs) ∧ W.cell? ⟨xb, 2, none⟩ = some (.slice (some ⟨gk, 0, none⟩) N.ks.length ck)) := fun W s => by
    have e := s.trans rx
    exact ⟨(cell_of_row _ _ _ _ _ _ e).trans rfl, (cell_of_row _ _ _ _ _ _ e).trans rfl, (cell_of_row _ _ _ _ _ _ e).trans rfl⟩
  have HZ1 : Hid ((gp < xb ∧ gs < xb ∧ gk < xb) ∧ (V.heap.size ≤ gp ∧ V.heap.size ≤ gs ∧ V.heap.size ≤ gk) ∧ V1.heap.size = xb + 1) := ⟨e1.2, e1.1, zv⟩
  have HT1 : Hid (Same V V1) := v1
  clear m0 m1 m2 m3 m4 m5 m6 m7 m8
  obtain ⟨m0, m1, m2, m3, m4, m5, m6, m7, m8⟩ := HC.out _ v1
  rw [hV1] at m0 m1 m2 m3 m4 m5 m6 m7 m8
  go_wp2_with fail
  rw [← hV1, ← hxb]
  clear m0 m1 m2 m3 m4 m5 m6 m7 m8 l1 s1 v1 rx sv zv e1 hV1 hxb HL
  refine (HL2.out _ (t1.trans HT1.out)).mono ?_
  rintro e W2 ⟨gp2, cp2, gs2, cs2, gk2, ck2, rfl, l2, s2⟩
  obtain ⟨V2, hV2⟩ : ∃ V2, V2 = W2.alloc (.cells #[.slice (some ⟨gp2, 0, none⟩) 0 cp2, .slice (some ⟨gs2, 0, none⟩) S.length cs2, .slice (some ⟨gk2, 0, none⟩) K.length ck2] 28) := ⟨_, rfl⟩
  have v2 : Same V1 V2 := by rw [hV2]; exact Fr.alloc s2 _
  have ry := heap_alloc_new W2 (.cells #[.slice (some ⟨gp2, 0, none⟩) 0 cp2, .slice (some ⟨gs2, 0, none⟩) S.length cs2, .slice (some ⟨gk2, 0, none⟩) K.length ck2] 28)
  rw [← hV2] at ry
  have sv : Same W2 V2 := by rw [hV2]; exact (Fr.refl _ W2).alloc _
  have zv : V2.heap.size = W2.heap.size + 1 := by rw [hV2]; simp
  obtain ⟨yb, hyb⟩ : ∃ yb, yb = W2.heap.size := ⟨_, rfl⟩
  have e2 := l2.ge
  have zs := s2.size
  rw [← hyb] at ry zv e2 zs
  have HLA : Hid (∀ W, Same V2 W → LentAt W V.heap.size gp cp gs cs gk ck N ∧ LentAt W V1.heap.size gp2 cp2 gs2 cs2 gk2 ck2 ⟨[], S, K⟩) := fun W s => ⟨HL1.out _ (v2.trans s), l2.same (sv.trans s)⟩
  have HY : Hid (∀ W : World, W.heap[yb]? = V2.heap[yb]? → W.cell? ⟨yb, 0, none⟩ = some (.slice (some ⟨gp2, 0, none⟩) 0 cp2) ∧ W.cell? ⟨yb, 1, none⟩ = some (.slice (some ⟨gs2, 0, none⟩) S.length cs2) ∧ W.cell? ⟨yb, 2, none⟩ = some (.slice (some ⟨gk2, 0, none⟩) K.length ck2)) := fun W s => by
    have e := s.trans ry
    exact ⟨(cell_of_row _ _ _ _ _ _ e).trans rfl, (cell_of_row _ _ _ _ _ _ e).trans rfl, (cell_of_row _ _ _ _ _ _ e).trans rfl⟩
  have HX2 : Hid (∀ W : World, W.heap[xb]? = V2.heap[xb]? → W.cell? ⟨xb, 0, none⟩ = some (.slice (some ⟨gp, 0, none⟩) N.ps.length cp) ∧ W.cell? ⟨xb, 1, none⟩ = some (.slice (some ⟨gs, 0, none⟩) N.ss.length cs) ∧ W.cell? ⟨xb, 2, none⟩ = some (.slice (some ⟨gk, 0, none⟩) N.ks.length ck)) := fun W s => HX.out W (s.trans (v2.block xb (by have := HZ1.out; omega) (fun f => f)))
  have HSZ : Hid ((gp < xb ∧ gs < xb ∧ gk < xb) ∧ (V.heap.size ≤ gp ∧ V.heap.size ≤ gs ∧ V.heap.size ≤ gk) ∧ (gp2 < yb ∧ gs2 < yb ∧ gk2 < yb) ∧ (xb < gp2 ∧ xb < gs2 ∧ xb < gk2) ∧ V2.heap.size = yb + 1 ∧ xb < yb ∧ V.heap.size ≤ xb) := by
    show _ ∧ _ ∧ _ ∧ _ ∧ _ ∧ _ ∧ _
    have := HZ1.out
    have a1 := e2.1
    have a2 := e2.2
    omega
  have T2 : Hid (Same V V2) := HT1.out.trans v2
  obtain ⟨m0, m1, m2, m3, m4, m5, m6, m7, m8⟩ := HC.out _ T2.out
  obtain ⟨x0, x1, x2⟩ := HX2.out _ rfl
  obtain ⟨y0, y1, y2⟩ := HY.out _ rfl
  rw [hV2] at m0 m1 m2 m3 m4 m5 m6 m7 m8 x0 x1 x2 y0 y1 y2
  rw [hyb] at y0 y1 y2
  go_wp2_with fail
  rw [← hV2, ← hyb]
  clear hV2 hyb ry l2 s2 v2 sv zv e2 zs m0 m1 m2 m3 m4 m5 m6 m7 m8 x0 x1 x2 y0 y1 y2 HL2 HX HL1
  refine (HR.out _ _ _ _ _ _ _ _ _ _ _ _ _ _ _ (HLA.out _ (Fr.refl _ _)).1 (HLA.out _ (Fr.refl _ _)).2).mono ?_
  rintro e Y1 ⟨rA, rfl, mA, qA⟩
  obtain ⟨V3, hV3⟩ : ∃ V3, V3 = Y1.alloc (.cells #[.slice rA.pa M.ps.length rA.cp, .slice rA.sa M.ss.length rA.cs, .slice rA.ka M.ks.length rA.ck] 28) := ⟨_, rfl⟩
  have sn : Same V2 V3 := by rw [hV3]; exact Fr.alloc qA _
  have ra := heap_alloc_new Y1 (.cells #[.slice rA.pa M.ps.length rA.cp, .slice rA.sa M.ss.length rA.cs, .slice rA.ka M.ks.length rA.ck] 28)
  have mn : MadeNd V3 V2.heap.size rA M := by rw [hV3]; exact mA.same ((Fr.refl _ _).alloc _)
  have zA : V3.heap.size = Y1.heap.size + 1 := by rw [hV3]; simp
  rw [← hV3] at ra
  have S2 := sn
  obtain ⟨m0, m1, m2, m3, m4, m5, m6, m7, m8⟩ := HC.out _ (T2.out.trans S2)
  obtain ⟨x0, x1, x2⟩ := HX2.out _ (S2.block xb (by have := HSZ.out; omega) (fun f => f))
  obtain ⟨y0, y1, y2⟩ := HY.out _ (S2.block yb (by have := HSZ.out; omega) (fun f => f))
  rw [hV3] at m0 m1 m2 m3 m4 m5 m6 m7 m8 x0 x1 x2 y0 y1 y2
  go_wp2_with fail
  rw [← hV3]
  obtain ⟨ab, hab⟩ : ∃ ab, ab = Y1.heap.size := ⟨_, rfl⟩
  rw [← hab] at ra zA ⊢
  have HAB : Hid (V3.heap.size = ab + 1 ∧ V2.heap.size ≤ ab) := ⟨zA, by rw [hab]; exact qA.size⟩
  have HMA : Hid (MadeNd V3 V2.heap.size rA M) := mn
  have HRA : Hid (V3.heap[ab]? = some (.cells #[.slice rA.pa M.ps.length rA.cp, .slice rA.sa M.ss.length rA.cs, .slice rA.ka M.ks.length rA.ck] 28 (0, 0))) := ra
  have HS3 : Hid (Same V2 V3) := sn
  have THS3 : Hid (Same V2 V3) := S2
  clear hV3 m0 m1 m2 m3 m4 m5 m6 m7 m8 x0 x1 x2 y0 y1 y2 hab mA qA mn ra zA sn S2
  refine (HR.out _ _ _ _ _ _ _ _ _ _ _ _ _ _ _ (HLA.out _ HS3.out).1 (HLA.out _ HS3.out).2).mono ?_
  rintro e Y2 ⟨rB, rfl, mA, qA⟩
  obtain ⟨V4, hV4⟩ : ∃ V3, V3 = Y2.alloc (.cells #[.slice rB.pa M.ps.length rB.cp, .slice rB.sa M.ss.length rB.cs, .slice rB.ka M.ks.length rB.ck] 28) := ⟨_, rfl⟩
  have sn : Same V3 V4 := by rw [hV4]; exact Fr.alloc qA _
  have ra := heap_alloc_new Y2 (.cells #[.slice rB.pa M.ps.length rB.cp, .slice rB.sa M.ss.length rB.cs, .slice rB.ka M.ks.length rB.ck] 28)
  have mn : MadeNd V4 V3.heap.size rB M := by rw [hV4]; exact mA.same ((Fr.refl _ _).alloc _)
  have zA : V4.heap.size = Y2.heap.size + 1 := by rw [hV4]; simp
  rw [← hV4] at ra
  have S2 := HS3.out.trans sn
  obtain ⟨m0, m1, m2, m3, m4, m5, m6, m7, m8⟩ := HC.out _ (T2.out.trans S2)
  rw [hV4] at m0 m1 m2 m3 m4 m5 m6 m7 m8
  go_wp2_with fail
  rw [← hV4]
  obtain ⟨bb, hab⟩ : ∃ ab, ab = Y2.heap.size := ⟨_, rfl⟩
  rw [← hab] at ra zA ⊢
  have HBB : Hid (V4.heap.size = bb + 1 ∧ V3.heap.size ≤ bb) := ⟨zA, by rw [hab]; exact qA.size⟩
  have HMB : Hid (MadeNd V4 V3.heap.size rB M) := mn
  have HRB : Hid (V4.heap[bb]? = some (.cells #[.slice rB.pa M.ps.length rB.cp, .slice rB.sa M.ss.length rB.cs, .slice rB.ka M.ks.length rB.ck] 28 (0, 0))) := ra
  have HS4 : Hid (Same V3 V4) := sn
  have THS4 : Hid (Same V2 V4) := S2
  clear hV4 m0 m1 m2 m3 m4 m5 m6 m7 m8 hab mA qA mn ra zA sn S2
  refine (HD.out _ (t1.trans (T2.out.trans THS4.out))).mono ?_
  rintro e Y3 ⟨rC, rfl, mA, qA⟩
  obtain ⟨V5, hV5⟩ : ∃ V3, V3 = Y3.alloc (.cells #[.slice rC.pa M.ps.length rC.cp, .slice rC.sa M.ss.length rC.cs, .slice rC.ka M.ks.length rC.ck] 28) := ⟨_, rfl⟩
  have sn : Same V4 V5 := by rw [hV5]; exact Fr.alloc qA _
  have ra := heap_alloc_new Y3 (.cells #[.slice rC.pa M.ps.length rC.cp, .slice rC.sa M.ss.length rC.cs, .slice rC.ka M.ks.length rC.ck] 28)
  have mn : MadeNd V5 V4.heap.size rC M := by rw [hV5]; exact mA.same ((Fr.refl _ _).alloc _)
  have zA : V5.heap.size = Y3.heap.size + 1 := by rw [hV5]; simp
  rw [← hV5] at ra
  have S2 := THS4.out.trans sn
  obtain ⟨m0, m1, m2, m3, m4, m5, m6, m7, m8⟩ := HC.out _ (T2.out.trans S2)
  obtain ⟨x0, x1, x2⟩ := HX2.out _ (S2.block xb (by have := HSZ.out; omega) (fun f => f))
  obtain ⟨y0, y1, y2⟩ := HY.out _ (S2.block yb (by have := HSZ.out; omega) (fun f => f))
  rw [hV5] at m0 m1 m2 m3 m4 m5 m6 m7 m8 x0 x1 x2 y0 y1 y2
  go_wp2_with fail
  rw [← hV5]
  obtain ⟨wb, hab⟩ : ∃ ab, ab = Y3.heap.size := ⟨_, rfl⟩
  rw [← hab] at ra zA ⊢
  have HWB : Hid (V5.heap.size = wb + 1 ∧ V4.heap.size ≤ wb) := ⟨zA, by rw [hab]; exact qA.size⟩
  have HMC : Hid (MadeNd V5 V4.heap.size rC M) := mn
  have HRC : Hid (V5.heap[wb]? = some (.cells #[.slice rC.pa M.ps.length rC.cp, .slice rC.sa M.ss.length rC.cs, .slice rC.ka M.ks.length rC.ck] 28 (0, 0))) := ra
  have HS5 : Hid (Same V4 V5) := sn
  have THS5 : Hid (Same V2 V5) := S2
  clear hV5 m0 m1 m2 m3 m4 m5 m6 m7 m8 x0 x1 x2 y0 y1 y2 hab mA qA mn ra zA sn S2
  have HT5 : Hid (Same V2 V5) := THS5.out
  refine (HK.out _ _ _ _ _ _ _ _ (t1.trans (T2.out.trans HT5.out)) (HLA.out _ HT5.out).1).mono ?_
  rintro e Y4 ⟨rfl, q4⟩
  have HT4 : Hid (Same V2 Y4) := HT5.out.trans q4
  obtain ⟨m0, m1, m2, m3, m4, m5, m6, m7, m8⟩ := HC.out _ (T2.out.trans HT4.out)
  obtain ⟨y0, y1, y2⟩ := HY.out _ (HT4.out.block yb (by have := HSZ.out; omega) (fun f => f))
  go_wp2_with fail
  clear m0 m1 m2 m3 m4 m5 m6 m7 m8 y0 y1 y2
  refine (HK2.out _ _ _ _ _ _ _ _ (t1.trans (T2.out.trans HT4.out)) (HLA.out _ HT4.out).2).mono ?_
  rintro e Y5 ⟨rfl, q45⟩
  have q5 : Same V5 Y5 := q4.trans q45
  have HT6 : Hid (Same V2 Y5) := HT5.out.trans q5
  obtain ⟨x0, x1, x2⟩ := HX2.out _ (HT6.out.block xb (by have := HSZ.out; omega) (fun f => f))
  go_wp2_with fail
  refine (HSP1.out _ _ _ _ _ _ _ _ (HLA.out _ HT6.out).1).mono ?_
  rintro e Y6 ⟨⟨nn, rfl⟩, q6⟩
  have l26 : LentAt Y6 V1.heap.size gp2 cp2 gs2 cs2 gk2 ck2 ⟨[], S, K⟩ := (HLA.out _ HT6.out).2.fr q6 (by have := HSZ.out; omega) (by have := HSZ.out; omega) (by have := HSZ.out; omega)
  clear x0 x1 x2
  obtain ⟨y0, y1, y2⟩ := HY.out Y6 ((q6.block yb (by have := HSZ.out; have := HT6.out.size; omega) (by have := HSZ.out; omega)).trans (HT6.out.block yb (by have := HSZ.out; omega) (fun f => f)))
  have HQ6 : Hid (Fr (fun k => k = gp ∨ k = gs ∨ k = gk) Y5 Y6) := q6
  have H26 : Hid (LentAt Y6 V1.heap.size gp2 cp2 gs2 cs2 gk2 ck2 ⟨[], S, K⟩) := l26
  clear q6 l26
  go_wp2_with fail
  refine (HSP2.out _ _ _ _ _ _ _ _ H26.out).mono ?_
  rintro e Y7 ⟨⟨nn2, rfl⟩, q7⟩
  have q67 : Fr (fun k => V.heap.size ≤ k ∧ k < yb) Y5 Y7 := Fr.trans (HQ6.out.mono (fun k _ e => by have := HSZ.out; omega)) (q7.mono (fun k _ e => by have := HSZ.out; omega)) (fun _ _ e => e)
  obtain ⟨z1, z2⟩ := HAB.out
  obtain ⟨z3, z4⟩ := HBB.out
  obtain ⟨z5, z6⟩ := HWB.out
  have z7 := HSZ.out.2.2.2.2.1
  have qa : Same V3 Y5 := (HS4.out.trans HS5.out).trans q5
  have qb : Same V4 Y5 := HS5.out.trans q5
  have fa : Y7.heap[ab]? = some (.cells #[.slice rA.pa M.ps.length rA.cp, .slice rA.sa M.ss.length rA.cs, .slice rA.ka M.ks.length rA.ck] 28 (0, 0)) := (q67.block ab (by have := qa.size; omega) (by omega)).trans ((qa.block ab (by omega) (fun f => f)).trans HRA.out)
  have fb : Y7.heap[bb]? = some (.cells #[.slice rB.pa M.ps.length rB.cp, .slice rB.sa M.ss.length rB.cs, .slice rB.ka M.ks.length rB.ck] 28 (0, 0)) := (q67.block bb (by have := qb.size; omega) (by omega)).trans ((qb.block bb (by omega) (fun f => f)).trans HRB.out)
  have fc : Y7.heap[wb]? = some (.cells #[.slice rC.pa M.ps.length rC.cp, .slice rC.sa M.ss.length rC.cs, .slice rC.ka M.ks.length rC.ck] 28 (0, 0)) := (q67.block wb (by have := q5.size; omega) (by omega)).trans ((q5.block wb (by omega) (fun f => f)).trans HRC.out)
  have MA6 : MadeNd Y7 V2.heap.size rA M := (HMA.out.same qa).fr q67 (fun kk hk e => by have := (HMA.out.blk hk).1; omega)
  have MB6 : MadeNd Y7 V3.heap.size rB M := (HMB.out.same qb).fr q67 (fun kk hk e => by have := (HMB.out.blk hk).1; omega)
  have MC6 : MadeNd Y7 V4.heap.size rC M := (HMC.out.same q5).fr q67 (fun kk hk e => by have := (HMC.out.blk hk).1; omega)
  have HAP1 : Hid (∀ kk, blkN rB kk → ¬ blkN rA kk) := fun kk e1 e2 => by have := (HMB.out.blk e1).1; have := (HMA.out.blk e2).2; omega
  have HAP2 : Hid (∀ kk, blkN rC kk → ¬ blkN rA kk) := fun kk e1 e2 => by have := (HMC.out.blk e1).1; have := (HMA.out.blk e2).2; omega
  have HM6 : Hid (MadeNd Y7 V2.heap.size rA M ∧ MadeNd Y7 V3.heap.size rB M ∧ MadeNd Y7 V4.heap.size rC M) := ⟨MA6, MB6, MC6⟩
  have HW6 : Hid (Same w Y7) := Fr.trans (t1.trans (T2.out.trans HT6.out)) q67 (fun kk hk e => by have := HVZ.out; omega)
  have HAL : Hid (∀ kk, blkN rA kk → w.heap.size ≤ kk) := fun kk e => by have := (HMA.out.blk e).1; have := HVZ.out; have := T2.out.size; omega
  have u0 : Y7.cell? ⟨ab, 0, none⟩ = some (.slice rA.pa M.ps.length rA.cp) := (cell_of_row _ _ _ _ _ _ fa).trans rfl
  have u1 : Y7.cell? ⟨ab, 1, none⟩ = some (.slice rA.sa M.ss.length rA.cs) := (cell_of_row _ _ _ _ _ _ fa).trans rfl
  have u2 : Y7.cell? ⟨ab, 2, none⟩ = some (.slice rA.ka M.ks.length rA.ck) := (cell_of_row _ _ _ _ _ _ fa).trans rfl
  have u3 : Y7.cell? ⟨bb, 0, none⟩ = some (.slice rB.pa M.ps.length rB.cp) := (cell_of_row _ _ _ _ _ _ fb).trans rfl
  have u4 : Y7.cell? ⟨bb, 1, none⟩ = some (.slice rB.sa M.ss.length rB.cs) := (cell_of_row _ _ _ _ _ _ fb).trans rfl
  have u5 : Y7.cell? ⟨bb, 2, none⟩ = some (.slice rB.ka M.ks.length rB.ck) := (cell_of_row _ _ _ _ _ _ fb).trans rfl
  have u6 : Y7.cell? ⟨wb, 0, none⟩ = some (.slice rC.pa M.ps.length rC.cp) := (cell_of_row _ _ _ _ _ _ fc).trans rfl
  have u7 : Y7.cell? ⟨wb, 1, none⟩ = some (.slice rC.sa M.ss.length rC.cs) := (cell_of_row _ _ _ _ _ _ fc).trans rfl
  have u8 : Y7.cell? ⟨wb, 2, none⟩ = some (.slice rC.ka M.ks.length rC.ck) := (cell_of_row _ _ _ _ _ _ fc).trans rfl
  clear z1 z2 z3 z4 z5 z6 z7 qa qb fa fb fc MA6 MB6 MC6 q67 q7 y0 y1 y2
  go_wp2_with fail
  refine (HFR.out _ _ _ _ _ _ _ HM6.out.1 HM6.out.2.1 HM6.out.2.2 HAP1.out HAP2.out).mono ?_
  rintro e Y8 ⟨rfl, q8⟩
  go_wp2_with fail
  refine (HA.out _).mono ?_
  rintro e Y9 ⟨rfl, q9⟩
  go_wp2_with fail
  go_ret
  exact ⟨rfl, Same.trans (Fr.trans HW6.out q8 (fun kk hk e => by have := HAL.out kk e; omega)) q9⟩
theorem gsplices_walk {p q at_ many : Int} {r1 : Nr} {N : Nd} {S : List ByteArray} {K : List Kid} {sa : Option Addr} {sb so cs0 : Nat} {ka : Option Addr} {kb ko ck0 : Nat} (w : World) (i1 : NdIn w r1 N) (hc : NdCapN r1 N) (i2 : NdIn w (⟨none, 0, 0, 0, sa, sb, so, cs0, ka, kb, ko, ck0⟩ : Nr) ⟨[], S, K⟩) (h : SmallS N S K) (hat : at_ ≤ 9223372036854775807) :
    Calls Try.prog 3 #[.agg #[.int .i64 p, .int .i64 q, .slice r1.pa N.ps.length r1.cp, .slice r1.sa N.ss.length r1.cs, .slice r1.ka N.ks.length r1.ck, .int .i64 at_, .int .i64 many, .slice ka K.length ck0, .slice sa S.length cs0]] w fun e w' => e = .returned (.bool true) ∧ Same w w' := by
  obtain ⟨M, E, hM, hk, b1, b2⟩ := splice_both (p := p) (q := q) (at_ := at_) (many := many) h i1.at_.ok i2.at_.ok hat
  exact gsplices_core w i1 i2 h hM hk (fun W gp cp gs cs gk ck gp2 cp2 gs2 cs2 gk2 ck2 B B2 l1 l2 => (b1 _ _ W (l1.in_ i1.at_) l1.roomL (l2.in_ i2.at_)).mono fun e w' ⟨⟨r', x, y⟩, z⟩ => ⟨r', x, y, z⟩) (fun W s => (b2 r1 (⟨none, 0, 0, 0, sa, sb, so, cs0, ka, kb, ko, ck0⟩ : Nr) W (i1.same s) hc (i2.same s)).mono fun e w' ⟨⟨r', x, y⟩, z⟩ => ⟨r', x, y, z⟩)
end Go.Proofs.Yteddbkbfnafbpaa
namespace Go.Proofs.Yteddbkbfnafbpaa
open Go.ChangeShapes Go.WideShapes Go.ChangeAt Go.RowKit
open Go.ChangeMaps (open_string shut_string)

set_option maxRecDepth 100000 in
theorem gsplices_contract (H : Type) (enc : TypeId × Value → H) (W : World) (base : Nat) (args : Array Value) (ds gs : List (DataW H)) (before : List MemPlace)
    (hval : ∀ (j : Nat) t v, Try.f3.params[j]? = some t → args[j]? = some v → Value.okWide Try.prog W .any base t v)
    (hW : DataW.Whole enc Try.prog Try.f3.params.toList Rows.graftSplicesSpec.vars false W args.toList ds gs before) (hk : Rows.uptoSmall H (ds ++ gs) = true) :
    Calls Try.prog 3 args W fun e W' => ∃ v, e = .returned v ∧ Rows.graftSplicesSpec.post enc Try.prog Try.f3 false true false false W args v W' := by
  have hW' := hW
  obtain ⟨p, q, hA0, hV, rfl, hfz, hnd⟩ := hW
  have hA : DataW.TrodAll enc Try.prog W 0 (fun _ => true) true Try.f3.params.toList args.toList ds p := hA0
  rw [Try.params3] at hA hval
  obtain ⟨v0, vs0, d0, ds0, p0, q0, hargs, rfl, rfl, h0, r0⟩ := trodAll_cons hA
  obtain ⟨rfl, rfl, rfl⟩ := trodAll_nil r0
  obtain rfl : args = #[v0] := by cases args; simp_all
  obtain ⟨rfl, rfl⟩ := trodVars_none hV
  have k0 := h0
  have lt0 : ∀ x ∈ p0, x.block < W.heap.size := by obtain ⟨m, hm⟩ := k0; exact DataW.trod_lt m _ _ _ hm
  have hB : Rows.uptoBulkAll [d0] ≤ 1048576 := by
    simp only [List.append_nil] at hk
    exact of_decide_eq_true hk
  simp only [Rows.uptoBulkAll] at hB
  obtain ⟨fp0, fq0, at0, mn0, r0, N0, S0, K0, sa0, sb0, so0, cs0, ka0, kb0, ko0, ck0, rfl, i0, hc0, j0, hm0, hat0⟩ := open_spliced (hval 0 30 v0 rfl rfl) h0 (by omega)
  clear hA0 hval
  refine (gsplices_walk (p := fp0) (q := fq0) W i0 hc0 j0 hm0 hat0).mono fun e W' ⟨he, sm⟩ => ?_
  subst he
  have bel : Below W.heap.size W W' := Fr.below sm (Nat.le_refl _) (fun _ f => f.elim)
  exact ⟨_, rfl, _, _, _, [], _, [], hW', trodAll_mk1 (shut_bool Try.underlying4 _), trodAll_cons_mk (Below.trod nd_laidOut (by kernel_rfl) (of_decide_eq_true (by kernel_rfl)) k0 bel lt0) trodAll_mk0, rfl, bel.frame _, fun h => by cases h⟩

set_option maxRecDepth 100000 in
theorem gsplices_lifted (os : Os) (started : os.Started) (H : Type) (enc : TypeId × Value → H) (F : Stop.Interp) :
    ReturnsInHanded {} Try.checked os 3 .any ((Rows.OpenSpec.upto Rows.graftSplicesSpec).pre6 enc Try.prog Try.f3 Rows.graftSplicesUptoRow.domain false) (((Rows.OpenSpec.upto Rows.graftSplicesSpec).at F).post enc Try.prog Try.f3 false true false false) := by
  refine returnsInHanded_of_cond (C := Try.checked) (s := Rows.OpenSpec.upto Rows.graftSplicesSpec) (k := Rows.uptoSmall) rfl nd_own started (by kernel_rfl) Try.func3
    (OpenSpec.witness (enc := enc) (C := Try.checked) (s := Rows.OpenSpec.upto Rows.graftSplicesSpec) (k := Rows.uptoSmall) rfl false ⟨#[], #[.agg #[.int .i64 0, .int .i64 0, .slice none 0 0, .slice none 0 0, .slice none 0 0, .int .i64 0, .int .i64 0, .slice none 0 0, .slice none 0 0]], []⟩ 8 (by kernel_rfl) (by kernel_rfl) (by kernel_rfl)
      (x := ([.agg [.agg [.lit (.int .i64 0), .lit (.int .i64 0)], .agg [.nil, .nil, .nil], .lit (.int .i64 0), .lit (.int .i64 0), .nil, .nil]], [], [])) (by kernel_rfl) rfl (by kernel_rfl)) ?_
  intro W base args ds gs before hval hW _ hk _
  exact gsplices_contract H enc W base args ds gs before hval hW hk

theorem gsplices_holds : Rows.GraftSplicesUptoSaid :=
  OpenClaim.holds_of_cond 3 Try.f3 rfl rfl rfl rfl rfl rfl rfl ⟨rfl, rfl, rfl, rfl, rfl⟩ rfl rfl rfl rfl rfl (by kernel_rfl) Try.func3 (by kernel_rfl)
    (of_decide_eq_true (by kernel_rfl)) (by unfold Func.isWrapper; first | (rw [if_pos (by decide +kernel)]; kernel_rfl) | (rw [if_neg (by decide +kernel)]; exact ⟨rfl, rfl⟩))
    (fun os started H enc _ F => gsplices_lifted os started H enc F)
end Go.Proofs.Yteddbkbfnafbpaa
