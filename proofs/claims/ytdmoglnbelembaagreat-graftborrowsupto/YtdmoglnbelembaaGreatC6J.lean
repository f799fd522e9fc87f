/- What joined answers, in all its ways. -/
import Derived.Test.YtdmoglnbelembaaGreatGO4J
import Derived.Test.YtdmoglnbelembaaGreatB7J
import Derived.Test.YtdmoglnbelembaaGreatC4
import Derived.Test.YtdmoglnbelembaaGreatKV
namespace Go.Proofs.YtdmoglnbelembaaGreat
open Go.RowKit

def lowB (N : Nd) (sp : ByteArray) : Bool := (N.ps.getLast?.all fun x => Op.bytesLess x.1.toList sp.toList) && (N.ss.getLast?.all fun x => Op.bytesLess x.toList sp.toList)
def highB (N : Nd) (sp : ByteArray) : Bool := (N.ps.head?.all fun y => !Op.bytesLess y.1.toList sp.toList) && (N.ss.head?.all fun y => Op.bytesLess sp.toList y.toList)
def mayB (p : Int) (sp : ByteArray) : Bool := decide (1 ≤ sp.size) && decide ((sp.size : Int) ≤ p / 16)
/-- Halves in order. -/
def stB (p : Int) (N1 N2 : Nd) (sp : ByteArray) : Bool := mayB p sp && (lowB N1 sp && highB N2 sp)
/-- What joined answers. -/
def joinP (p q : Int) (N1 N2 : Nd) (sp : ByteArray) : Nd × Int :=
  if frameP p q = true then
    (if (leafG p q N1 && leafG p q N2) = true then (if stB p N1 N2 sp = true then (⟨N1.ps ++ N2.ps, [], []⟩, 0) else (noNd, 81))
    else if (branchG p q N1 && branchG p q N2) = true then (if stB p N1 N2 sp = true then (⟨[], N1.ss ++ sp :: N2.ss, N1.ks ++ N2.ks⟩, 0) else (noNd, 81))
    else (noNd, 80))
  else (noNd, 2)
theorem all_below {mk : Int} {sp : ByteArray} : ∀ (l : List ByteArray) (pv : ByteArray), risesP mk pv l = true → (l.getLast?.all fun x => Op.bytesLess x.toList sp.toList) = true → ∀ x ∈ l, Op.bytesLess x.toList sp.toList = true
  | [], _, _, _ => fun x hx => by cases hx
  | [z], _, _, h => fun x hx => by
    rcases List.mem_cons.1 hx with rfl | hx
    · simpa using h
    · cases hx
  | z :: y :: l, pv, hr, h => fun x hx => by
    obtain ⟨_, _, h3⟩ := rises_cons.1 hr
    have ih := all_below (y :: l) z h3 (by rw [List.getLast?_cons_cons] at h; exact h)
    rcases List.mem_cons.1 hx with rfl | hx
    · exact less_trans (rises_cons.1 h3).1 (ih y List.mem_cons_self)
    · exact ih x hx
theorem find_len {k : ByteArray} : ∀ (ps : List (ByteArray × ByteArray)), (findP k ps 0).1 = ps.length → ∀ x ∈ ps, Op.bytesLess x.1.toList k.toList = true
  | [], _ => fun x hx => by cases hx
  | y :: ps, h => fun x hx => by
    rw [find_cons] at h
    rcases cmp_cases y.1 k with ⟨h1, e⟩ | ⟨_, e⟩ | ⟨_, e⟩
    · rw [e] at h
      simp only [show ¬ ((-1 : Int) = 0) by decide, show ¬ ((-1 : Int) = 1) by decide, if_false, List.length_cons, Nat.add_right_cancel_iff] at h
      rcases List.mem_cons.1 hx with rfl | hx
      · exact h1
      · exact find_len ps h x hx
    · rw [e] at h; simp at h
    · rw [e] at h; simp at h
theorem low_find {mk : Int} {sp pv : ByteArray} {ps : List (ByteArray × ByteArray)} (hr : risesP mk pv (ps.map (·.1)) = true) : ((findP sp ps 0).1 = ps.length) ↔ (ps.getLast?.all fun x => Op.bytesLess x.1.toList sp.toList) = true := by
  constructor
  · intro h
    have := find_len ps h
    cases hl : ps.getLast? with
    | none => rfl
    | some z => exact this z (List.mem_of_getLast? hl)
  · intro h
    rw [find_above sp ps]
    intro x hx
    refine all_below _ pv hr ?_ x.1 (List.mem_map.2 ⟨x, hx, rfl⟩)
    rw [List.getLast?_map]
    cases hl : ps.getLast? with
    | none => rfl
    | some z => rw [hl] at h; exact h
theorem high_find {sp : ByteArray} {ps : List (ByteArray × ByteArray)} : ((findP sp ps 0).1 = 0) ↔ (ps.head?.all fun y => !Op.bytesLess y.1.toList sp.toList) = true := by
  cases ps with
  | nil => exact ⟨fun _ => rfl, fun _ => rfl⟩
  | cons y l =>
    constructor
    · intro h
      rw [find_cons] at h
      rcases cmp_cases y.1 sp with ⟨_, e⟩ | ⟨rfl, _⟩ | ⟨e, _⟩
      · rw [e] at h; simp at h
      · simp [less_self]
      · have := not_below e
        rw [Bool.or_eq_false_iff] at this
        simp [this.1]
    · intro h
      exact find_firstly sp y l (by simpa using h)
theorem mayG_calls {p q : Int} {sp : ByteArray} (hf : frameP p q = true) (W : World) : Calls Tryz.prog 26 #[frameV p q, .string sp] W fun e w' => e = .returned (.bool (mayB p sp)) ∧ Same W w' := mayKeyG_calls W (frameP_cases hf).1
theorem ordered_L {p q : Int} {r1 r2 : Nr} {N1 N2 : Nd} {sp : ByteArray} (w : World) (hf : frameP p q = true) (l1 : leafG p q N1 = true) (l2 : leafG p q N2 = true) (n1 : NdAt w r1 N1) (n2 : NdAt w r2 N2) :
    Calls Tryz.prog 35 #[frameV p q, .agg (halvesN r1 r2 N1 N2 sp)] w fun e w' => e = .returned (.bool (stB p N1 N2 sp)) ∧ Same w w' := by
  unfold leafG at l1 l2
  simp only [Bool.and_eq_true, decide_eq_true_eq] at l1 l2
  obtain ⟨s1, _, _, hr1, _⟩ := chk_leaf l1.1 l1.2
  obtain ⟨s2, _, _, _, _⟩ := chk_leaf l2.1 l2.2
  have HM := fun W => mayG_calls (sp := sp) hf W
  unfold stB lowB highB
  rw [s1, s2]
  simp only [List.getLast?_nil, List.head?_nil, Option.all_none, Bool.and_true]
  have hs : Hid (N1.ss.length = 0) := by show N1.ss.length = 0; rw [s1]; rfl
  cases hm : mayB p sp with
  | false => rw [hm] at HM; exact ordered_may w HM
  | true =>
    rw [hm] at HM
    have F1 := fun W (s : Same w W) => find_core (cp := r1.cp) (sa := r1.sa) (ka := r1.ka) (ns := N1.ss.length) (cs := r1.cs) (nk := N1.ks.length) (ck := r1.ck) (key := sp) W (n1.same s).hp n1.lp
    have F2 := fun W (s : Same w W) => find_core (cp := r2.cp) (sa := r2.sa) (ka := r2.ka) (ns := N2.ss.length) (cs := r2.cs) (nk := N2.ks.length) (ck := r2.ck) (key := sp) W (n2.same s).hp n2.lp
    by_cases e1 : (findP sp N1.ps 0).1 = N1.ps.length
    · rw [(low_find hr1).1 e1]
      rw [e1] at F1
      by_cases e2 : (findP sp N2.ps 0).1 = 0
      · rw [high_find.1 e2]
        rw [e2] at F2
        exact ordered_leaf w hs HM F1 F2
      · have e3 : (N2.ps.head?.all fun y => !Op.bytesLess y.1.toList sp.toList) = false := by
          rw [Bool.eq_false_iff]; exact fun h => e2 (high_find.2 h)
        rw [e3]
        exact ordered_leafG w hs e2 HM F1 F2
    · have e3 : (N1.ps.getLast?.all fun x => Op.bytesLess x.1.toList sp.toList) = false := by
        rw [Bool.eq_false_iff]; exact fun h => e1 ((low_find hr1).2 h)
      rw [e3]
      exact ordered_leafF w hs e1 HM F1 F2
theorem ordered_B {p q : Int} {r1 r2 : Nr} {N1 N2 : Nd} {sp : ByteArray} (w : World) (hf : frameP p q = true) (l1 : branchG p q N1 = true) (l2 : branchG p q N2 = true) (n1 : NdAt w r1 N1) (n2 : NdAt w r2 N2) (hb : N1.ss.length ≤ 1048576) :
    Calls Tryz.prog 35 #[frameV p q, .agg (halvesN r1 r2 N1 N2 sp)] w fun e w' => e = .returned (.bool (stB p N1 N2 sp)) ∧ Same w w' := by
  unfold branchG at l1 l2
  simp only [Bool.and_eq_true, decide_eq_true_eq] at l1 l2
  obtain ⟨_, hs1, hk1⟩ := chk_branch l1.1 l1.2
  obtain ⟨_, hs2, hk2⟩ := chk_branch l2.1 l2.2
  obtain ⟨p1, _, _⟩ := branch_parts l1.1 l1.2
  obtain ⟨p2, _, _⟩ := branch_parts l2.1 l2.2
  have HM := fun W => mayG_calls (sp := sp) hf W
  unfold stB lowB highB
  rw [p1, p2]
  simp only [List.getLast?_nil, List.head?_nil, Option.all_none, Bool.true_and]
  cases hm : mayB p sp with
  | false => rw [hm] at HM; exact ordered_may w HM
  | true =>
    rw [hm] at HM
    rcases List.eq_nil_or_concat N1.ss with e | ⟨L, x, e⟩
    · rw [e] at hs1; simp at hs1; omega
    · have hk : N1.ss.length = L.length + 1 := by rw [e]; simp
      have hx : N1.ss[L.length]? = some x := by rw [e]; simp
      obtain ⟨y, l, ey⟩ : ∃ y l, N2.ss = y :: l := by
        cases h : N2.ss with
        | nil => rw [h] at hs2; simp at hs2; omega
        | cons y l => exact ⟨y, l, rfl⟩
      have hy : N2.ss[0]? = some y := by rw [ey]; rfl
      rw [show N1.ss.getLast? = some x by rw [e]; simp, show N2.ss.head? = some y by rw [ey]; rfl]
      simp only [Option.all_some]
      cases hx1 : Op.bytesLess x.toList sp.toList with
      | false => exact ordered_branchF w hk n1.hs n2.hs hx hy hx1 (by omega) HM
      | true =>
        cases hy1 : Op.bytesLess sp.toList y.toList with
        | false => exact ordered_branchG w hk n1.hs n2.hs hx hy hx1 hy1 (by omega) HM
        | true => exact ordered_branch w hk n1.hs n2.hs hx hy hx1 hy1 (by omega) HM
theorem nil_made {w : World} {B : Nat} : MadeNd w B noNr noNd := ⟨own_nil, own_nil, own_nil⟩
set_option maxRecDepth 100000 in
theorem joined_calls {p q : Int} {r1 r2 : Nr} {N1 N2 : Nd} {sp : ByteArray} (w : World) (i1 : NdIn w r1 N1) (i2 : NdIn w r2 N2) (m1 : NdRoom r1 N1) (hp : N1.ps.length + N2.ps.length ≤ 1048576) (hs : N1.ss.length + N2.ss.length + 1 ≤ 1048576) (hk : N1.ks.length + N2.ks.length ≤ 1048576) :
    Calls Tryz.prog 18 #[frameV p q, .agg (halvesN r1 r2 N1 N2 sp)] w fun e w' => ∃ r, e = .returned (.tuple #[ndV r (joinP p q N1 N2 sp).1, .int .i64 (joinP p q N1 N2 sp).2]) ∧ MadeNd w' w.heap.size r (joinP p q N1 N2 sp).1 ∧ Same w w' ∧ ((joinP p q N1 N2 sp).2 ≠ 0 → r = noNr) := by
  have I1 := fun W (s : Same w W) => isLeafG_calls (p := p) (q := q) W (i1.at_.same s)
  have I2 := fun W (s : Same w W) => isLeafG_calls (p := p) (q := q) W (i2.at_.same s)
  have J1 := fun W (s : Same w W) => isBranchG_calls (p := p) (q := q) W (i1.at_.same s)
  have J2 := fun W (s : Same w W) => isBranchG_calls (p := p) (q := q) W (i2.at_.same s)
  have HA := fun b W => askedG_calls (p := p) (q := q) (b := b) W
  have bad : ∀ {E : Int} {e : Ending} {w' : World}, e = .returned (.tuple #[nodeV none 0 0 none 0 0 none 0 0, .int .i64 E]) ∧ Same w w' → ∃ r, e = .returned (.tuple #[ndV r noNd, .int .i64 E]) ∧ MadeNd w' w.heap.size r noNd ∧ Same w w' ∧ (E ≠ 0 → r = noNr) := fun ⟨h1, h2⟩ => ⟨noNr, h1, nil_made, h2, fun _ => rfl⟩
  have hlb : ∀ N : Nd, leafG p q N = true → branchG p q N = false := fun N h => by
    unfold leafG at h
    unfold branchG
    simp only [Bool.and_eq_true, decide_eq_true_eq] at h
    rw [decide_eq_false (by omega : ¬ 0 < N.ks.length), Bool.and_false]
  by_cases hf : frameP p q = true
  · have HA1 := HA true
    have HA0 := HA false
    unfold askE at HA1 HA0
    rw [if_pos hf] at HA1 HA0
    simp only [if_true, Bool.false_eq_true, if_false] at HA1 HA0
    unfold joinP
    rw [if_pos hf]
    cases c1 : leafG p q N1 with
    | true =>
      have d1 := hlb N1 c1
      rw [c1] at I1
      rw [d1] at J1
      cases c2 : leafG p q N2 with
      | true =>
        rw [c2] at I2
        have HO := fun W (s : Same w W) => ordered_L (sp := sp) W hf c1 c2 (i1.at_.same s) (i2.at_.same s)
        simp only [Bool.and_self, if_true]
        cases hst : stB p N1 N2 sp with
        | true =>
          rw [hst] at HO
          simp only [if_true]
          refine (joined_leaf (n := N1.ps.length + N2.ps.length) (cs := pcells N1.ps ++ pcells N2.ps) w I1 I2 J1 HA1 HO (fun W gb s hg => concat2Pairs W gb (i1.same s).pp (i2.same s).pp hg hp)).mono ?_
          rintro e w' ⟨ao, c, rfl, o, s⟩
          refine ⟨⟨ao, 0, 0, c, none, 0, 0, 0, none, 0, 0, 0⟩, ?_, ⟨?_, own_nil, own_nil⟩, s, fun h => absurd rfl h⟩
          · unfold ndV; simp only [List.length_append]; rfl
          · show World.ownsRow _ _ _ _ (.slice ao (N1.ps ++ N2.ps).length c) (N1.ps ++ N2.ps).length (pcells (N1.ps ++ N2.ps))
            rw [List.length_append, pcells_app]; exact o
        | false =>
          rw [hst] at HO
          simp only [Bool.false_eq_true, if_false]
          exact (joined_leafO w I1 I2 J1 HA1 HO).mono fun e w' h => bad h
      | false =>
        rw [c2] at I2
        simp only [Bool.and_false, Bool.false_eq_true, if_false]
        rw [d1]
        simp only [Bool.false_and, Bool.false_eq_true, if_false]
        exact (joined_sC w (by decide) I1 I2 J1 HA0).mono fun e w' h => bad h
    | false =>
      rw [c1] at I1
      simp only [Bool.false_and, Bool.false_eq_true, if_false]
      cases d1 : branchG p q N1 with
      | false =>
        rw [d1] at J1
        simp only [Bool.false_and, Bool.false_eq_true, if_false]
        exact (joined_sA w (by decide) I1 J1 HA0).mono fun e w' h => bad h
      | true =>
        rw [d1] at J1
        cases d2 : branchG p q N2 with
        | false =>
          rw [d2] at J2
          simp only [Bool.and_false, Bool.false_eq_true, if_false]
          exact (joined_sB w (by decide) I1 J1 J2 HA0).mono fun e w' h => bad h
        | true =>
          rw [d2] at J2
          have HO := fun W (s : Same w W) => ordered_B (sp := sp) W hf d1 d2 (i1.at_.same s) (i2.at_.same s) (by omega)
          simp only [Bool.and_self, if_true]
          cases hst : stB p N1 N2 sp with
          | false =>
            rw [hst] at HO
            simp only [Bool.false_eq_true, if_false]
            exact (joined_branchO w I1 J1 J2 HA1 HO).mono fun e w' h => bad h
          | true =>
            rw [hst] at HO
            simp only [if_true]
            refine (joined_branch (n3 := (N1.ss.length + 1) + N2.ss.length) (n4 := N1.ks.length + N2.ks.length) (cs1 := scells N1.ss ++ [.string sp]) (cs3 := (scells N1.ss ++ [.string sp]) ++ scells N2.ss) (cs4 := kcellsL N1.ks ++ kcellsL N2.ks) w I1 J1 J2 HA1 HO (fun W bo s hb => ?_) (fun W gb ao c B' s o hg => ?_) (fun W gb s hg => ?_)).mono ?_
            · have hpart : PartOk W 1 ⟨some ⟨bo, 0, none⟩, 1, 1, [.string sp]⟩ := ⟨rfl, fun e => (by cases e), fun a ha j u hj => by
                cases ha
                rw [WideShapes.add_plain, Nat.zero_add, cell_of_row _ _ _ _ _ _ hb, ← Array.getElem?_toList]
                exact hj, fun u hu => by simp at hu; subst hu; rfl⟩
              have := withTexts (i := N1.ss.length) W (i1.same s).sp m1.s3 hpart (Nat.le_refl _) m1.cs (by omega)
              rw [scells_takeK, scells_dropK, List.take_length, List.drop_length] at this
              refine this.mono ?_
              rintro e w' ⟨ao, c, he, ho, hs'⟩
              exact ⟨ao, c, he, own_base (by simpa [scells] using ho) s.size, hs'⟩
            · refine (concat2Texts W gb (own_partG o (fun u hu => by
                rcases List.mem_append.1 hu with h | h
                · exact scells_one _ u h
                · simp at h; subst h; rfl)) (i2.same s).sp hg (by omega)).mono ?_
              rintro e w' ⟨ao, c, he, ho, hs'⟩
              exact ⟨ao, c, he, own_base ho s.size, hs'⟩
            · refine (concat2Kids W gb (i1.same s).kp (i2.same s).kp hg hk).mono ?_
              rintro e w' ⟨ao, c, he, ho, hs'⟩
              exact ⟨ao, c, he, own_base ho s.size, hs'⟩
            · rintro e w' ⟨a3, c3, a4, c4, rfl, o3, o4, s⟩
              have hl3 : (N1.ss ++ sp :: N2.ss).length = (N1.ss.length + 1) + N2.ss.length := by rw [List.length_append, List.length_cons]; omega
              refine ⟨⟨none, 0, 0, 0, a3, 0, 0, c3, a4, 0, 0, c4⟩, ?_, ⟨own_nil, ?_, ?_⟩, s, fun h => absurd rfl h⟩
              · unfold ndV; simp only [hl3, List.length_append]; rfl
              · show World.ownsRow _ _ _ _ (.slice a3 (N1.ss ++ sp :: N2.ss).length c3) (N1.ss ++ sp :: N2.ss).length (scells (N1.ss ++ sp :: N2.ss))
                rw [hl3]
                have : scells (N1.ss ++ sp :: N2.ss) = (scells N1.ss ++ [.string sp]) ++ scells N2.ss := by simp [scells]
                rw [this]; exact o3
              · show World.ownsRow _ _ _ _ (.slice a4 (N1.ks ++ N2.ks).length c4) (N1.ks ++ N2.ks).length (kcellsL (N1.ks ++ N2.ks))
                rw [List.length_append, kcellsL_app]; exact o4
  · have hc : ∀ N, chkN p q N ≠ 0 := fun N h => hf (chk_zero h).1
    have c1 : leafG p q N1 = false := by unfold leafG; rw [decide_eq_false (hc N1)]; rfl
    have d1 : branchG p q N1 = false := by unfold branchG; rw [decide_eq_false (hc N1)]; rfl
    have HA0 := HA false
    unfold askE at HA0
    rw [if_neg hf] at HA0
    unfold joinP
    rw [if_neg hf]
    rw [c1] at I1
    rw [d1] at J1
    exact (joined_sA w (by decide) I1 J1 HA0).mono fun e w' h => bad h
end Go.Proofs.YtdmoglnbelembaaGreat
namespace Go.Proofs.YtdmoglnbelembaaGreat
open Go.RowKit

theorem may_false {p : Int} {sp : ByteArray} (hp : p = 1024 ∨ p = 2048 ∨ p = 4096 ∨ p = 8192) : (mayB p sp = true → decide ((sp.size : Int) < 1) = false ∧ decide (RowKit.wrap64 (p.tdiv 16) < (sp.size : Int)) = false) ∧ (mayB p sp = false → decide ((sp.size : Int) < 1) = true ∨ (decide ((sp.size : Int) < 1) = false ∧ decide (RowKit.wrap64 (p.tdiv 16) < (sp.size : Int)) = true)) := by
  have e : RowKit.wrap64 (p.tdiv 16) = p / 16 := by rcases hp with rfl | rfl | rfl | rfl <;> decide +kernel
  rw [e]
  unfold mayB
  constructor
  · intro h
    simp only [Bool.and_eq_true, decide_eq_true_eq] at h
    exact ⟨decide_eq_false (by omega), decide_eq_false (by omega)⟩
  · intro h
    by_cases h1 : (sp.size : Int) < 1
    · exact Or.inl (decide_eq_true h1)
    · refine Or.inr ⟨decide_eq_false h1, decide_eq_true ?_⟩
      rw [decide_eq_true (by omega : 1 ≤ sp.size), Bool.true_and, decide_eq_false_iff_not] at h
      omega
theorem dstands_L {p q : Int} {r1 r2 : Nr} {N1 N2 : Nd} {sp : ByteArray} (w : World) (hf : frameP p q = true) (l1 : leafG p q N1 = true) (l2 : leafG p q N2 = true) (n1 : NdAt w r1 N1) (n2 : NdAt w r2 N2) (b1 : N1.ps.length ≤ 1048576) (b2 : N2.ps.length ≤ 1048576) :
    Calls Tryz.prog 43 #[frameV p q, .agg (halvesN r1 r2 N1 N2 sp)] w fun e w' => e = .returned (.bool (stB p N1 N2 sp)) ∧ Same w w' := by
  unfold leafG at l1 l2
  simp only [Bool.and_eq_true, decide_eq_true_eq] at l1 l2
  obtain ⟨s1, _, _, _, _⟩ := chk_leaf l1.1 l1.2
  obtain ⟨s2, _, _, _, _⟩ := chk_leaf l2.1 l2.2
  obtain ⟨may1, may0⟩ := may_false (sp := sp) (frameP_cases hf).1
  unfold stB lowB highB
  rw [s1, s2]
  simp only [List.getLast?_nil, List.head?_nil, Option.all_none, Bool.and_true]
  cases hm : mayB p sp with
  | false =>
    rcases may0 hm with z | ⟨z1, z2⟩
    · exact stands_m0 w z
    · exact stands_m1 w z1 z2
  | true =>
    obtain ⟨z1, z2⟩ := may1 hm
    unfold halvesN
    rw [s1, s2]
    rcases List.eq_nil_or_concat N1.ps with e | ⟨L, x, e⟩
    · rw [e]
      simp only [List.getLast?_nil, Option.all_none, Bool.true_and, List.length_nil]
      cases h2 : N2.ps with
      | nil => exact stands_P0_P0 w z1 z2
      | cons y l =>
        have hx := (n2.hp.cells 0 y (by rw [h2]; rfl)).1
        rw [Nat.zero_mul, Nat.add_zero] at hx
        rw [(n2.hp.place (by rw [h2]; simp)).1]
        rw [h2] at b2
        simp only [List.head?_cons, Option.all_some, List.length_cons] at b2 ⊢
        cases hc : Op.bytesLess y.1.toList sp.toList with
        | false => exact stands_P0_Pt w z1 z2 hx hc b2
        | true => exact stands_P0_Pf w z1 z2 hx hc b2
    · have hk : N1.ps.length = L.length + 1 := by rw [e]; simp
      have hx1 := (n1.hp.cells L.length x (by rw [e]; simp)).1
      rw [(n1.hp.place (by rw [e]; simp)).1, hk, show N1.ps.getLast? = some x by rw [e]; simp]
      simp only [Option.all_some, List.length_nil]
      rw [hk] at b1
      cases hc1 : Op.bytesLess x.1.toList sp.toList with
      | false =>
        rw [Bool.false_and]
        exact stands_Pf_any w z1 z2 hx1 hc1 b1
      | true =>
        rw [Bool.true_and]
        cases h2 : N2.ps with
        | nil => exact stands_Pt_P0 w z1 z2 hx1 hc1 b1
        | cons y l =>
          have hx := (n2.hp.cells 0 y (by rw [h2]; rfl)).1
          rw [Nat.zero_mul, Nat.add_zero] at hx
          rw [(n2.hp.place (by rw [h2]; simp)).1]
          rw [h2] at b2
          simp only [List.head?_cons, Option.all_some, List.length_cons] at b2 ⊢
          cases hc : Op.bytesLess y.1.toList sp.toList with
          | false => exact stands_Pt_Pt w z1 z2 hx1 hc1 b1 hx hc b2
          | true => exact stands_Pt_Pf w z1 z2 hx1 hc1 b1 hx hc b2
theorem dstands_B {p q : Int} {r1 r2 : Nr} {N1 N2 : Nd} {sp : ByteArray} (w : World) (hf : frameP p q = true) (l1 : branchG p q N1 = true) (l2 : branchG p q N2 = true) (n1 : NdAt w r1 N1) (n2 : NdAt w r2 N2) (b1 : N1.ss.length ≤ 1048576) (b2 : N2.ss.length ≤ 1048576) :
    Calls Tryz.prog 43 #[frameV p q, .agg (halvesN r1 r2 N1 N2 sp)] w fun e w' => e = .returned (.bool (stB p N1 N2 sp)) ∧ Same w w' := by
  unfold branchG at l1 l2
  simp only [Bool.and_eq_true, decide_eq_true_eq] at l1 l2
  obtain ⟨_, hs1, hk1⟩ := chk_branch l1.1 l1.2
  obtain ⟨_, hs2, hk2⟩ := chk_branch l2.1 l2.2
  obtain ⟨p1, _, _⟩ := branch_parts l1.1 l1.2
  obtain ⟨p2, _, _⟩ := branch_parts l2.1 l2.2
  obtain ⟨may1, may0⟩ := may_false (sp := sp) (frameP_cases hf).1
  unfold stB lowB highB
  rw [p1, p2]
  simp only [List.getLast?_nil, List.head?_nil, Option.all_none, Bool.true_and]
  cases hm : mayB p sp with
  | false =>
    rcases may0 hm with z | ⟨z1, z2⟩
    · exact stands_m0 w z
    · exact stands_m1 w z1 z2
  | true =>
    obtain ⟨z1, z2⟩ := may1 hm
    unfold halvesN
    rw [p1, p2]
    rcases List.eq_nil_or_concat N1.ss with e | ⟨L, x, e⟩
    · rw [e] at hs1; simp at hs1; omega
    · have hk : N1.ss.length = L.length + 1 := by rw [e]; simp
      have hx1 := n1.hs.cells L.length x (by rw [e]; simp)
      rw [(n1.hs.place (by rw [e]; simp)).1, hk, show N1.ss.getLast? = some x by rw [e]; simp]
      simp only [Option.all_some, List.length_nil]
      rw [hk] at b1
      cases hc1 : Op.bytesLess x.toList sp.toList with
      | false =>
        rw [Bool.false_and]
        exact stands_Sf_any w z1 z2 hx1 hc1 b1
      | true =>
        rw [Bool.true_and]
        cases h2 : N2.ss with
        | nil => rw [h2] at hs2; simp at hs2; omega
        | cons y l =>
          have hx := n2.hs.cells 0 y (by rw [h2]; rfl)
          rw [Nat.add_zero] at hx
          rw [(n2.hs.place (by rw [h2]; simp)).1]
          rw [h2] at b2
          simp only [List.head?_cons, Option.all_some, List.length_cons] at b2 ⊢
          rcases cmp_cases y sp with ⟨e1, _⟩ | ⟨e1, _⟩ | ⟨e1, _⟩
          · have := not_below e1
            rw [Bool.or_eq_false_iff] at this
            rw [this.1]
            exact stands_St_Sf w z1 z2 hx1 hc1 b1 hx (by rw [e1]; rfl) b2
          · rw [e1, less_self]
            rw [e1] at hx
            exact stands_St_Sf w z1 z2 hx1 hc1 b1 hx (by simp) b2
          · rw [e1]
            exact stands_St_St w z1 z2 hx1 hc1 b1 hx (not_below e1) b2
theorem leafG_nil {p q : Int} {N : Nd} (h : leafG p q N = true) : N.ss = [] ∧ N.ks = [] := by
  unfold leafG at h
  simp only [Bool.and_eq_true, decide_eq_true_eq] at h
  obtain ⟨s1, k1, _⟩ := chk_leaf h.1 h.2
  exact ⟨s1, k1⟩
theorem branchG_nil {p q : Int} {N : Nd} (h : branchG p q N = true) : N.ps = [] ∧ 0 < N.ks.length := by
  unfold branchG at h
  simp only [Bool.and_eq_true, decide_eq_true_eq] at h
  exact ⟨(branch_parts h.1 h.2).1, h.2⟩
set_option maxRecDepth 100000 in
theorem one_calls {p q : Int} {r1 r2 : Nr} {N1 N2 : Nd} {sp : ByteArray} (w : World) (i1 : NdIn w r1 N1) (i2 : NdIn w r2 N2) (s1 : NdSmall N1) (s2 : NdSmall N2) :
    Calls Tryz.prog 19 #[frameV p q, .agg (halvesN r1 r2 N1 N2 sp)] w fun e w' => ∃ r, e = .returned (.tuple #[ndV r (joinP p q N1 N2 sp).1, .int .i64 (joinP p q N1 N2 sp).2]) ∧ MadeNd w' w.heap.size r (joinP p q N1 N2 sp).1 ∧ Same w w' ∧ ((joinP p q N1 N2 sp).2 ≠ 0 → r = noNr) := by
  obtain ⟨h1, h2, h3, _, _⟩ := s1.lens
  obtain ⟨h4, h5, h6, _, _⟩ := s2.lens
  have I1 := fun W (s : Same w W) => dleafG_calls (p := p) (q := q) W (i1.at_.same s) h1 h2 h3
  have I2 := fun W (s : Same w W) => dleafG_calls (p := p) (q := q) W (i2.at_.same s) h4 h5 h6
  have J1 := fun W (s : Same w W) => dbranchG_calls (p := p) (q := q) W (i1.at_.same s) h1 h2 h3
  have J2 := fun W (s : Same w W) => dbranchG_calls (p := p) (q := q) W (i2.at_.same s) h4 h5 h6
  have HR := fun W => dright_calls p q W
  have bad : ∀ {E : Int} {e : Ending} {w' : World}, e = .returned (.tuple #[nodeV none 0 0 none 0 0 none 0 0, .int .i64 E]) ∧ Same w w' → ∃ r, e = .returned (.tuple #[ndV r noNd, .int .i64 E]) ∧ MadeNd w' w.heap.size r noNd ∧ Same w w' ∧ (E ≠ 0 → r = noNr) := fun ⟨h1, h2⟩ => ⟨noNr, h1, nil_made, h2, fun _ => rfl⟩
  have hlb : ∀ N : Nd, leafG p q N = true → branchG p q N = false := fun N h => by
    unfold leafG at h
    unfold branchG
    simp only [Bool.and_eq_true, decide_eq_true_eq] at h
    rw [decide_eq_false (by omega : ¬ 0 < N.ks.length), Bool.and_false]
  by_cases hf : frameP p q = true
  · rw [hf] at HR
    unfold joinP
    rw [if_pos hf]
    cases c1 : leafG p q N1 with
    | true =>
      have d1 := hlb N1 c1
      rw [c1] at I1
      rw [d1] at J1
      cases c2 : leafG p q N2 with
      | true =>
        rw [c2] at I2
        have HO := fun W (s : Same w W) => dstands_L (sp := sp) W hf c1 c2 (i1.at_.same s) (i2.at_.same s) h1 h4
        simp only [Bool.and_self, if_true]
        cases hst : stB p N1 N2 sp with
        | true =>
          rw [hst] at HO
          simp only [if_true]
          obtain ⟨e1, e2⟩ := leafG_nil c1
          obtain ⟨e3, e4⟩ := leafG_nil c2
          have := one_leaf w i1 i2 h1 h2 h3 h4 h5 h6 (by rw [e2, e4]; rfl) HR I1 I2 HO
          rw [show N1.ss ++ N2.ss = [] by rw [e1, e3]; rfl, show N1.ks ++ N2.ks = [] by rw [e2, e4]; rfl] at this
          exact this.mono fun e w' ⟨r, h1, h2, h3⟩ => ⟨r, h1, h2, h3, fun h => absurd rfl h⟩
        | false =>
          rw [hst] at HO
          simp only [Bool.false_eq_true, if_false]
          exact (one_leafO w HR I1 I2 HO).mono fun e w' h => bad h
      | false =>
        rw [c2] at I2
        simp only [Bool.and_false, Bool.false_eq_true, if_false]
        rw [d1]
        simp only [Bool.false_and, Bool.false_eq_true, if_false]
        exact (one_sC w HR I1 I2 J1).mono fun e w' h => bad h
    | false =>
      rw [c1] at I1
      simp only [Bool.false_and, Bool.false_eq_true, if_false]
      cases d1 : branchG p q N1 with
      | false =>
        rw [d1] at J1
        simp only [Bool.false_and, Bool.false_eq_true, if_false]
        exact (one_sA w HR I1 J1).mono fun e w' h => bad h
      | true =>
        rw [d1] at J1
        cases d2 : branchG p q N2 with
        | false =>
          rw [d2] at J2
          simp only [Bool.and_false, Bool.false_eq_true, if_false]
          exact (one_sB w HR I1 J1 J2).mono fun e w' h => bad h
        | true =>
          rw [d2] at J2
          have HO := fun W (s : Same w W) => dstands_B (sp := sp) W hf d1 d2 (i1.at_.same s) (i2.at_.same s) h2 h5
          simp only [Bool.and_self, if_true]
          cases hst : stB p N1 N2 sp with
          | false =>
            rw [hst] at HO
            simp only [Bool.false_eq_true, if_false]
            exact (one_branchO w HR I1 J1 J2 HO).mono fun e w' h => bad h
          | true =>
            rw [hst] at HO
            simp only [if_true]
            obtain ⟨e1, e2⟩ := branchG_nil d1
            obtain ⟨e3, _⟩ := branchG_nil d2
            have := one_branch w i1 i2 h1 h2 h3 h4 h5 h6 e2 HR I1 J1 J2 HO
            rw [show N1.ps ++ N2.ps = [] by rw [e1, e3]; rfl] at this
            exact this.mono fun e w' ⟨r, h1, h2, h3⟩ => ⟨r, h1, h2, h3, fun h => absurd rfl h⟩
  · rw [Bool.not_eq_true] at hf
    rw [hf] at HR
    unfold joinP
    rw [if_neg (by rw [hf]; decide)]
    exact (one_arg w HR).mono fun e w' h => bad h
end Go.Proofs.YtdmoglnbelembaaGreat
namespace Go.Proofs.YtdmoglnbelembaaGreat
open Go.RowKit

/-- How much two halves that came in hold. -/
structure Small2 (N1 N2 : Nd) (sp : ByteArray) : Prop where
  hp : (N1.ps.map fun x => x.1.size + x.2.size + 3).sum + (N2.ps.map fun x => x.1.size + x.2.size + 3).sum ≤ 1048576
  hs : (N1.ss.map fun x => x.size + 1).sum + (N2.ss.map fun x => x.size + 1).sum + (sp.size + 1) ≤ 1048576
  hk : N1.ks.length + N2.ks.length ≤ 1048576
theorem Small2.one {N1 N2 : Nd} {sp : ByteArray} (h : Small2 N1 N2 sp) : NdSmall N1 := ⟨by have := h.hp; omega, by have := h.hs; omega, by have := h.hk; omega⟩
theorem Small2.two {N1 N2 : Nd} {sp : ByteArray} (h : Small2 N1 N2 sp) : NdSmall N2 := ⟨by have := h.hp; omega, by have := h.hs; omega, by have := h.hk; omega⟩
theorem Small2.lens {N1 N2 : Nd} {sp : ByteArray} (h : Small2 N1 N2 sp) : N1.ps.length + N2.ps.length ≤ 1048576 ∧ N1.ss.length + N2.ss.length + 1 ≤ 1048576 := by
  have a1 := sum_len (fun x : ByteArray × ByteArray => x.1.size + x.2.size + 3) N1.ps (fun x _ => by omega)
  have a2 := sum_len (fun x : ByteArray × ByteArray => x.1.size + x.2.size + 3) N2.ps (fun x _ => by omega)
  have b1 := sum_len (fun x : ByteArray => x.size + 1) N1.ss (fun x _ => by omega)
  have b2 := sum_len (fun x : ByteArray => x.size + 1) N2.ss (fun x _ => by omega)
  have := h.hp
  have := h.hs
  omega
theorem noNd_small : NdSmall noNd := ⟨by simp [noNd], by simp [noNd], by simp [noNd]⟩
theorem join_small {p q : Int} {N1 N2 : Nd} {sp : ByteArray} (h : Small2 N1 N2 sp) (k1 : ∀ x ∈ N1.ks, KidOk x) (k2 : ∀ x ∈ N2.ks, KidOk x) : NdSmall (joinP p q N1 N2 sp).1 ∧ ∀ x ∈ (joinP p q N1 N2 sp).1.ks, KidOk x := by
  have e0 : NdSmall noNd ∧ ∀ x ∈ noNd.ks, KidOk x := ⟨noNd_small, by simp [noNd]⟩
  unfold joinP
  split
  · split
    · split
      · refine ⟨⟨?_, by simp, by simp⟩, by simp⟩
        show ((N1.ps ++ N2.ps).map _).sum ≤ _
        rw [List.map_append, List.sum_append]
        exact h.hp
      · exact e0
    · split
      · split
        · refine ⟨⟨by simp, ?_, ?_⟩, fun x hx => ?_⟩
          · show ((N1.ss ++ sp :: N2.ss).map _).sum ≤ _
            rw [List.map_append, List.sum_append, List.map_cons, List.sum_cons]
            have := h.hs
            omega
          · show (N1.ks ++ N2.ks).length ≤ _
            rw [List.length_append]
            exact h.hk
          · rcases List.mem_append.1 hx with hx | hx
            · exact k1 x hx
            · exact k2 x hx
        · exact e0
      · exact e0
  · exact e0
end Go.Proofs.YtdmoglnbelembaaGreat
namespace Go.Proofs.YtdmoglnbelembaaGreat
open Go.ChangeShapes Go.WideShapes Go.ChangeAt Go.RowKit

set_option maxRecDepth 100000 in
theorem open_node_in {H : Type} {enc : TypeId × Value → H} {W : World} {d : DataW H × List MemPlace} {fuel : Nat} {cs : List Value} (hz : cs.length = 3)
    (hf : DataW.trod enc Tryz.prog W 0 (fun _ => true) true fuel 28 cs = some d) (hb : Rows.uptoBulk d.1 ≤ 1048576) :
    ∃ (r : Nr) (N : Nd), cs = [.slice r.pa N.ps.length r.cp, .slice r.sa N.ss.length r.cs, .slice r.ka N.ks.length r.ck] ∧ NdIn W r N ∧ (N.ps.map fun x => x.1.size + x.2.size + 3).sum + (N.ss.map fun x => x.size + 1).sum + N.ks.length ≤ Rows.uptoBulk d.1 := by
  obtain ⟨x, y, z, rfl⟩ : ∃ x y z, cs = [x, y, z] := by
    match cs, hz with
    | [x, y, z], _ => exact ⟨x, y, z, rfl⟩
  obtain ⟨y0, y1, y2, n, hx, _, f0, f1, f2⟩ := Deep.trod_struct3 Tryz.underlying28 hf
  have c0 : Tryz.prog.cellsOf 24 = 1 := by kernel_rfl
  have c1 : Tryz.prog.cellsOf 25 = 1 := by kernel_rfl
  have c2 : Tryz.prog.cellsOf 26 = 1 := by kernel_rfl
  simp only [c0, c1, c2, List.drop_succ_cons, List.drop_zero, List.take_succ_cons, List.take_zero] at f0 f1 f2
  obtain ⟨pa, pb, po, cp, ps, e0, l0, m0, a0, b0, _, z0, s0⟩ := open_rows (α := ByteArray × ByteArray) 2 (by decide) (fun x => [.string x.1, .string x.2]) (fun _ => True) (fun x => x.1.size + x.2.size + 3) Tryz.underlying24 (by kernel_rfl) (fun m c x hc h => open_pair_in hc h) f0
  obtain ⟨sa, sb, so, cs', ss, e1, l1, m1, a1, b1, _, z1, s1⟩ := open_rows (α := ByteArray) 1 (by decide) (fun x => [.string x]) (fun _ => True) (fun x => x.size + 1) Tryz.underlying25 (by kernel_rfl) (fun m c x hc h => open_text_in h) f1
  obtain ⟨ka, kb, ko, ck, ks, e2, l2, m2, a2, b2, k2, z2, s2⟩ := open_rows (α := Kid) 33 (by decide) kcells KidOk (fun _ => 1) Tryz.underlying26 (by kernel_rfl) (fun m c x hc h => open_kid_in hc h) f2
  simp only [List.cons.injEq, and_true] at e0 e1 e2
  subst e0 e1 e2
  have hd : d.1 = (DataW.agg [y0.1, y1.1, y2.1] : DataW H) := congrArg Prod.fst hx
  rw [hd] at hb ⊢
  simp only [Rows.uptoBulk, Rows.uptoBulkAll] at hb ⊢
  have n0 := sum_len (fun x : ByteArray × ByteArray => x.1.size + x.2.size + 3) ps (fun x _ => by omega)
  have n1 := sum_len (fun x : ByteArray => x.size + 1) ss (fun x _ => by omega)
  have n2 := sum_len (fun _ : Kid => 1) ks (fun x _ => by omega)
  have hml : maxLen = 9223372036854775807 := rfl
  have P : PRow W pa pb po ps := ⟨a0, fun j x hx => ⟨b0 j x hx 0 _ rfl, b0 j x hx 1 _ rfl⟩⟩
  have T : TRow W sa sb so ss := ⟨a1, fun j x hx => by have := b1 j x hx 0 _ rfl; simpa using this⟩
  have K : KRow W ka kb ko ks := ⟨a2, b2⟩
  refine ⟨⟨pa, pb, po, cp, sa, sb, so, cs', ka, kb, ko, ck⟩, ⟨ps, ss, ks⟩, rfl, ⟨⟨P, T, K, k2, by show ps.length ≤ _; omega, by show ss.length ≤ _; omega, by show ks.length ≤ _; omega⟩, prow_part P z0, trow_part T z1, krow_part k2 K z2⟩, ?_⟩
  show (ps.map _).sum + (ss.map _).sum + ks.length ≤ _
  omega
set_option maxRecDepth 100000 in
theorem open_halves {H : Type} {enc : TypeId × Value → H} {W : World} {v : Value} {d : DataW H} {pl : List MemPlace} {base : Nat}
    (hv : Value.okWide Tryz.prog W .any base 30 v) (h : DataW.Trod enc Tryz.prog W 0 (fun _ => true) true 30 v d pl) (hb : Rows.uptoBulk d ≤ 1048576) :
    ∃ (r1 r2 : Nr) (N1 N2 : Nd) (sp : ByteArray), v = .agg (halvesN r1 r2 N1 N2 sp) ∧ NdIn W r1 N1 ∧ NdIn W r2 N2 ∧ Small2 N1 N2 sp := by
  obtain ⟨cs, rfl, hz⟩ := okWide_struct Tryz.underlying30 hv
  rw [show Tryz.prog.cellsOf 30 = 7 from by kernel_rfl] at hz
  obtain ⟨fuel, hf⟩ := h
  obtain ⟨x0, x1, x2, x3, x4, x5, x6, rfl⟩ : ∃ x0 x1 x2 x3 x4 x5 x6, cs = #[x0, x1, x2, x3, x4, x5, x6] := by
    obtain ⟨l⟩ := cs
    match l, hz with
    | [x0, x1, x2, x3, x4, x5, x6], _ => exact ⟨x0, x1, x2, x3, x4, x5, x6, rfl⟩
  obtain ⟨y0, y1, y2, n, hx, _, f0, f1, f2⟩ := Deep.trod_struct3 Tryz.underlying30 hf
  have c0 : Tryz.prog.cellsOf 28 = 3 := by kernel_rfl
  have c1 : Tryz.prog.cellsOf 9 = 1 := by kernel_rfl
  simp only [Value.cells, c0, c1, List.drop_succ_cons, List.drop_zero, List.take_succ_cons, List.take_zero] at f0 f1 f2
  have hd : d = (DataW.agg [y0.1, y1.1, y2.1] : DataW H) := congrArg Prod.fst hx
  rw [hd] at hb
  simp only [Rows.uptoBulk, Rows.uptoBulkAll] at hb
  obtain ⟨r1, N1, e0, i1, b1⟩ := open_node_in rfl f0 (by omega)
  obtain ⟨sp, e1, _, b2⟩ := open_text_in f1
  obtain ⟨r2, N2, e2, i2, b3⟩ := open_node_in rfl f2 (by omega)
  simp only [List.cons.injEq, and_true] at e0 e1 e2
  obtain ⟨rfl, rfl, rfl⟩ := e0
  subst e1
  obtain ⟨rfl, rfl, rfl⟩ := e2
  exact ⟨r1, r2, N1, N2, sp, rfl, i1, i2, ⟨by omega, by omega, by omega⟩⟩
end Go.Proofs.YtdmoglnbelembaaGreat
