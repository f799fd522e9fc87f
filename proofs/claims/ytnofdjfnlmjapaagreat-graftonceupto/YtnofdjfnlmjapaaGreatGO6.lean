/- Halves of a cut, joined: the node. -/
import Derived.Test.YtnofdjfnlmjapaaGreatGO3
import Derived.Test.YtnofdjfnlmjapaaGreatGO5
namespace Go.Proofs.YtnofdjfnlmjapaaGreat
open Go.RowKit

theorem own_partG {w : World} {base : Nat} {e : TypeId} {sz n c : Nat} {ao : Option Addr} {xs : List Value} (h : w.ownsRow base e sz (.slice ao n c) n xs) (h1 : ∀ u ∈ xs, u.oneCell' = true) : PartOk w sz ⟨ao, n, c, xs⟩ := by
  refine ⟨h.1, fun hn => ?_, fun a ha j u hj => ?_, h1⟩
  · obtain ⟨_, ⟨h2, h3⟩ | ⟨g, c, cur, hv, _⟩⟩ := h
    · injection h2 with _ _ e3
      exact ⟨h3, e3⟩
    · injection hv with e1
      simp only at hn
      rw [hn] at e1; cases e1
  · obtain ⟨_, ⟨h2, h3⟩ | ⟨g, c, cur, hv, _, hh, h4, h5, h6, h7⟩⟩ := h
    · simp only at ha; rw [ha] at h2; cases h2
    · injection hv with e1
      simp only at ha hj
      rw [ha] at e1
      injection e1 with e1
      rw [e1, WideShapes.add_plain, Nat.zero_add, cell_of_row _ _ _ _ _ _ hh, ← Array.getElem?_toList]
      rw [← h7, List.getElem?_take] at hj
      split at hj
      · exact hj
      · cases hj
theorem concat2Pairs {a1 a2 : Option Addr} {n1 c1 n2 c2 : Nat} {l1 l2 : List Value} (w : World) (gb : Nat) (h1 : PartOk w 2 ⟨a1, n1, c1, l1⟩) (h2 : PartOk w 2 ⟨a2, n2, c2, l2⟩) (hg : w.heap[gb]? = some (.cells #[.slice a1 n1 c1, .slice a2 n2 c2] 24 (0, 0))) (hb : n1 + n2 ≤ 1048576) :
    Calls Tryz.prog 42 #[.slice (some ⟨gb, 0, none⟩) 2 2] w fun e w' => ∃ ao c, e = .returned (.slice ao (n1 + n2) c) ∧ w'.ownsRow w.heap.size 48 2 (.slice ao (n1 + n2) c) (n1 + n2) (l1 ++ l2) ∧ Same w w' := by
  have := concatPairs (gb := gb) (cc := 2) (L := [⟨a1, n1, c1, l1⟩, ⟨a2, n2, c2, l2⟩]) w (fun j x hx => ?_) (fun x hx => ?_) (by simp) (by simp [partsN]; omega)
  · rw [show partsN [⟨a1, n1, c1, l1⟩, ⟨a2, n2, c2, l2⟩] = n1 + n2 from by simp [partsN], show partsC [⟨a1, n1, c1, l1⟩, ⟨a2, n2, c2, l2⟩] = l1 ++ l2 from by simp [partsC]] at this
    exact this
  · rw [cell_of_row _ _ _ _ _ _ hg]
    rcases j with _ | _ | j
    · obtain rfl : _ = x := by simpa using hx
      rfl
    · obtain rfl : _ = x := by simpa using hx
      rfl
    · simp at hx
  · rcases List.mem_cons.1 hx with rfl | hx
    · exact h1
    · rcases List.mem_cons.1 hx with rfl | hx
      · exact h2
      · cases hx
theorem concat2Texts {a1 a2 : Option Addr} {n1 c1 n2 c2 : Nat} {l1 l2 : List Value} (w : World) (gb : Nat) (h1 : PartOk w 1 ⟨a1, n1, c1, l1⟩) (h2 : PartOk w 1 ⟨a2, n2, c2, l2⟩) (hg : w.heap[gb]? = some (.cells #[.slice a1 n1 c1, .slice a2 n2 c2] 25 (0, 0))) (hb : n1 + n2 ≤ 1048576) :
    Calls Tryz.prog 43 #[.slice (some ⟨gb, 0, none⟩) 2 2] w fun e w' => ∃ ao c, e = .returned (.slice ao (n1 + n2) c) ∧ w'.ownsRow w.heap.size 9 1 (.slice ao (n1 + n2) c) (n1 + n2) (l1 ++ l2) ∧ Same w w' := by
  have := concatTexts (gb := gb) (cc := 2) (L := [⟨a1, n1, c1, l1⟩, ⟨a2, n2, c2, l2⟩]) w (fun j x hx => ?_) (fun x hx => ?_) (by simp) (by simp [partsN]; omega)
  · rw [show partsN [⟨a1, n1, c1, l1⟩, ⟨a2, n2, c2, l2⟩] = n1 + n2 from by simp [partsN], show partsC [⟨a1, n1, c1, l1⟩, ⟨a2, n2, c2, l2⟩] = l1 ++ l2 from by simp [partsC]] at this
    exact this
  · rw [cell_of_row _ _ _ _ _ _ hg]
    rcases j with _ | _ | j
    · obtain rfl : _ = x := by simpa using hx
      rfl
    · obtain rfl : _ = x := by simpa using hx
      rfl
    · simp at hx
  · rcases List.mem_cons.1 hx with rfl | hx
    · exact h1
    · rcases List.mem_cons.1 hx with rfl | hx
      · exact h2
      · cases hx
theorem concat2Kids {a1 a2 : Option Addr} {n1 c1 n2 c2 : Nat} {l1 l2 : List Value} (w : World) (gb : Nat) (h1 : PartOk w 33 ⟨a1, n1, c1, l1⟩) (h2 : PartOk w 33 ⟨a2, n2, c2, l2⟩) (hg : w.heap[gb]? = some (.cells #[.slice a1 n1 c1, .slice a2 n2 c2] 26 (0, 0))) (hb : n1 + n2 ≤ 1048576) :
    Calls Tryz.prog 45 #[.slice (some ⟨gb, 0, none⟩) 2 2] w fun e w' => ∃ ao c, e = .returned (.slice ao (n1 + n2) c) ∧ w'.ownsRow w.heap.size 53 33 (.slice ao (n1 + n2) c) (n1 + n2) (l1 ++ l2) ∧ Same w w' := by
  have := concatKids (gb := gb) (cc := 2) (L := [⟨a1, n1, c1, l1⟩, ⟨a2, n2, c2, l2⟩]) w (fun j x hx => ?_) (fun x hx => ?_) (by simp) (by simp [partsN]; omega)
  · rw [show partsN [⟨a1, n1, c1, l1⟩, ⟨a2, n2, c2, l2⟩] = n1 + n2 from by simp [partsN], show partsC [⟨a1, n1, c1, l1⟩, ⟨a2, n2, c2, l2⟩] = l1 ++ l2 from by simp [partsC]] at this
    exact this
  · rw [cell_of_row _ _ _ _ _ _ hg]
    rcases j with _ | _ | j
    · obtain rfl : _ = x := by simpa using hx
      rfl
    · obtain rfl : _ = x := by simpa using hx
      rfl
    · simp at hx
  · rcases List.mem_cons.1 hx with rfl | hx
    · exact h1
    · rcases List.mem_cons.1 hx with rfl | hx
      · exact h2
      · cases hx
theorem joined_good {p q : Int} {r1 r2 : Nr} {N N1 N2 : Nd} {sp : ByteArray} {B : Nat} (w : World) (hf : frameP p q = true) (co : CutOf p q N N1 N2 sp) (hs : NdSmall N) (m1 : MadeNd w B r1 N1) (m2 : MadeNd w B r2 N2) :
    Calls Tryz.prog 21 #[frameV p q, .agg #[.slice r1.pa N1.ps.length r1.cp, .slice r1.sa N1.ss.length r1.cs, .slice r1.ka N1.ks.length r1.ck, .string sp, .slice r2.pa N2.ps.length r2.cp, .slice r2.sa N2.ss.length r2.cs, .slice r2.ka N2.ks.length r2.ck]] w fun e w' => ∃ r, e = .returned (.tuple #[ndV r N, .int .i64 0]) ∧ MadeNd w' w.heap.size r N ∧ Same w w' := by
  obtain ⟨hp, _, _⟩ := frameP_cases hf
  obtain ⟨l1, l2, l3, _, _⟩ := hs.lens
  obtain ⟨a1, a2, a3, _, _⟩ := co.s1.lens
  obtain ⟨b1, b2, b3, _, _⟩ := co.s2.lens
  have HM : Hid (∀ W, Calls Tryz.prog 36 #[frameV p q, .string sp] W fun e w' => e = .returned (.bool true) ∧ Same W w') := fun W => by
    have := mayKeyG_calls (q := q) (key := sp) W hp
    rw [decide_eq_true co.z1, decide_eq_true co.z2] at this
    exact this
  have HA := fun W => asked_calls (p := p) (q := q) W hf
  obtain ⟨r1', e1, ok1⟩ := m1.nd (q := q) co.s1 co.k1
  obtain ⟨r2', e2, ok2⟩ := m2.nd (q := q) co.s2 co.k2
  have I1 := fun W (s : Same w W) => isLeafG_calls (p := p) (q := q) W (ok1.at_.same s)
  have I2 := fun W (s : Same w W) => isLeafG_calls (p := p) (q := q) W (ok2.at_.same s)
  have J1 := fun W (s : Same w W) => isBranchG_calls (p := p) (q := q) W (ok1.at_.same s)
  have J2 := fun W (s : Same w W) => isBranchG_calls (p := p) (q := q) W (ok2.at_.same s)
  rw [e1] at I1 J1
  rw [e2] at I2 J2
  unfold leafG at I1 I2
  unfold branchG at J1 J2
  rw [decide_eq_true co.c1, Bool.true_and] at I1 J1
  rw [decide_eq_true co.c2, Bool.true_and] at I2 J2
  rcases co.kind with ⟨_, n1, n2, n3, n4, n5, n6, hps, hlt, y, l, hy, hyl⟩ | ⟨n1, n2, n3, n4, n5, hss, hks, ⟨x, hx, hx0, hxl⟩, y, hy, hyl⟩
  · have z1 : N1.ks.length = 0 := by rw [n1]; rfl
    have z2 : N2.ks.length = 0 := by rw [n2]; rfl
    rw [decide_eq_true z1] at I1
    rw [decide_eq_true z2] at I2
    rw [decide_eq_false (by omega : ¬ 0 < N1.ks.length)] at J1
    have F1 := fun W (s : Same w W) => find_core (cp := r1'.cp) (sa := r1'.sa) (ka := r1'.ka) (ns := N1.ss.length) (cs := r1'.cs) (nk := N1.ks.length) (ck := r1'.ck) (key := sp) W (ok1.at_.same s).hp (by omega)
    have F2 := fun W (s : Same w W) => find_core (cp := r2'.cp) (sa := r2'.sa) (ka := r2'.ka) (ns := N2.ss.length) (cs := r2'.cs) (nk := N2.ks.length) (ck := r2'.ck) (key := sp) W (ok2.at_.same s).hp (by omega)
    rw [find_above sp N1.ps hlt] at F1
    have f2 : (findP sp N2.ps 0).1 = 0 := by rw [hy]; exact find_firstly sp y l hyl
    rw [f2] at F2
    have F1' : ∀ W, Same w W → Calls Tryz.prog 60 #[ndV r1 N1, .string sp] W fun e w' => e = .returned (.tuple #[.int .i64 (N1.ps.length : Int), .bool false]) ∧ Same W w' := fun W s => by rw [← e1]; exact F1 W s
    have F2' : ∀ W, Same w W → Calls Tryz.prog 60 #[ndV r2 N2, .string sp] W fun e w' => e = .returned (.tuple #[.int .i64 0, .bool (findP sp N2.ps 0).2]) ∧ Same W w' := fun W s => by rw [← e2]; exact F2 W s
    have hlen : N.ps.length = N1.ps.length + N2.ps.length := by rw [hps, List.length_append]
    refine (joined_leaf (n := N1.ps.length + N2.ps.length) (cs := pcells N1.ps ++ pcells N2.ps) w I1 I2 J1 HA (fun W s => ordered_leaf W (by show N1.ss.length = 0; rw [n3]; rfl) HM (fun W2 s2 => F1' W2 (s.trans s2)) (fun W2 s2 => F2' W2 (s.trans s2))) (fun W gb s hg => concat2Pairs W gb (own_partG (m1.same s).op (pcells_one _)) (own_partG (m2.same s).op (pcells_one _)) hg (by omega))).mono ?_
    rintro e w' ⟨ao, c, rfl, o, s⟩
    refine ⟨⟨ao, 0, 0, c, none, 0, 0, 0, none, 0, 0, 0⟩, ?_, ⟨?_, ?_, ?_⟩, s⟩
    · unfold ndV; rw [hlen, n5, n6]; rfl
    · rw [hlen, hps]
      have : pcells (N1.ps ++ N2.ps) = pcells N1.ps ++ pcells N2.ps := by unfold pcells; exact List.flatMap_append
      rw [this]; exact o
    · rw [n5]; exact own_nil
    · rw [n6]; exact own_nil
  · rw [decide_eq_false (by omega : ¬ N1.ks.length = 0)] at I1
    rw [decide_eq_true n1] at J1
    rw [decide_eq_true n2] at J2
    obtain ⟨k, hk⟩ : ∃ k, N1.ss.length = k + 1 := ⟨N1.ss.length - 1, by omega⟩
    have hl3 : N.ss.length = (N1.ss.length + 1) + N2.ss.length := by rw [hss, List.length_append, List.length_cons]; omega
    have hl4 : N.ks.length = N1.ks.length + N2.ks.length := by rw [hks, List.length_append]
    have hx' : N1.ss[k]? = some x := by rw [show k = N1.ss.length - 1 by omega]; exact hx
    have HO : ∀ W, Same w W → Calls Tryz.prog 41 #[frameV p q, .agg (halvesN r1' r2' N1 N2 sp)] W fun e w' => e = .returned (.bool true) ∧ Same W w' := fun W s => ordered_branch W hk (ok1.at_.same s).hs (ok2.at_.same s).hs hx' hy hxl hyl (by omega) HM
    have ev : halvesN r1' r2' N1 N2 sp = halvesN r1 r2 N1 N2 sp := by
      have q1 := e1
      have q2 := e2
      unfold ndV nodeV at q1 q2
      injection q1 with q1
      injection q2 with q2
      have q1 := congrArg Array.toList q1
      have q2 := congrArg Array.toList q2
      simp only [List.cons.injEq, Value.slice.injEq, and_true] at q1 q2
      obtain ⟨⟨u1, u2⟩, ⟨u3, u4⟩, u5, u6⟩ := q1
      obtain ⟨⟨v1, v2⟩, ⟨v3, v4⟩, v5, v6⟩ := q2
      unfold halvesN
      rw [u1, u2.2, u3, u4.2, u5, u6.2, v1, v2.2, v3, v4.2, v5, v6.2]
    rw [ev] at HO
    refine (joined_branch (n3 := (N1.ss.length + 1) + N2.ss.length) (n4 := N1.ks.length + N2.ks.length) (cs1 := scells N1.ss ++ [.string sp]) (cs3 := (scells N1.ss ++ [.string sp]) ++ scells N2.ss) (cs4 := kcellsL N1.ks ++ kcellsL N2.ks) w I1 J1 J2 HA HO (fun W bo s hb => ?_) (fun W gb ao c B' s o hg => ?_) (fun W gb s hg => ?_)).mono ?_
    · have hpart : PartOk W 1 ⟨some ⟨bo, 0, none⟩, 1, 1, [.string sp]⟩ := ⟨rfl, fun e => (by cases e), fun a ha j u hj => by
        cases ha
        rw [WideShapes.add_plain, Nat.zero_add, cell_of_row _ _ _ _ _ _ hb, ← Array.getElem?_toList]
        exact hj, fun u hu => by simp at hu; subst hu; rfl⟩
      have := withTexts (i := N1.ss.length) W (own_partG (m1.same s).os (scells_one _)) (own_addr (m1.same s).os) hpart (Nat.le_refl _) (own_capB (m1.same s).os) (by omega)
      rw [scells_takeK, scells_dropK, List.take_length, List.drop_length] at this
      refine this.mono ?_
      rintro e w' ⟨ao, c, he, ho, hs'⟩
      exact ⟨ao, c, he, own_base (by simpa [scells] using ho) s.size, hs'⟩
    · refine (concat2Texts W gb (own_partG o (fun u hu => by
        rcases List.mem_append.1 hu with h | h
        · exact scells_one _ u h
        · simp at h; subst h; rfl)) (own_partG (m2.same s).os (scells_one _)) hg (by omega)).mono ?_
      rintro e w' ⟨ao, c, he, ho, hs'⟩
      exact ⟨ao, c, he, own_base ho s.size, hs'⟩
    · refine (concat2Kids W gb (own_partG (m1.same s).ok (kcellsL_one _)) (own_partG (m2.same s).ok (kcellsL_one _)) hg (by omega)).mono ?_
      rintro e w' ⟨ao, c, he, ho, hs'⟩
      exact ⟨ao, c, he, own_base ho s.size, hs'⟩
    · rintro e w' ⟨a3, c3, a4, c4, rfl, o3, o4, s⟩
      refine ⟨⟨none, 0, 0, 0, a3, 0, 0, c3, a4, 0, 0, c4⟩, ?_, ⟨?_, ?_, ?_⟩, s⟩
      · unfold ndV; rw [hl3, hl4, n5]; rfl
      · rw [n5]; exact own_nil
      · rw [hl3, hss]
        have : scells (N1.ss ++ sp :: N2.ss) = (scells N1.ss ++ [.string sp]) ++ scells N2.ss := by simp [scells]
        rw [this]; exact o3
      · rw [hl4, hks]
        have : kcellsL (N1.ks ++ N2.ks) = kcellsL N1.ks ++ kcellsL N2.ks := by unfold kcellsL; exact List.flatMap_append
        rw [this]; exact o4
end Go.Proofs.YtnofdjfnlmjapaaGreat
