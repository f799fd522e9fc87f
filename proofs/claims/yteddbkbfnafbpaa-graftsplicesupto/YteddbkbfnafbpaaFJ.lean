/- Split of a full node: halves that are neither full nor thin. -/
import Derived.Test.YteddbkbfnafbpaaFD
import Derived.Test.YteddbkbfnafbpaaFI
import Derived.Test.YteddbkbfnafbpaaVW0
namespace Go.Proofs.Yteddbkbfnafbpaa
open Go.RowKit

theorem pairsB_num : ∀ (ps : List (ByteArray × ByteArray)), (∀ x ∈ ps, x.1.size ≤ 1048576 ∧ x.2.size ≤ 1048576) → (pairsB ps).length = pairsN ps
  | [], _ => rfl
  | x :: ps, h => by
    obtain ⟨h1, h2⟩ := h x List.mem_cons_self
    have e : pairsB (x :: ps) = pairB x ++ pairsB ps := by simp [pairsB]
    have e2 : pairsN (x :: ps) = (textN x.1.size + textN x.2.size) + pairsN ps := by unfold pairsN; rw [List.map_cons, List.sum_cons]
    rw [e, e2, List.length_append, pairsB_num ps (fun y hy => h y (List.mem_cons_of_mem _ hy))]
    unfold pairB textN
    rw [List.length_append, textB_full, textB_full, free_num (by omega), free_num (by omega)]
theorem sepsN_num : ∀ (ss : List ByteArray), (∀ x ∈ ss, x.size ≤ 1048576) → sepsN ss = textsN ss
  | [], _ => rfl
  | x :: ss, h => by
    have h1 := h x List.mem_cons_self
    have ih := sepsN_num ss (fun y hy => h y (List.mem_cons_of_mem _ hy))
    unfold sepsN textsN at ih ⊢
    rw [List.map_cons, List.map_cons, List.sum_cons, List.sum_cons, ih, free_num (by omega)]
    rfl
theorem size_leaf {p q : Int} {ps : List (ByteArray × ByteArray)} (hc : chkN p q ⟨ps, [], []⟩ = 0) (hn : ps.length ≤ 1048576) (hok : ∀ x ∈ ps, x.1.size ≤ 1048576 ∧ x.2.size ≤ 1048576) : sizeV p q ⟨ps, [], []⟩ = ((1 + numN ps.length + pairsN ps : Nat) : Int) := by
  unfold sizeV
  rw [if_pos hc]
  unfold formN
  rw [if_pos (show leafB ⟨ps, [], []⟩ = true from rfl)]
  show (((1 : UInt8) :: (freeB ps.length ++ pairsB ps)).length : Int) = _
  rw [List.length_cons, List.length_append, free_num (by omega), pairsB_num ps hok]
  omega
theorem size_branch {p q : Int} {N : Nd} {K : Nat} (hc : chkN p q N = 0) (hl : 0 < N.ks.length) (hn : N.ks.length ≤ 1048576) (hos : ∀ x ∈ N.ss, x.size ≤ 1048576) (hk : ∀ x ∈ N.ks, KidOk x) (hK : (K : Int) = 4 + q) : sizeV p q N = ((1 + numN N.ks.length + N.ks.length * K + textsN N.ss : Nat) : Int) := by
  obtain ⟨hf, hss, _⟩ := chk_branch hc hl
  obtain ⟨_, q1, q2⟩ := frameP_cases hf
  unfold sizeV
  rw [if_pos hc]
  unfold formN
  rw [if_neg (by
    unfold leafB
    rw [show decide (N.ks.length = 0) = false from decide_eq_false (by omega)]
    simp)]
  rw [List.length_cons, List.length_append, kidsB_len4 q1 q2 true N.ss N.ks hk (by simpa using hss), free_num (by omega), sepsN_num N.ss hos, show 4 + q.toNat = K by omega]
  omega
theorem branch_chk {p q : Int} {ss : List ByteArray} {ks : List Kid} (hf : frameP p q = true) (h1 : risesP (p / 16) ⟨#[]⟩ ss = true) (h2 : ∀ x ∈ ks, looseB q x = false) (h3 : ss.length + 1 = ks.length) (h4 : 2 ≤ ks.length) : chkN p q ⟨[], ss, ks⟩ = 0 := by
  unfold chkN shapeP
  have hl : leafB ⟨[], ss, ks⟩ = false := by
    unfold leafB
    rw [show decide ((⟨[], ss, ks⟩ : Nd).ks.length = 0) = false from decide_eq_false (by show ¬ ks.length = 0; omega)]
    simp
  have : branchP p q ⟨[], ss, ks⟩ = true := by
    unfold branchP
    simp only [Bool.and_eq_true, Bool.not_eq_true', Bool.or_eq_false_iff, decide_eq_false_iff_not, List.any_eq_false]
    refine ⟨⟨⟨by simp, by omega⟩, by simpa using h3⟩, h1, fun x hx => by simp [h2 x hx]⟩
  rw [if_pos hf, hl]
  simp only [Bool.false_eq_true, if_false]
  rw [if_pos this]
theorem branch_parts {p q : Int} {N : Nd} (hc : chkN p q N = 0) (hk : 0 < N.ks.length) : N.ps = [] ∧ risesP (p / 16) ⟨#[]⟩ N.ss = true ∧ ∀ x ∈ N.ks, looseB q x = false := by
  obtain ⟨hf, hs⟩ := chk_zero hc
  have hl : leafB N = false := by
    unfold leafB
    rw [show decide (N.ks.length = 0) = false from decide_eq_false (by omega)]
    simp
  unfold shapeP branchP at hs
  rw [hl] at hs
  simp only [Bool.false_eq_true, if_false, Bool.and_eq_true, Bool.not_eq_true', Bool.or_eq_false_iff, decide_eq_false_iff_not, List.any_eq_false] at hs
  obtain ⟨⟨⟨h1, _⟩, _⟩, h2, h3⟩ := hs
  exact ⟨List.eq_nil_of_length_eq_zero (by omega), h2, fun x hx => by simpa using h3 x hx⟩
theorem sum_split {α : Type} (f : α → Nat) (l : List α) (k : Nat) : ((l.take k).map f).sum + ((l.drop k).map f).sum = (l.map f).sum := by
  have := List.sum_append (l₁ := (l.take k).map f) (l₂ := (l.drop k).map f)
  rw [← List.map_append, List.take_append_drop] at this
  omega
theorem pairsN_drop (ps : List (ByteArray × ByteArray)) (k : Nat) : pairsN (ps.drop k) = pairsN ps - pairsN (ps.take k) := by
  have := sum_split (fun x : ByteArray × ByteArray => textN x.1.size + textN x.2.size) ps k
  unfold pairsN
  omega
theorem textsN_drop (ss : List ByteArray) (k : Nat) : textsN (ss.drop k) = textsN ss - textsN (ss.take k) := by
  have := sum_split (fun x : ByteArray => textN x.size) ss k
  unfold textsN
  omega
/-- A node whose lists are its own. -/
structure MadeNd (w : World) (B : Nat) (r : Nr) (N : Nd) : Prop where
  op : w.ownsRow B 41 2 (.slice r.pa N.ps.length r.cp) N.ps.length (pcells N.ps)
  os : w.ownsRow B 9 1 (.slice r.sa N.ss.length r.cs) N.ss.length (scells N.ss)
  ok : w.ownsRow B 46 33 (.slice r.ka N.ks.length r.ck) N.ks.length (kcellsL N.ks)
theorem MadeNd.same {w w' : World} {B : Nat} {r : Nr} {N : Nd} (h : MadeNd w B r N) (s : Same w w') : MadeNd w' B r N := ⟨own_frameB h.op s (fun _ _ f => f), own_frameB h.os s (fun _ _ f => f), own_frameB h.ok s (fun _ _ f => f)⟩
theorem MadeNd.nd {w : World} {B : Nat} {r : Nr} {N : Nd} {q : Int} (h : MadeNd w B r N) (hs : NdSmall N) (hk : ∀ x ∈ N.ks, KidOk x) : ∃ r' : Nr, ndV r' N = ndV r N ∧ NdOk w r' q N := by
  obtain ⟨g1, r1⟩ := own_prow (own_base h.op (Nat.zero_le _)) rfl
  obtain ⟨g2, r2⟩ := own_trow (own_base h.os (Nat.zero_le _)) rfl
  obtain ⟨g3, r3⟩ := own_krow hk (own_base h.ok (Nat.zero_le _)) rfl
  have c2 := own_cap (own_base h.os (Nat.zero_le _))
  obtain ⟨l1, l2, l3, _⟩ := hs.lens
  refine ⟨{ r with pb := g1, po := 0, sb := g2, so := 0, kb := g3, ko := 0 }, rfl, ⟨r1, r2, r3, hk, by omega, by omega, by omega⟩, ⟨c2.1, by have := c2.2; unfold maxLen at this; show r.cs ≤ _; omega⟩, hs.form hk _ _, hs.form hk _ _⟩
def halvesN (r1 r2 : Nr) (N1 N2 : Nd) (sp : ByteArray) : Array Value := #[.slice r1.pa N1.ps.length r1.cp, .slice r1.sa N1.ss.length r1.cs, .slice r1.ka N1.ks.length r1.ck, .string sp, .slice r2.pa N2.ps.length r2.cp, .slice r2.sa N2.ss.length r2.cs, .slice r2.ka N2.ks.length r2.ck]
/-- A half: right, small, neither full nor thin. -/
structure GoodHalf (p q : Int) (N : Nd) : Prop where
  chk : chkN p q N = 0
  small : NdSmall N
  kok : ∀ x ∈ N.ks, KidOk x
  lo : (p - 30) / 3 ≤ sizeV p q N
  hi : sizeV p q N ≤ p - 32
def HalvesIs (B : Nat) (N1 N2 : Nd) (e : Ending) (w' : World) : Prop := ∃ r1 r2 sp, e = .returned (.tuple #[.agg (halvesN r1 r2 N1 N2 sp), .int .i64 0]) ∧ MadeNd w' B r1 N1 ∧ MadeNd w' B r2 N2
theorem small_leaf_take {ps : List (ByteArray × ByteArray)} (h : NdSmall ⟨ps, [], []⟩) (k : Nat) : NdSmall ⟨ps.take k, [], []⟩ ∧ NdSmall ⟨ps.drop k, [], []⟩ := by
  have := sum_split (fun x : ByteArray × ByteArray => x.1.size + x.2.size + 3) ps k
  have h1 : (ps.map fun x => x.1.size + x.2.size + 3).sum ≤ 1048576 := h.hp
  exact ⟨⟨by show ((ps.take k).map _).sum ≤ _; omega, by simp, by simp⟩, ⟨by show ((ps.drop k).map _).sum ≤ _; omega, by simp, by simp⟩⟩
theorem small_branch_take {ss : List ByteArray} {ks : List Kid} (h : NdSmall ⟨[], ss, ks⟩) (a b : Nat) : NdSmall ⟨[], ss.take a, ks.take b⟩ ∧ NdSmall ⟨[], ss.drop a, ks.drop b⟩ := by
  have := sum_split (fun x : ByteArray => x.size + 1) ss a
  have h1 : (ss.map fun x => x.size + 1).sum ≤ 1048576 := h.hs
  have h2 : ks.length ≤ 1048576 := h.hk
  exact ⟨⟨by simp, by show ((ss.take a).map _).sum ≤ _; omega, by show (ks.take b).length ≤ _; rw [List.length_take]; omega⟩, ⟨by simp, by show ((ss.drop a).map _).sum ≤ _; omega, by show (ks.drop b).length ≤ _; rw [List.length_drop]; omega⟩⟩
theorem text_bound {n M : Nat} (h : n ≤ M) (hM : M < 16384) : textN n ≤ M + 2 ∧ 1 ≤ textN n := by
  unfold textN
  rcases numN_cases (n := n) (by omega) with ⟨_, e⟩ | ⟨_, _, e⟩ | ⟨_, _⟩ <;> omega
/-- ONE CUT IS ENOUGH: of a node of up to the room and twice the least that is full. -/
theorem split_halves {N : Nd} {p q : Int} (hs : NdSmall N) (hk : ∀ x ∈ N.ks, KidOk x) (hf : frameP p q = true) (h1 : p - 32 < sizeV p q N) (h2 : sizeV p q N ≤ p - 32 + 2 * ((p - 30) / 3)) :
    ∃ N1 N2, GoodHalf p q N1 ∧ GoodHalf p q N2 ∧ ∀ (r : Nr) (w : World), NdAt w r N → NdRoom r N → Calls Try.prog 26 #[frameV p q, ndV r N] w fun e w' => HalvesIs w.heap.size N1 N2 e w' ∧ Same w w' := by
  obtain ⟨l1, l2, l3, _, hop⟩ := hs.lens
  have hos : ∀ x ∈ N.ss, x.size ≤ 1048576 := fun x hx => by
    have := mem_le_sum (fun x : ByteArray => x.size + 1) N.ss x hx
    have := hs.hs
    omega
  obtain ⟨hp, q1, q2⟩ := frameP_cases hf
  have hc : chkN p q N = 0 := by
    by_cases hc : chkN p q N = 0
    · exact hc
    · unfold sizeV at h1
      rw [if_neg hc] at h1
      omega
  have HA := fun W => asked_calls (p := p) (q := q) W hf
  by_cases hk0 : N.ks.length = 0
  · obtain ⟨es, ek, _, hri, hlo⟩ := chk_leaf hc hk0
    obtain ⟨ps, ss, ks⟩ := N
    simp only at es ek hk0 hri hlo hop l1
    subst es; subst ek
    rw [size_leaf hc l1 hop] at h1 h2
    have hsz := rises_sizes _ _ hri
    obtain ⟨P, hP⟩ : ∃ P : Nat, p = (P : Int) := ⟨p.toNat, by omega⟩
    subst hP
    have hM : ∀ x ∈ ps, 1 ≤ textN x.1.size + textN x.2.size ∧ textN x.1.size + textN x.2.size ≤ P / 16 + P / 8 + 4 := fun x hx => by
      have a := hsz x.1 (List.mem_map.2 ⟨x, hx, rfl⟩)
      have b : ¬ ((P : Int) / 8 < (x.2.size : Int)) := of_decide_eq_false (hlo x hx)
      have c := text_bound (n := x.1.size) (M := P / 16) (by omega) (by omega)
      have d := text_bound (n := x.2.size) (M := P / 8) (by omega) (by omega)
      omega
    obtain ⟨m, hb, hm, a1, a2, a3, a4⟩ := leaf_best (R := P - 32) (D := (P - 30) / 3) hM l1 (by omega) (by omega) (by omega) (by omega)
    obtain ⟨x, hx⟩ : ∃ x, ps[m]? = some x := ⟨_, List.getElem?_eq_getElem (by omega)⟩
    obtain ⟨y, hy⟩ : ∃ y, ps[m + 1]? = some y := ⟨_, List.getElem?_eq_getElem hm⟩
    have hless := rises_adj _ _ m x.1 y.1 hri (by rw [List.getElem?_map, hx]; rfl) (by rw [List.getElem?_map, hy]; rfl)
    have k1 : chkN (P : Int) q ⟨ps.take (m + 1), [], []⟩ = 0 := leaf_chk hf (by rw [List.map_take]; exact rises_take _ _ _ hri) (fun z hz => hlo z (List.mem_of_mem_take hz))
    have k2 : chkN (P : Int) q ⟨ps.drop (m + 1), [], []⟩ = 0 := leaf_chk hf (by rw [List.map_drop]; exact rises_drop _ _ _ hri) (fun z hz => hlo z (List.mem_of_mem_drop hz))
    have t1 : (ps.take (m + 1)).length = m + 1 := by rw [List.length_take]; omega
    have t2 : (ps.drop (m + 1)).length = ps.length - (m + 1) := List.length_drop
    have z1 := size_leaf k1 (by rw [t1]; omega) (fun z hz => hop z (List.mem_of_mem_take hz))
    have z2 := size_leaf k2 (by rw [t2]; omega) (fun z hz => hop z (List.mem_of_mem_drop hz))
    have e1 : 1 + numN (ps.take (m + 1)).length + pairsN (ps.take (m + 1)) = sideN ps 0 (m + 1) := by
      unfold sideN
      rw [t1, show pairsN (ps.take 0) = 0 from rfl]
      rfl
    have e2 : 1 + numN (ps.drop (m + 1)).length + pairsN (ps.drop (m + 1)) = sideN ps (m + 1) ps.length := by
      unfold sideN
      rw [t2, pairsN_drop, List.take_length]
    rw [e1] at z1
    rw [e2] at z2
    obtain ⟨s1, s2⟩ := small_leaf_take hs (m + 1)
    refine ⟨⟨ps.take (m + 1), [], []⟩, ⟨ps.drop (m + 1), [], []⟩, ⟨k1, s1, by simp, by rw [z1]; omega, by rw [z1]; omega⟩, ⟨k2, s2, by simp, by rw [z2]; omega, by rw [z2]; omega⟩, fun r w h hr => ?_⟩
    have HC := fun W (s : Same w W) => check_calls (P : Int) q W (h.same s)
    rw [hc] at HC
    have HB := fun W (s : Same w W) => best_leaf W (h.same s) l1 l2 rfl hc hop
    rw [hb] at HB
    have HH := fun W (s : Same w W) => halved_good W (h.same s).hp rfl hx hy l1 hr.cp hr.p0 hr.p3 hless (hop x (List.mem_of_getElem? hx)).1
    refine (split_leaf w rfl HC HA HB HH).mono ?_
    rintro e w' ⟨ao1, c1, ao2, c2, rfl, o1, o2, s⟩
    refine ⟨⟨⟨ao1, 0, 0, c1, none, 0, 0, 0, none, 0, 0, 0⟩, ⟨ao2, 0, 0, c2, none, 0, 0, 0, none, 0, 0, 0⟩, sepB x.1 y.1, ?_, ⟨?_, own_nil, own_nil⟩, ⟨?_, own_nil, own_nil⟩⟩, s⟩
    · unfold halvesN halvesV
      rw [t1, t2]
      rfl
    · rw [t1]; exact o1
    · rw [t2]; exact o2
  · obtain ⟨_, hss, hk2⟩ := chk_branch hc (by omega)
    obtain ⟨ep, hri, hlo⟩ := branch_parts hc (by omega)
    obtain ⟨ps, ss, ks⟩ := N
    simp only at ep hss hk2 hk0 hri hlo hos l2 l3 hk
    subst ep
    obtain ⟨K, hK⟩ : ∃ K : Nat, (K : Int) = 4 + q := ⟨(4 + q).toNat, by omega⟩
    rw [size_branch (K := K) hc (by show 0 < ks.length; omega) l3 hos hk hK] at h1 h2
    have hsz := rises_sizes _ _ hri
    obtain ⟨P, hP⟩ : ∃ P : Nat, p = (P : Int) := ⟨p.toNat, by omega⟩
    subst hP
    have hM : ∀ x ∈ ss, textN x.size ≤ P / 16 + 2 := fun x hx => by
      have a := hsz x hx
      exact (text_bound (n := x.size) (M := P / 16) (by omega) (by omega)).1
    simp only at h1 h2
    obtain ⟨m, hb, hm1, hm, a1, a2, a3, a4⟩ := branch_best (K := K) (n := ks.length) (R := P - 32) (D := (P - 30) / 3) hss hM (by omega) (by omega) l3 (by omega) (by omega) (by omega) (by omega) (by omega)
    obtain ⟨sp, hx⟩ : ∃ x, ss[m]? = some x := ⟨_, List.getElem?_eq_getElem (by omega)⟩
    have t1 : (ks.take (m + 1)).length = m + 1 := by rw [List.length_take]; omega
    have t2 : (ks.drop (m + 1)).length = ks.length - (m + 1) := List.length_drop
    have t3 : (ss.take m).length = m := by rw [List.length_take]; omega
    have t4 : (ss.drop (m + 1)).length = ss.length - (m + 1) := List.length_drop
    have ko1 : ∀ x ∈ ks.take (m + 1), KidOk x := fun z hz => hk z (List.mem_of_mem_take hz)
    have ko2 : ∀ x ∈ ks.drop (m + 1), KidOk x := fun z hz => hk z (List.mem_of_mem_drop hz)
    have k1 : chkN (P : Int) q ⟨[], ss.take m, ks.take (m + 1)⟩ = 0 := branch_chk hf (rises_take _ _ _ hri) (fun z hz => hlo z (List.mem_of_mem_take hz)) (by omega) (by omega)
    have k2 : chkN (P : Int) q ⟨[], ss.drop (m + 1), ks.drop (m + 1)⟩ = 0 := branch_chk hf (rises_drop _ _ _ hri) (fun z hz => hlo z (List.mem_of_mem_drop hz)) (by omega) (by omega)
    have z1 := size_branch (K := K) k1 (by show 0 < (ks.take (m + 1)).length; omega) (by show (ks.take (m + 1)).length ≤ _; omega) (fun z hz => hos z (List.mem_of_mem_take hz)) ko1 hK
    have z2 := size_branch (K := K) k2 (by show 0 < (ks.drop (m + 1)).length; omega) (by show (ks.drop (m + 1)).length ≤ _; omega) (fun z hz => hos z (List.mem_of_mem_drop hz)) ko2 hK
    simp only at z1 z2
    have e1 : 1 + numN (ks.take (m + 1)).length + (ks.take (m + 1)).length * K + textsN (ss.take m) = bsideN K ss 0 (m + 1) := by
      unfold bsideN
      rw [t1, show textsN (ss.take 0) = 0 from rfl]
      rfl
    have e2 : 1 + numN (ks.drop (m + 1)).length + (ks.drop (m + 1)).length * K + textsN (ss.drop (m + 1)) = bsideN K ss (m + 1) ks.length := by
      unfold bsideN
      rw [t2, textsN_drop, List.take_of_length_le (show ss.length ≤ ks.length - 1 by omega)]
    rw [e1] at z1
    rw [e2] at z2
    obtain ⟨s1, _⟩ := small_branch_take hs m (m + 1)
    obtain ⟨_, s2⟩ := small_branch_take hs (m + 1) (m + 1)
    refine ⟨⟨[], ss.take m, ks.take (m + 1)⟩, ⟨[], ss.drop (m + 1), ks.drop (m + 1)⟩, ⟨k1, s1, ko1, by rw [z1]; omega, by rw [z1]; omega⟩, ⟨k2, s2, ko2, by rw [z2]; omega, by rw [z2]; omega⟩, fun r w h hr => ?_⟩
    have HC := fun W (s : Same w W) => check_calls (P : Int) q W (h.same s)
    rw [hc] at HC
    have HB := fun W (s : Same w W) => best_branch (K := K) W (h.same s) l1 l2 l3 hk2 hss hc hos q1 q2 hK
    simp only at HB
    rw [hb] at HB
    refine (split_branch w HC HA HB (fun W s => halvedB_good W (h.same s) hr hx (by show m + 1 ≤ ks.length; omega) l2 l3)).mono ?_
    rintro e w' ⟨ao1, c1, ao2, c2, ao3, c3, ao4, c4, rfl, o1, o2, o3, o4, s⟩
    refine ⟨⟨⟨none, 0, 0, 0, ao1, 0, 0, c1, ao2, 0, 0, c2⟩, ⟨none, 0, 0, 0, ao3, 0, 0, c3, ao4, 0, 0, c4⟩, sp, ?_, ⟨own_nil, ?_, ?_⟩, ⟨own_nil, ?_, ?_⟩⟩, s⟩
    · unfold halvesN halvesB
      rw [t1, t2, t3, t4]
      rfl
    · rw [t3]; exact o1
    · rw [t1]; exact o2
    · rw [t4]; exact o3
    · rw [t2]; exact o4
end Go.Proofs.Yteddbkbfnafbpaa
