/- Split of a full node: halves that are neither full nor thin. -/
import Derived.Test.YtmgkdnejjemfeaaFD
import Derived.Test.YtmgkdnejjemfeaaFHJ
namespace Go.Proofs.Ytmgkdnejjemfeaa
open Go.RowKit

theorem pairsB_num : ∀ (ps : List (ByteArray × ByteArray)), (∀ x ∈ ps, x.1.size ≤ 1048576 ∧ x.2.size ≤ 1048576) → (pairsB ps).length = pairsN ps
  | [], _ => rfl
  | x :: ps, h => by
    obtain ⟨h1, h2⟩ := h x List.mem_cons_self
    have e : pairsB (x :: ps) = pairB x ++ pairsB ps := by simp [pairsB]
    have e2 : pairsN (x :: ps) = (textN x.1.size + textN x.2.size) + pairsN ps := by unfold pairsN; rw [List.map_cons, List.sum_cons]
    rw [e, e2, List.length_append, pairsB_num ps (fun y hy => h y (List.mem_cons_of_mem _ hy))]
    unfold pairB textN
    rw [List.length_append, textB_full, textB_full, free_num (by omega), free_num (by omega)]
theorem sepsN_num : ∀ (ss : List ByteArray), (∀ x ∈ ss, x.size ≤ 1048576) → sepsN ss = textsN ss
  | [], _ => rfl
  | x :: ss, h => by
    have h1 := h x List.mem_cons_self
    have ih := sepsN_num ss (fun y hy => h y (List.mem_cons_of_mem _ hy))
    unfold sepsN textsN at ih ⊢
    rw [List.map_cons, List.map_cons, List.sum_cons, List.sum_cons, ih, free_num (by omega)]
    rfl
theorem size_leaf {p q : Int} {ps : List (ByteArray × ByteArray)} (hc : chkN p q ⟨ps, [], []⟩ = 0) (hn : ps.length ≤ 1048576) (hok : ∀ x ∈ ps, x.1.size ≤ 1048576 ∧ x.2.size ≤ 1048576) : sizeV p q ⟨ps, [], []⟩ = ((1 + numN ps.length + pairsN ps : Nat) : Int) := by
  unfold sizeV
  rw [if_pos hc]
  unfold formN
  rw [if_pos (show leafB ⟨ps, [], []⟩ = true from rfl)]
  show (((1 : UInt8) :: (freeB ps.length ++ pairsB ps)).length : Int) = _
  rw [List.length_cons, List.length_append, free_num (by omega), pairsB_num ps hok]
  omega
theorem size_branch {p q : Int} {N : Nd} {K : Nat} (hc : chkN p q N = 0) (hl : 0 < N.ks.length) (hn : N.ks.length ≤ 1048576) (hos : ∀ x ∈ N.ss, x.size ≤ 1048576) (hk : ∀ x ∈ N.ks, KidOk x) (hK : (K : Int) = 4 + q) : sizeV p q N = ((1 + numN N.ks.length + N.ks.length * K + textsN N.ss : Nat) : Int) := by
  obtain ⟨hf, hss, _⟩ := chk_branch hc hl
  obtain ⟨_, q1, q2⟩ := frameP_cases hf
  unfold sizeV
  rw [if_pos hc]
  unfold formN
  rw [if_neg (by
    unfold leafB
    rw [show decide (N.ks.length = 0) = false from decide_eq_false (by omega)]
    simp)]
  rw [List.length_cons, List.length_append, kidsB_len4 q1 q2 true N.ss N.ks hk (by simpa using hss), free_num (by omega), sepsN_num N.ss hos, show 4 + q.toNat = K by omega]
  omega
theorem branch_chk {p q : Int} {ss : List ByteArray} {ks : List Kid} (hf : frameP p q = true) (h1 : risesP (p / 16) ⟨#[]⟩ ss = true) (h2 : ∀ x ∈ ks, looseB q x = false) (h3 : ss.length + 1 = ks.length) (h4 : 2 ≤ ks.length) : chkN p q ⟨[], ss, ks⟩ = 0 := by
  unfold chkN shapeP
  have hl : leafB ⟨[], ss, ks⟩ = false := by
    unfold leafB
    rw [show decide ((⟨[], ss, ks⟩ : Nd).ks.length = 0) = false from decide_eq_false (by show ¬ ks.length = 0; omega)]
    simp
  have : branchP p q ⟨[], ss, ks⟩ = true := by
    unfold branchP
    simp only [Bool.and_eq_true, Bool.not_eq_true', Bool.or_eq_false_iff, decide_eq_false_iff_not, List.any_eq_false]
    refine ⟨⟨⟨by simp, by omega⟩, by simpa using h3⟩, h1, fun x hx => by simp [h2 x hx]⟩
  rw [if_pos hf, hl]
  simp only [Bool.false_eq_true, if_false]
  rw [if_pos this]
theorem branch_parts {p q : Int} {N : Nd} (hc : chkN p q N = 0) (hk : 0 < N.ks.length) : N.ps = [] ∧ risesP (p / 16) ⟨#[]⟩ N.ss = true ∧ ∀ x ∈ N.ks, looseB q x = false := by
  obtain ⟨hf, hs⟩ := chk_zero hc
  have hl : leafB N = false := by
    unfold leafB
    rw [show decide (N.ks.length = 0) = false from decide_eq_false (by omega)]
    simp
  unfold shapeP branchP at hs
  rw [hl] at hs
  simp only [Bool.false_eq_true, if_false, Bool.and_eq_true, Bool.not_eq_true', Bool.or_eq_false_iff, decide_eq_false_iff_not, List.any_eq_false] at hs
  obtain ⟨⟨⟨h1, _⟩, _⟩, h2, h3⟩ := hs
  exact ⟨List.eq_nil_of_length_eq_zero (by omega), h2, fun x hx => by simpa using h3 x hx⟩
theorem sum_split {α : Type} (f : α → Nat) (l : List α) (k : Nat) : ((l.take k).map f).sum + ((l.drop k).map f).sum = (l.map f).sum := by
  have := List.sum_append (l₁ := (l.take k).map f) (l₂ := (l.drop k).map f)
  rw [← List.map_append, List.take_append_drop] at this
  omega
theorem pairsN_drop (ps : List (ByteArray × ByteArray)) (k : Nat) : pairsN (ps.drop k) = pairsN ps - pairsN (ps.take k) := by
  have := sum_split (fun x : ByteArray × ByteArray => textN x.1.size + textN x.2.size) ps k
  unfold pairsN
  omega
theorem textsN_drop (ss : List ByteArray) (k : Nat) : textsN (ss.drop k) = textsN ss - textsN (ss.take k) := by
  have := sum_split (fun x : ByteArray => textN x.size) ss k
  unfold textsN
  omega
/-- A node whose lists are its own. -/
structure MadeNd (w : World) (B : Nat) (r : Nr) (N : Nd) : Prop where
  op : w.ownsRow B 48 2 (.slice r.pa N.ps.length r.cp) N.ps.length (pcells N.ps)
  os : w.ownsRow B 9 1 (.slice r.sa N.ss.length r.cs) N.ss.length (scells N.ss)
  ok : w.ownsRow B 59 33 (.slice r.ka N.ks.length r.ck) N.ks.length (kcellsL N.ks)
theorem MadeNd.same {w w' : World} {B : Nat} {r : Nr} {N : Nd} (h : MadeNd w B r N) (s : Same w w') : MadeNd w' B r N := ⟨own_frameB h.op s (fun _ _ f => f), own_frameB h.os s (fun _ _ f => f), own_frameB h.ok s (fun _ _ f => f)⟩
theorem MadeNd.nd {w : World} {B : Nat} {r : Nr} {N : Nd} {q : Int} (h : MadeNd w B r N) (hs : NdSmall N) (hk : ∀ x ∈ N.ks, KidOk x) : ∃ r' : Nr, ndV r' N = ndV r N ∧ NdOk w r' q N := by
  obtain ⟨g1, r1⟩ := own_prow (own_base h.op (Nat.zero_le _)) rfl
  obtain ⟨g2, r2⟩ := own_trow (own_base h.os (Nat.zero_le _)) rfl
  obtain ⟨g3, r3⟩ := own_krow hk (own_base h.ok (Nat.zero_le _)) rfl
  have c2 := own_cap (own_base h.os (Nat.zero_le _))
  obtain ⟨l1, l2, l3, _⟩ := hs.lens
  refine ⟨{ r with pb := g1, po := 0, sb := g2, so := 0, kb := g3, ko := 0 }, rfl, ⟨r1, r2, r3, hk, by omega, by omega, by omega⟩, ⟨c2.1, by have := c2.2; unfold maxLen at this; show r.cs ≤ _; omega⟩, hs.form hk _ _, hs.form hk _ _⟩
def halvesN (r1 r2 : Nr) (N1 N2 : Nd) (sp : ByteArray) : Array Value := #[.slice r1.pa N1.ps.length r1.cp, .slice r1.sa N1.ss.length r1.cs, .slice r1.ka N1.ks.length r1.ck, .string sp, .slice r2.pa N2.ps.length r2.cp, .slice r2.sa N2.ss.length r2.cs, .slice r2.ka N2.ks.length r2.ck]
theorem small_leaf_take {ps : List (ByteArray × ByteArray)} (h : NdSmall ⟨ps, [], []⟩) (k : Nat) : NdSmall ⟨ps.take k, [], []⟩ ∧ NdSmall ⟨ps.drop k, [], []⟩ := by
  have := sum_split (fun x : ByteArray × ByteArray => x.1.size + x.2.size + 3) ps k
  have h1 : (ps.map fun x => x.1.size + x.2.size + 3).sum ≤ 1048576 := h.hp
  exact ⟨⟨by show ((ps.take k).map _).sum ≤ _; omega, by simp, by simp⟩, ⟨by show ((ps.drop k).map _).sum ≤ _; omega, by simp, by simp⟩⟩
theorem small_branch_take {ss : List ByteArray} {ks : List Kid} (h : NdSmall ⟨[], ss, ks⟩) (a b : Nat) : NdSmall ⟨[], ss.take a, ks.take b⟩ ∧ NdSmall ⟨[], ss.drop a, ks.drop b⟩ := by
  have := sum_split (fun x : ByteArray => x.size + 1) ss a
  have h1 : (ss.map fun x => x.size + 1).sum ≤ 1048576 := h.hs
  have h2 : ks.length ≤ 1048576 := h.hk
  exact ⟨⟨by simp, by show ((ss.take a).map _).sum ≤ _; omega, by show (ks.take b).length ≤ _; rw [List.length_take]; omega⟩, ⟨by simp, by show ((ss.drop a).map _).sum ≤ _; omega, by show (ks.drop b).length ≤ _; rw [List.length_drop]; omega⟩⟩
end Go.Proofs.Ytmgkdnejjemfeaa
