/- Split in all its ways. -/
import Derived.Test.YtdmoglnbelembaaGreatVCJ
import Derived.Test.YtdmoglnbelembaaGreatKS
import Derived.Test.YtdmoglnbelembaaGreatKT
namespace Go.Proofs.YtdmoglnbelembaaGreat
open Go.RowKit

theorem best_mem : ∀ (L : List (Nat × Nat × Nat)) (s : Nat × Nat), (bestS L s).1 = s.1 ∨ ∃ x ∈ L, (bestS L s).1 = x.1
  | [], s => Or.inl rfl
  | x :: L, s => by
    rw [bestS]
    split
    · rcases best_mem L (x.1, max x.2.1 x.2.2) with h | ⟨y, hy, h⟩
      · exact Or.inr ⟨x, List.mem_cons_self, h⟩
      · exact Or.inr ⟨y, List.mem_cons_of_mem _ hy, h⟩
    · exact Or.inl rfl
theorem best_leaf_range (ps : List (ByteArray × ByteArray)) : (bestS (cutsN ps (ps.length - 1)) (0, 0)).1 = 0 ∨ ∃ m, (bestS (cutsN ps (ps.length - 1)) (0, 0)).1 = m + 1 ∧ m + 1 < ps.length := by
  rcases best_mem (cutsN ps (ps.length - 1)) (0, 0) with h | ⟨x, hx, h⟩
  · exact Or.inl h
  · unfold cutsN at hx
    obtain ⟨j, hj, rfl⟩ := List.mem_map.1 hx
    rw [List.mem_range] at hj
    exact Or.inr ⟨j, h, by omega⟩
theorem mem_le_sum {α : Type} (f : α → Nat) : ∀ (l : List α) (x : α), x ∈ l → f x ≤ (l.map f).sum
  | y :: l, x, h => by
    rw [List.map_cons, List.sum_cons]
    rcases List.mem_cons.1 h with rfl | h
    · omega
    · have := mem_le_sum f l x h; omega
theorem rises_adj {mk : Int} : ∀ (l : List ByteArray) (pv : ByteArray) (m : Nat) (x y : ByteArray), risesP mk pv l = true → l[m]? = some x → l[m + 1]? = some y → Op.bytesLess x.toList y.toList = true
  | [], _, m, x, y, _, hx, _ => by simp at hx
  | k :: l, pv, 0, x, y, h, hx, hy => by
    obtain ⟨_, _, h3⟩ := rises_cons.1 h
    simp at hx hy
    subst hx
    cases l with
    | nil => simp at hy
    | cons z l =>
      simp at hy
      subst hy
      exact (rises_cons.1 h3).1
  | k :: l, pv, m + 1, x, y, h, hx, hy => by
    obtain ⟨_, _, h3⟩ := rises_cons.1 h
    exact rises_adj l k m x y h3 (by simpa using hx) (by simpa using hy)
theorem chk_branch {p q : Int} {N : Nd} (hc : chkN p q N = 0) (hk : 0 < N.ks.length) : frameP p q = true ∧ N.ss.length + 1 = N.ks.length ∧ 2 ≤ N.ks.length := by
  obtain ⟨hf, hs⟩ := chk_zero hc
  have hl : leafB N = false := by
    unfold leafB
    rw [show decide (N.ks.length = 0) = false from decide_eq_false (by omega)]
    simp
  refine ⟨hf, ?_⟩
  unfold shapeP branchP at hs
  rw [hl] at hs
  simp only [Bool.false_eq_true, if_false, Bool.and_eq_true, Bool.not_eq_true', Bool.or_eq_false_iff, decide_eq_false_iff_not] at hs
  omega
end Go.Proofs.YtdmoglnbelembaaGreat
