/- halved of a branch, whole; Split of a branch; Split refused. -/
import Derived.Test.YtmgkdnejjemfeaaVC
import Derived.Test.YtmgkdnejjemfeaaKH
import Derived.Test.YtmgkdnejjemfeaaKV
import Derived.Test.YtmgkdnejjemfeaaKS
import Derived.Test.YtmgkdnejjemfeaaKT
namespace Go.Proofs.Ytmgkdnejjemfeaa
open Go.RowKit

theorem flat_takeK {α : Type} (f : α → List Value) (sz : Nat) : ∀ (l : List α) (k : Nat), (∀ x ∈ l, (f x).length = sz) → (l.flatMap f).take (k * sz) = (l.take k).flatMap f
  | _, 0, _ => by rw [Nat.zero_mul, List.take_zero, List.take_zero]; rfl
  | [], k + 1, _ => by simp
  | x :: l, k + 1, h => by
    have h1 := h x List.mem_cons_self
    rw [List.flatMap_cons, List.take_succ_cons, List.flatMap_cons, ← flat_takeK f sz l k (fun y hy => h y (List.mem_cons_of_mem _ hy)), List.take_append, h1, List.take_of_length_le (by rw [h1, Nat.add_mul]; omega), Nat.add_mul, Nat.one_mul, Nat.add_sub_cancel]
theorem flat_dropK {α : Type} (f : α → List Value) (sz : Nat) : ∀ (l : List α) (k : Nat), (∀ x ∈ l, (f x).length = sz) → (l.flatMap f).drop (k * sz) = (l.drop k).flatMap f
  | _, 0, _ => by rw [Nat.zero_mul, List.drop_zero, List.drop_zero]
  | [], k + 1, _ => by simp
  | x :: l, k + 1, h => by
    have h1 := h x List.mem_cons_self
    rw [List.flatMap_cons, List.drop_succ_cons, ← flat_dropK f sz l k (fun y hy => h y (List.mem_cons_of_mem _ hy)), List.drop_append, h1, List.drop_eq_nil_of_le (by rw [h1, Nat.add_mul]; omega), List.nil_append, Nat.add_mul, Nat.one_mul, Nat.add_sub_cancel]
theorem kcellsL_takeK (l : List Kid) (k : Nat) (h : ∀ x ∈ l, KidOk x) : (kcellsL l).take (k * 33) = kcellsL (l.take k) := flat_takeK kcells 33 l k (fun x hx => kcells_length (h x hx).d)
theorem kcellsL_dropK (l : List Kid) (k : Nat) (h : ∀ x ∈ l, KidOk x) : (kcellsL l).drop (k * 33) = kcellsL (l.drop k) := flat_dropK kcells 33 l k (fun x hx => kcells_length (h x hx).d)
theorem scells_takeK (l : List ByteArray) (k : Nat) : (scells l).take (k * 1) = scells (l.take k) := by rw [Nat.mul_one, scells, scells, List.map_take]
theorem scells_dropK (l : List ByteArray) (k : Nat) : (scells l).drop (k * 1) = scells (l.drop k) := by rw [Nat.mul_one, scells, scells, List.map_drop]
end Go.Proofs.Ytmgkdnejjemfeaa
namespace Go.Proofs.Ytmgkdnejjemfeaa
open Go.RowKit

theorem mem_le_sum {α : Type} (f : α → Nat) : ∀ (l : List α) (x : α), x ∈ l → f x ≤ (l.map f).sum
  | y :: l, x, h => by
    rw [List.map_cons, List.sum_cons]
    rcases List.mem_cons.1 h with rfl | h
    · omega
    · have := mem_le_sum f l x h; omega
theorem rises_adj {mk : Int} : ∀ (l : List ByteArray) (pv : ByteArray) (m : Nat) (x y : ByteArray), risesP mk pv l = true → l[m]? = some x → l[m + 1]? = some y → Op.bytesLess x.toList y.toList = true
  | [], _, m, x, y, _, hx, _ => by simp at hx
  | k :: l, pv, 0, x, y, h, hx, hy => by
    obtain ⟨_, _, h3⟩ := rises_cons.1 h
    simp at hx hy
    subst hx
    cases l with
    | nil => simp at hy
    | cons z l =>
      simp at hy
      subst hy
      exact (rises_cons.1 h3).1
  | k :: l, pv, m + 1, x, y, h, hx, hy => by
    obtain ⟨_, _, h3⟩ := rises_cons.1 h
    exact rises_adj l k m x y h3 (by simpa using hx) (by simpa using hy)
theorem chk_branch {p q : Int} {N : Nd} (hc : chkN p q N = 0) (hk : 0 < N.ks.length) : frameP p q = true ∧ N.ss.length + 1 = N.ks.length ∧ 2 ≤ N.ks.length := by
  obtain ⟨hf, hs⟩ := chk_zero hc
  have hl : leafB N = false := by
    unfold leafB
    rw [show decide (N.ks.length = 0) = false from decide_eq_false (by omega)]
    simp
  refine ⟨hf, ?_⟩
  unfold shapeP branchP at hs
  rw [hl] at hs
  simp only [Bool.false_eq_true, if_false, Bool.and_eq_true, Bool.not_eq_true', Bool.or_eq_false_iff, decide_eq_false_iff_not] at hs
  omega
end Go.Proofs.Ytmgkdnejjemfeaa
