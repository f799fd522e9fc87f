/-
  Walks: how a step is laid ('lay'): the kinds of one number, and a text.
-/
import Derived.Test.YtjlbkagkmcelgaaW5
namespace Go.Proofs.Ytjlbkagkmcelgaa
open Go.RowKit

theorem WrAt.same {w w' : World} {b : Nat} {g : Option Nat} {bs : List UInt8} (h : WrAt w b g bs) (k : Fr (fun _ => False) w w') : WrAt w' b g bs := by
  obtain ⟨ao, c, hblk, hown, hg⟩ := h
  exact ⟨ao, c, by rw [k.block b (lt_of_heap hblk) (fun f => f)]; exact hblk, own_frame hown k (fun _ _ f => f), hg⟩
theorem WrAt.frame {w w' : World} {b : Nat} {g : Option Nat} {bs : List UInt8} {S : Nat → Prop} (h : WrAt w b g bs) (k : Fr S w w') (hb : ¬ S b) (hg : ∀ i, g = some i → ¬ S i) : WrAt w' b g bs := by
  obtain ⟨ao, c, hblk, hown, hgg⟩ := h
  refine ⟨ao, c, by rw [k.block b (lt_of_heap hblk) hb]; exact hblk, own_frame hown k ?_, hgg⟩
  intro i hi
  refine hg i ?_
  rw [hgg, ← hi]; cases ao <;> rfl
theorem WrAt.lt {w : World} {b : Nat} {g : Option Nat} {bs : List UInt8} (h : WrAt w b g bs) : b < w.heap.size ∧ (∀ i, g = some i → i < w.heap.size) := by
  obtain ⟨ao, c, hblk, hown, hgg⟩ := h
  refine ⟨lt_of_heap hblk, fun i hi => own_lt hown ?_⟩
  rw [← hi, hgg]; cases ao <;> rfl
theorem WrStep.same {b : Nat} {g g' : Option Nat} {w w1 w2 : World} (h : Fr (fun _ => False) w w1) (k : WrStep b g g' w1 w2) : WrStep b g g' w w2 :=
  ⟨Fr.trans (h.mono (fun _ _ f => f.elim)) k.1 (fun _ _ t => t), fun i hi => by rcases k.2 i hi with h' | h'; exact Or.inl h'; exact Or.inr (Nat.le_trans h.size h')⟩
end Go.Proofs.Ytjlbkagkmcelgaa
