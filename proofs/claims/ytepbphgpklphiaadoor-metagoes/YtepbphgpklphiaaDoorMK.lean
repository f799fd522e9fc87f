/- Plain: a greater record that is laid into the slot next. -/
import Derived.Test.YtepbphgpklphiaaDoorMB
import Derived.Test.YtepbphgpklphiaaDoorMD
namespace Go.Proofs.YtepbphgpklphiaaDoor
open Go.RowKit

theorem pick_same {p q pages : Int} {z o z' o' : ByteArray} (h1 : decB p q z' = decB p q z) (h2 : decK p q z' = decK p q z) (h3 : decR p q z' = decR p q z) (h4 : decB p q o' = decB p q o) (h5 : decK p q o' = decK p q o) (h6 : decR p q o' = decR p q o) : pickT p q pages z' o' = pickT p q pages z o := by
  unfold pickT
  rw [h1, h2, h3, h4, h5, h6]
theorem recEq_zero {M : Rec} (h : recEq M zeroRec = true) : M.v = 0 := by rw [(recEq_iff M zeroRec).1 h]; rfl
theorem recEq_pos {M : Rec} (h : 1 ≤ M.v) : recEq M zeroRec = false := by
  rw [Bool.eq_false_iff]
  intro e
  have := recEq_zero e
  omega
/-- What a pick without an error says of the two slots. -/
theorem pick_says {p q pages : Int} {z o : ByteArray} {old : Rec} {next : Nat} (hp : ¬ pages < 2) (h : pickT p q pages z o = (old, next, 0)) :
    frameP p q = true ∧ decB p q z = true ∧ decB p q o = true ∧ ((next = 0 ∧ (cntR (decR p q o) pages).v ≤ old.v) ∨ (next = 1 ∧ (cntR (decR p q z) pages).v ≤ old.v)) := by
  unfold pickT at h
  by_cases hf : frameP p q = false
  · rw [if_pos hf] at h; simp at h
  rw [if_neg hf, if_neg hp] at h
  by_cases hz : decB p q z = false
  · rw [if_pos hz] at h; simp at h
  rw [if_neg hz] at h
  by_cases ho : decB p q o = false
  · rw [if_pos ho] at h; simp at h
  rw [if_neg ho] at h
  refine ⟨by simpa using hf, by simpa using hz, by simpa using ho, ?_⟩
  generalize cntR (decR p q z) pages = cz at *
  generalize cntR (decR p q o) pages = co at *
  by_cases hM : recEq (newR cz co) zeroRec = false
  · rw [if_pos hM] at h
    simp only [Prod.mk.injEq, and_true] at h
    obtain ⟨h1, h2⟩ := h
    unfold newR at h1
    unfold newN at h2
    by_cases hv : cz.v < co.v
    · rw [if_pos hv] at h1 h2
      exact Or.inl ⟨h2.symm, by rw [h1]; exact Nat.le_refl _⟩
    · rw [if_neg hv] at h1 h2
      exact Or.inr ⟨h2.symm, by rw [h1]; exact Nat.le_refl _⟩
  · rw [if_neg hM] at h
    have hM' := recEq_zero (by simpa using hM)
    by_cases h2 : decK p q z = 2 ∨ decK p q o = 2
    · rw [if_pos h2] at h; simp at h
    rw [if_neg h2] at h
    by_cases h0 : decK p q z = 0 ∧ decK p q o = 0
    · rw [if_pos h0] at h
      simp only [Prod.mk.injEq, and_true] at h
      left
      refine ⟨h.2.symm, ?_⟩
      unfold newR at hM'
      by_cases hv : cz.v < co.v
      · rw [if_pos hv] at hM'; omega
      · rw [if_neg hv] at hM'; omega
    · rw [if_neg h0] at h; simp at h
/-- The new record is picked where it was laid. -/
theorem pick_new {p q pages : Int} {z o x : ByteArray} {old new : Rec} {next : Nat} (hp : ¬ pages < 2) (h : pickT p q pages z o = (old, next, 0)) (hv : old.v < new.v) (hg : ¬ pages < (new.pg : Int))
    (hx1 : decB p q x = true) (hx3 : decR p q x = new) :
    (next = 0 → pickT p q pages x o = (new, 1, 0)) ∧ (next = 1 → pickT p q pages z x = (new, 0, 0)) := by
  obtain ⟨hf, hz, ho, hs⟩ := pick_says hp h
  have hc : cntR new pages = new := by unfold cntR; rw [if_neg hg]
  have hf' : ¬ frameP p q = false := by rw [hf]; simp
  have hx' : ¬ decB p q x = false := by rw [hx1]; simp
  have hz' : ¬ decB p q z = false := by rw [hz]; simp
  have ho' : ¬ decB p q o = false := by rw [ho]; simp
  have hn0 : recEq new zeroRec = false := recEq_pos (by omega)
  constructor
  · intro hn
    have hco : (cntR (decR p q o) pages).v ≤ old.v := by rcases hs with ⟨_, h⟩ | ⟨h, _⟩; exact h; omega
    unfold pickT
    rw [if_neg hf', if_neg hp, if_neg hx', if_neg ho', hx3, hc]
    generalize cntR (decR p q o) pages = co at *
    have e1 : newR new co = new := by unfold newR; rw [if_neg (by omega)]
    have e2 : newN new co = 1 := by unfold newN; rw [if_neg (by omega)]
    rw [e1, e2, if_pos hn0]
  · intro hn
    have hcz : (cntR (decR p q z) pages).v ≤ old.v := by rcases hs with ⟨h, _⟩ | ⟨_, h⟩; omega; exact h
    unfold pickT
    rw [if_neg hf', if_neg hp, if_neg hz', if_neg hx', hx3, hc]
    generalize cntR (decR p q z) pages = cz at *
    have e1 : newR cz new = new := by unfold newR; rw [if_pos (by omega)]
    have e2 : newN cz new = 0 := by unfold newN; rw [if_pos (by omega)]
    rw [e1, e2, if_pos hn0]
end Go.Proofs.YtepbphgpklphiaaDoor
