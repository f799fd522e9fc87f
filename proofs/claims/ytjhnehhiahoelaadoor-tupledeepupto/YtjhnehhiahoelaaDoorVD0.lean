/-
  What Check answers of n items within d lists, plainly.
-/
import Derived.Test.YtjhnehhiahoelaaDoorV8
namespace Go.Proofs.YtjhnehhiahoelaaDoor
open Go.RowKit

/-- A row within d lists, one in the other. -/
def nestP : Nat → List ItemP → List ItemP
  | 0, l => l
  | d + 1, l => [.mk 6 false 0 0 ⟨#[]⟩ (nestP d l)]
theorem nestP_succ' (d : Nat) (l : List ItemP) : nestP (d + 1) l = nestP d [.mk 6 false 0 0 ⟨#[]⟩ l] := by
  induction d with
  | zero => rfl
  | succ d ih => rw [nestP, ih]; rfl
theorem may_list (m : Nat) : mayP 6 false 0 0 ⟨#[]⟩ m = true := by simp [mayP]
theorem chk_nest_deep (d : Nat) : ∀ (l : List ItemP) (p n z : Nat), p ≤ 8 → 8 < p + d → n < 64 → n + (8 - p) < 64 → (chkL (nestP d l) p n z).1 = 32 := by
  induction d with
  | zero => intro l p n z h1 h2; omega
  | succ d ih =>
    intro l p n z h1 h2 h3 h4
    rw [nestP, chkL]
    by_cases hp : p = 8
    · have : chkI (.mk 6 false 0 0 ⟨#[]⟩ (nestP d l)) p n z = (32, n, z) := by
        rw [chkI, if_neg (by omega), if_neg (by rw [may_list]; simp), if_pos (by omega)]
      rw [this]; rfl
    · have : chkI (.mk 6 false 0 0 ⟨#[]⟩ (nestP d l)) p n z = chkL (nestP d l) (p + 1) (n + 1) (z + 2) := by
        rw [chkI, if_neg (by omega), if_neg (by rw [may_list]; simp), if_neg (by omega)]; rfl
      have h := ih l (p + 1) (n + 1) (z + 2) (by omega) (by omega) (by omega) (by omega)
      rw [this, if_neg (by omega)]
      exact h
theorem chk_nest (d : Nat) : ∀ (l : List ItemP) (p n z : Nat), p + d ≤ 8 → n + d ≤ 64 → chkL (nestP d l) p n z = chkL l (p + d) (n + d) (z + 2 * d) := by
  induction d with
  | zero => intro l p n z _ _; rfl
  | succ d ih =>
    intro l p n z h1 h2
    rw [nestP, chkL]
    have : chkI (.mk 6 false 0 0 ⟨#[]⟩ (nestP d l)) p n z = chkL l (p + (d + 1)) (n + (d + 1)) (z + 2 * (d + 1)) := by
      rw [chkI, if_neg (by omega), if_neg (by rw [may_list]; simp), if_neg (by omega), ih _ _ _ _ (by omega) (by omega)]
      have : ownN 6 0 ⟨#[]⟩ = 2 := rfl
      rw [this]
      congr 1 <;> omega
    rw [this]
    by_cases h : (chkL l (p + (d + 1)) (n + (d + 1)) (z + 2 * (d + 1))).1 = 0
    · rw [if_pos h, chkL]
      generalize chkL l (p + (d + 1)) (n + (d + 1)) (z + 2 * (d + 1)) = r at *
      obtain ⟨a, b, c⟩ := r
      simp only at h ⊢
      rw [h]
    · rw [if_neg h]
/-- An item without a list that is taken alone. -/
theorem chk_one {kd : Nat} {b : Bool} {i : Int} {f : Nat} {s : ByteArray} {l : List ItemP} (h : checkP [.mk kd b i f s l] = 0) (hk : kd ≠ 6) : l = [] ∧ mayP kd b i f s l.length = true ∧ ownN kd i s ≤ 4096 ∧ (itemB (.mk kd b i f s l)).length = ownN kd i s := by
  have h1 : (chkL [.mk kd b i f s l] 0 0 0).1 = 0 := by
    unfold checkP at h
    by_cases h1 : (chkL [.mk kd b i f s l] 0 0 0).1 = 0
    · exact h1
    · rw [if_neg h1] at h; exact absurd h h1
  have hi : (chkI (.mk kd b i f s l) 0 0 0).1 = 0 := by
    rw [chkL] at h1
    by_cases h2 : (chkI (.mk kd b i f s l) 0 0 0).1 = 0
    · exact h2
    · rw [if_neg h2] at h1; exact absurd h1 h2
  have hm : mayP kd b i f s l.length = true := by
    rw [chkI, if_neg (by omega)] at hi
    by_cases h2 : mayP kd b i f s l.length = false
    · rw [if_pos h2] at hi; simp at hi
    · simpa using h2
  have hl : l = [] := by
    have := hm
    unfold mayP at this
    simp only [Bool.and_eq_true, Bool.or_eq_true, beq_iff_eq, decide_eq_true_eq] at this
    rcases this.2 with h | h
    · exact absurd h hk
    · exact List.length_eq_zero_iff.1 h
  have hz := item_size kd b i f s l hm
  have hr := checkP_size _ h
  rw [rowB, rowB, List.append_nil] at hr
  subst hl
  rw [rowB, List.length_nil] at hz
  exact ⟨rfl, hm, by omega, hz⟩
theorem chk_many {kd : Nat} {b : Bool} {i : Int} {f : Nat} {s : ByteArray} (hm : mayP kd b i f s 0 = true) (hk : kd ≠ 6) (m : Nat) : ∀ (p n z : Nat), n ≤ 64 → chkL (List.replicate m (.mk kd b i f s [])) p n z = if n + m ≤ 64 then (0, n + m, z + m * ownN kd i s) else (31, 64, z + (64 - n) * ownN kd i s) := by
  induction m with
  | zero => intro p n z h; rw [if_pos (by omega)]; simp [chkL]
  | succ m ih =>
    intro p n z h
    rw [List.replicate_succ, chkL]
    by_cases h64 : n = 64
    · subst h64
      have : chkI (.mk kd b i f s []) p 64 z = (31, 64, z) := by rw [chkI, if_pos (by omega)]
      rw [this, if_neg (by simp), if_neg (by omega)]
      simp
    · have : chkI (.mk kd b i f s []) p n z = (0, n + 1, z + ownN kd i s) := by
        rw [chkI, if_neg (by omega), if_neg (by rw [List.length_nil, hm]; simp), if_neg (by omega)]; rfl
      rw [this, if_pos rfl]
      simp only
      rw [ih p (n + 1) (z + ownN kd i s) (by omega)]
      by_cases h2 : n + 1 + m ≤ 64
      · rw [if_pos h2, if_pos (by omega), Nat.succ_mul]
        simp only [Prod.mk.injEq, true_and]
        omega
      · rw [if_neg h2, if_neg (by omega)]
        have e : 64 - n = 64 - (n + 1) + 1 := by omega
        rw [e, Nat.succ_mul]
        simp only [Prod.mk.injEq, true_and]
        omega
/-- What is wanted of n items within d lists. -/
theorem deep_check {kd : Nat} {b : Bool} {i : Int} {f : Nat} {s : ByteArray} {l : List ItemP} (h : checkP [.mk kd b i f s l] = 0) (hk : kd ≠ 6) (n d : Nat) :
    checkP (nestP d (List.replicate n (.mk kd b i f s l))) = if 8 < d then 32 else if 64 < n + d then 31 else if 4096 < n * (itemB (.mk kd b i f s l)).length + 2 * d then 4 else 0 := by
  obtain ⟨rfl, hm, ho, hz⟩ := chk_one h hk
  rw [hz]
  generalize hO : ownN kd i s = O at *
  by_cases h8 : 8 < d
  · rw [if_pos h8]
    have := chk_nest_deep d (List.replicate n (.mk kd b i f s [])) 0 0 0 (by omega) (by omega) (by omega) (by omega)
    unfold checkP
    rw [this]; rfl
  · rw [if_neg h8]
    have e := chk_nest d (List.replicate n (.mk kd b i f s [])) 0 0 0 (by omega) (by omega)
    rw [chk_many hm hk n _ _ _ (by omega), hO] at e
    unfold checkP
    rw [e]
    by_cases h64 : 64 < n + d
    · rw [if_pos h64, if_neg (show ¬ 0 + d + n ≤ 64 by omega)]; rfl
    · rw [if_neg h64, if_pos (show 0 + d + n ≤ 64 by omega)]
      have : 0 + 2 * d + n * O = n * O + 2 * d := by omega
      rw [this]
      rfl
end Go.Proofs.YtjhnehhiahoelaaDoor
