/- Plain: one cut is enough: neither half full nor thin. -/
import Derived.Test.YteddbkbfnafbpaaFZ
import Derived.Test.YteddbkbfnafbpaaVE
namespace Go.Proofs.Yteddbkbfnafbpaa
open Go.RowKit

theorem bitLen_pos {x : Nat} (h0 : x ≠ 0) (h : x < 18446744073709551616) : 1 ≤ Lib.bitLen x := by
  rw [Lib.bitLen_half x h0 h]; omega
theorem numN_cases {n : Nat} (h : n < 2097152) : (n < 128 ∧ numN n = 1) ∨ (128 ≤ n ∧ n < 16384 ∧ numN n = 2) ∨ (16384 ≤ n ∧ numN n = 3) := by
  by_cases h1 : n < 128
  · have := Lib.bitLen_le n 7 (by omega) h1
    exact Or.inl ⟨h1, by unfold numN; omega⟩
  · by_cases h2 : n < 16384
    · have e := Lib.bitLen_shift 7 n (by omega) (by omega)
      have a := bitLen_pos (x := n / 2 ^ 7) (by omega) (by omega)
      have b := Lib.bitLen_le (n / 2 ^ 7) 7 (by omega) (by omega)
      exact Or.inr (Or.inl ⟨by omega, h2, by unfold numN; omega⟩)
    · have e := Lib.bitLen_shift 14 n (by omega) (by omega)
      have a := bitLen_pos (x := n / 2 ^ 14) (by omega) (by omega)
      have b := Lib.bitLen_le (n / 2 ^ 14) 7 (by omega) (by omega)
      exact Or.inr (Or.inr ⟨by omega, by unfold numN; omega⟩)
theorem free_num {n : Nat} (h : n < 2097152) : (freeB n).length = numN n := by
  unfold freeB
  rw [freeF]
  rcases numN_cases h with ⟨h1, e⟩ | ⟨h1, h2, e⟩ | ⟨h1, e⟩
  · rw [if_pos h1, e]; rfl
  · rw [if_neg (by omega), freeF, if_pos (by omega), e]; rfl
  · rw [if_neg (by omega), freeF, if_neg (by omega), freeF, if_pos (by omega), e]; rfl
theorem numN_mono {a b : Nat} (h : a ≤ b) (hb : b < 2097152) : numN a ≤ numN b := by
  rcases numN_cases (n := a) (by omega) with ⟨_, e⟩ | ⟨_, _, e⟩ | ⟨_, e⟩ <;> rcases numN_cases hb with ⟨_, f⟩ | ⟨_, _, f⟩ | ⟨_, f⟩ <;> omega
theorem numN_range {n : Nat} (h : n < 2097152) : 1 ≤ numN n ∧ numN n ≤ 3 := by
  rcases numN_cases h with ⟨_, e⟩ | ⟨_, _, e⟩ | ⟨_, e⟩ <;> omega

/-- The left sides grow, the right ones shrink. -/
def Parts (L : List (Nat × Nat × Nat)) : Prop := L.Pairwise fun a b => a.2.1 ≤ b.2.1 ∧ b.2.2 < a.2.2
theorem bestS_min : ∀ (L : List (Nat × Nat × Nat)) (s : Nat × Nat) (l0 r0 : Nat), s.1 ≠ 0 → s.2 = max l0 r0 → (∀ x ∈ L, l0 ≤ x.2.1 ∧ x.2.2 < r0) → Parts L → (∀ x ∈ L, x.1 ≠ 0) →
    (bestS L s).2 ≤ s.2 ∧ (∀ x ∈ L, (bestS L s).2 ≤ max x.2.1 x.2.2) ∧ (bestS L s = s ∨ ∃ x ∈ L, bestS L s = (x.1, max x.2.1 x.2.2))
  | [], s, _, _, _, _, _, _, _ => ⟨Nat.le_refl _, fun x hx => by simp at hx, Or.inl rfl⟩
  | x :: L, s, l0, r0, h1, h2, h3, h4, h5 => by
    obtain ⟨hx1, hx2⟩ := h3 x List.mem_cons_self
    obtain ⟨p1, p2⟩ := List.pairwise_cons.1 h4
    rw [bestS]
    by_cases hc : s.1 = 0 ∨ max x.2.1 x.2.2 < s.2
    · rw [if_pos hc]
      have hlt : max x.2.1 x.2.2 < s.2 := hc.resolve_left h1
      obtain ⟨i1, i2, i3⟩ := bestS_min L (x.1, max x.2.1 x.2.2) x.2.1 x.2.2 (h5 x List.mem_cons_self) rfl p1 p2 (fun y hy => h5 y (List.mem_cons_of_mem _ hy))
      refine ⟨by simp only at i1; omega, fun y hy => ?_, Or.inr ?_⟩
      · rcases List.mem_cons.1 hy with rfl | hy
        · exact i1
        · exact i2 y hy
      · rcases i3 with e | ⟨y, hy, e⟩
        · exact ⟨x, List.mem_cons_self, e⟩
        · exact ⟨y, List.mem_cons_of_mem _ hy, e⟩
    · rw [if_neg hc]
      have hge : s.2 ≤ max x.2.1 x.2.2 := by
        have : ¬ max x.2.1 x.2.2 < s.2 := fun h => hc (Or.inr h)
        omega
      refine ⟨Nat.le_refl _, fun y hy => ?_, Or.inl rfl⟩
      rcases List.mem_cons.1 hy with rfl | hy
      · exact hge
      · obtain ⟨y1, _⟩ := p1 y hy
        omega
theorem best_bounds (L : List (Nat × Nat × Nat)) (B Tot : Nat) (hp : Parts L) (h0 : ∀ x ∈ L, x.1 ≠ 0) (hB : ∃ y ∈ L, y.2.1 ≤ B ∧ y.2.2 ≤ B) (hT : ∀ x ∈ L, Tot ≤ x.2.1 + x.2.2) :
    ∃ x ∈ L, (bestS L (0, 0)).1 = x.1 ∧ x.2.1 ≤ B ∧ x.2.2 ≤ B ∧ Tot ≤ x.2.1 + B ∧ Tot ≤ x.2.2 + B := by
  obtain ⟨y, hy, y1, y2⟩ := hB
  cases L with
  | nil => simp at hy
  | cons z L =>
    obtain ⟨p1, p2⟩ := List.pairwise_cons.1 hp
    rw [bestS, if_pos (Or.inl rfl)]
    obtain ⟨i1, i2, i3⟩ := bestS_min L (z.1, max z.2.1 z.2.2) z.2.1 z.2.2 (h0 z List.mem_cons_self) rfl p1 p2 (fun y hy => h0 y (List.mem_cons_of_mem _ hy))
    have hm : (bestS L (z.1, max z.2.1 z.2.2)).2 ≤ B := by
      rcases List.mem_cons.1 hy with rfl | hy
      · simp only at i1; omega
      · have := i2 y hy; omega
    rcases i3 with e | ⟨x, hx, e⟩
    · rw [e] at hm ⊢
      simp only at hm
      have := hT z List.mem_cons_self
      exact ⟨z, List.mem_cons_self, rfl, by omega, by omega, by omega, by omega⟩
    · rw [e] at hm ⊢
      simp only at hm
      have := hT x (List.mem_cons_of_mem _ hx)
      exact ⟨x, List.mem_cons_of_mem _ hx, rfl, by omega, by omega, by omega, by omega⟩
/-- Somewhere it is within half a step of the middle. -/
theorem first_half (U : Nat → Nat) (T : Nat) : ∀ n, T ≤ 2 * U n → ∃ j, j ≤ n ∧ T ≤ 2 * U j ∧ (j = 0 ∨ 2 * U (j - 1) < T)
  | 0, h => ⟨0, Nat.le_refl _, h, Or.inl rfl⟩
  | n + 1, h => by
    by_cases hn : T ≤ 2 * U n
    · obtain ⟨j, h1, h2, h3⟩ := first_half U T n hn
      exact ⟨j, by omega, h2, h3⟩
    · exact ⟨n + 1, Nat.le_refl _, h, Or.inr (by simpa using hn)⟩
theorem middle (U : Nat → Nat) (n M : Nat) (hM : ∀ i, i < n → U (i + 1) ≤ U i + M) (h0 : U 0 = 0) : ∃ j, j ≤ n ∧ 2 * U j ≤ U n + M ∧ U n ≤ 2 * U j + M := by
  obtain ⟨j, h1, h2, h3⟩ := first_half U (U n) n (by omega)
  rcases h3 with rfl | h3
  · rw [h0] at h2
    exact ⟨0, by omega, by rw [h0]; omega, by omega⟩
  · cases j with
    | zero => exact ⟨0, by omega, by omega, by omega⟩
    | succ j =>
      have hs := hM j (by omega)
      simp only [Nat.add_sub_cancel] at h3
      by_cases hc : 2 * U (j + 1) ≤ U n + M
      · exact ⟨j + 1, h1, hc, by omega⟩
      · exact ⟨j, by omega, by omega, by omega⟩
end Go.Proofs.Yteddbkbfnafbpaa
