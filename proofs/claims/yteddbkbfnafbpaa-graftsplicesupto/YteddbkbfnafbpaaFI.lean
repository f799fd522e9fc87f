/- Plain: a full leaf's, a full branch's best cut. -/
import Derived.Test.YteddbkbfnafbpaaFH
namespace Go.Proofs.Yteddbkbfnafbpaa
open Go.RowKit

theorem rises_sizes {mk : Int} : ∀ (l : List ByteArray) (pv : ByteArray), risesP mk pv l = true → ∀ z ∈ l, 1 ≤ z.size ∧ (z.size : Int) ≤ mk
  | [], _, _, z, hz => by simp at hz
  | k :: l, pv, h, z, hz => by
    obtain ⟨h1, h2, h3⟩ := rises_cons.1 h
    rcases List.mem_cons.1 hz with rfl | hz
    · refine ⟨?_, h2⟩
      cases hs : z.size with
      | zero =>
        have e : z.toList = [] := by
          rw [ByteArray.toList_eq]
          have : z.data.size = 0 := hs
          have : z.data.toList.length = 0 := by rw [Array.length_toList]; exact this
          exact List.eq_nil_of_length_eq_zero this
        rw [e] at h1
        cases hp : pv.toList <;> rw [hp] at h1 <;> simp [Op.bytesLess] at h1
      | succ n => omega
    · exact rises_sizes l k h3 z hz
theorem pairs_step {ps : List (ByteArray × ByteArray)} {M : Nat} (hM : ∀ x ∈ ps, 1 ≤ textN x.1.size + textN x.2.size ∧ textN x.1.size + textN x.2.size ≤ M) {i : Nat} (hi : i < ps.length) :
    pairsN (ps.take i) + 1 ≤ pairsN (ps.take (i + 1)) ∧ pairsN (ps.take (i + 1)) ≤ pairsN (ps.take i) + M := by
  obtain ⟨x, hx⟩ : ∃ x, ps[i]? = some x := ⟨_, List.getElem?_eq_getElem hi⟩
  rw [pairs_succ hx]
  have := hM x (List.mem_of_getElem? hx)
  omega
theorem leaf_best {ps : List (ByteArray × ByteArray)} {M R D : Nat} (hM : ∀ x ∈ ps, 1 ≤ textN x.1.size + textN x.2.size ∧ textN x.1.size + textN x.2.size ≤ M) (hn : ps.length ≤ 1048576)
    (h1 : R < 1 + numN ps.length + pairsN ps) (h2 : 1 + numN ps.length + pairsN ps ≤ R + 2 * D) (h3 : R + 2 * D + M + 8 ≤ 2 * R) (h5 : M + 4 ≤ R) :
    ∃ m, (bestS (cutsN ps (ps.length - 1)) (0, 0)).1 = m + 1 ∧ m + 1 < ps.length ∧ sideN ps 0 (m + 1) ≤ R ∧ sideN ps (m + 1) ps.length ≤ R ∧ D ≤ sideN ps 0 (m + 1) ∧ D ≤ sideN ps (m + 1) ps.length := by
  have hnn := numN_range (n := ps.length) (by omega)
  obtain ⟨j, j1, j2, j3⟩ := middle (fun i => pairsN (ps.take i)) ps.length M (fun i hi => (pairs_step hM hi).2) rfl
  simp only [List.take_length] at j2 j3
  have hj0 : j ≠ 0 := fun e => by
    subst e
    have : pairsN (ps.take 0) = 0 := rfl
    omega
  have hjn : j ≠ ps.length := fun e => by
    subst e
    rw [List.take_length] at j2
    omega
  obtain ⟨k, rfl⟩ : ∃ k, j = k + 1 := ⟨j - 1, by omega⟩
  have p0 : pairsN (ps.take 0) = 0 := rfl
  have hside : ∀ i, i + 1 < ps.length → sideN ps 0 (i + 1) = 1 + numN (i + 1) + pairsN (ps.take (i + 1)) ∧ sideN ps (i + 1) ps.length = 1 + numN (ps.length - (i + 1)) + (pairsN ps - pairsN (ps.take (i + 1))) ∧ 1 ≤ numN (i + 1) ∧ numN (i + 1) ≤ 3 ∧ 1 ≤ numN (ps.length - (i + 1)) ∧ numN (ps.length - (i + 1)) ≤ 3 ∧ pairsN (ps.take (i + 1)) ≤ pairsN ps := fun i hi => by
    have a := numN_range (n := i + 1) (by omega)
    have b := numN_range (n := ps.length - (i + 1)) (by omega)
    have c := pairs_take_le ps (show i + 1 ≤ ps.length by omega)
    rw [List.take_length] at c
    unfold sideN
    rw [p0, List.take_length]
    exact ⟨by simp, rfl, a.1, a.2, b.1, b.2, c⟩
  obtain ⟨x, hx, e1, b1, b2, b3, b4⟩ := best_bounds (cutsN ps (ps.length - 1)) ((pairsN ps + M + 8) / 2) (pairsN ps + 4) (by
      unfold Parts cutsN
      rw [List.pairwise_map]
      refine List.Pairwise.imp_of_mem ?_ List.pairwise_lt_range
      intro a b ha hb hab
      rw [List.mem_range] at ha hb
      obtain ⟨ea, fa, _, _, _, _, ga⟩ := hside a (by omega)
      obtain ⟨eb, fb, _, _, _, _, gb⟩ := hside b (by omega)
      simp only
      rw [ea, eb, fa, fb]
      have m1 := numN_mono (show a + 1 ≤ b + 1 by omega) (by omega)
      have m2 := numN_mono (show ps.length - (b + 1) ≤ ps.length - (a + 1) by omega) (by omega)
      have m3 := pairs_take_le ps (show a + 1 ≤ b by omega)
      have m4 := (pairs_step hM (show b < ps.length by omega)).1
      omega) (fun x hx => by
      unfold cutsN at hx
      obtain ⟨i, _, rfl⟩ := List.mem_map.1 hx
      simp) (by
      obtain ⟨ek, fk, n1, n2, n3, n4, gk⟩ := hside k (by omega)
      refine ⟨(k + 1, sideN ps 0 (k + 1), sideN ps (k + 1) ps.length), ?_, ?_, ?_⟩
      · unfold cutsN
        exact List.mem_map.2 ⟨k, List.mem_range.2 (by omega), rfl⟩
      · simp only; rw [ek]; omega
      · simp only; rw [fk]; omega) (fun x hx => by
      unfold cutsN at hx
      obtain ⟨i, hi, rfl⟩ := List.mem_map.1 hx
      rw [List.mem_range] at hi
      obtain ⟨ei, fi, n1, n2, n3, n4, gi⟩ := hside i (by omega)
      simp only
      rw [ei, fi]
      omega)
  unfold cutsN at hx
  obtain ⟨i, hi, rfl⟩ := List.mem_map.1 hx
  rw [List.mem_range] at hi
  simp only at e1 b1 b2 b3 b4
  exact ⟨i, e1, by omega, by omega, by omega, by omega, by omega⟩

theorem branch_best {ss : List ByteArray} {K n Ms R D : Nat} (hss : ss.length + 1 = n) (hM : ∀ x ∈ ss, textN x.size ≤ Ms) (hK : K ≤ 36) (hK1 : 1 ≤ K) (hn : n ≤ 1048576)
    (h1 : R < 1 + numN n + n * K + textsN ss) (h2 : 1 + numN n + n * K + textsN ss ≤ R + 2 * D) (h3 : R + 2 * D + (Ms + 36) + 8 ≤ 2 * R) (h4 : 2 * D + 3 * Ms + 50 ≤ R) (h5 : 3 * (Ms + 36) + 4 ≤ R) :
    ∃ m, (bestS (cutsB K n ss (n - 3)) (0, 0)).1 = m + 1 ∧ 1 ≤ m ∧ m + 3 ≤ n ∧ bsideN K ss 0 (m + 1) ≤ R ∧ bsideN K ss (m + 1) n ≤ R ∧ D ≤ bsideN K ss 0 (m + 1) ∧ D ≤ bsideN K ss (m + 1) n := by
  have hnn := numN_range (n := n) (by omega)
  obtain ⟨U, hU⟩ : ∃ U : Nat → Nat, U = fun i => i * K + textsN (ss.take i) := ⟨_, rfl⟩
  have u0 : U 0 = 0 := by rw [hU]; simp [textsN]
  have un : U n = n * K + textsN ss := by rw [hU]; simp only; rw [List.take_of_length_le (by omega)]
  have ustep : ∀ i, U i + K ≤ U (i + 1) ∧ U (i + 1) ≤ U i + K + Ms := fun i => by
    rw [hU]
    simp only
    rw [Nat.add_mul, Nat.one_mul]
    by_cases hi : i < ss.length
    · obtain ⟨x, hx⟩ : ∃ x, ss[i]? = some x := ⟨_, List.getElem?_eq_getElem hi⟩
      rw [texts_succ hx]
      have := hM x (List.mem_of_getElem? hx)
      omega
    · rw [List.take_of_length_le (by omega), List.take_of_length_le (by omega)]
      omega
  have umono : ∀ a b, a ≤ b → U a ≤ U b := fun a b h => by
    induction h with
    | refl => exact Nat.le_refl _
    | @step m _ ih => exact Nat.le_trans ih (Nat.le_trans (Nat.le_add_right _ _) (ustep m).1)
  have ulast : U n = U (n - 1) + K := by
    rw [hU]
    simp only
    rw [List.take_of_length_le (by omega), List.take_of_length_le (by omega)]
    obtain ⟨d, rfl⟩ : ∃ d, n = d + 1 := ⟨n - 1, by omega⟩
    rw [Nat.add_sub_cancel, Nat.add_mul, Nat.one_mul]
    omega
  obtain ⟨j, j1, j2, j3⟩ := middle U n (Ms + 36) (fun i hi => by have := (ustep i).2; omega) u0
  have s0 := (ustep 0).2
  have hj2 : 2 ≤ j := by
    rcases Nat.lt_or_ge j 2 with h | h
    · have := umono j 1 (by omega); rw [u0] at s0; simp only [Nat.zero_add] at s0; omega
    · exact h
  have hjn : j + 2 ≤ n := by
    rcases Nat.lt_or_ge n (j + 2) with h | h
    · have := umono (n - 1) j (by omega); omega
    · exact h
  have hside : ∀ i, 1 ≤ i → i < n → bsideN K ss 0 i = 1 + numN i + (U (i - 1) + K) ∧ bsideN K ss i n = 1 + numN (n - i) + (U n - U i) ∧ 1 ≤ numN i ∧ numN i ≤ 3 ∧ 1 ≤ numN (n - i) ∧ numN (n - i) ≤ 3 ∧ U i ≤ U n ∧ U (i - 1) + K ≤ U i ∧ U i ≤ U (i - 1) + K + Ms := fun i hi hin => by
    have a := numN_range (n := i) (by omega)
    have b := numN_range (n := n - i) (by omega)
    have c := umono i n (by omega)
    have d := ustep (i - 1)
    rw [Nat.sub_add_cancel hi] at d
    refine ⟨?_, ?_, a.1, a.2, b.1, b.2, c, d.1, d.2⟩
    · unfold bsideN
      rw [hU]
      simp only
      rw [show textsN (ss.take 0) = 0 from rfl, Nat.sub_zero, Nat.sub_zero]
      obtain ⟨t, rfl⟩ : ∃ t, i = t + 1 := ⟨i - 1, by omega⟩
      rw [Nat.add_sub_cancel, Nat.add_mul, Nat.one_mul]
      omega
    · unfold bsideN
      rw [hU]
      simp only
      rw [List.take_of_length_le (show ss.length ≤ n - 1 by omega), List.take_of_length_le (show ss.length ≤ n by omega)]
      have e1 : textsN (ss.take i) ≤ textsN ss := by
        have := texts_take_le ss (show i ≤ ss.length by omega)
        rwa [List.take_length] at this
      obtain ⟨t, rfl⟩ : ∃ t, n = i + t := ⟨n - i, by omega⟩
      rw [Nat.add_sub_cancel_left, Nat.add_mul]
      omega
  obtain ⟨x, hx, e1, b1, b2, b3, b4⟩ := best_bounds (cutsB K n ss (n - 3)) ((U n + (Ms + 36) + 8) / 2) (U n + 4 - Ms) (by
      unfold Parts cutsB
      rw [List.pairwise_map]
      refine List.Pairwise.imp_of_mem ?_ List.pairwise_lt_range
      intro a b ha hb hab
      rw [List.mem_range] at ha hb
      obtain ⟨ea, fa, _, _, _, _, ga, _, _⟩ := hside (a + 2) (by omega) (by omega)
      obtain ⟨eb, fb, _, _, _, _, gb, _, _⟩ := hside (b + 2) (by omega) (by omega)
      simp only
      rw [ea, eb, fa, fb]
      have m1 := numN_mono (show a + 2 ≤ b + 2 by omega) (by omega)
      have m2 := numN_mono (show n - (b + 2) ≤ n - (a + 2) by omega) (by omega)
      have m3 := umono (a + 2 - 1) (b + 2 - 1) (by omega)
      have m4 := umono (a + 2) (b + 1) (by omega)
      have m5 : U (b + 1) + K ≤ U (b + 2) := (ustep (b + 1)).1
      omega) (fun x hx => by
      unfold cutsB at hx
      obtain ⟨i, _, rfl⟩ := List.mem_map.1 hx
      simp) (by
      obtain ⟨k, rfl⟩ : ∃ k, j = k + 2 := ⟨j - 2, by omega⟩
      obtain ⟨ek, fk, n1, n2, n3, n4, gk, g1, g2⟩ := hside (k + 2) (by omega) (by omega)
      refine ⟨(k + 2, bsideN K ss 0 (k + 2), bsideN K ss (k + 2) n), ?_, ?_, ?_⟩
      · unfold cutsB
        exact List.mem_map.2 ⟨k, List.mem_range.2 (by omega), rfl⟩
      · simp only; rw [ek]; omega
      · simp only; rw [fk]; omega) (fun x hx => by
      unfold cutsB at hx
      obtain ⟨i, hi, rfl⟩ := List.mem_map.1 hx
      rw [List.mem_range] at hi
      obtain ⟨ei, fi, n1, n2, n3, n4, gi, g1, g2⟩ := hside (i + 2) (by omega) (by omega)
      simp only
      rw [ei, fi]
      omega)
  unfold cutsB at hx
  obtain ⟨i, hi, rfl⟩ := List.mem_map.1 hx
  rw [List.mem_range] at hi
  simp only at e1 b1 b2 b3 b4
  have c1 : bsideN K ss 0 (i + 1 + 1) ≤ _ := b1
  have c2 : bsideN K ss (i + 1 + 1) n ≤ _ := b2
  have c3 : _ ≤ bsideN K ss 0 (i + 1 + 1) + _ := b3
  have c4 : _ ≤ bsideN K ss (i + 1 + 1) n + _ := b4
  exact ⟨i + 1, e1, by omega, by omega, by omega, by omega, by omega, by omega⟩
end Go.Proofs.Yteddbkbfnafbpaa
