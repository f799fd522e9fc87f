/- NodeSizes: what the sizes are. -/
import Derived.Test.YtjpgpfaeolgemaaNX
import Derived.Test.YtjpgpfaeolgemaaNV
namespace Go.Proofs.Ytjpgpfaeolgemaa
open Go.RowKit

theorem free_one {n : Nat} (h : n < 128) : (freeB n).length = 1 := by
  unfold freeB; rw [freeF, if_pos h]; rfl
theorem free_two {n : Nat} (h : n < 16384) : 1 ≤ (freeB n).length ∧ (freeB n).length ≤ 2 := by
  refine ⟨freeB_pos n, ?_⟩
  unfold freeB; rw [freeF]; split
  · simp
  · rw [freeF, if_pos (by omega)]; simp
theorem textB_len2 {s : ByteArray} (h : s.size < 16384) : s.size + 1 ≤ (textB s).length ∧ (textB s).length ≤ s.size + 2 := by
  unfold textB; rw [List.length_append, bytes_length]
  have := free_two h
  omega
theorem pairB_len2 {x : ByteArray × ByteArray} (h1 : x.1.size < 16384) (h2 : x.2.size < 16384) : x.1.size + x.2.size + 2 ≤ (pairB x).length ∧ (pairB x).length ≤ x.1.size + x.2.size + 4 := by
  unfold pairB; rw [List.length_append]
  have := textB_len2 h1
  have := textB_len2 h2
  omega
theorem leaf_small {p : Int} {N : Nd} (hs : leafP p N = true) : ∀ x ∈ N.ps, (x.1.size : Int) ≤ p / 16 ∧ (x.2.size : Int) ≤ p / 8 := fun x hx => by
  unfold leafP at hs
  simp only [Bool.and_eq_true, Bool.not_eq_true'] at hs
  refine ⟨rises_small hs.1 x.1 (List.mem_map.2 ⟨x, hx, rfl⟩), ?_⟩
  have := hs.2
  rw [List.any_eq_false] at this
  have := this x hx
  unfold longB at this
  simp only [decide_eq_true_eq] at this
  omega
theorem kidsB_most {q : Int} {B : Nat} (hq1 : 1 ≤ q) (hq2 : q ≤ 32) : ∀ (ks : List Kid) (b : Bool) (ss : List ByteArray), (∀ x ∈ ss, (textB x).length ≤ B) → (∀ x ∈ ks, KidOk x) → (kidsB true q b ss ks).length ≤ ks.length * (B + 4 + q.toNat) := by
  intro ks
  induction ks with
  | nil => intro b ss _ _; cases b <;> simp [kidsB]
  | cons k ks ih =>
    intro b ss hs hk
    have h1 : (kidB true q k).length = 4 + q.toNat := by
      have hw := widthN_of hq1 hq2
      have := sumB_length (q := q) (hk k (by simp))
      unfold kidB; rw [if_pos rfl, List.length_append, fixB_length, this, hw]
    have hk2 : ∀ x ∈ ks, KidOk x := fun x hx => hk x (by simp [hx])
    rw [List.length_cons, Nat.succ_mul]
    cases b with
    | true =>
      have h2 := ih false ss hs hk2
      rw [kidsB, List.length_append]; omega
    | false =>
      cases ss with
      | nil =>
        have h2 := ih false [] (by simp) hk2
        rw [kidsB, List.length_append]; omega
      | cons s ss =>
        have h2 := ih false ss (fun x hx => hs x (by simp [hx])) hk2
        have h4 := hs s (by simp)
        rw [kidsB, List.length_append, List.length_append]; omega
theorem form_most {p q : Int} {N : Nd} (hok : ∀ x ∈ N.ks, KidOk x) (hc : chkN p q N = 0) : 2 ≤ (formN true q N).length ∧ ((formN true q N).length : Int) ≤ 11 + (N.ps.length : Int) * (p / 16 + p / 8 + 4) + (N.ks.length : Int) * (p / 16 + 6 + q) := by
  obtain ⟨hf, hs⟩ := chk_zero hc
  obtain ⟨hp, hq1, hq2⟩ := frameP_cases hf
  cases hl : leafB N with
  | true =>
    unfold shapeP at hs
    rw [if_pos hl] at hs
    have hF : formN true q N = 1 :: (freeB N.ps.length ++ pairsB N.ps) := by unfold formN; rw [if_pos hl]
    have hk := (leafB_nil hl).2
    have hsm := leaf_small hs
    have h1 := freeB_pos N.ps.length
    have h2 := freeB_length N.ps.length
    have h3 : (pairsB N.ps).length ≤ N.ps.length * (p / 16 + p / 8 + 4).toNat := flat_len pairB _ _ (fun x hx => by
      obtain ⟨a, b⟩ := hsm x hx
      have := pairB_len2 (x := x) (by omega) (by omega)
      omega)
    rw [hF, List.length_cons, List.length_append, hk]
    refine ⟨by omega, ?_⟩
    have h4 : (((pairsB N.ps).length : Nat) : Int) ≤ ((N.ps.length * (p / 16 + p / 8 + 4).toNat : Nat) : Int) := by exact_mod_cast h3
    rw [Int.natCast_mul, Int.toNat_of_nonneg (by omega)] at h4
    simp only [List.length_nil, Int.natCast_add]
    omega
  | false =>
    have hsep := shape_sep hs hl
    unfold shapeP at hs
    rw [if_neg (by rw [hl]; simp)] at hs
    have hF : formN true q N = 2 :: (freeB N.ks.length ++ kidsB true q true N.ss N.ks) := by unfold formN; rw [if_neg (by rw [hl]; simp)]
    unfold branchP at hs
    simp only [Bool.and_eq_true, Bool.not_eq_true', Bool.or_eq_false_iff, decide_eq_false_iff_not] at hs
    have hsm := rises_small hs.2.1
    have h1 := freeB_pos N.ks.length
    have h2 := freeB_length N.ks.length
    have h3 := kidsB_most (B := (p / 16 + 2).toNat) hq1 hq2 N.ks true N.ss (fun x hx => by
      have a := hsm x hx
      have := textB_len2 (s := x) (by omega)
      omega) hok
    have hps : N.ps.length = 0 := by omega
    rw [hF, List.length_cons, List.length_append, hps]
    refine ⟨by omega, ?_⟩
    have h4 : (((kidsB true q true N.ss N.ks).length : Nat) : Int) ≤ ((N.ks.length * ((p / 16 + 2).toNat + 4 + q.toNat) : Nat) : Int) := by exact_mod_cast h3
    rw [Int.natCast_mul] at h4
    have e : (((p / 16 + 2).toNat + 4 + q.toNat : Nat) : Int) = p / 16 + 6 + q := by omega
    rw [e] at h4
    simp only [Int.natCast_add]
    omega
theorem sizeV_bare (p q : Int) (N : Nd) : sizeV p q (bareN N) = sizeV p q N := by unfold sizeV; rw [bare_chk, bare_formT]
theorem sizeV_kids {p q : Int} {N : Nd} {X : List Kid} (h : X.map bareK = N.ks.map bareK) : sizeV p q ⟨N.ps, N.ss, X⟩ = sizeV p q N := by
  rw [← sizeV_bare p q ⟨N.ps, N.ss, X⟩, ← sizeV_bare p q N]
  unfold bareN
  simp only
  rw [h]
theorem rises_take {mk : Int} : ∀ (l : List ByteArray) (ahead : ByteArray) (m : Nat), risesP mk ahead l = true → risesP mk ahead (l.take m) = true := by
  intro l
  induction l with
  | nil => intro a m _; simp [risesP]
  | cons k l ih =>
    intro a m h
    cases m with
    | zero => simp [risesP]
    | succ m =>
      rw [risesP] at h
      rw [List.take_succ_cons, risesP]
      split at h
      · cases h
      · rename_i h1
        rw [if_neg h1]
        split at h
        · cases h
        · rename_i h2
          rw [if_neg h2]
          exact ih k m h
theorem last_size {p q : Int} {N : Nd} (hc : chkN p q N = 0) (m : Nat) (x : ByteArray × ByteArray) (hm : N.ps.length = m + 1) (hlt : N.ps.length < 128) (hx : N.ps[m]? = some x) :
    ∃ n : Nat, sizeV p q ⟨N.ps.take m, N.ss, N.ks⟩ = (n : Int) ∧ sizeV p q N = (n : Int) + (pairB x).length ∧ x.1.size < 16384 ∧ x.2.size < 16384 := by
  obtain ⟨hf, hs⟩ := chk_zero hc
  obtain ⟨hp, hq1, hq2⟩ := frameP_cases hf
  have hl : leafB N = true := by
    cases hl : leafB N with
    | true => rfl
    | false =>
      unfold shapeP at hs
      rw [if_neg (by rw [hl]; simp)] at hs
      unfold branchP at hs
      simp only [Bool.and_eq_true, Bool.not_eq_true', Bool.or_eq_false_iff, decide_eq_false_iff_not] at hs
      omega
  have hs0 := hs
  unfold shapeP at hs
  rw [if_pos hl] at hs
  have hsm := leaf_small hs x (List.mem_of_getElem? hx)
  have hl3 : leafB ⟨N.ps.take m, N.ss, N.ks⟩ = true := hl
  have hc3 : chkN p q ⟨N.ps.take m, N.ss, N.ks⟩ = 0 := by
    unfold chkN shapeP
    rw [if_pos hf, if_pos hl3]
    have : leafP p ⟨N.ps.take m, N.ss, N.ks⟩ = true := by
      unfold leafP at hs ⊢
      simp only [Bool.and_eq_true, Bool.not_eq_true'] at hs ⊢
      refine ⟨by rw [List.map_take]; exact rises_take _ _ _ hs.1, ?_⟩
      rw [List.any_eq_false]
      intro y hy
      exact (List.any_eq_false.1 hs.2) y (List.mem_of_mem_take hy)
    rw [if_pos this]
  have e1 : sizeV p q N = ((formN true q N).length : Int) := by unfold sizeV; rw [if_pos hc]
  have e3 : sizeV p q ⟨N.ps.take m, N.ss, N.ks⟩ = ((formN true q ⟨N.ps.take m, N.ss, N.ks⟩).length : Int) := by unfold sizeV; rw [if_pos hc3]
  refine ⟨_, e3, ?_, by omega, by omega⟩
  rw [e1]
  have f1 : formN true q N = 1 :: (freeB N.ps.length ++ pairsB N.ps) := by unfold formN; rw [if_pos hl]
  have f3 : formN true q ⟨N.ps.take m, N.ss, N.ks⟩ = 1 :: (freeB (N.ps.take m).length ++ pairsB (N.ps.take m)) := by unfold formN; rw [if_pos hl3]
  have hps : pairsB N.ps = pairsB (N.ps.take m) ++ pairB x := by
    have := pairsB_take_succ N.ps m x hx
    rw [← hm, List.take_length] at this
    exact this
  have g1 := free_one (n := N.ps.length) (by omega)
  have g2 := free_one (n := (N.ps.take m).length) (by rw [List.length_take]; omega)
  rw [f1, f3, List.length_cons, List.length_cons, List.length_append, List.length_append, g1, g2, hps, List.length_append]
  simp only [Int.natCast_add]
  omega
end Go.Proofs.Ytjpgpfaeolgemaa
