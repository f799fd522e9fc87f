/-
  Plain: of 257 texts two have one first byte.
-/
import Derived.Test.YthkhfblpdekjhaaDoorSRKC
namespace Go.Proofs.YthkhfblpdekjhaaDoor
open Go.RowKit

def txB (s : ByteArray) (j : Nat) : ByteArray := ⟨s.data ++ #[UInt8.ofNat j, UInt8.ofNat (j / 256)]⟩
theorem txB_size (s : ByteArray) (j : Nat) : (txB s j).size = s.size + 2 := by
  show (s.data ++ _).size = _
  rw [Array.size_append]; rfl
theorem txB_ne (s : ByteArray) (j i : Nat) (h : j < i) (hi : i < 257) : ¬ txB s j = txB s i := by
  intro e
  have e1 : s.data ++ #[UInt8.ofNat j, UInt8.ofNat (j / 256)] = s.data ++ #[UInt8.ofNat i, UInt8.ofNat (i / 256)] := by
    have := congrArg ByteArray.data e
    exact this
  have e2 := congrArg Array.toList e1
  rw [Array.toList_append, Array.toList_append] at e2
  have e3 := List.append_cancel_left e2
  injection e3 with a b
  injection b with b _
  have a' := congrArg UInt8.toNat a
  have b' := congrArg UInt8.toNat b
  rw [UInt8.toNat_ofNat', UInt8.toNat_ofNat'] at a' b'
  omega
def fstB (m : List UInt8) : UInt8 := (sha m).getD 0 0
theorem of1 (m : List UInt8) : ofR 1 m = fstB m :: List.replicate 31 0 := by
  unfold ofR cutR cutD fstB
  rw [if_pos (by decide)]
  have h := sha_length m
  generalize sha m = D at *
  cases D with
  | nil => simp at h
  | cons a D => rfl
theorem clash_of (x y : ByteArray) (h : ¬ x = y) (hf : fstB x.data.toList = fstB y.data.toList) : clashP 1 x y = true := by
  unfold clashP
  rw [of1, of1, hf]
  simp [h]
/-- How many are true. -/
def cntT : List Bool → Nat
  | [] => 0
  | b :: l => cntT l + if b then 1 else 0
theorem cntT_le (l : List Bool) : cntT l ≤ l.length := by
  induction l with
  | nil => exact Nat.le_refl _
  | cons b l ih => rw [cntT, List.length_cons]; split <;> omega
theorem cntT_set (l : List Bool) (k : Nat) (h : l[k]? = some false) : cntT (l.set k true) = cntT l + 1 := by
  induction l generalizing k with
  | nil => simp at h
  | cons b l ih =>
    cases k with
    | zero => simp at h; subst h; simp [cntT]
    | succ k => simp at h; rw [List.set_cons_succ, cntT, cntT, ih k h]; omega
theorem cntT_none (n : Nat) : cntT (List.replicate n false) = 0 := by
  induction n with
  | zero => rfl
  | succ n ih => rw [List.replicate_succ, cntT, ih]; rfl
/-- What the loop keeps behind i texts: of each byte that was met, the text. -/
structure Met (s : ByteArray) (T : List Bool) (L : List ByteArray) (i : Nat) : Prop where
  tl : T.length = 256
  ll : L.length = 256
  cnt : cntT T = i
  at' : ∀ k, T[k]? = some true → ∃ j, j < i ∧ L[k]? = some (txB s j) ∧ (fstB (txB s j).data.toList).toNat = k
theorem Met.zero (s : ByteArray) : Met s (List.replicate 256 false) (List.replicate 256 ⟨#[]⟩) 0 := by
  refine ⟨List.length_replicate, List.length_replicate, cntT_none _, ?_⟩
  intro k h
  rw [List.getElem?_replicate] at h
  split at h <;> cases h
theorem Met.next {s : ByteArray} {T : List Bool} {L : List ByteArray} {i : Nat} (h : Met s T L i) (k : Nat) (hk : k = (fstB (txB s i).data.toList).toNat) (hf : T[k]? = some false) : Met s (T.set k true) (L.set k (txB s i)) (i + 1) := by
  have hkl : k < T.length := (List.getElem?_eq_some_iff.1 hf).1
  have h1 := h.tl
  have h2 := h.ll
  refine ⟨by simpa using h1, by simpa using h2, by rw [cntT_set _ _ hf, h.cnt], ?_⟩
  intro q hq
  by_cases e : k = q
  · subst e
    exact ⟨i, by omega, by rw [List.getElem?_set, if_pos rfl, if_pos (by omega)], hk.symm⟩
  · rw [List.getElem?_set, if_neg e] at hq
    obtain ⟨j, a, b, c⟩ := h.at' q hq
    exact ⟨j, by omega, by rw [List.getElem?_set, if_neg e]; exact b, c⟩
theorem Met.few {s : ByteArray} {T : List Bool} {L : List ByteArray} {i : Nat} (h : Met s T L i) : i ≤ 256 := by
  have := cntT_le T
  have h1 := h.tl
  have h2 := h.cnt
  omega
theorem Met.clash {s : ByteArray} {T : List Bool} {L : List ByteArray} {i : Nat} (h : Met s T L i) (k : Nat) (hk : k = (fstB (txB s i).data.toList).toNat) (hf : T[k]? = some true) : ∃ x, L[k]? = some x ∧ clashP 1 x (txB s i) = true ∧ x.size = s.size + 2 := by
  obtain ⟨j, a, b, c⟩ := h.at' k hf
  refine ⟨_, b, clash_of _ _ (txB_ne s j i a (by have := h.few; omega)) ?_, txB_size _ _⟩
  apply UInt8.toNat_inj.1
  omega
end Go.Proofs.YthkhfblpdekjhaaDoor
