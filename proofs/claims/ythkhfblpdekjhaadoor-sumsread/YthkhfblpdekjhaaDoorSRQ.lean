/-
  Plain: the digits of a digest, and back.
-/
import Derived.Test.YthkhfblpdekjhaaDoorSRN
import Derived.Test.YthkhfblpdekjhaaDoorSRR
namespace Go.Proofs.YthkhfblpdekjhaaDoor
open Go.RowKit

def unhex (c : Nat) : Option Nat := if 48 ≤ c ∧ c ≤ 57 then some (c - 48) else if 97 ≤ c ∧ c ≤ 102 then some (c - 87) else none
theorem hxN_lt (n : Nat) (h : n < 16) : hxN n < 256 := by unfold hxN; split <;> omega
theorem digV_eq (c : Nat) : digV c = (unhex c).getD 0 := by
  unfold digV unhex
  by_cases h1 : 48 ≤ c ∧ c ≤ 57
  · rw [if_pos h1, if_pos h1]; rfl
  · rw [if_neg h1, if_neg h1]
    by_cases h2 : 97 ≤ c ∧ c ≤ 102
    · rw [if_pos h2, if_pos h2]; rfl
    · rw [if_neg h2, if_neg h2]; rfl
theorem digO_eq (c : Nat) : digO c = (unhex c).isSome := by
  unfold digO unhex
  by_cases h1 : 48 ≤ c ∧ c ≤ 57
  · rw [if_pos h1, if_pos h1]; rfl
  · rw [if_neg h1, if_neg h1]
    by_cases h2 : 97 ≤ c ∧ c ≤ 102
    · rw [if_pos h2, if_pos h2]; rfl
    · rw [if_neg h2, if_neg h2]; rfl
theorem unhex_hx (n : Nat) (h : n < 16) : unhex (hxN n) = some n := by
  unfold unhex hxN
  by_cases h1 : n < 10
  · rw [if_pos h1, if_pos (by omega)]; congr 1; omega
  · rw [if_neg h1, if_neg (by omega), if_pos (by omega)]; congr 1; omega
theorem hx_unhex {c n : Nat} (h : unhex c = some n) : n < 16 ∧ hxN n = c := by
  unfold unhex at h
  by_cases h1 : 48 ≤ c ∧ c ≤ 57
  · rw [if_pos h1] at h
    injection h with h
    refine ⟨by omega, ?_⟩
    unfold hxN; rw [if_pos (by omega)]; omega
  · rw [if_neg h1] at h
    by_cases h2 : 97 ≤ c ∧ c ≤ 102
    · rw [if_pos h2] at h
      injection h with h
      refine ⟨by omega, ?_⟩
      unfold hxN; rw [if_neg (by omega)]; omega
    · rw [if_neg h2] at h; cases h
def showB (b : UInt8) : List UInt8 := [UInt8.ofNat (hxN (b.toNat / 16)), UInt8.ofNat (hxN (b.toNat % 16))]
def showP (D : List UInt8) : List UInt8 := D.flatMap showB
theorem showP_length (D : List UInt8) : (showP D).length = 2 * D.length := by
  induction D with
  | nil => rfl
  | cons b D ih => rw [showP, List.flatMap_cons, List.length_append, ← showP, ih]; simp [showB]; omega
theorem showP_snoc (D : List UInt8) (b : UInt8) : showP (D ++ [b]) = showP D ++ showB b := by simp [showP, List.flatMap_append]
theorem showP_at (D : List UInt8) (j : Nat) (b : UInt8) (h : D[j]? = some b) : (showP D)[2 * j]? = some (UInt8.ofNat (hxN (b.toNat / 16))) ∧ (showP D)[2 * j + 1]? = some (UInt8.ofNat (hxN (b.toNat % 16))) := by
  induction D generalizing j with
  | nil => simp at h
  | cons c D ih =>
    cases j with
    | zero => simp at h; subst h; simp [showP, showB]
    | succ j =>
      simp at h
      have := ih j h
      have e1 : 2 * (j + 1) = 2 * j + 1 + 1 := by omega
      rw [e1]
      simp only [showP, List.flatMap_cons, showB, List.cons_append, List.nil_append, List.getElem?_cons_succ]
      exact this
def chN (s : List UInt8) (i : Nat) : Nat := (s.getD i 0).toNat
theorem chN_of {s : List UInt8} {i : Nat} {c : UInt8} (h : s[i]? = some c) : chN s i = c.toNat := by simp [chN, List.getD, h]
def nib (s : List UInt8) (i : Nat) : Nat := (unhex (chN s i)).getD 0
theorem nib_lt (s : List UInt8) (i : Nat) : nib s i < 16 := by
  unfold nib
  cases h : unhex (chN s i) with
  | none => simp
  | some n => exact (hx_unhex h).1
def readV (s : List UInt8) (i j : Nat) : Nat := if 2 * j + 1 < i then 16 * nib s (2 * j) + nib s (2 * j + 1) else if 2 * j < i then nib s (2 * j) else 0
theorem readV_lt (s : List UInt8) (i j : Nat) : readV s i j < 256 := by
  have h1 := nib_lt s (2 * j)
  have h2 := nib_lt s (2 * j + 1)
  unfold readV
  split
  · omega
  · split <;> omega
def readK (s : List UInt8) (i : Nat) : List UInt8 := (List.range 32).map fun j => UInt8.ofNat (readV s i j)
theorem readK_length (s : List UInt8) (i : Nat) : (readK s i).length = 32 := by simp [readK]
theorem readK_get (s : List UInt8) (i j : Nat) (hj : j < 32) : (readK s i)[j]? = some (UInt8.ofNat (readV s i j)) := by
  simp [readK, List.getElem?_map, List.getElem?_range hj]
theorem readK_zero (s : List UInt8) : readK s 0 = List.replicate 32 0 := by
  apply List.ext_getElem?
  intro j
  by_cases hj : j < 32
  · rw [readK_get s 0 j hj, List.getElem?_replicate, if_pos hj]
    simp [readV]
  · rw [List.getElem?_eq_none (by rw [readK_length]; omega), List.getElem?_eq_none (by simp; omega)]
/-- What stands at the place that the sign i goes to. -/
theorem readV_old (s : List UInt8) (i : Nat) : readV s i (i / 2) = if i % 2 = 0 then 0 else nib s (i - 1) := by
  unfold readV
  by_cases h : i % 2 = 0
  · rw [if_pos h, if_neg (by omega), if_neg (by omega)]
  · rw [if_neg h, if_neg (by omega), if_pos (by omega)]
    congr 1; omega
theorem readV_new (s : List UInt8) (i : Nat) : readV s (i + 1) (i / 2) = 16 * readV s i (i / 2) + nib s i := by
  rw [readV_old]
  unfold readV
  by_cases h : i % 2 = 0
  · rw [if_pos h, if_neg (by omega), if_pos (by omega)]
    have : 2 * (i / 2) = i := by omega
    rw [this]; omega
  · rw [if_neg h, if_pos (by omega)]
    have e1 : 2 * (i / 2) = i - 1 := by omega
    have e2 : 2 * (i / 2) + 1 = i := by omega
    rw [e2, e1]
theorem readV_old_lt (s : List UInt8) (i : Nat) : readV s i (i / 2) < 16 := by
  rw [readV_old]
  have := nib_lt s (i - 1)
  split <;> omega
theorem readV_other (s : List UInt8) (i j : Nat) (h : j ≠ i / 2) : readV s (i + 1) j = readV s i j := by
  unfold readV
  by_cases h1 : 2 * j + 1 < i
  · rw [if_pos h1, if_pos (by omega)]
  · rw [if_neg h1, if_neg (by omega)]
    by_cases h2 : 2 * j < i
    · omega
    · rw [if_neg h2, if_neg (by omega)]
theorem readK_set (s : List UInt8) (i : Nat) : (readK s i).set (i / 2) (UInt8.ofNat (16 * readV s i (i / 2) + nib s i)) = readK s (i + 1) := by
  apply List.ext_getElem?
  intro j
  by_cases hj : j < 32
  · rw [readK_get _ _ _ hj, List.getElem?_set]
    by_cases h : i / 2 = j
    · rw [if_pos h, if_pos (by rw [readK_length]; omega), ← h, readV_new]
    · rw [if_neg h, readK_get _ _ _ hj, readV_other _ _ _ (fun e => h e.symm)]
  · rw [List.getElem?_eq_none (by simp [readK_length]; omega), List.getElem?_eq_none (by rw [readK_length]; omega)]
/-- All signs are digits. -/
def allHx (s : List UInt8) (n : Nat) : Prop := ∀ i, i < n → (unhex (chN s i)).isSome = true
def readD (wd : Int) (s : List UInt8) : Prop := (1 ≤ wd ∧ wd ≤ 32) ∧ (s.length : Int) = 2 * wd ∧ allHx s s.length
open Classical in
noncomputable def readR (wd : Int) (s : List UInt8) : List UInt8 := if readD wd s then readK s s.length else List.replicate 32 0
open Classical in
noncomputable def readE (wd : Int) (s : List UInt8) : Int := if 1 ≤ wd ∧ wd ≤ 32 then if readD wd s then 0 else 21 else 2
/-- The document's search of a byte. -/
def hitK (a b k : Nat) : Prop := hxN (k / 16) = a ∧ hxN (k % 16) = b
instance (a b k : Nat) : Decidable (hitK a b k) := by unfold hitK; infer_instance
def valR (a b : Nat) : Nat → Nat
  | 0 => 0
  | k + 1 => if hitK a b k then k else valR a b k
theorem valR_lt (a b k : Nat) (hk : k ≤ 256) : valR a b k < 256 := by
  induction k with
  | zero => show (0 : Nat) < 256; omega
  | succ k ih =>
    rw [valR]
    split
    · omega
    · exact ih (by omega)
theorem hitK_iff {a b x y k : Nat} (hx : unhex a = some x) (hy : unhex b = some y) (hk : k < 256) : hitK a b k ↔ k = 16 * x + y := by
  have h1 := hx_unhex hx
  have h2 := hx_unhex hy
  constructor
  · rintro ⟨ha, hb⟩
    have u1 := unhex_hx (k / 16) (by omega)
    have u2 := unhex_hx (k % 16) (by omega)
    rw [ha, hx] at u1
    rw [hb, hy] at u2
    injection u1 with u1
    injection u2 with u2
    omega
  · rintro rfl
    have e1 : (16 * x + y) / 16 = x := by omega
    have e2 : (16 * x + y) % 16 = y := by omega
    exact ⟨by rw [e1]; exact h1.2, by rw [e2]; exact h2.2⟩
theorem valR_hit {a b x y : Nat} (hx : unhex a = some x) (hy : unhex b = some y) (k : Nat) (hk : k ≤ 256) : valR a b k = if 16 * x + y < k then 16 * x + y else 0 := by
  induction k with
  | zero => rw [valR, if_neg (by omega)]
  | succ k ih =>
    rw [valR]
    by_cases h : hitK a b k
    · rw [if_pos h, (hitK_iff hx hy (by omega)).1 h, if_pos (by omega)]
    · rw [if_neg h, ih (by omega)]
      have : ¬ k = 16 * x + y := fun e => h ((hitK_iff hx hy (by omega)).2 e)
      by_cases h2 : 16 * x + y < k
      · rw [if_pos h2, if_pos (by omega)]
      · rw [if_neg h2, if_neg (by omega)]
def refV (wd : Int) (s : List UInt8) (j : Nat) : Nat := if (j : Int) < wd ∧ 2 * j + 1 < s.length then valR (chN s (2 * j)) (chN s (2 * j + 1)) 256 else 0
def refK (wd : Int) (s : List UInt8) : List UInt8 := (List.range 32).map fun j => UInt8.ofNat (refV wd s j)
theorem refK_length (wd : Int) (s : List UInt8) : (refK wd s).length = 32 := by simp [refK]
theorem refK_get (wd : Int) (s : List UInt8) (j : Nat) (hj : j < 32) : (refK wd s)[j]? = some (UInt8.ofNat (refV wd s j)) := by
  simp [refK, List.getElem?_map, List.getElem?_range hj]
theorem refV_lt (wd : Int) (s : List UInt8) (j : Nat) : refV wd s j < 256 := by
  unfold refV
  split
  · exact valR_lt _ _ _ (by omega)
  · omega
theorem ref_read (wd : Int) (s : List UInt8) (h : readD wd s) : refK wd s = readK s s.length := by
  obtain ⟨hw, hl, ha⟩ := h
  apply List.ext_getElem?
  intro j
  by_cases hj : j < 32
  · rw [refK_get _ _ _ hj, readK_get _ _ _ hj]
    congr 2
    unfold refV readV
    by_cases hw2 : (j : Int) < wd
    · rw [if_pos ⟨hw2, by omega⟩, if_pos (by omega)]
      obtain ⟨x, hx⟩ := Option.isSome_iff_exists.1 (ha (2 * j) (by omega))
      obtain ⟨y, hy⟩ := Option.isSome_iff_exists.1 (ha (2 * j + 1) (by omega))
      have h1 := hx_unhex hx
      have h2 := hx_unhex hy
      rw [valR_hit hx hy 256 (by omega), if_pos (by omega)]
      simp [nib, hx, hy]
    · rw [if_neg (fun h => hw2 h.1), if_neg (by omega), if_neg (by omega)]
  · rw [List.getElem?_eq_none (by rw [refK_length]; omega), List.getElem?_eq_none (by rw [readK_length]; omega)]
theorem show_read (wd : Int) (s : List UInt8) (h : readD wd s) : showP ((readK s s.length).take wd.toNat) = s := by
  obtain ⟨hw, hl, ha⟩ := h
  have hlen : (showP ((readK s s.length).take wd.toNat)).length = s.length := by
    rw [showP_length, List.length_take, readK_length]; omega
  apply List.ext_getElem? 
  intro i
  by_cases hi : i < s.length
  · have hj : i / 2 < 32 := by omega
    have hg : ((readK s s.length).take wd.toNat)[i / 2]? = some (UInt8.ofNat (readV s s.length (i / 2))) := by
      rw [List.getElem?_take, if_pos (by omega), readK_get _ _ _ hj]
    have h2 := showP_at _ _ _ hg
    have hlt := readV_lt s s.length (i / 2)
    have hn : (UInt8.ofNat (readV s s.length (i / 2))).toNat = readV s s.length (i / 2) := by
      rw [UInt8.toNat_ofNat']; omega
    have hv : readV s s.length (i / 2) = 16 * nib s (2 * (i / 2)) + nib s (2 * (i / 2) + 1) := by
      unfold readV; rw [if_pos (by omega)]
    have n1 := nib_lt s (2 * (i / 2))
    have n2 := nib_lt s (2 * (i / 2) + 1)
    rw [hn, hv] at h2
    have e1 : (16 * nib s (2 * (i / 2)) + nib s (2 * (i / 2) + 1)) / 16 = nib s (2 * (i / 2)) := by omega
    have e2 : (16 * nib s (2 * (i / 2)) + nib s (2 * (i / 2) + 1)) % 16 = nib s (2 * (i / 2) + 1) := by omega
    rw [e1, e2] at h2
    have key : ∀ k, k < s.length → s[k]? = some (UInt8.ofNat (hxN (nib s k))) := by
      intro k hk
      obtain ⟨c, hc⟩ : ∃ c, s[k]? = some c := ⟨_, List.getElem?_eq_getElem hk⟩
      obtain ⟨x, hx⟩ := Option.isSome_iff_exists.1 (ha k hk)
      have h1 := hx_unhex hx
      rw [hc]
      congr 1
      have : hxN (nib s k) = c.toNat := by
        rw [nib, hx, Option.getD_some, h1.2, chN_of hc]
      rw [this]; simp
    by_cases hp : i % 2 = 0
    · have : 2 * (i / 2) = i := by omega
      rw [this] at h2
      rw [h2.1, key i hi]
    · have : 2 * (i / 2) + 1 = i := by omega
      rw [this] at h2
      rw [h2.2, key i hi]
  · rw [List.getElem?_eq_none (by omega), List.getElem?_eq_none (by omega)]
/-- What is shown is digits alone. -/
theorem show_digits (D : List UInt8) : allHx (showP D) (showP D).length := by
  intro i hi
  rw [showP_length] at hi
  obtain ⟨b, hb⟩ : ∃ b, D[i / 2]? = some b := ⟨_, List.getElem?_eq_getElem (by omega)⟩
  have h := showP_at D (i / 2) b hb
  have b1 : b.toNat < 256 := by have := b.toBitVec.isLt; exact this
  have key : ∀ n, n < 16 → (unhex (UInt8.ofNat (hxN n)).toNat).isSome = true := by
    intro n hn
    have := hxN_lt n hn
    rw [UInt8.toNat_ofNat', Nat.mod_eq_of_lt (by omega), unhex_hx n hn]; rfl
  by_cases hp : i % 2 = 0
  · have e : 2 * (i / 2) = i := by omega
    rw [e] at h
    rw [chN_of h.1]
    exact key _ (by omega)
  · have e : 2 * (i / 2) + 1 = i := by omega
    rw [e] at h
    rw [chN_of h.2]
    exact key _ (by omega)
/-- What the document's Read shows is the text just where it is one of digits. -/
theorem ref_show (wd : Int) (hw : 1 ≤ wd ∧ wd ≤ 32) (s : List UInt8) : showP ((refK wd s).take wd.toNat) = s ↔ readD wd s := by
  constructor
  · intro h
    have hl : s.length = 2 * wd.toNat := by
      rw [← h, showP_length, List.length_take, refK_length]; omega
    refine ⟨hw, by omega, ?_⟩
    have := show_digits ((refK wd s).take wd.toNat)
    rw [h] at this
    exact this
  · intro h
    rw [ref_read wd s h]
    exact show_read wd s h
/-- A digest's digits are read as the digest. -/
theorem read_show (wd : Int) (D : List UInt8) (hD : D.length = 32) (h : fitsP wd D = true) : readD wd (showP (D.take wd.toNat)) ∧ readK (showP (D.take wd.toNat)) (showP (D.take wd.toNat)).length = D := by
  unfold fitsP at h
  rw [Bool.and_eq_true, decide_eq_true_eq, decide_eq_true_eq] at h
  obtain ⟨hw, hc⟩ := h
  have hl : (showP (D.take wd.toNat)).length = 2 * wd.toNat := by rw [showP_length, List.length_take]; omega
  refine ⟨⟨hw, by omega, show_digits _⟩, ?_⟩
  apply List.ext_getElem?
  intro j
  by_cases hj : j < 32
  · rw [readK_get _ _ _ hj, hl]
    obtain ⟨b, hb⟩ : ∃ b, D[j]? = some b := ⟨_, List.getElem?_eq_getElem (by omega)⟩
    rw [hb]
    congr 1
    have b1 : b.toNat < 256 := by have := b.toBitVec.isLt; exact this
    by_cases hjw : j < wd.toNat
    · have hg : (D.take wd.toNat)[j]? = some b := by rw [List.getElem?_take, if_pos hjw, hb]
      have h2 := showP_at _ _ _ hg
      have n1 : nib (showP (D.take wd.toNat)) (2 * j) = b.toNat / 16 := by
        have := hxN_lt (b.toNat / 16) (by omega)
        rw [nib, chN_of h2.1, UInt8.toNat_ofNat', Nat.mod_eq_of_lt (by omega), unhex_hx _ (by omega)]; rfl
      have n2 : nib (showP (D.take wd.toNat)) (2 * j + 1) = b.toNat % 16 := by
        have := hxN_lt (b.toNat % 16) (by omega)
        rw [nib, chN_of h2.2, UInt8.toNat_ofNat', Nat.mod_eq_of_lt (by omega), unhex_hx _ (by omega)]; rfl
      have hv : readV (showP (D.take wd.toNat)) (2 * wd.toNat) j = b.toNat := by
        unfold readV
        rw [if_pos (by omega), n1, n2]; omega
      rw [hv]; simp
    · have hv : readV (showP (D.take wd.toNat)) (2 * wd.toNat) j = 0 := by
        unfold readV
        rw [if_neg (by omega), if_neg (by omega)]
      rw [hv]
      unfold cutR cutD at hc
      rw [if_pos hw] at hc
      rw [← hc, List.getElem?_append_right (by rw [List.length_take]; omega), List.getElem?_replicate] at hb
      split at hb
      · cases hb; rfl
      · cases hb
  · rw [List.getElem?_eq_none (by rw [readK_length]; omega), List.getElem?_eq_none (by omega)]
end Go.Proofs.YthkhfblpdekjhaaDoor
