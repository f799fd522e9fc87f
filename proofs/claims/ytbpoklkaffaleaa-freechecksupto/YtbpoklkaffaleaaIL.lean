/- free: the document's number; plain: both read alike. -/
import Derived.Test.YtbpoklkaffaleaaIJ
namespace Go.Proofs.Ytbpoklkaffaleaa
open Go.RowKit Go.Maps

/-- Four bytes of a text as a number. -/
def num4 (s : ByteArray) (i : Nat) : Nat := beN (s.extract i (i + 4)).data.toList
def docNs (s : ByteArray) : List Nat := (List.range ((s.size - 8) / 4)).map fun i => num4 s (8 + 4 * i)
def docOk (p q : Int) (s : ByteArray) : Bool := frameP p q && decide (8 ≤ s.size) && decide (s.size % 4 = 0) && decide (s.size ≤ 8 + 4 * entN p q) && ((bodyE p q (num4 s 0) (docNs s) == 0) && decide (bodyS p q (num4 s 0) (docNs s) = s))
theorem num4_lt (s : ByteArray) (i : Nat) : num4 s i < 4294967296 := by
  have h := beN_lt (s.extract i (i + 4)).data.toList
  rw [bytes_length, ByteArray.size_extract] at h
  have : 256 ^ (min (i + 4) s.size - i) ≤ 256 ^ 4 := Nat.pow_le_pow_right (by decide) (by omega)
  unfold num4
  omega
theorem raw_at {s : ByteArray} {p : Nat} (h : p + 4 ≤ s.size) : tkV s (p, 0) = num4 s p ∧ tkN s (p, 0) = (p + 4, 0) := by
  have e : ((4 : Int).toNat) = 4 := rfl
  unfold tkV tkN rRaw num4
  simp only [if_true, e]
  rw [if_neg (by omega)]
  exact ⟨rfl, rfl⟩
theorem it_at {s : ByteArray} : ∀ (k p : Nat), p + 4 * k ≤ s.size → itN s (p, 0) k = (p + 4 * k, 0)
  | 0, p, _ => rfl
  | k + 1, p, h => by
    have h1 := it_at (s := s) k p (by omega)
    have h2 := (raw_at (s := s) (p := p + 4 * k) (by omega)).2
    show tkN s (itN s (p, 0) k) = _
    rw [h1, h2]
    congr 1
theorem readK_at {s : ByteArray} {k p : Nat} (h : p + 4 * k ≤ s.size) : readK s (p, 0) k = (List.range k).map fun i => num4 s (p + 4 * i) := by
  unfold readK
  apply List.map_congr_left
  intro i hi
  have hi := List.mem_range.1 hi
  rw [it_at i p (by omega), (raw_at (by omega)).1]
theorem beN_fix4 {m : Nat} (h : m < 4294967296) : beN (fix4 m) = m := by
  have e0 : ((m : Int) / 256 ^ 3 % 256).toNat % 256 = m / 16777216 := by rw [show (256 : Int) ^ 3 = 16777216 from rfl]; omega
  have e1 : ((m : Int) / 256 ^ 2 % 256).toNat % 256 = m / 65536 % 256 := by rw [show (256 : Int) ^ 2 = 65536 from rfl]; omega
  have e2 : ((m : Int) / 256 ^ 1 % 256).toNat % 256 = m / 256 % 256 := by rw [show (256 : Int) ^ 1 = 256 from rfl]; omega
  have e3 : ((m : Int) / 256 ^ 0 % 256).toNat % 256 = m % 256 := by rw [show (256 : Int) ^ 0 = 1 from rfl]; omega
  have hu : ∀ k : Nat, (UInt8.ofNat k).toNat = k % 256 := fun k => by simp
  unfold fix4 beN
  simp only [fixB, List.foldl_cons, List.foldl_nil, hu, e0, e1, e2, e3]
  omega
theorem bodyL_len (nx : Nat) (ns : List Nat) : (bodyL nx ns).length = 8 + 4 * ns.length := by
  unfold bodyL
  simp only [List.length_append, fix4_len, flat4_len]
theorem ok_of_E {p q : Int} {nx : Nat} {ns : List Nat} (h : (bodyE p q nx ns == 0) = true) : bodyOk p q nx ns = true := by
  unfold bodyE at h
  cases hb : bodyOk p q nx ns with
  | true => rfl
  | false => rw [hb] at h; simp at h
theorem from_both {p q : Int} {s : ByteArray} : frOk p q s = docOk p q s ∧ (frOk p q s = true → frNx s = num4 s 0 ∧ frNs p q s = docNs s) := by
  have fwd : frOk p q s = true → docOk p q s = true ∧ frNx s = num4 s 0 ∧ frNs p q s = docNs s := by
    intro h
    unfold frOk at h
    simp only [Bool.and_eq_true, decide_eq_true_eq] at h
    obtain ⟨⟨hf, hE⟩, hS⟩ := h
    have hok := ok_of_E hE
    have hlen : s.size = 8 + 4 * (frNs p q s).length := by
      have : s = ⟨(bodyL (frNx s) (frNs p q s)).toArray⟩ := by
        have := hS
        unfold bodyS at this
        rw [hok] at this
        exact this.symm
      have h2 := congrArg ByteArray.size this
      rw [h2]
      show (bodyL (frNx s) (frNs p q s)).toArray.size = _
      rw [List.size_toArray, bodyL_len]
    have hk : (frNs p q s).length = frK p q s := readK_len _ _ _
    have hle : (frNs p q s).length ≤ entN p q := by
      rw [hk]; exact Nat.min_le_right _ _
    have h0 := raw_at (s := s) (p := 0) (by omega)
    have hi2 : itN s (0, 0) 2 = (8, 0) := it_at 2 0 (by omega)
    have hnx : frNx s = num4 s 0 := h0.1
    have hns : frNs p q s = docNs s := by
      unfold frNs docNs
      rw [hi2, readK_at (by rw [← hk]; omega), ← hk]
      congr 2
      omega
    refine ⟨?_, hnx, hns⟩
    unfold docOk
    rw [hnx, hns] at hE hS
    rw [hf, decide_eq_true (by omega : 8 ≤ s.size), decide_eq_true (by omega : s.size % 4 = 0), decide_eq_true (by omega : s.size ≤ 8 + 4 * entN p q), hE, decide_eq_true hS]
    rfl
  have bwd : docOk p q s = true → frOk p q s = true := by
    intro h
    unfold docOk at h
    simp only [Bool.and_eq_true, decide_eq_true_eq] at h
    obtain ⟨⟨⟨⟨hf, h8⟩, h4⟩, hmx⟩, hE, hS⟩ := h
    have hok := ok_of_E hE
    have hS2 : s = ⟨(bodyL (num4 s 0) (docNs s)).toArray⟩ := by
      have := hS
      unfold bodyS at this
      rw [hok] at this
      exact this.symm
    have hl : (docNs s).length = (s.size - 8) / 4 := by unfold docNs; simp
    have h0 := raw_at (s := s) (p := 0) (by omega)
    have hi2 : itN s (0, 0) 2 = (8, 0) := it_at 2 0 (by omega)
    have hc : tkV s (tkN s (0, 0)) = (docNs s).length := by
      rw [h0.2, (raw_at (s := s) (p := 0 + 4) (by omega)).1]
      have hx : num4 s (0 + 4) = beN (fix4 (docNs s).length) := by
        unfold num4
        congr 1
        rw [ByteArray.data_extract, Array.toList_extract]
        have : s.data.toList = bodyL (num4 s 0) (docNs s) := by
          have := congrArg (fun x : ByteArray => x.data.toList) hS2
          exact this
        rw [this]
        unfold bodyL
        simp only [List.extract_eq_take_drop]
        rw [List.append_assoc, List.drop_left' (fix4_len _), List.take_left' (by rw [fix4_len])]
      rw [hx, beN_fix4 (by rw [hl]; have := entN_cases p q; omega)]
    have hk : frK p q s = (docNs s).length := by
      unfold frK
      rw [hc]
      exact Nat.min_eq_left (by rw [hl]; omega)
    have hns : frNs p q s = docNs s := by
      unfold frNs
      rw [hi2, hk, readK_at (by rw [hl]; omega), hl]
      rfl
    unfold frOk
    rw [hns, show frNx s = num4 s 0 from h0.1, hf, hE, decide_eq_true hS]
    rfl
  constructor
  · cases h1 : frOk p q s with
    | true => rw [(fwd h1).1]
    | false =>
      cases h2 : docOk p q s with
      | false => rfl
      | true => rw [bwd h2] at h1; cases h1
  · exact fun h => (fwd h).2
end Go.Proofs.Ytbpoklkaffaleaa
