/-
  Unlike lists have unlike texts, plainly.
-/
import Derived.Test.YtpkpklbambmbeaaDoorSL
namespace Go.Proofs.YtpkpklbambmbeaaDoor

theorem sh8 (x : UInt32) (n : Nat) (hn : n < 32) : ((x >>> UInt32.ofNat n).toUInt8).toNat = x.toNat / 2 ^ n % 256 := by
  rw [UInt32.toNat_toUInt8, UInt32.toNat_shiftRight, UInt32.toNat_ofNat', Nat.mod_eq_of_lt (a := n) (b := 2 ^ 32) (by omega), Nat.mod_eq_of_lt hn, Nat.shiftRight_eq_div_pow]
theorem by4_inj {x y : UInt32} (h : by4 x = by4 y) : x = y := by
  unfold by4 at h
  simp only [List.cons.injEq, and_true] at h
  obtain ⟨h1, h2, h3, h4⟩ := h
  have e1 := congrArg UInt8.toNat h1
  have e2 := congrArg UInt8.toNat h2
  have e3 := congrArg UInt8.toNat h3
  have e4 := congrArg UInt8.toNat h4
  have a1 := sh8 x 24 (by omega)
  have a2 := sh8 x 16 (by omega)
  have a3 := sh8 x 8 (by omega)
  have b1 := sh8 y 24 (by omega)
  have b2 := sh8 y 16 (by omega)
  have b3 := sh8 y 8 (by omega)
  have c1 : x.toUInt8.toNat = x.toNat % 256 := UInt32.toNat_toUInt8 x
  have c2 : y.toUInt8.toNat = y.toNat % 256 := UInt32.toNat_toUInt8 y
  apply UInt32.toNat_inj.1
  have hx := x.toNat_lt
  have hy := y.toNat_lt
  have f1 : x.toNat / 2 ^ 24 % 256 = y.toNat / 2 ^ 24 % 256 := by rw [← a1, ← b1]; exact e1
  have f2 : x.toNat / 2 ^ 16 % 256 = y.toNat / 2 ^ 16 % 256 := by rw [← a2, ← b2]; exact e2
  have f3 : x.toNat / 2 ^ 8 % 256 = y.toNat / 2 ^ 8 % 256 := by rw [← a3, ← b3]; exact e3
  have f4 : x.toNat % 256 = y.toNat % 256 := by rw [← c1, ← c2]; exact e4
  omega
theorem bytes_ext {a b : ByteArray} (h : a.data.toList = b.data.toList) : a = b := by
  cases a; cases b
  simp only [ByteArray.mk.injEq]
  exact Array.toList_inj.1 h
theorem parts_inj : ∀ (ss tt : List ByteArray), (∀ s ∈ ss, s.size < 4294967296) → (∀ s ∈ tt, s.size < 4294967296) → ss.flatMap partB = tt.flatMap partB → ss = tt
  | [], [], _, _, _ => rfl
  | [], t :: tt, _, _, h => by
    have := congrArg List.length h
    rw [List.flatMap_nil, List.flatMap_cons, List.length_append, List.length_nil] at this
    unfold partB at this
    rw [List.length_append, by4_length] at this
    omega
  | s :: ss, [], _, _, h => by
    have := congrArg List.length h
    rw [List.flatMap_nil, List.flatMap_cons, List.length_append, List.length_nil] at this
    unfold partB at this
    rw [List.length_append, by4_length] at this
    omega
  | s :: ss, t :: tt, hs, ht, h => by
    rw [List.flatMap_cons, List.flatMap_cons] at h
    have h' : by4 (UInt32.ofNat s.size) ++ (s.data.toList ++ ss.flatMap partB) = by4 (UInt32.ofNat t.size) ++ (t.data.toList ++ tt.flatMap partB) := by
      rw [← List.append_assoc, ← List.append_assoc]; exact h
    obtain ⟨e1, e2⟩ := List.append_inj h' (by rw [by4_length, by4_length])
    have e3 := by4_inj e1
    have e4 : s.size = t.size := by
      have := congrArg UInt32.toNat e3
      rw [UInt32.toNat_ofNat', UInt32.toNat_ofNat', Nat.mod_eq_of_lt (hs s (by simp)), Nat.mod_eq_of_lt (ht t (by simp))] at this
      exact this
    obtain ⟨e5, e6⟩ := List.append_inj e2 (by rw [bytes_length, bytes_length, e4])
    rw [bytes_ext e5, parts_inj ss tt (fun x hx => hs x (by simp [hx])) (fun x hx => ht x (by simp [hx])) e6]
theorem text_inj {a b : ByteArray} {ss tt : List ByteArray} (ha : a.size ≤ 64) (hb : b.size ≤ 64) (hs : ∀ s ∈ ss, s.size < 4294967296) (ht : ∀ s ∈ tt, s.size < 4294967296) (h : textP a ss = textP b tt) : a = b ∧ ss = tt := by
  unfold textP at h
  rw [List.cons_append, List.cons_append, List.cons.injEq] at h
  obtain ⟨h1, h2⟩ := h
  have e : a.size = b.size := by
    have := congrArg UInt8.toNat h1
    rw [UInt8.toNat_ofNat', UInt8.toNat_ofNat'] at this
    omega
  obtain ⟨h3, h4⟩ := List.append_inj h2 (by rw [bytes_length, bytes_length, e])
  exact ⟨bytes_ext h3, parts_inj ss tt hs ht h4⟩
end Go.Proofs.YtpkpklbambmbeaaDoor
