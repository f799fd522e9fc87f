/-
  A Reader's cells, and the plain functions that its calls compute.
-/
import Derived.Test.YtjlbkagkmcelgaaP0
import Derived.Lib.Strings
namespace Go.Proofs.Ytjlbkagkmcelgaa
open Go.RowKit

/-- At block b lies a Reader that Open made: of the bytes s, at the place p, with the fault's number c (0: none). -/
def RdAt (w : World) (b : Nat) (s : ByteArray) (p c : Nat) : Prop :=
  w.heap[b]? = some (.cells #[.bool true, .string s, .int .i64 p, .int .i64 c] 111 (0, 0)) ∧ p ≤ s.size ∧ s.size ≤ 281474976710656

theorem cell_of_four {w : World} {b : Nat} {x y z u : Value} {t : TypeId} (h : w.heap[b]? = some (.cells #[x, y, z, u] t (0, 0))) :
    w.cell? ⟨b, 0, none⟩ = some x ∧ w.cell? ⟨b, 1, none⟩ = some y ∧ w.cell? ⟨b, 2, none⟩ = some z ∧ w.cell? ⟨b, 3, none⟩ = some u ∧ w.frozen? ⟨b, 2, none⟩ = false ∧ w.frozen? ⟨b, 3, none⟩ = false := by
  refine ⟨?_, ?_, ?_, ?_, ?_, ?_⟩ <;> simp [World.cell?, World.frozen?, h]
theorem four_setCell2 {w : World} {b : Nat} {x y z u : Value} {t : TypeId} (h : w.heap[b]? = some (.cells #[x, y, z, u] t (0, 0))) (v : Value) :
    (w.setCell ⟨b, 2, none⟩ v).heap[b]? = some (.cells #[x, y, v, u] t (0, 0)) := by
  simp [World.setCell, Array.getElem?_modify, h]
theorem four_setCell3 {w : World} {b : Nat} {x y z u : Value} {t : TypeId} (h : w.heap[b]? = some (.cells #[x, y, z, u] t (0, 0))) (v : Value) :
    (w.setCell ⟨b, 3, none⟩ v).heap[b]? = some (.cells #[x, y, z, v] t (0, 0)) := by
  simp [World.setCell, Array.getElem?_modify, h]

/-- The Reader at b alone may have turned. -/
abbrev RdStep (b : Nat) (w w' : World) : Prop := Fr (fun k => k = b) w w'
/-- Nothing that was there has turned. -/
theorem Same.rd {w w' : World} (h : Same w w') (b : Nat) : RdStep b w w' := h.mono (fun _ _ f => f.elim)
theorem RdStep.trans {b : Nat} {w w1 w2 : World} (h : RdStep b w w1) (k : RdStep b w1 w2) : RdStep b w w2 := Fr.trans h k (fun _ _ t => t)
theorem RdAt.same {w w' : World} {b : Nat} {s : ByteArray} {p c : Nat} (h : RdAt w b s p c) (k : Same w w') : RdAt w' b s p c :=
  ⟨by rw [k.block b (lt_of_heap h.1) (fun f => f)]; exact h.1, h.2⟩
theorem RdAt.frame {w w' : World} {b : Nat} {s : ByteArray} {p c : Nat} {S : Nat → Prop} (h : RdAt w b s p c) (k : Fr S w w') (hn : ¬ S b) : RdAt w' b s p c :=
  ⟨by rw [k.block b (lt_of_heap h.1) hn]; exact h.1, h.2⟩
theorem RdAt.lt {w : World} {b : Nat} {s : ByteArray} {p c : Nat} (h : RdAt w b s p c) : b < w.heap.size := lt_of_heap h.1

/-- A free number at the head of bytes: (number, length, fault); k: groups that may still come, n: what was read so far. -/
def freeR : Nat → Nat → List UInt8 → Nat × Nat × Nat
  | 0, _, _ => (0, 0, 11)
  | _ + 1, _, [] => (0, 0, 10)
  | k + 1, n, b :: r =>
    if k = 0 ∧ 1 < b.toNat then (0, 0, 11)
    else if 127 < b.toNat then freeR k (n + b.toNat % 128 * 128 ^ (9 - k)) r
    else if b.toNat = 0 ∧ k < 9 then (0, 0, 11)
    else (n + b.toNat % 128 * 128 ^ (9 - k), 10 - k, 0)

/-- What Free answers: (number, place, fault). -/
def rFree (s : ByteArray) (p c most : Nat) : Nat × Nat × Nat :=
  if c = 0 then
    (if (freeR 10 0 (s.data.toList.drop p)).2.2 = 0 then
      (if most < (freeR 10 0 (s.data.toList.drop p)).1 then (0, p, 12) else ((freeR 10 0 (s.data.toList.drop p)).1, p + (freeR 10 0 (s.data.toList.drop p)).2.1, 0))
    else (0, p, (freeR 10 0 (s.data.toList.drop p)).2.2))
  else (0, p, c)

theorem freeR_len (k n : Nat) (l : List UInt8) (hk : k ≤ 10) : (freeR k n l).2.1 ≤ 10 ∧ (freeR k n l).2.2 ≤ 11 ∧ ((freeR k n l).2.2 = 0 → (freeR k n l).2.1 ≤ l.length + (10 - k)) := by
  induction k generalizing n l with
  | zero => simp [freeR]
  | succ k ih =>
    cases l with
    | nil => simp [freeR]
    | cons b r =>
      rw [freeR]
      split
      · simp
      · split
        · have := ih (n + b.toNat % 128 * 128 ^ (9 - k)) r (by omega)
          refine ⟨this.1, this.2.1, fun h => ?_⟩
          have := this.2.2 h
          simp; omega
        · split
          · simp
          · simp; omega

theorem freeR_lt (k n : Nat) (l : List UInt8) (hk : k ≤ 10) (hn : n < 128 ^ (10 - k)) : (freeR k n l).1 < 18446744073709551616 := by
  induction k generalizing n l with
  | zero => simp [freeR]
  | succ k ih =>
    cases l with
    | nil => simp [freeR]
    | cons b r =>
      have hp : 128 ^ (10 - k) = 128 ^ (9 - k) * 128 := by rw [show 10 - k = (9 - k) + 1 from by omega, Nat.pow_succ]
      rw [show 10 - (k + 1) = 9 - k from by omega] at hn
      have hb : b.toNat % 128 * 128 ^ (9 - k) ≤ 127 * 128 ^ (9 - k) := Nat.mul_le_mul_right _ (by omega)
      rw [freeR]
      split
      · simp
      · split
        · exact ih _ r (by omega) (by omega)
        · split
          · simp
          · simp only
            by_cases h0 : k = 0
            · subst h0
              have h1 : b.toNat ≤ 1 := by omega
              have h2 : b.toNat % 128 * 128 ^ 9 ≤ 1 * 128 ^ 9 := Nat.mul_le_mul_right _ (by omega)
              simp only [Nat.sub_zero] at *
              omega
            · have : 128 ^ (10 - k) ≤ 128 ^ 9 := Nat.pow_le_pow_right (by decide) (by omega)
              omega

theorem rFree_place (s : ByteArray) (p c most : Nat) (hp : p ≤ s.size) : p ≤ (rFree s p c most).2.1 ∧ (rFree s p c most).2.1 ≤ s.size := by
  have := freeR_len 10 0 (s.data.toList.drop p) (by omega)
  unfold rFree
  split
  · split
    · split
      · simp; exact hp
      · have h := this.2.2 (by assumption)
        have hs := bytes_length s
        simp only [List.length_drop, hs] at h
        simp; omega
    · simp; exact hp
  · simp; exact hp
theorem rFree_lt (s : ByteArray) (p c most : Nat) : (rFree s p c most).1 < 18446744073709551616 ∧ (rFree s p c most).1 ≤ most := by
  have := freeR_lt 10 0 (s.data.toList.drop p) (by omega) (by decide)
  unfold rFree
  split
  · split
    · split
      · simp
      · simp; omega
    · simp
  · simp

/-- What Raw answers: (bytes, place, fault). -/
def rRaw (s : ByteArray) (p c : Nat) (n : Int) : ByteArray × Nat × Nat :=
  if c = 0 then (if s.size - p < n.toNat then (⟨#[]⟩, p, 10) else (s.extract p (p + n.toNat), p + n.toNat, 0)) else (⟨#[]⟩, p, c)
/-- What Text answers. -/
def rText (s : ByteArray) (p c : Nat) (most : Int) : ByteArray × Nat × Nat :=
  if s.size - (rFree s p c most.toNat).2.1 < (rFree s p c most.toNat).1 then (⟨#[]⟩, p, 10) else rRaw s (rFree s p c most.toNat).2.1 (rFree s p c most.toNat).2.2 (rFree s p c most.toNat).1
end Go.Proofs.Ytjlbkagkmcelgaa
