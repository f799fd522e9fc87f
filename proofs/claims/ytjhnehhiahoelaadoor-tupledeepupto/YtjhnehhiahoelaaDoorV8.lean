/-
  How many bytes a row has; Pack.
-/
import Derived.Test.YtjhnehhiahoelaaDoorV7
namespace Go.Proofs.YtjhnehhiahoelaaDoor
open Go.RowKit

theorem be8_length (x : Nat) : (be8 x).length = 8 := rfl
theorem intB_length (i : Int) : (intB i).length = 1 + widthI i := by
  have h8 := widthI_le i
  unfold intB
  by_cases hz : i = 0
  · subst hz; rfl
  rw [if_neg hz]
  by_cases hp : 0 < i
  · rw [if_pos hp]
    have e : bytesN i.toNat = widthI i := by unfold widthI; congr 1; omega
    rw [e]
    simp [be8_length]; omega
  · rw [if_neg hp]
    simp [be8_length]; omega
theorem escB_length (a : List UInt8) : (escB a).length = a.length + a.count 0 := by
  induction a with
  | nil => rfl
  | cons c r ih =>
    by_cases h : c = 0
    · subst h; simp [escB, ih]; omega
    · simp [escB, ih, h]; omega
theorem textB_length (s : ByteArray) : (textB s).length = 1 + s.size + zerosN s + 2 := by
  have := escB_length s.data.toList
  rw [bytes_length] at this
  simp [textB, zerosN, Lib.countByte, this]; omega
theorem item_size (kd : Nat) (b : Bool) (i : Int) (f : Nat) (s : ByteArray) (l : List ItemP) (h : mayP kd b i f s l.length = true) : (itemB (.mk kd b i f s l)).length = ownN kd i s + (rowB l).length := by
  unfold mayP at h
  simp only [Bool.and_eq_true, Bool.or_eq_true, beq_iff_eq, decide_eq_true_eq] at h
  obtain ⟨⟨⟨⟨⟨⟨h1, h2⟩, _⟩, _⟩, _⟩, _⟩, h6⟩ := h
  have hl : kd ≠ 6 → (rowB l).length = 0 := by
    intro hk
    rcases h6 with h | h
    · exact absurd h hk
    · rw [List.length_eq_zero_iff.1 h]; rfl
  rw [itemB, ownN]
  by_cases k1 : kd = 1
  · subst k1; simp [hl]
  by_cases k2 : kd = 2
  · subst k2; simp [hl]
  by_cases k3 : kd = 3
  · subst k3; simp [hl, intB_length]
  by_cases k4 : kd = 4
  · subst k4; simp [hl, floatB, be8_length]
  by_cases k5 : kd = 5
  · subst k5; simp [hl, textB_length]
  obtain rfl : kd = 6 := by omega
  simp; omega
mutual
theorem chkI_size : ∀ (t : ItemP) (d n z : Nat), (chkI t d n z).1 = 0 → (chkI t d n z).2.2 = z + (itemB t).length
  | .mk kd b i f s l, d, n, z => by
    intro h
    rw [chkI] at h ⊢
    by_cases h1 : 64 ≤ n
    · rw [if_pos h1] at h; simp at h
    rw [if_neg h1] at h ⊢
    by_cases h2 : mayP kd b i f s l.length = false
    · rw [if_pos h2] at h; simp at h
    rw [if_neg h2] at h ⊢
    by_cases h3 : kd = 6 ∧ 8 ≤ d
    · rw [if_pos h3] at h; simp at h
    rw [if_neg h3] at h ⊢
    rw [chkL_size l _ _ _ h, item_size kd b i f s l (by simpa using h2)]; omega
theorem chkL_size : ∀ (l : List ItemP) (d n z : Nat), (chkL l d n z).1 = 0 → (chkL l d n z).2.2 = z + (rowB l).length
  | [], d, n, z => by intro _; simp [chkL, rowB]
  | t :: l, d, n, z => by
    intro h
    rw [chkL] at h ⊢
    by_cases h1 : (chkI t d n z).1 = 0
    · rw [if_pos h1] at h ⊢
      rw [chkL_size l _ _ _ h, chkI_size t d n z h1, rowB, List.length_append]; omega
    · rw [if_neg h1] at h
      exact absurd h h1
end
theorem checkP_size (l : List ItemP) (h : checkP l = 0) : (rowB l).length ≤ 4096 := by
  unfold checkP at h
  by_cases h1 : (chkL l 0 0 0).1 = 0
  · rw [if_pos h1] at h
    have := chkL_size l 0 0 0 h1
    by_cases h2 : 4096 < (chkL l 0 0 0).2.2
    · rw [if_pos h2] at h; simp at h
    · omega
  · rw [if_neg h1] at h; exact absurd h h1
/-- What Pack answers, as bytes. -/
def packB (l : List ItemP) : List UInt8 := if checkP l = 0 then rowB l else []

set_option maxRecDepth 100000 in
set_option maxHeartbeats 1000000 in
theorem pack_calls {w : World} {B : Nat} {v : Value} (l : List ItemP) (h : RowIn B w v l) (hB : B ≤ w.heap.size) :
    Calls Tryd.prog 6 #[v] w fun e w' => e = .returned (.tuple #[.string ⟨(packB l).toArray⟩, .int .i64 (checkP l)]) ∧ Same w w' := by
  have HC : Hid (Calls Tryd.prog 7 #[v] w fun e w' => e = .returned (.int .i64 (checkP l)) ∧ Same w w') := check_calls l h hB
  have HR : Hid (checkP l = 0 → ∀ W, Same w W → Calls Tryd.prog 11 #[.slice none 0 0, v] W (LayPost (.slice none 0 0) W (packB l))) := by
    intro h0 W sW
    have := layRow_calls (SizeOf.sizeOf l) l (Nat.le_refl _) (w := W) (ao := none) (c := 0) (bs := []) (h.below (Fr.below sW hB (fun _ f => f.elim))) (by have := sW.size; omega) (World.ownsRow_nil _ _ _ _) (by simp [Value.ownBlock]) (by have := checkP_size l h0; simp; omega)
    rw [List.nil_append] at this
    unfold packB
    rw [if_pos h0]
    exact this
  have HZ : Hid (checkP l ≠ 0 → packB l = []) := fun h0 => by unfold packB; rw [if_neg h0]
  generalize checkP l = E at *
  generalize packB l = P at *
  by_cases h0 : E = 0
  · subst h0
    go_enter Tryd.func6, Tryd.ntmps6
    go_wp2_with fail
    refine HC.out.mono ?_
    rintro e W1 ⟨rfl, s1⟩
    go_wp2_with fail
    refine (HR.out (by trivial) W1 s1).mono ?_
    rintro e W2 ⟨ao2, c2, rfl, h2, b2⟩
    have s2 : Same W1 W2 := b2.1.mono (fun k _ e => by simp [Value.ownBlock] at e)
    have hcv := owns_string (P := Tryd.prog) h2 37 9 Tryd.underlying37 Tryd.underlying5 Tryd.underlying9
    go_wp2_with fail
    go_ret2
    exact ⟨rfl, s1.trans s2⟩
  · have h0' : ¬ (E : Int) = 0 := by omega
    rw [HZ.out h0]
    go_enter Tryd.func6, Tryd.ntmps6
    go_wp2_with fail
    refine HC.out.mono ?_
    rintro e W1 ⟨rfl, s1⟩
    go_wp2_with fail
    go_ret2
    exact ⟨rfl, s1⟩
end Go.Proofs.YtjhnehhiahoelaaDoor
