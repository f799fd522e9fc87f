/-
  Items as trees, in memory; how a row is gone through (walk.row, walk.item).
-/
import Derived.Test.YtjhnehhiahoelaaDoorT2
import Derived.Deep.WholeRow
namespace Go.Proofs.YtjhnehhiahoelaaDoor
open Go.RowKit

inductive ItemP where
  | mk (kd : Nat) (b : Bool) (i : Int) (f : Nat) (s : ByteArray) (l : List ItemP)

/-- An item lies at an address; its lists below block B. -/
inductive ItemAt (B : Nat) (w : World) : Nat → Nat → ItemP → Prop
  | mk (ab o : Nat) (kd : Nat) (b : Bool) (i : Int) (f : Nat) (s : ByteArray) (l : List ItemP) (la : Option Addr) (lc lb lo : Nat)
      (c0 : w.cell? ⟨ab, o, none⟩ = some (.int .u8 kd)) (c1 : w.cell? ⟨ab, o + 1, none⟩ = some (.bool b)) (c2 : w.cell? ⟨ab, o + 2, none⟩ = some (.int .i64 i)) (c3 : w.cell? ⟨ab, o + 3, none⟩ = some (.float .f64 f))
      (c4 : w.cell? ⟨ab, o + 4, none⟩ = some (.string s)) (c5 : w.cell? ⟨ab, o + 5, none⟩ = some (.slice la l.length lc))
      (hi0 : -9223372036854775808 ≤ i) (hi1 : i ≤ 9223372036854775807) (hs : s.size ≤ 140737488355328) (hln : l.length ≤ 140737488355328) (hf : f < 18446744073709551616) (hkd : kd < 256)
      (hl : l ≠ [] → la = some ⟨lb, lo, none⟩ ∧ lb < B) (hr : ∀ (k : Nat) (t : ItemP), l[k]? = some t → ItemAt B w lb (lo + k * 6) t) : ItemAt B w ab o (.mk kd b i f s l)
theorem ItemAt.keep {B : Nat} {w w' : World} {ab o : Nat} {t : ItemP} (h : ItemAt B w ab o t) (hb : ab < B) (k : Below B w w') : ItemAt B w' ab o t := by
  induction h with
  | mk ab o kd b i f s l la lc lb lo c0 c1 c2 c3 c4 c5 hi0 hi1 hs hln hf hkd hl hr ih =>
    refine .mk ab o kd b i f s l la lc lb lo ((k.cell (p := ⟨ab, o, none⟩) hb).trans c0) ((k.cell (p := ⟨ab, o + 1, none⟩) hb).trans c1) ((k.cell (p := ⟨ab, o + 2, none⟩) hb).trans c2) ((k.cell (p := ⟨ab, o + 3, none⟩) hb).trans c3) ((k.cell (p := ⟨ab, o + 4, none⟩) hb).trans c4) ((k.cell (p := ⟨ab, o + 5, none⟩) hb).trans c5) hi0 hi1 hs hln hf hkd hl ?_
    intro j t hj
    refine ih j t hj (hl ?_).2
    intro e
    rw [e] at hj
    simp at hj
/-- A row of items, as a slice's value. -/
def RowIn (B : Nat) (w : World) (v : Value) (l : List ItemP) : Prop :=
  ∃ ad c lb lo, v = .slice ad l.length c ∧ l.length ≤ 140737488355328 ∧ (l ≠ [] → ad = some ⟨lb, lo, none⟩ ∧ lb < B) ∧ ∀ (k : Nat) (t : ItemP), l[k]? = some t → ItemAt B w lb (lo + k * 6) t
theorem RowIn.below {B : Nat} {w w' : World} {v : Value} {l : List ItemP} (h : RowIn B w v l) (k : Below B w w') : RowIn B w' v l := by
  obtain ⟨ad, c, lb, lo, hv, hn, hl, hr⟩ := h
  refine ⟨ad, c, lb, lo, hv, hn, hl, fun j t hj => (hr j t hj).keep (hl ?_).2 k⟩
  intro e
  rw [e] at hj
  simp at hj

mutual
/-- What a walk through an item comes to: (error, items, bytes). -/
def chkI : ItemP → Nat → Nat → Nat → Nat × Nat × Nat
  | .mk kd b i f s l, d, n, z =>
    if 64 ≤ n then (31, n, z) else if mayP kd b i f s l.length = false then (30, n, z) else if kd = 6 ∧ 8 ≤ d then (32, n, z) else chkL l (d + 1) (n + 1) (z + ownN kd i s)
/-- .. and through a row. -/
def chkL : List ItemP → Nat → Nat → Nat → Nat × Nat × Nat
  | [], _, n, z => (0, n, z)
  | t :: l, d, n, z => if (chkI t d n z).1 = 0 then chkL l d (chkI t d n z).2.1 (chkI t d n z).2.2 else chkI t d n z
end

/-- At block b lies a walk. -/
def WalkAt (w : World) (b n z : Nat) : Prop := w.heap[b]? = some (.cells #[.int .i64 n, .int .i64 z] 40 (0, 0))
theorem WalkAt.cells {w : World} {b n z : Nat} (h : WalkAt w b n z) : w.cell? ⟨b, 0, none⟩ = some (.int .i64 n) ∧ w.cell? ⟨b, 1, none⟩ = some (.int .i64 z) ∧ w.frozen? ⟨b, 0, none⟩ = false ∧ w.frozen? ⟨b, 1, none⟩ = false := by
  have h' := h
  unfold WalkAt at h
  refine ⟨?_, ?_, frozen_of_row w b 0 _ _ h, frozen_of_row w b 1 _ _ h⟩
  · rw [cell_of_row _ _ _ _ _ _ h]; rfl
  · rw [cell_of_row _ _ _ _ _ _ h]; rfl

theorem ownN_le (kd : Nat) (i : Int) (s : ByteArray) (hs : s.size ≤ 140737488355328) : ownN kd i s ≤ 562949953421312 := by
  have := widthI_le i
  have := zerosN_le s
  unfold ownN
  by_cases h3 : kd = 3
  · rw [if_pos h3]; omega
  · rw [if_neg h3]
    by_cases h4 : kd = 4
    · rw [if_pos h4]; omega
    · rw [if_neg h4]
      by_cases h5 : kd = 5
      · rw [if_pos h5]; omega
      · rw [if_neg h5]
        by_cases h6 : kd = 6
        · rw [if_pos h6]; omega
        · rw [if_neg h6]; omega
end Go.Proofs.YtjhnehhiahoelaaDoor
