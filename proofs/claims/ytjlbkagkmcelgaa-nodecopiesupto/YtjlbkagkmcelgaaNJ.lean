/- What is read is a node in memory. -/
import Derived.Test.YtjlbkagkmcelgaaNI
namespace Go.Proofs.Ytjlbkagkmcelgaa
open Go.RowKit

theorem own_cell {W : World} {e : TypeId} {sz g cap n : Nat} {xs : List Value} (h : W.ownsRow 0 e sz (.slice (some ⟨g, 0, none⟩) n cap) n xs) {j : Nat} {u : Value} (hu : xs[j]? = some u) : W.cell? ⟨g, j, none⟩ = some u := by
  obtain ⟨hl, hn | ⟨g2, c2, cur, hv, _, hh, _, _, _, htk⟩⟩ := h
  · exact absurd hn.1 (by simp)
  · injection hv with e1
    injection e1 with e1
    injection e1 with e1
    subst e1
    rw [cell_of_row _ _ _ _ _ _ hh]
    rw [← htk, List.getElem?_take] at hu
    split at hu
    · simpa using hu
    · cases hu
theorem own_some {W : World} {e : TypeId} {sz n cap : Nat} {xs : List Value} {ao : Option Addr} (h : W.ownsRow 0 e sz (.slice ao n cap) n xs) (hn : n ≠ 0) : ∃ g, ao = some ⟨g, 0, none⟩ ∧ g < W.heap.size := by
  obtain ⟨hl, h0 | ⟨g2, c2, cur, hv, _, hh, _⟩⟩ := h
  · exact absurd h0.2 hn
  · injection hv with e1 _ _
    exact ⟨g2, e1, lt_of_heap hh⟩
theorem own_cap {W : World} {e : TypeId} {sz n cap : Nat} {xs : List Value} {ao : Option Addr} (h : W.ownsRow 0 e sz (.slice ao n cap) n xs) : n ≤ cap ∧ (cap ≤ maxLen) := by
  obtain ⟨hl, h0 | ⟨g2, c2, cur, hv, _, hh, h1, h2, _⟩⟩ := h
  · obtain ⟨h1, h2⟩ := h0
    injection h1 with _ _ h3
    rw [h2, h3]; exact ⟨by omega, by unfold maxLen; omega⟩
  · injection hv with _ _ e3
    rw [e3]; exact ⟨h1, h2⟩
theorem flat_get {α : Type} (f : α → List Value) (sz : Nat) (l : List α) (h : ∀ x ∈ l, (f x).length = sz) (i j : Nat) (x : α) (hx : l[i]? = some x) (hj : j < sz) : (l.flatMap f)[i * sz + j]? = (f x)[j]? := by
  induction l generalizing i with
  | nil => simp at hx
  | cons y l ih =>
    have hy := h y (by simp)
    rw [List.flatMap_cons]
    cases i with
    | zero =>
      simp at hx; subst hx
      rw [Nat.zero_mul, Nat.zero_add, List.getElem?_append_left (by omega)]
    | succ i =>
      rw [List.getElem?_append_right (by rw [hy, Nat.succ_mul]; omega), hy, show (i + 1) * sz + j - sz = i * sz + j from by rw [Nat.succ_mul]; omega]
      exact ih (fun x hx => h x (by simp [hx])) i (by simpa using hx)
theorem own_prow {W : World} {n cap : Nat} {ps : List (ByteArray × ByteArray)} {ao : Option Addr} (h : W.ownsRow 0 33 2 (.slice ao n cap) n (pcells ps)) (hn : n = ps.length) : ∃ g, PRow W ao g 0 ps := by
  by_cases h0 : ps = []
  · subst h0
    exact ⟨0, fun e => absurd rfl e, fun j x hx => by simp at hx⟩
  · have hl : n ≠ 0 := by rw [hn]; intro e; exact h0 (List.eq_nil_of_length_eq_zero e)
    obtain ⟨g, rfl, hg⟩ := own_some h hl
    refine ⟨g, fun _ => ⟨rfl, hg⟩, fun j x hx => ?_⟩
    have f0 := flat_get (fun x : ByteArray × ByteArray => [Value.string x.1, Value.string x.2]) 2 ps (fun _ _ => rfl) j 0 x hx (by omega)
    have f1 := flat_get (fun x : ByteArray × ByteArray => [Value.string x.1, Value.string x.2]) 2 ps (fun _ _ => rfl) j 1 x hx (by omega)
    rw [Nat.zero_add]
    exact ⟨own_cell h (by rw [pcells, ← Nat.add_zero (j * 2), f0]; rfl), own_cell h (by rw [pcells, f1]; rfl)⟩
theorem own_trow {W : World} {n cap : Nat} {ss : List ByteArray} {ao : Option Addr} (h : W.ownsRow 0 9 1 (.slice ao n cap) n (scells ss)) (hn : n = ss.length) : ∃ g, TRow W ao g 0 ss := by
  by_cases h0 : ss = []
  · subst h0
    exact ⟨0, fun e => absurd rfl e, fun j x hx => by simp at hx⟩
  · have hl : n ≠ 0 := by rw [hn]; intro e; exact h0 (List.eq_nil_of_length_eq_zero e)
    obtain ⟨g, rfl, hg⟩ := own_some h hl
    refine ⟨g, fun _ => ⟨rfl, hg⟩, fun j x hx => ?_⟩
    rw [Nat.zero_add]
    exact own_cell h (by rw [scells, List.getElem?_map, hx]; rfl)
theorem own_krow {W : World} {n cap : Nat} {ks : List Kid} {ao : Option Addr} (hok : ∀ x ∈ ks, KidOk x) (h : W.ownsRow 0 37 33 (.slice ao n cap) n (kcellsL ks)) (hn : n = ks.length) : ∃ g, KRow W ao g 0 ks := by
  by_cases h0 : ks = []
  · subst h0
    exact ⟨0, fun e => absurd rfl e, fun j x hx => by simp at hx⟩
  · have hl : n ≠ 0 := by rw [hn]; intro e; exact h0 (List.eq_nil_of_length_eq_zero e)
    obtain ⟨g, rfl, hg⟩ := own_some h hl
    refine ⟨g, fun _ => ⟨rfl, hg⟩, fun j x hx i v hv => ?_⟩
    have hlx := kcells_length (hok x (List.mem_of_getElem? hx)).d
    have hi : i < 33 := by rw [← hlx]; exact (List.getElem?_eq_some_iff.1 hv).1
    have f0 := flat_get kcells 33 ks (fun y hy => kcells_length (hok y hy).d) j i x hx hi
    rw [Nat.zero_add]
    exact own_cell h (by rw [kcellsL, f0]; exact hv)
theorem rKids_ok {rd : Nat → Nat → Kid × Nat × Nat} {rt : Nat → Nat → ByteArray × Nat × Nat} (hr : ∀ p c, KidOk (rd p c).1) : ∀ (n p c : Nat) (sl : List ByteArray) (ks : List Kid), (∀ x ∈ ks, KidOk x) → ∀ x ∈ (rKids rd rt n p c sl ks).2.1, KidOk x := by
  intro n
  induction n with
  | zero => intro p c sl ks h x hx; exact h x hx
  | succ n ih =>
    intro p c sl ks h
    rw [rKids]
    split
    · split
      · exact ih _ _ _ _ (fun x hx => by simp at hx; rcases hx with hx | rfl; exact h x hx; exact hr _ _)
      · exact ih _ _ _ _ (fun x hx => by simp at hx; rcases hx with hx | rfl; exact h x hx; exact hr _ _)
    · exact h
end Go.Proofs.Ytjlbkagkmcelgaa
