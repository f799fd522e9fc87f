/-
  Walks: two lists of texts held against each other; whether one text begins another.
-/
import Derived.Test.YtcbbjicoedeioaaR0
import Derived.Test.YtcbbjicoedeioaaProg
import Derived.Handy
import Derived.Deep.QuietTactic
import Derived.BigQuiet
namespace Go.Proofs.Ytcbbjicoedeioaa
open Go.RowKit

/-- A slice value whose elements are these texts. -/
def StrSl (w : World) (v : Value) (ss : List ByteArray) : Prop :=
  ∃ ad c, v = .slice ad ss.length c ∧ ss.length ≤ 100000000000 ∧ (ss = [] ∨ ∃ ab ao, ad = some ⟨ab, ao, none⟩ ∧ ab < w.heap.size ∧ ∀ i s, ss[i]? = some s → w.cell? ⟨ab, ao + i, none⟩ = some (.string s))
theorem StrSl.frame {w w' : World} {v : Value} {ss : List ByteArray} {B : Nat} (h : StrSl w v ss) (hs : w.heap.size ≤ B) (k : Below B w w') : StrSl w' v ss := by
  obtain ⟨ad, c, hv, hl, h⟩ := h
  refine ⟨ad, c, hv, hl, ?_⟩
  rcases h with h | ⟨ab, ao, e, hlt, h⟩
  · exact Or.inl h
  · exact Or.inr ⟨ab, ao, e, Nat.lt_of_lt_of_le hlt k.size, fun i s hi => by rw [k.cell (p := ⟨ab, ao + i, none⟩) (Nat.lt_of_lt_of_le hlt hs)]; exact h i s hi⟩
theorem StrSl.same {w w' : World} {v : Value} {ss : List ByteArray} (h : StrSl w v ss) (k : Same w w') : StrSl w' v ss :=
  h.frame (Nat.le_refl _) (Fr.below k (Nat.le_refl _) (fun _ f => f.elim))

theorem same_len {w : World} (a1 a2 : Option Addr) (n1 n2 c1 c2 : Nat) (h : n1 ≠ n2) :
    Calls Try.prog 83 #[.slice a1 n1 c1, .slice a2 n2 c2] w fun e w' => e = .returned (.bool false) ∧ Same w w' := by
  have hb : ((n1 : Int) == (n2 : Int)) = false := by simp; omega
  have hb2 : ((n1 : Int) != (n2 : Int)) = true := by rw [bne_iff_ne]; omega
  go_enter Try.func83, Try.ntmps83
  go_wp2
  go_ret
  exact ⟨rfl, Fr.refl _ _⟩
theorem same_zero {w : World} (a1 a2 : Option Addr) (c1 c2 : Nat) :
    Calls Try.prog 83 #[.slice a1 0 c1, .slice a2 0 c2] w fun e w' => e = .returned (.bool true) ∧ Same w w' := by
  go_enter Try.func83, Try.ntmps83
  go_wp2
  go_rounds 1
  go_ret
  exact ⟨rfl, Fr.refl _ _⟩
set_option maxRecDepth 100000 in
set_option maxHeartbeats 1000000 in
theorem same_some {w : World} (p q : List ByteArray) (hl : p.length = q.length) (hn : p.length ≤ 100000000000) (b1 o1 c1 b2 o2 c2 : Nat) (hp : ∀ i s, p[i]? = some s → w.cell? ⟨b1, o1 + i, none⟩ = some (.string s)) (hq : ∀ i s, q[i]? = some s → w.cell? ⟨b2, o2 + i, none⟩ = some (.string s)) :
    Calls Try.prog 83 #[.slice (some ⟨b1, o1, none⟩) p.length c1, .slice (some ⟨b2, o2, none⟩) p.length c2] w fun e w' => e = .returned (.bool (decide (p = q))) ∧ Same w w' := by
  have HP : Hid (∀ i s, p[i]? = some s → w.cell? ⟨b1, o1 + i, none⟩ = some (.string s)) := hp
  have HQ : Hid (∀ i s, q[i]? = some s → w.cell? ⟨b2, o2 + i, none⟩ = some (.string s)) := hq
  have HL : Hid (p.length = q.length) := hl
  clear hp hq hl
  go_enter Try.func83, Try.ntmps83
  go_wp2
  go_loopw [5] (fun iv wr => ∃ k : Nat, k ≤ p.length ∧ iv = .int .i64 k ∧ Hid (p.take k = q.take k) ∧ Same w wr) (fun iv _ => p.length - (intOf iv).toNat)
  case atStart => exact ⟨0, by omega, rfl, rfl, Fr.refl _ _⟩
  case round =>
    obtain ⟨k, hk, rfl, hd, hst⟩ := hrel
    by_cases hlt : k < p.length
    · have hlq : k < q.length := by have := HL.out; omega
      have cp := HP.out k _ (List.getElem?_eq_getElem hlt)
      have cq := HQ.out k _ (List.getElem?_eq_getElem hlq)
      have cp' := (hst.cell (World.block_lt_of_cell? _ _ cp) (fun f => f)).trans cp
      have cq' := (hst.cell (World.block_lt_of_cell? _ _ cq) (fun f => f)).trans cq
      clear cp cq
      have hki : (k : Int) < (p.length : Int) := by omega
      have hk0 : (0 : Int) ≤ (k : Int) := by omega
      obtain ⟨x, hx⟩ : ∃ x, x = p[k] := ⟨_, rfl⟩
      obtain ⟨y, hy⟩ : ∃ y, y = q[k] := ⟨_, rfl⟩
      rw [← hx] at cp'
      rw [← hy] at cq'
      have HX : Hid (x = p[k]) := hx
      have HY : Hid (y = q[k]) := hy
      clear hx hy
      by_cases hxy : x = y
      · subst hxy
        go_wp2_with fail
        go_quiet (fail)
        go_wp2
        go_roundw
        case rel => exact ⟨k + 1, by omega, by go_num, by show _ = _; rw [List.take_succ_eq_append_getElem hlt, List.take_succ_eq_append_getElem hlq, hd.out, ← HX.out, ← HY.out], Fr.drewN hst _⟩
        case measure => simp [intOf]; omega
      · have hne : (x.toList == y.toList) = false := by
          rw [beq_eq_false_iff_ne]; intro e; apply hxy
          rw [Lib.toList_data, Lib.toList_data] at e
          cases x; cases y; congr 1; exact Array.toList_inj.1 e
        have HF : Hid (decide (p = q) = false) := by
          show _ = _
          rw [decide_eq_false_iff_not]; intro e; apply hxy; rw [HX.out, HY.out]; simp [e]
        go_wp2_with fail
        go_quiet (fail)
        go_wp2
        go_ret
        refine ⟨?_, Fr.drewN hst _⟩
        rw [HF.out]; rfl
    · go_wp2
      go_ret
      have e : p = q := by
        have := hd.out
        rwa [List.take_of_length_le (by omega), List.take_of_length_le (by have := HL.out; omega)] at this
      exact ⟨by simp [e], hst⟩
theorem same_calls {w : World} {v1 v2 : Value} {p q : List ByteArray} (h1 : StrSl w v1 p) (h2 : StrSl w v2 q) :
    Calls Try.prog 83 #[v1, v2] w fun e w' => e = .returned (.bool (decide (p = q))) ∧ Same w w' := by
  obtain ⟨a1, c1, rfl, l1, h1⟩ := h1
  obtain ⟨a2, c2, rfl, l2, h2⟩ := h2
  by_cases hl : p.length = q.length
  · rcases h1 with rfl | ⟨b1, o1, rfl, _, h1⟩
    · have : q = [] := List.eq_nil_of_length_eq_zero hl.symm
      subst this
      exact same_zero _ _ _ _
    · rcases h2 with rfl | ⟨b2, o2, rfl, _, h2⟩
      · have : p = [] := List.eq_nil_of_length_eq_zero hl
        subst this
        exact same_zero _ _ _ _
      · have := same_some p q hl l1 b1 o1 c1 b2 o2 c2 h1 h2
        rw [hl] at this ⊢
        exact this
  · have e : decide (p = q) = false := by rw [decide_eq_false_iff_not]; intro e; apply hl; rw [e]
    rw [e]
    exact same_len _ _ _ _ _ _ hl
end Go.Proofs.Ytcbbjicoedeioaa
