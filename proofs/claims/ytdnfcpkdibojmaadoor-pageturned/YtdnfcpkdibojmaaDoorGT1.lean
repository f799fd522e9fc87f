/- Plain: what PageTurned turns; the walk's words. -/
import Derived.Test.YtdnfcpkdibojmaaDoorGT0
import Derived.Test.YtdnfcpkdibojmaaDoorG8
import Derived.Deep.MidRow
namespace Go.Proofs.YtdnfcpkdibojmaaDoor
open Go.RowKit

theorem str_row {P : Program} (w : World) (src dst e : TypeId) (s : ByteArray) (hs : P.underlying src = some .string) (hd : P.underlying dst = some (.slice e)) (he : P.underlying e = some (.int .u8)) :
    ∃ cs cap fr, (convert src dst (.string s)).run P w = .ok (.slice (some ⟨w.heap.size, 0, none⟩) s.size cap) (w.drew.alloc (.cells cs e fr)) ∧ fr = (cs.size, cs.size + 1) ∧ s.size ≤ cs.size ∧ ∀ k (h : k < s.size), cs[k]? = some (.int .u8 s[k].toNat) := by
  refine ⟨_, _, _, run_bytes_of_string w src dst e s hs hd he, rfl, ?_, ?_⟩
  · unfold bytesRow; simp
  · intro k h
    have h' : k < s.data.size := h
    unfold bytesRow
    rw [Array.getElem?_append_left (by simpa using h'), Array.getElem?_map, Array.getElem?_eq_getElem h']
    rfl
theorem of8 (x : UInt8) : BitVec.ofInt 8 (x.toNat : Int) = x.toBitVec := by
  rw [BitVec.ofInt_natCast]
  apply BitVec.eq_of_toNat_eq
  rw [BitVec.toNat_ofNat]
  exact Nat.mod_eq_of_lt x.toNat_lt
theorem wr8 (x : UInt8) : IntKind.u8.wrap (x.toBitVec.toNat : Int) = (x.toNat : Int) := by
  have := x.toNat_lt
  rw [IntKind.wrap_u8]
  show ((x.toNat : Int)) % 256 = _
  omega
theorem x8 (a b : UInt8) : bits .xor .u8 (a.toNat : Int) (b.toNat : Int) = ((a ^^^ b).toNat : Int) := by
  show IntKind.u8.wrap ((BitVec.ofInt 8 (a.toNat : Int) ^^^ BitVec.ofInt 8 (b.toNat : Int)).toNat : Int) = _
  rw [of8, of8]
  exact wr8 (a ^^^ b)
def RowB (W : World) (G : Nat) (L : List UInt8) : Prop :=
  ∃ cs : Array Value, W.heap[G]? = some (.cells cs 5 (cs.size, cs.size + 1)) ∧ L.length ≤ cs.size ∧ ∀ (j : Nat) (x : UInt8), L[j]? = some x → cs[j]? = some (Value.int .u8 x.toNat)
def mByte (mask : UInt32) (k : Nat) : UInt8 := (mask >>> UInt32.ofNat (8 * k)).toUInt8
theorem mByte_val (mask : UInt32) (k : Nat) (hk : k < 4) : (mask.toNat : Int) / 2 ^ (8 * k) % 256 = ((mByte mask k).toNat : Int) := by
  unfold mByte
  rw [UInt32.toNat_toUInt8, Int.natCast_emod, ← r32 mask (8 * k) (by omega)]
  simp

/-- Which part of a form a place lies in. -/
def partN (i : Nat) : Nat := if i < 28 then 0 else if i < 32 then 1 else 2
def effE (mask : UInt32) (i k : Nat) : UInt8 := if partN (i + k) = partN i then mByte mask k else 0
def turnK (l : List UInt8) (mask : UInt32) (i : Nat) : Nat → List UInt8
  | 0 => l
  | k + 1 => tset (turnK l mask i k) (i + k) (effE mask i k)
theorem turnK_length (l : List UInt8) (mask : UInt32) (i k : Nat) : (turnK l mask i k).length = l.length := by
  induction k with
  | zero => rfl
  | succ k ih => rw [turnK, tset_length, ih]
theorem turnK_four (l : List UInt8) (mask : UInt32) (i : Nat) : turnK l mask i 4 = turn4 l i (effE mask i 0) (effE mask i 1) (effE mask i 2) (effE mask i 3) := rfl

theorem whole_list (s : ByteArray) : wholeB s = decide (beN (sumS s.data.toList) = (moreP 0 (offS s.data.toList)).toNat) := by
  unfold wholeB
  have e1 : crcP [s.extract 0 28, s.extract 32 s.size] = moreP 0 (offS s.data.toList) := by
    have a1 : (s.extract 0 28).data.toList = s.data.toList.take 28 := by rw [show (28 : Nat) = 0 + 28 from rfl, extract_list, List.drop_zero]
    simp only [crcP, List.foldl_cons, List.foldl_nil]
    rw [a1, extract_end, offS, more_app]
  rw [e1, beAt_list]
  rfl
theorem beN_inj {a b : List UInt8} (hl : a.length = b.length) (h : beN a = beN b) : a = b := by
  have h1 := fix_beN a
  have h2 := fix_beN b
  rw [h, hl] at h1
  rw [← h1, h2]

theorem step0 (l : List UInt8) (j : Nat) (e : UInt8) (hl : 32 ≤ l.length) (h : j < 28 ∨ e = 0) : offS (tset l j e) = tset (offS l) j e ∧ sumS (tset l j e) = sumS l := by
  rcases h with h | rfl
  · rw [off_tset l j e hl, if_pos h]
    exact ⟨rfl, sum_tset l j e (Or.inl h)⟩
  · rw [tset_zero, tset_zero]; exact ⟨rfl, rfl⟩
theorem step2 (l : List UInt8) (j : Nat) (e : UInt8) (hl : 32 ≤ l.length) (h : 32 ≤ j) : offS (tset l j e) = tset (offS l) (j - 4) e ∧ sumS (tset l j e) = sumS l := by
  rw [off_tset l j e hl, if_neg (by omega), if_neg (by omega)]
  exact ⟨rfl, sum_tset l j e (Or.inr h)⟩
theorem step1 (l : List UInt8) (j : Nat) (e : UInt8) (h : (28 ≤ j ∧ j < 32) ∨ e = 0) : (tset l j e).take 28 = l.take 28 ∧ (tset l j e).drop 32 = l.drop 32 := by
  rcases h with h | rfl
  · rw [take_tset, if_neg (by omega), tset_zero, drop_tset, if_pos (by omega)]; exact ⟨rfl, rfl⟩
  · rw [tset_zero]; exact ⟨rfl, rfl⟩
theorem off_length (l : List UInt8) (hl : 32 ≤ l.length) : (offS l).length = l.length - 4 := by
  rw [offS, List.length_append, List.length_take, List.length_drop]; omega

/-- A form that was turned has another sum, or is the form. -/
theorem turned_whole (s t : ByteArray) (mask : UInt32) (i : Nat) (hs : 36 ≤ s.size) (hi : i + 4 ≤ s.size) (hw : wholeB s = true) (ht : t.data.toList = turnK s.data.toList mask i 4) (hne : ¬ t = s) : wholeB t = false := by
  have hl : 32 ≤ s.data.toList.length := by rw [bytes_length]; omega
  have hl36 : 36 ≤ s.data.toList.length := by rw [bytes_length]; exact hs
  have hl4 : i + 4 ≤ s.data.toList.length := by rw [bytes_length]; exact hi
  have htn : ¬ t.data.toList = s.data.toList := fun e => hne (bytes_ext e)
  rw [whole_list, decide_eq_true_eq] at hw
  rw [whole_list, decide_eq_false_iff_not]
  rw [ht] at htn ⊢
  rw [turnK_four] at htn ⊢
  generalize s.data.toList = l at *
  have he : ∀ k, partN (i + k) ≠ partN i → effE mask i k = 0 := fun k h => by unfold effE; rw [if_neg h]
  have h0 := he 0; have h1 := he 1; have h2 := he 2; have h3 := he 3
  generalize effE mask i 0 = e0 at *
  generalize effE mask i 1 = e1 at *
  generalize effE mask i 2 = e2 at *
  generalize effE mask i 3 = e3 at *
  have hm : ¬ mask4 e0 e1 e2 e3 = 0 := by
    intro h
    obtain ⟨rfl, rfl, rfl, rfl⟩ := mask4_zero h
    apply htn
    unfold turn4
    rw [tset_zero, tset_zero, tset_zero, tset_zero]
  have z : ∀ (j : Nat) (e : UInt8) (l : List UInt8), 32 ≤ l.length → 32 ≤ (tset l j e).length := fun j e l h => by rw [tset_length]; exact h
  by_cases hp0 : i < 28
  · have q0 : partN i = 0 := by unfold partN; rw [if_pos hp0]
    have qk : ∀ (k : Nat) (e : UInt8), (partN (i + k) ≠ partN i → e = 0) → (i + k < 28 ∨ e = 0) := fun k e h => by
      by_cases hk : i + k < 28
      · exact Or.inl hk
      · refine Or.inr (h ?_)
        rw [q0]; unfold partN; rw [if_neg hk]; split <;> decide
    obtain ⟨a0, b0⟩ := step0 l i e0 hl (qk 0 e0 h0)
    obtain ⟨a1, b1⟩ := step0 (tset l i e0) (i + 1) e1 (z _ _ _ hl) (qk 1 e1 h1)
    obtain ⟨a2, b2⟩ := step0 (tset (tset l i e0) (i + 1) e1) (i + 2) e2 (z _ _ _ (z _ _ _ hl)) (qk 2 e2 h2)
    obtain ⟨a3, b3⟩ := step0 (tset (tset (tset l i e0) (i + 1) e1) (i + 2) e2) (i + 3) e3 (z _ _ _ (z _ _ _ (z _ _ _ hl))) (qk 3 e3 h3)
    have eo : offS (turn4 l i e0 e1 e2 e3) = turn4 (offS l) i e0 e1 e2 e3 := by unfold turn4; rw [a3, a2, a1, a0]
    have es : sumS (turn4 l i e0 e1 e2 e3) = sumS l := by unfold turn4; rw [b3, b2, b1, b0]
    rw [eo, es, hw]
    intro h
    exact turn4_ne (offS l) i e0 e1 e2 e3 (by rw [off_length l hl]; omega) hm (UInt32.toNat_inj.1 h.symm)
  · by_cases hp1 : i < 32
    · have q0 : partN i = 1 := by unfold partN; rw [if_neg hp0, if_pos hp1]
      have qk : ∀ (k : Nat) (e : UInt8), (partN (i + k) ≠ partN i → e = 0) → ((28 ≤ i + k ∧ i + k < 32) ∨ e = 0) := fun k e h => by
        by_cases hk : i + k < 32
        · exact Or.inl ⟨by omega, hk⟩
        · refine Or.inr (h ?_)
          rw [q0]; unfold partN; rw [if_neg (by omega), if_neg hk]; decide
      obtain ⟨a0, b0⟩ := step1 l i e0 (qk 0 e0 h0)
      obtain ⟨a1, b1⟩ := step1 (tset l i e0) (i + 1) e1 (qk 1 e1 h1)
      obtain ⟨a2, b2⟩ := step1 (tset (tset l i e0) (i + 1) e1) (i + 2) e2 (qk 2 e2 h2)
      obtain ⟨a3, b3⟩ := step1 (tset (tset (tset l i e0) (i + 1) e1) (i + 2) e2) (i + 3) e3 (qk 3 e3 h3)
      have et : (turn4 l i e0 e1 e2 e3).take 28 = l.take 28 := by unfold turn4; rw [a3, a2, a1, a0]
      have ed : (turn4 l i e0 e1 e2 e3).drop 32 = l.drop 32 := by unfold turn4; rw [b3, b2, b1, b0]
      have eo : offS (turn4 l i e0 e1 e2 e3) = offS l := by unfold offS; rw [et, ed]
      rw [eo, ← hw]
      intro h
      apply htn
      have hlt : (turn4 l i e0 e1 e2 e3).length = l.length := by unfold turn4; simp only [tset_length]
      have hls : (sumS (turn4 l i e0 e1 e2 e3)).length = (sumS l).length := by unfold sumS; simp only [List.length_take, List.length_drop, hlt]
      rw [form_off (turn4 l i e0 e1 e2 e3), et, ed, beN_inj hls h, ← form_off]
    · have q0 : partN i = 2 := by unfold partN; rw [if_neg hp0, if_neg hp1]
      obtain ⟨a0, b0⟩ := step2 l i e0 hl (by omega)
      obtain ⟨a1, b1⟩ := step2 (tset l i e0) (i + 1) e1 (z _ _ _ hl) (by omega)
      obtain ⟨a2, b2⟩ := step2 (tset (tset l i e0) (i + 1) e1) (i + 2) e2 (z _ _ _ (z _ _ _ hl)) (by omega)
      obtain ⟨a3, b3⟩ := step2 (tset (tset (tset l i e0) (i + 1) e1) (i + 2) e2) (i + 3) e3 (z _ _ _ (z _ _ _ (z _ _ _ hl))) (by omega)
      have eo : offS (turn4 l i e0 e1 e2 e3) = turn4 (offS l) (i - 4) e0 e1 e2 e3 := by
        unfold turn4
        rw [a3, a2, a1, a0, show i + 1 - 4 = i - 4 + 1 from by omega, show i + 2 - 4 = i - 4 + 2 from by omega, show i + 3 - 4 = i - 4 + 3 from by omega]
      have es : sumS (turn4 l i e0 e1 e2 e3) = sumS l := by unfold turn4; rw [b3, b2, b1, b0]
      rw [eo, es, hw]
      intro h
      exact turn4_ne (offS l) (i - 4) e0 e1 e2 e3 (by rw [off_length l hl]; omega) hm (UInt32.toNat_inj.1 h.symm)

set_option maxRecDepth 100000 in
theorem part_calls (i : Nat) (w : World) : Calls Tryd.prog 18 #[.int .i64 i] w fun e w' => e = .returned (.int .i64 (partN i)) ∧ w = w' := by
  by_cases h1 : i < 28
  · have g1 : (i : Int) < 28 := by omega
    have e : partN i = 0 := by unfold partN; rw [if_pos h1]
    rw [e]
    go_enter Tryd.func18, Tryd.ntmps18
    go_wp2_with fail
    go_ret
    exact ⟨rfl, rfl⟩
  · by_cases h2 : i < 32
    · have g1 : ¬ (i : Int) < 28 := by omega
      have g2 : (i : Int) < 32 := by omega
      have e : partN i = 1 := by unfold partN; rw [if_neg h1, if_pos h2]
      rw [e]
      go_enter Tryd.func18, Tryd.ntmps18
      go_wp2_with fail
      go_ret
      exact ⟨rfl, rfl⟩
    · have g1 : ¬ (i : Int) < 28 := by omega
      have g2 : ¬ (i : Int) < 32 := by omega
      have e : partN i = 2 := by unfold partN; rw [if_neg h1, if_neg h2]
      rw [e]
      go_enter Tryd.func18, Tryd.ntmps18
      go_wp2_with fail
      go_ret
      exact ⟨rfl, rfl⟩
end Go.Proofs.YtdnfcpkdibojmaaDoor
