/-
  Walks: Split; what every program does ('lives').
-/
import Derived.Test.YtbdlebjhmhmnnaaDoorWD
namespace Go.Proofs.YtbdlebjhmhmnnaaDoor
open Go.RowKit

theorem rd_open (w : World) (s : ByteArray) (hs : s.size ≤ 281474976710656) : RdAt (w.alloc (.cells #[.bool true, .string s, .int .i64 0, .int .i64 0] 63)) w.heap.size s 0 0 :=
  ⟨heap_alloc_new w _, Nat.zero_le _, hs⟩

/-- What Split reads: the texts, and where it came to. -/
def splitR (s : ByteArray) : List ByteArray × Nat × Nat := rListT s 0 0 9223372036854775807 9223372036854775807

set_option maxRecDepth 100000 in
set_option maxHeartbeats 1000000 in
theorem split_ok (w : World) (s : ByteArray) (hs : s.size ≤ 1000000000000) (h1 : (splitR s).2.2 = 0) (h2 : (splitR s).2.1 = s.size) :
    Calls Tryd.prog 22 #[.string s] w fun e w' => ∃ ao cap, e = .returned (.tuple #[.slice ao (splitR s).1.length cap, .nilIface]) ∧ w'.ownsRow 0 9 1 (.slice ao (splitR s).1.length cap) (splitR s).1.length (strs (splitR s).1) ∧ (∀ k, ao.map (·.block) = some k → w.heap.size ≤ k) ∧ Same w w' := by
  have HL0 := list_split (rd_open w s (by omega)) hs 9223372036854775807 (by decide)
  obtain ⟨l, p, c, hr⟩ : ∃ l p c, splitR s = (l, p, c) := ⟨_, _, _, rfl⟩
  rw [hr] at h1 h2 ⊢
  unfold splitR at hr
  rw [hr] at HL0
  simp only at h1 h2
  subst h1
  have HP : Hid (p = s.size) := h2
  have HL : Hid (Calls Tryd.prog 40 #[.pointer (some ⟨w.heap.size, 0, none⟩), .int .i64 9223372036854775807, .func (.func 41) #[] #[]] (w.alloc (.cells #[.bool true, .string s, .int .i64 0, .int .i64 0] 63)) fun e w' => ∃ ao cap, e = .returned (.slice ao l.length cap) ∧
      w'.ownsRow 0 9 1 (.slice ao l.length cap) l.length (strs l) ∧ (∀ k, ao.map (·.block) = some k → (w.alloc (.cells #[.bool true, .string s, .int .i64 0, .int .i64 0] 63)).heap.size ≤ k) ∧ RdAt w' w.heap.size s p 0 ∧ RdStep w.heap.size (w.alloc (.cells #[.bool true, .string s, .int .i64 0, .int .i64 0] 63)) w') := HL0
  clear HL0 hr h2
  go_enter Tryd.func22, Tryd.ntmps22
  go_wp2_with fail
  refine (open_calls w s).mono ?_
  rintro e w1 ⟨rfl, rfl⟩
  go_wp2_with fail
  refine HL.out.mono ?_
  rintro e w2 ⟨ao, cap, rfl, hown, hfre, hrd, st2⟩
  go_wp2_with fail
  refine (end_ok hrd HP.out).mono ?_
  rintro e w3 ⟨rfl, st3⟩
  go_wp2_with fail
  go_ret2
  refine ⟨ao, cap, rfl, own_frame hown st3 (fun _ _ f => f), ?_, ?_⟩
  · intro k hk; have := hfre k hk; simp at this; omega
  · refine Fr.trans (S := fun _ => False) (Fr.trans (S := fun _ => False) ((Fr.refl _ w).alloc _) st2 ?_) st3 (fun _ _ f => f)
    intro i hi e; omega

set_option maxRecDepth 100000 in
set_option maxHeartbeats 1000000 in
theorem split_bad (w : World) (s : ByteArray) (hs : s.size ≤ 1000000000000) (hb : 0 < (splitR s).2.2 ∨ (splitR s).2.1 < s.size) :
    Calls Tryd.prog 22 #[.string s] w fun e w' => ∃ q, e = .returned (.tuple #[.slice none 0 0, .iface 22 (.pointer (some ⟨q, 0, none⟩))]) ∧ w.heap.size ≤ q ∧ FltAt w' q (if (splitR s).2.2 = 0 then 13 else (splitR s).2.2) (splitR s).2.1 ∧ Same w w' := by
  have HL0 := list_split (rd_open w s (by omega)) hs 9223372036854775807 (by decide)
  obtain ⟨l, p, c, hr⟩ : ∃ l p c, splitR s = (l, p, c) := ⟨_, _, _, rfl⟩
  rw [hr] at hb ⊢
  unfold splitR at hr
  rw [hr] at HL0
  simp only at hb
  have HL : Hid (Calls Tryd.prog 40 #[.pointer (some ⟨w.heap.size, 0, none⟩), .int .i64 9223372036854775807, .func (.func 41) #[] #[]] (w.alloc (.cells #[.bool true, .string s, .int .i64 0, .int .i64 0] 63)) fun e w' => ∃ ao cap, e = .returned (.slice ao l.length cap) ∧
      w'.ownsRow 0 9 1 (.slice ao l.length cap) l.length (strs l) ∧ (∀ k, ao.map (·.block) = some k → (w.alloc (.cells #[.bool true, .string s, .int .i64 0, .int .i64 0] 63)).heap.size ≤ k) ∧ RdAt w' w.heap.size s p c ∧ RdStep w.heap.size (w.alloc (.cells #[.bool true, .string s, .int .i64 0, .int .i64 0] 63)) w') := HL0
  clear HL0 hr
  obtain ⟨cc, hcc⟩ : ∃ cc, cc = if c = 0 then 13 else c := ⟨_, rfl⟩
  simp only
  rw [← hcc]
  have HE : Hid (∀ W, RdAt W w.heap.size s p c → Calls Tryd.prog 21 #[.pointer (some ⟨w.heap.size, 0, none⟩)] W fun e w' => ∃ q, e = .returned (.iface 22 (.pointer (some ⟨q, 0, none⟩))) ∧ W.heap.size ≤ q ∧ FltAt w' q cc p ∧ Same W w') := by
    intro W hW
    subst hcc
    by_cases hc : c = 0
    · subst hc
      exact end_rest hW (by omega)
    · rw [if_neg hc]; exact end_bad hW (by omega)
  clear hb hcc
  go_enter Tryd.func22, Tryd.ntmps22
  go_wp2_with fail
  refine (open_calls w s).mono ?_
  rintro e w1 ⟨rfl, rfl⟩
  go_wp2_with fail
  refine HL.out.mono ?_
  rintro e w2 ⟨ao, cap, rfl, hown, hfre, hrd, st2⟩
  go_wp2_with fail
  refine (HE.out _ hrd).mono ?_
  rintro e w3 ⟨q, rfl, hq, hflt, st3⟩
  go_wp2_with fail
  go_ret2
  refine ⟨q, rfl, ?_, hflt, ?_⟩
  · have := st2.size; simp at this; omega
  · refine Fr.trans (S := fun _ => False) (Fr.trans (S := fun _ => False) ((Fr.refl _ w).alloc _) st2 ?_) st3 (fun _ _ f => f)
    intro i hi e; omega
end Go.Proofs.YtbdlebjhmhmnnaaDoor
