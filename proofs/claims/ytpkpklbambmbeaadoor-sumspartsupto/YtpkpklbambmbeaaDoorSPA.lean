/-
  Walks: Parts of a text that Text made.
-/
import Derived.Test.YtpkpklbambmbeaaDoorSZ
namespace Go.Proofs.YtpkpklbambmbeaaDoor
open Go.RowKit

def restS (ss : List ByteArray) (k : Nat) : ByteArray := ⟨((ss.drop k).flatMap partB).toArray⟩
theorem restS_succ (ss : List ByteArray) (k : Nat) (s : ByteArray) (h : ss[k]? = some s) : (restS ss k).data.toList = by4 (UInt32.ofNat s.size) ++ (s.data.toList ++ (restS ss (k + 1)).data.toList) := by
  have hk := (List.getElem?_eq_some_iff.1 h)
  obtain ⟨hk1, hk2⟩ := hk
  unfold restS
  simp only
  rw [List.drop_eq_getElem_cons hk1, hk2, List.flatMap_cons, partB, List.append_assoc]
theorem restS_le (ss : List ByteArray) (k : Nat) : (restS ss k).size ≤ (ss.flatMap partB).length := by
  have e : ss.flatMap partB = (ss.take k).flatMap partB ++ (ss.drop k).flatMap partB := by rw [← List.flatMap_append, List.take_append_drop]
  rw [e, List.length_append]
  have : (restS ss k).size = ((ss.drop k).flatMap partB).length := by rw [← bytes_length]; rfl
  omega

set_option maxRecDepth 100000 in
set_option maxHeartbeats 1000000 in
theorem parts_calls (w : World) (tag : ByteArray) (ht : 1 ≤ tag.size ∧ tag.size ≤ 64) (ss : List ByteArray) (hz : ∀ s ∈ ss, s.size < 4294967296) (hl : (textP tag ss).length ≤ 70368744177664) (hsl : ss.length ≤ 4194304) :
    Calls Tryd.prog 7 #[.string ⟨(textP tag ss).toArray⟩] w fun e w' => ∃ pa pb pc, e = .returned (.tuple #[.string tag, .slice pa ss.length pc, .int .i64 0]) ∧ SAt w' pa pb 0 ss ∧ Same w w' := by
  obtain ⟨i0, hi, hi0, hi1, hi2⟩ := info_parts Tryd.infoStr
  have hl2 : (ss.flatMap partB).length ≤ 70368744177664 := by
    have : (textP tag ss).length = 1 + tag.size + (ss.flatMap partB).length := by simp [textP]; omega
    omega
  have HFT : Hid (∀ W, Calls Tryd.prog 15 #[.string ⟨(textP tag ss).toArray⟩] W fun e w' => e = .returned (.tuple #[.string tag, .string (restS ss 0), .bool true]) ∧ Same W w') :=
    fun W => ftag_calls W _ tag (restS ss 0) ht (by simp [textP, restS])
  have HFP : Hid (∀ W k s, ss[k]? = some s → Calls Tryd.prog 16 #[.string (restS ss k)] W fun e w' => e = .returned (.tuple #[.string s, .string (restS ss (k + 1)), .bool true]) ∧ w' = W.drew) :=
    fun W k s hs => fpart_calls W _ s (restS ss (k + 1)) (hz s (List.mem_of_getElem? hs)) (Nat.le_trans (restS_le ss k) hl2) (restS_succ ss k s hs)
  have HE1 : Hid (∀ k, k < ss.length → (restS ss k).toList.isEmpty = false) := by
    intro k hk
    rw [ByteArray.toList_eq, restS_succ ss k _ (List.getElem?_eq_getElem hk)]
    rfl
  have HE2 : Hid ((restS ss ss.length).toList.isEmpty = true) := by
    show _ = _
    rw [ByteArray.toList_eq]
    simp [restS]
  clear hz hl hl2
  generalize (textP tag ss).toArray = TA at *
  go_enter Tryd.func7, Tryd.ntmps7
  go_wp2_with fail
  refine (HFT.out _).mono ?_
  rintro e W1 ⟨rfl, s1⟩
  go_wp2_with fail
  go_loopg [3, 5, 6] ss.length (fun g pv rv ov wr => ∃ (k : Nat) (ao : Option Addr) (c : Nat), pv = .slice ao k c ∧ rv = .string (restS ss k) ∧ ov = .bool true ∧ k ≤ ss.length ∧ g = ss.length - k ∧ (k ≠ 0 → ∃ g', ao = some ⟨g', 0, none⟩) ∧ Hid (wr.ownsRow w.heap.size 9 1 (.slice ao k c) k (scells (ss.take k))) ∧ Same w wr)
  case atStart => exact ⟨0, none, 0, rfl, rfl, rfl, by omega, rfl, fun e => absurd rfl e, World.ownsRow_nil _ _ _ _, s1⟩
  case round =>
    obtain ⟨k, ao, c, rfl, rfl, rfl, hk, rfl, hao, hown, sr⟩ := hrel
    by_cases hgo : k < ss.length
    · obtain ⟨s, hs⟩ : ∃ s, ss[k]? = some s := ⟨_, List.getElem?_eq_getElem hgo⟩
      have he := HE1.out k hgo
      have HF : Hid (∀ W, Calls Tryd.prog 16 #[.string (restS ss k)] W fun e w' => e = .returned (.tuple #[.string s, .string (restS ss (k + 1)), .bool true]) ∧ w' = W.drew) := fun W => HFP.out W k s hs
      obtain ⟨r2, hr2⟩ : ∃ r2, r2 = restS ss (k + 1) := ⟨_, rfl⟩
      rw [← hr2] at HF
      have HR2 : Hid (r2 = restS ss (k + 1)) := hr2
      have HTK : Hid (ss.take (k + 1) = ss.take k ++ [s]) := by
        show _ = _
        rw [List.take_add_one, hs]; rfl
      generalize restS ss k = r at he HF ⊢
      have hone : ∀ u ∈ [Value.string s], u.oneCell' = true := by intro u hu; simp at hu; subst hu; rfl
      have hsz := sr.size
      have hown' : wr.drew.ownsRow w.heap.size 9 1 (.slice ao k c) k (scells (ss.take k)) := hown.out
      clear hr2 hs
      go_wp2_with fail
      refine (HF.out _).mono ?_
      rintro e W3 ⟨rfl, hW3⟩
      rw [hW3]
      clear hW3
      go_wp2_with (at_builtin; go_must (refine wpList_append_lies _ (by rfl) _ _ _ (by rfl) w.heap.size 9 i0 (.string ⟨#[]⟩) 1 16 Tryd.underlying23 hi hi0 hi1 hi2 rfl (by decide) _ _ _ (by rfl) (hown'.alloc _) ⟨wr.heap.size, 0, none⟩ 1 1 [Value.string s] (by rfl) (by rfl) (World.news_of_block (cs := #[Value.string s]) (heap_alloc_new wr.drew _)) hone (by decide) (by unfold maxLen; omega) (by omega) (by simp; omega) (wr.heap.size + 1) (by simp) ?_; intro g5 cap5 W5 hown5 hgrow5 hat5 _))
      have O5 : W5.ownsRow w.heap.size 9 1 (.slice (some ⟨g5, 0, none⟩) (k + 1) cap5) (k + 1) (scells (ss.take (k + 1))) := by
        rw [HTK.out, scells_append]
        exact hown5
      have s5 : Same w W5 := by
        refine Fr.grown (Fr.alloc (Fr.drew sr) _) hgrow5 ?_
        intro k hk hlt
        have := (hown.out.lt k hk).1
        omega
      go_roundg (ss.length - (k + 1))
      case measure => omega
      case rel => exact ⟨k + 1, some ⟨g5, 0, none⟩, cap5, rfl, by rw [HR2.out], rfl, by omega, rfl, fun _ => ⟨g5, rfl⟩, O5, s5⟩
    · obtain rfl : k = ss.length := by omega
      have he := HE2.out
      have HEND : Hid (∃ pb, SAt wr ao pb 0 ss) := by
        by_cases h0 : ss = []
        · subst h0
          exact ⟨0, ⟨fun e => absurd rfl e, fun j s hj => by simp at hj⟩⟩
        · obtain ⟨g', rfl⟩ := hao (by intro e; exact h0 (List.eq_nil_of_length_eq_zero e))
          have h5 := hown.out
          rw [List.take_length] at h5
          refine ⟨g', ⟨fun _ => ⟨rfl, (h5.lt g' rfl).2⟩, fun j s hj => ?_⟩⟩
          have := h5.cells (g := g') rfl j (.string s) (by simp only [scells, List.getElem?_map, hj]; rfl)
          rw [Addr.add_mid] at this
          exact this
      generalize restS ss ss.length = r at he ⊢
      clear hown hao
      go_wp2_with fail
      go_ret3
      obtain ⟨pb, hS⟩ := HEND.out
      exact ⟨ao, pb, c, rfl, hS, sr⟩
end Go.Proofs.YtpkpklbambmbeaaDoor
