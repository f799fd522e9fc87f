/-
  Walks: the document's Parts of a text without a tag; Parts, its list owned.
-/
import Derived.Test.YtpkpklbambmbeaaDoorSPF
namespace Go.Proofs.YtpkpklbambmbeaaDoor
open Go.RowKit

set_option maxRecDepth 100000 in
set_option maxHeartbeats 1000000 in
theorem rparts_notag (w : World) (T : ByteArray) (hb : badT T.data.toList) (hl : T.size ≤ 70368744177664) :
    Calls Tryd.prog 8 #[.string T] w fun e w' => e = .returned (.tuple #[.string ⟨#[]⟩, .slice none 0 0, .int .i64 21]) ∧ Same w w' := by
  by_cases hq0 : T.data.toList = []
  · have hl1 : (T.size : Int) < 1 := by
      have := bytes_length T
      rw [hq0] at this
      simp at this
      omega
    clear hb hq0
    go_enter Tryd.func8, Tryd.ntmps8
    go_wp2_with fail
    go_ret3
    exact ⟨rfl, Fr.refl _ _⟩
  · have h0 : 0 < T.size := by
      rw [← bytes_length]
      cases h : T.data.toList with
      | nil => exact absurd h hq0
      | cons a l => simp
    obtain ⟨tb, htb0⟩ : ∃ b : UInt8, b = T[0]'h0 := ⟨_, rfl⟩
    have g0 : ∀ h, T[0]'h = tb := fun _ => htb0.symm
    have hg : T.data.toList.getD 0 0 = tb := by
      rw [htb0]
      obtain ⟨⟨l⟩⟩ := T
      cases l with
      | nil => exact absurd rfl hq0
      | cons a l => rfl
    have t256 := u8_lt tb
    obtain ⟨n, hn⟩ : ∃ n, tb.toNat = n := ⟨_, rfl⟩
    have hb2 : ¬ (1 ≤ n ∧ n ≤ 64) ∨ T.size ≤ n := by
      rcases hb with hb | hb | hb
      · exact absurd hb hq0
      · rw [hg, hn] at hb; exact Or.inl hb
      · rw [hg, hn, bytes_length] at hb; exact Or.inr hb
    have hl1 : ¬ (T.size : Int) < 1 := by omega
    have hw : IntKind.i64.wrap (n : Int) = (n : Int) := by rw [IntKind.wrap_i64]; omega
    have n256 : n < 256 := by omega
    by_cases h1 : n < 1
    · have k1 : (n : Int) < 1 := by omega
      clear hb hb2 hg hq0 htb0 t256
      go_enter Tryd.func8, Tryd.ntmps8
      go_wp2_with fail
      go_ret3
      exact ⟨rfl, Fr.refl _ _⟩
    · by_cases h2 : 64 < n
      · have k1 : ¬ (n : Int) < 1 := by omega
        have k2 : (64 : Int) < (n : Int) := by omega
        clear hb hb2 hg hq0 htb0 t256
        go_enter Tryd.func8, Tryd.ntmps8
        go_wp2_with fail
        go_ret3
        exact ⟨rfl, Fr.refl _ _⟩
      · have k1 : ¬ (n : Int) < 1 := by omega
        have k2 : ¬ (64 : Int) < (n : Int) := by omega
        have k3 : (T.size : Int) < 1 + (n : Int) := by omega
        clear hb hb2 hg hq0 htb0 t256
        go_enter Tryd.func8, Tryd.ntmps8
        go_wp2_with fail
        go_ret3
        exact ⟨rfl, Fr.refl _ _⟩
set_option maxRecDepth 100000 in
set_option maxHeartbeats 1000000 in
theorem parts_own (w : World) (tag : ByteArray) (ht : 1 ≤ tag.size ∧ tag.size ≤ 64) (ss : List ByteArray) (hz : ∀ s ∈ ss, s.size < 4294967296) (hl : (textP tag ss).length ≤ 70368744177664) (hsl : ss.length ≤ 4194304) :
    Calls Tryd.prog 7 #[.string ⟨(textP tag ss).toArray⟩] w fun e w' => ∃ pa pc, e = .returned (.tuple #[.string tag, .slice pa ss.length pc, .int .i64 0]) ∧ w'.ownsRow w.heap.size 9 1 (.slice pa ss.length pc) ss.length (scells ss) ∧ Same w w' := by
  obtain ⟨i0, hi, hi0, hi1, hi2⟩ := info_parts Tryd.infoStr
  have hl2 : (ss.flatMap partB).length ≤ 70368744177664 := by
    have : (textP tag ss).length = 1 + tag.size + (ss.flatMap partB).length := by simp [textP]; omega
    omega
  have HFT : Hid (∀ W, Calls Tryd.prog 15 #[.string ⟨(textP tag ss).toArray⟩] W fun e w' => e = .returned (.tuple #[.string tag, .string (restS ss 0), .bool true]) ∧ Same W w') :=
    fun W => ftag_calls W _ tag (restS ss 0) ht (by simp [textP, restS])
  have HFP : Hid (∀ W k s, ss[k]? = some s → Calls Tryd.prog 16 #[.string (restS ss k)] W fun e w' => e = .returned (.tuple #[.string s, .string (restS ss (k + 1)), .bool true]) ∧ w' = W.drew) :=
    fun W k s hs => fpart_calls W _ s (restS ss (k + 1)) (hz s (List.mem_of_getElem? hs)) (Nat.le_trans (restS_le ss k) hl2) (restS_succ ss k s hs)
  have HE1 : Hid (∀ k, k < ss.length → (restS ss k).toList.isEmpty = false) := by
    intro k hk
    rw [ByteArray.toList_eq, restS_succ ss k _ (List.getElem?_eq_getElem hk)]
    rfl
  have HE2 : Hid ((restS ss ss.length).toList.isEmpty = true) := by
    show _ = _
    rw [ByteArray.toList_eq]
    simp [restS]
  clear hz hl hl2
  generalize (textP tag ss).toArray = TA at *
  go_enter Tryd.func7, Tryd.ntmps7
  go_wp2_with fail
  refine (HFT.out _).mono ?_
  rintro e W1 ⟨rfl, s1⟩
  go_wp2_with fail
  go_loopg [3, 5, 6] ss.length (fun g pv rv ov wr => ∃ (k : Nat) (ao : Option Addr) (c : Nat), pv = .slice ao k c ∧ rv = .string (restS ss k) ∧ ov = .bool true ∧ k ≤ ss.length ∧ g = ss.length - k ∧ (k ≠ 0 → ∃ g', ao = some ⟨g', 0, none⟩) ∧ Hid (wr.ownsRow w.heap.size 9 1 (.slice ao k c) k (scells (ss.take k))) ∧ Same w wr)
  case atStart => exact ⟨0, none, 0, rfl, rfl, rfl, by omega, rfl, fun e => absurd rfl e, World.ownsRow_nil _ _ _ _, s1⟩
  case round =>
    obtain ⟨k, ao, c, rfl, rfl, rfl, hk, rfl, hao, hown, sr⟩ := hrel
    by_cases hgo : k < ss.length
    · obtain ⟨s, hs⟩ : ∃ s, ss[k]? = some s := ⟨_, List.getElem?_eq_getElem hgo⟩
      have he := HE1.out k hgo
      have HF : Hid (∀ W, Calls Tryd.prog 16 #[.string (restS ss k)] W fun e w' => e = .returned (.tuple #[.string s, .string (restS ss (k + 1)), .bool true]) ∧ w' = W.drew) := fun W => HFP.out W k s hs
      obtain ⟨r2, hr2⟩ : ∃ r2, r2 = restS ss (k + 1) := ⟨_, rfl⟩
      rw [← hr2] at HF
      have HR2 : Hid (r2 = restS ss (k + 1)) := hr2
      have HTK : Hid (ss.take (k + 1) = ss.take k ++ [s]) := by
        show _ = _
        rw [List.take_add_one, hs]; rfl
      generalize restS ss k = r at he HF ⊢
      have hone : ∀ u ∈ [Value.string s], u.oneCell' = true := by intro u hu; simp at hu; subst hu; rfl
      have hsz := sr.size
      have hown' : wr.drew.ownsRow w.heap.size 9 1 (.slice ao k c) k (scells (ss.take k)) := hown.out
      clear hr2 hs
      go_wp2_with fail
      refine (HF.out _).mono ?_
      rintro e W3 ⟨rfl, hW3⟩
      rw [hW3]
      clear hW3
      go_wp2_with (at_builtin; go_must (refine wpList_append_lies _ (by rfl) _ _ _ (by rfl) w.heap.size 9 i0 (.string ⟨#[]⟩) 1 16 Tryd.underlying23 hi hi0 hi1 hi2 rfl (by decide) _ _ _ (by rfl) (hown'.alloc _) ⟨wr.heap.size, 0, none⟩ 1 1 [Value.string s] (by rfl) (by rfl) (World.news_of_block (cs := #[Value.string s]) (heap_alloc_new wr.drew _)) hone (by decide) (by unfold maxLen; omega) (by omega) (by simp; omega) (wr.heap.size + 1) (by simp) ?_; intro g5 cap5 W5 hown5 hgrow5 hat5 _))
      have O5 : W5.ownsRow w.heap.size 9 1 (.slice (some ⟨g5, 0, none⟩) (k + 1) cap5) (k + 1) (scells (ss.take (k + 1))) := by
        rw [HTK.out, scells_append]
        exact hown5
      have s5 : Same w W5 := by
        refine Fr.grown (Fr.alloc (Fr.drew sr) _) hgrow5 ?_
        intro k hk hlt
        have := (hown.out.lt k hk).1
        omega
      go_roundg (ss.length - (k + 1))
      case measure => omega
      case rel => exact ⟨k + 1, some ⟨g5, 0, none⟩, cap5, rfl, by rw [HR2.out], rfl, by omega, rfl, fun _ => ⟨g5, rfl⟩, O5, s5⟩
    · obtain rfl : k = ss.length := by omega
      have he := HE2.out
      have HEND : Hid (wr.ownsRow w.heap.size 9 1 (.slice ao ss.length c) ss.length (scells ss)) := by
        have h5 := hown.out
        rw [List.take_length] at h5
        exact h5
      generalize restS ss ss.length = r at he ⊢
      clear hown hao
      go_wp2_with fail
      go_ret3
      exact ⟨ao, c, rfl, HEND.out, sr⟩
end Go.Proofs.YtpkpklbambmbeaaDoor
