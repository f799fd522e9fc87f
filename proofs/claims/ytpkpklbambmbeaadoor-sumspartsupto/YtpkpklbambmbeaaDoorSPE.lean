/-
  Walks: Parts of a text whose rest has a fault; of one without a tag.
-/
import Derived.Test.YtpkpklbambmbeaaDoorSPD
namespace Go.Proofs.YtpkpklbambmbeaaDoor
open Go.RowKit

def restG (ss : List ByteArray) (R : List UInt8) (k : Nat) : ByteArray := ⟨((ss.drop k).flatMap partB ++ R).toArray⟩
theorem restG_succ (ss : List ByteArray) (R : List UInt8) (k : Nat) (s : ByteArray) (h : ss[k]? = some s) : (restG ss R k).data.toList = by4 (UInt32.ofNat s.size) ++ (s.data.toList ++ (restG ss R (k + 1)).data.toList) := by
  have hk := (List.getElem?_eq_some_iff.1 h).1
  have hd : ss.drop k = s :: ss.drop (k + 1) := by
    rw [List.drop_eq_getElem_cons hk]
    congr 1
    exact (List.getElem?_eq_some_iff.1 h).2
  simp [restG, hd, partB]
theorem restG_le (ss : List ByteArray) (R : List UInt8) (k : Nat) : (restG ss R k).size ≤ (ss.flatMap partB ++ R).length := by
  show (List.toArray _).size ≤ _
  rw [List.size_toArray, List.length_append, List.length_append]
  have : (ss.flatMap partB).length = ((ss.take k).flatMap partB).length + ((ss.drop k).flatMap partB).length := by
    rw [← List.length_append, ← List.flatMap_append, List.take_append_drop]
  omega
theorem own_same {w w' : World} {B n : Nat} {e : TypeId} {v : Value} {xs : List Value} (h : w.ownsRow B e 1 v n xs) (s : Same w w') : w'.ownsRow B e 1 v n xs := by
  refine ⟨h.1, ?_⟩
  rcases h.2 with hh | ⟨a1, a2, a3, a4, a5, a6, a7⟩
  · exact Or.inl hh
  · exact Or.inr ⟨a1, a2, a3, a4, a5, by rw [s.block a1 (lt_of_heap a6) (fun f => f)]; exact a6, a7⟩

set_option maxRecDepth 100000 in
theorem parts_notag (w : World) (T : ByteArray) (hb : badT T.data.toList) :
    Calls Tryd.prog 7 #[.string T] w fun e w' => e = .returned (.tuple #[.string ⟨#[]⟩, .slice none 0 0, .int .i64 21]) ∧ Same w w' := by
  have HF : Hid (∀ W, Calls Tryd.prog 15 #[.string T] W fun e w' => e = .returned (.tuple #[.string ⟨#[]⟩, .string ⟨#[]⟩, .bool false]) ∧ Same W w') := fun W => ftag_bad W T hb
  clear hb
  go_enter Tryd.func7, Tryd.ntmps7
  go_wp2_with fail
  refine (HF.out _).mono ?_
  rintro e W1 ⟨rfl, s1⟩
  go_wp2_with fail
  go_loopg [3, 5, 6] 0 (fun g pv rv ov wr => g = 0 ∧ pv = .slice none 0 0 ∧ rv = .string ⟨#[]⟩ ∧ ov = .bool false ∧ Same w wr)
  case atStart => exact ⟨rfl, rfl, rfl, rfl, s1⟩
  case round =>
    obtain ⟨rfl, rfl, rfl, rfl, sr⟩ := hrel
    go_wp2_with fail
    go_ret3
    exact ⟨rfl, sr⟩

set_option maxRecDepth 100000 in
set_option maxHeartbeats 1000000 in
theorem parts_bad (w : World) (T tag : ByteArray) (ht : 1 ≤ tag.size ∧ tag.size ≤ 64) (ss : List ByteArray) (R : List UInt8) (hT : T.data.toList = UInt8.ofNat tag.size :: tag.data.toList ++ (ss.flatMap partB ++ R)) (hz : ∀ s ∈ ss, s.size < 4294967296) (hR : badR R) (hl : T.size ≤ 70368744177664) (hsl : ss.length ≤ 4194304) :
    Calls Tryd.prog 7 #[.string T] w fun e w' => e = .returned (.tuple #[.string ⟨#[]⟩, .slice none 0 0, .int .i64 21]) ∧ Same w w' := by
  obtain ⟨i0, hi, hi0, hi1, hi2⟩ := info_parts Tryd.infoStr
  have hl2 : (ss.flatMap partB ++ R).length ≤ 70368744177664 := by
    have := congrArg List.length hT
    rw [List.length_append, bytes_length] at this
    omega
  have HFT : Hid (∀ W, Calls Tryd.prog 15 #[.string T] W fun e w' => e = .returned (.tuple #[.string tag, .string (restG ss R 0), .bool true]) ∧ Same W w') :=
    fun W => ftag_calls W _ tag (restG ss R 0) ht (by rw [hT]; simp [restG])
  have HFP : Hid (∀ W k s, ss[k]? = some s → Calls Tryd.prog 16 #[.string (restG ss R k)] W fun e w' => e = .returned (.tuple #[.string s, .string (restG ss R (k + 1)), .bool true]) ∧ w' = W.drew) :=
    fun W k s hs => fpart_calls W _ s (restG ss R (k + 1)) (hz s (List.mem_of_getElem? hs)) (Nat.le_trans (restG_le ss R k) hl2) (restG_succ ss R k s hs)
  have eR : (restG ss R ss.length).data.toList = R := by simp [restG]
  have HFB : Hid (∀ W, Calls Tryd.prog 16 #[.string (restG ss R ss.length)] W fun e w' => e = .returned (.tuple #[.string ⟨#[]⟩, .string ⟨#[]⟩, .bool false]) ∧ Same W w') :=
    fun W => fpart_bad W _ (Nat.le_trans (restG_le ss R ss.length) hl2) (by rw [eR]; exact hR)
  have HE1 : Hid (∀ k, (restG ss R k).toList.isEmpty = false) := by
    intro k
    rw [ByteArray.toList_eq]
    cases h : (restG ss R k).data.toList with
    | nil =>
      have : ((ss.drop k).flatMap partB ++ R) = [] := h
      exact absurd (List.append_eq_nil_iff.1 this).2 hR.1
    | cons a l => rfl
  clear hz hl hl2 hT hR eR
  go_enter Tryd.func7, Tryd.ntmps7
  go_wp2_with fail
  refine (HFT.out _).mono ?_
  rintro e W1 ⟨rfl, s1⟩
  go_wp2_with fail
  go_loopg [3, 5, 6] (ss.length + 1) (fun g pv rv ov wr => ∃ (k : Nat) (ao : Option Addr) (c : Nat) (L : List ByteArray) (r : ByteArray) (ok : Bool), pv = .slice ao k c ∧ rv = .string r ∧ ov = .bool ok ∧ g = (if ok = true then ss.length + 1 - k else 0) ∧ (ok = true → r = restG ss R k ∧ k ≤ ss.length) ∧ Hid (wr.ownsRow w.heap.size 9 1 (.slice ao k c) k (scells L)) ∧ Same w wr)
  case atStart => exact ⟨0, none, 0, [], _, true, rfl, rfl, rfl, by simp, fun _ => ⟨rfl, by omega⟩, World.ownsRow_nil _ _ _ _, s1⟩
  case round =>
    obtain ⟨k, ao, c, L, r, ok, rfl, rfl, rfl, rfl, hok, hown, sr⟩ := hrel
    cases ok
    · go_wp2_with fail
      go_ret3
      exact ⟨rfl, sr⟩
    · obtain ⟨hr, hk⟩ := hok rfl
      have he := HE1.out k
      rw [← hr] at he
      have hsz := sr.size
      clear hok
      by_cases hgo : k < ss.length
      · obtain ⟨s, hs⟩ : ∃ s, ss[k]? = some s := ⟨_, List.getElem?_eq_getElem hgo⟩
        have HF : Hid (∀ W, Calls Tryd.prog 16 #[.string r] W fun e w' => e = .returned (.tuple #[.string s, .string (restG ss R (k + 1)), .bool true]) ∧ w' = W.drew) := by rw [hr]; exact fun W => HFP.out W k s hs
        have hone : ∀ u ∈ [Value.string s], u.oneCell' = true := by intro u hu; simp at hu; subst hu; rfl
        have hown' : wr.drew.ownsRow w.heap.size 9 1 (.slice ao k c) k (scells L) := hown.out
        obtain ⟨r2, hr2⟩ : ∃ r2, r2 = restG ss R (k + 1) := ⟨_, rfl⟩
        rw [← hr2] at HF
        have HR2 : Hid (r2 = restG ss R (k + 1)) := hr2
        clear hr hs hr2
        go_wp2_with fail
        refine (HF.out _).mono ?_
        rintro e W3 ⟨rfl, hW3⟩
        rw [hW3]
        clear hW3
        go_wp2_with (at_builtin; go_must (refine wpList_append_lies _ (by rfl) _ _ _ (by rfl) w.heap.size 9 i0 (.string ⟨#[]⟩) 1 16 Tryd.underlying23 hi hi0 hi1 hi2 rfl (by decide) _ _ _ (by rfl) (hown'.alloc _) ⟨wr.heap.size, 0, none⟩ 1 1 [Value.string s] (by rfl) (by rfl) (World.news_of_block (cs := #[Value.string s]) (heap_alloc_new wr.drew _)) hone (by decide) (by unfold maxLen; omega) (by omega) (by simp; omega) (wr.heap.size + 1) (by simp) ?_; intro g5 cap5 W5 hown5 hgrow5 hat5 _))
        have O5 : W5.ownsRow w.heap.size 9 1 (.slice (some ⟨g5, 0, none⟩) (k + 1) cap5) (k + 1) (scells (L ++ [s])) := by
          rw [scells_append]
          exact hown5
        have s5 : Same w W5 := by
          refine Fr.grown (Fr.alloc (Fr.drew sr) _) hgrow5 ?_
          intro k hk hlt
          have := (hown.out.lt k hk).1
          omega
        go_roundg (ss.length + 1 - (k + 1))
        case measure => simp; omega
        case rel => exact ⟨k + 1, some ⟨g5, 0, none⟩, cap5, L ++ [s], r2, true, rfl, rfl, rfl, by simp, fun _ => ⟨HR2.out, by omega⟩, O5, s5⟩
      · obtain rfl : k = ss.length := by omega
        have HF : Hid (∀ W, Calls Tryd.prog 16 #[.string r] W fun e w' => e = .returned (.tuple #[.string ⟨#[]⟩, .string ⟨#[]⟩, .bool false]) ∧ Same W w') := by rw [hr]; exact HFB.out
        have hone : ∀ u ∈ [Value.string ⟨#[]⟩], u.oneCell' = true := by intro u hu; simp at hu; subst hu; rfl
        obtain ⟨k, hkl⟩ : ∃ k, k = ss.length := ⟨_, rfl⟩
        rw [← hkl] at hown hgo hk ⊢
        have hk4 : k ≤ 4194304 := by omega
        have HKL : Hid (k = ss.length) := hkl
        clear hr hkl
        go_wp2_with fail
        refine (HF.out _).mono ?_
        rintro e W3 ⟨rfl, s3⟩
        have hown' : W3.ownsRow w.heap.size 9 1 (.slice ao k c) k (scells L) := own_same hown.out s3
        have sr3 := sr.trans s3
        have hsz := sr3.size
        go_wp2_with (at_builtin; go_must (refine wpList_append_lies _ (by rfl) _ _ _ (by rfl) w.heap.size 9 i0 (.string ⟨#[]⟩) 1 16 Tryd.underlying23 hi hi0 hi1 hi2 rfl (by decide) _ _ _ (by rfl) (hown'.alloc _) ⟨W3.heap.size, 0, none⟩ 1 1 [Value.string ⟨#[]⟩] (by rfl) (by rfl) (World.news_of_block (cs := #[Value.string ⟨#[]⟩]) (heap_alloc_new W3 _)) hone (by decide) (by unfold maxLen; omega) (by omega) (by simp; omega) (W3.heap.size + 1) (by simp) ?_; intro g5 cap5 W5 hown5 hgrow5 hat5 _))
        have O5 : W5.ownsRow w.heap.size 9 1 (.slice (some ⟨g5, 0, none⟩) (k + 1) cap5) (k + 1) (scells (L ++ [⟨#[]⟩])) := by
          rw [scells_append]
          exact hown5
        have s5 : Same w W5 := by
          refine Fr.grown (Fr.alloc sr3 _) hgrow5 ?_
          intro k hk hlt
          have := (hown'.lt k hk).1
          omega
        have hkl := HKL.out
        go_roundg 0
        case measure => simp
        case rel => exact ⟨k + 1, some ⟨g5, 0, none⟩, cap5, L ++ [(⟨#[]⟩ : ByteArray)], (⟨#[]⟩ : ByteArray), false, rfl, rfl, rfl, rfl, (fun h => by cases h), O5, s5⟩
end Go.Proofs.YtpkpklbambmbeaaDoor
