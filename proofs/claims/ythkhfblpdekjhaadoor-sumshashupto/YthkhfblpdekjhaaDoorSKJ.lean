/-
  Walks: joined.
-/
import Derived.Test.YthkhfblpdekjhaaDoorSX
namespace Go.Proofs.YthkhfblpdekjhaaDoor
open Go.RowKit

theorem flat_take_succ (ss : List ByteArray) (k : Nat) (s : ByteArray) (hs : ss[k]? = some s) : flat (ss.take (k + 1)) = flat (ss.take k) ++ s.data.toList := by
  rw [List.take_add_one, hs]
  simp [flat]
theorem flat_take_le (ss : List ByteArray) (k : Nat) : (flat (ss.take k)).length ≤ (flat ss).length := by
  have : flat ss = flat (ss.take k) ++ flat (ss.drop k) := by unfold flat; rw [← List.flatten_append, ← List.map_append, List.take_append_drop]
  rw [this, List.length_append]; omega

set_option maxRecDepth 100000 in
set_option maxHeartbeats 1000000 in
theorem joined_calls {w : World} {pa : Option Addr} {pb po pc : Nat} {ss : List ByteArray} (h : SAt w pa pb po ss) (hl : ss.length ≤ 4194304) (hfl : (flat ss).length ≤ 70368744177664) :
    Calls Tryd.prog 13 #[.slice pa ss.length pc] w fun e w' => e = .returned (.string ⟨(flat ss).toArray⟩) ∧ Same w w' := by
  obtain ⟨i0, hi, hi0, hi1, hi2⟩ := info_parts Tryd.info5
  have HS : Hid (SAt w pa pb po ss) := h
  have HFL : Hid ((flat ss).length ≤ 70368744177664) := hfl
  clear h hfl
  go_enter Tryd.func13, Tryd.ntmps13
  go_wp2_with fail
  go_loopg [3, 4] ss.length (fun g v iv wr => ∃ (k : Nat) (ao : Option Addr) (c fl : Nat), v = .slice ao fl c ∧ fl = (flat (ss.take k)).length ∧ iv = .int .i64 k ∧ k ≤ ss.length ∧ g = ss.length - k ∧ Hid (Owns wr (.slice ao (flat (ss.take k)).length c) (flat (ss.take k)) ∧ BStep (.slice none 0 0) (.slice ao (flat (ss.take k)).length c) w wr))
  case atStart => exact ⟨0, none, 0, 0, rfl, rfl, rfl, by omega, rfl, World.ownsRow_nil _ _ _ _, BStep.refl _ _⟩
  case round =>
    obtain ⟨k, ao, c, fl, rfl, hfl, rfl, hk, rfl, HO⟩ := hrel
    obtain ⟨ho, hb⟩ := HO.out
    have sr : Same w wr := hb.1.mono (fun k _ e => by simp [Value.ownBlock] at e)
    by_cases hgo : k < ss.length
    · obtain ⟨s, hs⟩ : ∃ s, ss[k]? = some s := ⟨_, List.getElem?_eq_getElem hgo⟩
      have hne : ss ≠ [] := by intro e; rw [e] at hgo; simp at hgo
      obtain ⟨rfl, hlt⟩ := HS.out.place hne
      have hcs := sr.keep (HS.out.cells k s hs)
      have hfs := flat_take_succ ss k s hs
      have hle := flat_take_le ss (k + 1)
      have hle2 := HFL.out
      rw [hfs, List.length_append, bytes_length] at hle
      have HFS : Hid (flat (ss.take (k + 1)) = flat (ss.take k) ++ s.data.toList) := hfs
      obtain ⟨F, hF⟩ : ∃ F, F = flat (ss.take k) := ⟨_, rfl⟩
      rw [← hF] at ho hb hle hfl HFS
      have ho' : wr.ownsRow 0 5 1 (.slice ao fl c) fl (bcells F) := by rw [hfl]; exact ho
      have HB : Hid (BStep (.slice none 0 0) (.slice ao F.length c) w wr ∧ fl = F.length) := ⟨hb, hfl⟩
      have hfb : fl + s.size ≤ 70368744177664 := by omega
      clear hfs hF HO ho hb hfl hle hle2 hs hne
      go_wp2_with (at_builtin; go_must (refine wpList_append_str _ (by rfl) _ _ 42 9 (by rfl) 5 i0 Tryd.underlying42 Tryd.underlying9 hi hi0 hi1 hi2 _ _ _ (by rfl) ho' s (by rfl) (by omega) ?_; intro ao3 c3 W3 hown3 hgrow3 hat3))
      obtain ⟨hb, hfl⟩ := HB.out
      have hl3 : (F ++ s.data.toList).length = fl + s.size := by rw [List.length_append, bytes_length, hfl]
      have o3 : Owns W3 (.slice ao3 (F ++ s.data.toList).length c3) (F ++ s.data.toList) := by
        show World.ownsRow _ _ _ _ _ _ _
        rw [hl3, bcells_append]
        exact hown3
      have b3 : BStep (.slice none 0 0) (.slice ao3 (F ++ s.data.toList).length c3) w W3 := by
        refine hb.trans ⟨?_, ?_⟩
        · rw [← hfl]; exact (Fr.refl _ wr).grown hgrow3 (fun k hk _ => hk.symm)
        · rw [← hfl, hl3]; exact hat3
      rw [← HFS.out] at o3 b3
      go_roundg (ss.length - (k + 1))
      case measure => omega
      case rel => exact ⟨k + 1, ao3, c3, fl + s.size, rfl, by rw [HFS.out, hl3], by go_num, by omega, rfl, o3, b3⟩
    · obtain rfl : k = ss.length := by omega
      rw [List.take_length] at ho hfl
      have hcv := owns_string (P := Tryd.prog) ho 42 9 Tryd.underlying42 Tryd.underlying5 Tryd.underlying9
      rw [← hfl] at hcv
      clear ho hb HO hfl
      go_wp2_with fail
      go_ret
      exact ⟨rfl, sr⟩
end Go.Proofs.YthkhfblpdekjhaaDoor
