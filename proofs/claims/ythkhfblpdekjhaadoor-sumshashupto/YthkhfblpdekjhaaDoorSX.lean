/-
  Walks: kept.
-/
import Derived.Test.YthkhfblpdekjhaaDoorSI
namespace Go.Proofs.YthkhfblpdekjhaaDoor
open Go.RowKit

theorem Lent.cell {w w' : World} {ss : List ByteArray} {g cap : Nat} (h : Lent w w' ss g cap) (j : Nat) (s : ByteArray) (hj : (ss ++ List.replicate 5 markS)[j]? = some s) : w'.cell? ⟨g, j, none⟩ = some (.string s) := by
  have := h.1.cells (g := g) rfl j (.string s) (by simp only [scells, List.getElem?_map, hj]; rfl)
  rw [Addr.add_mid, Nat.zero_add] at this
  exact this
theorem Lent.cap5 {w w' : World} {ss : List ByteArray} {g cap : Nat} (h : Lent w w' ss g cap) : ss.length + 5 ≤ cap := by
  rcases h.1.2 with ⟨hv, _⟩ | ⟨g2, cap2, cur, hv, _, _, hnc, _⟩
  · cases hv
  · injection hv with e1 e2 e3
    omega

set_option maxRecDepth 100000 in
set_option maxHeartbeats 1000000 in
theorem kept_calls {w0 w : World} {pa : Option Addr} {pb po pc g cap : Nat} {ss : List ByteArray} (h : SAt w pa pb po ss) (hl : ss.length ≤ 4194304) (hL : Lent w0 w ss g cap) :
    Calls Tryd.prog 12 #[.slice (some ⟨g, 0, none⟩) ss.length cap, .slice pa ss.length pc] w fun e w' => e = .returned (.bool true) ∧ Same w w' := by
  have HS : Hid (SAt w pa pb po ss) := h
  have HL : Hid (∀ j s, (ss ++ List.replicate 5 markS)[j]? = some s → w.cell? ⟨g, j, none⟩ = some (.string s)) := fun j s => hL.cell j s
  have hcap := hL.cap5
  obtain ⟨n, hn⟩ : ∃ n, n = ss.length := ⟨_, rfl⟩
  rw [← hn] at hl hcap ⊢
  have HN : Hid (n = ss.length) := hn
  clear h hL hn
  go_enter Tryd.func12, Tryd.ntmps12
  go_wp2_with fail
  go_loopg [6] (n + 5) (fun gg iv wr => ∃ k : Nat, iv = .int .i64 k ∧ k ≤ n + 5 ∧ gg = n + 5 - k ∧ Same w wr)
  case atStart => exact ⟨0, rfl, by omega, rfl, Fr.refl _ _⟩
  case round =>
    obtain ⟨k, rfl, hk, rfl, sr⟩ := hrel
    by_cases hgo : k < n + 5
    · have hgi : (k : Int) < (n : Int) + 5 := by omega
      by_cases hkn : k < n
      · obtain ⟨s, hs⟩ : ∃ s, ss[k]? = some s := ⟨_, List.getElem?_eq_getElem (by rw [← HN.out]; exact hkn)⟩
        have hne : ss ≠ [] := by intro e; rw [e] at hs; simp at hs
        obtain ⟨rfl, hlt⟩ := HS.out.place hne
        have c1 := sr.keep (HS.out.cells k s hs)
        have c2 := sr.keep (HL.out k s (by rw [List.getElem?_append_left (by rw [← HN.out]; exact hkn)]; exact hs))
        have hki : (k : Int) < (n : Int) := by omega
        have hd : decide (n ≤ k) = false := by simp; omega
        clear hs hne
        go_wp2_with fail
        go_quiet (fail)
        go_wp2_with fail
        go_roundg (n + 5 - (k + 1))
        case measure => omega
        case rel => exact ⟨k + 1, by go_num, by omega, rfl, sr.drewN _⟩
      · have c2 : wr.cell? ⟨g, k, none⟩ = some (.string ⟨#[109, 97, 114, 107]⟩) := sr.keep (HL.out k markS (by rw [List.getElem?_append_right (by rw [← HN.out]; omega), List.getElem?_replicate, if_pos (by rw [← HN.out]; omega)]))
        have hki : ¬ (k : Int) < (n : Int) := by omega
        go_wp2_with fail
        go_quiet (fail)
        go_wp2_with fail
        go_roundg (n + 5 - (k + 1))
        case measure => omega
        case rel => exact ⟨k + 1, by go_num, by omega, rfl, sr.drewN _⟩
    · obtain rfl : k = n + 5 := by omega
      go_wp2_with fail
      go_ret
      exact ⟨rfl, sr⟩
end Go.Proofs.YthkhfblpdekjhaaDoor
