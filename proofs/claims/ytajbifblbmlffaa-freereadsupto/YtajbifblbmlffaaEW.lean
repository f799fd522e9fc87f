/- The numbers of a set of two, sorted. -/
import Derived.Test.YtajbifblbmlffaaEV
namespace Go.Proofs.Ytajbifblbmlffaa
open Go.RowKit Go.Maps

theorem two_list {xs : List Nat} {a b : Nat} (hn : xs.Nodup) (hm : ∀ x : Nat, x ∈ xs ↔ (x = a ∨ x = b)) (hab : a < b) : xs = [a, b] ∨ xs = [b, a] := by
  match xs, hn, hm with
  | [], _, hm => exact absurd ((hm a).2 (Or.inl rfl)) (by simp)
  | [u], _, hm =>
    have h1 := (hm a).2 (Or.inl rfl)
    have h2 := (hm b).2 (Or.inr rfl)
    simp at h1 h2
    omega
  | [u, v], hn, hm =>
    have h1 := (hm u).1 (by simp)
    have h2 := (hm v).1 (by simp)
    have h3 : u ≠ v := by
      rw [List.nodup_cons] at hn
      intro e
      exact hn.1 (by rw [e]; simp)
    rcases h1 with rfl | rfl <;> rcases h2 with rfl | rfl
    · exact absurd rfl h3
    · exact Or.inl rfl
    · exact Or.inr rfl
    · exact absurd rfl h3
  | u :: v :: t :: ts, hn, hm =>
    have h1 := (hm u).1 (by simp)
    have h2 := (hm v).1 (by simp)
    have h4 := (hm t).1 (by simp)
    simp only [List.nodup_cons, List.mem_cons, not_or] at hn
    obtain ⟨⟨n1, n2, _⟩, ⟨n3, _⟩, _⟩ := hn
    exfalso
    omega
set_option maxRecDepth 100000 in
set_option maxHeartbeats 1000000 in
theorem sortedU {Bm b nn a1 a2 : Nat} {D : SetD} (w : World) (hm : w.cell? ⟨Bm, 0, none⟩ = some (.map (some b))) (hs : SetAt w b nn D) (hz : Maps.size D ≤ 1000000) (hD : ∀ x : Nat, hasN D x = true ↔ (x = a1 ∨ x = a2)) (hab : a1 < a2) :
    Calls Try.prog 49 #[.func (.func 61) #[] #[.pointer (some ⟨Bm, 0, none⟩)]] w fun e w' => ∃ (g c : Nat), e = .returned (.slice (some ⟨g, 0, none⟩) 2 c) ∧ NRow w' (some ⟨g, 0, none⟩) g 0 [a1, a2] ∧ w.heap.size ≤ g ∧ 2 ≤ c ∧ Same w w' := by
  have HC : Hid (Calls Try.prog 59 #[.func (.func 61) #[] #[.pointer (some ⟨Bm, 0, none⟩)]] w fun e w' => ∃ (x y g c : Nat), e = .returned (.slice (some ⟨g, 0, none⟩) 2 c) ∧ min x y = a1 ∧ max x y = a2 ∧ x ≠ y ∧ w.heap.size ≤ g ∧ 2 ≤ c ∧ w'.cell? ⟨g, 0, none⟩ = some (.int .u32 (x : Int)) ∧ w'.cell? ⟨g, 0 + 1, none⟩ = some (.int .u32 (y : Int)) ∧ w'.frozen? ⟨g, 0, none⟩ = false ∧ w'.frozen? ⟨g, 0 + 1, none⟩ = false ∧ g < w'.heap.size ∧ Same w w') := by
    refine (collectU w hm hs hz).mono ?_
    rintro e w' ⟨xs, ao, c, rfl, k1, k2, k3, k4⟩
    have key : ∀ x y, xs = [x, y] → min x y = a1 → max x y = a2 → x ≠ y → ∃ (x y g c' : Nat), Ending.returned (.slice ao xs.length c) = .returned (.slice (some ⟨g, 0, none⟩) 2 c') ∧ min x y = a1 ∧ max x y = a2 ∧ x ≠ y ∧ w.heap.size ≤ g ∧ 2 ≤ c' ∧ w'.cell? ⟨g, 0, none⟩ = some (.int .u32 (x : Int)) ∧ w'.cell? ⟨g, 0 + 1, none⟩ = some (.int .u32 (y : Int)) ∧ w'.frozen? ⟨g, 0, none⟩ = false ∧ w'.frozen? ⟨g, 0 + 1, none⟩ = false ∧ g < w'.heap.size ∧ Same w w' := by
      intro x y hxs h1 h2 h3
      subst hxs
      obtain ⟨g, rfl, hg⟩ := own_some (own_base k3 (Nat.zero_le _)) (by simp)
      obtain ⟨cur, hcur⟩ := own_cellsB k3 (k := g) rfl
      have hge := own_ge k3
      have hcp := own_capB k3
      refine ⟨x, y, g, c, rfl, h1, h2, h3, hge.1, hcp, own_cell (own_base k3 (Nat.zero_le _)) rfl, own_cell (own_base k3 (Nat.zero_le _)) rfl, by simp [World.frozen?, hcur], by simp [World.frozen?, hcur], hg, k4⟩
    rcases two_list k1 (fun x => (k2 x).trans (hD x)) hab with h | h
    · exact key a1 a2 h (by omega) (by omega) (by omega)
    · exact key a2 a1 h (by omega) (by omega) (by omega)
  clear hm hs hz hD hab
  go_enter Try.func49, Try.ntmps49
  go_wp2_with fail
  refine HC.out.mono ?_
  rintro e W ⟨x, y, g, c, rfl, m1, m2, m3, hge, hc2, q0, q1, z0, z1, hlt, s1⟩
  have HS : Hid (Calls Try.prog 60 #[.slice (some ⟨g, 0, none⟩) 2 c] W fun e w' => e = .returned (.tuple #[]) ∧ w'.cell? ⟨g, 0, none⟩ = some (.int .u32 ((min x y : Nat) : Int)) ∧ w'.cell? ⟨g, 0 + 1, none⟩ = some (.int .u32 ((max x y : Nat) : Int)) ∧ Fr (fun k => k = g) W w') := sort_two W q0 q1 z0 z1 m3
  have HG : Hid (w.heap.size ≤ g ∧ 2 ≤ c ∧ g < W.heap.size ∧ Same w W ∧ min x y = a1 ∧ max x y = a2) := ⟨hge, hc2, hlt, s1, m1, m2⟩
  clear q0 q1 z0 z1 hge hc2 hlt s1 m1 m2 m3 HC
  go_wp2_with fail
  refine HS.out.mono ?_
  rintro e W2 ⟨rfl, k1, k2, k3⟩
  have HK : Hid (W2.cell? ⟨g, 0, none⟩ = some (.int .u32 ((min x y : Nat) : Int)) ∧ W2.cell? ⟨g, 0 + 1, none⟩ = some (.int .u32 ((max x y : Nat) : Int)) ∧ Fr (fun k => k = g) W W2) := ⟨k1, k2, k3⟩
  clear k1 k2 k3
  go_wp2_with fail
  go_ret
  obtain ⟨g1, g2, g3, g4, g5, g6⟩ := HG.out
  obtain ⟨k1, k2, k3⟩ := HK.out
  rw [g5] at k1
  rw [g6] at k2
  refine ⟨g, c, rfl, ⟨fun _ => ⟨rfl, Nat.lt_of_lt_of_le g3 k3.size⟩, fun j z hz => ?_⟩, g1, g2, Fr.trans g4 k3 (fun k hk e => by omega)⟩
  match j, hz with
  | 0, hz =>
    simp at hz
    subst hz
    exact k1
  | 1, hz =>
    simp at hz
    subst hz
    exact k2
  | j + 2, hz => simp at hz
end Go.Proofs.Ytajbifblbmlffaa
