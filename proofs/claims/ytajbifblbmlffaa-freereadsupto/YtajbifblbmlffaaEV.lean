/- Two numbers of 32 bits, sorted by slices.Sort. -/
import Derived.Test.YtajbifblbmlffaaEU
namespace Go.Proofs.Ytajbifblbmlffaa
open Go.RowKit Go.Maps

theorem insert_any {g o c x y : Nat} (w : World) (h0 : w.cell? ⟨g, o, none⟩ = some (.int .u32 (x : Int))) (h1 : w.cell? ⟨g, o + 1, none⟩ = some (.int .u32 (y : Int))) (hz0 : w.frozen? ⟨g, o, none⟩ = false) (hz1 : w.frozen? ⟨g, o + 1, none⟩ = false) (hne : x ≠ y) :
    Calls Try.prog 66 #[.slice (some ⟨g, o, none⟩) 2 c, .int .i64 0, .int .i64 2] w fun e w' => e = .returned (.tuple #[]) ∧ w'.cell? ⟨g, o, none⟩ = some (.int .u32 ((min x y : Nat) : Int)) ∧ w'.cell? ⟨g, o + 1, none⟩ = some (.int .u32 ((max x y : Nat) : Int)) ∧ Fr (fun k => k = g) w w' := by
  rcases Nat.lt_or_ge x y with h | h
  · rw [Nat.min_eq_left (Nat.le_of_lt h), Nat.max_eq_right (Nat.le_of_lt h)]
    exact (insertTwo w h0 h1 h).mono fun e w' ⟨e1, s⟩ => ⟨e1, s.keep h0, s.keep h1, s.mono (fun _ _ f => f.elim)⟩
  · have hlt : y < x := by omega
    rw [Nat.min_eq_right h, Nat.max_eq_left h]
    exact insertSwap w h0 h1 hz0 hz1 hlt
set_option maxRecDepth 100000 in
set_option maxHeartbeats 1000000 in
theorem pdq_two {g o c x y : Nat} {lim : Int} (w : World) (h0 : w.cell? ⟨g, o, none⟩ = some (.int .u32 (x : Int))) (h1 : w.cell? ⟨g, o + 1, none⟩ = some (.int .u32 (y : Int))) (hz0 : w.frozen? ⟨g, o, none⟩ = false) (hz1 : w.frozen? ⟨g, o + 1, none⟩ = false) (hne : x ≠ y) :
    Calls Try.prog 64 #[.slice (some ⟨g, o, none⟩) 2 c, .int .i64 0, .int .i64 2, .int .i64 lim] w fun e w' => e = .returned (.tuple #[]) ∧ w'.cell? ⟨g, o, none⟩ = some (.int .u32 ((min x y : Nat) : Int)) ∧ w'.cell? ⟨g, o + 1, none⟩ = some (.int .u32 ((max x y : Nat) : Int)) ∧ Fr (fun k => k = g) w w' := by
  have HI : Hid (Calls Try.prog 66 #[.slice (some ⟨g, o, none⟩) 2 c, .int .i64 0, .int .i64 2] w fun e w' => e = .returned (.tuple #[]) ∧ w'.cell? ⟨g, o, none⟩ = some (.int .u32 ((min x y : Nat) : Int)) ∧ w'.cell? ⟨g, o + 1, none⟩ = some (.int .u32 ((max x y : Nat) : Int)) ∧ Fr (fun k => k = g) w w') := insert_any w h0 h1 hz0 hz1 hne
  clear h0 h1 hz0 hz1 hne
  have hw2 : IntKind.i64.wrap 2 = 2 := by decide
  go_enter Try.func64, Try.ntmps64
  go_wp2_with fail
  refine wp_loop_rounds 1 ?_
  rw [rounds_succ]
  go_wp2_with fail
  refine HI.out.mono ?_
  rintro e W ⟨rfl, k1, k2, k3⟩
  have HK : Hid (W.cell? ⟨g, o, none⟩ = some (.int .u32 ((min x y : Nat) : Int)) ∧ W.cell? ⟨g, o + 1, none⟩ = some (.int .u32 ((max x y : Nat) : Int)) ∧ Fr (fun k => k = g) w W) := ⟨k1, k2, k3⟩
  clear k1 k2 k3
  go_wp2_with fail
  refine bodyPost_ret (results_none rfl _ _ _) rfl ?_
  exact ⟨rfl, HK.out⟩
set_option maxRecDepth 100000 in
set_option maxHeartbeats 1000000 in
theorem sort_two {g o c x y : Nat} (w : World) (h0 : w.cell? ⟨g, o, none⟩ = some (.int .u32 (x : Int))) (h1 : w.cell? ⟨g, o + 1, none⟩ = some (.int .u32 (y : Int))) (hz0 : w.frozen? ⟨g, o, none⟩ = false) (hz1 : w.frozen? ⟨g, o + 1, none⟩ = false) (hne : x ≠ y) :
    Calls Try.prog 60 #[.slice (some ⟨g, o, none⟩) 2 c] w fun e w' => e = .returned (.tuple #[]) ∧ w'.cell? ⟨g, o, none⟩ = some (.int .u32 ((min x y : Nat) : Int)) ∧ w'.cell? ⟨g, o + 1, none⟩ = some (.int .u32 ((max x y : Nat) : Int)) ∧ Fr (fun k => k = g) w w' := by
  have HP : Hid (∀ lim : Int, Calls Try.prog 64 #[.slice (some ⟨g, o, none⟩) 2 c, .int .i64 0, .int .i64 2, .int .i64 lim] w fun e w' => e = .returned (.tuple #[]) ∧ w'.cell? ⟨g, o, none⟩ = some (.int .u32 ((min x y : Nat) : Int)) ∧ w'.cell? ⟨g, o + 1, none⟩ = some (.int .u32 ((max x y : Nat) : Int)) ∧ Fr (fun k => k = g) w w') := fun lim => pdq_two w h0 h1 hz0 hz1 hne
  clear h0 h1 hz0 hz1 hne
  go_enter Try.func60, Try.ntmps60
  go_wp2_with fail
  refine (len_calls 2 _ (by omega)).mono ?_
  rintro e W ⟨rfl, rfl⟩
  go_wp2_with fail
  refine (HP.out _).mono ?_
  rintro e W2 ⟨rfl, k1, k2, k3⟩
  have HK : Hid (W2.cell? ⟨g, o, none⟩ = some (.int .u32 ((min x y : Nat) : Int)) ∧ W2.cell? ⟨g, o + 1, none⟩ = some (.int .u32 ((max x y : Nat) : Int)) ∧ Fr (fun k => k = g) W W2) := ⟨k1, k2, k3⟩
  clear k1 k2 k3
  go_wp2_with fail
  go_end0
  exact ⟨rfl, HK.out⟩
set_option maxRecDepth 100000 in
set_option maxHeartbeats 1000000 in
theorem keysCall {b : Nat} (w : World) : Calls Try.prog 50 #[.map (some b)] w fun e w' => e = .returned (.func (.func 61) #[] #[.pointer (some ⟨w.heap.size, 0, none⟩)]) ∧ w' = w.alloc (.cells #[.map (some b)] 46) := by
  go_enter Try.func50, Try.ntmps50
  go_wp2
  go_ret
  exact ⟨rfl, rfl⟩
set_option maxRecDepth 100000 in
set_option maxHeartbeats 1000000 in
theorem collectU {Bm b nn : Nat} {D : SetD} (w : World) (hm : w.cell? ⟨Bm, 0, none⟩ = some (.map (some b))) (hs : SetAt w b nn D) (hz : Maps.size D ≤ 1000000) :
    Calls Try.prog 59 #[.func (.func 61) #[] #[.pointer (some ⟨Bm, 0, none⟩)]] w fun e w' => ∃ (xs : List Nat) (ao : Option Addr) (c : Nat), e = .returned (.slice ao xs.length c) ∧ xs.Nodup ∧ (∀ x : Nat, x ∈ xs ↔ hasN D x = true) ∧ w'.ownsRow w.heap.size 28 1 (.slice ao xs.length c) xs.length (ncells xs) ∧ Same w w' := by
  have HA : Hid (Calls Try.prog 63 #[.slice none 0 0, .func (.func 61) #[] #[.pointer (some ⟨Bm, 0, none⟩)]] w fun e w' => ∃ (xs : List Nat) (ao : Option Addr) (c : Nat), e = .returned (.slice ao xs.length c) ∧ xs.Nodup ∧ (∀ x : Nat, x ∈ xs ↔ hasN D x = true) ∧ w'.ownsRow w.heap.size 28 1 (.slice ao xs.length c) xs.length (ncells xs) ∧ Same w w') := appendSeqU w hm hs hz
  clear hm hs hz
  go_enter Try.func59, Try.ntmps59
  go_wp2_with fail
  refine HA.out.mono ?_
  rintro e W ⟨xs, ao, c, rfl, k1, k2, k3, k4⟩
  have HK : Hid (xs.Nodup ∧ (∀ x : Nat, x ∈ xs ↔ hasN D x = true) ∧ W.ownsRow w.heap.size 28 1 (.slice ao xs.length c) xs.length (ncells xs) ∧ Same w W) := ⟨k1, k2, k3, k4⟩
  clear k1 k2 k3 k4 HA
  go_wp2_with fail
  go_ret
  exact ⟨xs, ao, c, rfl, HK.out⟩
end Go.Proofs.Ytajbifblbmlffaa
