/-
  Walks: a Hash's Len and Clone; pick.
-/
import Derived.Test.YthkhfblpdekjhaaDoorSB
namespace Go.Proofs.YthkhfblpdekjhaaDoor
open Go.RowKit

theorem Tryd.ainfoH : (Tryd.prog.info? 61).map (·.size) = some 74 := by kernel_rfl
theorem hashC_length (q : W8) (rest : List UInt8) (n : Nat) (h : rest.length = 64) : (hashC q rest n).length = 74 := by
  unfold hashC
  rw [List.length_append, List.length_append, List.length_append, bcells_length, h]
  rfl
theorem hashC_one (q : W8) (rest : List UInt8) (n : Nat) : (hashC q rest n).toArray.all (·.oneCell') = true := by
  have hb := bcells_one rest
  rw [List.all_toArray] at hb ⊢
  unfold hashC
  rw [List.all_append, List.all_append, List.all_append, hb]
  rfl
theorem HashOf.made {w : World} {b : Nat} {m : List UInt8} (h : HashOf w b m) : w.cell? ⟨b, 0, none⟩ = some (.bool true) := by
  obtain ⟨rest, h, _⟩ := h
  exact h.made
theorem HashOf.len {w : World} {b : Nat} {m : List UInt8} (h : HashOf w b m) : w.cell? ⟨b, 73, none⟩ = some (.int .i64 m.length) := by
  obtain ⟨rest, h, _⟩ := h
  exact h.size
theorem HashOf.new {w : World} {b : Nat} (h : HashAt w b hTab (List.replicate 64 0) 0) : HashOf w b [] := by
  refine ⟨List.replicate 64 0, ?_, rfl⟩
  rw [mixAll, dif_neg (by simp)]
  exact h
def hash0 : List Value := [.bool false] ++ List.replicate 8 (.int .u32 0) ++ List.replicate 64 (.int .u8 0) ++ [.int .i64 0]
theorem hash_zero : ∃ Z : Array Value, Z.size = 74 ∧ ∀ W, (zeroValue 61).run Tryd.prog W = .ok (.agg Z) W := ⟨hash0.toArray, rfl, fun W => by kernel_rfl⟩

set_option maxRecDepth 100000 in
set_option maxHeartbeats 400000 in
theorem len_calls {w : World} {b : Nat} {m : List UInt8} (h : HashOf w b m) : Calls Tryd.prog 16 #[.pointer (some ⟨b, 0, none⟩)] w fun e w' => e = .returned (.int .i64 m.length) ∧ w' = w := by
  have HT := there_hash h.made
  have hc := h.len
  generalize m.length = n at *
  clear h
  go_enter Tryd.func16, Tryd.ntmps16
  go_wp2_with fail
  refine HT.mono ?_
  rintro e W1 ⟨rfl, hW1⟩
  rw [hW1]
  clear hW1 HT
  go_wp2_with fail
  go_ret
  exact ⟨rfl, rfl⟩

set_option maxRecDepth 100000 in
set_option maxHeartbeats 1000000 in
theorem clone_calls {w : World} {b : Nat} {m : List UInt8} (h : HashOf w b m) : Calls Tryd.prog 17 #[.pointer (some ⟨b, 0, none⟩)] w fun e w' => e = .returned (.pointer (some ⟨w.heap.size, 0, none⟩)) ∧ HashOf w' w.heap.size m ∧ Same w w' := by
  have HT : Hid (Calls Tryd.prog 30 #[.pointer (some ⟨b, 0, none⟩)] w fun e w' => e = .returned (.bool true) ∧ w' = w) := there_hash h.made
  obtain ⟨rest, ⟨h1, h2⟩, h3⟩ := h
  have hl := hashC_length (mixAll hTab m) rest m.length h2
  have hone := hashC_one (mixAll hTab m) rest m.length
  have HF : Hid (∀ (W : World) (g : Nat), W.heap[g]? = some (.cells (hashC (mixAll hTab m) rest m.length).toArray 61 (0, 0)) → HashOf W g m) := fun W g hg => ⟨rest, ⟨hg, h2⟩, h3⟩
  obtain ⟨X, hX⟩ : ∃ X, X = (hashC (mixAll hTab m) rest m.length).toArray := ⟨_, rfl⟩
  rw [← hX] at h1 hone
  simp only [← hX] at HF
  have hXs : X.size = 74 := by rw [hX]; exact hl
  have hXsz : (Tryd.prog.info? 61).map (·.size) = some X.size := by rw [Tryd.ainfoH, hXs]
  clear hX hl h2 h3
  obtain ⟨Z, hZs, hz⟩ := hash_zero
  go_enter Tryd.func17, Tryd.ntmps17
  go_wp2_with fail
  refine HT.out.mono ?_
  rintro e W1 ⟨rfl, hW1⟩
  rw [hW1]
  clear hW1 HT
  go_wp2_with (first | (refine wpList_load_row (by rfl) 61 _ (by rfl) b (by rfl) 61 X (0, 0) _ h1 Tryd.underlying61 rfl hXsz ?_) | (refine wpList_store_whole (by rfl) 61 _ _ (by rfl) w.heap.size X _ 61 (by rfl) (by rfl) (heap_alloc_new w _) (by rw [hXs]; exact hZs) hXsz hone ?_; intro W2 r2 f2; have s2 : Same w W2 := Fr.trans ((Fr.refl _ w).alloc _) f2 (fun i hi e => by omega); clear f2))
  go_ret
  exact ⟨rfl, HF.out _ _ r2, s2⟩

theorem pick_neg (n k : Int) (hk : 0 < k) (h : n.tmod k < 0) : n % k = n.tmod k + k := by
  have e := Int.mul_tdiv_add_tmod n k
  have l : -k < n.tmod k := by
    have := Int.lt_tmod_of_pos n hk
    omega
  have : n = (n.tmod k + k) + k * (n.tdiv k - 1) := by rw [Int.mul_sub]; omega
  have h2 : n % k = (n.tmod k + k) % k := by
    conv => lhs; rw [this]
    rw [Int.add_mul_emod_self_left]
  rw [h2, Int.emod_eq_of_lt (by omega) (by omega)]
theorem pick_pos (n k : Int) (hk : 0 < k) (h : ¬ n.tmod k < 0) : n % k = n.tmod k := by
  have e := Int.mul_tdiv_add_tmod n k
  have l : n.tmod k < k := Int.tmod_lt_of_pos n hk
  have : n = n.tmod k + k * n.tdiv k := by omega
  have h2 : n % k = (n.tmod k) % k := by
    conv => lhs; rw [this]
    rw [Int.add_mul_emod_self_left]
  rw [h2, Int.emod_eq_of_lt (by omega) (by omega)]
set_option maxRecDepth 100000 in
set_option maxHeartbeats 400000 in
theorem pick_calls (w : World) (n k : Int) (hk0 : 0 < k) (hk1 : k ≤ 1000) : Calls Tryd.prog 9 #[.int .i64 n, .int .i64 k] w fun e w' => e = .returned (.int .i64 (n % k)) ∧ w' = w := by
  by_cases hn : n.tmod k < 0
  · have hlo := Int.lt_tmod_of_pos n hk0
    rw [pick_neg n k hk0 hn]
    go_enter Tryd.func9, Tryd.ntmps9
    go_wp2_with fail
    go_ret
    exact ⟨rfl, rfl⟩
  · have hhi := Int.tmod_lt_of_pos n hk0
    rw [pick_pos n k hk0 hn]
    go_enter Tryd.func9, Tryd.ntmps9
    go_wp2_with fail
    go_ret
    exact ⟨rfl, rfl⟩
end Go.Proofs.YthkhfblpdekjhaaDoor
