/-
  Walks: digest of a list, Fits, the document's Fits; SumsCut.
-/
import Derived.Test.YthkhfblpdekjhaaDoorSRI
namespace Go.Proofs.YthkhfblpdekjhaaDoor
open Go.RowKit

/-- 32 bytes of a list, noughts behind it. -/
def dig32 (l : List UInt8) : List UInt8 := l.take 32 ++ List.replicate (32 - l.length) 0
theorem dig32_length (l : List UInt8) : (dig32 l).length = 32 := by
  unfold dig32
  rw [List.length_append, List.length_take, List.length_replicate]; omega
def digK (l : List UInt8) (k : Nat) : List UInt8 := l.take k ++ List.replicate (32 - k) 0
theorem digK_length (l : List UInt8) (k : Nat) (hk : k ≤ 32) (hl : k ≤ l.length) : (digK l k).length = 32 := by
  unfold digK
  rw [List.length_append, List.length_take, List.length_replicate]; omega
theorem digK_set (l : List UInt8) (k : Nat) (hk : k < 32) (x : UInt8) (hx : l[k]? = some x) : (digK l k).set k x = digK l (k + 1) := by
  unfold digK
  have hl : k < l.length := (List.getElem?_eq_some_iff.1 hx).1
  have h1 : (l.take k).length = k := by rw [List.length_take]; omega
  rw [List.set_append_right _ _ (by omega), h1, Nat.sub_self, List.take_add_one, hx]
  obtain ⟨n, hn⟩ : ∃ n, 32 - k = n + 1 := ⟨31 - k, by omega⟩
  have hn2 : 32 - (k + 1) = n := by omega
  rw [hn, hn2]
  simp [List.replicate_succ]
/-- Bytes that a slice which came in holds. -/
structure BIn (w : World) (pa : Option Addr) (pb po : Nat) (l : List UInt8) : Prop where
  place : l ≠ [] → pa = some ⟨pb, po, none⟩
  cells : ∀ (j : Nat) (x : UInt8), l[j]? = some x → w.cell? ⟨pb, po + j, none⟩ = some (.int .u8 x.toNat)
theorem BIn.same {w w' : World} {pa : Option Addr} {pb po : Nat} {l : List UInt8} (h : BIn w pa pb po l) (s : Same w w') : BIn w' pa pb po l := ⟨h.place, fun j x hx => s.keep (h.cells j x hx)⟩

set_option maxRecDepth 100000 in
set_option maxHeartbeats 1000000 in
theorem digest32_calls (w : World) (pa : Option Addr) (pb po pc : Nat) (l : List UInt8) (h : BIn w pa pb po l) (hl : l.length ≤ 9223372036854775807) :
    Calls Tryd.prog 19 #[.slice pa l.length pc] w fun e w' => e = .returned (.agg (bcells (dig32 l)).toArray) ∧ Same w w' := by
  have HI : Hid (BIn w pa pb po l) := h
  clear h
  go_enter Tryd.func19, Tryd.ntmps19
  go_wp2_with fail
  obtain ⟨W1, hW1⟩ : ∃ W1, W1 = (w.alloc (.cells (bcells (List.replicate 32 0)).toArray 36)).alloc (.cells (bcells (List.replicate 32 0)).toArray 36) := ⟨_, rfl⟩
  have hz : (bcells (List.replicate 32 0)).toArray = #[.int .u8 0, .int .u8 0, .int .u8 0, .int .u8 0, .int .u8 0, .int .u8 0, .int .u8 0, .int .u8 0, .int .u8 0, .int .u8 0, .int .u8 0, .int .u8 0, .int .u8 0, .int .u8 0, .int .u8 0, .int .u8 0, .int .u8 0, .int .u8 0, .int .u8 0, .int .u8 0, .int .u8 0, .int .u8 0, .int .u8 0, .int .u8 0, .int .u8 0, .int .u8 0, .int .u8 0, .int .u8 0, .int .u8 0, .int .u8 0, .int .u8 0, .int .u8 0] := rfl
  rw [← hz, ← hW1]
  have s1 : Same w W1 := by rw [hW1]; exact ((Fr.refl _ w).alloc _).alloc _
  have RZ : Hid (W1.heap[w.heap.size]? = some (.cells (bcells (List.replicate 32 0)).toArray 36 (0, 0))) := by
    show _ = _
    rw [hW1, heap_alloc_old _ _ (by simp)]; exact heap_alloc_new w _
  have RD : Hid (W1.heap[w.heap.size + 1]? = some (.cells (bcells (digK l 0)).toArray 36 (0, 0))) := by
    show _ = _
    rw [hW1]; exact heap_alloc2_new w _ _
  clear hW1 hz
  obtain ⟨n, hn⟩ : ∃ n, n = l.length := ⟨_, rfl⟩
  rw [← hn] at hl ⊢
  have HN : Hid (n = l.length) := hn
  clear hn
  go_loopg [4] 32 (fun gg iv wq => ∃ k : Nat, iv = .int .i64 k ∧ k ≤ 32 ∧ k ≤ n ∧ gg = 32 - k ∧ Hid (wq.heap[w.heap.size]? = some (.cells (bcells (List.replicate 32 0)).toArray 36 (0, 0))) ∧ Hid (wq.heap[w.heap.size + 1]? = some (.cells (bcells (digK l k)).toArray 36 (0, 0))) ∧ Same w wq)
  case atStart => exact ⟨0, rfl, by omega, by omega, rfl, RZ, RD, s1⟩
  case round =>
    clear RZ RD s1
    obtain ⟨k, rfl, hk, hkn, rfl, RZ, RD, s1⟩ := hrel
    by_cases hgo : k < 32 ∧ k < n
    · obtain ⟨h32, hkl⟩ := hgo
      have hk2 : k < l.length := by rw [← HN.out]; exact hkl
      obtain ⟨x, hx⟩ : ∃ x, l[k]? = some x := ⟨_, List.getElem?_eq_getElem hk2⟩
      have hpl := HI.out.place (by intro e; rw [e] at hk2; simp at hk2)
      subst hpl
      have cx := (HI.out.same s1).cells k x hx
      have hlk := digK_length l k hk (by omega)
      have kd : wr.cell? ⟨w.heap.size + 1, k, none⟩ = some (.int .u8 (((digK l k).getD k 0).toNat : Int)) := by
        rw [cell_of_row _ _ _ _ _ _ RD.out, List.getElem?_toArray, bcells, List.getElem?_map, List.getD_eq_getElem?_getD, List.getElem?_eq_getElem (by rw [hlk]; exact h32)]
        rfl
      have kf := frozen_of_row wr (w.heap.size + 1) k _ _ RD.out
      have RD' : Hid ((wr.setCell ⟨w.heap.size + 1, k, none⟩ (.int .u8 x.toNat)).heap[w.heap.size + 1]? = some (.cells (bcells (digK l (k + 1))).toArray 36 (0, 0))) := by
        show _ = _
        rw [brow_set RD.out, digK_set l k h32 x hx]
      have RZ' : Hid ((wr.setCell ⟨w.heap.size + 1, k, none⟩ (.int .u8 x.toNat)).heap[w.heap.size]? = some (.cells (bcells (List.replicate 32 0)).toArray 36 (0, 0))) := by
        show _ = _
        exact (Below.heap_setCell wr ⟨w.heap.size + 1, k, none⟩ (.int .u8 x.toNat) w.heap.size (by simp)).trans RZ.out
      have s2 : Same w (wr.setCell ⟨w.heap.size + 1, k, none⟩ (.int .u8 x.toNat)) := s1.setCell (p := ⟨w.heap.size + 1, k, none⟩) (fun h => by simp only at h; omega) _
      clear RD RZ hlk hx hk2
      generalize (digK l k).getD k 0 = old at *
      go_wp2_with fail
      go_roundg (32 - (k + 1))
      case measure => omega
      case rel => exact ⟨k + 1, by go_num, by omega, by omega, rfl, RZ', RD', s2⟩
    · have hend : digK l k = dig32 l := by
        unfold digK dig32
        have hnl := HN.out
        by_cases h32 : k = 32
        · rw [h32, Nat.sub_self, show 32 - l.length = 0 from by omega]
        · have : k = l.length := by omega
          rw [this, List.take_of_length_le (Nat.le_refl _), List.take_of_length_le (by omega)]
      have R4 := RD.out
      rw [hend] at R4
      have Z4 := RZ.out
      have l32 := dig32_length l
      obtain ⟨X, hX⟩ : ∃ X, X = (bcells (dig32 l)).toArray := ⟨_, rfl⟩
      obtain ⟨Z, hZ⟩ : ∃ Z, Z = (bcells (List.replicate 32 0)).toArray := ⟨_, rfl⟩
      rw [← hX] at R4
      rw [← hZ] at Z4
      have HXh : Hid (X = (bcells (dig32 l)).toArray) := hX
      have hXs : X.size = 32 := by rw [hX]; simp [bcells, l32]
      have hZs : Z.size = 32 := by rw [hZ]; rfl
      have hXsz : (Tryd.prog.info? 36).map (·.size) = some X.size := by rw [Tryd.ainfoD, hXs]
      have hXone := bcells_one (dig32 l)
      rw [← hX] at hXone
      have HRES : Hid (∀ (tmps : Array Value) (W : World), W.heap[w.heap.size]? = some (.cells X 36 (0, 0)) → tmps.getD 2 undef = .pointer (some ⟨w.heap.size, 0, none⟩) → (results Tryd.f19 tmps).run Tryd.prog W = .ok (.agg X) W) := fun tmps W h hp => results_cell_row (p := 2) (ty := 36) (by kernel_rfl) tmps _ w.heap.size 36 _ (0, 0) _ hp h Tryd.underlying36 rfl hXsz
      clear hX hZ RD RZ hend
      by_cases h32 : k < 32
      · have hkn2 : ¬ k < n := fun h => hgo ⟨h32, h⟩
        have hd : decide ((k : Int) < (n : Int)) = false := decide_eq_false (by omega)
        go_wp2_with (first | (refine wpList_load_row (by rfl) 36 _ (by rfl) (w.heap.size + 1) (by rfl) 36 X (0, 0) _ R4 Tryd.underlying36 rfl hXsz ?_) | (refine wpList_store_whole (by rfl) 36 _ _ (by rfl) w.heap.size X Z 36 (by rfl) (by rfl) Z4 (by rw [hXs, hZs]) hXsz hXone ?_; intro W5 r5 f5))
        exact bodyPost_ret (HRES.out _ _ r5 rfl) rfl ⟨by rw [HXh.out], Fr.trans s1 f5 (fun i hi e => by omega)⟩
      · have hd : decide ((k : Int) < 32) = false := decide_eq_false (by omega)
        go_wp2_with (first | (refine wpList_load_row (by rfl) 36 _ (by rfl) (w.heap.size + 1) (by rfl) 36 X (0, 0) _ R4 Tryd.underlying36 rfl hXsz ?_) | (refine wpList_store_whole (by rfl) 36 _ _ (by rfl) w.heap.size X Z 36 (by rfl) (by rfl) Z4 (by rw [hXs, hZs]) hXsz hXone ?_; intro W5 r5 f5))
        exact bodyPost_ret (HRES.out _ _ r5 rfl) rfl ⟨by rw [HXh.out], Fr.trans s1 f5 (fun i hi e => by omega)⟩

end Go.Proofs.YthkhfblpdekjhaaDoor
