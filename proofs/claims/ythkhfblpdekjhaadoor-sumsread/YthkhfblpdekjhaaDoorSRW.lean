/-
  Walks: Show.
-/
import Derived.Test.YthkhfblpdekjhaaDoorSRV
namespace Go.Proofs.YthkhfblpdekjhaaDoor
open Go.RowKit

theorem slice_show (W : World) (g k : Nat) (hk : k ≤ 32) : (Instr.sliceAt 36 (.pointer (some ⟨g, 0, none⟩)) none (some (.int .i64 (k : Int))) none).run Tryd.prog W = .ok (.slice (some ⟨g, 0, none⟩) k 32) W := by
  rw [run_sliceAt_array_h W 36 ⟨g, 0, none⟩ Tryd.aundD .i64 k (by omega) (by rw [Tryd.alenD]; omega), Tryd.aelemD, Tryd.szU8, Tryd.alenD]
  simp [slicedAt, Addr.add]
theorem lit_hx (a : Nat) (h : a < (⟨#[48, 49, 50, 51, 52, 53, 54, 55, 56, 57, 97, 98, 99, 100, 101, 102]⟩ : ByteArray).size) : (⟨#[48, 49, 50, 51, 52, 53, 54, 55, 56, 57, 97, 98, 99, 100, 101, 102]⟩ : ByteArray)[a]'h = UInt8.ofNat (hxN a) := by
  have h16 : a < 16 := h
  match a, h16 with
  | 0, _ => rfl
  | 1, _ => rfl
  | 2, _ => rfl
  | 3, _ => rfl
  | 4, _ => rfl
  | 5, _ => rfl
  | 6, _ => rfl
  | 7, _ => rfl
  | 8, _ => rfl
  | 9, _ => rfl
  | 10, _ => rfl
  | 11, _ => rfl
  | 12, _ => rfl
  | 13, _ => rfl
  | 14, _ => rfl
  | 15, _ => rfl
  | n + 16, h => exact absurd h (by omega)
theorem of8 (a : UInt8) : (BitVec.ofInt 8 (a.toNat : Int)) = a.toBitVec := by
  rw [BitVec.ofInt_natCast]
  apply BitVec.eq_of_toNat_eq
  rw [BitVec.toNat_ofNat]
  exact Nat.mod_eq_of_lt a.toNat_lt
theorem a8 (a b : UInt8) : bits .and .u8 (a.toNat : Int) (b.toNat : Int) = ((a &&& b).toNat : Int) := by
  show IntKind.u8.wrap ((BitVec.ofInt 8 (a.toNat : Int) &&& BitVec.ofInt 8 (b.toNat : Int)).toNat : Int) = _
  rw [of8, of8]
  have := (a &&& b).toNat_lt
  rw [IntKind.wrap_u8]
  show ((a &&& b).toNat : Int) % 256 = _
  omega
theorem o8 (a b : UInt8) : bits .or .u8 (a.toNat : Int) (b.toNat : Int) = ((a ||| b).toNat : Int) := by
  show IntKind.u8.wrap ((BitVec.ofInt 8 (a.toNat : Int) ||| BitVec.ofInt 8 (b.toNat : Int)).toNat : Int) = _
  rw [of8, of8]
  have := (a ||| b).toNat_lt
  rw [IntKind.wrap_u8]
  show ((a ||| b).toNat : Int) % 256 = _
  omega
theorem and15 (x : UInt8) : bits .and .u8 (x.toNat : Int) 15 = ((x.toNat % 16 : Nat) : Int) := by
  have := a8 x 15
  rw [UInt8.toNat_and] at this
  rw [← Nat.and_two_pow_sub_one_eq_mod x.toNat 4]
  exact this
set_option maxRecDepth 100000 in
set_option maxHeartbeats 1000000 in
theorem show_calls (w : World) (wd : Int) (D : List UInt8) (hD : D.length = 32) : Calls Tryd.prog 26 #[.int .i64 wd, .agg (bcells D).toArray] w fun e w' => e = .returned (.tuple #[.string (showS wd D), .int .i64 (showE wd D)]) ∧ Same w w' := by
  have HF : Hid (∀ W, Calls Tryd.prog 22 #[.int .i64 wd, .agg (bcells D).toArray] W fun e w' => e = .returned (.bool (fitsP wd D)) ∧ Same W w') := fun W => fits_calls W wd _ hD
  have hDs : (bcells D).toArray.size = 32 := by simp [bcells, hD]
  have hYsz : (Tryd.prog.info? 36).map (·.size) = some (bcells D).toArray.size := by rw [Tryd.ainfoD, hDs]
  obtain ⟨Y, hY⟩ : ∃ Y, Y = (bcells D).toArray := ⟨_, rfl⟩
  have HY : Hid (Y = (bcells D).toArray) := hY
  rw [← hY] at HF hDs hYsz ⊢
  clear hY
  obtain ⟨i0, hi, hi0, hi1, hi2⟩ := info_parts Tryd.info5
  unfold showS showE
  by_cases hf : fitsP wd D = true
  · rw [if_pos hf, if_pos hf]
    have hf2 := hf
    unfold fitsP at hf2
    rw [Bool.and_eq_true, decide_eq_true_eq] at hf2
    obtain ⟨⟨hw1, hw2⟩, _⟩ := hf2
    rw [hf] at HF
    obtain ⟨kw, hkw⟩ : ∃ k : Nat, wd = (k : Int) := ⟨wd.toNat, by omega⟩
    subst hkw
    rw [Int.toNat_natCast]
    clear hf
    have hsl := fun W => slice_show W w.heap.size kw (by omega)
    go_enter Tryd.func26, Tryd.ntmps26
    go_wp2_with (first | (refine wpList_load_row (by rfl) 36 _ (by rfl) w.heap.size (by rfl) 36 Y (0, 0) _ (heap_alloc_new w _) Tryd.underlying36 rfl hYsz ?_))
    have s0 : Same w (w.alloc (.cells Y 36)) := (Fr.refl _ w).alloc _
    have r0 : (w.alloc (.cells Y 36)).heap[w.heap.size]? = some (.cells Y 36 (0, 0)) := heap_alloc_new w _
    generalize w.alloc (.cells Y 36) = W0 at *
    refine (HF.out _).mono ?_
    rintro e W1 ⟨rfl, s1⟩
    have r1 : W1.heap[w.heap.size]? = some (.cells Y 36 (0, 0)) := by rw [s1.block _ (lt_of_heap r0) (fun f => f)]; exact r0
    have s01 := s0.trans s1
    clear r0 s0 s1
    go_wp2_with fail
    go_loopg [6, 16] kw (fun g v iv wq => ∃ (k fl : Nat) (ao : Option Addr) (c : Nat), v = .slice ao fl c ∧ fl = 2 * k ∧ iv = .int .i64 k ∧ k ≤ kw ∧ g = kw - k ∧ Hid (wq.ownsRow W1.heap.size 5 1 (.slice ao fl c) fl (bcells (showP (D.take k)))) ∧ Same W1 wq)
    case atStart => exact ⟨0, 0, none, 0, rfl, rfl, rfl, by omega, by omega, ⟨rfl, Or.inl ⟨rfl, rfl⟩⟩, Fr.refl _ _⟩
    case round =>
      obtain ⟨k, fl, ao, c, rfl, hfl, rfl, hk, rfl, hown, sr⟩ := hrel
      by_cases hgo : k < kw
      · obtain ⟨x, hx⟩ : ∃ x, D[k]? = some x := ⟨_, List.getElem?_eq_getElem (by omega)⟩
        have x256 : x.toNat < 256 := by have := x.toBitVec.isLt; exact this
        have rr : W1.cell? ⟨w.heap.size, k, none⟩ = some (.int .u8 (x.toNat : Int)) := by
          rw [cell_of_row _ _ _ _ _ _ r1, HY.out, List.getElem?_toArray, bcells, List.getElem?_map, hx]; rfl
        have cx := sr.keep rr
        have hS1 : ∀ W, Same W1 W → W.cell? ⟨w.heap.size, k, none⟩ = some (.int .u8 (x.toNat : Int)) := fun W sW => sW.keep rr
        obtain ⟨a1, ha1⟩ : ∃ a, a = x.toNat / 16 := ⟨_, rfl⟩
        obtain ⟨a2, ha2⟩ : ∃ a, a = x.toNat % 16 := ⟨_, rfl⟩
        have q1 : (x.toNat : Int) / 16 = (a1 : Int) := by omega
        have q2 : (x.toNat : Int) % 16 = (a2 : Int) := by omega
        have q1' : (x.toNat : Int).tdiv 16 = (a1 : Int) := by rw [Int.tdiv_eq_ediv_of_nonneg (by omega)]; exact q1
        have q2' : (x.toNat : Int).tmod 16 = (a2 : Int) := by rw [Int.tmod_eq_emod_of_nonneg (by omega)]; exact q2
        have w1 : IntKind.u8.wrap (a1 : Int) = (a1 : Int) := by rw [IntKind.wrap_u8]; omega
        have w2 : IntKind.u8.wrap (a2 : Int) = (a2 : Int) := by rw [IntKind.wrap_u8]; omega
        obtain ⟨d1, hd1⟩ : ∃ d : UInt8, d = UInt8.ofNat (hxN a1) := ⟨_, rfl⟩
        obtain ⟨d2, hd2⟩ : ∃ d : UInt8, d = UInt8.ofNat (hxN a2) := ⟨_, rfl⟩
        have n1 := hxN_lt a1 (by omega)
        have n2 := hxN_lt a2 (by omega)
        have t1 : (a1 : Int) < 16 := by omega
        have t2 : (a2 : Int) < 16 := by omega
        have l1 : ∀ h, (⟨#[48, 49, 50, 51, 52, 53, 54, 55, 56, 57, 97, 98, 99, 100, 101, 102]⟩ : ByteArray)[a1]'h = d1 := fun h => by rw [hd1]; exact lit_hx a1 h
        have l2 : ∀ h, (⟨#[48, 49, 50, 51, 52, 53, 54, 55, 56, 57, 97, 98, 99, 100, 101, 102]⟩ : ByteArray)[a2]'h = d2 := fun h => by rw [hd2]; exact lit_hx a2 h
        have an : bits .and .u8 (x.toNat : Int) 15 = (a2 : Int) := by
          rw [ha2]; exact and15 x
        have HX : Hid (showP (D.take (k + 1)) = showP (D.take k) ++ [d1, d2]) := by
          show _ = _
          rw [List.take_add_one, hx]
          show showP (D.take k ++ [x]) = _
          rw [showP_snoc, showB, ← ha1, ← ha2, ← hd1, ← hd2]
        have hown' := hown.out
        have hsz := sr.size
        have hone : ∀ u ∈ [Value.int .u8 (d1.toNat : Int), Value.int .u8 (d2.toNat : Int)], u.oneCell' = true := by intro u hu; simp at hu; rcases hu with rfl | rfl <;> rfl
        have hmx : fl + 2 ≤ maxLen := by unfold maxLen; omega
        have hby : (fl + 2) * 1 ≤ 140737488355328 := by omega
        have hbs : ∀ o, W1.heap.size ≤ (wr.alloc o).drew.heap.size := fun o => by simp; omega
        have hHs : ∀ o, (wr.alloc o).drew.heap.size = wr.heap.size + 1 := fun o => by simp
        have hfar : ∀ b, (Value.slice ao fl c).ownBlock = some b → b < W1.heap.size → False := fun b hb hlt => by have := (hown'.lt b hb).1; omega
        have HFL : Hid (fl = 2 * k) := hfl
        have hk32 : (k : Int) < 32 := by omega
        clear ha1 ha2 hd1 hd2 n1 n2 hx x256 rr hfl hsz
        go_wp2_with fail
        go_region_held3 (fun _ => True) (trivial) (first | (refine step_append_lies _ (by rfl) _ _ _ (by rfl) W1.heap.size 5 i0 (.int .u8 0) 1 1 Tryd.underlying42 hi hi0 hi1 hi2 rfl (by decide) _ _ _ (by rfl) (own_drawn (hown'.alloc _)) ⟨wr.heap.size, 0, none⟩ 2 2 [Value.int .u8 (d1.toNat : Int), Value.int .u8 (d2.toNat : Int)] (by rfl) (by rfl) (World.news_of_block (cs := #[Value.int .u8 (d1.toNat : Int), Value.int .u8 (d2.toNat : Int)]) (heap_alloc_new wr _)) hone (by decide) hmx hby (hbs _) (wr.heap.size + 1) (hHs _) ?_; intro g5 cap5 W5 hown5 hgrow5 hat5 _; have s5 : Same W1 W5 := Fr.grown ((sr.alloc _).drew) hgrow5 hfar))
        all_goals
          have O5 : W5.ownsRow W1.heap.size 5 1 (.slice (some ⟨g5, 0, none⟩) (fl + 2) cap5) (fl + 2) (bcells (showP (D.take (k + 1)))) := by
            rw [HX.out, bcells_append]
            exact hown5
          have hfl := HFL.out
          clear hown5 hgrow5 hat5 hS1 hfar hbs hHs cx HFL
          go_wp2_with fail
          go_roundg (kw - (k + 1))
          case measure => omega
          case rel => exact ⟨k + 1, fl + 2, some ⟨g5, 0, none⟩, cap5, rfl, by omega, by go_num, by omega, rfl, O5, s5⟩
      · obtain rfl : k = kw := by omega
        have hl := showP_length (D.take k)
        rw [List.length_take] at hl
        have ho : Owns wr (.slice ao (showP (D.take k)).length c) (showP (D.take k)) := by
          show World.ownsRow _ _ _ _ _ _ _
          have : (showP (D.take k)).length = fl := by omega
          rw [this]
          exact own_zero hown.out
        have hcv := owns_string (P := Tryd.prog) ho 42 9 Tryd.underlying42 Tryd.underlying5 Tryd.underlying9
        have : (showP (D.take k)).length = fl := by omega
        rw [this] at hcv
        clear ho hown this hl hfl
        go_wp2_with fail
        go_ret2
        exact ⟨rfl, s01.trans sr⟩
  · rw [if_neg hf, if_neg hf]
    rw [Bool.eq_false_iff.2 hf] at HF
    clear hf
    go_enter Tryd.func26, Tryd.ntmps26
    go_wp2_with (first | (refine wpList_load_row (by rfl) 36 _ (by rfl) w.heap.size (by rfl) 36 Y (0, 0) _ (heap_alloc_new w _) Tryd.underlying36 rfl hYsz ?_))
    have s0 : Same w (w.alloc (.cells Y 36)) := (Fr.refl _ w).alloc _
    have r0 : (w.alloc (.cells Y 36)).heap[w.heap.size]? = some (.cells Y 36 (0, 0)) := heap_alloc_new w _
    generalize w.alloc (.cells Y 36) = W0 at *
    refine (HF.out _).mono ?_
    rintro e W1 ⟨rfl, s1⟩
    have r1 : W1.heap[w.heap.size]? = some (.cells Y 36 (0, 0)) := by rw [s1.block _ (lt_of_heap r0) (fun f => f)]; exact r0
    have s01 := s0.trans s1
    clear r0 s0 s1
    go_wp2_with fail
    go_ret2
    exact ⟨rfl, s01⟩
end Go.Proofs.YthkhfblpdekjhaaDoor
