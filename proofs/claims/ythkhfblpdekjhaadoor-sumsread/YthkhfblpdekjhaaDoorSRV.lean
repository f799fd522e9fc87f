/-
  Walks: the document's Show.
-/
import Derived.Test.YthkhfblpdekjhaaDoorSRQ
import Derived.Deep.RegionHeld3
import Derived.Deep.AppendLies
namespace Go.Proofs.YthkhfblpdekjhaaDoor
open Go.RowKit

theorem own_zero {B : Nat} {e : TypeId} {w : World} {v : Value} {n : Nat} {xs : List Value} (h : w.ownsRow B e 1 v n xs) : w.ownsRow 0 e 1 v n xs := by
  obtain ⟨h1, h2⟩ := h
  refine ⟨h1, ?_⟩
  rcases h2 with h2 | ⟨g, cap, cs, a, _, b⟩
  · exact Or.inl h2
  · exact Or.inr ⟨g, cap, cs, a, Nat.zero_le _, b⟩
theorem own_drawn {w : World} {B n : Nat} {e : TypeId} {v : Value} {xs : List Value} (h : w.ownsRow B e 1 v n xs) : w.drew.ownsRow B e 1 v n xs := h
def showS (wd : Int) (D : List UInt8) : ByteArray := if fitsP wd D then ⟨(showP (D.take wd.toNat)).toArray⟩ else ⟨#[]⟩
def showE (wd : Int) (D : List UInt8) : Int := if fitsP wd D then 0 else 2

set_option maxRecDepth 100000 in
set_option maxHeartbeats 1000000 in
theorem rshow_calls (w : World) (wd : Int) (D : List UInt8) (hD : D.length = 32) : Calls Tryd.prog 27 #[.int .i64 wd, .agg (bcells D).toArray] w fun e w' => e = .returned (.tuple #[.string (showS wd D), .int .i64 (showE wd D)]) ∧ Same w w' := by
  have HF : Hid (∀ W, Calls Tryd.prog 23 #[.int .i64 wd, .agg (bcells D).toArray] W fun e w' => e = .returned (.bool (fitsP wd D)) ∧ Same W w') := fun W => rfits_calls W wd _ hD
  have HG : Hid (∀ W (n : Nat), n < 16 → Calls Tryd.prog 43 #[.int .u8 n] W fun e w' => e = .returned (.int .u8 (hxN n : Nat)) ∧ w' = W) := fun W n h => rdigit_calls W n h
  have hDs : (bcells D).toArray.size = 32 := by simp [bcells, hD]
  have hYsz : (Tryd.prog.info? 36).map (·.size) = some (bcells D).toArray.size := by rw [Tryd.ainfoD, hDs]
  obtain ⟨Y, hY⟩ : ∃ Y, Y = (bcells D).toArray := ⟨_, rfl⟩
  have HY : Hid (Y = (bcells D).toArray) := hY
  rw [← hY] at HF hDs hYsz ⊢
  clear hY
  obtain ⟨i0, hi, hi0, hi1, hi2⟩ := info_parts Tryd.info5
  unfold showS showE
  by_cases hf : fitsP wd D = true
  · rw [if_pos hf, if_pos hf]
    have hf2 := hf
    unfold fitsP at hf2
    rw [Bool.and_eq_true, decide_eq_true_eq] at hf2
    obtain ⟨⟨hw1, hw2⟩, _⟩ := hf2
    rw [hf] at HF
    obtain ⟨kw, hkw⟩ : ∃ k : Nat, wd = (k : Int) := ⟨wd.toNat, by omega⟩
    subst hkw
    rw [Int.toNat_natCast]
    clear hf
    go_enter Tryd.func27, Tryd.ntmps27
    go_wp2_with (first | (refine wpList_load_row (by rfl) 36 _ (by rfl) w.heap.size (by rfl) 36 Y (0, 0) _ (heap_alloc_new w _) Tryd.underlying36 rfl hYsz ?_))
    have s0 : Same w (w.alloc (.cells Y 36)) := (Fr.refl _ w).alloc _
    have r0 : (w.alloc (.cells Y 36)).heap[w.heap.size]? = some (.cells Y 36 (0, 0)) := heap_alloc_new w _
    generalize w.alloc (.cells Y 36) = W0 at *
    refine (HF.out _).mono ?_
    rintro e W1 ⟨rfl, s1⟩
    have r1 : W1.heap[w.heap.size]? = some (.cells Y 36 (0, 0)) := by rw [s1.block _ (lt_of_heap r0) (fun f => f)]; exact r0
    have s01 := s0.trans s1
    clear r0 s0 s1
    go_wp2_with fail
    go_loopg [6, 7] kw (fun g v iv wq => ∃ (k fl : Nat) (ao : Option Addr) (c : Nat), v = .slice ao fl c ∧ fl = 2 * k ∧ iv = .int .i64 k ∧ k ≤ kw ∧ g = kw - k ∧ Hid (wq.ownsRow W1.heap.size 5 1 (.slice ao fl c) fl (bcells (showP (D.take k)))) ∧ Same W1 wq)
    case atStart => exact ⟨0, 0, none, 0, rfl, rfl, rfl, by omega, by omega, ⟨rfl, Or.inl ⟨rfl, rfl⟩⟩, Fr.refl _ _⟩
    case round =>
      obtain ⟨k, fl, ao, c, rfl, hfl, rfl, hk, rfl, hown, sr⟩ := hrel
      by_cases hgo : k < kw
      · obtain ⟨x, hx⟩ : ∃ x, D[k]? = some x := ⟨_, List.getElem?_eq_getElem (by omega)⟩
        have x256 : x.toNat < 256 := by have := x.toBitVec.isLt; exact this
        have rr : W1.cell? ⟨w.heap.size, k, none⟩ = some (.int .u8 (x.toNat : Int)) := by
          rw [cell_of_row _ _ _ _ _ _ r1, HY.out, List.getElem?_toArray, bcells, List.getElem?_map, hx]; rfl
        have cx := sr.keep rr
        have hS1 : ∀ W, Same W1 W → W.cell? ⟨w.heap.size, k, none⟩ = some (.int .u8 (x.toNat : Int)) := fun W sW => sW.keep rr
        obtain ⟨a1, ha1⟩ : ∃ a, a = x.toNat / 16 := ⟨_, rfl⟩
        obtain ⟨a2, ha2⟩ : ∃ a, a = x.toNat % 16 := ⟨_, rfl⟩
        have q1 : (x.toNat : Int) / 16 = (a1 : Int) := by omega
        have q2 : (x.toNat : Int) % 16 = (a2 : Int) := by omega
        have q1' : (x.toNat : Int).tdiv 16 = (a1 : Int) := by rw [Int.tdiv_eq_ediv_of_nonneg (by omega)]; exact q1
        have q2' : (x.toNat : Int).tmod 16 = (a2 : Int) := by rw [Int.tmod_eq_emod_of_nonneg (by omega)]; exact q2
        have w1 : IntKind.u8.wrap (a1 : Int) = (a1 : Int) := by rw [IntKind.wrap_u8]; omega
        have w2 : IntKind.u8.wrap (a2 : Int) = (a2 : Int) := by rw [IntKind.wrap_u8]; omega
        obtain ⟨d1, hd1⟩ : ∃ d : UInt8, d = UInt8.ofNat (hxN a1) := ⟨_, rfl⟩
        obtain ⟨d2, hd2⟩ : ∃ d : UInt8, d = UInt8.ofNat (hxN a2) := ⟨_, rfl⟩
        have n1 := hxN_lt a1 (by omega)
        have n2 := hxN_lt a2 (by omega)
        have G1 : Hid (∀ W, Calls Tryd.prog 43 #[.int .u8 (a1 : Int)] W fun e w' => e = .returned (.int .u8 (d1.toNat : Int)) ∧ w' = W) := by
          intro W
          have h := HG.out W a1 (by omega)
          have e : hxN a1 = d1.toNat := by rw [hd1, UInt8.toNat_ofNat']; omega
          rw [e] at h
          exact h
        have G2 : Hid (∀ W, Calls Tryd.prog 43 #[.int .u8 (a2 : Int)] W fun e w' => e = .returned (.int .u8 (d2.toNat : Int)) ∧ w' = W) := by
          intro W
          have h := HG.out W a2 (by omega)
          have e : hxN a2 = d2.toNat := by rw [hd2, UInt8.toNat_ofNat']; omega
          rw [e] at h
          exact h
        have HX : Hid (showP (D.take (k + 1)) = showP (D.take k) ++ [d1, d2]) := by
          show _ = _
          rw [List.take_add_one, hx]
          show showP (D.take k ++ [x]) = _
          rw [showP_snoc, showB, ← ha1, ← ha2, ← hd1, ← hd2]
        have hown' := hown.out
        have hsz := sr.size
        have hone : ∀ u ∈ [Value.int .u8 (d1.toNat : Int), Value.int .u8 (d2.toNat : Int)], u.oneCell' = true := by intro u hu; simp at hu; rcases hu with rfl | rfl <;> rfl
        have hmx : fl + 2 ≤ maxLen := by unfold maxLen; omega
        have hby : (fl + 2) * 1 ≤ 140737488355328 := by omega
        have hbs : ∀ o, W1.heap.size ≤ (wr.alloc o).drew.heap.size := fun o => by simp; omega
        have hHs : ∀ o, (wr.alloc o).drew.heap.size = wr.heap.size + 1 := fun o => by simp
        have hfar : ∀ b, (Value.slice ao fl c).ownBlock = some b → b < W1.heap.size → False := fun b hb hlt => by have := (hown'.lt b hb).1; omega
        have HFL : Hid (fl = 2 * k) := hfl
        have hk32 : (k : Int) < 32 := by omega
        clear ha1 ha2 hd1 hd2 n1 n2 hx x256 rr hfl hsz
        go_wp2_with fail
        go_region_held3 (fun w' => w'.cell? ⟨w.heap.size, k, none⟩ = some (.int .u8 (x.toNat : Int))) (first | go_keep | exact k4) (first | (go_at_call 43; with_reducible refine (G1.out _).mono ?_; rintro e V1 ⟨rfl, rfl⟩) | (go_at_call 43; with_reducible refine (G2.out _).mono ?_; rintro e V1 ⟨rfl, rfl⟩) | (refine step_append_lies _ (by rfl) _ _ _ (by rfl) W1.heap.size 5 i0 (.int .u8 0) 1 1 Tryd.underlying42 hi hi0 hi1 hi2 rfl (by decide) _ _ _ (by rfl) (own_drawn (hown'.alloc _)) ⟨wr.heap.size, 0, none⟩ 2 2 [Value.int .u8 (d1.toNat : Int), Value.int .u8 (d2.toNat : Int)] (by rfl) (by rfl) (World.news_of_block (cs := #[Value.int .u8 (d1.toNat : Int), Value.int .u8 (d2.toNat : Int)]) (heap_alloc_new wr _)) hone (by decide) hmx hby (hbs _) (wr.heap.size + 1) (hHs _) ?_; intro g5 cap5 W5 hown5 hgrow5 hat5 _; have s5 : Same W1 W5 := Fr.grown ((sr.alloc _).drew) hgrow5 hfar; have k4 := hS1 W5 s5))
        have O5 : W5.ownsRow W1.heap.size 5 1 (.slice (some ⟨g5, 0, none⟩) (fl + 2) cap5) (fl + 2) (bcells (showP (D.take (k + 1)))) := by
          rw [HX.out, bcells_append]
          exact hown5
        have hfl := HFL.out
        clear k4 hown5 hgrow5 hat5 hS1 hfar hbs hHs cx HFL
        go_wp2_with fail
        go_roundg (kw - (k + 1))
        case measure => omega
        case rel => exact ⟨k + 1, fl + 2, some ⟨g5, 0, none⟩, cap5, rfl, by omega, by go_num, by omega, rfl, O5, s5⟩
      · obtain rfl : k = kw := by omega
        have hl := showP_length (D.take k)
        rw [List.length_take] at hl
        have ho : Owns wr (.slice ao (showP (D.take k)).length c) (showP (D.take k)) := by
          show World.ownsRow _ _ _ _ _ _ _
          have : (showP (D.take k)).length = fl := by omega
          rw [this]
          exact own_zero hown.out
        have hcv := owns_string (P := Tryd.prog) ho 42 9 Tryd.underlying42 Tryd.underlying5 Tryd.underlying9
        have : (showP (D.take k)).length = fl := by omega
        rw [this] at hcv
        clear ho hown this hl hfl
        go_wp2_with fail
        go_ret2
        exact ⟨rfl, s01.trans sr⟩
  · rw [if_neg hf, if_neg hf]
    rw [Bool.eq_false_iff.2 hf] at HF
    clear hf
    go_enter Tryd.func27, Tryd.ntmps27
    go_wp2_with (first | (refine wpList_load_row (by rfl) 36 _ (by rfl) w.heap.size (by rfl) 36 Y (0, 0) _ (heap_alloc_new w _) Tryd.underlying36 rfl hYsz ?_))
    have s0 : Same w (w.alloc (.cells Y 36)) := (Fr.refl _ w).alloc _
    have r0 : (w.alloc (.cells Y 36)).heap[w.heap.size]? = some (.cells Y 36 (0, 0)) := heap_alloc_new w _
    generalize w.alloc (.cells Y 36) = W0 at *
    refine (HF.out _).mono ?_
    rintro e W1 ⟨rfl, s1⟩
    have r1 : W1.heap[w.heap.size]? = some (.cells Y 36 (0, 0)) := by rw [s1.block _ (lt_of_heap r0) (fun f => f)]; exact r0
    have s01 := s0.trans s1
    clear r0 s0 s1
    go_wp2_with fail
    go_ret2
    exact ⟨rfl, s01⟩
end Go.Proofs.YthkhfblpdekjhaaDoor
