/- free: slices.Concat over batches, slices.Clone over numbers. -/
import Derived.Test.YtneopkhkkfckcaaEX
import Derived.Deep.LoopGhost
import Derived.Lib.AppendZerosOnto
import Derived.Laws.AppendOwnNone
import Derived.Shelf.Spec.SlicesGrow
namespace Go.Proofs.Ytneopkhkkfckcaa
open Go.RowKit

set_option maxRecDepth 100000 in
set_option maxHeartbeats 1000000 in
theorem growBats {n : Nat} (w : World) (hn : n ≤ 1073741824) :
    Calls Try.prog 33 #[.slice none 0 0, .int .i64 (n : Int)] w fun e w' => ∃ ao c, e = .returned (.slice ao 0 c) ∧ w'.ownsRow w.heap.size 55 2 (.slice ao 0 c) 0 [] ∧ Same w w' := by
  rcases Nat.eq_zero_or_pos n with rfl | h0
  · go_enter Try.func33, Try.ntmps33
    go_wp2_with fail
    go_ret
    exact ⟨none, 0, rfl, own_nil, Fr.refl _ _⟩
  · obtain ⟨i0, hi, hz0, hz1, hz2⟩ := info_parts Try.infBt
    have hG := grownCap_ge w (0 + n) 0 55
    have hG2 := grownCap_le_maxLen w (0 + n) 0 55 (by unfold maxLen; omega)
    have hrz : ∀ ty, (Builtin.append_ #[22, 3] ty #[.slice none 0 0, .int .i64 (n : Int)]).run Try.prog w = .ok (.slice (some ⟨w.heap.size, 0, none⟩) (0 + n) (grownCap w (0 + n) 0 55)) (w.drew.alloc (.cells ((([] : List Value).toArray) ++ Builtin.zeroCells (Value.cells (.agg #[.int .u32 0, .slice none 0 0])) n ++ Builtin.zeroCells (Value.cells (.agg #[.int .u32 0, .slice none 0 0])) (grownCap w (0 + n) 0 55 - (0 + n))) 55)) := fun ty =>
      Lib.run_append_grow_zeros w 22 3 ty 55 i0 (.agg #[.int .u32 0, .slice none 0 0]) .i64 .i64 Try.underlying22 Try.underlying3 hi hz0 none 0 0 [] (run_firstCells_none w.drew _ 0 0 0) n h0 (by omega) (by omega) (by omega) (by rw [hz2]; omega) (by rw [hz2]; exact growslice_fits (by omega) (by omega))
    rw [Nat.zero_add] at hG hG2 hrz
    obtain ⟨G, hGG⟩ : ∃ G, G = grownCap w n 0 55 := ⟨_, rfl⟩
    rw [← hGG] at hrz hG hG2
    clear hGG
    unfold maxLen at hG2
    have hown : (w.drew.alloc (.cells ((([] : List Value).toArray) ++ Builtin.zeroCells (Value.cells (.agg #[.int .u32 0, .slice none 0 0])) n ++ Builtin.zeroCells (Value.cells (.agg #[.int .u32 0, .slice none 0 0])) (G - n)) 55)).ownsRow w.heap.size 55 2 (.slice (some ⟨w.heap.size, 0, none⟩) 0 G) 0 [] := by
      refine ⟨by simp, Or.inr ⟨w.heap.size, G, _, rfl, Nat.le_refl _, heap_alloc_new w.drew _, by omega, by unfold maxLen; omega, ?_, by simp⟩⟩
      rw [Array.size_append, Array.size_append, size_zeroCells, size_zeroCells, show (Value.cells (.agg #[.int .u32 0, .slice none 0 0])).size = 2 from rfl]
      show 0 + n * 2 + (G - n) * 2 = G * 2
      omega
    have s1 : Same w (w.drew.alloc (.cells ((([] : List Value).toArray) ++ Builtin.zeroCells (Value.cells (.agg #[.int .u32 0, .slice none 0 0])) n ++ Builtin.zeroCells (Value.cells (.agg #[.int .u32 0, .slice none 0 0])) (G - n)) 55)) := (Fr.drew (Fr.refl _ w)).alloc _
    generalize (w.drew.alloc (.cells ((([] : List Value).toArray) ++ Builtin.zeroCells (Value.cells (.agg #[.int .u32 0, .slice none 0 0])) n ++ Builtin.zeroCells (Value.cells (.agg #[.int .u32 0, .slice none 0 0])) (G - n)) 55)) = W1 at *
    go_enter Try.func33, Try.ntmps33
    go_wp2_with (at_builtin; refine Lib.wpList_append_run _ rfl _ _ _ _ rfl _ _ rfl rfl _ _ (hrz _) ?_)
    go_ret
    exact ⟨_, _, rfl, hown, s1⟩
def partsN (L : List Part) : Nat := (L.map (·.n)).sum
def partsC (L : List Part) : List Value := L.flatMap (·.cells)
theorem partsN_take {L : List Part} {k : Nat} {x : Part} (hx : L[k]? = some x) : partsN (L.take (k + 1)) = partsN (L.take k) + x.n := by
  unfold partsN; rw [List.take_add_one, hx]; simp
theorem partsC_take {L : List Part} {k : Nat} {x : Part} (hx : L[k]? = some x) : partsC (L.take (k + 1)) = partsC (L.take k) ++ x.cells := by
  unfold partsC; rw [List.take_add_one, hx]; simp
theorem partsN_le (L : List Part) (k : Nat) : partsN (L.take k) ≤ partsN L := by
  unfold partsN
  induction L generalizing k with
  | nil => simp
  | cons x L ih =>
    cases k with
    | zero => simp
    | succ k => have := ih k; simp only [List.take_succ_cons, List.map_cons, List.sum_cons]; omega
set_option maxRecDepth 100000 in
set_option maxHeartbeats 1000000 in
theorem concatBats {gb cc : Nat} {L : List Part} (w : World) (hL : ∀ j x, L[j]? = some x → w.cell? ⟨gb, j, none⟩ = some (.slice x.ao x.n x.c)) (hp : ∀ x ∈ L, PartOk w 2 x) (hlen : L.length ≤ 1048576) (hN : partsN L ≤ 1048576) :
    Calls Try.prog 19 #[.slice (some ⟨gb, 0, none⟩) L.length cc] w fun e w' => ∃ ao c, e = .returned (.slice ao (partsN L) c) ∧ w'.ownsRow w.heap.size 55 2 (.slice ao (partsN L) c) (partsN L) (partsC L) ∧ Same w w' := by
  have HL : Hid (∀ j x, L[j]? = some x → w.cell? ⟨gb, j, none⟩ = some (.slice x.ao x.n x.c)) := hL
  have HP : Hid (∀ x ∈ L, PartOk w 2 x) := hp
  obtain ⟨i0, hi, hz0, hz1, hz2⟩ := info_parts Try.infBt
  clear hL hp
  go_enter Try.func19, Try.ntmps19
  go_wp2_with fail
  go_loopg [3, 11] L.length (fun g sv iv wr => ∃ k : Nat, sv = .int .i64 (partsN (L.take k) : Int) ∧ iv = .int .i64 (k : Int) ∧ k ≤ L.length ∧ g = L.length - k ∧ w = wr)
  case atStart => exact ⟨0, rfl, rfl, by omega, rfl, rfl⟩
  case round =>
    obtain ⟨k, rfl, rfl, hk, hg, rfl⟩ := hrel
    by_cases hgo : k < L.length
    · obtain ⟨x, hx⟩ : ∃ x, L[k]? = some x := ⟨_, List.getElem?_eq_getElem hgo⟩
      have c0 := HL.out k x hx
      have e1 := partsN_take hx
      have e2 := partsN_le L (k + 1)
      have HE : Hid (partsN (L.take (k + 1)) = partsN (L.take k) + x.n) := e1
      generalize partsN (L.take k) = S at *
      generalize partsN L = T at *
      rw [e1] at e2
      clear e1 hx
      go_wp2_with fail
      go_roundg (L.length - (k + 1))
      case measure => omega
      case rel => exact ⟨k + 1, by rw [HE.out, Int.natCast_add], by go_num, by omega, rfl, rfl⟩
    · obtain rfl : k = L.length := by omega
      rw [List.take_length]
      go_wp2_with fail
      refine (growBats w (by omega)).mono ?_
      rintro e W1 ⟨ao0, c0, rfl, own0, s0⟩
      go_wp2_with fail
      go_loopg [6, 27] L.length (fun g sv iv w2 => ∃ (k : Nat) (ao : Option Addr) (c : Nat), sv = .slice ao (partsN (L.take k)) c ∧ iv = .int .i64 (k : Int) ∧ k ≤ L.length ∧ g = L.length - k ∧ Hid (w2.ownsRow w.heap.size 55 2 (.slice ao (partsN (L.take k)) c) (partsN (L.take k)) (partsC (L.take k))) ∧ Hid (Same w w2))
      case atStart => exact ⟨0, ao0, c0, rfl, rfl, by omega, rfl, own0, s0⟩
      case round =>
        obtain ⟨k, ao, c, rfl, rfl, hk, hg, HO, HS⟩ := hrel
        by_cases hgo : k < L.length
        · obtain ⟨x, hx⟩ : ∃ x, L[k]? = some x := ⟨_, List.getElem?_eq_getElem hgo⟩
          have c0 := HS.out.keep (HL.out k x hx)
          have e1 := partsN_take hx
          have e2 := partsN_le L (k + 1)
          have e3 := partsC_take hx
          have hpk := (HP.out x (List.mem_of_getElem? hx)).same HS.out
          rw [e1] at e2
          have HE1 : Hid (partsN (L.take (k + 1)) = partsN (L.take k) + x.n) := e1
          have HE3 : Hid (partsC (L.take (k + 1)) = partsC (L.take k) ++ x.cells) := e3
          obtain ⟨xa, xn, xc, xs⟩ := x
          simp only at c0 e2 HE1 HE3
          have h1 : xs.length = xn * 2 := hpk.len
          have h2 : Hid (∀ u ∈ xs, u.oneCell' = true) := hpk.one
          have h3 : Hid (∀ a, xa = some a → ∀ j u, xs[j]? = some u → wr.cell? (a.add j) = some u) := hpk.at_
          have h4 : xa = none → xn = 0 ∧ xc = 0 := hpk.none
          clear e1 e3 hx hpk
          cases xa with
          | some a =>
            go_wp2_with (at_builtin; go_must (refine wpList_append_own _ (by rfl) _ _ _ (by rfl) w.heap.size 55 i0 (.agg #[.int .u32 0, .slice none 0 0]) 2 32 Try.underlying22 hi hz0 hz1 hz2 rfl (by decide) _ _ _ (by rfl) HO.out a xn xc xs (by rfl) h1 (h3.out a rfl) h2.out (by unfold maxLen; omega) (by omega) HS.out.size ?_))
            intro v1 w1 hown hgrow _
            obtain ⟨ao1, cc1, rfl⟩ := own_shape hown
            have s1 : Hid (Same w w1) := Fr.grown HS.out hgrow (fun kk hk2 hlt => by
              cases ao with
              | none => cases hk2
              | some z => have := own_ge HO.out; simp [Value.ownBlock] at hk2; omega)
            rw [← HE1.out, ← HE3.out] at hown
            have HO1 : Hid (w1.ownsRow w.heap.size 55 2 (.slice ao1 (partsN (L.take (k + 1))) cc1) (partsN (L.take (k + 1))) (partsC (L.take (k + 1)))) := hown
            clear hgrow hown
            go_wp2_with fail
            go_roundg (L.length - (k + 1))
            case measure => omega
            case rel => exact ⟨k + 1, ao1, cc1, by rw [HE1.out], by go_num, by omega, rfl, HO1, s1⟩
          | none =>
            obtain ⟨hxn, hxc⟩ := h4 rfl
            subst hxn hxc
            have hxs : xs = [] := List.eq_nil_of_length_eq_zero (by omega)
            subst hxs
            rw [Nat.add_zero] at HE1
            rw [List.append_nil] at HE3
            have HO1 : Hid (wr.ownsRow w.heap.size 55 2 (.slice ao (partsN (L.take (k + 1))) c) (partsN (L.take (k + 1))) (partsC (L.take (k + 1)))) := by
              show World.ownsRow _ _ _ _ _ _ _
              rw [HE1.out, HE3.out]; exact HO.out
            go_wp2_with (at_builtin; go_must (refine wpList_append_own_none (by rfl) _ _ _ (by rfl) w.heap.size 55 i0 2 Try.underlying22 hi _ _ _ (by rfl) HO.out (by rfl) ?_))
            go_roundg (L.length - (k + 1))
            case measure => omega
            case rel => exact ⟨k + 1, ao, c, by rw [HE1.out]; rfl, by go_num, by omega, rfl, HO1, HS⟩
        · obtain rfl : k = L.length := by omega
          rw [List.take_length] at HO ⊢
          go_wp2_with fail
          go_ret
          exact ⟨ao, c, rfl, HO.out, HS.out⟩
theorem keepA' {W : World} {a : Addr} {v : Value} (h : W.cell? a = some v) (o : Obj) : (W.alloc o).cell? a = some v := (World.cell?_alloc_lt _ _ _ (World.block_lt_of_cell? W _ h)).trans h
theorem Try.nilSomeNums (W : World) (a : Addr) (n c : Nat) : (binOp .eql 23 (.slice (some a) n c) (.slice none 0 0)).run Try.prog W = .ok (.bool false) W := by kernel_rfl
theorem Try.nilNoneNums (W : World) (n c : Nat) : (binOp .eql 23 (.slice none n c) (.slice none 0 0)).run Try.prog W = .ok (.bool true) W := by kernel_rfl
set_option maxRecDepth 100000 in
set_option maxHeartbeats 1000000 in
theorem cloneNums_core {a : Addr} {n cp : Nat} {news : List Value} (w : World) (hl : news.length = n * 1) (hnews : ∀ j u, news[j]? = some u → w.cell? (a.add j) = some u) (h1 : ∀ u ∈ news, u.oneCell' = true) (hn : n ≤ 1048576) :
    Calls Try.prog 20 #[.slice (some a) n cp] w fun e w' => ∃ v, e = .returned v ∧ w'.ownsRow w.heap.size 24 1 v n news ∧ Same w w' := by
  have hnil := Try.nilSomeNums
  obtain ⟨i0, hi, hz0, hz1, hz2⟩ := info_parts Try.infU32
  have hown0 : (w.alloc (.cells #[] 24)).ownsRow w.heap.size 24 1 (.slice (some ⟨w.heap.size, 0, none⟩) 0 0) 0 [] := ⟨by simp, Or.inr ⟨w.heap.size, 0, #[], rfl, Nat.le_refl _, heap_alloc_new w _, Nat.le_refl _, by unfold maxLen; omega, by simp, by simp⟩⟩
  have HNW : Hid (∀ j u, news[j]? = some u → (w.alloc (.cells #[] 24)).cell? (a.add j) = some u) := fun j u hj => keepA' (hnews j u hj) _
  have h1' : Hid (∀ u ∈ news, u.oneCell' = true) := h1
  clear h1 hnews
  go_enter Try.func20, Try.ntmps20
  go_wp2_with (at_builtin; go_must (refine wpList_append_own _ (by rfl) _ _ _ (by rfl) w.heap.size 24 i0 (.int .u32 0) 1 4 Try.underlying23 hi hz0 hz1 hz2 rfl (by decide) _ 0 [] (by rfl) hown0 a n cp news (by rfl) hl HNW.out h1'.out (by unfold maxLen; omega) (by omega) (by simp) ?_))
  intro v1 w1 hown hgrow _
  have s1 : Same w w1 := Fr.grown ((Fr.refl _ w).alloc _) hgrow (fun k hk hlt => by simp [Value.ownBlock] at hk; omega)
  clear hgrow
  go_wp2_with fail
  go_ret
  exact ⟨_, rfl, hown, s1⟩
set_option maxRecDepth 100000 in
theorem cloneNums_nil {n cp : Nat} (w : World) :
    Calls Try.prog 20 #[.slice none n cp] w fun e w' => e = .returned (.slice none 0 0) ∧ Same w w' := by
  have hnil := Try.nilNoneNums
  go_enter Try.func20, Try.ntmps20
  go_wp2_with fail
  go_ret
  exact ⟨rfl, Fr.refl _ _⟩
end Go.Proofs.Ytneopkhkkfckcaa
