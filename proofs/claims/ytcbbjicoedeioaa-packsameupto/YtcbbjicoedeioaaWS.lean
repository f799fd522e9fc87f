/-
  Walks: a step read back ('back'): a digest.
-/
import Derived.Test.YtcbbjicoedeioaaWR
import Derived.ChangeKeysEq
namespace Go.Proofs.Ytcbbjicoedeioaa
open Go.RowKit

theorem Try.plain8 : Try.prog.plainKey 5 = true := by kernel_rfl
theorem Try.und8 : Try.prog.underlying 5 = some (.int .u8) := by kernel_rfl
theorem Try.cells8 : Try.prog.cellsOf 5 = 1 := by kernel_rfl
theorem Try.aund32 : Try.prog.underlying 51 = some (.array 32 5) := by kernel_rfl
theorem eqItems_self (W : World) (d : Nat) (xs : Array Value) (is : List Nat) (h : ∀ i ∈ is, ∃ n, xs[i]? = some (.int .u8 n)) : (Op.eqItems (d + 1) 5 1 xs xs is).run Try.prog W = .ok true W := by
  induction is with
  | nil => simp [Op.eqItems]
  | cons i is ih =>
    obtain ⟨n, hn⟩ := h i (by simp)
    have h1 : (part 5 xs (i * 1)).run Try.prog W = .ok (.int .u8 n) W := run_part_plain W Try.plain8 (by rw [Nat.mul_one]; exact hn)
    have h2 := run_equalIn_int W d 5 .u8 .u8 n n Try.und8
    simp only [Op.eqItems, Sem.run_bind, h1, h2, Result.andThen_ok]
    simpa using ih (fun j hj => h j (by simp [hj]))
theorem eq_digest (W : World) (D : List UInt8) (hD : D.length = 32) : (Op.equalIn 10000 51 (.agg (bcells D).toArray) (.agg (bcells D).toArray)).run Try.prog W = .ok true W := by
  obtain ⟨i8, hi8⟩ := info_of_underlying Try.und8
  have h1 := run_equalIn_array (w := W) 9999 (bcells D).toArray (bcells D).toArray Try.aund32 hi8
  rw [Try.cells8] at h1
  have h2 := eqItems_self W 9998 (bcells D).toArray (List.range 32) (fun i hi => by
    have hi' : i < 32 := List.mem_range.1 hi
    refine ⟨((D[i]'(by omega)).toNat : Int), ?_⟩
    simp [bcells, hD, hi'])
  rw [h1, h2]

/-- The digest's bytes when those from k to j are 0. -/
def zeroed (D : List UInt8) (k j : Nat) : List UInt8 := D.take k ++ (List.replicate (j - k) 0 ++ D.drop j)
theorem zeroed_length (D : List UInt8) (k j : Nat) (hD : D.length = 32) (hk : k ≤ j) (hj : j ≤ 32) : (zeroed D k j).length = 32 := by
  unfold zeroed; rw [List.length_append, List.length_append, List.length_take, List.length_replicate, List.length_drop]; omega
theorem zeroed_at (D : List UInt8) (k : Nat) : zeroed D k k = D := by
  unfold zeroed; simp
theorem zeroed_end (D : List UInt8) (k : Nat) (hD : D.length = 32) : zeroed D k 32 = D.take k ++ List.replicate (32 - k) 0 := by
  unfold zeroed; rw [List.drop_of_length_le (by omega), List.append_nil]
theorem zeroed_set (D : List UInt8) (k j : Nat) (hD : D.length = 32) (hk : k ≤ j) (hj : j < 32) : (bcells (zeroed D k j)).set j (.int .u8 0) = bcells (zeroed D k (j + 1)) := by
  have e0 : D.drop j = D[j]'(by omega) :: D.drop (j + 1) := List.drop_eq_getElem_cons (by omega)
  have e1 : zeroed D k j = (D.take k ++ List.replicate (j - k) 0) ++ (D[j]'(by omega) :: D.drop (j + 1)) := by
    unfold zeroed; rw [← e0, List.append_assoc]
  have e2 : zeroed D k (j + 1) = (D.take k ++ List.replicate (j - k) 0) ++ (0 :: D.drop (j + 1)) := by
    unfold zeroed; rw [show j + 1 - k = (j - k) + 1 from by omega, List.replicate_succ', List.append_assoc, List.append_assoc]; rfl
  have hl : (bcells (D.take k ++ List.replicate (j - k) 0)).length = j := by rw [bcells_length, List.length_append, List.length_take, List.length_replicate]; omega
  rw [e1, e2, bcells_append _ (D[j]'(by omega) :: D.drop (j + 1)), bcells_append _ (0 :: D.drop (j + 1)), List.set_append_right _ _ (by omega), hl]
  rw [show bcells (D[j]'(by omega) :: D.drop (j + 1)) = .int .u8 ((D[j]'(by omega)).toNat : Int) :: bcells (D.drop (j + 1)) from rfl, Nat.sub_self, List.set_cons_zero]; rfl

/-- A whole array stored into a block of its own. -/
theorem wpList_store_whole {P : Program} {ops : Array Oper} {rest : List Oper} {op : Oper} {a : Act} {w : World} {Q : Exit → Act → World → Prop} (hgd : op.guard = none) (ty : TypeId) (x y : Operand) (ho : op.op = .store ty x y)
    (b : Nat) (cells old : Array Value) (t : TypeId) (hx : a.eval x = .pointer (some ⟨b, 0, none⟩)) (hy : a.eval y = .agg cells) (hb : w.heap[b]? = some (.cells old t (0, 0))) (hl : old.size = cells.size)
    (hi : (P.info? ty).map (·.size) = some cells.size) (h1 : cells.all (·.oneCell') = true)
    (h : ∀ w', w'.heap[b]? = some (.cells cells t (0, 0)) → Fr (fun k => k = b) w w' → wpList P ops Q rest (a.put op.dst undef) w') : wpList P ops Q (op :: rest) a w := by
  have hth : w.there b 0 cells.size := there_row hb hl.symm
  refine wpList_store_mid hgd ty x y ho b 0 cells hx hy hth hi h1 (h _ ?_ (Fr.setCells (S := fun k => k = b) (fun _ => rfl) _ 0 w (Fr.refl _ w)))
  have := setCells_whole cells.toList old hb (by rw [hl, Array.length_toList]) (by rw [Array.length_toList]; exact hth)
  rwa [Array.toArray_toList] at this

theorem range_of_row {w : World} {b : Nat} {cs : List Value} {t : TypeId} (h : w.heap[b]? = some (.cells cs.toArray t (0, 0))) : w.rangeAt b 0 cs := by
  intro j v hj
  rw [Nat.zero_add, cell_of_row _ _ _ _ _ _ h]
  simpa using hj
theorem range_frame {w w' : World} {b : Nat} {cs : List Value} {S : Nat → Prop} (h : w.rangeAt b 0 cs) (k : Fr S w w') (hb : b < w.heap.size) (hn : ¬ S b) : w'.rangeAt b 0 cs := by
  intro j v hj
  rw [k.cell (p := ⟨b, 0 + j, none⟩) hb hn]
  exact h j v hj

set_option maxRecDepth 100000 in
set_option maxHeartbeats 1000000 in
theorem back_13 {w : World} {b : Nat} {S : ByteArray} {p : Nat} (n : Nat) (i : Int) (s : ByteArray) (hs : s.size ≤ 1000000000000) (pa : Option Addr) (pl pc : Nat) (na : Option Addr) (nl nc : Nat) (wd : Int) (m : Nat) (bd : Int) (hR : RdAt w b S p 0) (r : List UInt8) (hst : Stands S p ((dig32 s).take (widthN wd)) r) :
    Calls Try.prog 32 #[.pointer (some ⟨b, 0, none⟩), stepV 13 n i s pa pl pc na nl nc wd m bd] w fun e w' => e = .returned (.bool true) ∧ RdAt w' b S (p + ((dig32 s).take (widthN wd)).length) 0 ∧ RdStep b w w' := by
  have hbw := hR.lt
  have hD := dig32_length s
  have hwd := widthN_le wd
  obtain ⟨E, hE⟩ : ∃ E, E = zeroed (dig32 s) (widthN wd) 32 := ⟨_, rfl⟩
  have hEl : E.length = 32 := by rw [hE]; exact zeroed_length _ _ _ hD hwd (Nat.le_refl _)
  have hlen : ((dig32 s).take (widthN wd)).length = widthN wd := by rw [List.length_take]; omega
  have hat := rRaw_at hst hlen
  have HX : Hid (∀ W, RdAt W b S p 0 → Calls Try.prog 22 #[.pointer (some ⟨b, 0, none⟩), .int .i64 wd] W fun e w' => e = .returned (.agg (bcells E).toArray) ∧ RdAt w' b S (p + ((dig32 s).take (widthN wd)).length) 0 ∧ RdStep b W w') := fun W hW => by
    have := rdigest_calls hW wd
    rw [hat] at this
    have e : padD ⟨((dig32 s).take (widthN wd)).toArray⟩ = E := by
      rw [hE, zeroed_end _ _ hD]
      unfold padD
      have : (ByteArray.mk ((dig32 s).take (widthN wd)).toArray).size = widthN wd := by
        show (((dig32 s).take (widthN wd)).toArray).size = _
        simp [hlen]
      rw [this]
    simp only [e] at this
    rw [hlen]
    exact this
  obtain ⟨c0, c1, c2, c3, c4, c5, c6⟩ := step_cells w 13 n i s pa pl pc na nl nc wd m bd
  have sa : Same w (w.alloc (stepC 13 n i s pa pl pc na nl nc wd m bd)) := (Fr.refl _ w).alloc _
  have HE : Hid (E = zeroed (dig32 s) (widthN wd) 32) := hE
  obtain ⟨A, hA⟩ : ∃ A, A = (bcells (dig32 s)).toArray := ⟨_, rfl⟩
  have hAs : A.size = 32 := by rw [hA]; simp [bcells, hD]
  have hone : A.all (·.oneCell') = true := by
    rw [hA]
    exact all_oneCell_toArray (by intro v hv; simp only [bcells, List.mem_map] at hv; obtain ⟨c, _, rfl⟩ := hv; rfl)
  have hsz : (Try.prog.info? 51).map (·.size) = some A.size := by rw [Try.ainfo, hAs]
  have hszE : (Try.prog.info? 51).map (·.size) = some (bcells E).toArray.size := by rw [Try.ainfo]; simp [bcells, hEl]
  have hszL : (Try.prog.info? 51).map (·.size) = some (bcells E).length := by rw [Try.ainfo]; simp [bcells, hEl]
  have hun := Try.aund32
  have HD : Hid (∀ W, Calls Try.prog 48 #[.string s] W fun e w' => e = .returned (.agg A) ∧ Same W w') := fun W => by rw [hA]; exact ldigest_calls W s (by omega)
  have HA : Hid (A = (bcells (dig32 s)).toArray) := hA
  have HAs : Hid (A.size = 32) := hAs
  have hEq := fun W => eq_digest W E hEl
  clear hat hE hA hAs
  go_enter Try.func32, Try.ntmps32
  go_wp2_with fail
  refine (lsize_other _ 13 (by omega)).mono ?_
  rintro e W1 ⟨rfl, s1⟩
  have d0 := (s1.cell (World.block_lt_of_cell? _ _ c0) (fun f => f)).trans c0
  have d3 := (s1.cell (World.block_lt_of_cell? _ _ c3) (fun f => f)).trans c3
  have d6 := (s1.cell (World.block_lt_of_cell? _ _ c6) (fun f => f)).trans c6
  have hw1 : Same w W1 := Fr.trans sa s1 (fun _ _ f => f)
  have hwl : w.heap.size < W1.heap.size := World.block_lt_of_cell? _ _ d0
  clear c0 c1 c2 c3 c4 c5 c6 s1 sa
  go_wp2_with fail
  refine (HD.out _).mono ?_
  rintro e W2 ⟨rfl, s2⟩
  have e6 := (s2.cell (World.block_lt_of_cell? _ _ d6) (fun f => f)).trans d6
  have hw2 : Same w W2 := Fr.trans hw1 s2 (fun _ _ f => f)
  have hwl2 : w.heap.size < W2.heap.size := World.block_lt_of_cell? _ _ e6
  go_wp2_with (first | (refine wpList_store_whole (by rfl) 51 _ _ (by rfl) W2.heap.size A _ 51 (by rfl) (by rfl) (heap_alloc_new W2 _) (by rw [HAs.out]; rfl) hsz hone ?_; intro W3 r3 f3; have s3 : Same W2 W3 := Fr.trans ((Fr.refl _ W2).alloc _) f3 (fun i hi e => by omega); have g6 := (s3.cell (World.block_lt_of_cell? _ _ e6) (fun f => f)).trans e6; clear f3))
  all_goals
    go_loopw [9] (fun iv wr => ∃ j : Nat, iv = .int .i64 j ∧ widthN wd ≤ j ∧ j ≤ 32 ∧ wr.heap[W2.heap.size]? = some (.cells (bcells (zeroed (dig32 s) (widthN wd) j)).toArray 51 (0, 0)) ∧ Fr (fun k => k = W2.heap.size) W3 wr)
      (fun iv _ => 32 - (intOf iv).toNat)
    case atStart => exact ⟨widthN wd, by unfold widthN; congr 1; omega, Nat.le_refl _, hwd, by rw [zeroed_at, ← HA.out]; exact r3, Fr.refl _ _⟩
    case round =>
      obtain ⟨j, rfl, hj0, hj, hrow, hst3⟩ := hrel
      have g6' := (hst3.cell (World.block_lt_of_cell? _ _ g6) (by simp only; omega)).trans g6
      by_cases hgo : j < 32
      · have hcx : ∃ v, wr.cell? ⟨W2.heap.size, j, none⟩ = some v := by
          rw [cell_of_row _ _ _ _ _ _ hrow]
          have := zeroed_length (dig32 s) (widthN wd) j hD hj0 hj
          exact ⟨_, Array.getElem?_eq_getElem (by simp [bcells]; omega)⟩
        obtain ⟨vold, hcx⟩ := hcx
        have hfx := frozen_of_row wr W2.heap.size j _ _ hrow
        have R1 : (wr.setCell ⟨W2.heap.size, j, none⟩ (.int .u8 0)).heap[W2.heap.size]? = some (.cells (bcells (zeroed (dig32 s) (widthN wd) (j + 1))).toArray 51 (0, 0)) := by
          rw [heap_setCell_same wr _ j _ _ _ hrow, ← zeroed_set _ _ _ hD hj0 hgo]; simp
        have R3 : Fr (fun k => k = W2.heap.size) W3 (wr.setCell ⟨W2.heap.size, j, none⟩ (.int .u8 0)) := hst3.setCell (p := ⟨W2.heap.size, j, none⟩) (fun _ => rfl) _
        clear hrow hst3
        go_wp2_with fail
        go_roundw
        case rel => exact ⟨j + 1, by go_num, by omega, by omega, R1, R3⟩
        case measure => simp [intOf]; omega
      · obtain rfl : j = 32 := by omega
        rw [← HE.out] at hrow
        have h1 : RdAt wr b S p 0 := (hR.same (Fr.trans hw2 s3 (fun _ _ f => f))).frame hst3 (by omega)
        have q4 : wr.rangeAt W2.heap.size 0 (bcells E) := range_of_row hrow
        have hlt4 := lt_of_heap hrow
        have hne1 : ¬ W2.heap.size = b := by omega
        have hne2 : ¬ w.heap.size = b := by omega
        go_wp2_with fail
        go_region_held3 (fun w' => w'.cell? ⟨w.heap.size, 6, none⟩ = some (.int .i64 wd) ∧ w'.rangeAt W2.heap.size 0 (bcells E)) (first | go_keep | exact ⟨k6, r4⟩)
          (first
            | (go_at_call 22; refine (HX.out _ ?_).mono ?_; (exact h1.same ((Fr.refl _ wr).drew)); rintro e W4 ⟨rfl, h4, st4⟩; have r4 : W4.rangeAt W2.heap.size 0 (bcells E) := range_frame (w := wr.drew) (S := fun k => k = b) q4 st4 hlt4 hne1; have k6 := (Fr.cell (S := fun k => k = b) st4 (p := ⟨w.heap.size, 6, none⟩) (World.block_lt_of_cell? _ _ g6') hne2).trans g6'))
        go_wp2_with fail
        go_ret
        have hwr : Same w wr := Fr.trans (Fr.trans hw2 s3 (fun _ _ f => f)) hst3 (fun i hi e => by omega)
        exact ⟨rfl, h4, RdStep.trans (Same.rd hwr b) (RdStep.trans (Fr.drew (Fr.refl _ wr)) st4)⟩
end Go.Proofs.Ytcbbjicoedeioaa
