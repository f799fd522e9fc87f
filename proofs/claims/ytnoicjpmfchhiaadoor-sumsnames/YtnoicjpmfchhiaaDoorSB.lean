/-
  Walks: Sum of a Hash.
-/
import Derived.Test.YtnoicjpmfchhiaaDoorSA
namespace Go.Proofs.YtnoicjpmfchhiaaDoor
open Go.RowKit

def wl8 (q : W8) : List UInt32 := [q.a, q.b, q.c, q.d, q.e, q.f, q.g, q.h]
theorem w8c_eq (q : W8) : w8c q = wcells (wl8 q) := rfl
/-- A digest's bytes when k words were laid. -/
def digW (wl : List UInt32) (k : Nat) : List UInt8 := (wl.take k).flatMap by4 ++ List.replicate (32 - 4 * k) 0
theorem flat4_length (wl : List UInt32) : (wl.flatMap by4).length = 4 * wl.length := by
  induction wl with
  | nil => rfl
  | cons x l ih => rw [List.flatMap_cons, List.length_append, ih, List.length_cons]; show 4 + _ = _; omega
theorem digW_length (wl : List UInt32) (h : wl.length = 8) (k : Nat) (hk : k ≤ 8) : (digW wl k).length = 32 := by
  unfold digW
  rw [List.length_append, flat4_length, List.length_take, List.length_replicate]; omega
theorem digW_step (wl : List UInt32) (h : wl.length = 8) (k : Nat) (hk : k < 8) : splice (bcells (digW wl k)) (4 * k) (bcells (by4 (wl.getD k 0))) = bcells (digW wl (k + 1)) := by
  have l1 : ((wl.take k).flatMap by4).length = 4 * k := by rw [flat4_length, List.length_take]; omega
  have l2 : (bcells ((wl.take k).flatMap by4)).length = 4 * k := by rw [bcells_length, l1]
  have l4 : (bcells (by4 (wl.getD k 0))).length = 4 := by rw [bcells_length]; rfl
  unfold splice digW
  rw [bcells_append, List.take_append_of_le_length (by omega), List.take_of_length_le (by omega), l4, List.drop_append, List.drop_of_length_le (by omega), List.nil_append, l2, List.take_add_one, List.getElem?_eq_getElem (by omega), List.flatMap_append, bcells_append, bcells_append]
  have e : wl.getD k 0 = wl[k] := by simp [h, hk]
  rw [e]
  simp only [Option.toList_some, List.flatMap_cons, List.flatMap_nil, List.append_nil, List.append_assoc]
  congr 2
  simp [bcells]
  omega
theorem Tryd.alenD : Tryd.prog.arrayLen 29 = 32 := by kernel_rfl
theorem Tryd.aelemD : Tryd.prog.elem 29 = 5 := by kernel_rfl
theorem Tryd.aundD : Tryd.prog.underlying 29 = some (.array (Tryd.prog.arrayLen 29) (Tryd.prog.elem 29)) := by kernel_rfl
theorem Tryd.ainfoD : (Tryd.prog.info? 29).map (·.size) = some 32 := by kernel_rfl
theorem Tryd.ainfo8 : (Tryd.prog.info? 62).map (·.size) = some 8 := by kernel_rfl
theorem Tryd.aggU32 (W : World) : (isAgg 27).run Tryd.prog W = .ok false W := by kernel_rfl
theorem Tryd.szU32 (W : World) : (sizeOf 27).run Tryd.prog W = .ok 1 W := by kernel_rfl
theorem slice_dig (W : World) (g k : Nat) (hk : k < 32) : (Instr.sliceAt 29 (.pointer (some ⟨g, 0, none⟩)) (some (.int .i64 (k : Int))) none none).run Tryd.prog W = .ok (.slice (some ⟨g, k, none⟩) (32 - k) (32 - k)) W := by
  rw [run_sliceAt_array_l W 29 ⟨g, 0, none⟩ Tryd.aundD .i64 k (by omega) (by rw [Tryd.alenD]; omega), Tryd.aelemD, Tryd.szU8, Tryd.alenD]
  have h8 : ¬ 32 = k := by omega
  by_cases h0 : k = 0
  · subst h0; simp [slicedAt, Addr.add]
  · simp [slicedAt, Addr.add, h8, h0]

set_option maxRecDepth 100000 in
set_option maxHeartbeats 1000000 in
theorem hsum_calls {w : World} {b : Nat} {m : List UInt8} (h : HashOf w b m) (hm : m.length ≤ 70368744177664) :
    Calls Tryd.prog 29 #[.pointer (some ⟨b, 0, none⟩)] w fun e w' => e = .returned (.agg (bcells (sha m)).toArray) ∧ Same w w' := by
  obtain ⟨rest, hA, hrest⟩ := h
  have hmade := hA.made
  have HH : Hid (HashOf w b m) := ⟨rest, hA, hrest⟩
  have hblt := lt_of_heap hA.1
  have hr8 : w.rangeAt b 1 (w8c (mixAll hTab m)) := by
    intro j v hv
    have := mid_cell (pre := [.bool true]) (post := bcells rest ++ [.int .i64 m.length]) hA.1 hv
    exact this
  have HR8 : Hid (w.rangeAt b 1 (w8c (mixAll hTab m))) := hr8
  have h8sz : (Tryd.prog.info? 62).map (·.size) = some (w8c (mixAll hTab m)).length := by rw [Tryd.ainfo8]; rfl
  have h8sz' : (Tryd.prog.info? 62).map (·.size) = some (w8c (mixAll hTab m)).toArray.size := by rw [Tryd.ainfo8]; rfl
  have h8one : (w8c (mixAll hTab m)).toArray.all (·.oneCell') = true := by rw [w8c_eq]; exact wcells_one _
  have hsha : sha m = (mixAll (mixAll hTab m) (restB m ++ padN m.length)).bytes := by
    unfold sha; rw [← mixAll_append m.length _ _ _ (Nat.le_refl _)]
  have HEN : Hid (∀ W, Same w W → Calls Tryd.prog 33 #[.pointer (some ⟨b, 0, none⟩)] W fun e w' => ∃ ao c, e = .returned (.slice ao (restB m ++ padN m.length).length c) ∧ Owns w' (.slice ao (restB m ++ padN m.length).length c) (restB m ++ padN m.length) ∧ BStep (.slice none 0 0) (.slice ao (restB m ++ padN m.length).length c) W w') := fun W sW => ending_calls (HH.out.same sW) hm
  have hEl : (restB m ++ padN m.length).length ≤ 200 := by
    rw [List.length_append, restB_length]
    unfold padN by4
    simp
    omega
  obtain ⟨E, hE⟩ : ∃ E, E = restB m ++ padN m.length := ⟨_, rfl⟩
  obtain ⟨q0, hq0⟩ : ∃ q, q = mixAll hTab m := ⟨_, rfl⟩
  rw [← hE] at HEN hEl hsha
  rw [← hq0] at HR8 h8sz h8sz' h8one hsha
  obtain ⟨q1, hq1⟩ : ∃ q, q = mixAll q0 E := ⟨_, rfl⟩
  obtain ⟨D, hD⟩ : ∃ D, D = (bcells (sha m)).toArray := ⟨_, rfl⟩
  have hDs : D.size = 32 := by rw [hD, hsha]; rfl
  have hDw : D = (bcells (digW (wl8 q1) 8)).toArray := by
    rw [hD, hsha, ← hq1]
    congr 2
  have HDW : Hid (∀ k, k = 8 → D = (bcells (digW (wl8 q1) k)).toArray) := by intro k hk; rw [hk]; exact hDw
  have hDsz : Hid ((Tryd.prog.info? 29).map (·.size) = some D.size) := by show _ = _; rw [Tryd.ainfoD, hDs]
  have hDone : Hid (D.all (·.oneCell') = true) := by show _ = _; rw [hD]; exact bcells_one _
  have HDs : Hid (D.size = 32) := hDs
  have HQ1 : Hid (q1 = mixAll q0 E) := hq1
  rw [← hD]
  clear hE hq0 hq1 hD hDs hDw hsha hr8 hA hrest
  go_enter Tryd.func29, Tryd.ntmps29
  go_wp2_with fail
  have sa0 : ∀ o, Same w (w.alloc o) := fun o => (Fr.refl _ w).alloc o
  refine (there_hash ((sa0 _).keep hmade)).mono ?_
  rintro e W1 ⟨rfl, hW1⟩
  obtain ⟨Z, r1, hZ⟩ : ∃ Z : Array Value, W1.heap[w.heap.size]? = some (.cells Z 29 (0, 0)) ∧ Z.size = 32 := by rw [hW1]; exact ⟨_, heap_alloc_new w _, rfl⟩
  have s1 : Same w W1 := by rw [hW1]; exact sa0 _
  have hz1 : w.heap.size < W1.heap.size := by rw [hW1]; simp
  have hr1 : W1.rangeAt b 1 (w8c q0) := fun j v hv => s1.keep (HR8.out j v hv)
  clear hW1 sa0
  have h8s8 : (w8c q0).toArray.size = 8 := rfl
  go_wp2_with (first | (refine wpList_load_mid (by rfl) 62 _ (by rfl) b 1 (by rfl) (w8c q0) _ hr1 Tryd.underlying62 rfl h8sz ?_) | (refine wpList_store_whole (by rfl) 62 _ _ (by rfl) W1.heap.size (w8c q0).toArray _ 62 (by rfl) (by rfl) (heap_alloc_new W1 _) (by rw [h8s8]; rfl) h8sz' h8one ?_; intro W2 r2 f2; have s2 : Same W1 W2 := Fr.trans ((Fr.refl _ W1).alloc _) f2 (fun i hi e => by omega); clear f2))
  refine (HEN.out _ (s1.trans s2)).mono ?_
  rintro e W3 ⟨ao, c, rfl, hown, bst⟩
  have s3 : Same W2 W3 := bst.1.mono (fun k _ e => by simp [Value.ownBlock] at e)
  have hlt2 := lt_of_heap r2
  obtain ⟨bb, hB3, hbb⟩ := owns_bat hown W1.heap.size (by
    intro k hk
    rcases bst.2 k hk with h | h
    · simp [Value.ownBlock] at h
    · omega)
  have hcap3 := owns_cap hown
  have r3 : W3.heap[W1.heap.size]? = some (.cells ([] ++ w8c q0 ++ []).toArray 62 (0, 0)) := by
    rw [s3.block _ hlt2 (fun f => f), List.nil_append, List.append_nil]; exact r2
  have HMB : Hid (Calls Tryd.prog 32 #[.pointer (some ⟨W1.heap.size, 0, none⟩), .slice ao E.length c] W3 fun e w' => ∃ ad' cap' bo', e = .returned (.slice ad' (restB E).length cap') ∧ BAt w' bb bo' ad' cap' (restB E) ∧ w'.heap[W1.heap.size]? = some (.cells ([] ++ w8c (mixAll q0 E) ++ []).toArray 62 (0, 0)) ∧ Fr (fun k => k = W1.heap.size) W3 w') := mixBlocks_calls (pre := []) (post := []) r3 hB3 hbb (by omega) hcap3
  have r13 : W3.heap[w.heap.size]? = some (.cells Z 29 (0, 0)) := by
    rw [(s2.trans s3).block _ (by omega) (fun f => f)]; exact r1
  have s03 : Same w W3 := s1.trans (s2.trans s3)
  have hz3 : W1.heap.size < W3.heap.size := lt_of_heap r3
  clear hown bst hB3 r2 hr1 h8sz h8sz' h8one s1 s2 s3 r1 r3 hcap3
  go_wp2_with fail
  refine HMB.out.mono ?_
  rintro e W4 ⟨ad4, cap4, bo4, rfl, -, r4, f4⟩
  rw [← HQ1.out, List.nil_append, List.append_nil] at r4
  have r14 : W4.heap[w.heap.size]? = some (.cells Z 29 (0, 0)) := by rw [f4.block _ (by omega) (by omega)]; exact r13
  have s04 : Same w W4 := Fr.trans s03 f4 (fun i hi e => by omega)
  have q8sz : (Tryd.prog.info? 62).map (·.size) = some (w8c q1).toArray.size := by rw [Tryd.ainfo8]; rfl
  have hz4 : W1.heap.size < W4.heap.size := lt_of_heap r4
  have hwl : (wl8 q1).length = 8 := rfl
  have hA8 : Hid (∀ k : Nat, k < 8 → (w8c q1).toArray[k]? = some (.int .u32 (((wl8 q1).getD k 0).toNat : Int))) := by
    intro k hk
    rw [w8c_eq]
    simp [wcells, hwl, hk]
  have HWL : Hid ((wl8 q1).length = 8) := hwl
  have r4' : ∀ o, (W4.alloc o).heap[W1.heap.size]? = some (.cells (w8c q1).toArray 62 (0, 0)) := fun o => by rw [Below.heap_alloc _ _ _ hz4]; exact r4
  obtain ⟨WA, hWA⟩ : ∃ A, A = (w8c q1).toArray := ⟨_, rfl⟩
  rw [← hWA] at q8sz hA8
  simp only [← hWA] at r4'
  clear hWA r4 HMB f4 r13 hwl
  go_wp2_with (first | (refine wpList_load_row (by rfl) 62 _ (by rfl) W1.heap.size (by rfl) 62 WA (0, 0) _ (r4' _) Tryd.underlying62 rfl q8sz ?_))
  clear q8sz r4'
  go_loopg [19] 8 (fun g iv wr => ∃ k : Nat, iv = .int .i64 k ∧ k ≤ 8 ∧ g = 8 - k ∧ wr.heap[W4.heap.size]? = some (.cells (bcells (digW (wl8 q1) k)).toArray 29 (0, 0)) ∧ Same W4 wr)
  case atStart => exact ⟨0, rfl, by omega, rfl, heap_alloc_new W4 _, (Fr.refl _ W4).alloc _⟩
  case round =>
    obtain ⟨k, rfl, hk, rfl, hrow, hst⟩ := hrel
    by_cases hgo : k < 8
    · have hix0 := hA8.out k hgo
      obtain ⟨x, hx⟩ : ∃ x, x = (wl8 q1).getD k 0 := ⟨_, rfl⟩
      rw [← hx] at hix0
      have hix : (Instr.index 62 (.agg WA) (.int .i64 (k : Int))).run Tryd.prog wr = .ok (.int .u32 (x.toNat : Int)) wr := run_index_agg wr 62 27 8 WA .i64 k _ Tryd.underlying62 hgo hix0 (Tryd.aggU32 wr) (Tryd.szU32 wr)
      have hstep := digW_step (wl8 q1) HWL.out k hgo
      rw [← hx] at hstep
      have hdl := digW_length (wl8 q1) HWL.out k (by omega)
      have HST : Hid (splice (bcells (digW (wl8 q1) k)) (4 * k) (bcells (by4 x)) = bcells (digW (wl8 q1) (k + 1))) := hstep
      obtain ⟨fk, hfk⟩ : ∃ fk, fk = 4 * k := ⟨_, rfl⟩
      have hmul : (4 : Int) * (k : Int) = (fk : Int) := by omega
      have hmulw : IntKind.i64.wrap (fk : Int) = (fk : Int) := by rw [IntKind.wrap_i64]; omega
      have hf32 : fk + 4 ≤ 32 := by omega
      rw [← hfk] at HST
      have hsl := fun W => slice_dig W W4.heap.size fk (by omega)
      have HF : Hid (∀ W, Calls Tryd.prog 23 #[.int .u32 x.toNat] W fun e w' => e = .returned (.slice (some ⟨W.heap.size, 0, none⟩) 4 4) ∧ w' = W.alloc (.cells (bcells (by4 x)).toArray 5)) := fun W => four_calls W x
      have l4 : (bcells (by4 x)).length = 4 := by rw [bcells_length]; rfl
      obtain ⟨CX, hCX⟩ : ∃ C, C = bcells (by4 x) := ⟨_, rfl⟩
      have hn1 : ∀ u ∈ CX, u.oneCell' = true := by rw [hCX]; intro v hv; simp only [bcells, List.mem_map] at hv; obtain ⟨c, _, rfl⟩ := hv; rfl
      rw [← hCX] at HST HF l4
      obtain ⟨DK, hDK⟩ : ∃ C, C = bcells (digW (wl8 q1) k) := ⟨_, rfl⟩
      have hDKl : DK.length = 32 := by rw [hDK, bcells_length, hdl]
      rw [← hDK] at HST hrow
      have hmin : CX.length = Nat.min 4 (32 - fk) := by rw [l4, show Nat.min 4 (32 - fk) = min 4 (32 - fk) from rfl]; omega
      have hfit : fk + CX.length ≤ DK.length := by omega
      obtain ⟨i0, hi, hi0, hi1, hi2⟩ := info_parts Tryd.info5
      have hsz1 : (Tryd.prog.info? 5).map (·.size) = some 1 := by rw [hi]; simp [hi1]
      have hlt4 := lt_of_heap hrow
      have HROW : Hid (wr.heap[W4.heap.size]? = some (.cells DK.toArray 29 (0, 0))) := hrow
      have HS6 : Hid (∀ W6 : World, W6 = wr.drew.alloc (.cells CX.toArray 5) → Same wr W6 ∧ W6.heap[W4.heap.size]? = some (.cells DK.toArray 29 (0, 0)) ∧ (∀ j v, CX[j]? = some v → W6.cell? ((⟨wr.heap.size, 0, none⟩ : Addr).add j) = some v)) := by
        intro W6 hW6
        have s6 : Same wr W6 := by rw [hW6]; exact ((Fr.refl _ wr).drew).alloc _
        refine ⟨s6, (s6.block _ hlt4 (fun f => f)).trans HROW.out, ?_⟩
        rw [hW6]
        exact World.news_of_block (heap_alloc_new wr.drew _)
      clear hx hix0 hstep hfk hCX hDK hrow hdl
      go_wp2_with fail
      go_region_held3 (fun _ => True) (trivial) (first | (refine step_copy_fr (by rfl) _ _ 52 52 (by rfl) 5 Tryd.underlying52 hsz1 _ _ _ _ _ _ (by rfl) (by rfl) W4.heap.size fk DK 29 h6 CX hmin (fun _ => ⟨rfl, ⟨_, rfl, n6⟩⟩) hfit hn1 ?_; intro W7 h7 f7) | (go_at_call 23; refine (HF.out _).mono ?_; rintro e W6 ⟨rfl, hW6⟩; obtain ⟨s6, h6, n6⟩ := HS6.out W6 hW6; clear hW6))
      go_wp2_with fail
      have h8 := h7.out
      rw [HST.out] at h8
      have s7 : Same W4 W7 := Fr.trans (Fr.trans hst s6 (fun _ _ f => f)) f7 (fun i hi e => by omega)
      go_roundg (8 - (k + 1))
      case measure => omega
      case rel => exact ⟨k + 1, by go_num, by omega, rfl, h8, s7⟩
    · have hk8 : k = 8 := by omega
      rw [← HDW.out k hk8] at hrow
      have hDs := HDs.out
      have hDsz' := hDsz.out
      have hDone' := hDone.out
      have hres : wr.heap[w.heap.size]? = some (.cells Z 29 (0, 0)) := by rw [hst.block _ (by omega) (fun f => f)]; exact r14
      have hth : wr.there w.heap.size 0 D.size := there_row hres (by rw [hDs, hZ])
      have R1 : (wr.setCells w.heap.size 0 D.toList).heap[w.heap.size]? = some (.cells D 29 (0, 0)) := by
        have := setCells_whole D.toList Z hres (by rw [Array.length_toList, hDs, hZ]) (by rw [Array.length_toList]; exact hth)
        rwa [Array.toArray_toList] at this
      have R2 : Same w (wr.setCells w.heap.size 0 D.toList) := Fr.setCells (fun h => by omega) _ 0 wr (s04.trans hst)
      have HRES : Hid (∀ tmps : Array Value, tmps.getD 2 undef = .pointer (some ⟨w.heap.size, 0, none⟩) → (results Tryd.f29 tmps).run Tryd.prog (wr.setCells w.heap.size 0 D.toList) = .ok (.agg D) (wr.setCells w.heap.size 0 D.toList)) := fun tmps hp => results_cell_row (p := 2) (ty := 29) (by kernel_rfl) tmps _ w.heap.size 29 _ (0, 0) _ hp R1 Tryd.underlying29 rfl hDsz'
      have hgo' : ¬ (k : Int) < 8 := by omega
      clear R1 hres hst hDs hk8 hgo
      go_wp2_with (first | (refine wpList_load_row (by rfl) 29 _ (by rfl) W4.heap.size (by rfl) 29 D (0, 0) _ hrow Tryd.underlying29 rfl hDsz' ?_) | (refine wpList_store_mid (by rfl) 29 _ _ (by rfl) w.heap.size 0 D (by rfl) (by rfl) hth hDsz' hDone' ?_))
      exact bodyPost_ret (HRES.out _ rfl) rfl ⟨rfl, R2⟩
end Go.Proofs.YtnoicjpmfchhiaaDoor
