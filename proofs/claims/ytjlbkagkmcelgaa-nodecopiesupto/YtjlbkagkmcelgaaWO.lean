/-
  Walks: a digest read.
-/
import Derived.Test.YtjlbkagkmcelgaaWK
import Derived.Test.YtjlbkagkmcelgaaW9
import Derived.Test.YtjlbkagkmcelgaaWA
import Derived.Lib.LazyBuf
import Derived.Deep.RegionHeld3
namespace Go.Proofs.Ytjlbkagkmcelgaa
open Go.RowKit

theorem slice_digest_all (W : World) (g : Nat) : (Instr.sliceAt 35 (.pointer (some ⟨g, 0, none⟩)) none none none).run Try.prog W = .ok (.slice (some ⟨g, 0, none⟩) 32 32) W := by
  rw [run_sliceAt_array_all W 35 ⟨g, 0, none⟩ Try.aund, Try.aelem, Try.size8, Try.alen]
  simp [slicedAt, Addr.add]

/-- The digest of bytes that were read: noughts behind them. -/
def padD (t : ByteArray) : List UInt8 := t.data.toList ++ List.replicate (32 - t.size) 0
theorem padD_length (t : ByteArray) (h : t.size ≤ 32) : (padD t).length = 32 := by
  unfold padD; rw [List.length_append, bytes_length, List.length_replicate]; omega

theorem zeros_at (n j : Nat) (h : j < n) : (bcells (List.replicate n 0)).toArray[j]? = some (.int .u8 0) := by
  simp [bcells, h]

theorem setCells_pad {w : World} {b : Nat} {ty : TypeId} (t : ByteArray) (ht : t.size ≤ 32) (h : w.heap[b]? = some (.cells (bcells (List.replicate 32 0)).toArray ty (0, 0))) :
    (w.setCells b 0 (t.data.toList.map fun x => Value.int .u8 (x.toNat : Int))).heap[b]? = some (.cells (bcells (padD t)).toArray ty (0, 0)) := by
  obtain ⟨A, h1, h2⟩ := setCells_row (t.data.toList.map fun x => Value.int .u8 (x.toNat : Int)) 0 _ h
  have hA : A.size = 32 := by rw [h2]; simp [bcells]
  have hvl : (t.data.toList.map fun x => Value.int .u8 (x.toNat : Int)).length = t.size := by rw [List.length_map, bytes_length]
  have hth : w.there b 0 (t.data.toList.map fun x => Value.int .u8 (x.toNat : Int)).length := by
    intro j hj
    exact there_row (n := 32) h (by simp [bcells]) j (by omega)
  have hr := World.rangeAt_setCells_same w b 0 (t.data.toList.map fun x => Value.int .u8 (x.toNat : Int)) hth
  have hpl := padD_length t ht
  have : A = (bcells (padD t)).toArray := by
    apply Array.ext
    · simp [bcells, hpl, hA]
    · intro j hj1 hj2
      have hj3 : j < 32 := by omega
      have hg : (w.setCells b 0 (t.data.toList.map fun x => Value.int .u8 (x.toNat : Int))).cell? ⟨b, j, none⟩ = some A[j] := by
        rw [cell_of_row _ _ _ _ _ _ h1, Array.getElem?_eq_getElem hj1]
      have hjb : j < (bcells (padD t)).length := by rw [bcells_length]; omega
      have goal : some A[j] = some ((bcells (padD t))[j]) := by
        rw [← hg]
        by_cases hjt : j < t.size
        · have e := hr j ((t.data.toList.map fun x => Value.int .u8 (x.toNat : Int))[j]'(by omega)) (List.getElem?_eq_getElem (by omega))
          rw [Nat.zero_add] at e
          rw [e]
          have hj4 : j < t.data.toList.length := by rw [bytes_length]; exact hjt
          simp only [bcells, padD, List.getElem_map, List.getElem_append_left hj4]
        · rw [World.cell?_setCells_out b _ 0 w ⟨b, j, none⟩ (by intro _ _; right; simp only [hvl]; omega), cell_of_row _ _ _ _ _ _ h]
          have hj5 : t.data.toList.length ≤ j := by rw [bytes_length]; omega
          rw [zeros_at 32 j hj3]
          simp only [bcells, padD, List.getElem_map, List.getElem_append_right hj5, List.getElem_replicate]
          rfl
      injection goal with goal
  rw [h1, this]

set_option maxRecDepth 100000 in
set_option maxHeartbeats 1000000 in
theorem rdigest_calls {w : World} {b : Nat} {s : ByteArray} {p c : Nat} (h : RdAt w b s p c) (wd : Int) :
    Calls Try.prog 69 #[.pointer (some ⟨b, 0, none⟩), .int .i64 wd] w fun e w' => e = .returned (.agg (bcells (padD (rRaw s p c (widthN wd)).1)).toArray) ∧ RdAt w' b s (rRaw s p c (widthN wd)).2.1 (rRaw s p c (widthN wd)).2.2 ∧ RdStep b w w' := by
  have hk := widthN_le wd
  have HN : Hid (∀ W, Calls Try.prog 82 #[.int .i64 wd] W fun e w' => e = .returned (.int .i64 (widthN wd)) ∧ W = w') := fun W => counting_calls W wd
  obtain ⟨k, hk2⟩ : ∃ k, k = widthN wd := ⟨_, rfl⟩
  rw [← hk2] at hk HN ⊢
  clear hk2
  have hrz : (rRaw s p c (k : Int)).1.size ≤ k := by have := rRaw_size s p c (k : Int); simpa using this
  have HR0 : ∀ W, RdAt W b s p c → Calls Try.prog 81 #[.pointer (some ⟨b, 0, none⟩), .int .i64 (k : Int)] W fun e w' => e = .returned (.string (rRaw s p c (k : Int)).1) ∧ RdAt w' b s (rRaw s p c (k : Int)).2.1 (rRaw s p c (k : Int)).2.2 ∧ RdStep b W w' := fun W hW => rraw_calls hW (k : Int) (by omega)
  obtain ⟨t, p', c', hr⟩ : ∃ t p' c', rRaw s p c (k : Int) = (t, p', c') := ⟨_, _, _, rfl⟩
  rw [hr] at HR0 hrz ⊢
  have HR : Hid (∀ W, RdAt W b s p c → Calls Try.prog 81 #[.pointer (some ⟨b, 0, none⟩), .int .i64 (k : Int)] W fun e w' => e = .returned (.string t) ∧ RdAt w' b s p' c' ∧ RdStep b W w') := HR0
  clear HR0 hr
  simp only at hrz
  have ht32 : t.size ≤ 32 := by omega
  have hbw := h.lt
  have hsl := fun W => slice_digest_all W (w.heap.size + 1)
  obtain ⟨A, hA⟩ : ∃ A, A = (bcells (padD t)).toArray := ⟨_, rfl⟩
  have hAs : A.size = 32 := by rw [hA]; simp [bcells, padD_length t ht32]
  have hone : A.all (·.oneCell') = true := by
    rw [hA]
    exact all_oneCell_toArray (by intro v hv; simp only [bcells, List.mem_map] at hv; obtain ⟨c, _, rfl⟩ := hv; rfl)
  have hsz : (Try.prog.info? 35).map (·.size) = some A.size := by rw [Try.ainfo, hAs]
  simp only
  rw [← hA]
  have HA : Hid (A = (bcells (padD t)).toArray) := hA
  have HAs : Hid (A.size = 32) := hAs
  clear hA hAs
  go_enter Try.func69, Try.ntmps69
  go_wp2_with fail
  go_region_held3 (fun _ => True) (trivial)
    (first | (go_at_call 82; refine (HN.out _).mono ?_; rintro e W1 ⟨rfl, rfl⟩) | (go_at_call 81; refine (HR.out _ ?_).mono ?_; (exact h.same ((((Fr.refl _ w).alloc _).alloc _).drew)); rintro e W1 ⟨rfl, h1, st1⟩; have r1 : W1.heap[w.heap.size + 1]? = some (.cells (bcells (List.replicate 32 0)).toArray 35 (0, 0)) := (st1.block _ (by simp) (by omega)).trans (heap_alloc2_new w _ _); have r0 : W1.heap[w.heap.size]? = some (.cells (bcells (List.replicate 32 0)).toArray 35 (0, 0)) := (st1.block _ (by simp; omega) (by omega)).trans (heap_alloc2_old w _ _); have stw : RdStep b w W1 := Fr.trans ((((Fr.refl _ w).alloc _).alloc _).drew) st1 (fun _ _ t => t); clear st1) | (refine _root_.Go.step_copy_string (by rfl) _ _ _ _ (by rfl) 5 Try.underlying44 Try.size8 (w.heap.size + 1) 0 32 32 (by rfl) t (by rfl) ht32 (fun j hj => (there_row (n := 32) r1 (by simp [bcells]) j (by omega)).1) (fun j hj => (there_row (n := 32) r1 (by simp [bcells]) j (by omega)).2) ?_))
  have R1 : (W1.setCells (w.heap.size + 1) 0 (t.data.toList.map fun x => Value.int .u8 (x.toNat : Int))).heap[w.heap.size + 1]? = some (.cells A 35 (0, 0)) := by rw [HA.out]; exact setCells_pad t ht32 r1
  have F1 : Fr (fun k => k = w.heap.size + 1) W1 (W1.setCells (w.heap.size + 1) 0 (t.data.toList.map fun x => Value.int .u8 (x.toNat : Int))) := Fr.setCells (S := fun k => k = w.heap.size + 1) (fun _ => rfl) _ 0 W1 (Fr.refl _ _)
  obtain ⟨W2, hW2⟩ : ∃ W2, W2 = W1.setCells (w.heap.size + 1) 0 (t.data.toList.map fun x => Value.int .u8 (x.toNat : Int)) := ⟨_, rfl⟩
  rw [← hW2] at R1 F1 ⊢
  clear hW2
  have h2 : RdAt W2 b s p' c' := h1.frame F1 (by omega)
  have r2 : W2.heap[w.heap.size]? = some (.cells (bcells (List.replicate 32 0)).toArray 35 (0, 0)) := (F1.block _ (lt_of_heap r0) (by omega)).trans r0
  have stw2 : RdStep b w W2 := Fr.trans stw F1 (fun i hi e => by omega)
  have hth : W2.there w.heap.size 0 A.size := there_row r2 (by rw [HAs.out]; simp [bcells])
  have R3 : (W2.setCells w.heap.size 0 A.toList).heap[w.heap.size]? = some (.cells A 35 (0, 0)) := by
    have := setCells_whole A.toList _ r2 (by rw [Array.length_toList, HAs.out]; simp [bcells]) (by rw [Array.length_toList]; exact hth)
    rwa [Array.toArray_toList] at this
  have F3 : Fr (fun k => k = w.heap.size) W2 (W2.setCells w.heap.size 0 A.toList) := Fr.setCells (S := fun k => k = w.heap.size) (fun _ => rfl) _ 0 W2 (Fr.refl _ _)
  have h3 : RdAt (W2.setCells w.heap.size 0 A.toList) b s p' c' := h2.frame F3 (by omega)
  have stw3 : RdStep b w (W2.setCells w.heap.size 0 A.toList) := Fr.trans stw2 F3 (fun i hi e => by omega)
  have HRR : Hid (∀ tmps : Array Value, tmps.getD 4 undef = .pointer (some ⟨w.heap.size, 0, none⟩) → (results Try.f69 tmps).run Try.prog (W2.setCells w.heap.size 0 A.toList) = .ok (.agg A) (W2.setCells w.heap.size 0 A.toList)) := fun tmps hp => results_cell_row (p := 4) (ty := 35) (by kernel_rfl) tmps _ w.heap.size 35 _ (0, 0) _ hp R3 Try.underlying35 rfl hsz
  clear r0 r1 r2 F1 F3 h1 h2 stw stw2 R3
  go_wp2_with (first | (refine wpList_load_row (by rfl) 35 _ (by rfl) (w.heap.size + 1) (by rfl) 35 A (0, 0) _ R1 Try.underlying35 rfl hsz ?_) | (refine wpList_store_mid (by rfl) 35 _ _ (by rfl) w.heap.size 0 A (by rfl) (by rfl) hth hsz hone ?_))
  exact bodyPost_ret (HRR.out _ rfl) rfl ⟨rfl, h3, stw3⟩
end Go.Proofs.Ytjlbkagkmcelgaa
