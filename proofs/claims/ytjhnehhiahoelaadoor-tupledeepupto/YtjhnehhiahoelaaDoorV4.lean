/-
  Walks: layItem of a float.
-/
import Derived.Test.YtjhnehhiahoelaaDoorV3
namespace Go.Proofs.YtjhnehhiahoelaaDoor
open Go.RowKit

/-- A float's bytes. -/
def floatB (f : Nat) : List UInt8 := 32 :: be8 (turnedN (bitsN f))
theorem turnedN_lt (x : Nat) (h : x < 18446744073709551616) : turnedN x < 18446744073709551616 := by unfold turnedN; split <;> omega
theorem bitsN_lt (f : Nat) (h : f < 18446744073709551616) : bitsN f < 18446744073709551616 := by unfold bitsN; split <;> omega
theorem slice_all8 (W : World) (g : Nat) : (Instr.sliceAt 63 (.pointer (some ⟨g, 0, none⟩)) none none none).run Tryd.prog W = .ok (.slice (some ⟨g, 0, none⟩) 8 8) W := by
  rw [run_sliceAt_array_all W 63 ⟨g, 0, none⟩ Tryd.aund8, Tryd.aelem8, Tryd.sizeU8, Tryd.alen8]
  simp [slicedAt, Addr.add]

set_option maxRecDepth 100000 in
set_option maxHeartbeats 4000000 in
theorem layItem_fl {w : World} {ao : Option Addr} {c : Nat} {bs : List UInt8} (b : Bool) (i : Int) (f : Nat) (hf : f < 18446744073709551616) (s : ByteArray) (la : Option Addr) (ll lc : Nat) (hown : Owns w (.slice ao bs.length c) bs) (hl : bs.length ≤ 1000000) :
    Calls Tryd.prog 18 #[.slice ao bs.length c, itemV 4 b i f s la ll lc] w (LayPost (.slice ao bs.length c) w (bs ++ floatB f)) := by
  have sx : Same w (w.alloc (itemC 4 b i f s la ll lc)) := (Fr.refl _ w).alloc _
  have hb1 := bitsN_lt f hf
  have hb2 := turnedN_lt _ hb1
  have HB : Hid (∀ W, Calls Tryd.prog 35 #[.float .f64 f] W fun e w' => e = .returned (.int .u64 (bitsN f)) ∧ w' = W) := fun W => bitsOf_calls W f
  have HT : Hid (∀ W, Calls Tryd.prog 34 #[.int .u64 (bitsN f)] W fun e w' => e = .returned (.int .u64 (turnedN (bitsN f))) ∧ w' = W) := fun W => turned_calls W _ hb1
  obtain ⟨A, hA⟩ : ∃ A, A = (bcells (be8 (turnedN (bitsN f)))).toArray := ⟨_, rfl⟩
  have hAs : A.size = 8 := by rw [hA]; rfl
  have HS : Hid (∀ W, Calls Tryd.prog 33 #[.int .u64 (turnedN (bitsN f))] W fun e w' => e = .returned (.agg A) ∧ Same W w') := fun W => by
    have := spread_calls W (turnedN (bitsN f)) hb2
    rw [be8_cells, ← hA] at this
    exact this
  obtain ⟨L, hLL⟩ : ∃ L, L = bs ++ floatB f := ⟨_, rfl⟩
  rw [← hLL]
  have HL : Hid (L = bs ++ floatB f) := hLL
  clear hLL
  obtain ⟨x1, hx1⟩ : ∃ x1, x1 = bitsN f := ⟨_, rfl⟩
  rw [← hx1] at HB HT HS hb1 hb2 hA
  obtain ⟨x2, hx2⟩ : ∃ x2, x2 = turnedN x1 := ⟨_, rfl⟩
  rw [← hx2] at HT HS hb2 hA
  have HX2 : Hid (x2 = turnedN (bitsN f)) := by rw [hx2, hx1]; exact rfl
  clear hx1 hx2
  go_enter Tryd.func18, Tryd.ntmps18
  go_wp2_with fail
  refine (HB.out _).mono ?_
  rintro e W1 ⟨rfl, hW1⟩
  rw [hW1]
  clear hW1
  go_wp2_with fail
  refine (HT.out _).mono ?_
  rintro e W1 ⟨rfl, hW1⟩
  rw [hW1]
  clear hW1
  go_wp2_with fail
  refine (HS.out _).mono ?_
  rintro e W2 ⟨rfl, s2⟩
  have hone : A.all (·.oneCell') = true := by
    rw [hA]
    exact all_oneCell_toArray (by intro v hv; simp only [bcells, List.mem_map] at hv; obtain ⟨c, _, rfl⟩ := hv; rfl)
  have hsz : (Tryd.prog.info? 63).map (·.size) = some A.size := by rw [hAs]; kernel_rfl
  have HA : Hid (A = (bcells (be8 x2)).toArray) := hA
  clear hA
  go_wp2_with (first | (refine wpList_store_whole (by rfl) 63 _ _ (by rfl) W2.heap.size A _ 63 (by rfl) (by rfl) (heap_alloc_new W2 _) (by rw [hAs]; rfl) hsz hone ?_; intro W5 r5 f5; have s5 : Same W2 W5 := Fr.trans ((Fr.refl _ W2).alloc _) f5 (fun i hi e => by omega); clear f5))
  have s05 : Same w W5 := Same.trans (Same.trans sx s2) s5
  have hown5 : Owns W5 (.slice ao bs.length c) bs := own_frame hown s05 (fun _ _ f => f)
  have hsl := fun W => slice_all8 W W2.heap.size
  obtain ⟨i0, hi, hz0, hz1, hz2⟩ := info_parts Tryd.info5
  have hnb : Value.ownBlock (.slice ao bs.length c) ≠ some W2.heap.size := by intro e; have := own_lt hown e; have := (Same.trans sx s2).size; omega
  have hnl : (bcells (be8 x2)).length = 8 * 1 := rfl
  have hn1 : ∀ u ∈ bcells (be8 x2), u.oneCell' = true := by intro v hv; simp only [bcells, List.mem_map] at hv; obtain ⟨c, _, rfl⟩ := hv; rfl
  clear hown
  go_region_law (first
    | (refine step_append_lies _ (by rfl) _ _ _ (by rfl) 0 5 i0 (.int .u8 0) 1 1 Tryd.underlying37 hi hz0 hz1 hz2 rfl (by decide) _ _ _ (by rfl) hown6 ⟨W2.heap.size, 0, none⟩ 8 8 _ (by rfl) hnl hnews6 hn1 (by decide) (by unfold maxLen; omega) (by omega) (Nat.zero_le _) w6.heap.size rfl ?_; intro g7 cap7 w7 hown7 hgrow7 hat7 hlt7)
    | (refine step_append_lies _ (by rfl) _ _ _ (by rfl) 0 5 i0 (.int .u8 0) 1 1 Tryd.underlying37 hi hz0 hz1 hz2 rfl (by decide) _ _ _ (by rfl) ((hown5.alloc _).drew) ⟨W5.heap.size, 0, none⟩ 1 1 _ (by rfl) (by rfl) (World.news_of_block (heap_alloc_new W5 _)) (by simp [Value.oneCell']) (by decide) (by unfold maxLen; omega) (by omega) (Nat.zero_le _) (W5.heap.size + 1) (by simp) ?_; intro g6 cap6 w6 hown6 hgrow6 hat6 hlt6; have hnews6 := arr_news (lo := 0) HA.out r5 hgrow6 hnb))
  go_wp2_with fail
  go_ret
  have e1 : (bs ++ [32]).length = bs.length + 1 := by simp
  obtain ⟨o6, b6⟩ := own_push_at (v := .slice ao bs.length c) (bs := bs) (ns := [32]) ((s05.alloc _).drew) (by simp) rfl hown6 hgrow6 hat6
  rw [e1] at o6 b6
  have hown7' : w7.ownsRow 0 5 1 (.slice (some ⟨g7, 0, none⟩) ((bs ++ [32]).length + 8) cap7) ((bs ++ [32]).length + 8) (bcells (bs ++ [32]) ++ bcells (be8 x2)) := by
    rw [e1, bcells_append]; exact hown7
  obtain ⟨o7, b7⟩ := own_push_at (v := .slice (some ⟨g6, 0, none⟩) (bs.length + 1) cap6) (bs := bs ++ [32]) (ns := be8 x2) (Fr.refl _ w6) rfl rfl hown7' hgrow7 hat7
  have hL : (bs ++ [32]) ++ be8 x2 = L := by
    rw [HL.out, HX2.out, List.append_assoc]; rfl
  have e2 : bs.length + 1 + 8 = ((bs ++ [32]) ++ be8 x2).length := by simp [be8]
  rw [e2, hL]
  rw [hL] at o7 b7
  exact ⟨_, cap7, rfl, o7, BStep.trans b6 b7⟩
end Go.Proofs.YtjhnehhiahoelaaDoor
