/-
  Walks: layInt of nought.
-/
import Derived.Test.YtjhnehhiahoelaaDoorT8N
namespace Go.Proofs.YtjhnehhiahoelaaDoor
open Go.RowKit

theorem slice_eight8 (W : World) (g : Nat) : (Instr.sliceAt 63 (.pointer (some ⟨g, 0, none⟩)) (some (.int .i64 8)) none none).run Tryd.prog W = .ok (.slice (some ⟨g, 0, none⟩) 0 0) W := by
  have := run_sliceAt_array_l W 63 ⟨g, 0, none⟩ Tryd.aund8 .i64 8 (by omega) (by rw [Tryd.alen8]; omega)
  rw [this, Tryd.aelem8, Tryd.sizeU8, Tryd.alen8]
  simp [slicedAt]
set_option maxRecDepth 100000 in
set_option maxHeartbeats 4000000 in
theorem layInt_zero {w : World} {ao : Option Addr} {c : Nat} {bs : List UInt8} (hown : Owns w (.slice ao bs.length c) bs) (hl : bs.length ≤ 1000000) :
    Calls Tryd.prog 32 #[.slice ao bs.length c, .int .i64 0] w fun e w' => ∃ g cap, e = .returned (.slice (some ⟨g, 0, none⟩) (bs ++ [20]).length cap) ∧ Owns w' (.slice (some ⟨g, 0, none⟩) (bs ++ [20]).length cap) (bs ++ [20]) ∧ BStep (.slice ao bs.length c) (.slice (some ⟨g, 0, none⟩) (bs ++ [20]).length cap) w w' := by
  have HW : Hid (∀ W, Calls Tryd.prog 52 #[.int .i64 0] W fun e w' => e = .returned (.int .i64 0) ∧ w' = W) := fun W => width_calls 0 (by omega) (by omega) W
  obtain ⟨A, hA⟩ : ∃ A, A = (bcells (be8 0)).toArray := ⟨_, rfl⟩
  have hAs : A.size = 8 := by rw [hA]; rfl
  have HS : Hid (∀ W, Calls Tryd.prog 33 #[.int .u64 0] W fun e w' => e = .returned (.agg A) ∧ Same W w') := fun W => by
    have := spread_calls W 0 (by omega)
    rw [be8_cells, ← hA] at this
    exact this
  obtain ⟨L, hLL⟩ : ∃ L, L = bs ++ [20] := ⟨_, rfl⟩
  rw [← hLL]
  have HL : Hid (L = bs ++ [20]) := hLL
  clear hLL
  go_enter Tryd.func32, Tryd.ntmps32
  go_wp2_with fail
  refine (HW.out _).mono ?_
  rintro e W1 ⟨rfl, hW1⟩
  rw [hW1]
  clear hW1
  go_wp2_with fail
  refine (HS.out _).mono ?_
  rintro e W2 ⟨rfl, s2⟩
  have hone : A.all (·.oneCell') = true := by
    rw [hA]
    exact all_oneCell_toArray (by intro v hv; simp only [bcells, List.mem_map] at hv; obtain ⟨c, _, rfl⟩ := hv; rfl)
  have hsz : (Tryd.prog.info? 63).map (·.size) = some A.size := by rw [hAs]; kernel_rfl
  clear hA
  go_wp2_with (first | (refine wpList_store_whole (by rfl) 63 _ _ (by rfl) W2.heap.size A _ 63 (by rfl) (by rfl) (heap_alloc_new W2 _) (by rw [hAs]; rfl) hsz hone ?_; intro W5 r5 f5; have s5 : Same W2 W5 := Fr.trans ((Fr.refl _ W2).alloc _) f5 (fun i hi e => by omega); clear f5))
  have s05 : Same w W5 := Same.trans s2 s5
  have hown5 : Owns W5 (.slice ao bs.length c) bs := own_frame hown s05 (fun _ _ f => f)
  have hsl := fun W => slice_eight8 W W2.heap.size
  have hw8 : IntKind.i64.wrap 8 = 8 := by decide
  have hw20 : IntKind.u8.wrap 20 = 20 := by decide
  obtain ⟨i0, hi, hz0, hz1, hz2⟩ := info_parts Tryd.info5
  go_region_law (refine step_append_lies _ (by rfl) _ _ _ (by rfl) 0 5 i0 (.int .u8 0) 1 1 Tryd.underlying37 hi hz0 hz1 hz2 rfl (by decide) _ _ _ (by rfl) ((hown5.alloc _).drew) ⟨W5.heap.size, 0, none⟩ 1 1 _ (by rfl) (by rfl) (World.news_of_block (heap_alloc_new W5 _)) (by simp [Value.oneCell']) (by decide) (by unfold maxLen; omega) (by omega) (Nat.zero_le _) (W5.heap.size + 1) (by simp) ?_; intro g6 cap6 w6 hown6 hgrow6 hat6 hlt6; have hcap6 := own_cap hown6)
  go_wp2_with fail
  go_ret
  have hat6' : Value.ownBlock (.slice ao bs.length c) = some g6 ∨ g6 = ((W5.alloc (.cells #[.int .u8 20] 5)).drew).heap.size := by
    rcases hat6 with h | h
    · exact Or.inl h
    · right; rw [h]; simp
  obtain ⟨o6, b6⟩ := own_push (v := .slice ao bs.length c) (bs := bs) (ns := [20]) rfl hown6 hgrow6 hat6'
  have hL : bs ++ [20] = L := HL.out.symm
  rw [← hL]
  have sw : Same w (W5.alloc (.cells #[.int .u8 20] 5)).drew := (s05.alloc _).drew
  refine ⟨g6, cap6, ?_, o6, BStep.same sw b6⟩
  simp
end Go.Proofs.YtjhnehhiahoelaaDoor
