/-
  Walks: Unpack of the one byte 01.
-/
import Derived.Test.YtjhnehhiahoelaaDoorTB
namespace Go.Proofs.YtjhnehhiahoelaaDoor
open Go.RowKit

theorem Tryd.infoItem : (Tryd.prog.info? 26).map (fun i => (i.zero, i.size, i.bytes)) = some (some (.agg #[.int .u8 0, .bool false, .int .i64 0, .float .f64 0, .string ⟨#[]⟩, .slice none 0 0]), 6, 64) := by kernel_rfl

set_option maxRecDepth 100000 in
set_option maxHeartbeats 1000000 in
theorem unpack_one (w : World) :
    Calls Tryd.prog 10 #[.string ⟨#[1]⟩] w fun e w' => ∃ g cap, e = .returned (.tuple #[.slice (some ⟨g, 0, none⟩) 1 cap, .int .i64 0]) ∧ w'.cell? ⟨g, 0, none⟩ = some (.int .u8 1) ∧ Same w w' := by
  obtain ⟨i0, hi, hz0, hz1, hz2⟩ := info_parts Tryd.infoItem
  have hne : ¬ (⟨#[1]⟩ : ByteArray).toList = [] := by rw [Lib.toList_data]; simp
  have hnil : (⟨#[]⟩ : ByteArray).toList = [] := by rw [Lib.toList_data]
  go_enter Tryd.func10, Tryd.ntmps10
  go_wp2_with fail
  refine wp_loop_rounds 3 ?_
  rw [rounds_succ]
  go_wp2_with fail
  have hcur : CurAt (w.alloc (.cells #[.string ⟨#[1]⟩] 44)) w.heap.size ⟨#[1]⟩ := heap_alloc_new w _
  have sa : Same w (w.alloc (.cells #[.string ⟨#[1]⟩] 44)) := (Fr.refl _ w).alloc _
  refine (next_one _ _ hcur).mono ?_
  rintro e W1 ⟨rfl, hc1, f1⟩
  have s1 : Same w W1 := Fr.trans sa f1 (fun i hi e => by omega)
  clear hcur sa f1
  go_wp2_with fail
  refine (item_null _ _).mono ?_
  rintro e W2 ⟨rfl, s2⟩
  have hc2 : CurAt W2 w.heap.size ⟨#[]⟩ := by
    unfold CurAt at *
    rw [s2.block _ (lt_of_heap hc1) (fun f => f)]; exact hc1
  have k2 : W2.cell? ⟨w.heap.size, 0, none⟩ = some (.string ⟨#[]⟩) := by rw [cell_of_row _ _ _ _ _ _ hc2]; rfl
  have s02 := s1.trans s2
  have hlt2 := lt_of_heap hc2
  go_wp2_with (at_builtin; go_must (refine wpList_append_lies _ (by rfl) _ _ _ (by rfl) 0 26 i0 (.agg #[.int .u8 0, .bool false, .int .i64 0, .float .f64 0, .string ⟨#[]⟩, .slice none 0 0]) 6 64 Tryd.underlying24 hi hz0 hz1 hz2 rfl (by decide) _ 0 [] (by rfl) (World.ownsRow_nil _ _ _ _) ⟨W2.heap.size, 0, none⟩ 1 1 _ (by rfl) (by rfl) (World.news_of_block (heap_alloc_new W2 _)) ?_ (by decide) (by unfold maxLen; omega) (by omega) (Nat.zero_le _) (W2.heap.size + 1) (by simp) ?_))
  · exact ⟨rfl, rfl, rfl, rfl, rfl, rfl⟩
  · intro g cap W3 hown hgrow hat _
    have d0 := hown.cells (g := g) rfl 0 _ rfl
    have d1 := hown.cells (g := g) rfl 1 _ rfl
    have d2 := hown.cells (g := g) rfl 2 _ rfl
    have d3 := hown.cells (g := g) rfl 3 _ rfl
    have d4 := hown.cells (g := g) rfl 4 _ rfl
    have d5 := hown.cells (g := g) rfl 5 _ rfl
    have s3 : Same W2 W3 := Fr.grown (Fr.alloc (Fr.refl _ W2) _) hgrow (fun k hk _ => by simp [Value.ownBlock] at hk)
    have k3 := s3.keep k2
    clear hown hgrow hat k2
    go_wp2_with fail
    rw [rounds_succ]
    go_wp2_with fail
    refine (pack_null W3 g 0 cap d0 d1 d2 d3 d4 d5).mono ?_
    rintro e W4 ⟨rfl, s4⟩
    have j0 := s4.keep d0
    clear d0 d1 d2 d3 d4 d5 k3
    go_wp2_with fail
    go_ret2
    exact ⟨g, cap, rfl, j0, (s02.trans s3).trans s4⟩
end Go.Proofs.YtjhnehhiahoelaaDoor
