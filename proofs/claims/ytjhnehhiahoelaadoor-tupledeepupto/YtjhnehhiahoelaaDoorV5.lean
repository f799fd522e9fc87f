/-
  Walks: layItem of a text.
-/
import Derived.Test.YtjhnehhiahoelaaDoorV4
namespace Go.Proofs.YtjhnehhiahoelaaDoor
open Go.RowKit

/-- A text's bytes. -/
def textB (s : ByteArray) : List UInt8 := 36 :: (escB s.data.toList ++ [0, 1])

/-- A cell of a block that is not the row's stays behind an append .. -/
theorem grown_keep {w0 W W1 w6 : World} {v : Value} {n : Nat} {o : Nat} {u : Value} (sw : Same W W1) (hg : W1.grownBy w6 v.ownBlock) (hob : ∀ k, v.ownBlock = some k → k < w0.heap.size) (hn : w0.heap.size ≤ n) (hc : W.cell? ⟨n, o, none⟩ = some u) :
    Fr (fun k => some k = v.ownBlock) W w6 ∧ w6.cell? ⟨n, o, none⟩ = some u := by
  have F : Fr (fun k => some k = v.ownBlock) W w6 := Fr.grown (sw.mono (fun _ _ f => f.elim)) hg (fun k hk _ => hk.symm)
  refine ⟨F, (F.cell (World.block_lt_of_cell? _ _ hc) ?_).trans hc⟩
  intro e
  have := hob _ e.symm
  simp only at this
  omega
/-- .. and behind what goes on from there. -/
theorem step_keep {w0 W w6 w7 : World} {v v1 v2 : Value} {n : Nat} {o : Nat} {u : Value} (b6 : BStep v v1 W w6) (b7 : BStep v1 v2 w6 w7) (hob : ∀ k, v.ownBlock = some k → k < w0.heap.size) (hn : w0.heap.size ≤ n) (hc : W.cell? ⟨n, o, none⟩ = some u) : w7.cell? ⟨n, o, none⟩ = some u := by
  refine ((BStep.trans b6 b7).1.cell (World.block_lt_of_cell? _ _ hc) ?_).trans hc
  intro e
  have := hob _ e.symm
  simp only at this
  omega

set_option maxRecDepth 100000 in
set_option maxHeartbeats 4000000 in
theorem layItem_tx {w : World} {ao : Option Addr} {c : Nat} {bs : List UInt8} (b : Bool) (i : Int) (f : Nat) (s : ByteArray) (hs : s.size ≤ 1000000) (la : Option Addr) (ll lc : Nat) (hown : Owns w (.slice ao bs.length c) bs) (hl : bs.length ≤ 999999) :
    Calls Tryd.prog 18 #[.slice ao bs.length c, itemV 5 b i f s la ll lc] w (LayPost (.slice ao bs.length c) w (bs ++ textB s)) := by
  have sx : Same w (w.alloc (itemC 5 b i f s la ll lc)) := (Fr.refl _ w).alloc _
  have k4 : (w.alloc (itemC 5 b i f s la ll lc)).cell? ⟨w.heap.size, 4, none⟩ = some (.string s) := (item_cells w 5 b i f s la ll lc).2.2.2.2.1
  have hl1 : (bs ++ [36]).length = bs.length + 1 := by simp
  have HT : Hid (∀ W g c2, Owns W (.slice (some ⟨g, 0, none⟩) (bs.length + 1) c2) (bs ++ [36]) → Calls Tryd.prog 36 #[.slice (some ⟨g, 0, none⟩) (bs.length + 1) c2, .string s] W (LayPost (.slice (some ⟨g, 0, none⟩) (bs.length + 1) c2) W (bs ++ textB s))) := by
    intro W g c2 ho
    have := layText_calls (w := W) (ao := some ⟨g, 0, none⟩) (c := c2) (bs := bs ++ [36]) s hs (by rw [hl1]; exact ho) (by omega)
    rw [hl1] at this
    refine this.mono ?_
    have e : bs ++ [36] ++ (escB s.data.toList ++ [0, 1]) = bs ++ textB s := by simp [textB]
    rw [e]
    exact fun e w' ⟨g, cap, h1, h2, h3⟩ => ⟨_, cap, h1, h2, h3⟩
  obtain ⟨i0, hi, hz0, hz1, hz2⟩ := info_parts Tryd.info5
  have hown' := own_frame hown sx (fun _ _ f => f)
  have hob : ∀ k, Value.ownBlock (.slice ao bs.length c) = some k → k < w.heap.size := fun k hk => own_lt hown hk
  generalize bs ++ textB s = L at *
  clear hown
  go_enter Tryd.func18, Tryd.ntmps18
  go_wp2_with fail
  generalize w.alloc (itemC 5 b i f s la ll lc) = W0 at *
  go_region_held3 (fun w' => w'.cell? ⟨w.heap.size, 4, none⟩ = some (.string s)) (first | go_keep | exact k4 | exact d6 | exact d7)
    (first
      | (go_at_call 36; refine (HT.out _ _ _ o6).mono ?_; rintro e W7 ⟨ao7, c7, rfl, h7, b7⟩; have d7 := step_keep b6 b7 hob (Nat.le_refl _) k4)
      | (refine step_append_lies _ (by rfl) _ _ _ (by rfl) 0 5 i0 (.int .u8 0) 1 1 Tryd.underlying37 hi hz0 hz1 hz2 rfl (by decide) _ _ _ (by rfl) ((hown'.alloc _).drew) ⟨W0.heap.size, 0, none⟩ 1 1 _ (by rfl) (by rfl) (World.news_of_block (heap_alloc_new W0 _)) (by simp [Value.oneCell']) (by decide) (by unfold maxLen; omega) (by omega) (Nat.zero_le _) (W0.heap.size + 1) (by simp) ?_; intro g6 cap6 w6 hown6 hgrow6 hat6 hlt6; obtain ⟨F6, d6⟩ := grown_keep (((Fr.refl _ W0).alloc _).drew) hgrow6 hob (Nat.le_refl _) k4; obtain ⟨o6, b6⟩ := own_push_at (v := .slice ao bs.length c) (bs := bs) (ns := [36]) (((Fr.refl _ W0).alloc _).drew) (by simp) rfl hown6 hgrow6 hat6; rw [hl1] at o6 b6))
  go_wp2_with fail
  go_ret
  exact ⟨ao7, c7, rfl, h7, BStep.same sx (BStep.trans b6 b7)⟩
end Go.Proofs.YtjhnehhiahoelaaDoor
