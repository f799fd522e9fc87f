/-
  Walks: layItem, kind by kind.
-/
import Derived.Test.YtjhnehhiahoelaaDoorV2
namespace Go.Proofs.YtjhnehhiahoelaaDoor
open Go.RowKit

/-- A number's bytes. -/
def intB (n : Int) : List UInt8 := if n = 0 then [20] else if 0 < n then UInt8.ofNat (20 + bytesN n.toNat) :: (be8 n.toNat).drop (8 - bytesN n.toNat) else UInt8.ofNat (20 - widthI n) :: (be8 (18446744073709551616 + n - 1).toNat).drop (8 - widthI n)
/-- Behind a call a slice's value owns the bytes. -/
def LayPost (v : Value) (w : World) (bs : List UInt8) (e : Ending) (w' : World) : Prop := ∃ ao c, e = .returned (.slice ao bs.length c) ∧ Owns w' (.slice ao bs.length c) bs ∧ BStep v (.slice ao bs.length c) w w'

theorem layInt_calls {w : World} {ao : Option Addr} {c : Nat} {bs : List UInt8} (n : Int) (h0 : -9223372036854775808 ≤ n) (h1 : n ≤ 9223372036854775807) (hown : Owns w (.slice ao bs.length c) bs) (hl : bs.length ≤ 1000000) :
    Calls Tryd.prog 32 #[.slice ao bs.length c, .int .i64 n] w (LayPost (.slice ao bs.length c) w (bs ++ intB n)) := by
  unfold intB
  by_cases hz : n = 0
  · subst hz
    rw [if_pos rfl]
    exact (layInt_zero hown hl).mono (fun e w' ⟨g, cap, h1, h2, h3⟩ => ⟨_, cap, h1, h2, h3⟩)
  rw [if_neg hz]
  by_cases hp : 0 < n
  · rw [if_pos hp]
    obtain ⟨m, rfl⟩ : ∃ m : Nat, n = (m : Int) := ⟨n.toNat, by omega⟩
    rw [Int.toNat_natCast]
    exact (layInt_pos m (by omega) (by omega) hown hl).mono (fun e w' ⟨g, cap, h1, h2, h3⟩ => ⟨_, cap, h1, h2, h3⟩)
  · rw [if_neg hp]
    exact (layInt_neg n (by omega) h0 (18446744073709551616 + n - 1).toNat (by omega) hown hl).mono (fun e w' ⟨g, cap, h1, h2, h3⟩ => ⟨_, cap, h1, h2, h3⟩)

set_option maxRecDepth 100000 in
set_option maxHeartbeats 4000000 in
theorem layItem_n {w : World} {ao : Option Addr} {c : Nat} {bs : List UInt8} (b : Bool) (i : Int) (f : Nat) (s : ByteArray) (la : Option Addr) (ll lc : Nat) (hown : Owns w (.slice ao bs.length c) bs) (hl : bs.length ≤ 1000000) :
    Calls Tryd.prog 18 #[.slice ao bs.length c, itemV 1 b i f s la ll lc] w (LayPost (.slice ao bs.length c) w (bs ++ [1])) := by
  have sx : Same w (w.alloc (itemC 1 b i f s la ll lc)) := (Fr.refl _ w).alloc _
  obtain ⟨i0, hi, hz0, hz1, hz2⟩ := info_parts Tryd.info5
  have hown' := own_frame hown sx (fun _ _ f => f)
  have hnew : ∀ o, ((w.alloc (itemC 1 b i f s la ll lc)).alloc o).heap[w.heap.size + 1]? = some o := fun o => by have := heap_alloc_new (w.alloc (itemC 1 b i f s la ll lc)) o; rwa [World.size_alloc] at this
  go_enter Tryd.func18, Tryd.ntmps18
  go_wp2_with (at_builtin; go_must (refine wpList_append_lies _ (by rfl) _ _ _ (by rfl) 0 5 i0 (.int .u8 0) 1 1 Tryd.underlying37 hi hz0 hz1 hz2 rfl (by decide) _ _ _ (by rfl) (hown'.alloc _) ⟨w.heap.size + 1, 0, none⟩ 1 1 _ (by rfl) ?_ (World.news_of_block (hnew _)) ?_ (by decide) ?_ ?_ (Nat.zero_le _) (w.heap.size + 2) (by simp) ?_))
  · exact rfl
  · unfold maxLen; omega
  · omega
  · intro g2 cap2 w6 hown6 hgrow hat hlt6
    obtain ⟨o6, b6⟩ := own_push_at (v := .slice ao bs.length c) (bs := bs) (ns := [1]) (sx.alloc _) (by simp) rfl hown6 hgrow hat
    have hl6 : bs.length + 1 = (bs ++ [1]).length := by simp
    clear hown6 hgrow hat hown' hown
    go_wp2_with fail
    go_ret
    rw [hl6]
    exact ⟨_, cap2, rfl, o6, b6⟩
set_option maxRecDepth 100000 in
set_option maxHeartbeats 4000000 in
theorem layItem_f {w : World} {ao : Option Addr} {c : Nat} {bs : List UInt8} (i : Int) (f : Nat) (s : ByteArray) (la : Option Addr) (ll lc : Nat) (hown : Owns w (.slice ao bs.length c) bs) (hl : bs.length ≤ 1000000) :
    Calls Tryd.prog 18 #[.slice ao bs.length c, itemV 2 false i f s la ll lc] w (LayPost (.slice ao bs.length c) w (bs ++ [2])) := by
  have sx : Same w (w.alloc (itemC 2 false i f s la ll lc)) := (Fr.refl _ w).alloc _
  obtain ⟨i0, hi, hz0, hz1, hz2⟩ := info_parts Tryd.info5
  have hown' := own_frame hown sx (fun _ _ f => f)
  have hnew : ∀ o, ((w.alloc (itemC 2 false i f s la ll lc)).alloc o).heap[w.heap.size + 1]? = some o := fun o => by have := heap_alloc_new (w.alloc (itemC 2 false i f s la ll lc)) o; rwa [World.size_alloc] at this
  go_enter Tryd.func18, Tryd.ntmps18
  go_wp2_with (at_builtin; go_must (refine wpList_append_lies _ (by rfl) _ _ _ (by rfl) 0 5 i0 (.int .u8 0) 1 1 Tryd.underlying37 hi hz0 hz1 hz2 rfl (by decide) _ _ _ (by rfl) (hown'.alloc _) ⟨w.heap.size + 1, 0, none⟩ 1 1 _ (by rfl) ?_ (World.news_of_block (hnew _)) ?_ (by decide) ?_ ?_ (Nat.zero_le _) (w.heap.size + 2) (by simp) ?_))
  · exact rfl
  · unfold maxLen; omega
  · omega
  · intro g2 cap2 w6 hown6 hgrow hat hlt6
    obtain ⟨o6, b6⟩ := own_push_at (v := .slice ao bs.length c) (bs := bs) (ns := [2]) (sx.alloc _) (by simp) rfl hown6 hgrow hat
    have hl6 : bs.length + 1 = (bs ++ [2]).length := by simp
    clear hown6 hgrow hat hown' hown
    go_wp2_with fail
    go_ret
    rw [hl6]
    exact ⟨_, cap2, rfl, o6, b6⟩
set_option maxRecDepth 100000 in
set_option maxHeartbeats 4000000 in
theorem layItem_t {w : World} {ao : Option Addr} {c : Nat} {bs : List UInt8} (i : Int) (f : Nat) (s : ByteArray) (la : Option Addr) (ll lc : Nat) (hown : Owns w (.slice ao bs.length c) bs) (hl : bs.length ≤ 1000000) :
    Calls Tryd.prog 18 #[.slice ao bs.length c, itemV 2 true i f s la ll lc] w (LayPost (.slice ao bs.length c) w (bs ++ [3])) := by
  have sx : Same w (w.alloc (itemC 2 true i f s la ll lc)) := (Fr.refl _ w).alloc _
  obtain ⟨i0, hi, hz0, hz1, hz2⟩ := info_parts Tryd.info5
  have hown' := own_frame hown sx (fun _ _ f => f)
  have hnew : ∀ o, ((w.alloc (itemC 2 true i f s la ll lc)).alloc o).heap[w.heap.size + 1]? = some o := fun o => by have := heap_alloc_new (w.alloc (itemC 2 true i f s la ll lc)) o; rwa [World.size_alloc] at this
  go_enter Tryd.func18, Tryd.ntmps18
  go_wp2_with (at_builtin; go_must (refine wpList_append_lies _ (by rfl) _ _ _ (by rfl) 0 5 i0 (.int .u8 0) 1 1 Tryd.underlying37 hi hz0 hz1 hz2 rfl (by decide) _ _ _ (by rfl) (hown'.alloc _) ⟨w.heap.size + 1, 0, none⟩ 1 1 _ (by rfl) ?_ (World.news_of_block (hnew _)) ?_ (by decide) ?_ ?_ (Nat.zero_le _) (w.heap.size + 2) (by simp) ?_))
  · exact rfl
  · unfold maxLen; omega
  · omega
  · intro g2 cap2 w6 hown6 hgrow hat hlt6
    obtain ⟨o6, b6⟩ := own_push_at (v := .slice ao bs.length c) (bs := bs) (ns := [3]) (sx.alloc _) (by simp) rfl hown6 hgrow hat
    have hl6 : bs.length + 1 = (bs ++ [3]).length := by simp
    clear hown6 hgrow hat hown' hown
    go_wp2_with fail
    go_ret
    rw [hl6]
    exact ⟨_, cap2, rfl, o6, b6⟩
set_option maxRecDepth 100000 in
set_option maxHeartbeats 4000000 in
theorem layItem_i {w : World} {ao : Option Addr} {c : Nat} {bs : List UInt8} (b : Bool) (i : Int) (h0 : -9223372036854775808 ≤ i) (h1 : i ≤ 9223372036854775807) (f : Nat) (s : ByteArray) (la : Option Addr) (ll lc : Nat) (hown : Owns w (.slice ao bs.length c) bs) (hl : bs.length ≤ 1000000) :
    Calls Tryd.prog 18 #[.slice ao bs.length c, itemV 3 b i f s la ll lc] w (LayPost (.slice ao bs.length c) w (bs ++ intB i)) := by
  have sx : Same w (w.alloc (itemC 3 b i f s la ll lc)) := (Fr.refl _ w).alloc _
  have HI := layInt_calls (w := w.alloc (itemC 3 b i f s la ll lc)) i h0 h1 (own_frame hown sx (fun _ _ f => f)) hl
  generalize bs ++ intB i = L at *
  clear hown
  go_enter Tryd.func18, Tryd.ntmps18
  go_wp2_with fail
  refine HI.mono ?_
  rintro e W1 ⟨ao1, c1, rfl, h2, h3⟩
  go_wp2_with fail
  go_ret
  exact ⟨ao1, c1, rfl, h2, BStep.same sx h3⟩
end Go.Proofs.YtjhnehhiahoelaaDoor
