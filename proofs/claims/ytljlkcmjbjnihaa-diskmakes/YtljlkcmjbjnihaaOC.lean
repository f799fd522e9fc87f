/- disk: its small calls; a copy of sheets. -/
import Derived.Test.YtljlkcmjbjnihaaOB
namespace Go.Proofs.Ytljlkcmjbjnihaa
open Go.RowKit

set_option maxRecDepth 100000 in
theorem dtaken_calls {b : Nat} {D : Dk} {S : Nat → Prop} (w : World) (h : DkAt w b D S) (hp : 0 < D.page) :
    Calls Try.prog 23 #[.pointer (some ⟨b, 0, none⟩)] w fun e w' => e = .returned (.int .i64 (D.taken : Int)) ∧ w' = w := by
  obtain ⟨h1, h2, h3, h4, h5, h6, h7, h8⟩ := h.cells
  have hT := there_core w h1 (by omega)
  clear h
  go_enter Try.func23, Try.ntmps23
  go_wp2_with fail
  refine hT.mono ?_
  rintro e w' ⟨rfl, hw⟩
  rw [hw]
  go_wp2_with fail
  go_ret
  exact ⟨rfl, rfl⟩
set_option maxRecDepth 100000 in
theorem dlife_calls {b : Nat} {D : Dk} {S : Nat → Prop} (w : World) (h : DkAt w b D S) (hp : 0 < D.page) :
    Calls Try.prog 22 #[.pointer (some ⟨b, 0, none⟩)] w fun e w' => e = .returned (.int .i64 (D.life : Int)) ∧ w' = w := by
  obtain ⟨h1, h2, h3, h4, h5, h6, h7, h8⟩ := h.cells
  have hT := there_core w h1 (by omega)
  clear h
  go_enter Try.func22, Try.ntmps22
  go_wp2_with fail
  refine hT.mono ?_
  rintro e w' ⟨rfl, hw⟩
  rw [hw]
  go_wp2_with fail
  go_ret
  exact ⟨rfl, rfl⟩
set_option maxRecDepth 100000 in
theorem dacts_calls {b : Nat} {D : Dk} {S : Nat → Prop} (w : World) (h : DkAt w b D S) (hp : 0 < D.page) :
    Calls Try.prog 24 #[.pointer (some ⟨b, 0, none⟩)] w fun e w' => e = .returned (.agg #[.int .i64 (D.wr : Int), .int .i64 (D.gr : Int), .int .i64 (D.sy : Int)]) ∧ Same w w' := by
  obtain ⟨h1, h2, h3, h4, h5, h6, h7, h8⟩ := h.cells
  clear h
  have sV : Same w (w.alloc (.cells #[.int .i64 0, .int .i64 0, .int .i64 0] 40)) := (Fr.refl _ w).alloc _
  have hr : (w.alloc (.cells #[.int .i64 0, .int .i64 0, .int .i64 0] 40)).heap[w.heap.size]? = some (.cells #[.int .i64 0, .int .i64 0, .int .i64 0] 40 (0, 0)) := heap_alloc_new w _
  have HR : Hid ((w.alloc (.cells #[.int .i64 0, .int .i64 0, .int .i64 0] 40)).heap[w.heap.size]? = some (.cells #[.int .i64 0, .int .i64 0, .int .i64 0] 40 (0, 0))) := hr
  have HS : Hid (Same w (w.alloc (.cells #[.int .i64 0, .int .i64 0, .int .i64 0] 40))) := sV
  have g1 := sV.keep h1
  have g4 := sV.keep h4
  have g5 := sV.keep h5
  have g6 := sV.keep h6
  have hT := there_core _ g1 (by omega)
  clear sV hr h1 h2 h3 h4 h5 h6 h7 h8
  go_enter Try.func24, Try.ntmps24
  go_wp2_with fail
  generalize w.alloc (.cells #[.int .i64 0, .int .i64 0, .int .i64 0] 40) = V at *
  refine hT.mono ?_
  rintro e w' ⟨rfl, hw⟩
  rw [hw]
  clear hT
  go_wp2_with (refine wpList_store_whole (by rfl) 40 _ _ (by rfl) w.heap.size #[.int .i64 (D.wr : Int), .int .i64 (D.gr : Int), .int .i64 (D.sy : Int)] _ 40 (by rfl) (by rfl) HR.out rfl (by kernel_rfl) (by kernel_rfl) ?_; intro W7 r7 f7)
  refine bodyPost_ret (results_row_one rfl _ _ _ _ _ _ _ rfl r7 Try.underlying40 rfl (by kernel_rfl)) rfl ?_
  exact ⟨rfl, Fr.trans HS.out f7 (fun k hk e => by omega)⟩
set_option maxRecDepth 100000 in
theorem don_calls {b : Nat} {D : Dk} {S : Nat → Prop} (w : World) (h : DkAt w b D S) (hp : 0 < D.page) :
    Calls Try.prog 21 #[.pointer (some ⟨b, 0, none⟩)] w fun e w' => e = .returned (.bool (!D.off)) ∧ w' = w := by
  obtain ⟨h1, h2, h3, h4, h5, h6, h7, h8⟩ := h.cells
  have hT := there_core w h1 (by omega)
  clear h
  go_enter Try.func21, Try.ntmps21
  go_wp2_with fail
  refine hT.mono ?_
  rintro e w' ⟨rfl, hw⟩
  rw [hw]
  go_wp2_with fail
  go_ret
  exact ⟨rfl, rfl⟩
set_option maxRecDepth 100000 in
theorem dsize_calls {b : Nat} {D : Dk} {S : Nat → Prop} (w : World) (h : DkAt w b D S) (hp : 0 < D.page) :
    Calls Try.prog 18 #[.pointer (some ⟨b, 0, none⟩)] w fun e w' => e = .returned (.int .i64 (D.P.length : Int)) ∧ w' = w := by
  obtain ⟨h1, h2, h3, h4, h5, h6, h7, h8⟩ := h.cells
  have hT := there_core w h1 (by omega)
  obtain ⟨pa, pc, c1, _⟩ := h.rowP
  have hS := size_core (o := 0) w c1
  clear h c1
  go_enter Try.func18, Try.ntmps18
  go_wp2_with fail
  refine hT.mono ?_
  rintro e w' ⟨rfl, hw⟩
  rw [hw]
  go_wp2_with fail
  refine hS.mono ?_
  rintro e w' ⟨rfl, hw⟩
  rw [hw]
  go_wp2_with fail
  go_ret
  exact ⟨rfl, rfl⟩
/-- Read's error and text. -/
def drE (D : Dk) (no : Nat) : Int := if D.off then 7 else if no < D.P.length then 0 else 41
def drS (D : Dk) (no : Nat) : ByteArray := if D.off then ⟨#[]⟩ else (D.P[no]?).getD ⟨#[]⟩
set_option maxRecDepth 100000 in
theorem dread_calls {b : Nat} {D : Dk} {S : Nat → Prop} {no : Nat} (w : World) (h : DkAt w b D S) (hp : 0 < D.page) (hno : no < 4294967296) (hl : D.P.length ≤ 1048576) :
    Calls Try.prog 30 #[.pointer (some ⟨b, 0, none⟩), .int .u32 (no : Int)] w fun e w' => e = .returned (.tuple #[.string (drS D no), .int .i64 (drE D no)]) ∧ w' = w := by
  obtain ⟨h1, h2, h3, h4, h5, h6, h7, h8⟩ := h.cells
  have hR := ready_core w h1 h3 (by omega)
  obtain ⟨pa, pc, c1, ho⟩ := h.rowP
  have hH := has_core (o := 0) w c1 hl hno
  unfold drS drE
  cases hoff : D.off with
  | true =>
    rw [hoff] at hR
    clear h c1 ho hH hl h1 h2 h3 h4 h5 h6 h7 h8
    go_enter Try.func30, Try.ntmps30
    go_wp2_with fail
    refine hR.mono ?_
    rintro e w' ⟨rfl, hw⟩
    rw [hw]
    go_wp2_with fail
    go_ret2
    exact ⟨rfl, rfl⟩
  | false =>
    rw [hoff] at hR
    by_cases hn : no < D.P.length
    · rw [decide_eq_true hn] at hH
      obtain ⟨g, rfl, hg⟩ := own_some ho (by omega)
      obtain ⟨s, hs⟩ : ∃ s, D.P[no]? = some s := ⟨_, List.getElem?_eq_getElem hn⟩
      have c2 : w.cell? ⟨g, no, none⟩ = some (.string s) := own_cell ho (by unfold scells; rw [List.getElem?_map, hs]; rfl)
      have hE := read_core (o := 0) w c1 c2 hn
      simp only [hs, Option.getD_some, if_pos hn, Bool.false_eq_true, if_false]
      clear h c1 ho hl h1 h2 h3 h4 h5 h6 h7 h8 hn hs c2 hg
      go_enter Try.func30, Try.ntmps30
      go_wp2_with fail
      refine hR.mono ?_
      rintro e w' ⟨rfl, hw⟩
      rw [hw]
      go_wp2_with fail
      refine hH.mono ?_
      rintro e w' ⟨rfl, hw⟩
      rw [hw]
      go_wp2_with fail
      refine hE.mono ?_
      rintro e w' ⟨rfl, hw⟩
      rw [hw]
      go_wp2_with fail
      go_ret2
      exact ⟨rfl, rfl⟩
    · rw [decide_eq_false hn] at hH
      have hs : D.P[no]? = none := List.getElem?_eq_none (by omega)
      simp only [hs, Option.getD_none, if_neg hn, Bool.false_eq_true, if_false]
      clear h c1 ho hl h1 h2 h3 h4 h5 h6 h7 h8 hn hs
      go_enter Try.func30, Try.ntmps30
      go_wp2_with fail
      refine hR.mono ?_
      rintro e w' ⟨rfl, hw⟩
      rw [hw]
      go_wp2_with fail
      refine hH.mono ?_
      rintro e w' ⟨rfl, hw⟩
      rw [hw]
      go_wp2_with fail
      go_ret2
      exact ⟨rfl, rfl⟩
def dkWake (D : Dk) : Dk := { D with off := false, life := D.life + 1 }
set_option maxRecDepth 100000 in
theorem dwake_calls {b : Nat} {D : Dk} {S : Nat → Prop} (w : World) (h : DkAt w b D S) (hp : 0 < D.page) (hoff : D.off = true) (hl : D.life < 1000000000) :
    Calls Try.prog 33 #[.pointer (some ⟨b, 0, none⟩)] w fun e w' => e = .returned (.int .i64 0) ∧ DkAt w' b (dkWake D) S ∧ Fr S w w' := by
  have a1 := h.setS (D' := { D with off := false }) 5 (.bool false) rfl rfl rfl (fun _ _ _ _ => rfl)
  have a2 := a1.1.setS (D' := dkWake D) 11 (.int .i64 ((D.life : Int) + 1)) rfl rfl rfl (fun _ _ _ _ => rfl)
  have HA : Hid (DkAt ((w.setCell ⟨b, 5, none⟩ (.bool false)).setCell ⟨b, 11, none⟩ (.int .i64 ((D.life : Int) + 1))) b (dkWake D) S ∧ Fr S w ((w.setCell ⟨b, 5, none⟩ (.bool false)).setCell ⟨b, 11, none⟩ (.int .i64 ((D.life : Int) + 1)))) := ⟨a2.1, Fr.trans a1.2 a2.2 (fun _ _ e => e)⟩
  obtain ⟨h1, h2, h3, h4, h5, h6, h7, h8⟩ := h.cells
  obtain ⟨_, _, _, _, _, _, g7, _⟩ := a1.1.cells
  have g7' : (w.setCell ⟨b, 5, none⟩ (.bool false)).cell? ⟨b, 11, none⟩ = some (.int .i64 (D.life : Int)) := g7
  have hT := there_core w h1 (by omega)
  have e1 : IntKind.i64.wrap ((D.life : Int) + 1) = (D.life : Int) + 1 := by rw [IntKind.wrap_i64]; omega
  have z1 : w.frozen? ⟨b, 5, none⟩ = false := by obtain ⟨⟨_, _, _, _, _, _, _, _, hh, _⟩, _, _⟩ := h; exact frozen_of_row w b 5 _ _ hh
  have z2 : (w.setCell ⟨b, 5, none⟩ (.bool false)).frozen? ⟨b, 11, none⟩ = false := by obtain ⟨⟨_, _, _, _, _, _, _, _, hh, _⟩, _, _⟩ := a1.1; exact frozen_of_row _ b 11 _ _ hh
  rw [hoff] at h3
  clear h a1 a2 g7
  go_enter Try.func33, Try.ntmps33
  go_wp2_with fail
  refine hT.mono ?_
  rintro e w' ⟨rfl, hw⟩
  rw [hw]
  go_wp2_with fail
  go_ret
  exact ⟨rfl, HA.out.1, HA.out.2⟩
end Go.Proofs.Ytljlkcmjbjnihaa
