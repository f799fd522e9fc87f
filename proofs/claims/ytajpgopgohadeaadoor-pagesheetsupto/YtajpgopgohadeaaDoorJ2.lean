/- Over; Page of Sheets. -/
import Derived.Test.YtajpgopgohadeaaDoorJ1
import Derived.Test.YtajpgopgohadeaaDoorGY
namespace Go.Proofs.YtajpgopgohadeaaDoor
open Go.RowKit

abbrev bkV (B : Nat) : Value := .iface 28 (.pointer (some ⟨B, 0, none⟩))
set_option maxRecDepth 100000 in
theorem over_nil (p q : Int) (w : World) : Calls Tryd.prog 5 #[frameV p q, .nilIface] w fun e w' => e = .returned (.tuple #[.pointer none, .int .i64 (if frameP p q = true then 1 else 2)]) ∧ Same w w' := by
  have HM := may_calls p q
  by_cases hf : frameP p q = true
  · rw [if_pos hf]
    rw [hf] at HM
    go_enter Tryd.func5, Tryd.ntmps5
    go_wp2_with fail
    refine (HM _).mono ?_
    rintro e W1 ⟨rfl, s1⟩
    go_wp2_with fail
    go_ret2
    exact ⟨rfl, Same.trans ((Fr.refl _ w).alloc _) s1⟩
  · rw [if_neg hf]
    rw [show frameP p q = false from by simpa using hf] at HM
    go_enter Tryd.func5, Tryd.ntmps5
    go_wp2_with fail
    refine (HM _).mono ?_
    rintro e W1 ⟨rfl, s1⟩
    go_wp2_with fail
    go_ret2
    exact ⟨rfl, Same.trans ((Fr.refl _ w).alloc _) s1⟩
set_option maxRecDepth 100000 in
theorem over_bad {p q : Int} (hf : frameP p q = false) (B : Nat) (w : World) : Calls Tryd.prog 5 #[frameV p q, bkV B] w fun e w' => e = .returned (.tuple #[.pointer none, .int .i64 2]) ∧ Same w w' := by
  have HM := may_calls p q
  rw [hf] at HM
  go_enter Tryd.func5, Tryd.ntmps5
  go_wp2_with fail
  refine (HM _).mono ?_
  rintro e W1 ⟨rfl, s1⟩
  go_wp2_with fail
  go_ret2
  exact ⟨rfl, Same.trans ((Fr.refl _ w).alloc _) s1⟩
set_option maxRecDepth 100000 in
theorem over_good {p q : Int} (hf : frameP p q = true) (B : Nat) (w : World) : Calls Tryd.prog 5 #[frameV p q, bkV B] w fun e w' => ∃ SB, e = .returned (.tuple #[.pointer (some ⟨SB, 0, none⟩), .int .i64 0]) ∧ w'.heap[SB]? = some (.cells #[bkV B, .int .i64 p, .int .i64 q] 58 (0, 0)) ∧ w.heap.size ≤ SB ∧ Same w w' := by
  have HM := may_calls p q
  rw [hf] at HM
  have c0 : (w.alloc (.cells #[.int .i64 p, .int .i64 q] 23)).cell? ⟨w.heap.size, 0, none⟩ = some (.int .i64 p) := by simp
  have c1 : (w.alloc (.cells #[.int .i64 p, .int .i64 q] 23)).cell? ⟨w.heap.size, 1, none⟩ = some (.int .i64 q) := by simp
  go_enter Tryd.func5, Tryd.ntmps5
  go_wp2_with fail
  refine (HM _).mono ?_
  rintro e W1 ⟨rfl, s1⟩
  have c0 := s1.keep c0
  have c1 := s1.keep c1
  have t1 : Same w W1 := Same.trans ((Fr.refl _ w).alloc _) s1
  go_wp2_with fail
  go_ret2
  exact ⟨W1.heap.size, rfl, heap_alloc_new W1 _, t1.size, t1.alloc _⟩

set_option maxRecDepth 100000 in
theorem sthere_good {w : World} {SB B : Nat} {p q : Int} (hf : frameP p q = true) (c0 : w.cell? ⟨SB, 0, none⟩ = some (bkV B)) (c1 : w.cell? ⟨SB, 1, none⟩ = some (.int .i64 p)) (c2 : w.cell? ⟨SB, 2, none⟩ = some (.int .i64 q)) :
    Calls Tryd.prog 16 #[.pointer (some ⟨SB, 0, none⟩)] w fun e w' => e = .returned (.bool true) ∧ Same w w' := by
  have HM := may_calls p q
  rw [hf] at HM
  go_enter Tryd.func16, Tryd.ntmps16
  go_wp2_with fail
  refine (HM _).mono ?_
  rintro e W1 ⟨rfl, s1⟩
  go_wp2_with fail
  go_ret
  exact ⟨rfl, s1⟩

theorem bk_fr {w w' : World} {S : Nat → Prop} {B : Nat} {pa : Option Addr} {n pc : Nat} {asked : Int} {last : Nat} (h : BkAt w B pa n pc asked last) (s : Fr S w w') (hn : ¬ S B) : BkAt w' B pa n pc asked last := by
  unfold BkAt at h ⊢
  rw [s.block B (lt_of_heap h) hn]; exact h
theorem TabAt.fr {w w' : World} {S : Nat → Prop} (h : TabAt w) (s : Fr S w w') (hn : ¬ S 0) : TabAt w' := fun k hk => (s.cell (World.block_lt_of_cell? _ _ (h k hk)) hn).trans (h k hk)
def numB (no : Nat) : Bool := decide (2 ≤ no ∧ no < 2147483648)
/-- What Sheets over a list of blocks answer. -/
def sheetE (p q : Int) (L : List Blk) (no : Nat) : Int := if numB no = false then 2 else if ¬ (blkA L no).2 = 0 then (blkA L no).2 else openE p q no (blkA L no).1
def sheetV (p q : Int) (L : List Blk) (no : Nat) : Value := if numB no = false then noPage else if ¬ (blkA L no).2 = 0 then noPage else openV p q no (blkA L no).1

set_option maxRecDepth 100000 in
set_option maxHeartbeats 2000000 in
theorem sheet_calls {w : World} {SB B : Nat} {pa : Option Addr} {pb po pc : Nat} {L : List Blk} {asked : Int} {last : Nat} {p q : Int} (ht : TabAt w) (hf : frameP p q = true) (hs : w.heap[SB]? = some (.cells #[bkV B, .int .i64 p, .int .i64 q] 58 (0, 0))) (h : LAt w pa pb po L) (hb : BkAt w B pa L.length pc asked last) (hne : L ≠ [] → pb ≠ B) (hl : L.length ≤ 281474976710656) (ha : 0 ≤ asked ∧ asked < 9000000000000000000) (hBg : 0 ≠ B) (no : Nat) :
    Calls Tryd.prog 8 #[.pointer (some ⟨SB, 0, none⟩), .int .u32 no] w fun e w' => e = .returned (.tuple #[sheetV p q L no, .int .i64 (sheetE p q L no)]) ∧ BkAt w' B pa L.length pc (if numB no = true then asked + 1 else asked) (if numB no = true then no else last) ∧ Fr (fun k => k = B) w w' := by
  obtain ⟨c0, c1, c2⟩ : w.cell? ⟨SB, 0, none⟩ = some (bkV B) ∧ w.cell? ⟨SB, 1, none⟩ = some (.int .i64 p) ∧ w.cell? ⟨SB, 2, none⟩ = some (.int .i64 q) := by
    refine ⟨?_, ?_, ?_⟩ <;> simp [World.cell?, hs]
  obtain ⟨V, hV⟩ : ∃ V, V = w.alloc (.cells #[.int .u8 0, .int .u32 0, .int .u64 0, .string ⟨#[]⟩] 41) := ⟨_, rfl⟩
  have sx : Same w V := by rw [hV]; exact (Fr.refl _ w).alloc _
  have e0 := sx.keep c0
  have e1 := sx.keep c1
  have e2 := sx.keep c2
  have HT : Hid (Calls Tryd.prog 16 #[.pointer (some ⟨SB, 0, none⟩)] V fun e w' => e = .returned (.bool true) ∧ Same V w') := sthere_good hf e0 e1 e2
  have HN : Hid (∀ W, Calls Tryd.prog 17 #[.int .u32 no] W fun e w' => e = .returned (.bool (numB no)) ∧ W = w') := numbered_calls no
  have HRES : Hid (∀ (tmps : Array Value) (W : World) (cs : Array Value) (g : Nat), W.heap[g]? = some (.cells cs 41 (0, 0)) → cs.size = 4 → tmps.getD 4 undef = .pointer (some ⟨g, 0, none⟩) → (results Tryd.f8 tmps).run Tryd.prog W = .ok (.tuple #[.agg cs, tmps.getD 5 undef]) W) := fun tmps W cs g h h4 hp => results_row_tmp (p := 4) (u := 5) (ty := 41) (by kernel_rfl) tmps _ g 41 _ (0, 0) _ hp h Tryd.underlying41 rfl (by rw [h4]; kernel_rfl)
  have RV : V.heap[w.heap.size]? = some (.cells #[.int .u8 0, .int .u32 0, .int .u64 0, .string ⟨#[]⟩] 41 (0, 0)) := by rw [hV]; exact heap_alloc_new w _
  have hBlt : B < w.heap.size := lt_of_heap hb
  have hSlt : SB < w.heap.size := lt_of_heap hs
  have hSB : SB ≠ B := by
    intro e
    unfold BkAt at hb
    rw [e, hb] at hs
    simp at hs
  by_cases hn : numB no = true
  rotate_left
  · have hn' : numB no = false := by simpa using hn
    have eE : sheetE p q L no = 2 := by unfold sheetE; rw [if_pos hn']
    have eV : sheetV p q L no = noPage := by unfold sheetV; rw [if_pos hn']
    rw [eE, eV, if_neg hn, if_neg hn]
    rw [hn'] at HN
    have hbV : BkAt V B pa L.length pc asked last := bk_fr hb sx (fun f => f)
    clear eE eV hn hn' h hb hs hne hl ha ht hf
    go_enter Tryd.func8, Tryd.ntmps8
    go_wp2_with fail
    rw [← hV]
    clear hV
    refine HT.out.mono ?_
    rintro e W1 ⟨rfl, s1⟩
    have RW := (s1.block _ (lt_of_heap RV) (fun f => f)).trans RV
    have FF : Fr (fun k => k = B) w W1 := (sx.trans s1).mono (fun _ _ f => f.elim)
    have BB := bk_fr hbV s1 (fun f => f)
    obtain ⟨j0, j1, j2, j3, g0, g1, g2, g3⟩ := row4_cells RW
    go_wp2_with fail
    refine (HN.out _).mono ?_
    rintro e W2 ⟨rfl, rfl⟩
    go_wp2_with fail
    obtain ⟨X9, hX⟩ : ∃ X, X = ((((W1.setCell ⟨w.heap.size, 0, none⟩ (.int .u8 0)).setCell ⟨w.heap.size, 1, none⟩ (.int .u32 0)).setCell ⟨w.heap.size, 2, none⟩ (.int .u64 0)).setCell ⟨w.heap.size, 3, none⟩ (.string ⟨#[]⟩)) := ⟨_, rfl⟩
    have RX : X9.heap[w.heap.size]? = some (.cells #[.int .u8 0, .int .u32 0, .int .u64 0, .string ⟨#[]⟩] 41 (0, 0)) := by rw [hX]; exact row4_put RW
    have FX : Fr (fun k => k = B) w X9 := by rw [hX]; exact (((FF.setCell (p := ⟨w.heap.size, 0, none⟩) (fun h => absurd h (by simp)) _).setCell (p := ⟨w.heap.size, 1, none⟩) (fun h => absurd h (by simp)) _).setCell (p := ⟨w.heap.size, 2, none⟩) (fun h => absurd h (by simp)) _).setCell (p := ⟨w.heap.size, 3, none⟩) (fun h => absurd h (by simp)) _
    have FY : Fr (fun k => k = w.heap.size) W1 X9 := by rw [hX]; exact ((((Fr.refl (fun k => k = w.heap.size) W1).setCell (p := ⟨w.heap.size, 0, none⟩) (fun _ => rfl) _).setCell (p := ⟨w.heap.size, 1, none⟩) (fun _ => rfl) _).setCell (p := ⟨w.heap.size, 2, none⟩) (fun _ => rfl) _).setCell (p := ⟨w.heap.size, 3, none⟩) (fun _ => rfl) _
    have BX := bk_fr BB FY (by omega)
    rw [← hX]
    clear hX
    exact bodyPost_ret (HRES.out _ _ _ _ RX rfl rfl) rfl ⟨rfl, BX, FX⟩
  rw [hn] at HN
  rw [if_pos hn, if_pos hn]
  have HBR : Hid (∀ W, Same w W → Calls Tryd.prog 104 #[.pointer (some ⟨B, 0, none⟩), .int .u32 no] W fun e w' => e = .returned (.tuple #[.string (blkA L no).1, .int .i64 (blkA L no).2]) ∧ BkAt w' B pa L.length pc (asked + 1) no ∧ Fr (fun k => k = B) W w') := fun W hW => bread_calls (h.fr hW (fun _ f => f)) (bk_fr hb hW (fun f => f)) hne hl ha no
  have HTB : Hid (∀ W, Fr (fun k => k = B) w W → TabAt W) := fun W hW => TabAt.fr ht hW hBg
  by_cases hc : (blkA L no).2 = 0
  rotate_left
  · have eE : sheetE p q L no = (blkA L no).2 := by unfold sheetE; rw [if_neg (by rw [hn]; decide), if_pos hc]
    have eV : sheetV p q L no = noPage := by unfold sheetV; rw [if_neg (by rw [hn]; decide), if_pos hc]
    rw [eE, eV]
    generalize (blkA L no).2 = bc at *
    generalize (blkA L no).1 = bt at *
    generalize L.length = nl at *
    clear eE eV hn h hb hs hne hl ha ht hf
    go_enter Tryd.func8, Tryd.ntmps8
    go_wp2_with fail
    rw [← hV]
    clear hV
    refine HT.out.mono ?_
    rintro e W1 ⟨rfl, s1⟩
    have e0 := s1.keep e0
    have t1 := sx.trans s1
    have R1 := (s1.block _ (lt_of_heap RV) (fun f => f)).trans RV
    go_wp2_with fail
    refine (HN.out _).mono ?_
    rintro e W2 ⟨rfl, rfl⟩
    go_wp2_with fail
    refine (HBR.out _ t1).mono ?_
    rintro e W3 ⟨rfl, BB, f3⟩
    have RW := (f3.block w.heap.size (lt_of_heap R1) (by omega)).trans R1
    have FF : Fr (fun k => k = B) w W3 := Fr.trans (t1.mono (fun _ _ f => f.elim)) f3 (fun _ _ f => f)
    obtain ⟨j0, j1, j2, j3, g0, g1, g2, g3⟩ := row4_cells RW
    go_wp2_with fail
    obtain ⟨X9, hX⟩ : ∃ X, X = ((((W3.setCell ⟨w.heap.size, 0, none⟩ (.int .u8 0)).setCell ⟨w.heap.size, 1, none⟩ (.int .u32 0)).setCell ⟨w.heap.size, 2, none⟩ (.int .u64 0)).setCell ⟨w.heap.size, 3, none⟩ (.string ⟨#[]⟩)) := ⟨_, rfl⟩
    have RX : X9.heap[w.heap.size]? = some (.cells #[.int .u8 0, .int .u32 0, .int .u64 0, .string ⟨#[]⟩] 41 (0, 0)) := by rw [hX]; exact row4_put RW
    have FX : Fr (fun k => k = B) w X9 := by rw [hX]; exact (((FF.setCell (p := ⟨w.heap.size, 0, none⟩) (fun h => absurd h (by simp)) _).setCell (p := ⟨w.heap.size, 1, none⟩) (fun h => absurd h (by simp)) _).setCell (p := ⟨w.heap.size, 2, none⟩) (fun h => absurd h (by simp)) _).setCell (p := ⟨w.heap.size, 3, none⟩) (fun h => absurd h (by simp)) _
    have FY : Fr (fun k => k = w.heap.size) W3 X9 := by rw [hX]; exact ((((Fr.refl (fun k => k = w.heap.size) W3).setCell (p := ⟨w.heap.size, 0, none⟩) (fun _ => rfl) _).setCell (p := ⟨w.heap.size, 1, none⟩) (fun _ => rfl) _).setCell (p := ⟨w.heap.size, 2, none⟩) (fun _ => rfl) _).setCell (p := ⟨w.heap.size, 3, none⟩) (fun _ => rfl) _
    have BX := bk_fr BB FY (by omega)
    rw [← hX]
    clear hX
    exact bodyPost_ret (HRES.out _ _ _ _ RX rfl rfl) rfl ⟨rfl, BX, FX⟩
  have eE : sheetE p q L no = openE p q no (blkA L no).1 := by unfold sheetE; rw [if_neg (by rw [hn]; decide), if_neg (by simpa using hc)]
  have eV : sheetV p q L no = openV p q no (blkA L no).1 := by unfold sheetV; rw [if_neg (by rw [hn]; decide), if_neg (by simpa using hc)]
  rw [eE, eV]
  rw [hc] at HBR
  have ov : ∃ a0 a1 a2 a3, openV p q no (blkA L no).1 = pageV a0 a1 a2 a3 := by
    rcases open_cases p q no (blkA L no).1 with ⟨_, _, _, h⟩ | ⟨_, _, _, _, h⟩ | ⟨_, _, _, _, h⟩ <;> exact ⟨_, _, _, _, h⟩
  obtain ⟨b0, b1, b2, b3, hov⟩ := ov
  have HOP : Hid (∀ W, TabAt W → Calls Tryd.prog 18 #[frameV p q, .int .u32 no, .string (blkA L no).1] W fun e w' => e = .returned (.tuple #[pageV b0 b1 b2 b3, .int .i64 (openE p q no (blkA L no).1)]) ∧ Same W w') := fun W h => by rw [← hov]; exact open_calls5 p q no _ W h
  rw [hov]
  generalize openE p q no (blkA L no).1 = oe at *
  generalize (blkA L no).1 = bt at *
  generalize L.length = nl at *
  clear eE eV hn h hb hs hne hl ha ht hf hc hov
  go_enter Tryd.func8, Tryd.ntmps8
  go_wp2_with fail
  rw [← hV]
  clear hV
  refine HT.out.mono ?_
  rintro e W1 ⟨rfl, s1⟩
  have d0 := s1.keep e0
  have d1 := s1.keep e1
  have d2 := s1.keep e2
  have t1 := sx.trans s1
  have R1 := (s1.block _ (lt_of_heap RV) (fun f => f)).trans RV
  go_wp2_with fail
  refine (HN.out _).mono ?_
  rintro e W2 ⟨rfl, rfl⟩
  go_wp2_with fail
  refine (HBR.out _ t1).mono ?_
  rintro e W3 ⟨rfl, B3, f3⟩
  have k1 := (f3.cell (p := ⟨SB, 1, none⟩) (Nat.lt_of_lt_of_le hSlt t1.size) hSB).trans d1
  have k2 := (f3.cell (p := ⟨SB, 2, none⟩) (Nat.lt_of_lt_of_le hSlt t1.size) hSB).trans d2
  have F3 : Fr (fun k => k = B) w W3 := Fr.trans (t1.mono (fun _ _ f => f.elim)) f3 (fun _ _ f => f)
  have R3 := (f3.block w.heap.size (lt_of_heap R1) (by omega)).trans R1
  go_wp2_with fail
  refine (HOP.out _ (HTB.out _ F3)).mono ?_
  rintro e W4 ⟨rfl, s4⟩
  have RW := (s4.block w.heap.size (lt_of_heap R3) (fun f => f)).trans R3
  have FF : Fr (fun k => k = B) w W4 := Fr.trans F3 s4 (fun _ _ f => f.elim)
  have BB := bk_fr B3 s4 (fun f => f)
  obtain ⟨j0, j1, j2, j3, g0, g1, g2, g3⟩ := row4_cells RW
  go_wp2_with fail
  obtain ⟨X9, hX⟩ : ∃ X, X = ((((W4.setCell ⟨w.heap.size, 0, none⟩ (.int .u8 b0)).setCell ⟨w.heap.size, 1, none⟩ (.int .u32 b1)).setCell ⟨w.heap.size, 2, none⟩ (.int .u64 b2)).setCell ⟨w.heap.size, 3, none⟩ (.string b3)) := ⟨_, rfl⟩
  have RX : X9.heap[w.heap.size]? = some (.cells #[.int .u8 b0, .int .u32 b1, .int .u64 b2, .string b3] 41 (0, 0)) := by rw [hX]; exact row4_put RW
  have FX : Fr (fun k => k = B) w X9 := by rw [hX]; exact (((FF.setCell (p := ⟨w.heap.size, 0, none⟩) (fun h => absurd h (by simp)) _).setCell (p := ⟨w.heap.size, 1, none⟩) (fun h => absurd h (by simp)) _).setCell (p := ⟨w.heap.size, 2, none⟩) (fun h => absurd h (by simp)) _).setCell (p := ⟨w.heap.size, 3, none⟩) (fun h => absurd h (by simp)) _
  have FY : Fr (fun k => k = w.heap.size) W4 X9 := by rw [hX]; exact ((((Fr.refl (fun k => k = w.heap.size) W4).setCell (p := ⟨w.heap.size, 0, none⟩) (fun _ => rfl) _).setCell (p := ⟨w.heap.size, 1, none⟩) (fun _ => rfl) _).setCell (p := ⟨w.heap.size, 2, none⟩) (fun _ => rfl) _).setCell (p := ⟨w.heap.size, 3, none⟩) (fun _ => rfl) _
  have BX := bk_fr BB FY (by omega)
  rw [← hX]
  clear hX
  exact bodyPost_ret (HRES.out _ _ _ _ RX rfl rfl) rfl ⟨rfl, BX, FX⟩
end Go.Proofs.YtajpgopgohadeaaDoor
