/- Walks: PageSheets. -/
import Derived.Test.YtajpgopgohadeaaDoorJ3
namespace Go.Proofs.YtajpgopgohadeaaDoor
open Go.RowKit

/-- Numbers that a slice holds. -/
structure AAt (w : World) (pa : Option Addr) (pb po : Nat) (L : List Nat) : Prop where
  place : L ≠ [] → pa = some ⟨pb, po, none⟩ ∧ pb < w.heap.size
  cells : ∀ (j x : Nat), L[j]? = some x → w.cell? ⟨pb, po + j, none⟩ = some (.int .u32 x)
theorem AAt.fr {w w' : World} {S : Nat → Prop} {pa : Option Addr} {pb po : Nat} {L : List Nat} (h : AAt w pa pb po L) (s : Fr S w w') (hn : L ≠ [] → ¬ S pb) : AAt w' pa pb po L := by
  refine ⟨fun e => ⟨(h.place e).1, Nat.lt_of_lt_of_le (h.place e).2 s.size⟩, fun j x hx => ?_⟩
  have hne : L ≠ [] := by intro e; rw [e] at hx; simp at hx
  exact (s.cell (p := ⟨pb, po + j, none⟩) (h.place hne).2 (hn hne)).trans (h.cells j x hx)
abbrev sheetsV (p q : Int) (pa : Option Addr) (n pc : Nat) (qa : Option Addr) (m qc : Nat) : Value := .agg #[.int .i64 p, .int .i64 q, .slice pa n pc, .slice qa m qc]

theorem sheetV_page (p q : Int) (L : List Blk) (no : Nat) : ∃ a0 a1 a2 a3, sheetV p q L no = pageV a0 a1 a2 a3 := by
  unfold sheetV
  split
  · exact ⟨_, _, _, _, rfl⟩
  · split
    · exact ⟨_, _, _, _, rfl⟩
    · rcases open_cases p q no (blkA L no).1 with ⟨_, _, _, h⟩ | ⟨_, _, _, _, h⟩ | ⟨_, _, _, _, h⟩ <;> exact ⟨_, _, _, _, h⟩
theorem bk_cells {W : World} {B : Nat} {pa : Option Addr} {n pc : Nat} {asked : Int} {last : Nat} (h : BkAt W B pa n pc asked last) : W.cell? ⟨B, 1, none⟩ = some (.int .i64 asked) ∧ W.cell? ⟨B, 2, none⟩ = some (.int .u32 last) := by
  unfold BkAt at h
  refine ⟨?_, ?_⟩ <;> simp [World.cell?, h]
set_option maxRecDepth 100000 in
set_option maxHeartbeats 4000000 in
theorem psheets_walk {w : World} (ht : TabAt w) (p q : Int) {pa qa : Option Addr} {pb po pc qb qo qc : Nat} {L : List Blk} {A : List Nat} (hL : LAt w pa pb po L) (hA : AAt w qa qb qo A) (hl : L.length ≤ 4194304) (hm : A.length ≤ 4194304) :
    Calls Tryd.prog 3 #[sheetsV p q pa L.length pc qa A.length qc] w fun e w' => e = .returned (.bool true) ∧ Same w w' := by
  have HA : Hid (∀ W, Same w W → Calls Tryd.prog 7 #[] W fun e w' => e = .returned (.bool true) ∧ Same W w') := fun W h => awake_calls W (ht.same h)
  have hg : 0 < w.heap.size := World.block_lt_of_cell? _ _ (ht 0 (by decide))
  have HO : Hid (∀ W, Calls Tryd.prog 5 #[frameV p q, .nilIface] W fun e w' => e = .returned (.tuple #[.pointer none, .int .i64 (if frameP p q = true then 1 else 2)]) ∧ Same W w') := over_nil p q
  have HMR : Hid (∀ W, Calls Tryd.prog 6 #[frameV p q] W fun e w' => e = .returned (.bool (frameP p q)) ∧ Same W w') := rmay_calls p q
  -- the parameter's cells, and the blocks behind them
  obtain ⟨V, hV⟩ : ∃ V, V = (w.alloc (.cells #[.int .i64 p, .int .i64 q, .slice pa L.length pc, .slice qa A.length qc] 27)).alloc (.cells #[.slice pa L.length pc, .int .i64 0, .int .u32 0] 31) := ⟨_, rfl⟩
  have sx : Same w V := by rw [hV]; exact ((Fr.refl _ w).alloc _).alloc _
  have hbV : BkAt V (w.heap.size + 1) pa L.length pc 0 0 := by rw [hV]; exact heap_alloc2_new w _ _
  have HS : Hid (∀ W, Fr (fun k => k = w.heap.size + 1) V W → W.cell? ⟨w.heap.size, 0, none⟩ = some (.int .i64 p) ∧ W.cell? ⟨w.heap.size, 1, none⟩ = some (.int .i64 q) ∧ W.cell? ⟨w.heap.size, 2, none⟩ = some (.slice pa L.length pc) ∧ W.cell? ⟨w.heap.size, 3, none⟩ = some (.slice qa A.length qc)) := by
    intro W h
    have hlt : w.heap.size < V.heap.size := by rw [hV]; simp; omega
    refine ⟨(h.cell (p := ⟨w.heap.size, 0, none⟩) hlt (by simp)).trans ?_, (h.cell (p := ⟨w.heap.size, 1, none⟩) hlt (by simp)).trans ?_, (h.cell (p := ⟨w.heap.size, 2, none⟩) hlt (by simp)).trans ?_, (h.cell (p := ⟨w.heap.size, 3, none⟩) hlt (by simp)).trans ?_⟩ <;> (rw [hV]; simp)
  obtain ⟨n, hn⟩ : ∃ n, n = L.length := ⟨_, rfl⟩
  obtain ⟨m, hmm⟩ : ∃ m, m = A.length := ⟨_, rfl⟩
  rw [← hn] at hV hbV HS ⊢
  rw [← hmm] at hV HS ⊢
  by_cases hf : frameP p q = true
  rotate_left
  · have hf' : frameP p q = false := by simpa using hf
    rw [if_neg hf] at HO
    rw [hf'] at HMR
    have HB := fun B W => over_bad hf' B W
    obtain ⟨c0, c1, c2, c3⟩ := HS.out V (Fr.refl _ V)
    have HNM : Hid (n = L.length ∧ m = A.length) := ⟨hn, hmm⟩
    clear hf hf' hn hmm hL hA hl hm ht
    go_enter Tryd.func3, Tryd.ntmps3
    go_wp2_with fail
    rw [← hV]
    clear hV
    refine (HO.out _).mono ?_
    rintro e W1 ⟨rfl, s1⟩
    have f1 : Fr (fun k => k = w.heap.size + 1) V W1 := s1.mono (fun _ _ f => f.elim)
    clear c0 c1 c2 c3
    obtain ⟨c0, c1, c2, c3⟩ := HS.out _ f1
    go_wp2_with fail
    refine (HMR.out _).mono ?_
    rintro e W2 ⟨rfl, s2⟩
    have t2 := s1.trans s2
    have f2 : Fr (fun k => k = w.heap.size + 1) V W2 := t2.mono (fun _ _ f => f.elim)
    clear c0 c1 c2 c3
    obtain ⟨c0, c1, c2, c3⟩ := HS.out _ f2
    go_wp2_with fail
    refine (HB _ _).mono ?_
    rintro e W3 ⟨rfl, s3⟩
    have t3 := t2.trans s3
    have f3 : Fr (fun k => k = w.heap.size + 1) V W3 := t3.mono (fun _ _ f => f.elim)
    clear c0 c1 c2 c3
    obtain ⟨c0, c1, c2, c3⟩ := HS.out _ f3
    go_wp2_with fail
    refine (HMR.out _).mono ?_
    rintro e W4 ⟨rfl, s4⟩
    have t4 := t3.trans s4
    have b4 := bk_fr hbV t4 (fun f => f)
    obtain ⟨d1, d2⟩ := bk_cells b4
    go_wp2_with fail
    refine (HA.out _ (sx.trans t4)).mono ?_
    rintro e W5 ⟨rfl, s5⟩
    go_wp2_with fail
    go_ret
    exact ⟨rfl, (sx.trans t4).trans s5⟩
  rw [if_pos hf] at HO
  rw [hf] at HMR
  have HB : Hid (∀ W, Calls Tryd.prog 5 #[frameV p q, bkV (w.heap.size + 1)] W fun e w' => ∃ SB, e = .returned (.tuple #[.pointer (some ⟨SB, 0, none⟩), .int .i64 0]) ∧ w'.heap[SB]? = some (.cells #[bkV (w.heap.size + 1), .int .i64 p, .int .i64 q] 58 (0, 0)) ∧ W.heap.size ≤ SB ∧ Same W w') := fun W => over_good hf _ W
  obtain ⟨c0, c1, c2, c3⟩ := HS.out V (Fr.refl _ V)
  have hVz : V.heap.size = w.heap.size + 2 := by rw [hV]; simp
  have HLV : Hid (LAt V pa pb po L ∧ (L ≠ [] → pb < w.heap.size)) := ⟨hL.fr sx (fun _ f => f), fun e => (hL.place e).2⟩
  have HAV : Hid (AAt V qa qb qo A ∧ (A ≠ [] → qb < w.heap.size)) := ⟨hA.fr sx (fun _ f => f), fun e => (hA.place e).2⟩
  have HNM : Hid (n = L.length ∧ m = A.length) := ⟨hn, hmm⟩
  have HTV : Hid (TabAt V) := ht.same sx
  have HF : Hid (frameP p q = true) := hf
  have hmb : m ≤ 4194304 := by rw [hmm]; exact hm
  have HNB : Hid (L.length ≤ 4194304) := hl
  clear hf hn hmm hL hA hl hm ht
  go_enter Tryd.func3, Tryd.ntmps3
  go_wp2_with fail
  rw [← hV]
  clear hV
  refine (HO.out _).mono ?_
  rintro e W1 ⟨rfl, s1⟩
  have f1 : Fr (fun k => k = w.heap.size + 1) V W1 := s1.mono (fun _ _ f => f.elim)
  clear c0 c1 c2 c3
  obtain ⟨c0, c1, c2, c3⟩ := HS.out _ f1
  go_wp2_with fail
  refine (HMR.out _).mono ?_
  rintro e W2 ⟨rfl, s2⟩
  have t2 := s1.trans s2
  have f2 : Fr (fun k => k = w.heap.size + 1) V W2 := t2.mono (fun _ _ f => f.elim)
  clear c0 c1 c2 c3
  obtain ⟨c0, c1, c2, c3⟩ := HS.out _ f2
  go_wp2_with fail
  refine (HB.out _).mono ?_
  rintro e W3 ⟨SB, rfl, hS3, hSB, s3⟩
  have t3 := t2.trans s3
  have f3 : Fr (fun k => k = w.heap.size + 1) V W3 := t3.mono (fun _ _ f => f.elim)
  clear c0 c1 c2 c3
  obtain ⟨c0, c1, c2, c3⟩ := HS.out _ f3
  go_wp2_with fail
  refine (HMR.out _).mono ?_
  rintro e W4 ⟨rfl, s4⟩
  have t4 := t3.trans s4
  have b4 : Hid (BkAt W4 (w.heap.size + 1) pa n pc 0 0) := bk_fr hbV t4 (fun f => f)
  have hS4 : W4.heap[SB]? = some (.cells #[bkV (w.heap.size + 1), .int .i64 p, .int .i64 q] 58 (0, 0)) := (s4.block SB (lt_of_heap hS3) (fun f => f)).trans hS3
  have hSBlt : SB < W4.heap.size := lt_of_heap hS4
  have hSBn : SB ≠ w.heap.size + 1 := by have := t2.size; omega
  have f4 : Fr (fun k => k = w.heap.size + 1) V W4 := t4.mono (fun _ _ f => f.elim)
  clear c0 c1 c2 c3
  obtain ⟨c0, c1, c2, c3⟩ := HS.out _ f4
  obtain ⟨d1, d2⟩ := bk_cells b4.out
  go_wp2_with fail
  have HQ : Hid (∀ (W : World) (c0 c1 c2 : Nat) (c3 : ByteArray), (W.alloc (.cells #[.int .u8 c0, .int .u32 c1, .int .u64 c2, .string c3] 41)).cell? ⟨W.heap.size, 0, none⟩ = some (.int .u8 c0) ∧ (W.alloc (.cells #[.int .u8 c0, .int .u32 c1, .int .u64 c2, .string c3] 41)).cell? ⟨W.heap.size, 1, none⟩ = some (.int .u32 c1) ∧ (W.alloc (.cells #[.int .u8 c0, .int .u32 c1, .int .u64 c2, .string c3] 41)).cell? ⟨W.heap.size, 2, none⟩ = some (.int .u64 c2) ∧ (W.alloc (.cells #[.int .u8 c0, .int .u32 c1, .int .u64 c2, .string c3] 41)).cell? ⟨W.heap.size, 3, none⟩ = some (.string c3)) := by
    intro W c0 c1 c2 c3
    refine ⟨?_, ?_, ?_, ?_⟩ <;> simp
  have HRW : Hid (∀ W, Fr (fun k => k = w.heap.size + 1) W4 W → W.heap[SB]? = some (.cells #[bkV (w.heap.size + 1), .int .i64 p, .int .i64 q] 58 (0, 0))) := fun W h => (h.block SB hSBlt hSBn).trans hS4
  clear c0 c1 c2 c3 d1 d2 s1 s2 s3 s4 f1 f2 f3 hS3 hS4 t2 t3 HO HMR HB
  go_loopg [7] m (fun gg iv wr => ∃ (k : Nat) (asked : Int) (last : Nat), iv = .int .i64 k ∧ k ≤ m ∧ gg = m - k ∧ 0 ≤ asked ∧ asked ≤ k ∧ Hid (BkAt wr (w.heap.size + 1) pa n pc asked last) ∧ Fr (fun x => x = w.heap.size + 1) W4 wr)
  case atStart => exact ⟨0, 0, 0, rfl, by omega, rfl, by omega, by omega, b4, Fr.refl _ _⟩
  case round =>
    obtain ⟨k, asked, last, rfl, hk, rfl, ha0, ha1, HBk, fr4⟩ := hrel
    have fr : Fr (fun x => x = w.heap.size + 1) V wr := Fr.trans f4 fr4 (fun _ _ f => f)
    obtain ⟨c0, c1, c2, c3⟩ := HS.out _ fr
    by_cases hgo : k < m
    · have hgi : (k : Int) < (m : Int) := by omega
      obtain ⟨no, hno⟩ : ∃ no, A[k]? = some no := ⟨_, List.getElem?_eq_getElem (by have := HNM.out.2; omega)⟩
      have hAne : A ≠ [] := by intro e; rw [e] at hno; simp at hno
      obtain ⟨rfl, _⟩ := HAV.out.1.place hAne
      have y0 := (HAV.out.1.fr fr (fun e => by have := HAV.out.2 e; omega)).cells k no hno
      obtain ⟨d1, d2⟩ := bk_cells HBk.out
      obtain ⟨a0, a1, a2, a3, hsv⟩ := sheetV_page p q L no
      have HP5 : Hid (Calls Tryd.prog 8 #[.pointer (some ⟨SB, 0, none⟩), .int .u32 no] wr fun e w' => e = .returned (.tuple #[pageV a0 a1 a2 a3, .int .i64 (sheetE p q L no)]) ∧ BkAt w' (w.heap.size + 1) pa n pc (if numB no = true then asked + 1 else asked) (if numB no = true then no else last) ∧ Fr (fun k => k = w.heap.size + 1) wr w') := by
        rw [← hsv]
        have hb := HBk.out
        rw [HNM.out.1] at hb ⊢
        exact sheet_calls (TabAt.fr HTV.out fr (by omega)) HF.out (HRW.out _ fr4) (HLV.out.1.fr fr (fun e => by have := HLV.out.2 e; omega)) hb (fun e => by have := HLV.out.2 e; omega) (by have := HNB.out; omega) ⟨ha0, by omega⟩ (by omega) no
      have HRS : Hid (∀ W, Fr (fun k => k = w.heap.size + 1) V W → Calls Tryd.prog 9 #[frameV p q, .slice pa n pc, .int .u32 no] W fun e w' => e = .returned (.tuple #[pageV a0 a1 a2 a3, .int .i64 (sheetE p q L no)]) ∧ Same W w') := fun W hW => by
        rw [← hsv, HNM.out.1]
        exact rsheet_calls p q (HLV.out.1.fr hW (fun e => by have := HLV.out.2 e; omega)) (by have := HNB.out; omega) no
      generalize sheetE p q L no = se at *
      have hwa : IntKind.i64.wrap (asked + 1) = asked + 1 := by rw [IntKind.wrap_i64]; omega
      clear hsv hno hAne
      by_cases hnum : numB no = true
      · have g1 : (2 : Int) ≤ (no : Int) := by unfold numB at hnum; rw [decide_eq_true_eq] at hnum; omega
        have g2 : (no : Int) < 2147483648 := by unfold numB at hnum; rw [decide_eq_true_eq] at hnum; omega
        rw [hnum] at HP5
        simp only [if_true] at HP5
        go_wp2_with fail
        refine (HP5.out).mono ?_
        rintro e W5 ⟨rfl, B5, F5⟩
        have G5 : Fr (fun k => k = w.heap.size + 1) V (W5.alloc (.cells #[.int .u8 a0, .int .u32 a1, .int .u64 a2, .string a3] 41)) := (Fr.trans fr F5 (fun _ _ f => f)).alloc _
        have B6 := bk_fr B5 ((Fr.refl (fun _ => False) W5).alloc (.cells #[.int .u8 a0, .int .u32 a1, .int .u64 a2, .string a3] 41)) (fun f => f)
        clear c0 c1 c2 c3 d1 d2 y0
        obtain ⟨c0, c1, c2, c3⟩ := HS.out _ G5
        obtain ⟨x0, x1, x2, x3⟩ := HQ.out W5 a0 a1 a2 a3
        have HR5 := HRS.out _ G5
        go_wp2_with fail
        refine HR5.mono ?_
        rintro e W6 ⟨rfl, s6⟩
        have q6 : Same W6 (W6.alloc (.cells #[.int .u8 a0, .int .u32 a1, .int .u64 a2, .string a3] 41)) := (Fr.refl _ W6).alloc _
        have t6 := s6.trans q6
        have G6 : Fr (fun k => k = w.heap.size + 1) V (W6.alloc (.cells #[.int .u8 a0, .int .u32 a1, .int .u64 a2, .string a3] 41)) := Fr.trans G5 t6 (fun _ _ f => f.elim)
        have B7 := bk_fr B6 t6 (fun f => f)
        obtain ⟨d1, d2⟩ := bk_cells B7
        have x0 := t6.keep x0
        have x1 := t6.keep x1
        have x2 := t6.keep x2
        have x3 := t6.keep x3
        obtain ⟨y0, y1, y2, y3⟩ := HQ.out W6 a0 a1 a2 a3
        clear c0 c1 c2 c3 HR5 HP5
        go_wp2_with fail
        have G7 : Fr (fun x => x = w.heap.size + 1) W4 (W6.alloc (.cells #[.int .u8 a0, .int .u32 a1, .int .u64 a2, .string a3] 41)) := Fr.trans fr4 (Fr.trans (F5.alloc _) t6 (fun _ _ f => f.elim)) (fun _ _ f => f)
        go_roundg (m - (k + 1))
        case measure => omega
        case rel => exact ⟨k + 1, asked + 1, no, by go_num, by omega, rfl, by omega, by omega, B7, G7⟩
      · have hnum' : numB no = false := by simpa using hnum
        rw [hnum'] at HP5
        simp only [Bool.false_eq_true, if_false] at HP5
        have hg : (no : Int) < 2 ∨ ((2 : Int) ≤ (no : Int) ∧ ¬ (no : Int) < 2147483648) := by unfold numB at hnum'; rw [decide_eq_false_iff_not] at hnum'; omega
        clear hnum hnum'
        rcases hg with g1 | ⟨g1, g2⟩
        · have g1' : ¬ (2 : Int) ≤ (no : Int) := by omega
          go_wp2_with fail
          refine (HP5.out).mono ?_
          rintro e W5 ⟨rfl, B5, F5⟩
          have G5 : Fr (fun k => k = w.heap.size + 1) V (W5.alloc (.cells #[.int .u8 a0, .int .u32 a1, .int .u64 a2, .string a3] 41)) := (Fr.trans fr F5 (fun _ _ f => f)).alloc _
          have B6 := bk_fr B5 ((Fr.refl (fun _ => False) W5).alloc (.cells #[.int .u8 a0, .int .u32 a1, .int .u64 a2, .string a3] 41)) (fun f => f)
          clear c0 c1 c2 c3 d1 d2 y0
          obtain ⟨c0, c1, c2, c3⟩ := HS.out _ G5
          obtain ⟨x0, x1, x2, x3⟩ := HQ.out W5 a0 a1 a2 a3
          have HR5 := HRS.out _ G5
          go_wp2_with fail
          refine HR5.mono ?_
          rintro e W6 ⟨rfl, s6⟩
          have q6 : Same W6 (W6.alloc (.cells #[.int .u8 a0, .int .u32 a1, .int .u64 a2, .string a3] 41)) := (Fr.refl _ W6).alloc _
          have t6 := s6.trans q6
          have G6 : Fr (fun k => k = w.heap.size + 1) V (W6.alloc (.cells #[.int .u8 a0, .int .u32 a1, .int .u64 a2, .string a3] 41)) := Fr.trans G5 t6 (fun _ _ f => f.elim)
          have B7 := bk_fr B6 t6 (fun f => f)
          obtain ⟨d1, d2⟩ := bk_cells B7
          have x0 := t6.keep x0
          have x1 := t6.keep x1
          have x2 := t6.keep x2
          have x3 := t6.keep x3
          obtain ⟨y0, y1, y2, y3⟩ := HQ.out W6 a0 a1 a2 a3
          clear c0 c1 c2 c3 HR5 HP5
          go_wp2_with fail
          have G7 : Fr (fun x => x = w.heap.size + 1) W4 (W6.alloc (.cells #[.int .u8 a0, .int .u32 a1, .int .u64 a2, .string a3] 41)) := Fr.trans fr4 (Fr.trans (F5.alloc _) t6 (fun _ _ f => f.elim)) (fun _ _ f => f)
          go_roundg (m - (k + 1))
          case measure => omega
          case rel => exact ⟨k + 1, asked, last, by go_num, by omega, rfl, by omega, by omega, B7, G7⟩
        · go_wp2_with fail
          refine (HP5.out).mono ?_
          rintro e W5 ⟨rfl, B5, F5⟩
          have G5 : Fr (fun k => k = w.heap.size + 1) V (W5.alloc (.cells #[.int .u8 a0, .int .u32 a1, .int .u64 a2, .string a3] 41)) := (Fr.trans fr F5 (fun _ _ f => f)).alloc _
          have B6 := bk_fr B5 ((Fr.refl (fun _ => False) W5).alloc (.cells #[.int .u8 a0, .int .u32 a1, .int .u64 a2, .string a3] 41)) (fun f => f)
          clear c0 c1 c2 c3 d1 d2 y0
          obtain ⟨c0, c1, c2, c3⟩ := HS.out _ G5
          obtain ⟨x0, x1, x2, x3⟩ := HQ.out W5 a0 a1 a2 a3
          have HR5 := HRS.out _ G5
          go_wp2_with fail
          refine HR5.mono ?_
          rintro e W6 ⟨rfl, s6⟩
          have q6 : Same W6 (W6.alloc (.cells #[.int .u8 a0, .int .u32 a1, .int .u64 a2, .string a3] 41)) := (Fr.refl _ W6).alloc _
          have t6 := s6.trans q6
          have G6 : Fr (fun k => k = w.heap.size + 1) V (W6.alloc (.cells #[.int .u8 a0, .int .u32 a1, .int .u64 a2, .string a3] 41)) := Fr.trans G5 t6 (fun _ _ f => f.elim)
          have B7 := bk_fr B6 t6 (fun f => f)
          obtain ⟨d1, d2⟩ := bk_cells B7
          have x0 := t6.keep x0
          have x1 := t6.keep x1
          have x2 := t6.keep x2
          have x3 := t6.keep x3
          obtain ⟨y0, y1, y2, y3⟩ := HQ.out W6 a0 a1 a2 a3
          clear c0 c1 c2 c3 HR5 HP5
          have g3 : decide ((no : Int) < 2147483648) = false := by simpa using g2
          clear g2
          go_wp2_with fail
          have G7 : Fr (fun x => x = w.heap.size + 1) W4 (W6.alloc (.cells #[.int .u8 a0, .int .u32 a1, .int .u64 a2, .string a3] 41)) := Fr.trans fr4 (Fr.trans (F5.alloc _) t6 (fun _ _ f => f.elim)) (fun _ _ f => f)
          go_roundg (m - (k + 1))
          case measure => omega
          case rel => exact ⟨k + 1, asked, last, by go_num, by omega, rfl, by omega, by omega, B7, G7⟩
    · have hgi : ¬ (k : Int) < (m : Int) := by omega
      have frw : Same w wr := (Fr.trans (sx.mono (fun _ _ f => f.elim) : Fr (fun x => x = w.heap.size + 1) w V) fr (fun _ _ f => f)).mono (fun i hi e => by omega)
      go_wp2_with fail
      refine (HA.out _ frw).mono ?_
      rintro e W5 ⟨rfl, s5⟩
      go_wp2_with fail
      go_ret
      exact ⟨rfl, frw.trans s5⟩
end Go.Proofs.YtajpgopgohadeaaDoor
