/-
  Walks: roundConstants, mixBlocks.
-/
import Derived.Test.YtnoicjpmfchhiaaDoorS5
namespace Go.Proofs.YtnoicjpmfchhiaaDoor
open Go.RowKit

theorem wcells_one (l : List UInt32) : (wcells l).toArray.all (·.oneCell') = true :=
  all_oneCell_toArray (by intro v hv; simp only [wcells, List.mem_map] at hv; obtain ⟨c, _, rfl⟩ := hv; rfl)
theorem bcells_one (l : List UInt8) : (bcells l).toArray.all (·.oneCell') = true :=
  all_oneCell_toArray (by intro v hv; simp only [bcells, List.mem_map] at hv; obtain ⟨c, _, rfl⟩ := hv; rfl)

/-- A whole array stored into a block of its own. -/
theorem wpList_store_whole {P : Program} {ops : Array Oper} {rest : List Oper} {op : Oper} {a : Act} {w : World} {Q : Exit → Act → World → Prop} (hgd : op.guard = none) (ty : TypeId) (x y : Operand) (ho : op.op = .store ty x y)
    (b : Nat) (cells old : Array Value) (t : TypeId) (hx : a.eval x = .pointer (some ⟨b, 0, none⟩)) (hy : a.eval y = .agg cells) (hb : w.heap[b]? = some (.cells old t (0, 0))) (hl : old.size = cells.size)
    (hi : (P.info? ty).map (·.size) = some cells.size) (h1 : cells.all (·.oneCell') = true)
    (h : ∀ w', w'.heap[b]? = some (.cells cells t (0, 0)) → Fr (fun k => k = b) w w' → wpList P ops Q rest (a.put op.dst undef) w') : wpList P ops Q (op :: rest) a w := by
  have hth : w.there b 0 cells.size := there_row hb hl.symm
  refine wpList_store_mid hgd ty x y ho b 0 cells hx hy hth hi h1 (h _ ?_ (Fr.setCells (S := fun k => k = b) (fun _ => rfl) _ 0 w (Fr.refl _ w)))
  have := setCells_whole cells.toList old hb (by rw [hl, Array.length_toList]) (by rw [Array.length_toList]; exact hth)
  rwa [Array.toArray_toList] at this

set_option maxRecDepth 100000 in
set_option maxHeartbeats 2000000 in
theorem consts_calls (w : World) : Calls Tryd.prog 34 #[] w fun e w' => e = .returned (.agg (wcells kTab).toArray) ∧ Same w w' := by
  have hsz : (Tryd.prog.info? 69).map (·.size) = some (wcells kTab).toArray.size := by rw [Tryd.ainfo69]; rfl
  have hone := wcells_one kTab
  have hlit : (#[.int .u32 0x428a2f98, .int .u32 0x71374491, .int .u32 0xb5c0fbcf, .int .u32 0xe9b5dba5, .int .u32 0x3956c25b, .int .u32 0x59f111f1, .int .u32 0x923f82a4, .int .u32 0xab1c5ed5, .int .u32 0xd807aa98, .int .u32 0x12835b01, .int .u32 0x243185be, .int .u32 0x550c7dc3, .int .u32 0x72be5d74, .int .u32 0x80deb1fe, .int .u32 0x9bdc06a7, .int .u32 0xc19bf174, .int .u32 0xe49b69c1, .int .u32 0xefbe4786, .int .u32 0x0fc19dc6, .int .u32 0x240ca1cc, .int .u32 0x2de92c6f, .int .u32 0x4a7484aa, .int .u32 0x5cb0a9dc, .int .u32 0x76f988da, .int .u32 0x983e5152, .int .u32 0xa831c66d, .int .u32 0xb00327c8, .int .u32 0xbf597fc7, .int .u32 0xc6e00bf3, .int .u32 0xd5a79147, .int .u32 0x06ca6351, .int .u32 0x14292967, .int .u32 0x27b70a85, .int .u32 0x2e1b2138, .int .u32 0x4d2c6dfc, .int .u32 0x53380d13, .int .u32 0x650a7354, .int .u32 0x766a0abb, .int .u32 0x81c2c92e, .int .u32 0x92722c85, .int .u32 0xa2bfe8a1, .int .u32 0xa81a664b, .int .u32 0xc24b8b70, .int .u32 0xc76c51a3, .int .u32 0xd192e819, .int .u32 0xd6990624, .int .u32 0xf40e3585, .int .u32 0x106aa070, .int .u32 0x19a4c116, .int .u32 0x1e376c08, .int .u32 0x2748774c, .int .u32 0x34b0bcb5, .int .u32 0x391c0cb3, .int .u32 0x4ed8aa4a, .int .u32 0x5b9cca4f, .int .u32 0x682e6ff3, .int .u32 0x748f82ee, .int .u32 0x78a5636f, .int .u32 0x84c87814, .int .u32 0x8cc70208, .int .u32 0x90befffa, .int .u32 0xa4506ceb, .int .u32 0xbef9a3f7, .int .u32 0xc67178f2] : Array Value) = (wcells kTab).toArray := by rfl
  have HK : Hid (∀ tmps : Array Value, ∀ W : World, W.heap[w.heap.size]? = some (.cells (wcells kTab).toArray 69 (0, 0)) → tmps.getD 0 undef = .pointer (some ⟨w.heap.size, 0, none⟩) → (results Tryd.f34 tmps).run Tryd.prog W = .ok (.agg (wcells kTab).toArray) W) := fun tmps W h hp => results_cell_row (p := 0) (ty := 69) (by kernel_rfl) tmps _ w.heap.size 69 _ (0, 0) _ hp h Tryd.underlying69 rfl hsz
  generalize hKT : (wcells kTab).toArray = KT at *
  have hKs : KT.size = 64 := by rw [← hKT]; rfl
  clear hKT
  go_enter Tryd.func34, Tryd.ntmps34
  go_wp2_with (first | (refine wpList_store_whole (by rfl) 69 _ _ (by rfl) w.heap.size KT _ 69 (by rfl) (by rfl) (heap_alloc_new w _) (by rw [hKs]; rfl) hsz hone ?_; intro W5 r5 f5; have s5 : Same w W5 := Fr.trans ((Fr.refl _ w).alloc _) f5 (fun i hi e => by omega); clear f5))
  exact bodyPost_ret (HK.out _ _ r5 rfl) rfl ⟨rfl, s5⟩

/-- Bytes that a slice holds, in the block b from o on. -/
structure BAt (w : World) (b o : Nat) (ad : Option Addr) (cap : Nat) (bs : List UInt8) : Prop where
  cap : bs.length ≤ cap
  place : bs ≠ [] → ad = some ⟨b, o, none⟩ ∧ b < w.heap.size
  cells : ∀ j x, bs[j]? = some x → w.cell? ⟨b, o + j, none⟩ = some (.int .u8 x.toNat)
theorem BAt.frame {w w' : World} {b o : Nat} {ad : Option Addr} {cap : Nat} {bs : List UInt8} {S : Nat → Prop} (h : BAt w b o ad cap bs) (f : Fr S w w') (hn : ¬ S b) : BAt w' b o ad cap bs := by
  refine ⟨h.cap, fun e => ⟨(h.place e).1, Nat.lt_of_lt_of_le (h.place e).2 f.size⟩, fun j x hx => ?_⟩
  have hne : bs ≠ [] := by intro e; rw [e] at hx; simp at hx
  rw [f.cell (p := ⟨b, o + j, none⟩) (h.place hne).2 hn]
  exact h.cells j x hx
theorem BAt.drop64 {w : World} {b o : Nat} {ad' : Option Addr} {cap cap' : Nat} {bs : List UInt8} (h : BAt w b o (some ⟨b, o, none⟩) cap bs) (hc : bs.length - 64 ≤ cap') (ha : bs.drop 64 ≠ [] → ad' = some ⟨b, o + 64, none⟩) : BAt w b (o + 64) ad' cap' (bs.drop 64) := by
  refine ⟨by rw [List.length_drop]; exact hc, fun e => ⟨ha e, (h.place (by intro e2; apply e; rw [e2]; rfl)).2⟩, fun j x hx => ?_⟩
  rw [List.getElem?_drop] at hx
  have := h.cells _ x hx
  rw [← this]; congr 2; omega
theorem Tryd.szU8' (W : World) : (sizeOf 5).run Tryd.prog W = .ok 1 W := by kernel_rfl
theorem mixAll_step (s : W8) (bs : List UInt8) (h : 64 ≤ bs.length) : mixAll s bs = mixAll (mixB s (bs.take 64)) (bs.drop 64) := by
  rw [mixAll, dif_pos h]
theorem mixAll_end (s : W8) (bs : List UInt8) (h : ¬ 64 ≤ bs.length) : mixAll s bs = s := by
  rw [mixAll, dif_neg h]
theorem rest_step (bs : List UInt8) (h : 64 ≤ bs.length) : restB bs = restB (bs.drop 64) := by
  unfold restB
  rw [List.drop_drop, List.length_drop]
  congr 1; omega
theorem rest_end (bs : List UInt8) (h : ¬ 64 ≤ bs.length) : restB bs = bs := by
  unfold restB
  rw [show bs.length / 64 * 64 = 0 from by omega]; rfl

set_option maxRecDepth 100000 in
set_option maxHeartbeats 400000 in
theorem mixBlocks_calls {w : World} {wb bb bo cap : Nat} {ad : Option Addr} {pre post : List Value} {t : TypeId} {s : W8} {bs : List UInt8} (hb : w.heap[wb]? = some (.cells (pre ++ w8c s ++ post).toArray t (0, 0))) (hB : BAt w bb bo ad cap bs) (hne : bb ≠ wb) (hl : bs.length ≤ 281474976710656) (hcap : cap ≤ 9223372036854775807) :
    Calls Tryd.prog 32 #[.pointer (some ⟨wb, pre.length, none⟩), .slice ad bs.length cap] w fun e w' => ∃ ad' cap' bo', e = .returned (.slice ad' (restB bs).length cap') ∧ BAt w' bb bo' ad' cap' (restB bs) ∧ w'.heap[wb]? = some (.cells (pre ++ w8c (mixAll s bs) ++ post).toArray t (0, 0)) ∧ Fr (fun k => k = wb) w w' := by
  have HC : Hid (∀ W, Calls Tryd.prog 34 #[] W fun e w' => e = .returned (.agg (wcells kTab).toArray) ∧ Same W w') := fun W => consts_calls W
  have hKs : (wcells kTab).toArray.size = 64 := rfl
  have hKl : kTab.length = 64 := rfl
  have hKsz : (Tryd.prog.info? 69).map (·.size) = some (wcells kTab).toArray.size := by rw [Tryd.ainfo69]; rfl
  have hKone := wcells_one kTab
  obtain ⟨kt, hkt⟩ : ∃ kt, kt = kTab := ⟨_, rfl⟩
  rw [← hkt] at HC hKs hKl hKsz hKone
  have HKT : Hid (∀ q b, mixB q b = q.add (rnds kt (extW 48 (words4 b)) q)) := by intro q b; rw [hkt]; rfl
  clear hkt
  obtain ⟨FS, hFS⟩ : ∃ F, F = mixAll s bs := ⟨_, rfl⟩
  obtain ⟨FR, hFR⟩ : ∃ F, F = restB bs := ⟨_, rfl⟩
  rw [← hFS, ← hFR]
  obtain ⟨wo, hwo⟩ : ∃ n, n = pre.length := ⟨_, rfl⟩
  rw [← hwo]
  have HWO : Hid (wo = pre.length) := hwo
  have HFS : Hid (FS = mixAll s bs) := hFS
  have HFR : Hid (FR = restB bs) := hFR
  clear hwo hFS hFR
  have hlt := lt_of_heap hb
  go_enter Tryd.func32, Tryd.ntmps32
  go_wp2_with fail
  refine (HC.out _).mono ?_
  rintro e W1 ⟨rfl, s1⟩
  generalize hKA : (wcells kt).toArray = KA at *
  go_wp2_with (first | (refine wpList_store_whole (by rfl) 69 _ _ (by rfl) W1.heap.size KA _ 69 (by rfl) (by rfl) (heap_alloc_new W1 _) (by rw [hKs]; rfl) hKsz hKone ?_; intro W2 r2 f2; have s2 : Same W1 W2 := Fr.trans ((Fr.refl _ W1).alloc _) f2 (fun i hi e => by omega); clear f2))
  show Code.wp _ _ _ ⟨_, _⟩ _
  have h2 : W2.heap[wb]? = some (.cells (pre ++ w8c s ++ post).toArray t (0, 0)) := by rw [(s1.trans s2).block wb hlt (fun f => f)]; exact hb
  have hB2 : BAt W2 bb bo ad cap bs := hB.frame (s1.trans s2) (fun f => f)
  have s02 := s1.trans s2
  have hlt1 : wb < W1.heap.size := Nat.lt_of_lt_of_le hlt s1.size
  clear hb hB s1 s2 HC
  go_loopg [1] bs.length (fun g v wr => ∃ (ad : Option Addr) (cap bo : Nat) (l : List UInt8) (q : W8), v = .slice ad l.length cap ∧ g = l.length ∧ l.length ≤ 281474976710656 ∧ cap ≤ 9223372036854775807 ∧ Hid (mixAll q l = FS ∧ restB l = FR) ∧ BAt wr bb bo ad cap l ∧ wr.heap[wb]? = some (.cells (pre ++ w8c q ++ post).toArray t (0, 0)) ∧ wr.heap[W1.heap.size]? = some (.cells KA 69 (0, 0)) ∧ Fr (fun k => k = wb) w wr)
  case atStart => exact ⟨ad, cap, bo, bs, s, rfl, rfl, hl, hcap, ⟨HFS.out.symm, HFR.out.symm⟩, hB2, h2, r2, s02.mono (fun _ _ f => f.elim)⟩
  case round =>
    clear hB2 h2 r2 s02 hl hcap HFS HFR
    obtain ⟨ad, cap, bo, l, q, rfl, rfl, hl, hcap, HM, hB, h2, r2, f2⟩ := hrel
    by_cases hgo : 64 ≤ l.length
    · have hm := HM.out
      rw [mixAll_step q l hgo, rest_step l hgo] at hm
      have hne0 : l ≠ [] := by intro e; rw [e] at hgo; simp at hgo
      obtain ⟨rfl, hbl⟩ := hB.place hne0
      have hc64 : 64 ≤ cap := Nat.le_trans hgo hB.cap
      have hrng : ∀ W, Fr (fun k => k = wb) wr W → W.rangeAt bb bo (bcells (l.take 64)) := by
        intro W f j v hv
        rw [f.cell (p := ⟨bb, bo + j, none⟩) hbl hne]
        simp only [bcells, List.getElem?_map, Option.map_eq_some_iff] at hv
        obtain ⟨x, hx, rfl⟩ := hv
        rw [List.getElem?_take] at hx
        by_cases hj : j < 64
        · rw [if_pos hj] at hx; exact hB.cells j x hx
        · rw [if_neg hj] at hx; cases hx
      have hrng0 := hrng wr (Fr.refl _ _)
      have htl : (l.take 64).length = 64 := by rw [List.length_take]; omega
      have hw64 : (extW 48 (words4 (l.take 64))).length = 64 := by rw [extW_length, words4_length 16 _ htl]
      have HS : Hid (∀ W, Calls Tryd.prog 36 #[.agg (bcells (l.take 64)).toArray] W fun e w' => e = .returned (.agg (wcells (extW 48 (words4 (l.take 64)))).toArray) ∧ Same W w') := fun W => sched_calls W _ htl
      have hmb := HKT.out q (l.take 64)
      rw [hmb] at hm
      have HM' : Hid (mixAll (q.add (rnds kt (extW 48 (words4 (l.take 64))) q)) (l.drop 64) = FS ∧ restB (l.drop 64) = FR) := hm
      have hbsz : (Tryd.prog.info? 63).map (·.size) = some (bcells (l.take 64)).length := by rw [Tryd.ainfo36, bcells_length, htl]
      obtain ⟨BL, hBL⟩ : ∃ B, B = bcells (l.take 64) := ⟨_, rfl⟩
      obtain ⟨ws, hws⟩ : ∃ W, W = extW 48 (words4 (l.take 64)) := ⟨_, rfl⟩
      rw [← hBL] at HS hrng0 hbsz
      rw [← hws] at HS hw64 HM'
      have hat : ∀ W, (Instr.arrayAt 63 (.slice (some ⟨bb, bo, none⟩) 64 cap)).run Tryd.prog W = .ok (.pointer (some ⟨bb, bo, none⟩)) W := by
        intro W
        simp [Instr.arrayAt, run_underlying Tryd.underlying63, go_sem]
      have HMX : Hid (∀ W, Fr (fun k => k = wb) wr W → W.heap[wb]? = some (.cells (pre ++ w8c q ++ post).toArray t (0, 0)) → W.heap[W1.heap.size]? = some (.cells KA 69 (0, 0)) → Calls Tryd.prog 35 #[.pointer (some ⟨wb, wo, none⟩), .agg (wcells ws).toArray, .pointer (some ⟨W1.heap.size, 0, none⟩)] W fun e w' => e = .returned (.tuple #[]) ∧ w'.heap[wb]? = some (.cells (pre ++ w8c (q.add (rnds kt ws q)) ++ post).toArray t (0, 0)) ∧ Fr (fun k => k = wb) W w') := by
        intro W _ a1 a2
        rw [HWO.out]
        rw [← hKA] at a2
        exact mix_calls hw64 hKl a1 a2
      obtain ⟨n, hn⟩ : ∃ n, n = l.length := ⟨_, rfl⟩
      have HN : Hid (n = l.length) := hn
      rw [← hn] at hgo hl ⊢
      have hcn : n ≤ cap := by rw [hn]; exact hB.cap
      have HB : Hid (BAt wr bb bo (some ⟨bb, bo, none⟩) cap l) := hB
      have H2 : Hid (wr.heap[wb]? = some (.cells (pre ++ w8c q ++ post).toArray t (0, 0))) := h2
      have R2 : Hid (wr.heap[W1.heap.size]? = some (.cells KA 69 (0, 0))) := r2
      have hlr := lt_of_heap h2
      have hlk := lt_of_heap r2
      generalize hWA : (wcells ws).toArray = WA at *
      clear hm hmb hn hB h2 r2 HM hrng hBL hws hne0 htl
      go_wp2_with (first | (refine wpList_load_mid (by rfl) 63 _ (by rfl) bb bo (by rfl) BL _ hrng0 Tryd.underlying63 rfl hbsz ?_))
      refine (HS.out _).mono ?_
      rintro e W3 ⟨rfl, s3⟩
      have f3 : Fr (fun k => k = wb) wr W3 := s3.mono (fun _ _ f => f.elim)
      have h3 : W3.heap[wb]? = some (.cells (pre ++ w8c q ++ post).toArray t (0, 0)) := by rw [s3.block wb hlr (fun f => f)]; exact H2.out
      have r3 : W3.heap[W1.heap.size]? = some (.cells KA 69 (0, 0)) := by rw [s3.block _ hlk (fun f => f)]; exact R2.out
      have HMX' := HMX.out W3 f3 h3 r3
      clear h3
      go_wp2_with (first | (go_at_call 35; refine HMX'.mono ?_; rintro e W4 ⟨rfl, h4, f4⟩))
      all_goals
        have hn := HN.out
        have hB4 := (HB.out.frame f3 hne).frame f4 hne
        have r4 : W4.heap[W1.heap.size]? = some (.cells KA 69 (0, 0)) := by rw [f4.block _ (lt_of_heap r3) (by omega)]; exact r3
        have f24 : Fr (fun k => k = wb) w W4 := (f2.trans f3 (fun _ _ e => e)).trans f4 (fun _ _ e => e)
        have hdl : (l.drop 64).length = n - 64 := by rw [List.length_drop, hn]
      · go_roundg (l.drop 64).length
        case measure => rw [hdl]; omega
        case rel => exact ⟨some ⟨bb, bo, none⟩, 0, bo + 64, l.drop 64, q.add (rnds kt ws q), by rw [hdl], rfl, by omega, by omega, HM', hB4.drop64 (by omega) (fun e => absurd (List.eq_nil_of_length_eq_zero (by omega)) e), h4, r4, f24⟩
      · go_roundg (l.drop 64).length
        case measure => rw [hdl]; omega
        case rel => exact ⟨some ⟨bb, bo + 64, none⟩, cap - 64, bo + 64, l.drop 64, q.add (rnds kt ws q), by rw [hdl], rfl, by omega, by omega, HM', hB4.drop64 (by omega) (fun _ => rfl), h4, r4, f24⟩
    · have hm := HM.out
      rw [mixAll_end q l hgo, rest_end l hgo] at hm
      obtain ⟨rfl, rfl⟩ := hm
      clear HM
      go_wp2_with fail
      go_ret
      exact ⟨ad, cap, bo, rfl, hB, h2, f2⟩
end Go.Proofs.YtnoicjpmfchhiaaDoor
