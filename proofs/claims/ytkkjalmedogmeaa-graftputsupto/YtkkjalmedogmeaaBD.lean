/- The walk of GraftPuts. -/
import Derived.Test.YtkkjalmedogmeaaB9
namespace Go.Proofs.Ytkkjalmedogmeaa
open Go.RowKit

set_option maxRecDepth 100000 in
set_option maxHeartbeats 2000000 in
theorem gputs_core {p q E : Int} {r : Nr} {N : Nd} {k v : ByteArray} {M : List (ByteArray × ByteArray)} {b : Bool} (w : World) (h : NdIn w r N) (h1 : 3 * N.ps.length ≤ 1048576) (h2 : N.ss.length ≤ 1048576) (h3 : N.ks.length ≤ 1048576) (hM : M.length ≤ 1048576)
    (HR : Hid (∀ W gp cp gs cs gk ck B, LentAt W B gp cp gs cs gk ck N → Calls Try.prog 6 #[frameV p q, ndV (lentNr gp cp gs cs gk ck) N, .agg #[.string k, .string v]] W fun e w' => ∃ ao c, e = .returned (.tuple #[nodeV ao M.length c none 0 0 none 0 0, .bool b, .int .i64 E]) ∧ MadeLeaf w' W.heap.size ao c M ∧ Same W w'))
    (HD : Hid (∀ W, Same w W → Calls Try.prog 7 #[frameV p q, ndV r N, .agg #[.string k, .string v]] W fun e w' => ∃ ao c, e = .returned (.tuple #[nodeV ao M.length c none 0 0 none 0 0, .bool b, .int .i64 E]) ∧ MadeLeaf w' W.heap.size ao c M ∧ Same W w')) :
    Calls Try.prog 3 #[frameV p q, ndV r N, .agg #[.string k, .string v]] w fun e w' => e = .returned (.bool true) ∧ Same w w' := by
  have HL : Hid (∀ W, Same w W → Calls Try.prog 5 #[ndV r N] W fun e w' => ∃ gp cp gs cs gk ck, e = .returned (ndV (lentNr gp cp gs cs gk ck) N) ∧ LentAt w' W.heap.size gp cp gs cs gk ck N ∧ Same W w') := fun W s => lent_at W (h.same s) (by omega) h2 h3
  have HK : Hid (∀ W gp cp gs cs gk ck B, Same w W → LentAt W B gp cp gs cs gk ck N → Calls Try.prog 8 #[ndV (lentNr gp cp gs cs gk ck) N, ndV r N] W fun e w' => e = .returned (.bool true) ∧ Same W w') := fun W gp cp gs cs gk ck B s l => kept_true W l (h.at_.same s) (by omega) h2 h3
  have HSP : Hid (∀ W gp cp gs cs gk ck B, LentAt W B gp cp gs cs gk ck N → Calls Try.prog 9 #[ndV (lentNr gp cp gs cs gk ck) N] W fun e w' => (∃ n : Int, e = .returned (.int .i64 n)) ∧ Fr (fun k => k = gp ∨ k = gs ∨ k = gk) W w') := fun W gp cp gs cs gk ck B l =>
    spoil_calls W (Own.first l.oP (by omega)) (Own.first l.oS (by omega)) (Own.first l.oK (by omega)) (by omega) h2 h3 (fun a h => by
      rcases h with h | h | h
      · cases h; exact Or.inl rfl
      · cases h; exact Or.inr (Or.inl rfl)
      · cases h; exact Or.inr (Or.inr rfl))
  have HA : Hid (∀ W, Calls Try.prog 11 #[] W fun e w' => e = .returned (.bool true) ∧ Same W w') := awake_calls
  have HFR : Hid (∀ (W : World) Ba Bb Bw ca cb cw ao bo wo, MadeLeaf W Ba ao ca M → MadeLeaf W Bb bo cb M → MadeLeaf W Bw wo cw M → (∀ k, blkIs bo k → ¬ blkIs ao k) → (∀ k, blkIs wo k → ¬ blkIs ao k) → Calls Try.prog 10 #[nodeV ao M.length ca none 0 0 none 0 0, nodeV bo M.length cb none 0 0 none 0 0, nodeV wo M.length cw none 0 0 none 0 0] W fun e w' => e = .returned (.bool true) ∧ Fr (blkIs ao) W w') := fun W Ba Bb Bw ca cb cw ao bo wo ha hb hw hab haw => fresh_made W ha hb hw hM hab haw
  have ebb : (b == b) = true := by simp
  have eEE : (E == E) = true := by simp
  obtain ⟨V, hV⟩ : ∃ V, V = ((w.alloc (.cells #[.int .i64 p, .int .i64 q] 23)).alloc (.cells #[.slice r.pa N.ps.length r.cp, .slice r.sa N.ss.length r.cs, .slice r.ka N.ks.length r.ck] 28)).alloc (.cells #[.string k, .string v] 30) := ⟨_, rfl⟩
  have t1 : Same w V := by rw [hV]; exact (((Fr.refl _ w).alloc _).alloc _).alloc _
  have H4 := heap3 w (.cells #[.int .i64 p, .int .i64 q] 23) (.cells #[.slice r.pa N.ps.length r.cp, .slice r.sa N.ss.length r.cs, .slice r.ka N.ks.length r.ck] 28) (.cells #[.string k, .string v] 30)
  rw [← hV] at H4
  obtain ⟨g0, g1, g2⟩ := H4
  have a0 : V.cell? ⟨w.heap.size, 0, none⟩ = some (.int .i64 p) := (cell_of_row _ _ _ _ _ _ g0).trans rfl
  have a1 : V.cell? ⟨w.heap.size, 1, none⟩ = some (.int .i64 q) := (cell_of_row _ _ _ _ _ _ g0).trans rfl
  have n0 : V.cell? ⟨w.heap.size + 1, 0, none⟩ = some (.slice r.pa N.ps.length r.cp) := (cell_of_row _ _ _ _ _ _ g1).trans rfl
  have n1 : V.cell? ⟨w.heap.size + 1, 1, none⟩ = some (.slice r.sa N.ss.length r.cs) := (cell_of_row _ _ _ _ _ _ g1).trans rfl
  have n2 : V.cell? ⟨w.heap.size + 1, 2, none⟩ = some (.slice r.ka N.ks.length r.ck) := (cell_of_row _ _ _ _ _ _ g1).trans rfl
  have k0 : V.cell? ⟨w.heap.size + 1 + 1, 0, none⟩ = some (.string k) := (cell_of_row _ _ _ _ _ _ g2).trans rfl
  have k1 : V.cell? ⟨w.heap.size + 1 + 1, 1, none⟩ = some (.string v) := (cell_of_row _ _ _ _ _ _ g2).trans rfl
  have HC : Hid (∀ W, Same V W → W.cell? ⟨w.heap.size, 0, none⟩ = some (.int .i64 p) ∧ W.cell? ⟨w.heap.size, 1, none⟩ = some (.int .i64 q) ∧ W.cell? ⟨w.heap.size + 1, 0, none⟩ = some (.slice r.pa N.ps.length r.cp) ∧ W.cell? ⟨w.heap.size + 1, 1, none⟩ = some (.slice r.sa N.ss.length r.cs) ∧ W.cell? ⟨w.heap.size + 1, 2, none⟩ = some (.slice r.ka N.ks.length r.ck) ∧ W.cell? ⟨w.heap.size + 1 + 1, 0, none⟩ = some (.string k) ∧ W.cell? ⟨w.heap.size + 1 + 1, 1, none⟩ = some (.string v)) := fun W s => ⟨s.keep a0, s.keep a1, s.keep n0, s.keep n1, s.keep n2, s.keep k0, s.keep k1⟩
  clear g0 g1 g2
  have HVZ : Hid (w.heap.size ≤ V.heap.size) := t1.size
  clear h h1 h2 h3 hM
  go_enter Try.func3, Try.ntmps3
  go_wp2_with fail
  rw [← hV]
  clear hV
  refine (HL.out _ t1).mono ?_
  rintro e W1 ⟨gp, cp, gs, cs, gk, ck, rfl, l1, s1⟩
  have HLA : Hid (LentAt W1 V.heap.size gp cp gs cs gk ck N) := l1
  clear l1
  unfold lentNr at HR HK HSP ⊢
  have v1 : Same V (W1.alloc (.cells #[.slice (some ⟨gp, 0, none⟩) N.ps.length cp, .slice (some ⟨gs, 0, none⟩) N.ss.length cs, .slice (some ⟨gk, 0, none⟩) N.ks.length ck] 28)) := Fr.alloc s1 _
  have rx := heap_alloc_new W1 (.cells #[.slice (some ⟨gp, 0, none⟩) N.ps.length cp, .slice (some ⟨gs, 0, none⟩) N.ss.length cs, .slice (some ⟨gk, 0, none⟩) N.ks.length ck] 28)
  have la := HLA.out.same ((Fr.refl (fun _ => False) W1).alloc (.cells #[.slice (some ⟨gp, 0, none⟩) N.ps.length cp, .slice (some ⟨gs, 0, none⟩) N.ss.length cs, .slice (some ⟨gk, 0, none⟩) N.ks.length ck] 28))
  clear a0 a1 n0 n1 n2 k0 k1
  obtain ⟨a0, a1, n0, n1, n2, k0, k1⟩ := HC.out _ v1
  go_wp2_with fail
  obtain ⟨V2, hV2⟩ : ∃ V2, V2 = W1.alloc (.cells #[.slice (some ⟨gp, 0, none⟩) N.ps.length cp, .slice (some ⟨gs, 0, none⟩) N.ss.length cs, .slice (some ⟨gk, 0, none⟩) N.ks.length ck] 28) := ⟨_, rfl⟩
  obtain ⟨xb, hxb⟩ : ∃ xb, xb = W1.heap.size := ⟨_, rfl⟩
  have HSZ : Hid (gp < V2.heap.size ∧ gs < V2.heap.size ∧ gk < V2.heap.size ∧ V.heap.size ≤ gp ∧ V.heap.size ≤ gs ∧ V.heap.size ≤ gk) := by
    have e1 := own_ge la.oP
    have e2 := own_ge la.oS
    have e3 := own_ge la.oK
    rw [← hV2] at e1 e2 e3
    exact ⟨e1.2, e2.2, e3.2, e1.1, e2.1, e3.1⟩
  rw [← hV2] at v1 rx la a0 a1 n0 n1 n2 k0 k1 ⊢
  rw [← hxb] at rx ⊢
  have HX : Hid (∀ W, Same V2 W → W.cell? ⟨xb, 0, none⟩ = some (.slice (some ⟨gp, 0, none⟩) N.ps.length cp) ∧ W.cell? ⟨xb, 1, none⟩ = some (.slice (some ⟨gs, 0, none⟩) N.ss.length cs) ∧ W.cell? ⟨xb, 2, none⟩ = some (.slice (some ⟨gk, 0, none⟩) N.ks.length ck)) := fun W s => ⟨s.keep ((cell_of_row _ _ _ _ _ _ rx).trans rfl), s.keep ((cell_of_row _ _ _ _ _ _ rx).trans rfl), s.keep ((cell_of_row _ _ _ _ _ _ rx).trans rfl)⟩
  have HLA2 : Hid (∀ W, Same V2 W → LentAt W V.heap.size gp cp gs cs gk ck N) := fun W s => la.same s
  have T2 : Hid (Same V V2) := v1
  clear hV2 hxb rx la HLA
  refine (HR.out _ _ _ _ _ _ _ _ (HLA2.out _ (Fr.refl _ _))).mono ?_
  rintro e Y1 ⟨aoA, cA, rfl, mA, qA⟩
  clear a0 a1 n0 n1 n2 k0 k1
  obtain ⟨V3, hV3⟩ : ∃ V3, V3 = Y1.alloc (.cells #[.slice aoA M.length cA, .slice none 0 0, .slice none 0 0] 28) := ⟨_, rfl⟩
  have s3 : Same V2 V3 := by rw [hV3]; exact Fr.alloc qA _
  have ra := heap_alloc_new Y1 (.cells #[.slice aoA M.length cA, .slice none 0 0, .slice none 0 0] 28)
  have mA3 : MadeLeaf V3 V2.heap.size aoA cA M := by rw [hV3]; exact mA.same ((Fr.refl _ _).alloc _)
  have zA : V3.heap.size = Y1.heap.size + 1 := by rw [hV3]; simp
  rw [← hV3] at ra
  obtain ⟨a0, a1, n0, n1, n2, k0, k1⟩ := HC.out _ (T2.out.trans s3)
  obtain ⟨x0, x1, x2⟩ := HX.out _ s3
  rw [hV3] at a0 a1 n0 n1 n2 k0 k1 x0 x1 x2
  go_wp2_with fail
  rw [← hV3]
  obtain ⟨ab, hab⟩ : ∃ ab, ab = Y1.heap.size := ⟨_, rfl⟩
  rw [← hab] at ra zA ⊢
  have HAB : Hid (V3.heap.size = ab + 1 ∧ V2.heap.size ≤ ab) := ⟨zA, by rw [hab]; exact qA.size⟩
  have HMA : Hid (MadeLeaf V3 V2.heap.size aoA cA M) := mA3
  have HRA : Hid (V3.heap[ab]? = some (.cells #[.slice aoA M.length cA, .slice none 0 0, .slice none 0 0] 28 (0, 0))) := ra
  have HS3 : Hid (Same V2 V3) := s3
  clear hV3 a0 a1 n0 n1 n2 k0 k1 x0 x1 x2 hab mA qA mA3 ra zA s3
  refine (HR.out _ _ _ _ _ _ _ _ (HLA2.out _ HS3.out)).mono ?_
  rintro e Y2 ⟨aoB, cB, rfl, mB, qB⟩
  obtain ⟨V4, hV4⟩ : ∃ V4, V4 = Y2.alloc (.cells #[.slice aoB M.length cB, .slice none 0 0, .slice none 0 0] 28) := ⟨_, rfl⟩
  have s4 : Same V3 V4 := by rw [hV4]; exact Fr.alloc qB _
  have rb := heap_alloc_new Y2 (.cells #[.slice aoB M.length cB, .slice none 0 0, .slice none 0 0] 28)
  have mB4 : MadeLeaf V4 V3.heap.size aoB cB M := by rw [hV4]; exact mB.same ((Fr.refl _ _).alloc _)
  have zB : V4.heap.size = Y2.heap.size + 1 := by rw [hV4]; simp
  rw [← hV4] at rb
  obtain ⟨a0, a1, n0, n1, n2, k0, k1⟩ := HC.out _ ((T2.out.trans HS3.out).trans s4)
  obtain ⟨x0, x1, x2⟩ := HX.out _ (HS3.out.trans s4)
  rw [hV4] at a0 a1 n0 n1 n2 k0 k1 x0 x1 x2
  go_wp2_with fail
  rw [← hV4]
  obtain ⟨bb, hbb⟩ : ∃ bb, bb = Y2.heap.size := ⟨_, rfl⟩
  rw [← hbb] at rb zB ⊢
  have HBB : Hid (V4.heap.size = bb + 1 ∧ V3.heap.size ≤ bb) := ⟨zB, by rw [hbb]; exact qB.size⟩
  have HMB : Hid (MadeLeaf V4 V3.heap.size aoB cB M) := mB4
  have HRB : Hid (V4.heap[bb]? = some (.cells #[.slice aoB M.length cB, .slice none 0 0, .slice none 0 0] 28 (0, 0))) := rb
  have HS4 : Hid (Same V3 V4) := s4
  clear hV4 a0 a1 n0 n1 n2 k0 k1 x0 x1 x2 hbb mB qB mB4 rb zB s4
  refine (HD.out _ (t1.trans ((T2.out.trans HS3.out).trans HS4.out))).mono ?_
  rintro e Y3 ⟨aoC, cC, rfl, mC, qC⟩
  obtain ⟨V5, hV5⟩ : ∃ V5, V5 = Y3.alloc (.cells #[.slice aoC M.length cC, .slice none 0 0, .slice none 0 0] 28) := ⟨_, rfl⟩
  have s5 : Same V4 V5 := by rw [hV5]; exact Fr.alloc qC _
  have rc := heap_alloc_new Y3 (.cells #[.slice aoC M.length cC, .slice none 0 0, .slice none 0 0] 28)
  have mC5 : MadeLeaf V5 V4.heap.size aoC cC M := by rw [hV5]; exact mC.same ((Fr.refl _ _).alloc _)
  have zC : V5.heap.size = Y3.heap.size + 1 := by rw [hV5]; simp
  rw [← hV5] at rc
  have S5 := (HS3.out.trans HS4.out).trans s5
  obtain ⟨a0, a1, n0, n1, n2, k0, k1⟩ := HC.out _ (T2.out.trans S5)
  obtain ⟨x0, x1, x2⟩ := HX.out _ S5
  rw [hV5] at a0 a1 n0 n1 n2 k0 k1 x0 x1 x2
  go_wp2_with fail
  rw [← hV5]
  obtain ⟨wb, hwb⟩ : ∃ wb, wb = Y3.heap.size := ⟨_, rfl⟩
  rw [← hwb] at rc zC ⊢
  have HWB : Hid (V5.heap.size = wb + 1 ∧ V4.heap.size ≤ wb) := ⟨zC, by rw [hwb]; exact qC.size⟩
  have HMC : Hid (MadeLeaf V5 V4.heap.size aoC cC M) := mC5
  have HRC : Hid (V5.heap[wb]? = some (.cells #[.slice aoC M.length cC, .slice none 0 0, .slice none 0 0] 28 (0, 0))) := rc
  have HS5 : Hid (Same V4 V5) := s5
  clear hV5 a0 a1 n0 n1 n2 k0 k1 x0 x1 x2 hwb mC qC mC5 rc zC s5 S5
  have HT5 : Hid (Same V2 V5) := (HS3.out.trans HS4.out).trans HS5.out
  refine (HK.out _ _ _ _ _ _ _ _ (t1.trans (T2.out.trans HT5.out)) (HLA2.out _ HT5.out)).mono ?_
  rintro e Y5 ⟨rfl, q5⟩
  have HT6 : Hid (Same V2 Y5) := HT5.out.trans q5
  obtain ⟨x0, x1, x2⟩ := HX.out _ HT6.out
  go_wp2_with fail
  refine (HSP.out _ _ _ _ _ _ _ _ (HLA2.out _ HT6.out)).mono ?_
  rintro e Y6 ⟨⟨nn, rfl⟩, q6⟩
  obtain ⟨z1, z2⟩ := HAB.out
  obtain ⟨z3, z4⟩ := HBB.out
  obtain ⟨z5, z6⟩ := HWB.out
  obtain ⟨y1, y2, y3, y4, y5, y6⟩ := HSZ.out
  have qa : Same V3 Y5 := (HS4.out.trans HS5.out).trans q5
  have qb : Same V4 Y5 := HS5.out.trans q5
  have fa : Y6.heap[ab]? = some (.cells #[.slice aoA M.length cA, .slice none 0 0, .slice none 0 0] 28 (0, 0)) := (q6.block ab (by have := qa.size; omega) (by omega)).trans ((qa.block ab (by omega) (fun f => f)).trans HRA.out)
  have fb : Y6.heap[bb]? = some (.cells #[.slice aoB M.length cB, .slice none 0 0, .slice none 0 0] 28 (0, 0)) := (q6.block bb (by have := qb.size; omega) (by omega)).trans ((qb.block bb (by omega) (fun f => f)).trans HRB.out)
  have fc : Y6.heap[wb]? = some (.cells #[.slice aoC M.length cC, .slice none 0 0, .slice none 0 0] 28 (0, 0)) := (q6.block wb (by have := q5.size; omega) (by omega)).trans ((q5.block wb (by omega) (fun f => f)).trans HRC.out)
  have MA6 : MadeLeaf Y6 V2.heap.size aoA cA M := (HMA.out.same qa).fr q6 (fun kk hk e => by have := (HMA.out.blk hk).1; omega)
  have MB6 : MadeLeaf Y6 V3.heap.size aoB cB M := (HMB.out.same qb).fr q6 (fun kk hk e => by have := (HMB.out.blk hk).1; omega)
  have MC6 : MadeLeaf Y6 V4.heap.size aoC cC M := (HMC.out.same q5).fr q6 (fun kk hk e => by have := (HMC.out.blk hk).1; omega)
  have HAP1 : Hid (∀ kk, blkIs aoB kk → ¬ blkIs aoA kk) := fun kk e1 e2 => by have := (HMB.out.blk e1).1; have := (HMA.out.blk e2).2; omega
  have HAP2 : Hid (∀ kk, blkIs aoC kk → ¬ blkIs aoA kk) := fun kk e1 e2 => by have := (HMC.out.blk e1).1; have := (HMA.out.blk e2).2; omega
  have HM6 : Hid (MadeLeaf Y6 V2.heap.size aoA cA M ∧ MadeLeaf Y6 V3.heap.size aoB cB M ∧ MadeLeaf Y6 V4.heap.size aoC cC M) := ⟨MA6, MB6, MC6⟩
  have HW6 : Hid (Same w Y6) := Fr.trans (t1.trans (T2.out.trans HT6.out)) q6 (fun kk hk e => by have := HVZ.out; omega)
  have HAL : Hid (∀ kk, blkIs aoA kk → w.heap.size ≤ kk) := fun kk e => by have := (HMA.out.blk e).1; have := HVZ.out; have := T2.out.size; omega
  have u0 : Y6.cell? ⟨ab, 0, none⟩ = some (.slice aoA M.length cA) := (cell_of_row _ _ _ _ _ _ fa).trans rfl
  have u1 : Y6.cell? ⟨ab, 1, none⟩ = some (.slice none 0 0) := (cell_of_row _ _ _ _ _ _ fa).trans rfl
  have u2 : Y6.cell? ⟨ab, 2, none⟩ = some (.slice none 0 0) := (cell_of_row _ _ _ _ _ _ fa).trans rfl
  have u3 : Y6.cell? ⟨bb, 0, none⟩ = some (.slice aoB M.length cB) := (cell_of_row _ _ _ _ _ _ fb).trans rfl
  have u4 : Y6.cell? ⟨bb, 1, none⟩ = some (.slice none 0 0) := (cell_of_row _ _ _ _ _ _ fb).trans rfl
  have u5 : Y6.cell? ⟨bb, 2, none⟩ = some (.slice none 0 0) := (cell_of_row _ _ _ _ _ _ fb).trans rfl
  have u6 : Y6.cell? ⟨wb, 0, none⟩ = some (.slice aoC M.length cC) := (cell_of_row _ _ _ _ _ _ fc).trans rfl
  have u7 : Y6.cell? ⟨wb, 1, none⟩ = some (.slice none 0 0) := (cell_of_row _ _ _ _ _ _ fc).trans rfl
  have u8 : Y6.cell? ⟨wb, 2, none⟩ = some (.slice none 0 0) := (cell_of_row _ _ _ _ _ _ fc).trans rfl
  clear z1 z2 z3 z4 z5 z6 y1 y2 y3 y4 y5 y6 qa qb fa fb fc MA6 MB6 MC6 q6 x0 x1 x2
  go_wp2_with fail
  refine (HFR.out _ _ _ _ _ _ _ _ _ _ HM6.out.1 HM6.out.2.1 HM6.out.2.2 HAP1.out HAP2.out).mono ?_
  rintro e Y7 ⟨rfl, q7⟩
  go_wp2_with fail
  refine (HA.out _).mono ?_
  rintro e Y8 ⟨rfl, q8⟩
  go_wp2_with fail
  go_ret
  exact ⟨rfl, Same.trans (Fr.trans HW6.out q7 (fun kk hk e => by have := HAL.out kk e; omega)) q8⟩
end Go.Proofs.Ytkkjalmedogmeaa
