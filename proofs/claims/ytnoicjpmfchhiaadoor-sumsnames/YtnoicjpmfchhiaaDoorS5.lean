/-
  Walks: mix.
-/
import Derived.Test.YtnoicjpmfchhiaaDoorS4
import Derived.Deep.QuietTactic
import Derived.BigQuiet
namespace Go.Proofs.YtnoicjpmfchhiaaDoor
open Go.RowKit

/-- The eight words' cells. -/
def w8c (s : W8) : List Value := [.int .u32 s.a.toNat, .int .u32 s.b.toNat, .int .u32 s.c.toNat, .int .u32 s.d.toNat, .int .u32 s.e.toNat, .int .u32 s.f.toNat, .int .u32 s.g.toNat, .int .u32 s.h.toNat]
theorem mid_cell {w : World} {b : Nat} {pre l post : List Value} {t : TypeId} (h : w.heap[b]? = some (.cells (pre ++ l ++ post).toArray t (0, 0))) {i : Nat} {v : Value} (hv : l[i]? = some v) : w.cell? ⟨b, pre.length + i, none⟩ = some v := by
  rw [cell_of_row _ _ _ _ _ _ h]
  have hi : i < l.length := by
    rcases Nat.lt_or_ge i l.length with h | h
    · exact h
    · rw [List.getElem?_eq_none h] at hv; cases hv
  rw [List.getElem?_toArray, List.append_assoc, List.getElem?_append_right (by omega), Nat.add_sub_cancel_left, List.getElem?_append_left hi, hv]
theorem mid_set {w : World} {b : Nat} {pre l post : List Value} {t : TypeId} (h : w.heap[b]? = some (.cells (pre ++ l ++ post).toArray t (0, 0))) (i : Nat) (hi : i < l.length) (v : Value) : (w.setCell ⟨b, pre.length + i, none⟩ v).heap[b]? = some (.cells (pre ++ l.set i v ++ post).toArray t (0, 0)) := by
  rw [heap_setCell_same w b _ _ t v h]
  simp [List.set_append_right, List.set_append_left, hi]
theorem val32 {x y : Int} (h : x = y) : Value.int .u32 x = .int .u32 y := by rw [h]
theorem drew_heap (w : World) : w.drew.heap = w.heap := rfl
theorem rnds_cons {ks ws : List UInt32} {k : Nat} (hk : k < ks.length) (hw : k < ws.length) (s : W8) : rnds (ks.drop k) (ws.drop k) s = rnds (ks.drop (k + 1)) (ws.drop (k + 1)) (rnd s (ks.getD k 0) (ws.getD k 0)) := by
  rw [List.drop_eq_getElem_cons hk, List.drop_eq_getElem_cons hw, rnds]
  simp [hk, hw]

set_option maxRecDepth 100000 in
set_option maxHeartbeats 4000000 in
theorem mix_calls {w : World} {wb cb : Nat} {pre post : List Value} {t : TypeId} {s : W8} {ws ks : List UInt32} (hws : ws.length = 64) (hks : ks.length = 64) (hb : w.heap[wb]? = some (.cells (pre ++ w8c s ++ post).toArray t (0, 0)))
    (hc : w.heap[cb]? = some (.cells (wcells ks).toArray 69 (0, 0))) :
    Calls Tryd.prog 35 #[.pointer (some ⟨wb, pre.length, none⟩), .agg (wcells ws).toArray, .pointer (some ⟨cb, 0, none⟩)] w fun e w' => e = .returned (.tuple #[]) ∧ w'.heap[wb]? = some (.cells (pre ++ w8c (s.add (rnds ks ws s)) ++ post).toArray t (0, 0)) ∧ Fr (fun k => k = wb) w w' := by
  obtain ⟨WA, hWA⟩ : ∃ A, A = (wcells ws).toArray := ⟨_, rfl⟩
  obtain ⟨F, hF⟩ : ∃ F, F = rnds ks ws s := ⟨_, rfl⟩
  rw [← hF, ← hWA]
  obtain ⟨sa, sb, sc, sd, se, sf, sg, sh⟩ := s
  obtain ⟨wo, hwo⟩ : ∃ n, n = pre.length := ⟨_, rfl⟩
  have c0 := mid_cell hb (i := 0) rfl
  have c1 := mid_cell hb (i := 1) rfl
  have c2 := mid_cell hb (i := 2) rfl
  have c3 := mid_cell hb (i := 3) rfl
  have c4 := mid_cell hb (i := 4) rfl
  have c5 := mid_cell hb (i := 5) rfl
  have c6 := mid_cell hb (i := 6) rfl
  have c7 := mid_cell hb (i := 7) rfl
  rw [← hwo] at c0 c1 c2 c3 c4 c5 c6 c7 ⊢
  rw [Nat.add_zero] at c0
  have hlt := lt_of_heap hb
  have hltc := lt_of_heap hc
  have hfz : ∀ i, w.frozen? ⟨wb, i, none⟩ = false := fun i => frozen_of_row w wb i _ _ hb
  have HB : Hid (w.heap[wb]? = some (.cells (pre ++ w8c ⟨sa, sb, sc, sd, se, sf, sg, sh⟩ ++ post).toArray t (0, 0))) := hb
  have HC : Hid (w.heap[cb]? = some (.cells (wcells ks).toArray 69 (0, 0))) := hc
  have HWO : Hid (wo = pre.length) := hwo
  have HF : Hid (F = rnds ks ws ⟨sa, sb, sc, sd, se, sf, sg, sh⟩) := hF
  have HWA : Hid (WA = (wcells ws).toArray) := hWA
  have HFZ : Hid (∀ i, w.frozen? ⟨wb, i, none⟩ = false) := hfz
  have HLW : Hid (ws.length = 64) := hws
  have HLK : Hid (ks.length = 64) := hks
  clear hb hc hwo hF hWA hfz hws hks
  go_enter Tryd.func35, Tryd.ntmps35
  go_wp2_with fail
  go_quiet (fail)
  go_wp2_with fail
  clear c0 c1 c2 c3 c4 c5 c6 c7
  go_loopg [6, 7, 8, 9, 10, 11, 12, 13, 49] 64 (fun g v6 v7 v8 v9 v10 v11 v12 v13 iv wr => ∃ (k : Nat) (q : W8), iv = .int .i64 k ∧ k ≤ 64 ∧ g = 64 - k ∧ v6 = .int .u32 q.a.toNat ∧ v7 = .int .u32 q.b.toNat ∧ v8 = .int .u32 q.c.toNat ∧ v9 = .int .u32 q.d.toNat ∧ v10 = .int .u32 q.e.toNat ∧ v11 = .int .u32 q.f.toNat ∧ v12 = .int .u32 q.g.toNat ∧ v13 = .int .u32 q.h.toNat ∧ Hid (rnds (ks.drop k) (ws.drop k) q = F) ∧ Same (w.alloc (.cells WA 69)) wr)
  case atStart => exact ⟨0, ⟨sa, sb, sc, sd, se, sf, sg, sh⟩, rfl, by omega, rfl, rfl, rfl, rfl, rfl, rfl, rfl, rfl, rfl, HF.out.symm, (Fr.refl _ _).drewN _⟩
  case round =>
    obtain ⟨k, ⟨qa, qb, qc, qd, qe, qf, qg, qh⟩, rfl, hk, rfl, rfl, rfl, rfl, rfl, rfl, rfl, rfl, rfl, HR, hst⟩ := hrel
    by_cases hgo : k < 64
    · have hkc : (wr.cell? ⟨cb, k, none⟩) = some (.int .u32 ((ks.getD k 0).toNat : Int)) := by
        have h1 := wrow_cell HC.out (k := k) (by rw [HLK.out]; exact hgo)
        exact hst.keep (Same.keep ((Fr.refl _ w).alloc _) h1)
      have hwc : (wr.cell? ⟨w.heap.size, k, none⟩) = some (.int .u32 ((ws.getD k 0).toNat : Int)) := by
        refine hst.keep ?_
        have := heap_alloc_new w (.cells WA 69)
        rw [HWA.out] at this
        rw [HWA.out]
        exact wrow_cell this (by rw [HLW.out]; exact hgo)
      have HR' : Hid (rnds (ks.drop (k + 1)) (ws.drop (k + 1)) (rnd ⟨qa, qb, qc, qd, qe, qf, qg, qh⟩ (ks.getD k 0) (ws.getD k 0)) = F) := by
        show _ = _
        rw [← rnds_cons (by rw [HLK.out]; exact hgo) (by rw [HLW.out]; exact hgo)]
        exact HR.out
      clear HR
      generalize ks.getD k 0 = xk at *
      generalize ws.getD k 0 = yw at *
      obtain ⟨t6, nt6⟩ : ∃ z, z = rotr qe 6 := ⟨_, rfl⟩
      obtain ⟨t11, nt11⟩ : ∃ z, z = rotr qe 11 := ⟨_, rfl⟩
      obtain ⟨t25, nt25⟩ : ∃ z, z = rotr qe 25 := ⟨_, rfl⟩
      obtain ⟨u1, nu1⟩ : ∃ z, z = t6 ^^^ t11 := ⟨_, rfl⟩
      obtain ⟨u2, nu2⟩ : ∃ z, z = u1 ^^^ t25 := ⟨_, rfl⟩
      obtain ⟨h1, nh1⟩ : ∃ z, z = qh + u2 := ⟨_, rfl⟩
      obtain ⟨f1, nf1⟩ : ∃ z, z = qe &&& qf := ⟨_, rfl⟩
      obtain ⟨ne, nne⟩ : ∃ z, z = ~~~ qe := ⟨_, rfl⟩
      obtain ⟨f2, nf2⟩ : ∃ z, z = ne &&& qg := ⟨_, rfl⟩
      obtain ⟨f3, nf3⟩ : ∃ z, z = f1 ^^^ f2 := ⟨_, rfl⟩
      obtain ⟨h2, nh2⟩ : ∃ z, z = h1 + f3 := ⟨_, rfl⟩
      obtain ⟨kw, nkw⟩ : ∃ z, z = xk + yw := ⟨_, rfl⟩
      obtain ⟨h3, nh3⟩ : ∃ z, z = h2 + kw := ⟨_, rfl⟩
      obtain ⟨d1, nd1⟩ : ∃ z, z = qd + h3 := ⟨_, rfl⟩
      obtain ⟨t2, nt2⟩ : ∃ z, z = rotr qa 2 := ⟨_, rfl⟩
      obtain ⟨t13, nt13⟩ : ∃ z, z = rotr qa 13 := ⟨_, rfl⟩
      obtain ⟨t22, nt22⟩ : ∃ z, z = rotr qa 22 := ⟨_, rfl⟩
      obtain ⟨v1, nv1⟩ : ∃ z, z = t2 ^^^ t13 := ⟨_, rfl⟩
      obtain ⟨v2, nv2⟩ : ∃ z, z = v1 ^^^ t22 := ⟨_, rfl⟩
      obtain ⟨h4, nh4⟩ : ∃ z, z = h3 + v2 := ⟨_, rfl⟩
      obtain ⟨m1, nm1⟩ : ∃ z, z = qa &&& qb := ⟨_, rfl⟩
      obtain ⟨m2, nm2⟩ : ∃ z, z = qa &&& qc := ⟨_, rfl⟩
      obtain ⟨m3, nm3⟩ : ∃ z, z = m1 ^^^ m2 := ⟨_, rfl⟩
      obtain ⟨m4, nm4⟩ : ∃ z, z = qb &&& qc := ⟨_, rfl⟩
      obtain ⟨m5, nm5⟩ : ∃ z, z = m3 ^^^ m4 := ⟨_, rfl⟩
      obtain ⟨h5, nh5⟩ : ∃ z, z = h4 + m5 := ⟨_, rfl⟩
      have eu1 : bits .xor .u32 (t6.toNat : Int) (t11.toNat : Int) = (u1.toNat : Int) := by rw [nu1]; exact x32 t6 t11
      have eu2 : bits .xor .u32 (u1.toNat : Int) (t25.toNat : Int) = (u2.toNat : Int) := by rw [nu2]; exact x32 u1 t25
      have eh1 : IntKind.u32.wrap ((qh.toNat : Int) + (u2.toNat : Int)) = (h1.toNat : Int) := by rw [nh1]; exact p32 qh u2
      have ef1 : bits .and .u32 (qe.toNat : Int) (qf.toNat : Int) = (f1.toNat : Int) := by rw [nf1]; exact a32 qe qf
      have ene : bits .xor .u32 IntKind.u32.max (qe.toNat : Int) = (ne.toNat : Int) := by rw [nne]; exact n32 qe
      have ef2 : bits .and .u32 (ne.toNat : Int) (qg.toNat : Int) = (f2.toNat : Int) := by rw [nf2]; exact a32 ne qg
      have ef3 : bits .xor .u32 (f1.toNat : Int) (f2.toNat : Int) = (f3.toNat : Int) := by rw [nf3]; exact x32 f1 f2
      have eh2 : IntKind.u32.wrap ((h1.toNat : Int) + (f3.toNat : Int)) = (h2.toNat : Int) := by rw [nh2]; exact p32 h1 f3
      have ekw : IntKind.u32.wrap ((xk.toNat : Int) + (yw.toNat : Int)) = (kw.toNat : Int) := by rw [nkw]; exact p32 xk yw
      have eh3 : IntKind.u32.wrap ((h2.toNat : Int) + (kw.toNat : Int)) = (h3.toNat : Int) := by rw [nh3]; exact p32 h2 kw
      have ed1 : IntKind.u32.wrap ((qd.toNat : Int) + (h3.toNat : Int)) = (d1.toNat : Int) := by rw [nd1]; exact p32 qd h3
      have ev1 : bits .xor .u32 (t2.toNat : Int) (t13.toNat : Int) = (v1.toNat : Int) := by rw [nv1]; exact x32 t2 t13
      have ev2 : bits .xor .u32 (v1.toNat : Int) (t22.toNat : Int) = (v2.toNat : Int) := by rw [nv2]; exact x32 v1 t22
      have eh4 : IntKind.u32.wrap ((h3.toNat : Int) + (v2.toNat : Int)) = (h4.toNat : Int) := by rw [nh4]; exact p32 h3 v2
      have em1 : bits .and .u32 (qa.toNat : Int) (qb.toNat : Int) = (m1.toNat : Int) := by rw [nm1]; exact a32 qa qb
      have em2 : bits .and .u32 (qa.toNat : Int) (qc.toNat : Int) = (m2.toNat : Int) := by rw [nm2]; exact a32 qa qc
      have em3 : bits .xor .u32 (m1.toNat : Int) (m2.toNat : Int) = (m3.toNat : Int) := by rw [nm3]; exact x32 m1 m2
      have em4 : bits .and .u32 (qb.toNat : Int) (qc.toNat : Int) = (m4.toNat : Int) := by rw [nm4]; exact a32 qb qc
      have em5 : bits .xor .u32 (m3.toNat : Int) (m4.toNat : Int) = (m5.toNat : Int) := by rw [nm5]; exact x32 m3 m4
      have eh5 : IntKind.u32.wrap ((h4.toNat : Int) + (m5.toNat : Int)) = (h5.toNat : Int) := by rw [nh5]; exact p32 h4 m5
      have Tt6 : Hid (∀ W, Calls Tryd.prog 37 #[.int .u32 qe.toNat, .int .i64 6] W fun e w' => e = .returned (.int .u32 t6.toNat) ∧ w' = W) := by rw [nt6]; exact fun W => turn6 W qe
      have Tt11 : Hid (∀ W, Calls Tryd.prog 37 #[.int .u32 qe.toNat, .int .i64 11] W fun e w' => e = .returned (.int .u32 t11.toNat) ∧ w' = W) := by rw [nt11]; exact fun W => turn11 W qe
      have Tt25 : Hid (∀ W, Calls Tryd.prog 37 #[.int .u32 qe.toNat, .int .i64 25] W fun e w' => e = .returned (.int .u32 t25.toNat) ∧ w' = W) := by rw [nt25]; exact fun W => turn25 W qe
      have Tt2 : Hid (∀ W, Calls Tryd.prog 37 #[.int .u32 qa.toNat, .int .i64 2] W fun e w' => e = .returned (.int .u32 t2.toNat) ∧ w' = W) := by rw [nt2]; exact fun W => turn2 W qa
      have Tt13 : Hid (∀ W, Calls Tryd.prog 37 #[.int .u32 qa.toNat, .int .i64 13] W fun e w' => e = .returned (.int .u32 t13.toNat) ∧ w' = W) := by rw [nt13]; exact fun W => turn13 W qa
      have Tt22 : Hid (∀ W, Calls Tryd.prog 37 #[.int .u32 qa.toNat, .int .i64 22] W fun e w' => e = .returned (.int .u32 t22.toNat) ∧ w' = W) := by rw [nt22]; exact fun W => turn22 W qa
      have HQ : Hid (rnd ⟨qa, qb, qc, qd, qe, qf, qg, qh⟩ xk yw = ⟨h5, qa, qb, qc, d1, qe, qf, qg⟩) := by
        show _ = _
        simp only [rnd, bg0, bg1, cho, maj, nt6, nt11, nt25, nu1, nu2, nh1, nf1, nne, nf2, nf3, nh2, nkw, nh3, nd1, nt2, nt13, nt22, nv1, nv2, nh4, nm1, nm2, nm3, nm4, nm5, nh5]
      clear nt6 nt11 nt25 nu1 nu2 nh1 nf1 nne nf2 nf3 nh2 nkw nh3 nd1 nt2 nt13 nt22 nv1 nv2 nh4 nm1 nm2 nm3 nm4 nm5 nh5
      rw [HQ.out] at HR'
      have hi0 : (0 : Int) ≤ (k : Int) := by omega
      have hi1 : (k : Int) < 64 := by omega
      clear HQ
      go_wp2_with fail
      go_quiet (fail)
      go_wp2_with (go_at_call 37; first | (refine (Tt6.out _).mono ?_; rintro e W4 ⟨rfl, rfl⟩) | (refine (Tt11.out _).mono ?_; rintro e W4 ⟨rfl, rfl⟩) | (refine (Tt25.out _).mono ?_; rintro e W4 ⟨rfl, rfl⟩) | (refine (Tt2.out _).mono ?_; rintro e W4 ⟨rfl, rfl⟩) | (refine (Tt13.out _).mono ?_; rintro e W4 ⟨rfl, rfl⟩) | (refine (Tt22.out _).mono ?_; rintro e W4 ⟨rfl, rfl⟩))
      go_roundg (64 - (k + 1))
      case measure => omega
      case rel => exact ⟨k + 1, ⟨h5, qa, qb, qc, d1, qe, qf, qg⟩, by go_num, by omega, rfl, val32 (show _ = ((h5.toNat : Nat) : Int) from by have a1 := eh2; have a2 := eh3; have a3 := eh4; have a4 := eh5; simp only [IntKind.wrap_u32] at a1 a2 a3 a4; omega), rfl, rfl, rfl, val32 (show _ = ((d1.toNat : Nat) : Int) from by have a1 := eh2; have a2 := eh3; have a3 := ed1; simp only [IntKind.wrap_u32] at a1 a2 a3; omega), rfl, rfl, rfl, HR', hst.drewN _⟩
    · have hk64 : k = 64 := by omega
      have hq : (⟨qa, qb, qc, qd, qe, qf, qg, qh⟩ : W8) = F := by
        have h := HR.out
        rw [hk64, List.drop_of_length_le (by rw [HLK.out]; omega), List.drop_of_length_le (by rw [HLW.out]; omega)] at h
        exact h
      have hbr : wr.heap[wb]? = some (.cells (pre ++ w8c ⟨sa, sb, sc, sd, se, sf, sg, sh⟩ ++ post).toArray t (0, 0)) := by
        rw [hst.block wb (by simp; omega) (fun f => f), Below.heap_alloc _ _ _ hlt]
        exact HB.out
      have c0 : wr.cell? ⟨wb, wo + 0, none⟩ = some (.int .u32 sa.toNat) := by rw [HWO.out]; exact mid_cell hbr (i := 0) rfl
      have g0 : wr.frozen? ⟨wb, wo + 0, none⟩ = false := frozen_of_row wr wb _ _ _ hbr
      have c1 : wr.cell? ⟨wb, wo + 1, none⟩ = some (.int .u32 sb.toNat) := by rw [HWO.out]; exact mid_cell hbr (i := 1) rfl
      have g1 : wr.frozen? ⟨wb, wo + 1, none⟩ = false := frozen_of_row wr wb _ _ _ hbr
      have c2 : wr.cell? ⟨wb, wo + 2, none⟩ = some (.int .u32 sc.toNat) := by rw [HWO.out]; exact mid_cell hbr (i := 2) rfl
      have g2 : wr.frozen? ⟨wb, wo + 2, none⟩ = false := frozen_of_row wr wb _ _ _ hbr
      have c3 : wr.cell? ⟨wb, wo + 3, none⟩ = some (.int .u32 sd.toNat) := by rw [HWO.out]; exact mid_cell hbr (i := 3) rfl
      have g3 : wr.frozen? ⟨wb, wo + 3, none⟩ = false := frozen_of_row wr wb _ _ _ hbr
      have c4 : wr.cell? ⟨wb, wo + 4, none⟩ = some (.int .u32 se.toNat) := by rw [HWO.out]; exact mid_cell hbr (i := 4) rfl
      have g4 : wr.frozen? ⟨wb, wo + 4, none⟩ = false := frozen_of_row wr wb _ _ _ hbr
      have c5 : wr.cell? ⟨wb, wo + 5, none⟩ = some (.int .u32 sf.toNat) := by rw [HWO.out]; exact mid_cell hbr (i := 5) rfl
      have g5 : wr.frozen? ⟨wb, wo + 5, none⟩ = false := frozen_of_row wr wb _ _ _ hbr
      have c6 : wr.cell? ⟨wb, wo + 6, none⟩ = some (.int .u32 sg.toNat) := by rw [HWO.out]; exact mid_cell hbr (i := 6) rfl
      have g6 : wr.frozen? ⟨wb, wo + 6, none⟩ = false := frozen_of_row wr wb _ _ _ hbr
      have c7 : wr.cell? ⟨wb, wo + 7, none⟩ = some (.int .u32 sh.toNat) := by rw [HWO.out]; exact mid_cell hbr (i := 7) rfl
      have g7 : wr.frozen? ⟨wb, wo + 7, none⟩ = false := frozen_of_row wr wb _ _ _ hbr
      rw [Nat.add_zero] at c0 g0
      obtain ⟨z0, nz0⟩ : ∃ z, z = sa + qa := ⟨_, rfl⟩
      have ez0 : IntKind.u32.wrap ((sa.toNat : Int) + (qa.toNat : Int)) = (z0.toNat : Int) := by rw [nz0]; exact p32 sa qa
      obtain ⟨z1, nz1⟩ : ∃ z, z = sb + qb := ⟨_, rfl⟩
      have ez1 : IntKind.u32.wrap ((sb.toNat : Int) + (qb.toNat : Int)) = (z1.toNat : Int) := by rw [nz1]; exact p32 sb qb
      obtain ⟨z2, nz2⟩ : ∃ z, z = sc + qc := ⟨_, rfl⟩
      have ez2 : IntKind.u32.wrap ((sc.toNat : Int) + (qc.toNat : Int)) = (z2.toNat : Int) := by rw [nz2]; exact p32 sc qc
      obtain ⟨z3, nz3⟩ : ∃ z, z = sd + qd := ⟨_, rfl⟩
      have ez3 : IntKind.u32.wrap ((sd.toNat : Int) + (qd.toNat : Int)) = (z3.toNat : Int) := by rw [nz3]; exact p32 sd qd
      obtain ⟨z4, nz4⟩ : ∃ z, z = se + qe := ⟨_, rfl⟩
      have ez4 : IntKind.u32.wrap ((se.toNat : Int) + (qe.toNat : Int)) = (z4.toNat : Int) := by rw [nz4]; exact p32 se qe
      obtain ⟨z5, nz5⟩ : ∃ z, z = sf + qf := ⟨_, rfl⟩
      have ez5 : IntKind.u32.wrap ((sf.toNat : Int) + (qf.toNat : Int)) = (z5.toNat : Int) := by rw [nz5]; exact p32 sf qf
      obtain ⟨z6, nz6⟩ : ∃ z, z = sg + qg := ⟨_, rfl⟩
      have ez6 : IntKind.u32.wrap ((sg.toNat : Int) + (qg.toNat : Int)) = (z6.toNat : Int) := by rw [nz6]; exact p32 sg qg
      obtain ⟨z7, nz7⟩ : ∃ z, z = sh + qh := ⟨_, rfl⟩
      have ez7 : IntKind.u32.wrap ((sh.toNat : Int) + (qh.toNat : Int)) = (z7.toNat : Int) := by rw [nz7]; exact p32 sh qh
      have HZ : Hid (W8.add ⟨sa, sb, sc, sd, se, sf, sg, sh⟩ F = ⟨z0, z1, z2, z3, z4, z5, z6, z7⟩) := by
        show _ = _
        rw [← hq, nz0, nz1, nz2, nz3, nz4, nz5, nz6, nz7]; rfl
      have HBR : Hid (wr.heap[wb]? = some (.cells (pre ++ w8c ⟨sa, sb, sc, sd, se, sf, sg, sh⟩ ++ post).toArray t (0, 0))) := hbr
      clear hbr hk64 hq HR nz0 nz1 nz2 nz3 nz4 nz5 nz6 nz7
      go_wp2_with fail
      go_region
      go_wp2_with fail
      go_region
      go_wp2_with fail
      go_region
      go_wp2_with fail
      go_region
      go_wp2_with fail
      go_region
      go_wp2_with fail
      go_region
      go_wp2_with fail
      go_region
      go_wp2_with fail
      go_region
      go_wp2_with fail
      go_end0
      have sw : Fr (fun k => k = wb) w wr := Fr.trans ((Fr.refl _ w).alloc _) hst (fun _ _ f => f.elim)
      have y0 := mid_set HBR.out 0 (by simp [w8c]) (.int .u32 z0.toNat)
      have y1 := mid_set y0 1 (by simp [w8c]) (.int .u32 z1.toNat)
      have y2 := mid_set y1 2 (by simp [w8c]) (.int .u32 z2.toNat)
      have y3 := mid_set y2 3 (by simp [w8c]) (.int .u32 z3.toNat)
      have y4 := mid_set y3 4 (by simp [w8c]) (.int .u32 z4.toNat)
      have y5 := mid_set y4 5 (by simp [w8c]) (.int .u32 z5.toNat)
      have y6 := mid_set y5 6 (by simp [w8c]) (.int .u32 z6.toNat)
      have y7 := mid_set y6 7 (by simp [w8c]) (.int .u32 z7.toNat)
      rw [← HWO.out, Nat.add_zero] at y7
      refine ⟨rfl, ?_, ?_⟩
      · have hl : ((((((((w8c ⟨sa, sb, sc, sd, se, sf, sg, sh⟩).set 0 (.int .u32 z0.toNat)).set 1 (.int .u32 z1.toNat)).set 2 (.int .u32 z2.toNat)).set 3 (.int .u32 z3.toNat)).set 4 (.int .u32 z4.toNat)).set 5 (.int .u32 z5.toNat)).set 6 (.int .u32 z6.toNat)).set 7 (.int .u32 z7.toNat) = w8c ⟨z0, z1, z2, z3, z4, z5, z6, z7⟩ := rfl
        rw [hl] at y7
        rw [HZ.out, drew_heap, drew_heap, drew_heap, drew_heap, drew_heap, drew_heap, drew_heap, drew_heap]
        exact y7
      · exact ((((((((sw.setCell (p := ⟨wb, wo, none⟩) (fun _ => rfl) (.int .u32 z0.toNat)).setCell (p := ⟨wb, wo + 1, none⟩) (fun _ => rfl) (.int .u32 z1.toNat)).setCell (p := ⟨wb, wo + 2, none⟩) (fun _ => rfl) (.int .u32 z2.toNat)).setCell (p := ⟨wb, wo + 3, none⟩) (fun _ => rfl) (.int .u32 z3.toNat)).setCell (p := ⟨wb, wo + 4, none⟩) (fun _ => rfl) (.int .u32 z4.toNat)).setCell (p := ⟨wb, wo + 5, none⟩) (fun _ => rfl) (.int .u32 z5.toNat)).setCell (p := ⟨wb, wo + 6, none⟩) (fun _ => rfl) (.int .u32 z6.toNat)).setCell (p := ⟨wb, wo + 7, none⟩) (fun _ => rfl) (.int .u32 z7.toNat)).drew.drew.drew.drew.drew.drew.drew.drew
end Go.Proofs.YtnoicjpmfchhiaaDoor
