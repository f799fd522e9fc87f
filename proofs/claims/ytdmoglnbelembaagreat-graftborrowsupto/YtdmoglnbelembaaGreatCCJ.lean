/- Same and halves of made halves. -/
import Derived.Test.YtdmoglnbelembaaGreatB7J
import Derived.Test.YtdmoglnbelembaaGreatGO2
import Derived.Test.YtdmoglnbelembaaGreatCHJ
namespace Go.Proofs.YtdmoglnbelembaaGreat
open Go.RowKit

set_option maxRecDepth 100000 in
set_option maxHeartbeats 2000000 in
theorem sameH_made {B1 B2 B3 B4 : Nat} {r1 r2 r3 r4 : Nr} {N1 N2 : Nd} {sp : ByteArray} (w : World) (m1 : MadeNd w B1 r1 N1) (m2 : MadeNd w B2 r2 N2) (m3 : MadeNd w B3 r3 N1) (m4 : MadeNd w B4 r4 N2) (s1 : NdSmall N1) (s2 : NdSmall N2) (k1 : ∀ x ∈ N1.ks, KidOk x) (k2 : ∀ x ∈ N2.ks, KidOk x) :
    Calls Tryz.prog 22 #[.agg (halvesN r1 r2 N1 N2 sp), .agg (halvesN r3 r4 N1 N2 sp)] w fun e w' => e = .returned (.bool true) ∧ Same w w' := by
  have HK1 : Hid (∀ W, Same w W → Calls Tryz.prog 23 #[ndV r1 N1, ndV r3 N1] W fun e w' => e = .returned (.bool true) ∧ Same W w') := fun W s => made_sameN (m1.same s) (m3.same s) s1 k1
  have HK2 : Hid (∀ W, Same w W → Calls Tryz.prog 23 #[ndV r2 N2, ndV r4 N2] W fun e w' => e = .returned (.bool true) ∧ Same W w') := fun W s => made_sameN (m2.same s) (m4.same s) s2 k2
  obtain ⟨V, hV⟩ : ∃ V, V = (w.alloc (.cells (halvesN r1 r2 N1 N2 sp) 30)).alloc (.cells (halvesN r3 r4 N1 N2 sp) 30) := ⟨_, rfl⟩
  have t1 : Same w V := by rw [hV]; exact ((Fr.refl _ w).alloc _).alloc _
  have g1 : V.heap[w.heap.size + 1]? = some (.cells (halvesN r3 r4 N1 N2 sp) 30 (0, 0)) := by rw [hV]; exact heap_alloc2_new w _ _
  have g0 : V.heap[w.heap.size]? = some (.cells (halvesN r1 r2 N1 N2 sp) 30 (0, 0)) := by rw [hV]; exact (Below.heap_alloc _ _ _ (by simp)).trans (heap_alloc_new w _)
  have H0 : Hid (∀ W, Same V W → HCells W w.heap.size r1 r2 N1 N2 sp) := fun W s => (hcells_row g0).keep s
  have H1 : Hid (∀ W, Same V W → HCells W (w.heap.size + 1) r3 r4 N1 N2 sp) := fun W s => (hcells_row g1).keep s
  have ee : (sp.toList == sp.toList) = true := by simp
  clear g0 g1 m1 m2 m3 m4 s1 s2 k1 k2
  unfold halvesN at hV ⊢
  unfold HCells at H0 H1
  obtain ⟨a0, a1, a2, a3, a4, a5, a6⟩ := H0.out _ (Fr.refl _ V)
  obtain ⟨b0, b1, b2, b3, b4, b5, b6⟩ := H1.out _ (Fr.refl _ V)
  go_enter Tryz.func22, Tryz.ntmps22
  go_wp2_with fail
  rw [← hV]
  clear hV
  refine (HK1.out _ t1).mono ?_
  rintro e W1 ⟨rfl, s1⟩
  clear a0 a1 a2 a3 a4 a5 a6 b0 b1 b2 b3 b4 b5 b6
  obtain ⟨a0, a1, a2, a3, a4, a5, a6⟩ := H0.out _ s1
  obtain ⟨b0, b1, b2, b3, b4, b5, b6⟩ := H1.out _ s1
  go_wp2_with fail
  refine (HK2.out _ (t1.trans s1)).mono ?_
  rintro e W2 ⟨rfl, s2⟩
  go_wp2_with fail
  go_ret
  exact ⟨rfl, (t1.trans s1).trans s2⟩
theorem MadeNd.spoil {w : World} {B : Nat} {r : Nr} {N : Nd} (m : MadeNd w B r N) (hs : NdSmall N) : Calls Tryz.prog 10 #[ndV r N] w fun e w' => (∃ n : Int, e = .returned (.int .i64 n)) ∧ Fr (blkN r) w w' :=
  spoil_calls w ⟨_, own_base m.op (Nat.zero_le _)⟩ ⟨_, own_base m.os (Nat.zero_le _)⟩ ⟨_, own_base m.ok (Nat.zero_le _)⟩ hs.lens.1 hs.lens.2.1 hs.lens.2.2.1 (fun a h => by
    rcases h with h | h | h
    · exact Or.inl ⟨a, h, rfl⟩
    · exact Or.inr (Or.inl ⟨a, h, rfl⟩)
    · exact Or.inr (Or.inr ⟨a, h, rfl⟩))
set_option maxRecDepth 100000 in
set_option maxHeartbeats 4000000 in
theorem halves_made {B1 B2 B3 B4 B5 B6 : Nat} {r1 r2 r3 r4 r5 r6 : Nr} {N1 N2 : Nd} {sp : ByteArray} (w : World) (m1 : MadeNd w B1 r1 N1) (m2 : MadeNd w B2 r2 N2) (m3 : MadeNd w B3 r3 N1) (m4 : MadeNd w B4 r4 N2) (m5 : MadeNd w B5 r5 N1) (m6 : MadeNd w B6 r6 N2) (s1 : NdSmall N1) (s2 : NdSmall N2) (k1 : ∀ x ∈ N1.ks, KidOk x) (k2 : ∀ x ∈ N2.ks, KidOk x)
    (ap : ∀ k, blkN r2 k → ¬ blkN r1 k) (ap3 : ∀ k, (blkN r3 k ∨ blkN r4 k ∨ blkN r5 k ∨ blkN r6 k) → ¬ (blkN r1 k ∨ blkN r2 k)) :
    Calls Tryz.prog 11 #[.agg (halvesN r1 r2 N1 N2 sp), .agg (halvesN r3 r4 N1 N2 sp), .agg (halvesN r5 r6 N1 N2 sp)] w fun e w' => e = .returned (.bool true) ∧ Fr (fun k => blkN r1 k ∨ blkN r2 k) w w' := by
  have up : ∀ {A B : World}, Same A B → Fr (fun k => blkN r1 k ∨ blkN r2 k) A B := fun s => s.mono (fun _ _ f => f.elim)
  have HSA : Hid (∀ W, Same w W → Calls Tryz.prog 22 #[.agg (halvesN r1 r2 N1 N2 sp), .agg (halvesN r5 r6 N1 N2 sp)] W fun e w' => e = .returned (.bool true) ∧ Same W w') := fun W s => sameH_made W (m1.same s) (m2.same s) (m5.same s) (m6.same s) s1 s2 k1 k2
  have HSB : Hid (∀ W, Fr (fun k => blkN r1 k ∨ blkN r2 k) w W → Calls Tryz.prog 22 #[.agg (halvesN r3 r4 N1 N2 sp), .agg (halvesN r5 r6 N1 N2 sp)] W fun e w' => e = .returned (.bool true) ∧ Same W w') := fun W s => sameH_made W (m3.fr s (fun k h => ap3 k (Or.inl h))) (m4.fr s (fun k h => ap3 k (Or.inr (Or.inl h)))) (m5.fr s (fun k h => ap3 k (Or.inr (Or.inr (Or.inl h))))) (m6.fr s (fun k h => ap3 k (Or.inr (Or.inr (Or.inr h))))) s1 s2 k1 k2
  have HSR : Hid (∀ W, Fr (blkN r1) w W → Calls Tryz.prog 23 #[ndV r2 N2, ndV r6 N2] W fun e w' => e = .returned (.bool true) ∧ Same W w') := fun W s => made_sameN (m2.fr s ap) (m6.fr s (fun k h e => ap3 k (Or.inr (Or.inr (Or.inr h))) (Or.inl e))) s2 k2
  have HP1 : Hid (∀ W, Same w W → Calls Tryz.prog 10 #[ndV r1 N1] W fun e w' => (∃ n : Int, e = .returned (.int .i64 n)) ∧ Fr (blkN r1) W w') := fun W s => (m1.same s).spoil s1
  have HP2 : Hid (∀ W, Fr (blkN r1) w W → Calls Tryz.prog 10 #[ndV r2 N2] W fun e w' => (∃ n : Int, e = .returned (.int .i64 n)) ∧ Fr (blkN r2) W w') := fun W s => (m2.fr s ap).spoil s2
  have HBK : Hid (∀ k, (blkN r1 k ∨ blkN r2 k) → k < w.heap.size) := fun k hk => by
    rcases hk with hk | hk
    · exact (m1.blk hk).2
    · exact (m2.blk hk).2
  obtain ⟨V, hV⟩ : ∃ V, V = ((w.alloc (.cells (halvesN r1 r2 N1 N2 sp) 30)).alloc (.cells (halvesN r3 r4 N1 N2 sp) 30)).alloc (.cells (halvesN r5 r6 N1 N2 sp) 30) := ⟨_, rfl⟩
  have t1 : Same w V := by rw [hV]; exact (((Fr.refl _ w).alloc _).alloc _).alloc _
  obtain ⟨g0, g1, g2⟩ := three_boxes w (.cells (halvesN r1 r2 N1 N2 sp) 30) (.cells (halvesN r3 r4 N1 N2 sp) 30) (.cells (halvesN r5 r6 N1 N2 sp) 30)
  rw [← hV] at g0 g1 g2
  have HC : Hid (∀ W, Fr (fun k => blkN r1 k ∨ blkN r2 k) V W → HCells W w.heap.size r1 r2 N1 N2 sp ∧ HCells W (w.heap.size + 1) r3 r4 N1 N2 sp ∧ HCells W (w.heap.size + 1 + 1) r5 r6 N1 N2 sp) := fun W s =>
    ⟨hcells_row ((s.block _ (lt_of_heap g0) (fun e => by have := HBK.out _ e; omega)).trans g0), hcells_row ((s.block _ (lt_of_heap g1) (fun e => by have := HBK.out _ e; omega)).trans g1), hcells_row ((s.block _ (lt_of_heap g2) (fun e => by have := HBK.out _ e; omega)).trans g2)⟩
  have UP : Hid (∀ A B : World, Same A B → Fr (fun k => blkN r1 k ∨ blkN r2 k) A B) := fun A B s => up s
  have UP1 : Hid (∀ A B : World, Same A B → Fr (blkN r1) A B) := fun A B s => s.mono (fun _ _ f => f.elim)
  have UP2 : Hid (∀ A B : World, Fr (blkN r1) A B → Fr (fun k => blkN r1 k ∨ blkN r2 k) A B) := fun A B s => s.mono (fun _ _ f => Or.inl f)
  have UP3 : Hid (∀ A B : World, Fr (blkN r2) A B → Fr (fun k => blkN r1 k ∨ blkN r2 k) A B) := fun A B s => s.mono (fun _ _ f => Or.inr f)
  unfold HCells at HC
  unfold halvesN at hV HSA HSB ⊢
  clear m1 m2 m3 m4 m5 m6 s1 s2 k1 k2 ap ap3 g0 g1 g2 up
  obtain ⟨⟨a0, a1, a2, a3, a4, a5, a6⟩, ⟨b0, b1, b2, b3, b4, b5, b6⟩, c0, c1, c2, c3, c4, c5, c6⟩ := HC.out V (Fr.refl _ V)
  go_enter Tryz.func11, Tryz.ntmps11
  go_wp2_with fail
  rw [← hV]
  clear hV
  refine (HSA.out _ t1).mono ?_
  rintro e W1 ⟨rfl, s1⟩
  clear a0 a1 a2 a3 a4 a5 a6 b0 b1 b2 b3 b4 b5 b6 c0 c1 c2 c3 c4 c5 c6
  obtain ⟨⟨a0, a1, a2, a3, a4, a5, a6⟩, ⟨b0, b1, b2, b3, b4, b5, b6⟩, c0, c1, c2, c3, c4, c5, c6⟩ := HC.out W1 (UP.out _ _ s1)
  go_wp2_with fail
  refine (HSB.out _ (UP.out _ _ (t1.trans s1))).mono ?_
  rintro e W2 ⟨rfl, s2⟩
  have s2 := s1.trans s2
  clear a0 a1 a2 a3 a4 a5 a6 b0 b1 b2 b3 b4 b5 b6 c0 c1 c2 c3 c4 c5 c6
  obtain ⟨⟨a0, a1, a2, a3, a4, a5, a6⟩, ⟨b0, b1, b2, b3, b4, b5, b6⟩, c0, c1, c2, c3, c4, c5, c6⟩ := HC.out W2 (UP.out _ _ s2)
  go_wp2_with fail
  refine (HP1.out _ (t1.trans s2)).mono ?_
  rintro e W3 ⟨⟨n, rfl⟩, s3⟩
  have u3 : Fr (blkN r1) V W3 := Fr.trans (UP1.out _ _ s2) s3 (fun _ _ e => e)
  have v3 : Fr (blkN r1) w W3 := Fr.trans (UP1.out _ _ t1) u3 (fun _ _ e => e)
  clear a0 a1 a2 a3 a4 a5 a6 b0 b1 b2 b3 b4 b5 b6 c0 c1 c2 c3 c4 c5 c6
  obtain ⟨⟨a0, a1, a2, a3, a4, a5, a6⟩, ⟨b0, b1, b2, b3, b4, b5, b6⟩, c0, c1, c2, c3, c4, c5, c6⟩ := HC.out W3 (UP2.out _ _ u3)
  go_wp2_with fail
  refine (HSR.out _ v3).mono ?_
  rintro e W4 ⟨rfl, s4⟩
  have u4 : Fr (blkN r1) V W4 := Fr.trans u3 (UP1.out _ _ s4) (fun _ _ e => e)
  have v4 : Fr (blkN r1) w W4 := Fr.trans v3 (UP1.out _ _ s4) (fun _ _ e => e)
  clear a0 a1 a2 a3 a4 a5 a6 b0 b1 b2 b3 b4 b5 b6 c0 c1 c2 c3 c4 c5 c6
  obtain ⟨⟨a0, a1, a2, a3, a4, a5, a6⟩, ⟨b0, b1, b2, b3, b4, b5, b6⟩, c0, c1, c2, c3, c4, c5, c6⟩ := HC.out W4 (UP2.out _ _ u4)
  go_wp2_with fail
  refine (HSB.out _ (UP2.out _ _ v4)).mono ?_
  rintro e W5 ⟨rfl, s5⟩
  have u5 : Fr (blkN r1) V W5 := Fr.trans u4 (UP1.out _ _ s5) (fun _ _ e => e)
  have v5 : Fr (blkN r1) w W5 := Fr.trans v4 (UP1.out _ _ s5) (fun _ _ e => e)
  clear a0 a1 a2 a3 a4 a5 a6 b0 b1 b2 b3 b4 b5 b6 c0 c1 c2 c3 c4 c5 c6
  obtain ⟨⟨a0, a1, a2, a3, a4, a5, a6⟩, ⟨b0, b1, b2, b3, b4, b5, b6⟩, c0, c1, c2, c3, c4, c5, c6⟩ := HC.out W5 (UP2.out _ _ u5)
  go_wp2_with fail
  refine (HP2.out _ v5).mono ?_
  rintro e W6 ⟨⟨n6, rfl⟩, s6⟩
  have u6 : Fr (fun k => blkN r1 k ∨ blkN r2 k) V W6 := Fr.trans (UP2.out _ _ u5) (UP3.out _ _ s6) (fun _ _ e => e)
  have v6 : Fr (fun k => blkN r1 k ∨ blkN r2 k) w W6 := Fr.trans (UP2.out _ _ v5) (UP3.out _ _ s6) (fun _ _ e => e)
  clear a0 a1 a2 a3 a4 a5 a6 b0 b1 b2 b3 b4 b5 b6 c0 c1 c2 c3 c4 c5 c6
  obtain ⟨⟨a0, a1, a2, a3, a4, a5, a6⟩, ⟨b0, b1, b2, b3, b4, b5, b6⟩, c0, c1, c2, c3, c4, c5, c6⟩ := HC.out W6 u6
  go_wp2_with fail
  refine (HSB.out _ v6).mono ?_
  rintro e W7 ⟨rfl, s7⟩
  go_wp2_with fail
  go_ret
  exact ⟨rfl, Fr.trans v6 (UP.out _ _ s7) (fun _ _ e => e)⟩
end Go.Proofs.YtdmoglnbelembaaGreat
namespace Go.Proofs.YtdmoglnbelembaaGreat
open Go.RowKit

def greatB (N : Nd) : Bool := decide ((2000 : Int) < (N.ps.length : Int)) || decide ((2000 : Int) < (N.ss.length : Int)) || decide ((2000 : Int) < (N.ks.length : Int))
set_option maxRecDepth 100000 in
set_option maxHeartbeats 1000000 in
theorem great_calls {r : Nr} {N : Nd} (w : World) : Calls Tryz.prog 4 #[ndV r N] w fun e w' => e = .returned (.bool (greatB N)) ∧ Same w w' := by
  have t1 : Same w (w.alloc (.cells #[.slice r.pa N.ps.length r.cp, .slice r.sa N.ss.length r.cs, .slice r.ka N.ks.length r.ck] 28)) := (Fr.refl _ w).alloc _
  unfold greatB
  go_enter Tryz.func4, Tryz.ntmps4
  go_wp2_with fail
  all_goals go_ret
  all_goals exact ⟨by first | rfl | simp_all, t1⟩
end Go.Proofs.YtdmoglnbelembaaGreat
