/-
  Walks: 'again', the lists; any step.
-/
import Derived.Test.YtcbbjicoedeioaaZ1
namespace Go.Proofs.Ytcbbjicoedeioaa
open Go.RowKit

theorem rMany_place {α : Type} {N : Nat} (rd : Nat → Nat → α × Nat × Nat) (hrd : ∀ p c, p ≤ N → p ≤ (rd p c).2.1 ∧ (rd p c).2.1 ≤ N) (n p c : Nat) (acc : List α) (hp : p ≤ N) : p ≤ (rMany rd n p c acc).2.1 ∧ (rMany rd n p c acc).2.1 ≤ N := by
  induction n generalizing p c acc with
  | zero => rw [rMany]; exact ⟨Nat.le_refl _, hp⟩
  | succ n ih =>
    rw [rMany]
    split
    · have h1 := hrd p c hp
      have h2 := ih (rd p c).2.1 (rd p c).2.2 (acc ++ [(rd p c).1]) h1.2
      omega
    · exact ⟨Nat.le_refl _, hp⟩
theorem rListG_place {α : Type} {S : ByteArray} (rd : Nat → Nat → α × Nat × Nat) (hrd : ∀ p c, p ≤ S.size → p ≤ (rd p c).2.1 ∧ (rd p c).2.1 ≤ S.size) (p c m : Nat) (hp : p ≤ S.size) : p ≤ (rListG rd S p c m).2.1 := by
  have h1 := rCount_place S p c m hp
  have h2 := rMany_place rd hrd (rCount S p c m).1 (rCount S p c m).2.1 (rCount S p c m).2.2 [] h1.2.1
  unfold rListG
  split
  · omega
  · simp only; omega
set_option maxRecDepth 100000 in
set_option maxHeartbeats 1000000 in
theorem again_14 {w : World} {r b : Nat} {g : Option Nat} {S : ByteArray} {p : Nat} (n : Nat) (i : Int) (s : ByteArray) (pa : Option Addr) (pl pc : Nat) (na : Option Addr) (nl nc : Nat) (wd : Int) (m : Nat) (bd : Int) (h : RdAt w r S p 0) (hw : WrAt w b g (S.data.toList.take p)) (hrb : r ≠ b) (hgr : g ≠ some r) (hS : S.size ≤ 1048576) (hm : m < 18446744073709551616) (hbd : bd ≤ 9223372036854775807) :
    Calls Try.prog 33 #[.pointer (some ⟨r, 0, none⟩), .pointer (some ⟨b, 0, none⟩), stepV 14 n i s pa pl pc na nl nc wd m bd] w fun e w' => e = .returned (.tuple #[]) ∧ AgainPost r b g S p w w' := by
  have hrw := h.lt
  have hbl : (S.data.toList.take p).length ≤ 1048576 := by rw [List.length_take, bytes_length]; omega
  obtain ⟨c0, c1, c2, c3, c4, c5, c6, c7, c8⟩ := step_cells9 w 14 n i s pa pl pc na nl nc wd m bd
  have sa : Same w (w.alloc (stepC 14 n i s pa pl pc na nl nc wd m bd)) := (Fr.refl _ w).alloc _
  obtain ⟨mm, hmm⟩ : ∃ mm : Nat, (mm : Int) = max bd 0 := ⟨(max bd 0).toNat, by omega⟩
  obtain ⟨l, p', c, hr⟩ : ∃ l p' c, rListG (rdFreeQ m S) S p 0 mm = (l, p', c) := ⟨_, _, _, rfl⟩
  have HX : Hid (∀ W, RdAt W r S p 0 → W.cell? ⟨w.heap.size, 7, none⟩ = some (.int .u64 (m : Int)) → Calls Try.prog 15 #[.pointer (some ⟨r, 0, none⟩), .int .i64 bd, .func (.func 86) #[] #[.pointer (some ⟨w.heap.size, 0, none⟩)]] W fun e w' => ∃ ao cap, e = .returned (.slice ao l.length cap) ∧
      (l = [] ∨ ∃ g0, ao = some ⟨g0, 0, none⟩ ∧ W.heap.size ≤ g0 ∧ g0 < w'.heap.size ∧ ∀ i x, l[i]? = some x → w'.cell? ⟨g0, 0 + i, none⟩ = some (vNum x)) ∧ RdAt w' r S p' c ∧ RdStep r W w') := fun W hW hK => by
    have := list_AFree hW (by omega) mm bd hmm (by omega) w.heap.size (by omega) m hm hK
    rw [hr] at this
    refine this.mono ?_
    rintro e w' ⟨ao, cap, rfl, hown, hfr, h2, st⟩
    refine ⟨ao, cap, rfl, ?_, h2, st⟩
    rcases own_elem hown with h0 | ⟨g0, hg1, hg2, hg3⟩
    · exact Or.inl h0
    · exact Or.inr ⟨g0, hg1, hfr g0 (by rw [hg1]; rfl), hg2, fun i x hi => by rw [Nat.zero_add]; exact hg3 i x hi⟩
  have hpl : p ≤ p' := by
    have := rListG_place (rdFreeQ m S) (fun p c hp => rFree_place S p c m hp) p 0 mm h.2.1
    rw [hr] at this; exact this
  clear hmm
  go_enter Try.func33, Try.ntmps33
  go_wp2_with fail
  refine (lsize_other _ 14 (by omega)).mono ?_
  rintro e W1 ⟨rfl, s1⟩
  have d0 := (s1.cell (World.block_lt_of_cell? _ _ c0) (fun f => f)).trans c0
  have d7 := (s1.cell (World.block_lt_of_cell? _ _ c7) (fun f => f)).trans c7
  have d8 := (s1.cell (World.block_lt_of_cell? _ _ c8) (fun f => f)).trans c8
  have hw1 : Same w W1 := Fr.trans sa s1 (fun _ _ f => f)
  have hwl : w.heap.size < W1.heap.size := World.block_lt_of_cell? _ _ d0
  have hne : ¬ w.heap.size = r := by omega
  have h1 := h.same hw1
  have hwr1 := hw.same hw1
  clear c0 c1 c2 c3 c4 c5 c6 c7 c8 s1 sa
  go_wp2_with fail
  refine (HX.out _ h1 d7).mono ?_
  rintro e W2 ⟨ao, cap, rfl, hel, h2, st2⟩
  have hwl1 := hwr1.lt
  have hwr2 := hwr1.rd st2 hrb hgr
  have st02 : RdStep r w W2 := RdStep.trans (Same.rd hw1 r) st2
  by_cases hc : c = 0
  · subst hc
    obtain ⟨hsp, hgd, hll⟩ := rListG_inv (rdFreeQ m S) freeB (fun x => x < 18446744073709551616) (fun p x p' hp h => ⟨(rFree_inv hp h).1, (rFree_inv hp h).2, by have := rFree_place S p 0 m hp; rw [show rFree S p 0 m = (x, p', 0) from h] at this; exact this.2⟩) p mm l p' h.2.1 hr
    have HSp : Hid (Spans S p (freeB l.length ++ laidAll freeB l) p') := hsp
    have hln := hsp.len
    rw [List.length_append] at hln
    have HE : Hid (Calls Try.prog 13 #[.pointer (some ⟨b, 0, none⟩), .slice ao l.length cap, .func (.func 49) #[] #[]] W2 fun e w' => e = .returned (.tuple #[]) ∧ ∃ g', WrAt w' b g' (S.data.toList.take p ++ (freeB l.length ++ laidAll freeB l)) ∧ WrStep b g g' W2 w') := by
      rcases hel with rfl | ⟨g0, rfl, hg1, hg2, hg3⟩
      · exact each_layFree_none ao cap hwr2 (by omega)
      · exact each_layFree l hgd g0 0 cap hg3 hg2 (by omega) (by intro e; have := hwl1.2 _ e.symm; omega) (by omega) hwr2 (by omega)
    clear hr hsp hel
    go_wp2_with fail
    refine (fault_ok h2).mono ?_
    rintro e W3 ⟨rfl, rfl⟩
    go_wp2_with fail
    refine HE.out.mono ?_
    rintro e W4 ⟨rfl, g4, hw4, st4⟩
    go_wp2_with fail
    go_end0
    exact ⟨rfl, again_good st02 h2 HSp.out hw4 st4 hrb hgr⟩
  · clear hr hel
    go_wp2_with fail
    refine (fault_bad h2 (by omega)).mono ?_
    rintro e W3 ⟨rfl, _, s3⟩
    go_wp2_with fail
    go_end0
    exact ⟨rfl, again_bad (RdStep.trans st02 (Same.rd s3 r)) (h2.same s3) hc hpl⟩
set_option maxRecDepth 100000 in
set_option maxHeartbeats 1000000 in
theorem again_15 {w : World} {r b : Nat} {g : Option Nat} {S : ByteArray} {p : Nat} (n : Nat) (i : Int) (s : ByteArray) (pa : Option Addr) (pl pc : Nat) (na : Option Addr) (nl nc : Nat) (wd : Int) (m : Nat) (bd : Int) (h : RdAt w r S p 0) (hw : WrAt w b g (S.data.toList.take p)) (hrb : r ≠ b) (hgr : g ≠ some r) (hS : S.size ≤ 1048576) (hwd : wd ≤ 9223372036854775807) (hbd : bd ≤ 9223372036854775807) :
    Calls Try.prog 33 #[.pointer (some ⟨r, 0, none⟩), .pointer (some ⟨b, 0, none⟩), stepV 15 n i s pa pl pc na nl nc wd m bd] w fun e w' => e = .returned (.tuple #[]) ∧ AgainPost r b g S p w w' := by
  have hrw := h.lt
  have hbl : (S.data.toList.take p).length ≤ 1048576 := by rw [List.length_take, bytes_length]; omega
  obtain ⟨c0, c1, c2, c3, c4, c5, c6, c7, c8⟩ := step_cells9 w 15 n i s pa pl pc na nl nc wd m bd
  have sa : Same w (w.alloc (stepC 15 n i s pa pl pc na nl nc wd m bd)) := (Fr.refl _ w).alloc _
  obtain ⟨mm, hmm⟩ : ∃ mm : Nat, (mm : Int) = max bd 0 := ⟨(max bd 0).toNat, by omega⟩
  obtain ⟨l, p', c, hr⟩ : ∃ l p' c, rListG (rdTextQ wd S) S p 0 mm = (l, p', c) := ⟨_, _, _, rfl⟩
  have HX : Hid (∀ W, RdAt W r S p 0 → W.cell? ⟨w.heap.size, 6, none⟩ = some (.int .i64 wd) → Calls Try.prog 81 #[.pointer (some ⟨r, 0, none⟩), .int .i64 bd, .func (.func 87) #[] #[.pointer (some ⟨w.heap.size, 0, none⟩)]] W fun e w' => ∃ ao cap, e = .returned (.slice ao l.length cap) ∧
      (l = [] ∨ ∃ g0, ao = some ⟨g0, 0, none⟩ ∧ W.heap.size ≤ g0 ∧ g0 < w'.heap.size ∧ ∀ i x, l[i]? = some x → w'.cell? ⟨g0, 0 + i, none⟩ = some (Value.string x)) ∧ RdAt w' r S p' c ∧ RdStep r W w') := fun W hW hK => by
    have := list_AText hW (by omega) mm bd hmm (by omega) w.heap.size (by omega) wd hwd hK
    rw [hr] at this
    refine this.mono ?_
    rintro e w' ⟨ao, cap, rfl, hown, hfr, h2, st⟩
    refine ⟨ao, cap, rfl, ?_, h2, st⟩
    rcases own_elem hown with h0 | ⟨g0, hg1, hg2, hg3⟩
    · exact Or.inl h0
    · exact Or.inr ⟨g0, hg1, hfr g0 (by rw [hg1]; rfl), hg2, fun i x hi => by rw [Nat.zero_add]; exact hg3 i x hi⟩
  have hpl : p ≤ p' := by
    have := rListG_place (rdTextQ wd S) (fun p c hp => rText_place S p c wd hp) p 0 mm h.2.1
    rw [hr] at this; exact this
  clear hmm
  go_enter Try.func33, Try.ntmps33
  go_wp2_with fail
  refine (lsize_other _ 15 (by omega)).mono ?_
  rintro e W1 ⟨rfl, s1⟩
  have d0 := (s1.cell (World.block_lt_of_cell? _ _ c0) (fun f => f)).trans c0
  have d6 := (s1.cell (World.block_lt_of_cell? _ _ c6) (fun f => f)).trans c6
  have d8 := (s1.cell (World.block_lt_of_cell? _ _ c8) (fun f => f)).trans c8
  have hw1 : Same w W1 := Fr.trans sa s1 (fun _ _ f => f)
  have hwl : w.heap.size < W1.heap.size := World.block_lt_of_cell? _ _ d0
  have hne : ¬ w.heap.size = r := by omega
  have h1 := h.same hw1
  have hwr1 := hw.same hw1
  clear c0 c1 c2 c3 c4 c5 c6 c7 c8 s1 sa
  go_wp2_with fail
  refine (HX.out _ h1 d6).mono ?_
  rintro e W2 ⟨ao, cap, rfl, hel, h2, st2⟩
  have hwl1 := hwr1.lt
  have hwr2 := hwr1.rd st2 hrb hgr
  have st02 : RdStep r w W2 := RdStep.trans (Same.rd hw1 r) st2
  by_cases hc : c = 0
  · subst hc
    obtain ⟨hsp, hgd, hll⟩ := rListG_inv (rdTextQ wd S) textB (fun _ => True) (fun p x p' hp h => ⟨rText_inv hp h, trivial, by have := rText_place S p 0 wd hp; rw [show rText S p 0 wd = (x, p', 0) from h] at this; exact this.2⟩) p mm l p' h.2.1 hr
    have HSp : Hid (Spans S p (freeB l.length ++ laidAll textB l) p') := hsp
    have hln := hsp.len
    rw [List.length_append] at hln
    have HE : Hid (Calls Try.prog 50 #[.pointer (some ⟨b, 0, none⟩), .slice ao l.length cap, .func (.func 51) #[] #[]] W2 fun e w' => e = .returned (.tuple #[]) ∧ ∃ g', WrAt w' b g' (S.data.toList.take p ++ (freeB l.length ++ laidAll textB l)) ∧ WrStep b g g' W2 w') := by
      rcases hel with rfl | ⟨g0, rfl, hg1, hg2, hg3⟩
      · exact each_layText_none ao cap hwr2 (by omega)
      · exact each_layText l hgd g0 0 cap hg3 hg2 (by omega) (by intro e; have := hwl1.2 _ e.symm; omega) (by omega) hwr2 (by omega)
    clear hr hsp hel
    go_wp2_with fail
    refine (fault_ok h2).mono ?_
    rintro e W3 ⟨rfl, rfl⟩
    go_wp2_with fail
    refine HE.out.mono ?_
    rintro e W4 ⟨rfl, g4, hw4, st4⟩
    go_wp2_with fail
    go_end0
    exact ⟨rfl, again_good st02 h2 HSp.out hw4 st4 hrb hgr⟩
  · clear hr hel
    go_wp2_with fail
    refine (fault_bad h2 (by omega)).mono ?_
    rintro e W3 ⟨rfl, _, s3⟩
    go_wp2_with fail
    go_end0
    exact ⟨rfl, again_bad (RdStep.trans st02 (Same.rd s3 r)) (h2.same s3) hc hpl⟩
theorem again_any {w : World} {r b B : Nat} {g : Option Nat} {S : ByteArray} {p : Nat} {v : Value} (t : StepP) (ok : StepOK t) (hin : StepIn B w v t) (h : RdAt w r S p 0) (hw : WrAt w b g (S.data.toList.take p)) (hrb : r ≠ b) (hgr : g ≠ some r) (hS : S.size ≤ 1048576) :
    Calls Try.prog 33 #[.pointer (some ⟨r, 0, none⟩), .pointer (some ⟨b, 0, none⟩), v] w fun e w' => e = .returned (.tuple #[]) ∧ AgainPost r b g S p w w' := by
  obtain ⟨pa, pl, pc, na, nl, nc, rfl, _, _⟩ := hin
  obtain ⟨on, oi0, oi1, ons, ow, _, _, om, _, owd, _, obd⟩ := ok
  obtain ⟨kd, n, i, s, parts, ns, wd, m, bd⟩ := t
  simp only at *
  by_cases k0 : kd = 0
  · subst k0; exact again_0 n i s pa pl pc na nl nc wd m bd h hw hrb hgr hS
  by_cases k1 : kd = 1
  · subst k1; exact again_1 n i s pa pl pc na nl nc wd m bd h hw hrb hgr hS
  by_cases k2 : kd = 2
  · subst k2; exact again_2 n i s pa pl pc na nl nc wd m bd h hw hrb hgr hS
  by_cases k3 : kd = 3
  · subst k3; exact again_3 n i s pa pl pc na nl nc wd m bd h hw hrb hgr hS
  by_cases k4 : kd = 4
  · subst k4; exact again_4 n i s pa pl pc na nl nc wd m bd h hw hrb hgr hS
  by_cases k5 : kd = 5
  · subst k5; exact again_5 n i s pa pl pc na nl nc wd m bd h hw hrb hgr hS
  by_cases k6 : kd = 6
  · subst k6; exact again_6 n i s pa pl pc na nl nc wd m bd h hw hrb hgr hS
  by_cases k7 : kd = 7
  · subst k7; exact again_7 n i s pa pl pc na nl nc wd m bd h hw hrb hgr hS
  by_cases k8 : kd = 8
  · subst k8; exact again_8 n i s pa pl pc na nl nc wd m bd h hw hrb hgr hS
  by_cases k9 : kd = 9
  · subst k9; exact again_9 n i s pa pl pc na nl nc wd m bd h hw hrb hgr hS om
  by_cases k10 : kd = 10
  · subst k10; exact again_10 n i s pa pl pc na nl nc wd m bd h hw hrb hgr hS
  by_cases k11 : kd = 11
  · subst k11; exact again_11 n i s pa pl pc na nl nc wd m bd h hw hrb hgr hS oi1
  by_cases k12 : kd = 12
  · subst k12; exact again_12 n i s pa pl pc na nl nc wd m bd h hw hrb hgr hS obd
  by_cases k13 : kd = 13
  · subst k13; exact again_13 n i s pa pl pc na nl nc wd m bd h hw hrb hgr hS
  by_cases k14 : kd = 14
  · subst k14; exact again_14 n i s pa pl pc na nl nc wd m bd h hw hrb hgr hS om obd
  by_cases k15 : kd = 15
  · subst k15; exact again_15 n i s pa pl pc na nl nc wd m bd h hw hrb hgr hS owd obd
  exact again_none n i s pa pl pc na nl nc wd m bd h hw hrb hgr hS kd (by omega)
end Go.Proofs.Ytcbbjicoedeioaa
