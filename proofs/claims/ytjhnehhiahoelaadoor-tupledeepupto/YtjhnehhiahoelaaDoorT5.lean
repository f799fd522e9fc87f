/-
  Walks: walk.row, by the tree; Check.
-/
import Derived.Test.YtjhnehhiahoelaaDoorT4
namespace Go.Proofs.YtjhnehhiahoelaaDoor
open Go.RowKit

theorem chkL_drop (l : List ItemP) (k : Nat) (h : k < l.length) (d n z : Nat) : chkL (l.drop k) d n z = if (chkI l[k] d n z).1 = 0 then chkL (l.drop (k + 1)) d (chkI l[k] d n z).2.1 (chkI l[k] d n z).2.2 else chkI l[k] d n z := by
  rw [List.drop_eq_getElem_cons h, chkL]

set_option maxRecDepth 100000 in
set_option maxHeartbeats 8000000 in
theorem wrow_calls (N : Nat) : ∀ (l : List ItemP), SizeOf.sizeOf l ≤ N → ∀ {w : World} {wb B n z d : Nat} {v : Value}, RowIn B w v l → B ≤ wb → WalkAt w wb n z → n ≤ 64 → z ≤ bigN * n → d ≤ 9 → (l ≠ [] → d ≤ 8) →
    Calls Tryd.prog 12 #[.pointer (some ⟨wb, 0, none⟩), v, .int .i64 d] w fun e w' => e = .returned (.int .i64 (chkL l d n z).1) ∧ CkPost wb (chkL l d n z) w w' := by
  induction N with
  | zero =>
    intro l hl
    exfalso
    cases l <;> simp at hl
  | succ N ih =>
    intro l hl w wb B n z d v hrow hB hW hn hz hd9 hd8
    obtain ⟨ad, cp, lb, lo, rfl, hln, hel, hrec⟩ := hrow
    have hwb : wb < w.heap.size := lt_of_heap hW
    have HREC : Hid (∀ (k : Nat) (t : ItemP), l[k]? = some t → ItemAt B w lb (lo + k * 6) t) := hrec
    obtain ⟨R, hR⟩ : ∃ R, R = chkL l d n z := ⟨_, rfl⟩
    rw [← hR]
    clear hrec
    go_enter Tryd.func12, Tryd.ntmps12
    go_wp2_with fail
    go_loopw [12] (fun iv wr => ∃ (k n' z' : Nat), iv = .int .i64 k ∧ k ≤ l.length ∧ WalkAt wr wb n' z' ∧ n' ≤ 64 ∧ z' ≤ bigN * n' ∧ Hid (chkL (l.drop k) d n' z' = R) ∧ Fr (fun k => k = wb) w wr)
      (fun iv _ => l.length - (intOf iv).toNat)
    case atStart => exact ⟨0, n, z, rfl, by omega, hW, hn, hz, by show _ = _; rw [hR]; rfl, Fr.refl _ _⟩
    case round =>
      obtain ⟨k, n', z', rfl, hk, hWk, hnk, hzk, hd, hF⟩ := hrel
      clear hW hn hz hR
      by_cases hgo : k < l.length
      · have hne0 : l ≠ [] := by intro e; rw [e] at hgo; simp at hgo
        obtain ⟨rfl, hlb⟩ := hel hne0
        have hbel : Below B w wr := Fr.below hF (by omega) (fun k e => by omega)
        have hit := (HREC.out k l[k] (List.getElem?_eq_getElem hgo)).keep hlb hbel
        have hmem : l[k] ∈ l := List.getElem_mem hgo
        have hsz := List.sizeOf_lt_of_mem hmem
        have hd8' := hd8 hne0
        rw [chkL_drop l k hgo] at hd
        have i0 : (0 : Int) ≤ (k : Int) := by omega
        have i1 : (k : Int) < (l.length : Int) := by omega
        generalize hT : l[k] = T at *
        obtain @⟨_, _, kd, b, i, f, s, l2, la, lc, lb2, lo2, c0, c1, c2, c3, c4, c5, hi0, hi1, hs, hln2, _, _, hl2, hr2⟩ := hit
        rw [ItemP.mk.sizeOf_spec] at hsz
        have hIT := fun (W : World) (hWw : WalkAt W wb n' z') (hWb : Below B wr W) (hWB : B ≤ W.heap.size) => witem_calls (w := W) (wb := wb) (n := n') (z := z') (d := d) kd b i f s l2 la lc hi0 hi1 hs (by omega) hWw hnk hzk (fun W2 n2 z2 hn2 hz2 hW2 hF2 h6 h8 => by
          have hrow2 : RowIn B W2 (.slice la l2.length lc) l2 := by
            refine ⟨la, lc, lb2, lo2, rfl, hln2, hl2, fun j t hj => (hr2 j t hj).keep (hl2 ?_).2 (hWb.trans (Fr.below hF2 hWB (fun k e => by omega)))⟩
            intro e; rw [e] at hj; simp at hj
          have := ih l2 (by omega) (d := d + 1) hrow2 hB hW2 hn2 hz2 (by omega) (by
            intro e
            by_cases h : kd = 6
            · have := h8 h; omega
            · exact absurd (h6 h) e)
          exact this)
        have hnw : wr.heap.size ≠ wb := by have := lt_of_heap hWk; omega
        have hsf := store_f64
        have sx : Same wr (wr.alloc (itemC kd b i f s la l2.length lc)) := (Fr.refl _ wr).alloc _
        have HI := hIT (wr.alloc (itemC kd b i f s la l2.length lc)) (hWk.same sx) (Fr.below sx (by have := hF.size; omega) (fun _ f => f.elim)) (by have := hF.size; have := sx.size; omega)
        obtain ⟨rc, rn, rz, hrr⟩ : ∃ rc rn rz, chkI (.mk kd b i f s l2) d n' z' = (rc, rn, rz) := ⟨_, _, _, rfl⟩
        rw [hrr] at HI hd
        have HI' : Hid (Calls Tryd.prog 19 #[.pointer (some ⟨wb, 0, none⟩), itemV kd b i f s la l2.length lc, .int .i64 d] (wr.alloc (itemC kd b i f s la l2.length lc)) fun e w' => e = .returned (.int .i64 rc) ∧ CkPost wb (rc, rn, rz) (wr.alloc (itemC kd b i f s la l2.length lc)) w') := HI
        clear HREC ih hIT HI hrr hr2 hl2
        go_wp2_with fail
        refine HI'.out.mono ?_
        rintro e W4 ⟨rfl, hW4, hn4, hz4, hF4⟩
        have hF04 : Fr (fun k => k = wb) w W4 := Fr.trans (Fr.trans hF (sx.mono (fun _ _ f => f.elim)) (fun _ _ e => e)) hF4 (fun _ _ e => e)
        simp only at hd hW4 hn4 hz4
        by_cases hrc : rc = 0
        · subst hrc
          go_wp2_with fail
          go_roundw
          case rel => exact ⟨k + 1, rn, rz, by go_num, by omega, hW4, hn4, hz4, hd, hF04⟩
          case measure => simp [intOf]; omega
        · have hrc' : ¬ (rc : Int) = 0 := by omega
          have hRe : R = (rc, rn, rz) := by
            have := hd.out
            rw [if_neg hrc] at this
            exact this.symm
          go_wp2_with fail
          go_ret
          rw [hRe]
          exact ⟨rfl, hW4, hn4, hz4, hF04⟩
      · obtain rfl : k = l.length := by omega
        rw [List.drop_length] at hd
        have hRe : R = (0, n', z') := by rw [← hd.out]; rfl
        go_wp2_with fail
        go_ret
        rw [hRe]
        exact ⟨rfl, hWk, hnk, hzk, hF⟩
end Go.Proofs.YtjhnehhiahoelaaDoor
