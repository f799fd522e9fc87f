/-
  Walks: a step read back ('back'): a list of lists of bytes.
-/
import Derived.Test.YtcbbjicoedeioaaWU
namespace Go.Proofs.Ytcbbjicoedeioaa
open Go.RowKit

theorem vals_bytes (l : List UInt8) : vals vByte (l.map fun c => c.toNat) = bcells l := by
  simp [vals, bcells]
theorem Owns.drewN {w : World} {v : Value} {bs : List UInt8} (h : Owns w v bs) (n : Nat) : Owns (w.drewN n) v bs := own_frame h ((Fr.refl (fun _ => False) w).drewN n) (fun _ _ f => f)

set_option maxRecDepth 100000 in
set_option maxHeartbeats 1000000 in
theorem back_16 {w : World} {b B : Nat} {S : ByteArray} {p : Nat} (n : Nat) (i : Int) (s : ByteArray) (pa : Option Addr) (pl pc : Nat) (na : Option Addr) (nl nc : Nat) (wd : Int) (m : Nat) (bd : Int) (hR : RdAt w b S p 0) (hS : S.size ≤ 1000000000000) (hbB : B ≤ b)
    (ss : List ByteArray) (he : ElemIn Value.string B w (.slice pa pl pc) ss) (hss : ∀ x ∈ ss, x.size ≤ 1000000000000) (r : List UInt8) (hst : Stands S p (freeB ss.length ++ laidAll textB ss) r) :
    Calls Try.prog 32 #[.pointer (some ⟨b, 0, none⟩), stepV 16 n i s pa pl pc na nl nc wd m bd] w fun e w' => e = .returned (.bool true) ∧ RdAt w' b S (p + (freeB ss.length ++ laidAll textB ss).length) 0 ∧ RdStep b w w' := by
  have hbw := hR.lt
  obtain ⟨ad, cp, hv, hsl, hel⟩ := he
  injection hv with hv1 hv2 hv3
  subst hv1; subst hv2; subst hv3
  have hat := rListG_at (rdBytes S) textB (fun x => x.data.toList.map (fun c => c.toNat)) ss (fun x hx p r h => rdBytes_at x (by have := hss x hx; omega) p r h) (fun x _ => by unfold textB; rw [List.length_append]; have := freeB_pos x.size; omega) p ss.length r hst (by omega) (Nat.le_refl _)
  have HX : Hid (∀ W, RdAt W b S p 0 → Calls Try.prog 84 #[.pointer (some ⟨b, 0, none⟩), .int .i64 ss.length, .func (.func 85) #[] #[]] W fun e w' => ∃ ao cap, e = .returned (.slice ao ss.length cap) ∧
      (ss = [] ∨ ∃ g, ao = some ⟨g, 0, none⟩ ∧ g < w'.heap.size ∧ ∀ i x, ss[i]? = some x → ∃ ai ci, w'.cell? ⟨g, i, none⟩ = some (.slice ai x.size ci) ∧ Owns w' (.slice ai x.size ci) x.data.toList) ∧ RdAt w' b S (p + (freeB ss.length ++ laidAll textB ss).length) 0 ∧ RdStep b W w') := fun W hW => by
    have := list_RBytes hW hS ss.length (by omega)
    rw [hat] at this
    refine this.mono ?_
    rintro e w' ⟨ao, cap, av, rfl, hown, hrows, _, h2, st⟩
    rw [List.length_map] at hown ⊢
    refine ⟨ao, cap, rfl, ?_, h2, st⟩
    have havl : av.length = ss.length := by rw [hrows.1, List.length_map]
    rw [← havl] at hown
    have hown' : w'.ownsRow 0 67 1 (.slice ao av.length cap) av.length (vals (fun v => v) av) := by
      rw [show vals (fun v => v) av = av from List.map_id' av]; exact hown
    rcases own_elem hown' with h0 | ⟨g, hg1, hg2, hg3⟩
    · left
      rw [h0] at havl
      exact List.length_eq_zero_iff.1 havl.symm
    · refine Or.inr ⟨g, hg1, hg2, fun i x hi => ?_⟩
      have hilt := (List.getElem?_eq_some_iff.1 hi).1
      have hiv : av[i]? = some (av[i]'(by omega)) := List.getElem?_eq_getElem (by omega)
      obtain ⟨l, ai, ci, hl1, hl2, hl3, _⟩ := hrows.2 i _ hiv
      have hl : l = x.data.toList.map (fun c => c.toNat) := by
        rw [List.getElem?_map, hi] at hl1
        simpa using hl1.symm
      have hll : l.length = x.size := by rw [hl, List.length_map, bytes_length]
      refine ⟨ai, ci, ?_, ?_⟩
      · rw [hg3 i _ hiv, hl2, hll]
      · rw [hl2, hl, vals_bytes] at hl3
        rw [List.length_map] at hl3
        have hb := bytes_length x
        rw [hb] at hl3
        show World.ownsRow _ _ _ _ _ _ _
        rw [hb]
        exact hl3
  obtain ⟨c0, c1, c2, c3, c4, c5, c6⟩ := step_cells w 16 n i s pa ss.length pc na nl nc wd m bd
  have sa : Same w (w.alloc (stepC 16 n i s pa ss.length pc na nl nc wd m bd)) := (Fr.refl _ w).alloc _
  clear hat
  go_enter Try.func32, Try.ntmps32
  go_wp2_with fail
  refine (lsize_other _ 16 (by omega)).mono ?_
  rintro e W1 ⟨rfl, s1⟩
  have d0 := (s1.cell (World.block_lt_of_cell? _ _ c0) (fun f => f)).trans c0
  have d4 := (s1.cell (World.block_lt_of_cell? _ _ c4) (fun f => f)).trans c4
  have hw1 : Same w W1 := Fr.trans sa s1 (fun _ _ f => f)
  have hwl : w.heap.size < W1.heap.size := World.block_lt_of_cell? _ _ d0
  have h1 := hR.same hw1
  clear c0 c1 c2 c3 c4 c5 c6 s1 sa
  go_wp2_with fail
  refine (HX.out _ h1).mono ?_
  rintro e W2 ⟨ao, cap, rfl, hel2, h2, st2⟩
  have e4 := (Fr.cell (S := fun k => k = b) st2 (p := ⟨w.heap.size, 4, none⟩) (World.block_lt_of_cell? _ _ d4) (by simp only; omega)).trans d4
  go_wp2_with fail
  go_loopw [14] (fun iv wr => ∃ k : Nat, iv = .int .i64 k ∧ k ≤ ss.length ∧ Same W2 wr)
    (fun iv _ => ss.length - (intOf iv).toNat)
  case atStart => exact ⟨0, rfl, by omega, Fr.refl _ _⟩
  case round =>
    obtain ⟨k, rfl, hk, hst3⟩ := hrel
    have g4 := (hst3.cell (p := ⟨w.heap.size, 4, none⟩) (World.block_lt_of_cell? _ _ e4) (fun f => f)).trans e4
    by_cases hgo : k < ss.length
    · rcases hel with rfl | ⟨ab, ao', rfl, hlt, hel⟩
      · simp at hgo
      rcases hel2 with rfl | ⟨g, rfl, hlt2, hel2⟩
      · simp at hgo
      have hx := hel k ss[k] (List.getElem?_eq_getElem hgo)
      have hx1 := (hw1.cell (p := ⟨ab, ao' + k, none⟩) (World.block_lt_of_cell? _ _ hx) (fun f => f)).trans hx
      have hx2 := (Fr.cell (S := fun k => k = b) st2 (p := ⟨ab, ao' + k, none⟩) (World.block_lt_of_cell? _ _ hx1) (by simp only; omega)).trans hx1
      have hx3 := (hst3.cell (p := ⟨ab, ao' + k, none⟩) (World.block_lt_of_cell? _ _ hx2) (fun f => f)).trans hx2
      obtain ⟨ai, ci, hy, ho⟩ := hel2 k ss[k] (List.getElem?_eq_getElem hgo)
      have hy3 := (hst3.cell (p := ⟨g, k, none⟩) (World.block_lt_of_cell? _ _ hy) (fun f => f)).trans hy
      have ho3 : Owns wr (.slice ai ss[k].size ci) ss[k].data.toList := own_frame ho hst3 (fun _ _ f => f)
      have hcv : ∀ q, (convert 67 9 (.slice ai ss[k].size ci)).run Try.prog (wr.drewN q) = .ok (.string ss[k]) (wr.drewN q) := fun q => by
        have := owns_string (P := Try.prog) (ho3.drewN q) 67 9 Try.underlying67 Try.underlying5 Try.underlying9
        rwa [Lib.mk_data] at this
      have i0 : (0 : Int) ≤ (k : Int) := by omega
      have i1 : (k : Int) < (ss.length : Int) := by omega
      generalize hs0 : ss[k] = s0 at *
      clear hx hx1 hx2 hy hel hel2 e4 d4 ho ho3
      go_wp2_with fail
      go_quiet (fail)
      go_wp2_with fail
      go_roundw
      case rel => exact ⟨k + 1, by go_num, by omega, hst3.drewN _⟩
      case measure => simp [intOf]; omega
    · obtain rfl : k = ss.length := by omega
      go_wp2_with fail
      go_ret
      exact ⟨rfl, h2.same hst3, RdStep.trans (Same.rd hw1 b) (RdStep.trans st2 (Same.rd hst3 b))⟩
end Go.Proofs.Ytcbbjicoedeioaa
