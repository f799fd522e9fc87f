/-
  Walks: a step read back ('back'): raw texts.
-/
import Derived.Test.YtcbbjicoedeioaaWS
namespace Go.Proofs.Ytcbbjicoedeioaa
open Go.RowKit

theorem Stands.drop {S : ByteArray} {p : Nat} {ss : List ByteArray} {r : List UInt8} (h : Stands S p (flat ss) r) (k : Nat) (hk : k < ss.length) :
    Stands S (p + (flat (ss.take k)).length) (ss[k].data.toList) (flat (ss.drop (k + 1)) ++ r) := by
  have e : flat ss = flat (ss.take k) ++ (ss[k].data.toList ++ flat (ss.drop (k + 1))) := by
    rw [← flat_cons, ← List.drop_eq_getElem_cons hk, ← flat_append, List.take_append_drop]
  rw [e] at h
  exact (h.next.2).next.1

set_option maxRecDepth 100000 in
set_option maxHeartbeats 1000000 in
theorem back_11 {w : World} {b B : Nat} {S : ByteArray} {p : Nat} (n : Nat) (i : Int) (s : ByteArray) (pa : Option Addr) (pl pc : Nat) (na : Option Addr) (nl nc : Nat) (wd : Int) (m : Nat) (bd : Int) (hR : RdAt w b S p 0) (hbB : B ≤ b)
    (ss : List ByteArray) (he : ElemIn Value.string B w (.slice pa pl pc) ss) (hss : ∀ x ∈ ss, x.size ≤ 1000000000000) (r : List UInt8) (hst : Stands S p (flat ss) r) :
    Calls Try.prog 32 #[.pointer (some ⟨b, 0, none⟩), stepV 11 n i s pa pl pc na nl nc wd m bd] w fun e w' => e = .returned (.bool true) ∧ RdAt w' b S (p + (flat ss).length) 0 ∧ RdStep b w w' := by
  have hbw := hR.lt
  obtain ⟨ad, cp, hv, hsl, hel⟩ := he
  injection hv with hv1 hv2 hv3
  subst hv1; subst hv2; subst hv3
  obtain ⟨c0, c1, c2, c3, c4, c5, c6⟩ := step_cells w 11 n i s pa ss.length pc na nl nc wd m bd
  have sa : Same w (w.alloc (stepC 11 n i s pa ss.length pc na nl nc wd m bd)) := (Fr.refl _ w).alloc _
  go_enter Try.func32, Try.ntmps32
  go_wp2_with fail
  refine (lsize_other _ 11 (by omega)).mono ?_
  rintro e W1 ⟨rfl, s1⟩
  have d0 := (s1.cell (World.block_lt_of_cell? _ _ c0) (fun f => f)).trans c0
  have d4 := (s1.cell (World.block_lt_of_cell? _ _ c4) (fun f => f)).trans c4
  have hw1 : Same w W1 := Fr.trans sa s1 (fun _ _ f => f)
  have hwl : w.heap.size < W1.heap.size := World.block_lt_of_cell? _ _ d0
  have h1 := hR.same hw1
  clear c0 c1 c2 c3 c4 c5 c6 s1 sa
  go_wp2_with fail
  go_loopw [7] (fun iv wr => ∃ k : Nat, iv = .int .i64 k ∧ k ≤ ss.length ∧ RdAt wr b S (p + (flat (ss.take k)).length) 0 ∧ RdStep b W1 wr)
    (fun iv _ => ss.length - (intOf iv).toNat)
  case atStart => exact ⟨0, rfl, by omega, by simpa [flat] using h1, Fr.refl _ _⟩
  case round =>
    obtain ⟨k, rfl, hk, hrd, hst3⟩ := hrel
    have g4 := (Fr.cell (S := fun k => k = b) hst3 (p := ⟨w.heap.size, 4, none⟩) (World.block_lt_of_cell? _ _ d4) (by simp only; omega)).trans d4
    by_cases hgo : k < ss.length
    · rcases hel with rfl | ⟨ab, ao, rfl, hlt, hel⟩
      · simp at hgo
      have hx := hel k ss[k] (List.getElem?_eq_getElem hgo)
      have hx1 := (hw1.cell (p := ⟨ab, ao + k, none⟩) (World.block_lt_of_cell? _ _ hx) (fun f => f)).trans hx
      have hx2 := (Fr.cell (S := fun k => k = b) hst3 (p := ⟨ab, ao + k, none⟩) (World.block_lt_of_cell? _ _ hx1) (by simp only; omega)).trans hx1
      have hzz := hss ss[k] (List.getElem_mem hgo)
      have hbl := bytes_length ss[k]
      have hat := rRaw_at (hst.drop k hgo) hbl
      have HX : Hid (∀ W, RdAt W b S (p + (flat (ss.take k)).length) 0 → Calls Try.prog 20 #[.pointer (some ⟨b, 0, none⟩), .int .i64 (ss[k].size : Int)] W fun e w' => e = .returned (.string ss[k]) ∧ RdAt w' b S (p + (flat (ss.take (k + 1))).length) 0 ∧ RdStep b W w') := fun W hW => by
        have := rraw_calls hW (ss[k].size : Int) (by omega)
        rw [hat] at this
        rw [flat_take_succ ss k hgo, List.length_append, hbl, ← Nat.add_assoc]
        exact this
      generalize hs0 : ss[k] = s0 at *
      clear hat hel hx hx1
      have i0 : (0 : Int) ≤ (k : Int) := by omega
      have i1 : (k : Int) < (ss.length : Int) := by omega
      have hne1 : ¬ w.heap.size = b := by omega
      have hne2 : ¬ ab = b := by omega
      go_wp2_with fail
      go_region_held3 (fun w' => w'.cell? ⟨w.heap.size, 4, none⟩ = some (.slice (some ⟨ab, ao, none⟩) ss.length pc) ∧ w'.cell? ⟨ab, ao + k, none⟩ = some (.string s0)) (first | go_keep | exact ⟨k4, k5⟩)
        (first
          | (go_at_call 20; refine (HX.out _ ?_).mono ?_; (exact hrd.same ((Fr.refl _ wr).drew)); rintro e W4 ⟨rfl, h4, st4⟩; have k4 := (Fr.cell (S := fun k => k = b) st4 (p := ⟨w.heap.size, 4, none⟩) (World.block_lt_of_cell? _ _ g4) hne1).trans g4; have k5 := (Fr.cell (S := fun k => k = b) st4 (p := ⟨ab, ao + k, none⟩) (World.block_lt_of_cell? _ _ hx2) hne2).trans hx2))
      go_wp2_with fail
      go_roundw
      case rel => exact ⟨k + 1, by go_num, by omega, h4, RdStep.trans hst3 (RdStep.trans (Fr.drew (Fr.refl _ wr)) st4)⟩
      case measure => simp [intOf]; omega
    · obtain rfl : k = ss.length := by omega
      go_wp2_with fail
      go_ret
      rw [List.take_length] at hrd
      exact ⟨rfl, hrd, RdStep.trans (Same.rd hw1 b) hst3⟩
end Go.Proofs.Ytcbbjicoedeioaa
