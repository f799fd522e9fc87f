/- Calls with no function for each: a count alone, a list of noughts; where two Readers stand. -/
import Derived.Test.YtpcdpdagcigigaaHN3
import Derived.Test.YtpcdpdagcigigaaHN5
namespace Go.Proofs.Ytpcdpdagcigigaa
open Go.RowKit

theorem eql_noneW (W : World) : (binOp .eql 30 .nilFunc .nilFunc).run Try.prog W = .ok (.bool true) W := by kernel_rfl
theorem eql_noneR (W : World) : (binOp .eql 33 .nilFunc .nilFunc).run Try.prog W = .ok (.bool true) W := by kernel_rfl
set_option maxRecDepth 100000 in
theorem each_none {w : World} {b : Nat} {g : Option Nat} {bs : List UInt8} (ao : Option Addr) (n c : Nat) (hn : n < 9223372036854775808) (h : WrAt w b g bs) (hl : bs.length ≤ 1000000000000) :
    Calls Try.prog 5 #[.pointer (some ⟨b, 0, none⟩), .slice ao n c, .nilFunc] w fun e w' => e = .returned (.tuple #[]) ∧ ∃ g', WrAt w' b g' (bs ++ freeB n) ∧ WrStep b g g' w w' := by
  obtain ⟨ao1, cc, hblk, hown, hg⟩ := id h
  obtain ⟨c0, c1, f0, f1⟩ := cell_of_two hblk
  have he := eql_noneW
  go_enter Try.func5, Try.ntmps5
  go_wp2_with (go_at_call 47; refine (there_calls c0).mono ?_; rintro e w' ⟨rfl, rfl⟩)
  refine (wfree_calls n (by omega) h hl).mono ?_
  rintro e w1 ⟨rfl, g1, h2, st⟩
  go_wp2_with fail
  refine bodyPost_ret (results_none rfl _ _ _) rfl ?_
  exact ⟨rfl, g1, h2, st⟩
theorem Try.infoU64 : (Try.prog.info? 22).map (fun i => (i.zero, i.size, i.bytes)) = some (some (.int .u64 0), 1, 8) := by kernel_rfl
theorem make_none (w : World) (n : Nat) (hn : n ≤ 1000000000000) : ∃ W, (Instr.makeSlice 24 (.int .u64 (n : Int)) (.int .u64 (n : Int))).run Try.prog w = .ok (.slice (some ⟨w.heap.size, 0, none⟩) n n) W ∧ Same w W ∧ ∀ k, k < n → W.cell? ⟨w.heap.size, k, none⟩ = some (.int .u64 0) := by
  obtain ⟨i0, hi, hi0, hi1, hi2⟩ := info_parts Try.infoU64
  have hm := run_make (P := Try.prog) w 24 22 i0 _ Try.underlying24 hi hi0 .u64 .u64 (n : Int) (n : Int) (by omega) (by omega) (by rw [hi2]; omega) (by omega)
  rw [show ((n : Int)).toNat = n from by omega, hi1] at hm
  refine ⟨_, hm, (Fr.refl _ w).alloc _, fun k hk => ?_⟩
  rw [cell_of_row _ _ _ _ _ _ (heap_alloc_new w _), ← Array.getElem?_toList]
  show (madeCells #[Value.int .u64 0] _).toList[k]? = _
  rw [toList_madeCells_one, Nat.mul_one]
  simp [hk]
set_option maxRecDepth 100000 in
set_option maxHeartbeats 1000000 in
theorem list_none {w : World} {b : Nat} {s : ByteArray} (h : RdAt w b s 0 0) (hsz : s.size ≤ 1000000000000) :
    Calls Try.prog 7 #[.pointer (some ⟨b, 0, none⟩), .int .i64 1099511627776, .nilFunc] w fun e w' => ∃ ao cap, e = .returned (.slice ao (rCount s 0 0 1099511627776).1 cap) ∧
      (∀ k, k < (rCount s 0 0 1099511627776).1 → ∃ q, ao = some ⟨q, 0, none⟩ ∧ w'.cell? ⟨q, k, none⟩ = some (.int .u64 0)) ∧ RdAt w' b s (rCount s 0 0 1099511627776).2.1 (rCount s 0 0 1099511627776).2.2 ∧ RdStep b w w' := by
  have hef := eql_noneR
  have HF0 := rfree_calls h 1099511627776 (by omega)
  have hl := (rFree_lt s 0 0 1099511627776)
  have hpl := rFree_place s 0 0 1099511627776 (Nat.zero_le _)
  obtain ⟨n, p', c', hr⟩ : ∃ n p' c', rFree s 0 0 1099511627776 = (n, p', c') := ⟨_, _, _, rfl⟩
  have hcode := rFree_code s 0 0 1099511627776
  have hx : rCount s 0 0 1099511627776 = if s.size - p' < n then (0, 0, 12) else (n, p', c') := by unfold rCount; rw [hr]
  rw [hr] at HF0 hl hpl hcode
  simp only at hl hpl hcode
  have HF : Hid (Calls Try.prog 12 #[.pointer (some ⟨b, 0, none⟩), .int .u64 1099511627776] w fun e w' => e = .returned (.int .u64 n) ∧ RdAt w' b s p' c' ∧ RdStep b w w') := HF0
  clear HF0 hr
  rw [hx]
  clear hx
  by_cases hlt : s.size - p' < n
  · rw [if_pos hlt]
    go_enter Try.func7, Try.ntmps7
    go_wp2_with (first | (go_at_call 18; refine (at_calls h).mono ?_; rintro e w' ⟨rfl, rfl⟩) | (go_at_call 48; refine (counted_calls _ _).mono ?_; rintro e w' ⟨rfl, rfl⟩))
    refine HF.out.mono ?_
    rintro e w1 ⟨rfl, h1, st1⟩
    go_wp2_with fail
    refine (left_calls h1).mono ?_
    rintro e w2 ⟨rfl, st2⟩
    have hlt' : (s.size : Int) - (p' : Int) < (n : Int) := by omega
    go_wp2_with fail
    refine (fail_calls (h1.same st2) 0 12 (Nat.zero_le _)).mono ?_
    rintro e w3 ⟨rfl, h3, st3⟩
    go_wp2_with fail
    refine (reads_calls h3).mono ?_
    rintro e w4 ⟨rfl, rfl⟩
    go_wp2_with fail
    go_ret
    exact ⟨none, 0, rfl, by simp, h3, (st1.trans (Same.rd st2 b)).trans st3⟩
  · rw [if_neg hlt]
    go_enter Try.func7, Try.ntmps7
    go_wp2_with (first | (go_at_call 18; refine (at_calls h).mono ?_; rintro e w' ⟨rfl, rfl⟩) | (go_at_call 48; refine (counted_calls _ _).mono ?_; rintro e w' ⟨rfl, rfl⟩))
    refine HF.out.mono ?_
    rintro e w1 ⟨rfl, h1, st1⟩
    go_wp2_with fail
    refine (left_calls h1).mono ?_
    rintro e w2 ⟨rfl, st2⟩
    have h2 := h1.same st2
    have st12 : RdStep b w w2 := st1.trans (Same.rd st2 b)
    have hlt' : (n : Int) ≤ (s.size : Int) - (p' : Int) := by omega
    clear h1 st1 st2
    go_wp2_with fail
    refine (reads_calls h2).mono ?_
    rintro e w4 ⟨rfl, rfl⟩
    by_cases hc0 : c' = 0
    · subst hc0
      obtain ⟨W, hmk, sW, hz⟩ := make_none w2 n (by omega)
      have HZ : Hid (∀ k, k < n → W.cell? ⟨w2.heap.size, k, none⟩ = some (.int .u64 0)) := hz
      clear hz
      go_wp2_with fail
      go_ret
      exact ⟨some ⟨w2.heap.size, 0, none⟩, n, rfl, fun k hk => ⟨_, rfl, HZ.out k hk⟩, h2.same sW, st12.trans (Same.rd sW b)⟩
    · have hcb : (c' == 0) = false := by simpa using hc0
      have hn0 : n = 0 := hcode hc0
      subst hn0
      go_wp2_with fail
      go_ret
      exact ⟨none, 0, rfl, by simp, h2, st12⟩
set_option maxRecDepth 100000 in
set_option maxHeartbeats 1000000 in
theorem stands_ok {w : World} {b x : Nat} {s : ByteArray} {p : Nat} (h : RdAt w b s p 0) (k : RRAt w x s p 0) (hs : s.size ≤ 1000000000000) :
    Calls Try.prog 26 #[.pointer (some ⟨b, 0, none⟩), .pointer (some ⟨x, 0, none⟩)] w fun e w' => e = .returned (.bool true) ∧ Same w w' := by
  have hp := h.2.1
  obtain ⟨lf, hlf⟩ : ∃ lf, lf = s.size - p := ⟨_, rfl⟩
  have HL : Hid (∀ W, RdAt W b s p 0 → Calls Try.prog 17 #[.pointer (some ⟨b, 0, none⟩)] W fun e w' => e = .returned (.int .i64 (lf : Int)) ∧ Same W w') := fun W hW => by
    have hl := left_calls hW
    rw [show (s.size : Int) - (p : Int) = (lf : Int) by omega] at hl
    exact hl
  have HR : Hid (∀ W, RRAt W x s p 0 → Calls Try.prog 21 #[.pointer (some ⟨x, 0, none⟩)] W fun e w' => e = .returned (.int .i64 (lf : Int)) ∧ Same W w') := fun W hW => by
    have hl := rrleft_calls W hW hp hs
    rw [← hlf] at hl
    exact hl
  clear hlf hp hs
  have sd : Same w w.drew := (Fr.refl _ w).drew
  have hP : w.drew.cell? ⟨x, 1, none⟩ = some (.int .i64 (p : Int)) ∧ RdAt w.drew b s p 0 ∧ RRAt w.drew x s p 0 ∧ Same w w.drew := ⟨(k.fr sd (fun f => f)).c1, h.same sd, k.fr sd (fun f => f), sd⟩
  have k1 := k.c1
  have k2 := k.c2
  go_enter Try.func26, Try.ntmps26
  go_wp2_with fail
  go_region_held3 (fun w' => w'.cell? ⟨x, 1, none⟩ = some (.int .i64 (p : Int)) ∧ RdAt w' b s p 0 ∧ RRAt w' x s p 0 ∧ Same w w')
    (first | go_keep | exact hP)
    (first | (go_at_call 18; refine (at_calls hP.2.1).mono ?_; rintro e W1 ⟨rfl, rfl⟩) | (go_at_call 17; refine (HL.out _ hP.2.1).mono ?_; rintro e W1 ⟨rfl, s1⟩; have hP := (⟨((hP.2.2.1.fr s1 (fun f => f)).c1), hP.2.1.same s1, hP.2.2.1.fr s1 (fun f => f), Same.trans hP.2.2.2 s1⟩ : W1.cell? ⟨x, 1, none⟩ = some (.int .i64 (p : Int)) ∧ RdAt W1 b s p 0 ∧ RRAt W1 x s p 0 ∧ Same w W1)) | (go_at_call 21; refine (HR.out _ hP.2.2.1).mono ?_; rintro e W1 ⟨rfl, s1⟩; have hP := (⟨((hP.2.2.1.fr s1 (fun f => f)).c1), hP.2.1.same s1, hP.2.2.1.fr s1 (fun f => f), Same.trans hP.2.2.2 s1⟩ : W1.cell? ⟨x, 1, none⟩ = some (.int .i64 (p : Int)) ∧ RdAt W1 b s p 0 ∧ RRAt W1 x s p 0 ∧ Same w W1)))
  all_goals
    have q2 := hP.2.2.1.c2
    go_wp2_with fail
    refine (fault_ok hP.2.1).mono ?_
    rintro e w5 ⟨rfl, rfl⟩
    go_wp2_with fail
    go_ret
    exact ⟨rfl, hP.2.2.2⟩
set_option maxRecDepth 100000 in
set_option maxHeartbeats 1000000 in
theorem stands_bad {w : World} {b x : Nat} {s : ByteArray} {p c : Nat} (h : RdAt w b s p c) (k : RRAt w x s p c) (hs : s.size ≤ 1000000000000) (hc : 0 < c) :
    Calls Try.prog 26 #[.pointer (some ⟨b, 0, none⟩), .pointer (some ⟨x, 0, none⟩)] w fun e w' => e = .returned (.bool true) ∧ Same w w' := by
  have hp := h.2.1
  obtain ⟨lf, hlf⟩ : ∃ lf, lf = s.size - p := ⟨_, rfl⟩
  have HL : Hid (∀ W, RdAt W b s p c → Calls Try.prog 17 #[.pointer (some ⟨b, 0, none⟩)] W fun e w' => e = .returned (.int .i64 (lf : Int)) ∧ Same W w') := fun W hW => by
    have hl := left_calls hW
    rw [show (s.size : Int) - (p : Int) = (lf : Int) by omega] at hl
    exact hl
  have HR : Hid (∀ W, RRAt W x s p c → Calls Try.prog 21 #[.pointer (some ⟨x, 0, none⟩)] W fun e w' => e = .returned (.int .i64 (lf : Int)) ∧ Same W w') := fun W hW => by
    have hl := rrleft_calls W hW hp hs
    rw [← hlf] at hl
    exact hl
  clear hlf hp hs
  have sd : Same w w.drew := (Fr.refl _ w).drew
  have hP : w.drew.cell? ⟨x, 1, none⟩ = some (.int .i64 (p : Int)) ∧ RdAt w.drew b s p c ∧ RRAt w.drew x s p c ∧ Same w w.drew := ⟨(k.fr sd (fun f => f)).c1, h.same sd, k.fr sd (fun f => f), sd⟩
  have k1 := k.c1
  have k2 := k.c2
  have hcb : ((c : Int) == 0) = false := by simp; omega
  go_enter Try.func26, Try.ntmps26
  go_wp2_with fail
  go_region_held3 (fun w' => w'.cell? ⟨x, 1, none⟩ = some (.int .i64 (p : Int)) ∧ RdAt w' b s p c ∧ RRAt w' x s p c ∧ Same w w')
    (first | go_keep | exact hP)
    (first | (go_at_call 18; refine (at_calls hP.2.1).mono ?_; rintro e W1 ⟨rfl, rfl⟩) | (go_at_call 17; refine (HL.out _ hP.2.1).mono ?_; rintro e W1 ⟨rfl, s1⟩; have hP := (⟨((hP.2.2.1.fr s1 (fun f => f)).c1), hP.2.1.same s1, hP.2.2.1.fr s1 (fun f => f), Same.trans hP.2.2.2 s1⟩ : W1.cell? ⟨x, 1, none⟩ = some (.int .i64 (p : Int)) ∧ RdAt W1 b s p c ∧ RRAt W1 x s p c ∧ Same w W1)) | (go_at_call 21; refine (HR.out _ hP.2.2.1).mono ?_; rintro e W1 ⟨rfl, s1⟩; have hP := (⟨((hP.2.2.1.fr s1 (fun f => f)).c1), hP.2.1.same s1, hP.2.2.1.fr s1 (fun f => f), Same.trans hP.2.2.2 s1⟩ : W1.cell? ⟨x, 1, none⟩ = some (.int .i64 (p : Int)) ∧ RdAt W1 b s p c ∧ RRAt W1 x s p c ∧ Same w W1)))
  all_goals
    go_wp2_with fail
    refine (fault_bad hP.2.1 hc).mono ?_
    rintro e w5 ⟨rfl, hF, s5⟩
    have hlt := hP.2.1.lt
    obtain ⟨q, hq⟩ : ∃ q, q = W1.heap.size := ⟨_, rfl⟩
    rw [← hq] at hF hlt ⊢
    have h5 := hP.2.1.same s5
    have k5 := hP.2.2.1.fr s5 (fun f => f)
    have ss := Same.trans hP.2.2.2 s5
    obtain ⟨d0, d1, e0, e1⟩ := cell_of_two hF
    have x1 := k5.c1
    have x2 := k5.c2
    have hx : x < w.heap.size := lt_of_heap k
    have wq : w.heap.size ≤ q := by rw [hq]; exact hP.2.2.2.size
    clear hq hP s5 hF k1 k2 sd h k
    go_wp2_with fail
    go_quiet (fail)
    go_wp2_with fail
    obtain ⟨W7, hW7⟩ : ∃ W, W = ((w5.drewN nq).setCell ⟨q, 1, none⟩ (.int .i64 (-5))).setCell ⟨q, 0, none⟩ (.int .i64 0) := ⟨_, rfl⟩
    have fW : Fr (fun k => k = q) w5 W7 := by rw [hW7]; exact (((Fr.refl (fun k => k = q) w5).drewN _).setCell (p := ⟨q, 1, none⟩) (fun _ => rfl) _).setCell (p := ⟨q, 0, none⟩) (fun _ => rfl) _
    rw [← hW7]
    have h7 : RdAt W7 b s p c := ⟨hp_fr h5.1 fW (by omega), h5.2⟩
    have k7 : RRAt W7 x s p c := k5.fr fW (by omega)
    have s7 : Same w W7 := Fr.trans ss fW (fun i hi e => by omega)
    clear hW7 fW h5 k5 ss d0 d1 e0 e1 x1 x2
    refine (fault_bad h7 hc).mono ?_
    rintro e w8 ⟨rfl, hF, s8⟩
    obtain ⟨r, hr⟩ : ∃ r, r = W7.heap.size := ⟨_, rfl⟩
    rw [← hr] at hF ⊢
    have k8 := k7.fr s8 (fun f => f)
    have s9 := Same.trans s7 s8
    obtain ⟨d0, d1, e0, e1⟩ := cell_of_two hF
    have x1 := k8.c1
    have x2 := k8.c2
    clear hr hF s8 s7 k7 h7 k8
    go_wp2_with fail
    go_quiet (fail)
    go_wp2_with fail
    go_ret
    exact ⟨rfl, s9.drewN _⟩
end Go.Proofs.Ytpcdpdagcigigaa
