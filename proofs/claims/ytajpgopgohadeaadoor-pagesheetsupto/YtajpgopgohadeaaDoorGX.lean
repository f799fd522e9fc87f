/- The document's Write. -/
import Derived.Test.YtajpgopgohadeaaDoorGW
namespace Go.Proofs.YtajpgopgohadeaaDoor
open Go.RowKit

theorem add_run {P : Program} {a b c : ByteArray} (h : a ++ b = c) (hs : a.size + b.size ≤ 1099511627776) (W : World) : (Op.stringOp .add a b).run P W = .ok (.string c) W := by
  have hm : IntKind.i64.max = 9223372036854775807 := by decide
  have hc : ¬ (((a.size + b.size : Nat) : Int) > IntKind.i64.max) := by omega
  simp only [Op.stringOp, if_neg hc, h]; rfl
theorem size_list (l : List UInt8) : (ByteArray.mk l.toArray).size = l.length := by
  rw [← bytes_length, List.toList_toArray]
theorem append_list (a b : List UInt8) : (ByteArray.mk a.toArray) ++ (ByteArray.mk b.toArray) = ⟨(a ++ b).toArray⟩ := by
  apply ByteArray.ext; simp

theorem add_lists {P : Program} (a b : List UInt8) (h : a.length + b.length ≤ 1099511627776) (W : World) : (Op.stringOp .add ⟨a.toArray⟩ ⟨b.toArray⟩).run P W = .ok (.string ⟨(a ++ b).toArray⟩) W :=
  add_run (append_list a b) (by rw [size_list, size_list]; exact h) W

set_option maxRecDepth 100000 in
set_option maxHeartbeats 2000000 in
theorem rwrite_bad {p q : Int} {kd no vs : Nat} {b : ByteArray} {E : Int} (hE : chkE p q kd no vs b.size = E) (h0 : E ≠ 0) (w : World) :
    Calls Tryd.prog 57 #[frameV p q, pageV kd no vs b] w fun e w' => e = .returned (.tuple #[.string ⟨#[]⟩, .int .i64 E]) ∧ Same w w' := by
  have HC := rcheck_calls p q kd no vs b
  rw [hE] at HC
  have sx : Same w ((w.alloc (.cells #[.int .i64 p, .int .i64 q] 23)).alloc (.cells #[.int .u8 kd, .int .u32 no, .int .u64 vs, .string b] 41)) := ((Fr.refl _ w).alloc _).alloc _
  clear hE
  go_enter Tryd.func57, Tryd.ntmps57
  go_wp2_with fail
  refine (HC _).mono ?_
  rintro e W1 ⟨rfl, s1⟩
  go_wp2_with fail
  go_ret2
  exact ⟨rfl, sx.trans s1⟩

set_option maxRecDepth 100000 in
set_option maxHeartbeats 4000000 in
theorem rwrite_good {p q : Int} {kd no vs : Nat} {b : ByteArray} (hE : chkE p q kd no vs b.size = 0) (w : World) :
    Calls Tryd.prog 57 #[frameV p q, pageV kd no vs b] w fun e w' => e = .returned (.tuple #[.string ⟨(formB p kd no vs b).toArray⟩, .int .i64 0]) ∧ Same w w' := by
  obtain ⟨hf, k1, k2, n1, n2, v1, v2, hb⟩ := chk_zero hE
  have hp := frame_lo hf
  have HC : Hid (∀ W, Calls Tryd.prog 75 #[frameV p q, pageV kd no vs b] W fun e w' => e = .returned (.int .i64 0) ∧ Same W w') := fun W => by rw [← hE]; exact rcheck_calls p q kd no vs b W
  obtain ⟨V, hV⟩ : ∃ V, V = ((w.alloc (.cells #[.int .i64 p, .int .i64 q] 23)).alloc (.cells #[.int .u8 kd, .int .u32 no, .int .u64 vs, .string b] 41)) := ⟨_, rfl⟩
  have sx : Same w V := by rw [hV]; exact ((Fr.refl _ w).alloc _).alloc _
  have HS : Hid (∀ W, Same V W → W.cell? ⟨w.heap.size, 0, none⟩ = some (.int .i64 p) ∧ W.cell? ⟨w.heap.size, 1, none⟩ = some (.int .i64 q) ∧ W.cell? ⟨w.heap.size + 1, 0, none⟩ = some (.int .u8 kd) ∧ W.cell? ⟨w.heap.size + 1, 1, none⟩ = some (.int .u32 no) ∧ W.cell? ⟨w.heap.size + 1, 2, none⟩ = some (.int .u64 vs) ∧ W.cell? ⟨w.heap.size + 1, 3, none⟩ = some (.string b)) := by
    intro W h
    refine ⟨h.keep ?_, h.keep ?_, h.keep ?_, h.keep ?_, h.keep ?_, h.keep ?_⟩ <;> (rw [hV]; simp)
  -- the pieces of the head
  obtain ⟨N1, hN1⟩ : ∃ N : ByteArray, N = ⟨(fixB 1 kd).toArray⟩ := ⟨_, rfl⟩
  obtain ⟨N2, hN2⟩ : ∃ N : ByteArray, N = ⟨(fixB 2 b.size).toArray⟩ := ⟨_, rfl⟩
  obtain ⟨N3, hN3⟩ : ∃ N : ByteArray, N = ⟨(fixB 4 no).toArray⟩ := ⟨_, rfl⟩
  obtain ⟨Z4, hZ4⟩ : ∃ N : ByteArray, N = ⟨(List.replicate 4 0).toArray⟩ := ⟨_, rfl⟩
  obtain ⟨N5, hN5⟩ : ∃ N : ByteArray, N = ⟨(fixB 8 vs).toArray⟩ := ⟨_, rfl⟩
  obtain ⟨A1, hA1⟩ : ∃ A : ByteArray, A = ⟨([72, 87, 80, 71, 1] ++ fixB 1 kd).toArray⟩ := ⟨_, rfl⟩
  obtain ⟨A2, hA2⟩ : ∃ A : ByteArray, A = ⟨([72, 87, 80, 71, 1] ++ fixB 1 kd ++ fixB 2 b.size).toArray⟩ := ⟨_, rfl⟩
  obtain ⟨A3, hA3⟩ : ∃ A : ByteArray, A = ⟨([72, 87, 80, 71, 1] ++ fixB 1 kd ++ fixB 2 b.size ++ fixB 4 no).toArray⟩ := ⟨_, rfl⟩
  obtain ⟨A4, hA4⟩ : ∃ A : ByteArray, A = ⟨([72, 87, 80, 71, 1] ++ fixB 1 kd ++ fixB 2 b.size ++ fixB 4 no ++ List.replicate 4 0).toArray⟩ := ⟨_, rfl⟩
  obtain ⟨A5, hA5⟩ : ∃ A : ByteArray, A = ⟨([72, 87, 80, 71, 1] ++ fixB 1 kd ++ fixB 2 b.size ++ fixB 4 no ++ List.replicate 4 0 ++ fixB 8 vs).toArray⟩ := ⟨_, rfl⟩
  obtain ⟨A6, hA6⟩ : ∃ A : ByteArray, A = headS kd no vs b.size := ⟨_, rfl⟩
  have hA6' : A6 = ⟨([72, 87, 80, 71, 1] ++ fixB 1 kd ++ fixB 2 b.size ++ fixB 4 no ++ List.replicate 4 0 ++ fixB 8 vs ++ List.replicate 4 0).toArray⟩ := by rw [hA6]; rfl
  have zz : ∀ l : List UInt8, (ByteArray.mk l.toArray).size = l.length := size_list
  have g1 : ∀ W : World, (Op.stringOp .add ⟨#[72, 87, 80, 71, 1]⟩ N1).run Tryd.prog W = .ok (.string A1) W := fun W => by rw [hN1, hA1]; exact add_lists [72, 87, 80, 71, 1] _ (by simp [fixB_length]) W
  have g2 : ∀ W : World, (Op.stringOp .add A1 N2).run Tryd.prog W = .ok (.string A2) W := fun W => by rw [hA1, hN2, hA2]; exact add_lists _ _ (by simp [fixB_length]) W
  have g3 : ∀ W : World, (Op.stringOp .add A2 N3).run Tryd.prog W = .ok (.string A3) W := fun W => by rw [hA2, hN3, hA3]; exact add_lists _ _ (by simp [fixB_length]) W
  have g4 : ∀ W : World, (Op.stringOp .add A3 Z4).run Tryd.prog W = .ok (.string A4) W := fun W => by rw [hA3, hZ4, hA4]; exact add_lists _ _ (by simp [fixB_length]) W
  have g5 : ∀ W : World, (Op.stringOp .add A4 N5).run Tryd.prog W = .ok (.string A5) W := fun W => by rw [hA4, hN5, hA5]; exact add_lists _ _ (by simp [fixB_length]) W
  have g6 : ∀ W : World, (Op.stringOp .add A5 Z4).run Tryd.prog W = .ok (.string A6) W := fun W => by rw [hA5, hZ4, hA6']; exact add_lists _ _ (by simp [fixB_length]) W
  have HN1 : Hid (∀ W, Calls Tryd.prog 76 #[.int .u64 kd, .int .i64 1] W fun e w' => e = .returned (.string N1) ∧ Same W w') := fun W => by rw [hN1]; exact number_calls kd 1 (by omega) W
  have HN2 : Hid (∀ W, Calls Tryd.prog 76 #[.int .u64 b.size, .int .i64 2] W fun e w' => e = .returned (.string N2) ∧ Same W w') := fun W => by rw [hN2]; exact number_calls b.size 2 (by omega) W
  have HN3 : Hid (∀ W, Calls Tryd.prog 76 #[.int .u64 no, .int .i64 4] W fun e w' => e = .returned (.string N3) ∧ Same W w') := fun W => by rw [hN3]; exact number_calls no 4 (by omega) W
  have HN5 : Hid (∀ W, Calls Tryd.prog 76 #[.int .u64 vs, .int .i64 8] W fun e w' => e = .returned (.string N5) ∧ Same W w') := fun W => by rw [hN5]; exact number_calls vs 8 (by omega) W
  have HZ4 : Hid (∀ W, Calls Tryd.prog 77 #[.int .i64 4] W fun e w' => e = .returned (.string Z4) ∧ Same W w') := fun W => by rw [hZ4]; exact noughts_calls 4 (by omega) W
  have u1 : IntKind.u64.wrap (kd : Int) = (kd : Int) := by rw [IntKind.wrap_u64]; omega
  have u2 : IntKind.u64.wrap (b.size : Int) = (b.size : Int) := by rw [IntKind.wrap_u64]; omega
  have u3 : IntKind.u64.wrap (no : Int) = (no : Int) := by rw [IntKind.wrap_u64]; omega
  -- the body
  obtain ⟨z, hz⟩ : ∃ z : Nat, z = p.toNat - 32 - b.size := ⟨_, rfl⟩
  obtain ⟨Z, hZ⟩ : ∃ Z : ByteArray, Z = ⟨(List.replicate z 0).toArray⟩ := ⟨_, rfl⟩
  have HZ : Hid (∀ W, Calls Tryd.prog 77 #[.int .i64 z] W fun e w' => e = .returned (.string Z) ∧ Same W w') := fun W => by rw [hZ]; exact noughts_calls z (by omega) W
  obtain ⟨RP, hRP⟩ : ∃ RP, RP = restP p b := ⟨_, rfl⟩
  have hRs : RP.size = p.toNat - 32 := by rw [hRP]; exact restP_size hb
  have hAs : A6.size = 28 := by rw [hA6, ← bytes_length, headS, List.toList_toArray, headB_length]
  have hZs : Z.size = z := by rw [hZ, zz, List.length_replicate]
  have g7 : ∀ W : World, (Op.stringOp .add b Z).run Tryd.prog W = .ok (.string RP) W := add_run (by rw [hZ, hz, hRP, restP]; apply ByteArray.ext; simp) (by omega)
  have w1 : IntKind.i64.wrap (p - 32) = p - 32 := by rw [IntKind.wrap_i64]; omega
  have w2 : IntKind.i64.wrap (p - 32 - (b.size : Int)) = (z : Int) := by rw [IntKind.wrap_i64]; omega
  -- the sum
  obtain ⟨X, hX⟩ : ∃ X : ByteArray, X = A6 ++ RP := ⟨_, rfl⟩
  have g8 : ∀ W : World, (Op.stringOp .add A6 RP).run Tryd.prog W = .ok (.string X) W := add_run hX.symm (by omega)
  obtain ⟨C, hC⟩ : ∃ C : UInt32, C = crcP [headS kd no vs b.size, restP p b] := ⟨_, rfl⟩
  have hXs : X.size = 28 + (p.toNat - 32) := by rw [hX, ByteArray.size_append, hAs, hRs]
  have HCR : Hid (∀ W, Calls Tryd.prog 56 #[.string X] W fun e w' => e = .returned (.int .u32 C.toNat) ∧ w' = W) := fun W => by
    rw [hC, crc_both, ← hA6, ← hRP, ← hX]
    exact rcrc_calls W X (by omega)
  have hCl : C.toNat < 4294967296 := C.toBitVec.isLt
  have u4 : IntKind.u64.wrap (C.toNat : Int) = (C.toNat : Int) := by rw [IntKind.wrap_u64]; omega
  obtain ⟨N9, hN9⟩ : ∃ N : ByteArray, N = ⟨(fixB 4 C.toNat).toArray⟩ := ⟨_, rfl⟩
  have HN9 : Hid (∀ W, Calls Tryd.prog 76 #[.int .u64 C.toNat, .int .i64 4] W fun e w' => e = .returned (.string N9) ∧ Same W w') := fun W => by rw [hN9]; exact number_calls C.toNat 4 (by omega) W
  obtain ⟨Y, hY⟩ : ∃ Y : ByteArray, Y = A6 ++ N9 := ⟨_, rfl⟩
  have hN9s : N9.size = 4 := by rw [hN9, zz, fixB_length]
  have hYs : Y.size = 32 := by rw [hY, ByteArray.size_append, hAs, hN9s]
  have g9 : ∀ W : World, (Op.stringOp .add A6 N9).run Tryd.prog W = .ok (.string Y) W := add_run hY.symm (by omega)
  obtain ⟨F, hF⟩ : ∃ F : ByteArray, F = ⟨(formB p kd no vs b).toArray⟩ := ⟨_, rfl⟩
  have g10 : ∀ W : World, (Op.stringOp .add Y RP).run Tryd.prog W = .ok (.string F) W := add_run (by
    rw [hF, hY, hA6, hN9, hRP, headS, append_list]
    apply bytes_ext
    rw [formB, ← hC]
    simp) (by omega)
  rw [← hF]
  have hd : Same V V.drew := Fr.drew (Fr.refl _ V)
  clear hE hf k1 k2 n1 n2 v1 v2 hb hp hN1 hN2 hN3 hZ4 hN5 hA1 hA2 hA3 hA4 hA5 hA6 hA6' hz hZ hRP hRs hAs hZs hX hC hXs hCl hN9 hY hN9s hYs hF zz
  go_enter Tryd.func57, Tryd.ntmps57
  go_wp2_with fail
  rw [← hV]
  clear hV
  refine (HC.out _).mono ?_
  rintro e W0 ⟨rfl, s0⟩
  obtain ⟨c0, c1, c2, c3, c4, c5⟩ := HS.out W0 s0
  have d0 : Same V W0.drew := Fr.drew s0
  go_wp2_with fail
  go_region_held3 (fun w' => w'.cell? ⟨w.heap.size, 0, none⟩ = some (.int .i64 p) ∧ w'.cell? ⟨w.heap.size, 1, none⟩ = some (.int .i64 q) ∧ w'.cell? ⟨w.heap.size + 1, 0, none⟩ = some (.int .u8 kd) ∧ w'.cell? ⟨w.heap.size + 1, 1, none⟩ = some (.int .u32 no) ∧ w'.cell? ⟨w.heap.size + 1, 2, none⟩ = some (.int .u64 vs) ∧ w'.cell? ⟨w.heap.size + 1, 3, none⟩ = some (.string b)) (first | exact HS.out _ t6 | exact HS.out _ t5 | exact HS.out _ t4 | exact HS.out _ t3 | exact HS.out _ t2 | exact HS.out _ t1 | exact HS.out _ d0)
    (first | (have hh := t5; go_at_call 77; refine (HZ4.out _).mono ?_; rintro e W6 ⟨rfl, hs⟩; have t6 := t5.trans hs; clear hs) | (have hh := t4; go_at_call 76; refine (HN5.out _).mono ?_; rintro e W5 ⟨rfl, hs⟩; have t5 := t4.trans hs; clear hs) | (have hh := t3; go_at_call 77; refine (HZ4.out _).mono ?_; rintro e W4 ⟨rfl, hs⟩; have t4 := t3.trans hs; clear hs) | (have hh := t2; go_at_call 76; refine (HN3.out _).mono ?_; rintro e W3 ⟨rfl, hs⟩; have t3 := t2.trans hs; clear hs) | (have hh := t1; go_at_call 76; refine (HN2.out _).mono ?_; rintro e W2 ⟨rfl, hs⟩; have t2 := t1.trans hs; clear hs) | (go_at_call 76; refine (HN1.out _).mono ?_; rintro e W1 ⟨rfl, hs⟩; have t1 := d0.trans hs; clear hs))
  clear g1 g2 g3 g4 g5 g6 HN1 HN2 HN3 HN5 HZ4 u1 u2 u3 t1 t2 t3 t4 t5 c0 c1 c2 c3 c4 c5 d0
  obtain ⟨c0, c1, c2, c3, c4, c5⟩ := HS.out W6 t6
  have d6 : Same V W6.drew := Fr.drew t6
  go_wp2_with fail
  go_region_held3 (fun w' => w'.cell? ⟨w.heap.size, 0, none⟩ = some (.int .i64 p) ∧ w'.cell? ⟨w.heap.size, 1, none⟩ = some (.int .i64 q) ∧ w'.cell? ⟨w.heap.size + 1, 0, none⟩ = some (.int .u8 kd) ∧ w'.cell? ⟨w.heap.size + 1, 1, none⟩ = some (.int .u32 no) ∧ w'.cell? ⟨w.heap.size + 1, 2, none⟩ = some (.int .u64 vs) ∧ w'.cell? ⟨w.heap.size + 1, 3, none⟩ = some (.string b)) (first | exact HS.out _ t7 | exact HS.out _ d6)
    (first | (go_at_call 77; refine (HZ.out _).mono ?_; rintro e W7 ⟨rfl, hs⟩; have t7 := d6.trans hs; clear hs))
  clear g7 w1 w2 HZ c0 c1 c2 c3 c4 c5 d6
  go_wp2_with fail
  refine (HCR.out _).mono ?_
  rintro e W8 ⟨rfl, hW8⟩
  rw [hW8]
  clear hW8
  go_wp2_with fail
  refine (HN9.out _).mono ?_
  rintro e W9 ⟨rfl, s9⟩
  go_wp2_with fail
  go_ret2
  exact ⟨rfl, (sx.trans t7).trans s9⟩
end Go.Proofs.YtajpgopgohadeaaDoor
