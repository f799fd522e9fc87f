/- Write. -/
import Derived.Test.YtajpgopgohadeaaDoorG2
import Derived.Test.YtajpgopgohadeaaDoorGS
import Derived.Test.YtajpgopgohadeaaDoorSGC
namespace Go.Proofs.YtajpgopgohadeaaDoor
open Go.RowKit

theorem chk_zero {p q : Int} {kd no vs n : Nat} (h : chkE p q kd no vs n = 0) : frameP p q = true ∧ 1 ≤ kd ∧ kd ≤ 3 ∧ 2 ≤ no ∧ no < 2147483648 ∧ 1 ≤ vs ∧ vs ≤ 1099511627776 ∧ (n : Int) ≤ p - 32 := by
  unfold chkE at h
  by_cases hf : frameP p q = false
  · rw [if_pos hf] at h; exact absurd h (by decide)
  · rw [if_neg hf] at h
    by_cases h1 : kd < 1 ∨ 3 < kd
    · rw [if_pos h1] at h; exact absurd h (by decide)
    · rw [if_neg h1] at h
      by_cases h2 : no < 2 ∨ 2147483648 ≤ no ∨ vs < 1 ∨ 1099511627776 < vs
      · rw [if_pos h2] at h; exact absurd h (by decide)
      · rw [if_neg h2] at h
        by_cases h3 : p - 32 < (n : Int)
        · rw [if_pos h3] at h; exact absurd h (by decide)
        · exact ⟨by simpa using hf, by omega, by omega, by omega, by omega, by omega, by omega, by omega⟩

/-- The body of a page's form, and the noughts behind it. -/
def restP (p : Int) (b : ByteArray) : ByteArray := ⟨(b.data.toList ++ List.replicate (p.toNat - 32 - b.size) 0).toArray⟩
def headS (kd no vs n : Nat) : ByteArray := ⟨(headB kd no vs n).toArray⟩
/-- A page's form. -/
def formB (p : Int) (kd no vs : Nat) (b : ByteArray) : List UInt8 := headB kd no vs b.size ++ fixB 4 (crcP [headS kd no vs b.size, restP p b]).toNat ++ (restP p b).data.toList
theorem restP_size {p : Int} {b : ByteArray} (h : (b.size : Int) ≤ p - 32) : (restP p b).size = p.toNat - 32 := by
  have : (restP p b).data.toList.length = b.size + (p.toNat - 32 - b.size) := by rw [restP, List.toList_toArray, List.length_append, bytes_length, List.length_replicate]
  rw [bytes_length] at this
  omega
theorem formB_length {p : Int} {kd no vs : Nat} {b : ByteArray} (h : (b.size : Int) ≤ p - 32) (hp : 32 ≤ p) : (formB p kd no vs b).length = p.toNat := by
  have h1 := restP_size h
  rw [← bytes_length] at h1
  rw [formB, List.length_append, List.length_append, headB_length, fixB_length, h1]
  omega

set_option maxRecDepth 100000 in
set_option maxHeartbeats 2000000 in
theorem write_bad {p q : Int} {kd no vs : Nat} {b : ByteArray} {E : Int} (hE : chkE p q kd no vs b.size = E) (h0 : E ≠ 0) (w : World) :
    Calls Tryd.prog 11 #[frameV p q, pageV kd no vs b] w fun e w' => e = .returned (.tuple #[.string ⟨#[]⟩, .int .i64 E]) ∧ Same w w' := by
  have HC := check_calls p q kd no vs b
  rw [hE] at HC
  have sx : Same w ((w.alloc (.cells #[.int .i64 p, .int .i64 q] 23)).alloc (.cells #[.int .u8 kd, .int .u32 no, .int .u64 vs, .string b] 41)) := ((Fr.refl _ w).alloc _).alloc _
  clear hE
  go_enter Tryd.func11, Tryd.ntmps11
  go_wp2_with fail
  refine (HC _).mono ?_
  rintro e W1 ⟨rfl, s1⟩
  go_wp2_with fail
  go_ret2
  exact ⟨rfl, sx.trans s1⟩

set_option maxRecDepth 100000 in
set_option maxHeartbeats 2000000 in
theorem write_good {p q : Int} {kd no vs : Nat} {b : ByteArray} (hE : chkE p q kd no vs b.size = 0) (w : World) (ht : TabAt w) :
    Calls Tryd.prog 11 #[frameV p q, pageV kd no vs b] w fun e w' => e = .returned (.tuple #[.string ⟨(formB p kd no vs b).toArray⟩, .int .i64 0]) ∧ Same w w' := by
  obtain ⟨hf, k1, k2, n1, n2, v1, v2, hb⟩ := chk_zero hE
  have hp := frame_lo hf
  have HC := check_calls p q kd no vs b
  rw [hE] at HC
  obtain ⟨V, hV⟩ : ∃ V, V = ((w.alloc (.cells #[.int .i64 p, .int .i64 q] 23)).alloc (.cells #[.int .u8 kd, .int .u32 no, .int .u64 vs, .string b] 41)) := ⟨_, rfl⟩
  have sx : Same w V := by rw [hV]; exact ((Fr.refl _ w).alloc _).alloc _
  have c0 : V.cell? ⟨w.heap.size, 0, none⟩ = some (.int .i64 p) := by rw [hV]; simp
  have c1 : V.cell? ⟨w.heap.size, 1, none⟩ = some (.int .i64 q) := by rw [hV]; simp
  have d0 : V.cell? ⟨w.heap.size + 1, 0, none⟩ = some (.int .u8 kd) := by rw [hV]; simp
  have d1 : V.cell? ⟨w.heap.size + 1, 1, none⟩ = some (.int .u32 no) := by rw [hV]; simp
  have d2 : V.cell? ⟨w.heap.size + 1, 2, none⟩ = some (.int .u64 vs) := by rw [hV]; simp
  have d3 : V.cell? ⟨w.heap.size + 1, 3, none⟩ = some (.string b) := by rw [hV]; simp
  have HH : Hid (∀ W, Calls Tryd.prog 22 #[pageV kd no vs b] W fun e w' => e = .returned (.string (headS kd no vs b.size)) ∧ Same W w') := fun W => head_calls kd no vs b (by omega) (by omega) (by omega) (by omega) W
  have HR := room_calls (q := q) hp
  obtain ⟨z, hz⟩ : ∃ z : Nat, z = p.toNat - 32 - b.size := ⟨_, rfl⟩
  have hzi : p - 32 - (b.size : Int) = (z : Int) := by omega
  have hzl : z ≤ 8160 := by omega
  obtain ⟨Z, hZ⟩ : ∃ Z : ByteArray, Z = ⟨(List.replicate z 0).toArray⟩ := ⟨_, rfl⟩
  have HP : Hid (∀ W, Calls Tryd.prog 23 #[.string ⟨#[0]⟩, .int .i64 z] W fun e w' => e = .returned (.string Z) ∧ Same W w') := fun W => by rw [hZ]; exact repeat0_calls z W (by omega)
  have hrest : b ++ Z = restP p b := by
    rw [hZ, hz, restP]
    apply ByteArray.ext
    simp
  have hRs := restP_size hb
  obtain ⟨RP, hRP⟩ : ∃ RP, RP = restP p b := ⟨_, rfl⟩
  obtain ⟨AH, hAH⟩ : ∃ AH, AH = headS kd no vs b.size := ⟨_, rfl⟩
  have hAs : AH.size = 28 := by rw [hAH, ← bytes_length, headS, List.toList_toArray, headB_length]
  obtain ⟨C, hC⟩ : ∃ C : UInt32, C = crcP [headS kd no vs b.size, restP p b] := ⟨_, rfl⟩
  have HF : Hid (formB p kd no vs b = [] ++ AH.data.toList ++ fixB 4 C.toNat ++ RP.data.toList) := by
    show _ = _
    rw [formB, hAH, hRP, hC, headS]; simp
  rw [← hRP] at hrest hRs hC
  rw [← hAH] at HH hC
  have HCR : Hid (∀ (W : World) (ab : Nat), TabAt W → W.cell? ⟨ab, 0, none⟩ = some (.string AH) → W.cell? ⟨ab, 1, none⟩ = some (.string RP) → Calls Tryd.prog 28 #[.slice (some ⟨ab, 0, none⟩) 2 2] W fun e w' => e = .returned (.int .u32 C.toNat) ∧ w' = W) := by
    intro W ab hT h1 h2
    rw [hC]
    exact crc_calls W hT [AH, RP] (some ⟨ab, 0, none⟩) ab 0 2 (fun _ => rfl) (by
      intro i x hx
      match i, hx with
      | 0, hx => simp at hx; subst hx; simpa using h1
      | 1, hx => simp at hx; subst hx; simpa using h2
      | i + 2, hx => simp at hx) (by intro s hs; simp at hs; rcases hs with rfl | rfl <;> omega) (by simp)
  have hCl : C.toNat < 256 ^ 4 := C.toBitVec.isLt
  have L1 : Hid (∀ (V W : World) (bb : Nat), WSt V W bb [] → Calls Tryd.prog 26 #[.pointer (some ⟨bb, 0, none⟩), .slice (some ⟨W.heap.size, 0, none⟩) 1 1] (W.alloc (.cells #[.string AH] 9)) fun e w' => e = .returned (.tuple #[]) ∧ WSt V w' bb ([] ++ AH.data.toList)) := fun V W bb h => wst_raw AH h (by simp; omega)
  have L2 : Hid (∀ (V W : World) (bb : Nat), WSt V W bb ([] ++ AH.data.toList) → Calls Tryd.prog 27 #[.pointer (some ⟨bb, 0, none⟩), .int .u32 C.toNat] W fun e w' => e = .returned (.tuple #[]) ∧ WSt V w' bb ([] ++ AH.data.toList ++ fixB 4 C.toNat)) := fun V W bb h => wst_u32 C.toNat hCl h (by simp; omega)
  have L3 : Hid (∀ (V W : World) (bb : Nat), WSt V W bb ([] ++ AH.data.toList ++ fixB 4 C.toNat) → Calls Tryd.prog 26 #[.pointer (some ⟨bb, 0, none⟩), .slice (some ⟨W.heap.size, 0, none⟩) 1 1] (W.alloc (.cells #[.string RP] 9)) fun e w' => e = .returned (.tuple #[]) ∧ WSt V w' bb (formB p kd no vs b)) := fun V W bb h => by
    rw [HF.out]; exact wst_raw RP h (by simp [fixB_length]; omega)
  have hzw : IntKind.i64.wrap (p - 32 - (b.size : Int)) = (z : Int) := by rw [IntKind.wrap_i64]; omega
  have hZs : Z.size = z := by rw [hZ, ← bytes_length, List.toList_toArray, List.length_replicate]
  have hcat : (b.size : Int) + (Z.size : Int) ≤ 9223372036854775807 := by omega
  have hmx : IntKind.i64.max = 9223372036854775807 := by decide
  have hcat2 : ¬ (((b.size + Z.size : Nat) : Int) > IntKind.i64.max) := by omega
  have hadd : ∀ W : World, (Op.stringOp .add b Z).run Tryd.prog W = .ok (.string RP) W := by
    intro W; simp only [Op.stringOp, if_neg hcat2, hrest]; rfl
  have HT : Hid (TabAt w) := ht
  clear hC hRP hAH hZ hz hzi hf k1 k2 n1 n2 v1 v2 hb hp hCl hRs hAs hzl ht hZs
  go_enter Tryd.func11, Tryd.ntmps11
  go_wp2_with fail
  rw [← hV]
  clear hV hE
  refine (HC _).mono ?_
  rintro e W1 ⟨rfl, s1⟩
  have b0 := s1.keep c0
  have b1 := s1.keep c1
  have e0 := s1.keep d0
  have e1 := s1.keep d1
  have e2 := s1.keep d2
  have e3 := s1.keep d3
  have t1 := sx.trans s1
  clear c0 c1 d0 d1 d2 d3 s1 sx
  go_wp2_with fail
  refine (HH.out _).mono ?_
  rintro e W2 ⟨rfl, s2⟩
  have b0 := s2.keep b0
  have b1 := s2.keep b1
  have e3 := s2.keep e3
  have t2 := t1.trans s2
  clear e0 e1 e2 s2 t1
  go_wp2_with fail
  go_region_held3 (fun w' => w'.cell? ⟨w.heap.size + 1, 3, none⟩ = some (.string b) ∧ w'.cell? ⟨w.heap.size, 0, none⟩ = some (.int .i64 p) ∧ w'.cell? ⟨w.heap.size, 1, none⟩ = some (.int .i64 q)) (first | go_keep | exact ⟨j0, j1, j2⟩ | exact ⟨i0, i1, i2⟩)
    (first | (go_at_call 24; refine (HR _).mono ?_; rintro e W3 ⟨rfl, s3⟩; have i0 := Same.keep (w := W2.drew) s3 (a := ⟨w.heap.size + 1, 3, none⟩) e3; have i1 := Same.keep (w := W2.drew) s3 (a := ⟨w.heap.size, 0, none⟩) b0; have i2 := Same.keep (w := W2.drew) s3 (a := ⟨w.heap.size, 1, none⟩) b1; have t3 := Same.trans (Fr.drew t2) s3) | (go_at_call 23; refine (HP.out _).mono ?_; rintro e W4 ⟨rfl, s4⟩; have j0 := s4.keep i0; have j1 := s4.keep i1; have j2 := s4.keep i2; have t4 := t3.trans s4))
  clear hadd hcat hcat2 hmx hrest HP HR HC HH e3 b0 b1 i0 i1 i2 j0 j1 j2 s3 s4 t2 t3
  go_wp2_with fail
  refine (new_calls W4).mono ?_
  rintro e W5 ⟨rfl, hW5⟩
  have K5 : WSt W4 W5 W4.heap.size [] := by rw [hW5]; exact wst_new W4
  clear hW5
  obtain ⟨wb, hwb⟩ : ∃ wb, wb = W4.heap.size := ⟨_, rfl⟩
  rw [← hwb] at K5 ⊢
  clear hwb
  go_wp2_with fail
  refine (L1.out W4 W5 wb K5).mono ?_
  rintro e W6 ⟨rfl, K6⟩
  have K7 : WSt W4 (W6.alloc (.cells #[.string AH, .string RP] 9)) wb ([] ++ AH.data.toList) := K6.same ((Fr.refl _ W6).alloc _)
  have T7 : TabAt (W6.alloc (.cells #[.string AH, .string RP] 9)) := HT.out.same (t4.trans K7.base)
  have HC7 := HCR.out (W6.alloc (.cells #[.string AH, .string RP] 9)) W6.heap.size T7 (by simp) (by simp)
  have HK7 : Hid (WSt W4 (W6.alloc (.cells #[.string AH, .string RP] 9)) wb ([] ++ AH.data.toList)) := K7
  clear K5 K6 K7 T7
  go_wp2_with fail
  refine HC7.mono ?_
  rintro e W8 ⟨rfl, hW8⟩
  rw [hW8]
  clear hW8 HC7
  go_wp2_with fail
  refine (L2.out W4 _ wb HK7.out).mono ?_
  rintro e W9 ⟨rfl, K9⟩
  go_wp2_with fail
  refine (L3.out W4 _ wb K9).mono ?_
  rintro e W10 ⟨rfl, K10⟩
  clear K9
  go_wp2_with fail
  refine (wst_string K10).mono ?_
  rintro e W11 ⟨rfl, rfl⟩
  go_wp2_with fail
  go_ret2
  exact ⟨rfl, t4.trans K10.base⟩
end Go.Proofs.YtajpgopgohadeaaDoor
