/- form, Encode. -/
import Derived.Test.YtaknpcimdpdekaaDoorM4
namespace Go.Proofs.YtaknpcimdpdekaaDoor
open Go.RowKit

set_option maxRecDepth 100000 in
set_option maxHeartbeats 2000000 in
theorem form_calls {p q : Int} (hf : frameP p q = true) (m : Rec) (hm : RecOk m) (w : World) (ht : TabAt w) (hz : TzAt w) :
    Calls Tryd.prog 24 #[frameV p q, metaV m] w fun e w' => e = .returned (.string (formS p q m)) ∧ Same w w' := by
  obtain ⟨hp4, hq1, hq2⟩ := frameP_cases hf
  obtain ⟨V, hV⟩ : ∃ V, V = ((w.alloc (.cells #[.int .i64 p, .int .i64 q] 23)).alloc (.cells m.arr 34)) := ⟨_, rfl⟩
  have sx : Same w V := by rw [hV]; exact ((Fr.refl _ w).alloc _).alloc _
  have c0 : V.cell? ⟨w.heap.size, 0, none⟩ = some (.int .i64 p) := by rw [hV]; simp
  have c1 : V.cell? ⟨w.heap.size, 1, none⟩ = some (.int .i64 q) := by rw [hV]; simp
  have hA : MAt V (w.heap.size + 1) m := by rw [hV]; exact heap_alloc2_new w _ _
  obtain ⟨d0, d1, d34, d35, d36, d37⟩ := hA.cells hm.d
  have hSum : Hid (∀ W, Same V W → W.rangeAt (w.heap.size + 1) 2 (bcells m.d)) := fun W h => (hA.same h).sum
  have hDl : (Tryd.prog.info? 30).map (·.size) = some (bcells m.d).length := by rw [Tryd.ainfoD, bcells_length, hm.d]
  have hlg : logP p < 256 := by rcases hp4 with rfl | rfl | rfl | rfl <;> decide
  have hwp : IntKind.u64.wrap p = p := by rw [IntKind.wrap_u64]; omega
  have hwl : IntKind.u8.wrap (logP p : Int) = (logP p : Int) := by rw [IntKind.wrap_u8]; omega
  obtain ⟨wd, hwd⟩ : ∃ wd : Nat, wd = q.toNat := ⟨_, rfl⟩
  have hwq : IntKind.u8.wrap q = (wd : Int) := by rw [IntKind.wrap_u8]; omega
  have hwd2 : wd < 256 := by omega
  have HZ : Hid (∀ W, Same w W → Calls Tryd.prog 46 #[.int .u64 p] W fun e w' => e = .returned (.int .i64 (logP p)) ∧ W = w') := fun W h => tz_calls hp4 W (hz.same h)
  obtain ⟨lg, hl⟩ : ∃ lg, lg = logP p := ⟨_, rfl⟩
  rw [← hl] at HZ hwl hlg
  obtain ⟨RB, hRB⟩ : ∃ RB : ByteArray, RB = ⟨(recB lg wd m).toArray⟩ := ⟨_, rfl⟩
  obtain ⟨C, hC⟩ : ∃ C : UInt32, C = crcP [RB] := ⟨_, rfl⟩
  have hRBl : RB.data.toList = recB lg wd m := by rw [hRB, List.toList_toArray]
  have hRBs : RB.size = 76 := by rw [← bytes_length, hRBl, recB_length _ _ m hm.d]
  have HD : Hid (RB.data.toList = [] ++ ([104, 119, 109, 49] : List UInt8) ++ fixB 1 lg ++ fixB 1 wd ++ fixB 2 ((0 : Nat) : Int) ++ fixB 8 m.v ++ fixB 8 m.c ++ fixB 8 m.rv ++ fixB 4 m.rp ++ fixB 4 m.li ++ fixB 4 m.pg ++ m.d) := by
    show _ = _; rw [hRBl]; simp [recB]
  have HF : Hid (formS p q m = ⟨(RB.data.toList ++ fixB 4 C.toNat).toArray⟩) := by
    show _ = _
    rw [formS, formM, hRBl, hC, hRB, hwd, hl]
  have HCR : Hid (∀ (W : World) (ab : Nat), TabAt W → W.cell? ⟨ab, 0, none⟩ = some (.string RB) → Calls Tryd.prog 51 #[.slice (some ⟨ab, 0, none⟩) 1 1] W fun e w' => e = .returned (.int .u32 C.toNat) ∧ w' = W) := by
    intro W ab hT h1
    rw [hC]
    exact crc_calls W hT [RB] (some ⟨ab, 0, none⟩) ab 0 1 (fun _ => rfl) (by
      intro i x hx
      match i, hx with
      | 0, hx => simp at hx; subst hx; simpa using h1
      | i + 1, hx => simp at hx) (by intro s hs; simp at hs; subst hs; omega) (by simp)
  have hCl : C.toNat < 256 ^ 4 := C.toBitVec.isLt
  have L1 : Hid (∀ (W : World) (bb : Nat), WSt V W bb [] → Calls Tryd.prog 44 #[.pointer (some ⟨bb, 0, none⟩), .slice (some ⟨W.heap.size, 0, none⟩) 1 1] (W.alloc (.cells #[.string ⟨#[104, 119, 109, 49]⟩] 9)) fun e w' => e = .returned (.tuple #[]) ∧ WSt V w' bb ([] ++ [104, 119, 109, 49])) := fun W bb h => wst_raw ⟨#[104, 119, 109, 49]⟩ h (by decide)
  have B1 := fun (x : Nat) (hx : x < 256 ^ 1) (W : World) (bb : Nat) (bs : List UInt8) (h : WSt V W bb bs) (hl : bs.length ≤ 100) => wst_u8 x hx h (by omega)
  have B2 := fun (x : Nat) (hx : x < 256 ^ 2) (W : World) (bb : Nat) (bs : List UInt8) (h : WSt V W bb bs) (hl : bs.length ≤ 100) => wst_u16 x hx h (by omega)
  have B4 := fun (x : Nat) (hx : x < 256 ^ 4) (W : World) (bb : Nat) (bs : List UInt8) (h : WSt V W bb bs) (hl : bs.length ≤ 100) => wst_u32 x hx h (by omega)
  have B8 := fun (x : Nat) (hx : x < 256 ^ 8) (W : World) (bb : Nat) (bs : List UInt8) (h : WSt V W bb bs) (hl : bs.length ≤ 100) => wst_u64 x hx h (by omega)
  have L2 := B1 lg hlg
  have L3 := B1 wd hwd2
  have L4 := B2 0 (by decide)
  have L5 := B8 m.v hm.v
  have L6 := B8 m.c hm.c
  have L7 := B8 m.rv hm.rv
  have L8 := B4 m.rp hm.rp
  have L9 := B4 m.li hm.li
  have L10 := B4 m.pg hm.pg
  have L11 : Hid (∀ (W : World) (bb : Nat) (bs : List UInt8), WSt V W bb bs → bs.length ≤ 100 → Calls Tryd.prog 50 #[.pointer (some ⟨bb, 0, none⟩), .int .i64 32, .agg (bcells m.d).toArray] W fun e w' => e = .returned (.tuple #[]) ∧ WSt V w' bb (bs ++ m.d)) := fun W bb bs h hl => wst_digest m.d hm.d h (by omega)
  have L12 := B4 C.toNat hCl
  have HT : Hid (TabAt w) := ht
  have hml := hm.d
  clear B1 B2 B4 B8 hm hlg hwd2 hCl hC hRB hRBl hwd hl hq1 hq2 hp4 ht hz hA
  go_enter Tryd.func24, Tryd.ntmps24
  go_wp2_with fail
  rw [← hV]
  clear hV
  refine (new_calls V).mono ?_
  rintro e W0 ⟨rfl, hW0⟩
  have K0 : WSt V W0 V.heap.size [] := by rw [hW0]; exact wst_new V
  clear hW0
  obtain ⟨wb, hwb⟩ : ∃ wb, wb = V.heap.size := ⟨_, rfl⟩
  rw [← hwb] at K0 ⊢
  clear hwb
  go_wp2_with fail
  refine (L1.out W0 wb K0).mono ?_
  rintro e W1 ⟨rfl, K1⟩
  have e1 := K1.base.keep c0
  have t1 := sx.trans K1.base
  go_wp2_with fail
  refine (HZ.out _ t1).mono ?_
  rintro e W1' ⟨rfl, rfl⟩
  go_wp2_with fail
  refine (L2 W1 wb _ K1 (by decide)).mono ?_
  rintro e W2 ⟨rfl, K2⟩
  have c2 := K2.base.keep c1
  go_wp2_with fail
  refine (L3 W2 wb _ K2 (by simp [fixB_length])).mono ?_
  rintro e W3 ⟨rfl, K3⟩
  go_wp2_with fail
  refine (L4 W3 wb _ K3 (by simp [fixB_length])).mono ?_
  rintro e W4 ⟨rfl, K4⟩
  have c4 := K4.base.keep d0
  go_wp2_with fail
  refine (L5 W4 wb _ K4 (by simp [fixB_length])).mono ?_
  rintro e W5 ⟨rfl, K5⟩
  have c5 := K5.base.keep d34
  go_wp2_with fail
  refine (L6 W5 wb _ K5 (by simp [fixB_length])).mono ?_
  rintro e W6 ⟨rfl, K6⟩
  have c6 := K6.base.keep d35
  go_wp2_with fail
  refine (L7 W6 wb _ K6 (by simp [fixB_length])).mono ?_
  rintro e W7 ⟨rfl, K7⟩
  have c7 := K7.base.keep d1
  go_wp2_with fail
  refine (L8 W7 wb _ K7 (by simp [fixB_length])).mono ?_
  rintro e W8 ⟨rfl, K8⟩
  have c8 := K8.base.keep d36
  go_wp2_with fail
  refine (L9 W8 wb _ K8 (by simp [fixB_length])).mono ?_
  rintro e W9 ⟨rfl, K9⟩
  have c9 := K9.base.keep d37
  go_wp2_with fail
  refine (L10 W9 wb _ K9 (by simp [fixB_length])).mono ?_
  rintro e W10 ⟨rfl, K10⟩
  have cS := hSum.out W10 K10.base
  go_wp2_with (first | (refine wpList_load_mid (by rfl) 30 _ (by rfl) (w.heap.size + 1) 2 (by rfl) (bcells m.d) _ cS Tryd.underlying30 rfl hDl ?_))
  refine (L11.out W10 wb _ K10 (by simp [fixB_length])).mono ?_
  rintro e W11 ⟨rfl, K11'⟩
  have K11 : WSt V W11 wb RB.data.toList := by rw [HD.out]; exact K11'
  clear K11' K1 K2 K3 K4 K5 K6 K7 K8 K9 K10 HD cS
  go_wp2_with fail
  refine (wst_string K11).mono ?_
  rintro e W12 ⟨rfl, rfl⟩
  have eRB : (⟨RB.data.toList.toArray⟩ : ByteArray) = RB := by rw [Array.toArray_toList]
  rw [eRB]
  have K12 : WSt V (W11.alloc (.cells #[.string RB] 9)) wb RB.data.toList := K11.same ((Fr.refl _ W11).alloc _)
  have T12 : TabAt (W11.alloc (.cells #[.string RB] 9)) := HT.out.same (sx.trans K12.base)
  have HC12 := HCR.out (W11.alloc (.cells #[.string RB] 9)) W11.heap.size T12 (by simp)
  have HK12 : Hid (WSt V (W11.alloc (.cells #[.string RB] 9)) wb RB.data.toList) := K12
  clear K11 K12 T12
  go_wp2_with fail
  refine HC12.mono ?_
  rintro e W13 ⟨rfl, hW13⟩
  rw [hW13]
  clear hW13 HC12
  have hl76 : RB.data.toList.length ≤ 100 := by rw [bytes_length]; omega
  go_wp2_with fail
  refine (L12 _ wb _ HK12.out hl76).mono ?_
  rintro e W14 ⟨rfl, K14⟩
  go_wp2_with fail
  refine (wst_string K14).mono ?_
  rintro e W15 ⟨rfl, rfl⟩
  rw [← HF.out]
  go_wp2_with fail
  go_ret
  exact ⟨rfl, sx.trans K14.base⟩
end Go.Proofs.YtaknpcimdpdekaaDoor
