/- The document's Bytes. -/
import Derived.Test.YtjfkkjangebblaaDoorMRA
import Derived.Test.YtjfkkjangebblaaDoorM3
import Derived.Deep.RegionHeld3
namespace Go.Proofs.YtjfkkjangebblaaDoor
open Go.RowKit

theorem add_run {P : Program} {a b c : ByteArray} (h : a ++ b = c) (hs : a.size + b.size ≤ 1099511627776) (W : World) : (Op.stringOp .add a b).run P W = .ok (.string c) W := by
  have hm : IntKind.i64.max = 9223372036854775807 := by decide
  have hc : ¬ (((a.size + b.size : Nat) : Int) > IntKind.i64.max) := by omega
  simp only [Op.stringOp, if_neg hc, h]; rfl
theorem size_list (l : List UInt8) : (ByteArray.mk l.toArray).size = l.length := by
  rw [← bytes_length, List.toList_toArray]
theorem append_list (a b : List UInt8) : (ByteArray.mk a.toArray) ++ (ByteArray.mk b.toArray) = ⟨(a ++ b).toArray⟩ := by
  apply ByteArray.ext; simp
theorem add_lists {P : Program} (a b : List UInt8) (h : a.length + b.length ≤ 1099511627776) (W : World) : (Op.stringOp .add ⟨a.toArray⟩ ⟨b.toArray⟩).run P W = .ok (.string ⟨(a ++ b).toArray⟩) W :=
  add_run (append_list a b) (by rw [size_list, size_list]; exact h) W
/-- A text of one byte out of a slice that was just built. -/
theorem conv_one (w : World) (x : UInt8) : (convert 80 9 (.slice (some ⟨w.heap.size, 0, none⟩) 1 1)).run Tryd.prog (w.alloc (.cells #[.int .u8 x.toNat] 5)) = .ok (.string ⟨#[x]⟩) (w.alloc (.cells #[.int .u8 x.toNat] 5)) :=
  owns_string (P := Tryd.prog) (bs := [x]) (by
    show World.ownsRow _ _ _ _ _ _ _
    exact World.ownsRow_lit w #[.int .u8 x.toNat] 1 (Nat.zero_le _) (by decide) rfl) 80 9 Tryd.underlying80 Tryd.underlying5 Tryd.underlying9

set_option maxRecDepth 100000 in
set_option maxHeartbeats 4000000 in
theorem bytes_core {p : Int} {q lg : Nat} {A : Array Value} {v c rv rp li pg : Nat} {D : List UInt8} {M1 G1 G2 Z2 B1 B2 B3 N1 N2 N3 N4 N5 N6 C1 C2 C3 C4 C5 E0 R4 OUT : ByteArray} {CR : Nat} (w : World) (hD : D.length = 32) (hcr : CR < 4294967296)
    (hq : q < 256) (hlg : lg < 256) (hrp : rp < 4294967296) (hli : li < 4294967296) (hpg : pg < 4294967296)
    (HS : Hid (∀ W, Same ((w.alloc (.cells #[.int .i64 p, .int .i64 q] 23)).alloc (.cells A 34)) W → W.cell? ⟨w.heap.size, 0, none⟩ = some (.int .i64 p) ∧ W.cell? ⟨w.heap.size, 1, none⟩ = some (.int .i64 q) ∧ W.cell? ⟨w.heap.size + 1, 0, none⟩ = some (.int .u64 v) ∧ W.cell? ⟨w.heap.size + 1, 34, none⟩ = some (.int .u64 c) ∧ W.cell? ⟨w.heap.size + 1, 35, none⟩ = some (.int .u64 rv) ∧ W.cell? ⟨w.heap.size + 1, 1, none⟩ = some (.int .u32 rp) ∧ W.cell? ⟨w.heap.size + 1, 36, none⟩ = some (.int .u32 li) ∧ W.cell? ⟨w.heap.size + 1, 37, none⟩ = some (.int .u32 pg)))
    (HD : Hid (∀ W, Same ((w.alloc (.cells #[.int .i64 p, .int .i64 q] 23)).alloc (.cells A 34)) W → W.rangeAt (w.heap.size + 1) 2 (bcells D)))
    (HNM : Hid (∀ W, Calls Tryd.prog 40 #[.int .u64 1752657201, .int .i64 4] W fun e w' => e = .returned (.string M1) ∧ Same W w'))
    (HLG : Hid (∀ W, Calls Tryd.prog 41 #[.int .i64 p] W fun e w' => e = .returned (.int .i64 lg) ∧ w' = W))
    (HN1 : Hid (∀ W, Calls Tryd.prog 40 #[.int .u64 lg, .int .i64 1] W fun e w' => e = .returned (.string G1) ∧ Same W w'))
    (HN2 : Hid (∀ W, Calls Tryd.prog 40 #[.int .u64 q, .int .i64 1] W fun e w' => e = .returned (.string G2) ∧ Same W w'))
    (HZ2 : Hid (∀ W, Calls Tryd.prog 23 #[.int .i64 2] W fun e w' => e = .returned (.string Z2) ∧ Same W w'))
    (b1 : ∀ W : World, (Op.stringOp .add M1 G1).run Tryd.prog W = .ok (.string B1) W) (b2 : ∀ W : World, (Op.stringOp .add B1 G2).run Tryd.prog W = .ok (.string B2) W) (b3 : ∀ W : World, (Op.stringOp .add B2 Z2).run Tryd.prog W = .ok (.string B3) W)
    (HV : Hid (∀ W, Calls Tryd.prog 40 #[.int .u64 v, .int .i64 8] W fun e w' => e = .returned (.string N1) ∧ Same W w'))
    (HC : Hid (∀ W, Calls Tryd.prog 40 #[.int .u64 c, .int .i64 8] W fun e w' => e = .returned (.string N2) ∧ Same W w'))
    (HRV : Hid (∀ W, Calls Tryd.prog 40 #[.int .u64 rv, .int .i64 8] W fun e w' => e = .returned (.string N3) ∧ Same W w'))
    (HRP : Hid (∀ W, Calls Tryd.prog 40 #[.int .u64 rp, .int .i64 4] W fun e w' => e = .returned (.string N4) ∧ Same W w'))
    (HLI : Hid (∀ W, Calls Tryd.prog 40 #[.int .u64 li, .int .i64 4] W fun e w' => e = .returned (.string N5) ∧ Same W w'))
    (HPG : Hid (∀ W, Calls Tryd.prog 40 #[.int .u64 pg, .int .i64 4] W fun e w' => e = .returned (.string N6) ∧ Same W w'))
    (c1 : ∀ W : World, (Op.stringOp .add N1 N2).run Tryd.prog W = .ok (.string C1) W) (c2 : ∀ W : World, (Op.stringOp .add C1 N3).run Tryd.prog W = .ok (.string C2) W) (c3 : ∀ W : World, (Op.stringOp .add C2 N4).run Tryd.prog W = .ok (.string C3) W) (c4 : ∀ W : World, (Op.stringOp .add C3 N5).run Tryd.prog W = .ok (.string C4) W) (c5 : ∀ W : World, (Op.stringOp .add C4 N6).run Tryd.prog W = .ok (.string C5) W) (c6 : ∀ W : World, (Op.stringOp .add B3 C5).run Tryd.prog W = .ok (.string E0) W) (hE0 : E0.size = 44)
    (HCR : Hid (∀ W, Calls Tryd.prog 42 #[.string (E0 ++ ⟨D.toArray⟩)] W fun e w' => e = .returned (.int .u32 CR) ∧ w' = W))
    (HN9 : Hid (∀ W, Calls Tryd.prog 40 #[.int .u64 CR, .int .i64 4] W fun e w' => e = .returned (.string R4) ∧ Same W w'))
    (HOUT : Hid (∀ W : World, (Op.stringOp .add (E0 ++ ⟨D.toArray⟩) R4).run Tryd.prog W = .ok (.string OUT) W)) :
    Calls Tryd.prog 22 #[frameV p q, .agg A] w fun e w' => e = .returned (.string OUT) ∧ Same w w' := by
  obtain ⟨V, hV⟩ : ∃ V, V = ((w.alloc (.cells #[.int .i64 p, .int .i64 q] 23)).alloc (.cells A 34)) := ⟨_, rfl⟩
  rw [← hV] at HS HD
  have sx : Same w V := by rw [hV]; exact ((Fr.refl _ w).alloc _).alloc _
  have u1 : IntKind.u64.wrap (lg : Int) = (lg : Int) := by rw [IntKind.wrap_u64]; omega
  have u2 : IntKind.u64.wrap (q : Int) = (q : Int) := by rw [IntKind.wrap_u64]; omega
  have u3 : IntKind.u64.wrap (rp : Int) = (rp : Int) := by rw [IntKind.wrap_u64]; omega
  have u4 : IntKind.u64.wrap (li : Int) = (li : Int) := by rw [IntKind.wrap_u64]; omega
  have u5 : IntKind.u64.wrap (pg : Int) = (pg : Int) := by rw [IntKind.wrap_u64]; omega
  have u6 : IntKind.u64.wrap (CR : Int) = (CR : Int) := by rw [IntKind.wrap_u64]; omega
  obtain ⟨k0, k1, k2, k3, k4, k5, k6, k7⟩ := HS.out V (Fr.refl _ V)
  have d0 : Same V V.drew := Fr.drew (Fr.refl _ V)
  have HDl : Hid (D.length = 32) := hD
  have HE0 : Hid (E0.size = 44) := hE0
  clear hcr hq hlg hrp hli hpg hD hE0
  go_enter Tryd.func22, Tryd.ntmps22
  go_wp2_with fail
  rw [← hV]
  clear hV
  go_region_held3 (fun w' => w'.cell? ⟨w.heap.size, 0, none⟩ = some (.int .i64 p) ∧ w'.cell? ⟨w.heap.size, 1, none⟩ = some (.int .i64 q) ∧ w'.cell? ⟨w.heap.size + 1, 0, none⟩ = some (.int .u64 v) ∧ w'.cell? ⟨w.heap.size + 1, 34, none⟩ = some (.int .u64 c) ∧ w'.cell? ⟨w.heap.size + 1, 35, none⟩ = some (.int .u64 rv) ∧ w'.cell? ⟨w.heap.size + 1, 1, none⟩ = some (.int .u32 rp) ∧ w'.cell? ⟨w.heap.size + 1, 36, none⟩ = some (.int .u32 li) ∧ w'.cell? ⟨w.heap.size + 1, 37, none⟩ = some (.int .u32 pg)) (first | exact HS.out _ t4 | exact HS.out _ t3 | exact HS.out _ t2 | exact HS.out _ t1 | exact HS.out _ d0)
    (first | (have hh := t3; go_at_call 23; refine (HZ2.out _).mono ?_; rintro e W4 ⟨rfl, hs⟩; have t4 := t3.trans hs; clear hs) | (have hh := t2; go_at_call 40; refine (HN2.out _).mono ?_; rintro e W3 ⟨rfl, hs⟩; have t3 := t2.trans hs; clear hs) | (have hh := t1; go_at_call 40; refine (HN1.out _).mono ?_; rintro e W2 ⟨rfl, hs⟩; have t2 := t1.trans hs; clear hs) | (go_at_call 41; refine (HLG.out _).mono ?_; rintro e W5 ⟨rfl, rfl⟩) | (go_at_call 40; refine (HNM.out _).mono ?_; rintro e W1 ⟨rfl, hs⟩; have t1 := d0.trans hs; clear hs))
  clear b1 b2 b3 HNM HLG HN1 HN2 HZ2 t1 t2 t3 k0 k1 k2 k3 k4 k5 k6 k7 d0 u1 u2
  obtain ⟨k0, k1, k2, k3, k4, k5, k6, k7⟩ := HS.out W4 t4
  have d4 : Same V W4.drew := Fr.drew t4
  go_wp2_with fail
  go_region_held3 (fun w' => w'.cell? ⟨w.heap.size, 0, none⟩ = some (.int .i64 p) ∧ w'.cell? ⟨w.heap.size, 1, none⟩ = some (.int .i64 q) ∧ w'.cell? ⟨w.heap.size + 1, 0, none⟩ = some (.int .u64 v) ∧ w'.cell? ⟨w.heap.size + 1, 34, none⟩ = some (.int .u64 c) ∧ w'.cell? ⟨w.heap.size + 1, 35, none⟩ = some (.int .u64 rv) ∧ w'.cell? ⟨w.heap.size + 1, 1, none⟩ = some (.int .u32 rp) ∧ w'.cell? ⟨w.heap.size + 1, 36, none⟩ = some (.int .u32 li) ∧ w'.cell? ⟨w.heap.size + 1, 37, none⟩ = some (.int .u32 pg)) (first | exact HS.out _ t10 | exact HS.out _ t9 | exact HS.out _ t8 | exact HS.out _ t7 | exact HS.out _ t6 | exact HS.out _ t5 | exact HS.out _ d4)
    (first | (have hh := t9; go_at_call 40; refine (HPG.out _).mono ?_; rintro e W10 ⟨rfl, hs⟩; have t10 := t9.trans hs; clear hs) | (have hh := t8; go_at_call 40; refine (HLI.out _).mono ?_; rintro e W9 ⟨rfl, hs⟩; have t9 := t8.trans hs; clear hs) | (have hh := t7; go_at_call 40; refine (HRP.out _).mono ?_; rintro e W8 ⟨rfl, hs⟩; have t8 := t7.trans hs; clear hs) | (have hh := t6; go_at_call 40; refine (HRV.out _).mono ?_; rintro e W7 ⟨rfl, hs⟩; have t7 := t6.trans hs; clear hs) | (have hh := t5; go_at_call 40; refine (HC.out _).mono ?_; rintro e W6 ⟨rfl, hs⟩; have t6 := t5.trans hs; clear hs) | (go_at_call 40; refine (HV.out _).mono ?_; rintro e W5 ⟨rfl, hs⟩; have t5 := d4.trans hs; clear hs))
  clear c1 c2 c3 c4 c5 c6 HV HC HRV HRP HLI HPG t4 t5 t6 t7 t8 t9 k0 k1 k2 k3 k4 k5 k6 k7 d4 u3 u4 u5
  go_wp2_with fail
  go_loopg [5, 6] 32 (fun g sv iv wr => ∃ (k : Nat) (X : ByteArray), sv = .string X ∧ iv = .int .i64 (k : Int) ∧ k ≤ 32 ∧ g = 32 - k ∧ Hid (X = E0 ++ ⟨(D.take k).toArray⟩) ∧ Same V wr)
  case atStart => exact ⟨0, E0, rfl, rfl, by omega, rfl, by show _ = _; apply ByteArray.ext; simp, t10⟩
  case round =>
    obtain ⟨k, X, rfl, rfl, hk, hg, HX, sr⟩ := hrel
    by_cases hgo : k < 32
    · obtain ⟨x, hx⟩ : ∃ x, D[k]? = some x := ⟨_, List.getElem?_eq_getElem (by rw [HDl.out]; exact hgo)⟩
      have cx := HD.out _ sr k (.int .u8 x.toNat) (by rw [bcells, List.getElem?_map, hx]; rfl)
      have b1 : (k : Int) < 32 := by omega
      have b0 : (0 : Int) ≤ (k : Int) := by omega
      have hcv := conv_one wr x
      obtain ⟨Y, hY⟩ : ∃ Y : ByteArray, Y = X ++ ⟨#[x]⟩ := ⟨_, rfl⟩
      have hXs : X.size = 44 + k := by
        rw [HX.out, ByteArray.size_append, HE0.out, size_list (D.take k), List.length_take, HDl.out]; omega
      have g1 : ∀ W : World, (Op.stringOp .add X ⟨#[x]⟩).run Tryd.prog W = .ok (.string Y) W := add_run hY.symm (by rw [hXs, show (ByteArray.mk #[x]).size = 1 from rfl]; omega)
      have HY : Hid (Y = E0 ++ ⟨(D.take (k + 1)).toArray⟩) := by
        show _ = _
        rw [hY, HX.out, List.take_add_one, hx]
        apply bytes_ext
        simp
      have s2 := sr.alloc (.cells #[.int .u8 x.toNat] 5)
      clear hx hY HX hXs
      go_wp2_with fail
      go_roundg (32 - (k + 1))
      case measure => omega
      case rel => exact ⟨k + 1, Y, rfl, by go_num, by omega, rfl, HY, s2⟩
    · obtain rfl : k = 32 := by omega
      have hX : X = E0 ++ ⟨D.toArray⟩ := by rw [HX.out, List.take_of_length_le (by rw [HDl.out]; omega)]
      rw [← hX] at HCR HOUT
      have g1 := HOUT.out
      clear HX hX
      go_wp2_with fail
      refine (HCR.out _).mono ?_
      rintro e W8 ⟨rfl, hW8⟩
      rw [hW8]
      clear hW8
      go_wp2_with fail
      refine (HN9.out _).mono ?_
      rintro e W9 ⟨rfl, s9⟩
      go_wp2_with fail
      go_ret
      exact ⟨rfl, (sx.trans sr).trans s9⟩

theorem fixB_mark : fixB 4 (1752657201 : Nat) = [104, 119, 109, 49] := by decide +kernel
theorem bytes_calls {p q : Int} (hf : frameP p q = true) (m : Rec) (hm : RecOk m) (w : World) :
    Calls Tryd.prog 22 #[frameV p q, metaV m] w fun e w' => e = .returned (.string (formS p q m)) ∧ Same w w' := by
  obtain ⟨hp4, hq1, hq2⟩ := frameP_cases hf
  obtain ⟨qn, rfl⟩ := Int.eq_ofNat_of_zero_le (show 0 ≤ q by omega)
  have hlg : logP p < 256 := by rcases hp4 with rfl | rfl | rfl | rfl <;> decide
  have hV : MAt ((w.alloc (.cells #[.int .i64 p, .int .i64 (qn : Int)] 23)).alloc (.cells m.arr 34)) (w.heap.size + 1) m := heap_alloc2_new w _ _
  have zz : ∀ l : List UInt8, (ByteArray.mk l.toArray).size = l.length := size_list
  have he : (⟨(fixB 4 ((1752657201 : Nat) : Int) ++ fixB 1 (logP p) ++ fixB 1 qn ++ List.replicate 2 0 ++ (fixB 8 m.v ++ fixB 8 m.c ++ fixB 8 m.rv ++ fixB 4 m.rp ++ fixB 4 m.li ++ fixB 4 m.pg)).toArray⟩ : ByteArray) ++ ⟨m.d.toArray⟩ = ⟨(recB (logP p) qn m).toArray⟩ := by
    rw [append_list, fixB_mark]
    unfold recB
    simp [fixB]
  refine bytes_core (lg := logP p) (D := m.d) (v := m.v) (c := m.c) (rv := m.rv) (rp := m.rp) (li := m.li) (pg := m.pg) w hm.d (CR := (crcP [⟨(recB (logP p) qn m).toArray⟩]).toNat) (UInt32.toNat_lt _) (by omega) hlg hm.rp hm.li hm.pg ?_ ?_
    (number_calls 1752657201 4 (by omega) (by omega)) (rlog_calls hp4) (number_calls (logP p) 1 (by omega) (by omega)) (number_calls qn 1 (by omega) (by omega)) (noughts_calls 2 (by omega)) (add_lists _ _ (by simp [fixB_length])) (add_lists _ _ (by simp [fixB_length])) (add_lists _ _ (by simp [fixB_length]))
    (number_calls m.v 8 hm.v (by omega)) (number_calls m.c 8 hm.c (by omega)) (number_calls m.rv 8 hm.rv (by omega)) (number_calls m.rp 4 (by have := hm.rp; omega) (by omega)) (number_calls m.li 4 (by have := hm.li; omega) (by omega)) (number_calls m.pg 4 (by have := hm.pg; omega) (by omega))
    (add_lists _ _ (by simp [fixB_length])) (add_lists _ _ (by simp [fixB_length])) (add_lists _ _ (by simp [fixB_length])) (add_lists _ _ (by simp [fixB_length])) (add_lists _ _ (by simp [fixB_length])) (add_lists _ _ (by simp [fixB_length])) (by rw [size_list]; simp [fixB_length]) ?_ (number_calls _ 4 (by have := UInt32.toNat_lt (crcP [⟨(recB (logP p) qn m).toArray⟩]); omega) (by omega)) ?_
  · intro W h
    obtain ⟨x0, x1, x2, x3, x4, x5⟩ := hV.cells hm.d
    exact ⟨h.keep (by simp), h.keep (by simp), h.keep x0, h.keep x2, h.keep x3, h.keep x1, h.keep x4, h.keep x5⟩
  · intro W h
    exact (hV.same h).sum
  · intro W
    rw [he]
    have := rcrc_calls W ⟨(recB (logP p) qn m).toArray⟩ (by rw [size_list, recB_length _ _ m hm.d]; omega)
    simpa [crcP] using this
  · intro W
    rw [he]
    exact add_lists _ _ (by rw [recB_length _ _ m hm.d, fixB_length]; omega) W
end Go.Proofs.YtjfkkjangebblaaDoor
