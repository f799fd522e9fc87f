/- PackWrites' walk: any things laid by two writers in turns: their bytes, and how many. -/
import Derived.Test.YtcbbjicoedeioaaWF
import Derived.Test.YtcbbjicoedeioaaX2
namespace Go.Proofs.Ytcbbjicoedeioaa
open Go.RowKit

/-- Two Writers that have no block in common. -/
structure Two (w : World) (B a b : Nat) (ga gb : Option Nat) (xa xb : List UInt8) : Prop where
  wa : WrAt w a ga xa
  wb : WrAt w b gb xb
  ab : a ≠ b
  na : ga ≠ some b
  nb : gb ≠ some a
  nn : ∀ k, ga = some k → gb ≠ some k
  ba : Above B a ga
  bb : Above B b gb
  hB : B ≤ w.heap.size
theorem Two.swap {w : World} {B a b : Nat} {ga gb : Option Nat} {xa xb : List UInt8} (h : Two w B a b ga gb xa xb) : Two w B b a gb ga xb xa :=
  ⟨h.wb, h.wa, h.ab.symm, h.nb, h.na, fun k h1 h2 => h.nn k h2 h1, h.bb, h.ba, h.hB⟩
theorem Two.step {w w' : World} {B a b : Nat} {ga ga' gb : Option Nat} {xa xa' xb : List UInt8} (h : Two w B a b ga gb xa xb) (hw : WrAt w' a ga' xa') (st : WrStep a ga ga' w w') : Two w' B a b ga' gb xa' xb := by
  have lb := h.wb.lt
  refine ⟨hw, h.wb.other st h.ab.symm h.na (fun k hk => ⟨fun e => h.nb (e ▸ hk), fun e => h.nn k e hk⟩), h.ab, ?_, h.nb, ?_, h.ba.step st h.hB, h.bb, Nat.le_trans h.hB st.1.size⟩
  · intro e
    rcases st.2 b e with h1 | h1
    · exact h.na h1
    · omega
  · intro k hk e
    have := lb.2 k e
    rcases st.2 k hk with h1 | h1
    · exact h.nn k h1 e
    · omega
theorem Two.same {w w' : World} {B a b : Nat} {ga gb : Option Nat} {xa xb : List UInt8} (h : Two w B a b ga gb xa xb) (s : Same w w') : Two w' B a b ga gb xa xb :=
  ⟨h.wa.same s, h.wb.same s, h.ab, h.na, h.nb, h.nn, h.ba, h.bb, Nat.le_trans h.hB s.size⟩

set_option maxRecDepth 100000 in
set_option maxHeartbeats 4000000 in
theorem writes_walk (w : World) (v1 v2 v3 : Value) (t1 t2 : List StepP) (l3 : List Bool) (h1 : StepsIn w.heap.size w v1 t1) (h2 : StepsIn w.heap.size w v2 t2) (h3 : ElemIn Value.bool w.heap.size w v3 l3)
    (ok1 : ∀ t ∈ t1, StepOK t) (ok2 : ∀ t ∈ t2, StepOK t) (hw1 : wtAll t1 ≤ 1048576) (hw2 : wtAll t2 ≤ 1048576) :
    Calls Try.prog 3 #[v1, v2, v3] w fun e w' => e = .returned (.bool true) ∧ Below w.heap.size w w' := by
  have hlen1 := encAll_len t1
  have hlen2 := encAll_len t2
  obtain ⟨ad1, cp1, rfl, hl1, hel1⟩ := h1
  obtain ⟨ad2, cp2, rfl, hl2, hel2⟩ := h2
  obtain ⟨ad3, cp3, rfl, hl3, hel3⟩ := h3
  have HOK1 : Hid (∀ t ∈ t1, StepOK t) := ok1
  have HOK2 : Hid (∀ t ∈ t2, StepOK t) := ok2
  clear ok1 ok2
  go_enter Try.func3, Try.ntmps3
  go_wp2_with fail
  refine (new_calls _).mono ?_
  rintro e w1 ⟨rfl, rfl⟩
  go_wp2_with fail
  refine (new_calls _).mono ?_
  rintro e w1 ⟨rfl, rfl⟩
  have H2 : Two ((w.alloc (.cells #[.bool true, .slice none 0 0] 69)).alloc (.cells #[.bool true, .slice none 0 0] 69)) w.heap.size w.heap.size (w.heap.size + 1) none none [] [] := by
    refine ⟨(wr_new w).same ((Fr.refl _ _).alloc _), ?_, by omega, by simp, by simp, by simp, ⟨Nat.le_refl _, by simp⟩, ⟨by omega, by simp⟩, by simp; omega⟩
    have := wr_new (w.alloc (.cells #[.bool true, .slice none 0 0] 69))
    simpa using this
  have sa : Same w ((w.alloc (.cells #[.bool true, .slice none 0 0] 69)).alloc (.cells #[.bool true, .slice none 0 0] 69)) := ((Fr.refl _ w).alloc _).alloc _
  generalize (w.alloc (.cells #[.bool true, .slice none 0 0] 69)).alloc (.cells #[.bool true, .slice none 0 0] 69) = W1 at *
  go_wp2_with fail
  go_loopw [9, 10, 11] (fun xv yv iv wr => ∃ (k : Nat) (ga gb : Option Nat) (X Y : ByteArray), iv = .int .i64 k ∧ xv = .string X ∧ yv = .string Y ∧ k ≤ max t1.length t2.length ∧ X = ⟨(encAll (t1.take k)).toArray⟩ ∧ Y = ⟨(encAll (t2.take k)).toArray⟩ ∧
      Two wr w.heap.size w.heap.size (w.heap.size + 1) ga gb (encAll (t1.take k)) (encAll (t2.take k)) ∧ Below w.heap.size w wr)
    (fun _ _ iv _ => max t1.length t2.length - (intOf iv).toNat)
  case atStart => exact ⟨0, none, none, ⟨#[]⟩, ⟨#[]⟩, rfl, rfl, rfl, by omega, rfl, rfl, H2, Fr.below sa (Nat.le_refl _) (fun _ f => f.elim)⟩
  case round =>
    obtain ⟨k, ga, gb, X, Y, rfl, rfl, rfl, hk, hX, hY, HT, hbel⟩ := hrel
    have i0 : (0 : Int) ≤ (k : Int) := by omega
    have hl0 := encAll_take_le t1 k
    have hm0 := encAll_take_le t2 k
    have hXs : X.size ≤ 20000000 := by rw [hX, str_size]; omega
    have hYs : Y.size ≤ 20000000 := by rw [hY, str_size]; omega
    by_cases hgo1 : k < t1.length
    · by_cases hgo2 : k < t2.length
      · rcases hel1 with rfl | ⟨ab1, ao1, rfl, hlt1, hel1⟩
        · simp at hgo1
        have hc1 := hel1 k t1[k] (List.getElem?_eq_getElem hgo1)
        have hok1 := HOK1.out t1[k] (List.getElem_mem hgo1)
        have j1 : (k : Int) < (t1.length : Int) := by omega
        have hes1 := encS_len t1[k]
        have how1 := hok1.w
        obtain ⟨U1, hU1⟩ : ∃ U : ByteArray, U = ⟨(encS t1[k]).toArray⟩ := ⟨_, rfl⟩
        have hUs1 : U1.size ≤ 20000000 := by rw [hU1, str_size]; omega
        obtain ⟨X2, hX2⟩ : ∃ X2, X2 = X ++ U1 := ⟨_, rfl⟩
        have hadd1 : ∀ W, (Op.stringOp .add X U1).run Try.prog W = .ok (.string X2) W := fun W => by rw [hX2]; exact run_string_add_sum (P := Try.prog) W X U1 (by omega)
        have HE1 : Hid (encAll (t1.take (k + 1)) = encAll (t1.take k) ++ encS t1[k]) := encAll_take_succ t1 k hgo1
        have HX : Hid (X2 = ⟨(encAll (t1.take (k + 1))).toArray⟩) := by
          show _ = _
          rw [hX2, HE1.out, hX, hU1, str_append]
        have HLY1 := fun (W : World) (gg : Option Nat) (bs : List UInt8) (v : Value) (h1 : StepIn w.heap.size W v t1[k]) (h2 : WrAt W (w.heap.size + 0) gg bs) (h3 : Above w.heap.size (w.heap.size + 0) gg) (h4 : w.heap.size ≤ W.heap.size) (h5 : bs.length ≤ 600000000000) => lay_any t1[k] hok1 h1 h2 h3 h4 h5
        have HLD1 := fun (W : World) (v : Value) (h1 : StepIn w.heap.size W v t1[k]) (h4 : w.heap.size ≤ W.heap.size) => laid_any t1[k] hok1 h1 h4
        rw [← hU1] at HLD1
        clear hX2 hU1 hok1
        generalize hT1 : t1[k] = T1 at *
        rcases hel2 with rfl | ⟨ab2, ao2, rfl, hlt2, hel2⟩
        · simp at hgo2
        have hc2 := hel2 k t2[k] (List.getElem?_eq_getElem hgo2)
        have hok2 := HOK2.out t2[k] (List.getElem_mem hgo2)
        have j2 : (k : Int) < (t2.length : Int) := by omega
        have hes2 := encS_len t2[k]
        have how2 := hok2.w
        obtain ⟨U2, hU2⟩ : ∃ U : ByteArray, U = ⟨(encS t2[k]).toArray⟩ := ⟨_, rfl⟩
        have hUs2 : U2.size ≤ 20000000 := by rw [hU2, str_size]; omega
        obtain ⟨Y2, hY2⟩ : ∃ Y2, Y2 = Y ++ U2 := ⟨_, rfl⟩
        have hadd2 : ∀ W, (Op.stringOp .add Y U2).run Try.prog W = .ok (.string Y2) W := fun W => by rw [hY2]; exact run_string_add_sum (P := Try.prog) W Y U2 (by omega)
        have HE2 : Hid (encAll (t2.take (k + 1)) = encAll (t2.take k) ++ encS t2[k]) := encAll_take_succ t2 k hgo2
        have HY : Hid (Y2 = ⟨(encAll (t2.take (k + 1))).toArray⟩) := by
          show _ = _
          rw [hY2, HE2.out, hY, hU2, str_append]
        have HLY2 := fun (W : World) (gg : Option Nat) (bs : List UInt8) (v : Value) (h1 : StepIn w.heap.size W v t2[k]) (h2 : WrAt W (w.heap.size + 1) gg bs) (h3 : Above w.heap.size (w.heap.size + 1) gg) (h4 : w.heap.size ≤ W.heap.size) (h5 : bs.length ≤ 600000000000) => lay_any t2[k] hok2 h1 h2 h3 h4 h5
        have HLD2 := fun (W : World) (v : Value) (h1 : StepIn w.heap.size W v t2[k]) (h4 : w.heap.size ≤ W.heap.size) => laid_any t2[k] hok2 h1 h4
        rw [← hU2] at HLD2
        clear hY2 hU2 hok2
        generalize hT2 : t2[k] = T2 at *
        clear hX hY
        obtain ⟨pa1, pl1, pc1, na1, nl1, nc1, c0, c1, c2, c3, c4, c5, c6, c7, c8, h9, h10⟩ := hc1.below hlt1 hbel
        go_wp2_with fail
        refine (HLY1 _ _ _ _ ⟨pa1, pl1, pc1, na1, nl1, nc1, rfl, h9, h10⟩ HT.wa HT.ba HT.hB (by omega)).mono ?_
        rintro e Wa1 ⟨rfl, g1, hwk1, st1⟩
        have HTa1 := HT.step hwk1 st1
        have hba1 := hbel.trans (HT.ba.below st1 HT.hB)
        clear c0 c1 c2 c3 c4 c5 c6 c7 c8 h9 h10
        obtain ⟨pa1, pl1, pc1, na1, nl1, nc1, c0, c1, c2, c3, c4, c5, c6, c7, c8, h9, h10⟩ := hc1.below hlt1 hba1
        go_wp2_with fail
        refine (HLD1 _ _ ⟨pa1, pl1, pc1, na1, nl1, nc1, rfl, h9, h10⟩ HTa1.hB).mono ?_
        rintro e Wb1 ⟨rfl, sb1⟩
        have HTb1 := HTa1.same sb1
        have hbb1 := hba1.trans (Fr.below sb1 HTa1.hB (fun _ f => f.elim))
        rw [← HE1.out] at HTb1
        clear c0 c1 c2 c3 c4 c5 c6 c7 c8 h9 h10 HTa1 hba1 hwk1
        obtain ⟨pa2, pl2, pc2, na2, nl2, nc2, c0, c1, c2, c3, c4, c5, c6, c7, c8, h9, h10⟩ := hc2.below hlt2 hbb1
        go_wp2_with fail
        refine (HLY2 _ _ _ _ ⟨pa2, pl2, pc2, na2, nl2, nc2, rfl, h9, h10⟩ HTb1.wb HTb1.bb HTb1.hB (by omega)).mono ?_
        rintro e Wa2 ⟨rfl, g2, hwk2, st2⟩
        have HTa2 := (HTb1.swap.step hwk2 st2).swap
        have hba2 := hbb1.trans (HTb1.bb.below st2 HTb1.hB)
        clear c0 c1 c2 c3 c4 c5 c6 c7 c8 h9 h10
        obtain ⟨pa2, pl2, pc2, na2, nl2, nc2, c0, c1, c2, c3, c4, c5, c6, c7, c8, h9, h10⟩ := hc2.below hlt2 hba2
        go_wp2_with fail
        refine (HLD2 _ _ ⟨pa2, pl2, pc2, na2, nl2, nc2, rfl, h9, h10⟩ HTa2.hB).mono ?_
        rintro e Wb2 ⟨rfl, sb2⟩
        have HTb2 := HTa2.same sb2
        have hbb2 := hba2.trans (Fr.below sb2 HTa2.hB (fun _ f => f.elim))
        rw [← HE2.out] at HTb2
        clear c0 c1 c2 c3 c4 c5 c6 c7 c8 h9 h10 HTa2 hba2 hwk2
        by_cases hgo3 : k < l3.length
        · rcases hel3 with rfl | ⟨ab3, ao3, rfl, hlt3, hel3⟩
          · simp at hgo3
          have c3 := (hbb2.cell (p := ⟨ab3, ao3 + k, none⟩) hlt3).trans (hel3 k l3[k] (List.getElem?_eq_getElem hgo3))
          have j3 : (k : Int) < (l3.length : Int) := by omega
          have hsA := wstring_calls HTb2.wa
          have hsB := wstring_calls HTb2.wb
          have hlA := wlen_calls HTb2.wa
          rw [← HX.out] at hsA
          rw [← HY.out] at hsB
          have hzA : X2.size = (encAll (t1.take (k + 1))).length := by rw [HX.out, str_size]
          rw [← hzA] at hlA
          clear hzA
          cases hb3 : l3[k]
          · rw [hb3] at c3
            go_wp2_with fail
            go_roundw
            case rel => exact ⟨k + 1, _, _, X2, Y2, by go_num, rfl, rfl, by omega, HX.out, HY.out, HTb2, hbb2⟩
            case measure => simp [intOf]; omega
          · rw [hb3] at c3
            go_wp2_with fail
            refine hsA.mono ?_
            rintro e Wz ⟨rfl, rfl⟩
            go_wp2_with fail
            refine hlA.mono ?_
            rintro e Wz ⟨rfl, rfl⟩
            go_wp2_with fail
            refine hsB.mono ?_
            rintro e Wz ⟨rfl, rfl⟩
            go_wp2_with fail
            go_roundw
            case rel => exact ⟨k + 1, _, _, X2, Y2, by go_num, rfl, rfl, by omega, HX.out, HY.out, HTb2, hbb2⟩
            case measure => simp [intOf]; omega
        · have j3 : ¬ (k : Int) < (l3.length : Int) := by omega
          go_wp2_with fail
          go_roundw
          case rel => exact ⟨k + 1, _, _, X2, Y2, by go_num, rfl, rfl, by omega, HX.out, HY.out, HTb2, hbb2⟩
          case measure => simp [intOf]; omega
      · rcases hel1 with rfl | ⟨ab1, ao1, rfl, hlt1, hel1⟩
        · simp at hgo1
        have hc1 := hel1 k t1[k] (List.getElem?_eq_getElem hgo1)
        have hok1 := HOK1.out t1[k] (List.getElem_mem hgo1)
        have j1 : (k : Int) < (t1.length : Int) := by omega
        have hes1 := encS_len t1[k]
        have how1 := hok1.w
        obtain ⟨U1, hU1⟩ : ∃ U : ByteArray, U = ⟨(encS t1[k]).toArray⟩ := ⟨_, rfl⟩
        have hUs1 : U1.size ≤ 20000000 := by rw [hU1, str_size]; omega
        obtain ⟨X2, hX2⟩ : ∃ X2, X2 = X ++ U1 := ⟨_, rfl⟩
        have hadd1 : ∀ W, (Op.stringOp .add X U1).run Try.prog W = .ok (.string X2) W := fun W => by rw [hX2]; exact run_string_add_sum (P := Try.prog) W X U1 (by omega)
        have HE1 : Hid (encAll (t1.take (k + 1)) = encAll (t1.take k) ++ encS t1[k]) := encAll_take_succ t1 k hgo1
        have HX : Hid (X2 = ⟨(encAll (t1.take (k + 1))).toArray⟩) := by
          show _ = _
          rw [hX2, HE1.out, hX, hU1, str_append]
        have HLY1 := fun (W : World) (gg : Option Nat) (bs : List UInt8) (v : Value) (h1 : StepIn w.heap.size W v t1[k]) (h2 : WrAt W (w.heap.size + 0) gg bs) (h3 : Above w.heap.size (w.heap.size + 0) gg) (h4 : w.heap.size ≤ W.heap.size) (h5 : bs.length ≤ 600000000000) => lay_any t1[k] hok1 h1 h2 h3 h4 h5
        have HLD1 := fun (W : World) (v : Value) (h1 : StepIn w.heap.size W v t1[k]) (h4 : w.heap.size ≤ W.heap.size) => laid_any t1[k] hok1 h1 h4
        rw [← hU1] at HLD1
        clear hX2 hU1 hok1
        generalize hT1 : t1[k] = T1 at *
        have j2 : ¬ (k : Int) < (t2.length : Int) := by omega
        have HE2 : Hid (encAll (t2.take (k + 1)) = encAll (t2.take k)) := by
          show _ = _
          rw [List.take_of_length_le (by omega), List.take_of_length_le (by omega)]
        have HY : Hid (Y = ⟨(encAll (t2.take (k + 1))).toArray⟩) := by
          show _ = _
          rw [HE2.out]; exact hY
        clear hX hY
        obtain ⟨pa1, pl1, pc1, na1, nl1, nc1, c0, c1, c2, c3, c4, c5, c6, c7, c8, h9, h10⟩ := hc1.below hlt1 hbel
        go_wp2_with fail
        refine (HLY1 _ _ _ _ ⟨pa1, pl1, pc1, na1, nl1, nc1, rfl, h9, h10⟩ HT.wa HT.ba HT.hB (by omega)).mono ?_
        rintro e Wa1 ⟨rfl, g1, hwk1, st1⟩
        have HTa1 := HT.step hwk1 st1
        have hba1 := hbel.trans (HT.ba.below st1 HT.hB)
        clear c0 c1 c2 c3 c4 c5 c6 c7 c8 h9 h10
        obtain ⟨pa1, pl1, pc1, na1, nl1, nc1, c0, c1, c2, c3, c4, c5, c6, c7, c8, h9, h10⟩ := hc1.below hlt1 hba1
        go_wp2_with fail
        refine (HLD1 _ _ ⟨pa1, pl1, pc1, na1, nl1, nc1, rfl, h9, h10⟩ HTa1.hB).mono ?_
        rintro e Wb1 ⟨rfl, sb1⟩
        have HTb1 := HTa1.same sb1
        have hbb1 := hba1.trans (Fr.below sb1 HTa1.hB (fun _ f => f.elim))
        rw [← HE1.out] at HTb1
        clear c0 c1 c2 c3 c4 c5 c6 c7 c8 h9 h10 HTa1 hba1 hwk1
        have HTc2 := HTb1
        rw [← HE2.out] at HTc2
        by_cases hgo3 : k < l3.length
        · rcases hel3 with rfl | ⟨ab3, ao3, rfl, hlt3, hel3⟩
          · simp at hgo3
          have c3 := (hbb1.cell (p := ⟨ab3, ao3 + k, none⟩) hlt3).trans (hel3 k l3[k] (List.getElem?_eq_getElem hgo3))
          have j3 : (k : Int) < (l3.length : Int) := by omega
          have hsA := wstring_calls HTc2.wa
          have hsB := wstring_calls HTc2.wb
          have hlA := wlen_calls HTc2.wa
          rw [← HX.out] at hsA
          rw [← HY.out] at hsB
          have hzA : X2.size = (encAll (t1.take (k + 1))).length := by rw [HX.out, str_size]
          rw [← hzA] at hlA
          clear hzA
          cases hb3 : l3[k]
          · rw [hb3] at c3
            go_wp2_with fail
            go_roundw
            case rel => exact ⟨k + 1, _, _, X2, Y, by go_num, rfl, rfl, by omega, HX.out, HY.out, HTc2, hbb1⟩
            case measure => simp [intOf]; omega
          · rw [hb3] at c3
            go_wp2_with fail
            refine hsA.mono ?_
            rintro e Wz ⟨rfl, rfl⟩
            go_wp2_with fail
            refine hlA.mono ?_
            rintro e Wz ⟨rfl, rfl⟩
            go_wp2_with fail
            refine hsB.mono ?_
            rintro e Wz ⟨rfl, rfl⟩
            go_wp2_with fail
            go_roundw
            case rel => exact ⟨k + 1, _, _, X2, Y, by go_num, rfl, rfl, by omega, HX.out, HY.out, HTc2, hbb1⟩
            case measure => simp [intOf]; omega
        · have j3 : ¬ (k : Int) < (l3.length : Int) := by omega
          go_wp2_with fail
          go_roundw
          case rel => exact ⟨k + 1, _, _, X2, Y, by go_num, rfl, rfl, by omega, HX.out, HY.out, HTc2, hbb1⟩
          case measure => simp [intOf]; omega
    · by_cases hgo2 : k < t2.length
      · have j1 : ¬ (k : Int) < (t1.length : Int) := by omega
        have HE1 : Hid (encAll (t1.take (k + 1)) = encAll (t1.take k)) := by
          show _ = _
          rw [List.take_of_length_le (by omega), List.take_of_length_le (by omega)]
        have HX : Hid (X = ⟨(encAll (t1.take (k + 1))).toArray⟩) := by
          show _ = _
          rw [HE1.out]; exact hX
        rcases hel2 with rfl | ⟨ab2, ao2, rfl, hlt2, hel2⟩
        · simp at hgo2
        have hc2 := hel2 k t2[k] (List.getElem?_eq_getElem hgo2)
        have hok2 := HOK2.out t2[k] (List.getElem_mem hgo2)
        have j2 : (k : Int) < (t2.length : Int) := by omega
        have hes2 := encS_len t2[k]
        have how2 := hok2.w
        obtain ⟨U2, hU2⟩ : ∃ U : ByteArray, U = ⟨(encS t2[k]).toArray⟩ := ⟨_, rfl⟩
        have hUs2 : U2.size ≤ 20000000 := by rw [hU2, str_size]; omega
        obtain ⟨Y2, hY2⟩ : ∃ Y2, Y2 = Y ++ U2 := ⟨_, rfl⟩
        have hadd2 : ∀ W, (Op.stringOp .add Y U2).run Try.prog W = .ok (.string Y2) W := fun W => by rw [hY2]; exact run_string_add_sum (P := Try.prog) W Y U2 (by omega)
        have HE2 : Hid (encAll (t2.take (k + 1)) = encAll (t2.take k) ++ encS t2[k]) := encAll_take_succ t2 k hgo2
        have HY : Hid (Y2 = ⟨(encAll (t2.take (k + 1))).toArray⟩) := by
          show _ = _
          rw [hY2, HE2.out, hY, hU2, str_append]
        have HLY2 := fun (W : World) (gg : Option Nat) (bs : List UInt8) (v : Value) (h1 : StepIn w.heap.size W v t2[k]) (h2 : WrAt W (w.heap.size + 1) gg bs) (h3 : Above w.heap.size (w.heap.size + 1) gg) (h4 : w.heap.size ≤ W.heap.size) (h5 : bs.length ≤ 600000000000) => lay_any t2[k] hok2 h1 h2 h3 h4 h5
        have HLD2 := fun (W : World) (v : Value) (h1 : StepIn w.heap.size W v t2[k]) (h4 : w.heap.size ≤ W.heap.size) => laid_any t2[k] hok2 h1 h4
        rw [← hU2] at HLD2
        clear hY2 hU2 hok2
        generalize hT2 : t2[k] = T2 at *
        clear hX hY
        have HTc1 := HT
        rw [← HE1.out] at HTc1
        obtain ⟨pa2, pl2, pc2, na2, nl2, nc2, c0, c1, c2, c3, c4, c5, c6, c7, c8, h9, h10⟩ := hc2.below hlt2 hbel
        go_wp2_with fail
        refine (HLY2 _ _ _ _ ⟨pa2, pl2, pc2, na2, nl2, nc2, rfl, h9, h10⟩ HTc1.wb HTc1.bb HTc1.hB (by omega)).mono ?_
        rintro e Wa2 ⟨rfl, g2, hwk2, st2⟩
        have HTa2 := (HTc1.swap.step hwk2 st2).swap
        have hba2 := hbel.trans (HTc1.bb.below st2 HTc1.hB)
        clear c0 c1 c2 c3 c4 c5 c6 c7 c8 h9 h10
        obtain ⟨pa2, pl2, pc2, na2, nl2, nc2, c0, c1, c2, c3, c4, c5, c6, c7, c8, h9, h10⟩ := hc2.below hlt2 hba2
        go_wp2_with fail
        refine (HLD2 _ _ ⟨pa2, pl2, pc2, na2, nl2, nc2, rfl, h9, h10⟩ HTa2.hB).mono ?_
        rintro e Wb2 ⟨rfl, sb2⟩
        have HTb2 := HTa2.same sb2
        have hbb2 := hba2.trans (Fr.below sb2 HTa2.hB (fun _ f => f.elim))
        rw [← HE2.out] at HTb2
        clear c0 c1 c2 c3 c4 c5 c6 c7 c8 h9 h10 HTa2 hba2 hwk2
        by_cases hgo3 : k < l3.length
        · rcases hel3 with rfl | ⟨ab3, ao3, rfl, hlt3, hel3⟩
          · simp at hgo3
          have c3 := (hbb2.cell (p := ⟨ab3, ao3 + k, none⟩) hlt3).trans (hel3 k l3[k] (List.getElem?_eq_getElem hgo3))
          have j3 : (k : Int) < (l3.length : Int) := by omega
          have hsA := wstring_calls HTb2.wa
          have hsB := wstring_calls HTb2.wb
          have hlA := wlen_calls HTb2.wa
          rw [← HX.out] at hsA
          rw [← HY.out] at hsB
          have hzA : X.size = (encAll (t1.take (k + 1))).length := by rw [HX.out, str_size]
          rw [← hzA] at hlA
          clear hzA
          cases hb3 : l3[k]
          · rw [hb3] at c3
            go_wp2_with fail
            go_roundw
            case rel => exact ⟨k + 1, _, _, X, Y2, by go_num, rfl, rfl, by omega, HX.out, HY.out, HTb2, hbb2⟩
            case measure => simp [intOf]; omega
          · rw [hb3] at c3
            go_wp2_with fail
            refine hsA.mono ?_
            rintro e Wz ⟨rfl, rfl⟩
            go_wp2_with fail
            refine hlA.mono ?_
            rintro e Wz ⟨rfl, rfl⟩
            go_wp2_with fail
            refine hsB.mono ?_
            rintro e Wz ⟨rfl, rfl⟩
            go_wp2_with fail
            go_roundw
            case rel => exact ⟨k + 1, _, _, X, Y2, by go_num, rfl, rfl, by omega, HX.out, HY.out, HTb2, hbb2⟩
            case measure => simp [intOf]; omega
        · have j3 : ¬ (k : Int) < (l3.length : Int) := by omega
          go_wp2_with fail
          go_roundw
          case rel => exact ⟨k + 1, _, _, X, Y2, by go_num, rfl, rfl, by omega, HX.out, HY.out, HTb2, hbb2⟩
          case measure => simp [intOf]; omega
      · have j1 : ¬ (k : Int) < (t1.length : Int) := by omega
        have j2 : ¬ (k : Int) < (t2.length : Int) := by omega
        rw [List.take_of_length_le (by omega)] at hX HT
        rw [List.take_of_length_le (by omega)] at hY HT
        have hsA := wstring_calls HT.wa
        have hsB := wstring_calls HT.wb
        have hlA := wlen_calls HT.wa
        have hlB := wlen_calls HT.wb
        rw [← hX] at hsA
        rw [← hY] at hsB
        have hzA : X.size = (encAll t1).length := by rw [hX, str_size]
        have hzB : Y.size = (encAll t2).length := by rw [hY, str_size]
        rw [← hzA] at hlA
        rw [← hzB] at hlB
        clear hzA hzB hX hY
        go_wp2_with fail
        refine hsA.mono ?_
        rintro e Wz ⟨rfl, rfl⟩
        go_wp2_with fail
        refine hsB.mono ?_
        rintro e Wz ⟨rfl, rfl⟩
        go_wp2_with fail
        refine hlA.mono ?_
        rintro e Wz ⟨rfl, rfl⟩
        go_wp2_with fail
        refine hlB.mono ?_
        rintro e Wz ⟨rfl, rfl⟩
        go_wp2_with fail
        refine (lives_calls _).mono ?_
        rintro e Wz ⟨rfl, sz⟩
        go_wp2_with fail
        go_ret
        exact ⟨rfl, hbel.trans (Fr.below sz HT.hB (fun _ f => f.elim))⟩
end Go.Proofs.Ytcbbjicoedeioaa
