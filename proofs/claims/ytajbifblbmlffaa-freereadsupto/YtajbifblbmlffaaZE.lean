/- apart: lists and chains, marked, grown and looked at. -/
import Derived.Test.YtajbifblbmlffaaZD
namespace Go.Proofs.Ytajbifblbmlffaa
open Go.RowKit Go.Maps

theorem Grw.blkM {F : Fam} {t : TypeId} {w W : World} {L M : List Sl} {a0 b0 n mc : Nat} {ma : Option Addr} (h : Grw F t w W L a0 b0 n ma mc M) : ∃ gm, n ≠ 0 → ma = some ⟨gm, 0, none⟩ := by
  by_cases h0 : n = 0
  · exact ⟨0, fun e => absurd h0 e⟩
  · obtain ⟨g, e, _⟩ := own_some (own_base h.more (Nat.zero_le _)) h0
    exact ⟨g, fun _ => e⟩
theorem Grw.fnd {F : Fam} {t : TypeId} {w W W' : World} {S : Nat → Prop} {L M : List Sl} {a0 b0 n mc gm lb lo i : Nat} {ma la : Option Addr} {x : Sl} (h : Grw F t w W L a0 b0 n ma mc M) (hi : i < n) (hgm : ma = some ⟨gm, 0, none⟩) (ho : OutAt t W' la lb lo L) (ap : Apt F w L) (f : Fr S W W')
    (hS : ∀ k, S k → ∃ A fr e', e' ≠ F.e ∧ e' ≠ t ∧ W.heap[k]? = some (.cells A e' fr)) (hSL : ∀ k, inB L k → ¬ S k) (hx : L[i]? = some x) : ∃ y, Fnd F W' lb lo gm i x y (a0 + i) (b0 + i) := by
  subst hgm
  obtain ⟨⟨y, hy, hn, hr, _⟩, hx2⟩ := h.fin i x hi hx
  have hm : W.cell? ⟨gm, i, none⟩ = some y.v := own_cell (own_base h.more (Nat.zero_le _)) (by rw [List.getElem?_map, hy]; rfl)
  have hgS : ¬ S gm := fun hk => by
    obtain ⟨A, fr, e', _, e2, hh⟩ := hS gm hk
    rcases h.more.2 with ⟨hv, _⟩ | ⟨g, c, cur, hv, _, hh2, _⟩
    · cases hv
    · injection hv with e1
      injection e1 with e1
      injection e1 with e1
      subst e1
      rw [hh] at hh2
      injection hh2 with hh2
      injection hh2 with _ hh2 _
      exact e2 hh2
  exact ⟨y, hn, ap.len x (List.mem_of_getElem? hx), ho.cells i x hx, (f.cell (World.block_lt_of_cell? _ _ hm) hgS).trans hm, hx2.fr f (fun k hk => hSL k ⟨i, x, hx, hk⟩), (hr.fr f (fun k hk hs => by
    obtain ⟨A, fr, e', e1, _, hh⟩ := hS k hs
    exact hr.ne hh (Ne.symm e1) hk)).hold⟩
def rAP0 : Array Oper := #[{ dst := some 4, op := .assign (.const (.bool false)), type := 4, pos := "memory.go:85", after := #[], guard := none }]
def rAP1 : Array Oper := #[{ dst := some 5, op := .assign (.const (.int .i64 0)), type := 3, pos := "memory.go:86", after := #[], guard := none }]
def rAP8 : Array Oper := #[{ dst := some 7, op := .assign (.const (.int .i64 0)), type := 3, pos := "memory.go:91", after := #[], guard := none }]
def rAP15 : Array Oper := #[{ dst := some 9, op := .assign (.const (.slice none 0 0)), type := 40, pos := "memory.go:96", after := #[], guard := none }]
def rAP16 : Array Oper := #[{ dst := some 10, op := .assign (.const (.int .i64 0)), type := 3, pos := "memory.go:97", after := #[], guard := none }]
def rAP25 : Array Oper := #[{ dst := some 13, op := .assign (.const (.slice none 0 0)), type := 42, pos := "memory.go:104", after := #[], guard := none }]
def rAP26 : Array Oper := #[{ dst := some 14, op := .assign (.const (.int .i64 0)), type := 3, pos := "memory.go:105", after := #[], guard := none }]
def rAP35 : Array Oper := #[{ dst := some 17, op := .assign (.const (.int .i64 0)), type := 3, pos := "memory.go:112", after := #[], guard := none }]
def rAP43 : Array Oper := #[{ dst := some 19, op := .assign (.const (.int .i64 0)), type := 3, pos := "memory.go:119", after := #[], guard := none }]
def rAP51 : Array Oper := #[{ dst := some 4, op := .assign (.const (.bool true)), type := 4, pos := "memory.go:126", after := #[], guard := none }]
def cAP : Code := (.seq (.region 0 rAP0 false) (.seq (.seq (.region 1 rAP1 false) (.block 0 (.loop cMU1))) (.seq (.seq (.region 8 rAP8 false) (.block 4 (.loop cMB1))) (.seq (.region 15 rAP15 false) (.seq (.seq (.region 16 rAP16 false) (.block 8 (.loop cGU1))) (.seq (.region 25 rAP25 false) (.seq (.seq (.region 26 rAP26 false) (.block 12 (.loop cGB1))) (.seq (.seq (.region 35 rAP35 false) (.block 16 (.loop cEU1))) (.seq (.seq (.region 43 rAP43 false) (.block 20 (.loop cEB1))) (.seq (.region 51 rAP51 false) .ret))))))))))
set_option maxRecDepth 100000 in
set_option maxHeartbeats 1000000 in
theorem apart_true {la ca : Option Addr} {lb lo lc cb co cc n m : Nat} {L C : List Sl} (w : World) (hn : n = L.length) (hm : m = C.length) (oL : OutAt 51 w la lb lo L) (oC : OutAt 30 w ca cb co C) (aL : Apt fU w L) (aC : Apt fB w C) (hnb : n ≤ 4000000) (hmb : m ≤ 4000000) :
    Calls Try.prog 9 #[.slice la n lc, .slice ca m cc] w fun e w' => e = .returned (.bool true) ∧ Fr (fun k => inB L k ∨ inB C k) w w' := by
  have oLn : L ≠ [] → ¬ inB L lb := fun hne => by obtain ⟨_, cs, fr, h⟩ := oL.place hne; exact aL.out h (by decide)
  have oCn : C ≠ [] → ¬ inB L cb := fun hne => by obtain ⟨_, cs, fr, h⟩ := oC.place hne; exact aL.out h (by decide)
  refine calls_abs (c := cAP) Try.func9 (by kernel_rfl) 262 rfl (by simp) (fun a0 hsz hd ha => ?_)
  have g_0 := Fe.refl a0
  unfold cAP
  refine wp_seq ?_
  refine wp_region_list ?_
  unfold rAP0
  refine g_0.move 4 (.bool false) _ (Or.inr rfl) rfl (lb_ hsz) (wn rfl) rfl (fun x_1 g_1 => ?_)
  clear g_0
  refine wpList_nil ?_
  change Code.wp _ _ _ _ _
  refine wp_seq (wp_seq ?_)
  refine wp_region_list ?_
  unfold rAP1
  refine g_1.move 5 (.int .i64 ((0 : Nat) : Int)) _ (Or.inr rfl) rfl (lb_ hsz) (wn rfl) rfl (fun x_2 g_2 => ?_)
  clear g_1
  refine wpList_nil ?_
  change Code.wp _ _ _ _ _
  refine wp_block ?_
  have I0 : IX (.slice la n lc) (.slice ca m cc) x_2 := ⟨g_2.size.trans hsz, g_2.defers.trans hd, (show x_2.eval (.tmp 0) = .slice la n lc from ((g_2.at_ 0).trans (ha 0 _ rfl))), (show x_2.eval (.tmp 1) = .slice ca m cc from ((g_2.at_ 1).trans (ha 1 _ rfl)))⟩
  refine mUL (L := L) x_2 w I0 (show x_2.eval (.tmp 5) = .int .i64 ((0 : Nat) : Int) from (g_2.at_ 5)) hnb hn (fun W f => oL.fr f oLn) aL (fun a1 W1 i1 hM1 f1 => ?_)
  change Code.wp _ _ _ _ _
  have oL1 := oL.fr f1 oLn
  have oC1 := oC.fr f1 oCn
  have aC1 := aC.fr f1 (fun k hk hl => by obtain ⟨_, A, fr, h⟩ := aC.type hk; exact aL.out h (by decide) hl)
  refine wp_seq (wp_seq ?_)
  have fa1_0 := Fe.refl a1
  refine wp_region_list ?_
  unfold rAP8
  refine fa1_0.move 7 (.int .i64 ((0 : Nat) : Int)) _ (Or.inr rfl) rfl (lb_ i1.size) (wn rfl) rfl (fun a1_1 fa1_1 => ?_)
  clear fa1_0
  refine wpList_nil ?_
  change Code.wp _ _ _ _ _
  refine wp_block ?_
  have oC1n : C ≠ [] → ¬ inB C cb := fun hne => by obtain ⟨_, cs, fr, h⟩ := oC1.place hne; exact aC1.out h (by decide)
  have oL1n : L ≠ [] → ¬ inB C lb := fun hne => by obtain ⟨_, cs, fr, h⟩ := oL1.place hne; exact aC1.out h (by decide)
  refine mBL (L := C) a1_1 W1 (i1.keep fa1_1 rfl rfl) (show a1_1.eval (.tmp 7) = .int .i64 ((0 : Nat) : Int) from (fa1_1.at_ 7)) hmb hm (fun W f => oC1.fr f oC1n) aC1 (fun a2 W2 i2 hM2 f2 => ?_)
  change Code.wp _ _ _ _ _
  have oL2 := oL1.fr f2 oL1n
  have oC2 := oC1.fr f2 oC1n
  have hML := hM1.fr f2 (fun k hk hc => by obtain ⟨_, A, fr, h⟩ := hM1.apt.type hk; exact aC1.out h (by decide) hc)
  refine wp_seq ?_
  have fa2_0 := Fe.refl a2
  refine wp_region_list ?_
  unfold rAP15
  refine fa2_0.move 9 (.slice none 0 0) _ (Or.inr rfl) rfl (lb_ i2.size) (wn rfl) rfl (fun a2_1 fa2_1 => ?_)
  clear fa2_0
  refine wpList_nil ?_
  change Code.wp _ _ _ _ _
  refine wp_seq (wp_seq ?_)
  refine wp_region_list ?_
  unfold rAP16
  refine fa2_1.move 10 (.int .i64 ((0 : Nat) : Int)) _ (Or.inr rfl) rfl (lb_ i2.size) (wn rfl) rfl (fun a2_2 fa2_2 => ?_)
  clear fa2_1
  refine wpList_nil ?_
  change Code.wp _ _ _ _ _
  refine wp_block ?_
  have oL2n : L ≠ [] → ¬ inB L lb := fun hne => by obtain ⟨_, cs, fr, h⟩ := oL2.place hne; exact hML.apt.out h (by decide)
  have oC2n : C ≠ [] → ¬ inB L cb := fun hne => by obtain ⟨_, cs, fr, h⟩ := oC2.place hne; exact hML.apt.out h (by decide)
  refine gUL (L := L) a2_2 W2 (i2.keep fa2_2 rfl rfl) (show a2_2.eval (.tmp 10) = .int .i64 ((0 : Nat) : Int) from (fa2_2.at_ 10)) (show a2_2.eval (.tmp 9) = .slice none 0 0 from (fa2_2.at_ 9)) hnb hn (fun W f => oL2.fr f oL2n) hML (fun a3 W3 ma mc M i3 a9 hG => ?_)
  change Code.wp _ _ _ _ _
  have oL3 := oL2.fr hG.base oL2n
  have oC3 := oC2.fr hG.base oC2n
  have hMC := hM2.fr hG.base (fun k hk hc => by obtain ⟨_, A, fr, h⟩ := hM2.apt.type hk; exact hML.apt.out h (by decide) hc)
  refine wp_seq ?_
  have fa3_0 := Fe.refl a3
  refine wp_region_list ?_
  unfold rAP25
  refine fa3_0.move 13 (.slice none 0 0) _ (Or.inr rfl) rfl (lb_ i3.size) (wn rfl) rfl (fun a3_1 fa3_1 => ?_)
  clear fa3_0
  refine wpList_nil ?_
  change Code.wp _ _ _ _ _
  refine wp_seq (wp_seq ?_)
  refine wp_region_list ?_
  unfold rAP26
  refine fa3_1.move 14 (.int .i64 ((0 : Nat) : Int)) _ (Or.inr rfl) rfl (lb_ i3.size) (wn rfl) rfl (fun a3_2 fa3_2 => ?_)
  clear fa3_1
  refine wpList_nil ?_
  change Code.wp _ _ _ _ _
  refine wp_block ?_
  have oC3n : C ≠ [] → ¬ inB C cb := fun hne => by obtain ⟨_, cs, fr, h⟩ := oC3.place hne; exact hMC.apt.out h (by decide)
  have oL3n : L ≠ [] → ¬ inB C lb := fun hne => by obtain ⟨_, cs, fr, h⟩ := oL3.place hne; exact hMC.apt.out h (by decide)
  refine gBL (L := C) (v9 := .slice ma n mc) a3_2 W3 ⟨fa3_2.size.trans i3.size, fa3_2.defers.trans i3.defers, (fa3_2.at_ 0).trans i3.s0, (fa3_2.at_ 1).trans i3.s1, (fa3_2.at_ 9).trans a9⟩ (show a3_2.eval (.tmp 14) = .int .i64 ((0 : Nat) : Int) from (fa3_2.at_ 14)) (show a3_2.eval (.tmp 13) = .slice none 0 0 from (fa3_2.at_ 13)) hmb hm (fun W f => oC3.fr f oC3n) hMC (fun a4 W4 mb mcc M2 i4 a13 hH => ?_)
  change Code.wp _ _ _ _ _
  have oL4 := oL3.fr hH.base oL3n
  have oC4 := oC3.fr hH.base oC3n
  obtain ⟨gm, hgm⟩ := hG.blkM
  obtain ⟨gc, hgc⟩ := hH.blkM
  have hFU : ∀ i, i < n → ∃ x y, Fnd fU W4 lb lo gm i x y (100000 + i) (300000 + i) := fun i hi => by
    obtain ⟨x, hx⟩ : ∃ x, L[i]? = some x := ⟨_, List.getElem?_eq_getElem (by omega)⟩
    obtain ⟨y, h⟩ := hG.fnd (by omega) (hgm (by omega)) oL4 hML.apt hH.base (fun k hk => by obtain ⟨_, A, fr, h⟩ := hMC.apt.type hk; exact ⟨A, fr, _, (by decide), (by decide), h⟩) (fun k hk hc => by obtain ⟨_, A, fr, h⟩ := hML.apt.type hk; exact hM2.apt.out h (by decide) hc) hx
    exact ⟨x, y, h⟩
  have hFB : ∀ i, i < m → ∃ x y, Fnd fB W4 cb co gc i x y (200000 + i) (400000 + i) := fun i hi => by
    obtain ⟨x, hx⟩ : ∃ x, C[i]? = some x := ⟨_, List.getElem?_eq_getElem (by omega)⟩
    obtain ⟨y, h⟩ := hH.fnd (S := fun _ => False) (by omega) (hgc (by omega)) oC4 hMC.apt (Fr.refl _ W4) (fun k hk => hk.elim) (fun k hk hc => hc) hx
    exact ⟨x, y, h⟩
  refine wp_seq (wp_seq ?_)
  have fa4_0 := Fe.refl a4
  refine wp_region_list ?_
  unfold rAP35
  refine fa4_0.move 17 (.int .i64 ((0 : Nat) : Int)) _ (Or.inr rfl) rfl (lb_ i4.size) (wn rfl) rfl (fun a4_1 fa4_1 => ?_)
  clear fa4_0
  refine wpList_nil ?_
  change Code.wp _ _ _ _ _
  refine wp_block ?_
  refine eUL (lb := lb) (lo := lo) (gm := gm) (v13 := .slice mb m mcc) a4_1 W4 ⟨fa4_1.size.trans i4.size, fa4_1.defers.trans i4.defers, (fa4_1.at_ 0).trans i4.s0, (fa4_1.at_ 1).trans i4.s1, (fa4_1.at_ 9).trans i4.s9, (fa4_1.at_ 13).trans a13⟩ (show a4_1.eval (.tmp 17) = .int .i64 ((0 : Nat) : Int) from (fa4_1.at_ 17)) hnb (fun h => ⟨(oL4.place (by intro e; rw [e] at hn; exact h hn)).1, hgm h⟩) hFU (fun a5 i5 => ?_)
  change Code.wp _ _ _ _ _
  refine wp_seq (wp_seq ?_)
  have fa5_0 := Fe.refl a5
  refine wp_region_list ?_
  unfold rAP43
  refine fa5_0.move 19 (.int .i64 ((0 : Nat) : Int)) _ (Or.inr rfl) rfl (lb_ i5.size) (wn rfl) rfl (fun a5_1 fa5_1 => ?_)
  clear fa5_0
  refine wpList_nil ?_
  change Code.wp _ _ _ _ _
  refine wp_block ?_
  refine eBL (lb := cb) (lo := co) (gm := gc) a5_1 W4 (i5.keep fa5_1 rfl rfl rfl rfl) (show a5_1.eval (.tmp 19) = .int .i64 ((0 : Nat) : Int) from (fa5_1.at_ 19)) hmb (fun h => ⟨(oC4.place (by intro e; rw [e] at hm; exact h hm)).1, hgc h⟩) hFB (fun a6 i6 => ?_)
  change Code.wp _ _ _ _ _
  refine wp_seq ?_
  have fa6_0 := Fe.refl a6
  refine wp_region_list ?_
  unfold rAP51
  refine fa6_0.move 4 (.bool true) _ (Or.inr rfl) rfl (lb_ i6.size) (wn rfl) rfl (fun a6_1 fa6_1 => ?_)
  clear fa6_0
  refine wpList_nil ?_
  change Code.wp _ _ _ _ _
  refine wp_ret ?_
  exact ret_abs rfl (fa6_1.defers.trans i6.defers) (show a6_1.eval (.tmp 4) = .bool true from (fa6_1.at_ 4)) ⟨rfl, Fr.trans (Fr.trans (Fr.trans (Fr.mono f1 (fun k _ e => Or.inl e)) f2 (fun k _ e => Or.inr e)) hG.base (fun k _ e => Or.inl e)) hH.base (fun k _ e => Or.inr e)⟩
end Go.Proofs.Ytajbifblbmlffaa
