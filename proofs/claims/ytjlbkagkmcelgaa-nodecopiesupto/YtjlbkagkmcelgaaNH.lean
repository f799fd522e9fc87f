/- A further kid read, with its separator. -/
import Derived.Test.YtjlbkagkmcelgaaNG
import Derived.Deep.RegionLaw
import Derived.Deep.DrawnRows
namespace Go.Proofs.Ytjlbkagkmcelgaa
open Go.RowKit

structure ContBox (P : Prop) : Prop where
  out : P
theorem cont4 {R : Prop} {F : Nat → Nat → Nat → World → Prop} (H : Nat → Nat → Nat → World → Prop) (f : ContBox (∀ a b c W, H a b c W → F a b c W) → R) (p : ∀ a b c W, H a b c W → F a b c W) : R := f ⟨p⟩
theorem Try.infStr : (Try.prog.info? 9).map (fun i => (i.zero, i.size, i.bytes)) = some (some (.string ⟨#[]⟩), 1, 16) := by kernel_rfl
/-- One separator more. -/
theorem RK.sep {w W : World} {b : Nat} {s : ByteArray} {p c fb nb : Nat} {f : Bool} {sl : List ByteArray} {ao : Option Addr} {cap g2 cap2 : Nat} {W1 : World} {t : ByteArray} (h : RK w W b s p c fb nb f sl ao cap) (hown : W1.ownsRow 0 9 1 (.slice (some ⟨g2, 0, none⟩) (sl.length + 1) cap2) (sl.length + 1) (scells sl ++ [.string t])) (hg : W.grownBy W1 (Value.ownBlock (.slice ao sl.length cap))) (hat : Value.ownBlock (.slice ao sl.length cap) = some g2 ∨ g2 = W.heap.size) :
    RK w (W1.setCell ⟨nb, 1, none⟩ (.slice (some ⟨g2, 0, none⟩) (sl.length + 1) cap2)) b s p c fb nb f (sl ++ [t]) (some ⟨g2, 0, none⟩) cap2 := by
  obtain ⟨n1, n2, n3, n4, n5, n6⟩ := h.ne
  rw [own_blk] at hg hat
  have k1 : Fr (fun i => some i = ao.map (·.block)) W W1 := Fr.grown (Fr.refl _ W) hg (fun i hi _ => hi.symm)
  have k2 : Fr (fun i => i = nb) W1 (W1.setCell ⟨nb, 1, none⟩ (.slice (some ⟨g2, 0, none⟩) (sl.length + 1) cap2)) := (Fr.refl (fun i => i = nb) W1).setCell (p := ⟨nb, 1, none⟩) (fun _ => rfl) _
  have hfr : w.heap.size ≤ g2 ∧ g2 ≠ b ∧ g2 ≠ fb ∧ g2 ≠ nb := by
    rcases hat with e | e
    · exact h.fre g2 e
    · have l1 := h.rd.lt
      have l2 := lt_of_heap h.ff
      have l3 := lt_of_heap h.nf
      have l4 := h.base.size
      omega
  have hb' : ¬ some b = ao.map (·.block) := fun e => (h.fre b e.symm).2.1 rfl
  have hf' : ¬ some fb = ao.map (·.block) := fun e => (h.fre fb e.symm).2.2.1 rfl
  have hn' : ¬ some nb = ao.map (·.block) := fun e => (h.fre nb e.symm).2.2.2 rfl
  have el : (sl ++ [t]).length = sl.length + 1 := by simp
  refine ⟨(h.rd.frame k1 hb').frame k2 n5, h.ne, (k2.block fb (lt_of_heap ((k1.block fb (lt_of_heap h.ff) hf').trans h.ff)) n6).trans ((k1.block fb (lt_of_heap h.ff) hf').trans h.ff), ?_, ?_, ?_, ?_⟩
  · have := heap_setCell_same W1 nb 1 _ _ (.slice (some ⟨g2, 0, none⟩) (sl.length + 1) cap2) ((k1.block nb (lt_of_heap h.nf) hn').trans h.nf)
    rw [el]
    simpa using this
  · rw [el, scells_append]
    exact own_frame2 hown k2 (fun i hi e => hfr.2.2.2 (by have : g2 = i := Option.some.inj hi; omega))
  · intro k hk
    have : g2 = k := by simpa using hk
    subst this
    exact hfr
  · exact Fr.trans (Fr.trans h.base k1 (fun i hi e => by have := (h.fre i e.symm).1; omega)) k2 (fun i hi e => by omega)

set_option maxRecDepth 100000 in
set_option maxHeartbeats 2000000 in
theorem kidTwo_page {pg : Int} (hpg : pg = 1024 ∨ pg = 2048 ∨ pg = 4096 ∨ pg = 8192) {w W : World} {b : Nat} {s : ByteArray} {p c fb nb xb ab : Nat} {sl : List ByteArray} {ao : Option Addr} {cap : Nat} (q : Int) (h : RK w W b s p c fb nb false sl ao cap) (hsl : sl.length ≤ 100000000000)
    (hx : w.cell? ⟨xb, 1, none⟩ = some (.func (.func 40) #[] #[])) (ha0 : w.cell? ⟨ab, 0, none⟩ = some (.int .i64 pg)) (ha : w.cell? ⟨ab, 1, none⟩ = some (.int .i64 q)) {t : ByteArray} {p1 c1 : Nat} (ht : rText s p c (pg / 16) = (t, p1, c1)) :
    Calls Try.prog 77 #[.pointer (some ⟨b, 0, none⟩), .pointer (some ⟨fb, 0, none⟩), .pointer (some ⟨nb, 0, none⟩), .pointer (some ⟨ab, 0, none⟩), .pointer (some ⟨xb, 0, none⟩)] W fun e w' => e = .returned (kidV (rdKid q s p1 c1).1) ∧ ∃ ao2 cap2, RK w w' b s (rdKid q s p1 c1).2.1 (rdKid q s p1 c1).2.2 fb nb false (sl ++ [t]) ao2 cap2 ∧ Fr (RKf b fb nb ao) W w' ∧ ∀ k, ao2.map (·.block) = some k → ao.map (·.block) = some k ∨ W.heap.size ≤ k := by
  have h1 := h.same ((Fr.refl _ W).alloc (.cells #[.int .u32 0, .int .u8 0, .int .u8 0, .int .u8 0, .int .u8 0, .int .u8 0, .int .u8 0, .int .u8 0, .int .u8 0, .int .u8 0, .int .u8 0, .int .u8 0, .int .u8 0, .int .u8 0, .int .u8 0, .int .u8 0, .int .u8 0, .int .u8 0, .int .u8 0, .int .u8 0, .int .u8 0, .int .u8 0, .int .u8 0, .int .u8 0, .int .u8 0, .int .u8 0, .int .u8 0, .int .u8 0, .int .u8 0, .int .u8 0, .int .u8 0, .int .u8 0, .int .u8 0] 37))
  obtain ⟨V, hV⟩ : ∃ V, V = W.alloc (.cells #[.int .u32 0, .int .u8 0, .int .u8 0, .int .u8 0, .int .u8 0, .int .u8 0, .int .u8 0, .int .u8 0, .int .u8 0, .int .u8 0, .int .u8 0, .int .u8 0, .int .u8 0, .int .u8 0, .int .u8 0, .int .u8 0, .int .u8 0, .int .u8 0, .int .u8 0, .int .u8 0, .int .u8 0, .int .u8 0, .int .u8 0, .int .u8 0, .int .u8 0, .int .u8 0, .int .u8 0, .int .u8 0, .int .u8 0, .int .u8 0, .int .u8 0, .int .u8 0, .int .u8 0] 37) := ⟨_, rfl⟩
  have r0 : V.heap[W.heap.size]? = some (.cells #[.int .u32 0, .int .u8 0, .int .u8 0, .int .u8 0, .int .u8 0, .int .u8 0, .int .u8 0, .int .u8 0, .int .u8 0, .int .u8 0, .int .u8 0, .int .u8 0, .int .u8 0, .int .u8 0, .int .u8 0, .int .u8 0, .int .u8 0, .int .u8 0, .int .u8 0, .int .u8 0, .int .u8 0, .int .u8 0, .int .u8 0, .int .u8 0, .int .u8 0, .int .u8 0, .int .u8 0, .int .u8 0, .int .u8 0, .int .u8 0, .int .u8 0, .int .u8 0, .int .u8 0] 37 (0, 0)) := by rw [hV]; exact heap_alloc_new W _
  have y0 : Same W V := by rw [hV]; exact (Fr.refl _ W).alloc _
  obtain ⟨c0', f0', n0', g0'⟩ := h1.cells
  rw [← hV] at h1
  have HM : Hid (∀ X, Calls Try.prog 75 #[frameV pg q] X fun e w' => e = .returned (.int .i64 (pg / 16)) ∧ Same X w') := MaxKey_calls hpg
  have HT : Hid (∀ X, RdAt X b s p c → Calls Try.prog 74 #[.pointer (some ⟨b, 0, none⟩), .int .i64 (pg / 16)] X fun e w' => e = .returned (.string t) ∧ RdAt w' b s p1 c1 ∧ RdStep b X w') := fun X hX => by
    have := rtext_calls hX (pg / 16) (by omega)
    rw [ht] at this
    exact this
  obtain ⟨mk, hmk⟩ : ∃ mk : Int, mk = pg / 16 := ⟨_, rfl⟩
  rw [← hmk] at HM HT
  have x0 := h1.base.keep ha0
  have x1 := h1.base.keep ha
  have hok := rdKid_ok q s p1 c1
  have hz := Try.infoKid2 hok
  have hks : (kcells (rdKid q s p1 c1).1).toArray.size = 33 := by rw [List.size_toArray, kcells_length hok.d]
  have hko := kcells_one (rdKid q s p1 c1).1
  have HR : Hid (∀ V sl2 ao2 cap2, RK w V b s p1 c1 fb nb false sl2 ao2 cap2 → Calls Try.prog 40 #[.int .i64 q, .pointer (some ⟨b, 0, none⟩)] V fun e w' => e = .returned (kidV (rdKid q s p1 c1).1) ∧ RK w w' b s (rdKid q s p1 c1).2.1 (rdKid q s p1 c1).2.2 fb nb false sl2 ao2 cap2 ∧ RdStep b V w') := fun V _ _ _ hV => (fn_kid hV.rd q).mono fun e w' ⟨he, hr, st⟩ => ⟨he, hV.rstep hr st, st⟩
  unfold kidV at HR ⊢
  generalize (kcells (rdKid q s p1 c1).1).toArray = KA at *
  obtain ⟨p2, hp2⟩ : ∃ p2, p2 = (rdKid q s p1 c1).2.1 := ⟨_, rfl⟩
  obtain ⟨c2, hc2⟩ : ∃ c2, c2 = (rdKid q s p1 c1).2.2 := ⟨_, rfl⟩
  rw [← hp2, ← hc2] at HR ⊢
  clear hok hp2 hc2
  clear hmk ht hpg
  go_enter Try.func77, Try.ntmps77
  go_wp2_with fail
  rw [← hV]
  obtain ⟨c0, f0, n0, g0⟩ := h1.cells
  clear c0' f0' n0' g0' hV
--REG
  obtain ⟨i0, hi, hz0, hz1, hz2⟩ := info_parts Try.infStr
  have HFB : Hid (∀ k, ao.map (·.block) = some k → k < W.heap.size) := fun k hk => own_lt2 h.own (by rw [own_blk]; exact hk)
  have hlb : b < W.heap.size := h.rd.lt
  have hln : nb < W.heap.size := lt_of_heap h.nf
  have hlf : fb < W.heap.size := lt_of_heap h.ff
  have hh := h1
  have rr := r0
  have yy : Fr (RKf b fb nb ao) W V := y0.mono (fun _ _ f => f.elim)
  clear h1 r0 y0
  apply cont4 (fun (_ g2 cap2 : Nat) (X : World) => RK w X b s p1 c1 fb nb false (sl ++ [t]) (some ⟨g2, 0, none⟩) cap2 ∧ X.heap[W.heap.size]? = some (.cells #[.int .u32 0, .int .u8 0, .int .u8 0, .int .u8 0, .int .u8 0, .int .u8 0, .int .u8 0, .int .u8 0, .int .u8 0, .int .u8 0, .int .u8 0, .int .u8 0, .int .u8 0, .int .u8 0, .int .u8 0, .int .u8 0, .int .u8 0, .int .u8 0, .int .u8 0, .int .u8 0, .int .u8 0, .int .u8 0, .int .u8 0, .int .u8 0, .int .u8 0, .int .u8 0, .int .u8 0, .int .u8 0, .int .u8 0, .int .u8 0, .int .u8 0, .int .u8 0, .int .u8 0] 37 (0, 0)) ∧ Fr (RKf b fb nb ao) W X ∧ (ao.map (·.block) = some g2 ∨ W.heap.size ≤ g2))
  · intro hcont
    refine wp_region_held_drew (S := fun X => X.cell? ⟨ab, 0, none⟩ = some (.int .i64 pg) ∧ X.cell? ⟨ab, 1, none⟩ = some (.int .i64 q)) (by kernel_rfl) (⟨x0, x1⟩) (fun hHeld => ?_)
    refine wpAnyH_take (i := 0) (oi := { dst := some 9, op := Op.fieldAddr 26 (Operand.tmp 2) 1, type := 0, pos := "form.go:88", after := #[], guard := none }) (v := .pointer (some ⟨nb, 1, none⟩)) rfl (by kernel_rfl) (by kernel_rfl) (by kernel_rfl) (fun _ _ _ h => h) (Or.inl ⟨by rfl, fun w hSw => by go_simp⟩) (by assumption) ?_
    try simp only [Act.put, List.setIfInBounds_toArray, List.set_cons_zero, List.set_cons_succ]
    refine wpAnyH_take (i := 2) (oi := { dst := some 11, op := Op.move (Operand.tmp 0), type := 90, pos := "form.go:88", after := #[], guard := none }) (v := .pointer (some ⟨b, 0, none⟩)) rfl (by kernel_rfl) (by kernel_rfl) (by kernel_rfl) (fun _ _ _ h => h) (Or.inl ⟨by rfl, fun w hSw => by go_simp⟩) (by assumption) ?_
    try simp only [Act.put, List.setIfInBounds_toArray, List.set_cons_zero, List.set_cons_succ]
    refine wpAnyH_take (i := 3) (oi := { dst := some 12, op := Op.load 48 (Operand.tmp 3), type := 48, pos := "form.go:88", after := #[], guard := none }) (v := .agg #[.int .i64 pg, .int .i64 q]) rfl (by kernel_rfl) (by kernel_rfl) (by kernel_rfl) (fun _ _ _ h => h) (Or.inl ⟨by rfl, fun w hSw => by (obtain ⟨y0, y1⟩ := hSw; go_simp)⟩) (by assumption) ?_
    try simp only [Act.put, List.setIfInBounds_toArray, List.set_cons_zero, List.set_cons_succ]
    refine wpAnyH_ready (rs := [1, 4]) (by kernel_rfl) (by simp) ?_
    refine (AllReadyH.cons (o := { dst := some 10, op := Op.load 23 (Operand.tmp 9), type := 23, pos := "form.go:88", after := #[{ on := 0, ground := Ground.data }], guard := none }) rfl (fun K hK => ?_) (AllReadyH.cons (o := { dst := some 13, op := Op.call { callee := Callee.value (Operand.func 75), args := #[Operand.tmp 12], argTypes := #[48] }, type := 3, pos := "form.go:88", after := #[{ on := 3, ground := Ground.data }], guard := none }) rfl (fun K hK => ?_) AllReadyH.nil))
    · go_simp
      refine hK.out _ _ ⟨x0, x1⟩ (fun hHeld => ?_)
      clear hK K
      try simp only [Act.put, List.setIfInBounds_toArray, List.set_cons_zero, List.set_cons_succ]
      refine wpAnyH_ready (rs := [4]) (by kernel_rfl) (by simp) ?_
      refine (AllReadyH.cons (o := { dst := some 13, op := Op.call { callee := Callee.value (Operand.func 75), args := #[Operand.tmp 12], argTypes := #[48] }, type := 3, pos := "form.go:88", after := #[{ on := 3, ground := Ground.data }], guard := none }) rfl (fun K hK => ?_) AllReadyH.nil)
      go_simp
      go_at_call 75
      refine (HM.out _).mono ?_
      rintro e W1 ⟨rfl, s1⟩
      try go_wp2_with fail
      have s1 : Same V W1 := Same.trans (Fr.drew (Fr.refl _ _)) s1
      have hh := hh.same s1
      have rr := (s1.block W.heap.size (lt_of_heap rr) (fun f => f)).trans rr
      have yy := Fr.trans yy s1 (fun i _ f => f.elim)
      clear s1
      obtain ⟨_, _, n0, g0⟩ := hh.cells
      have x0 := hh.base.keep ha0
      have x1 := hh.base.keep ha
      refine hK.out _ _ ⟨x0, x1⟩ (fun hHeld => ?_)
      clear hK K
      try simp only [Act.put, List.setIfInBounds_toArray, List.set_cons_zero, List.set_cons_succ]
      refine wpAnyH_ready (rs := [5]) (by kernel_rfl) (by simp) ?_
      refine (AllReadyH.cons (o := { dst := some 14, op := Op.call { callee := Callee.value (Operand.func 74), args := #[Operand.tmp 11, Operand.tmp 13], argTypes := #[90, 3] }, type := 9, pos := "form.go:88", after := #[{ on := 2, ground := Ground.data }, { on := 4, ground := Ground.data }, { on := 4, ground := Ground.chain }], guard := none }) rfl (fun K hK => ?_) AllReadyH.nil)
      go_simp
      go_at_call 74
      refine (HT.out _ hh.rd).mono ?_
      rintro e W2 ⟨rfl, g2, st2⟩
      try go_wp2_with fail
      have rr := (st2.block W.heap.size (lt_of_heap rr) (by have := hlb; omega)).trans rr
      have yy := Fr.trans yy st2 (fun i _ e => Or.inl e)
      have hh := hh.rstep g2 st2
      clear g2 st2
      obtain ⟨_, _, n0, g0⟩ := hh.cells
      have x0 := hh.base.keep ha0
      have x1 := hh.base.keep ha
      refine hK.out _ _ ⟨x0, x1⟩ (fun hHeld => ?_)
      clear hK K
      try simp only [Act.put, List.setIfInBounds_toArray, List.set_cons_zero, List.set_cons_succ]
      refine wpAnyH_ready (rs := [6]) (by kernel_rfl) (by simp) ?_
      refine (AllReadyH.cons (o := { dst := some 15, op := Op.buildSlice 23 1 #[(0, Operand.tmp 14)], type := 23, pos := "form.go:88", after := #[{ on := 5, ground := Ground.data }], guard := none }) rfl (fun K hK => ?_) AllReadyH.nil)
      go_simp
      have sb : Same W2 (W2.alloc (.cells #[.string t] 9)) := (Fr.refl _ _).alloc _
      have nw : (W2.alloc (.cells #[.string t] 9)).heap[W2.heap.size]? = some (.cells #[.string t] 9 (0, 0)) := heap_alloc_new W2 _
      have lt2 : W2.heap.size < (W2.alloc (.cells #[.string t] 9)).heap.size := lt_of_heap nw
      have hh := hh.same sb
      have rr := (sb.block W.heap.size (lt_of_heap rr) (fun f => f)).trans rr
      have yy := Fr.trans yy sb (fun i _ f => f.elim)
      generalize W2.alloc (.cells #[.string t] 9) = W3 at *
      generalize W2.heap.size = B3 at *
      clear sb
      obtain ⟨_, _, n0, g0⟩ := hh.cells
      have x0 := hh.base.keep ha0
      have x1 := hh.base.keep ha
      refine hK.out _ _ ⟨x0, x1⟩ (fun hHeld => ?_)
      clear hK K
      try simp only [Act.put, List.setIfInBounds_toArray, List.set_cons_zero, List.set_cons_succ]
      refine wpAnyH_ready (rs := [7]) (by kernel_rfl) (by simp) ?_
      refine (AllReadyH.cons (o := { dst := some 16, op := Op.call { callee := Callee.builtin Builtin.append, args := #[Operand.tmp 10, Operand.tmp 15], argTypes := #[23, 23] }, type := 23, pos := "form.go:88", after := #[{ on := 1, ground := Ground.data }, { on := 6, ground := Ground.data }, { on := 5, ground := Ground.chain }], guard := none }) rfl (fun K hK => ?_) AllReadyH.nil)
      refine step_append_lies _ (by rfl) _ _ _ (by rfl) 0 9 i0 (.string ⟨#[]⟩) 1 16 Try.underlying23 hi hz0 hz1 hz2 rfl (by decide) _ _ _ (by rfl) hh.own ⟨B3, 0, none⟩ 1 1 [Value.string t] (by rfl) (by rfl) (World.news_of_block nw) (by simp [Value.oneCell']) (by decide) (by unfold maxLen; omega) (by omega) (Nat.zero_le _) W3.heap.size rfl ?_
      intro g2 cap2 W4 hown2 hgrow hat hlt4
      have hat2 : ao.map (·.block) = some g2 ∨ W.heap.size ≤ g2 := by (have hat := hat; rw [own_blk] at hat; rcases hat with e | e; exact Or.inl e; exact Or.inr (by have := yy.size; omega))
      have hf := hh.sep hown2 hgrow hat
      have k1 : Fr (fun i => some i = ao.map (·.block)) W3 W4 := Fr.grown (Fr.refl _ W3) hgrow (fun i hi _ => by rw [own_blk] at hi; exact hi.symm)
      have n4 : W4.heap[nb]? = some (.cells #[.slice none 0 0, .slice ao sl.length cap, .slice none 0 0] 26 (0, 0)) := (k1.block nb (lt_of_heap hh.nf) (fun e => (hh.fre nb e.symm).2.2.2 rfl)).trans hh.nf
      have n0 : W4.cell? ⟨nb, 1, none⟩ = some (.slice ao sl.length cap) := by rw [cell_of_row _ _ _ _ _ _ n4]; rfl
      have g0 : W4.frozen? ⟨nb, 1, none⟩ = false := frozen_of_row W4 nb 1 _ _ n4
      have x0 : W4.cell? ⟨ab, 0, none⟩ = some (.int .i64 pg) := (k1.cell (p := ⟨ab, 0, none⟩) (World.block_lt_of_cell? _ _ x0) (fun e => by have := (hh.fre ab e.symm).1; have := World.block_lt_of_cell? _ _ ha0; simp only at this; omega)).trans x0
      have x1 : W4.cell? ⟨ab, 1, none⟩ = some (.int .i64 q) := (k1.cell (p := ⟨ab, 1, none⟩) (World.block_lt_of_cell? _ _ x1) (fun e => by have := (hh.fre ab e.symm).1; have := World.block_lt_of_cell? _ _ ha0; simp only at this; omega)).trans x1
      have rr : W4.heap[W.heap.size]? = _ := (k1.block W.heap.size (lt_of_heap rr) (fun e => by have := HFB.out _ e.symm; omega)).trans rr
      have yy := Fr.trans yy k1 (fun i _ e => Or.inr (Or.inr (Or.inr e)))
      refine hK.out _ _ ⟨x0, x1⟩ (fun hHeld => ?_)
      clear hK K
      try simp only [Act.put, List.setIfInBounds_toArray, List.set_cons_zero, List.set_cons_succ]
      refine wpAnyH_take (i := 8) (oi := { dst := some 17, op := Op.fieldAddr 26 (Operand.tmp 2) 1, type := 0, pos := "form.go:88", after := #[{ on := 0, ground := Ground.phase }, { on := 1, ground := Ground.phase }, { on := 2, ground := Ground.phase }, { on := 3, ground := Ground.phase }, { on := 4, ground := Ground.phase }, { on := 5, ground := Ground.phase }, { on := 6, ground := Ground.phase }, { on := 7, ground := Ground.phase }], guard := none }) (v := .pointer (some ⟨nb, 1, none⟩)) rfl (by kernel_rfl) (by kernel_rfl) (by kernel_rfl) (fun _ _ _ h => h) (Or.inl ⟨by rfl, fun w hSw => by go_simp⟩) (by assumption) ?_
      try simp only [Act.put, List.setIfInBounds_toArray, List.set_cons_zero, List.set_cons_succ]
      refine wpAnyH_ready (rs := [9]) (by kernel_rfl) (by simp) ?_
      refine (AllReadyH.cons (o := { dst := none, op := Op.store 23 (Operand.tmp 17) (Operand.tmp 16), type := 0, pos := "form.go:88", after := #[{ on := 8, ground := Ground.data }, { on := 7, ground := Ground.data }, { on := 7, ground := Ground.chain }, { on := 0, ground := Ground.phase }, { on := 1, ground := Ground.phase }, { on := 2, ground := Ground.phase }, { on := 3, ground := Ground.phase }, { on := 4, ground := Ground.phase }, { on := 5, ground := Ground.phase }, { on := 6, ground := Ground.phase }, { on := 7, ground := Ground.phase }], guard := none }) rfl (fun K hK => ?_) AllReadyH.nil)
      go_simp
      have x0 := hf.base.keep ha0
      have x1 := hf.base.keep ha
      have k2 : Fr (fun i => i = nb) W4 (W4.setCell ⟨nb, 1, none⟩ (.slice (some ⟨g2, 0, none⟩) (sl.length + 1) cap2)) := (Fr.refl (fun i => i = nb) W4).setCell (p := ⟨nb, 1, none⟩) (fun _ => rfl) _
      have rr := (k2.block W.heap.size (lt_of_heap rr) (by have := hln; omega)).trans rr
      have yy := Fr.trans yy k2 (fun i _ e => Or.inr (Or.inr (Or.inl e)))
      generalize W4.setCell ⟨nb, 1, none⟩ (.slice (some ⟨g2, 0, none⟩) (sl.length + 1) cap2) = W5 at *
      refine hK.out _ _ ⟨x0, x1⟩ (fun hHeld => ?_)
      clear hK K
      try simp only [Act.put]
      refine wpAnyH_done (by kernel_rfl) ?_ _
      exact hcont.out B3 g2 cap2 W5 ⟨hf, rr, yy, hat2⟩
    · go_simp
      go_at_call 75
      refine (HM.out _).mono ?_
      rintro e W1 ⟨rfl, s1⟩
      try go_wp2_with fail
      have s1 : Same V W1 := Same.trans (Fr.drew (Fr.refl _ _)) s1
      have hh := hh.same s1
      have rr := (s1.block W.heap.size (lt_of_heap rr) (fun f => f)).trans rr
      have yy := Fr.trans yy s1 (fun i _ f => f.elim)
      clear s1
      obtain ⟨_, _, n0, g0⟩ := hh.cells
      have x0 := hh.base.keep ha0
      have x1 := hh.base.keep ha
      refine hK.out _ _ ⟨x0, x1⟩ (fun hHeld => ?_)
      clear hK K
      try simp only [Act.put, List.setIfInBounds_toArray, List.set_cons_zero, List.set_cons_succ]
      refine wpAnyH_ready (rs := [1, 5]) (by kernel_rfl) (by simp) ?_
      refine (AllReadyH.cons (o := { dst := some 10, op := Op.load 23 (Operand.tmp 9), type := 23, pos := "form.go:88", after := #[{ on := 0, ground := Ground.data }], guard := none }) rfl (fun K hK => ?_) (AllReadyH.cons (o := { dst := some 14, op := Op.call { callee := Callee.value (Operand.func 74), args := #[Operand.tmp 11, Operand.tmp 13], argTypes := #[90, 3] }, type := 9, pos := "form.go:88", after := #[{ on := 2, ground := Ground.data }, { on := 4, ground := Ground.data }, { on := 4, ground := Ground.chain }], guard := none }) rfl (fun K hK => ?_) AllReadyH.nil))
      · go_simp
        refine hK.out _ _ ⟨x0, x1⟩ (fun hHeld => ?_)
        clear hK K
        try simp only [Act.put, List.setIfInBounds_toArray, List.set_cons_zero, List.set_cons_succ]
        refine wpAnyH_ready (rs := [5]) (by kernel_rfl) (by simp) ?_
        refine (AllReadyH.cons (o := { dst := some 14, op := Op.call { callee := Callee.value (Operand.func 74), args := #[Operand.tmp 11, Operand.tmp 13], argTypes := #[90, 3] }, type := 9, pos := "form.go:88", after := #[{ on := 2, ground := Ground.data }, { on := 4, ground := Ground.data }, { on := 4, ground := Ground.chain }], guard := none }) rfl (fun K hK => ?_) AllReadyH.nil)
        go_simp
        go_at_call 74
        refine (HT.out _ hh.rd).mono ?_
        rintro e W2 ⟨rfl, g2, st2⟩
        try go_wp2_with fail
        have rr := (st2.block W.heap.size (lt_of_heap rr) (by have := hlb; omega)).trans rr
        have yy := Fr.trans yy st2 (fun i _ e => Or.inl e)
        have hh := hh.rstep g2 st2
        clear g2 st2
        obtain ⟨_, _, n0, g0⟩ := hh.cells
        have x0 := hh.base.keep ha0
        have x1 := hh.base.keep ha
        refine hK.out _ _ ⟨x0, x1⟩ (fun hHeld => ?_)
        clear hK K
        try simp only [Act.put, List.setIfInBounds_toArray, List.set_cons_zero, List.set_cons_succ]
        refine wpAnyH_ready (rs := [6]) (by kernel_rfl) (by simp) ?_
        refine (AllReadyH.cons (o := { dst := some 15, op := Op.buildSlice 23 1 #[(0, Operand.tmp 14)], type := 23, pos := "form.go:88", after := #[{ on := 5, ground := Ground.data }], guard := none }) rfl (fun K hK => ?_) AllReadyH.nil)
        go_simp
        have sb : Same W2 (W2.alloc (.cells #[.string t] 9)) := (Fr.refl _ _).alloc _
        have nw : (W2.alloc (.cells #[.string t] 9)).heap[W2.heap.size]? = some (.cells #[.string t] 9 (0, 0)) := heap_alloc_new W2 _
        have lt2 : W2.heap.size < (W2.alloc (.cells #[.string t] 9)).heap.size := lt_of_heap nw
        have hh := hh.same sb
        have rr := (sb.block W.heap.size (lt_of_heap rr) (fun f => f)).trans rr
        have yy := Fr.trans yy sb (fun i _ f => f.elim)
        generalize W2.alloc (.cells #[.string t] 9) = W3 at *
        generalize W2.heap.size = B3 at *
        clear sb
        obtain ⟨_, _, n0, g0⟩ := hh.cells
        have x0 := hh.base.keep ha0
        have x1 := hh.base.keep ha
        refine hK.out _ _ ⟨x0, x1⟩ (fun hHeld => ?_)
        clear hK K
        try simp only [Act.put, List.setIfInBounds_toArray, List.set_cons_zero, List.set_cons_succ]
        refine wpAnyH_ready (rs := [7]) (by kernel_rfl) (by simp) ?_
        refine (AllReadyH.cons (o := { dst := some 16, op := Op.call { callee := Callee.builtin Builtin.append, args := #[Operand.tmp 10, Operand.tmp 15], argTypes := #[23, 23] }, type := 23, pos := "form.go:88", after := #[{ on := 1, ground := Ground.data }, { on := 6, ground := Ground.data }, { on := 5, ground := Ground.chain }], guard := none }) rfl (fun K hK => ?_) AllReadyH.nil)
        refine step_append_lies _ (by rfl) _ _ _ (by rfl) 0 9 i0 (.string ⟨#[]⟩) 1 16 Try.underlying23 hi hz0 hz1 hz2 rfl (by decide) _ _ _ (by rfl) hh.own ⟨B3, 0, none⟩ 1 1 [Value.string t] (by rfl) (by rfl) (World.news_of_block nw) (by simp [Value.oneCell']) (by decide) (by unfold maxLen; omega) (by omega) (Nat.zero_le _) W3.heap.size rfl ?_
        intro g2 cap2 W4 hown2 hgrow hat hlt4
        have hat2 : ao.map (·.block) = some g2 ∨ W.heap.size ≤ g2 := by (have hat := hat; rw [own_blk] at hat; rcases hat with e | e; exact Or.inl e; exact Or.inr (by have := yy.size; omega))
        have hf := hh.sep hown2 hgrow hat
        have k1 : Fr (fun i => some i = ao.map (·.block)) W3 W4 := Fr.grown (Fr.refl _ W3) hgrow (fun i hi _ => by rw [own_blk] at hi; exact hi.symm)
        have n4 : W4.heap[nb]? = some (.cells #[.slice none 0 0, .slice ao sl.length cap, .slice none 0 0] 26 (0, 0)) := (k1.block nb (lt_of_heap hh.nf) (fun e => (hh.fre nb e.symm).2.2.2 rfl)).trans hh.nf
        have n0 : W4.cell? ⟨nb, 1, none⟩ = some (.slice ao sl.length cap) := by rw [cell_of_row _ _ _ _ _ _ n4]; rfl
        have g0 : W4.frozen? ⟨nb, 1, none⟩ = false := frozen_of_row W4 nb 1 _ _ n4
        have x0 : W4.cell? ⟨ab, 0, none⟩ = some (.int .i64 pg) := (k1.cell (p := ⟨ab, 0, none⟩) (World.block_lt_of_cell? _ _ x0) (fun e => by have := (hh.fre ab e.symm).1; have := World.block_lt_of_cell? _ _ ha0; simp only at this; omega)).trans x0
        have x1 : W4.cell? ⟨ab, 1, none⟩ = some (.int .i64 q) := (k1.cell (p := ⟨ab, 1, none⟩) (World.block_lt_of_cell? _ _ x1) (fun e => by have := (hh.fre ab e.symm).1; have := World.block_lt_of_cell? _ _ ha0; simp only at this; omega)).trans x1
        have rr : W4.heap[W.heap.size]? = _ := (k1.block W.heap.size (lt_of_heap rr) (fun e => by have := HFB.out _ e.symm; omega)).trans rr
        have yy := Fr.trans yy k1 (fun i _ e => Or.inr (Or.inr (Or.inr e)))
        refine hK.out _ _ ⟨x0, x1⟩ (fun hHeld => ?_)
        clear hK K
        try simp only [Act.put, List.setIfInBounds_toArray, List.set_cons_zero, List.set_cons_succ]
        refine wpAnyH_take (i := 8) (oi := { dst := some 17, op := Op.fieldAddr 26 (Operand.tmp 2) 1, type := 0, pos := "form.go:88", after := #[{ on := 0, ground := Ground.phase }, { on := 1, ground := Ground.phase }, { on := 2, ground := Ground.phase }, { on := 3, ground := Ground.phase }, { on := 4, ground := Ground.phase }, { on := 5, ground := Ground.phase }, { on := 6, ground := Ground.phase }, { on := 7, ground := Ground.phase }], guard := none }) (v := .pointer (some ⟨nb, 1, none⟩)) rfl (by kernel_rfl) (by kernel_rfl) (by kernel_rfl) (fun _ _ _ h => h) (Or.inl ⟨by rfl, fun w hSw => by go_simp⟩) (by assumption) ?_
        try simp only [Act.put, List.setIfInBounds_toArray, List.set_cons_zero, List.set_cons_succ]
        refine wpAnyH_ready (rs := [9]) (by kernel_rfl) (by simp) ?_
        refine (AllReadyH.cons (o := { dst := none, op := Op.store 23 (Operand.tmp 17) (Operand.tmp 16), type := 0, pos := "form.go:88", after := #[{ on := 8, ground := Ground.data }, { on := 7, ground := Ground.data }, { on := 7, ground := Ground.chain }, { on := 0, ground := Ground.phase }, { on := 1, ground := Ground.phase }, { on := 2, ground := Ground.phase }, { on := 3, ground := Ground.phase }, { on := 4, ground := Ground.phase }, { on := 5, ground := Ground.phase }, { on := 6, ground := Ground.phase }, { on := 7, ground := Ground.phase }], guard := none }) rfl (fun K hK => ?_) AllReadyH.nil)
        go_simp
        have x0 := hf.base.keep ha0
        have x1 := hf.base.keep ha
        have k2 : Fr (fun i => i = nb) W4 (W4.setCell ⟨nb, 1, none⟩ (.slice (some ⟨g2, 0, none⟩) (sl.length + 1) cap2)) := (Fr.refl (fun i => i = nb) W4).setCell (p := ⟨nb, 1, none⟩) (fun _ => rfl) _
        have rr := (k2.block W.heap.size (lt_of_heap rr) (by have := hln; omega)).trans rr
        have yy := Fr.trans yy k2 (fun i _ e => Or.inr (Or.inr (Or.inl e)))
        generalize W4.setCell ⟨nb, 1, none⟩ (.slice (some ⟨g2, 0, none⟩) (sl.length + 1) cap2) = W5 at *
        refine hK.out _ _ ⟨x0, x1⟩ (fun hHeld => ?_)
        clear hK K
        try simp only [Act.put]
        refine wpAnyH_done (by kernel_rfl) ?_ _
        exact hcont.out B3 g2 cap2 W5 ⟨hf, rr, yy, hat2⟩
      · go_simp
        go_at_call 74
        refine (HT.out _ hh.rd).mono ?_
        rintro e W2 ⟨rfl, g2, st2⟩
        try go_wp2_with fail
        have rr := (st2.block W.heap.size (lt_of_heap rr) (by have := hlb; omega)).trans rr
        have yy := Fr.trans yy st2 (fun i _ e => Or.inl e)
        have hh := hh.rstep g2 st2
        clear g2 st2
        obtain ⟨_, _, n0, g0⟩ := hh.cells
        have x0 := hh.base.keep ha0
        have x1 := hh.base.keep ha
        refine hK.out _ _ ⟨x0, x1⟩ (fun hHeld => ?_)
        clear hK K
        try simp only [Act.put, List.setIfInBounds_toArray, List.set_cons_zero, List.set_cons_succ]
        refine wpAnyH_ready (rs := [1, 6]) (by kernel_rfl) (by simp) ?_
        refine (AllReadyH.cons (o := { dst := some 10, op := Op.load 23 (Operand.tmp 9), type := 23, pos := "form.go:88", after := #[{ on := 0, ground := Ground.data }], guard := none }) rfl (fun K hK => ?_) (AllReadyH.cons (o := { dst := some 15, op := Op.buildSlice 23 1 #[(0, Operand.tmp 14)], type := 23, pos := "form.go:88", after := #[{ on := 5, ground := Ground.data }], guard := none }) rfl (fun K hK => ?_) AllReadyH.nil))
        · go_simp
          refine hK.out _ _ ⟨x0, x1⟩ (fun hHeld => ?_)
          clear hK K
          try simp only [Act.put, List.setIfInBounds_toArray, List.set_cons_zero, List.set_cons_succ]
          refine wpAnyH_ready (rs := [6]) (by kernel_rfl) (by simp) ?_
          refine (AllReadyH.cons (o := { dst := some 15, op := Op.buildSlice 23 1 #[(0, Operand.tmp 14)], type := 23, pos := "form.go:88", after := #[{ on := 5, ground := Ground.data }], guard := none }) rfl (fun K hK => ?_) AllReadyH.nil)
          go_simp
          have sb : Same W2 (W2.alloc (.cells #[.string t] 9)) := (Fr.refl _ _).alloc _
          have nw : (W2.alloc (.cells #[.string t] 9)).heap[W2.heap.size]? = some (.cells #[.string t] 9 (0, 0)) := heap_alloc_new W2 _
          have lt2 : W2.heap.size < (W2.alloc (.cells #[.string t] 9)).heap.size := lt_of_heap nw
          have hh := hh.same sb
          have rr := (sb.block W.heap.size (lt_of_heap rr) (fun f => f)).trans rr
          have yy := Fr.trans yy sb (fun i _ f => f.elim)
          generalize W2.alloc (.cells #[.string t] 9) = W3 at *
          generalize W2.heap.size = B3 at *
          clear sb
          obtain ⟨_, _, n0, g0⟩ := hh.cells
          have x0 := hh.base.keep ha0
          have x1 := hh.base.keep ha
          refine hK.out _ _ ⟨x0, x1⟩ (fun hHeld => ?_)
          clear hK K
          try simp only [Act.put, List.setIfInBounds_toArray, List.set_cons_zero, List.set_cons_succ]
          refine wpAnyH_ready (rs := [7]) (by kernel_rfl) (by simp) ?_
          refine (AllReadyH.cons (o := { dst := some 16, op := Op.call { callee := Callee.builtin Builtin.append, args := #[Operand.tmp 10, Operand.tmp 15], argTypes := #[23, 23] }, type := 23, pos := "form.go:88", after := #[{ on := 1, ground := Ground.data }, { on := 6, ground := Ground.data }, { on := 5, ground := Ground.chain }], guard := none }) rfl (fun K hK => ?_) AllReadyH.nil)
          refine step_append_lies _ (by rfl) _ _ _ (by rfl) 0 9 i0 (.string ⟨#[]⟩) 1 16 Try.underlying23 hi hz0 hz1 hz2 rfl (by decide) _ _ _ (by rfl) hh.own ⟨B3, 0, none⟩ 1 1 [Value.string t] (by rfl) (by rfl) (World.news_of_block nw) (by simp [Value.oneCell']) (by decide) (by unfold maxLen; omega) (by omega) (Nat.zero_le _) W3.heap.size rfl ?_
          intro g2 cap2 W4 hown2 hgrow hat hlt4
          have hat2 : ao.map (·.block) = some g2 ∨ W.heap.size ≤ g2 := by (have hat := hat; rw [own_blk] at hat; rcases hat with e | e; exact Or.inl e; exact Or.inr (by have := yy.size; omega))
          have hf := hh.sep hown2 hgrow hat
          have k1 : Fr (fun i => some i = ao.map (·.block)) W3 W4 := Fr.grown (Fr.refl _ W3) hgrow (fun i hi _ => by rw [own_blk] at hi; exact hi.symm)
          have n4 : W4.heap[nb]? = some (.cells #[.slice none 0 0, .slice ao sl.length cap, .slice none 0 0] 26 (0, 0)) := (k1.block nb (lt_of_heap hh.nf) (fun e => (hh.fre nb e.symm).2.2.2 rfl)).trans hh.nf
          have n0 : W4.cell? ⟨nb, 1, none⟩ = some (.slice ao sl.length cap) := by rw [cell_of_row _ _ _ _ _ _ n4]; rfl
          have g0 : W4.frozen? ⟨nb, 1, none⟩ = false := frozen_of_row W4 nb 1 _ _ n4
          have x0 : W4.cell? ⟨ab, 0, none⟩ = some (.int .i64 pg) := (k1.cell (p := ⟨ab, 0, none⟩) (World.block_lt_of_cell? _ _ x0) (fun e => by have := (hh.fre ab e.symm).1; have := World.block_lt_of_cell? _ _ ha0; simp only at this; omega)).trans x0
          have x1 : W4.cell? ⟨ab, 1, none⟩ = some (.int .i64 q) := (k1.cell (p := ⟨ab, 1, none⟩) (World.block_lt_of_cell? _ _ x1) (fun e => by have := (hh.fre ab e.symm).1; have := World.block_lt_of_cell? _ _ ha0; simp only at this; omega)).trans x1
          have rr : W4.heap[W.heap.size]? = _ := (k1.block W.heap.size (lt_of_heap rr) (fun e => by have := HFB.out _ e.symm; omega)).trans rr
          have yy := Fr.trans yy k1 (fun i _ e => Or.inr (Or.inr (Or.inr e)))
          refine hK.out _ _ ⟨x0, x1⟩ (fun hHeld => ?_)
          clear hK K
          try simp only [Act.put, List.setIfInBounds_toArray, List.set_cons_zero, List.set_cons_succ]
          refine wpAnyH_take (i := 8) (oi := { dst := some 17, op := Op.fieldAddr 26 (Operand.tmp 2) 1, type := 0, pos := "form.go:88", after := #[{ on := 0, ground := Ground.phase }, { on := 1, ground := Ground.phase }, { on := 2, ground := Ground.phase }, { on := 3, ground := Ground.phase }, { on := 4, ground := Ground.phase }, { on := 5, ground := Ground.phase }, { on := 6, ground := Ground.phase }, { on := 7, ground := Ground.phase }], guard := none }) (v := .pointer (some ⟨nb, 1, none⟩)) rfl (by kernel_rfl) (by kernel_rfl) (by kernel_rfl) (fun _ _ _ h => h) (Or.inl ⟨by rfl, fun w hSw => by go_simp⟩) (by assumption) ?_
          try simp only [Act.put, List.setIfInBounds_toArray, List.set_cons_zero, List.set_cons_succ]
          refine wpAnyH_ready (rs := [9]) (by kernel_rfl) (by simp) ?_
          refine (AllReadyH.cons (o := { dst := none, op := Op.store 23 (Operand.tmp 17) (Operand.tmp 16), type := 0, pos := "form.go:88", after := #[{ on := 8, ground := Ground.data }, { on := 7, ground := Ground.data }, { on := 7, ground := Ground.chain }, { on := 0, ground := Ground.phase }, { on := 1, ground := Ground.phase }, { on := 2, ground := Ground.phase }, { on := 3, ground := Ground.phase }, { on := 4, ground := Ground.phase }, { on := 5, ground := Ground.phase }, { on := 6, ground := Ground.phase }, { on := 7, ground := Ground.phase }], guard := none }) rfl (fun K hK => ?_) AllReadyH.nil)
          go_simp
          have x0 := hf.base.keep ha0
          have x1 := hf.base.keep ha
          have k2 : Fr (fun i => i = nb) W4 (W4.setCell ⟨nb, 1, none⟩ (.slice (some ⟨g2, 0, none⟩) (sl.length + 1) cap2)) := (Fr.refl (fun i => i = nb) W4).setCell (p := ⟨nb, 1, none⟩) (fun _ => rfl) _
          have rr := (k2.block W.heap.size (lt_of_heap rr) (by have := hln; omega)).trans rr
          have yy := Fr.trans yy k2 (fun i _ e => Or.inr (Or.inr (Or.inl e)))
          generalize W4.setCell ⟨nb, 1, none⟩ (.slice (some ⟨g2, 0, none⟩) (sl.length + 1) cap2) = W5 at *
          refine hK.out _ _ ⟨x0, x1⟩ (fun hHeld => ?_)
          clear hK K
          try simp only [Act.put]
          refine wpAnyH_done (by kernel_rfl) ?_ _
          exact hcont.out B3 g2 cap2 W5 ⟨hf, rr, yy, hat2⟩
        · go_simp
          have sb : Same W2 (W2.alloc (.cells #[.string t] 9)) := (Fr.refl _ _).alloc _
          have nw : (W2.alloc (.cells #[.string t] 9)).heap[W2.heap.size]? = some (.cells #[.string t] 9 (0, 0)) := heap_alloc_new W2 _
          have lt2 : W2.heap.size < (W2.alloc (.cells #[.string t] 9)).heap.size := lt_of_heap nw
          have hh := hh.same sb
          have rr := (sb.block W.heap.size (lt_of_heap rr) (fun f => f)).trans rr
          have yy := Fr.trans yy sb (fun i _ f => f.elim)
          generalize W2.alloc (.cells #[.string t] 9) = W3 at *
          generalize W2.heap.size = B3 at *
          clear sb
          obtain ⟨_, _, n0, g0⟩ := hh.cells
          have x0 := hh.base.keep ha0
          have x1 := hh.base.keep ha
          refine hK.out _ _ ⟨x0, x1⟩ (fun hHeld => ?_)
          clear hK K
          try simp only [Act.put, List.setIfInBounds_toArray, List.set_cons_zero, List.set_cons_succ]
          refine wpAnyH_ready (rs := [1]) (by kernel_rfl) (by simp) ?_
          refine (AllReadyH.cons (o := { dst := some 10, op := Op.load 23 (Operand.tmp 9), type := 23, pos := "form.go:88", after := #[{ on := 0, ground := Ground.data }], guard := none }) rfl (fun K hK => ?_) AllReadyH.nil)
          go_simp
          refine hK.out _ _ ⟨x0, x1⟩ (fun hHeld => ?_)
          clear hK K
          try simp only [Act.put, List.setIfInBounds_toArray, List.set_cons_zero, List.set_cons_succ]
          refine wpAnyH_ready (rs := [7]) (by kernel_rfl) (by simp) ?_
          refine (AllReadyH.cons (o := { dst := some 16, op := Op.call { callee := Callee.builtin Builtin.append, args := #[Operand.tmp 10, Operand.tmp 15], argTypes := #[23, 23] }, type := 23, pos := "form.go:88", after := #[{ on := 1, ground := Ground.data }, { on := 6, ground := Ground.data }, { on := 5, ground := Ground.chain }], guard := none }) rfl (fun K hK => ?_) AllReadyH.nil)
          refine step_append_lies _ (by rfl) _ _ _ (by rfl) 0 9 i0 (.string ⟨#[]⟩) 1 16 Try.underlying23 hi hz0 hz1 hz2 rfl (by decide) _ _ _ (by rfl) hh.own ⟨B3, 0, none⟩ 1 1 [Value.string t] (by rfl) (by rfl) (World.news_of_block nw) (by simp [Value.oneCell']) (by decide) (by unfold maxLen; omega) (by omega) (Nat.zero_le _) W3.heap.size rfl ?_
          intro g2 cap2 W4 hown2 hgrow hat hlt4
          have hat2 : ao.map (·.block) = some g2 ∨ W.heap.size ≤ g2 := by (have hat := hat; rw [own_blk] at hat; rcases hat with e | e; exact Or.inl e; exact Or.inr (by have := yy.size; omega))
          have hf := hh.sep hown2 hgrow hat
          have k1 : Fr (fun i => some i = ao.map (·.block)) W3 W4 := Fr.grown (Fr.refl _ W3) hgrow (fun i hi _ => by rw [own_blk] at hi; exact hi.symm)
          have n4 : W4.heap[nb]? = some (.cells #[.slice none 0 0, .slice ao sl.length cap, .slice none 0 0] 26 (0, 0)) := (k1.block nb (lt_of_heap hh.nf) (fun e => (hh.fre nb e.symm).2.2.2 rfl)).trans hh.nf
          have n0 : W4.cell? ⟨nb, 1, none⟩ = some (.slice ao sl.length cap) := by rw [cell_of_row _ _ _ _ _ _ n4]; rfl
          have g0 : W4.frozen? ⟨nb, 1, none⟩ = false := frozen_of_row W4 nb 1 _ _ n4
          have x0 : W4.cell? ⟨ab, 0, none⟩ = some (.int .i64 pg) := (k1.cell (p := ⟨ab, 0, none⟩) (World.block_lt_of_cell? _ _ x0) (fun e => by have := (hh.fre ab e.symm).1; have := World.block_lt_of_cell? _ _ ha0; simp only at this; omega)).trans x0
          have x1 : W4.cell? ⟨ab, 1, none⟩ = some (.int .i64 q) := (k1.cell (p := ⟨ab, 1, none⟩) (World.block_lt_of_cell? _ _ x1) (fun e => by have := (hh.fre ab e.symm).1; have := World.block_lt_of_cell? _ _ ha0; simp only at this; omega)).trans x1
          have rr : W4.heap[W.heap.size]? = _ := (k1.block W.heap.size (lt_of_heap rr) (fun e => by have := HFB.out _ e.symm; omega)).trans rr
          have yy := Fr.trans yy k1 (fun i _ e => Or.inr (Or.inr (Or.inr e)))
          refine hK.out _ _ ⟨x0, x1⟩ (fun hHeld => ?_)
          clear hK K
          try simp only [Act.put, List.setIfInBounds_toArray, List.set_cons_zero, List.set_cons_succ]
          refine wpAnyH_take (i := 8) (oi := { dst := some 17, op := Op.fieldAddr 26 (Operand.tmp 2) 1, type := 0, pos := "form.go:88", after := #[{ on := 0, ground := Ground.phase }, { on := 1, ground := Ground.phase }, { on := 2, ground := Ground.phase }, { on := 3, ground := Ground.phase }, { on := 4, ground := Ground.phase }, { on := 5, ground := Ground.phase }, { on := 6, ground := Ground.phase }, { on := 7, ground := Ground.phase }], guard := none }) (v := .pointer (some ⟨nb, 1, none⟩)) rfl (by kernel_rfl) (by kernel_rfl) (by kernel_rfl) (fun _ _ _ h => h) (Or.inl ⟨by rfl, fun w hSw => by go_simp⟩) (by assumption) ?_
          try simp only [Act.put, List.setIfInBounds_toArray, List.set_cons_zero, List.set_cons_succ]
          refine wpAnyH_ready (rs := [9]) (by kernel_rfl) (by simp) ?_
          refine (AllReadyH.cons (o := { dst := none, op := Op.store 23 (Operand.tmp 17) (Operand.tmp 16), type := 0, pos := "form.go:88", after := #[{ on := 8, ground := Ground.data }, { on := 7, ground := Ground.data }, { on := 7, ground := Ground.chain }, { on := 0, ground := Ground.phase }, { on := 1, ground := Ground.phase }, { on := 2, ground := Ground.phase }, { on := 3, ground := Ground.phase }, { on := 4, ground := Ground.phase }, { on := 5, ground := Ground.phase }, { on := 6, ground := Ground.phase }, { on := 7, ground := Ground.phase }], guard := none }) rfl (fun K hK => ?_) AllReadyH.nil)
          go_simp
          have x0 := hf.base.keep ha0
          have x1 := hf.base.keep ha
          have k2 : Fr (fun i => i = nb) W4 (W4.setCell ⟨nb, 1, none⟩ (.slice (some ⟨g2, 0, none⟩) (sl.length + 1) cap2)) := (Fr.refl (fun i => i = nb) W4).setCell (p := ⟨nb, 1, none⟩) (fun _ => rfl) _
          have rr := (k2.block W.heap.size (lt_of_heap rr) (by have := hln; omega)).trans rr
          have yy := Fr.trans yy k2 (fun i _ e => Or.inr (Or.inr (Or.inl e)))
          generalize W4.setCell ⟨nb, 1, none⟩ (.slice (some ⟨g2, 0, none⟩) (sl.length + 1) cap2) = W5 at *
          refine hK.out _ _ ⟨x0, x1⟩ (fun hHeld => ?_)
          clear hK K
          try simp only [Act.put]
          refine wpAnyH_done (by kernel_rfl) ?_ _
          exact hcont.out B3 g2 cap2 W5 ⟨hf, rr, yy, hat2⟩
  · rintro B3 g2 cap2 X ⟨hX, rX, yX, hat2⟩
    have hlfX := hX.cells
    obtain ⟨c9, f9, _, _⟩ := hlfX
    have hX2 := hX.setF false
    have hxx := hX2.base.keep hx
    have haa := hX2.base.keep ha
    have y9 : Fr (fun i => i = fb) X (X.setCell ⟨fb, 0, none⟩ (.bool false)) := (Fr.refl (fun i => i = fb) X).setCell (p := ⟨fb, 0, none⟩) (fun _ => rfl) _
    have rX2 := (y9.block W.heap.size (lt_of_heap rX) (by omega)).trans rX
    have yX2 := Fr.trans yX y9 (fun i _ e => Or.inr (Or.inl e))
    have HRES : Hid (∀ (tmps : Array Value) (V : World) (cs : Array Value), V.heap[W.heap.size]? = some (.cells cs 37 (0, 0)) → cs.size = 33 → tmps.getD 6 undef = .pointer (some ⟨W.heap.size, 0, none⟩) → (results Try.f77 tmps).run Try.prog V = .ok (.agg cs) V) := fun tmps V cs hh h2 hp => results_cell_row (p := 6) (ty := 37) (by kernel_rfl) tmps _ W.heap.size 37 _ (0, 0) _ hp hh Try.underlying37 rfl (by rw [h2]; exact Try.infoKid)
    have hgX : g2 ≠ W.heap.size := by
      intro e
      have h1 := hX.nf
      have h2 := hX.own
      obtain ⟨_, hn | ⟨g3, c3, cur, hv, _, hh3, _⟩⟩ := h2
      · exact absurd hn.1 (by simp)
      · injection hv with e1
        injection e1 with e1
        injection e1 with e1
        rw [← e1, e, rX] at hh3
        injection hh3 with hh3
        injection hh3 with _ hh4
        exact absurd hh4 (by decide)
    clear h hh yX y9 hX rX yy rr x0 x1 n0 g0 c0 f0 HM HT
    go_wp2_with fail
    generalize X.setCell ⟨fb, 0, none⟩ (.bool false) = V9 at *
    refine (HR.out _ _ _ _ hX2).mono ?_
    rintro e W8 ⟨rfl, h8, st8⟩
    have r8 := (st8.block W.heap.size (lt_of_heap rX2) (by omega)).trans rX2
    have y8 := Fr.trans yX2 st8 (fun i _ e => Or.inl e)
    clear st8 yX2
    go_wp2_with (refine wpList_store_whole (by rfl) 37 _ _ (by rfl) W.heap.size KA _ 37 (by rfl) (by rfl) r8 (by rw [hks]; rfl) hz hko ?_; intro WA rA fA)
    refine bodyPost_ret (HRES.out _ _ _ rA hks rfl) rfl ⟨rfl, some ⟨g2, 0, none⟩, cap2, h8.frame fA (fun i e => ⟨?_, ?_⟩), Fr.trans y8 fA (fun i hi e => by omega), fun k hk => by (have hk : g2 = k := by simpa using hk); rw [← hk]; exact hat2⟩
    · have := h8.ne; omega
    · rintro (e2 | e2 | e2 | e2)
      · omega
      · omega
      · omega
      · have : i = g2 := by simpa using e2
        omega
end Go.Proofs.Ytjlbkagkmcelgaa
