/- free: inner; what apart is asked of two answers of After. -/
import Derived.Test.YtajbifblbmlffaaZE
import Derived.Test.YtajbifblbmlffaaIB
namespace Go.Proofs.Ytajbifblbmlffaa
open Go.RowKit Go.Maps

def slB (x : Bt) : Sl := ⟨x.na, x.ns.length, x.nc⟩
def oZF0 : Oper := { dst := some 7, op := .call { callee := .builtin .len, args := #[.tmp 6], argTypes := #[30] }, type := 3, pos := "memory.go:76", after := #[{ on := 1, ground := .data }], guard := none }
def oZF1 : Oper := { dst := some 8, op := .binOp .lss 3 (.tmp 5) (.tmp 7) 3, type := 4, pos := "memory.go:76", after := #[{ on := 0, ground := .data }, { on := 2, ground := .data }], guard := none }
def oZF2 : Oper := { dst := some 10, op := .binOp .add 3 (.tmp 9) (.const (.int .i64 1)) 3, type := 3, pos := "memory.go:76", after := #[{ on := 0, ground := .data }], guard := none }
def oZF3 : Oper := { dst := some 14, op := .indexAddr 30 (.tmp 12) (.tmp 13), type := 0, pos := "memory.go:77", after := #[{ on := 1, ground := .data }, { on := 2, ground := .data }], guard := none }
def oZF4 : Oper := { dst := some 15, op := .fieldAddr 53 (.tmp 14) 1, type := 0, pos := "memory.go:77", after := #[{ on := 3, ground := .data }], guard := none }
def oZF5 : Oper := { dst := some 16, op := .load 51 (.tmp 15), type := 51, pos := "memory.go:77", after := #[{ on := 4, ground := .data }], guard := none }
def oZF6 : Oper := { dst := some 17, op := .buildSlice 40 1 #[(0, .tmp 16)], type := 40, pos := "memory.go:77", after := #[{ on := 5, ground := .data }], guard := none }
def oZF7 : Oper := { dst := some 18, op := .call { callee := .builtin .append, args := #[.tmp 11, .tmp 17], argTypes := #[40, 40] }, type := 40, pos := "memory.go:77", after := #[{ on := 0, ground := .data }, { on := 6, ground := .data }], guard := none }
def rIN0 : Array Oper := #[{ dst := some 2, op := .assign (.const (.slice none 0 0)), type := 40, pos := "memory.go:74", after := #[], guard := none }]
def rIN1 : Array Oper := #[{ dst := some 3, op := .assign (.const (.slice none 0 0)), type := 40, pos := "memory.go:75", after := #[], guard := none }]
def rIN2 : Array Oper := #[{ dst := some 4, op := .assign (.const (.int .i64 0)), type := 3, pos := "memory.go:76", after := #[], guard := none }]
def rIN3 : Array Oper := #[{ dst := some 5, op := .move (.tmp 4), type := 3, pos := "memory.go:76", after := #[], guard := none },
  { dst := some 6, op := .move (.tmp 0), type := 30, pos := "memory.go:76", after := #[], guard := none },
  oZF0,
  oZF1]
def rIN4 : Array Oper := #[{ dst := some 9, op := .move (.tmp 4), type := 3, pos := "memory.go:76", after := #[], guard := none },
  oZF2,
  { dst := some 4, op := .assign (.tmp 10), type := 3, pos := "memory.go:76", after := #[{ on := 1, ground := .data }, { on := 0, ground := .phase }, { on := 1, ground := .phase }], guard := none }]
def rIN5 : Array Oper := #[{ dst := some 11, op := .move (.tmp 3), type := 40, pos := "memory.go:77", after := #[], guard := none },
  { dst := some 12, op := .move (.tmp 0), type := 30, pos := "memory.go:77", after := #[], guard := none },
  { dst := some 13, op := .move (.tmp 4), type := 3, pos := "memory.go:77", after := #[], guard := none },
  oZF3,
  oZF4,
  oZF5,
  oZF6,
  oZF7,
  { dst := some 3, op := .assign (.tmp 18), type := 40, pos := "memory.go:77", after := #[{ on := 7, ground := .data }, { on := 7, ground := .chain }, { on := 0, ground := .phase }, { on := 1, ground := .phase }, { on := 2, ground := .phase }, { on := 3, ground := .phase }, { on := 4, ground := .phase }, { on := 5, ground := .phase }, { on := 6, ground := .phase }, { on := 7, ground := .phase }], guard := none }]
def rIN6 : Array Oper := #[{ dst := some 19, op := .move (.tmp 3), type := 40, pos := "memory.go:79", after := #[], guard := none },
  { dst := some 2, op := .assign (.tmp 19), type := 40, pos := "memory.go:79", after := #[{ on := 0, ground := .data }, { on := 0, ground := .phase }], guard := none }]
def cIN1 : Code := (.seq (.seq (.region 3 rIN3 false) (.cond (.tmp 8) .skip (.exit 0))) (.seq (.block 1 (.region 5 rIN5 false)) (.region 4 rIN4 false)))
def cIN : Code := (.seq (.region 0 rIN0 false) (.seq (.region 1 rIN1 false) (.seq (.seq (.region 2 rIN2 false) (.block 0 (.loop cIN1))) (.seq (.region 6 rIN6 false) .ret))))
structure IIN (v0 : Value) (a : Act) : Prop where
  size : a.tmps.size = 20
  defers : a.defers = []
  s0 : a.eval (.tmp 0) = v0
theorem IIN.keep {v0 : Value} {a0 a : Act} {env : List (Nat × Value)} (h : IIN v0 a0) (f : Fe a0 env a) (h0 : look env 0 (a0.eval (.tmp 0)) = a0.eval (.tmp 0)) : IIN v0 a :=
  ⟨f.size.trans h.size, f.defers.trans h.defers, ((f.at_ 0).trans h0).trans h.s0⟩
set_option maxRecDepth 100000 in
theorem inR {pb n cp i oc B : Nat} {ao : Option Addr} {x : Bt} {xs : List Value} {Q : Exit → Act → World → Prop} (a0 : Act) (wr : World) (I0 : IIN (.slice (some ⟨pb, 0, none⟩) n cp) a0) (h3 : a0.eval (.tmp 3) = .slice ao i oc) (h4 : a0.eval (.tmp 4) = .int .i64 (i : Int)) (hin : i < n) (hn : n ≤ 2000000)
    (c1 : wr.cell? ⟨pb, i * 2 + 1, none⟩ = some (.slice x.na x.ns.length x.nc)) (hB : B ≤ wr.heap.size) (ho : wr.ownsRow B 51 1 (.slice ao i oc) i xs)
    (hQ : ∀ a W a4 c4, IIN (.slice (some ⟨pb, 0, none⟩) n cp) a → a.eval (.tmp 3) = .slice a4 (i + 1) c4 → a.eval (.tmp 4) = .int .i64 ((i : Int) + 1) → W.ownsRow B 51 1 (.slice a4 (i + 1) c4) (i + 1) (xs ++ [Sl.v (slB x)]) → Fr (fun k => ao.map (·.block) = some k) wr W → Q .normal a W) : cIN1.wp Try.prog Q a0 wr := by
  have hii : (i : Int) < (n : Int) := by omega
  have w7 : IntKind.i64.wrap ((i : Int) + 1) = (i : Int) + 1 := by rw [IntKind.wrap_i64]; omega
  have g_0 := Fe.refl a0
  unfold cIN1
  refine wp_seq (wp_seq ?_)
  refine wp_region_list ?_
  unfold rIN3
  refine g_0.move 5 (.int .i64 (i : Int)) _ (Or.inl rfl) rfl (lb_ I0.size) (wn rfl) ((g_0.at_ 4).trans h4) (fun x_1 g_1 => ?_)
  clear g_0
  refine g_1.move 6 (.slice (some ⟨pb, 0, none⟩) n cp) _ (Or.inl rfl) rfl (lb_ I0.size) (wn rfl) ((g_1.at_ 0).trans I0.s0) (fun x_2 g_2 => ?_)
  clear g_1
  have r_3 : (execOp x_2.eval oZF0).run Try.prog (wr) = .ok (.value (.int .i64 (n : Int))) (wr) := by
    unfold oZF0
    have e6 : x_2.eval (.tmp 6) = .slice (some ⟨pb, 0, none⟩) n cp := g_2.at_ 6
    clear g_2 hQ h3 h4
    generalize x_2.eval = ρ at *
    go_simp
  refine g_2.step 7 _ rfl (lb_ I0.size) (wn rfl) r_3 (fun x_3 g_3 => ?_)
  clear r_3 g_2
  have r_4 : (execOp x_3.eval oZF1).run Try.prog (wr) = .ok (.value (.bool true)) (wr) := by
    unfold oZF1
    have e5 : x_3.eval (.tmp 5) = .int .i64 (i : Int) := g_3.at_ 5
    have e7 : x_3.eval (.tmp 7) = .int .i64 (n : Int) := g_3.at_ 7
    clear g_3 hQ h3 h4
    generalize x_3.eval = ρ at *
    go_simp
  refine g_3.step 8 _ rfl (lb_ I0.size) (wn rfl) r_4 (fun x_4 g_4 => ?_)
  clear r_4 g_3
  refine wpList_nil ?_
  change Code.wp _ _ _ _ _
  refine wp_cond_true (show x_4.eval (.tmp 8) = .bool true from (g_4.at_ 8)) (wp_skip ?_)
  change Code.wp _ _ _ _ _
  refine wp_seq (wp_block ?_)
  refine wp_region_list ?_
  unfold rIN5
  refine g_4.move 11 (.slice ao i oc) _ (Or.inl rfl) rfl (lb_ I0.size) (wn rfl) ((g_4.at_ 3).trans h3) (fun x_5 g_5 => ?_)
  clear g_4
  refine g_5.move 12 (.slice (some ⟨pb, 0, none⟩) n cp) _ (Or.inl rfl) rfl (lb_ I0.size) (wn rfl) ((g_5.at_ 0).trans I0.s0) (fun x_6 g_6 => ?_)
  clear g_5
  refine g_6.move 13 (.int .i64 (i : Int)) _ (Or.inl rfl) rfl (lb_ I0.size) (wn rfl) ((g_6.at_ 4).trans h4) (fun x_7 g_7 => ?_)
  clear g_6
  have r_8 : (execOp x_7.eval oZF3).run Try.prog (wr) = .ok (.value (.pointer (some ⟨pb, i * 2, none⟩))) (wr) := by
    unfold oZF3
    have e12 : x_7.eval (.tmp 12) = .slice (some ⟨pb, 0, none⟩) n cp := g_7.at_ 12
    have e13 : x_7.eval (.tmp 13) = .int .i64 (i : Int) := g_7.at_ 13
    clear g_7 hQ h3 h4
    generalize x_7.eval = ρ at *
    go_simp
  refine g_7.step 14 _ rfl (lb_ I0.size) (wn rfl) r_8 (fun x_8 g_8 => ?_)
  clear r_8 g_7
  have r_9 : (execOp x_8.eval oZF4).run Try.prog (wr) = .ok (.value (.pointer (some ⟨pb, i * 2 + 1, none⟩))) (wr) := by
    unfold oZF4
    have e14 : x_8.eval (.tmp 14) = .pointer (some ⟨pb, i * 2, none⟩) := g_8.at_ 14
    clear g_8 hQ h3 h4
    generalize x_8.eval = ρ at *
    go_simp
  refine g_8.step 15 _ rfl (lb_ I0.size) (wn rfl) r_9 (fun x_9 g_9 => ?_)
  clear r_9 g_8
  have r_10 : (execOp x_9.eval oZF5).run Try.prog (wr) = .ok (.value (.slice x.na x.ns.length x.nc)) (wr) := by
    unfold oZF5
    have e15 : x_9.eval (.tmp 15) = .pointer (some ⟨pb, i * 2 + 1, none⟩) := g_9.at_ 15
    clear g_9 hQ h3 h4
    generalize x_9.eval = ρ at *
    go_simp
  refine g_9.step 16 _ rfl (lb_ I0.size) (wn rfl) r_10 (fun x_10 g_10 => ?_)
  clear r_10 g_9
  have r_11 : (execOp x_10.eval oZF6).run Try.prog (wr) = .ok (.value (.slice (some ⟨wr.heap.size, 0, none⟩) 1 1)) (wr.alloc (.cells #[.slice x.na x.ns.length x.nc] 51)) := by
    unfold oZF6
    have e16 : x_10.eval (.tmp 16) = .slice x.na x.ns.length x.nc := g_10.at_ 16
    clear g_10 hQ h3 h4
    generalize x_10.eval = ρ at *
    go_simp
  refine g_10.stepW 17 (.slice (some ⟨wr.heap.size, 0, none⟩) 1 1) rfl (lb_ I0.size) (wn rfl) r_11 (fun x_11 g_11 => ?_)
  clear r_11
  obtain ⟨W3, hW3⟩ : ∃ W3, W3 = wr.alloc (.cells #[.slice x.na x.ns.length x.nc] 51) := ⟨_, rfl⟩
  rw [← hW3]
  have s3 : Same wr W3 := by rw [hW3]; exact (Fr.refl _ wr).alloc _
  have hh3 : W3.heap[wr.heap.size]? = some (.cells [Sl.v (slB x)].toArray 51 (0, 0)) := by rw [hW3]; exact heap_alloc_new wr _
  obtain ⟨i0, hi, hi0, hi1, hi2⟩ := info_parts Try.infNs
  obtain ⟨a4, c4, W4, hr4, o4, gr4⟩ := run_more (u := Sl.v (slB x)) W3 40 40 51 Try.underlying40 hi hi0 hi1 hi2 (by decide) rfl (own_frameB ho s3 (fun _ _ f => f)) 1 (row_news hh3) rfl (by omega) (Nat.le_trans hB s3.size)
  have f4 : Fr (fun k => ao.map (·.block) = some k) wr W4 := Fr.trans (S := fun k => ao.map (·.block) = some k) (Fr.mono s3 (fun _ _ f => f.elim)) (Fr.grown (Fr.refl _ _) gr4 (fun k e _ => (blk_of.symm.trans e : ao.map (·.block) = some k))) (fun k _ e => e)
  clear g_10
  have r_12 : (execOp x_11.eval oZF7).run Try.prog (W3) = .ok (.value (.slice a4 (i + 1) c4)) (W4) := by
    unfold oZF7
    refine exec_append rfl ?_
    rw [(show x_11.eval (.tmp 11) = .slice ao i oc from (g_11.at_ 11)), (show x_11.eval (.tmp 17) = .slice (some ⟨wr.heap.size, 0, none⟩) 1 1 from (g_11.at_ 17))]
    exact hr4
  refine g_11.stepW 18 (.slice a4 (i + 1) c4) rfl (lb_ I0.size) (wn rfl) r_12 (fun x_12 g_12 => ?_)
  clear r_12 g_11
  refine g_12.move 3 (.slice a4 (i + 1) c4) _ (Or.inr rfl) rfl (lb_ I0.size) (wn rfl) (g_12.at_ 18) (fun x_13 g_13 => ?_)
  clear g_12
  refine wpList_nil ?_
  change Code.wp _ _ _ _ _
  refine wp_region_list ?_
  unfold rIN4
  refine g_13.move 9 (.int .i64 (i : Int)) _ (Or.inl rfl) rfl (lb_ I0.size) (wn rfl) ((g_13.at_ 4).trans h4) (fun x_14 g_14 => ?_)
  clear g_13
  have r_15 : (execOp x_14.eval oZF2).run Try.prog (W4) = .ok (.value (.int .i64 ((i : Int) + 1))) (W4) := by
    unfold oZF2
    have kc : ∀ v, x_14.eval (.const v) = v := fun _ => rfl
    have e9 : x_14.eval (.tmp 9) = .int .i64 (i : Int) := g_14.at_ 9
    clear g_14 hQ h3 h4
    generalize x_14.eval = ρ at *
    go_simp
  refine g_14.step 10 _ rfl (lb_ I0.size) (wn rfl) r_15 (fun x_15 g_15 => ?_)
  clear r_15 g_14
  refine g_15.move 4 (.int .i64 ((i : Int) + 1)) _ (Or.inr rfl) rfl (lb_ I0.size) (wn rfl) (g_15.at_ 10) (fun x_16 g_16 => ?_)
  clear g_15
  refine wpList_nil ?_
  exact hQ x_16 W4 a4 c4 (I0.keep g_16 rfl) (show x_16.eval (.tmp 3) = .slice a4 (i + 1) c4 from (g_16.at_ 3)) (show x_16.eval (.tmp 4) = .int .i64 ((i : Int) + 1) from (g_16.at_ 4)) o4 f4
set_option maxRecDepth 100000 in
theorem inX {n cp oc : Nat} {pa ao : Option Addr} {Q : Exit → Act → World → Prop} (a0 : Act) (wr : World) (I0 : IIN (.slice pa n cp) a0) (h3 : a0.eval (.tmp 3) = .slice ao n oc) (h4 : a0.eval (.tmp 4) = .int .i64 (n : Int))
    (hQ : ∀ a, IIN (.slice pa n cp) a → a.eval (.tmp 3) = .slice ao n oc → Q (.exit 0) a wr) : cIN1.wp Try.prog Q a0 wr := by
  have g_0 := Fe.refl a0
  unfold cIN1
  refine wp_seq (wp_seq ?_)
  refine wp_region_list ?_
  unfold rIN3
  refine g_0.move 5 (.int .i64 (n : Int)) _ (Or.inl rfl) rfl (lb_ I0.size) (wn rfl) ((g_0.at_ 4).trans h4) (fun x_1 g_1 => ?_)
  clear g_0
  refine g_1.move 6 (.slice pa n cp) _ (Or.inl rfl) rfl (lb_ I0.size) (wn rfl) ((g_1.at_ 0).trans I0.s0) (fun x_2 g_2 => ?_)
  clear g_1
  have r_3 : (execOp x_2.eval oZF0).run Try.prog (wr) = .ok (.value (.int .i64 (n : Int))) (wr) := by
    unfold oZF0
    have e6 : x_2.eval (.tmp 6) = .slice pa n cp := g_2.at_ 6
    clear g_2 hQ h3 h4
    generalize x_2.eval = ρ at *
    go_simp
  refine g_2.step 7 _ rfl (lb_ I0.size) (wn rfl) r_3 (fun x_3 g_3 => ?_)
  clear r_3 g_2
  have r_4 : (execOp x_3.eval oZF1).run Try.prog (wr) = .ok (.value (.bool false)) (wr) := by
    unfold oZF1
    have e5 : x_3.eval (.tmp 5) = .int .i64 (n : Int) := g_3.at_ 5
    have e7 : x_3.eval (.tmp 7) = .int .i64 (n : Int) := g_3.at_ 7
    clear g_3 hQ h3 h4
    generalize x_3.eval = ρ at *
    go_simp
  refine g_3.step 8 _ rfl (lb_ I0.size) (wn rfl) r_4 (fun x_4 g_4 => ?_)
  clear r_4 g_3
  refine wpList_nil ?_
  change Code.wp _ _ _ _ _
  refine wp_cond_false (show x_4.eval (.tmp 8) = .bool false from (g_4.at_ 8)) (wp_exit ?_)
  exact hQ x_4 (I0.keep g_4 rfl) (show x_4.eval (.tmp 3) = .slice ao n oc from ((g_4.at_ 3).trans h3))
theorem inL_ {n cp g : Nat} {pa : Option Addr} {L : List Bt} {Q : Exit → Act → World → Prop} (a0 : Act) (w : World) (I0 : IIN (.slice pa n cp) a0) (h3 : a0.eval (.tmp 3) = .slice none 0 0) (h4 : a0.eval (.tmp 4) = .int .i64 ((0 : Nat) : Int)) (hb : BrRow w pa g 0 L) (hn : n = L.length) (hnb : n ≤ 2000000)
    (hQ : ∀ a W ao oc, IIN (.slice pa n cp) a → a.eval (.tmp 3) = .slice ao n oc → W.ownsRow w.heap.size 51 1 (.slice ao n oc) n ((L.map slB).map Sl.v) → Same w W → Q (.exit 0) a W) : (Code.loop cIN1).wp Try.prog Q a0 w := by
  refine wp_loop (fun a W => IIN (.slice pa n cp) a ∧ Same w W ∧ ∃ (i : Nat) (ao : Option Addr) (oc : Nat), i ≤ n ∧ a.eval (.tmp 3) = .slice ao i oc ∧ a.eval (.tmp 4) = .int .i64 (i : Int) ∧ W.ownsRow w.heap.size 51 1 (.slice ao i oc) i (((L.take i).map slB).map Sl.v)) (fun a _ => n - kOf a 4) ⟨I0, Fr.refl _ w, 0, none, 0, Nat.zero_le _, h3, h4, own_nil⟩ ?_
  rintro a W ⟨I1, s1, i, ao, oc, hi, g3, g4, ho⟩
  by_cases hgo : i < n
  · obtain ⟨x, hx⟩ : ∃ x, L[i]? = some x := ⟨_, List.getElem?_eq_getElem (by omega)⟩
    have hne : L ≠ [] := by intro e; rw [e] at hx; simp at hx
    obtain ⟨rfl, _⟩ := hb.place hne
    obtain ⟨_, c1, _⟩ := (hb.same s1).cells i x hx
    rw [Nat.zero_add] at c1
    refine inR a W I1 g3 g4 hgo hnb c1 s1.size ho (fun a' W2 a4 c4 i2 k3 k4 o2 f2 => ?_)
    have h5 : a'.eval (.tmp 4) = .int .i64 ((i + 1 : Nat) : Int) := k4
    refine ⟨⟨i2, Fr.trans s1 f2 (fun k hk e => by have := own_blk ho k (blk_of.trans e); omega), i + 1, a4, c4, hgo, k3, h5, ?_⟩, ?_⟩
    · rw [List.take_add_one, hx]
      simpa using o2
    · show n - kOf a' 4 < n - kOf a 4
      rw [kOf_eq h5, kOf_eq g4]
      omega
  · obtain rfl : i = n := by omega
    rw [List.take_of_length_le (by omega)] at ho
    exact inX a W I1 g3 g4 (fun a' i2 k3 => hQ a' W ao oc i2 k3 ho s1)
set_option maxRecDepth 100000 in
theorem inner_calls {n cp g : Nat} {pa : Option Addr} {L : List Bt} (w : World) (hb : BrRow w pa g 0 L) (hn : n = L.length) (hnb : n ≤ 2000000) :
    Calls Try.prog 10 #[.slice pa n cp] w fun e w' => ∃ ao oc, e = .returned (.slice ao n oc) ∧ w'.ownsRow w.heap.size 51 1 (.slice ao n oc) n ((L.map slB).map Sl.v) ∧ Same w w' := by
  refine calls_abs (c := cIN) Try.func10 (by kernel_rfl) 20 rfl (by simp) (fun a0 hsz hd ha => ?_)
  have g_0 := Fe.refl a0
  unfold cIN
  refine wp_seq ?_
  refine wp_region_list ?_
  unfold rIN0
  refine g_0.move 2 (.slice none 0 0) _ (Or.inr rfl) rfl (lb_ hsz) (wn rfl) rfl (fun x_1 g_1 => ?_)
  clear g_0
  refine wpList_nil ?_
  change Code.wp _ _ _ _ _
  refine wp_seq ?_
  refine wp_region_list ?_
  unfold rIN1
  refine g_1.move 3 (.slice none 0 0) _ (Or.inr rfl) rfl (lb_ hsz) (wn rfl) rfl (fun x_2 g_2 => ?_)
  clear g_1
  refine wpList_nil ?_
  change Code.wp _ _ _ _ _
  refine wp_seq (wp_seq ?_)
  refine wp_region_list ?_
  unfold rIN2
  refine g_2.move 4 (.int .i64 ((0 : Nat) : Int)) _ (Or.inr rfl) rfl (lb_ hsz) (wn rfl) rfl (fun x_3 g_3 => ?_)
  clear g_2
  refine wpList_nil ?_
  change Code.wp _ _ _ _ _
  refine wp_block ?_
  refine inL_ x_3 w ⟨g_3.size.trans hsz, g_3.defers.trans hd, (show x_3.eval (.tmp 0) = .slice pa n cp from ((g_3.at_ 0).trans (ha 0 _ rfl)))⟩ (show x_3.eval (.tmp 3) = .slice none 0 0 from (g_3.at_ 3)) (show x_3.eval (.tmp 4) = .int .i64 ((0 : Nat) : Int) from (g_3.at_ 4)) hb hn hnb (fun b W ao oc i2 k3 o2 s2 => ?_)
  change Code.wp _ _ _ _ _
  refine wp_seq ?_
  have fb_0 := Fe.refl b
  refine wp_region_list ?_
  unfold rIN6
  refine fb_0.move 19 (.slice ao n oc) _ (Or.inl rfl) rfl (lb_ i2.size) (wn rfl) ((fb_0.at_ 3).trans k3) (fun b_1 fb_1 => ?_)
  clear fb_0
  refine fb_1.move 2 (.slice ao n oc) _ (Or.inr rfl) rfl (lb_ i2.size) (wn rfl) (fb_1.at_ 19) (fun b_2 fb_2 => ?_)
  clear fb_1
  refine wpList_nil ?_
  change Code.wp _ _ _ _ _
  refine wp_ret ?_
  exact ret_abs rfl (fb_2.defers.trans i2.defers) (show b_2.eval (.tmp 2) = .slice ao n oc from (fb_2.at_ 2)) ⟨ao, oc, rfl, o2, s2⟩
theorem run_partNss (w : World) (ty : TypeId) {B n : Nat} {v : Value} {xs : List Value} (hown : w.ownsRow B 51 1 v n xs) {x : Part} (hx : PartOk w 1 x) (hb : n + x.n ≤ 1099511627776) (hB : B ≤ w.heap.size) :
    ∃ v' w', (Builtin.append_ #[40, 40] ty #[v, .slice x.ao x.n x.c]).run Try.prog w = .ok v' w' ∧ w'.ownsRow B 51 1 v' (n + x.n) (xs ++ x.cells) ∧ w.grownBy w' v.ownBlock := by
  obtain ⟨i0, hi, hz0, hz1, hz2⟩ := info_parts Try.infNs
  obtain ⟨ao, m, c, cs⟩ := x
  cases ao with
  | none =>
    obtain ⟨e1, e2⟩ := hx.none rfl
    have e3 := hx.len
    simp only at e1 e2 e3
    subst e1 e2
    have e4 : cs = [] := List.eq_nil_of_length_eq_zero (by omega)
    subst e4
    refine ⟨v, w, run_append_owned_none (P := Try.prog) (w := w) B 40 ty 51 i0 1 Try.underlying40 hi v n xs hown, ?_, ⟨rfl, rfl, rfl, Nat.le_refl _, fun _ _ _ => rfl⟩⟩
    rw [List.append_nil]; exact hown
  | some a =>
    simp only at hb
    obtain ⟨v', w', h1, h2, h3, _⟩ := run_append_own (P := Try.prog) w B 40 ty 51 i0 (.slice none 0 0) 1 24 Try.underlying40 hi hz0 hz1 hz2 rfl (by decide) v n xs hown a m c cs hx.len (hx.at_ a rfl) hx.one (by unfold maxLen; omega) (by omega) hB
    exact ⟨v', w', h1, h2, h3⟩
theorem own_noneZ {W : World} {B n c sz : Nat} {e : TypeId} {xs : List Value} (h : W.ownsRow B e sz (.slice none n c) n xs) : n = 0 ∧ c = 0 := by
  rcases h.2 with ⟨hv, h0⟩ | ⟨g, c2, cur, hv, _⟩
  · injection hv with _ _ e3
    exact ⟨h0, e3⟩
  · cases hv
theorem own_sls {W : World} {B n c : Nat} {t : TypeId} {ao : Option Addr} {L : List Sl} (h : W.ownsRow B t 1 (.slice ao n c) n (L.map Sl.v)) : ∃ lb, OutAt t W ao lb 0 L := by
  have hl := h.1
  rw [List.length_map, Nat.mul_one] at hl
  by_cases h0 : n = 0
  · rw [h0] at hl
    obtain rfl := List.eq_nil_of_length_eq_zero hl
    exact ⟨0, fun e => absurd rfl e, fun i x hx => by simp at hx⟩
  · have h1 := own_base h (Nat.zero_le _)
    obtain ⟨g, rfl, _⟩ := own_some h1 h0
    refine ⟨g, fun _ => ⟨rfl, ?_⟩, fun i x hx => ?_⟩
    · rcases h.2 with ⟨hv, _⟩ | ⟨g2, c2, cur, hv, _, hh, _⟩
      · cases hv
      · injection hv with e1
        injection e1 with e1
        injection e1 with e1
        subst e1
        exact ⟨_, _, hh⟩
    · rw [Nat.zero_add]
      exact own_cell h1 (by rw [List.getElem?_map, hx]; rfl)
theorem own_slPart {W : World} {B n c : Nat} {t : TypeId} {ao : Option Addr} {L : List Sl} (h : W.ownsRow B t 1 (.slice ao n c) n (L.map Sl.v)) : PartOk W 1 ⟨ao, n, c, L.map Sl.v⟩ := by
  refine ⟨h.1, fun e => ?_, fun a ha j v hv => ?_, fun v hv => ?_⟩
  · simp only at e
    subst e
    exact own_noneZ h
  · simp only at ha
    subst ha
    have h1 := own_base h (Nat.zero_le _)
    rcases h.2 with ⟨hv2, _⟩ | ⟨g2, c2, cur, hv2, _, hh, _⟩
    · cases hv2
    · injection hv2 with e1
      injection e1 with e1
      subst e1
      rw [Addr.add_mid, Nat.zero_add]
      exact own_cell h1 hv
  · obtain ⟨x, _, rfl⟩ := List.mem_map.1 hv
    rfl
theorem AftAt.same {w W W' : World} {ao : Option Addr} {cc : Nat} {N : List Bt} (h : AftAt w W ao cc N) (s : Same W W') : AftAt w W' ao cc N :=
  ⟨own_frameB h.row s (fun _ _ f => f), fun x hx => (h.new_ x hx).fr s (fun _ _ f => f) (fun _ f => f), h.dis⟩
theorem apt_two {w1 w2 W : World} {N1 N2 : List Bt} {a1 a2 : Option Addr} {c1 c2 : Nat} (h1 : AftAt w1 w2 a1 c1 N1) (s : Same w2 W) (h2 : AftAt w2 W a2 c2 N2) (l1 : ∀ x ∈ N1, x.ns.length ≤ 1099511627000) (l2 : ∀ x ∈ N2, x.ns.length ≤ 1099511627000) : Apt fU W (N1.map slB ++ N2.map slB) := by
  have h1W := h1.same s
  have hlt : ∀ (x : Bt) (k : Nat), x ∈ N1 → x.na.map (·.block) = some k → k < w2.heap.size := fun x k hx hk => by
    cases e : x.na with
    | none => rw [e] at hk; cases hk
    | some a =>
      have hr := (h1.new_ x hx).own
      rw [e] at hr hk
      have := own_ge hr
      have e2 : a.block = k := by simpa using hk
      omega
  have hge : ∀ (x : Bt) (k : Nat), x ∈ N2 → x.na.map (·.block) = some k → w2.heap.size ≤ k := fun x k hx hk => own_blk (h2.new_ x hx).own k (blk_of.trans hk)
  have two : ∀ (i : Nat) (x : Sl), (N1.map slB ++ N2.map slB)[i]? = some x → (∃ y, N1[i]? = some y ∧ x = slB y) ∨ (N1.length ≤ i ∧ ∃ y, N2[i - N1.length]? = some y ∧ x = slB y) := fun i x hx => by
    by_cases hi : i < N1.length
    · left
      rw [List.getElem?_append_left (by rw [List.length_map]; exact hi), List.getElem?_map, Option.map_eq_some_iff] at hx
      obtain ⟨y, hy, rfl⟩ := hx
      exact ⟨y, hy, rfl⟩
    · right
      rw [List.getElem?_append_right (by rw [List.length_map]; omega), List.length_map, List.getElem?_map, Option.map_eq_some_iff] at hx
      obtain ⟨y, hy, rfl⟩ := hx
      exact ⟨by omega, y, hy, rfl⟩
  refine ⟨fun i x hx => ?_, fun i j x y k hx hy hkx hky => ?_, fun x hx => ?_⟩
  · rcases two i x hx with ⟨y, hy, rfl⟩ | ⟨_, y, hy, rfl⟩
    · exact ⟨_, own_base (h1W.new_ y (List.mem_of_getElem? hy)).own (Nat.zero_le _)⟩
    · exact ⟨_, own_base (h2.new_ y (List.mem_of_getElem? hy)).own (Nat.zero_le _)⟩
  · rcases two i x hx with ⟨u, hu, rfl⟩ | ⟨hi, u, hu, rfl⟩ <;> rcases two j y hy with ⟨v, hv, rfl⟩ | ⟨hj, v, hv, rfl⟩
    · exact h1.dis i j u v k hu hv hkx hky
    · have e1 := hlt u k (List.mem_of_getElem? hu) hkx
      have e2 := hge v k (List.mem_of_getElem? hv) hky
      omega
    · have e1 := hlt v k (List.mem_of_getElem? hv) hky
      have e2 := hge u k (List.mem_of_getElem? hu) hkx
      omega
    · have := h2.dis _ _ u v k hu hv hkx hky
      omega
  · rcases List.mem_append.1 hx with hx | hx
    · obtain ⟨y, hy, rfl⟩ := List.mem_map.1 hx
      exact l1 y hy
    · obtain ⟨y, hy, rfl⟩ := List.mem_map.1 hx
      exact l2 y hy
theorem apt_chains {w1 w2 W : World} {N1 N2 : List Bt} {a1 a2 : Option Addr} {c1 c2 : Nat} (h1 : AftAt w1 w2 a1 c1 N1) (s : Same w2 W) (h2 : AftAt w2 W a2 c2 N2) (l1 : N1.length ≤ 4000000) (l2 : N2.length ≤ 4000000) : Apt fB W [⟨a1, N1.length, c1⟩, ⟨a2, N2.length, c2⟩] := by
  have h1W := h1.same s
  have e1 : ∀ k, a1.map (·.block) = some k → k < w2.heap.size := fun k hk => by
    cases a1 with
    | none => cases hk
    | some a =>
      have := own_ge h1.row
      have e2 : a.block = k := by simpa using hk
      omega
  have e2 : ∀ k, a2.map (·.block) = some k → w2.heap.size ≤ k := fun k hk => own_blk h2.row k (blk_of.trans hk)
  have two : ∀ (i : Nat) (x : Sl), [(⟨a1, N1.length, c1⟩ : Sl), ⟨a2, N2.length, c2⟩][i]? = some x → (i = 0 ∧ x = ⟨a1, N1.length, c1⟩) ∨ (i = 1 ∧ x = ⟨a2, N2.length, c2⟩) := fun i x hx => by
    match i, hx with
    | 0, hx => exact Or.inl ⟨rfl, (by simpa using hx.symm)⟩
    | 1, hx => exact Or.inr ⟨rfl, (by simpa using hx.symm)⟩
  refine ⟨fun i x hx => ?_, fun i j x y k hx hy hkx hky => ?_, fun x hx => ?_⟩
  · rcases two i x hx with ⟨_, rfl⟩ | ⟨_, rfl⟩
    · exact ⟨_, own_base h1W.row (Nat.zero_le _)⟩
    · exact ⟨_, own_base h2.row (Nat.zero_le _)⟩
  · rcases two i x hx with ⟨rfl, rfl⟩ | ⟨rfl, rfl⟩ <;> rcases two j y hy with ⟨rfl, rfl⟩ | ⟨rfl, rfl⟩
    · rfl
    · have := e1 k hkx; have := e2 k hky; omega
    · have := e1 k hky; have := e2 k hkx; omega
    · rfl
  · simp only [List.mem_cons, List.not_mem_nil, or_false] at hx
    rcases hx with rfl | rfl
    · show N1.length ≤ _; omega
    · show N2.length ≤ _; omega
end Go.Proofs.Ytajbifblbmlffaa
