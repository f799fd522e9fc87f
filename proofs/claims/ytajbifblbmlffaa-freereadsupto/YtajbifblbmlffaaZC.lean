/- apart: lists and chains are grown. -/
import Derived.Test.YtajbifblbmlffaaZB
namespace Go.Proofs.Ytajbifblbmlffaa
open Go.RowKit Go.Maps

theorem Try.infNs : (Try.prog.info? 51).map (fun i => (i.zero, i.size, i.bytes)) = some (some (.slice none 0 0), 1, 24) := by kernel_rfl
theorem Try.infBs : (Try.prog.info? 30).map (fun i => (i.zero, i.size, i.bytes)) = some (some (.slice none 0 0), 1, 24) := by kernel_rfl
/-- The frame while chains are grown. -/
structure IY (v0 v1 v9 : Value) (a : Act) : Prop where
  size : a.tmps.size = 262
  defers : a.defers = []
  s0 : a.eval (.tmp 0) = v0
  s1 : a.eval (.tmp 1) = v1
  s9 : a.eval (.tmp 9) = v9
theorem IY.keep {v0 v1 v9 : Value} {a0 a : Act} {env : List (Nat × Value)} (h : IY v0 v1 v9 a0) (f : Fe a0 env a) (h0 : look env 0 (a0.eval (.tmp 0)) = a0.eval (.tmp 0)) (h1 : look env 1 (a0.eval (.tmp 1)) = a0.eval (.tmp 1)) (h9 : look env 9 (a0.eval (.tmp 9)) = a0.eval (.tmp 9)) : IY v0 v1 v9 a :=
  ⟨f.size.trans h.size, f.defers.trans h.defers, ((f.at_ 0).trans h0).trans h.s0, ((f.at_ 1).trans h1).trans h.s1, ((f.at_ 9).trans h9).trans h.s9⟩
theorem row_news {W : World} {g : Nat} {A : List Value} {t : TypeId} {fr : Nat × Nat} (h : W.heap[g]? = some (.cells A.toArray t fr)) : ∀ j u, A[j]? = some u → W.cell? ((⟨g, 0, none⟩ : Addr).add j) = some u := by
  intro j u hu
  rw [Addr.add_mid, Nat.zero_add, cell_of_row _ _ _ _ _ _ h, ← Array.getElem?_toList]
  exact hu
theorem run_more {P : Program} (w : World) (ty t2 t : TypeId) {i0 : TypeInfo} {z : Value} {bytes : Nat} (hu : P.underlying t2 = some (.slice t)) (hi : P.info? t = some i0) (hi0 : i0.zero = some z) (hi1 : i0.size = 1) (hi2 : i0.bytes = bytes) (hbz : bytes ≤ 64) (hz : z.cells.size = 1)
    {B n g : Nat} {v u : Value} {xs : List Value} (hown : w.ownsRow B t 1 v n xs) (c : Nat) (hu1 : ∀ j y, [u][j]? = some y → w.cell? ((⟨g, 0, none⟩ : Addr).add j) = some y) (h1 : u.oneCell' = true) (hb : n + 1 ≤ 1099511627776) (hB : B ≤ w.heap.size) :
    ∃ ao c2 w', (Builtin.append_ #[t2, t2] ty #[v, .slice (some ⟨g, 0, none⟩) 1 c]).run P w = .ok (.slice ao (n + 1) c2) w' ∧ w'.ownsRow B t 1 (.slice ao (n + 1) c2) (n + 1) (xs ++ [u]) ∧ w.grownBy w' v.ownBlock := by
  obtain ⟨v', w', hr, h2, h3, _⟩ := run_append_own (P := P) w B t2 ty t i0 z 1 bytes hu hi hi0 hi1 hi2 hz (by decide) v n xs hown ⟨g, 0, none⟩ 1 c [u] rfl hu1 (fun y hy => by simp only [List.mem_singleton] at hy; subst hy; exact h1) (by unfold maxLen; omega) (Nat.le_trans (Nat.mul_le_mul hb hbz) (by decide)) hB
  obtain ⟨ao, c2, rfl⟩ := own_shape h2
  exact ⟨ao, c2, w', hr, h2, h3⟩
theorem Grw.moreW {F : Fam} {t : TypeId} {w W0 W : World} {L M : List Sl} {a0 b0 I mc a b k : Nat} {ma : Option Addr} {x r : Sl} (ap : Apt F w L) (h : Grw F t w W0 L a0 b0 I ma mc M) (hx : L[I]? = some x) (hg : Gr F W0 W x a b k r) : W.ownsRow w.heap.size t 1 (.slice ma I mc) I (M.map Sl.v) :=
  own_frameB h.more hg.base (fun k hk e => by
    have h1 := own_blk h.more k hk
    have h2 := (ap.type ⟨I, x, hx, e⟩).1
    omega)
def oZC0 : Oper := { dst := some 72, op := .call { callee := .builtin .len, args := #[.tmp 71], argTypes := #[40] }, type := 3, pos := "memory.go:97", after := #[{ on := 1, ground := .data }], guard := none }
def oZC1 : Oper := { dst := some 73, op := .binOp .lss 3 (.tmp 70) (.tmp 72) 3, type := 4, pos := "memory.go:97", after := #[{ on := 0, ground := .data }, { on := 2, ground := .data }], guard := none }
def oZC2 : Oper := { dst := some 75, op := .binOp .add 3 (.tmp 74) (.const (.int .i64 1)) 3, type := 3, pos := "memory.go:97", after := #[{ on := 0, ground := .data }], guard := none }
def oZC3 : Oper := { dst := some 78, op := .indexAddr 40 (.tmp 76) (.tmp 77), type := 0, pos := "memory.go:98", after := #[{ on := 0, ground := .data }, { on := 1, ground := .data }], guard := none }
def oZC4 : Oper := { dst := some 79, op := .load 51 (.tmp 78), type := 51, pos := "memory.go:98", after := #[{ on := 2, ground := .data }], guard := none }
def oZC5 : Oper := { dst := some 81, op := .binOp .lss 3 (.tmp 80) (.const (.int .i64 70)) 3, type := 4, pos := "memory.go:99", after := #[{ on := 0, ground := .data }], guard := none }
def oZC6 : Oper := { dst := some 83, op := .binOp .add 3 (.tmp 82) (.const (.int .i64 1)) 3, type := 3, pos := "memory.go:99", after := #[{ on := 0, ground := .data }], guard := none }
def oZC7 : Oper := { dst := some 86, op := .binOp .add 3 (.const (.int .i64 300000)) (.tmp 85) 3, type := 3, pos := "memory.go:100", after := #[{ on := 1, ground := .data }], guard := none }
def oZC8 : Oper := { dst := some 87, op := .convert 3 28 (.tmp 86), type := 28, pos := "memory.go:100", after := #[{ on := 2, ground := .data }], guard := none }
def oZC9 : Oper := { dst := some 88, op := .buildSlice 51 1 #[(0, .tmp 87)], type := 51, pos := "memory.go:100", after := #[{ on := 3, ground := .data }], guard := none }
def oZC10 : Oper := { dst := some 89, op := .call { callee := .builtin .append, args := #[.tmp 84, .tmp 88], argTypes := #[51, 51] }, type := 51, pos := "memory.go:100", after := #[{ on := 0, ground := .data }, { on := 4, ground := .data }], guard := none }
def oZC11 : Oper := { dst := some 92, op := .buildSlice 40 1 #[(0, .tmp 91)], type := 40, pos := "memory.go:102", after := #[{ on := 1, ground := .data }], guard := none }
def oZC12 : Oper := { dst := some 93, op := .call { callee := .builtin .append, args := #[.tmp 90, .tmp 92], argTypes := #[40, 40] }, type := 40, pos := "memory.go:102", after := #[{ on := 0, ground := .data }, { on := 2, ground := .data }], guard := none }
def oZC13 : Oper := { dst := some 96, op := .call { callee := .builtin .len, args := #[.tmp 95], argTypes := #[42] }, type := 3, pos := "memory.go:105", after := #[{ on := 1, ground := .data }], guard := none }
def oZC14 : Oper := { dst := some 97, op := .binOp .lss 3 (.tmp 94) (.tmp 96) 3, type := 4, pos := "memory.go:105", after := #[{ on := 0, ground := .data }, { on := 2, ground := .data }], guard := none }
def oZC15 : Oper := { dst := some 99, op := .binOp .add 3 (.tmp 98) (.const (.int .i64 1)) 3, type := 3, pos := "memory.go:105", after := #[{ on := 0, ground := .data }], guard := none }
def oZC16 : Oper := { dst := some 102, op := .indexAddr 42 (.tmp 100) (.tmp 101), type := 0, pos := "memory.go:106", after := #[{ on := 0, ground := .data }, { on := 1, ground := .data }], guard := none }
def oZC17 : Oper := { dst := some 103, op := .load 30 (.tmp 102), type := 30, pos := "memory.go:106", after := #[{ on := 2, ground := .data }], guard := none }
def oZC18 : Oper := { dst := some 105, op := .binOp .lss 3 (.tmp 104) (.const (.int .i64 70)) 3, type := 4, pos := "memory.go:107", after := #[{ on := 0, ground := .data }], guard := none }
def oZC19 : Oper := { dst := some 107, op := .binOp .add 3 (.tmp 106) (.const (.int .i64 1)) 3, type := 3, pos := "memory.go:107", after := #[{ on := 0, ground := .data }], guard := none }
def oZC20 : Oper := { dst := some 110, op := .binOp .add 3 (.const (.int .i64 400000)) (.tmp 109) 3, type := 3, pos := "memory.go:108", after := #[{ on := 1, ground := .data }], guard := none }
def oZC21 : Oper := { dst := some 111, op := .convert 3 28 (.tmp 110), type := 28, pos := "memory.go:108", after := #[{ on := 2, ground := .data }], guard := none }
def oZC22 : Oper := { dst := some 112, op := .build 53 #[(0, .tmp 111)], type := 53, pos := "memory.go:108", after := #[{ on := 3, ground := .data }], guard := none }
def oZC23 : Oper := { dst := some 113, op := .buildSlice 30 1 #[(0, .tmp 112)], type := 30, pos := "memory.go:108", after := #[{ on := 4, ground := .data }], guard := none }
def oZC24 : Oper := { dst := some 114, op := .call { callee := .builtin .append, args := #[.tmp 108, .tmp 113], argTypes := #[30, 30] }, type := 30, pos := "memory.go:108", after := #[{ on := 0, ground := .data }, { on := 5, ground := .data }], guard := none }
def oZC25 : Oper := { dst := some 117, op := .buildSlice 42 1 #[(0, .tmp 116)], type := 42, pos := "memory.go:110", after := #[{ on := 1, ground := .data }], guard := none }
def oZC26 : Oper := { dst := some 118, op := .call { callee := .builtin .append, args := #[.tmp 115, .tmp 117], argTypes := #[42, 42] }, type := 42, pos := "memory.go:110", after := #[{ on := 0, ground := .data }, { on := 2, ground := .data }], guard := none }
def rAP17 : Array Oper := #[{ dst := some 70, op := .move (.tmp 10), type := 3, pos := "memory.go:97", after := #[], guard := none },
  { dst := some 71, op := .move (.tmp 0), type := 40, pos := "memory.go:97", after := #[], guard := none },
  oZC0,
  oZC1]
def rAP18 : Array Oper := #[{ dst := some 74, op := .move (.tmp 10), type := 3, pos := "memory.go:97", after := #[], guard := none },
  oZC2,
  { dst := some 10, op := .assign (.tmp 75), type := 3, pos := "memory.go:97", after := #[{ on := 1, ground := .data }, { on := 0, ground := .phase }, { on := 1, ground := .phase }], guard := none }]
def rAP19 : Array Oper := #[{ dst := some 76, op := .move (.tmp 0), type := 40, pos := "memory.go:98", after := #[], guard := none },
  { dst := some 77, op := .move (.tmp 10), type := 3, pos := "memory.go:98", after := #[], guard := none },
  oZC3,
  oZC4,
  { dst := some 11, op := .assign (.tmp 79), type := 51, pos := "memory.go:98", after := #[{ on := 3, ground := .data }, { on := 0, ground := .phase }, { on := 1, ground := .phase }, { on := 2, ground := .phase }, { on := 3, ground := .phase }], guard := none }]
def rAP20 : Array Oper := #[{ dst := some 12, op := .assign (.const (.int .i64 0)), type := 3, pos := "memory.go:99", after := #[], guard := none }]
def rAP21 : Array Oper := #[{ dst := some 80, op := .move (.tmp 12), type := 3, pos := "memory.go:99", after := #[], guard := none },
  oZC5]
def rAP22 : Array Oper := #[{ dst := some 82, op := .move (.tmp 12), type := 3, pos := "memory.go:99", after := #[], guard := none },
  oZC6,
  { dst := some 12, op := .assign (.tmp 83), type := 3, pos := "memory.go:99", after := #[{ on := 1, ground := .data }, { on := 0, ground := .phase }, { on := 1, ground := .phase }], guard := none }]
def rAP23 : Array Oper := #[{ dst := some 84, op := .move (.tmp 11), type := 51, pos := "memory.go:100", after := #[], guard := none },
  { dst := some 85, op := .move (.tmp 10), type := 3, pos := "memory.go:100", after := #[], guard := none },
  oZC7,
  oZC8,
  oZC9,
  oZC10,
  { dst := some 11, op := .assign (.tmp 89), type := 51, pos := "memory.go:100", after := #[{ on := 5, ground := .data }, { on := 5, ground := .chain }, { on := 0, ground := .phase }, { on := 1, ground := .phase }, { on := 2, ground := .phase }, { on := 3, ground := .phase }, { on := 4, ground := .phase }, { on := 5, ground := .phase }], guard := none }]
def rAP24 : Array Oper := #[{ dst := some 90, op := .move (.tmp 9), type := 40, pos := "memory.go:102", after := #[], guard := none },
  { dst := some 91, op := .move (.tmp 11), type := 51, pos := "memory.go:102", after := #[], guard := none },
  oZC11,
  oZC12,
  { dst := some 9, op := .assign (.tmp 93), type := 40, pos := "memory.go:102", after := #[{ on := 3, ground := .data }, { on := 3, ground := .chain }, { on := 0, ground := .phase }, { on := 1, ground := .phase }, { on := 2, ground := .phase }, { on := 3, ground := .phase }], guard := none }]
def rAP27 : Array Oper := #[{ dst := some 94, op := .move (.tmp 14), type := 3, pos := "memory.go:105", after := #[], guard := none },
  { dst := some 95, op := .move (.tmp 1), type := 42, pos := "memory.go:105", after := #[], guard := none },
  oZC13,
  oZC14]
def rAP28 : Array Oper := #[{ dst := some 98, op := .move (.tmp 14), type := 3, pos := "memory.go:105", after := #[], guard := none },
  oZC15,
  { dst := some 14, op := .assign (.tmp 99), type := 3, pos := "memory.go:105", after := #[{ on := 1, ground := .data }, { on := 0, ground := .phase }, { on := 1, ground := .phase }], guard := none }]
def rAP29 : Array Oper := #[{ dst := some 100, op := .move (.tmp 1), type := 42, pos := "memory.go:106", after := #[], guard := none },
  { dst := some 101, op := .move (.tmp 14), type := 3, pos := "memory.go:106", after := #[], guard := none },
  oZC16,
  oZC17,
  { dst := some 15, op := .assign (.tmp 103), type := 30, pos := "memory.go:106", after := #[{ on := 3, ground := .data }, { on := 0, ground := .phase }, { on := 1, ground := .phase }, { on := 2, ground := .phase }, { on := 3, ground := .phase }], guard := none }]
def rAP30 : Array Oper := #[{ dst := some 16, op := .assign (.const (.int .i64 0)), type := 3, pos := "memory.go:107", after := #[], guard := none }]
def rAP31 : Array Oper := #[{ dst := some 104, op := .move (.tmp 16), type := 3, pos := "memory.go:107", after := #[], guard := none },
  oZC18]
def rAP32 : Array Oper := #[{ dst := some 106, op := .move (.tmp 16), type := 3, pos := "memory.go:107", after := #[], guard := none },
  oZC19,
  { dst := some 16, op := .assign (.tmp 107), type := 3, pos := "memory.go:107", after := #[{ on := 1, ground := .data }, { on := 0, ground := .phase }, { on := 1, ground := .phase }], guard := none }]
def rAP33 : Array Oper := #[{ dst := some 108, op := .move (.tmp 15), type := 30, pos := "memory.go:108", after := #[], guard := none },
  { dst := some 109, op := .move (.tmp 14), type := 3, pos := "memory.go:108", after := #[], guard := none },
  oZC20,
  oZC21,
  oZC22,
  oZC23,
  oZC24,
  { dst := some 15, op := .assign (.tmp 114), type := 30, pos := "memory.go:108", after := #[{ on := 6, ground := .data }, { on := 6, ground := .chain }, { on := 0, ground := .phase }, { on := 1, ground := .phase }, { on := 2, ground := .phase }, { on := 3, ground := .phase }, { on := 4, ground := .phase }, { on := 5, ground := .phase }, { on := 6, ground := .phase }], guard := none }]
def rAP34 : Array Oper := #[{ dst := some 115, op := .move (.tmp 13), type := 42, pos := "memory.go:110", after := #[], guard := none },
  { dst := some 116, op := .move (.tmp 15), type := 30, pos := "memory.go:110", after := #[], guard := none },
  oZC25,
  oZC26,
  { dst := some 13, op := .assign (.tmp 118), type := 42, pos := "memory.go:110", after := #[{ on := 3, ground := .data }, { on := 3, ground := .chain }, { on := 0, ground := .phase }, { on := 1, ground := .phase }, { on := 2, ground := .phase }, { on := 3, ground := .phase }], guard := none }]
def cGU2 : Code := (.seq (.seq (.region 21 rAP21 false) (.cond (.tmp 81) .skip (.exit 10))) (.seq (.block 11 (.region 23 rAP23 false)) (.region 22 rAP22 false)))
def cGU1 : Code := (.seq (.seq (.region 17 rAP17 false) (.cond (.tmp 73) .skip (.exit 8))) (.seq (.block 9 (.seq (.region 19 rAP19 false) (.seq (.seq (.region 20 rAP20 false) (.block 10 (.loop cGU2))) (.region 24 rAP24 false)))) (.region 18 rAP18 false)))
set_option maxRecDepth 100000 in
set_option maxHeartbeats 1000000 in
theorem gUR {va v1 vm : Value} {i k a b : Nat} {w : World} {x r : Sl} {Q : Exit → Act → World → Prop} (a0 : Act) (wr : World) (I0 : IX (va) v1 a0) (h10 : a0.eval (.tmp 10) = .int .i64 (i : Int)) (h11 : a0.eval (.tmp 11) = .slice r.ao r.n r.c) (h12 : a0.eval (.tmp 12) = .int .i64 (k : Int)) (h9 : a0.eval (.tmp 9) = vm)
    (hin : i ≤ 4000000) (hb : b = 300000 + i) (hk : k < 70) (hx : x.n ≤ 1099511627000) (hG : Gr fU w wr x a b k r)
    (hQ : ∀ a' W r', IX (va) v1 a' → a'.eval (.tmp 10) = .int .i64 (i : Int) → a'.eval (.tmp 11) = Sl.v r' → a'.eval (.tmp 12) = .int .i64 ((k : Int) + 1) → a'.eval (.tmp 9) = vm → Gr fU w W x a b (k + 1) r' → Q .normal a' W) : cGU2.wp Try.prog Q a0 wr := by
  have hki : (k : Int) < 70 := by omega
  have hrb : r.n + 1 ≤ 1099511627776 := by have := hG.n; omega
  have w3 : RowKit.wrap64 (300000 + (i : Int)) = (b : Int) := by unfold RowKit.wrap64; omega
  have w4 : IntKind.u32.wrap (b : Int) = (b : Int) := by rw [IntKind.wrap_u32]; omega
  have w5 : IntKind.i64.wrap (300000 + (i : Int)) = (b : Int) := by rw [IntKind.wrap_i64]; omega
  have w7 : IntKind.i64.wrap ((k : Int) + 1) = (k : Int) + 1 := by rw [IntKind.wrap_i64]; omega
  clear hb
  have g_0 := Fe.refl a0
  unfold cGU2
  refine wp_seq (wp_seq ?_)
  refine wp_region_list ?_
  unfold rAP21
  refine g_0.move 80 (.int .i64 (k : Int)) _ (Or.inl rfl) rfl (lb_ I0.size) (wn rfl) ((g_0.at_ 12).trans h12) (fun x_1 g_1 => ?_)
  clear g_0
  have r_2 : (execOp x_1.eval oZC5).run Try.prog (wr) = .ok (.value (.bool true)) (wr) := by
    unfold oZC5
    have kc : ∀ v, x_1.eval (.const v) = v := fun _ => rfl
    have e80 : x_1.eval (.tmp 80) = .int .i64 (k : Int) := g_1.at_ 80
    clear g_1 hQ h10 h11 h12 h9 hG
    generalize x_1.eval = ρ at *
    go_simp
  refine g_1.step 81 _ rfl (lb_ I0.size) (wn rfl) r_2 (fun x_2 g_2 => ?_)
  clear r_2 g_1
  refine wpList_nil ?_
  change Code.wp _ _ _ _ _
  refine wp_cond_true (show x_2.eval (.tmp 81) = .bool true from (g_2.at_ 81)) (wp_skip ?_)
  change Code.wp _ _ _ _ _
  refine wp_seq (wp_block ?_)
  refine wp_region_list ?_
  unfold rAP23
  refine g_2.move 84 (.slice r.ao r.n r.c) _ (Or.inl rfl) rfl (lb_ I0.size) (wn rfl) ((g_2.at_ 11).trans h11) (fun x_3 g_3 => ?_)
  clear g_2
  refine g_3.move 85 (.int .i64 (i : Int)) _ (Or.inl rfl) rfl (lb_ I0.size) (wn rfl) ((g_3.at_ 10).trans h10) (fun x_4 g_4 => ?_)
  clear g_3
  have r_5 : (execOp x_4.eval oZC7).run Try.prog (wr) = .ok (.value (.int .i64 (b : Int))) (wr) := by
    unfold oZC7
    have kc : ∀ v, x_4.eval (.const v) = v := fun _ => rfl
    have e85 : x_4.eval (.tmp 85) = .int .i64 (i : Int) := g_4.at_ 85
    clear g_4 hQ h10 h11 h12 h9 hG
    generalize x_4.eval = ρ at *
    go_simp
  refine g_4.step 86 _ rfl (lb_ I0.size) (wn rfl) r_5 (fun x_5 g_5 => ?_)
  clear r_5 g_4
  have r_6 : (execOp x_5.eval oZC8).run Try.prog (wr) = .ok (.value (.int .u32 (b : Int))) (wr) := by
    unfold oZC8
    have e86 : x_5.eval (.tmp 86) = .int .i64 (b : Int) := g_5.at_ 86
    clear g_5 hQ h10 h11 h12 h9 hG
    generalize x_5.eval = ρ at *
    go_simp
  refine g_5.step 87 _ rfl (lb_ I0.size) (wn rfl) r_6 (fun x_6 g_6 => ?_)
  clear r_6 g_5
  have r_7 : (execOp x_6.eval oZC9).run Try.prog (wr) = .ok (.value (.slice (some ⟨wr.heap.size, 0, none⟩) 1 1)) (wr.alloc (.cells #[.int .u32 (b : Int)] 28)) := by
    unfold oZC9
    have e87 : x_6.eval (.tmp 87) = .int .u32 (b : Int) := g_6.at_ 87
    clear g_6 hQ h10 h11 h12 h9 hG
    generalize x_6.eval = ρ at *
    go_simp
  refine g_6.stepW 88 (.slice (some ⟨wr.heap.size, 0, none⟩) 1 1) rfl (lb_ I0.size) (wn rfl) r_7 (fun x_7 g_7 => ?_)
  clear r_7
  obtain ⟨W3, hW3⟩ : ∃ W3, W3 = wr.alloc (.cells #[.int .u32 (b : Int)] 28) := ⟨_, rfl⟩
  rw [← hW3]
  have s3 : Same wr W3 := by rw [hW3]; exact (Fr.refl _ wr).alloc _
  have hh3 : W3.heap[wr.heap.size]? = some (.cells (fU.mrk b).toArray 28 (0, 0)) := by rw [hW3]; exact heap_alloc_new wr _
  obtain ⟨i0, hi, hi0, hi1, hi2⟩ := info_parts Try.infU32
  have hG3 := hG.same s3
  obtain ⟨g4, c4, W4, hr4, o4, gr4, kp4, at4⟩ := run_append_fam (F := fU) (x := r) W3 51 51 Try.underlying51 hi hi0 hi1 hi2 (by decide) rfl hG3.row ⟨wr.heap.size, 0, none⟩ 1 (fU.len b) (row_news hh3) (fU.one b) hrb
  have hG4 := hG3.step o4 gr4 kp4 at4
  clear g_6
  have r_8 : (execOp x_7.eval oZC10).run Try.prog (W3) = .ok (.value (.slice (some ⟨g4, 0, none⟩) (r.n + 1) c4)) (W4) := by
    unfold oZC10
    refine exec_append rfl ?_
    rw [(show x_7.eval (.tmp 84) = .slice r.ao r.n r.c from (g_7.at_ 84)), (show x_7.eval (.tmp 88) = .slice (some ⟨wr.heap.size, 0, none⟩) 1 1 from (g_7.at_ 88))]
    exact hr4
  refine g_7.stepW 89 (.slice (some ⟨g4, 0, none⟩) (r.n + 1) c4) rfl (lb_ I0.size) (wn rfl) r_8 (fun x_8 g_8 => ?_)
  clear r_8 g_7
  refine g_8.move 11 (.slice (some ⟨g4, 0, none⟩) (r.n + 1) c4) _ (Or.inr rfl) rfl (lb_ I0.size) (wn rfl) (g_8.at_ 89) (fun x_9 g_9 => ?_)
  clear g_8
  refine wpList_nil ?_
  change Code.wp _ _ _ _ _
  refine wp_region_list ?_
  unfold rAP22
  refine g_9.move 82 (.int .i64 (k : Int)) _ (Or.inl rfl) rfl (lb_ I0.size) (wn rfl) ((g_9.at_ 12).trans h12) (fun x_10 g_10 => ?_)
  clear g_9
  have r_11 : (execOp x_10.eval oZC6).run Try.prog (W4) = .ok (.value (.int .i64 ((k : Int) + 1))) (W4) := by
    unfold oZC6
    have kc : ∀ v, x_10.eval (.const v) = v := fun _ => rfl
    have e82 : x_10.eval (.tmp 82) = .int .i64 (k : Int) := g_10.at_ 82
    clear g_10 hQ h10 h11 h12 h9 hG
    generalize x_10.eval = ρ at *
    go_simp
  refine g_10.step 83 _ rfl (lb_ I0.size) (wn rfl) r_11 (fun x_11 g_11 => ?_)
  clear r_11 g_10
  refine g_11.move 12 (.int .i64 ((k : Int) + 1)) _ (Or.inr rfl) rfl (lb_ I0.size) (wn rfl) (g_11.at_ 83) (fun x_12 g_12 => ?_)
  clear g_11
  refine wpList_nil ?_
  exact hQ x_12 W4 ⟨some ⟨g4, 0, none⟩, r.n + 1, c4⟩ (I0.keep g_12 rfl rfl) (show x_12.eval (.tmp 10) = .int .i64 (i : Int) from ((g_12.at_ 10).trans h10)) (show x_12.eval (.tmp 11) = .slice (some ⟨g4, 0, none⟩) (r.n + 1) c4 from (g_12.at_ 11)) (show x_12.eval (.tmp 12) = .int .i64 ((k : Int) + 1) from (g_12.at_ 12)) ((g_12.at_ 9).trans h9) hG4
set_option maxRecDepth 100000 in
theorem gUE {va v1 vm : Value} {i : Nat} {r : Sl} {Q : Exit → Act → World → Prop} (a0 : Act) (wr : World) (I0 : IX (va) v1 a0) (h10 : a0.eval (.tmp 10) = .int .i64 (i : Int)) (h11 : a0.eval (.tmp 11) = .slice r.ao r.n r.c) (h12 : a0.eval (.tmp 12) = .int .i64 70) (h9 : a0.eval (.tmp 9) = vm)
    (hQ : ∀ a', IX (va) v1 a' → a'.eval (.tmp 10) = .int .i64 (i : Int) → a'.eval (.tmp 11) = Sl.v r → a'.eval (.tmp 9) = vm → Q (.exit 10) a' wr) : cGU2.wp Try.prog Q a0 wr := by
  have g_0 := Fe.refl a0
  unfold cGU2
  refine wp_seq (wp_seq ?_)
  refine wp_region_list ?_
  unfold rAP21
  refine g_0.move 80 (.int .i64 70) _ (Or.inl rfl) rfl (lb_ I0.size) (wn rfl) ((g_0.at_ 12).trans h12) (fun x_1 g_1 => ?_)
  clear g_0
  have r_2 : (execOp x_1.eval oZC5).run Try.prog (wr) = .ok (.value (.bool false)) (wr) := by
    unfold oZC5
    have kc : ∀ v, x_1.eval (.const v) = v := fun _ => rfl
    have e80 : x_1.eval (.tmp 80) = .int .i64 70 := g_1.at_ 80
    clear g_1 hQ h10 h11 h12 h9
    generalize x_1.eval = ρ at *
    go_simp
  refine g_1.step 81 _ rfl (lb_ I0.size) (wn rfl) r_2 (fun x_2 g_2 => ?_)
  clear r_2 g_1
  refine wpList_nil ?_
  change Code.wp _ _ _ _ _
  refine wp_cond_false (show x_2.eval (.tmp 81) = .bool false from (g_2.at_ 81)) (wp_exit ?_)
  exact hQ x_2 (I0.keep g_2 rfl rfl) (show x_2.eval (.tmp 10) = .int .i64 (i : Int) from ((g_2.at_ 10).trans h10)) (show x_2.eval (.tmp 11) = .slice r.ao r.n r.c from ((g_2.at_ 11).trans h11)) ((g_2.at_ 9).trans h9)
theorem gUL2 {va v1 vm : Value} {i a b : Nat} {x : Sl} {Q : Exit → Act → World → Prop} (a0 : Act) (w : World) (I0 : IX (va) v1 a0) (h5 : a0.eval (.tmp 10) = .int .i64 (i : Int)) (hg : a0.eval (.tmp 11) = Sl.v x) (h6 : a0.eval (.tmp 12) = .int .i64 ((0 : Nat) : Int)) (hm : a0.eval (.tmp 9) = vm)
    (hin : i ≤ 4000000) (hb : b = 300000 + i) (hx : x.n ≤ 1099511627000) (hr : RX fU w x (rp fU x.n a))
    (hQ : ∀ a' W r, IX (va) v1 a' → a'.eval (.tmp 10) = .int .i64 (i : Int) → a'.eval (.tmp 11) = Sl.v r → a'.eval (.tmp 9) = vm → Gr fU w W x a b 70 r → Q (.exit 10) a' W) : (Code.loop cGU2).wp Try.prog Q a0 w := by
  refine wp_loop (fun a' W => IX (va) v1 a' ∧ a'.eval (.tmp 10) = .int .i64 (i : Int) ∧ a'.eval (.tmp 9) = vm ∧ ∃ (k : Nat) (r : Sl), k ≤ 70 ∧ a'.eval (.tmp 11) = Sl.v r ∧ a'.eval (.tmp 12) = .int .i64 (k : Int) ∧ Gr fU w W x a b k r) (fun a' _ => 70 - kOf a' 12) ⟨I0, h5, hm, 0, x, Nat.zero_le _, hg, h6, Gr.start hr b⟩ ?_
  rintro a1 W ⟨I1, g5, gm, k, r, hk, gg, g6, hG⟩
  by_cases hgo : k < 70
  · refine gUR a1 W I1 g5 gg g6 gm hin hb hgo hx hG (fun a' W2 r2 i2 k5 kg k6 km hG2 => ?_)
    have h4 : a'.eval (.tmp 12) = .int .i64 ((k + 1 : Nat) : Int) := k6
    refine ⟨⟨i2, k5, km, k + 1, r2, hgo, kg, h4, hG2⟩, ?_⟩
    show 70 - kOf a' 12 < 70 - kOf a1 12
    rw [kOf_eq h4, kOf_eq g6]
    omega
  · obtain rfl : k = 70 := by omega
    exact gUE a1 W I1 g5 gg g6 gm (fun a' i2 k5 kg km => hQ a' W r i2 k5 kg km hG)
set_option maxRecDepth 100000 in
set_option maxHeartbeats 1000000 in
theorem gUO {v1 : Value} {lb lo n lc i mc : Nat} {ma : Option Addr} {L M : List Sl} {x : Sl} {w : World} {Q : Exit → Act → World → Prop} (a0 : Act) (wr : World) (I0 : IX (.slice (some ⟨lb, lo, none⟩) n lc) v1 a0) (h10 : a0.eval (.tmp 10) = .int .i64 (i : Int)) (h9 : a0.eval (.tmp 9) = .slice ma i mc)
    (hi : i < n) (hn : n ≤ 4000000) (ap : Apt fU w L) (hx : L[i]? = some x) (c1 : wr.cell? ⟨lb, lo + i, none⟩ = some (.slice x.ao x.n x.c)) (hw : Grw fU 51 w wr L 100000 300000 i ma mc M)
    (hQ : ∀ a' W a4 c4 r, IX (.slice (some ⟨lb, lo, none⟩) n lc) v1 a' → a'.eval (.tmp 10) = .int .i64 ((i : Int) + 1) → a'.eval (.tmp 9) = .slice a4 (i + 1) c4 → Grw fU 51 w W L 100000 300000 (i + 1) a4 c4 (M ++ [r]) → Q .normal a' W) : cGU1.wp Try.prog Q a0 wr := by
  have hii : (i : Int) < (n : Int) := by omega
  have w7 : IntKind.i64.wrap ((i : Int) + 1) = (i : Int) + 1 := by rw [IntKind.wrap_i64]; omega
  have g_0 := Fe.refl a0
  unfold cGU1
  refine wp_seq (wp_seq ?_)
  refine wp_region_list ?_
  unfold rAP17
  refine g_0.move 70 (.int .i64 (i : Int)) _ (Or.inl rfl) rfl (lb_ I0.size) (wn rfl) ((g_0.at_ 10).trans h10) (fun x_1 g_1 => ?_)
  clear g_0
  refine g_1.move 71 (.slice (some ⟨lb, lo, none⟩) n lc) _ (Or.inl rfl) rfl (lb_ I0.size) (wn rfl) ((g_1.at_ 0).trans I0.s0) (fun x_2 g_2 => ?_)
  clear g_1
  have r_3 : (execOp x_2.eval oZC0).run Try.prog (wr) = .ok (.value (.int .i64 (n : Int))) (wr) := by
    unfold oZC0
    have e71 : x_2.eval (.tmp 71) = .slice (some ⟨lb, lo, none⟩) n lc := g_2.at_ 71
    clear g_2 hQ h10 h9 hw hx
    generalize x_2.eval = ρ at *
    go_simp
  refine g_2.step 72 _ rfl (lb_ I0.size) (wn rfl) r_3 (fun x_3 g_3 => ?_)
  clear r_3 g_2
  have r_4 : (execOp x_3.eval oZC1).run Try.prog (wr) = .ok (.value (.bool true)) (wr) := by
    unfold oZC1
    have e70 : x_3.eval (.tmp 70) = .int .i64 (i : Int) := g_3.at_ 70
    have e72 : x_3.eval (.tmp 72) = .int .i64 (n : Int) := g_3.at_ 72
    clear g_3 hQ h10 h9 hw hx
    generalize x_3.eval = ρ at *
    go_simp
  refine g_3.step 73 _ rfl (lb_ I0.size) (wn rfl) r_4 (fun x_4 g_4 => ?_)
  clear r_4 g_3
  refine wpList_nil ?_
  change Code.wp _ _ _ _ _
  refine wp_cond_true (show x_4.eval (.tmp 73) = .bool true from (g_4.at_ 73)) (wp_skip ?_)
  change Code.wp _ _ _ _ _
  refine wp_seq (wp_block (wp_seq ?_))
  refine wp_region_list ?_
  unfold rAP19
  refine g_4.move 76 (.slice (some ⟨lb, lo, none⟩) n lc) _ (Or.inl rfl) rfl (lb_ I0.size) (wn rfl) ((g_4.at_ 0).trans I0.s0) (fun x_5 g_5 => ?_)
  clear g_4
  refine g_5.move 77 (.int .i64 (i : Int)) _ (Or.inl rfl) rfl (lb_ I0.size) (wn rfl) ((g_5.at_ 10).trans h10) (fun x_6 g_6 => ?_)
  clear g_5
  have r_7 : (execOp x_6.eval oZC3).run Try.prog (wr) = .ok (.value (.pointer (some ⟨lb, lo + i, none⟩))) (wr) := by
    unfold oZC3
    have e76 : x_6.eval (.tmp 76) = .slice (some ⟨lb, lo, none⟩) n lc := g_6.at_ 76
    have e77 : x_6.eval (.tmp 77) = .int .i64 (i : Int) := g_6.at_ 77
    clear g_6 hQ h10 h9 hw hx
    generalize x_6.eval = ρ at *
    go_simp
  refine g_6.step 78 _ rfl (lb_ I0.size) (wn rfl) r_7 (fun x_7 g_7 => ?_)
  clear r_7 g_6
  have r_8 : (execOp x_7.eval oZC4).run Try.prog (wr) = .ok (.value (.slice x.ao x.n x.c)) (wr) := by
    unfold oZC4
    have e78 : x_7.eval (.tmp 78) = .pointer (some ⟨lb, lo + i, none⟩) := g_7.at_ 78
    clear g_7 hQ h10 h9 hw hx
    generalize x_7.eval = ρ at *
    go_simp
  refine g_7.step 79 _ rfl (lb_ I0.size) (wn rfl) r_8 (fun x_8 g_8 => ?_)
  clear r_8 g_7
  refine g_8.move 11 (.slice x.ao x.n x.c) _ (Or.inr rfl) rfl (lb_ I0.size) (wn rfl) (g_8.at_ 79) (fun x_9 g_9 => ?_)
  clear g_8
  refine wpList_nil ?_
  change Code.wp _ _ _ _ _
  refine wp_seq (wp_seq ?_)
  refine wp_region_list ?_
  unfold rAP20
  refine g_9.move 12 (.int .i64 ((0 : Nat) : Int)) _ (Or.inr rfl) rfl (lb_ I0.size) (wn rfl) rfl (fun x_10 g_10 => ?_)
  clear g_9
  refine wpList_nil ?_
  change Code.wp _ _ _ _ _
  refine wp_block ?_
  refine gUL2 (b := 300000 + i) (x := x) x_10 wr (I0.keep g_10 rfl rfl) (show x_10.eval (.tmp 10) = .int .i64 (i : Int) from ((g_10.at_ 10).trans h10)) (show x_10.eval (.tmp 11) = .slice x.ao x.n x.c from (g_10.at_ 11)) (show x_10.eval (.tmp 12) = .int .i64 ((0 : Nat) : Int) from (g_10.at_ 12)) (show x_10.eval (.tmp 9) = .slice ma i mc from ((g_10.at_ 9).trans h9)) (by omega) rfl (ap.len x (List.mem_of_getElem? hx)) (hw.left i x (Nat.le_refl _) hx) (fun d W2 r i2 d5 dg dm hG => ?_)
  change Code.wp _ _ _ _ _
  have fd_0 := Fe.refl d
  refine wp_region_list ?_
  unfold rAP24
  refine fd_0.move 90 (.slice ma i mc) _ (Or.inl rfl) rfl (lb_ i2.size) (wn rfl) ((fd_0.at_ 9).trans dm) (fun d_1 fd_1 => ?_)
  clear fd_0
  refine fd_1.move 91 (.slice r.ao r.n r.c) _ (Or.inl rfl) rfl (lb_ i2.size) (wn rfl) ((fd_1.at_ 11).trans dg) (fun d_2 fd_2 => ?_)
  clear fd_1
  have r_d_3 : (execOp d_2.eval oZC11).run Try.prog (W2) = .ok (.value (.slice (some ⟨W2.heap.size, 0, none⟩) 1 1)) (W2.alloc (.cells #[.slice r.ao r.n r.c] 51)) := by
    unfold oZC11
    have e91 : d_2.eval (.tmp 91) = .slice r.ao r.n r.c := fd_2.at_ 91
    clear fd_2 hQ d5 dg dm h10 h9 hw hx hG
    generalize d_2.eval = ρ at *
    go_simp
  refine fd_2.stepW 92 (.slice (some ⟨W2.heap.size, 0, none⟩) 1 1) rfl (lb_ i2.size) (wn rfl) r_d_3 (fun d_3 fd_3 => ?_)
  clear r_d_3
  obtain ⟨W3, hW3⟩ : ∃ W3, W3 = W2.alloc (.cells #[.slice r.ao r.n r.c] 51) := ⟨_, rfl⟩
  rw [← hW3]
  have s3 : Same W2 W3 := by rw [hW3]; exact (Fr.refl _ W2).alloc _
  have hh3 : W3.heap[W2.heap.size]? = some (.cells [Sl.v r].toArray 51 (0, 0)) := by rw [hW3]; exact heap_alloc_new W2 _
  obtain ⟨i0, hi, hi0, hi1, hi2⟩ := info_parts Try.infNs
  obtain ⟨a4, c4, W4, hr4, o4, gr4⟩ := run_more (u := Sl.v r) W3 40 40 51 Try.underlying40 hi hi0 hi1 hi2 (by decide) rfl (own_frameB (hw.moreW ap hx hG) s3 (fun _ _ f => f)) 1 (row_news hh3) rfl (by omega) (Nat.le_trans (Nat.le_trans hw.base.size hG.base.size) s3.size)
  have f4 : Fr (fun k => ma.map (·.block) = some k) W2 W4 := Fr.trans (S := fun k => ma.map (·.block) = some k) (Fr.mono s3 (fun _ _ f => f.elim)) (Fr.grown (Fr.refl _ _) gr4 (fun k e _ => (blk_of.symm.trans e : ma.map (·.block) = some k))) (fun k _ e => e)
  have hw4 := hw.next (by decide) ap hx hG f4 (by rw [List.map_append]; exact o4)
  clear fd_2
  have r_d_4 : (execOp d_3.eval oZC12).run Try.prog (W3) = .ok (.value (.slice a4 (i + 1) c4)) (W4) := by
    unfold oZC12
    refine exec_append rfl ?_
    rw [(show d_3.eval (.tmp 90) = .slice ma i mc from (fd_3.at_ 90)), (show d_3.eval (.tmp 92) = .slice (some ⟨W2.heap.size, 0, none⟩) 1 1 from (fd_3.at_ 92))]
    exact hr4
  refine fd_3.stepW 93 (.slice a4 (i + 1) c4) rfl (lb_ i2.size) (wn rfl) r_d_4 (fun d_4 fd_4 => ?_)
  clear r_d_4 fd_3
  refine fd_4.move 9 (.slice a4 (i + 1) c4) _ (Or.inr rfl) rfl (lb_ i2.size) (wn rfl) (fd_4.at_ 93) (fun d_5 fd_5 => ?_)
  clear fd_4
  refine wpList_nil ?_
  change Code.wp _ _ _ _ _
  refine wp_region_list ?_
  unfold rAP18
  refine fd_5.move 74 (.int .i64 (i : Int)) _ (Or.inl rfl) rfl (lb_ i2.size) (wn rfl) ((fd_5.at_ 10).trans d5) (fun d_6 fd_6 => ?_)
  clear fd_5
  have r_d_7 : (execOp d_6.eval oZC2).run Try.prog (W4) = .ok (.value (.int .i64 ((i : Int) + 1))) (W4) := by
    unfold oZC2
    have kc : ∀ v, d_6.eval (.const v) = v := fun _ => rfl
    have e74 : d_6.eval (.tmp 74) = .int .i64 (i : Int) := fd_6.at_ 74
    clear fd_6 hQ d5 dg dm h10 h9 hw hx hG
    generalize d_6.eval = ρ at *
    go_simp
  refine fd_6.step 75 _ rfl (lb_ i2.size) (wn rfl) r_d_7 (fun d_7 fd_7 => ?_)
  clear r_d_7 fd_6
  refine fd_7.move 10 (.int .i64 ((i : Int) + 1)) _ (Or.inr rfl) rfl (lb_ i2.size) (wn rfl) (fd_7.at_ 75) (fun d_8 fd_8 => ?_)
  clear fd_7
  refine wpList_nil ?_
  exact hQ d_8 W4 a4 c4 r (i2.keep fd_8 rfl rfl) (show d_8.eval (.tmp 10) = .int .i64 ((i : Int) + 1) from (fd_8.at_ 10)) (show d_8.eval (.tmp 9) = .slice a4 (i + 1) c4 from (fd_8.at_ 9)) hw4
set_option maxRecDepth 100000 in
theorem gUX {v1 : Value} {la ma : Option Addr} {n lc mc : Nat} {Q : Exit → Act → World → Prop} (a0 : Act) (wr : World) (I0 : IX (.slice la n lc) v1 a0) (h10 : a0.eval (.tmp 10) = .int .i64 (n : Int)) (h9 : a0.eval (.tmp 9) = .slice ma n mc)
    (hQ : ∀ a, IX (.slice la n lc) v1 a → a.eval (.tmp 9) = .slice ma n mc → Q (.exit 8) a wr) : cGU1.wp Try.prog Q a0 wr := by
  have g_0 := Fe.refl a0
  unfold cGU1
  refine wp_seq (wp_seq ?_)
  refine wp_region_list ?_
  unfold rAP17
  refine g_0.move 70 (.int .i64 (n : Int)) _ (Or.inl rfl) rfl (lb_ I0.size) (wn rfl) ((g_0.at_ 10).trans h10) (fun x_1 g_1 => ?_)
  clear g_0
  refine g_1.move 71 (.slice la n lc) _ (Or.inl rfl) rfl (lb_ I0.size) (wn rfl) ((g_1.at_ 0).trans I0.s0) (fun x_2 g_2 => ?_)
  clear g_1
  have r_3 : (execOp x_2.eval oZC0).run Try.prog (wr) = .ok (.value (.int .i64 (n : Int))) (wr) := by
    unfold oZC0
    have e71 : x_2.eval (.tmp 71) = .slice la n lc := g_2.at_ 71
    clear g_2 hQ h10 h9
    generalize x_2.eval = ρ at *
    go_simp
  refine g_2.step 72 _ rfl (lb_ I0.size) (wn rfl) r_3 (fun x_3 g_3 => ?_)
  clear r_3 g_2
  have r_4 : (execOp x_3.eval oZC1).run Try.prog (wr) = .ok (.value (.bool false)) (wr) := by
    unfold oZC1
    have e70 : x_3.eval (.tmp 70) = .int .i64 (n : Int) := g_3.at_ 70
    have e72 : x_3.eval (.tmp 72) = .int .i64 (n : Int) := g_3.at_ 72
    clear g_3 hQ h10 h9
    generalize x_3.eval = ρ at *
    go_simp
  refine g_3.step 73 _ rfl (lb_ I0.size) (wn rfl) r_4 (fun x_4 g_4 => ?_)
  clear r_4 g_3
  refine wpList_nil ?_
  change Code.wp _ _ _ _ _
  refine wp_cond_false (show x_4.eval (.tmp 73) = .bool false from (g_4.at_ 73)) (wp_exit ?_)
  exact hQ x_4 (I0.keep g_4 rfl rfl) (show x_4.eval (.tmp 9) = .slice ma n mc from ((g_4.at_ 9).trans h9))
theorem gUL {v1 : Value} {la : Option Addr} {lb lo n lc : Nat} {L : List Sl} {Q : Exit → Act → World → Prop} (a0 : Act) (w : World) (I0 : IX (.slice la n lc) v1 a0) (h5 : a0.eval (.tmp 10) = .int .i64 ((0 : Nat) : Int)) (hm : a0.eval (.tmp 9) = .slice none 0 0)
    (hn : n ≤ 4000000) (hl : n = L.length) (ho : ∀ W, Fr (inB L) w W → OutAt 51 W la lb lo L) (hM : Mrk fU w L L.length 100000)
    (hQ : ∀ a W ma mc M, IX (.slice la n lc) v1 a → a.eval (.tmp 9) = .slice ma n mc → Grw fU 51 w W L 100000 300000 n ma mc M → Q (.exit 8) a W) : (Code.loop cGU1).wp Try.prog Q a0 w := by
  refine wp_loop (fun a W => IX (.slice la n lc) v1 a ∧ ∃ (i : Nat) (ma : Option Addr) (mc : Nat) (M : List Sl), i ≤ n ∧ a.eval (.tmp 10) = .int .i64 (i : Int) ∧ a.eval (.tmp 9) = .slice ma i mc ∧ Grw fU 51 w W L 100000 300000 i ma mc M) (fun a _ => n - kOf a 10) ⟨I0, 0, none, 0, [], Nat.zero_le _, h5, hm, Grw.start hM _⟩ ?_
  rintro a W ⟨I1, i, ma, mc, M, hi, g5, gm, hw⟩
  by_cases hgo : i < n
  · obtain ⟨x, hx⟩ : ∃ x, L[i]? = some x := ⟨_, List.getElem?_eq_getElem (by omega)⟩
    have hne : L ≠ [] := by intro e; rw [e] at hx; simp at hx
    obtain ⟨rfl, _⟩ := (ho W hw.base).place hne
    refine gUO a W I1 g5 gm hgo hn hM.apt hx ((ho W hw.base).cells i x hx) hw (fun a' W2 a4 c4 r i2 k5 km hw2 => ?_)
    have h4 : a'.eval (.tmp 10) = .int .i64 ((i + 1 : Nat) : Int) := k5
    refine ⟨⟨i2, i + 1, a4, c4, M ++ [r], hgo, h4, km, hw2⟩, ?_⟩
    show n - kOf a' 10 < n - kOf a 10
    rw [kOf_eq h4, kOf_eq g5]
    omega
  · obtain rfl : i = n := by omega
    exact gUX a W I1 g5 gm (fun a' i2 km => hQ a' W ma mc M i2 km hw)
def cGB2 : Code := (.seq (.seq (.region 31 rAP31 false) (.cond (.tmp 105) .skip (.exit 14))) (.seq (.block 15 (.region 33 rAP33 false)) (.region 32 rAP32 false)))
def cGB1 : Code := (.seq (.seq (.region 27 rAP27 false) (.cond (.tmp 97) .skip (.exit 12))) (.seq (.block 13 (.seq (.region 29 rAP29 false) (.seq (.seq (.region 30 rAP30 false) (.block 14 (.loop cGB2))) (.region 34 rAP34 false)))) (.region 28 rAP28 false)))
set_option maxRecDepth 100000 in
set_option maxHeartbeats 1000000 in
theorem gBR {va v0 v9 vm : Value} {i k a b : Nat} {w : World} {x r : Sl} {Q : Exit → Act → World → Prop} (a0 : Act) (wr : World) (I0 : IY v0 (va) v9 a0) (h14 : a0.eval (.tmp 14) = .int .i64 (i : Int)) (h15 : a0.eval (.tmp 15) = .slice r.ao r.n r.c) (h16 : a0.eval (.tmp 16) = .int .i64 (k : Int)) (h13 : a0.eval (.tmp 13) = vm)
    (hin : i ≤ 4000000) (hb : b = 400000 + i) (hk : k < 70) (hx : x.n ≤ 1099511627000) (hG : Gr fB w wr x a b k r)
    (hQ : ∀ a' W r', IY v0 (va) v9 a' → a'.eval (.tmp 14) = .int .i64 (i : Int) → a'.eval (.tmp 15) = Sl.v r' → a'.eval (.tmp 16) = .int .i64 ((k : Int) + 1) → a'.eval (.tmp 13) = vm → Gr fB w W x a b (k + 1) r' → Q .normal a' W) : cGB2.wp Try.prog Q a0 wr := by
  have hki : (k : Int) < 70 := by omega
  have hrb : r.n + 1 ≤ 1099511627776 := by have := hG.n; omega
  have w3 : RowKit.wrap64 (400000 + (i : Int)) = (b : Int) := by unfold RowKit.wrap64; omega
  have w4 : IntKind.u32.wrap (b : Int) = (b : Int) := by rw [IntKind.wrap_u32]; omega
  have w5 : IntKind.i64.wrap (400000 + (i : Int)) = (b : Int) := by rw [IntKind.wrap_i64]; omega
  have w7 : IntKind.i64.wrap ((k : Int) + 1) = (k : Int) + 1 := by rw [IntKind.wrap_i64]; omega
  clear hb
  have g_0 := Fe.refl a0
  unfold cGB2
  refine wp_seq (wp_seq ?_)
  refine wp_region_list ?_
  unfold rAP31
  refine g_0.move 104 (.int .i64 (k : Int)) _ (Or.inl rfl) rfl (lb_ I0.size) (wn rfl) ((g_0.at_ 16).trans h16) (fun x_1 g_1 => ?_)
  clear g_0
  have r_2 : (execOp x_1.eval oZC18).run Try.prog (wr) = .ok (.value (.bool true)) (wr) := by
    unfold oZC18
    have kc : ∀ v, x_1.eval (.const v) = v := fun _ => rfl
    have e104 : x_1.eval (.tmp 104) = .int .i64 (k : Int) := g_1.at_ 104
    clear g_1 hQ h14 h15 h16 h13 hG
    generalize x_1.eval = ρ at *
    go_simp
  refine g_1.step 105 _ rfl (lb_ I0.size) (wn rfl) r_2 (fun x_2 g_2 => ?_)
  clear r_2 g_1
  refine wpList_nil ?_
  change Code.wp _ _ _ _ _
  refine wp_cond_true (show x_2.eval (.tmp 105) = .bool true from (g_2.at_ 105)) (wp_skip ?_)
  change Code.wp _ _ _ _ _
  refine wp_seq (wp_block ?_)
  refine wp_region_list ?_
  unfold rAP33
  refine g_2.move 108 (.slice r.ao r.n r.c) _ (Or.inl rfl) rfl (lb_ I0.size) (wn rfl) ((g_2.at_ 15).trans h15) (fun x_3 g_3 => ?_)
  clear g_2
  refine g_3.move 109 (.int .i64 (i : Int)) _ (Or.inl rfl) rfl (lb_ I0.size) (wn rfl) ((g_3.at_ 14).trans h14) (fun x_4 g_4 => ?_)
  clear g_3
  have r_5 : (execOp x_4.eval oZC20).run Try.prog (wr) = .ok (.value (.int .i64 (b : Int))) (wr) := by
    unfold oZC20
    have kc : ∀ v, x_4.eval (.const v) = v := fun _ => rfl
    have e109 : x_4.eval (.tmp 109) = .int .i64 (i : Int) := g_4.at_ 109
    clear g_4 hQ h14 h15 h16 h13 hG
    generalize x_4.eval = ρ at *
    go_simp
  refine g_4.step 110 _ rfl (lb_ I0.size) (wn rfl) r_5 (fun x_5 g_5 => ?_)
  clear r_5 g_4
  have r_6 : (execOp x_5.eval oZC21).run Try.prog (wr) = .ok (.value (.int .u32 (b : Int))) (wr) := by
    unfold oZC21
    have e110 : x_5.eval (.tmp 110) = .int .i64 (b : Int) := g_5.at_ 110
    clear g_5 hQ h14 h15 h16 h13 hG
    generalize x_5.eval = ρ at *
    go_simp
  refine g_5.step 111 _ rfl (lb_ I0.size) (wn rfl) r_6 (fun x_6 g_6 => ?_)
  clear r_6 g_5
  have r_7 : (execOp x_6.eval oZC22).run Try.prog (wr) = .ok (.value (.agg #[.int .u32 (b : Int), .slice none 0 0])) (wr) := by
    unfold oZC22
    have e111 : x_6.eval (.tmp 111) = .int .u32 (b : Int) := g_6.at_ 111
    clear g_6 hQ h14 h15 h16 h13 hG
    generalize x_6.eval = ρ at *
    go_simp
  refine g_6.step 112 _ rfl (lb_ I0.size) (wn rfl) r_7 (fun x_7 g_7 => ?_)
  clear r_7 g_6
  have r_8 : (execOp x_7.eval oZC23).run Try.prog (wr) = .ok (.value (.slice (some ⟨wr.heap.size, 0, none⟩) 1 1)) (wr.alloc (.cells #[.int .u32 (b : Int), .slice none 0 0] 53)) := by
    unfold oZC23
    have e112 : x_7.eval (.tmp 112) = .agg #[.int .u32 (b : Int), .slice none 0 0] := g_7.at_ 112
    clear g_7 hQ h14 h15 h16 h13 hG
    generalize x_7.eval = ρ at *
    go_simp
  refine g_7.stepW 113 (.slice (some ⟨wr.heap.size, 0, none⟩) 1 1) rfl (lb_ I0.size) (wn rfl) r_8 (fun x_8 g_8 => ?_)
  clear r_8
  obtain ⟨W3, hW3⟩ : ∃ W3, W3 = wr.alloc (.cells #[.int .u32 (b : Int), .slice none 0 0] 53) := ⟨_, rfl⟩
  rw [← hW3]
  have s3 : Same wr W3 := by rw [hW3]; exact (Fr.refl _ wr).alloc _
  have hh3 : W3.heap[wr.heap.size]? = some (.cells (fB.mrk b).toArray 53 (0, 0)) := by rw [hW3]; exact heap_alloc_new wr _
  obtain ⟨i0, hi, hi0, hi1, hi2⟩ := info_parts Try.infBt
  have hG3 := hG.same s3
  obtain ⟨g4, c4, W4, hr4, o4, gr4, kp4, at4⟩ := run_append_fam (F := fB) (x := r) W3 30 30 Try.underlying30 hi hi0 hi1 hi2 (by decide) rfl hG3.row ⟨wr.heap.size, 0, none⟩ 1 (fB.len b) (row_news hh3) (fB.one b) hrb
  have hG4 := hG3.step o4 gr4 kp4 at4
  clear g_7
  have r_9 : (execOp x_8.eval oZC24).run Try.prog (W3) = .ok (.value (.slice (some ⟨g4, 0, none⟩) (r.n + 1) c4)) (W4) := by
    unfold oZC24
    refine exec_append rfl ?_
    rw [(show x_8.eval (.tmp 108) = .slice r.ao r.n r.c from (g_8.at_ 108)), (show x_8.eval (.tmp 113) = .slice (some ⟨wr.heap.size, 0, none⟩) 1 1 from (g_8.at_ 113))]
    exact hr4
  refine g_8.stepW 114 (.slice (some ⟨g4, 0, none⟩) (r.n + 1) c4) rfl (lb_ I0.size) (wn rfl) r_9 (fun x_9 g_9 => ?_)
  clear r_9 g_8
  refine g_9.move 15 (.slice (some ⟨g4, 0, none⟩) (r.n + 1) c4) _ (Or.inr rfl) rfl (lb_ I0.size) (wn rfl) (g_9.at_ 114) (fun x_10 g_10 => ?_)
  clear g_9
  refine wpList_nil ?_
  change Code.wp _ _ _ _ _
  refine wp_region_list ?_
  unfold rAP32
  refine g_10.move 106 (.int .i64 (k : Int)) _ (Or.inl rfl) rfl (lb_ I0.size) (wn rfl) ((g_10.at_ 16).trans h16) (fun x_11 g_11 => ?_)
  clear g_10
  have r_12 : (execOp x_11.eval oZC19).run Try.prog (W4) = .ok (.value (.int .i64 ((k : Int) + 1))) (W4) := by
    unfold oZC19
    have kc : ∀ v, x_11.eval (.const v) = v := fun _ => rfl
    have e106 : x_11.eval (.tmp 106) = .int .i64 (k : Int) := g_11.at_ 106
    clear g_11 hQ h14 h15 h16 h13 hG
    generalize x_11.eval = ρ at *
    go_simp
  refine g_11.step 107 _ rfl (lb_ I0.size) (wn rfl) r_12 (fun x_12 g_12 => ?_)
  clear r_12 g_11
  refine g_12.move 16 (.int .i64 ((k : Int) + 1)) _ (Or.inr rfl) rfl (lb_ I0.size) (wn rfl) (g_12.at_ 107) (fun x_13 g_13 => ?_)
  clear g_12
  refine wpList_nil ?_
  exact hQ x_13 W4 ⟨some ⟨g4, 0, none⟩, r.n + 1, c4⟩ (I0.keep g_13 rfl rfl rfl) (show x_13.eval (.tmp 14) = .int .i64 (i : Int) from ((g_13.at_ 14).trans h14)) (show x_13.eval (.tmp 15) = .slice (some ⟨g4, 0, none⟩) (r.n + 1) c4 from (g_13.at_ 15)) (show x_13.eval (.tmp 16) = .int .i64 ((k : Int) + 1) from (g_13.at_ 16)) ((g_13.at_ 13).trans h13) hG4
set_option maxRecDepth 100000 in
theorem gBE {va v0 v9 vm : Value} {i : Nat} {r : Sl} {Q : Exit → Act → World → Prop} (a0 : Act) (wr : World) (I0 : IY v0 (va) v9 a0) (h14 : a0.eval (.tmp 14) = .int .i64 (i : Int)) (h15 : a0.eval (.tmp 15) = .slice r.ao r.n r.c) (h16 : a0.eval (.tmp 16) = .int .i64 70) (h13 : a0.eval (.tmp 13) = vm)
    (hQ : ∀ a', IY v0 (va) v9 a' → a'.eval (.tmp 14) = .int .i64 (i : Int) → a'.eval (.tmp 15) = Sl.v r → a'.eval (.tmp 13) = vm → Q (.exit 14) a' wr) : cGB2.wp Try.prog Q a0 wr := by
  have g_0 := Fe.refl a0
  unfold cGB2
  refine wp_seq (wp_seq ?_)
  refine wp_region_list ?_
  unfold rAP31
  refine g_0.move 104 (.int .i64 70) _ (Or.inl rfl) rfl (lb_ I0.size) (wn rfl) ((g_0.at_ 16).trans h16) (fun x_1 g_1 => ?_)
  clear g_0
  have r_2 : (execOp x_1.eval oZC18).run Try.prog (wr) = .ok (.value (.bool false)) (wr) := by
    unfold oZC18
    have kc : ∀ v, x_1.eval (.const v) = v := fun _ => rfl
    have e104 : x_1.eval (.tmp 104) = .int .i64 70 := g_1.at_ 104
    clear g_1 hQ h14 h15 h16 h13
    generalize x_1.eval = ρ at *
    go_simp
  refine g_1.step 105 _ rfl (lb_ I0.size) (wn rfl) r_2 (fun x_2 g_2 => ?_)
  clear r_2 g_1
  refine wpList_nil ?_
  change Code.wp _ _ _ _ _
  refine wp_cond_false (show x_2.eval (.tmp 105) = .bool false from (g_2.at_ 105)) (wp_exit ?_)
  exact hQ x_2 (I0.keep g_2 rfl rfl rfl) (show x_2.eval (.tmp 14) = .int .i64 (i : Int) from ((g_2.at_ 14).trans h14)) (show x_2.eval (.tmp 15) = .slice r.ao r.n r.c from ((g_2.at_ 15).trans h15)) ((g_2.at_ 13).trans h13)
theorem gBL2 {va v0 v9 vm : Value} {i a b : Nat} {x : Sl} {Q : Exit → Act → World → Prop} (a0 : Act) (w : World) (I0 : IY v0 (va) v9 a0) (h5 : a0.eval (.tmp 14) = .int .i64 (i : Int)) (hg : a0.eval (.tmp 15) = Sl.v x) (h6 : a0.eval (.tmp 16) = .int .i64 ((0 : Nat) : Int)) (hm : a0.eval (.tmp 13) = vm)
    (hin : i ≤ 4000000) (hb : b = 400000 + i) (hx : x.n ≤ 1099511627000) (hr : RX fB w x (rp fB x.n a))
    (hQ : ∀ a' W r, IY v0 (va) v9 a' → a'.eval (.tmp 14) = .int .i64 (i : Int) → a'.eval (.tmp 15) = Sl.v r → a'.eval (.tmp 13) = vm → Gr fB w W x a b 70 r → Q (.exit 14) a' W) : (Code.loop cGB2).wp Try.prog Q a0 w := by
  refine wp_loop (fun a' W => IY v0 (va) v9 a' ∧ a'.eval (.tmp 14) = .int .i64 (i : Int) ∧ a'.eval (.tmp 13) = vm ∧ ∃ (k : Nat) (r : Sl), k ≤ 70 ∧ a'.eval (.tmp 15) = Sl.v r ∧ a'.eval (.tmp 16) = .int .i64 (k : Int) ∧ Gr fB w W x a b k r) (fun a' _ => 70 - kOf a' 16) ⟨I0, h5, hm, 0, x, Nat.zero_le _, hg, h6, Gr.start hr b⟩ ?_
  rintro a1 W ⟨I1, g5, gm, k, r, hk, gg, g6, hG⟩
  by_cases hgo : k < 70
  · refine gBR a1 W I1 g5 gg g6 gm hin hb hgo hx hG (fun a' W2 r2 i2 k5 kg k6 km hG2 => ?_)
    have h4 : a'.eval (.tmp 16) = .int .i64 ((k + 1 : Nat) : Int) := k6
    refine ⟨⟨i2, k5, km, k + 1, r2, hgo, kg, h4, hG2⟩, ?_⟩
    show 70 - kOf a' 16 < 70 - kOf a1 16
    rw [kOf_eq h4, kOf_eq g6]
    omega
  · obtain rfl : k = 70 := by omega
    exact gBE a1 W I1 g5 gg g6 gm (fun a' i2 k5 kg km => hQ a' W r i2 k5 kg km hG)
set_option maxRecDepth 100000 in
set_option maxHeartbeats 1000000 in
theorem gBO {v0 v9 : Value} {lb lo n lc i mc : Nat} {ma : Option Addr} {L M : List Sl} {x : Sl} {w : World} {Q : Exit → Act → World → Prop} (a0 : Act) (wr : World) (I0 : IY v0 (.slice (some ⟨lb, lo, none⟩) n lc) v9 a0) (h14 : a0.eval (.tmp 14) = .int .i64 (i : Int)) (h13 : a0.eval (.tmp 13) = .slice ma i mc)
    (hi : i < n) (hn : n ≤ 4000000) (ap : Apt fB w L) (hx : L[i]? = some x) (c1 : wr.cell? ⟨lb, lo + i, none⟩ = some (.slice x.ao x.n x.c)) (hw : Grw fB 30 w wr L 200000 400000 i ma mc M)
    (hQ : ∀ a' W a4 c4 r, IY v0 (.slice (some ⟨lb, lo, none⟩) n lc) v9 a' → a'.eval (.tmp 14) = .int .i64 ((i : Int) + 1) → a'.eval (.tmp 13) = .slice a4 (i + 1) c4 → Grw fB 30 w W L 200000 400000 (i + 1) a4 c4 (M ++ [r]) → Q .normal a' W) : cGB1.wp Try.prog Q a0 wr := by
  have hii : (i : Int) < (n : Int) := by omega
  have w7 : IntKind.i64.wrap ((i : Int) + 1) = (i : Int) + 1 := by rw [IntKind.wrap_i64]; omega
  have g_0 := Fe.refl a0
  unfold cGB1
  refine wp_seq (wp_seq ?_)
  refine wp_region_list ?_
  unfold rAP27
  refine g_0.move 94 (.int .i64 (i : Int)) _ (Or.inl rfl) rfl (lb_ I0.size) (wn rfl) ((g_0.at_ 14).trans h14) (fun x_1 g_1 => ?_)
  clear g_0
  refine g_1.move 95 (.slice (some ⟨lb, lo, none⟩) n lc) _ (Or.inl rfl) rfl (lb_ I0.size) (wn rfl) ((g_1.at_ 1).trans I0.s1) (fun x_2 g_2 => ?_)
  clear g_1
  have r_3 : (execOp x_2.eval oZC13).run Try.prog (wr) = .ok (.value (.int .i64 (n : Int))) (wr) := by
    unfold oZC13
    have e95 : x_2.eval (.tmp 95) = .slice (some ⟨lb, lo, none⟩) n lc := g_2.at_ 95
    clear g_2 hQ h14 h13 hw hx
    generalize x_2.eval = ρ at *
    go_simp
  refine g_2.step 96 _ rfl (lb_ I0.size) (wn rfl) r_3 (fun x_3 g_3 => ?_)
  clear r_3 g_2
  have r_4 : (execOp x_3.eval oZC14).run Try.prog (wr) = .ok (.value (.bool true)) (wr) := by
    unfold oZC14
    have e94 : x_3.eval (.tmp 94) = .int .i64 (i : Int) := g_3.at_ 94
    have e96 : x_3.eval (.tmp 96) = .int .i64 (n : Int) := g_3.at_ 96
    clear g_3 hQ h14 h13 hw hx
    generalize x_3.eval = ρ at *
    go_simp
  refine g_3.step 97 _ rfl (lb_ I0.size) (wn rfl) r_4 (fun x_4 g_4 => ?_)
  clear r_4 g_3
  refine wpList_nil ?_
  change Code.wp _ _ _ _ _
  refine wp_cond_true (show x_4.eval (.tmp 97) = .bool true from (g_4.at_ 97)) (wp_skip ?_)
  change Code.wp _ _ _ _ _
  refine wp_seq (wp_block (wp_seq ?_))
  refine wp_region_list ?_
  unfold rAP29
  refine g_4.move 100 (.slice (some ⟨lb, lo, none⟩) n lc) _ (Or.inl rfl) rfl (lb_ I0.size) (wn rfl) ((g_4.at_ 1).trans I0.s1) (fun x_5 g_5 => ?_)
  clear g_4
  refine g_5.move 101 (.int .i64 (i : Int)) _ (Or.inl rfl) rfl (lb_ I0.size) (wn rfl) ((g_5.at_ 14).trans h14) (fun x_6 g_6 => ?_)
  clear g_5
  have r_7 : (execOp x_6.eval oZC16).run Try.prog (wr) = .ok (.value (.pointer (some ⟨lb, lo + i, none⟩))) (wr) := by
    unfold oZC16
    have e100 : x_6.eval (.tmp 100) = .slice (some ⟨lb, lo, none⟩) n lc := g_6.at_ 100
    have e101 : x_6.eval (.tmp 101) = .int .i64 (i : Int) := g_6.at_ 101
    clear g_6 hQ h14 h13 hw hx
    generalize x_6.eval = ρ at *
    go_simp
  refine g_6.step 102 _ rfl (lb_ I0.size) (wn rfl) r_7 (fun x_7 g_7 => ?_)
  clear r_7 g_6
  have r_8 : (execOp x_7.eval oZC17).run Try.prog (wr) = .ok (.value (.slice x.ao x.n x.c)) (wr) := by
    unfold oZC17
    have e102 : x_7.eval (.tmp 102) = .pointer (some ⟨lb, lo + i, none⟩) := g_7.at_ 102
    clear g_7 hQ h14 h13 hw hx
    generalize x_7.eval = ρ at *
    go_simp
  refine g_7.step 103 _ rfl (lb_ I0.size) (wn rfl) r_8 (fun x_8 g_8 => ?_)
  clear r_8 g_7
  refine g_8.move 15 (.slice x.ao x.n x.c) _ (Or.inr rfl) rfl (lb_ I0.size) (wn rfl) (g_8.at_ 103) (fun x_9 g_9 => ?_)
  clear g_8
  refine wpList_nil ?_
  change Code.wp _ _ _ _ _
  refine wp_seq (wp_seq ?_)
  refine wp_region_list ?_
  unfold rAP30
  refine g_9.move 16 (.int .i64 ((0 : Nat) : Int)) _ (Or.inr rfl) rfl (lb_ I0.size) (wn rfl) rfl (fun x_10 g_10 => ?_)
  clear g_9
  refine wpList_nil ?_
  change Code.wp _ _ _ _ _
  refine wp_block ?_
  refine gBL2 (b := 400000 + i) (x := x) x_10 wr (I0.keep g_10 rfl rfl rfl) (show x_10.eval (.tmp 14) = .int .i64 (i : Int) from ((g_10.at_ 14).trans h14)) (show x_10.eval (.tmp 15) = .slice x.ao x.n x.c from (g_10.at_ 15)) (show x_10.eval (.tmp 16) = .int .i64 ((0 : Nat) : Int) from (g_10.at_ 16)) (show x_10.eval (.tmp 13) = .slice ma i mc from ((g_10.at_ 13).trans h13)) (by omega) rfl (ap.len x (List.mem_of_getElem? hx)) (hw.left i x (Nat.le_refl _) hx) (fun d W2 r i2 d5 dg dm hG => ?_)
  change Code.wp _ _ _ _ _
  have fd_0 := Fe.refl d
  refine wp_region_list ?_
  unfold rAP34
  refine fd_0.move 115 (.slice ma i mc) _ (Or.inl rfl) rfl (lb_ i2.size) (wn rfl) ((fd_0.at_ 13).trans dm) (fun d_1 fd_1 => ?_)
  clear fd_0
  refine fd_1.move 116 (.slice r.ao r.n r.c) _ (Or.inl rfl) rfl (lb_ i2.size) (wn rfl) ((fd_1.at_ 15).trans dg) (fun d_2 fd_2 => ?_)
  clear fd_1
  have r_d_3 : (execOp d_2.eval oZC25).run Try.prog (W2) = .ok (.value (.slice (some ⟨W2.heap.size, 0, none⟩) 1 1)) (W2.alloc (.cells #[.slice r.ao r.n r.c] 30)) := by
    unfold oZC25
    have e116 : d_2.eval (.tmp 116) = .slice r.ao r.n r.c := fd_2.at_ 116
    clear fd_2 hQ d5 dg dm h14 h13 hw hx hG
    generalize d_2.eval = ρ at *
    go_simp
  refine fd_2.stepW 117 (.slice (some ⟨W2.heap.size, 0, none⟩) 1 1) rfl (lb_ i2.size) (wn rfl) r_d_3 (fun d_3 fd_3 => ?_)
  clear r_d_3
  obtain ⟨W3, hW3⟩ : ∃ W3, W3 = W2.alloc (.cells #[.slice r.ao r.n r.c] 30) := ⟨_, rfl⟩
  rw [← hW3]
  have s3 : Same W2 W3 := by rw [hW3]; exact (Fr.refl _ W2).alloc _
  have hh3 : W3.heap[W2.heap.size]? = some (.cells [Sl.v r].toArray 30 (0, 0)) := by rw [hW3]; exact heap_alloc_new W2 _
  obtain ⟨i0, hi, hi0, hi1, hi2⟩ := info_parts Try.infBs
  obtain ⟨a4, c4, W4, hr4, o4, gr4⟩ := run_more (u := Sl.v r) W3 42 42 30 Try.underlying42 hi hi0 hi1 hi2 (by decide) rfl (own_frameB (hw.moreW ap hx hG) s3 (fun _ _ f => f)) 1 (row_news hh3) rfl (by omega) (Nat.le_trans (Nat.le_trans hw.base.size hG.base.size) s3.size)
  have f4 : Fr (fun k => ma.map (·.block) = some k) W2 W4 := Fr.trans (S := fun k => ma.map (·.block) = some k) (Fr.mono s3 (fun _ _ f => f.elim)) (Fr.grown (Fr.refl _ _) gr4 (fun k e _ => (blk_of.symm.trans e : ma.map (·.block) = some k))) (fun k _ e => e)
  have hw4 := hw.next (by decide) ap hx hG f4 (by rw [List.map_append]; exact o4)
  clear fd_2
  have r_d_4 : (execOp d_3.eval oZC26).run Try.prog (W3) = .ok (.value (.slice a4 (i + 1) c4)) (W4) := by
    unfold oZC26
    refine exec_append rfl ?_
    rw [(show d_3.eval (.tmp 115) = .slice ma i mc from (fd_3.at_ 115)), (show d_3.eval (.tmp 117) = .slice (some ⟨W2.heap.size, 0, none⟩) 1 1 from (fd_3.at_ 117))]
    exact hr4
  refine fd_3.stepW 118 (.slice a4 (i + 1) c4) rfl (lb_ i2.size) (wn rfl) r_d_4 (fun d_4 fd_4 => ?_)
  clear r_d_4 fd_3
  refine fd_4.move 13 (.slice a4 (i + 1) c4) _ (Or.inr rfl) rfl (lb_ i2.size) (wn rfl) (fd_4.at_ 118) (fun d_5 fd_5 => ?_)
  clear fd_4
  refine wpList_nil ?_
  change Code.wp _ _ _ _ _
  refine wp_region_list ?_
  unfold rAP28
  refine fd_5.move 98 (.int .i64 (i : Int)) _ (Or.inl rfl) rfl (lb_ i2.size) (wn rfl) ((fd_5.at_ 14).trans d5) (fun d_6 fd_6 => ?_)
  clear fd_5
  have r_d_7 : (execOp d_6.eval oZC15).run Try.prog (W4) = .ok (.value (.int .i64 ((i : Int) + 1))) (W4) := by
    unfold oZC15
    have kc : ∀ v, d_6.eval (.const v) = v := fun _ => rfl
    have e98 : d_6.eval (.tmp 98) = .int .i64 (i : Int) := fd_6.at_ 98
    clear fd_6 hQ d5 dg dm h14 h13 hw hx hG
    generalize d_6.eval = ρ at *
    go_simp
  refine fd_6.step 99 _ rfl (lb_ i2.size) (wn rfl) r_d_7 (fun d_7 fd_7 => ?_)
  clear r_d_7 fd_6
  refine fd_7.move 14 (.int .i64 ((i : Int) + 1)) _ (Or.inr rfl) rfl (lb_ i2.size) (wn rfl) (fd_7.at_ 99) (fun d_8 fd_8 => ?_)
  clear fd_7
  refine wpList_nil ?_
  exact hQ d_8 W4 a4 c4 r (i2.keep fd_8 rfl rfl rfl) (show d_8.eval (.tmp 14) = .int .i64 ((i : Int) + 1) from (fd_8.at_ 14)) (show d_8.eval (.tmp 13) = .slice a4 (i + 1) c4 from (fd_8.at_ 13)) hw4
set_option maxRecDepth 100000 in
theorem gBX {v0 v9 : Value} {la ma : Option Addr} {n lc mc : Nat} {Q : Exit → Act → World → Prop} (a0 : Act) (wr : World) (I0 : IY v0 (.slice la n lc) v9 a0) (h14 : a0.eval (.tmp 14) = .int .i64 (n : Int)) (h13 : a0.eval (.tmp 13) = .slice ma n mc)
    (hQ : ∀ a, IY v0 (.slice la n lc) v9 a → a.eval (.tmp 13) = .slice ma n mc → Q (.exit 12) a wr) : cGB1.wp Try.prog Q a0 wr := by
  have g_0 := Fe.refl a0
  unfold cGB1
  refine wp_seq (wp_seq ?_)
  refine wp_region_list ?_
  unfold rAP27
  refine g_0.move 94 (.int .i64 (n : Int)) _ (Or.inl rfl) rfl (lb_ I0.size) (wn rfl) ((g_0.at_ 14).trans h14) (fun x_1 g_1 => ?_)
  clear g_0
  refine g_1.move 95 (.slice la n lc) _ (Or.inl rfl) rfl (lb_ I0.size) (wn rfl) ((g_1.at_ 1).trans I0.s1) (fun x_2 g_2 => ?_)
  clear g_1
  have r_3 : (execOp x_2.eval oZC13).run Try.prog (wr) = .ok (.value (.int .i64 (n : Int))) (wr) := by
    unfold oZC13
    have e95 : x_2.eval (.tmp 95) = .slice la n lc := g_2.at_ 95
    clear g_2 hQ h14 h13
    generalize x_2.eval = ρ at *
    go_simp
  refine g_2.step 96 _ rfl (lb_ I0.size) (wn rfl) r_3 (fun x_3 g_3 => ?_)
  clear r_3 g_2
  have r_4 : (execOp x_3.eval oZC14).run Try.prog (wr) = .ok (.value (.bool false)) (wr) := by
    unfold oZC14
    have e94 : x_3.eval (.tmp 94) = .int .i64 (n : Int) := g_3.at_ 94
    have e96 : x_3.eval (.tmp 96) = .int .i64 (n : Int) := g_3.at_ 96
    clear g_3 hQ h14 h13
    generalize x_3.eval = ρ at *
    go_simp
  refine g_3.step 97 _ rfl (lb_ I0.size) (wn rfl) r_4 (fun x_4 g_4 => ?_)
  clear r_4 g_3
  refine wpList_nil ?_
  change Code.wp _ _ _ _ _
  refine wp_cond_false (show x_4.eval (.tmp 97) = .bool false from (g_4.at_ 97)) (wp_exit ?_)
  exact hQ x_4 (I0.keep g_4 rfl rfl rfl) (show x_4.eval (.tmp 13) = .slice ma n mc from ((g_4.at_ 13).trans h13))
theorem gBL {v0 v9 : Value} {la : Option Addr} {lb lo n lc : Nat} {L : List Sl} {Q : Exit → Act → World → Prop} (a0 : Act) (w : World) (I0 : IY v0 (.slice la n lc) v9 a0) (h5 : a0.eval (.tmp 14) = .int .i64 ((0 : Nat) : Int)) (hm : a0.eval (.tmp 13) = .slice none 0 0)
    (hn : n ≤ 4000000) (hl : n = L.length) (ho : ∀ W, Fr (inB L) w W → OutAt 30 W la lb lo L) (hM : Mrk fB w L L.length 200000)
    (hQ : ∀ a W ma mc M, IY v0 (.slice la n lc) v9 a → a.eval (.tmp 13) = .slice ma n mc → Grw fB 30 w W L 200000 400000 n ma mc M → Q (.exit 12) a W) : (Code.loop cGB1).wp Try.prog Q a0 w := by
  refine wp_loop (fun a W => IY v0 (.slice la n lc) v9 a ∧ ∃ (i : Nat) (ma : Option Addr) (mc : Nat) (M : List Sl), i ≤ n ∧ a.eval (.tmp 14) = .int .i64 (i : Int) ∧ a.eval (.tmp 13) = .slice ma i mc ∧ Grw fB 30 w W L 200000 400000 i ma mc M) (fun a _ => n - kOf a 14) ⟨I0, 0, none, 0, [], Nat.zero_le _, h5, hm, Grw.start hM _⟩ ?_
  rintro a W ⟨I1, i, ma, mc, M, hi, g5, gm, hw⟩
  by_cases hgo : i < n
  · obtain ⟨x, hx⟩ : ∃ x, L[i]? = some x := ⟨_, List.getElem?_eq_getElem (by omega)⟩
    have hne : L ≠ [] := by intro e; rw [e] at hx; simp at hx
    obtain ⟨rfl, _⟩ := (ho W hw.base).place hne
    refine gBO a W I1 g5 gm hgo hn hM.apt hx ((ho W hw.base).cells i x hx) hw (fun a' W2 a4 c4 r i2 k5 km hw2 => ?_)
    have h4 : a'.eval (.tmp 14) = .int .i64 ((i + 1 : Nat) : Int) := k5
    refine ⟨⟨i2, i + 1, a4, c4, M ++ [r], hgo, h4, km, hw2⟩, ?_⟩
    show n - kOf a' 14 < n - kOf a 14
    rw [kOf_eq h4, kOf_eq g5]
    omega
  · obtain rfl : i = n := by omega
    exact gBX a W I1 g5 gm (fun a' i2 km => hQ a' W ma mc M i2 km hw)
end Go.Proofs.Ytajbifblbmlffaa
