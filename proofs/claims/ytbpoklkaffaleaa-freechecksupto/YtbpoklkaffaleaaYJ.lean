/- free: the walk of FreeChecks. -/
import Derived.Test.YtbpoklkaffaleaaYE
import Derived.Test.YtbpoklkaffaleaaYH
import Derived.Test.YtbpoklkaffaleaaIC
namespace Go.Proofs.Ytbpoklkaffaleaa
open Go.RowKit Go.Maps

def rFC0 : Array Oper := #[{ dst := some 3, op := Op.box 23 (Operand.tmp 0), type := 0, pos := "law.go:48", after := #[], guard := none },
  { dst := some 6, op := Op.assign (Operand.const (Value.bool false)), type := 4, pos := "law.go:48", after := #[], guard := none }]
def rFC1 : Array Oper := #[{ dst := some 8, op := Op.move (Operand.tmp 1), type := 24, pos := "law.go:49", after := #[], guard := none },
  { dst := some 9, op := Op.call { callee := Callee.value (Operand.func 5), args := #[Operand.tmp 8], argTypes := #[24] }, type := 24, pos := "law.go:49", after := #[{ on := 0, ground := Ground.data }], guard := none },
  { dst := some 7, op := Op.assign (Operand.tmp 9), type := 24, pos := "law.go:49", after := #[{ on := 1, ground := Ground.data }, { on := 1, ground := Ground.chain }, { on := 0, ground := Ground.phase }, { on := 1, ground := Ground.phase }], guard := none }]
def rFC2 : Array Oper := #[{ dst := some 10, op := Op.load 23 (Operand.tmp 3), type := 23, pos := "law.go:50", after := #[], guard := none },
  { dst := some 11, op := Op.move (Operand.tmp 7), type := 24, pos := "law.go:50", after := #[], guard := none },
  { dst := some 12, op := Op.move (Operand.tmp 2), type := 25, pos := "law.go:50", after := #[], guard := none },
  { dst := some 13, op := Op.call { callee := Callee.value (Operand.func 6), args := #[Operand.tmp 10, Operand.tmp 11, Operand.tmp 12], argTypes := #[23, 24, 25] }, type := 27, pos := "law.go:50", after := #[{ on := 0, ground := Ground.data }, { on := 1, ground := Ground.data }, { on := 2, ground := Ground.data }], guard := none },
  { dst := some 14, op := Op.load 23 (Operand.tmp 3), type := 23, pos := "law.go:50", after := #[], guard := none },
  { dst := some 15, op := Op.move (Operand.tmp 1), type := 24, pos := "law.go:50", after := #[], guard := none },
  { dst := some 16, op := Op.move (Operand.tmp 2), type := 25, pos := "law.go:50", after := #[], guard := none },
  { dst := some 17, op := Op.call { callee := Callee.value (Operand.func 7), args := #[Operand.tmp 14, Operand.tmp 15, Operand.tmp 16], argTypes := #[23, 24, 25] }, type := 3, pos := "law.go:50", after := #[{ on := 4, ground := Ground.data }, { on := 5, ground := Ground.data }, { on := 6, ground := Ground.data }, { on := 3, ground := Ground.chain }], guard := none },
  { dst := some 18, op := Op.binOp BinOp.eql 3 (Operand.tmp 13) (Operand.tmp 17) 3, type := 4, pos := "law.go:50", after := #[{ on := 3, ground := Ground.data }, { on := 7, ground := Ground.data }], guard := none },
  { dst := some 19, op := Op.move (Operand.tmp 18), type := 4, pos := "law.go:50", after := #[{ on := 8, ground := Ground.data }, { on := 7, ground := Ground.chain }], guard := none },
  { dst := some 20, op := Op.move (Operand.tmp 7), type := 24, pos := "law.go:50", after := #[{ on := 9, ground := Ground.guard }], guard := some (9, true) },
  { dst := some 21, op := Op.move (Operand.tmp 1), type := 24, pos := "law.go:50", after := #[{ on := 9, ground := Ground.guard }], guard := some (9, true) },
  { dst := some 22, op := Op.call { callee := Callee.value (Operand.func 8), args := #[Operand.tmp 20, Operand.tmp 21], argTypes := #[24, 24] }, type := 4, pos := "law.go:50", after := #[{ on := 10, ground := Ground.data }, { on := 11, ground := Ground.data }, { on := 9, ground := Ground.chain }, { on := 9, ground := Ground.guard }], guard := some (9, true) },
  { dst := some 23, op := Op.pick (Operand.tmp 19) (Operand.tmp 22) (Operand.const (Value.bool false)), type := 4, pos := "law.go:50", after := #[{ on := 9, ground := Ground.data }, { on := 12, ground := Ground.data }], guard := none },
  { dst := some 24, op := Op.move (Operand.tmp 23), type := 4, pos := "law.go:50", after := #[{ on := 13, ground := Ground.data }, { on := 12, ground := Ground.chain }], guard := none },
  { dst := some 25, op := Op.call { callee := Callee.value (Operand.func 9), args := #[], argTypes := #[] }, type := 4, pos := "law.go:50", after := #[{ on := 14, ground := Ground.chain }, { on := 14, ground := Ground.guard }], guard := some (14, true) },
  { dst := some 26, op := Op.pick (Operand.tmp 24) (Operand.tmp 25) (Operand.const (Value.bool false)), type := 4, pos := "law.go:50", after := #[{ on := 14, ground := Ground.data }, { on := 15, ground := Ground.data }], guard := none },
  { dst := some 6, op := Op.assign (Operand.tmp 26), type := 4, pos := "law.go:50", after := #[{ on := 16, ground := Ground.data }, { on := 15, ground := Ground.chain }, { on := 0, ground := Ground.phase }, { on := 1, ground := Ground.phase }, { on := 2, ground := Ground.phase }, { on := 3, ground := Ground.phase }, { on := 4, ground := Ground.phase }, { on := 5, ground := Ground.phase }, { on := 6, ground := Ground.phase }, { on := 7, ground := Ground.phase }, { on := 8, ground := Ground.phase }, { on := 9, ground := Ground.phase }, { on := 10, ground := Ground.phase }, { on := 11, ground := Ground.phase }, { on := 12, ground := Ground.phase }, { on := 13, ground := Ground.phase }, { on := 14, ground := Ground.phase }, { on := 15, ground := Ground.phase }, { on := 16, ground := Ground.phase }], guard := none }]
def cFC : Code := (Code.seq (Code.region 0 rFC0 false) (Code.seq (Code.region 1 rFC1 false) (Code.seq (Code.region 2 rFC2 true) Code.ret)))
theorem LentC.bv {W w : World} {B g cc n pb po : Nat} {pa : Option Addr} {L M : List Bt} (h : LentC W B g cc n L M) (hb : BvRow w pa pb po L) : BvRow W (some ⟨g, 0, none⟩) g 0 M := by
  have hr := own_base h.row (Nat.zero_le _)
  refine ⟨fun _ => ⟨rfl, (own_ge h.row).2⟩, fun j y hy => ?_⟩
  obtain ⟨b1, b2⟩ := btCs_at (mkB 70) hy
  have hym := List.mem_of_getElem? hy
  obtain ⟨x, hx, hkey⟩ : ∃ x, L[j]? = some x ∧ y.key = x.key := by
    have h1 : (M.map Bt.key)[j]? = (L.map Bt.key)[j]? := by rw [h.key]
    rw [List.getElem?_map, List.getElem?_map, hy] at h1
    cases hx : L[j]? with
    | none => rw [hx] at h1; cases h1
    | some x => rw [hx] at h1; exact ⟨x, rfl, Option.some.inj h1⟩
  have hpg : y.pg = x.pg := congrArg Prod.fst hkey
  have hns : y.ns = x.ns := congrArg Prod.snd hkey
  have hx2 := (hb.cells j x hx).2.2
  have hl := h.lent y hym
  rw [Nat.zero_add]
  refine ⟨own_cell hr b1, own_cell hr b2, ⟨?_, by rw [hpg]; exact hx2.hpg, by rw [hns]; exact hx2.hns⟩⟩
  rw [hl.na, hl.no]
  exact LentN.ns hl.ns
set_option maxRecDepth 100000 in
set_option maxHeartbeats 1000000 in
theorem fchecks_walk {p q : Int} {pa : Option Addr} {pb po n cp pages : Nat} {L : List Bt} (w : World) (hb : BiRow w pa pb po L) (hn : n = L.length) (hwt : wt L ≤ 2000000) :
    Calls Try.prog 3 #[frameV p q, .slice pa n cp, .int .u32 (pages : Int)] w fun e w' => e = .returned (.bool true) ∧ Same w w' := by
  refine calls_abs (c := cFC) Try.func3 (by kernel_rfl) 27 rfl (by simp) (fun a0 hsz hd ha => ?_)
  have fa0_0 := Fe.refl a0
  unfold cFC
  refine wp_seq ?_
  refine wp_region_list ?_
  unfold rFC0
  have r_a0_1 : (execOp a0.eval { dst := some 3, op := Op.box 23 (Operand.tmp 0), type := 0, pos := "law.go:48", after := #[], guard := none }).run Try.prog (w) = .ok (.value (.pointer (some ⟨w.heap.size, 0, none⟩))) (w.alloc (.cells #[.int .i64 p, .int .i64 q] 23)) := by
    have kc : ∀ v, a0.eval (.const v) = v := fun _ => rfl
    have e0 := (show a0.eval (.tmp 0) = .agg #[.int .i64 p, .int .i64 q] from ((fa0_0.at_ 0).trans (ha 0 _ rfl)))
    clear fa0_0 ha
    generalize a0.eval = ρ at *
    go_simp
  refine fa0_0.stepW 3 (.pointer (some ⟨w.heap.size, 0, none⟩)) rfl (Nat.lt_of_lt_of_eq (by decide) hsz.symm) (wanted_none rfl) r_a0_1 (fun a0_1 fa0_1 => ?_)
  clear r_a0_1
  clear fa0_0
  refine fa0_1.move 6 (.bool false) _ (Or.inr rfl) rfl (Nat.lt_of_lt_of_eq (by decide) hsz.symm) (wanted_none rfl) rfl (fun a0_2 fa0_2 => ?_)
  clear fa0_1
  refine wpList_nil ?_
  obtain ⟨V, hV⟩ : ∃ V, V = w.alloc (.cells #[.int .i64 p, .int .i64 q] 23) := ⟨_, rfl⟩
  rw [← hV]
  have sV : Same w V := by rw [hV]; exact (Fr.refl _ w).alloc _
  have c0 : V.cell? ⟨w.heap.size, 0, none⟩ = some (.int .i64 p) := by rw [hV]; simp
  have c1 : V.cell? ⟨w.heap.size, 1, none⟩ = some (.int .i64 q) := by rw [hV]; simp
  change Code.wp _ _ _ _ _
  refine wp_seq ?_
  refine wp_region_list ?_
  unfold rFC1
  refine fa0_2.move 8 (.slice pa n cp) _ (Or.inl rfl) rfl (Nat.lt_of_lt_of_eq (by decide) hsz.symm) (wanted_none rfl) ((fa0_2.at_ 1).trans (ha 1 _ rfl)) (fun a0_3 fa0_3 => ?_)
  clear fa0_2
  have r_a0_4 : (execOp a0_3.eval { dst := some 9, op := Op.call { callee := Callee.value (Operand.func 5), args := #[Operand.tmp 8], argTypes := #[24] }, type := 24, pos := "law.go:49", after := #[{ on := 0, ground := Ground.data }], guard := none }).run Try.prog (V) = .ok (.enter 5 #[.slice pa n cp]) (V) := by
    have kc : ∀ v, a0_3.eval (.const v) = v := fun _ => rfl
    have kf : ∀ f, a0_3.eval (.func f) = .func (.func f) #[] #[] := fun _ => rfl
    have e8 := (show a0_3.eval (.tmp 8) = .slice pa n cp from (fa0_3.at_ 8))
    clear fa0_3 ha
    generalize a0_3.eval = ρ at *
    go_simp
  refine fa0_3.call 9 rfl (Nat.lt_of_lt_of_eq (by decide) hsz.symm) (wanted_none rfl) r_a0_4 (lentC_calls V (hb.same sV) hn hwt) (fun e W1 hR => ?_)
  obtain ⟨g, c, M, rfl, l1, s1⟩ := hR
  clear r_a0_4
  refine ⟨_, rfl, fun a0_4 fa0_4 => ?_⟩
  clear fa0_3
  refine fa0_4.move 7 (.slice (some ⟨g, 0, none⟩) n c) _ (Or.inr rfl) rfl (Nat.lt_of_lt_of_eq (by decide) hsz.symm) (wanted_none rfl) (fa0_4.at_ 9) (fun a0_5 fa0_5 => ?_)
  clear fa0_4
  refine wpList_nil ?_
  have d0 := s1.keep c0
  have d1 := s1.keep c1
  have dd : Same W1 W1.drew := (Fr.refl (fun _ => False) W1).drew
  have hcel : ∀ Z, Same W1 Z → Z.cell? ⟨w.heap.size, 0, none⟩ = some (.int .i64 p) ∧ Z.cell? ⟨w.heap.size, 1, none⟩ = some (.int .i64 q) := fun Z s => ⟨s.keep d0, s.keep d1⟩
  have hbz : ∀ Z, Same W1 Z → BiRow Z pa pb po L := fun Z s => hb.same ((sV.trans s1).trans s)
  have hmz : ∀ Z, Same W1 Z → BvRow Z (some ⟨g, 0, none⟩) g 0 M := fun Z s => (l1.same s).bv hb.row
  have hml : M.length = n := l1.len hn
  have k1 : ∀ Z, Same W1 Z → Calls Try.prog 6 #[.agg #[.int .i64 p, .int .i64 q], .slice (some ⟨g, 0, none⟩) n c, .int .u32 (pages : Int)] Z fun e w' => e = .returned (.int .i64 (chkE p q pages L)) ∧ Same Z w' := fun Z s => by have := fcheck_calls (p := p) (q := q) (pages := pages) (cp := c) Z (hmz Z s) (by rw [wt_key L M l1.key]; exact hwt); rw [hml, chkE_key l1.key] at this; exact this
  have k2 : ∀ Z, Same W1 Z → Calls Try.prog 7 #[.agg #[.int .i64 p, .int .i64 q], .slice pa n cp, .int .u32 (pages : Int)] Z fun e w' => e = .returned (.int .i64 (chkE p q pages L)) ∧ Same Z w' := fun Z s => by rw [chk_both]; exact dcheck9_calls Z (hbz Z s).row hn hwt
  have k3 : ∀ Z, Same W1 Z → Calls Try.prog 8 #[.slice (some ⟨g, 0, none⟩) n c, .slice pa n cp] Z fun e w' => e = .returned (.bool true) ∧ Same Z w' := fun Z s => keptC_true Z (hbz Z s).row (l1.same s) hn hwt
  generalize chkE p q pages L = ce at k1 k2
  change Code.wp _ _ _ _ _
  refine wp_seq ?_
  refine wp_region_held_drew (ops := rFC2) (S := fun Z => Same W1 Z) (by kernel_rfl) (dd) (fun hS5 => ?_)
  have r_a0_6 : ∀ Z, (fun Z => Same W1 Z) Z → (execOp a0_5.eval { dst := some 10, op := Op.load 23 (Operand.tmp 3), type := 23, pos := "law.go:50", after := #[], guard := none }).run Try.prog Z = .ok (.value (.agg #[.int .i64 p, .int .i64 q])) Z := fun Z hZ => by
    obtain ⟨z0, z1⟩ := hcel Z hZ
    have kc : ∀ v, a0_5.eval (.const v) = v := fun _ => rfl
    have e3 := (show a0_5.eval (.tmp 3) = .pointer (some ⟨w.heap.size, 0, none⟩) from (fa0_5.at_ 3))
    clear fa0_5 ha
    generalize a0_5.eval = ρ at *
    go_simp
  refine fa0_5.take 0 10 (.agg #[.int .i64 p, .int .i64 q]) rfl (by kernel_rfl) (by kernel_rfl) (by kernel_rfl) (fun _ _ _ h => h) rfl (Nat.lt_of_lt_of_eq (by decide) hsz.symm) (wanted_none rfl) r_a0_6 hS5 (fun a0_6 fa0_6 => ?_)
  clear r_a0_6
  clear fa0_5
  refine fa0_6.takeMove 1 11 (.slice (some ⟨g, 0, none⟩) n c) _ (Or.inl rfl) rfl (by kernel_rfl) (by kernel_rfl) (by kernel_rfl) (fun _ _ _ h => h) rfl (Nat.lt_of_lt_of_eq (by decide) hsz.symm) (wanted_none rfl) (fa0_6.at_ 7) hS5 (fun a0_7 fa0_7 => ?_)
  clear fa0_6
  refine fa0_7.takeMove 2 12 (.int .u32 (pages : Int)) _ (Or.inl rfl) rfl (by kernel_rfl) (by kernel_rfl) (by kernel_rfl) (fun _ _ _ h => h) rfl (Nat.lt_of_lt_of_eq (by decide) hsz.symm) (wanted_none rfl) ((fa0_7.at_ 2).trans (ha 2 _ rfl)) hS5 (fun a0_8 fa0_8 => ?_)
  clear fa0_7
  have r_a0_9 : ∀ Z, (fun Z => Same W1 Z) Z → (execOp a0_8.eval { dst := some 14, op := Op.load 23 (Operand.tmp 3), type := 23, pos := "law.go:50", after := #[], guard := none }).run Try.prog Z = .ok (.value (.agg #[.int .i64 p, .int .i64 q])) Z := fun Z hZ => by
    obtain ⟨z0, z1⟩ := hcel Z hZ
    have kc : ∀ v, a0_8.eval (.const v) = v := fun _ => rfl
    have e3 := (show a0_8.eval (.tmp 3) = .pointer (some ⟨w.heap.size, 0, none⟩) from (fa0_8.at_ 3))
    clear fa0_8 ha
    generalize a0_8.eval = ρ at *
    go_simp
  refine fa0_8.take 4 14 (.agg #[.int .i64 p, .int .i64 q]) rfl (by kernel_rfl) (by kernel_rfl) (by kernel_rfl) (fun _ _ _ h => h) rfl (Nat.lt_of_lt_of_eq (by decide) hsz.symm) (wanted_none rfl) r_a0_9 hS5 (fun a0_9 fa0_9 => ?_)
  clear r_a0_9
  clear fa0_8
  refine fa0_9.takeMove 5 15 (.slice pa n cp) _ (Or.inl rfl) rfl (by kernel_rfl) (by kernel_rfl) (by kernel_rfl) (fun _ _ _ h => h) rfl (Nat.lt_of_lt_of_eq (by decide) hsz.symm) (wanted_none rfl) ((fa0_9.at_ 1).trans (ha 1 _ rfl)) hS5 (fun a0_10 fa0_10 => ?_)
  clear fa0_9
  refine fa0_10.takeMove 6 16 (.int .u32 (pages : Int)) _ (Or.inl rfl) rfl (by kernel_rfl) (by kernel_rfl) (by kernel_rfl) (fun _ _ _ h => h) rfl (Nat.lt_of_lt_of_eq (by decide) hsz.symm) (wanted_none rfl) ((fa0_10.at_ 2).trans (ha 2 _ rfl)) hS5 (fun a0_11 fa0_11 => ?_)
  clear fa0_10
  have r_a0_12 : (execOp a0_11.eval { dst := some 13, op := Op.call { callee := Callee.value (Operand.func 6), args := #[Operand.tmp 10, Operand.tmp 11, Operand.tmp 12], argTypes := #[23, 24, 25] }, type := 27, pos := "law.go:50", after := #[{ on := 0, ground := Ground.data }, { on := 1, ground := Ground.data }, { on := 2, ground := Ground.data }], guard := none }).run Try.prog (W1.drew) = .ok (.enter 6 #[.agg #[.int .i64 p, .int .i64 q], .slice (some ⟨g, 0, none⟩) n c, .int .u32 (pages : Int)]) (W1.drew) := by
    have kc : ∀ v, a0_11.eval (.const v) = v := fun _ => rfl
    have kf : ∀ f, a0_11.eval (.func f) = .func (.func f) #[] #[] := fun _ => rfl
    have e10 := (show a0_11.eval (.tmp 10) = .agg #[.int .i64 p, .int .i64 q] from (fa0_11.at_ 10))
    have e11 := (show a0_11.eval (.tmp 11) = .slice (some ⟨g, 0, none⟩) n c from (fa0_11.at_ 11))
    have e12 := (show a0_11.eval (.tmp 12) = .int .u32 (pages : Int) from (fa0_11.at_ 12))
    clear fa0_11 ha
    generalize a0_11.eval = ρ at *
    go_simp
  refine fa0_11.oneCall 3 13 (by kernel_rfl) rfl rfl (Nat.lt_of_lt_of_eq (by decide) hsz.symm) (wanted_none rfl) r_a0_12 (k1 _ dd) (fun e W2 hR => ?_)
  obtain ⟨rfl, s2⟩ := hR
  clear r_a0_12
  have hS12 : (fun Z => Same W1 Z) W2 := dd.trans s2
  refine ⟨_, rfl, hS12, fun a0_12 fa0_12 => ?_⟩
  clear fa0_11
  have r_a0_13 : (execOp a0_12.eval { dst := some 17, op := Op.call { callee := Callee.value (Operand.func 7), args := #[Operand.tmp 14, Operand.tmp 15, Operand.tmp 16], argTypes := #[23, 24, 25] }, type := 3, pos := "law.go:50", after := #[{ on := 4, ground := Ground.data }, { on := 5, ground := Ground.data }, { on := 6, ground := Ground.data }, { on := 3, ground := Ground.chain }], guard := none }).run Try.prog (W2) = .ok (.enter 7 #[.agg #[.int .i64 p, .int .i64 q], .slice pa n cp, .int .u32 (pages : Int)]) (W2) := by
    have kc : ∀ v, a0_12.eval (.const v) = v := fun _ => rfl
    have kf : ∀ f, a0_12.eval (.func f) = .func (.func f) #[] #[] := fun _ => rfl
    have e14 := (show a0_12.eval (.tmp 14) = .agg #[.int .i64 p, .int .i64 q] from (fa0_12.at_ 14))
    have e15 := (show a0_12.eval (.tmp 15) = .slice pa n cp from (fa0_12.at_ 15))
    have e16 := (show a0_12.eval (.tmp 16) = .int .u32 (pages : Int) from (fa0_12.at_ 16))
    clear fa0_12 ha
    generalize a0_12.eval = ρ at *
    go_simp
  refine fa0_12.oneCall 7 17 (by kernel_rfl) rfl rfl (Nat.lt_of_lt_of_eq (by decide) hsz.symm) (wanted_none rfl) r_a0_13 (k2 _ (dd.trans s2)) (fun e W3 hR => ?_)
  obtain ⟨rfl, s3⟩ := hR
  clear r_a0_13
  have hS13 : (fun Z => Same W1 Z) W3 := (dd.trans s2).trans s3
  refine ⟨_, rfl, hS13, fun a0_13 fa0_13 => ?_⟩
  clear fa0_12
  have r_a0_14 : ∀ Z, (fun Z => Same W1 Z) Z → (execOp a0_13.eval { dst := some 18, op := Op.binOp BinOp.eql 3 (Operand.tmp 13) (Operand.tmp 17) 3, type := 4, pos := "law.go:50", after := #[{ on := 3, ground := Ground.data }, { on := 7, ground := Ground.data }], guard := none }).run Try.prog Z = .ok (.value (.bool true)) Z := fun Z hZ => by
    have kc : ∀ v, a0_13.eval (.const v) = v := fun _ => rfl
    have e13 := (show a0_13.eval (.tmp 13) = .int .i64 ce from (fa0_13.at_ 13))
    have e17 := (show a0_13.eval (.tmp 17) = .int .i64 ce from (fa0_13.at_ 17))
    clear fa0_13 ha
    generalize a0_13.eval = ρ at *
    go_simp
  refine fa0_13.take 8 18 (.bool true) rfl (by kernel_rfl) (by kernel_rfl) (by kernel_rfl) (fun _ _ _ h => h) rfl (Nat.lt_of_lt_of_eq (by decide) hsz.symm) (wanted_none rfl) r_a0_14 hS13 (fun a0_14 fa0_14 => ?_)
  clear r_a0_14
  clear fa0_13
  refine fa0_14.takeMove 9 19 (.bool true) _ (Or.inl rfl) rfl (by kernel_rfl) (by kernel_rfl) (by kernel_rfl) (fun _ _ _ h => h) rfl (Nat.lt_of_lt_of_eq (by decide) hsz.symm) (wanted_none rfl) (fa0_14.at_ 18) hS13 (fun a0_15 fa0_15 => ?_)
  clear fa0_14
  refine fa0_15.takeMove 10 20 (.slice (some ⟨g, 0, none⟩) n c) _ (Or.inl rfl) rfl (by kernel_rfl) (by kernel_rfl) (by kernel_rfl) (fun _ _ _ h => h) rfl (Nat.lt_of_lt_of_eq (by decide) hsz.symm) ((wanted_at (t := 19) (c := true) (b := true) rfl rfl rfl (Nat.lt_of_lt_of_eq (by decide) (fa0_15.size.trans hsz).symm) (fa0_15.at_ 19)).trans (by rfl)) (fa0_15.at_ 7) hS13 (fun a0_16 fa0_16 => ?_)
  clear fa0_15
  refine fa0_16.takeMove 11 21 (.slice pa n cp) _ (Or.inl rfl) rfl (by kernel_rfl) (by kernel_rfl) (by kernel_rfl) (fun _ _ _ h => h) rfl (Nat.lt_of_lt_of_eq (by decide) hsz.symm) ((wanted_at (t := 19) (c := true) (b := true) rfl rfl rfl (Nat.lt_of_lt_of_eq (by decide) (fa0_16.size.trans hsz).symm) (fa0_16.at_ 19)).trans (by rfl)) ((fa0_16.at_ 1).trans (ha 1 _ rfl)) hS13 (fun a0_17 fa0_17 => ?_)
  clear fa0_16
  have r_a0_18 : (execOp a0_17.eval { dst := some 22, op := Op.call { callee := Callee.value (Operand.func 8), args := #[Operand.tmp 20, Operand.tmp 21], argTypes := #[24, 24] }, type := 4, pos := "law.go:50", after := #[{ on := 10, ground := Ground.data }, { on := 11, ground := Ground.data }, { on := 9, ground := Ground.chain }, { on := 9, ground := Ground.guard }], guard := some (9, true) }).run Try.prog (W3) = .ok (.enter 8 #[.slice (some ⟨g, 0, none⟩) n c, .slice pa n cp]) (W3) := by
    have kc : ∀ v, a0_17.eval (.const v) = v := fun _ => rfl
    have kf : ∀ f, a0_17.eval (.func f) = .func (.func f) #[] #[] := fun _ => rfl
    have e20 := (show a0_17.eval (.tmp 20) = .slice (some ⟨g, 0, none⟩) n c from (fa0_17.at_ 20))
    have e21 := (show a0_17.eval (.tmp 21) = .slice pa n cp from (fa0_17.at_ 21))
    clear fa0_17 ha
    generalize a0_17.eval = ρ at *
    go_simp
  refine fa0_17.oneCall 12 22 (by kernel_rfl) rfl rfl (Nat.lt_of_lt_of_eq (by decide) hsz.symm) ((wanted_at (t := 19) (c := true) (b := true) rfl rfl rfl (Nat.lt_of_lt_of_eq (by decide) (fa0_17.size.trans hsz).symm) (fa0_17.at_ 19)).trans (by rfl)) r_a0_18 (k3 _ ((dd.trans s2).trans s3)) (fun e W4 hR => ?_)
  obtain ⟨rfl, s4⟩ := hR
  clear r_a0_18
  have hS18 : (fun Z => Same W1 Z) W4 := ((dd.trans s2).trans s3).trans s4
  refine ⟨_, rfl, hS18, fun a0_18 fa0_18 => ?_⟩
  clear fa0_17
  have r_a0_19 : ∀ Z, (fun Z => Same W1 Z) Z → (execOp a0_18.eval { dst := some 23, op := Op.pick (Operand.tmp 19) (Operand.tmp 22) (Operand.const (Value.bool false)), type := 4, pos := "law.go:50", after := #[{ on := 9, ground := Ground.data }, { on := 12, ground := Ground.data }], guard := none }).run Try.prog Z = .ok (.value (.bool true)) Z := fun Z hZ => by
    have kc : ∀ v, a0_18.eval (.const v) = v := fun _ => rfl
    have e19 := (show a0_18.eval (.tmp 19) = .bool true from (fa0_18.at_ 19))
    have e22 := (show a0_18.eval (.tmp 22) = .bool true from (fa0_18.at_ 22))
    clear fa0_18 ha
    generalize a0_18.eval = ρ at *
    go_simp
  refine fa0_18.take 13 23 (.bool true) rfl (by kernel_rfl) (by kernel_rfl) (by kernel_rfl) (fun _ _ _ h => h) rfl (Nat.lt_of_lt_of_eq (by decide) hsz.symm) (wanted_none rfl) r_a0_19 hS18 (fun a0_19 fa0_19 => ?_)
  clear r_a0_19
  clear fa0_18
  refine fa0_19.takeMove 14 24 (.bool true) _ (Or.inl rfl) rfl (by kernel_rfl) (by kernel_rfl) (by kernel_rfl) (fun _ _ _ h => h) rfl (Nat.lt_of_lt_of_eq (by decide) hsz.symm) (wanted_none rfl) (fa0_19.at_ 23) hS18 (fun a0_20 fa0_20 => ?_)
  clear fa0_19
  have r_a0_21 : (execOp a0_20.eval { dst := some 25, op := Op.call { callee := Callee.value (Operand.func 9), args := #[], argTypes := #[] }, type := 4, pos := "law.go:50", after := #[{ on := 14, ground := Ground.chain }, { on := 14, ground := Ground.guard }], guard := some (14, true) }).run Try.prog (W4) = .ok (.enter 9 #[]) (W4) := by
    have kc : ∀ v, a0_20.eval (.const v) = v := fun _ => rfl
    have kf : ∀ f, a0_20.eval (.func f) = .func (.func f) #[] #[] := fun _ => rfl
    clear fa0_20 ha
    generalize a0_20.eval = ρ at *
    go_simp
  refine fa0_20.oneCall 15 25 (by kernel_rfl) rfl rfl (Nat.lt_of_lt_of_eq (by decide) hsz.symm) ((wanted_at (t := 24) (c := true) (b := true) rfl rfl rfl (Nat.lt_of_lt_of_eq (by decide) (fa0_20.size.trans hsz).symm) (fa0_20.at_ 24)).trans (by rfl)) r_a0_21 (awake9_calls _) (fun e W5 hR => ?_)
  obtain ⟨rfl, s5⟩ := hR
  clear r_a0_21
  have hS21 : (fun Z => Same W1 Z) W5 := (((dd.trans s2).trans s3).trans s4).trans s5
  refine ⟨_, rfl, hS21, fun a0_21 fa0_21 => ?_⟩
  clear fa0_20
  have r_a0_22 : ∀ Z, (fun Z => Same W1 Z) Z → (execOp a0_21.eval { dst := some 26, op := Op.pick (Operand.tmp 24) (Operand.tmp 25) (Operand.const (Value.bool false)), type := 4, pos := "law.go:50", after := #[{ on := 14, ground := Ground.data }, { on := 15, ground := Ground.data }], guard := none }).run Try.prog Z = .ok (.value (.bool true)) Z := fun Z hZ => by
    have kc : ∀ v, a0_21.eval (.const v) = v := fun _ => rfl
    have e24 := (show a0_21.eval (.tmp 24) = .bool true from (fa0_21.at_ 24))
    have e25 := (show a0_21.eval (.tmp 25) = .bool true from (fa0_21.at_ 25))
    clear fa0_21 ha
    generalize a0_21.eval = ρ at *
    go_simp
  refine fa0_21.take 16 26 (.bool true) rfl (by kernel_rfl) (by kernel_rfl) (by kernel_rfl) (fun _ _ _ h => h) rfl (Nat.lt_of_lt_of_eq (by decide) hsz.symm) (wanted_none rfl) r_a0_22 hS21 (fun a0_22 fa0_22 => ?_)
  clear r_a0_22
  clear fa0_21
  refine fa0_22.takeMove 17 6 (.bool true) _ (Or.inr rfl) rfl (by kernel_rfl) (by kernel_rfl) (by kernel_rfl) (fun _ _ _ h => h) rfl (Nat.lt_of_lt_of_eq (by decide) hsz.symm) (wanted_none rfl) (fa0_22.at_ 26) hS21 (fun a0_23 fa0_23 => ?_)
  clear fa0_22
  refine wpAnyH_done (by kernel_rfl) ?_ _
  change Code.wp _ _ _ _ _
  refine wp_ret ?_
  exact ret_abs rfl (fa0_23.defers.trans hd) (show a0_23.eval (.tmp 6) = .bool true from (fa0_23.at_ 6)) ⟨rfl, (sV.trans s1).trans ((((dd.trans s2).trans s3).trans s4).trans s5)⟩
end Go.Proofs.Ytbpoklkaffaleaa
