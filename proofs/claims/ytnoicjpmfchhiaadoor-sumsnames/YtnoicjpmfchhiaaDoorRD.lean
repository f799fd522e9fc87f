/- The document's primes. -/
import Derived.Test.YtnoicjpmfchhiaaDoorRC
namespace Go.Proofs.YtnoicjpmfchhiaaDoor
open Go.RowKit

/-- The primes below a number. -/
def pb : Nat → List Nat
  | 0 => []
  | p + 1 => if 2 ≤ p ∧ (pb p).all (fun q => decide (p % q ≠ 0)) = true then pb p ++ [p] else pb p
theorem pb_step {p : Nat} (h : 2 ≤ p) : pb (p + 1) = if (pb p).all (fun q => decide (p % q ≠ 0)) = true then pb p ++ [p] else pb p := by
  show (if 2 ≤ p ∧ (pb p).all (fun q => decide (p % q ≠ 0)) = true then pb p ++ [p] else pb p) = _
  by_cases hc : (pb p).all (fun q => decide (p % q ≠ 0)) = true
  · rw [if_pos ⟨h, hc⟩, if_pos hc]
  · rw [if_neg (fun e => hc e.2), if_neg hc]
theorem pb_mono (p : Nat) : (pb p).length ≤ (pb (p + 1)).length := by
  show _ ≤ (if 2 ≤ p ∧ (pb p).all (fun q => decide (p % q ≠ 0)) = true then pb p ++ [p] else pb p).length
  split
  · simp
  · exact Nat.le_refl _
theorem pb_le (p : Nat) : ∀ k, (pb p).length ≤ (pb (p + k)).length
  | 0 => Nat.le_refl _
  | k + 1 => Nat.le_trans (pb_le p k) (pb_mono (p + k))
theorem pb_ge : ∀ p q, q ∈ pb p → 2 ≤ q
  | 0, q, h => by cases h
  | p + 1, q, h => by
    have h : q ∈ (if 2 ≤ p ∧ (pb p).all (fun q => decide (p % q ≠ 0)) = true then pb p ++ [p] else pb p) := h
    split at h
    · rename_i hc
      rcases List.mem_append.1 h with h | h
      · exact pb_ge p q h
      · rw [List.mem_singleton] at h; rw [h]; exact hc.1
    · exact pb_ge p q h
theorem pb_311 : (pb 311).length = 63 := by decide +kernel
theorem pb_312 : (pb 312).length = 64 := by decide +kernel
theorem pb_few {p : Nat} (h : p ≤ 311) : (pb p).length < 64 := by
  have := pb_le p (311 - p)
  rw [show p + (311 - p) = 311 by omega, pb_311] at this
  omega
theorem app64 {v : Value} {n m c : Nat} {ad : Addr} {xs news : List Value} (w : World) (ty : TypeId) (ho : w.ownsRow 0 39 1 v n xs) (hl : news.length = m * 1) (hnews : ∀ j u, news[j]? = some u → w.cell? (ad.add j) = some u) (h1 : ∀ u ∈ news, u.oneCell' = true) (hm : 0 < m) (hb : n + m ≤ 2097152) :
    ∃ g cap w', (Builtin.append_ #[36, 36] ty #[v, .slice (some ad) m c]).run Tryd.prog w = .ok (.slice (some ⟨g, 0, none⟩) (n + m) cap) w' ∧
      w'.ownsRow 0 39 1 (.slice (some ⟨g, 0, none⟩) (n + m) cap) (n + m) (xs ++ news) ∧ Fr (fun k => v.ownBlock = some k) w w' ∧ (v.ownBlock = some g ∨ g = w.heap.size) := by
  obtain ⟨i0, hi, hz0, hz1, hz2⟩ := info_parts Tryd.infU64
  obtain ⟨g, cap, w', h1, h2, h3, h4, _⟩ := run_append_lies (P := Tryd.prog) w 36 ty 0 39 i0 _ 1 8 Tryd.underlying36 hi hz0 hz1 hz2 rfl (by decide) v n xs ho ad m c news hl hnews h1 hm (by unfold maxLen; omega) (by omega) (Nat.zero_le _) w.heap.size rfl
  exact ⟨g, cap, w', h1, h2, Fr.grown (Fr.refl _ w) h3 (fun k e _ => e), h4⟩
theorem vcells_app (a b : List Nat) : vcells (a ++ b) = vcells a ++ vcells b := by unfold vcells; rw [List.map_append]
theorem vcells_at {l : List Nat} {i x : Nat} (h : l[i]? = some x) : (vcells l)[i]? = some (.int .u64 (x : Int)) := by unfold vcells; rw [List.getElem?_map, h]; rfl
def rRF0 : Array Oper := #[{ dst := some 2, op := Op.assign (Operand.const (Value.slice none 0 0)), type := 36, pos := "ref.go:75", after := #[], guard := none }]
def rRF1 : Array Oper := #[{ dst := some 3, op := Op.assign (Operand.const (Value.slice none 0 0)), type := 36, pos := "ref.go:76", after := #[], guard := none }]
def rRF2 : Array Oper := #[{ dst := some 4, op := Op.assign (Operand.const (Value.int IntKind.u64 2)), type := 39, pos := "ref.go:77", after := #[], guard := none }]
def rRF3 : Array Oper := #[{ dst := some 7, op := Op.move (Operand.tmp 3), type := 36, pos := "ref.go:77", after := #[], guard := none },
  { dst := some 8, op := Op.call { callee := Callee.builtin Builtin.len, args := #[Operand.tmp 7], argTypes := #[36] }, type := 3, pos := "ref.go:77", after := #[{ on := 0, ground := Ground.data }], guard := none },
  { dst := some 9, op := Op.move (Operand.tmp 0), type := 3, pos := "ref.go:77", after := #[], guard := none },
  { dst := some 10, op := Op.binOp BinOp.lss 3 (Operand.tmp 8) (Operand.tmp 9) 3, type := 4, pos := "ref.go:77", after := #[{ on := 1, ground := Ground.data }, { on := 2, ground := Ground.data }], guard := none }]
def rRF4 : Array Oper := #[{ dst := some 11, op := Op.move (Operand.tmp 4), type := 39, pos := "ref.go:77", after := #[], guard := none },
  { dst := some 12, op := Op.binOp BinOp.add 39 (Operand.tmp 11) (Operand.const (Value.int IntKind.u64 1)) 39, type := 39, pos := "ref.go:77", after := #[{ on := 0, ground := Ground.data }], guard := none },
  { dst := some 4, op := Op.assign (Operand.tmp 12), type := 39, pos := "ref.go:77", after := #[{ on := 1, ground := Ground.data }, { on := 0, ground := Ground.phase }, { on := 1, ground := Ground.phase }], guard := none }]
def rRF5 : Array Oper := #[{ dst := some 5, op := Op.assign (Operand.const (Value.bool true)), type := 4, pos := "ref.go:78", after := #[], guard := none }]
def rRF6 : Array Oper := #[{ dst := some 6, op := Op.assign (Operand.const (Value.int IntKind.i64 0)), type := 3, pos := "ref.go:79", after := #[], guard := none }]
def rRF7 : Array Oper := #[{ dst := some 13, op := Op.move (Operand.tmp 6), type := 3, pos := "ref.go:79", after := #[], guard := none },
  { dst := some 14, op := Op.move (Operand.tmp 3), type := 36, pos := "ref.go:79", after := #[], guard := none },
  { dst := some 15, op := Op.call { callee := Callee.builtin Builtin.len, args := #[Operand.tmp 14], argTypes := #[36] }, type := 3, pos := "ref.go:79", after := #[{ on := 1, ground := Ground.data }], guard := none },
  { dst := some 16, op := Op.binOp BinOp.lss 3 (Operand.tmp 13) (Operand.tmp 15) 3, type := 4, pos := "ref.go:79", after := #[{ on := 0, ground := Ground.data }, { on := 2, ground := Ground.data }], guard := none }]
def rRF8 : Array Oper := #[{ dst := some 17, op := Op.move (Operand.tmp 6), type := 3, pos := "ref.go:79", after := #[], guard := none },
  { dst := some 18, op := Op.binOp BinOp.add 3 (Operand.tmp 17) (Operand.const (Value.int IntKind.i64 1)) 3, type := 3, pos := "ref.go:79", after := #[{ on := 0, ground := Ground.data }], guard := none },
  { dst := some 6, op := Op.assign (Operand.tmp 18), type := 3, pos := "ref.go:79", after := #[{ on := 1, ground := Ground.data }, { on := 0, ground := Ground.phase }, { on := 1, ground := Ground.phase }], guard := none }]
def rRF9 : Array Oper := #[{ dst := some 19, op := Op.move (Operand.tmp 4), type := 39, pos := "ref.go:80", after := #[], guard := none },
  { dst := some 20, op := Op.move (Operand.tmp 3), type := 36, pos := "ref.go:80", after := #[], guard := none },
  { dst := some 21, op := Op.move (Operand.tmp 6), type := 3, pos := "ref.go:80", after := #[], guard := none },
  { dst := some 22, op := Op.indexAddr 36 (Operand.tmp 20) (Operand.tmp 21), type := 0, pos := "ref.go:80", after := #[{ on := 1, ground := Ground.data }, { on := 2, ground := Ground.data }], guard := none },
  { dst := some 23, op := Op.load 39 (Operand.tmp 22), type := 39, pos := "ref.go:80", after := #[{ on := 3, ground := Ground.data }], guard := none },
  { dst := some 24, op := Op.binOp BinOp.rem 39 (Operand.tmp 19) (Operand.tmp 23) 39, type := 39, pos := "ref.go:80", after := #[{ on := 0, ground := Ground.data }, { on := 4, ground := Ground.data }], guard := none },
  { dst := some 25, op := Op.binOp BinOp.eql 39 (Operand.tmp 24) (Operand.const (Value.int IntKind.u64 0)) 39, type := 4, pos := "ref.go:80", after := #[{ on := 5, ground := Ground.data }], guard := none }]
def rRF10 : Array Oper := #[{ dst := some 5, op := Op.assign (Operand.const (Value.bool false)), type := 4, pos := "ref.go:81", after := #[], guard := none }]
def rRF11 : Array Oper := #[{ dst := some 26, op := Op.move (Operand.tmp 5), type := 4, pos := "ref.go:84", after := #[], guard := none }]
def rRF12 : Array Oper := #[{ dst := some 27, op := Op.move (Operand.tmp 3), type := 36, pos := "ref.go:85", after := #[], guard := none },
  { dst := some 28, op := Op.move (Operand.tmp 4), type := 39, pos := "ref.go:85", after := #[], guard := none },
  { dst := some 29, op := Op.buildSlice 36 1 #[(0, Operand.tmp 28)], type := 36, pos := "ref.go:85", after := #[{ on := 1, ground := Ground.data }], guard := none },
  { dst := some 30, op := Op.call { callee := Callee.builtin Builtin.append, args := #[Operand.tmp 27, Operand.tmp 29], argTypes := #[36, 36] }, type := 36, pos := "ref.go:85", after := #[{ on := 0, ground := Ground.data }, { on := 2, ground := Ground.data }], guard := none },
  { dst := some 3, op := Op.assign (Operand.tmp 30), type := 36, pos := "ref.go:85", after := #[{ on := 3, ground := Ground.data }, { on := 3, ground := Ground.chain }, { on := 0, ground := Ground.phase }, { on := 1, ground := Ground.phase }, { on := 2, ground := Ground.phase }, { on := 3, ground := Ground.phase }], guard := none }]
def rRF13 : Array Oper := #[{ dst := some 31, op := Op.move (Operand.tmp 3), type := 36, pos := "ref.go:88", after := #[], guard := none },
  { dst := some 2, op := Op.assign (Operand.tmp 31), type := 36, pos := "ref.go:88", after := #[{ on := 0, ground := Ground.data }, { on := 0, ground := Ground.phase }], guard := none }]
def cRF2 : Code := (Code.seq (Code.seq (Code.region 7 rRF7 false) (Code.cond (Operand.tmp 16) Code.skip (Code.exit 2))) (Code.seq (Code.block 3 (Code.seq (Code.region 9 rRF9 false) (Code.cond (Operand.tmp 25) (Code.region 10 rRF10 false) Code.skip))) (Code.region 8 rRF8 false)))
def cRF1 : Code := (Code.seq (Code.seq (Code.region 3 rRF3 false) (Code.cond (Operand.tmp 10) Code.skip (Code.exit 0))) (Code.seq (Code.block 1 (Code.seq (Code.region 5 rRF5 false) (Code.seq (Code.seq (Code.region 6 rRF6 false) (Code.block 2 (Code.loop cRF2))) (Code.seq (Code.region 11 rRF11 false) (Code.cond (Operand.tmp 26) (Code.region 12 rRF12 false) Code.skip))))) (Code.region 4 rRF4 false)))
def cRF : Code := (Code.seq (Code.region 0 rRF0 false) (Code.seq (Code.region 1 rRF1 false) (Code.seq (Code.seq (Code.region 2 rRF2 false) (Code.block 0 (Code.loop cRF1))) (Code.seq (Code.region 13 rRF13 false) Code.ret))))
structure IRF (v0 v3 v4 : Value) (a : Act) : Prop where
  size : a.tmps.size = 32
  defers : a.defers = []
  s0 : a.eval (.tmp 0) = v0
  s3 : a.eval (.tmp 3) = v3
  s4 : a.eval (.tmp 4) = v4
theorem IRF.keep {v0 v3 v4 : Value} {a0 a : Act} {env : List (Nat × Value)} (h : IRF v0 v3 v4 a0) (f : Fe a0 env a) (h0 : look env 0 (a0.eval (.tmp 0)) = a0.eval (.tmp 0)) (h3 : look env 3 (a0.eval (.tmp 3)) = a0.eval (.tmp 3)) (h4 : look env 4 (a0.eval (.tmp 4)) = a0.eval (.tmp 4)) : IRF v0 v3 v4 a :=
  ⟨f.size.trans h.size, f.defers.trans h.defers, ((f.at_ 0).trans h0).trans h.s0, ((f.at_ 3).trans h3).trans h.s3, ((f.at_ 4).trans h4).trans h.s4⟩
theorem rf2E {p n lc i : Nat} {la : Option Addr} {r : Bool} {Q : Exit → Act → World → Prop} (a0 : Act) (wr : World) (I0 : IRF (.int .i64 64) (.slice la n lc) (.int .u64 (p : Int)) a0) (h5 : a0.eval (.tmp 5) = .bool r) (h6 : a0.eval (.tmp 6) = .int .i64 (i : Int)) (hi : n ≤ i) (hQ : ∀ a, IRF (.int .i64 64) (.slice la n lc) (.int .u64 (p : Int)) a → a.eval (.tmp 5) = .bool r → Q (.exit 2) a wr) : cRF2.wp Tryd.prog Q a0 wr := by
  have hii : ¬ (i : Int) < (n : Int) := by omega
  have hid : decide ((i : Int) < (n : Int)) = false := decide_eq_false hii
  clear hi
  have fa0_0 := Fe.refl a0
  unfold cRF2
  refine wp_seq (wp_seq ?_)
  refine wp_region_list ?_
  unfold rRF7
  refine fa0_0.move 13 (.int .i64 (i : Int)) _ (Or.inl rfl) rfl (lb_ I0.size) (wanted_none rfl) ((fa0_0.at_ 6).trans h6) (fun a0_1 fa0_1 => ?_)
  clear fa0_0
  refine fa0_1.move 14 (.slice la n lc) _ (Or.inl rfl) rfl (lb_ I0.size) (wanted_none rfl) ((fa0_1.at_ 3).trans I0.s3) (fun a0_2 fa0_2 => ?_)
  clear fa0_1
  have r_a0_3 : (execOp a0_2.eval { dst := some 15, op := Op.call { callee := Callee.builtin Builtin.len, args := #[Operand.tmp 14], argTypes := #[36] }, type := 3, pos := "ref.go:79", after := #[{ on := 1, ground := Ground.data }], guard := none }).run Tryd.prog (wr) = .ok (.value (.int .i64 (n : Int))) (wr) := by
    have e14 := (show a0_2.eval (.tmp 14) = .slice la n lc from (fa0_2.at_ 14))
    clear fa0_2 hQ h5 h6
    generalize a0_2.eval = ρ at *
    go_simp
  refine fa0_2.step 15 (.int .i64 (n : Int)) rfl (lb_ I0.size) (wanted_none rfl) r_a0_3 (fun a0_3 fa0_3 => ?_)
  clear r_a0_3
  clear fa0_2
  have r_a0_4 : (execOp a0_3.eval { dst := some 16, op := Op.binOp BinOp.lss 3 (Operand.tmp 13) (Operand.tmp 15) 3, type := 4, pos := "ref.go:79", after := #[{ on := 0, ground := Ground.data }, { on := 2, ground := Ground.data }], guard := none }).run Tryd.prog (wr) = .ok (.value (.bool false)) (wr) := by
    have e13 := (show a0_3.eval (.tmp 13) = .int .i64 (i : Int) from (fa0_3.at_ 13))
    have e15 := (show a0_3.eval (.tmp 15) = .int .i64 (n : Int) from (fa0_3.at_ 15))
    clear fa0_3 hQ h5 h6
    generalize a0_3.eval = ρ at *
    go_simp
  refine fa0_3.step 16 (.bool false) rfl (lb_ I0.size) (wanted_none rfl) r_a0_4 (fun a0_4 fa0_4 => ?_)
  clear r_a0_4
  clear fa0_3
  refine wpList_nil ?_
  change Code.wp _ _ _ _ _
  refine wp_cond_false (show a0_4.eval (.tmp 16) = .bool false from (fa0_4.at_ 16)) (wp_exit ?_)
  exact hQ a0_4 (I0.keep fa0_4 rfl rfl rfl) (show a0_4.eval (.tmp 5) = .bool r from ((fa0_4.at_ 5).trans h5))
set_option maxRecDepth 100000 in
set_option maxHeartbeats 1000000 in
theorem rf2T {p n lc i g x m : Nat} {Q : Exit → Act → World → Prop} (a0 : Act) (wr : World) (I0 : IRF (.int .i64 64) (.slice (some ⟨g, 0, none⟩) n lc) (.int .u64 (p : Int)) a0) (h6 : a0.eval (.tmp 6) = .int .i64 (i : Int)) (hi : i < n) (hn : n ≤ 64) (kx : wr.cell? ⟨g, i, none⟩ = some (.int .u64 (x : Int))) (hx : 2 ≤ x) (hm : p % x = m) (hd : m = 0)
    (hQ : ∀ a, IRF (.int .i64 64) (.slice (some ⟨g, 0, none⟩) n lc) (.int .u64 (p : Int)) a → a.eval (.tmp 5) = .bool false → a.eval (.tmp 6) = .int .i64 ((i : Int) + 1) → Q .normal a wr) : cRF2.wp Tryd.prog Q a0 wr := by
  have hii : (i : Int) < (n : Int) := by omega
  have w1 : IntKind.i64.wrap ((i : Int) + 1) = (i : Int) + 1 := by rw [IntKind.wrap_i64]; omega
  have x0 : ¬ (x : Int) = 0 := by omega
  have x1 : ¬ x = 0 := by omega
  have hr : (p : Int).tmod (x : Int) = (m : Int) := by rw [← hm]; rfl
  have fa0_0 := Fe.refl a0
  unfold cRF2
  refine wp_seq (wp_seq ?_)
  refine wp_region_list ?_
  unfold rRF7
  refine fa0_0.move 13 (.int .i64 (i : Int)) _ (Or.inl rfl) rfl (lb_ I0.size) (wanted_none rfl) ((fa0_0.at_ 6).trans h6) (fun a0_1 fa0_1 => ?_)
  clear fa0_0
  refine fa0_1.move 14 (.slice (some ⟨g, 0, none⟩) n lc) _ (Or.inl rfl) rfl (lb_ I0.size) (wanted_none rfl) ((fa0_1.at_ 3).trans I0.s3) (fun a0_2 fa0_2 => ?_)
  clear fa0_1
  have r_a0_3 : (execOp a0_2.eval { dst := some 15, op := Op.call { callee := Callee.builtin Builtin.len, args := #[Operand.tmp 14], argTypes := #[36] }, type := 3, pos := "ref.go:79", after := #[{ on := 1, ground := Ground.data }], guard := none }).run Tryd.prog (wr) = .ok (.value (.int .i64 (n : Int))) (wr) := by
    have e14 := (show a0_2.eval (.tmp 14) = .slice (some ⟨g, 0, none⟩) n lc from (fa0_2.at_ 14))
    clear fa0_2 hQ h6 hm
    generalize a0_2.eval = ρ at *
    go_simp
  refine fa0_2.step 15 (.int .i64 (n : Int)) rfl (lb_ I0.size) (wanted_none rfl) r_a0_3 (fun a0_3 fa0_3 => ?_)
  clear r_a0_3
  clear fa0_2
  have r_a0_4 : (execOp a0_3.eval { dst := some 16, op := Op.binOp BinOp.lss 3 (Operand.tmp 13) (Operand.tmp 15) 3, type := 4, pos := "ref.go:79", after := #[{ on := 0, ground := Ground.data }, { on := 2, ground := Ground.data }], guard := none }).run Tryd.prog (wr) = .ok (.value (.bool true)) (wr) := by
    have e13 := (show a0_3.eval (.tmp 13) = .int .i64 (i : Int) from (fa0_3.at_ 13))
    have e15 := (show a0_3.eval (.tmp 15) = .int .i64 (n : Int) from (fa0_3.at_ 15))
    clear fa0_3 hQ h6 hm
    generalize a0_3.eval = ρ at *
    go_simp
  refine fa0_3.step 16 (.bool true) rfl (lb_ I0.size) (wanted_none rfl) r_a0_4 (fun a0_4 fa0_4 => ?_)
  clear r_a0_4
  clear fa0_3
  refine wpList_nil ?_
  change Code.wp _ _ _ _ _
  refine wp_cond_true (show a0_4.eval (.tmp 16) = .bool true from (fa0_4.at_ 16)) (wp_skip ?_)
  change Code.wp _ _ _ _ _
  refine wp_seq (wp_block (wp_seq ?_))
  refine wp_region_list ?_
  unfold rRF9
  refine fa0_4.move 19 (.int .u64 (p : Int)) _ (Or.inl rfl) rfl (lb_ I0.size) (wanted_none rfl) ((fa0_4.at_ 4).trans I0.s4) (fun a0_5 fa0_5 => ?_)
  clear fa0_4
  refine fa0_5.move 20 (.slice (some ⟨g, 0, none⟩) n lc) _ (Or.inl rfl) rfl (lb_ I0.size) (wanted_none rfl) ((fa0_5.at_ 3).trans I0.s3) (fun a0_6 fa0_6 => ?_)
  clear fa0_5
  refine fa0_6.move 21 (.int .i64 (i : Int)) _ (Or.inl rfl) rfl (lb_ I0.size) (wanted_none rfl) ((fa0_6.at_ 6).trans h6) (fun a0_7 fa0_7 => ?_)
  clear fa0_6
  have r_a0_8 : (execOp a0_7.eval { dst := some 22, op := Op.indexAddr 36 (Operand.tmp 20) (Operand.tmp 21), type := 0, pos := "ref.go:80", after := #[{ on := 1, ground := Ground.data }, { on := 2, ground := Ground.data }], guard := none }).run Tryd.prog (wr) = .ok (.value (.pointer (some ⟨g, i, none⟩))) (wr) := by
    have e20 := (show a0_7.eval (.tmp 20) = .slice (some ⟨g, 0, none⟩) n lc from (fa0_7.at_ 20))
    have e21 := (show a0_7.eval (.tmp 21) = .int .i64 (i : Int) from (fa0_7.at_ 21))
    clear fa0_7 hQ h6 hm
    generalize a0_7.eval = ρ at *
    go_simp
  refine fa0_7.step 22 (.pointer (some ⟨g, i, none⟩)) rfl (lb_ I0.size) (wanted_none rfl) r_a0_8 (fun a0_8 fa0_8 => ?_)
  clear r_a0_8
  clear fa0_7
  have r_a0_9 : (execOp a0_8.eval { dst := some 23, op := Op.load 39 (Operand.tmp 22), type := 39, pos := "ref.go:80", after := #[{ on := 3, ground := Ground.data }], guard := none }).run Tryd.prog (wr) = .ok (.value (.int .u64 (x : Int))) (wr) := by
    have e22 := (show a0_8.eval (.tmp 22) = .pointer (some ⟨g, i, none⟩) from (fa0_8.at_ 22))
    clear fa0_8 hQ h6 hm
    generalize a0_8.eval = ρ at *
    go_simp
  refine fa0_8.step 23 (.int .u64 (x : Int)) rfl (lb_ I0.size) (wanted_none rfl) r_a0_9 (fun a0_9 fa0_9 => ?_)
  clear r_a0_9
  clear fa0_8
  have r_a0_10 : (execOp a0_9.eval { dst := some 24, op := Op.binOp BinOp.rem 39 (Operand.tmp 19) (Operand.tmp 23) 39, type := 39, pos := "ref.go:80", after := #[{ on := 0, ground := Ground.data }, { on := 4, ground := Ground.data }], guard := none }).run Tryd.prog (wr) = .ok (.value (.int .u64 (m : Int))) (wr) := by
    have e19 := (show a0_9.eval (.tmp 19) = .int .u64 (p : Int) from (fa0_9.at_ 19))
    have e23 := (show a0_9.eval (.tmp 23) = .int .u64 (x : Int) from (fa0_9.at_ 23))
    clear fa0_9 hQ h6 hm
    generalize a0_9.eval = ρ at *
    go_simp
  refine fa0_9.step 24 (.int .u64 (m : Int)) rfl (lb_ I0.size) (wanted_none rfl) r_a0_10 (fun a0_10 fa0_10 => ?_)
  clear r_a0_10
  clear fa0_9
  have r_a0_11 : (execOp a0_10.eval { dst := some 25, op := Op.binOp BinOp.eql 39 (Operand.tmp 24) (Operand.const (Value.int IntKind.u64 0)) 39, type := 4, pos := "ref.go:80", after := #[{ on := 5, ground := Ground.data }], guard := none }).run Tryd.prog (wr) = .ok (.value (.bool true)) (wr) := by
    have kc : ∀ v, a0_10.eval (.const v) = v := fun _ => rfl
    have e24 := (show a0_10.eval (.tmp 24) = .int .u64 (m : Int) from (fa0_10.at_ 24))
    clear fa0_10 hQ h6 hm
    generalize a0_10.eval = ρ at *
    go_simp
  refine fa0_10.step 25 (.bool true) rfl (lb_ I0.size) (wanted_none rfl) r_a0_11 (fun a0_11 fa0_11 => ?_)
  clear r_a0_11
  clear fa0_10
  refine wpList_nil ?_
  change Code.wp _ _ _ _ _
  refine wp_cond_true (show a0_11.eval (.tmp 25) = .bool true from (fa0_11.at_ 25)) ?_
  change Code.wp _ _ _ _ _
  refine wp_region_list ?_
  unfold rRF10
  refine fa0_11.move 5 (.bool false) _ (Or.inr rfl) rfl (lb_ I0.size) (wanted_none rfl) rfl (fun a0_12 fa0_12 => ?_)
  clear fa0_11
  refine wpList_nil ?_
  change Code.wp _ _ _ _ _
  refine wp_region_list ?_
  unfold rRF8
  refine fa0_12.move 17 (.int .i64 (i : Int)) _ (Or.inl rfl) rfl (lb_ I0.size) (wanted_none rfl) ((fa0_12.at_ 6).trans h6) (fun a0_13 fa0_13 => ?_)
  clear fa0_12
  have r_a0_14 : (execOp a0_13.eval { dst := some 18, op := Op.binOp BinOp.add 3 (Operand.tmp 17) (Operand.const (Value.int IntKind.i64 1)) 3, type := 3, pos := "ref.go:79", after := #[{ on := 0, ground := Ground.data }], guard := none }).run Tryd.prog (wr) = .ok (.value (.int .i64 ((i : Int) + 1))) (wr) := by
    have kc : ∀ v, a0_13.eval (.const v) = v := fun _ => rfl
    have e17 := (show a0_13.eval (.tmp 17) = .int .i64 (i : Int) from (fa0_13.at_ 17))
    clear fa0_13 hQ h6 hm
    generalize a0_13.eval = ρ at *
    go_simp
  refine fa0_13.step 18 (.int .i64 ((i : Int) + 1)) rfl (lb_ I0.size) (wanted_none rfl) r_a0_14 (fun a0_14 fa0_14 => ?_)
  clear r_a0_14
  clear fa0_13
  refine fa0_14.move 6 (.int .i64 ((i : Int) + 1)) _ (Or.inr rfl) rfl (lb_ I0.size) (wanted_none rfl) (fa0_14.at_ 18) (fun a0_15 fa0_15 => ?_)
  clear fa0_14
  refine wpList_nil ?_
  exact hQ a0_15 (I0.keep fa0_15 rfl rfl rfl) (show a0_15.eval (.tmp 5) = .bool false from (fa0_15.at_ 5)) (show a0_15.eval (.tmp 6) = .int .i64 ((i : Int) + 1) from (fa0_15.at_ 6))
set_option maxRecDepth 100000 in
set_option maxHeartbeats 1000000 in
theorem rf2N {p n lc i g x m : Nat} {r : Bool} {Q : Exit → Act → World → Prop} (a0 : Act) (wr : World) (I0 : IRF (.int .i64 64) (.slice (some ⟨g, 0, none⟩) n lc) (.int .u64 (p : Int)) a0) (h5 : a0.eval (.tmp 5) = .bool r) (h6 : a0.eval (.tmp 6) = .int .i64 (i : Int)) (hi : i < n) (hn : n ≤ 64) (kx : wr.cell? ⟨g, i, none⟩ = some (.int .u64 (x : Int))) (hx : 2 ≤ x) (hm : p % x = m) (hd : ¬ m = 0)
    (hQ : ∀ a, IRF (.int .i64 64) (.slice (some ⟨g, 0, none⟩) n lc) (.int .u64 (p : Int)) a → a.eval (.tmp 5) = .bool r → a.eval (.tmp 6) = .int .i64 ((i : Int) + 1) → Q .normal a wr) : cRF2.wp Tryd.prog Q a0 wr := by
  have hii : (i : Int) < (n : Int) := by omega
  have w1 : IntKind.i64.wrap ((i : Int) + 1) = (i : Int) + 1 := by rw [IntKind.wrap_i64]; omega
  have x0 : ¬ (x : Int) = 0 := by omega
  have x1 : ¬ x = 0 := by omega
  have hr : (p : Int).tmod (x : Int) = (m : Int) := by rw [← hm]; rfl
  have fa0_0 := Fe.refl a0
  unfold cRF2
  refine wp_seq (wp_seq ?_)
  refine wp_region_list ?_
  unfold rRF7
  refine fa0_0.move 13 (.int .i64 (i : Int)) _ (Or.inl rfl) rfl (lb_ I0.size) (wanted_none rfl) ((fa0_0.at_ 6).trans h6) (fun a0_1 fa0_1 => ?_)
  clear fa0_0
  refine fa0_1.move 14 (.slice (some ⟨g, 0, none⟩) n lc) _ (Or.inl rfl) rfl (lb_ I0.size) (wanted_none rfl) ((fa0_1.at_ 3).trans I0.s3) (fun a0_2 fa0_2 => ?_)
  clear fa0_1
  have r_a0_3 : (execOp a0_2.eval { dst := some 15, op := Op.call { callee := Callee.builtin Builtin.len, args := #[Operand.tmp 14], argTypes := #[36] }, type := 3, pos := "ref.go:79", after := #[{ on := 1, ground := Ground.data }], guard := none }).run Tryd.prog (wr) = .ok (.value (.int .i64 (n : Int))) (wr) := by
    have e14 := (show a0_2.eval (.tmp 14) = .slice (some ⟨g, 0, none⟩) n lc from (fa0_2.at_ 14))
    clear fa0_2 hQ h6 hm h5
    generalize a0_2.eval = ρ at *
    go_simp
  refine fa0_2.step 15 (.int .i64 (n : Int)) rfl (lb_ I0.size) (wanted_none rfl) r_a0_3 (fun a0_3 fa0_3 => ?_)
  clear r_a0_3
  clear fa0_2
  have r_a0_4 : (execOp a0_3.eval { dst := some 16, op := Op.binOp BinOp.lss 3 (Operand.tmp 13) (Operand.tmp 15) 3, type := 4, pos := "ref.go:79", after := #[{ on := 0, ground := Ground.data }, { on := 2, ground := Ground.data }], guard := none }).run Tryd.prog (wr) = .ok (.value (.bool true)) (wr) := by
    have e13 := (show a0_3.eval (.tmp 13) = .int .i64 (i : Int) from (fa0_3.at_ 13))
    have e15 := (show a0_3.eval (.tmp 15) = .int .i64 (n : Int) from (fa0_3.at_ 15))
    clear fa0_3 hQ h6 hm h5
    generalize a0_3.eval = ρ at *
    go_simp
  refine fa0_3.step 16 (.bool true) rfl (lb_ I0.size) (wanted_none rfl) r_a0_4 (fun a0_4 fa0_4 => ?_)
  clear r_a0_4
  clear fa0_3
  refine wpList_nil ?_
  change Code.wp _ _ _ _ _
  refine wp_cond_true (show a0_4.eval (.tmp 16) = .bool true from (fa0_4.at_ 16)) (wp_skip ?_)
  change Code.wp _ _ _ _ _
  refine wp_seq (wp_block (wp_seq ?_))
  refine wp_region_list ?_
  unfold rRF9
  refine fa0_4.move 19 (.int .u64 (p : Int)) _ (Or.inl rfl) rfl (lb_ I0.size) (wanted_none rfl) ((fa0_4.at_ 4).trans I0.s4) (fun a0_5 fa0_5 => ?_)
  clear fa0_4
  refine fa0_5.move 20 (.slice (some ⟨g, 0, none⟩) n lc) _ (Or.inl rfl) rfl (lb_ I0.size) (wanted_none rfl) ((fa0_5.at_ 3).trans I0.s3) (fun a0_6 fa0_6 => ?_)
  clear fa0_5
  refine fa0_6.move 21 (.int .i64 (i : Int)) _ (Or.inl rfl) rfl (lb_ I0.size) (wanted_none rfl) ((fa0_6.at_ 6).trans h6) (fun a0_7 fa0_7 => ?_)
  clear fa0_6
  have r_a0_8 : (execOp a0_7.eval { dst := some 22, op := Op.indexAddr 36 (Operand.tmp 20) (Operand.tmp 21), type := 0, pos := "ref.go:80", after := #[{ on := 1, ground := Ground.data }, { on := 2, ground := Ground.data }], guard := none }).run Tryd.prog (wr) = .ok (.value (.pointer (some ⟨g, i, none⟩))) (wr) := by
    have e20 := (show a0_7.eval (.tmp 20) = .slice (some ⟨g, 0, none⟩) n lc from (fa0_7.at_ 20))
    have e21 := (show a0_7.eval (.tmp 21) = .int .i64 (i : Int) from (fa0_7.at_ 21))
    clear fa0_7 hQ h6 hm h5
    generalize a0_7.eval = ρ at *
    go_simp
  refine fa0_7.step 22 (.pointer (some ⟨g, i, none⟩)) rfl (lb_ I0.size) (wanted_none rfl) r_a0_8 (fun a0_8 fa0_8 => ?_)
  clear r_a0_8
  clear fa0_7
  have r_a0_9 : (execOp a0_8.eval { dst := some 23, op := Op.load 39 (Operand.tmp 22), type := 39, pos := "ref.go:80", after := #[{ on := 3, ground := Ground.data }], guard := none }).run Tryd.prog (wr) = .ok (.value (.int .u64 (x : Int))) (wr) := by
    have e22 := (show a0_8.eval (.tmp 22) = .pointer (some ⟨g, i, none⟩) from (fa0_8.at_ 22))
    clear fa0_8 hQ h6 hm h5
    generalize a0_8.eval = ρ at *
    go_simp
  refine fa0_8.step 23 (.int .u64 (x : Int)) rfl (lb_ I0.size) (wanted_none rfl) r_a0_9 (fun a0_9 fa0_9 => ?_)
  clear r_a0_9
  clear fa0_8
  have r_a0_10 : (execOp a0_9.eval { dst := some 24, op := Op.binOp BinOp.rem 39 (Operand.tmp 19) (Operand.tmp 23) 39, type := 39, pos := "ref.go:80", after := #[{ on := 0, ground := Ground.data }, { on := 4, ground := Ground.data }], guard := none }).run Tryd.prog (wr) = .ok (.value (.int .u64 (m : Int))) (wr) := by
    have e19 := (show a0_9.eval (.tmp 19) = .int .u64 (p : Int) from (fa0_9.at_ 19))
    have e23 := (show a0_9.eval (.tmp 23) = .int .u64 (x : Int) from (fa0_9.at_ 23))
    clear fa0_9 hQ h6 hm h5
    generalize a0_9.eval = ρ at *
    go_simp
  refine fa0_9.step 24 (.int .u64 (m : Int)) rfl (lb_ I0.size) (wanted_none rfl) r_a0_10 (fun a0_10 fa0_10 => ?_)
  clear r_a0_10
  clear fa0_9
  have r_a0_11 : (execOp a0_10.eval { dst := some 25, op := Op.binOp BinOp.eql 39 (Operand.tmp 24) (Operand.const (Value.int IntKind.u64 0)) 39, type := 4, pos := "ref.go:80", after := #[{ on := 5, ground := Ground.data }], guard := none }).run Tryd.prog (wr) = .ok (.value (.bool false)) (wr) := by
    have kc : ∀ v, a0_10.eval (.const v) = v := fun _ => rfl
    have e24 := (show a0_10.eval (.tmp 24) = .int .u64 (m : Int) from (fa0_10.at_ 24))
    clear fa0_10 hQ h6 hm h5
    generalize a0_10.eval = ρ at *
    go_simp
  refine fa0_10.step 25 (.bool false) rfl (lb_ I0.size) (wanted_none rfl) r_a0_11 (fun a0_11 fa0_11 => ?_)
  clear r_a0_11
  clear fa0_10
  refine wpList_nil ?_
  change Code.wp _ _ _ _ _
  refine wp_cond_false (show a0_11.eval (.tmp 25) = .bool false from (fa0_11.at_ 25)) (wp_skip ?_)
  change Code.wp _ _ _ _ _
  refine wp_region_list ?_
  unfold rRF8
  refine fa0_11.move 17 (.int .i64 (i : Int)) _ (Or.inl rfl) rfl (lb_ I0.size) (wanted_none rfl) ((fa0_11.at_ 6).trans h6) (fun a0_12 fa0_12 => ?_)
  clear fa0_11
  have r_a0_13 : (execOp a0_12.eval { dst := some 18, op := Op.binOp BinOp.add 3 (Operand.tmp 17) (Operand.const (Value.int IntKind.i64 1)) 3, type := 3, pos := "ref.go:79", after := #[{ on := 0, ground := Ground.data }], guard := none }).run Tryd.prog (wr) = .ok (.value (.int .i64 ((i : Int) + 1))) (wr) := by
    have kc : ∀ v, a0_12.eval (.const v) = v := fun _ => rfl
    have e17 := (show a0_12.eval (.tmp 17) = .int .i64 (i : Int) from (fa0_12.at_ 17))
    clear fa0_12 hQ h6 hm h5
    generalize a0_12.eval = ρ at *
    go_simp
  refine fa0_12.step 18 (.int .i64 ((i : Int) + 1)) rfl (lb_ I0.size) (wanted_none rfl) r_a0_13 (fun a0_13 fa0_13 => ?_)
  clear r_a0_13
  clear fa0_12
  refine fa0_13.move 6 (.int .i64 ((i : Int) + 1)) _ (Or.inr rfl) rfl (lb_ I0.size) (wanted_none rfl) (fa0_13.at_ 18) (fun a0_14 fa0_14 => ?_)
  clear fa0_13
  refine wpList_nil ?_
  exact hQ a0_14 (I0.keep fa0_14 rfl rfl rfl) (show a0_14.eval (.tmp 5) = .bool r from ((fa0_14.at_ 5).trans h5)) (show a0_14.eval (.tmp 6) = .int .i64 ((i : Int) + 1) from (fa0_14.at_ 6))
theorem rf2L {p lc : Nat} {la : Option Addr} {l : List Nat} {Q : Exit → Act → World → Prop} (a0 : Act) (w : World) (I0 : IRF (.int .i64 64) (.slice la l.length lc) (.int .u64 (p : Int)) a0) (h5 : a0.eval (.tmp 5) = .bool true) (h6 : a0.eval (.tmp 6) = .int .i64 ((0 : Nat) : Int)) (hn : l.length ≤ 64) (ho : w.ownsRow 0 39 1 (.slice la l.length lc) l.length (vcells l)) (hge : ∀ q ∈ l, 2 ≤ q)
    (hQ : ∀ a, IRF (.int .i64 64) (.slice la l.length lc) (.int .u64 (p : Int)) a → a.eval (.tmp 5) = .bool (l.all (fun q => decide (p % q ≠ 0))) → Q (.exit 2) a w) : (Code.loop cRF2).wp Tryd.prog Q a0 w := by
  refine wp_loop (fun a W => W = w ∧ IRF (.int .i64 64) (.slice la l.length lc) (.int .u64 (p : Int)) a ∧ ∃ i : Nat, i ≤ l.length ∧ a.eval (.tmp 6) = .int .i64 (i : Int) ∧ a.eval (.tmp 5) = .bool ((l.take i).all (fun q => decide (p % q ≠ 0)))) (fun a _ => l.length - kOf a 6) ⟨rfl, I0, 0, Nat.zero_le _, h6, h5⟩ ?_
  rintro a W ⟨rfl, I1, i, hi, g6, g5⟩
  by_cases hgo : i < l.length
  · obtain ⟨x, hx⟩ : ∃ x, l[i]? = some x := ⟨_, List.getElem?_eq_getElem hgo⟩
    obtain ⟨g, rfl, _⟩ := own_some ho (by omega)
    have kx := own_cell ho (vcells_at hx)
    have x2 := hge x (List.mem_of_getElem? hx)
    have ht : (l.take (i + 1)).all (fun q => decide (p % q ≠ 0)) = ((l.take i).all (fun q => decide (p % q ≠ 0)) && decide (p % x ≠ 0)) := by rw [List.take_add_one, hx]; simp
    have next : ∀ (a' : Act), IRF (.int .i64 64) (.slice (some ⟨g, 0, none⟩) l.length lc) (.int .u64 (p : Int)) a' → a'.eval (.tmp 6) = .int .i64 ((i : Int) + 1) → a'.eval (.tmp 5) = .bool ((l.take (i + 1)).all (fun q => decide (p % q ≠ 0))) → (W = W ∧ IRF (.int .i64 64) (.slice (some ⟨g, 0, none⟩) l.length lc) (.int .u64 (p : Int)) a' ∧ ∃ i : Nat, i ≤ l.length ∧ a'.eval (.tmp 6) = .int .i64 (i : Int) ∧ a'.eval (.tmp 5) = .bool ((l.take i).all (fun q => decide (p % q ≠ 0)))) ∧ l.length - kOf a' 6 < l.length - kOf a 6 := by
      intro a' i2 j6 j5
      have h4 : a'.eval (.tmp 6) = .int .i64 ((i + 1 : Nat) : Int) := j6
      refine ⟨⟨rfl, i2, i + 1, hgo, h4, j5⟩, ?_⟩
      rw [kOf_eq h4, kOf_eq g6]
      omega
    by_cases hd : p % x = 0
    · exact rf2T (Q := Exit.then _ Q) a W I1 g6 hgo hn kx x2 rfl hd (fun a' i2 j5 j6 => next a' i2 j6 (by rw [ht, decide_eq_false (fun e => e hd), Bool.and_false]; exact j5))
    · exact rf2N (Q := Exit.then _ Q) a W I1 g5 g6 hgo hn kx x2 rfl hd (fun a' i2 j5 j6 => next a' i2 j6 (by rw [ht, decide_eq_true hd, Bool.and_true]; exact j5))
  · obtain rfl : l.length = i := by omega
    rw [List.take_length] at g5
    exact rf2E a W I1 g5 g6 (Nat.le_refl _) (fun a' i2 j5 => hQ a' i2 j5)
theorem rf1E {p n lc : Nat} {la : Option Addr} {Q : Exit → Act → World → Prop} (a0 : Act) (wr : World) (I0 : IRF (.int .i64 64) (.slice la n lc) (.int .u64 (p : Int)) a0) (hi : 64 ≤ n) (hQ : ∀ a, IRF (.int .i64 64) (.slice la n lc) (.int .u64 (p : Int)) a → Q (.exit 0) a wr) : cRF1.wp Tryd.prog Q a0 wr := by
  have hii : ¬ (n : Int) < 64 := by omega
  have hi2 : (64 : Int) ≤ (n : Int) := by omega
  clear hi
  have fa0_0 := Fe.refl a0
  unfold cRF1
  refine wp_seq (wp_seq ?_)
  refine wp_region_list ?_
  unfold rRF3
  refine fa0_0.move 7 (.slice la n lc) _ (Or.inl rfl) rfl (lb_ I0.size) (wanted_none rfl) ((fa0_0.at_ 3).trans I0.s3) (fun a0_1 fa0_1 => ?_)
  clear fa0_0
  have r_a0_2 : (execOp a0_1.eval { dst := some 8, op := Op.call { callee := Callee.builtin Builtin.len, args := #[Operand.tmp 7], argTypes := #[36] }, type := 3, pos := "ref.go:77", after := #[{ on := 0, ground := Ground.data }], guard := none }).run Tryd.prog (wr) = .ok (.value (.int .i64 (n : Int))) (wr) := by
    have e7 := (show a0_1.eval (.tmp 7) = .slice la n lc from (fa0_1.at_ 7))
    clear fa0_1 hQ
    generalize a0_1.eval = ρ at *
    go_simp
  refine fa0_1.step 8 (.int .i64 (n : Int)) rfl (lb_ I0.size) (wanted_none rfl) r_a0_2 (fun a0_2 fa0_2 => ?_)
  clear r_a0_2
  clear fa0_1
  refine fa0_2.move 9 (.int .i64 64) _ (Or.inl rfl) rfl (lb_ I0.size) (wanted_none rfl) ((fa0_2.at_ 0).trans I0.s0) (fun a0_3 fa0_3 => ?_)
  clear fa0_2
  have r_a0_4 : (execOp a0_3.eval { dst := some 10, op := Op.binOp BinOp.lss 3 (Operand.tmp 8) (Operand.tmp 9) 3, type := 4, pos := "ref.go:77", after := #[{ on := 1, ground := Ground.data }, { on := 2, ground := Ground.data }], guard := none }).run Tryd.prog (wr) = .ok (.value (.bool false)) (wr) := by
    have e8 := (show a0_3.eval (.tmp 8) = .int .i64 (n : Int) from (fa0_3.at_ 8))
    have e9 := (show a0_3.eval (.tmp 9) = .int .i64 64 from (fa0_3.at_ 9))
    clear fa0_3 hQ
    generalize a0_3.eval = ρ at *
    go_simp
  refine fa0_3.step 10 (.bool false) rfl (lb_ I0.size) (wanted_none rfl) r_a0_4 (fun a0_4 fa0_4 => ?_)
  clear r_a0_4
  clear fa0_3
  refine wpList_nil ?_
  change Code.wp _ _ _ _ _
  refine wp_cond_false (show a0_4.eval (.tmp 10) = .bool false from (fa0_4.at_ 10)) (wp_exit ?_)
  exact hQ a0_4 (I0.keep fa0_4 rfl rfl rfl)
set_option maxRecDepth 100000 in
set_option maxHeartbeats 1000000 in
theorem rf1Y {p lc : Nat} {la : Option Addr} {l : List Nat} {Q : Exit → Act → World → Prop} (a0 : Act) (wr : World) (I0 : IRF (.int .i64 64) (.slice la l.length lc) (.int .u64 (p : Int)) a0) (hi : l.length < 64) (hp : p ≤ 1000) (ho : wr.ownsRow 0 39 1 (.slice la l.length lc) l.length (vcells l)) (hge : ∀ q ∈ l, 2 ≤ q) (hall : l.all (fun q => decide (p % q ≠ 0)) = true)
    (hQ : ∀ a W g3 c3, IRF (.int .i64 64) (.slice (some ⟨g3, 0, none⟩) (l.length + 1) c3) (.int .u64 ((p : Int) + 1)) a → W.ownsRow 0 39 1 (.slice (some ⟨g3, 0, none⟩) (l.length + 1) c3) (l.length + 1) (vcells (l ++ [p])) → Fr (fun k => (Value.slice la l.length lc).ownBlock = some k) wr W → ((Value.slice la l.length lc).ownBlock = some g3 ∨ wr.heap.size ≤ g3) → Q .normal a W) : cRF1.wp Tryd.prog Q a0 wr := by
  have hii : (l.length : Int) < 64 := by omega
  have w1 : IntKind.u64.wrap ((p : Int) + 1) = (p : Int) + 1 := by rw [IntKind.wrap_u64]; omega
  have fa0_0 := Fe.refl a0
  unfold cRF1
  refine wp_seq (wp_seq ?_)
  refine wp_region_list ?_
  unfold rRF3
  refine fa0_0.move 7 (.slice la l.length lc) _ (Or.inl rfl) rfl (lb_ I0.size) (wanted_none rfl) ((fa0_0.at_ 3).trans I0.s3) (fun a0_1 fa0_1 => ?_)
  clear fa0_0
  have r_a0_2 : (execOp a0_1.eval { dst := some 8, op := Op.call { callee := Callee.builtin Builtin.len, args := #[Operand.tmp 7], argTypes := #[36] }, type := 3, pos := "ref.go:77", after := #[{ on := 0, ground := Ground.data }], guard := none }).run Tryd.prog (wr) = .ok (.value (.int .i64 (l.length : Int))) (wr) := by
    have e7 := (show a0_1.eval (.tmp 7) = .slice la l.length lc from (fa0_1.at_ 7))
    clear fa0_1 hQ ho hge hall
    generalize a0_1.eval = ρ at *
    go_simp
  refine fa0_1.step 8 (.int .i64 (l.length : Int)) rfl (lb_ I0.size) (wanted_none rfl) r_a0_2 (fun a0_2 fa0_2 => ?_)
  clear r_a0_2
  clear fa0_1
  refine fa0_2.move 9 (.int .i64 64) _ (Or.inl rfl) rfl (lb_ I0.size) (wanted_none rfl) ((fa0_2.at_ 0).trans I0.s0) (fun a0_3 fa0_3 => ?_)
  clear fa0_2
  have r_a0_4 : (execOp a0_3.eval { dst := some 10, op := Op.binOp BinOp.lss 3 (Operand.tmp 8) (Operand.tmp 9) 3, type := 4, pos := "ref.go:77", after := #[{ on := 1, ground := Ground.data }, { on := 2, ground := Ground.data }], guard := none }).run Tryd.prog (wr) = .ok (.value (.bool true)) (wr) := by
    have e8 := (show a0_3.eval (.tmp 8) = .int .i64 (l.length : Int) from (fa0_3.at_ 8))
    have e9 := (show a0_3.eval (.tmp 9) = .int .i64 64 from (fa0_3.at_ 9))
    clear fa0_3 hQ ho hge hall
    generalize a0_3.eval = ρ at *
    go_simp
  refine fa0_3.step 10 (.bool true) rfl (lb_ I0.size) (wanted_none rfl) r_a0_4 (fun a0_4 fa0_4 => ?_)
  clear r_a0_4
  clear fa0_3
  refine wpList_nil ?_
  change Code.wp _ _ _ _ _
  refine wp_cond_true (show a0_4.eval (.tmp 10) = .bool true from (fa0_4.at_ 10)) (wp_skip ?_)
  change Code.wp _ _ _ _ _
  refine wp_seq (wp_block (wp_seq ?_))
  refine wp_region_list ?_
  unfold rRF5
  refine fa0_4.move 5 (.bool true) _ (Or.inr rfl) rfl (lb_ I0.size) (wanted_none rfl) rfl (fun a0_5 fa0_5 => ?_)
  clear fa0_4
  refine wpList_nil ?_
  change Code.wp _ _ _ _ _
  refine wp_seq (wp_seq ?_)
  refine wp_region_list ?_
  unfold rRF6
  refine fa0_5.move 6 (.int .i64 ((0 : Nat) : Int)) _ (Or.inr rfl) rfl (lb_ I0.size) (wanted_none rfl) rfl (fun a0_6 fa0_6 => ?_)
  clear fa0_5
  refine wpList_nil ?_
  change Code.wp _ _ _ _ _
  refine wp_block ?_
  refine rf2L (l := l) a0_6 wr (I0.keep fa0_6 rfl rfl rfl) (show a0_6.eval (.tmp 5) = .bool true from (fa0_6.at_ 5)) (show a0_6.eval (.tmp 6) = .int .i64 ((0 : Nat) : Int) from (fa0_6.at_ 6)) (by omega) ho hge (fun b1 i1 j5 => ?_)
  change Code.wp _ _ _ _ _
  rw [hall] at j5
  refine wp_seq ?_
  have fb1_0 := Fe.refl b1
  refine wp_region_list ?_
  unfold rRF11
  refine fb1_0.move 26 (.bool true) _ (Or.inl rfl) rfl (lb_ i1.size) (wanted_none rfl) ((fb1_0.at_ 5).trans j5) (fun b1_1 fb1_1 => ?_)
  clear fb1_0
  refine wpList_nil ?_
  change Code.wp _ _ _ _ _
  refine wp_cond_true (show b1_1.eval (.tmp 26) = .bool true from (fb1_1.at_ 26)) ?_
  change Code.wp _ _ _ _ _
  refine wp_region_list ?_
  unfold rRF12
  refine fb1_1.move 27 (.slice la l.length lc) _ (Or.inl rfl) rfl (lb_ i1.size) (wanted_none rfl) ((fb1_1.at_ 3).trans i1.s3) (fun b1_2 fb1_2 => ?_)
  clear fb1_1
  refine fb1_2.move 28 (.int .u64 (p : Int)) _ (Or.inl rfl) rfl (lb_ i1.size) (wanted_none rfl) ((fb1_2.at_ 4).trans i1.s4) (fun b1_3 fb1_3 => ?_)
  clear fb1_2
  have r_b1_4 : (execOp b1_3.eval { dst := some 29, op := Op.buildSlice 36 1 #[(0, Operand.tmp 28)], type := 36, pos := "ref.go:85", after := #[{ on := 1, ground := Ground.data }], guard := none }).run Tryd.prog (wr) = .ok (.value (.slice (some ⟨wr.heap.size, 0, none⟩) 1 1)) (World.alloc wr (.cells #[.int .u64 (p : Int)] 39)) := by
    have e28 := (show b1_3.eval (.tmp 28) = .int .u64 (p : Int) from (fb1_3.at_ 28))
    clear fb1_3 hQ ho hge hall j5
    generalize b1_3.eval = ρ at *
    go_simp
  refine fb1_3.stepW 29 (.slice (some ⟨wr.heap.size, 0, none⟩) 1 1) rfl (lb_ i1.size) (wanted_none rfl) r_b1_4 (fun b1_4 fb1_4 => ?_)
  clear r_b1_4
  have s2 : Same wr (World.alloc wr (.cells #[.int .u64 (p : Int)] 39)) := (Fr.refl _ wr).alloc _
  have r2 : (World.alloc wr (.cells #[.int .u64 (p : Int)] 39)).heap[wr.heap.size]? = some (.cells #[.int .u64 (p : Int)] 39 (0, 0)) := heap_alloc_new wr _
  generalize World.alloc wr (.cells #[.int .u64 (p : Int)] 39) = V at *
  obtain ⟨g3, c3, V3, hr3, o3, f3, l3⟩ := app64 (m := 1) (c := 1) (ad := ⟨wr.heap.size, 0, none⟩) (news := [.int .u64 (p : Int)]) V 36 (own_frameB ho s2 (fun _ _ f => f)) rfl (fun j u hj => by rw [WideShapes.add_plain, Nat.zero_add]; exact (cell_of_row _ _ _ _ _ _ r2).trans (by rw [← hj, ← List.getElem?_toArray])) (fun u hu => by rw [List.mem_singleton] at hu; rw [hu]; rfl) (by decide) (by omega)
  clear fb1_3
  have r_b1_5 : (execOp b1_4.eval { dst := some 30, op := Op.call { callee := Callee.builtin Builtin.append, args := #[Operand.tmp 27, Operand.tmp 29], argTypes := #[36, 36] }, type := 36, pos := "ref.go:85", after := #[{ on := 0, ground := Ground.data }, { on := 2, ground := Ground.data }], guard := none }).run Tryd.prog (V) = .ok (.value (.slice (some ⟨g3, 0, none⟩) (l.length + 1) c3)) (V3) := by
    refine exec_append rfl ?_
    rw [(show b1_4.eval (.tmp 27) = .slice la l.length lc from (fb1_4.at_ 27)), (show b1_4.eval (.tmp 29) = .slice (some ⟨wr.heap.size, 0, none⟩) 1 1 from (fb1_4.at_ 29))]
    exact hr3
  refine fb1_4.stepW 30 (.slice (some ⟨g3, 0, none⟩) (l.length + 1) c3) rfl (lb_ i1.size) (wanted_none rfl) r_b1_5 (fun b1_5 fb1_5 => ?_)
  clear r_b1_5
  clear fb1_4
  refine fb1_5.move 3 (.slice (some ⟨g3, 0, none⟩) (l.length + 1) c3) _ (Or.inr rfl) rfl (lb_ i1.size) (wanted_none rfl) (fb1_5.at_ 30) (fun b1_6 fb1_6 => ?_)
  clear fb1_5
  refine wpList_nil ?_
  change Code.wp _ _ _ _ _
  refine wp_region_list ?_
  unfold rRF4
  refine fb1_6.move 11 (.int .u64 (p : Int)) _ (Or.inl rfl) rfl (lb_ i1.size) (wanted_none rfl) ((fb1_6.at_ 4).trans i1.s4) (fun b1_7 fb1_7 => ?_)
  clear fb1_6
  have r_b1_8 : (execOp b1_7.eval { dst := some 12, op := Op.binOp BinOp.add 39 (Operand.tmp 11) (Operand.const (Value.int IntKind.u64 1)) 39, type := 39, pos := "ref.go:77", after := #[{ on := 0, ground := Ground.data }], guard := none }).run Tryd.prog (V3) = .ok (.value (.int .u64 ((p : Int) + 1))) (V3) := by
    have kc : ∀ v, b1_7.eval (.const v) = v := fun _ => rfl
    have e11 := (show b1_7.eval (.tmp 11) = .int .u64 (p : Int) from (fb1_7.at_ 11))
    clear fb1_7 hQ ho hge hall j5 s2 r2 hr3 o3 f3 l3
    generalize b1_7.eval = ρ at *
    go_simp
  refine fb1_7.step 12 (.int .u64 ((p : Int) + 1)) rfl (lb_ i1.size) (wanted_none rfl) r_b1_8 (fun b1_8 fb1_8 => ?_)
  clear r_b1_8
  clear fb1_7
  refine fb1_8.move 4 (.int .u64 ((p : Int) + 1)) _ (Or.inr rfl) rfl (lb_ i1.size) (wanted_none rfl) (fb1_8.at_ 12) (fun b1_9 fb1_9 => ?_)
  clear fb1_8
  refine wpList_nil ?_
  have f23 : Fr (fun k => (Value.slice la l.length lc).ownBlock = some k) wr V3 := Fr.trans (s2.mono (fun _ _ f => f.elim)) f3 (fun _ _ e => e)
  exact hQ b1_9 V3 g3 c3 ⟨fb1_9.size.trans i1.size, fb1_9.defers.trans i1.defers, (show b1_9.eval (.tmp 0) = .int .i64 64 from ((fb1_9.at_ 0).trans i1.s0)), (show b1_9.eval (.tmp 3) = .slice (some ⟨g3, 0, none⟩) (l.length + 1) c3 from (fb1_9.at_ 3)), (show b1_9.eval (.tmp 4) = .int .u64 ((p : Int) + 1) from (fb1_9.at_ 4))⟩ (by rw [vcells_app]; exact o3) f23 (l3.imp id (fun e => by have := s2.size; omega))
set_option maxRecDepth 100000 in
set_option maxHeartbeats 1000000 in
theorem rf1N {p lc : Nat} {la : Option Addr} {l : List Nat} {Q : Exit → Act → World → Prop} (a0 : Act) (wr : World) (I0 : IRF (.int .i64 64) (.slice la l.length lc) (.int .u64 (p : Int)) a0) (hi : l.length < 64) (hp : p ≤ 1000) (ho : wr.ownsRow 0 39 1 (.slice la l.length lc) l.length (vcells l)) (hge : ∀ q ∈ l, 2 ≤ q) (hall : l.all (fun q => decide (p % q ≠ 0)) = false)
    (hQ : ∀ a, IRF (.int .i64 64) (.slice la l.length lc) (.int .u64 ((p : Int) + 1)) a → Q .normal a wr) : cRF1.wp Tryd.prog Q a0 wr := by
  have hii : (l.length : Int) < 64 := by omega
  have w1 : IntKind.u64.wrap ((p : Int) + 1) = (p : Int) + 1 := by rw [IntKind.wrap_u64]; omega
  have fa0_0 := Fe.refl a0
  unfold cRF1
  refine wp_seq (wp_seq ?_)
  refine wp_region_list ?_
  unfold rRF3
  refine fa0_0.move 7 (.slice la l.length lc) _ (Or.inl rfl) rfl (lb_ I0.size) (wanted_none rfl) ((fa0_0.at_ 3).trans I0.s3) (fun a0_1 fa0_1 => ?_)
  clear fa0_0
  have r_a0_2 : (execOp a0_1.eval { dst := some 8, op := Op.call { callee := Callee.builtin Builtin.len, args := #[Operand.tmp 7], argTypes := #[36] }, type := 3, pos := "ref.go:77", after := #[{ on := 0, ground := Ground.data }], guard := none }).run Tryd.prog (wr) = .ok (.value (.int .i64 (l.length : Int))) (wr) := by
    have e7 := (show a0_1.eval (.tmp 7) = .slice la l.length lc from (fa0_1.at_ 7))
    clear fa0_1 hQ ho hge hall
    generalize a0_1.eval = ρ at *
    go_simp
  refine fa0_1.step 8 (.int .i64 (l.length : Int)) rfl (lb_ I0.size) (wanted_none rfl) r_a0_2 (fun a0_2 fa0_2 => ?_)
  clear r_a0_2
  clear fa0_1
  refine fa0_2.move 9 (.int .i64 64) _ (Or.inl rfl) rfl (lb_ I0.size) (wanted_none rfl) ((fa0_2.at_ 0).trans I0.s0) (fun a0_3 fa0_3 => ?_)
  clear fa0_2
  have r_a0_4 : (execOp a0_3.eval { dst := some 10, op := Op.binOp BinOp.lss 3 (Operand.tmp 8) (Operand.tmp 9) 3, type := 4, pos := "ref.go:77", after := #[{ on := 1, ground := Ground.data }, { on := 2, ground := Ground.data }], guard := none }).run Tryd.prog (wr) = .ok (.value (.bool true)) (wr) := by
    have e8 := (show a0_3.eval (.tmp 8) = .int .i64 (l.length : Int) from (fa0_3.at_ 8))
    have e9 := (show a0_3.eval (.tmp 9) = .int .i64 64 from (fa0_3.at_ 9))
    clear fa0_3 hQ ho hge hall
    generalize a0_3.eval = ρ at *
    go_simp
  refine fa0_3.step 10 (.bool true) rfl (lb_ I0.size) (wanted_none rfl) r_a0_4 (fun a0_4 fa0_4 => ?_)
  clear r_a0_4
  clear fa0_3
  refine wpList_nil ?_
  change Code.wp _ _ _ _ _
  refine wp_cond_true (show a0_4.eval (.tmp 10) = .bool true from (fa0_4.at_ 10)) (wp_skip ?_)
  change Code.wp _ _ _ _ _
  refine wp_seq (wp_block (wp_seq ?_))
  refine wp_region_list ?_
  unfold rRF5
  refine fa0_4.move 5 (.bool true) _ (Or.inr rfl) rfl (lb_ I0.size) (wanted_none rfl) rfl (fun a0_5 fa0_5 => ?_)
  clear fa0_4
  refine wpList_nil ?_
  change Code.wp _ _ _ _ _
  refine wp_seq (wp_seq ?_)
  refine wp_region_list ?_
  unfold rRF6
  refine fa0_5.move 6 (.int .i64 ((0 : Nat) : Int)) _ (Or.inr rfl) rfl (lb_ I0.size) (wanted_none rfl) rfl (fun a0_6 fa0_6 => ?_)
  clear fa0_5
  refine wpList_nil ?_
  change Code.wp _ _ _ _ _
  refine wp_block ?_
  refine rf2L (l := l) a0_6 wr (I0.keep fa0_6 rfl rfl rfl) (show a0_6.eval (.tmp 5) = .bool true from (fa0_6.at_ 5)) (show a0_6.eval (.tmp 6) = .int .i64 ((0 : Nat) : Int) from (fa0_6.at_ 6)) (by omega) ho hge (fun b1 i1 j5 => ?_)
  change Code.wp _ _ _ _ _
  rw [hall] at j5
  refine wp_seq ?_
  have fb1_0 := Fe.refl b1
  refine wp_region_list ?_
  unfold rRF11
  refine fb1_0.move 26 (.bool false) _ (Or.inl rfl) rfl (lb_ i1.size) (wanted_none rfl) ((fb1_0.at_ 5).trans j5) (fun b1_1 fb1_1 => ?_)
  clear fb1_0
  refine wpList_nil ?_
  change Code.wp _ _ _ _ _
  refine wp_cond_false (show b1_1.eval (.tmp 26) = .bool false from (fb1_1.at_ 26)) (wp_skip ?_)
  change Code.wp _ _ _ _ _
  refine wp_region_list ?_
  unfold rRF4
  refine fb1_1.move 11 (.int .u64 (p : Int)) _ (Or.inl rfl) rfl (lb_ i1.size) (wanted_none rfl) ((fb1_1.at_ 4).trans i1.s4) (fun b1_2 fb1_2 => ?_)
  clear fb1_1
  have r_b1_3 : (execOp b1_2.eval { dst := some 12, op := Op.binOp BinOp.add 39 (Operand.tmp 11) (Operand.const (Value.int IntKind.u64 1)) 39, type := 39, pos := "ref.go:77", after := #[{ on := 0, ground := Ground.data }], guard := none }).run Tryd.prog (wr) = .ok (.value (.int .u64 ((p : Int) + 1))) (wr) := by
    have kc : ∀ v, b1_2.eval (.const v) = v := fun _ => rfl
    have e11 := (show b1_2.eval (.tmp 11) = .int .u64 (p : Int) from (fb1_2.at_ 11))
    clear fb1_2 hQ ho hge hall j5
    generalize b1_2.eval = ρ at *
    go_simp
  refine fb1_2.step 12 (.int .u64 ((p : Int) + 1)) rfl (lb_ i1.size) (wanted_none rfl) r_b1_3 (fun b1_3 fb1_3 => ?_)
  clear r_b1_3
  clear fb1_2
  refine fb1_3.move 4 (.int .u64 ((p : Int) + 1)) _ (Or.inr rfl) rfl (lb_ i1.size) (wanted_none rfl) (fb1_3.at_ 12) (fun b1_4 fb1_4 => ?_)
  clear fb1_3
  refine wpList_nil ?_
  exact hQ b1_4 ⟨fb1_4.size.trans i1.size, fb1_4.defers.trans i1.defers, (show b1_4.eval (.tmp 0) = .int .i64 64 from ((fb1_4.at_ 0).trans i1.s0)), (show b1_4.eval (.tmp 3) = .slice la l.length lc from ((fb1_4.at_ 3).trans i1.s3)), (show b1_4.eval (.tmp 4) = .int .u64 ((p : Int) + 1) from (fb1_4.at_ 4))⟩
theorem rf1L {Q : Exit → Act → World → Prop} (a0 : Act) (w : World) (I0 : IRF (.int .i64 64) (.slice none 0 0) (.int .u64 2) a0)
    (hQ : ∀ a W g c v4, IRF (.int .i64 64) (.slice (some ⟨g, 0, none⟩) 64 c) v4 a → W.ownsRow 0 39 1 (.slice (some ⟨g, 0, none⟩) 64 c) 64 (vcells (pb 312)) → Same w W → w.heap.size ≤ g → Q (.exit 0) a W) : (Code.loop cRF1).wp Tryd.prog Q a0 w := by
  refine wp_loop (fun a W => Same w W ∧ ∃ (p lc : Nat) (la : Option Addr), 2 ≤ p ∧ p ≤ 312 ∧ IRF (.int .i64 64) (.slice la (pb p).length lc) (.int .u64 (p : Int)) a ∧ W.ownsRow 0 39 1 (.slice la (pb p).length lc) (pb p).length (vcells (pb p)) ∧ (∀ k, (Value.slice la (pb p).length lc).ownBlock = some k → w.heap.size ≤ k)) (fun a _ => match a.eval (.tmp 4) with | .int _ y => 400 - y.toNat | _ => 0) ⟨Fr.refl _ _, 2, 0, none, Nat.le_refl _, by decide, I0, own_nil, fun k hk => (by cases hk)⟩ ?_
  rintro a W ⟨s1, p, lc, la, p2, pm, I1, o1, n1⟩
  by_cases hgo : p ≤ 311
  · have hlen := pb_few hgo
    by_cases hall : (pb p).all (fun q => decide (p % q ≠ 0)) = true
    · have hs : pb (p + 1) = pb p ++ [p] := by rw [pb_step p2, if_pos hall]
      have hl : (pb (p + 1)).length = (pb p).length + 1 := by rw [hs]; simp
      refine rf1Y (Q := Exit.then _ Q) a W I1 hlen (by omega) o1 (fun q hq => pb_ge p q hq) hall (fun a' W' g3 c3 i2 o3 f3 l3 => ?_)
      refine ⟨⟨Fr.trans s1 f3 (fun k hk e => by have := n1 k e; omega), p + 1, c3, some ⟨g3, 0, none⟩, by omega, by omega, by rw [hl]; exact i2, by rw [hl, hs]; exact o3, fun k hk => ?_⟩, ?_⟩
      · have hk2 : g3 = k := by simpa [Value.ownBlock] using hk
        rcases l3 with e | e
        · have := n1 _ e; omega
        · have := s1.size; omega
      · show (match a'.eval (.tmp 4) with | .int _ y => 400 - y.toNat | _ => 0) < (match a.eval (.tmp 4) with | .int _ y => 400 - y.toNat | _ => 0)
        rw [i2.s4, I1.s4]
        show 400 - ((p : Int) + 1).toNat < 400 - (p : Int).toNat
        omega
    · have hall : (pb p).all (fun q => decide (p % q ≠ 0)) = false := by simpa using hall
      have hs : pb (p + 1) = pb p := by rw [pb_step p2, hall, if_neg (by decide)]
      refine rf1N (Q := Exit.then _ Q) a W I1 hlen (by omega) o1 (fun q hq => pb_ge p q hq) hall (fun a' i2 => ?_)
      refine ⟨⟨s1, p + 1, lc, la, by omega, by omega, by rw [hs]; exact i2, by rw [hs]; exact o1, by rw [hs]; exact n1⟩, ?_⟩
      show (match a'.eval (.tmp 4) with | .int _ y => 400 - y.toNat | _ => 0) < (match a.eval (.tmp 4) with | .int _ y => 400 - y.toNat | _ => 0)
      rw [i2.s4, I1.s4]
      show 400 - ((p : Int) + 1).toNat < 400 - (p : Int).toNat
      omega
  · obtain rfl : p = 312 := by omega
    rw [pb_312] at I1 o1 n1
    obtain ⟨g, rfl, _⟩ := own_some o1 (by decide)
    exact rf1E a W I1 (Nat.le_refl _) (fun a' i2 => hQ a' W g lc _ i2 o1 s1 (n1 g (by simp [Value.ownBlock])))
set_option maxRecDepth 100000 in
set_option maxHeartbeats 1000000 in
theorem primes_calls (w : World) :
    Calls Tryd.prog 11 #[.int .i64 64] w fun e w' => ∃ g c, e = .returned (.slice (some ⟨g, 0, none⟩) 64 c) ∧ w'.ownsRow 0 39 1 (.slice (some ⟨g, 0, none⟩) 64 c) 64 (vcells (pb 312)) ∧ Same w w' ∧ w.heap.size ≤ g := by
  refine calls_abs (c := cRF) Tryd.func11 (by kernel_rfl) 32 rfl (by simp) (fun a0 hsz hd ha => ?_)
  have fa0_0 := Fe.refl a0
  unfold cRF
  refine wp_seq ?_
  refine wp_region_list ?_
  unfold rRF0
  refine fa0_0.move 2 (.slice none 0 0) _ (Or.inr rfl) rfl (lb_ hsz) (wanted_none rfl) rfl (fun a0_1 fa0_1 => ?_)
  clear fa0_0
  refine wpList_nil ?_
  change Code.wp _ _ _ _ _
  refine wp_seq ?_
  refine wp_region_list ?_
  unfold rRF1
  refine fa0_1.move 3 (.slice none 0 0) _ (Or.inr rfl) rfl (lb_ hsz) (wanted_none rfl) rfl (fun a0_2 fa0_2 => ?_)
  clear fa0_1
  refine wpList_nil ?_
  change Code.wp _ _ _ _ _
  refine wp_seq (wp_seq ?_)
  refine wp_region_list ?_
  unfold rRF2
  refine fa0_2.move 4 (.int .u64 2) _ (Or.inr rfl) rfl (lb_ hsz) (wanted_none rfl) rfl (fun a0_3 fa0_3 => ?_)
  clear fa0_2
  refine wpList_nil ?_
  change Code.wp _ _ _ _ _
  refine wp_block ?_
  refine rf1L a0_3 w ⟨fa0_3.size.trans hsz, fa0_3.defers.trans hd, (show a0_3.eval (.tmp 0) = .int .i64 64 from ((fa0_3.at_ 0).trans (ha 0 _ rfl))), (show a0_3.eval (.tmp 3) = .slice none 0 0 from (fa0_3.at_ 3)), (show a0_3.eval (.tmp 4) = .int .u64 2 from (fa0_3.at_ 4))⟩ (fun b1 W g c v4 i1 o1 s1 hg => ?_)
  change Code.wp _ _ _ _ _
  refine wp_seq ?_
  have fb1_0 := Fe.refl b1
  refine wp_region_list ?_
  unfold rRF13
  refine fb1_0.move 31 (.slice (some ⟨g, 0, none⟩) 64 c) _ (Or.inl rfl) rfl (lb_ i1.size) (wanted_none rfl) ((fb1_0.at_ 3).trans i1.s3) (fun b1_1 fb1_1 => ?_)
  clear fb1_0
  refine fb1_1.move 2 (.slice (some ⟨g, 0, none⟩) 64 c) _ (Or.inr rfl) rfl (lb_ i1.size) (wanted_none rfl) (fb1_1.at_ 31) (fun b1_2 fb1_2 => ?_)
  clear fb1_1
  refine wpList_nil ?_
  change Code.wp _ _ _ _ _
  refine wp_ret ?_
  exact ret_abs rfl (fb1_2.defers.trans i1.defers) (show b1_2.eval (.tmp 2) = .slice (some ⟨g, 0, none⟩) 64 c from (fb1_2.at_ 2)) ⟨_, _, rfl, o1, s1, hg⟩
end Go.Proofs.YtnoicjpmfchhiaaDoor
