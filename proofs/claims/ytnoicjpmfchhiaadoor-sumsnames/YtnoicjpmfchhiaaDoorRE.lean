/- The document's Constants and Right. -/
import Derived.Test.YtnoicjpmfchhiaaDoorRD
import Derived.Test.YtnoicjpmfchhiaaDoorOK1
namespace Go.Proofs.YtnoicjpmfchhiaaDoor
open Go.RowKit

theorem app32 {v : Value} {n m c : Nat} {ad : Addr} {xs news : List Value} (w : World) (ty : TypeId) (ho : w.ownsRow 0 27 1 v n xs) (hl : news.length = m * 1) (hnews : ∀ j u, news[j]? = some u → w.cell? (ad.add j) = some u) (h1 : ∀ u ∈ news, u.oneCell' = true) (hm : 0 < m) (hb : n + m ≤ 2097152) :
    ∃ g cap w', (Builtin.append_ #[23, 23] ty #[v, .slice (some ad) m c]).run Tryd.prog w = .ok (.slice (some ⟨g, 0, none⟩) (n + m) cap) w' ∧
      w'.ownsRow 0 27 1 (.slice (some ⟨g, 0, none⟩) (n + m) cap) (n + m) (xs ++ news) ∧ Fr (fun k => v.ownBlock = some k) w w' ∧ (v.ownBlock = some g ∨ g = w.heap.size) := by
  obtain ⟨i0, hi, hz0, hz1, hz2⟩ := info_parts Tryd.infoU32
  obtain ⟨g, cap, w', h1, h2, h3, h4, _⟩ := run_append_lies (P := Tryd.prog) w 23 ty 0 27 i0 _ 1 4 Tryd.underlying23 hi hz0 hz1 hz2 rfl (by decide) v n xs ho ad m c news hl hnews h1 hm (by unfold maxLen; omega) (by omega) (Nat.zero_le _) w.heap.size rfl
  exact ⟨g, cap, w', h1, h2, Fr.grown (Fr.refl _ w) h3 (fun k e _ => e), h4⟩
def dcells (l : List Nat) : List Value := l.map fun (x : Nat) => Value.int .u32 (x : Int)
theorem dcells_app (a b : List Nat) : dcells (a ++ b) = dcells a ++ dcells b := by unfold dcells; rw [List.map_append]
theorem dcells_at {l : List Nat} {i x : Nat} (h : l[i]? = some x) : (dcells l)[i]? = some (.int .u32 (x : Int)) := by unfold dcells; rw [List.getElem?_map, h]; rfl
def rtL (q m : Nat) : List Nat := ((pb 312).take m).map (fun p => rootN p q)
theorem rtL_len {q m : Nat} (h : m ≤ 64) : (rtL q m).length = m := by unfold rtL; rw [List.length_map, List.length_take, pb_312]; omega
theorem rtL_succ {q m x : Nat} (h : (pb 312)[m]? = some x) : rtL q (m + 1) = rtL q m ++ [rootN x q] := by
  unfold rtL
  rw [List.take_add_one, h]
  simp
def rRG0 : Array Oper := #[{ dst := some 0, op := Op.alloc 25, type := 0, pos := "ref.go:150", after := #[], guard := none }]
def rRG1 : Array Oper := #[{ dst := some 1, op := Op.alloc 25, type := 0, pos := "ref.go:151", after := #[], guard := none }]
def rRG2 : Array Oper := #[{ dst := some 4, op := Op.call { callee := Callee.value (Operand.func 11), args := #[Operand.const (Value.int IntKind.i64 64)], argTypes := #[3] }, type := 36, pos := "ref.go:152", after := #[], guard := none },
  { dst := some 2, op := Op.assign (Operand.tmp 4), type := 36, pos := "ref.go:152", after := #[{ on := 0, ground := Ground.data }, { on := 0, ground := Ground.chain }, { on := 0, ground := Ground.phase }], guard := none }]
def rRG3 : Array Oper := #[{ dst := some 3, op := Op.assign (Operand.const (Value.int IntKind.i64 0)), type := 3, pos := "ref.go:153", after := #[], guard := none }]
def rRG4 : Array Oper := #[{ dst := some 5, op := Op.move (Operand.tmp 3), type := 3, pos := "ref.go:153", after := #[], guard := none },
  { dst := some 6, op := Op.binOp BinOp.lss 3 (Operand.tmp 5) (Operand.const (Value.int IntKind.i64 64)) 3, type := 4, pos := "ref.go:153", after := #[{ on := 0, ground := Ground.data }], guard := none }]
def rRG5 : Array Oper := #[{ dst := some 7, op := Op.move (Operand.tmp 3), type := 3, pos := "ref.go:153", after := #[], guard := none },
  { dst := some 8, op := Op.binOp BinOp.add 3 (Operand.tmp 7) (Operand.const (Value.int IntKind.i64 1)) 3, type := 3, pos := "ref.go:153", after := #[{ on := 0, ground := Ground.data }], guard := none },
  { dst := some 3, op := Op.assign (Operand.tmp 8), type := 3, pos := "ref.go:153", after := #[{ on := 1, ground := Ground.data }, { on := 0, ground := Ground.phase }, { on := 1, ground := Ground.phase }], guard := none }]
def rRG6 : Array Oper := #[{ dst := some 9, op := Op.move (Operand.tmp 3), type := 3, pos := "ref.go:154", after := #[], guard := none },
  { dst := some 10, op := Op.binOp BinOp.lss 3 (Operand.tmp 9) (Operand.const (Value.int IntKind.i64 8)) 3, type := 4, pos := "ref.go:154", after := #[{ on := 0, ground := Ground.data }], guard := none }]
def rRG7 : Array Oper := #[{ dst := some 11, op := Op.fieldAddr 25 (Operand.tmp 1) 0, type := 0, pos := "ref.go:155", after := #[], guard := none },
  { dst := some 12, op := Op.load 23 (Operand.tmp 11), type := 23, pos := "ref.go:155", after := #[{ on := 0, ground := Ground.data }], guard := none },
  { dst := some 13, op := Op.move (Operand.tmp 2), type := 36, pos := "ref.go:155", after := #[], guard := none },
  { dst := some 14, op := Op.move (Operand.tmp 3), type := 3, pos := "ref.go:155", after := #[], guard := none },
  { dst := some 15, op := Op.indexAddr 36 (Operand.tmp 13) (Operand.tmp 14), type := 0, pos := "ref.go:155", after := #[{ on := 2, ground := Ground.data }, { on := 3, ground := Ground.data }], guard := none },
  { dst := some 16, op := Op.load 39 (Operand.tmp 15), type := 39, pos := "ref.go:155", after := #[{ on := 4, ground := Ground.data }], guard := none },
  { dst := some 17, op := Op.call { callee := Callee.value (Operand.func 12), args := #[Operand.tmp 16, Operand.const (Value.int IntKind.i64 2)], argTypes := #[39, 3] }, type := 27, pos := "ref.go:155", after := #[{ on := 5, ground := Ground.data }], guard := none },
  { dst := some 18, op := Op.buildSlice 23 1 #[(0, Operand.tmp 17)], type := 23, pos := "ref.go:155", after := #[{ on := 6, ground := Ground.data }], guard := none },
  { dst := some 19, op := Op.call { callee := Callee.builtin Builtin.append, args := #[Operand.tmp 12, Operand.tmp 18], argTypes := #[23, 23] }, type := 23, pos := "ref.go:155", after := #[{ on := 1, ground := Ground.data }, { on := 7, ground := Ground.data }, { on := 6, ground := Ground.chain }], guard := none },
  { dst := some 20, op := Op.fieldAddr 25 (Operand.tmp 1) 0, type := 0, pos := "ref.go:155", after := #[{ on := 0, ground := Ground.phase }, { on := 1, ground := Ground.phase }, { on := 2, ground := Ground.phase }, { on := 3, ground := Ground.phase }, { on := 4, ground := Ground.phase }, { on := 5, ground := Ground.phase }, { on := 6, ground := Ground.phase }, { on := 7, ground := Ground.phase }, { on := 8, ground := Ground.phase }], guard := none },
  { dst := none, op := Op.store 23 (Operand.tmp 20) (Operand.tmp 19), type := 0, pos := "ref.go:155", after := #[{ on := 9, ground := Ground.data }, { on := 8, ground := Ground.data }, { on := 8, ground := Ground.chain }, { on := 0, ground := Ground.phase }, { on := 1, ground := Ground.phase }, { on := 2, ground := Ground.phase }, { on := 3, ground := Ground.phase }, { on := 4, ground := Ground.phase }, { on := 5, ground := Ground.phase }, { on := 6, ground := Ground.phase }, { on := 7, ground := Ground.phase }, { on := 8, ground := Ground.phase }], guard := none }]
def rRG8 : Array Oper := #[{ dst := some 21, op := Op.fieldAddr 25 (Operand.tmp 1) 1, type := 0, pos := "ref.go:157", after := #[], guard := none },
  { dst := some 22, op := Op.load 23 (Operand.tmp 21), type := 23, pos := "ref.go:157", after := #[{ on := 0, ground := Ground.data }], guard := none },
  { dst := some 23, op := Op.move (Operand.tmp 2), type := 36, pos := "ref.go:157", after := #[], guard := none },
  { dst := some 24, op := Op.move (Operand.tmp 3), type := 3, pos := "ref.go:157", after := #[], guard := none },
  { dst := some 25, op := Op.indexAddr 36 (Operand.tmp 23) (Operand.tmp 24), type := 0, pos := "ref.go:157", after := #[{ on := 2, ground := Ground.data }, { on := 3, ground := Ground.data }], guard := none },
  { dst := some 26, op := Op.load 39 (Operand.tmp 25), type := 39, pos := "ref.go:157", after := #[{ on := 4, ground := Ground.data }], guard := none },
  { dst := some 27, op := Op.call { callee := Callee.value (Operand.func 12), args := #[Operand.tmp 26, Operand.const (Value.int IntKind.i64 3)], argTypes := #[39, 3] }, type := 27, pos := "ref.go:157", after := #[{ on := 5, ground := Ground.data }], guard := none },
  { dst := some 28, op := Op.buildSlice 23 1 #[(0, Operand.tmp 27)], type := 23, pos := "ref.go:157", after := #[{ on := 6, ground := Ground.data }], guard := none },
  { dst := some 29, op := Op.call { callee := Callee.builtin Builtin.append, args := #[Operand.tmp 22, Operand.tmp 28], argTypes := #[23, 23] }, type := 23, pos := "ref.go:157", after := #[{ on := 1, ground := Ground.data }, { on := 7, ground := Ground.data }, { on := 6, ground := Ground.chain }], guard := none },
  { dst := some 30, op := Op.fieldAddr 25 (Operand.tmp 1) 1, type := 0, pos := "ref.go:157", after := #[{ on := 0, ground := Ground.phase }, { on := 1, ground := Ground.phase }, { on := 2, ground := Ground.phase }, { on := 3, ground := Ground.phase }, { on := 4, ground := Ground.phase }, { on := 5, ground := Ground.phase }, { on := 6, ground := Ground.phase }, { on := 7, ground := Ground.phase }, { on := 8, ground := Ground.phase }], guard := none },
  { dst := none, op := Op.store 23 (Operand.tmp 30) (Operand.tmp 29), type := 0, pos := "ref.go:157", after := #[{ on := 9, ground := Ground.data }, { on := 8, ground := Ground.data }, { on := 8, ground := Ground.chain }, { on := 0, ground := Ground.phase }, { on := 1, ground := Ground.phase }, { on := 2, ground := Ground.phase }, { on := 3, ground := Ground.phase }, { on := 4, ground := Ground.phase }, { on := 5, ground := Ground.phase }, { on := 6, ground := Ground.phase }, { on := 7, ground := Ground.phase }, { on := 8, ground := Ground.phase }], guard := none }]
def rRG9 : Array Oper := #[{ dst := some 31, op := Op.load 25 (Operand.tmp 1), type := 25, pos := "ref.go:159", after := #[], guard := none },
  { dst := none, op := Op.store 25 (Operand.tmp 0) (Operand.tmp 31), type := 0, pos := "ref.go:159", after := #[{ on := 0, ground := Ground.data }, { on := 0, ground := Ground.phase }], guard := none }]
def rRG7p : Array Oper := #[{ dst := some 11, op := Op.fieldAddr 25 (Operand.tmp 1) 0, type := 0, pos := "ref.go:155", after := #[], guard := none },
  { dst := some 12, op := Op.load 23 (Operand.tmp 11), type := 23, pos := "ref.go:155", after := #[{ on := 0, ground := Ground.data }], guard := none },
  { dst := some 13, op := Op.move (Operand.tmp 2), type := 36, pos := "ref.go:155", after := #[], guard := none },
  { dst := some 14, op := Op.move (Operand.tmp 3), type := 3, pos := "ref.go:155", after := #[], guard := none },
  { dst := some 15, op := Op.indexAddr 36 (Operand.tmp 13) (Operand.tmp 14), type := 0, pos := "ref.go:155", after := #[{ on := 2, ground := Ground.data }, { on := 3, ground := Ground.data }], guard := none },
  { dst := some 16, op := Op.load 39 (Operand.tmp 15), type := 39, pos := "ref.go:155", after := #[{ on := 4, ground := Ground.data }], guard := none },
  { dst := some 17, op := Op.call { callee := Callee.value (Operand.func 12), args := #[Operand.tmp 16, Operand.const (Value.int IntKind.i64 2)], argTypes := #[39, 3] }, type := 27, pos := "ref.go:155", after := #[{ on := 5, ground := Ground.data }], guard := none },
  { dst := some 18, op := Op.buildSlice 23 1 #[(0, Operand.tmp 17)], type := 23, pos := "ref.go:155", after := #[{ on := 6, ground := Ground.data }], guard := none },
  { dst := some 19, op := Op.call { callee := Callee.builtin Builtin.append, args := #[Operand.tmp 12, Operand.tmp 18], argTypes := #[23, 23] }, type := 23, pos := "ref.go:155", after := #[{ on := 1, ground := Ground.data }, { on := 7, ground := Ground.data }, { on := 6, ground := Ground.chain }], guard := none },
  { dst := some 20, op := Op.fieldAddr 25 (Operand.tmp 1) 0, type := 0, pos := "ref.go:155", after := #[{ on := 0, ground := Ground.phase }, { on := 1, ground := Ground.phase }, { on := 2, ground := Ground.phase }, { on := 3, ground := Ground.phase }, { on := 4, ground := Ground.phase }, { on := 5, ground := Ground.phase }, { on := 6, ground := Ground.phase }, { on := 7, ground := Ground.phase }, { on := 8, ground := Ground.phase }], guard := none }]
def rRG7f : Oper := { dst := none, op := Op.store 23 (Operand.tmp 20) (Operand.tmp 19), type := 0, pos := "ref.go:155", after := #[{ on := 9, ground := Ground.data }, { on := 8, ground := Ground.data }, { on := 8, ground := Ground.chain }, { on := 0, ground := Ground.phase }, { on := 1, ground := Ground.phase }, { on := 2, ground := Ground.phase }, { on := 3, ground := Ground.phase }, { on := 4, ground := Ground.phase }, { on := 5, ground := Ground.phase }, { on := 6, ground := Ground.phase }, { on := 7, ground := Ground.phase }, { on := 8, ground := Ground.phase }], guard := none }
def rRG8p : Array Oper := #[{ dst := some 21, op := Op.fieldAddr 25 (Operand.tmp 1) 1, type := 0, pos := "ref.go:157", after := #[], guard := none },
  { dst := some 22, op := Op.load 23 (Operand.tmp 21), type := 23, pos := "ref.go:157", after := #[{ on := 0, ground := Ground.data }], guard := none },
  { dst := some 23, op := Op.move (Operand.tmp 2), type := 36, pos := "ref.go:157", after := #[], guard := none },
  { dst := some 24, op := Op.move (Operand.tmp 3), type := 3, pos := "ref.go:157", after := #[], guard := none },
  { dst := some 25, op := Op.indexAddr 36 (Operand.tmp 23) (Operand.tmp 24), type := 0, pos := "ref.go:157", after := #[{ on := 2, ground := Ground.data }, { on := 3, ground := Ground.data }], guard := none },
  { dst := some 26, op := Op.load 39 (Operand.tmp 25), type := 39, pos := "ref.go:157", after := #[{ on := 4, ground := Ground.data }], guard := none },
  { dst := some 27, op := Op.call { callee := Callee.value (Operand.func 12), args := #[Operand.tmp 26, Operand.const (Value.int IntKind.i64 3)], argTypes := #[39, 3] }, type := 27, pos := "ref.go:157", after := #[{ on := 5, ground := Ground.data }], guard := none },
  { dst := some 28, op := Op.buildSlice 23 1 #[(0, Operand.tmp 27)], type := 23, pos := "ref.go:157", after := #[{ on := 6, ground := Ground.data }], guard := none },
  { dst := some 29, op := Op.call { callee := Callee.builtin Builtin.append, args := #[Operand.tmp 22, Operand.tmp 28], argTypes := #[23, 23] }, type := 23, pos := "ref.go:157", after := #[{ on := 1, ground := Ground.data }, { on := 7, ground := Ground.data }, { on := 6, ground := Ground.chain }], guard := none },
  { dst := some 30, op := Op.fieldAddr 25 (Operand.tmp 1) 1, type := 0, pos := "ref.go:157", after := #[{ on := 0, ground := Ground.phase }, { on := 1, ground := Ground.phase }, { on := 2, ground := Ground.phase }, { on := 3, ground := Ground.phase }, { on := 4, ground := Ground.phase }, { on := 5, ground := Ground.phase }, { on := 6, ground := Ground.phase }, { on := 7, ground := Ground.phase }, { on := 8, ground := Ground.phase }], guard := none }]
def rRG8f : Oper := { dst := none, op := Op.store 23 (Operand.tmp 30) (Operand.tmp 29), type := 0, pos := "ref.go:157", after := #[{ on := 9, ground := Ground.data }, { on := 8, ground := Ground.data }, { on := 8, ground := Ground.chain }, { on := 0, ground := Ground.phase }, { on := 1, ground := Ground.phase }, { on := 2, ground := Ground.phase }, { on := 3, ground := Ground.phase }, { on := 4, ground := Ground.phase }, { on := 5, ground := Ground.phase }, { on := 6, ground := Ground.phase }, { on := 7, ground := Ground.phase }, { on := 8, ground := Ground.phase }], guard := none }
def cRG1 : Code := (Code.seq (Code.seq (Code.region 4 rRG4 false) (Code.cond (Operand.tmp 6) Code.skip (Code.exit 0))) (Code.seq (Code.block 1 (Code.seq (Code.seq (Code.region 6 rRG6 false) (Code.cond (Operand.tmp 10) (Code.region 7 rRG7 true) Code.skip)) (Code.region 8 rRG8 true))) (Code.region 5 rRG5 false)))
def cRG : Code := (Code.seq (Code.region 0 rRG0 false) (Code.seq (Code.region 1 rRG1 false) (Code.seq (Code.region 2 rRG2 false) (Code.seq (Code.seq (Code.region 3 rRG3 false) (Code.block 0 (Code.loop cRG1))) (Code.seq (Code.region 9 rRG9 false) Code.ret)))))
structure IRG (v0 v1 v2 : Value) (a : Act) : Prop where
  size : a.tmps.size = 32
  defers : a.defers = []
  s0 : a.eval (.tmp 0) = v0
  s1 : a.eval (.tmp 1) = v1
  s2 : a.eval (.tmp 2) = v2
theorem IRG.keep {v0 v1 v2 : Value} {a0 a : Act} {env : List (Nat × Value)} (h : IRG v0 v1 v2 a0) (f : Fe a0 env a) (h0 : look env 0 (a0.eval (.tmp 0)) = a0.eval (.tmp 0)) (h1 : look env 1 (a0.eval (.tmp 1)) = a0.eval (.tmp 1)) (h2 : look env 2 (a0.eval (.tmp 2)) = a0.eval (.tmp 2)) : IRG v0 v1 v2 a :=
  ⟨f.size.trans h.size, f.defers.trans h.defers, ((f.at_ 0).trans h0).trans h.s0, ((f.at_ 1).trans h1).trans h.s1, ((f.at_ 2).trans h2).trans h.s2⟩
set_option maxRecDepth 100000 in
set_option maxHeartbeats 2000000 in
theorem rg7 {b0 b1 gp cp i n hc x y : Nat} {ha : Option Addr} {ov : Value} {H : List Nat} {Q : Exit → Act → World → Prop} (hQp : ∀ c (a : Act) d v w, Q (.panic c) (a.put d v) w → Q (.panic c) a w) (a0 : Act) (wr : World) (I0 : IRG (.pointer (some ⟨b0, 0, none⟩)) (.pointer (some ⟨b1, 0, none⟩)) (.slice (some ⟨gp, 0, none⟩) 64 cp) a0) (h3 : a0.eval (.tmp 3) = .int .i64 (i : Int)) (hi : i < 64) (hn : n ≤ 64) (kx : wr.cell? ⟨gp, i, none⟩ = some (.int .u64 (x : Int))) (hy : rootN x 2 = y) (hr : wr.heap[b1]? = some (.cells #[.slice ha n hc, ov] 25 (0, 0))) (ho : wr.ownsRow 0 27 1 (.slice ha n hc) n (dcells H)) (hgp : ¬ (Value.slice ha n hc).ownBlock = some gp)
    (hQ : ∀ a W g3 c3, IRG (.pointer (some ⟨b0, 0, none⟩)) (.pointer (some ⟨b1, 0, none⟩)) (.slice (some ⟨gp, 0, none⟩) 64 cp) a → a.eval (.tmp 3) = .int .i64 (i : Int) → W.heap[b1]? = some (.cells #[.slice (some ⟨g3, 0, none⟩) (n + 1) c3, ov] 25 (0, 0)) → W.ownsRow 0 27 1 (.slice (some ⟨g3, 0, none⟩) (n + 1) c3) (n + 1) (dcells (H ++ [y])) → Fr (fun k => k = b1 ∨ (Value.slice ha n hc).ownBlock = some k) wr W → ((Value.slice ha n hc).ownBlock = some g3 ∨ wr.heap.size ≤ g3) → Q .normal a W) : (Code.region 7 rRG7 true).wp Tryd.prog Q a0 wr := by
  have hii : (i : Int) < 64 := by omega
  have fa0_0 := Fe.refl a0
  have dd : Same wr wr.drew := (Fr.refl (fun _ => False) wr).drew
  have kh : wr.cell? ⟨b1, 0, none⟩ = some (.slice ha n hc) := (cell_of_row _ _ _ _ _ _ hr).trans rfl
  refine wp_region_pop (ops := rRG7) (ops' := rRG7p) (F := rRG7f) (S := fun Z => Z.cell? ⟨b1, 0, none⟩ = some (.slice ha n hc) ∧ Z.cell? ⟨gp, i, none⟩ = some (.int .u64 (x : Int))) (by kernel_rfl) rfl (by kernel_rfl) rfl (by kernel_rfl) (by kernel_rfl) (by kernel_rfl) (⟨dd.keep kh, dd.keep kx⟩) (fun hS0 => ?_)
  have r_a0_1 : ∀ Z, (fun Z => Z.cell? ⟨b1, 0, none⟩ = some (.slice ha n hc) ∧ Z.cell? ⟨gp, i, none⟩ = some (.int .u64 (x : Int))) Z → (execOp a0.eval { dst := some 11, op := Op.fieldAddr 25 (Operand.tmp 1) 0, type := 0, pos := "ref.go:155", after := #[], guard := none }).run Tryd.prog Z = .ok (.value (.pointer (some ⟨b1, 0, none⟩))) Z := fun Z hZ => by
    have e1 := (show a0.eval (.tmp 1) = .pointer (some ⟨b1, 0, none⟩) from ((fa0_0.at_ 1).trans I0.s1))
    clear fa0_0 hQ h3 hr ho hy hn
    generalize a0.eval = ρ at *
    go_simp
  refine fa0_0.take 0 11 (.pointer (some ⟨b1, 0, none⟩)) rfl (by kernel_rfl) (by kernel_rfl) (by kernel_rfl) (fun _ _ _ h => hQp _ _ _ _ _ h) rfl (lb_ I0.size) (wanted_none rfl) r_a0_1 hS0 (fun a0_1 fa0_1 => ?_)
  clear r_a0_1
  clear fa0_0
  have r_a0_2 : ∀ Z, (fun Z => Z.cell? ⟨b1, 0, none⟩ = some (.slice ha n hc) ∧ Z.cell? ⟨gp, i, none⟩ = some (.int .u64 (x : Int))) Z → (execOp a0_1.eval { dst := some 12, op := Op.load 23 (Operand.tmp 11), type := 23, pos := "ref.go:155", after := #[{ on := 0, ground := Ground.data }], guard := none }).run Tryd.prog Z = .ok (.value (.slice ha n hc)) Z := fun Z hZ => by
    obtain ⟨z0, z1⟩ := hZ
    have e11 := (show a0_1.eval (.tmp 11) = .pointer (some ⟨b1, 0, none⟩) from (fa0_1.at_ 11))
    clear fa0_1 hQ h3 hr ho hy hn
    generalize a0_1.eval = ρ at *
    go_simp
  refine fa0_1.take 1 12 (.slice ha n hc) rfl (by kernel_rfl) (by kernel_rfl) (by kernel_rfl) (fun _ _ _ h => hQp _ _ _ _ _ h) rfl (lb_ I0.size) (wanted_none rfl) r_a0_2 hS0 (fun a0_2 fa0_2 => ?_)
  clear r_a0_2
  clear fa0_1
  refine fa0_2.takeMove 2 13 (.slice (some ⟨gp, 0, none⟩) 64 cp) _ (Or.inl rfl) rfl (by kernel_rfl) (by kernel_rfl) (by kernel_rfl) (fun _ _ _ h => hQp _ _ _ _ _ h) rfl (lb_ I0.size) (wanted_none rfl) ((fa0_2.at_ 2).trans I0.s2) hS0 (fun a0_3 fa0_3 => ?_)
  clear fa0_2
  refine fa0_3.takeMove 3 14 (.int .i64 (i : Int)) _ (Or.inl rfl) rfl (by kernel_rfl) (by kernel_rfl) (by kernel_rfl) (fun _ _ _ h => hQp _ _ _ _ _ h) rfl (lb_ I0.size) (wanted_none rfl) ((fa0_3.at_ 3).trans h3) hS0 (fun a0_4 fa0_4 => ?_)
  clear fa0_3
  have r_a0_5 : ∀ Z, (fun Z => Z.cell? ⟨b1, 0, none⟩ = some (.slice ha n hc) ∧ Z.cell? ⟨gp, i, none⟩ = some (.int .u64 (x : Int))) Z → (execOp a0_4.eval { dst := some 15, op := Op.indexAddr 36 (Operand.tmp 13) (Operand.tmp 14), type := 0, pos := "ref.go:155", after := #[{ on := 2, ground := Ground.data }, { on := 3, ground := Ground.data }], guard := none }).run Tryd.prog Z = .ok (.value (.pointer (some ⟨gp, i, none⟩))) Z := fun Z hZ => by
    have e13 := (show a0_4.eval (.tmp 13) = .slice (some ⟨gp, 0, none⟩) 64 cp from (fa0_4.at_ 13))
    have e14 := (show a0_4.eval (.tmp 14) = .int .i64 (i : Int) from (fa0_4.at_ 14))
    clear fa0_4 hQ h3 hr ho hy hn
    generalize a0_4.eval = ρ at *
    go_simp
  refine fa0_4.take 4 15 (.pointer (some ⟨gp, i, none⟩)) rfl (by kernel_rfl) (by kernel_rfl) (by kernel_rfl) (fun _ _ _ h => hQp _ _ _ _ _ h) rfl (lb_ I0.size) (wanted_none rfl) r_a0_5 hS0 (fun a0_5 fa0_5 => ?_)
  clear r_a0_5
  clear fa0_4
  have r_a0_6 : ∀ Z, (fun Z => Z.cell? ⟨b1, 0, none⟩ = some (.slice ha n hc) ∧ Z.cell? ⟨gp, i, none⟩ = some (.int .u64 (x : Int))) Z → (execOp a0_5.eval { dst := some 16, op := Op.load 39 (Operand.tmp 15), type := 39, pos := "ref.go:155", after := #[{ on := 4, ground := Ground.data }], guard := none }).run Tryd.prog Z = .ok (.value (.int .u64 (x : Int))) Z := fun Z hZ => by
    obtain ⟨z0, z1⟩ := hZ
    have e15 := (show a0_5.eval (.tmp 15) = .pointer (some ⟨gp, i, none⟩) from (fa0_5.at_ 15))
    clear fa0_5 hQ h3 hr ho hy hn
    generalize a0_5.eval = ρ at *
    go_simp
  refine fa0_5.take 5 16 (.int .u64 (x : Int)) rfl (by kernel_rfl) (by kernel_rfl) (by kernel_rfl) (fun _ _ _ h => hQp _ _ _ _ _ h) rfl (lb_ I0.size) (wanted_none rfl) r_a0_6 hS0 (fun a0_6 fa0_6 => ?_)
  clear r_a0_6
  clear fa0_5
  have r_a0_7 : (execOp a0_6.eval { dst := some 17, op := Op.call { callee := Callee.value (Operand.func 12), args := #[Operand.tmp 16, Operand.const (Value.int IntKind.i64 2)], argTypes := #[39, 3] }, type := 27, pos := "ref.go:155", after := #[{ on := 5, ground := Ground.data }], guard := none }).run Tryd.prog (wr.drew) = .ok (.enter 12 #[.int .u64 (x : Int), Value.int IntKind.i64 2]) (wr.drew) := by
    have kc : ∀ v, a0_6.eval (.const v) = v := fun _ => rfl
    have kf : ∀ f, a0_6.eval (.func f) = .func (.func f) #[] #[] := fun _ => rfl
    have e16 := (show a0_6.eval (.tmp 16) = .int .u64 (x : Int) from (fa0_6.at_ 16))
    clear fa0_6 hQ h3 hr ho hy hn
    generalize a0_6.eval = ρ at *
    go_simp
  refine fa0_6.oneCall 6 17 (by kernel_rfl) rfl rfl (lb_ I0.size) (wanted_none rfl) r_a0_7 (root_calls (p := x) (q := 2) wr.drew) (fun e W5 hR => ?_)
  obtain ⟨he, s5⟩ := hR
  clear r_a0_7
  rw [hy] at he
  subst he
  have s5d : Same wr W5 := dd.trans s5
  have hS7 : (fun Z => Z.cell? ⟨b1, 0, none⟩ = some (.slice ha n hc) ∧ Z.cell? ⟨gp, i, none⟩ = some (.int .u64 (x : Int))) W5 := ⟨s5d.keep kh, s5d.keep kx⟩
  refine ⟨_, rfl, hS7, fun a0_7 fa0_7 => ?_⟩
  clear fa0_6
  have ea : Same wr (World.alloc W5 (.cells #[.int .u32 (y : Int)] 27)) := s5d.trans ((Fr.refl _ W5).alloc _)
  have r_a0_8 : (execOp a0_7.eval { dst := some 18, op := Op.buildSlice 23 1 #[(0, Operand.tmp 17)], type := 23, pos := "ref.go:155", after := #[{ on := 6, ground := Ground.data }], guard := none }).run Tryd.prog (W5) = .ok (.value (.slice (some ⟨W5.heap.size, 0, none⟩) 1 1)) (World.alloc W5 (.cells #[.int .u32 (y : Int)] 27)) := by
    have e17 := (show a0_7.eval (.tmp 17) = .int .u32 (y : Int) from (fa0_7.at_ 17))
    clear fa0_7 hQ h3 hr ho hy hn
    generalize a0_7.eval = ρ at *
    go_simp
  have hS8 : (fun Z => Z.cell? ⟨b1, 0, none⟩ = some (.slice ha n hc) ∧ Z.cell? ⟨gp, i, none⟩ = some (.int .u64 (x : Int))) (World.alloc W5 (.cells #[.int .u32 (y : Int)] 27)) := ⟨ea.keep kh, ea.keep kx⟩
  refine fa0_7.one 7 18 (.slice (some ⟨W5.heap.size, 0, none⟩) 1 1) (by kernel_rfl) rfl rfl (lb_ I0.size) (wanted_none rfl) r_a0_8 hS8 (fun a0_8 fa0_8 => ?_)
  clear r_a0_8
  have hva : (World.alloc W5 (.cells #[.int .u32 (y : Int)] 27)).heap[W5.heap.size]? = some (.cells #[.int .u32 (y : Int)] 27 (0, 0)) := heap_alloc_new W5 _
  have z5 : wr.heap.size ≤ W5.heap.size := s5d.size
  generalize World.alloc W5 (.cells #[.int .u32 (y : Int)] 27) = V6 at *
  have oh6 := own_frameB ho ea (fun _ _ f => f)
  have hr6 := heap_fr hr ea (fun f => f)
  obtain ⟨g3, c3, V7, hr3, o3, f3, l3⟩ := app32 (m := 1) (c := 1) (ad := ⟨W5.heap.size, 0, none⟩) (news := [.int .u32 (y : Int)]) V6 23 oh6 rfl (fun j u hj => by rw [WideShapes.add_plain, Nat.zero_add]; exact (cell_of_row _ _ _ _ _ _ hva).trans (by rw [← hj, ← List.getElem?_toArray])) (fun u hu => by rw [List.mem_singleton] at hu; rw [hu]; rfl) (by decide) (by omega)
  have nb : ¬ (Value.slice ha n hc).ownBlock = some b1 := fun e => own_neT oh6 hr6 (by decide) b1 e rfl
  have hr7 := heap_fr hr6 f3 nb
  have k7 : V7.cell? ⟨b1, 0, none⟩ = some (.slice ha n hc) := (cell_of_row _ _ _ _ _ _ hr7).trans rfl
  have z7 : V7.frozen? ⟨b1, 0, none⟩ = false := frozen_of_row V7 b1 0 _ _ hr7
  have kx7 := (f3.cell (World.block_lt_of_cell? _ _ (ea.keep kx)) hgp).trans (ea.keep kx)
  clear fa0_7
  have r_a0_9 : (execOp a0_8.eval { dst := some 19, op := Op.call { callee := Callee.builtin Builtin.append, args := #[Operand.tmp 12, Operand.tmp 18], argTypes := #[23, 23] }, type := 23, pos := "ref.go:155", after := #[{ on := 1, ground := Ground.data }, { on := 7, ground := Ground.data }, { on := 6, ground := Ground.chain }], guard := none }).run Tryd.prog (V6) = .ok (.value (.slice (some ⟨g3, 0, none⟩) (n + 1) c3)) (V7) := by
    refine exec_append rfl ?_
    rw [(show a0_8.eval (.tmp 12) = .slice ha n hc from (fa0_8.at_ 12)), (show a0_8.eval (.tmp 18) = .slice (some ⟨W5.heap.size, 0, none⟩) 1 1 from (fa0_8.at_ 18))]
    exact hr3
  have hS9 : (fun Z => Z.cell? ⟨b1, 0, none⟩ = some (.slice ha n hc) ∧ Z.cell? ⟨gp, i, none⟩ = some (.int .u64 (x : Int))) (V7) := ⟨k7, kx7⟩
  refine fa0_8.one 8 19 (.slice (some ⟨g3, 0, none⟩) (n + 1) c3) (by kernel_rfl) rfl rfl (lb_ I0.size) (wanted_none rfl) r_a0_9 hS9 (fun a0_9 fa0_9 => ?_)
  clear r_a0_9
  clear fa0_8
  have r_a0_10 : ∀ Z, (fun Z => Z.cell? ⟨b1, 0, none⟩ = some (.slice ha n hc) ∧ Z.cell? ⟨gp, i, none⟩ = some (.int .u64 (x : Int))) Z → (execOp a0_9.eval { dst := some 20, op := Op.fieldAddr 25 (Operand.tmp 1) 0, type := 0, pos := "ref.go:155", after := #[{ on := 0, ground := Ground.phase }, { on := 1, ground := Ground.phase }, { on := 2, ground := Ground.phase }, { on := 3, ground := Ground.phase }, { on := 4, ground := Ground.phase }, { on := 5, ground := Ground.phase }, { on := 6, ground := Ground.phase }, { on := 7, ground := Ground.phase }, { on := 8, ground := Ground.phase }], guard := none }).run Tryd.prog Z = .ok (.value (.pointer (some ⟨b1, 0, none⟩))) Z := fun Z hZ => by
    have e1 := (show a0_9.eval (.tmp 1) = .pointer (some ⟨b1, 0, none⟩) from ((fa0_9.at_ 1).trans I0.s1))
    clear fa0_9 hQ h3 hr ho hy hn
    generalize a0_9.eval = ρ at *
    go_simp
  refine fa0_9.take 9 20 (.pointer (some ⟨b1, 0, none⟩)) rfl (by kernel_rfl) (by kernel_rfl) (by kernel_rfl) (fun _ _ _ h => hQp _ _ _ _ _ h) rfl (lb_ I0.size) (wanted_none rfl) r_a0_10 hS9 (fun a0_10 fa0_10 => ?_)
  clear r_a0_10
  clear fa0_9
  have r_a0_11 : (execOp a0_10.eval rRG7f).run Tryd.prog (V7) = .ok .skip (World.setCell V7 ⟨b1, 0, none⟩ (.slice (some ⟨g3, 0, none⟩) (n + 1) c3)) := by
    unfold rRG7f
    have e20 := (show a0_10.eval (.tmp 20) = .pointer (some ⟨b1, 0, none⟩) from (fa0_10.at_ 20))
    have e19 := (show a0_10.eval (.tmp 19) = .slice (some ⟨g3, 0, none⟩) (n + 1) c3 from (fa0_10.at_ 19))
    clear fa0_10 hQ h3 hr ho hy hn
    generalize a0_10.eval = ρ at *
    go_simp
  refine wpAnyH_done (by kernel_rfl) ?_ _
  refine fa0_10.last rfl r_a0_11 (fun a0_11 fa0_11 => ?_)
  clear r_a0_11 fa0_10
  have h8 : (World.setCell V7 ⟨b1, 0, none⟩ (.slice (some ⟨g3, 0, none⟩) (n + 1) c3)).heap[b1]? = some (.cells #[.slice (some ⟨g3, 0, none⟩) (n + 1) c3, ov] 25 (0, 0)) := by rw [heap_setCell_same V7 b1 0 _ _ _ hr7]; simp
  have f8 : Fr (fun k => k = b1) V7 (World.setCell V7 ⟨b1, 0, none⟩ (.slice (some ⟨g3, 0, none⟩) (n + 1) c3)) := Fr.setCell (S := fun k => k = b1) (Fr.refl _ V7) (p := ⟨b1, 0, none⟩) (fun _ => rfl) _
  generalize World.setCell V7 ⟨b1, 0, none⟩ (.slice (some ⟨g3, 0, none⟩) (n + 1) c3) = V8 at *
  have o8 := own_frameB o3 f8 (fun k hk e => own_neT o3 hr7 (by decide) k hk e)
  have fA : Fr (fun k => (Value.slice ha n hc).ownBlock = some k) wr V7 := Fr.trans (ea.mono (fun _ _ f => f.elim)) f3 (fun _ _ e => e)
  have fB : Fr (fun k => k = b1 ∨ (Value.slice ha n hc).ownBlock = some k) wr V8 := Fr.trans (fA.mono (fun _ _ e => Or.inr e)) f8 (fun _ _ e => Or.inl e)
  exact hQ a0_11 V8 g3 c3 (I0.keep fa0_11 rfl rfl rfl) (show a0_11.eval (.tmp 3) = .int .i64 (i : Int) from ((fa0_11.at_ 3).trans h3)) h8 (by rw [dcells_app]; exact o8) fB (l3.imp id (fun e => by have := ea.size; omega))
set_option maxRecDepth 100000 in
set_option maxHeartbeats 2000000 in
theorem rg8 {b0 b1 gp cp i n hc x y : Nat} {ha : Option Addr} {ov : Value} {H : List Nat} {Q : Exit → Act → World → Prop} (hQp : ∀ c (a : Act) d v w, Q (.panic c) (a.put d v) w → Q (.panic c) a w) (a0 : Act) (wr : World) (I0 : IRG (.pointer (some ⟨b0, 0, none⟩)) (.pointer (some ⟨b1, 0, none⟩)) (.slice (some ⟨gp, 0, none⟩) 64 cp) a0) (h3 : a0.eval (.tmp 3) = .int .i64 (i : Int)) (hi : i < 64) (hn : n ≤ 64) (kx : wr.cell? ⟨gp, i, none⟩ = some (.int .u64 (x : Int))) (hy : rootN x 3 = y) (hr : wr.heap[b1]? = some (.cells #[ov, .slice ha n hc] 25 (0, 0))) (ho : wr.ownsRow 0 27 1 (.slice ha n hc) n (dcells H)) (hgp : ¬ (Value.slice ha n hc).ownBlock = some gp)
    (hQ : ∀ a W g3 c3, IRG (.pointer (some ⟨b0, 0, none⟩)) (.pointer (some ⟨b1, 0, none⟩)) (.slice (some ⟨gp, 0, none⟩) 64 cp) a → a.eval (.tmp 3) = .int .i64 (i : Int) → W.heap[b1]? = some (.cells #[ov, .slice (some ⟨g3, 0, none⟩) (n + 1) c3] 25 (0, 0)) → W.ownsRow 0 27 1 (.slice (some ⟨g3, 0, none⟩) (n + 1) c3) (n + 1) (dcells (H ++ [y])) → Fr (fun k => k = b1 ∨ (Value.slice ha n hc).ownBlock = some k) wr W → ((Value.slice ha n hc).ownBlock = some g3 ∨ wr.heap.size ≤ g3) → Q .normal a W) : (Code.region 8 rRG8 true).wp Tryd.prog Q a0 wr := by
  have hii : (i : Int) < 64 := by omega
  have fa0_0 := Fe.refl a0
  have dd : Same wr wr.drew := (Fr.refl (fun _ => False) wr).drew
  have kh : wr.cell? ⟨b1, 1, none⟩ = some (.slice ha n hc) := (cell_of_row _ _ _ _ _ _ hr).trans rfl
  refine wp_region_pop (ops := rRG8) (ops' := rRG8p) (F := rRG8f) (S := fun Z => Z.cell? ⟨b1, 1, none⟩ = some (.slice ha n hc) ∧ Z.cell? ⟨gp, i, none⟩ = some (.int .u64 (x : Int))) (by kernel_rfl) rfl (by kernel_rfl) rfl (by kernel_rfl) (by kernel_rfl) (by kernel_rfl) (⟨dd.keep kh, dd.keep kx⟩) (fun hS0 => ?_)
  have r_a0_1 : ∀ Z, (fun Z => Z.cell? ⟨b1, 1, none⟩ = some (.slice ha n hc) ∧ Z.cell? ⟨gp, i, none⟩ = some (.int .u64 (x : Int))) Z → (execOp a0.eval { dst := some 21, op := Op.fieldAddr 25 (Operand.tmp 1) 1, type := 0, pos := "ref.go:157", after := #[], guard := none }).run Tryd.prog Z = .ok (.value (.pointer (some ⟨b1, 1, none⟩))) Z := fun Z hZ => by
    have e1 := (show a0.eval (.tmp 1) = .pointer (some ⟨b1, 0, none⟩) from ((fa0_0.at_ 1).trans I0.s1))
    clear fa0_0 hQ h3 hr ho hy hn
    generalize a0.eval = ρ at *
    go_simp
  refine fa0_0.take 0 21 (.pointer (some ⟨b1, 1, none⟩)) rfl (by kernel_rfl) (by kernel_rfl) (by kernel_rfl) (fun _ _ _ h => hQp _ _ _ _ _ h) rfl (lb_ I0.size) (wanted_none rfl) r_a0_1 hS0 (fun a0_1 fa0_1 => ?_)
  clear r_a0_1
  clear fa0_0
  have r_a0_2 : ∀ Z, (fun Z => Z.cell? ⟨b1, 1, none⟩ = some (.slice ha n hc) ∧ Z.cell? ⟨gp, i, none⟩ = some (.int .u64 (x : Int))) Z → (execOp a0_1.eval { dst := some 22, op := Op.load 23 (Operand.tmp 21), type := 23, pos := "ref.go:157", after := #[{ on := 0, ground := Ground.data }], guard := none }).run Tryd.prog Z = .ok (.value (.slice ha n hc)) Z := fun Z hZ => by
    obtain ⟨z0, z1⟩ := hZ
    have e21 := (show a0_1.eval (.tmp 21) = .pointer (some ⟨b1, 1, none⟩) from (fa0_1.at_ 21))
    clear fa0_1 hQ h3 hr ho hy hn
    generalize a0_1.eval = ρ at *
    go_simp
  refine fa0_1.take 1 22 (.slice ha n hc) rfl (by kernel_rfl) (by kernel_rfl) (by kernel_rfl) (fun _ _ _ h => hQp _ _ _ _ _ h) rfl (lb_ I0.size) (wanted_none rfl) r_a0_2 hS0 (fun a0_2 fa0_2 => ?_)
  clear r_a0_2
  clear fa0_1
  refine fa0_2.takeMove 2 23 (.slice (some ⟨gp, 0, none⟩) 64 cp) _ (Or.inl rfl) rfl (by kernel_rfl) (by kernel_rfl) (by kernel_rfl) (fun _ _ _ h => hQp _ _ _ _ _ h) rfl (lb_ I0.size) (wanted_none rfl) ((fa0_2.at_ 2).trans I0.s2) hS0 (fun a0_3 fa0_3 => ?_)
  clear fa0_2
  refine fa0_3.takeMove 3 24 (.int .i64 (i : Int)) _ (Or.inl rfl) rfl (by kernel_rfl) (by kernel_rfl) (by kernel_rfl) (fun _ _ _ h => hQp _ _ _ _ _ h) rfl (lb_ I0.size) (wanted_none rfl) ((fa0_3.at_ 3).trans h3) hS0 (fun a0_4 fa0_4 => ?_)
  clear fa0_3
  have r_a0_5 : ∀ Z, (fun Z => Z.cell? ⟨b1, 1, none⟩ = some (.slice ha n hc) ∧ Z.cell? ⟨gp, i, none⟩ = some (.int .u64 (x : Int))) Z → (execOp a0_4.eval { dst := some 25, op := Op.indexAddr 36 (Operand.tmp 23) (Operand.tmp 24), type := 0, pos := "ref.go:157", after := #[{ on := 2, ground := Ground.data }, { on := 3, ground := Ground.data }], guard := none }).run Tryd.prog Z = .ok (.value (.pointer (some ⟨gp, i, none⟩))) Z := fun Z hZ => by
    have e23 := (show a0_4.eval (.tmp 23) = .slice (some ⟨gp, 0, none⟩) 64 cp from (fa0_4.at_ 23))
    have e24 := (show a0_4.eval (.tmp 24) = .int .i64 (i : Int) from (fa0_4.at_ 24))
    clear fa0_4 hQ h3 hr ho hy hn
    generalize a0_4.eval = ρ at *
    go_simp
  refine fa0_4.take 4 25 (.pointer (some ⟨gp, i, none⟩)) rfl (by kernel_rfl) (by kernel_rfl) (by kernel_rfl) (fun _ _ _ h => hQp _ _ _ _ _ h) rfl (lb_ I0.size) (wanted_none rfl) r_a0_5 hS0 (fun a0_5 fa0_5 => ?_)
  clear r_a0_5
  clear fa0_4
  have r_a0_6 : ∀ Z, (fun Z => Z.cell? ⟨b1, 1, none⟩ = some (.slice ha n hc) ∧ Z.cell? ⟨gp, i, none⟩ = some (.int .u64 (x : Int))) Z → (execOp a0_5.eval { dst := some 26, op := Op.load 39 (Operand.tmp 25), type := 39, pos := "ref.go:157", after := #[{ on := 4, ground := Ground.data }], guard := none }).run Tryd.prog Z = .ok (.value (.int .u64 (x : Int))) Z := fun Z hZ => by
    obtain ⟨z0, z1⟩ := hZ
    have e25 := (show a0_5.eval (.tmp 25) = .pointer (some ⟨gp, i, none⟩) from (fa0_5.at_ 25))
    clear fa0_5 hQ h3 hr ho hy hn
    generalize a0_5.eval = ρ at *
    go_simp
  refine fa0_5.take 5 26 (.int .u64 (x : Int)) rfl (by kernel_rfl) (by kernel_rfl) (by kernel_rfl) (fun _ _ _ h => hQp _ _ _ _ _ h) rfl (lb_ I0.size) (wanted_none rfl) r_a0_6 hS0 (fun a0_6 fa0_6 => ?_)
  clear r_a0_6
  clear fa0_5
  have r_a0_7 : (execOp a0_6.eval { dst := some 27, op := Op.call { callee := Callee.value (Operand.func 12), args := #[Operand.tmp 26, Operand.const (Value.int IntKind.i64 3)], argTypes := #[39, 3] }, type := 27, pos := "ref.go:157", after := #[{ on := 5, ground := Ground.data }], guard := none }).run Tryd.prog (wr.drew) = .ok (.enter 12 #[.int .u64 (x : Int), Value.int IntKind.i64 3]) (wr.drew) := by
    have kc : ∀ v, a0_6.eval (.const v) = v := fun _ => rfl
    have kf : ∀ f, a0_6.eval (.func f) = .func (.func f) #[] #[] := fun _ => rfl
    have e26 := (show a0_6.eval (.tmp 26) = .int .u64 (x : Int) from (fa0_6.at_ 26))
    clear fa0_6 hQ h3 hr ho hy hn
    generalize a0_6.eval = ρ at *
    go_simp
  refine fa0_6.oneCall 6 27 (by kernel_rfl) rfl rfl (lb_ I0.size) (wanted_none rfl) r_a0_7 (root_calls (p := x) (q := 3) wr.drew) (fun e W5 hR => ?_)
  obtain ⟨he, s5⟩ := hR
  clear r_a0_7
  rw [hy] at he
  subst he
  have s5d : Same wr W5 := dd.trans s5
  have hS7 : (fun Z => Z.cell? ⟨b1, 1, none⟩ = some (.slice ha n hc) ∧ Z.cell? ⟨gp, i, none⟩ = some (.int .u64 (x : Int))) W5 := ⟨s5d.keep kh, s5d.keep kx⟩
  refine ⟨_, rfl, hS7, fun a0_7 fa0_7 => ?_⟩
  clear fa0_6
  have ea : Same wr (World.alloc W5 (.cells #[.int .u32 (y : Int)] 27)) := s5d.trans ((Fr.refl _ W5).alloc _)
  have r_a0_8 : (execOp a0_7.eval { dst := some 28, op := Op.buildSlice 23 1 #[(0, Operand.tmp 27)], type := 23, pos := "ref.go:157", after := #[{ on := 6, ground := Ground.data }], guard := none }).run Tryd.prog (W5) = .ok (.value (.slice (some ⟨W5.heap.size, 0, none⟩) 1 1)) (World.alloc W5 (.cells #[.int .u32 (y : Int)] 27)) := by
    have e27 := (show a0_7.eval (.tmp 27) = .int .u32 (y : Int) from (fa0_7.at_ 27))
    clear fa0_7 hQ h3 hr ho hy hn
    generalize a0_7.eval = ρ at *
    go_simp
  have hS8 : (fun Z => Z.cell? ⟨b1, 1, none⟩ = some (.slice ha n hc) ∧ Z.cell? ⟨gp, i, none⟩ = some (.int .u64 (x : Int))) (World.alloc W5 (.cells #[.int .u32 (y : Int)] 27)) := ⟨ea.keep kh, ea.keep kx⟩
  refine fa0_7.one 7 28 (.slice (some ⟨W5.heap.size, 0, none⟩) 1 1) (by kernel_rfl) rfl rfl (lb_ I0.size) (wanted_none rfl) r_a0_8 hS8 (fun a0_8 fa0_8 => ?_)
  clear r_a0_8
  have hva : (World.alloc W5 (.cells #[.int .u32 (y : Int)] 27)).heap[W5.heap.size]? = some (.cells #[.int .u32 (y : Int)] 27 (0, 0)) := heap_alloc_new W5 _
  have z5 : wr.heap.size ≤ W5.heap.size := s5d.size
  generalize World.alloc W5 (.cells #[.int .u32 (y : Int)] 27) = V6 at *
  have oh6 := own_frameB ho ea (fun _ _ f => f)
  have hr6 := heap_fr hr ea (fun f => f)
  obtain ⟨g3, c3, V7, hr3, o3, f3, l3⟩ := app32 (m := 1) (c := 1) (ad := ⟨W5.heap.size, 0, none⟩) (news := [.int .u32 (y : Int)]) V6 23 oh6 rfl (fun j u hj => by rw [WideShapes.add_plain, Nat.zero_add]; exact (cell_of_row _ _ _ _ _ _ hva).trans (by rw [← hj, ← List.getElem?_toArray])) (fun u hu => by rw [List.mem_singleton] at hu; rw [hu]; rfl) (by decide) (by omega)
  have nb : ¬ (Value.slice ha n hc).ownBlock = some b1 := fun e => own_neT oh6 hr6 (by decide) b1 e rfl
  have hr7 := heap_fr hr6 f3 nb
  have k7 : V7.cell? ⟨b1, 1, none⟩ = some (.slice ha n hc) := (cell_of_row _ _ _ _ _ _ hr7).trans rfl
  have z7 : V7.frozen? ⟨b1, 1, none⟩ = false := frozen_of_row V7 b1 1 _ _ hr7
  have kx7 := (f3.cell (World.block_lt_of_cell? _ _ (ea.keep kx)) hgp).trans (ea.keep kx)
  clear fa0_7
  have r_a0_9 : (execOp a0_8.eval { dst := some 29, op := Op.call { callee := Callee.builtin Builtin.append, args := #[Operand.tmp 22, Operand.tmp 28], argTypes := #[23, 23] }, type := 23, pos := "ref.go:157", after := #[{ on := 1, ground := Ground.data }, { on := 7, ground := Ground.data }, { on := 6, ground := Ground.chain }], guard := none }).run Tryd.prog (V6) = .ok (.value (.slice (some ⟨g3, 0, none⟩) (n + 1) c3)) (V7) := by
    refine exec_append rfl ?_
    rw [(show a0_8.eval (.tmp 22) = .slice ha n hc from (fa0_8.at_ 22)), (show a0_8.eval (.tmp 28) = .slice (some ⟨W5.heap.size, 0, none⟩) 1 1 from (fa0_8.at_ 28))]
    exact hr3
  have hS9 : (fun Z => Z.cell? ⟨b1, 1, none⟩ = some (.slice ha n hc) ∧ Z.cell? ⟨gp, i, none⟩ = some (.int .u64 (x : Int))) (V7) := ⟨k7, kx7⟩
  refine fa0_8.one 8 29 (.slice (some ⟨g3, 0, none⟩) (n + 1) c3) (by kernel_rfl) rfl rfl (lb_ I0.size) (wanted_none rfl) r_a0_9 hS9 (fun a0_9 fa0_9 => ?_)
  clear r_a0_9
  clear fa0_8
  have r_a0_10 : ∀ Z, (fun Z => Z.cell? ⟨b1, 1, none⟩ = some (.slice ha n hc) ∧ Z.cell? ⟨gp, i, none⟩ = some (.int .u64 (x : Int))) Z → (execOp a0_9.eval { dst := some 30, op := Op.fieldAddr 25 (Operand.tmp 1) 1, type := 0, pos := "ref.go:157", after := #[{ on := 0, ground := Ground.phase }, { on := 1, ground := Ground.phase }, { on := 2, ground := Ground.phase }, { on := 3, ground := Ground.phase }, { on := 4, ground := Ground.phase }, { on := 5, ground := Ground.phase }, { on := 6, ground := Ground.phase }, { on := 7, ground := Ground.phase }, { on := 8, ground := Ground.phase }], guard := none }).run Tryd.prog Z = .ok (.value (.pointer (some ⟨b1, 1, none⟩))) Z := fun Z hZ => by
    have e1 := (show a0_9.eval (.tmp 1) = .pointer (some ⟨b1, 0, none⟩) from ((fa0_9.at_ 1).trans I0.s1))
    clear fa0_9 hQ h3 hr ho hy hn
    generalize a0_9.eval = ρ at *
    go_simp
  refine fa0_9.take 9 30 (.pointer (some ⟨b1, 1, none⟩)) rfl (by kernel_rfl) (by kernel_rfl) (by kernel_rfl) (fun _ _ _ h => hQp _ _ _ _ _ h) rfl (lb_ I0.size) (wanted_none rfl) r_a0_10 hS9 (fun a0_10 fa0_10 => ?_)
  clear r_a0_10
  clear fa0_9
  have r_a0_11 : (execOp a0_10.eval rRG8f).run Tryd.prog (V7) = .ok .skip (World.setCell V7 ⟨b1, 1, none⟩ (.slice (some ⟨g3, 0, none⟩) (n + 1) c3)) := by
    unfold rRG8f
    have e30 := (show a0_10.eval (.tmp 30) = .pointer (some ⟨b1, 1, none⟩) from (fa0_10.at_ 30))
    have e29 := (show a0_10.eval (.tmp 29) = .slice (some ⟨g3, 0, none⟩) (n + 1) c3 from (fa0_10.at_ 29))
    clear fa0_10 hQ h3 hr ho hy hn
    generalize a0_10.eval = ρ at *
    go_simp
  refine wpAnyH_done (by kernel_rfl) ?_ _
  refine fa0_10.last rfl r_a0_11 (fun a0_11 fa0_11 => ?_)
  clear r_a0_11 fa0_10
  have h8 : (World.setCell V7 ⟨b1, 1, none⟩ (.slice (some ⟨g3, 0, none⟩) (n + 1) c3)).heap[b1]? = some (.cells #[ov, .slice (some ⟨g3, 0, none⟩) (n + 1) c3] 25 (0, 0)) := by rw [heap_setCell_same V7 b1 1 _ _ _ hr7]; simp
  have f8 : Fr (fun k => k = b1) V7 (World.setCell V7 ⟨b1, 1, none⟩ (.slice (some ⟨g3, 0, none⟩) (n + 1) c3)) := Fr.setCell (S := fun k => k = b1) (Fr.refl _ V7) (p := ⟨b1, 1, none⟩) (fun _ => rfl) _
  generalize World.setCell V7 ⟨b1, 1, none⟩ (.slice (some ⟨g3, 0, none⟩) (n + 1) c3) = V8 at *
  have o8 := own_frameB o3 f8 (fun k hk e => own_neT o3 hr7 (by decide) k hk e)
  have fA : Fr (fun k => (Value.slice ha n hc).ownBlock = some k) wr V7 := Fr.trans (ea.mono (fun _ _ f => f.elim)) f3 (fun _ _ e => e)
  have fB : Fr (fun k => k = b1 ∨ (Value.slice ha n hc).ownBlock = some k) wr V8 := Fr.trans (fA.mono (fun _ _ e => Or.inr e)) f8 (fun _ _ e => Or.inl e)
  exact hQ a0_11 V8 g3 c3 (I0.keep fa0_11 rfl rfl rfl) (show a0_11.eval (.tmp 3) = .int .i64 (i : Int) from ((fa0_11.at_ 3).trans h3)) h8 (by rw [dcells_app]; exact o8) fB (l3.imp id (fun e => by have := ea.size; omega))
theorem rgE {b0 b1 gp cp i : Nat} {Q : Exit → Act → World → Prop} (a0 : Act) (wr : World) (I0 : IRG (.pointer (some ⟨b0, 0, none⟩)) (.pointer (some ⟨b1, 0, none⟩)) (.slice (some ⟨gp, 0, none⟩) 64 cp) a0) (h3 : a0.eval (.tmp 3) = .int .i64 (i : Int)) (hi : 64 ≤ i) (hQ : ∀ a, IRG (.pointer (some ⟨b0, 0, none⟩)) (.pointer (some ⟨b1, 0, none⟩)) (.slice (some ⟨gp, 0, none⟩) 64 cp) a → Q (.exit 0) a wr) : cRG1.wp Tryd.prog Q a0 wr := by
  have hii : ¬ (i : Int) < 64 := by omega
  have hi2 : (64 : Int) ≤ (i : Int) := by omega
  clear hi
  have fa0_0 := Fe.refl a0
  unfold cRG1
  refine wp_seq (wp_seq ?_)
  refine wp_region_list ?_
  unfold rRG4
  refine fa0_0.move 5 (.int .i64 (i : Int)) _ (Or.inl rfl) rfl (lb_ I0.size) (wanted_none rfl) ((fa0_0.at_ 3).trans h3) (fun a0_1 fa0_1 => ?_)
  clear fa0_0
  have r_a0_2 : (execOp a0_1.eval { dst := some 6, op := Op.binOp BinOp.lss 3 (Operand.tmp 5) (Operand.const (Value.int IntKind.i64 64)) 3, type := 4, pos := "ref.go:153", after := #[{ on := 0, ground := Ground.data }], guard := none }).run Tryd.prog (wr) = .ok (.value (.bool false)) (wr) := by
    have kc : ∀ v, a0_1.eval (.const v) = v := fun _ => rfl
    have e5 := (show a0_1.eval (.tmp 5) = .int .i64 (i : Int) from (fa0_1.at_ 5))
    clear fa0_1 hQ h3
    generalize a0_1.eval = ρ at *
    go_simp
  refine fa0_1.step 6 (.bool false) rfl (lb_ I0.size) (wanted_none rfl) r_a0_2 (fun a0_2 fa0_2 => ?_)
  clear r_a0_2
  clear fa0_1
  refine wpList_nil ?_
  change Code.wp _ _ _ _ _
  refine wp_cond_false (show a0_2.eval (.tmp 6) = .bool false from (fa0_2.at_ 6)) (wp_exit ?_)
  exact hQ a0_2 (I0.keep fa0_2 rfl rfl rfl)
theorem rgHA {b0 b1 gp cp i : Nat} {Q : Exit → Act → World → Prop} (a0 : Act) (wr : World) (I0 : IRG (.pointer (some ⟨b0, 0, none⟩)) (.pointer (some ⟨b1, 0, none⟩)) (.slice (some ⟨gp, 0, none⟩) 64 cp) a0) (h3 : a0.eval (.tmp 3) = .int .i64 (i : Int)) (hi : i < 64) (h8 : i < 8) (h1 : ∀ a, IRG (.pointer (some ⟨b0, 0, none⟩)) (.pointer (some ⟨b1, 0, none⟩)) (.slice (some ⟨gp, 0, none⟩) 64 cp) a → a.eval (.tmp 3) = .int .i64 (i : Int) → (Code.region 7 rRG7 true).wp Tryd.prog (Exit.then ((Code.region 8 rRG8 true).wp Tryd.prog (Exit.inBlock 1 (Exit.then (Code.wp Tryd.prog (Code.region 5 rRG5 false) Q) Q))) (Exit.inBlock 1 (Exit.then (Code.wp Tryd.prog (Code.region 5 rRG5 false) Q) Q))) a wr) : cRG1.wp Tryd.prog Q a0 wr := by
  have hii : (i : Int) < 64 := by omega
  have hi8 : (i : Int) < 8 := by omega
  clear hi h8
  have fa0_0 := Fe.refl a0
  unfold cRG1
  refine wp_seq (wp_seq ?_)
  refine wp_region_list ?_
  unfold rRG4
  refine fa0_0.move 5 (.int .i64 (i : Int)) _ (Or.inl rfl) rfl (lb_ I0.size) (wanted_none rfl) ((fa0_0.at_ 3).trans h3) (fun a0_1 fa0_1 => ?_)
  clear fa0_0
  have r_a0_2 : (execOp a0_1.eval { dst := some 6, op := Op.binOp BinOp.lss 3 (Operand.tmp 5) (Operand.const (Value.int IntKind.i64 64)) 3, type := 4, pos := "ref.go:153", after := #[{ on := 0, ground := Ground.data }], guard := none }).run Tryd.prog (wr) = .ok (.value (.bool true)) (wr) := by
    have kc : ∀ v, a0_1.eval (.const v) = v := fun _ => rfl
    have e5 := (show a0_1.eval (.tmp 5) = .int .i64 (i : Int) from (fa0_1.at_ 5))
    clear fa0_1 h3 h1
    generalize a0_1.eval = ρ at *
    go_simp
  refine fa0_1.step 6 (.bool true) rfl (lb_ I0.size) (wanted_none rfl) r_a0_2 (fun a0_2 fa0_2 => ?_)
  clear r_a0_2
  clear fa0_1
  refine wpList_nil ?_
  change Code.wp _ _ _ _ _
  refine wp_cond_true (show a0_2.eval (.tmp 6) = .bool true from (fa0_2.at_ 6)) (wp_skip ?_)
  change Code.wp _ _ _ _ _
  refine wp_seq (wp_block (wp_seq (wp_seq ?_)))
  refine wp_region_list ?_
  unfold rRG6
  refine fa0_2.move 9 (.int .i64 (i : Int)) _ (Or.inl rfl) rfl (lb_ I0.size) (wanted_none rfl) ((fa0_2.at_ 3).trans h3) (fun a0_3 fa0_3 => ?_)
  clear fa0_2
  have r_a0_4 : (execOp a0_3.eval { dst := some 10, op := Op.binOp BinOp.lss 3 (Operand.tmp 9) (Operand.const (Value.int IntKind.i64 8)) 3, type := 4, pos := "ref.go:154", after := #[{ on := 0, ground := Ground.data }], guard := none }).run Tryd.prog (wr) = .ok (.value (.bool true)) (wr) := by
    have kc : ∀ v, a0_3.eval (.const v) = v := fun _ => rfl
    have e9 := (show a0_3.eval (.tmp 9) = .int .i64 (i : Int) from (fa0_3.at_ 9))
    clear fa0_3 h3 h1
    generalize a0_3.eval = ρ at *
    go_simp
  refine fa0_3.step 10 (.bool true) rfl (lb_ I0.size) (wanted_none rfl) r_a0_4 (fun a0_4 fa0_4 => ?_)
  clear r_a0_4
  clear fa0_3
  refine wpList_nil ?_
  change Code.wp _ _ _ _ _
  refine wp_cond_true (show a0_4.eval (.tmp 10) = .bool true from (fa0_4.at_ 10)) ?_
  change Code.wp _ _ _ _ _
  exact h1 a0_4 (I0.keep fa0_4 rfl rfl rfl) (show a0_4.eval (.tmp 3) = .int .i64 (i : Int) from ((fa0_4.at_ 3).trans h3))
theorem rgHB {b0 b1 gp cp i : Nat} {Q : Exit → Act → World → Prop} (a0 : Act) (wr : World) (I0 : IRG (.pointer (some ⟨b0, 0, none⟩)) (.pointer (some ⟨b1, 0, none⟩)) (.slice (some ⟨gp, 0, none⟩) 64 cp) a0) (h3 : a0.eval (.tmp 3) = .int .i64 (i : Int)) (hi : i < 64) (h8 : 8 ≤ i) (h2 : ∀ a, IRG (.pointer (some ⟨b0, 0, none⟩)) (.pointer (some ⟨b1, 0, none⟩)) (.slice (some ⟨gp, 0, none⟩) 64 cp) a → a.eval (.tmp 3) = .int .i64 (i : Int) → (Code.region 8 rRG8 true).wp Tryd.prog (Exit.inBlock 1 (Exit.then (Code.wp Tryd.prog (Code.region 5 rRG5 false) Q) Q)) a wr) : cRG1.wp Tryd.prog Q a0 wr := by
  have hii : (i : Int) < 64 := by omega
  have hi8 : ¬ (i : Int) < 8 := by omega
  clear hi h8
  have fa0_0 := Fe.refl a0
  unfold cRG1
  refine wp_seq (wp_seq ?_)
  refine wp_region_list ?_
  unfold rRG4
  refine fa0_0.move 5 (.int .i64 (i : Int)) _ (Or.inl rfl) rfl (lb_ I0.size) (wanted_none rfl) ((fa0_0.at_ 3).trans h3) (fun a0_1 fa0_1 => ?_)
  clear fa0_0
  have r_a0_2 : (execOp a0_1.eval { dst := some 6, op := Op.binOp BinOp.lss 3 (Operand.tmp 5) (Operand.const (Value.int IntKind.i64 64)) 3, type := 4, pos := "ref.go:153", after := #[{ on := 0, ground := Ground.data }], guard := none }).run Tryd.prog (wr) = .ok (.value (.bool true)) (wr) := by
    have kc : ∀ v, a0_1.eval (.const v) = v := fun _ => rfl
    have e5 := (show a0_1.eval (.tmp 5) = .int .i64 (i : Int) from (fa0_1.at_ 5))
    clear fa0_1 h3 h2
    generalize a0_1.eval = ρ at *
    go_simp
  refine fa0_1.step 6 (.bool true) rfl (lb_ I0.size) (wanted_none rfl) r_a0_2 (fun a0_2 fa0_2 => ?_)
  clear r_a0_2
  clear fa0_1
  refine wpList_nil ?_
  change Code.wp _ _ _ _ _
  refine wp_cond_true (show a0_2.eval (.tmp 6) = .bool true from (fa0_2.at_ 6)) (wp_skip ?_)
  change Code.wp _ _ _ _ _
  refine wp_seq (wp_block (wp_seq (wp_seq ?_)))
  refine wp_region_list ?_
  unfold rRG6
  refine fa0_2.move 9 (.int .i64 (i : Int)) _ (Or.inl rfl) rfl (lb_ I0.size) (wanted_none rfl) ((fa0_2.at_ 3).trans h3) (fun a0_3 fa0_3 => ?_)
  clear fa0_2
  have r_a0_4 : (execOp a0_3.eval { dst := some 10, op := Op.binOp BinOp.lss 3 (Operand.tmp 9) (Operand.const (Value.int IntKind.i64 8)) 3, type := 4, pos := "ref.go:154", after := #[{ on := 0, ground := Ground.data }], guard := none }).run Tryd.prog (wr) = .ok (.value (.bool false)) (wr) := by
    have kc : ∀ v, a0_3.eval (.const v) = v := fun _ => rfl
    have e9 := (show a0_3.eval (.tmp 9) = .int .i64 (i : Int) from (fa0_3.at_ 9))
    clear fa0_3 h3 h2
    generalize a0_3.eval = ρ at *
    go_simp
  refine fa0_3.step 10 (.bool false) rfl (lb_ I0.size) (wanted_none rfl) r_a0_4 (fun a0_4 fa0_4 => ?_)
  clear r_a0_4
  clear fa0_3
  refine wpList_nil ?_
  change Code.wp _ _ _ _ _
  refine wp_cond_false (show a0_4.eval (.tmp 10) = .bool false from (fa0_4.at_ 10)) (wp_skip ?_)
  change Code.wp _ _ _ _ _
  exact h2 a0_4 (I0.keep fa0_4 rfl rfl rfl) (show a0_4.eval (.tmp 3) = .int .i64 (i : Int) from ((fa0_4.at_ 3).trans h3))
theorem rgT {b0 b1 gp cp i : Nat} {Q : Exit → Act → World → Prop} (a0 : Act) (wr : World) (I0 : IRG (.pointer (some ⟨b0, 0, none⟩)) (.pointer (some ⟨b1, 0, none⟩)) (.slice (some ⟨gp, 0, none⟩) 64 cp) a0) (h3 : a0.eval (.tmp 3) = .int .i64 (i : Int)) (hi : i < 64) (hQ : ∀ a, IRG (.pointer (some ⟨b0, 0, none⟩)) (.pointer (some ⟨b1, 0, none⟩)) (.slice (some ⟨gp, 0, none⟩) 64 cp) a → a.eval (.tmp 3) = .int .i64 ((i : Int) + 1) → Q .normal a wr) : (Code.region 5 rRG5 false).wp Tryd.prog Q a0 wr := by
  have w1 : IntKind.i64.wrap ((i : Int) + 1) = (i : Int) + 1 := by rw [IntKind.wrap_i64]; omega
  have fa0_0 := Fe.refl a0
  refine wp_region_list ?_
  unfold rRG5
  refine fa0_0.move 7 (.int .i64 (i : Int)) _ (Or.inl rfl) rfl (lb_ I0.size) (wanted_none rfl) ((fa0_0.at_ 3).trans h3) (fun a0_1 fa0_1 => ?_)
  clear fa0_0
  have r_a0_2 : (execOp a0_1.eval { dst := some 8, op := Op.binOp BinOp.add 3 (Operand.tmp 7) (Operand.const (Value.int IntKind.i64 1)) 3, type := 3, pos := "ref.go:153", after := #[{ on := 0, ground := Ground.data }], guard := none }).run Tryd.prog (wr) = .ok (.value (.int .i64 ((i : Int) + 1))) (wr) := by
    have kc : ∀ v, a0_1.eval (.const v) = v := fun _ => rfl
    have e7 := (show a0_1.eval (.tmp 7) = .int .i64 (i : Int) from (fa0_1.at_ 7))
    clear fa0_1 h3 hQ
    generalize a0_1.eval = ρ at *
    go_simp
  refine fa0_1.step 8 (.int .i64 ((i : Int) + 1)) rfl (lb_ I0.size) (wanted_none rfl) r_a0_2 (fun a0_2 fa0_2 => ?_)
  clear r_a0_2
  clear fa0_1
  refine fa0_2.move 3 (.int .i64 ((i : Int) + 1)) _ (Or.inr rfl) rfl (lb_ I0.size) (wanted_none rfl) (fa0_2.at_ 8) (fun a0_3 fa0_3 => ?_)
  clear fa0_2
  refine wpList_nil ?_
  exact hQ a0_3 (I0.keep fa0_3 rfl rfl rfl) (show a0_3.eval (.tmp 3) = .int .i64 ((i : Int) + 1) from (fa0_3.at_ 3))
end Go.Proofs.YtnoicjpmfchhiaaDoor
