/- disk: Waits. The law's text, alike, seen. -/
import Derived.Test.YtljlkcmjbjnihaaOL
import Derived.Test.YtljlkcmjbjnihaaON
namespace Go.Proofs.Ytljlkcmjbjnihaa
open Go.RowKit

theorem Try.infAnn : (Try.prog.info? 75).map (fun i => (i.zero, i.size, i.bytes)) = some (some (.agg #[.int .u8 0, .int .u32 0, .int .i64 0]), 3, 16) := by kernel_rfl
theorem appAnn {v : Value} {n m c : Nat} {ad : Addr} {xs news : List Value} (w : World) (ty : TypeId) (ho : w.ownsRow 0 75 3 v n xs) (hl : news.length = m * 3) (hnews : ∀ j u, news[j]? = some u → w.cell? (ad.add j) = some u) (h1 : ∀ u ∈ news, u.oneCell' = true) (hm : 0 < m) (hb : n + m ≤ 2097152) :
    ∃ g cap w', (Builtin.append_ #[63, 63] ty #[v, .slice (some ad) m c]).run Try.prog w = .ok (.slice (some ⟨g, 0, none⟩) (n + m) cap) w' ∧
      w'.ownsRow 0 75 3 (.slice (some ⟨g, 0, none⟩) (n + m) cap) (n + m) (xs ++ news) ∧ Fr (fun k => v.ownBlock = some k) w w' ∧ (v.ownBlock = some g ∨ g = w.heap.size) := by
  obtain ⟨i0, hi, hz0, hz1, hz2⟩ := info_parts Try.infAnn
  obtain ⟨g, cap, w', h1, h2, h3, h4, _⟩ := run_append_lies (P := Try.prog) w 63 ty 0 75 i0 _ 3 16 Try.underlying63 hi hz0 hz1 hz2 rfl (by decide) v n xs ho ad m c news hl hnews h1 hm (by unfold maxLen; omega) (by omega) (Nat.zero_le _) w.heap.size rfl
  exact ⟨g, cap, w', h1, h2, Fr.grown (Fr.refl _ w) h3 (fun k e _ => e), h4⟩
/-- What is told of what waits. -/
def anC (x : Wt) : List Value := [.int .u8 (x.act : Int), .int .u32 (x.pg : Int), .int .i64 (x.pages : Int)]
def anCs (l : List Wt) : List Value := l.flatMap anC
theorem anCs_app (a b : List Wt) : anCs (a ++ b) = anCs a ++ anCs b := by simp [anCs]
def rOQ0 : Array Oper := #[{ dst := some 2, op := Op.assign (Operand.const (Value.slice none 0 0)), type := 63, pos := "power.go:39", after := #[], guard := none }]
def rOQ1 : Array Oper := #[{ dst := some 6, op := Op.move (Operand.tmp 0), type := 27, pos := "power.go:40", after := #[], guard := none },
  { dst := some 7, op := Op.call { callee := Callee.value (Operand.func 25), args := #[Operand.tmp 6], argTypes := #[27] }, type := 4, pos := "power.go:40", after := #[{ on := 0, ground := Ground.data }], guard := none },
  { dst := some 8, op := Op.unOp UnOp.not 4 (Operand.tmp 7), type := 4, pos := "power.go:40", after := #[{ on := 1, ground := Ground.data }], guard := none }]
def rOQ2 : Array Oper := #[{ dst := some 2, op := Op.assign (Operand.const (Value.slice none 0 0)), type := 63, pos := "power.go:41", after := #[], guard := none }]
def rOQ3 : Array Oper := #[{ dst := some 3, op := Op.assign (Operand.const (Value.slice none 0 0)), type := 63, pos := "power.go:43", after := #[], guard := none }]
def rOQ4 : Array Oper := #[{ dst := some 9, op := Op.move (Operand.tmp 0), type := 27, pos := "power.go:44", after := #[], guard := none },
  { dst := some 10, op := Op.nilCheck (Operand.tmp 9), type := 0, pos := "power.go:44", after := #[{ on := 0, ground := Ground.data }], guard := none },
  { dst := some 11, op := Op.fieldAddr 51 (Operand.tmp 10) 4, type := 0, pos := "power.go:44", after := #[{ on := 1, ground := Ground.data }], guard := none },
  { dst := some 12, op := Op.load 48 (Operand.tmp 11), type := 48, pos := "power.go:44", after := #[{ on := 2, ground := Ground.data }], guard := none },
  { dst := some 13, op := Op.call { callee := Callee.builtin Builtin.len, args := #[Operand.tmp 12], argTypes := #[48] }, type := 3, pos := "power.go:44", after := #[{ on := 3, ground := Ground.data }], guard := none },
  { dst := some 14, op := Op.move (Operand.const (Value.int IntKind.i64 0)), type := 3, pos := "power.go:44", after := #[], guard := none }]
def rOQ5 : Array Oper := #[{ dst := some 15, op := Op.binOp BinOp.lss 3 (Operand.tmp 14) (Operand.tmp 13) 3, type := 0, pos := "power.go:44", after := #[], guard := none }]
def rOQ6 : Array Oper := #[{ dst := some 16, op := Op.indexAddr 48 (Operand.tmp 12) (Operand.tmp 14), type := 0, pos := "power.go:44", after := #[], guard := none },
  { dst := some 17, op := Op.load 77 (Operand.tmp 16), type := 77, pos := "power.go:44", after := #[{ on := 0, ground := Ground.data }], guard := none },
  { dst := some 5, op := Op.alloc 77, type := 0, pos := "power.go:44", after := #[], guard := none },
  { dst := none, op := Op.store 77 (Operand.tmp 5) (Operand.tmp 17), type := 0, pos := "power.go:44", after := #[{ on := 2, ground := Ground.data }, { on := 1, ground := Ground.data }, { on := 0, ground := Ground.phase }, { on := 1, ground := Ground.phase }, { on := 2, ground := Ground.phase }], guard := none }]
def rOQ7 : Array Oper := #[{ dst := some 18, op := Op.move (Operand.tmp 3), type := 63, pos := "power.go:45", after := #[], guard := none },
  { dst := some 19, op := Op.fieldAddr 77 (Operand.tmp 5) 0, type := 0, pos := "power.go:45", after := #[], guard := none },
  { dst := some 20, op := Op.load 75 (Operand.tmp 19), type := 75, pos := "power.go:45", after := #[{ on := 1, ground := Ground.data }], guard := none },
  { dst := some 21, op := Op.buildSlice 63 1 #[(0, Operand.tmp 20)], type := 63, pos := "power.go:45", after := #[{ on := 2, ground := Ground.data }], guard := none },
  { dst := some 22, op := Op.call { callee := Callee.builtin Builtin.append, args := #[Operand.tmp 18, Operand.tmp 21], argTypes := #[63, 63] }, type := 63, pos := "power.go:45", after := #[{ on := 0, ground := Ground.data }, { on := 3, ground := Ground.data }], guard := none },
  { dst := some 3, op := Op.assign (Operand.tmp 22), type := 63, pos := "power.go:45", after := #[{ on := 4, ground := Ground.data }, { on := 4, ground := Ground.chain }, { on := 0, ground := Ground.phase }, { on := 1, ground := Ground.phase }, { on := 2, ground := Ground.phase }, { on := 3, ground := Ground.phase }, { on := 4, ground := Ground.phase }], guard := none }]
def rOQ8 : Array Oper := #[{ dst := some 23, op := Op.binOp BinOp.add 3 (Operand.tmp 14) (Operand.const (Value.int IntKind.i64 1)) 3, type := 3, pos := "power.go:44", after := #[], guard := none },
  { dst := some 14, op := Op.move (Operand.tmp 23), type := 3, pos := "power.go:44", after := #[{ on := 0, ground := Ground.data }], guard := none }]
def rOQ9 : Array Oper := #[{ dst := some 24, op := Op.move (Operand.tmp 3), type := 63, pos := "power.go:47", after := #[], guard := none },
  { dst := some 2, op := Op.assign (Operand.tmp 24), type := 63, pos := "power.go:47", after := #[{ on := 0, ground := Ground.data }, { on := 0, ground := Ground.phase }], guard := none }]
def cOQ1 : Code := (Code.seq (Code.region 5 rOQ5 false) (Code.seq (Code.cond (Operand.tmp 15) Code.skip (Code.exit 0)) (Code.seq (Code.block 1 (Code.seq (Code.region 6 rOQ6 false) (Code.region 7 rOQ7 false))) (Code.region 8 rOQ8 false))))
def cOQ : Code := (Code.seq (Code.region 0 rOQ0 false) (Code.seq (Code.seq (Code.region 1 rOQ1 false) (Code.cond (Operand.tmp 8) (Code.seq (Code.region 2 rOQ2 false) Code.ret) Code.skip)) (Code.seq (Code.region 3 rOQ3 false) (Code.seq (Code.seq (Code.region 4 rOQ4 false) (Code.block 0 (Code.loop cOQ1))) (Code.seq (Code.region 9 rOQ9 false) Code.ret)))))
theorem own_rebase {w : World} {B g cap n sz : Nat} {e : TypeId} {xs : List Value} (h : w.ownsRow 0 e sz (.slice (some ⟨g, 0, none⟩) n cap) n xs) (hg : B ≤ g) : w.ownsRow B e sz (.slice (some ⟨g, 0, none⟩) n cap) n xs := by
  obtain ⟨hl, hn | ⟨g2, c2, cur, hv, _, r⟩⟩ := h
  · exact absurd hn.1 (by simp)
  · refine ⟨hl, Or.inr ⟨g2, c2, cur, hv, ?_, r⟩⟩
    injection hv with e1
    injection e1 with e1
    injection e1 with e1
    omega
structure IOQ (n : Nat) (sl : Value) (a : Act) : Prop where
  size : a.tmps.size = 25
  defers : a.defers = []
  s12 : a.eval (.tmp 12) = sl
  s13 : a.eval (.tmp 13) = .int .i64 (n : Int)
theorem IOQ.keep {n : Nat} {sl : Value} {a0 a : Act} {env : List (Nat × Value)} (h : IOQ n sl a0) (f : Fe a0 env a) (h12 : look env 12 (a0.eval (.tmp 12)) = a0.eval (.tmp 12)) (h13 : look env 13 (a0.eval (.tmp 13)) = a0.eval (.tmp 13)) : IOQ n sl a :=
  ⟨f.size.trans h.size, f.defers.trans h.defers, ((f.at_ 12).trans h12).trans h.s12, ((f.at_ 13).trans h13).trans h.s13⟩
theorem oqE {n i : Nat} {sl vo : Value} {Q : Exit → Act → World → Prop} (a0 : Act) (wr : World) (I0 : IOQ n sl a0) (h14 : a0.eval (.tmp 14) = .int .i64 (i : Int)) (h3 : a0.eval (.tmp 3) = vo) (hi : n ≤ i) (hQ : ∀ a, IOQ n sl a → a.eval (.tmp 3) = vo → Q (.exit 0) a wr) : cOQ1.wp Try.prog Q a0 wr := by
  have hii : ¬ (i : Int) < (n : Int) := by omega
  have hid : decide ((i : Int) < (n : Int)) = false := decide_eq_false hii
  clear hi
  have fa0_0 := Fe.refl a0
  unfold cOQ1
  refine wp_seq ?_
  refine wp_region_list ?_
  unfold rOQ5
  have r_a0_1 : (execOp a0.eval { dst := some 15, op := Op.binOp BinOp.lss 3 (Operand.tmp 14) (Operand.tmp 13) 3, type := 0, pos := "power.go:44", after := #[], guard := none }).run Try.prog (wr) = .ok (.value (.bool false)) (wr) := by
    have e14 := (show a0.eval (.tmp 14) = .int .i64 (i : Int) from ((fa0_0.at_ 14).trans h14))
    have e13 := (show a0.eval (.tmp 13) = .int .i64 (n : Int) from ((fa0_0.at_ 13).trans I0.s13))
    clear fa0_0 hQ h14 h3
    generalize a0.eval = ρ at *
    go_simp
  refine fa0_0.step 15 (.bool false) rfl (lb_ I0.size) (wanted_none rfl) r_a0_1 (fun a0_1 fa0_1 => ?_)
  clear r_a0_1
  clear fa0_0
  refine wpList_nil ?_
  change Code.wp _ _ _ _ _
  refine wp_seq (wp_cond_false (show a0_1.eval (.tmp 15) = .bool false from (fa0_1.at_ 15)) (wp_exit ?_))
  exact hQ a0_1 (I0.keep fa0_1 rfl rfl) (show a0_1.eval (.tmp 3) = vo from ((fa0_1.at_ 3).trans h3))
set_option maxRecDepth 100000 in
set_option maxHeartbeats 1000000 in
theorem oqR {n gw wc i cc : Nat} {ao : Option Addr} {L : List Wt} {x : Wt} {Q : Exit → Act → World → Prop} (a0 : Act) (wr : World) (I0 : IOQ n (.slice (some ⟨gw, 0, none⟩) n wc) a0) (h14 : a0.eval (.tmp 14) = .int .i64 (i : Int)) (h3 : a0.eval (.tmp 3) = .slice ao i cc) (hi : i < n) (hn : n ≤ 1048576) (hx : L[i]? = some x) (ho : wr.ownsRow 0 75 3 (.slice ao i cc) i (anCs (L.take i)))
    (a1 : wr.cell? ⟨gw, i * 4, none⟩ = some (.int .u8 (x.act : Int))) (a2 : wr.cell? ⟨gw, i * 4 + 1, none⟩ = some (.int .u32 (x.pg : Int))) (a3 : wr.cell? ⟨gw, i * 4 + 2, none⟩ = some (.int .i64 (x.pages : Int))) (a4 : wr.cell? ⟨gw, i * 4 + 3, none⟩ = some (.string x.data))
    (hQ : ∀ a W g c, IOQ n (.slice (some ⟨gw, 0, none⟩) n wc) a → a.eval (.tmp 14) = .int .i64 ((i : Int) + 1) → a.eval (.tmp 3) = .slice (some ⟨g, 0, none⟩) (i + 1) c → W.ownsRow 0 75 3 (.slice (some ⟨g, 0, none⟩) (i + 1) c) (i + 1) (anCs (L.take (i + 1))) → Fr (fun k => (Value.slice ao i cc).ownBlock = some k) wr W → ((Value.slice ao i cc).ownBlock = some g ∨ wr.heap.size ≤ g) → Q .normal a W) : cOQ1.wp Try.prog Q a0 wr := by
  have hii : (i : Int) < (n : Int) := by omega
  have w1 : IntKind.i64.wrap ((i : Int) + 1) = (i : Int) + 1 := by rw [IntKind.wrap_i64]; omega
  have fa0_0 := Fe.refl a0
  unfold cOQ1
  refine wp_seq ?_
  refine wp_region_list ?_
  unfold rOQ5
  have r_a0_1 : (execOp a0.eval { dst := some 15, op := Op.binOp BinOp.lss 3 (Operand.tmp 14) (Operand.tmp 13) 3, type := 0, pos := "power.go:44", after := #[], guard := none }).run Try.prog (wr) = .ok (.value (.bool true)) (wr) := by
    have e14 := (show a0.eval (.tmp 14) = .int .i64 (i : Int) from ((fa0_0.at_ 14).trans h14))
    have e13 := (show a0.eval (.tmp 13) = .int .i64 (n : Int) from ((fa0_0.at_ 13).trans I0.s13))
    clear fa0_0 hQ h14 h3 ho
    generalize a0.eval = ρ at *
    go_simp
  refine fa0_0.step 15 (.bool true) rfl (lb_ I0.size) (wanted_none rfl) r_a0_1 (fun a0_1 fa0_1 => ?_)
  clear r_a0_1
  clear fa0_0
  refine wpList_nil ?_
  change Code.wp _ _ _ _ _
  refine wp_seq (wp_cond_true (show a0_1.eval (.tmp 15) = .bool true from (fa0_1.at_ 15)) (wp_skip ?_))
  change Code.wp _ _ _ _ _
  refine wp_seq (wp_block (wp_seq ?_))
  refine wp_region_list ?_
  unfold rOQ6
  have r_a0_2 : (execOp a0_1.eval { dst := some 16, op := Op.indexAddr 48 (Operand.tmp 12) (Operand.tmp 14), type := 0, pos := "power.go:44", after := #[], guard := none }).run Try.prog (wr) = .ok (.value (.pointer (some ⟨gw, i * 4, none⟩))) (wr) := by
    have e12 := (show a0_1.eval (.tmp 12) = .slice (some ⟨gw, 0, none⟩) n wc from ((fa0_1.at_ 12).trans I0.s12))
    have e14 := (show a0_1.eval (.tmp 14) = .int .i64 (i : Int) from ((fa0_1.at_ 14).trans h14))
    clear fa0_1 hQ h14 h3 ho
    generalize a0_1.eval = ρ at *
    go_simp
  refine fa0_1.step 16 (.pointer (some ⟨gw, i * 4, none⟩)) rfl (lb_ I0.size) (wanted_none rfl) r_a0_2 (fun a0_2 fa0_2 => ?_)
  clear r_a0_2
  clear fa0_1
  have r_a0_3 : (execOp a0_2.eval { dst := some 17, op := Op.load 77 (Operand.tmp 16), type := 77, pos := "power.go:44", after := #[{ on := 0, ground := Ground.data }], guard := none }).run Try.prog (wr) = .ok (.value (.agg #[.int .u8 (x.act : Int), .int .u32 (x.pg : Int), .int .i64 (x.pages : Int), .string x.data])) (wr) := by
    have e16 := (show a0_2.eval (.tmp 16) = .pointer (some ⟨gw, i * 4, none⟩) from (fa0_2.at_ 16))
    clear fa0_2 hQ h14 h3 ho
    generalize a0_2.eval = ρ at *
    go_simp
  refine fa0_2.step 17 (.agg #[.int .u8 (x.act : Int), .int .u32 (x.pg : Int), .int .i64 (x.pages : Int), .string x.data]) rfl (lb_ I0.size) (wanted_none rfl) r_a0_3 (fun a0_3 fa0_3 => ?_)
  clear r_a0_3
  clear fa0_2
  have r_a0_4 : (execOp a0_3.eval { dst := some 5, op := Op.alloc 77, type := 0, pos := "power.go:44", after := #[], guard := none }).run Try.prog (wr) = .ok (.value (.pointer (some ⟨wr.heap.size, 0, none⟩))) (wr.alloc (.cells #[.int .u8 0, .int .u32 0, .int .i64 0, .string ⟨#[]⟩] 77)) := by
    clear fa0_3 hQ h14 h3 ho
    generalize a0_3.eval = ρ at *
    go_simp
  refine fa0_3.stepW 5 (.pointer (some ⟨wr.heap.size, 0, none⟩)) rfl (lb_ I0.size) (wanted_none rfl) r_a0_4 (fun a0_4 fa0_4 => ?_)
  clear r_a0_4
  obtain ⟨V, hV⟩ : ∃ V, V = wr.alloc (.cells #[.int .u8 0, .int .u32 0, .int .i64 0, .string ⟨#[]⟩] 77) := ⟨_, rfl⟩
  rw [← hV]
  have sV : Same wr V := by rw [hV]; exact (Fr.refl _ wr).alloc _
  have hVr : V.heap[wr.heap.size]? = some (.cells #[.int .u8 0, .int .u32 0, .int .i64 0, .string ⟨#[]⟩] 77 (0, 0)) := by rw [hV]; exact heap_alloc_new wr _
  clear hV
  clear fa0_3
  have r_a0_5 : (execOp a0_4.eval { dst := none, op := Op.store 77 (Operand.tmp 5) (Operand.tmp 17), type := 0, pos := "power.go:44", after := #[{ on := 2, ground := Ground.data }, { on := 1, ground := Ground.data }, { on := 0, ground := Ground.phase }, { on := 1, ground := Ground.phase }, { on := 2, ground := Ground.phase }], guard := none }).run Try.prog (V) = .ok .skip (World.setCells V wr.heap.size 0 [.int .u8 (x.act : Int), .int .u32 (x.pg : Int), .int .i64 (x.pages : Int), .string x.data]) := by
    exact exec_store_mid 77 _ _ rfl wr.heap.size 0 #[.int .u8 (x.act : Int), .int .u32 (x.pg : Int), .int .i64 (x.pages : Int), .string x.data] (show a0_4.eval (.tmp 5) = .pointer (some ⟨wr.heap.size, 0, none⟩) from (fa0_4.at_ 5)) (show a0_4.eval (.tmp 17) = .agg #[.int .u8 (x.act : Int), .int .u32 (x.pg : Int), .int .i64 (x.pages : Int), .string x.data] from (fa0_4.at_ 17)) (there_row hVr rfl) (by kernel_rfl) (by kernel_rfl)
  refine fa0_4.store rfl (wanted_none rfl) r_a0_5 (fun a0_5 fa0_5 => ?_)
  clear r_a0_5
  obtain ⟨V1, hV1⟩ : ∃ V1, V1 = World.setCells V wr.heap.size 0 [.int .u8 (x.act : Int), .int .u32 (x.pg : Int), .int .i64 (x.pages : Int), .string x.data] := ⟨_, rfl⟩
  rw [← hV1]
  have r1 : V1.heap[wr.heap.size]? = some (.cells #[.int .u8 (x.act : Int), .int .u32 (x.pg : Int), .int .i64 (x.pages : Int), .string x.data] 77 (0, 0)) := by rw [hV1]; exact setCells_whole [.int .u8 (x.act : Int), .int .u32 (x.pg : Int), .int .i64 (x.pages : Int), .string x.data] _ hVr rfl (there_row hVr rfl)
  have s1 : Same wr V1 := by rw [hV1]; exact Fr.trans sV (Fr.setCells (S := fun k => k = wr.heap.size) (fun _ => rfl) _ 0 V (Fr.refl _ V)) (fun k hk e => by have e2 : k = wr.heap.size := e; omega)
  clear hV1
  have k0 : V1.cell? ⟨wr.heap.size, 0, none⟩ = some (.int .u8 (x.act : Int)) := (cell_of_row _ _ _ _ _ _ r1).trans rfl
  have k1 : V1.cell? ⟨wr.heap.size, 1, none⟩ = some (.int .u32 (x.pg : Int)) := (cell_of_row _ _ _ _ _ _ r1).trans rfl
  have k2 : V1.cell? ⟨wr.heap.size, 2, none⟩ = some (.int .i64 (x.pages : Int)) := (cell_of_row _ _ _ _ _ _ r1).trans rfl
  clear fa0_4
  refine wpList_nil ?_
  change Code.wp _ _ _ _ _
  refine wp_region_list ?_
  unfold rOQ7
  refine fa0_5.move 18 (.slice ao i cc) _ (Or.inl rfl) rfl (lb_ I0.size) (wanted_none rfl) ((fa0_5.at_ 3).trans h3) (fun a0_6 fa0_6 => ?_)
  clear fa0_5
  have r_a0_7 : (execOp a0_6.eval { dst := some 19, op := Op.fieldAddr 77 (Operand.tmp 5) 0, type := 0, pos := "power.go:45", after := #[], guard := none }).run Try.prog (V1) = .ok (.value (.pointer (some ⟨wr.heap.size, 0, none⟩))) (V1) := by
    have e5 := (show a0_6.eval (.tmp 5) = .pointer (some ⟨wr.heap.size, 0, none⟩) from (fa0_6.at_ 5))
    clear fa0_6 hQ h14 h3 ho
    generalize a0_6.eval = ρ at *
    go_simp
  refine fa0_6.step 19 (.pointer (some ⟨wr.heap.size, 0, none⟩)) rfl (lb_ I0.size) (wanted_none rfl) r_a0_7 (fun a0_7 fa0_7 => ?_)
  clear r_a0_7
  clear fa0_6
  have r_a0_8 : (execOp a0_7.eval { dst := some 20, op := Op.load 75 (Operand.tmp 19), type := 75, pos := "power.go:45", after := #[{ on := 1, ground := Ground.data }], guard := none }).run Try.prog (V1) = .ok (.value (.agg #[.int .u8 (x.act : Int), .int .u32 (x.pg : Int), .int .i64 (x.pages : Int)])) (V1) := by
    have e19 := (show a0_7.eval (.tmp 19) = .pointer (some ⟨wr.heap.size, 0, none⟩) from (fa0_7.at_ 19))
    clear fa0_7 hQ h14 h3 ho
    generalize a0_7.eval = ρ at *
    go_simp
  refine fa0_7.step 20 (.agg #[.int .u8 (x.act : Int), .int .u32 (x.pg : Int), .int .i64 (x.pages : Int)]) rfl (lb_ I0.size) (wanted_none rfl) r_a0_8 (fun a0_8 fa0_8 => ?_)
  clear r_a0_8
  clear fa0_7
  have r_a0_9 : (execOp a0_8.eval { dst := some 21, op := Op.buildSlice 63 1 #[(0, Operand.tmp 20)], type := 63, pos := "power.go:45", after := #[{ on := 2, ground := Ground.data }], guard := none }).run Try.prog (V1) = .ok (.value (.slice (some ⟨V1.heap.size, 0, none⟩) 1 1)) (World.alloc V1 (.cells #[.int .u8 (x.act : Int), .int .u32 (x.pg : Int), .int .i64 (x.pages : Int)] 75)) := by
    have e20 := (show a0_8.eval (.tmp 20) = .agg #[.int .u8 (x.act : Int), .int .u32 (x.pg : Int), .int .i64 (x.pages : Int)] from (fa0_8.at_ 20))
    clear fa0_8 hQ h14 h3 ho
    generalize a0_8.eval = ρ at *
    go_simp
  refine fa0_8.stepW 21 (.slice (some ⟨V1.heap.size, 0, none⟩) 1 1) rfl (lb_ I0.size) (wanted_none rfl) r_a0_9 (fun a0_9 fa0_9 => ?_)
  clear r_a0_9
  have s2 : Same wr (World.alloc V1 (.cells #[.int .u8 (x.act : Int), .int .u32 (x.pg : Int), .int .i64 (x.pages : Int)] 75)) := s1.alloc _
  have r2 : (World.alloc V1 (.cells #[.int .u8 (x.act : Int), .int .u32 (x.pg : Int), .int .i64 (x.pages : Int)] 75)).heap[V1.heap.size]? = some (.cells #[.int .u8 (x.act : Int), .int .u32 (x.pg : Int), .int .i64 (x.pages : Int)] 75 (0, 0)) := heap_alloc_new V1 _
  generalize World.alloc V1 (.cells #[.int .u8 (x.act : Int), .int .u32 (x.pg : Int), .int .i64 (x.pages : Int)] 75) = V2 at *
  obtain ⟨g3, c3, V3, hr3, o3, f3, l3⟩ := appAnn (m := 1) (c := 1) (ad := ⟨V1.heap.size, 0, none⟩) (news := [.int .u8 (x.act : Int), .int .u32 (x.pg : Int), .int .i64 (x.pages : Int)]) V2 63 (own_frameB ho s2 (fun _ _ f => f)) rfl (fun j u hj => by rw [WideShapes.add_plain, Nat.zero_add]; exact (cell_of_row _ _ _ _ _ _ r2).trans (by rw [← hj, ← List.getElem?_toArray])) (fun u hu => by simp only [List.mem_cons, List.not_mem_nil, or_false] at hu; rcases hu with rfl | rfl | rfl <;> rfl) (by decide) (by omega)
  clear fa0_8
  have r_a0_10 : (execOp a0_9.eval { dst := some 22, op := Op.call { callee := Callee.builtin Builtin.append, args := #[Operand.tmp 18, Operand.tmp 21], argTypes := #[63, 63] }, type := 63, pos := "power.go:45", after := #[{ on := 0, ground := Ground.data }, { on := 3, ground := Ground.data }], guard := none }).run Try.prog (V2) = .ok (.value (.slice (some ⟨g3, 0, none⟩) (i + 1) c3)) (V3) := by
    refine exec_append rfl ?_
    rw [(show a0_9.eval (.tmp 18) = .slice ao i cc from (fa0_9.at_ 18)), (show a0_9.eval (.tmp 21) = .slice (some ⟨V1.heap.size, 0, none⟩) 1 1 from (fa0_9.at_ 21))]
    exact hr3
  refine fa0_9.stepW 22 (.slice (some ⟨g3, 0, none⟩) (i + 1) c3) rfl (lb_ I0.size) (wanted_none rfl) r_a0_10 (fun a0_10 fa0_10 => ?_)
  clear r_a0_10
  clear fa0_9
  refine fa0_10.move 3 (.slice (some ⟨g3, 0, none⟩) (i + 1) c3) _ (Or.inr rfl) rfl (lb_ I0.size) (wanted_none rfl) (fa0_10.at_ 22) (fun a0_11 fa0_11 => ?_)
  clear fa0_10
  refine wpList_nil ?_
  change Code.wp _ _ _ _ _
  refine wp_region_list ?_
  unfold rOQ8
  have r_a0_12 : (execOp a0_11.eval { dst := some 23, op := Op.binOp BinOp.add 3 (Operand.tmp 14) (Operand.const (Value.int IntKind.i64 1)) 3, type := 3, pos := "power.go:44", after := #[], guard := none }).run Try.prog (V3) = .ok (.value (.int .i64 ((i : Int) + 1))) (V3) := by
    have kc : ∀ v, a0_11.eval (.const v) = v := fun _ => rfl
    have e14 := (show a0_11.eval (.tmp 14) = .int .i64 (i : Int) from ((fa0_11.at_ 14).trans h14))
    clear fa0_11 hQ h14 h3 ho
    generalize a0_11.eval = ρ at *
    go_simp
  refine fa0_11.step 23 (.int .i64 ((i : Int) + 1)) rfl (lb_ I0.size) (wanted_none rfl) r_a0_12 (fun a0_12 fa0_12 => ?_)
  clear r_a0_12
  clear fa0_11
  refine fa0_12.move 14 (.int .i64 ((i : Int) + 1)) _ (Or.inl rfl) rfl (lb_ I0.size) (wanted_none rfl) (fa0_12.at_ 23) (fun a0_13 fa0_13 => ?_)
  clear fa0_12
  refine wpList_nil ?_
  have f23 : Fr (fun k => (Value.slice ao i cc).ownBlock = some k) wr V3 := Fr.trans (s2.mono (fun _ _ f => f.elim)) f3 (fun _ _ e => e)
  exact hQ a0_13 V3 g3 c3 (I0.keep fa0_13 rfl rfl) (show a0_13.eval (.tmp 14) = .int .i64 ((i : Int) + 1) from (fa0_13.at_ 14)) (show a0_13.eval (.tmp 3) = .slice (some ⟨g3, 0, none⟩) (i + 1) c3 from (fa0_13.at_ 3)) (by rw [List.take_add_one, hx, Option.toList_some, anCs_app]; exact o3) f23 (l3.imp id (fun e => by have := s2.size; omega))
theorem oqL {wc : Nat} {wa : Option Addr} {L : List Wt} {Q : Exit → Act → World → Prop} (a0 : Act) (w : World) (I0 : IOQ L.length (.slice wa L.length wc) a0) (h14 : a0.eval (.tmp 14) = .int .i64 ((0 : Nat) : Int)) (h3 : a0.eval (.tmp 3) = .slice none 0 0) (hl : L.length ≤ 1048576) (hr : w.ownsRow 0 77 4 (.slice wa L.length wc) L.length (wtCs L))
    (hQ : ∀ a W ao cc, IOQ L.length (.slice wa L.length wc) a → a.eval (.tmp 3) = .slice ao L.length cc → W.ownsRow w.heap.size 75 3 (.slice ao L.length cc) L.length (anCs L) → Same w W → Q (.exit 0) a W) : (Code.loop cOQ1).wp Try.prog Q a0 w := by
  refine wp_loop (fun a W => IOQ L.length (.slice wa L.length wc) a ∧ ∃ (i : Nat) (ao : Option Addr) (cc : Nat), i ≤ L.length ∧ a.eval (.tmp 14) = .int .i64 (i : Int) ∧ a.eval (.tmp 3) = .slice ao i cc ∧ W.ownsRow w.heap.size 75 3 (.slice ao i cc) i (anCs (L.take i)) ∧ Same w W) (fun a _ => L.length - kOf a 14) ⟨I0, 0, none, 0, Nat.zero_le _, h14, h3, own_nil, Fr.refl _ _⟩ ?_
  rintro a W ⟨I1, i, ao, cc, hi, g14, g3, ho, s1⟩
  by_cases hgo : i < L.length
  · obtain ⟨x, hx⟩ : ∃ x, L[i]? = some x := ⟨_, List.getElem?_eq_getElem hgo⟩
    obtain ⟨gw, rfl, _⟩ := own_some hr (by omega)
    obtain ⟨a1, a2, a3, a4⟩ := wt_cells (own_frameB hr s1 (fun _ _ f => f)) hx
    refine oqR a W I1 g14 g3 hgo hl hx (own_base ho (Nat.zero_le _)) a1 a2 a3 a4 (fun a' W3 g c i3 h1 h2 o3 f3 l3 => ?_)
    have blk : ∀ k, (Value.slice ao i cc).ownBlock = some k → w.heap.size ≤ k := fun k hk => by
      cases ao with
      | none => cases hk
      | some z => have := (own_ge ho).1; simp [Value.ownBlock] at hk; omega
    have s3 : Same w W3 := Fr.trans s1 f3 (fun k hk e => by have := blk k e; omega)
    have h4 : a'.eval (.tmp 14) = .int .i64 ((i + 1 : Nat) : Int) := h1
    have hge : w.heap.size ≤ g := by
      rcases l3 with e | e
      · exact blk g e
      · exact Nat.le_trans s1.size e
    refine ⟨⟨i3, i + 1, some ⟨g, 0, none⟩, c, hgo, h4, h2, own_rebase o3 hge, s3⟩, ?_⟩
    show L.length - kOf a' 14 < L.length - kOf a 14
    rw [kOf_eq h4, kOf_eq g14]
    omega
  · obtain rfl : L.length = i := by omega
    rw [List.take_length] at ho
    exact oqE a W I1 g14 g3 (Nat.le_refl _) (fun a' i2 h2 => hQ a' W ao cc i2 h2 ho s1)
set_option maxRecDepth 100000 in
set_option maxHeartbeats 1000000 in
theorem waits_calls {b : Nat} {D : Dk} {S : Nat → Prop} (w : World) (h : DkAt w b D S) (hp : 0 < D.page) (hl : D.W.length ≤ 1048576) :
    Calls Try.prog 31 #[.pointer (some ⟨b, 0, none⟩)] w fun e w' => ∃ ao c, e = .returned (.slice ao D.W.length c) ∧ w'.ownsRow w.heap.size 75 3 (.slice ao D.W.length c) D.W.length (anCs D.W) ∧ Same w w' := by
  obtain ⟨h1, _⟩ := h.cells
  have hT := there_core w h1 (by omega)
  obtain ⟨wa, wc, c6, ho⟩ := h.rowW
  refine calls_abs (c := cOQ) Try.func31 (by kernel_rfl) 25 rfl (by simp) (fun a0 hsz hd ha => ?_)
  have fa0_0 := Fe.refl a0
  unfold cOQ
  refine wp_seq ?_
  refine wp_region_list ?_
  unfold rOQ0
  refine fa0_0.move 2 (.slice none 0 0) _ (Or.inr rfl) rfl (lb_ hsz) (wanted_none rfl) rfl (fun a0_1 fa0_1 => ?_)
  clear fa0_0
  refine wpList_nil ?_
  change Code.wp _ _ _ _ _
  refine wp_seq (wp_seq ?_)
  refine wp_region_list ?_
  unfold rOQ1
  refine fa0_1.move 6 (.pointer (some ⟨b, 0, none⟩)) _ (Or.inl rfl) rfl (lb_ hsz) (wanted_none rfl) ((fa0_1.at_ 0).trans (ha 0 _ rfl)) (fun a0_2 fa0_2 => ?_)
  clear fa0_1
  have r_a0_3 : (execOp a0_2.eval { dst := some 7, op := Op.call { callee := Callee.value (Operand.func 25), args := #[Operand.tmp 6], argTypes := #[27] }, type := 4, pos := "power.go:40", after := #[{ on := 0, ground := Ground.data }], guard := none }).run Try.prog (w) = .ok (.enter 25 #[.pointer (some ⟨b, 0, none⟩)]) (w) := by
    have kf : ∀ f, a0_2.eval (.func f) = .func (.func f) #[] #[] := fun _ => rfl
    have e6 := (show a0_2.eval (.tmp 6) = .pointer (some ⟨b, 0, none⟩) from (fa0_2.at_ 6))
    clear fa0_2 ha
    generalize a0_2.eval = ρ at *
    go_simp
  refine fa0_2.call 7 rfl (lb_ hsz) (wanted_none rfl) r_a0_3 (hT) (fun e w1 hR => ?_)
  obtain ⟨rfl, hw1⟩ := hR
  clear r_a0_3
  have hw1 := hw1.symm
  subst hw1
  refine ⟨_, rfl, fun a0_3 fa0_3 => ?_⟩
  clear fa0_2
  have r_a0_4 : (execOp a0_3.eval { dst := some 8, op := Op.unOp UnOp.not 4 (Operand.tmp 7), type := 4, pos := "power.go:40", after := #[{ on := 1, ground := Ground.data }], guard := none }).run Try.prog (w) = .ok (.value (.bool false)) (w) := by
    have e7 := (show a0_3.eval (.tmp 7) = .bool true from (fa0_3.at_ 7))
    clear fa0_3 ha
    generalize a0_3.eval = ρ at *
    go_simp
  refine fa0_3.step 8 (.bool false) rfl (lb_ hsz) (wanted_none rfl) r_a0_4 (fun a0_4 fa0_4 => ?_)
  clear r_a0_4
  clear fa0_3
  refine wpList_nil ?_
  change Code.wp _ _ _ _ _
  refine wp_cond_false (show a0_4.eval (.tmp 8) = .bool false from (fa0_4.at_ 8)) (wp_skip ?_)
  change Code.wp _ _ _ _ _
  refine wp_seq ?_
  refine wp_region_list ?_
  unfold rOQ3
  refine fa0_4.move 3 (.slice none 0 0) _ (Or.inr rfl) rfl (lb_ hsz) (wanted_none rfl) rfl (fun a0_5 fa0_5 => ?_)
  clear fa0_4
  refine wpList_nil ?_
  change Code.wp _ _ _ _ _
  refine wp_seq (wp_seq ?_)
  refine wp_region_list ?_
  unfold rOQ4
  refine fa0_5.move 9 (.pointer (some ⟨b, 0, none⟩)) _ (Or.inl rfl) rfl (lb_ hsz) (wanted_none rfl) ((fa0_5.at_ 0).trans (ha 0 _ rfl)) (fun a0_6 fa0_6 => ?_)
  clear fa0_5
  have r_a0_7 : (execOp a0_6.eval { dst := some 10, op := Op.nilCheck (Operand.tmp 9), type := 0, pos := "power.go:44", after := #[{ on := 0, ground := Ground.data }], guard := none }).run Try.prog (w) = .ok (.value (.pointer (some ⟨b, 0, none⟩))) (w) := by
    have e9 := (show a0_6.eval (.tmp 9) = .pointer (some ⟨b, 0, none⟩) from (fa0_6.at_ 9))
    clear fa0_6 ha
    generalize a0_6.eval = ρ at *
    go_simp
  refine fa0_6.step 10 (.pointer (some ⟨b, 0, none⟩)) rfl (lb_ hsz) (wanted_none rfl) r_a0_7 (fun a0_7 fa0_7 => ?_)
  clear r_a0_7
  clear fa0_6
  have r_a0_8 : (execOp a0_7.eval { dst := some 11, op := Op.fieldAddr 51 (Operand.tmp 10) 4, type := 0, pos := "power.go:44", after := #[{ on := 1, ground := Ground.data }], guard := none }).run Try.prog (w) = .ok (.value (.pointer (some ⟨b, 6, none⟩))) (w) := by
    have e10 := (show a0_7.eval (.tmp 10) = .pointer (some ⟨b, 0, none⟩) from (fa0_7.at_ 10))
    clear fa0_7 ha
    generalize a0_7.eval = ρ at *
    go_simp
  refine fa0_7.step 11 (.pointer (some ⟨b, 6, none⟩)) rfl (lb_ hsz) (wanted_none rfl) r_a0_8 (fun a0_8 fa0_8 => ?_)
  clear r_a0_8
  clear fa0_7
  have r_a0_9 : (execOp a0_8.eval { dst := some 12, op := Op.load 48 (Operand.tmp 11), type := 48, pos := "power.go:44", after := #[{ on := 2, ground := Ground.data }], guard := none }).run Try.prog (w) = .ok (.value (.slice wa D.W.length wc)) (w) := by
    have e11 := (show a0_8.eval (.tmp 11) = .pointer (some ⟨b, 6, none⟩) from (fa0_8.at_ 11))
    clear fa0_8 ha
    generalize a0_8.eval = ρ at *
    go_simp
  refine fa0_8.step 12 (.slice wa D.W.length wc) rfl (lb_ hsz) (wanted_none rfl) r_a0_9 (fun a0_9 fa0_9 => ?_)
  clear r_a0_9
  clear fa0_8
  have r_a0_10 : (execOp a0_9.eval { dst := some 13, op := Op.call { callee := Callee.builtin Builtin.len, args := #[Operand.tmp 12], argTypes := #[48] }, type := 3, pos := "power.go:44", after := #[{ on := 3, ground := Ground.data }], guard := none }).run Try.prog (w) = .ok (.value (.int .i64 (D.W.length : Int))) (w) := by
    have e12 := (show a0_9.eval (.tmp 12) = .slice wa D.W.length wc from (fa0_9.at_ 12))
    clear fa0_9 ha
    generalize a0_9.eval = ρ at *
    go_simp
  refine fa0_9.step 13 (.int .i64 (D.W.length : Int)) rfl (lb_ hsz) (wanted_none rfl) r_a0_10 (fun a0_10 fa0_10 => ?_)
  clear r_a0_10
  clear fa0_9
  refine fa0_10.move 14 (.int .i64 ((0 : Nat) : Int)) _ (Or.inl rfl) rfl (lb_ hsz) (wanted_none rfl) rfl (fun a0_11 fa0_11 => ?_)
  clear fa0_10
  refine wpList_nil ?_
  change Code.wp _ _ _ _ _
  refine wp_block ?_
  refine oqL (L := D.W) a0_11 w ⟨fa0_11.size.trans hsz, fa0_11.defers.trans hd, (show a0_11.eval (.tmp 12) = .slice wa D.W.length wc from (fa0_11.at_ 12)), (show a0_11.eval (.tmp 13) = .int .i64 (D.W.length : Int) from (fa0_11.at_ 13))⟩ (show a0_11.eval (.tmp 14) = .int .i64 ((0 : Nat) : Int) from (fa0_11.at_ 14)) (show a0_11.eval (.tmp 3) = .slice none 0 0 from (fa0_11.at_ 3)) hl ho (fun b1 W ao cc i1 g3 o1 s1 => ?_)
  change Code.wp _ _ _ _ _
  refine wp_seq ?_
  have fb1_0 := Fe.refl b1
  refine wp_region_list ?_
  unfold rOQ9
  refine fb1_0.move 24 (.slice ao D.W.length cc) _ (Or.inl rfl) rfl (lb_ i1.size) (wanted_none rfl) ((fb1_0.at_ 3).trans g3) (fun b1_1 fb1_1 => ?_)
  clear fb1_0
  refine fb1_1.move 2 (.slice ao D.W.length cc) _ (Or.inr rfl) rfl (lb_ i1.size) (wanted_none rfl) (fb1_1.at_ 24) (fun b1_2 fb1_2 => ?_)
  clear fb1_1
  refine wpList_nil ?_
  change Code.wp _ _ _ _ _
  refine wp_ret ?_
  exact ret_abs rfl (fb1_2.defers.trans i1.defers) (show b1_2.eval (.tmp 2) = .slice ao D.W.length cc from (fb1_2.at_ 2)) ⟨ao, cc, rfl, o1, s1⟩
end Go.Proofs.Ytljlkcmjbjnihaa
