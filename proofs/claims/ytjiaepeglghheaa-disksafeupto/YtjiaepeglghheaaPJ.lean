/- The law's one: a sector is the old one or one that was written. -/
import Derived.Test.YtjiaepeglghheaaPI
namespace Go.Proofs.Ytjiaepeglghheaa
open Go.RowKit

theorem tl_inj {s t : ByteArray} (h : s.toList = t.toList) : s = t := by
  rw [ByteArray.toList_eq, ByteArray.toList_eq] at h
  exact ByteArray.ext (Array.toList_inj.1 h)
def rPJ0 : Array Oper := #[{ dst := some 8, op := Op.assign (Operand.const (Value.bool false)), type := 4, pos := "outright.go:70", after := #[], guard := none }]
def rPJ1 : Array Oper := #[{ dst := some 12, op := Op.move (Operand.tmp 1), type := 9, pos := "outright.go:71", after := #[], guard := none },
  { dst := some 13, op := Op.call { callee := Callee.builtin Builtin.len, args := #[Operand.tmp 12], argTypes := #[9] }, type := 3, pos := "outright.go:71", after := #[{ on := 0, ground := Ground.data }], guard := none },
  { dst := some 14, op := Op.binOp BinOp.quo 3 (Operand.tmp 13) (Operand.const (Value.int IntKind.i64 8)) 3, type := 3, pos := "outright.go:71", after := #[{ on := 1, ground := Ground.data }], guard := none },
  { dst := some 9, op := Op.assign (Operand.tmp 14), type := 3, pos := "outright.go:71", after := #[{ on := 2, ground := Ground.data }, { on := 0, ground := Ground.phase }, { on := 1, ground := Ground.phase }, { on := 2, ground := Ground.phase }], guard := none }]
def rPJ2 : Array Oper := #[{ dst := some 15, op := Op.move (Operand.tmp 1), type := 9, pos := "outright.go:72", after := #[], guard := none },
  { dst := some 16, op := Op.move (Operand.tmp 0), type := 3, pos := "outright.go:72", after := #[], guard := none },
  { dst := some 17, op := Op.move (Operand.tmp 9), type := 3, pos := "outright.go:72", after := #[], guard := none },
  { dst := some 18, op := Op.binOp BinOp.mul 3 (Operand.tmp 16) (Operand.tmp 17) 3, type := 3, pos := "outright.go:72", after := #[{ on := 1, ground := Ground.data }, { on := 2, ground := Ground.data }], guard := none },
  { dst := some 19, op := Op.move (Operand.tmp 0), type := 3, pos := "outright.go:72", after := #[], guard := none },
  { dst := some 20, op := Op.move (Operand.tmp 9), type := 3, pos := "outright.go:72", after := #[], guard := none },
  { dst := some 21, op := Op.binOp BinOp.mul 3 (Operand.tmp 19) (Operand.tmp 20) 3, type := 3, pos := "outright.go:72", after := #[{ on := 4, ground := Ground.data }, { on := 5, ground := Ground.data }], guard := none },
  { dst := some 22, op := Op.move (Operand.tmp 9), type := 3, pos := "outright.go:72", after := #[], guard := none },
  { dst := some 23, op := Op.binOp BinOp.add 3 (Operand.tmp 21) (Operand.tmp 22) 3, type := 3, pos := "outright.go:72", after := #[{ on := 6, ground := Ground.data }, { on := 7, ground := Ground.data }], guard := none },
  { dst := some 24, op := Op.slice 9 (Operand.tmp 15) (some (Operand.tmp 18)) (some (Operand.tmp 23)) none, type := 9, pos := "outright.go:72", after := #[{ on := 0, ground := Ground.data }, { on := 3, ground := Ground.data }, { on := 8, ground := Ground.data }], guard := none },
  { dst := some 10, op := Op.assign (Operand.tmp 24), type := 9, pos := "outright.go:72", after := #[{ on := 9, ground := Ground.data }, { on := 0, ground := Ground.phase }, { on := 1, ground := Ground.phase }, { on := 2, ground := Ground.phase }, { on := 3, ground := Ground.phase }, { on := 4, ground := Ground.phase }, { on := 5, ground := Ground.phase }, { on := 6, ground := Ground.phase }, { on := 7, ground := Ground.phase }, { on := 8, ground := Ground.phase }, { on := 9, ground := Ground.phase }], guard := none }]
def rPJ3 : Array Oper := #[{ dst := some 25, op := Op.move (Operand.tmp 10), type := 9, pos := "outright.go:73", after := #[], guard := none },
  { dst := some 26, op := Op.move (Operand.tmp 2), type := 9, pos := "outright.go:73", after := #[], guard := none },
  { dst := some 27, op := Op.move (Operand.tmp 0), type := 3, pos := "outright.go:73", after := #[], guard := none },
  { dst := some 28, op := Op.move (Operand.tmp 9), type := 3, pos := "outright.go:73", after := #[], guard := none },
  { dst := some 29, op := Op.binOp BinOp.mul 3 (Operand.tmp 27) (Operand.tmp 28) 3, type := 3, pos := "outright.go:73", after := #[{ on := 2, ground := Ground.data }, { on := 3, ground := Ground.data }], guard := none },
  { dst := some 30, op := Op.move (Operand.tmp 0), type := 3, pos := "outright.go:73", after := #[], guard := none },
  { dst := some 31, op := Op.move (Operand.tmp 9), type := 3, pos := "outright.go:73", after := #[], guard := none },
  { dst := some 32, op := Op.binOp BinOp.mul 3 (Operand.tmp 30) (Operand.tmp 31) 3, type := 3, pos := "outright.go:73", after := #[{ on := 5, ground := Ground.data }, { on := 6, ground := Ground.data }], guard := none },
  { dst := some 33, op := Op.move (Operand.tmp 9), type := 3, pos := "outright.go:73", after := #[], guard := none },
  { dst := some 34, op := Op.binOp BinOp.add 3 (Operand.tmp 32) (Operand.tmp 33) 3, type := 3, pos := "outright.go:73", after := #[{ on := 7, ground := Ground.data }, { on := 8, ground := Ground.data }], guard := none },
  { dst := some 35, op := Op.slice 9 (Operand.tmp 26) (some (Operand.tmp 29)) (some (Operand.tmp 34)) none, type := 9, pos := "outright.go:73", after := #[{ on := 1, ground := Ground.data }, { on := 4, ground := Ground.data }, { on := 9, ground := Ground.data }], guard := none },
  { dst := some 36, op := Op.binOp BinOp.eql 9 (Operand.tmp 25) (Operand.tmp 35) 9, type := 4, pos := "outright.go:73", after := #[{ on := 0, ground := Ground.data }, { on := 10, ground := Ground.data }], guard := none }]
def rPJ4 : Array Oper := #[{ dst := some 8, op := Op.assign (Operand.const (Value.bool true)), type := 4, pos := "outright.go:74", after := #[], guard := none }]
def rPJ5 : Array Oper := #[{ dst := some 11, op := Op.assign (Operand.const (Value.int IntKind.i64 0)), type := 3, pos := "outright.go:76", after := #[], guard := none }]
def rPJ6 : Array Oper := #[{ dst := some 37, op := Op.move (Operand.tmp 11), type := 3, pos := "outright.go:76", after := #[], guard := none },
  { dst := some 38, op := Op.move (Operand.tmp 3), type := 40, pos := "outright.go:76", after := #[], guard := none },
  { dst := some 39, op := Op.call { callee := Callee.builtin Builtin.len, args := #[Operand.tmp 38], argTypes := #[40] }, type := 3, pos := "outright.go:76", after := #[{ on := 1, ground := Ground.data }], guard := none },
  { dst := some 40, op := Op.binOp BinOp.lss 3 (Operand.tmp 37) (Operand.tmp 39) 3, type := 4, pos := "outright.go:76", after := #[{ on := 0, ground := Ground.data }, { on := 2, ground := Ground.data }], guard := none }]
def rPJ7 : Array Oper := #[{ dst := some 41, op := Op.move (Operand.tmp 11), type := 3, pos := "outright.go:76", after := #[], guard := none },
  { dst := some 42, op := Op.binOp BinOp.add 3 (Operand.tmp 41) (Operand.const (Value.int IntKind.i64 1)) 3, type := 3, pos := "outright.go:76", after := #[{ on := 0, ground := Ground.data }], guard := none },
  { dst := some 11, op := Op.assign (Operand.tmp 42), type := 3, pos := "outright.go:76", after := #[{ on := 1, ground := Ground.data }, { on := 0, ground := Ground.phase }, { on := 1, ground := Ground.phase }], guard := none }]
def rPJ8 : Array Oper := #[{ dst := some 43, op := Op.move (Operand.tmp 10), type := 9, pos := "outright.go:77", after := #[], guard := none },
  { dst := some 44, op := Op.move (Operand.tmp 3), type := 40, pos := "outright.go:77", after := #[], guard := none },
  { dst := some 45, op := Op.move (Operand.tmp 11), type := 3, pos := "outright.go:77", after := #[], guard := none },
  { dst := some 46, op := Op.indexAddr 40 (Operand.tmp 44) (Operand.tmp 45), type := 0, pos := "outright.go:77", after := #[{ on := 1, ground := Ground.data }, { on := 2, ground := Ground.data }], guard := none },
  { dst := some 47, op := Op.load 9 (Operand.tmp 46), type := 9, pos := "outright.go:77", after := #[{ on := 3, ground := Ground.data }], guard := none },
  { dst := some 48, op := Op.move (Operand.tmp 0), type := 3, pos := "outright.go:77", after := #[], guard := none },
  { dst := some 49, op := Op.move (Operand.tmp 9), type := 3, pos := "outright.go:77", after := #[], guard := none },
  { dst := some 50, op := Op.binOp BinOp.mul 3 (Operand.tmp 48) (Operand.tmp 49) 3, type := 3, pos := "outright.go:77", after := #[{ on := 5, ground := Ground.data }, { on := 6, ground := Ground.data }], guard := none },
  { dst := some 51, op := Op.move (Operand.tmp 0), type := 3, pos := "outright.go:77", after := #[], guard := none },
  { dst := some 52, op := Op.move (Operand.tmp 9), type := 3, pos := "outright.go:77", after := #[], guard := none },
  { dst := some 53, op := Op.binOp BinOp.mul 3 (Operand.tmp 51) (Operand.tmp 52) 3, type := 3, pos := "outright.go:77", after := #[{ on := 8, ground := Ground.data }, { on := 9, ground := Ground.data }], guard := none },
  { dst := some 54, op := Op.move (Operand.tmp 9), type := 3, pos := "outright.go:77", after := #[], guard := none },
  { dst := some 55, op := Op.binOp BinOp.add 3 (Operand.tmp 53) (Operand.tmp 54) 3, type := 3, pos := "outright.go:77", after := #[{ on := 10, ground := Ground.data }, { on := 11, ground := Ground.data }], guard := none },
  { dst := some 56, op := Op.slice 9 (Operand.tmp 47) (some (Operand.tmp 50)) (some (Operand.tmp 55)) none, type := 9, pos := "outright.go:77", after := #[{ on := 4, ground := Ground.data }, { on := 7, ground := Ground.data }, { on := 12, ground := Ground.data }], guard := none },
  { dst := some 57, op := Op.binOp BinOp.eql 9 (Operand.tmp 43) (Operand.tmp 56) 9, type := 4, pos := "outright.go:77", after := #[{ on := 0, ground := Ground.data }, { on := 13, ground := Ground.data }], guard := none }]
def rPJ9 : Array Oper := #[{ dst := some 8, op := Op.assign (Operand.const (Value.bool true)), type := 4, pos := "outright.go:78", after := #[], guard := none }]
def rPJ10 : Array Oper := #[{ dst := some 8, op := Op.assign (Operand.const (Value.bool false)), type := 4, pos := "outright.go:81", after := #[], guard := none }]
def cPJ1 : Code := (Code.seq (Code.seq (Code.region 6 rPJ6 false) (Code.cond (Operand.tmp 40) Code.skip (Code.exit 0))) (Code.seq (Code.block 1 (Code.seq (Code.region 8 rPJ8 false) (Code.cond (Operand.tmp 57) (Code.seq (Code.region 9 rPJ9 false) Code.ret) Code.skip))) (Code.region 7 rPJ7 false)))
def cPJ : Code := (Code.seq (Code.region 0 rPJ0 false) (Code.seq (Code.region 1 rPJ1 false) (Code.seq (Code.region 2 rPJ2 false) (Code.seq (Code.seq (Code.region 3 rPJ3 false) (Code.cond (Operand.tmp 36) (Code.seq (Code.region 4 rPJ4 false) Code.ret) Code.skip)) (Code.seq (Code.seq (Code.region 5 rPJ5 false) (Code.block 0 (Code.loop cPJ1))) (Code.seq (Code.region 10 rPJ10 false) Code.ret))))))
structure IPJ (k : Nat) (x : ByteArray) (sl : Value) (a : Act) : Prop where
  size : a.tmps.size = 58
  defers : a.defers = []
  s0 : a.eval (.tmp 0) = .int .i64 (k : Int)
  s3 : a.eval (.tmp 3) = sl
  s9 : a.eval (.tmp 9) = .int .i64 128
  s10 : a.eval (.tmp 10) = .string x
theorem IPJ.keep {k : Nat} {x : ByteArray} {sl : Value} {a0 a : Act} {env : List (Nat × Value)} (h : IPJ k x sl a0) (f : Fe a0 env a) (h0 : look env 0 (a0.eval (.tmp 0)) = a0.eval (.tmp 0)) (h3 : look env 3 (a0.eval (.tmp 3)) = a0.eval (.tmp 3)) (h9 : look env 9 (a0.eval (.tmp 9)) = a0.eval (.tmp 9)) (h10 : look env 10 (a0.eval (.tmp 10)) = a0.eval (.tmp 10)) : IPJ k x sl a :=
  ⟨f.size.trans h.size, f.defers.trans h.defers, ((f.at_ 0).trans h0).trans h.s0, ((f.at_ 3).trans h3).trans h.s3, ((f.at_ 9).trans h9).trans h.s9, ((f.at_ 10).trans h10).trans h.s10⟩
set_option maxRecDepth 100000 in
theorem pjT {k n i yc g A B : Nat} {x s : ByteArray} {Q : Exit → Act → World → Prop} (a0 : Act) (wr : World) (I0 : IPJ k x (.slice (some ⟨g, 0, none⟩) n yc) a0) (h11 : a0.eval (.tmp 11) = .int .i64 (i : Int)) (hi : i < n) (hn : n ≤ 1048576) (cx : wr.cell? ⟨g, i, none⟩ = some (.string s)) (hs : s.size = 1024) (hk : k < 8) (hA : A = k * 128) (hB : B = A + 128) (he : x = s.extract A B)
    (hQ : ∀ a : Act, a.defers = [] → a.eval (.tmp 8) = .bool true → Q .ret a wr) : cPJ1.wp Try.prog Q a0 wr := by
  have hii : (i : Int) < (n : Int) := by omega
  have w1 : IntKind.i64.wrap ((i : Int) + 1) = (i : Int) + 1 := by rw [IntKind.wrap_i64]; omega
  have wA : IntKind.i64.wrap ((k : Int) * 128) = (A : Int) := by rw [show (k : Int) * 128 = (A : Int) from by omega, IntKind.wrap_i64]; omega
  have wB : IntKind.i64.wrap ((A : Int) + 128) = (B : Int) := by rw [show (A : Int) + 128 = (B : Int) from by omega, IntKind.wrap_i64]; omega
  have hABi : (A : Int) ≤ (B : Int) := by omega
  have hBs : (B : Int) ≤ (s.size : Int) := by omega
  clear hA hB hs
  have fa0_0 := Fe.refl a0
  unfold cPJ1
  refine wp_seq (wp_seq ?_)
  refine wp_region_list ?_
  unfold rPJ6
  refine fa0_0.move 37 (.int .i64 (i : Int)) _ (Or.inl rfl) rfl (lb_ I0.size) (wanted_none rfl) ((fa0_0.at_ 11).trans h11) (fun a0_1 fa0_1 => ?_)
  clear fa0_0
  refine fa0_1.move 38 (.slice (some ⟨g, 0, none⟩) n yc) _ (Or.inl rfl) rfl (lb_ I0.size) (wanted_none rfl) ((fa0_1.at_ 3).trans I0.s3) (fun a0_2 fa0_2 => ?_)
  clear fa0_1
  have r_a0_3 : (execOp a0_2.eval { dst := some 39, op := Op.call { callee := Callee.builtin Builtin.len, args := #[Operand.tmp 38], argTypes := #[40] }, type := 3, pos := "outright.go:76", after := #[{ on := 1, ground := Ground.data }], guard := none }).run Try.prog (wr) = .ok (.value (.int .i64 (n : Int))) (wr) := by
    have e38 := (show a0_2.eval (.tmp 38) = .slice (some ⟨g, 0, none⟩) n yc from (fa0_2.at_ 38))
    clear fa0_2 hQ h11
    generalize a0_2.eval = ρ at *
    go_simp
  refine fa0_2.step 39 (.int .i64 (n : Int)) rfl (lb_ I0.size) (wanted_none rfl) r_a0_3 (fun a0_3 fa0_3 => ?_)
  clear r_a0_3
  clear fa0_2
  have r_a0_4 : (execOp a0_3.eval { dst := some 40, op := Op.binOp BinOp.lss 3 (Operand.tmp 37) (Operand.tmp 39) 3, type := 4, pos := "outright.go:76", after := #[{ on := 0, ground := Ground.data }, { on := 2, ground := Ground.data }], guard := none }).run Try.prog (wr) = .ok (.value (.bool true)) (wr) := by
    have e37 := (show a0_3.eval (.tmp 37) = .int .i64 (i : Int) from (fa0_3.at_ 37))
    have e39 := (show a0_3.eval (.tmp 39) = .int .i64 (n : Int) from (fa0_3.at_ 39))
    clear fa0_3 hQ h11
    generalize a0_3.eval = ρ at *
    go_simp
  refine fa0_3.step 40 (.bool true) rfl (lb_ I0.size) (wanted_none rfl) r_a0_4 (fun a0_4 fa0_4 => ?_)
  clear r_a0_4
  clear fa0_3
  refine wpList_nil ?_
  change Code.wp _ _ _ _ _
  refine wp_cond_true (show a0_4.eval (.tmp 40) = .bool true from (fa0_4.at_ 40)) (wp_skip ?_)
  change Code.wp _ _ _ _ _
  refine wp_seq (wp_block (wp_seq ?_))
  refine wp_region_list ?_
  unfold rPJ8
  refine fa0_4.move 43 (.string x) _ (Or.inl rfl) rfl (lb_ I0.size) (wanted_none rfl) ((fa0_4.at_ 10).trans I0.s10) (fun a0_5 fa0_5 => ?_)
  clear fa0_4
  refine fa0_5.move 44 (.slice (some ⟨g, 0, none⟩) n yc) _ (Or.inl rfl) rfl (lb_ I0.size) (wanted_none rfl) ((fa0_5.at_ 3).trans I0.s3) (fun a0_6 fa0_6 => ?_)
  clear fa0_5
  refine fa0_6.move 45 (.int .i64 (i : Int)) _ (Or.inl rfl) rfl (lb_ I0.size) (wanted_none rfl) ((fa0_6.at_ 11).trans h11) (fun a0_7 fa0_7 => ?_)
  clear fa0_6
  have r_a0_8 : (execOp a0_7.eval { dst := some 46, op := Op.indexAddr 40 (Operand.tmp 44) (Operand.tmp 45), type := 0, pos := "outright.go:77", after := #[{ on := 1, ground := Ground.data }, { on := 2, ground := Ground.data }], guard := none }).run Try.prog (wr) = .ok (.value (.pointer (some ⟨g, i, none⟩))) (wr) := by
    have e44 := (show a0_7.eval (.tmp 44) = .slice (some ⟨g, 0, none⟩) n yc from (fa0_7.at_ 44))
    have e45 := (show a0_7.eval (.tmp 45) = .int .i64 (i : Int) from (fa0_7.at_ 45))
    clear fa0_7 hQ h11
    generalize a0_7.eval = ρ at *
    go_simp
  refine fa0_7.step 46 (.pointer (some ⟨g, i, none⟩)) rfl (lb_ I0.size) (wanted_none rfl) r_a0_8 (fun a0_8 fa0_8 => ?_)
  clear r_a0_8
  clear fa0_7
  have r_a0_9 : (execOp a0_8.eval { dst := some 47, op := Op.load 9 (Operand.tmp 46), type := 9, pos := "outright.go:77", after := #[{ on := 3, ground := Ground.data }], guard := none }).run Try.prog (wr) = .ok (.value (.string s)) (wr) := by
    have e46 := (show a0_8.eval (.tmp 46) = .pointer (some ⟨g, i, none⟩) from (fa0_8.at_ 46))
    clear fa0_8 hQ h11
    generalize a0_8.eval = ρ at *
    go_simp
  refine fa0_8.step 47 (.string s) rfl (lb_ I0.size) (wanted_none rfl) r_a0_9 (fun a0_9 fa0_9 => ?_)
  clear r_a0_9
  clear fa0_8
  refine fa0_9.move 48 (.int .i64 (k : Int)) _ (Or.inl rfl) rfl (lb_ I0.size) (wanted_none rfl) ((fa0_9.at_ 0).trans I0.s0) (fun a0_10 fa0_10 => ?_)
  clear fa0_9
  refine fa0_10.move 49 (.int .i64 128) _ (Or.inl rfl) rfl (lb_ I0.size) (wanted_none rfl) ((fa0_10.at_ 9).trans I0.s9) (fun a0_11 fa0_11 => ?_)
  clear fa0_10
  have r_a0_12 : (execOp a0_11.eval { dst := some 50, op := Op.binOp BinOp.mul 3 (Operand.tmp 48) (Operand.tmp 49) 3, type := 3, pos := "outright.go:77", after := #[{ on := 5, ground := Ground.data }, { on := 6, ground := Ground.data }], guard := none }).run Try.prog (wr) = .ok (.value (.int .i64 (A : Int))) (wr) := by
    have e48 := (show a0_11.eval (.tmp 48) = .int .i64 (k : Int) from (fa0_11.at_ 48))
    have e49 := (show a0_11.eval (.tmp 49) = .int .i64 128 from (fa0_11.at_ 49))
    clear fa0_11 hQ h11
    generalize a0_11.eval = ρ at *
    go_simp
  refine fa0_11.step 50 (.int .i64 (A : Int)) rfl (lb_ I0.size) (wanted_none rfl) r_a0_12 (fun a0_12 fa0_12 => ?_)
  clear r_a0_12
  clear fa0_11
  refine fa0_12.move 51 (.int .i64 (k : Int)) _ (Or.inl rfl) rfl (lb_ I0.size) (wanted_none rfl) ((fa0_12.at_ 0).trans I0.s0) (fun a0_13 fa0_13 => ?_)
  clear fa0_12
  refine fa0_13.move 52 (.int .i64 128) _ (Or.inl rfl) rfl (lb_ I0.size) (wanted_none rfl) ((fa0_13.at_ 9).trans I0.s9) (fun a0_14 fa0_14 => ?_)
  clear fa0_13
  have r_a0_15 : (execOp a0_14.eval { dst := some 53, op := Op.binOp BinOp.mul 3 (Operand.tmp 51) (Operand.tmp 52) 3, type := 3, pos := "outright.go:77", after := #[{ on := 8, ground := Ground.data }, { on := 9, ground := Ground.data }], guard := none }).run Try.prog (wr) = .ok (.value (.int .i64 (A : Int))) (wr) := by
    have e51 := (show a0_14.eval (.tmp 51) = .int .i64 (k : Int) from (fa0_14.at_ 51))
    have e52 := (show a0_14.eval (.tmp 52) = .int .i64 128 from (fa0_14.at_ 52))
    clear fa0_14 hQ h11
    generalize a0_14.eval = ρ at *
    go_simp
  refine fa0_14.step 53 (.int .i64 (A : Int)) rfl (lb_ I0.size) (wanted_none rfl) r_a0_15 (fun a0_15 fa0_15 => ?_)
  clear r_a0_15
  clear fa0_14
  refine fa0_15.move 54 (.int .i64 128) _ (Or.inl rfl) rfl (lb_ I0.size) (wanted_none rfl) ((fa0_15.at_ 9).trans I0.s9) (fun a0_16 fa0_16 => ?_)
  clear fa0_15
  have r_a0_17 : (execOp a0_16.eval { dst := some 55, op := Op.binOp BinOp.add 3 (Operand.tmp 53) (Operand.tmp 54) 3, type := 3, pos := "outright.go:77", after := #[{ on := 10, ground := Ground.data }, { on := 11, ground := Ground.data }], guard := none }).run Try.prog (wr) = .ok (.value (.int .i64 (B : Int))) (wr) := by
    have e53 := (show a0_16.eval (.tmp 53) = .int .i64 (A : Int) from (fa0_16.at_ 53))
    have e54 := (show a0_16.eval (.tmp 54) = .int .i64 128 from (fa0_16.at_ 54))
    clear fa0_16 hQ h11
    generalize a0_16.eval = ρ at *
    go_simp
  refine fa0_16.step 55 (.int .i64 (B : Int)) rfl (lb_ I0.size) (wanted_none rfl) r_a0_17 (fun a0_17 fa0_17 => ?_)
  clear r_a0_17
  clear fa0_16
  have r_a0_18 : (execOp a0_17.eval { dst := some 56, op := Op.slice 9 (Operand.tmp 47) (some (Operand.tmp 50)) (some (Operand.tmp 55)) none, type := 9, pos := "outright.go:77", after := #[{ on := 4, ground := Ground.data }, { on := 7, ground := Ground.data }, { on := 12, ground := Ground.data }], guard := none }).run Try.prog (wr) = .ok (.value (.string (s.extract A B))) (wr) := by
    have e47 := (show a0_17.eval (.tmp 47) = .string s from (fa0_17.at_ 47))
    have e50 := (show a0_17.eval (.tmp 50) = .int .i64 (A : Int) from (fa0_17.at_ 50))
    have e55 := (show a0_17.eval (.tmp 55) = .int .i64 (B : Int) from (fa0_17.at_ 55))
    clear fa0_17 hQ h11
    generalize a0_17.eval = ρ at *
    go_simp
  refine fa0_17.step 56 (.string (s.extract A B)) rfl (lb_ I0.size) (wanted_none rfl) r_a0_18 (fun a0_18 fa0_18 => ?_)
  clear r_a0_18
  clear fa0_17
  have r_a0_19 : (execOp a0_18.eval { dst := some 57, op := Op.binOp BinOp.eql 9 (Operand.tmp 43) (Operand.tmp 56) 9, type := 4, pos := "outright.go:77", after := #[{ on := 0, ground := Ground.data }, { on := 13, ground := Ground.data }], guard := none }).run Try.prog (wr) = .ok (.value (.bool true)) (wr) := by
    have e43 := (show a0_18.eval (.tmp 43) = .string x from (fa0_18.at_ 43))
    have e56 := (show a0_18.eval (.tmp 56) = .string (s.extract A B) from (fa0_18.at_ 56))
    clear fa0_18 hQ h11
    generalize a0_18.eval = ρ at *
    go_simp
  refine fa0_18.step 57 (.bool true) rfl (lb_ I0.size) (wanted_none rfl) r_a0_19 (fun a0_19 fa0_19 => ?_)
  clear r_a0_19
  clear fa0_18
  refine wpList_nil ?_
  change Code.wp _ _ _ _ _
  refine wp_cond_true (show a0_19.eval (.tmp 57) = .bool true from (fa0_19.at_ 57)) (wp_seq ?_)
  refine wp_region_list ?_
  unfold rPJ9
  refine fa0_19.move 8 (.bool true) _ (Or.inr rfl) rfl (lb_ I0.size) (wanted_none rfl) rfl (fun a0_20 fa0_20 => ?_)
  clear fa0_19
  refine wpList_nil ?_
  change Code.wp _ _ _ _ _
  refine wp_ret ?_
  exact hQ a0_20 (fa0_20.defers.trans I0.defers) (show a0_20.eval (.tmp 8) = .bool true from (fa0_20.at_ 8))
set_option maxRecDepth 100000 in
theorem pjF {k n i yc g A B : Nat} {x s : ByteArray} {Q : Exit → Act → World → Prop} (a0 : Act) (wr : World) (I0 : IPJ k x (.slice (some ⟨g, 0, none⟩) n yc) a0) (h11 : a0.eval (.tmp 11) = .int .i64 (i : Int)) (hi : i < n) (hn : n ≤ 1048576) (cx : wr.cell? ⟨g, i, none⟩ = some (.string s)) (hs : s.size = 1024) (hk : k < 8) (hA : A = k * 128) (hB : B = A + 128) (he : ¬ x = s.extract A B)
    (hQ : ∀ a, IPJ k x (.slice (some ⟨g, 0, none⟩) n yc) a → a.eval (.tmp 11) = .int .i64 ((i : Int) + 1) → Q .normal a wr) : cPJ1.wp Try.prog Q a0 wr := by
  have hii : (i : Int) < (n : Int) := by omega
  have w1 : IntKind.i64.wrap ((i : Int) + 1) = (i : Int) + 1 := by rw [IntKind.wrap_i64]; omega
  have wA : IntKind.i64.wrap ((k : Int) * 128) = (A : Int) := by rw [show (k : Int) * 128 = (A : Int) from by omega, IntKind.wrap_i64]; omega
  have wB : IntKind.i64.wrap ((A : Int) + 128) = (B : Int) := by rw [show (A : Int) + 128 = (B : Int) from by omega, IntKind.wrap_i64]; omega
  have hABi : (A : Int) ≤ (B : Int) := by omega
  have hBs : (B : Int) ≤ (s.size : Int) := by omega
  clear hA hB hs
  have heL : ¬ x.toList = (s.extract A B).toList := fun e => he (tl_inj e)
  have fa0_0 := Fe.refl a0
  unfold cPJ1
  refine wp_seq (wp_seq ?_)
  refine wp_region_list ?_
  unfold rPJ6
  refine fa0_0.move 37 (.int .i64 (i : Int)) _ (Or.inl rfl) rfl (lb_ I0.size) (wanted_none rfl) ((fa0_0.at_ 11).trans h11) (fun a0_1 fa0_1 => ?_)
  clear fa0_0
  refine fa0_1.move 38 (.slice (some ⟨g, 0, none⟩) n yc) _ (Or.inl rfl) rfl (lb_ I0.size) (wanted_none rfl) ((fa0_1.at_ 3).trans I0.s3) (fun a0_2 fa0_2 => ?_)
  clear fa0_1
  have r_a0_3 : (execOp a0_2.eval { dst := some 39, op := Op.call { callee := Callee.builtin Builtin.len, args := #[Operand.tmp 38], argTypes := #[40] }, type := 3, pos := "outright.go:76", after := #[{ on := 1, ground := Ground.data }], guard := none }).run Try.prog (wr) = .ok (.value (.int .i64 (n : Int))) (wr) := by
    have e38 := (show a0_2.eval (.tmp 38) = .slice (some ⟨g, 0, none⟩) n yc from (fa0_2.at_ 38))
    clear fa0_2 hQ h11
    generalize a0_2.eval = ρ at *
    go_simp
  refine fa0_2.step 39 (.int .i64 (n : Int)) rfl (lb_ I0.size) (wanted_none rfl) r_a0_3 (fun a0_3 fa0_3 => ?_)
  clear r_a0_3
  clear fa0_2
  have r_a0_4 : (execOp a0_3.eval { dst := some 40, op := Op.binOp BinOp.lss 3 (Operand.tmp 37) (Operand.tmp 39) 3, type := 4, pos := "outright.go:76", after := #[{ on := 0, ground := Ground.data }, { on := 2, ground := Ground.data }], guard := none }).run Try.prog (wr) = .ok (.value (.bool true)) (wr) := by
    have e37 := (show a0_3.eval (.tmp 37) = .int .i64 (i : Int) from (fa0_3.at_ 37))
    have e39 := (show a0_3.eval (.tmp 39) = .int .i64 (n : Int) from (fa0_3.at_ 39))
    clear fa0_3 hQ h11
    generalize a0_3.eval = ρ at *
    go_simp
  refine fa0_3.step 40 (.bool true) rfl (lb_ I0.size) (wanted_none rfl) r_a0_4 (fun a0_4 fa0_4 => ?_)
  clear r_a0_4
  clear fa0_3
  refine wpList_nil ?_
  change Code.wp _ _ _ _ _
  refine wp_cond_true (show a0_4.eval (.tmp 40) = .bool true from (fa0_4.at_ 40)) (wp_skip ?_)
  change Code.wp _ _ _ _ _
  refine wp_seq (wp_block (wp_seq ?_))
  refine wp_region_list ?_
  unfold rPJ8
  refine fa0_4.move 43 (.string x) _ (Or.inl rfl) rfl (lb_ I0.size) (wanted_none rfl) ((fa0_4.at_ 10).trans I0.s10) (fun a0_5 fa0_5 => ?_)
  clear fa0_4
  refine fa0_5.move 44 (.slice (some ⟨g, 0, none⟩) n yc) _ (Or.inl rfl) rfl (lb_ I0.size) (wanted_none rfl) ((fa0_5.at_ 3).trans I0.s3) (fun a0_6 fa0_6 => ?_)
  clear fa0_5
  refine fa0_6.move 45 (.int .i64 (i : Int)) _ (Or.inl rfl) rfl (lb_ I0.size) (wanted_none rfl) ((fa0_6.at_ 11).trans h11) (fun a0_7 fa0_7 => ?_)
  clear fa0_6
  have r_a0_8 : (execOp a0_7.eval { dst := some 46, op := Op.indexAddr 40 (Operand.tmp 44) (Operand.tmp 45), type := 0, pos := "outright.go:77", after := #[{ on := 1, ground := Ground.data }, { on := 2, ground := Ground.data }], guard := none }).run Try.prog (wr) = .ok (.value (.pointer (some ⟨g, i, none⟩))) (wr) := by
    have e44 := (show a0_7.eval (.tmp 44) = .slice (some ⟨g, 0, none⟩) n yc from (fa0_7.at_ 44))
    have e45 := (show a0_7.eval (.tmp 45) = .int .i64 (i : Int) from (fa0_7.at_ 45))
    clear fa0_7 hQ h11
    generalize a0_7.eval = ρ at *
    go_simp
  refine fa0_7.step 46 (.pointer (some ⟨g, i, none⟩)) rfl (lb_ I0.size) (wanted_none rfl) r_a0_8 (fun a0_8 fa0_8 => ?_)
  clear r_a0_8
  clear fa0_7
  have r_a0_9 : (execOp a0_8.eval { dst := some 47, op := Op.load 9 (Operand.tmp 46), type := 9, pos := "outright.go:77", after := #[{ on := 3, ground := Ground.data }], guard := none }).run Try.prog (wr) = .ok (.value (.string s)) (wr) := by
    have e46 := (show a0_8.eval (.tmp 46) = .pointer (some ⟨g, i, none⟩) from (fa0_8.at_ 46))
    clear fa0_8 hQ h11
    generalize a0_8.eval = ρ at *
    go_simp
  refine fa0_8.step 47 (.string s) rfl (lb_ I0.size) (wanted_none rfl) r_a0_9 (fun a0_9 fa0_9 => ?_)
  clear r_a0_9
  clear fa0_8
  refine fa0_9.move 48 (.int .i64 (k : Int)) _ (Or.inl rfl) rfl (lb_ I0.size) (wanted_none rfl) ((fa0_9.at_ 0).trans I0.s0) (fun a0_10 fa0_10 => ?_)
  clear fa0_9
  refine fa0_10.move 49 (.int .i64 128) _ (Or.inl rfl) rfl (lb_ I0.size) (wanted_none rfl) ((fa0_10.at_ 9).trans I0.s9) (fun a0_11 fa0_11 => ?_)
  clear fa0_10
  have r_a0_12 : (execOp a0_11.eval { dst := some 50, op := Op.binOp BinOp.mul 3 (Operand.tmp 48) (Operand.tmp 49) 3, type := 3, pos := "outright.go:77", after := #[{ on := 5, ground := Ground.data }, { on := 6, ground := Ground.data }], guard := none }).run Try.prog (wr) = .ok (.value (.int .i64 (A : Int))) (wr) := by
    have e48 := (show a0_11.eval (.tmp 48) = .int .i64 (k : Int) from (fa0_11.at_ 48))
    have e49 := (show a0_11.eval (.tmp 49) = .int .i64 128 from (fa0_11.at_ 49))
    clear fa0_11 hQ h11
    generalize a0_11.eval = ρ at *
    go_simp
  refine fa0_11.step 50 (.int .i64 (A : Int)) rfl (lb_ I0.size) (wanted_none rfl) r_a0_12 (fun a0_12 fa0_12 => ?_)
  clear r_a0_12
  clear fa0_11
  refine fa0_12.move 51 (.int .i64 (k : Int)) _ (Or.inl rfl) rfl (lb_ I0.size) (wanted_none rfl) ((fa0_12.at_ 0).trans I0.s0) (fun a0_13 fa0_13 => ?_)
  clear fa0_12
  refine fa0_13.move 52 (.int .i64 128) _ (Or.inl rfl) rfl (lb_ I0.size) (wanted_none rfl) ((fa0_13.at_ 9).trans I0.s9) (fun a0_14 fa0_14 => ?_)
  clear fa0_13
  have r_a0_15 : (execOp a0_14.eval { dst := some 53, op := Op.binOp BinOp.mul 3 (Operand.tmp 51) (Operand.tmp 52) 3, type := 3, pos := "outright.go:77", after := #[{ on := 8, ground := Ground.data }, { on := 9, ground := Ground.data }], guard := none }).run Try.prog (wr) = .ok (.value (.int .i64 (A : Int))) (wr) := by
    have e51 := (show a0_14.eval (.tmp 51) = .int .i64 (k : Int) from (fa0_14.at_ 51))
    have e52 := (show a0_14.eval (.tmp 52) = .int .i64 128 from (fa0_14.at_ 52))
    clear fa0_14 hQ h11
    generalize a0_14.eval = ρ at *
    go_simp
  refine fa0_14.step 53 (.int .i64 (A : Int)) rfl (lb_ I0.size) (wanted_none rfl) r_a0_15 (fun a0_15 fa0_15 => ?_)
  clear r_a0_15
  clear fa0_14
  refine fa0_15.move 54 (.int .i64 128) _ (Or.inl rfl) rfl (lb_ I0.size) (wanted_none rfl) ((fa0_15.at_ 9).trans I0.s9) (fun a0_16 fa0_16 => ?_)
  clear fa0_15
  have r_a0_17 : (execOp a0_16.eval { dst := some 55, op := Op.binOp BinOp.add 3 (Operand.tmp 53) (Operand.tmp 54) 3, type := 3, pos := "outright.go:77", after := #[{ on := 10, ground := Ground.data }, { on := 11, ground := Ground.data }], guard := none }).run Try.prog (wr) = .ok (.value (.int .i64 (B : Int))) (wr) := by
    have e53 := (show a0_16.eval (.tmp 53) = .int .i64 (A : Int) from (fa0_16.at_ 53))
    have e54 := (show a0_16.eval (.tmp 54) = .int .i64 128 from (fa0_16.at_ 54))
    clear fa0_16 hQ h11
    generalize a0_16.eval = ρ at *
    go_simp
  refine fa0_16.step 55 (.int .i64 (B : Int)) rfl (lb_ I0.size) (wanted_none rfl) r_a0_17 (fun a0_17 fa0_17 => ?_)
  clear r_a0_17
  clear fa0_16
  have r_a0_18 : (execOp a0_17.eval { dst := some 56, op := Op.slice 9 (Operand.tmp 47) (some (Operand.tmp 50)) (some (Operand.tmp 55)) none, type := 9, pos := "outright.go:77", after := #[{ on := 4, ground := Ground.data }, { on := 7, ground := Ground.data }, { on := 12, ground := Ground.data }], guard := none }).run Try.prog (wr) = .ok (.value (.string (s.extract A B))) (wr) := by
    have e47 := (show a0_17.eval (.tmp 47) = .string s from (fa0_17.at_ 47))
    have e50 := (show a0_17.eval (.tmp 50) = .int .i64 (A : Int) from (fa0_17.at_ 50))
    have e55 := (show a0_17.eval (.tmp 55) = .int .i64 (B : Int) from (fa0_17.at_ 55))
    clear fa0_17 hQ h11
    generalize a0_17.eval = ρ at *
    go_simp
  refine fa0_17.step 56 (.string (s.extract A B)) rfl (lb_ I0.size) (wanted_none rfl) r_a0_18 (fun a0_18 fa0_18 => ?_)
  clear r_a0_18
  clear fa0_17
  have r_a0_19 : (execOp a0_18.eval { dst := some 57, op := Op.binOp BinOp.eql 9 (Operand.tmp 43) (Operand.tmp 56) 9, type := 4, pos := "outright.go:77", after := #[{ on := 0, ground := Ground.data }, { on := 13, ground := Ground.data }], guard := none }).run Try.prog (wr) = .ok (.value (.bool false)) (wr) := by
    have e43 := (show a0_18.eval (.tmp 43) = .string x from (fa0_18.at_ 43))
    have e56 := (show a0_18.eval (.tmp 56) = .string (s.extract A B) from (fa0_18.at_ 56))
    clear fa0_18 hQ h11
    generalize a0_18.eval = ρ at *
    go_simp
  refine fa0_18.step 57 (.bool false) rfl (lb_ I0.size) (wanted_none rfl) r_a0_19 (fun a0_19 fa0_19 => ?_)
  clear r_a0_19
  clear fa0_18
  refine wpList_nil ?_
  change Code.wp _ _ _ _ _
  refine wp_cond_false (show a0_19.eval (.tmp 57) = .bool false from (fa0_19.at_ 57)) (wp_skip ?_)
  change Code.wp _ _ _ _ _
  refine wp_region_list ?_
  unfold rPJ7
  refine fa0_19.move 41 (.int .i64 (i : Int)) _ (Or.inl rfl) rfl (lb_ I0.size) (wanted_none rfl) ((fa0_19.at_ 11).trans h11) (fun a0_20 fa0_20 => ?_)
  clear fa0_19
  have r_a0_21 : (execOp a0_20.eval { dst := some 42, op := Op.binOp BinOp.add 3 (Operand.tmp 41) (Operand.const (Value.int IntKind.i64 1)) 3, type := 3, pos := "outright.go:76", after := #[{ on := 0, ground := Ground.data }], guard := none }).run Try.prog (wr) = .ok (.value (.int .i64 ((i : Int) + 1))) (wr) := by
    have kc : ∀ v, a0_20.eval (.const v) = v := fun _ => rfl
    have e41 := (show a0_20.eval (.tmp 41) = .int .i64 (i : Int) from (fa0_20.at_ 41))
    clear fa0_20 hQ h11
    generalize a0_20.eval = ρ at *
    go_simp
  refine fa0_20.step 42 (.int .i64 ((i : Int) + 1)) rfl (lb_ I0.size) (wanted_none rfl) r_a0_21 (fun a0_21 fa0_21 => ?_)
  clear r_a0_21
  clear fa0_20
  refine fa0_21.move 11 (.int .i64 ((i : Int) + 1)) _ (Or.inr rfl) rfl (lb_ I0.size) (wanted_none rfl) (fa0_21.at_ 42) (fun a0_22 fa0_22 => ?_)
  clear fa0_21
  refine wpList_nil ?_
  exact hQ a0_22 (I0.keep fa0_22 rfl rfl rfl rfl) (show a0_22.eval (.tmp 11) = .int .i64 ((i : Int) + 1) from (fa0_22.at_ 11))
theorem pjL {k yc A B : Nat} {x : ByteArray} {ya : Option Addr} {L : List ByteArray} {Q : Exit → Act → World → Prop} (a0 : Act) (w : World) (I0 : IPJ k x (.slice ya L.length yc) a0) (h11 : a0.eval (.tmp 11) = .int .i64 ((0 : Nat) : Int)) (hl : L.length ≤ 1048576) (hy : w.ownsRow 0 9 1 (.slice ya L.length yc) L.length (scells L)) (hL : ∀ s ∈ L, s.size = 1024) (hk : k < 8) (hA : A = k * 128) (hB : B = A + 128)
    (hx : ∃ s ∈ L, x = s.extract A B) (hR : ∀ a : Act, a.defers = [] → a.eval (.tmp 8) = .bool true → Q .ret a w) : (Code.loop cPJ1).wp Try.prog Q a0 w := by
  refine wp_loop (fun a W => W = w ∧ IPJ k x (.slice ya L.length yc) a ∧ ∃ i : Nat, i ≤ L.length ∧ a.eval (.tmp 11) = .int .i64 (i : Int) ∧ ∀ s ∈ L.take i, ¬ x = s.extract A B) (fun a _ => L.length - kOf a 11) ⟨rfl, I0, 0, Nat.zero_le _, h11, fun s hs => by simp at hs⟩ ?_
  rintro a W ⟨rfl, I1, i, hi, g5, hno⟩
  by_cases hgo : i < L.length
  · obtain ⟨s, hs⟩ : ∃ s, L[i]? = some s := ⟨_, List.getElem?_eq_getElem hgo⟩
    have hsc : (scells L)[i]? = some (.string s) := by unfold scells; rw [List.getElem?_map, hs]; rfl
    obtain ⟨gx, rfl, _⟩ := own_some hy (by omega)
    by_cases he : x = s.extract A B
    · exact pjT (Q := Exit.then _ Q) a W I1 g5 hgo hl (own_cell hy hsc) (hL s (List.mem_of_getElem? hs)) hk hA hB he (fun a' hd h8 => hR a' hd h8)
    · refine pjF (Q := Exit.then _ Q) a W I1 g5 hgo hl (own_cell hy hsc) (hL s (List.mem_of_getElem? hs)) hk hA hB he (fun a' i3 h1 => ?_)
      have h4 : a'.eval (.tmp 11) = .int .i64 ((i + 1 : Nat) : Int) := h1
      refine ⟨⟨rfl, i3, i + 1, hgo, h4, fun t ht => ?_⟩, ?_⟩
      · rw [List.take_add_one, hs, Option.toList_some] at ht
        rcases List.mem_append.1 ht with e | e
        · exact hno t e
        · rw [List.mem_singleton] at e; rw [e]; exact he
      show L.length - kOf a' 11 < L.length - kOf a 11
      rw [kOf_eq h4, kOf_eq g5]
      omega
  · obtain rfl : L.length = i := by omega
    obtain ⟨s, hs, he⟩ := hx
    rw [List.take_length] at hno
    exact absurd he (hno s hs)
set_option maxRecDepth 100000 in
theorem one_true {k yc A B : Nat} {ya : Option Addr} {got old : ByteArray} {L : List ByteArray} (w : World) (hg : got.size = 1024) (ho : old.size = 1024) (hl : L.length ≤ 1048576) (hy : w.ownsRow 0 9 1 (.slice ya L.length yc) L.length (scells L)) (hL : ∀ s ∈ L, s.size = 1024) (hk : k < 8) (hA : A = k * 128) (hB : B = A + 128)
    (h : got.extract A B = old.extract A B ∨ ∃ s ∈ L, got.extract A B = s.extract A B) :
    Calls Try.prog 20 #[.int .i64 (k : Int), .string got, .string old, .slice ya L.length yc] w fun e w' => e = .returned (.bool true) ∧ w' = w := by
  have wA : IntKind.i64.wrap ((k : Int) * 128) = (A : Int) := by rw [show (k : Int) * 128 = (A : Int) from by omega, IntKind.wrap_i64]; omega
  have wB : IntKind.i64.wrap ((A : Int) + 128) = (B : Int) := by rw [show (A : Int) + 128 = (B : Int) from by omega, IntKind.wrap_i64]; omega
  have hABi : (A : Int) ≤ (B : Int) := by omega
  have hBg : (B : Int) ≤ 1024 := by omega
  have w128 : IntKind.i64.wrap 128 = 128 := by decide
  have hBo : (B : Int) ≤ (old.size : Int) := by omega
  have hgi : (got.size : Int) = 1024 := by omega
  have hkH : Hid (k < 8) := hk
  have hAH : Hid (A = k * 128) := hA
  have hBH : Hid (B = A + 128) := hB
  clear hg ho hk hA hB
  refine calls_abs (c := cPJ) Try.func20 (by kernel_rfl) 58 rfl (by simp) (fun a0 hsz hd ha => ?_)
  have fa0_0 := Fe.refl a0
  unfold cPJ
  refine wp_seq ?_
  refine wp_region_list ?_
  unfold rPJ0
  refine fa0_0.move 8 (.bool false) _ (Or.inr rfl) rfl (lb_ hsz) (wanted_none rfl) rfl (fun a0_1 fa0_1 => ?_)
  clear fa0_0
  refine wpList_nil ?_
  change Code.wp _ _ _ _ _
  refine wp_seq ?_
  refine wp_region_list ?_
  unfold rPJ1
  refine fa0_1.move 12 (.string got) _ (Or.inl rfl) rfl (lb_ hsz) (wanted_none rfl) ((fa0_1.at_ 1).trans (ha 1 _ rfl)) (fun a0_2 fa0_2 => ?_)
  clear fa0_1
  have r_a0_3 : (execOp a0_2.eval { dst := some 13, op := Op.call { callee := Callee.builtin Builtin.len, args := #[Operand.tmp 12], argTypes := #[9] }, type := 3, pos := "outright.go:71", after := #[{ on := 0, ground := Ground.data }], guard := none }).run Try.prog (w) = .ok (.value (.int .i64 1024)) (w) := by
    have e12 := (show a0_2.eval (.tmp 12) = .string got from (fa0_2.at_ 12))
    clear fa0_2 ha hy hL h
    generalize a0_2.eval = ρ at *
    go_simp
  refine fa0_2.step 13 (.int .i64 1024) rfl (lb_ hsz) (wanted_none rfl) r_a0_3 (fun a0_3 fa0_3 => ?_)
  clear r_a0_3
  clear fa0_2
  have r_a0_4 : (execOp a0_3.eval { dst := some 14, op := Op.binOp BinOp.quo 3 (Operand.tmp 13) (Operand.const (Value.int IntKind.i64 8)) 3, type := 3, pos := "outright.go:71", after := #[{ on := 1, ground := Ground.data }], guard := none }).run Try.prog (w) = .ok (.value (.int .i64 128)) (w) := by
    have kc : ∀ v, a0_3.eval (.const v) = v := fun _ => rfl
    have e13 := (show a0_3.eval (.tmp 13) = .int .i64 1024 from (fa0_3.at_ 13))
    clear fa0_3 ha hy hL h
    generalize a0_3.eval = ρ at *
    go_simp
  refine fa0_3.step 14 (.int .i64 128) rfl (lb_ hsz) (wanted_none rfl) r_a0_4 (fun a0_4 fa0_4 => ?_)
  clear r_a0_4
  clear fa0_3
  refine fa0_4.move 9 (.int .i64 128) _ (Or.inr rfl) rfl (lb_ hsz) (wanted_none rfl) (fa0_4.at_ 14) (fun a0_5 fa0_5 => ?_)
  clear fa0_4
  refine wpList_nil ?_
  change Code.wp _ _ _ _ _
  refine wp_seq ?_
  refine wp_region_list ?_
  unfold rPJ2
  refine fa0_5.move 15 (.string got) _ (Or.inl rfl) rfl (lb_ hsz) (wanted_none rfl) ((fa0_5.at_ 1).trans (ha 1 _ rfl)) (fun a0_6 fa0_6 => ?_)
  clear fa0_5
  refine fa0_6.move 16 (.int .i64 (k : Int)) _ (Or.inl rfl) rfl (lb_ hsz) (wanted_none rfl) ((fa0_6.at_ 0).trans (ha 0 _ rfl)) (fun a0_7 fa0_7 => ?_)
  clear fa0_6
  refine fa0_7.move 17 (.int .i64 128) _ (Or.inl rfl) rfl (lb_ hsz) (wanted_none rfl) (fa0_7.at_ 9) (fun a0_8 fa0_8 => ?_)
  clear fa0_7
  have r_a0_9 : (execOp a0_8.eval { dst := some 18, op := Op.binOp BinOp.mul 3 (Operand.tmp 16) (Operand.tmp 17) 3, type := 3, pos := "outright.go:72", after := #[{ on := 1, ground := Ground.data }, { on := 2, ground := Ground.data }], guard := none }).run Try.prog (w) = .ok (.value (.int .i64 (A : Int))) (w) := by
    have e16 := (show a0_8.eval (.tmp 16) = .int .i64 (k : Int) from (fa0_8.at_ 16))
    have e17 := (show a0_8.eval (.tmp 17) = .int .i64 128 from (fa0_8.at_ 17))
    clear fa0_8 ha hy hL h
    generalize a0_8.eval = ρ at *
    go_simp
  refine fa0_8.step 18 (.int .i64 (A : Int)) rfl (lb_ hsz) (wanted_none rfl) r_a0_9 (fun a0_9 fa0_9 => ?_)
  clear r_a0_9
  clear fa0_8
  refine fa0_9.move 19 (.int .i64 (k : Int)) _ (Or.inl rfl) rfl (lb_ hsz) (wanted_none rfl) ((fa0_9.at_ 0).trans (ha 0 _ rfl)) (fun a0_10 fa0_10 => ?_)
  clear fa0_9
  refine fa0_10.move 20 (.int .i64 128) _ (Or.inl rfl) rfl (lb_ hsz) (wanted_none rfl) (fa0_10.at_ 9) (fun a0_11 fa0_11 => ?_)
  clear fa0_10
  have r_a0_12 : (execOp a0_11.eval { dst := some 21, op := Op.binOp BinOp.mul 3 (Operand.tmp 19) (Operand.tmp 20) 3, type := 3, pos := "outright.go:72", after := #[{ on := 4, ground := Ground.data }, { on := 5, ground := Ground.data }], guard := none }).run Try.prog (w) = .ok (.value (.int .i64 (A : Int))) (w) := by
    have e19 := (show a0_11.eval (.tmp 19) = .int .i64 (k : Int) from (fa0_11.at_ 19))
    have e20 := (show a0_11.eval (.tmp 20) = .int .i64 128 from (fa0_11.at_ 20))
    clear fa0_11 ha hy hL h
    generalize a0_11.eval = ρ at *
    go_simp
  refine fa0_11.step 21 (.int .i64 (A : Int)) rfl (lb_ hsz) (wanted_none rfl) r_a0_12 (fun a0_12 fa0_12 => ?_)
  clear r_a0_12
  clear fa0_11
  refine fa0_12.move 22 (.int .i64 128) _ (Or.inl rfl) rfl (lb_ hsz) (wanted_none rfl) (fa0_12.at_ 9) (fun a0_13 fa0_13 => ?_)
  clear fa0_12
  have r_a0_14 : (execOp a0_13.eval { dst := some 23, op := Op.binOp BinOp.add 3 (Operand.tmp 21) (Operand.tmp 22) 3, type := 3, pos := "outright.go:72", after := #[{ on := 6, ground := Ground.data }, { on := 7, ground := Ground.data }], guard := none }).run Try.prog (w) = .ok (.value (.int .i64 (B : Int))) (w) := by
    have e21 := (show a0_13.eval (.tmp 21) = .int .i64 (A : Int) from (fa0_13.at_ 21))
    have e22 := (show a0_13.eval (.tmp 22) = .int .i64 128 from (fa0_13.at_ 22))
    clear fa0_13 ha hy hL h
    generalize a0_13.eval = ρ at *
    go_simp
  refine fa0_13.step 23 (.int .i64 (B : Int)) rfl (lb_ hsz) (wanted_none rfl) r_a0_14 (fun a0_14 fa0_14 => ?_)
  clear r_a0_14
  clear fa0_13
  have r_a0_15 : (execOp a0_14.eval { dst := some 24, op := Op.slice 9 (Operand.tmp 15) (some (Operand.tmp 18)) (some (Operand.tmp 23)) none, type := 9, pos := "outright.go:72", after := #[{ on := 0, ground := Ground.data }, { on := 3, ground := Ground.data }, { on := 8, ground := Ground.data }], guard := none }).run Try.prog (w) = .ok (.value (.string (got.extract A B))) (w) := by
    have e15 := (show a0_14.eval (.tmp 15) = .string got from (fa0_14.at_ 15))
    have e18 := (show a0_14.eval (.tmp 18) = .int .i64 (A : Int) from (fa0_14.at_ 18))
    have e23 := (show a0_14.eval (.tmp 23) = .int .i64 (B : Int) from (fa0_14.at_ 23))
    clear fa0_14 ha hy hL h
    generalize a0_14.eval = ρ at *
    go_simp
  refine fa0_14.step 24 (.string (got.extract A B)) rfl (lb_ hsz) (wanted_none rfl) r_a0_15 (fun a0_15 fa0_15 => ?_)
  clear r_a0_15
  clear fa0_14
  refine fa0_15.move 10 (.string (got.extract A B)) _ (Or.inr rfl) rfl (lb_ hsz) (wanted_none rfl) (fa0_15.at_ 24) (fun a0_16 fa0_16 => ?_)
  clear fa0_15
  refine wpList_nil ?_
  change Code.wp _ _ _ _ _
  refine wp_seq (wp_seq ?_)
  by_cases he : got.extract A B = old.extract A B
  · refine wp_region_list ?_
    unfold rPJ3
    refine fa0_16.move 25 (.string (got.extract A B)) _ (Or.inl rfl) rfl (lb_ hsz) (wanted_none rfl) (fa0_16.at_ 10) (fun a0_17 fa0_17 => ?_)
    clear fa0_16
    refine fa0_17.move 26 (.string old) _ (Or.inl rfl) rfl (lb_ hsz) (wanted_none rfl) ((fa0_17.at_ 2).trans (ha 2 _ rfl)) (fun a0_18 fa0_18 => ?_)
    clear fa0_17
    refine fa0_18.move 27 (.int .i64 (k : Int)) _ (Or.inl rfl) rfl (lb_ hsz) (wanted_none rfl) ((fa0_18.at_ 0).trans (ha 0 _ rfl)) (fun a0_19 fa0_19 => ?_)
    clear fa0_18
    refine fa0_19.move 28 (.int .i64 128) _ (Or.inl rfl) rfl (lb_ hsz) (wanted_none rfl) (fa0_19.at_ 9) (fun a0_20 fa0_20 => ?_)
    clear fa0_19
    have r_a0_21 : (execOp a0_20.eval { dst := some 29, op := Op.binOp BinOp.mul 3 (Operand.tmp 27) (Operand.tmp 28) 3, type := 3, pos := "outright.go:73", after := #[{ on := 2, ground := Ground.data }, { on := 3, ground := Ground.data }], guard := none }).run Try.prog (w) = .ok (.value (.int .i64 (A : Int))) (w) := by
      have e27 := (show a0_20.eval (.tmp 27) = .int .i64 (k : Int) from (fa0_20.at_ 27))
      have e28 := (show a0_20.eval (.tmp 28) = .int .i64 128 from (fa0_20.at_ 28))
      clear fa0_20 ha hy hL h
      generalize a0_20.eval = ρ at *
      go_simp
    refine fa0_20.step 29 (.int .i64 (A : Int)) rfl (lb_ hsz) (wanted_none rfl) r_a0_21 (fun a0_21 fa0_21 => ?_)
    clear r_a0_21
    clear fa0_20
    refine fa0_21.move 30 (.int .i64 (k : Int)) _ (Or.inl rfl) rfl (lb_ hsz) (wanted_none rfl) ((fa0_21.at_ 0).trans (ha 0 _ rfl)) (fun a0_22 fa0_22 => ?_)
    clear fa0_21
    refine fa0_22.move 31 (.int .i64 128) _ (Or.inl rfl) rfl (lb_ hsz) (wanted_none rfl) (fa0_22.at_ 9) (fun a0_23 fa0_23 => ?_)
    clear fa0_22
    have r_a0_24 : (execOp a0_23.eval { dst := some 32, op := Op.binOp BinOp.mul 3 (Operand.tmp 30) (Operand.tmp 31) 3, type := 3, pos := "outright.go:73", after := #[{ on := 5, ground := Ground.data }, { on := 6, ground := Ground.data }], guard := none }).run Try.prog (w) = .ok (.value (.int .i64 (A : Int))) (w) := by
      have e30 := (show a0_23.eval (.tmp 30) = .int .i64 (k : Int) from (fa0_23.at_ 30))
      have e31 := (show a0_23.eval (.tmp 31) = .int .i64 128 from (fa0_23.at_ 31))
      clear fa0_23 ha hy hL h
      generalize a0_23.eval = ρ at *
      go_simp
    refine fa0_23.step 32 (.int .i64 (A : Int)) rfl (lb_ hsz) (wanted_none rfl) r_a0_24 (fun a0_24 fa0_24 => ?_)
    clear r_a0_24
    clear fa0_23
    refine fa0_24.move 33 (.int .i64 128) _ (Or.inl rfl) rfl (lb_ hsz) (wanted_none rfl) (fa0_24.at_ 9) (fun a0_25 fa0_25 => ?_)
    clear fa0_24
    have r_a0_26 : (execOp a0_25.eval { dst := some 34, op := Op.binOp BinOp.add 3 (Operand.tmp 32) (Operand.tmp 33) 3, type := 3, pos := "outright.go:73", after := #[{ on := 7, ground := Ground.data }, { on := 8, ground := Ground.data }], guard := none }).run Try.prog (w) = .ok (.value (.int .i64 (B : Int))) (w) := by
      have e32 := (show a0_25.eval (.tmp 32) = .int .i64 (A : Int) from (fa0_25.at_ 32))
      have e33 := (show a0_25.eval (.tmp 33) = .int .i64 128 from (fa0_25.at_ 33))
      clear fa0_25 ha hy hL h
      generalize a0_25.eval = ρ at *
      go_simp
    refine fa0_25.step 34 (.int .i64 (B : Int)) rfl (lb_ hsz) (wanted_none rfl) r_a0_26 (fun a0_26 fa0_26 => ?_)
    clear r_a0_26
    clear fa0_25
    have r_a0_27 : (execOp a0_26.eval { dst := some 35, op := Op.slice 9 (Operand.tmp 26) (some (Operand.tmp 29)) (some (Operand.tmp 34)) none, type := 9, pos := "outright.go:73", after := #[{ on := 1, ground := Ground.data }, { on := 4, ground := Ground.data }, { on := 9, ground := Ground.data }], guard := none }).run Try.prog (w) = .ok (.value (.string (old.extract A B))) (w) := by
      have e26 := (show a0_26.eval (.tmp 26) = .string old from (fa0_26.at_ 26))
      have e29 := (show a0_26.eval (.tmp 29) = .int .i64 (A : Int) from (fa0_26.at_ 29))
      have e34 := (show a0_26.eval (.tmp 34) = .int .i64 (B : Int) from (fa0_26.at_ 34))
      clear fa0_26 ha hy hL h
      generalize a0_26.eval = ρ at *
      go_simp
    refine fa0_26.step 35 (.string (old.extract A B)) rfl (lb_ hsz) (wanted_none rfl) r_a0_27 (fun a0_27 fa0_27 => ?_)
    clear r_a0_27
    clear fa0_26
    have r_a0_28 : (execOp a0_27.eval { dst := some 36, op := Op.binOp BinOp.eql 9 (Operand.tmp 25) (Operand.tmp 35) 9, type := 4, pos := "outright.go:73", after := #[{ on := 0, ground := Ground.data }, { on := 10, ground := Ground.data }], guard := none }).run Try.prog (w) = .ok (.value (.bool true)) (w) := by
      have e25 := (show a0_27.eval (.tmp 25) = .string (got.extract A B) from (fa0_27.at_ 25))
      have e35 := (show a0_27.eval (.tmp 35) = .string (old.extract A B) from (fa0_27.at_ 35))
      clear fa0_27 ha hy hL h
      generalize a0_27.eval = ρ at *
      go_simp
    refine fa0_27.step 36 (.bool true) rfl (lb_ hsz) (wanted_none rfl) r_a0_28 (fun a0_28 fa0_28 => ?_)
    clear r_a0_28
    clear fa0_27
    refine wpList_nil ?_
    change Code.wp _ _ _ _ _
    refine wp_cond_true (show a0_28.eval (.tmp 36) = .bool true from (fa0_28.at_ 36)) (wp_seq ?_)
    refine wp_region_list ?_
    unfold rPJ4
    refine fa0_28.move 8 (.bool true) _ (Or.inr rfl) rfl (lb_ hsz) (wanted_none rfl) rfl (fun a0_29 fa0_29 => ?_)
    clear fa0_28
    refine wpList_nil ?_
    change Code.wp _ _ _ _ _
    refine wp_ret ?_
    try simp only [Exit.then]
    exact ret_abs rfl (fa0_29.defers.trans hd) (show a0_29.eval (.tmp 8) = .bool true from (fa0_29.at_ 8)) ⟨rfl, rfl⟩
  · have heL : ¬ (got.extract A B).toList = (old.extract A B).toList := fun e => he (tl_inj e)
    refine wp_region_list ?_
    unfold rPJ3
    refine fa0_16.move 25 (.string (got.extract A B)) _ (Or.inl rfl) rfl (lb_ hsz) (wanted_none rfl) (fa0_16.at_ 10) (fun a0_17 fa0_17 => ?_)
    clear fa0_16
    refine fa0_17.move 26 (.string old) _ (Or.inl rfl) rfl (lb_ hsz) (wanted_none rfl) ((fa0_17.at_ 2).trans (ha 2 _ rfl)) (fun a0_18 fa0_18 => ?_)
    clear fa0_17
    refine fa0_18.move 27 (.int .i64 (k : Int)) _ (Or.inl rfl) rfl (lb_ hsz) (wanted_none rfl) ((fa0_18.at_ 0).trans (ha 0 _ rfl)) (fun a0_19 fa0_19 => ?_)
    clear fa0_18
    refine fa0_19.move 28 (.int .i64 128) _ (Or.inl rfl) rfl (lb_ hsz) (wanted_none rfl) (fa0_19.at_ 9) (fun a0_20 fa0_20 => ?_)
    clear fa0_19
    have r_a0_21 : (execOp a0_20.eval { dst := some 29, op := Op.binOp BinOp.mul 3 (Operand.tmp 27) (Operand.tmp 28) 3, type := 3, pos := "outright.go:73", after := #[{ on := 2, ground := Ground.data }, { on := 3, ground := Ground.data }], guard := none }).run Try.prog (w) = .ok (.value (.int .i64 (A : Int))) (w) := by
      have e27 := (show a0_20.eval (.tmp 27) = .int .i64 (k : Int) from (fa0_20.at_ 27))
      have e28 := (show a0_20.eval (.tmp 28) = .int .i64 128 from (fa0_20.at_ 28))
      clear fa0_20 ha hy hL h
      generalize a0_20.eval = ρ at *
      go_simp
    refine fa0_20.step 29 (.int .i64 (A : Int)) rfl (lb_ hsz) (wanted_none rfl) r_a0_21 (fun a0_21 fa0_21 => ?_)
    clear r_a0_21
    clear fa0_20
    refine fa0_21.move 30 (.int .i64 (k : Int)) _ (Or.inl rfl) rfl (lb_ hsz) (wanted_none rfl) ((fa0_21.at_ 0).trans (ha 0 _ rfl)) (fun a0_22 fa0_22 => ?_)
    clear fa0_21
    refine fa0_22.move 31 (.int .i64 128) _ (Or.inl rfl) rfl (lb_ hsz) (wanted_none rfl) (fa0_22.at_ 9) (fun a0_23 fa0_23 => ?_)
    clear fa0_22
    have r_a0_24 : (execOp a0_23.eval { dst := some 32, op := Op.binOp BinOp.mul 3 (Operand.tmp 30) (Operand.tmp 31) 3, type := 3, pos := "outright.go:73", after := #[{ on := 5, ground := Ground.data }, { on := 6, ground := Ground.data }], guard := none }).run Try.prog (w) = .ok (.value (.int .i64 (A : Int))) (w) := by
      have e30 := (show a0_23.eval (.tmp 30) = .int .i64 (k : Int) from (fa0_23.at_ 30))
      have e31 := (show a0_23.eval (.tmp 31) = .int .i64 128 from (fa0_23.at_ 31))
      clear fa0_23 ha hy hL h
      generalize a0_23.eval = ρ at *
      go_simp
    refine fa0_23.step 32 (.int .i64 (A : Int)) rfl (lb_ hsz) (wanted_none rfl) r_a0_24 (fun a0_24 fa0_24 => ?_)
    clear r_a0_24
    clear fa0_23
    refine fa0_24.move 33 (.int .i64 128) _ (Or.inl rfl) rfl (lb_ hsz) (wanted_none rfl) (fa0_24.at_ 9) (fun a0_25 fa0_25 => ?_)
    clear fa0_24
    have r_a0_26 : (execOp a0_25.eval { dst := some 34, op := Op.binOp BinOp.add 3 (Operand.tmp 32) (Operand.tmp 33) 3, type := 3, pos := "outright.go:73", after := #[{ on := 7, ground := Ground.data }, { on := 8, ground := Ground.data }], guard := none }).run Try.prog (w) = .ok (.value (.int .i64 (B : Int))) (w) := by
      have e32 := (show a0_25.eval (.tmp 32) = .int .i64 (A : Int) from (fa0_25.at_ 32))
      have e33 := (show a0_25.eval (.tmp 33) = .int .i64 128 from (fa0_25.at_ 33))
      clear fa0_25 ha hy hL h
      generalize a0_25.eval = ρ at *
      go_simp
    refine fa0_25.step 34 (.int .i64 (B : Int)) rfl (lb_ hsz) (wanted_none rfl) r_a0_26 (fun a0_26 fa0_26 => ?_)
    clear r_a0_26
    clear fa0_25
    have r_a0_27 : (execOp a0_26.eval { dst := some 35, op := Op.slice 9 (Operand.tmp 26) (some (Operand.tmp 29)) (some (Operand.tmp 34)) none, type := 9, pos := "outright.go:73", after := #[{ on := 1, ground := Ground.data }, { on := 4, ground := Ground.data }, { on := 9, ground := Ground.data }], guard := none }).run Try.prog (w) = .ok (.value (.string (old.extract A B))) (w) := by
      have e26 := (show a0_26.eval (.tmp 26) = .string old from (fa0_26.at_ 26))
      have e29 := (show a0_26.eval (.tmp 29) = .int .i64 (A : Int) from (fa0_26.at_ 29))
      have e34 := (show a0_26.eval (.tmp 34) = .int .i64 (B : Int) from (fa0_26.at_ 34))
      clear fa0_26 ha hy hL h
      generalize a0_26.eval = ρ at *
      go_simp
    refine fa0_26.step 35 (.string (old.extract A B)) rfl (lb_ hsz) (wanted_none rfl) r_a0_27 (fun a0_27 fa0_27 => ?_)
    clear r_a0_27
    clear fa0_26
    have r_a0_28 : (execOp a0_27.eval { dst := some 36, op := Op.binOp BinOp.eql 9 (Operand.tmp 25) (Operand.tmp 35) 9, type := 4, pos := "outright.go:73", after := #[{ on := 0, ground := Ground.data }, { on := 10, ground := Ground.data }], guard := none }).run Try.prog (w) = .ok (.value (.bool false)) (w) := by
      have e25 := (show a0_27.eval (.tmp 25) = .string (got.extract A B) from (fa0_27.at_ 25))
      have e35 := (show a0_27.eval (.tmp 35) = .string (old.extract A B) from (fa0_27.at_ 35))
      clear fa0_27 ha hy hL h
      generalize a0_27.eval = ρ at *
      go_simp
    refine fa0_27.step 36 (.bool false) rfl (lb_ hsz) (wanted_none rfl) r_a0_28 (fun a0_28 fa0_28 => ?_)
    clear r_a0_28
    clear fa0_27
    refine wpList_nil ?_
    change Code.wp _ _ _ _ _
    refine wp_cond_false (show a0_28.eval (.tmp 36) = .bool false from (fa0_28.at_ 36)) (wp_skip ?_)
    change Code.wp _ _ _ _ _
    refine wp_seq (wp_seq ?_)
    refine wp_region_list ?_
    unfold rPJ5
    refine fa0_28.move 11 (.int .i64 ((0 : Nat) : Int)) _ (Or.inr rfl) rfl (lb_ hsz) (wanted_none rfl) rfl (fun a0_29 fa0_29 => ?_)
    clear fa0_28
    refine wpList_nil ?_
    change Code.wp _ _ _ _ _
    refine wp_block ?_
    refine pjL (L := L) (A := A) (B := B) a0_29 w ⟨fa0_29.size.trans hsz, fa0_29.defers.trans hd, (show a0_29.eval (.tmp 0) = .int .i64 (k : Int) from ((fa0_29.at_ 0).trans (ha 0 _ rfl))), (show a0_29.eval (.tmp 3) = .slice ya L.length yc from ((fa0_29.at_ 3).trans (ha 3 _ rfl))), (show a0_29.eval (.tmp 9) = .int .i64 128 from (fa0_29.at_ 9)), (show a0_29.eval (.tmp 10) = .string (got.extract A B) from (fa0_29.at_ 10))⟩ (show a0_29.eval (.tmp 11) = .int .i64 ((0 : Nat) : Int) from (fa0_29.at_ 11)) hl hy hL hkH.out hAH.out hBH.out ?_ (fun a hd8 h8 => by simp only [Exit.then, Exit.inBlock]; exact ret_abs rfl hd8 h8 ⟨rfl, rfl⟩)
    rcases h with h | h
    · exact absurd h he
    · exact h
theorem sec_extract {s t : ByteArray} {k A B : Nat} (hA : A = k * 128) (hB : B = A + 128) (h : secS 128 s k = secS 128 t k) : s.extract A B = t.extract A B := by
  have e : ∀ u : ByteArray, (u.extract A B).data.toList = secS 128 u k := fun u => by
    unfold secS secL
    rw [hB, hA]
    simp [ByteArray.data_extract, Array.toList_extract, List.extract, Nat.add_sub_cancel_left]
  apply ByteArray.ext
  apply Array.toList_inj.1
  rw [e, e, h]
end Go.Proofs.Ytjiaepeglghheaa
