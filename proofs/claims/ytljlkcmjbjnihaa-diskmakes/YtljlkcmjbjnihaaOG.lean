/- slices.Repeat of one text. -/
import Derived.Test.YtljlkcmjbjnihaaOD
import Derived.Test.YtljlkcmjbjnihaaGS
import Derived.Laws.CopyRow
import Derived.Laws.MakeOwn
namespace Go.Proofs.Ytljlkcmjbjnihaa
open Go.RowKit

theorem setRow_fr (w : World) (g : Nat) (cs : Array Value) : Fr (fun k => k = g) w (w.setRow g cs) :=
  ⟨rfl, rfl, rfl, by simp [World.setRow], fun k _ hn => setRow_other w g k cs hn⟩
theorem exec_copy {P : Program} {ρ : Operand → Value} {o : Oper} {x y : Operand} {ats : Array TypeId} {v : Value} {w w' : World} (ho : o.op = .call { callee := .builtin .copy, args := #[x, y], argTypes := ats })
    (h : (Builtin.copy_ ats o.type #[ρ x, ρ y]).run P w = .ok v w') : (execOp ρ o).run P w = .ok (.value v) w' := by
  unfold execOp
  simp only [ho, resolve, invoke, builtin, Sem.run_bind, Sem.run_pure, Result.andThen_ok, List.map_toArray, List.map_cons, List.map_nil, h]
theorem exec_make {P : Program} {ρ : Operand → Value} {o : Oper} {t : TypeId} {x y : Operand} {v : Value} {w w' : World} (ho : o.op = .makeSlice t x y)
    (h : (Instr.makeSlice t (ρ x) (ρ y)).run P w = .ok v w') : (execOp ρ o).run P w = .ok (.value v) w' := by
  unfold execOp
  simp only [ho, Sem.run_bind, Sem.run_pure, Result.andThen_ok, h]
theorem madeCells_one (v : Value) (n : Nat) : madeCells #[v] n = (List.replicate n v).toArray := by
  unfold madeCells
  apply Array.ext
  · simp
  · intro i h1 h2
    simp [Nat.mod_one]
theorem zrep (n : Nat) (hn : n ≤ 1048576) (w : World) : (Instr.makeSlice 22 (.int .i64 (n : Int)) (.int .i64 (n : Int))).run Try.prog w = .ok (.slice (some ⟨w.heap.size, 0, none⟩) n n) (w.alloc (.cells (List.replicate n (Value.string ⟨#[]⟩)).toArray 9)) := by
  obtain ⟨i0, hi, hz0, hz1, hz2⟩ := info_parts Try.infStr
  have h := run_make (P := Try.prog) w 22 9 i0 (.string ⟨#[]⟩) Try.underlying22 hi hz0 .i64 .i64 (n : Int) (n : Int) (by omega) (Int.le_refl _) (by rw [hz2]; omega) (by omega)
  rw [h, hz1]
  simp only [Int.toNat_natCast, Nat.mul_one]
  rw [show Value.cells (.string ⟨#[]⟩) = #[Value.string ⟨#[]⟩] from rfl, madeCells_one]
def rOG0 : Array Oper := #[{ dst := some 4, op := Op.assign (Operand.const (Value.slice none 0 0)), type := 22, pos := "slices.go:514", after := #[], guard := none }]
def rOG1 : Array Oper := #[{ dst := some 9, op := Op.move (Operand.tmp 1), type := 3, pos := "slices.go:515", after := #[], guard := none },
  { dst := some 10, op := Op.binOp BinOp.lss 3 (Operand.tmp 9) (Operand.const (Value.int IntKind.i64 0)) 3, type := 4, pos := "slices.go:515", after := #[{ on := 0, ground := Ground.data }], guard := none }]
def rOG3 : Array Oper := #[{ dst := some 13, op := Op.move (Operand.tmp 0), type := 22, pos := "slices.go:520", after := #[], guard := none },
  { dst := some 14, op := Op.call { callee := Callee.builtin Builtin.len, args := #[Operand.tmp 13], argTypes := #[22] }, type := 3, pos := "slices.go:520", after := #[{ on := 0, ground := Ground.data }], guard := none },
  { dst := some 15, op := Op.convert 3 98 (Operand.tmp 14), type := 98, pos := "slices.go:520", after := #[{ on := 1, ground := Ground.data }], guard := none },
  { dst := some 16, op := Op.move (Operand.tmp 1), type := 3, pos := "slices.go:520", after := #[], guard := none },
  { dst := some 17, op := Op.convert 3 98 (Operand.tmp 16), type := 98, pos := "slices.go:520", after := #[{ on := 3, ground := Ground.data }], guard := none },
  { dst := some 18, op := Op.call { callee := Callee.value (Operand.func 54), args := #[Operand.tmp 15, Operand.tmp 17], argTypes := #[98, 98] }, type := 99, pos := "slices.go:520", after := #[{ on := 2, ground := Ground.data }, { on := 4, ground := Ground.data }], guard := none },
  { dst := some 12, op := Op.move (Operand.tmp 18), type := 99, pos := "slices.go:520", after := #[{ on := 5, ground := Ground.data }], guard := none },
  { dst := some 19, op := Op.extract (Operand.tmp 12) 0, type := 98, pos := "slices.go:520", after := #[{ on := 6, ground := Ground.data }], guard := none },
  { dst := some 20, op := Op.extract (Operand.tmp 12) 1, type := 98, pos := "slices.go:520", after := #[{ on := 6, ground := Ground.data }, { on := 9, ground := Ground.gcOnly Go.Departure.lateStores }], guard := none },
  { dst := some 5, op := Op.assign (Operand.tmp 19), type := 98, pos := "slices.go:520", after := #[{ on := 7, ground := Ground.data }, { on := 5, ground := Ground.chain }, { on := 0, ground := Ground.phase }, { on := 1, ground := Ground.phase }, { on := 2, ground := Ground.phase }, { on := 3, ground := Ground.phase }, { on := 4, ground := Ground.phase }, { on := 5, ground := Ground.phase }, { on := 6, ground := Ground.phase }, { on := 7, ground := Ground.phase }, { on := 8, ground := Ground.textOnly Go.Departure.lateStores }], guard := none },
  { dst := some 6, op := Op.assign (Operand.tmp 20), type := 98, pos := "slices.go:520", after := #[{ on := 8, ground := Ground.data }, { on := 9, ground := Ground.chain }, { on := 0, ground := Ground.phase }, { on := 1, ground := Ground.phase }, { on := 2, ground := Ground.phase }, { on := 3, ground := Ground.phase }, { on := 4, ground := Ground.phase }, { on := 5, ground := Ground.phase }, { on := 6, ground := Ground.phase }, { on := 7, ground := Ground.phase }, { on := 8, ground := Ground.phase }, { on := 9, ground := Ground.phase }], guard := none }]
def rOG4 : Array Oper := #[{ dst := some 21, op := Op.move (Operand.tmp 5), type := 98, pos := "slices.go:521", after := #[], guard := none },
  { dst := some 22, op := Op.binOp BinOp.gtr 98 (Operand.tmp 21) (Operand.const (Value.int IntKind.u64 0)) 98, type := 4, pos := "slices.go:521", after := #[{ on := 0, ground := Ground.data }], guard := none },
  { dst := some 23, op := Op.move (Operand.tmp 22), type := 4, pos := "slices.go:521", after := #[{ on := 1, ground := Ground.data }], guard := none },
  { dst := some 24, op := Op.move (Operand.tmp 6), type := 98, pos := "slices.go:521", after := #[{ on := 2, ground := Ground.guard }], guard := some (2, false) },
  { dst := some 25, op := Op.binOp BinOp.gtr 98 (Operand.tmp 24) (Operand.const (Value.int IntKind.u64 9223372036854775807)) 98, type := 4, pos := "slices.go:521", after := #[{ on := 3, ground := Ground.data }, { on := 2, ground := Ground.guard }], guard := some (2, false) },
  { dst := some 26, op := Op.pick (Operand.tmp 23) (Operand.const (Value.bool true)) (Operand.tmp 25), type := 4, pos := "slices.go:521", after := #[{ on := 2, ground := Ground.data }, { on := 4, ground := Ground.data }], guard := none }]
def rOG6 : Array Oper := #[{ dst := some 28, op := Op.move (Operand.tmp 6), type := 98, pos := "slices.go:525", after := #[], guard := none },
  { dst := some 29, op := Op.convert 98 3 (Operand.tmp 28), type := 3, pos := "slices.go:525", after := #[{ on := 0, ground := Ground.data }], guard := none },
  { dst := some 30, op := Op.makeSlice 22 (Operand.tmp 29) (Operand.tmp 29), type := 22, pos := "slices.go:525", after := #[{ on := 1, ground := Ground.data }, { on := 1, ground := Ground.data }], guard := none },
  { dst := some 7, op := Op.assign (Operand.tmp 30), type := 22, pos := "slices.go:525", after := #[{ on := 2, ground := Ground.data }, { on := 0, ground := Ground.phase }, { on := 1, ground := Ground.phase }, { on := 2, ground := Ground.phase }], guard := none }]
def rOG7 : Array Oper := #[{ dst := some 31, op := Op.move (Operand.tmp 7), type := 22, pos := "slices.go:526", after := #[], guard := none },
  { dst := some 32, op := Op.move (Operand.tmp 0), type := 22, pos := "slices.go:526", after := #[], guard := none },
  { dst := some 33, op := Op.call { callee := Callee.builtin Builtin.copy, args := #[Operand.tmp 31, Operand.tmp 32], argTypes := #[22, 22] }, type := 3, pos := "slices.go:526", after := #[{ on := 0, ground := Ground.data }, { on := 1, ground := Ground.data }], guard := none },
  { dst := some 8, op := Op.assign (Operand.tmp 33), type := 3, pos := "slices.go:526", after := #[{ on := 2, ground := Ground.data }, { on := 2, ground := Ground.chain }, { on := 0, ground := Ground.phase }, { on := 1, ground := Ground.phase }, { on := 2, ground := Ground.phase }], guard := none }]
def rOG8 : Array Oper := #[{ dst := some 34, op := Op.move (Operand.tmp 8), type := 3, pos := "slices.go:527", after := #[], guard := none },
  { dst := some 35, op := Op.move (Operand.tmp 7), type := 22, pos := "slices.go:527", after := #[], guard := none },
  { dst := some 36, op := Op.call { callee := Callee.builtin Builtin.len, args := #[Operand.tmp 35], argTypes := #[22] }, type := 3, pos := "slices.go:527", after := #[{ on := 1, ground := Ground.data }], guard := none },
  { dst := some 37, op := Op.binOp BinOp.lss 3 (Operand.tmp 34) (Operand.tmp 36) 3, type := 4, pos := "slices.go:527", after := #[{ on := 0, ground := Ground.data }, { on := 2, ground := Ground.data }], guard := none }]
def rOG9 : Array Oper := #[{ dst := some 38, op := Op.move (Operand.tmp 8), type := 3, pos := "slices.go:528", after := #[], guard := none },
  { dst := some 39, op := Op.move (Operand.tmp 7), type := 22, pos := "slices.go:528", after := #[], guard := none },
  { dst := some 40, op := Op.move (Operand.tmp 8), type := 3, pos := "slices.go:528", after := #[], guard := none },
  { dst := some 41, op := Op.slice 22 (Operand.tmp 39) (some (Operand.tmp 40)) none none, type := 22, pos := "slices.go:528", after := #[{ on := 1, ground := Ground.data }, { on := 2, ground := Ground.data }], guard := none },
  { dst := some 42, op := Op.move (Operand.tmp 7), type := 22, pos := "slices.go:528", after := #[], guard := none },
  { dst := some 43, op := Op.move (Operand.tmp 8), type := 3, pos := "slices.go:528", after := #[], guard := none },
  { dst := some 44, op := Op.slice 22 (Operand.tmp 42) none (some (Operand.tmp 43)) none, type := 22, pos := "slices.go:528", after := #[{ on := 4, ground := Ground.data }, { on := 5, ground := Ground.data }], guard := none },
  { dst := some 45, op := Op.call { callee := Callee.builtin Builtin.copy, args := #[Operand.tmp 41, Operand.tmp 44], argTypes := #[22, 22] }, type := 3, pos := "slices.go:528", after := #[{ on := 3, ground := Ground.data }, { on := 6, ground := Ground.data }], guard := none },
  { dst := some 46, op := Op.binOp BinOp.add 3 (Operand.tmp 38) (Operand.tmp 45) 3, type := 3, pos := "slices.go:528", after := #[{ on := 0, ground := Ground.data }, { on := 7, ground := Ground.data }], guard := none },
  { dst := some 8, op := Op.assign (Operand.tmp 46), type := 3, pos := "slices.go:528", after := #[{ on := 8, ground := Ground.data }, { on := 7, ground := Ground.chain }, { on := 0, ground := Ground.phase }, { on := 1, ground := Ground.phase }, { on := 2, ground := Ground.phase }, { on := 3, ground := Ground.phase }, { on := 4, ground := Ground.phase }, { on := 5, ground := Ground.phase }, { on := 6, ground := Ground.phase }, { on := 7, ground := Ground.phase }, { on := 8, ground := Ground.phase }], guard := none }]
def rOG10 : Array Oper := #[{ dst := some 47, op := Op.move (Operand.tmp 7), type := 22, pos := "slices.go:530", after := #[], guard := none },
  { dst := some 4, op := Op.assign (Operand.tmp 47), type := 22, pos := "slices.go:530", after := #[{ on := 0, ground := Ground.data }, { on := 0, ground := Ground.phase }], guard := none }]
def rOG2 : Array Oper := #[{ dst := some 11, op := Op.makeInterface 9 (Operand.const (Value.string { data := #[99, 97, 110, 110, 111, 116, 32, 98, 101, 32, 110, 101, 103, 97, 116, 105, 118, 101] })), type := 20, pos := "slices.go:516", after := #[], guard := none },
  { dst := none, op := Op.panic (Operand.tmp 11), type := 0, pos := "slices.go:516", after := #[{ on := 0, ground := Ground.data }], guard := none }]
def rOG5 : Array Oper := #[{ dst := some 27, op := Op.makeInterface 9 (Operand.const (Value.string { data := #[116, 104, 101, 32, 114, 101, 115, 117, 108, 116, 32, 111, 102, 32, 40, 108, 101, 110, 40, 120, 41, 32, 42, 32, 99, 111, 117, 110, 116, 41, 32, 111, 118, 101, 114, 102, 108, 111, 119, 115] })), type := 20, pos := "slices.go:522", after := #[], guard := none },
  { dst := none, op := Op.panic (Operand.tmp 27), type := 0, pos := "slices.go:522", after := #[{ on := 0, ground := Ground.data }], guard := none }]
def cOG1 : Code := (Code.seq (Code.seq (Code.region 8 rOG8 false) (Code.cond (Operand.tmp 37) Code.skip (Code.exit 0))) (Code.block 1 (Code.region 9 rOG9 true)))
def cOG : Code := (Code.seq (Code.region 0 rOG0 false) (Code.seq (Code.seq (Code.region 1 rOG1 false) (Code.cond (Operand.tmp 10) (Code.region 2 rOG2 false) Code.skip)) (Code.seq (Code.region 3 rOG3 false) (Code.seq (Code.seq (Code.region 4 rOG4 false) (Code.cond (Operand.tmp 26) (Code.region 5 rOG5 false) Code.skip)) (Code.seq (Code.region 6 rOG6 false) (Code.seq (Code.region 7 rOG7 false) (Code.seq (Code.block 0 (Code.loop cOG1)) (Code.seq (Code.region 10 rOG10 false) Code.ret))))))))
/-- The row while it is filled. -/
def rpC (s : ByteArray) (n m : Nat) : List Value := List.replicate m (Value.string s) ++ List.replicate (n - m) (Value.string ⟨#[]⟩)
theorem rpC_len {s : ByteArray} {n m : Nat} (h : m ≤ n) : (rpC s n m).length = n := by simp [rpC]; omega
theorem rpC_next {s : ByteArray} {n m k : Nat} (h : m + k ≤ n) : ((rpC s n m).take m ++ List.replicate k (Value.string s) ++ (rpC s n m).drop (m + k)) = rpC s n (m + k) := by
  have e1 : (rpC s n m).take m = List.replicate m (Value.string s) := by unfold rpC; rw [List.take_left' (by simp)]
  have e2 : (rpC s n m).drop (m + k) = List.replicate (n - (m + k)) (Value.string ⟨#[]⟩) := by
    unfold rpC
    rw [List.drop_append, List.drop_replicate, List.drop_replicate, List.length_replicate]
    rw [show m - (m + k) = 0 from by omega, List.replicate_zero, List.nil_append]
    congr 1
    omega
  rw [e1, e2]
  unfold rpC
  rw [← List.replicate_append_replicate]
theorem rpC_get {s : ByteArray} {n m j : Nat} (h : j < m) : (rpC s n m)[j]? = some (.string s) := by
  unfold rpC
  rw [List.getElem?_append_left (by simpa using h), List.getElem?_replicate, if_pos h]
structure IOG (g n : Nat) (a : Act) : Prop where
  size : a.tmps.size = 48
  defers : a.defers = []
  s7 : a.eval (.tmp 7) = .slice (some ⟨g, 0, none⟩) n n
theorem IOG.keep {g n : Nat} {a0 a : Act} {env : List (Nat × Value)} (h : IOG g n a0) (f : Fe a0 env a) (h7 : look env 7 (a0.eval (.tmp 7)) = a0.eval (.tmp 7)) : IOG g n a :=
  ⟨f.size.trans h.size, f.defers.trans h.defers, ((f.at_ 7).trans h7).trans h.s7⟩
set_option maxRecDepth 100000 in
set_option maxHeartbeats 1000000 in
theorem ogR {g n m k : Nat} {s : ByteArray} {Q : Exit → Act → World → Prop} (hQp : ∀ c (a : Act) d v w, Q (.panic c) (a.put d v) w → Q (.panic c) a w) (a0 : Act) (wr : World) (I0 : IOG g n a0) (h8 : a0.eval (.tmp 8) = .int .i64 (m : Int)) (hg : wr.heap[g]? = some (.cells (rpC s n m).toArray 9 (0, 0))) (hm : m ≤ n) (hlt : m < n) (hn : n ≤ 1048576) (hk : k = Nat.min m (n - m))
    (hQ : ∀ a W, IOG g n a → a.eval (.tmp 8) = .int .i64 ((m : Int) + (k : Int)) → W.heap[g]? = some (.cells (rpC s n (m + k)).toArray 9 (0, 0)) → Fr (fun j => j = g) wr W → Q .normal a W) : cOG1.wp Try.prog Q a0 wr := by
  have hkm : k ≤ m := by rw [hk]; exact Nat.min_le_left _ _
  have hkn : m + k ≤ n := by have : k ≤ n - m := by rw [hk]; exact Nat.min_le_right _ _
                             omega
  have hlti : (m : Int) < (n : Int) := by omega
  have hmni : (m : Int) ≤ (n : Int) := by omega
  have w7 : IntKind.i64.wrap ((m : Int) + (k : Int)) = (m : Int) + (k : Int) := by rw [IntKind.wrap_i64]; omega
  have hnm : ¬ n = m := by omega
  have HK : Hid (k = Nat.min m (n - m)) := hk
  clear hk
  have hsz1 : (Try.prog.info? 9).map (·.size) = some 1 := by kernel_rfl
  have hsrc : ∀ j v, (List.replicate k (Value.string s))[j]? = some v → wr.drew.cell? ((⟨g, 0, none⟩ : Addr).add j) = some v := fun j v hj => by
    have hjk : j < k := by have := (List.getElem?_eq_some_iff.1 hj).1; simpa using this
    rw [List.getElem?_replicate, if_pos hjk] at hj
    rw [WideShapes.add_plain, Nat.zero_add, ← hj]
    refine (cell_of_row _ _ _ _ _ _ (show wr.drew.heap[g]? = _ from hg)).trans ?_
    rw [List.getElem?_toArray, rpC_get (by omega)]
  have fa0_0 := Fe.refl a0
  unfold cOG1
  refine wp_seq (wp_seq ?_)
  refine wp_region_list ?_
  unfold rOG8
  refine fa0_0.move 34 (.int .i64 (m : Int)) _ (Or.inl rfl) rfl (lb_ I0.size) (wanted_none rfl) ((fa0_0.at_ 8).trans h8) (fun a0_1 fa0_1 => ?_)
  clear fa0_0
  refine fa0_1.move 35 (.slice (some ⟨g, 0, none⟩) n n) _ (Or.inl rfl) rfl (lb_ I0.size) (wanted_none rfl) ((fa0_1.at_ 7).trans I0.s7) (fun a0_2 fa0_2 => ?_)
  clear fa0_1
  have r_a0_3 : (execOp a0_2.eval { dst := some 36, op := Op.call { callee := Callee.builtin Builtin.len, args := #[Operand.tmp 35], argTypes := #[22] }, type := 3, pos := "slices.go:527", after := #[{ on := 1, ground := Ground.data }], guard := none }).run Try.prog (wr) = .ok (.value (.int .i64 (n : Int))) (wr) := by
    have e35 := (show a0_2.eval (.tmp 35) = .slice (some ⟨g, 0, none⟩) n n from (fa0_2.at_ 35))
    clear fa0_2 hQ h8 hsrc
    generalize a0_2.eval = ρ at *
    go_simp
  refine fa0_2.step 36 (.int .i64 (n : Int)) rfl (lb_ I0.size) (wanted_none rfl) r_a0_3 (fun a0_3 fa0_3 => ?_)
  clear r_a0_3
  clear fa0_2
  have r_a0_4 : (execOp a0_3.eval { dst := some 37, op := Op.binOp BinOp.lss 3 (Operand.tmp 34) (Operand.tmp 36) 3, type := 4, pos := "slices.go:527", after := #[{ on := 0, ground := Ground.data }, { on := 2, ground := Ground.data }], guard := none }).run Try.prog (wr) = .ok (.value (.bool true)) (wr) := by
    have e34 := (show a0_3.eval (.tmp 34) = .int .i64 (m : Int) from (fa0_3.at_ 34))
    have e36 := (show a0_3.eval (.tmp 36) = .int .i64 (n : Int) from (fa0_3.at_ 36))
    clear fa0_3 hQ h8 hsrc
    generalize a0_3.eval = ρ at *
    go_simp
  refine fa0_3.step 37 (.bool true) rfl (lb_ I0.size) (wanted_none rfl) r_a0_4 (fun a0_4 fa0_4 => ?_)
  clear r_a0_4
  clear fa0_3
  refine wpList_nil ?_
  change Code.wp _ _ _ _ _
  refine wp_cond_true (show a0_4.eval (.tmp 37) = .bool true from (fa0_4.at_ 37)) (wp_skip ?_)
  change Code.wp _ _ _ _ _
  refine wp_block ?_
  refine wp_region_held_drew (ops := rOG9) (S := fun _ => True) (by kernel_rfl) (trivial) (fun hS4 => ?_)
  refine fa0_4.takeMove 0 38 (.int .i64 (m : Int)) _ (Or.inl rfl) rfl (by kernel_rfl) (by kernel_rfl) (by kernel_rfl) (fun _ _ _ h => hQp _ _ _ _ _ h) rfl (lb_ I0.size) (wanted_none rfl) ((fa0_4.at_ 8).trans h8) hS4 (fun a0_5 fa0_5 => ?_)
  clear fa0_4
  refine fa0_5.takeMove 1 39 (.slice (some ⟨g, 0, none⟩) n n) _ (Or.inl rfl) rfl (by kernel_rfl) (by kernel_rfl) (by kernel_rfl) (fun _ _ _ h => hQp _ _ _ _ _ h) rfl (lb_ I0.size) (wanted_none rfl) ((fa0_5.at_ 7).trans I0.s7) hS4 (fun a0_6 fa0_6 => ?_)
  clear fa0_5
  refine fa0_6.takeMove 2 40 (.int .i64 (m : Int)) _ (Or.inl rfl) rfl (by kernel_rfl) (by kernel_rfl) (by kernel_rfl) (fun _ _ _ h => hQp _ _ _ _ _ h) rfl (lb_ I0.size) (wanted_none rfl) ((fa0_6.at_ 8).trans h8) hS4 (fun a0_7 fa0_7 => ?_)
  clear fa0_6
  have r_a0_8 : ∀ Z, (fun _ => True) Z → (execOp a0_7.eval { dst := some 41, op := Op.slice 22 (Operand.tmp 39) (some (Operand.tmp 40)) none none, type := 22, pos := "slices.go:528", after := #[{ on := 1, ground := Ground.data }, { on := 2, ground := Ground.data }], guard := none }).run Try.prog Z = .ok (.value (.slice (some ⟨g, m, none⟩) (n - m) (n - m))) Z := fun Z hZ => by
    have e39 := (show a0_7.eval (.tmp 39) = .slice (some ⟨g, 0, none⟩) n n from (fa0_7.at_ 39))
    have e40 := (show a0_7.eval (.tmp 40) = .int .i64 (m : Int) from (fa0_7.at_ 40))
    clear fa0_7 hQ h8 hsrc
    generalize a0_7.eval = ρ at *
    go_simp
  refine fa0_7.take 3 41 (.slice (some ⟨g, m, none⟩) (n - m) (n - m)) rfl (by kernel_rfl) (by kernel_rfl) (by kernel_rfl) (fun _ _ _ h => hQp _ _ _ _ _ h) rfl (lb_ I0.size) (wanted_none rfl) r_a0_8 hS4 (fun a0_8 fa0_8 => ?_)
  clear r_a0_8
  clear fa0_7
  refine fa0_8.takeMove 4 42 (.slice (some ⟨g, 0, none⟩) n n) _ (Or.inl rfl) rfl (by kernel_rfl) (by kernel_rfl) (by kernel_rfl) (fun _ _ _ h => hQp _ _ _ _ _ h) rfl (lb_ I0.size) (wanted_none rfl) ((fa0_8.at_ 7).trans I0.s7) hS4 (fun a0_9 fa0_9 => ?_)
  clear fa0_8
  refine fa0_9.takeMove 5 43 (.int .i64 (m : Int)) _ (Or.inl rfl) rfl (by kernel_rfl) (by kernel_rfl) (by kernel_rfl) (fun _ _ _ h => hQp _ _ _ _ _ h) rfl (lb_ I0.size) (wanted_none rfl) ((fa0_9.at_ 8).trans h8) hS4 (fun a0_10 fa0_10 => ?_)
  clear fa0_9
  have r_a0_11 : ∀ Z, (fun _ => True) Z → (execOp a0_10.eval { dst := some 44, op := Op.slice 22 (Operand.tmp 42) none (some (Operand.tmp 43)) none, type := 22, pos := "slices.go:528", after := #[{ on := 4, ground := Ground.data }, { on := 5, ground := Ground.data }], guard := none }).run Try.prog Z = .ok (.value (.slice (some ⟨g, 0, none⟩) m n)) Z := fun Z hZ => by
    have e42 := (show a0_10.eval (.tmp 42) = .slice (some ⟨g, 0, none⟩) n n from (fa0_10.at_ 42))
    have e43 := (show a0_10.eval (.tmp 43) = .int .i64 (m : Int) from (fa0_10.at_ 43))
    clear fa0_10 hQ h8 hsrc
    generalize a0_10.eval = ρ at *
    go_simp
  refine fa0_10.take 6 44 (.slice (some ⟨g, 0, none⟩) m n) rfl (by kernel_rfl) (by kernel_rfl) (by kernel_rfl) (fun _ _ _ h => hQp _ _ _ _ _ h) rfl (lb_ I0.size) (wanted_none rfl) r_a0_11 hS4 (fun a0_11 fa0_11 => ?_)
  clear r_a0_11
  clear fa0_10
  have r_a0_12 : (execOp a0_11.eval { dst := some 45, op := Op.call { callee := Callee.builtin Builtin.copy, args := #[Operand.tmp 41, Operand.tmp 44], argTypes := #[22, 22] }, type := 3, pos := "slices.go:528", after := #[{ on := 3, ground := Ground.data }, { on := 6, ground := Ground.data }], guard := none }).run Try.prog (wr.drew) = .ok (.value (.int .i64 (k : Int))) (World.setRow wr.drew g (((rpC s n m).take m ++ List.replicate k (Value.string s) ++ (rpC s n m).drop (m + k)).toArray)) := by
    refine exec_copy rfl ?_
    rw [(show a0_11.eval (.tmp 41) = .slice (some ⟨g, m, none⟩) (n - m) (n - m) from (fa0_11.at_ 41)), (show a0_11.eval (.tmp 44) = .slice (some ⟨g, 0, none⟩) m n from (fa0_11.at_ 44))]
    have hc := run_copy_row (P := Try.prog) wr.drew 22 22 3 9 g m (n - m) (n - m) ⟨g, 0, none⟩ m n (rpC s n m).toArray 9 (List.replicate k (Value.string s)) Try.underlying22 hsz1 hg (by rw [List.length_replicate]; exact HK.out) hsrc (by rw [List.length_replicate]; simp only [List.size_toArray, rpC_len hm]; omega) (fun v hv => by rw [List.eq_of_mem_replicate hv]; rfl)
    rw [List.length_replicate] at hc
    exact hc
  have hS12 : (fun _ => True) (World.setRow wr.drew g (((rpC s n m).take m ++ List.replicate k (Value.string s) ++ (rpC s n m).drop (m + k)).toArray)) := trivial
  refine fa0_11.one 7 45 (.int .i64 (k : Int)) (by kernel_rfl) rfl rfl (lb_ I0.size) (wanted_none rfl) r_a0_12 hS12 (fun a0_12 fa0_12 => ?_)
  clear r_a0_12
  clear fa0_11
  have r_a0_13 : ∀ Z, (fun _ => True) Z → (execOp a0_12.eval { dst := some 46, op := Op.binOp BinOp.add 3 (Operand.tmp 38) (Operand.tmp 45) 3, type := 3, pos := "slices.go:528", after := #[{ on := 0, ground := Ground.data }, { on := 7, ground := Ground.data }], guard := none }).run Try.prog Z = .ok (.value (.int .i64 ((m : Int) + (k : Int)))) Z := fun Z hZ => by
    have e38 := (show a0_12.eval (.tmp 38) = .int .i64 (m : Int) from (fa0_12.at_ 38))
    have e45 := (show a0_12.eval (.tmp 45) = .int .i64 (k : Int) from (fa0_12.at_ 45))
    clear fa0_12 hQ h8 hsrc
    generalize a0_12.eval = ρ at *
    go_simp
  refine fa0_12.take 8 46 (.int .i64 ((m : Int) + (k : Int))) rfl (by kernel_rfl) (by kernel_rfl) (by kernel_rfl) (fun _ _ _ h => hQp _ _ _ _ _ h) rfl (lb_ I0.size) (wanted_none rfl) r_a0_13 hS12 (fun a0_13 fa0_13 => ?_)
  clear r_a0_13
  clear fa0_12
  refine fa0_13.takeMove 9 8 (.int .i64 ((m : Int) + (k : Int))) _ (Or.inr rfl) rfl (by kernel_rfl) (by kernel_rfl) (by kernel_rfl) (fun _ _ _ h => hQp _ _ _ _ _ h) rfl (lb_ I0.size) (wanted_none rfl) (fa0_13.at_ 46) hS12 (fun a0_14 fa0_14 => ?_)
  clear fa0_13
  refine wpAnyH_done (by kernel_rfl) ?_ _
  exact hQ a0_14 _ (I0.keep fa0_14 rfl) (show a0_14.eval (.tmp 8) = .int .i64 ((m : Int) + (k : Int)) from (fa0_14.at_ 8)) (by rw [← rpC_next (s := s) (n := n) (m := m) (k := k) (by omega)]; exact setRow_heap wr.drew g _ _ 9 (0, 0) hg) ((Fr.drew (Fr.refl _ wr)).trans (setRow_fr _ _ _) (fun _ _ e => e))
theorem ogE {g n : Nat} {Q : Exit → Act → World → Prop} (a0 : Act) (wr : World) (I0 : IOG g n a0) (h8 : a0.eval (.tmp 8) = .int .i64 (n : Int)) (hQ : ∀ a, IOG g n a → Q (.exit 0) a wr) : cOG1.wp Try.prog Q a0 wr := by
  have fa0_0 := Fe.refl a0
  unfold cOG1
  refine wp_seq (wp_seq ?_)
  refine wp_region_list ?_
  unfold rOG8
  refine fa0_0.move 34 (.int .i64 (n : Int)) _ (Or.inl rfl) rfl (lb_ I0.size) (wanted_none rfl) ((fa0_0.at_ 8).trans h8) (fun a0_1 fa0_1 => ?_)
  clear fa0_0
  refine fa0_1.move 35 (.slice (some ⟨g, 0, none⟩) n n) _ (Or.inl rfl) rfl (lb_ I0.size) (wanted_none rfl) ((fa0_1.at_ 7).trans I0.s7) (fun a0_2 fa0_2 => ?_)
  clear fa0_1
  have r_a0_3 : (execOp a0_2.eval { dst := some 36, op := Op.call { callee := Callee.builtin Builtin.len, args := #[Operand.tmp 35], argTypes := #[22] }, type := 3, pos := "slices.go:527", after := #[{ on := 1, ground := Ground.data }], guard := none }).run Try.prog (wr) = .ok (.value (.int .i64 (n : Int))) (wr) := by
    have e35 := (show a0_2.eval (.tmp 35) = .slice (some ⟨g, 0, none⟩) n n from (fa0_2.at_ 35))
    clear fa0_2 hQ h8
    generalize a0_2.eval = ρ at *
    go_simp
  refine fa0_2.step 36 (.int .i64 (n : Int)) rfl (lb_ I0.size) (wanted_none rfl) r_a0_3 (fun a0_3 fa0_3 => ?_)
  clear r_a0_3
  clear fa0_2
  have r_a0_4 : (execOp a0_3.eval { dst := some 37, op := Op.binOp BinOp.lss 3 (Operand.tmp 34) (Operand.tmp 36) 3, type := 4, pos := "slices.go:527", after := #[{ on := 0, ground := Ground.data }, { on := 2, ground := Ground.data }], guard := none }).run Try.prog (wr) = .ok (.value (.bool false)) (wr) := by
    have e34 := (show a0_3.eval (.tmp 34) = .int .i64 (n : Int) from (fa0_3.at_ 34))
    have e36 := (show a0_3.eval (.tmp 36) = .int .i64 (n : Int) from (fa0_3.at_ 36))
    clear fa0_3 hQ h8
    generalize a0_3.eval = ρ at *
    go_simp
  refine fa0_3.step 37 (.bool false) rfl (lb_ I0.size) (wanted_none rfl) r_a0_4 (fun a0_4 fa0_4 => ?_)
  clear r_a0_4
  clear fa0_3
  refine wpList_nil ?_
  change Code.wp _ _ _ _ _
  refine wp_cond_false (show a0_4.eval (.tmp 37) = .bool false from (fa0_4.at_ 37)) (wp_exit ?_)
  exact hQ a0_4 (I0.keep fa0_4 rfl)
theorem ogL {g n : Nat} {s : ByteArray} {Q : Exit → Act → World → Prop} (hQp : ∀ c (a : Act) d v w, Q (.panic c) (a.put d v) w → Q (.panic c) a w) (a0 : Act) (w : World) (I0 : IOG g n a0) (h8 : a0.eval (.tmp 8) = .int .i64 ((1 : Nat) : Int)) (hg : w.heap[g]? = some (.cells (rpC s n 1).toArray 9 (0, 0))) (hn0 : 0 < n) (hn : n ≤ 1048576)
    (hQ : ∀ a W, IOG g n a → W.heap[g]? = some (.cells (rpC s n n).toArray 9 (0, 0)) → Fr (fun j => j = g) w W → Q (.exit 0) a W) : (Code.loop cOG1).wp Try.prog Q a0 w := by
  refine wp_loop (fun a W => IOG g n a ∧ ∃ m : Nat, 0 < m ∧ m ≤ n ∧ a.eval (.tmp 8) = .int .i64 (m : Int) ∧ W.heap[g]? = some (.cells (rpC s n m).toArray 9 (0, 0)) ∧ Fr (fun j => j = g) w W) (fun a _ => n - kOf a 8) ⟨I0, 1, Nat.one_pos, hn0, h8, hg, Fr.refl _ _⟩ ?_
  rintro a W ⟨I1, m, hm0, hm, g8, hg1, f1⟩
  by_cases hgo : m < n
  · refine ogR (Q := Exit.then _ Q) (k := Nat.min m (n - m)) hQp a W I1 g8 hg1 hm hgo hn rfl (fun a' W3 i3 h1 h2 f2 => ?_)
    have hkm : Nat.min m (n - m) ≤ n - m := Nat.min_le_right _ _
    have hk0 : 0 < Nat.min m (n - m) := Nat.lt_min.2 ⟨hm0, by omega⟩
    have h4 : a'.eval (.tmp 8) = .int .i64 ((m + Nat.min m (n - m) : Nat) : Int) := h1
    refine ⟨⟨i3, m + Nat.min m (n - m), by omega, by omega, h4, h2, f1.trans f2 (fun _ _ e => e)⟩, ?_⟩
    show n - kOf a' 8 < n - kOf a 8
    rw [kOf_eq h4, kOf_eq g8]
    omega
  · obtain rfl : m = n := by omega
    exact ogE a W I1 g8 (fun a' i2 => hQ a' W i2 hg1 f1)
theorem rpc_one {s : ByteArray} {n : Nat} : (((List.replicate n (Value.string ⟨#[]⟩)).toArray.toList.take 0) ++ [Value.string s] ++ ((List.replicate n (Value.string ⟨#[]⟩)).toArray.toList.drop (0 + 1))) = rpC s n 1 := by
  unfold rpC
  simp
set_option maxRecDepth 100000 in
set_option maxHeartbeats 1000000 in
theorem repeatStr {gx cx n : Nat} {s : ByteArray} (w : World) (hx : w.cell? ⟨gx, 0, none⟩ = some (.string s)) (hn0 : 0 < n) (hn : n ≤ 1048576) :
    Calls Try.prog 53 #[.slice (some ⟨gx, 0, none⟩) 1 cx, .int .i64 (n : Int)] w fun e w' => ∃ g c, e = .returned (.slice (some ⟨g, 0, none⟩) n c) ∧ w'.ownsRow w.heap.size 9 1 (.slice (some ⟨g, 0, none⟩) n c) n (List.replicate n (Value.string s)) ∧ Same w w' := by
  have e1 : IntKind.u64.wrap (n : Int) = (n : Int) := by simp [IntKind.wrap, IntKind.bits, IntKind.signed]; omega
  have e2 : IntKind.i64.wrap (n : Int) = (n : Int) := by rw [IntKind.wrap_i64]; omega
  have e3 : IntKind.u64.wrap 1 = 1 := by simp [IntKind.wrap, IntKind.bits, IntKind.signed]
  have hn1 : ¬ (n : Int) < 0 := by omega
  have hn2 : ¬ (9223372036854775807 : Int) < (n : Int) := by omega
  have hM : Calls Try.prog 54 #[.int .u64 1, .int .u64 (n : Int)] w fun e w' => e = .returned (.tuple #[.int .u64 0, .int .u64 (n : Int)]) ∧ w' = w := by
    have := mul_calls 1 n (by omega) (by omega) w
    rw [Nat.one_mul, Nat.div_eq_of_lt (by omega), Nat.mod_eq_of_lt (by omega)] at this
    exact this
  refine calls_abs (c := cOG) Try.func53 (by kernel_rfl) 48 rfl (by simp) (fun a0 hsz hd ha => ?_)
  have fa0_0 := Fe.refl a0
  unfold cOG
  refine wp_seq ?_
  refine wp_region_list ?_
  unfold rOG0
  refine fa0_0.move 4 (.slice none 0 0) _ (Or.inr rfl) rfl (lb_ hsz) (wanted_none rfl) rfl (fun a0_1 fa0_1 => ?_)
  clear fa0_0
  refine wpList_nil ?_
  change Code.wp _ _ _ _ _
  refine wp_seq (wp_seq ?_)
  refine wp_region_list ?_
  unfold rOG1
  refine fa0_1.move 9 (.int .i64 (n : Int)) _ (Or.inl rfl) rfl (lb_ hsz) (wanted_none rfl) ((fa0_1.at_ 1).trans (ha 1 _ rfl)) (fun a0_2 fa0_2 => ?_)
  clear fa0_1
  have r_a0_3 : (execOp a0_2.eval { dst := some 10, op := Op.binOp BinOp.lss 3 (Operand.tmp 9) (Operand.const (Value.int IntKind.i64 0)) 3, type := 4, pos := "slices.go:515", after := #[{ on := 0, ground := Ground.data }], guard := none }).run Try.prog (w) = .ok (.value (.bool false)) (w) := by
    have kc : ∀ v, a0_2.eval (.const v) = v := fun _ => rfl
    have e9 := (show a0_2.eval (.tmp 9) = .int .i64 (n : Int) from (fa0_2.at_ 9))
    clear fa0_2 ha hn0 hn
    generalize a0_2.eval = ρ at *
    go_simp
  refine fa0_2.step 10 (.bool false) rfl (lb_ hsz) (wanted_none rfl) r_a0_3 (fun a0_3 fa0_3 => ?_)
  clear r_a0_3
  clear fa0_2
  refine wpList_nil ?_
  change Code.wp _ _ _ _ _
  refine wp_cond_false (show a0_3.eval (.tmp 10) = .bool false from (fa0_3.at_ 10)) (wp_skip ?_)
  change Code.wp _ _ _ _ _
  refine wp_seq ?_
  refine wp_region_list ?_
  unfold rOG3
  refine fa0_3.move 13 (.slice (some ⟨gx, 0, none⟩) 1 cx) _ (Or.inl rfl) rfl (lb_ hsz) (wanted_none rfl) ((fa0_3.at_ 0).trans (ha 0 _ rfl)) (fun a0_4 fa0_4 => ?_)
  clear fa0_3
  have r_a0_5 : (execOp a0_4.eval { dst := some 14, op := Op.call { callee := Callee.builtin Builtin.len, args := #[Operand.tmp 13], argTypes := #[22] }, type := 3, pos := "slices.go:520", after := #[{ on := 0, ground := Ground.data }], guard := none }).run Try.prog (w) = .ok (.value (.int .i64 1)) (w) := by
    have e13 := (show a0_4.eval (.tmp 13) = .slice (some ⟨gx, 0, none⟩) 1 cx from (fa0_4.at_ 13))
    clear fa0_4 ha hn0 hn
    generalize a0_4.eval = ρ at *
    go_simp
  refine fa0_4.step 14 (.int .i64 1) rfl (lb_ hsz) (wanted_none rfl) r_a0_5 (fun a0_5 fa0_5 => ?_)
  clear r_a0_5
  clear fa0_4
  have r_a0_6 : (execOp a0_5.eval { dst := some 15, op := Op.convert 3 98 (Operand.tmp 14), type := 98, pos := "slices.go:520", after := #[{ on := 1, ground := Ground.data }], guard := none }).run Try.prog (w) = .ok (.value (.int .u64 1)) (w) := by
    have e14 := (show a0_5.eval (.tmp 14) = .int .i64 1 from (fa0_5.at_ 14))
    clear fa0_5 ha hn0 hn
    generalize a0_5.eval = ρ at *
    go_simp
  refine fa0_5.step 15 (.int .u64 1) rfl (lb_ hsz) (wanted_none rfl) r_a0_6 (fun a0_6 fa0_6 => ?_)
  clear r_a0_6
  clear fa0_5
  refine fa0_6.move 16 (.int .i64 (n : Int)) _ (Or.inl rfl) rfl (lb_ hsz) (wanted_none rfl) ((fa0_6.at_ 1).trans (ha 1 _ rfl)) (fun a0_7 fa0_7 => ?_)
  clear fa0_6
  have r_a0_8 : (execOp a0_7.eval { dst := some 17, op := Op.convert 3 98 (Operand.tmp 16), type := 98, pos := "slices.go:520", after := #[{ on := 3, ground := Ground.data }], guard := none }).run Try.prog (w) = .ok (.value (.int .u64 (n : Int))) (w) := by
    have e16 := (show a0_7.eval (.tmp 16) = .int .i64 (n : Int) from (fa0_7.at_ 16))
    clear fa0_7 ha hn0 hn
    generalize a0_7.eval = ρ at *
    go_simp
  refine fa0_7.step 17 (.int .u64 (n : Int)) rfl (lb_ hsz) (wanted_none rfl) r_a0_8 (fun a0_8 fa0_8 => ?_)
  clear r_a0_8
  clear fa0_7
  have r_a0_9 : (execOp a0_8.eval { dst := some 18, op := Op.call { callee := Callee.value (Operand.func 54), args := #[Operand.tmp 15, Operand.tmp 17], argTypes := #[98, 98] }, type := 99, pos := "slices.go:520", after := #[{ on := 2, ground := Ground.data }, { on := 4, ground := Ground.data }], guard := none }).run Try.prog (w) = .ok (.enter 54 #[.int .u64 1, .int .u64 (n : Int)]) (w) := by
    have kf : ∀ f, a0_8.eval (.func f) = .func (.func f) #[] #[] := fun _ => rfl
    have e15 := (show a0_8.eval (.tmp 15) = .int .u64 1 from (fa0_8.at_ 15))
    have e17 := (show a0_8.eval (.tmp 17) = .int .u64 (n : Int) from (fa0_8.at_ 17))
    clear fa0_8 ha hn0 hn
    generalize a0_8.eval = ρ at *
    go_simp
  refine fa0_8.call 18 rfl (lb_ hsz) (wanted_none rfl) r_a0_9 (hM) (fun e w1 hR => ?_)
  obtain ⟨rfl, hw1⟩ := hR
  clear r_a0_9
  have hw1 := hw1.symm
  subst hw1
  refine ⟨_, rfl, fun a0_9 fa0_9 => ?_⟩
  clear fa0_8
  refine fa0_9.move 12 (.tuple #[.int .u64 0, .int .u64 (n : Int)]) _ (Or.inl rfl) rfl (lb_ hsz) (wanted_none rfl) (fa0_9.at_ 18) (fun a0_10 fa0_10 => ?_)
  clear fa0_9
  have r_a0_11 : (execOp a0_10.eval { dst := some 19, op := Op.extract (Operand.tmp 12) 0, type := 98, pos := "slices.go:520", after := #[{ on := 6, ground := Ground.data }], guard := none }).run Try.prog (w) = .ok (.value (.int .u64 0)) (w) := by
    have e12 := (show a0_10.eval (.tmp 12) = .tuple #[.int .u64 0, .int .u64 (n : Int)] from (fa0_10.at_ 12))
    clear fa0_10 ha hn0 hn
    generalize a0_10.eval = ρ at *
    go_simp
  refine fa0_10.step 19 (.int .u64 0) rfl (lb_ hsz) (wanted_none rfl) r_a0_11 (fun a0_11 fa0_11 => ?_)
  clear r_a0_11
  clear fa0_10
  have r_a0_12 : (execOp a0_11.eval { dst := some 20, op := Op.extract (Operand.tmp 12) 1, type := 98, pos := "slices.go:520", after := #[{ on := 6, ground := Ground.data }, { on := 9, ground := Ground.gcOnly Go.Departure.lateStores }], guard := none }).run Try.prog (w) = .ok (.value (.int .u64 (n : Int))) (w) := by
    have e12 := (show a0_11.eval (.tmp 12) = .tuple #[.int .u64 0, .int .u64 (n : Int)] from (fa0_11.at_ 12))
    clear fa0_11 ha hn0 hn
    generalize a0_11.eval = ρ at *
    go_simp
  refine fa0_11.step 20 (.int .u64 (n : Int)) rfl (lb_ hsz) (wanted_none rfl) r_a0_12 (fun a0_12 fa0_12 => ?_)
  clear r_a0_12
  clear fa0_11
  refine fa0_12.move 5 (.int .u64 0) _ (Or.inr rfl) rfl (lb_ hsz) (wanted_none rfl) (fa0_12.at_ 19) (fun a0_13 fa0_13 => ?_)
  clear fa0_12
  refine fa0_13.move 6 (.int .u64 (n : Int)) _ (Or.inr rfl) rfl (lb_ hsz) (wanted_none rfl) (fa0_13.at_ 20) (fun a0_14 fa0_14 => ?_)
  clear fa0_13
  refine wpList_nil ?_
  change Code.wp _ _ _ _ _
  refine wp_seq (wp_seq ?_)
  refine wp_region_list ?_
  unfold rOG4
  refine fa0_14.move 21 (.int .u64 0) _ (Or.inl rfl) rfl (lb_ hsz) (wanted_none rfl) (fa0_14.at_ 5) (fun a0_15 fa0_15 => ?_)
  clear fa0_14
  have r_a0_16 : (execOp a0_15.eval { dst := some 22, op := Op.binOp BinOp.gtr 98 (Operand.tmp 21) (Operand.const (Value.int IntKind.u64 0)) 98, type := 4, pos := "slices.go:521", after := #[{ on := 0, ground := Ground.data }], guard := none }).run Try.prog (w) = .ok (.value (.bool false)) (w) := by
    have kc : ∀ v, a0_15.eval (.const v) = v := fun _ => rfl
    have e21 := (show a0_15.eval (.tmp 21) = .int .u64 0 from (fa0_15.at_ 21))
    clear fa0_15 ha hn0 hn
    generalize a0_15.eval = ρ at *
    go_simp
  refine fa0_15.step 22 (.bool false) rfl (lb_ hsz) (wanted_none rfl) r_a0_16 (fun a0_16 fa0_16 => ?_)
  clear r_a0_16
  clear fa0_15
  refine fa0_16.move 23 (.bool false) _ (Or.inl rfl) rfl (lb_ hsz) (wanted_none rfl) (fa0_16.at_ 22) (fun a0_17 fa0_17 => ?_)
  clear fa0_16
  refine fa0_17.move 24 (.int .u64 (n : Int)) _ (Or.inl rfl) rfl (lb_ hsz) ((wanted_at (t := 23) (c := false) (b := false) rfl rfl rfl (lb_ (fa0_17.size.trans hsz)) (fa0_17.at_ 23)).trans (by rfl)) (fa0_17.at_ 6) (fun a0_18 fa0_18 => ?_)
  clear fa0_17
  have r_a0_19 : (execOp a0_18.eval { dst := some 25, op := Op.binOp BinOp.gtr 98 (Operand.tmp 24) (Operand.const (Value.int IntKind.u64 9223372036854775807)) 98, type := 4, pos := "slices.go:521", after := #[{ on := 3, ground := Ground.data }, { on := 2, ground := Ground.guard }], guard := some (2, false) }).run Try.prog (w) = .ok (.value (.bool false)) (w) := by
    have kc : ∀ v, a0_18.eval (.const v) = v := fun _ => rfl
    have e24 := (show a0_18.eval (.tmp 24) = .int .u64 (n : Int) from (fa0_18.at_ 24))
    clear fa0_18 ha hn0 hn
    generalize a0_18.eval = ρ at *
    go_simp
  refine fa0_18.step 25 (.bool false) rfl (lb_ hsz) ((wanted_at (t := 23) (c := false) (b := false) rfl rfl rfl (lb_ (fa0_18.size.trans hsz)) (fa0_18.at_ 23)).trans (by rfl)) r_a0_19 (fun a0_19 fa0_19 => ?_)
  clear r_a0_19
  clear fa0_18
  have r_a0_20 : (execOp a0_19.eval { dst := some 26, op := Op.pick (Operand.tmp 23) (Operand.const (Value.bool true)) (Operand.tmp 25), type := 4, pos := "slices.go:521", after := #[{ on := 2, ground := Ground.data }, { on := 4, ground := Ground.data }], guard := none }).run Try.prog (w) = .ok (.value (.bool false)) (w) := by
    have kc : ∀ v, a0_19.eval (.const v) = v := fun _ => rfl
    have e23 := (show a0_19.eval (.tmp 23) = .bool false from (fa0_19.at_ 23))
    have e25 := (show a0_19.eval (.tmp 25) = .bool false from (fa0_19.at_ 25))
    clear fa0_19 ha hn0 hn
    generalize a0_19.eval = ρ at *
    go_simp
  refine fa0_19.step 26 (.bool false) rfl (lb_ hsz) (wanted_none rfl) r_a0_20 (fun a0_20 fa0_20 => ?_)
  clear r_a0_20
  clear fa0_19
  refine wpList_nil ?_
  change Code.wp _ _ _ _ _
  refine wp_cond_false (show a0_20.eval (.tmp 26) = .bool false from (fa0_20.at_ 26)) (wp_skip ?_)
  change Code.wp _ _ _ _ _
  refine wp_seq ?_
  refine wp_region_list ?_
  unfold rOG6
  refine fa0_20.move 28 (.int .u64 (n : Int)) _ (Or.inl rfl) rfl (lb_ hsz) (wanted_none rfl) (fa0_20.at_ 6) (fun a0_21 fa0_21 => ?_)
  clear fa0_20
  have r_a0_22 : (execOp a0_21.eval { dst := some 29, op := Op.convert 98 3 (Operand.tmp 28), type := 3, pos := "slices.go:525", after := #[{ on := 0, ground := Ground.data }], guard := none }).run Try.prog (w) = .ok (.value (.int .i64 (n : Int))) (w) := by
    have e28 := (show a0_21.eval (.tmp 28) = .int .u64 (n : Int) from (fa0_21.at_ 28))
    clear fa0_21 ha hn0 hn
    generalize a0_21.eval = ρ at *
    go_simp
  refine fa0_21.step 29 (.int .i64 (n : Int)) rfl (lb_ hsz) (wanted_none rfl) r_a0_22 (fun a0_22 fa0_22 => ?_)
  clear r_a0_22
  clear fa0_21
  have r_a0_23 : (execOp a0_22.eval { dst := some 30, op := Op.makeSlice 22 (Operand.tmp 29) (Operand.tmp 29), type := 22, pos := "slices.go:525", after := #[{ on := 1, ground := Ground.data }, { on := 1, ground := Ground.data }], guard := none }).run Try.prog (w) = .ok (.value (.slice (some ⟨w.heap.size, 0, none⟩) n n)) (w.alloc (.cells (List.replicate n (Value.string ⟨#[]⟩)).toArray 9)) := by
    refine exec_make rfl ?_
    rw [(show a0_22.eval (.tmp 29) = .int .i64 (n : Int) from (fa0_22.at_ 29))]
    exact zrep n hn w
  refine fa0_22.stepW 30 (.slice (some ⟨w.heap.size, 0, none⟩) n n) rfl (lb_ hsz) (wanted_none rfl) r_a0_23 (fun a0_23 fa0_23 => ?_)
  clear r_a0_23
  obtain ⟨V, hV⟩ : ∃ V, V = w.alloc (.cells (List.replicate n (Value.string ⟨#[]⟩)).toArray 9) := ⟨_, rfl⟩
  rw [← hV]
  have sV : Same w V := by rw [hV]; exact (Fr.refl _ w).alloc _
  have hVr : V.heap[w.heap.size]? = some (.cells (List.replicate n (Value.string ⟨#[]⟩)).toArray 9 (0, 0)) := by rw [hV]; exact heap_alloc_new w _
  clear hV
  clear fa0_22
  refine fa0_23.move 7 (.slice (some ⟨w.heap.size, 0, none⟩) n n) _ (Or.inr rfl) rfl (lb_ hsz) (wanted_none rfl) (fa0_23.at_ 30) (fun a0_24 fa0_24 => ?_)
  clear fa0_23
  refine wpList_nil ?_
  change Code.wp _ _ _ _ _
  refine wp_seq ?_
  refine wp_region_list ?_
  unfold rOG7
  refine fa0_24.move 31 (.slice (some ⟨w.heap.size, 0, none⟩) n n) _ (Or.inl rfl) rfl (lb_ hsz) (wanted_none rfl) (fa0_24.at_ 7) (fun a0_25 fa0_25 => ?_)
  clear fa0_24
  refine fa0_25.move 32 (.slice (some ⟨gx, 0, none⟩) 1 cx) _ (Or.inl rfl) rfl (lb_ hsz) (wanted_none rfl) ((fa0_25.at_ 0).trans (ha 0 _ rfl)) (fun a0_26 fa0_26 => ?_)
  clear fa0_25
  have hsrc : ∀ j v, [Value.string s][j]? = some v → V.cell? ((⟨gx, 0, none⟩ : Addr).add j) = some v := fun j v hj => by
    match j, hj with
    | 0, hj => obtain rfl := Option.some.inj hj; rw [WideShapes.add_plain]; exact sV.keep hx
  have r_a0_27 : (execOp a0_26.eval { dst := some 33, op := Op.call { callee := Callee.builtin Builtin.copy, args := #[Operand.tmp 31, Operand.tmp 32], argTypes := #[22, 22] }, type := 3, pos := "slices.go:526", after := #[{ on := 0, ground := Ground.data }, { on := 1, ground := Ground.data }], guard := none }).run Try.prog (V) = .ok (.value (.int .i64 ((1 : Nat) : Int))) (World.setRow V w.heap.size ((((List.replicate n (Value.string ⟨#[]⟩)).toArray.toList.take 0) ++ [Value.string s] ++ ((List.replicate n (Value.string ⟨#[]⟩)).toArray.toList.drop (0 + 1))).toArray)) := by
    refine exec_copy rfl ?_
    rw [(show a0_26.eval (.tmp 31) = .slice (some ⟨w.heap.size, 0, none⟩) n n from (fa0_26.at_ 31)), (show a0_26.eval (.tmp 32) = .slice (some ⟨gx, 0, none⟩) 1 cx from (fa0_26.at_ 32))]
    exact run_copy_row (P := Try.prog) V 22 22 3 9 w.heap.size 0 n n ⟨gx, 0, none⟩ 1 cx (List.replicate n (Value.string ⟨#[]⟩)).toArray 9 [Value.string s] Try.underlying22 (by kernel_rfl) hVr (show 1 = Nat.min 1 n from (Nat.min_eq_left hn0).symm) hsrc (by simp; omega) (fun v hv => by rw [List.mem_singleton] at hv; rw [hv]; rfl)
  refine fa0_26.stepW 33 (.int .i64 ((1 : Nat) : Int)) rfl (lb_ hsz) (wanted_none rfl) r_a0_27 (fun a0_27 fa0_27 => ?_)
  clear r_a0_27
  have r1 : (World.setRow V w.heap.size ((((List.replicate n (Value.string ⟨#[]⟩)).toArray.toList.take 0) ++ [Value.string s] ++ ((List.replicate n (Value.string ⟨#[]⟩)).toArray.toList.drop (0 + 1))).toArray)).heap[w.heap.size]? = some (.cells (rpC s n 1).toArray 9 (0, 0)) := by rw [setRow_heap V w.heap.size _ _ 9 (0, 0) hVr, ← rpc_one]
  have f1 : Fr (fun j => j = w.heap.size) V (World.setRow V w.heap.size ((((List.replicate n (Value.string ⟨#[]⟩)).toArray.toList.take 0) ++ [Value.string s] ++ ((List.replicate n (Value.string ⟨#[]⟩)).toArray.toList.drop (0 + 1))).toArray)) := setRow_fr _ _ _
  generalize World.setRow V w.heap.size ((((List.replicate n (Value.string ⟨#[]⟩)).toArray.toList.take 0) ++ [Value.string s] ++ ((List.replicate n (Value.string ⟨#[]⟩)).toArray.toList.drop (0 + 1))).toArray) = V1 at *
  clear fa0_26
  refine fa0_27.move 8 (.int .i64 ((1 : Nat) : Int)) _ (Or.inr rfl) rfl (lb_ hsz) (wanted_none rfl) (fa0_27.at_ 33) (fun a0_28 fa0_28 => ?_)
  clear fa0_27
  refine wpList_nil ?_
  change Code.wp _ _ _ _ _
  refine wp_seq ?_
  refine wp_block ?_
  refine ogL (s := s) (by intro c a d v w h; cases d <;> exact h) a0_28 V1 ⟨fa0_28.size.trans hsz, fa0_28.defers.trans hd, (show a0_28.eval (.tmp 7) = .slice (some ⟨w.heap.size, 0, none⟩) n n from (fa0_28.at_ 7))⟩ (show a0_28.eval (.tmp 8) = .int .i64 ((1 : Nat) : Int) from (fa0_28.at_ 8)) r1 hn0 hn (fun b W i1 r2 f2 => ?_)
  change Code.wp _ _ _ _ _
  refine wp_seq ?_
  have fb_0 := Fe.refl b
  refine wp_region_list ?_
  unfold rOG10
  refine fb_0.move 47 (.slice (some ⟨w.heap.size, 0, none⟩) n n) _ (Or.inl rfl) rfl (lb_ i1.size) (wanted_none rfl) ((fb_0.at_ 7).trans i1.s7) (fun b_1 fb_1 => ?_)
  clear fb_0
  refine fb_1.move 4 (.slice (some ⟨w.heap.size, 0, none⟩) n n) _ (Or.inr rfl) rfl (lb_ i1.size) (wanted_none rfl) (fb_1.at_ 47) (fun b_2 fb_2 => ?_)
  clear fb_1
  refine wpList_nil ?_
  change Code.wp _ _ _ _ _
  refine wp_ret ?_
  refine ret_abs rfl (fb_2.defers.trans i1.defers) (show b_2.eval (.tmp 4) = .slice (some ⟨w.heap.size, 0, none⟩) n n from (fb_2.at_ 4)) ⟨w.heap.size, n, rfl, ?_, Fr.trans sV (f1.trans f2 (fun _ _ e => e)) (fun k hk e => by have e2 : k = w.heap.size := e; omega)⟩
  refine ⟨by simp, Or.inr ⟨w.heap.size, n, _, rfl, Nat.le_refl _, r2, Nat.le_refl _, by unfold maxLen; omega, ?_, ?_⟩⟩
  · simp only [List.size_toArray, rpC_len (Nat.le_refl _), Nat.mul_one]
  · simp [rpC]
end Go.Proofs.Ytljlkcmjbjnihaa
