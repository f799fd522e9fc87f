/- disk: settle. -/
import Derived.Test.YtljlkcmjbjnihaaOL
namespace Go.Proofs.Ytljlkcmjbjnihaa
open Go.RowKit

def rOM0 : Array Oper := #[{ dst := some 6, op := Op.move (Operand.tmp 0), type := 27, pos := "power.go:66", after := #[], guard := none },
  { dst := some 7, op := Op.nilCheck (Operand.tmp 6), type := 0, pos := "power.go:66", after := #[{ on := 0, ground := Ground.data }], guard := none },
  { dst := some 8, op := Op.fieldAddr 51 (Operand.tmp 7) 4, type := 0, pos := "power.go:66", after := #[{ on := 1, ground := Ground.data }], guard := none },
  { dst := some 9, op := Op.load 48 (Operand.tmp 8), type := 48, pos := "power.go:66", after := #[{ on := 2, ground := Ground.data }], guard := none },
  { dst := some 10, op := Op.call { callee := Callee.builtin Builtin.len, args := #[Operand.tmp 9], argTypes := #[48] }, type := 3, pos := "power.go:66", after := #[{ on := 3, ground := Ground.data }], guard := none },
  { dst := some 11, op := Op.move (Operand.const (Value.int IntKind.i64 0)), type := 3, pos := "power.go:66", after := #[], guard := none }]
def rOM1 : Array Oper := #[{ dst := some 12, op := Op.binOp BinOp.lss 3 (Operand.tmp 11) (Operand.tmp 10) 3, type := 0, pos := "power.go:66", after := #[], guard := none }]
def rOM2 : Array Oper := #[{ dst := some 13, op := Op.move (Operand.tmp 11), type := 3, pos := "power.go:66", after := #[], guard := none },
  { dst := some 14, op := Op.indexAddr 48 (Operand.tmp 9) (Operand.tmp 11), type := 0, pos := "power.go:66", after := #[], guard := none },
  { dst := some 15, op := Op.load 77 (Operand.tmp 14), type := 77, pos := "power.go:66", after := #[{ on := 1, ground := Ground.data }], guard := none },
  { dst := some 5, op := Op.alloc 77, type := 0, pos := "power.go:66", after := #[], guard := none },
  { dst := some 4, op := Op.assign (Operand.tmp 13), type := 3, pos := "power.go:66", after := #[{ on := 0, ground := Ground.data }, { on := 0, ground := Ground.phase }, { on := 1, ground := Ground.phase }, { on := 2, ground := Ground.phase }, { on := 3, ground := Ground.phase }], guard := none },
  { dst := none, op := Op.store 77 (Operand.tmp 5) (Operand.tmp 15), type := 0, pos := "power.go:66", after := #[{ on := 3, ground := Ground.data }, { on := 2, ground := Ground.data }, { on := 4, ground := Ground.chain }, { on := 0, ground := Ground.phase }, { on := 1, ground := Ground.phase }, { on := 2, ground := Ground.phase }, { on := 3, ground := Ground.phase }, { on := 4, ground := Ground.phase }], guard := none }]
def rOM3 : Array Oper := #[{ dst := some 16, op := Op.move (Operand.tmp 0), type := 27, pos := "power.go:67", after := #[], guard := none },
  { dst := some 17, op := Op.nilCheck (Operand.tmp 16), type := 0, pos := "power.go:67", after := #[{ on := 0, ground := Ground.data }], guard := none },
  { dst := some 18, op := Op.fieldAddr 51 (Operand.tmp 17) 1, type := 0, pos := "power.go:67", after := #[{ on := 1, ground := Ground.data }], guard := none },
  { dst := some 19, op := Op.load 77 (Operand.tmp 5), type := 77, pos := "power.go:67", after := #[], guard := none },
  { dst := some 20, op := Op.move (Operand.tmp 1), type := 87, pos := "power.go:67", after := #[], guard := none },
  { dst := some 21, op := Op.move (Operand.tmp 4), type := 3, pos := "power.go:67", after := #[], guard := none },
  { dst := some 22, op := Op.call { callee := Callee.value (Operand.tmp 20), args := #[Operand.tmp 21], argTypes := #[3] }, type := 66, pos := "power.go:67", after := #[{ on := 4, ground := Ground.data }, { on := 5, ground := Ground.data }], guard := none },
  { dst := some 23, op := Op.call { callee := Callee.value (Operand.func 45), args := #[Operand.tmp 18, Operand.tmp 19, Operand.tmp 22], argTypes := #[46, 77, 66] }, type := 0, pos := "power.go:67", after := #[{ on := 2, ground := Ground.data }, { on := 3, ground := Ground.data }, { on := 6, ground := Ground.data }, { on := 6, ground := Ground.chain }], guard := none }]
def rOM4 : Array Oper := #[{ dst := some 24, op := Op.binOp BinOp.add 3 (Operand.tmp 11) (Operand.const (Value.int IntKind.i64 1)) 3, type := 3, pos := "power.go:66", after := #[], guard := none },
  { dst := some 11, op := Op.move (Operand.tmp 24), type := 3, pos := "power.go:66", after := #[{ on := 0, ground := Ground.data }], guard := none }]
def rOM5 : Array Oper := #[{ dst := some 25, op := Op.move (Operand.tmp 0), type := 27, pos := "power.go:69", after := #[], guard := none },
  { dst := some 26, op := Op.nilCheck (Operand.tmp 25), type := 0, pos := "power.go:69", after := #[{ on := 0, ground := Ground.data }, { on := 0, ground := Ground.phase }], guard := none },
  { dst := some 27, op := Op.fieldAddr 51 (Operand.tmp 26) 4, type := 0, pos := "power.go:69", after := #[{ on := 1, ground := Ground.data }, { on := 0, ground := Ground.phase }], guard := none },
  { dst := none, op := Op.store 48 (Operand.tmp 27) (Operand.const (Value.slice none 0 0)), type := 0, pos := "power.go:69", after := #[{ on := 2, ground := Ground.data }, { on := 0, ground := Ground.phase }], guard := none }]
def cOM1 : Code := (Code.seq (Code.region 1 rOM1 false) (Code.seq (Code.cond (Operand.tmp 12) Code.skip (Code.exit 0)) (Code.seq (Code.block 1 (Code.seq (Code.region 2 rOM2 false) (Code.region 3 rOM3 true))) (Code.region 4 rOM4 false))))
def cOM : Code := (Code.seq (Code.seq (Code.region 0 rOM0 false) (Code.block 0 (Code.loop cOM1))) (Code.region 5 rOM5 false))
/-- The image behind all that waits, each by its fate. -/
def setP (pg : Nat) (f : Nat → Nat) : Nat → List Wt → List ByteArray → List ByteArray
  | _, [], l => l
  | k, x :: W, l => setP pg f (k + 1) W (comeP pg l x (f k))
theorem setP_snoc {pg : Nat} {f : Nat → Nat} : ∀ (W : List Wt) (k : Nat) (l : List ByteArray) (x : Wt), setP pg f k (W ++ [x]) l = comeP pg (setP pg f k W l) x (f (k + W.length))
  | [], _, _, _ => by simp [setP]
  | y :: W, k, l, x => by
    show setP pg f (k + 1) (W ++ [x]) _ = _
    rw [setP_snoc W (k + 1)]
    show _ = comeP pg (setP pg f (k + 1) W (comeP pg l y (f k))) x (f (k + (y :: W).length))
    rw [List.length_cons, show k + 1 + W.length = k + (W.length + 1) from by omega]
theorem setP_all {pg : Nat} {f : Nat → Nat} (h8 : pg = 8 * (pg / 8)) : ∀ (W : List Wt) (k : Nat) (l : List ByteArray), (∀ x ∈ W, WtOk pg x) → (∀ s ∈ l, s.size = pg) → ∀ s ∈ setP pg f k W l, s.size = pg
  | [], _, _, _, h => h
  | x :: W, k, _, hw, h => setP_all h8 W (k + 1) _ (fun y hy => hw y (List.mem_cons_of_mem _ hy)) (comeP_all h8 (hw x List.mem_cons_self) h)
structure IOM (b n : Nat) (sl F : Value) (a : Act) : Prop where
  size : a.tmps.size = 28
  defers : a.defers = []
  s0 : a.eval (.tmp 0) = .pointer (some ⟨b, 0, none⟩)
  s1 : a.eval (.tmp 1) = F
  s9 : a.eval (.tmp 9) = sl
  s10 : a.eval (.tmp 10) = .int .i64 (n : Int)
theorem IOM.keep {b n : Nat} {sl F : Value} {a0 a : Act} {env : List (Nat × Value)} (h : IOM b n sl F a0) (f : Fe a0 env a) (h0 : look env 0 (a0.eval (.tmp 0)) = a0.eval (.tmp 0)) (h1 : look env 1 (a0.eval (.tmp 1)) = a0.eval (.tmp 1)) (h9 : look env 9 (a0.eval (.tmp 9)) = a0.eval (.tmp 9)) (h10 : look env 10 (a0.eval (.tmp 10)) = a0.eval (.tmp 10)) : IOM b n sl F a :=
  ⟨f.size.trans h.size, f.defers.trans h.defers, ((f.at_ 0).trans h0).trans h.s0, ((f.at_ 1).trans h1).trans h.s1, ((f.at_ 9).trans h9).trans h.s9, ((f.at_ 10).trans h10).trans h.s10⟩
theorem omE {b n i : Nat} {sl F : Value} {Q : Exit → Act → World → Prop} (a0 : Act) (wr : World) (I0 : IOM b n sl F a0) (h11 : a0.eval (.tmp 11) = .int .i64 (i : Int)) (hi : n ≤ i) (hQ : ∀ a, IOM b n sl F a → Q (.exit 0) a wr) : cOM1.wp Try.prog Q a0 wr := by
  have hii : ¬ (i : Int) < (n : Int) := by omega
  have hid : decide ((i : Int) < (n : Int)) = false := decide_eq_false hii
  clear hi
  have fa0_0 := Fe.refl a0
  unfold cOM1
  refine wp_seq ?_
  refine wp_region_list ?_
  unfold rOM1
  have r_a0_1 : (execOp a0.eval { dst := some 12, op := Op.binOp BinOp.lss 3 (Operand.tmp 11) (Operand.tmp 10) 3, type := 0, pos := "power.go:66", after := #[], guard := none }).run Try.prog (wr) = .ok (.value (.bool false)) (wr) := by
    have e11 := (show a0.eval (.tmp 11) = .int .i64 (i : Int) from ((fa0_0.at_ 11).trans h11))
    have e10 := (show a0.eval (.tmp 10) = .int .i64 (n : Int) from ((fa0_0.at_ 10).trans I0.s10))
    clear fa0_0 hQ h11
    generalize a0.eval = ρ at *
    go_simp
  refine fa0_0.step 12 (.bool false) rfl (lb_ I0.size) (wanted_none rfl) r_a0_1 (fun a0_1 fa0_1 => ?_)
  clear r_a0_1
  clear fa0_0
  refine wpList_nil ?_
  change Code.wp _ _ _ _ _
  refine wp_seq (wp_cond_false (show a0_1.eval (.tmp 12) = .bool false from (fa0_1.at_ 12)) (wp_exit ?_))
  exact hQ a0_1 (I0.keep fa0_1 rfl rfl rfl rfl)
set_option maxRecDepth 100000 in
set_option maxHeartbeats 1000000 in
theorem omS {b n gw wc i f : Nat} {x : Wt} {CONT : World → World → Prop} {Q : Exit → Act → World → Prop} (hQp : ∀ c (a : Act) d v w, Q (.panic c) (a.put d v) w → Q (.panic c) a w) (a0 : Act) (wr : World) (I0 : IOM b n (.slice (some ⟨gw, 0, none⟩) n wc) (.func (.func 43) #[] #[]) a0) (h11 : a0.eval (.tmp 11) = .int .i64 (i : Int)) (hi : i < n) (hn : n ≤ 1048576) (a1 : wr.cell? ⟨gw, i * 4, none⟩ = some (.int .u8 (x.act : Int))) (a2 : wr.cell? ⟨gw, i * 4 + 1, none⟩ = some (.int .u32 (x.pg : Int))) (a3 : wr.cell? ⟨gw, i * 4 + 2, none⟩ = some (.int .i64 (x.pages : Int))) (a4 : wr.cell? ⟨gw, i * 4 + 3, none⟩ = some (.string x.data))
    (hF : ∀ W, Same wr W → Calls Try.prog 43 #[.int .i64 (i : Int)] W fun e w' => e = .returned (.int .u8 (f : Int)) ∧ w' = W)
    (hC : ∀ W, Same wr W → Calls Try.prog 45 #[.pointer (some ⟨b, 2, none⟩), .agg #[.int .u8 (x.act : Int), .int .u32 (x.pg : Int), .int .i64 (x.pages : Int), .string x.data], .int .u8 (f : Int)] W fun e w' => e = .returned (.tuple #[]) ∧ CONT W w')
    (hX : ∀ W W', Same wr W → wr.heap.size < W.heap.size → CONT W W' → W'.heap[wr.heap.size]? = W.heap[wr.heap.size]?)
    (hQ : ∀ a W W3, IOM b n (.slice (some ⟨gw, 0, none⟩) n wc) (.func (.func 43) #[] #[]) a → a.eval (.tmp 11) = .int .i64 ((i : Int) + 1) → Same wr W3 → CONT W3 W → Q .normal a W) : cOM1.wp Try.prog Q a0 wr := by
  have hii : (i : Int) < (n : Int) := by omega
  have w1 : IntKind.i64.wrap ((i : Int) + 1) = (i : Int) + 1 := by rw [IntKind.wrap_i64]; omega
  have fa0_0 := Fe.refl a0
  unfold cOM1
  refine wp_seq ?_
  refine wp_region_list ?_
  unfold rOM1
  have r_a0_1 : (execOp a0.eval { dst := some 12, op := Op.binOp BinOp.lss 3 (Operand.tmp 11) (Operand.tmp 10) 3, type := 0, pos := "power.go:66", after := #[], guard := none }).run Try.prog (wr) = .ok (.value (.bool true)) (wr) := by
    have e11 := (show a0.eval (.tmp 11) = .int .i64 (i : Int) from ((fa0_0.at_ 11).trans h11))
    have e10 := (show a0.eval (.tmp 10) = .int .i64 (n : Int) from ((fa0_0.at_ 10).trans I0.s10))
    clear fa0_0 hQ h11 hF hC hX
    generalize a0.eval = ρ at *
    go_simp
  refine fa0_0.step 12 (.bool true) rfl (lb_ I0.size) (wanted_none rfl) r_a0_1 (fun a0_1 fa0_1 => ?_)
  clear r_a0_1
  clear fa0_0
  refine wpList_nil ?_
  change Code.wp _ _ _ _ _
  refine wp_seq (wp_cond_true (show a0_1.eval (.tmp 12) = .bool true from (fa0_1.at_ 12)) (wp_skip ?_))
  change Code.wp _ _ _ _ _
  refine wp_seq (wp_block (wp_seq ?_))
  refine wp_region_list ?_
  unfold rOM2
  refine fa0_1.move 13 (.int .i64 (i : Int)) _ (Or.inl rfl) rfl (lb_ I0.size) (wanted_none rfl) ((fa0_1.at_ 11).trans h11) (fun a0_2 fa0_2 => ?_)
  clear fa0_1
  have r_a0_3 : (execOp a0_2.eval { dst := some 14, op := Op.indexAddr 48 (Operand.tmp 9) (Operand.tmp 11), type := 0, pos := "power.go:66", after := #[], guard := none }).run Try.prog (wr) = .ok (.value (.pointer (some ⟨gw, i * 4, none⟩))) (wr) := by
    have e9 := (show a0_2.eval (.tmp 9) = .slice (some ⟨gw, 0, none⟩) n wc from ((fa0_2.at_ 9).trans I0.s9))
    have e11 := (show a0_2.eval (.tmp 11) = .int .i64 (i : Int) from ((fa0_2.at_ 11).trans h11))
    clear fa0_2 hQ h11 hF hC hX
    generalize a0_2.eval = ρ at *
    go_simp
  refine fa0_2.step 14 (.pointer (some ⟨gw, i * 4, none⟩)) rfl (lb_ I0.size) (wanted_none rfl) r_a0_3 (fun a0_3 fa0_3 => ?_)
  clear r_a0_3
  clear fa0_2
  have r_a0_4 : (execOp a0_3.eval { dst := some 15, op := Op.load 77 (Operand.tmp 14), type := 77, pos := "power.go:66", after := #[{ on := 1, ground := Ground.data }], guard := none }).run Try.prog (wr) = .ok (.value (.agg #[.int .u8 (x.act : Int), .int .u32 (x.pg : Int), .int .i64 (x.pages : Int), .string x.data])) (wr) := by
    have e14 := (show a0_3.eval (.tmp 14) = .pointer (some ⟨gw, i * 4, none⟩) from (fa0_3.at_ 14))
    clear fa0_3 hQ h11 hF hC hX
    generalize a0_3.eval = ρ at *
    go_simp
  refine fa0_3.step 15 (.agg #[.int .u8 (x.act : Int), .int .u32 (x.pg : Int), .int .i64 (x.pages : Int), .string x.data]) rfl (lb_ I0.size) (wanted_none rfl) r_a0_4 (fun a0_4 fa0_4 => ?_)
  clear r_a0_4
  clear fa0_3
  have r_a0_5 : (execOp a0_4.eval { dst := some 5, op := Op.alloc 77, type := 0, pos := "power.go:66", after := #[], guard := none }).run Try.prog (wr) = .ok (.value (.pointer (some ⟨wr.heap.size, 0, none⟩))) (wr.alloc (.cells #[.int .u8 0, .int .u32 0, .int .i64 0, .string ⟨#[]⟩] 77)) := by
    clear fa0_4 hQ h11 hF hC hX
    generalize a0_4.eval = ρ at *
    go_simp
  refine fa0_4.stepW 5 (.pointer (some ⟨wr.heap.size, 0, none⟩)) rfl (lb_ I0.size) (wanted_none rfl) r_a0_5 (fun a0_5 fa0_5 => ?_)
  clear r_a0_5
  obtain ⟨V, hV⟩ : ∃ V, V = wr.alloc (.cells #[.int .u8 0, .int .u32 0, .int .i64 0, .string ⟨#[]⟩] 77) := ⟨_, rfl⟩
  rw [← hV]
  have sV : Same wr V := by rw [hV]; exact (Fr.refl _ wr).alloc _
  have hVr : V.heap[wr.heap.size]? = some (.cells #[.int .u8 0, .int .u32 0, .int .i64 0, .string ⟨#[]⟩] 77 (0, 0)) := by rw [hV]; exact heap_alloc_new wr _
  clear hV
  clear fa0_4
  refine fa0_5.move 4 (.int .i64 (i : Int)) _ (Or.inr rfl) rfl (lb_ I0.size) (wanted_none rfl) (fa0_5.at_ 13) (fun a0_6 fa0_6 => ?_)
  clear fa0_5
  have r_a0_7 : (execOp a0_6.eval { dst := none, op := Op.store 77 (Operand.tmp 5) (Operand.tmp 15), type := 0, pos := "power.go:66", after := #[{ on := 3, ground := Ground.data }, { on := 2, ground := Ground.data }, { on := 4, ground := Ground.chain }, { on := 0, ground := Ground.phase }, { on := 1, ground := Ground.phase }, { on := 2, ground := Ground.phase }, { on := 3, ground := Ground.phase }, { on := 4, ground := Ground.phase }], guard := none }).run Try.prog (V) = .ok .skip (World.setCells V wr.heap.size 0 [.int .u8 (x.act : Int), .int .u32 (x.pg : Int), .int .i64 (x.pages : Int), .string x.data]) := by
    exact exec_store_mid 77 _ _ rfl wr.heap.size 0 #[.int .u8 (x.act : Int), .int .u32 (x.pg : Int), .int .i64 (x.pages : Int), .string x.data] (show a0_6.eval (.tmp 5) = .pointer (some ⟨wr.heap.size, 0, none⟩) from (fa0_6.at_ 5)) (show a0_6.eval (.tmp 15) = .agg #[.int .u8 (x.act : Int), .int .u32 (x.pg : Int), .int .i64 (x.pages : Int), .string x.data] from (fa0_6.at_ 15)) (there_row hVr rfl) (by kernel_rfl) (by kernel_rfl)
  refine fa0_6.store rfl (wanted_none rfl) r_a0_7 (fun a0_7 fa0_7 => ?_)
  clear r_a0_7
  obtain ⟨V1, hV1⟩ : ∃ V1, V1 = World.setCells V wr.heap.size 0 [.int .u8 (x.act : Int), .int .u32 (x.pg : Int), .int .i64 (x.pages : Int), .string x.data] := ⟨_, rfl⟩
  rw [← hV1]
  have r1 : V1.heap[wr.heap.size]? = some (.cells #[.int .u8 (x.act : Int), .int .u32 (x.pg : Int), .int .i64 (x.pages : Int), .string x.data] 77 (0, 0)) := by rw [hV1]; exact setCells_whole [.int .u8 (x.act : Int), .int .u32 (x.pg : Int), .int .i64 (x.pages : Int), .string x.data] _ hVr rfl (there_row hVr rfl)
  have s1 : Same wr V1 := by rw [hV1]; exact Fr.trans sV (Fr.setCells (S := fun k => k = wr.heap.size) (fun _ => rfl) _ 0 V (Fr.refl _ V)) (fun k hk e => by have e2 : k = wr.heap.size := e; omega)
  clear hV1
  have k0 : V1.cell? ⟨wr.heap.size, 0, none⟩ = some (.int .u8 (x.act : Int)) := (cell_of_row _ _ _ _ _ _ r1).trans rfl
  have k1 : V1.cell? ⟨wr.heap.size, 1, none⟩ = some (.int .u32 (x.pg : Int)) := (cell_of_row _ _ _ _ _ _ r1).trans rfl
  have k2 : V1.cell? ⟨wr.heap.size, 2, none⟩ = some (.int .i64 (x.pages : Int)) := (cell_of_row _ _ _ _ _ _ r1).trans rfl
  have k3 : V1.cell? ⟨wr.heap.size, 3, none⟩ = some (.string x.data) := (cell_of_row _ _ _ _ _ _ r1).trans rfl
  clear fa0_6
  refine wpList_nil ?_
  change Code.wp _ _ _ _ _
  have dd : Same V1 V1.drew := (Fr.refl (fun _ => False) V1).drew
  refine wp_region_held_drew (ops := rOM3) (S := fun Z => Z.heap[wr.heap.size]? = some (.cells #[.int .u8 (x.act : Int), .int .u32 (x.pg : Int), .int .i64 (x.pages : Int), .string x.data] 77 (0, 0))) (by kernel_rfl) (r1) (fun hS7 => ?_)
  refine fa0_7.takeMove 0 16 (.pointer (some ⟨b, 0, none⟩)) _ (Or.inl rfl) rfl (by kernel_rfl) (by kernel_rfl) (by kernel_rfl) (fun _ _ _ h => hQp _ _ _ _ _ h) rfl (lb_ I0.size) (wanted_none rfl) ((fa0_7.at_ 0).trans I0.s0) hS7 (fun a0_8 fa0_8 => ?_)
  clear fa0_7
  have r_a0_9 : ∀ Z, (fun Z => Z.heap[wr.heap.size]? = some (.cells #[.int .u8 (x.act : Int), .int .u32 (x.pg : Int), .int .i64 (x.pages : Int), .string x.data] 77 (0, 0))) Z → (execOp a0_8.eval { dst := some 17, op := Op.nilCheck (Operand.tmp 16), type := 0, pos := "power.go:67", after := #[{ on := 0, ground := Ground.data }], guard := none }).run Try.prog Z = .ok (.value (.pointer (some ⟨b, 0, none⟩))) Z := fun Z hZ => by
    have e16 := (show a0_8.eval (.tmp 16) = .pointer (some ⟨b, 0, none⟩) from (fa0_8.at_ 16))
    clear fa0_8 hQ h11 hF hC hX
    generalize a0_8.eval = ρ at *
    go_simp
  refine fa0_8.take 1 17 (.pointer (some ⟨b, 0, none⟩)) rfl (by kernel_rfl) (by kernel_rfl) (by kernel_rfl) (fun _ _ _ h => hQp _ _ _ _ _ h) rfl (lb_ I0.size) (wanted_none rfl) r_a0_9 hS7 (fun a0_9 fa0_9 => ?_)
  clear r_a0_9
  clear fa0_8
  have r_a0_10 : ∀ Z, (fun Z => Z.heap[wr.heap.size]? = some (.cells #[.int .u8 (x.act : Int), .int .u32 (x.pg : Int), .int .i64 (x.pages : Int), .string x.data] 77 (0, 0))) Z → (execOp a0_9.eval { dst := some 18, op := Op.fieldAddr 51 (Operand.tmp 17) 1, type := 0, pos := "power.go:67", after := #[{ on := 1, ground := Ground.data }], guard := none }).run Try.prog Z = .ok (.value (.pointer (some ⟨b, 2, none⟩))) Z := fun Z hZ => by
    have e17 := (show a0_9.eval (.tmp 17) = .pointer (some ⟨b, 0, none⟩) from (fa0_9.at_ 17))
    clear fa0_9 hQ h11 hF hC hX
    generalize a0_9.eval = ρ at *
    go_simp
  refine fa0_9.take 2 18 (.pointer (some ⟨b, 2, none⟩)) rfl (by kernel_rfl) (by kernel_rfl) (by kernel_rfl) (fun _ _ _ h => hQp _ _ _ _ _ h) rfl (lb_ I0.size) (wanted_none rfl) r_a0_10 hS7 (fun a0_10 fa0_10 => ?_)
  clear r_a0_10
  clear fa0_9
  have r_a0_11 : ∀ Z, (fun Z => Z.heap[wr.heap.size]? = some (.cells #[.int .u8 (x.act : Int), .int .u32 (x.pg : Int), .int .i64 (x.pages : Int), .string x.data] 77 (0, 0))) Z → (execOp a0_10.eval { dst := some 19, op := Op.load 77 (Operand.tmp 5), type := 77, pos := "power.go:67", after := #[], guard := none }).run Try.prog Z = .ok (.value (.agg #[.int .u8 (x.act : Int), .int .u32 (x.pg : Int), .int .i64 (x.pages : Int), .string x.data])) Z := fun Z hZ => by
    have z0 : Z.cell? ⟨wr.heap.size, 0, none⟩ = some (.int .u8 (x.act : Int)) := (cell_of_row _ _ _ _ _ _ hZ).trans rfl
    have z1 : Z.cell? ⟨wr.heap.size, 1, none⟩ = some (.int .u32 (x.pg : Int)) := (cell_of_row _ _ _ _ _ _ hZ).trans rfl
    have z2 : Z.cell? ⟨wr.heap.size, 2, none⟩ = some (.int .i64 (x.pages : Int)) := (cell_of_row _ _ _ _ _ _ hZ).trans rfl
    have z3 : Z.cell? ⟨wr.heap.size, 3, none⟩ = some (.string x.data) := (cell_of_row _ _ _ _ _ _ hZ).trans rfl
    have e5 := (show a0_10.eval (.tmp 5) = .pointer (some ⟨wr.heap.size, 0, none⟩) from (fa0_10.at_ 5))
    clear fa0_10 hQ h11 hF hC hX
    generalize a0_10.eval = ρ at *
    go_simp
  refine fa0_10.take 3 19 (.agg #[.int .u8 (x.act : Int), .int .u32 (x.pg : Int), .int .i64 (x.pages : Int), .string x.data]) rfl (by kernel_rfl) (by kernel_rfl) (by kernel_rfl) (fun _ _ _ h => hQp _ _ _ _ _ h) rfl (lb_ I0.size) (wanted_none rfl) r_a0_11 hS7 (fun a0_11 fa0_11 => ?_)
  clear r_a0_11
  clear fa0_10
  refine fa0_11.takeMove 4 20 (.func (.func 43) #[] #[]) _ (Or.inl rfl) rfl (by kernel_rfl) (by kernel_rfl) (by kernel_rfl) (fun _ _ _ h => hQp _ _ _ _ _ h) rfl (lb_ I0.size) (wanted_none rfl) ((fa0_11.at_ 1).trans I0.s1) hS7 (fun a0_12 fa0_12 => ?_)
  clear fa0_11
  refine fa0_12.takeMove 5 21 (.int .i64 (i : Int)) _ (Or.inl rfl) rfl (by kernel_rfl) (by kernel_rfl) (by kernel_rfl) (fun _ _ _ h => hQp _ _ _ _ _ h) rfl (lb_ I0.size) (wanted_none rfl) (fa0_12.at_ 4) hS7 (fun a0_13 fa0_13 => ?_)
  clear fa0_12
  have r_a0_14 : (execOp a0_13.eval { dst := some 22, op := Op.call { callee := Callee.value (Operand.tmp 20), args := #[Operand.tmp 21], argTypes := #[3] }, type := 66, pos := "power.go:67", after := #[{ on := 4, ground := Ground.data }, { on := 5, ground := Ground.data }], guard := none }).run Try.prog (V1.drew) = .ok (.enter 43 #[.int .i64 (i : Int)]) (V1.drew) := by
    have e20 := (show a0_13.eval (.tmp 20) = .func (.func 43) #[] #[] from (fa0_13.at_ 20))
    have e21 := (show a0_13.eval (.tmp 21) = .int .i64 (i : Int) from (fa0_13.at_ 21))
    clear fa0_13 hQ h11 hF hC hX
    generalize a0_13.eval = ρ at *
    go_simp
  refine fa0_13.oneCall 6 22 (by kernel_rfl) rfl rfl (lb_ I0.size) (wanted_none rfl) r_a0_14 (hF V1.drew (s1.trans dd)) (fun e W3 hR => ?_)
  obtain ⟨rfl, hw1⟩ := hR
  clear r_a0_14
  have s3 : Same wr W3 := by rw [hw1]; exact s1.trans dd
  have hS14 : (fun Z => Z.heap[wr.heap.size]? = some (.cells #[.int .u8 (x.act : Int), .int .u32 (x.pg : Int), .int .i64 (x.pages : Int), .string x.data] 77 (0, 0))) W3 := by rw [hw1]; exact r1
  refine ⟨_, rfl, hS14, fun a0_14 fa0_14 => ?_⟩
  clear fa0_13
  have r_a0_15 : (execOp a0_14.eval { dst := some 23, op := Op.call { callee := Callee.value (Operand.func 45), args := #[Operand.tmp 18, Operand.tmp 19, Operand.tmp 22], argTypes := #[46, 77, 66] }, type := 0, pos := "power.go:67", after := #[{ on := 2, ground := Ground.data }, { on := 3, ground := Ground.data }, { on := 6, ground := Ground.data }, { on := 6, ground := Ground.chain }], guard := none }).run Try.prog (W3) = .ok (.enter 45 #[.pointer (some ⟨b, 2, none⟩), .agg #[.int .u8 (x.act : Int), .int .u32 (x.pg : Int), .int .i64 (x.pages : Int), .string x.data], .int .u8 (f : Int)]) (W3) := by
    have kf : ∀ f, a0_14.eval (.func f) = .func (.func f) #[] #[] := fun _ => rfl
    have e18 := (show a0_14.eval (.tmp 18) = .pointer (some ⟨b, 2, none⟩) from (fa0_14.at_ 18))
    have e19 := (show a0_14.eval (.tmp 19) = .agg #[.int .u8 (x.act : Int), .int .u32 (x.pg : Int), .int .i64 (x.pages : Int), .string x.data] from (fa0_14.at_ 19))
    have e22 := (show a0_14.eval (.tmp 22) = .int .u8 (f : Int) from (fa0_14.at_ 22))
    clear fa0_14 hQ h11 hF hC hX
    generalize a0_14.eval = ρ at *
    go_simp
  refine fa0_14.oneCall 7 23 (by kernel_rfl) rfl rfl (lb_ I0.size) (wanted_none rfl) r_a0_15 (hC W3 s3) (fun e W4 hR => ?_)
  obtain ⟨rfl, hso⟩ := hR
  clear r_a0_15
  have hS15 : (fun Z => Z.heap[wr.heap.size]? = some (.cells #[.int .u8 (x.act : Int), .int .u32 (x.pg : Int), .int .i64 (x.pages : Int), .string x.data] 77 (0, 0))) W4 := (hX W3 W4 s3 (lt_of_heap (show W3.heap[wr.heap.size]? = _ from hS14)) hso).trans hS14
  refine ⟨_, rfl, hS15, fun a0_15 fa0_15 => ?_⟩
  clear fa0_14
  refine wpAnyH_done (by kernel_rfl) ?_ _
  change Code.wp _ _ _ _ _
  refine wp_region_list ?_
  unfold rOM4
  have r_a0_16 : (execOp a0_15.eval { dst := some 24, op := Op.binOp BinOp.add 3 (Operand.tmp 11) (Operand.const (Value.int IntKind.i64 1)) 3, type := 3, pos := "power.go:66", after := #[], guard := none }).run Try.prog (W4) = .ok (.value (.int .i64 ((i : Int) + 1))) (W4) := by
    have kc : ∀ v, a0_15.eval (.const v) = v := fun _ => rfl
    have e11 := (show a0_15.eval (.tmp 11) = .int .i64 (i : Int) from ((fa0_15.at_ 11).trans h11))
    clear fa0_15 hQ h11 hF hC hX
    generalize a0_15.eval = ρ at *
    go_simp
  refine fa0_15.step 24 (.int .i64 ((i : Int) + 1)) rfl (lb_ I0.size) (wanted_none rfl) r_a0_16 (fun a0_16 fa0_16 => ?_)
  clear r_a0_16
  clear fa0_15
  refine fa0_16.move 11 (.int .i64 ((i : Int) + 1)) _ (Or.inl rfl) rfl (lb_ I0.size) (wanted_none rfl) (fa0_16.at_ 24) (fun a0_17 fa0_17 => ?_)
  clear fa0_16
  refine wpList_nil ?_
  exact hQ a0_17 W4 W3 (I0.keep fa0_17 rfl rfl rfl rfl) (show a0_17.eval (.tmp 11) = .int .i64 ((i : Int) + 1) from (fa0_17.at_ 11)) s3 hso
set_option maxRecDepth 100000 in
set_option maxHeartbeats 1000000 in
theorem omL {b n gw wc i f : Nat} {fb : Nat} {x : Wt} {CONT : World → World → Prop} {Q : Exit → Act → World → Prop} (hQp : ∀ c (a : Act) d v w, Q (.panic c) (a.put d v) w → Q (.panic c) a w) (a0 : Act) (wr : World) (I0 : IOM b n (.slice (some ⟨gw, 0, none⟩) n wc) (.func (.func 49) #[] #[.pointer (some ⟨fb, 0, none⟩)]) a0) (h11 : a0.eval (.tmp 11) = .int .i64 (i : Int)) (hi : i < n) (hn : n ≤ 1048576) (a1 : wr.cell? ⟨gw, i * 4, none⟩ = some (.int .u8 (x.act : Int))) (a2 : wr.cell? ⟨gw, i * 4 + 1, none⟩ = some (.int .u32 (x.pg : Int))) (a3 : wr.cell? ⟨gw, i * 4 + 2, none⟩ = some (.int .i64 (x.pages : Int))) (a4 : wr.cell? ⟨gw, i * 4 + 3, none⟩ = some (.string x.data))
    (hF : ∀ W, Same wr W → Calls Try.prog 49 #[.int .i64 (i : Int), .pointer (some ⟨fb, 0, none⟩)] W fun e w' => e = .returned (.int .u8 (f : Int)) ∧ w' = W)
    (hC : ∀ W, Same wr W → Calls Try.prog 45 #[.pointer (some ⟨b, 2, none⟩), .agg #[.int .u8 (x.act : Int), .int .u32 (x.pg : Int), .int .i64 (x.pages : Int), .string x.data], .int .u8 (f : Int)] W fun e w' => e = .returned (.tuple #[]) ∧ CONT W w')
    (hX : ∀ W W', Same wr W → wr.heap.size < W.heap.size → CONT W W' → W'.heap[wr.heap.size]? = W.heap[wr.heap.size]?)
    (hQ : ∀ a W W3, IOM b n (.slice (some ⟨gw, 0, none⟩) n wc) (.func (.func 49) #[] #[.pointer (some ⟨fb, 0, none⟩)]) a → a.eval (.tmp 11) = .int .i64 ((i : Int) + 1) → Same wr W3 → CONT W3 W → Q .normal a W) : cOM1.wp Try.prog Q a0 wr := by
  have hii : (i : Int) < (n : Int) := by omega
  have w1 : IntKind.i64.wrap ((i : Int) + 1) = (i : Int) + 1 := by rw [IntKind.wrap_i64]; omega
  have fa0_0 := Fe.refl a0
  unfold cOM1
  refine wp_seq ?_
  refine wp_region_list ?_
  unfold rOM1
  have r_a0_1 : (execOp a0.eval { dst := some 12, op := Op.binOp BinOp.lss 3 (Operand.tmp 11) (Operand.tmp 10) 3, type := 0, pos := "power.go:66", after := #[], guard := none }).run Try.prog (wr) = .ok (.value (.bool true)) (wr) := by
    have e11 := (show a0.eval (.tmp 11) = .int .i64 (i : Int) from ((fa0_0.at_ 11).trans h11))
    have e10 := (show a0.eval (.tmp 10) = .int .i64 (n : Int) from ((fa0_0.at_ 10).trans I0.s10))
    clear fa0_0 hQ h11 hF hC hX
    generalize a0.eval = ρ at *
    go_simp
  refine fa0_0.step 12 (.bool true) rfl (lb_ I0.size) (wanted_none rfl) r_a0_1 (fun a0_1 fa0_1 => ?_)
  clear r_a0_1
  clear fa0_0
  refine wpList_nil ?_
  change Code.wp _ _ _ _ _
  refine wp_seq (wp_cond_true (show a0_1.eval (.tmp 12) = .bool true from (fa0_1.at_ 12)) (wp_skip ?_))
  change Code.wp _ _ _ _ _
  refine wp_seq (wp_block (wp_seq ?_))
  refine wp_region_list ?_
  unfold rOM2
  refine fa0_1.move 13 (.int .i64 (i : Int)) _ (Or.inl rfl) rfl (lb_ I0.size) (wanted_none rfl) ((fa0_1.at_ 11).trans h11) (fun a0_2 fa0_2 => ?_)
  clear fa0_1
  have r_a0_3 : (execOp a0_2.eval { dst := some 14, op := Op.indexAddr 48 (Operand.tmp 9) (Operand.tmp 11), type := 0, pos := "power.go:66", after := #[], guard := none }).run Try.prog (wr) = .ok (.value (.pointer (some ⟨gw, i * 4, none⟩))) (wr) := by
    have e9 := (show a0_2.eval (.tmp 9) = .slice (some ⟨gw, 0, none⟩) n wc from ((fa0_2.at_ 9).trans I0.s9))
    have e11 := (show a0_2.eval (.tmp 11) = .int .i64 (i : Int) from ((fa0_2.at_ 11).trans h11))
    clear fa0_2 hQ h11 hF hC hX
    generalize a0_2.eval = ρ at *
    go_simp
  refine fa0_2.step 14 (.pointer (some ⟨gw, i * 4, none⟩)) rfl (lb_ I0.size) (wanted_none rfl) r_a0_3 (fun a0_3 fa0_3 => ?_)
  clear r_a0_3
  clear fa0_2
  have r_a0_4 : (execOp a0_3.eval { dst := some 15, op := Op.load 77 (Operand.tmp 14), type := 77, pos := "power.go:66", after := #[{ on := 1, ground := Ground.data }], guard := none }).run Try.prog (wr) = .ok (.value (.agg #[.int .u8 (x.act : Int), .int .u32 (x.pg : Int), .int .i64 (x.pages : Int), .string x.data])) (wr) := by
    have e14 := (show a0_3.eval (.tmp 14) = .pointer (some ⟨gw, i * 4, none⟩) from (fa0_3.at_ 14))
    clear fa0_3 hQ h11 hF hC hX
    generalize a0_3.eval = ρ at *
    go_simp
  refine fa0_3.step 15 (.agg #[.int .u8 (x.act : Int), .int .u32 (x.pg : Int), .int .i64 (x.pages : Int), .string x.data]) rfl (lb_ I0.size) (wanted_none rfl) r_a0_4 (fun a0_4 fa0_4 => ?_)
  clear r_a0_4
  clear fa0_3
  have r_a0_5 : (execOp a0_4.eval { dst := some 5, op := Op.alloc 77, type := 0, pos := "power.go:66", after := #[], guard := none }).run Try.prog (wr) = .ok (.value (.pointer (some ⟨wr.heap.size, 0, none⟩))) (wr.alloc (.cells #[.int .u8 0, .int .u32 0, .int .i64 0, .string ⟨#[]⟩] 77)) := by
    clear fa0_4 hQ h11 hF hC hX
    generalize a0_4.eval = ρ at *
    go_simp
  refine fa0_4.stepW 5 (.pointer (some ⟨wr.heap.size, 0, none⟩)) rfl (lb_ I0.size) (wanted_none rfl) r_a0_5 (fun a0_5 fa0_5 => ?_)
  clear r_a0_5
  obtain ⟨V, hV⟩ : ∃ V, V = wr.alloc (.cells #[.int .u8 0, .int .u32 0, .int .i64 0, .string ⟨#[]⟩] 77) := ⟨_, rfl⟩
  rw [← hV]
  have sV : Same wr V := by rw [hV]; exact (Fr.refl _ wr).alloc _
  have hVr : V.heap[wr.heap.size]? = some (.cells #[.int .u8 0, .int .u32 0, .int .i64 0, .string ⟨#[]⟩] 77 (0, 0)) := by rw [hV]; exact heap_alloc_new wr _
  clear hV
  clear fa0_4
  refine fa0_5.move 4 (.int .i64 (i : Int)) _ (Or.inr rfl) rfl (lb_ I0.size) (wanted_none rfl) (fa0_5.at_ 13) (fun a0_6 fa0_6 => ?_)
  clear fa0_5
  have r_a0_7 : (execOp a0_6.eval { dst := none, op := Op.store 77 (Operand.tmp 5) (Operand.tmp 15), type := 0, pos := "power.go:66", after := #[{ on := 3, ground := Ground.data }, { on := 2, ground := Ground.data }, { on := 4, ground := Ground.chain }, { on := 0, ground := Ground.phase }, { on := 1, ground := Ground.phase }, { on := 2, ground := Ground.phase }, { on := 3, ground := Ground.phase }, { on := 4, ground := Ground.phase }], guard := none }).run Try.prog (V) = .ok .skip (World.setCells V wr.heap.size 0 [.int .u8 (x.act : Int), .int .u32 (x.pg : Int), .int .i64 (x.pages : Int), .string x.data]) := by
    exact exec_store_mid 77 _ _ rfl wr.heap.size 0 #[.int .u8 (x.act : Int), .int .u32 (x.pg : Int), .int .i64 (x.pages : Int), .string x.data] (show a0_6.eval (.tmp 5) = .pointer (some ⟨wr.heap.size, 0, none⟩) from (fa0_6.at_ 5)) (show a0_6.eval (.tmp 15) = .agg #[.int .u8 (x.act : Int), .int .u32 (x.pg : Int), .int .i64 (x.pages : Int), .string x.data] from (fa0_6.at_ 15)) (there_row hVr rfl) (by kernel_rfl) (by kernel_rfl)
  refine fa0_6.store rfl (wanted_none rfl) r_a0_7 (fun a0_7 fa0_7 => ?_)
  clear r_a0_7
  obtain ⟨V1, hV1⟩ : ∃ V1, V1 = World.setCells V wr.heap.size 0 [.int .u8 (x.act : Int), .int .u32 (x.pg : Int), .int .i64 (x.pages : Int), .string x.data] := ⟨_, rfl⟩
  rw [← hV1]
  have r1 : V1.heap[wr.heap.size]? = some (.cells #[.int .u8 (x.act : Int), .int .u32 (x.pg : Int), .int .i64 (x.pages : Int), .string x.data] 77 (0, 0)) := by rw [hV1]; exact setCells_whole [.int .u8 (x.act : Int), .int .u32 (x.pg : Int), .int .i64 (x.pages : Int), .string x.data] _ hVr rfl (there_row hVr rfl)
  have s1 : Same wr V1 := by rw [hV1]; exact Fr.trans sV (Fr.setCells (S := fun k => k = wr.heap.size) (fun _ => rfl) _ 0 V (Fr.refl _ V)) (fun k hk e => by have e2 : k = wr.heap.size := e; omega)
  clear hV1
  have k0 : V1.cell? ⟨wr.heap.size, 0, none⟩ = some (.int .u8 (x.act : Int)) := (cell_of_row _ _ _ _ _ _ r1).trans rfl
  have k1 : V1.cell? ⟨wr.heap.size, 1, none⟩ = some (.int .u32 (x.pg : Int)) := (cell_of_row _ _ _ _ _ _ r1).trans rfl
  have k2 : V1.cell? ⟨wr.heap.size, 2, none⟩ = some (.int .i64 (x.pages : Int)) := (cell_of_row _ _ _ _ _ _ r1).trans rfl
  have k3 : V1.cell? ⟨wr.heap.size, 3, none⟩ = some (.string x.data) := (cell_of_row _ _ _ _ _ _ r1).trans rfl
  clear fa0_6
  refine wpList_nil ?_
  change Code.wp _ _ _ _ _
  have dd : Same V1 V1.drew := (Fr.refl (fun _ => False) V1).drew
  refine wp_region_held_drew (ops := rOM3) (S := fun Z => Z.heap[wr.heap.size]? = some (.cells #[.int .u8 (x.act : Int), .int .u32 (x.pg : Int), .int .i64 (x.pages : Int), .string x.data] 77 (0, 0))) (by kernel_rfl) (r1) (fun hS7 => ?_)
  refine fa0_7.takeMove 0 16 (.pointer (some ⟨b, 0, none⟩)) _ (Or.inl rfl) rfl (by kernel_rfl) (by kernel_rfl) (by kernel_rfl) (fun _ _ _ h => hQp _ _ _ _ _ h) rfl (lb_ I0.size) (wanted_none rfl) ((fa0_7.at_ 0).trans I0.s0) hS7 (fun a0_8 fa0_8 => ?_)
  clear fa0_7
  have r_a0_9 : ∀ Z, (fun Z => Z.heap[wr.heap.size]? = some (.cells #[.int .u8 (x.act : Int), .int .u32 (x.pg : Int), .int .i64 (x.pages : Int), .string x.data] 77 (0, 0))) Z → (execOp a0_8.eval { dst := some 17, op := Op.nilCheck (Operand.tmp 16), type := 0, pos := "power.go:67", after := #[{ on := 0, ground := Ground.data }], guard := none }).run Try.prog Z = .ok (.value (.pointer (some ⟨b, 0, none⟩))) Z := fun Z hZ => by
    have e16 := (show a0_8.eval (.tmp 16) = .pointer (some ⟨b, 0, none⟩) from (fa0_8.at_ 16))
    clear fa0_8 hQ h11 hF hC hX
    generalize a0_8.eval = ρ at *
    go_simp
  refine fa0_8.take 1 17 (.pointer (some ⟨b, 0, none⟩)) rfl (by kernel_rfl) (by kernel_rfl) (by kernel_rfl) (fun _ _ _ h => hQp _ _ _ _ _ h) rfl (lb_ I0.size) (wanted_none rfl) r_a0_9 hS7 (fun a0_9 fa0_9 => ?_)
  clear r_a0_9
  clear fa0_8
  have r_a0_10 : ∀ Z, (fun Z => Z.heap[wr.heap.size]? = some (.cells #[.int .u8 (x.act : Int), .int .u32 (x.pg : Int), .int .i64 (x.pages : Int), .string x.data] 77 (0, 0))) Z → (execOp a0_9.eval { dst := some 18, op := Op.fieldAddr 51 (Operand.tmp 17) 1, type := 0, pos := "power.go:67", after := #[{ on := 1, ground := Ground.data }], guard := none }).run Try.prog Z = .ok (.value (.pointer (some ⟨b, 2, none⟩))) Z := fun Z hZ => by
    have e17 := (show a0_9.eval (.tmp 17) = .pointer (some ⟨b, 0, none⟩) from (fa0_9.at_ 17))
    clear fa0_9 hQ h11 hF hC hX
    generalize a0_9.eval = ρ at *
    go_simp
  refine fa0_9.take 2 18 (.pointer (some ⟨b, 2, none⟩)) rfl (by kernel_rfl) (by kernel_rfl) (by kernel_rfl) (fun _ _ _ h => hQp _ _ _ _ _ h) rfl (lb_ I0.size) (wanted_none rfl) r_a0_10 hS7 (fun a0_10 fa0_10 => ?_)
  clear r_a0_10
  clear fa0_9
  have r_a0_11 : ∀ Z, (fun Z => Z.heap[wr.heap.size]? = some (.cells #[.int .u8 (x.act : Int), .int .u32 (x.pg : Int), .int .i64 (x.pages : Int), .string x.data] 77 (0, 0))) Z → (execOp a0_10.eval { dst := some 19, op := Op.load 77 (Operand.tmp 5), type := 77, pos := "power.go:67", after := #[], guard := none }).run Try.prog Z = .ok (.value (.agg #[.int .u8 (x.act : Int), .int .u32 (x.pg : Int), .int .i64 (x.pages : Int), .string x.data])) Z := fun Z hZ => by
    have z0 : Z.cell? ⟨wr.heap.size, 0, none⟩ = some (.int .u8 (x.act : Int)) := (cell_of_row _ _ _ _ _ _ hZ).trans rfl
    have z1 : Z.cell? ⟨wr.heap.size, 1, none⟩ = some (.int .u32 (x.pg : Int)) := (cell_of_row _ _ _ _ _ _ hZ).trans rfl
    have z2 : Z.cell? ⟨wr.heap.size, 2, none⟩ = some (.int .i64 (x.pages : Int)) := (cell_of_row _ _ _ _ _ _ hZ).trans rfl
    have z3 : Z.cell? ⟨wr.heap.size, 3, none⟩ = some (.string x.data) := (cell_of_row _ _ _ _ _ _ hZ).trans rfl
    have e5 := (show a0_10.eval (.tmp 5) = .pointer (some ⟨wr.heap.size, 0, none⟩) from (fa0_10.at_ 5))
    clear fa0_10 hQ h11 hF hC hX
    generalize a0_10.eval = ρ at *
    go_simp
  refine fa0_10.take 3 19 (.agg #[.int .u8 (x.act : Int), .int .u32 (x.pg : Int), .int .i64 (x.pages : Int), .string x.data]) rfl (by kernel_rfl) (by kernel_rfl) (by kernel_rfl) (fun _ _ _ h => hQp _ _ _ _ _ h) rfl (lb_ I0.size) (wanted_none rfl) r_a0_11 hS7 (fun a0_11 fa0_11 => ?_)
  clear r_a0_11
  clear fa0_10
  refine fa0_11.takeMove 4 20 (.func (.func 49) #[] #[.pointer (some ⟨fb, 0, none⟩)]) _ (Or.inl rfl) rfl (by kernel_rfl) (by kernel_rfl) (by kernel_rfl) (fun _ _ _ h => hQp _ _ _ _ _ h) rfl (lb_ I0.size) (wanted_none rfl) ((fa0_11.at_ 1).trans I0.s1) hS7 (fun a0_12 fa0_12 => ?_)
  clear fa0_11
  refine fa0_12.takeMove 5 21 (.int .i64 (i : Int)) _ (Or.inl rfl) rfl (by kernel_rfl) (by kernel_rfl) (by kernel_rfl) (fun _ _ _ h => hQp _ _ _ _ _ h) rfl (lb_ I0.size) (wanted_none rfl) (fa0_12.at_ 4) hS7 (fun a0_13 fa0_13 => ?_)
  clear fa0_12
  have r_a0_14 : (execOp a0_13.eval { dst := some 22, op := Op.call { callee := Callee.value (Operand.tmp 20), args := #[Operand.tmp 21], argTypes := #[3] }, type := 66, pos := "power.go:67", after := #[{ on := 4, ground := Ground.data }, { on := 5, ground := Ground.data }], guard := none }).run Try.prog (V1.drew) = .ok (.enter 49 #[.int .i64 (i : Int), .pointer (some ⟨fb, 0, none⟩)]) (V1.drew) := by
    have e20 := (show a0_13.eval (.tmp 20) = .func (.func 49) #[] #[.pointer (some ⟨fb, 0, none⟩)] from (fa0_13.at_ 20))
    have e21 := (show a0_13.eval (.tmp 21) = .int .i64 (i : Int) from (fa0_13.at_ 21))
    clear fa0_13 hQ h11 hF hC hX
    generalize a0_13.eval = ρ at *
    go_simp
  refine fa0_13.oneCall 6 22 (by kernel_rfl) rfl rfl (lb_ I0.size) (wanted_none rfl) r_a0_14 (hF V1.drew (s1.trans dd)) (fun e W3 hR => ?_)
  obtain ⟨rfl, hw1⟩ := hR
  clear r_a0_14
  have s3 : Same wr W3 := by rw [hw1]; exact s1.trans dd
  have hS14 : (fun Z => Z.heap[wr.heap.size]? = some (.cells #[.int .u8 (x.act : Int), .int .u32 (x.pg : Int), .int .i64 (x.pages : Int), .string x.data] 77 (0, 0))) W3 := by rw [hw1]; exact r1
  refine ⟨_, rfl, hS14, fun a0_14 fa0_14 => ?_⟩
  clear fa0_13
  have r_a0_15 : (execOp a0_14.eval { dst := some 23, op := Op.call { callee := Callee.value (Operand.func 45), args := #[Operand.tmp 18, Operand.tmp 19, Operand.tmp 22], argTypes := #[46, 77, 66] }, type := 0, pos := "power.go:67", after := #[{ on := 2, ground := Ground.data }, { on := 3, ground := Ground.data }, { on := 6, ground := Ground.data }, { on := 6, ground := Ground.chain }], guard := none }).run Try.prog (W3) = .ok (.enter 45 #[.pointer (some ⟨b, 2, none⟩), .agg #[.int .u8 (x.act : Int), .int .u32 (x.pg : Int), .int .i64 (x.pages : Int), .string x.data], .int .u8 (f : Int)]) (W3) := by
    have kf : ∀ f, a0_14.eval (.func f) = .func (.func f) #[] #[] := fun _ => rfl
    have e18 := (show a0_14.eval (.tmp 18) = .pointer (some ⟨b, 2, none⟩) from (fa0_14.at_ 18))
    have e19 := (show a0_14.eval (.tmp 19) = .agg #[.int .u8 (x.act : Int), .int .u32 (x.pg : Int), .int .i64 (x.pages : Int), .string x.data] from (fa0_14.at_ 19))
    have e22 := (show a0_14.eval (.tmp 22) = .int .u8 (f : Int) from (fa0_14.at_ 22))
    clear fa0_14 hQ h11 hF hC hX
    generalize a0_14.eval = ρ at *
    go_simp
  refine fa0_14.oneCall 7 23 (by kernel_rfl) rfl rfl (lb_ I0.size) (wanted_none rfl) r_a0_15 (hC W3 s3) (fun e W4 hR => ?_)
  obtain ⟨rfl, hso⟩ := hR
  clear r_a0_15
  have hS15 : (fun Z => Z.heap[wr.heap.size]? = some (.cells #[.int .u8 (x.act : Int), .int .u32 (x.pg : Int), .int .i64 (x.pages : Int), .string x.data] 77 (0, 0))) W4 := (hX W3 W4 s3 (lt_of_heap (show W3.heap[wr.heap.size]? = _ from hS14)) hso).trans hS14
  refine ⟨_, rfl, hS15, fun a0_15 fa0_15 => ?_⟩
  clear fa0_14
  refine wpAnyH_done (by kernel_rfl) ?_ _
  change Code.wp _ _ _ _ _
  refine wp_region_list ?_
  unfold rOM4
  have r_a0_16 : (execOp a0_15.eval { dst := some 24, op := Op.binOp BinOp.add 3 (Operand.tmp 11) (Operand.const (Value.int IntKind.i64 1)) 3, type := 3, pos := "power.go:66", after := #[], guard := none }).run Try.prog (W4) = .ok (.value (.int .i64 ((i : Int) + 1))) (W4) := by
    have kc : ∀ v, a0_15.eval (.const v) = v := fun _ => rfl
    have e11 := (show a0_15.eval (.tmp 11) = .int .i64 (i : Int) from ((fa0_15.at_ 11).trans h11))
    clear fa0_15 hQ h11 hF hC hX
    generalize a0_15.eval = ρ at *
    go_simp
  refine fa0_15.step 24 (.int .i64 ((i : Int) + 1)) rfl (lb_ I0.size) (wanted_none rfl) r_a0_16 (fun a0_16 fa0_16 => ?_)
  clear r_a0_16
  clear fa0_15
  refine fa0_16.move 11 (.int .i64 ((i : Int) + 1)) _ (Or.inl rfl) rfl (lb_ I0.size) (wanted_none rfl) (fa0_16.at_ 24) (fun a0_17 fa0_17 => ?_)
  clear fa0_16
  refine wpList_nil ?_
  exact hQ a0_17 W4 W3 (I0.keep fa0_17 rfl rfl rfl rfl) (show a0_17.eval (.tmp 11) = .int .i64 ((i : Int) + 1) from (fa0_17.at_ 11)) s3 hso
theorem land_step {S : Nat → Prop} {w W W3 W4 : World} (h1 : w.heap.size ≤ W.heap.size) (h2 : W.heap.size ≤ W3.heap.size) (h3 : W3.heap.size ≤ W4.heap.size) {k : Nat} (h : Land (Land S w W) W3 W4 k) : Land S w W4 k := by
  rcases h with (h | h) | h
  · exact Or.inl h
  · exact Or.inr ⟨h.1, by omega⟩
  · exact Or.inr ⟨by omega, h.2⟩
theorem land_lt {S : Nat → Prop} {w W : World} (hs : ∀ k, S k → k < w.heap.size) (h : w.heap.size ≤ W.heap.size) {k : Nat} (hk : Land S w W k) : k < W.heap.size := by
  rcases hk with hk | hk
  · exact Nat.lt_of_lt_of_le (hs k hk) h
  · exact hk.2
theorem wt_cells {w : World} {wc n gw : Nat} {L : List Wt} {i : Nat} {x : Wt} (h : w.ownsRow 0 77 4 (.slice (some ⟨gw, 0, none⟩) n wc) n (wtCs L)) (hx : L[i]? = some x) :
    w.cell? ⟨gw, i * 4, none⟩ = some (.int .u8 (x.act : Int)) ∧ w.cell? ⟨gw, i * 4 + 1, none⟩ = some (.int .u32 (x.pg : Int)) ∧ w.cell? ⟨gw, i * 4 + 2, none⟩ = some (.int .i64 (x.pages : Int)) ∧ w.cell? ⟨gw, i * 4 + 3, none⟩ = some (.string x.data) :=
  ⟨own_cell h (wtCs_at hx 0 _ rfl), own_cell h (wtCs_at hx 1 _ rfl), own_cell h (wtCs_at hx 2 _ rfl), own_cell h (wtCs_at hx 3 _ rfl)⟩
theorem omLS {b : Nat} {D : Dk} {S : Nat → Prop} {pa ia wa aa : Option Addr} {pc ic wc ac : Nat} {f : Nat → Nat} {Q : Exit → Act → World → Prop} (hQp : ∀ c (a : Act) d v w, Q (.panic c) (a.put d v) w → Q (.panic c) a w) (a0 : Act) (w : World) (I0 : IOM b D.W.length (.slice wa D.W.length wc) (.func (.func 43) #[] #[]) a0) (h11 : a0.eval (.tmp 11) = .int .i64 ((0 : Nat) : Int)) (h : DkO w b D S pa ia wa aa pc ic wc ac) (h8 : D.page = 8 * (D.page / 8)) (hp0 : 0 < D.page) (hp1 : D.page ≤ 8192) (hI : ∀ s ∈ D.I, s.size = D.page) (hW : ∀ x ∈ D.W, WtOk D.page x) (hl : D.W.length ≤ 1048576)
    (hF : ∀ W (i : Nat), i < D.W.length → Fr S w W → Calls Try.prog 43 #[.int .i64 (i : Int)] W fun e w' => e = .returned (.int .u8 (f i : Int)) ∧ w' = W)
    (hQ : ∀ a W ia' ic', IOM b D.W.length (.slice wa D.W.length wc) (.func (.func 43) #[] #[]) a → DkO W b { D with I := setP D.page f 0 D.W D.I } (Land S w W) pa ia' wa aa pc ic' wc ac → Fr S w W → Q (.exit 0) a W) : (Code.loop cOM1).wp Try.prog Q a0 w := by
  refine wp_loop (fun a W => IOM b D.W.length (.slice wa D.W.length wc) (.func (.func 43) #[] #[]) a ∧ ∃ (i : Nat) (ia' : Option Addr) (ic' : Nat), i ≤ D.W.length ∧ a.eval (.tmp 11) = .int .i64 (i : Int) ∧ DkO W b { D with I := setP D.page f 0 (D.W.take i) D.I } (Land S w W) pa ia' wa aa pc ic' wc ac ∧ Fr S w W) (fun a _ => D.W.length - kOf a 11)
    ⟨I0, 0, ia, ic, Nat.zero_le _, h11, h.land (fun k hk => Or.inl hk) (fun k hk => land_lt h.lt (Nat.le_refl _) hk), Fr.refl _ _⟩ ?_
  rintro a W ⟨I1, i, ia', ic', hi, g11, hd, f1⟩
  by_cases hgo : i < D.W.length
  · obtain ⟨x, hx⟩ : ∃ x, D.W[i]? = some x := ⟨_, List.getElem?_eq_getElem hgo⟩
    have hxm := List.mem_of_getElem? hx
    obtain ⟨gw, rfl, _⟩ := own_some hd.rW (by show D.W.length ≠ 0; omega)
    obtain ⟨a1, a2, a3, a4⟩ := wt_cells hd.rW hx
    have hIi : ∀ s ∈ setP D.page f 0 (D.W.take i) D.I, s.size = D.page := setP_all h8 _ _ _ (fun y hy => hW y (List.mem_of_mem_take hy)) hI
    obtain ⟨Ii, hIe⟩ : ∃ Ii, Ii = setP D.page f 0 (D.W.take i) D.I := ⟨_, rfl⟩
    rw [← hIe] at hd hIi
    have hnx : setP D.page f 0 (D.W.take (i + 1)) D.I = comeP D.page Ii x (f i) := by
      rw [List.take_add_one, hx, Option.toList_some, setP_snoc, ← hIe, List.length_take, Nat.zero_add, Nat.min_eq_left hi]
    refine omS (CONT := fun W1 W2 => ShOut W1 W2 b 2 ia' Ii.length ic' (dkC { D with I := Ii } (.slice pa D.P.length pc) (.slice ia' Ii.length ic') (.slice (some ⟨gw, 0, none⟩) D.W.length wc) (.slice aa 0 ac)).toArray 51 (comeP D.page Ii x (f i))) (Q := Exit.then _ Q) hQp a W I1 g11 hgo hl a1 a2 a3 a4
      (fun W1 s1 => hF W1 i hgo (Fr.trans f1 s1 (fun _ _ f => f.elim))) (fun W1 s1 => come_calls (o := 2) W1 (by decide) (hd.same s1).row rfl rfl (hd.same s1).rI (hW x hxm) hp1 h8 hp0 hIi) (fun W1 W2 s1 hlt so => ?_) (fun a' W4 W3 i3 h1 s3 so => ?_)
    · obtain ⟨_, _, _, _, g3, _⟩ := so
      refine g3.block _ hlt (fun e => ?_)
      rcases e with e | e
      · have := lt_of_heap hd.row; omega
      · obtain ⟨_, hc⟩ := own_cellsB hd.rI e
        have := lt_of_heap hc
        omega
    · obtain ⟨ia2, ic2, d4, f4⟩ := (hd.same s3).comeI so
      have sz : W3.heap.size ≤ W4.heap.size := f4.size
      have h4 : a'.eval (.tmp 11) = .int .i64 ((i + 1 : Nat) : Int) := h1
      have f14 : Fr S w W4 := Fr.trans (Fr.trans f1 s3 (fun _ _ f => f.elim)) f4 (fun k hk e => by
        rcases e with e | e
        · exact e
        · omega)
      refine ⟨⟨i3, i + 1, ia2, ic2, hgo, h4, ?_, f14⟩, ?_⟩
      · rw [hnx]
        exact d4.land (fun k hk => land_step f1.size s3.size sz hk) (fun k hk => land_lt h.lt f14.size hk)
      · show D.W.length - kOf a' 11 < D.W.length - kOf a 11
        rw [kOf_eq h4, kOf_eq g11]
        omega
  · obtain rfl : D.W.length = i := by omega
    rw [List.take_length] at hd
    exact omE a W I1 g11 (Nat.le_refl _) (fun a' i2 => hQ a' W ia' ic' i2 hd f1)
set_option maxRecDepth 100000 in
set_option maxHeartbeats 1000000 in
theorem settleS_calls {b : Nat} {D : Dk} {S : Nat → Prop} {pa ia wa aa : Option Addr} {pc ic wc ac : Nat} {f : Nat → Nat} (w : World) (h : DkO w b D S pa ia wa aa pc ic wc ac) (h8 : D.page = 8 * (D.page / 8)) (hp0 : 0 < D.page) (hp1 : D.page ≤ 8192) (hI : ∀ s ∈ D.I, s.size = D.page) (hW : ∀ x ∈ D.W, WtOk D.page x) (hl : D.W.length ≤ 1048576)
    (hF : ∀ W (i : Nat), i < D.W.length → Fr S w W → Calls Try.prog 43 #[.int .i64 (i : Int)] W fun e w' => e = .returned (.int .u8 (f i : Int)) ∧ w' = W) :
    Calls Try.prog 42 #[.pointer (some ⟨b, 0, none⟩), .func (.func 43) #[] #[]] w fun e w' => e = .returned (.tuple #[]) ∧ (∃ ia' ic', DkO w' b { D with I := setP D.page f 0 D.W D.I, W := [] } (Land S w w') pa ia' none aa pc ic' 0 ac) ∧ Fr S w w' := by
  have c6 := h.cell 6 rfl
  refine calls_abs (c := cOM) Try.func42 (by kernel_rfl) 28 rfl (by simp) (fun a0 hsz hd ha => ?_)
  have fa0_0 := Fe.refl a0
  unfold cOM
  refine wp_seq (wp_seq ?_)
  refine wp_region_list ?_
  unfold rOM0
  refine fa0_0.move 6 (.pointer (some ⟨b, 0, none⟩)) _ (Or.inl rfl) rfl (lb_ hsz) (wanted_none rfl) ((fa0_0.at_ 0).trans (ha 0 _ rfl)) (fun a0_1 fa0_1 => ?_)
  clear fa0_0
  have r_a0_2 : (execOp a0_1.eval { dst := some 7, op := Op.nilCheck (Operand.tmp 6), type := 0, pos := "power.go:66", after := #[{ on := 0, ground := Ground.data }], guard := none }).run Try.prog (w) = .ok (.value (.pointer (some ⟨b, 0, none⟩))) (w) := by
    have e6 := (show a0_1.eval (.tmp 6) = .pointer (some ⟨b, 0, none⟩) from (fa0_1.at_ 6))
    clear fa0_1 ha hF
    generalize a0_1.eval = ρ at *
    go_simp
  refine fa0_1.step 7 (.pointer (some ⟨b, 0, none⟩)) rfl (lb_ hsz) (wanted_none rfl) r_a0_2 (fun a0_2 fa0_2 => ?_)
  clear r_a0_2
  clear fa0_1
  have r_a0_3 : (execOp a0_2.eval { dst := some 8, op := Op.fieldAddr 51 (Operand.tmp 7) 4, type := 0, pos := "power.go:66", after := #[{ on := 1, ground := Ground.data }], guard := none }).run Try.prog (w) = .ok (.value (.pointer (some ⟨b, 6, none⟩))) (w) := by
    have e7 := (show a0_2.eval (.tmp 7) = .pointer (some ⟨b, 0, none⟩) from (fa0_2.at_ 7))
    clear fa0_2 ha hF
    generalize a0_2.eval = ρ at *
    go_simp
  refine fa0_2.step 8 (.pointer (some ⟨b, 6, none⟩)) rfl (lb_ hsz) (wanted_none rfl) r_a0_3 (fun a0_3 fa0_3 => ?_)
  clear r_a0_3
  clear fa0_2
  have r_a0_4 : (execOp a0_3.eval { dst := some 9, op := Op.load 48 (Operand.tmp 8), type := 48, pos := "power.go:66", after := #[{ on := 2, ground := Ground.data }], guard := none }).run Try.prog (w) = .ok (.value (.slice wa D.W.length wc)) (w) := by
    have e8 := (show a0_3.eval (.tmp 8) = .pointer (some ⟨b, 6, none⟩) from (fa0_3.at_ 8))
    clear fa0_3 ha hF
    generalize a0_3.eval = ρ at *
    go_simp
  refine fa0_3.step 9 (.slice wa D.W.length wc) rfl (lb_ hsz) (wanted_none rfl) r_a0_4 (fun a0_4 fa0_4 => ?_)
  clear r_a0_4
  clear fa0_3
  have r_a0_5 : (execOp a0_4.eval { dst := some 10, op := Op.call { callee := Callee.builtin Builtin.len, args := #[Operand.tmp 9], argTypes := #[48] }, type := 3, pos := "power.go:66", after := #[{ on := 3, ground := Ground.data }], guard := none }).run Try.prog (w) = .ok (.value (.int .i64 (D.W.length : Int))) (w) := by
    have e9 := (show a0_4.eval (.tmp 9) = .slice wa D.W.length wc from (fa0_4.at_ 9))
    clear fa0_4 ha hF
    generalize a0_4.eval = ρ at *
    go_simp
  refine fa0_4.step 10 (.int .i64 (D.W.length : Int)) rfl (lb_ hsz) (wanted_none rfl) r_a0_5 (fun a0_5 fa0_5 => ?_)
  clear r_a0_5
  clear fa0_4
  refine fa0_5.move 11 (.int .i64 ((0 : Nat) : Int)) _ (Or.inl rfl) rfl (lb_ hsz) (wanted_none rfl) rfl (fun a0_6 fa0_6 => ?_)
  clear fa0_5
  refine wpList_nil ?_
  change Code.wp _ _ _ _ _
  refine wp_block ?_
  refine omLS (by intro c a d v w h; cases d <;> exact h) a0_6 w ⟨fa0_6.size.trans hsz, fa0_6.defers.trans hd, (show a0_6.eval (.tmp 0) = .pointer (some ⟨b, 0, none⟩) from ((fa0_6.at_ 0).trans (ha 0 _ rfl))), (show a0_6.eval (.tmp 1) = .func (.func 43) #[] #[] from ((fa0_6.at_ 1).trans (ha 1 _ rfl))), (show a0_6.eval (.tmp 9) = .slice wa D.W.length wc from (fa0_6.at_ 9)), (show a0_6.eval (.tmp 10) = .int .i64 (D.W.length : Int) from (fa0_6.at_ 10))⟩ (show a0_6.eval (.tmp 11) = .int .i64 ((0 : Nat) : Int) from (fa0_6.at_ 11)) h h8 hp0 hp1 hI hW hl hF (fun a1 W ia2 ic2 i1 d1 f1 => ?_)
  have q6 := d1.cell 6 rfl
  have z6 := d1.frozen 6
  have g0 : a1.eval (.tmp 0) = .pointer (some ⟨b, 0, none⟩) := i1.s0
  change Code.wp _ _ _ _ _
  have fa1_0 := Fe.refl a1
  refine wp_region_list ?_
  unfold rOM5
  refine fa1_0.move 25 (.pointer (some ⟨b, 0, none⟩)) _ (Or.inl rfl) rfl (lb_ i1.size) (wanted_none rfl) ((fa1_0.at_ 0).trans g0) (fun a1_1 fa1_1 => ?_)
  clear fa1_0
  have r_a1_2 : (execOp a1_1.eval { dst := some 26, op := Op.nilCheck (Operand.tmp 25), type := 0, pos := "power.go:69", after := #[{ on := 0, ground := Ground.data }, { on := 0, ground := Ground.phase }], guard := none }).run Try.prog (W) = .ok (.value (.pointer (some ⟨b, 0, none⟩))) (W) := by
    have e25 := (show a1_1.eval (.tmp 25) = .pointer (some ⟨b, 0, none⟩) from (fa1_1.at_ 25))
    clear fa1_1 ha hF
    generalize a1_1.eval = ρ at *
    go_simp
  refine fa1_1.step 26 (.pointer (some ⟨b, 0, none⟩)) rfl (lb_ i1.size) (wanted_none rfl) r_a1_2 (fun a1_2 fa1_2 => ?_)
  clear r_a1_2
  clear fa1_1
  have r_a1_3 : (execOp a1_2.eval { dst := some 27, op := Op.fieldAddr 51 (Operand.tmp 26) 4, type := 0, pos := "power.go:69", after := #[{ on := 1, ground := Ground.data }, { on := 0, ground := Ground.phase }], guard := none }).run Try.prog (W) = .ok (.value (.pointer (some ⟨b, 6, none⟩))) (W) := by
    have e26 := (show a1_2.eval (.tmp 26) = .pointer (some ⟨b, 0, none⟩) from (fa1_2.at_ 26))
    clear fa1_2 ha hF
    generalize a1_2.eval = ρ at *
    go_simp
  refine fa1_2.step 27 (.pointer (some ⟨b, 6, none⟩)) rfl (lb_ i1.size) (wanted_none rfl) r_a1_3 (fun a1_3 fa1_3 => ?_)
  clear r_a1_3
  clear fa1_2
  have r_a1_4 : (execOp a1_3.eval { dst := none, op := Op.store 48 (Operand.tmp 27) (Operand.const (Value.slice none 0 0)), type := 0, pos := "power.go:69", after := #[{ on := 2, ground := Ground.data }, { on := 0, ground := Ground.phase }], guard := none }).run Try.prog (W) = .ok .skip (World.setCell W ⟨b, 6, none⟩ (.slice none 0 0)) := by
    have kc : ∀ v, a1_3.eval (.const v) = v := fun _ => rfl
    have e27 := (show a1_3.eval (.tmp 27) = .pointer (some ⟨b, 6, none⟩) from (fa1_3.at_ 27))
    clear fa1_3 ha hF
    generalize a1_3.eval = ρ at *
    go_simp
  refine fa1_3.store rfl (wanted_none rfl) r_a1_4 (fun a1_4 fa1_4 => ?_)
  clear r_a1_4
  clear fa1_3
  refine wpList_nil ?_
  have ds := DkO.setW (W' := []) (wa' := none) (wc' := 0) d1 (w0 := W) (Fr.refl _ _) own_nil (fun k hk => by cases hk)
  have fz : Fr S w (W.setCell ⟨b, 6, none⟩ (.slice none 0 0)) := Fr.trans f1 ds.2 (fun k hk e => by rcases e with e | e; exact e; omega)
  refine end_none rfl (fa1_4.defers.trans i1.defers) ⟨rfl, ⟨ia2, ic2, ?_⟩, fz⟩
  exact ds.1.land (fun k hk => hk.imp id (fun e => ⟨e.1, Nat.lt_of_lt_of_le e.2 ds.2.size⟩)) (fun k hk => land_lt h.lt fz.size hk)
theorem omLL {b : Nat} {fb : Nat} {D : Dk} {S : Nat → Prop} {pa ia wa aa : Option Addr} {pc ic wc ac : Nat} {f : Nat → Nat} {Q : Exit → Act → World → Prop} (hQp : ∀ c (a : Act) d v w, Q (.panic c) (a.put d v) w → Q (.panic c) a w) (a0 : Act) (w : World) (I0 : IOM b D.W.length (.slice wa D.W.length wc) (.func (.func 49) #[] #[.pointer (some ⟨fb, 0, none⟩)]) a0) (h11 : a0.eval (.tmp 11) = .int .i64 ((0 : Nat) : Int)) (h : DkO w b D S pa ia wa aa pc ic wc ac) (h8 : D.page = 8 * (D.page / 8)) (hp0 : 0 < D.page) (hp1 : D.page ≤ 8192) (hI : ∀ s ∈ D.I, s.size = D.page) (hW : ∀ x ∈ D.W, WtOk D.page x) (hl : D.W.length ≤ 1048576)
    (hF : ∀ W (i : Nat), i < D.W.length → Fr S w W → Calls Try.prog 49 #[.int .i64 (i : Int), .pointer (some ⟨fb, 0, none⟩)] W fun e w' => e = .returned (.int .u8 (f i : Int)) ∧ w' = W)
    (hQ : ∀ a W ia' ic', IOM b D.W.length (.slice wa D.W.length wc) (.func (.func 49) #[] #[.pointer (some ⟨fb, 0, none⟩)]) a → DkO W b { D with I := setP D.page f 0 D.W D.I } (Land S w W) pa ia' wa aa pc ic' wc ac → Fr S w W → Q (.exit 0) a W) : (Code.loop cOM1).wp Try.prog Q a0 w := by
  refine wp_loop (fun a W => IOM b D.W.length (.slice wa D.W.length wc) (.func (.func 49) #[] #[.pointer (some ⟨fb, 0, none⟩)]) a ∧ ∃ (i : Nat) (ia' : Option Addr) (ic' : Nat), i ≤ D.W.length ∧ a.eval (.tmp 11) = .int .i64 (i : Int) ∧ DkO W b { D with I := setP D.page f 0 (D.W.take i) D.I } (Land S w W) pa ia' wa aa pc ic' wc ac ∧ Fr S w W) (fun a _ => D.W.length - kOf a 11)
    ⟨I0, 0, ia, ic, Nat.zero_le _, h11, h.land (fun k hk => Or.inl hk) (fun k hk => land_lt h.lt (Nat.le_refl _) hk), Fr.refl _ _⟩ ?_
  rintro a W ⟨I1, i, ia', ic', hi, g11, hd, f1⟩
  by_cases hgo : i < D.W.length
  · obtain ⟨x, hx⟩ : ∃ x, D.W[i]? = some x := ⟨_, List.getElem?_eq_getElem hgo⟩
    have hxm := List.mem_of_getElem? hx
    obtain ⟨gw, rfl, _⟩ := own_some hd.rW (by show D.W.length ≠ 0; omega)
    obtain ⟨a1, a2, a3, a4⟩ := wt_cells hd.rW hx
    have hIi : ∀ s ∈ setP D.page f 0 (D.W.take i) D.I, s.size = D.page := setP_all h8 _ _ _ (fun y hy => hW y (List.mem_of_mem_take hy)) hI
    obtain ⟨Ii, hIe⟩ : ∃ Ii, Ii = setP D.page f 0 (D.W.take i) D.I := ⟨_, rfl⟩
    rw [← hIe] at hd hIi
    have hnx : setP D.page f 0 (D.W.take (i + 1)) D.I = comeP D.page Ii x (f i) := by
      rw [List.take_add_one, hx, Option.toList_some, setP_snoc, ← hIe, List.length_take, Nat.zero_add, Nat.min_eq_left hi]
    refine omL (CONT := fun W1 W2 => ShOut W1 W2 b 2 ia' Ii.length ic' (dkC { D with I := Ii } (.slice pa D.P.length pc) (.slice ia' Ii.length ic') (.slice (some ⟨gw, 0, none⟩) D.W.length wc) (.slice aa 0 ac)).toArray 51 (comeP D.page Ii x (f i))) (Q := Exit.then _ Q) hQp a W I1 g11 hgo hl a1 a2 a3 a4
      (fun W1 s1 => hF W1 i hgo (Fr.trans f1 s1 (fun _ _ f => f.elim))) (fun W1 s1 => come_calls (o := 2) W1 (by decide) (hd.same s1).row rfl rfl (hd.same s1).rI (hW x hxm) hp1 h8 hp0 hIi) (fun W1 W2 s1 hlt so => ?_) (fun a' W4 W3 i3 h1 s3 so => ?_)
    · obtain ⟨_, _, _, _, g3, _⟩ := so
      refine g3.block _ hlt (fun e => ?_)
      rcases e with e | e
      · have := lt_of_heap hd.row; omega
      · obtain ⟨_, hc⟩ := own_cellsB hd.rI e
        have := lt_of_heap hc
        omega
    · obtain ⟨ia2, ic2, d4, f4⟩ := (hd.same s3).comeI so
      have sz : W3.heap.size ≤ W4.heap.size := f4.size
      have h4 : a'.eval (.tmp 11) = .int .i64 ((i + 1 : Nat) : Int) := h1
      have f14 : Fr S w W4 := Fr.trans (Fr.trans f1 s3 (fun _ _ f => f.elim)) f4 (fun k hk e => by
        rcases e with e | e
        · exact e
        · omega)
      refine ⟨⟨i3, i + 1, ia2, ic2, hgo, h4, ?_, f14⟩, ?_⟩
      · rw [hnx]
        exact d4.land (fun k hk => land_step f1.size s3.size sz hk) (fun k hk => land_lt h.lt f14.size hk)
      · show D.W.length - kOf a' 11 < D.W.length - kOf a 11
        rw [kOf_eq h4, kOf_eq g11]
        omega
  · obtain rfl : D.W.length = i := by omega
    rw [List.take_length] at hd
    exact omE a W I1 g11 (Nat.le_refl _) (fun a' i2 => hQ a' W ia' ic' i2 hd f1)
set_option maxRecDepth 100000 in
set_option maxHeartbeats 1000000 in
theorem settleL_calls {b : Nat} {fb : Nat} {D : Dk} {S : Nat → Prop} {pa ia wa aa : Option Addr} {pc ic wc ac : Nat} {f : Nat → Nat} (w : World) (h : DkO w b D S pa ia wa aa pc ic wc ac) (h8 : D.page = 8 * (D.page / 8)) (hp0 : 0 < D.page) (hp1 : D.page ≤ 8192) (hI : ∀ s ∈ D.I, s.size = D.page) (hW : ∀ x ∈ D.W, WtOk D.page x) (hl : D.W.length ≤ 1048576)
    (hF : ∀ W (i : Nat), i < D.W.length → Fr S w W → Calls Try.prog 49 #[.int .i64 (i : Int), .pointer (some ⟨fb, 0, none⟩)] W fun e w' => e = .returned (.int .u8 (f i : Int)) ∧ w' = W) :
    Calls Try.prog 42 #[.pointer (some ⟨b, 0, none⟩), .func (.func 49) #[] #[.pointer (some ⟨fb, 0, none⟩)]] w fun e w' => e = .returned (.tuple #[]) ∧ (∃ ia' ic', DkO w' b { D with I := setP D.page f 0 D.W D.I, W := [] } (Land S w w') pa ia' none aa pc ic' 0 ac) ∧ Fr S w w' := by
  have c6 := h.cell 6 rfl
  refine calls_abs (c := cOM) Try.func42 (by kernel_rfl) 28 rfl (by simp) (fun a0 hsz hd ha => ?_)
  have fa0_0 := Fe.refl a0
  unfold cOM
  refine wp_seq (wp_seq ?_)
  refine wp_region_list ?_
  unfold rOM0
  refine fa0_0.move 6 (.pointer (some ⟨b, 0, none⟩)) _ (Or.inl rfl) rfl (lb_ hsz) (wanted_none rfl) ((fa0_0.at_ 0).trans (ha 0 _ rfl)) (fun a0_1 fa0_1 => ?_)
  clear fa0_0
  have r_a0_2 : (execOp a0_1.eval { dst := some 7, op := Op.nilCheck (Operand.tmp 6), type := 0, pos := "power.go:66", after := #[{ on := 0, ground := Ground.data }], guard := none }).run Try.prog (w) = .ok (.value (.pointer (some ⟨b, 0, none⟩))) (w) := by
    have e6 := (show a0_1.eval (.tmp 6) = .pointer (some ⟨b, 0, none⟩) from (fa0_1.at_ 6))
    clear fa0_1 ha hF
    generalize a0_1.eval = ρ at *
    go_simp
  refine fa0_1.step 7 (.pointer (some ⟨b, 0, none⟩)) rfl (lb_ hsz) (wanted_none rfl) r_a0_2 (fun a0_2 fa0_2 => ?_)
  clear r_a0_2
  clear fa0_1
  have r_a0_3 : (execOp a0_2.eval { dst := some 8, op := Op.fieldAddr 51 (Operand.tmp 7) 4, type := 0, pos := "power.go:66", after := #[{ on := 1, ground := Ground.data }], guard := none }).run Try.prog (w) = .ok (.value (.pointer (some ⟨b, 6, none⟩))) (w) := by
    have e7 := (show a0_2.eval (.tmp 7) = .pointer (some ⟨b, 0, none⟩) from (fa0_2.at_ 7))
    clear fa0_2 ha hF
    generalize a0_2.eval = ρ at *
    go_simp
  refine fa0_2.step 8 (.pointer (some ⟨b, 6, none⟩)) rfl (lb_ hsz) (wanted_none rfl) r_a0_3 (fun a0_3 fa0_3 => ?_)
  clear r_a0_3
  clear fa0_2
  have r_a0_4 : (execOp a0_3.eval { dst := some 9, op := Op.load 48 (Operand.tmp 8), type := 48, pos := "power.go:66", after := #[{ on := 2, ground := Ground.data }], guard := none }).run Try.prog (w) = .ok (.value (.slice wa D.W.length wc)) (w) := by
    have e8 := (show a0_3.eval (.tmp 8) = .pointer (some ⟨b, 6, none⟩) from (fa0_3.at_ 8))
    clear fa0_3 ha hF
    generalize a0_3.eval = ρ at *
    go_simp
  refine fa0_3.step 9 (.slice wa D.W.length wc) rfl (lb_ hsz) (wanted_none rfl) r_a0_4 (fun a0_4 fa0_4 => ?_)
  clear r_a0_4
  clear fa0_3
  have r_a0_5 : (execOp a0_4.eval { dst := some 10, op := Op.call { callee := Callee.builtin Builtin.len, args := #[Operand.tmp 9], argTypes := #[48] }, type := 3, pos := "power.go:66", after := #[{ on := 3, ground := Ground.data }], guard := none }).run Try.prog (w) = .ok (.value (.int .i64 (D.W.length : Int))) (w) := by
    have e9 := (show a0_4.eval (.tmp 9) = .slice wa D.W.length wc from (fa0_4.at_ 9))
    clear fa0_4 ha hF
    generalize a0_4.eval = ρ at *
    go_simp
  refine fa0_4.step 10 (.int .i64 (D.W.length : Int)) rfl (lb_ hsz) (wanted_none rfl) r_a0_5 (fun a0_5 fa0_5 => ?_)
  clear r_a0_5
  clear fa0_4
  refine fa0_5.move 11 (.int .i64 ((0 : Nat) : Int)) _ (Or.inl rfl) rfl (lb_ hsz) (wanted_none rfl) rfl (fun a0_6 fa0_6 => ?_)
  clear fa0_5
  refine wpList_nil ?_
  change Code.wp _ _ _ _ _
  refine wp_block ?_
  refine omLL (by intro c a d v w h; cases d <;> exact h) a0_6 w ⟨fa0_6.size.trans hsz, fa0_6.defers.trans hd, (show a0_6.eval (.tmp 0) = .pointer (some ⟨b, 0, none⟩) from ((fa0_6.at_ 0).trans (ha 0 _ rfl))), (show a0_6.eval (.tmp 1) = .func (.func 49) #[] #[.pointer (some ⟨fb, 0, none⟩)] from ((fa0_6.at_ 1).trans (ha 1 _ rfl))), (show a0_6.eval (.tmp 9) = .slice wa D.W.length wc from (fa0_6.at_ 9)), (show a0_6.eval (.tmp 10) = .int .i64 (D.W.length : Int) from (fa0_6.at_ 10))⟩ (show a0_6.eval (.tmp 11) = .int .i64 ((0 : Nat) : Int) from (fa0_6.at_ 11)) h h8 hp0 hp1 hI hW hl hF (fun a1 W ia2 ic2 i1 d1 f1 => ?_)
  have q6 := d1.cell 6 rfl
  have z6 := d1.frozen 6
  have g0 : a1.eval (.tmp 0) = .pointer (some ⟨b, 0, none⟩) := i1.s0
  change Code.wp _ _ _ _ _
  have fa1_0 := Fe.refl a1
  refine wp_region_list ?_
  unfold rOM5
  refine fa1_0.move 25 (.pointer (some ⟨b, 0, none⟩)) _ (Or.inl rfl) rfl (lb_ i1.size) (wanted_none rfl) ((fa1_0.at_ 0).trans g0) (fun a1_1 fa1_1 => ?_)
  clear fa1_0
  have r_a1_2 : (execOp a1_1.eval { dst := some 26, op := Op.nilCheck (Operand.tmp 25), type := 0, pos := "power.go:69", after := #[{ on := 0, ground := Ground.data }, { on := 0, ground := Ground.phase }], guard := none }).run Try.prog (W) = .ok (.value (.pointer (some ⟨b, 0, none⟩))) (W) := by
    have e25 := (show a1_1.eval (.tmp 25) = .pointer (some ⟨b, 0, none⟩) from (fa1_1.at_ 25))
    clear fa1_1 ha hF
    generalize a1_1.eval = ρ at *
    go_simp
  refine fa1_1.step 26 (.pointer (some ⟨b, 0, none⟩)) rfl (lb_ i1.size) (wanted_none rfl) r_a1_2 (fun a1_2 fa1_2 => ?_)
  clear r_a1_2
  clear fa1_1
  have r_a1_3 : (execOp a1_2.eval { dst := some 27, op := Op.fieldAddr 51 (Operand.tmp 26) 4, type := 0, pos := "power.go:69", after := #[{ on := 1, ground := Ground.data }, { on := 0, ground := Ground.phase }], guard := none }).run Try.prog (W) = .ok (.value (.pointer (some ⟨b, 6, none⟩))) (W) := by
    have e26 := (show a1_2.eval (.tmp 26) = .pointer (some ⟨b, 0, none⟩) from (fa1_2.at_ 26))
    clear fa1_2 ha hF
    generalize a1_2.eval = ρ at *
    go_simp
  refine fa1_2.step 27 (.pointer (some ⟨b, 6, none⟩)) rfl (lb_ i1.size) (wanted_none rfl) r_a1_3 (fun a1_3 fa1_3 => ?_)
  clear r_a1_3
  clear fa1_2
  have r_a1_4 : (execOp a1_3.eval { dst := none, op := Op.store 48 (Operand.tmp 27) (Operand.const (Value.slice none 0 0)), type := 0, pos := "power.go:69", after := #[{ on := 2, ground := Ground.data }, { on := 0, ground := Ground.phase }], guard := none }).run Try.prog (W) = .ok .skip (World.setCell W ⟨b, 6, none⟩ (.slice none 0 0)) := by
    have kc : ∀ v, a1_3.eval (.const v) = v := fun _ => rfl
    have e27 := (show a1_3.eval (.tmp 27) = .pointer (some ⟨b, 6, none⟩) from (fa1_3.at_ 27))
    clear fa1_3 ha hF
    generalize a1_3.eval = ρ at *
    go_simp
  refine fa1_3.store rfl (wanted_none rfl) r_a1_4 (fun a1_4 fa1_4 => ?_)
  clear r_a1_4
  clear fa1_3
  refine wpList_nil ?_
  have ds := DkO.setW (W' := []) (wa' := none) (wc' := 0) d1 (w0 := W) (Fr.refl _ _) own_nil (fun k hk => by cases hk)
  have fz : Fr S w (W.setCell ⟨b, 6, none⟩ (.slice none 0 0)) := Fr.trans f1 ds.2 (fun k hk e => by rcases e with e | e; exact e; omega)
  refine end_none rfl (fa1_4.defers.trans i1.defers) ⟨rfl, ⟨ia2, ic2, ?_⟩, fz⟩
  exact ds.1.land (fun k hk => hk.imp id (fun e => ⟨e.1, Nat.lt_of_lt_of_le e.2 ds.2.size⟩)) (fun k hk => land_lt h.lt fz.size hk)
end Go.Proofs.Ytljlkcmjbjnihaa
