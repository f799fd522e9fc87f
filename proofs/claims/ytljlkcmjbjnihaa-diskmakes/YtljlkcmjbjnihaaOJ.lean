/- disk: (*sheets).come. -/
import Derived.Test.YtljlkcmjbjnihaaOI
namespace Go.Proofs.Ytljlkcmjbjnihaa
open Go.RowKit

def rOJ0 : Array Oper := #[{ dst := some 4, op := Op.box 77 (Operand.tmp 1), type := 0, pos := "sheets.go:43", after := #[], guard := none }]
def rOJ1 : Array Oper := #[{ dst := some 6, op := Op.move (Operand.tmp 0), type := 68, pos := "sheets.go:49", after := #[], guard := none },
  { dst := some 7, op := Op.fieldAddr 77 (Operand.tmp 4) 0, type := 0, pos := "sheets.go:49", after := #[], guard := none },
  { dst := some 8, op := Op.fieldAddr 75 (Operand.tmp 7) 1, type := 0, pos := "sheets.go:49", after := #[{ on := 1, ground := Ground.data }], guard := none },
  { dst := some 9, op := Op.load 59 (Operand.tmp 8), type := 59, pos := "sheets.go:49", after := #[{ on := 2, ground := Ground.data }], guard := none },
  { dst := some 10, op := Op.convert 59 3 (Operand.tmp 9), type := 3, pos := "sheets.go:49", after := #[{ on := 3, ground := Ground.data }], guard := none },
  { dst := some 11, op := Op.binOp BinOp.add 3 (Operand.tmp 10) (Operand.const (Value.int IntKind.i64 1)) 3, type := 3, pos := "sheets.go:49", after := #[{ on := 4, ground := Ground.data }], guard := none },
  { dst := some 12, op := Op.call { callee := Callee.value (Operand.func 50), args := #[Operand.tmp 6, Operand.tmp 11], argTypes := #[68, 3] }, type := 0, pos := "sheets.go:49", after := #[{ on := 0, ground := Ground.data }, { on := 5, ground := Ground.data }], guard := none }]
def rOJ2 : Array Oper := #[{ dst := some 13, op := Op.move (Operand.tmp 0), type := 68, pos := "sheets.go:50", after := #[], guard := none },
  { dst := some 14, op := Op.nilCheck (Operand.tmp 13), type := 0, pos := "sheets.go:50", after := #[{ on := 0, ground := Ground.data }], guard := none },
  { dst := some 15, op := Op.fieldAddr 46 (Operand.tmp 14) 1, type := 0, pos := "sheets.go:50", after := #[{ on := 1, ground := Ground.data }], guard := none },
  { dst := some 16, op := Op.load 22 (Operand.tmp 15), type := 22, pos := "sheets.go:50", after := #[{ on := 2, ground := Ground.data }], guard := none },
  { dst := some 17, op := Op.fieldAddr 77 (Operand.tmp 4) 0, type := 0, pos := "sheets.go:50", after := #[], guard := none },
  { dst := some 18, op := Op.fieldAddr 75 (Operand.tmp 17) 1, type := 0, pos := "sheets.go:50", after := #[{ on := 4, ground := Ground.data }], guard := none },
  { dst := some 19, op := Op.load 59 (Operand.tmp 18), type := 59, pos := "sheets.go:50", after := #[{ on := 5, ground := Ground.data }], guard := none },
  { dst := some 20, op := Op.move (Operand.tmp 0), type := 68, pos := "sheets.go:50", after := #[], guard := none },
  { dst := some 21, op := Op.nilCheck (Operand.tmp 20), type := 0, pos := "sheets.go:50", after := #[{ on := 7, ground := Ground.data }], guard := none },
  { dst := some 22, op := Op.fieldAddr 46 (Operand.tmp 21) 1, type := 0, pos := "sheets.go:50", after := #[{ on := 8, ground := Ground.data }], guard := none },
  { dst := some 23, op := Op.load 22 (Operand.tmp 22), type := 22, pos := "sheets.go:50", after := #[{ on := 9, ground := Ground.data }], guard := none },
  { dst := some 24, op := Op.fieldAddr 77 (Operand.tmp 4) 0, type := 0, pos := "sheets.go:50", after := #[], guard := none },
  { dst := some 25, op := Op.fieldAddr 75 (Operand.tmp 24) 1, type := 0, pos := "sheets.go:50", after := #[{ on := 11, ground := Ground.data }], guard := none },
  { dst := some 26, op := Op.load 59 (Operand.tmp 25), type := 59, pos := "sheets.go:50", after := #[{ on := 12, ground := Ground.data }], guard := none },
  { dst := some 27, op := Op.indexAddr 22 (Operand.tmp 23) (Operand.tmp 26), type := 0, pos := "sheets.go:50", after := #[{ on := 10, ground := Ground.data }, { on := 13, ground := Ground.data }], guard := none },
  { dst := some 28, op := Op.load 9 (Operand.tmp 27), type := 9, pos := "sheets.go:50", after := #[{ on := 14, ground := Ground.data }], guard := none },
  { dst := some 29, op := Op.fieldAddr 77 (Operand.tmp 4) 1, type := 0, pos := "sheets.go:50", after := #[], guard := none },
  { dst := some 30, op := Op.load 9 (Operand.tmp 29), type := 9, pos := "sheets.go:50", after := #[{ on := 16, ground := Ground.data }], guard := none },
  { dst := some 31, op := Op.move (Operand.tmp 2), type := 66, pos := "sheets.go:50", after := #[], guard := none },
  { dst := some 32, op := Op.call { callee := Callee.value (Operand.func 51), args := #[Operand.tmp 28, Operand.tmp 30, Operand.tmp 31], argTypes := #[9, 9, 66] }, type := 9, pos := "sheets.go:50", after := #[{ on := 15, ground := Ground.data }, { on := 17, ground := Ground.data }, { on := 18, ground := Ground.data }], guard := none },
  { dst := some 33, op := Op.indexAddr 22 (Operand.tmp 16) (Operand.tmp 19), type := 0, pos := "sheets.go:50", after := #[{ on := 3, ground := Ground.data }, { on := 6, ground := Ground.data }, { on := 0, ground := Ground.phase }, { on := 1, ground := Ground.phase }, { on := 2, ground := Ground.phase }, { on := 3, ground := Ground.phase }, { on := 4, ground := Ground.phase }, { on := 5, ground := Ground.phase }, { on := 6, ground := Ground.phase }, { on := 7, ground := Ground.phase }, { on := 8, ground := Ground.phase }, { on := 9, ground := Ground.phase }, { on := 10, ground := Ground.phase }, { on := 11, ground := Ground.phase }, { on := 12, ground := Ground.phase }, { on := 13, ground := Ground.phase }, { on := 14, ground := Ground.phase }, { on := 15, ground := Ground.phase }, { on := 16, ground := Ground.phase }, { on := 17, ground := Ground.phase }, { on := 18, ground := Ground.phase }, { on := 19, ground := Ground.phase }], guard := none },
  { dst := none, op := Op.store 9 (Operand.tmp 33) (Operand.tmp 32), type := 0, pos := "sheets.go:50", after := #[{ on := 20, ground := Ground.data }, { on := 19, ground := Ground.data }, { on := 19, ground := Ground.chain }, { on := 0, ground := Ground.phase }, { on := 1, ground := Ground.phase }, { on := 2, ground := Ground.phase }, { on := 3, ground := Ground.phase }, { on := 4, ground := Ground.phase }, { on := 5, ground := Ground.phase }, { on := 6, ground := Ground.phase }, { on := 7, ground := Ground.phase }, { on := 8, ground := Ground.phase }, { on := 9, ground := Ground.phase }, { on := 10, ground := Ground.phase }, { on := 11, ground := Ground.phase }, { on := 12, ground := Ground.phase }, { on := 13, ground := Ground.phase }, { on := 14, ground := Ground.phase }, { on := 15, ground := Ground.phase }, { on := 16, ground := Ground.phase }, { on := 17, ground := Ground.phase }, { on := 18, ground := Ground.phase }, { on := 19, ground := Ground.phase }], guard := none }]
def rOJ3 : Array Oper := #[{ dst := some 35, op := Op.move (Operand.tmp 2), type := 66, pos := "sheets.go:45", after := #[], guard := none },
  { dst := some 36, op := Op.binOp BinOp.eql 66 (Operand.tmp 35) (Operand.const (Value.int IntKind.u8 0)) 66, type := 4, pos := "sheets.go:45", after := #[{ on := 0, ground := Ground.data }], guard := none },
  { dst := some 34, op := Op.assign (Operand.tmp 36), type := 4, pos := "sheets.go:45", after := #[{ on := 1, ground := Ground.data }], guard := none }]
def rOJ4 : Array Oper := #[{ dst := some 38, op := Op.fieldAddr 77 (Operand.tmp 4) 0, type := 0, pos := "sheets.go:46", after := #[], guard := none },
  { dst := some 39, op := Op.fieldAddr 75 (Operand.tmp 38) 0, type := 0, pos := "sheets.go:46", after := #[{ on := 0, ground := Ground.data }], guard := none },
  { dst := some 40, op := Op.load 73 (Operand.tmp 39), type := 73, pos := "sheets.go:46", after := #[{ on := 1, ground := Ground.data }], guard := none },
  { dst := some 41, op := Op.binOp BinOp.eql 73 (Operand.tmp 40) (Operand.const (Value.int IntKind.u8 2)) 73, type := 4, pos := "sheets.go:46", after := #[{ on := 2, ground := Ground.data }], guard := none },
  { dst := some 37, op := Op.assign (Operand.tmp 41), type := 4, pos := "sheets.go:46", after := #[{ on := 3, ground := Ground.data }], guard := none }]
def rOJ5 : Array Oper := #[{ dst := some 42, op := Op.move (Operand.tmp 0), type := 68, pos := "sheets.go:47", after := #[], guard := none },
  { dst := some 43, op := Op.fieldAddr 77 (Operand.tmp 4) 0, type := 0, pos := "sheets.go:47", after := #[], guard := none },
  { dst := some 44, op := Op.fieldAddr 75 (Operand.tmp 43) 2, type := 0, pos := "sheets.go:47", after := #[{ on := 1, ground := Ground.data }], guard := none },
  { dst := some 45, op := Op.load 3 (Operand.tmp 44), type := 3, pos := "sheets.go:47", after := #[{ on := 2, ground := Ground.data }], guard := none },
  { dst := some 46, op := Op.call { callee := Callee.value (Operand.func 50), args := #[Operand.tmp 42, Operand.tmp 45], argTypes := #[68, 3] }, type := 0, pos := "sheets.go:47", after := #[{ on := 0, ground := Ground.data }, { on := 3, ground := Ground.data }], guard := none }]
def rOJ2p : Array Oper := #[{ dst := some 13, op := Op.move (Operand.tmp 0), type := 68, pos := "sheets.go:50", after := #[], guard := none },
  { dst := some 14, op := Op.nilCheck (Operand.tmp 13), type := 0, pos := "sheets.go:50", after := #[{ on := 0, ground := Ground.data }], guard := none },
  { dst := some 15, op := Op.fieldAddr 46 (Operand.tmp 14) 1, type := 0, pos := "sheets.go:50", after := #[{ on := 1, ground := Ground.data }], guard := none },
  { dst := some 16, op := Op.load 22 (Operand.tmp 15), type := 22, pos := "sheets.go:50", after := #[{ on := 2, ground := Ground.data }], guard := none },
  { dst := some 17, op := Op.fieldAddr 77 (Operand.tmp 4) 0, type := 0, pos := "sheets.go:50", after := #[], guard := none },
  { dst := some 18, op := Op.fieldAddr 75 (Operand.tmp 17) 1, type := 0, pos := "sheets.go:50", after := #[{ on := 4, ground := Ground.data }], guard := none },
  { dst := some 19, op := Op.load 59 (Operand.tmp 18), type := 59, pos := "sheets.go:50", after := #[{ on := 5, ground := Ground.data }], guard := none },
  { dst := some 20, op := Op.move (Operand.tmp 0), type := 68, pos := "sheets.go:50", after := #[], guard := none },
  { dst := some 21, op := Op.nilCheck (Operand.tmp 20), type := 0, pos := "sheets.go:50", after := #[{ on := 7, ground := Ground.data }], guard := none },
  { dst := some 22, op := Op.fieldAddr 46 (Operand.tmp 21) 1, type := 0, pos := "sheets.go:50", after := #[{ on := 8, ground := Ground.data }], guard := none },
  { dst := some 23, op := Op.load 22 (Operand.tmp 22), type := 22, pos := "sheets.go:50", after := #[{ on := 9, ground := Ground.data }], guard := none },
  { dst := some 24, op := Op.fieldAddr 77 (Operand.tmp 4) 0, type := 0, pos := "sheets.go:50", after := #[], guard := none },
  { dst := some 25, op := Op.fieldAddr 75 (Operand.tmp 24) 1, type := 0, pos := "sheets.go:50", after := #[{ on := 11, ground := Ground.data }], guard := none },
  { dst := some 26, op := Op.load 59 (Operand.tmp 25), type := 59, pos := "sheets.go:50", after := #[{ on := 12, ground := Ground.data }], guard := none },
  { dst := some 27, op := Op.indexAddr 22 (Operand.tmp 23) (Operand.tmp 26), type := 0, pos := "sheets.go:50", after := #[{ on := 10, ground := Ground.data }, { on := 13, ground := Ground.data }], guard := none },
  { dst := some 28, op := Op.load 9 (Operand.tmp 27), type := 9, pos := "sheets.go:50", after := #[{ on := 14, ground := Ground.data }], guard := none },
  { dst := some 29, op := Op.fieldAddr 77 (Operand.tmp 4) 1, type := 0, pos := "sheets.go:50", after := #[], guard := none },
  { dst := some 30, op := Op.load 9 (Operand.tmp 29), type := 9, pos := "sheets.go:50", after := #[{ on := 16, ground := Ground.data }], guard := none },
  { dst := some 31, op := Op.move (Operand.tmp 2), type := 66, pos := "sheets.go:50", after := #[], guard := none },
  { dst := some 32, op := Op.call { callee := Callee.value (Operand.func 51), args := #[Operand.tmp 28, Operand.tmp 30, Operand.tmp 31], argTypes := #[9, 9, 66] }, type := 9, pos := "sheets.go:50", after := #[{ on := 15, ground := Ground.data }, { on := 17, ground := Ground.data }, { on := 18, ground := Ground.data }], guard := none },
  { dst := some 33, op := Op.indexAddr 22 (Operand.tmp 16) (Operand.tmp 19), type := 0, pos := "sheets.go:50", after := #[{ on := 3, ground := Ground.data }, { on := 6, ground := Ground.data }, { on := 0, ground := Ground.phase }, { on := 1, ground := Ground.phase }, { on := 2, ground := Ground.phase }, { on := 3, ground := Ground.phase }, { on := 4, ground := Ground.phase }, { on := 5, ground := Ground.phase }, { on := 6, ground := Ground.phase }, { on := 7, ground := Ground.phase }, { on := 8, ground := Ground.phase }, { on := 9, ground := Ground.phase }, { on := 10, ground := Ground.phase }, { on := 11, ground := Ground.phase }, { on := 12, ground := Ground.phase }, { on := 13, ground := Ground.phase }, { on := 14, ground := Ground.phase }, { on := 15, ground := Ground.phase }, { on := 16, ground := Ground.phase }, { on := 17, ground := Ground.phase }, { on := 18, ground := Ground.phase }, { on := 19, ground := Ground.phase }], guard := none }]
def rOJ2f : Oper := { dst := none, op := Op.store 9 (Operand.tmp 33) (Operand.tmp 32), type := 0, pos := "sheets.go:50", after := #[{ on := 20, ground := Ground.data }, { on := 19, ground := Ground.data }, { on := 19, ground := Ground.chain }, { on := 0, ground := Ground.phase }, { on := 1, ground := Ground.phase }, { on := 2, ground := Ground.phase }, { on := 3, ground := Ground.phase }, { on := 4, ground := Ground.phase }, { on := 5, ground := Ground.phase }, { on := 6, ground := Ground.phase }, { on := 7, ground := Ground.phase }, { on := 8, ground := Ground.phase }, { on := 9, ground := Ground.phase }, { on := 10, ground := Ground.phase }, { on := 11, ground := Ground.phase }, { on := 12, ground := Ground.phase }, { on := 13, ground := Ground.phase }, { on := 14, ground := Ground.phase }, { on := 15, ground := Ground.phase }, { on := 16, ground := Ground.phase }, { on := 17, ground := Ground.phase }, { on := 18, ground := Ground.phase }, { on := 19, ground := Ground.phase }], guard := none }
def cOJ : Code := (Code.seq (Code.region 0 rOJ0 false) (Code.block 0 (Code.seq (Code.region 3 rOJ3 false) (Code.cond (Operand.tmp 34) Code.skip (Code.seq (Code.region 4 rOJ4 false) (Code.cond (Operand.tmp 37) (Code.region 5 rOJ5 false) (Code.seq (Code.region 1 rOJ1 false) (Code.region 2 rOJ2 true))))))))
def emptyS : ByteArray := ⟨#[]⟩
/-- What becomes of pages by what waits and its fate. -/
def comeP (pg : Nat) (l : List ByteArray) (x : Wt) (m : Nat) : List ByteArray :=
  if m = 0 then l else if x.act = 2 then extP pg l x.pages else (extP pg l (x.pg + 1)).set x.pg (ovlS (pg / 8) (((extP pg l (x.pg + 1))[x.pg]?).getD emptyS) x.data m)
/-- What waits may be. -/
structure WtOk (pg : Nat) (x : Wt) : Prop where
  pages : x.pages ≤ 1048576
  page : x.pg < 1048576
  data : x.act ≠ 2 → x.data.size = pg
  act : x.act < 256
theorem extP_all {pg n : Nat} {l : List ByteArray} (h : ∀ s ∈ l, s.size = pg) : ∀ s ∈ extP pg l n, s.size = pg := fun s hs => by
  rcases List.mem_append.1 hs with h1 | h1
  · exact h s h1
  · rw [List.eq_of_mem_replicate h1]; unfold zerosT; simp [ByteArray.size]
theorem comeP_all {pg m : Nat} {l : List ByteArray} {x : Wt} (h8 : pg = 8 * (pg / 8)) (hx : WtOk pg x) (h : ∀ s ∈ l, s.size = pg) : ∀ s ∈ comeP pg l x m, s.size = pg := fun s hs => by
  unfold comeP at hs
  split at hs
  · exact h s hs
  · split at hs
    · exact extP_all h s hs
    · rename_i h1 h2
      have hlt : x.pg < (extP pg l (x.pg + 1)).length := by rw [extP_len]; omega
      rcases List.mem_or_eq_of_mem_set hs with h3 | h3
      · exact extP_all h s h3
      · rw [h3, List.getElem?_eq_getElem hlt, Option.getD_some, ovlS_size (by rw [extP_all h _ (List.getElem_mem hlt)]; exact h8) (by rw [hx.data h2]; exact h8)]
        exact h8.symm
set_option maxRecDepth 100000 in
set_option maxHeartbeats 1000000 in
theorem come_none {b o pc pg m : Nat} {pa : Option Addr} {l : List ByteArray} {cs : Array Value} {T : TypeId} {x : Wt} (w : World) (h : w.heap[b]? = some (.cells cs T (0, 0))) (hc1 : cs[o + 1]? = some (.slice pa l.length pc)) (ho : w.ownsRow 0 9 1 (.slice pa l.length pc) l.length (scells l)) (hm : m = 0) :
    Calls Try.prog 45 #[.pointer (some ⟨b, o, none⟩), .agg #[.int .u8 (x.act : Int), .int .u32 (x.pg : Int), .int .i64 (x.pages : Int), .string x.data], .int .u8 (m : Int)] w fun e w' => e = .returned (.tuple #[]) ∧ ShOut w w' b o pa l.length pc cs T (comeP pg l x m) := by
  have hmi : (m : Int) = 0 := by omega
  refine calls_abs (c := cOJ) Try.func45 (by kernel_rfl) 47 rfl (by simp) (fun a0 hsz hd ha => ?_)
  have fa0_0 := Fe.refl a0
  unfold cOJ
  refine wp_seq ?_
  refine wp_region_list ?_
  unfold rOJ0
  have r_a0_1 : (execOp a0.eval { dst := some 4, op := Op.box 77 (Operand.tmp 1), type := 0, pos := "sheets.go:43", after := #[], guard := none }).run Try.prog (w) = .ok (.value (.pointer (some ⟨w.heap.size, 0, none⟩))) (w.alloc (.cells #[.int .u8 (x.act : Int), .int .u32 (x.pg : Int), .int .i64 (x.pages : Int), .string x.data] 77)) := by
    have e1 := (show a0.eval (.tmp 1) = .agg #[.int .u8 (x.act : Int), .int .u32 (x.pg : Int), .int .i64 (x.pages : Int), .string x.data] from ((fa0_0.at_ 1).trans (ha 1 _ rfl)))
    clear fa0_0 ha
    generalize a0.eval = ρ at *
    go_simp
  refine fa0_0.stepW 4 (.pointer (some ⟨w.heap.size, 0, none⟩)) rfl (lb_ hsz) (wanted_none rfl) r_a0_1 (fun a0_1 fa0_1 => ?_)
  clear r_a0_1
  obtain ⟨V, hV⟩ : ∃ V, V = w.alloc (.cells #[.int .u8 (x.act : Int), .int .u32 (x.pg : Int), .int .i64 (x.pages : Int), .string x.data] 77) := ⟨_, rfl⟩
  rw [← hV]
  have sV : Same w V := by rw [hV]; exact (Fr.refl _ w).alloc _
  have hVr : V.heap[w.heap.size]? = some (.cells #[.int .u8 (x.act : Int), .int .u32 (x.pg : Int), .int .i64 (x.pages : Int), .string x.data] 77 (0, 0)) := by rw [hV]; exact heap_alloc_new w _
  clear hV
  have k0 : V.cell? ⟨w.heap.size, 0, none⟩ = some (.int .u8 (x.act : Int)) := (cell_of_row _ _ _ _ _ _ hVr).trans rfl
  have k1 : V.cell? ⟨w.heap.size, 1, none⟩ = some (.int .u32 (x.pg : Int)) := (cell_of_row _ _ _ _ _ _ hVr).trans rfl
  have k2 : V.cell? ⟨w.heap.size, 2, none⟩ = some (.int .i64 (x.pages : Int)) := (cell_of_row _ _ _ _ _ _ hVr).trans rfl
  have k3 : V.cell? ⟨w.heap.size, 3, none⟩ = some (.string x.data) := (cell_of_row _ _ _ _ _ _ hVr).trans rfl
  clear fa0_0
  refine wpList_nil ?_
  change Code.wp _ _ _ _ _
  refine wp_block (wp_seq ?_)
  refine wp_region_list ?_
  unfold rOJ3
  refine fa0_1.move 35 (.int .u8 (m : Int)) _ (Or.inl rfl) rfl (lb_ hsz) (wanted_none rfl) ((fa0_1.at_ 2).trans (ha 2 _ rfl)) (fun a0_2 fa0_2 => ?_)
  clear fa0_1
  have r_a0_3 : (execOp a0_2.eval { dst := some 36, op := Op.binOp BinOp.eql 66 (Operand.tmp 35) (Operand.const (Value.int IntKind.u8 0)) 66, type := 4, pos := "sheets.go:45", after := #[{ on := 0, ground := Ground.data }], guard := none }).run Try.prog (V) = .ok (.value (.bool true)) (V) := by
    have kc : ∀ v, a0_2.eval (.const v) = v := fun _ => rfl
    have e35 := (show a0_2.eval (.tmp 35) = .int .u8 (m : Int) from (fa0_2.at_ 35))
    clear fa0_2 ha
    generalize a0_2.eval = ρ at *
    go_simp
  refine fa0_2.step 36 (.bool true) rfl (lb_ hsz) (wanted_none rfl) r_a0_3 (fun a0_3 fa0_3 => ?_)
  clear r_a0_3
  clear fa0_2
  refine fa0_3.move 34 (.bool true) _ (Or.inr rfl) rfl (lb_ hsz) (wanted_none rfl) (fa0_3.at_ 36) (fun a0_4 fa0_4 => ?_)
  clear fa0_3
  refine wpList_nil ?_
  change Code.wp _ _ _ _ _
  refine wp_cond_true (show a0_4.eval (.tmp 34) = .bool true from (fa0_4.at_ 34)) (wp_skip ?_)
  simp only [Exit.inBlock]
  refine end_none rfl (fa0_4.defers.trans hd) ⟨rfl, ?_⟩
  unfold comeP
  rw [if_pos hm]
  exact ⟨pa, pc, by rw [set_self hc1]; exact heap_fr h sV (fun f => f), own_frameB ho sV (fun _ _ f => f), sV.mono (fun _ _ f => f.elim), fun k hk => Or.inl hk⟩
set_option maxRecDepth 100000 in
set_option maxHeartbeats 1000000 in
theorem come_grow {b o pc pg m : Nat} {pa : Option Addr} {l : List ByteArray} {cs : Array Value} {T : TypeId} {x : Wt} (w : World) (hT : T ≠ 9) (h : w.heap[b]? = some (.cells cs T (0, 0))) (hc0 : cs[o]? = some (.int .i64 (pg : Int))) (hc1 : cs[o + 1]? = some (.slice pa l.length pc)) (ho : w.ownsRow 0 9 1 (.slice pa l.length pc) l.length (scells l)) (hx : WtOk pg x) (hpg : pg ≤ 8192) (hm : ¬ m = 0) (ha2 : x.act = 2) :
    Calls Try.prog 45 #[.pointer (some ⟨b, o, none⟩), .agg #[.int .u8 (x.act : Int), .int .u32 (x.pg : Int), .int .i64 (x.pages : Int), .string x.data], .int .u8 (m : Int)] w fun e w' => e = .returned (.tuple #[]) ∧ ShOut w w' b o pa l.length pc cs T (comeP pg l x m) := by
  have hmi : ¬ (m : Int) = 0 := by omega
  have hai : (x.act : Int) = 2 := by omega
  refine calls_abs (c := cOJ) Try.func45 (by kernel_rfl) 47 rfl (by simp) (fun a0 hsz hd ha => ?_)
  have fa0_0 := Fe.refl a0
  unfold cOJ
  refine wp_seq ?_
  refine wp_region_list ?_
  unfold rOJ0
  have r_a0_1 : (execOp a0.eval { dst := some 4, op := Op.box 77 (Operand.tmp 1), type := 0, pos := "sheets.go:43", after := #[], guard := none }).run Try.prog (w) = .ok (.value (.pointer (some ⟨w.heap.size, 0, none⟩))) (w.alloc (.cells #[.int .u8 (x.act : Int), .int .u32 (x.pg : Int), .int .i64 (x.pages : Int), .string x.data] 77)) := by
    have e1 := (show a0.eval (.tmp 1) = .agg #[.int .u8 (x.act : Int), .int .u32 (x.pg : Int), .int .i64 (x.pages : Int), .string x.data] from ((fa0_0.at_ 1).trans (ha 1 _ rfl)))
    clear fa0_0 ha
    generalize a0.eval = ρ at *
    go_simp
  refine fa0_0.stepW 4 (.pointer (some ⟨w.heap.size, 0, none⟩)) rfl (lb_ hsz) (wanted_none rfl) r_a0_1 (fun a0_1 fa0_1 => ?_)
  clear r_a0_1
  obtain ⟨V, hV⟩ : ∃ V, V = w.alloc (.cells #[.int .u8 (x.act : Int), .int .u32 (x.pg : Int), .int .i64 (x.pages : Int), .string x.data] 77) := ⟨_, rfl⟩
  rw [← hV]
  have sV : Same w V := by rw [hV]; exact (Fr.refl _ w).alloc _
  have hVr : V.heap[w.heap.size]? = some (.cells #[.int .u8 (x.act : Int), .int .u32 (x.pg : Int), .int .i64 (x.pages : Int), .string x.data] 77 (0, 0)) := by rw [hV]; exact heap_alloc_new w _
  clear hV
  have k0 : V.cell? ⟨w.heap.size, 0, none⟩ = some (.int .u8 (x.act : Int)) := (cell_of_row _ _ _ _ _ _ hVr).trans rfl
  have k1 : V.cell? ⟨w.heap.size, 1, none⟩ = some (.int .u32 (x.pg : Int)) := (cell_of_row _ _ _ _ _ _ hVr).trans rfl
  have k2 : V.cell? ⟨w.heap.size, 2, none⟩ = some (.int .i64 (x.pages : Int)) := (cell_of_row _ _ _ _ _ _ hVr).trans rfl
  have k3 : V.cell? ⟨w.heap.size, 3, none⟩ = some (.string x.data) := (cell_of_row _ _ _ _ _ _ hVr).trans rfl
  clear fa0_0
  refine wpList_nil ?_
  change Code.wp _ _ _ _ _
  refine wp_block (wp_seq ?_)
  refine wp_region_list ?_
  unfold rOJ3
  refine fa0_1.move 35 (.int .u8 (m : Int)) _ (Or.inl rfl) rfl (lb_ hsz) (wanted_none rfl) ((fa0_1.at_ 2).trans (ha 2 _ rfl)) (fun a0_2 fa0_2 => ?_)
  clear fa0_1
  have r_a0_3 : (execOp a0_2.eval { dst := some 36, op := Op.binOp BinOp.eql 66 (Operand.tmp 35) (Operand.const (Value.int IntKind.u8 0)) 66, type := 4, pos := "sheets.go:45", after := #[{ on := 0, ground := Ground.data }], guard := none }).run Try.prog (V) = .ok (.value (.bool false)) (V) := by
    have kc : ∀ v, a0_2.eval (.const v) = v := fun _ => rfl
    have e35 := (show a0_2.eval (.tmp 35) = .int .u8 (m : Int) from (fa0_2.at_ 35))
    clear fa0_2 ha
    generalize a0_2.eval = ρ at *
    go_simp
  refine fa0_2.step 36 (.bool false) rfl (lb_ hsz) (wanted_none rfl) r_a0_3 (fun a0_3 fa0_3 => ?_)
  clear r_a0_3
  clear fa0_2
  refine fa0_3.move 34 (.bool false) _ (Or.inr rfl) rfl (lb_ hsz) (wanted_none rfl) (fa0_3.at_ 36) (fun a0_4 fa0_4 => ?_)
  clear fa0_3
  refine wpList_nil ?_
  change Code.wp _ _ _ _ _
  refine wp_cond_false (show a0_4.eval (.tmp 34) = .bool false from (fa0_4.at_ 34)) (wp_seq ?_)
  refine wp_region_list ?_
  unfold rOJ4
  have r_a0_5 : (execOp a0_4.eval { dst := some 38, op := Op.fieldAddr 77 (Operand.tmp 4) 0, type := 0, pos := "sheets.go:46", after := #[], guard := none }).run Try.prog (V) = .ok (.value (.pointer (some ⟨w.heap.size, 0, none⟩))) (V) := by
    have e4 := (show a0_4.eval (.tmp 4) = .pointer (some ⟨w.heap.size, 0, none⟩) from (fa0_4.at_ 4))
    clear fa0_4 ha
    generalize a0_4.eval = ρ at *
    go_simp
  refine fa0_4.step 38 (.pointer (some ⟨w.heap.size, 0, none⟩)) rfl (lb_ hsz) (wanted_none rfl) r_a0_5 (fun a0_5 fa0_5 => ?_)
  clear r_a0_5
  clear fa0_4
  have r_a0_6 : (execOp a0_5.eval { dst := some 39, op := Op.fieldAddr 75 (Operand.tmp 38) 0, type := 0, pos := "sheets.go:46", after := #[{ on := 0, ground := Ground.data }], guard := none }).run Try.prog (V) = .ok (.value (.pointer (some ⟨w.heap.size, 0, none⟩))) (V) := by
    have e38 := (show a0_5.eval (.tmp 38) = .pointer (some ⟨w.heap.size, 0, none⟩) from (fa0_5.at_ 38))
    clear fa0_5 ha
    generalize a0_5.eval = ρ at *
    go_simp
  refine fa0_5.step 39 (.pointer (some ⟨w.heap.size, 0, none⟩)) rfl (lb_ hsz) (wanted_none rfl) r_a0_6 (fun a0_6 fa0_6 => ?_)
  clear r_a0_6
  clear fa0_5
  have r_a0_7 : (execOp a0_6.eval { dst := some 40, op := Op.load 73 (Operand.tmp 39), type := 73, pos := "sheets.go:46", after := #[{ on := 1, ground := Ground.data }], guard := none }).run Try.prog (V) = .ok (.value (.int .u8 (x.act : Int))) (V) := by
    have e39 := (show a0_6.eval (.tmp 39) = .pointer (some ⟨w.heap.size, 0, none⟩) from (fa0_6.at_ 39))
    clear fa0_6 ha
    generalize a0_6.eval = ρ at *
    go_simp
  refine fa0_6.step 40 (.int .u8 (x.act : Int)) rfl (lb_ hsz) (wanted_none rfl) r_a0_7 (fun a0_7 fa0_7 => ?_)
  clear r_a0_7
  clear fa0_6
  have r_a0_8 : (execOp a0_7.eval { dst := some 41, op := Op.binOp BinOp.eql 73 (Operand.tmp 40) (Operand.const (Value.int IntKind.u8 2)) 73, type := 4, pos := "sheets.go:46", after := #[{ on := 2, ground := Ground.data }], guard := none }).run Try.prog (V) = .ok (.value (.bool true)) (V) := by
    have kc : ∀ v, a0_7.eval (.const v) = v := fun _ => rfl
    have e40 := (show a0_7.eval (.tmp 40) = .int .u8 (x.act : Int) from (fa0_7.at_ 40))
    clear fa0_7 ha
    generalize a0_7.eval = ρ at *
    go_simp
  refine fa0_7.step 41 (.bool true) rfl (lb_ hsz) (wanted_none rfl) r_a0_8 (fun a0_8 fa0_8 => ?_)
  clear r_a0_8
  clear fa0_7
  refine fa0_8.move 37 (.bool true) _ (Or.inr rfl) rfl (lb_ hsz) (wanted_none rfl) (fa0_8.at_ 41) (fun a0_9 fa0_9 => ?_)
  clear fa0_8
  refine wpList_nil ?_
  change Code.wp _ _ _ _ _
  refine wp_cond_true (show a0_9.eval (.tmp 37) = .bool true from (fa0_9.at_ 37)) ?_
  refine wp_region_list ?_
  unfold rOJ5
  refine fa0_9.move 42 (.pointer (some ⟨b, o, none⟩)) _ (Or.inl rfl) rfl (lb_ hsz) (wanted_none rfl) ((fa0_9.at_ 0).trans (ha 0 _ rfl)) (fun a0_10 fa0_10 => ?_)
  clear fa0_9
  have r_a0_11 : (execOp a0_10.eval { dst := some 43, op := Op.fieldAddr 77 (Operand.tmp 4) 0, type := 0, pos := "sheets.go:47", after := #[], guard := none }).run Try.prog (V) = .ok (.value (.pointer (some ⟨w.heap.size, 0, none⟩))) (V) := by
    have e4 := (show a0_10.eval (.tmp 4) = .pointer (some ⟨w.heap.size, 0, none⟩) from (fa0_10.at_ 4))
    clear fa0_10 ha
    generalize a0_10.eval = ρ at *
    go_simp
  refine fa0_10.step 43 (.pointer (some ⟨w.heap.size, 0, none⟩)) rfl (lb_ hsz) (wanted_none rfl) r_a0_11 (fun a0_11 fa0_11 => ?_)
  clear r_a0_11
  clear fa0_10
  have r_a0_12 : (execOp a0_11.eval { dst := some 44, op := Op.fieldAddr 75 (Operand.tmp 43) 2, type := 0, pos := "sheets.go:47", after := #[{ on := 1, ground := Ground.data }], guard := none }).run Try.prog (V) = .ok (.value (.pointer (some ⟨w.heap.size, 2, none⟩))) (V) := by
    have e43 := (show a0_11.eval (.tmp 43) = .pointer (some ⟨w.heap.size, 0, none⟩) from (fa0_11.at_ 43))
    clear fa0_11 ha
    generalize a0_11.eval = ρ at *
    go_simp
  refine fa0_11.step 44 (.pointer (some ⟨w.heap.size, 2, none⟩)) rfl (lb_ hsz) (wanted_none rfl) r_a0_12 (fun a0_12 fa0_12 => ?_)
  clear r_a0_12
  clear fa0_11
  have r_a0_13 : (execOp a0_12.eval { dst := some 45, op := Op.load 3 (Operand.tmp 44), type := 3, pos := "sheets.go:47", after := #[{ on := 2, ground := Ground.data }], guard := none }).run Try.prog (V) = .ok (.value (.int .i64 (x.pages : Int))) (V) := by
    have e44 := (show a0_12.eval (.tmp 44) = .pointer (some ⟨w.heap.size, 2, none⟩) from (fa0_12.at_ 44))
    clear fa0_12 ha
    generalize a0_12.eval = ρ at *
    go_simp
  refine fa0_12.step 45 (.int .i64 (x.pages : Int)) rfl (lb_ hsz) (wanted_none rfl) r_a0_13 (fun a0_13 fa0_13 => ?_)
  clear r_a0_13
  clear fa0_12
  have r_a0_14 : (execOp a0_13.eval { dst := some 46, op := Op.call { callee := Callee.value (Operand.func 50), args := #[Operand.tmp 42, Operand.tmp 45], argTypes := #[68, 3] }, type := 0, pos := "sheets.go:47", after := #[{ on := 0, ground := Ground.data }, { on := 3, ground := Ground.data }], guard := none }).run Try.prog (V) = .ok (.enter 50 #[.pointer (some ⟨b, o, none⟩), .int .i64 (x.pages : Int)]) (V) := by
    have kf : ∀ f, a0_13.eval (.func f) = .func (.func f) #[] #[] := fun _ => rfl
    have e42 := (show a0_13.eval (.tmp 42) = .pointer (some ⟨b, o, none⟩) from (fa0_13.at_ 42))
    have e45 := (show a0_13.eval (.tmp 45) = .int .i64 (x.pages : Int) from (fa0_13.at_ 45))
    clear fa0_13 ha
    generalize a0_13.eval = ρ at *
    go_simp
  refine fa0_13.call 46 rfl (lb_ hsz) (wanted_none rfl) r_a0_14 (extend_calls (n := x.pages) V hT (heap_fr h sV (fun f => f)) hc0 hc1 (own_frameB ho sV (fun _ _ f => f)) hx.pages hpg) (fun e V2 hR => ?_)
  obtain ⟨rfl, hso⟩ := hR
  clear r_a0_14
  refine ⟨_, rfl, fun a0_14 fa0_14 => ?_⟩
  clear fa0_13
  refine wpList_nil ?_
  simp only [Exit.inBlock]
  refine end_none rfl (fa0_14.defers.trans hd) ⟨rfl, ?_⟩
  unfold comeP
  rw [if_neg hm, if_pos ha2]
  obtain ⟨pa2, pc2, g1, g2, g3, g4⟩ := hso
  exact ⟨pa2, pc2, g1, g2, Fr.trans (sV.mono (fun _ _ f => f.elim)) g3 (fun _ _ e => e), fun k hk => (g4 k hk).imp id (fun e => Nat.le_trans sV.size e)⟩
set_option maxRecDepth 100000 in
set_option maxHeartbeats 1000000 in
theorem come_write {b o pc pg m : Nat} {pa : Option Addr} {l : List ByteArray} {cs : Array Value} {T : TypeId} {x : Wt} (w : World) (hT : T ≠ 9) (h : w.heap[b]? = some (.cells cs T (0, 0))) (hc0 : cs[o]? = some (.int .i64 (pg : Int))) (hc1 : cs[o + 1]? = some (.slice pa l.length pc)) (ho : w.ownsRow 0 9 1 (.slice pa l.length pc) l.length (scells l)) (hx : WtOk pg x) (hpg : pg ≤ 8192) (h8 : pg = 8 * (pg / 8)) (hpg0 : 0 < pg) (hall : ∀ s ∈ l, s.size = pg) (hm : ¬ m = 0) (ha2 : ¬ x.act = 2) :
    Calls Try.prog 45 #[.pointer (some ⟨b, o, none⟩), .agg #[.int .u8 (x.act : Int), .int .u32 (x.pg : Int), .int .i64 (x.pages : Int), .string x.data], .int .u8 (m : Int)] w fun e w' => e = .returned (.tuple #[]) ∧ ShOut w w' b o pa l.length pc cs T (comeP pg l x m) := by
  have hmi : ¬ (m : Int) = 0 := by omega
  have hai : ¬ (x.act : Int) = 2 := by omega
  have hdd : x.data.size = 8 * (pg / 8) := by rw [hx.data ha2]; exact h8
  have hsc : pg / 8 ≤ 4096 := by omega
  have hsc0 : 0 < pg / 8 := by omega
  have hco : o + 1 < cs.size := (Array.getElem?_eq_some_iff.1 hc1).1
  have hpm := hx.page
  have wp1 : IntKind.i64.wrap ((x.pg : Int) + 1) = (x.pg : Int) + 1 := by rw [IntKind.wrap_i64]; omega
  have wp0 : IntKind.i64.wrap (x.pg : Int) = (x.pg : Int) := by rw [IntKind.wrap_i64]; omega
  refine calls_abs (c := cOJ) Try.func45 (by kernel_rfl) 47 rfl (by simp) (fun a0 hsz hd ha => ?_)
  have fa0_0 := Fe.refl a0
  unfold cOJ
  refine wp_seq ?_
  refine wp_region_list ?_
  unfold rOJ0
  have r_a0_1 : (execOp a0.eval { dst := some 4, op := Op.box 77 (Operand.tmp 1), type := 0, pos := "sheets.go:43", after := #[], guard := none }).run Try.prog (w) = .ok (.value (.pointer (some ⟨w.heap.size, 0, none⟩))) (w.alloc (.cells #[.int .u8 (x.act : Int), .int .u32 (x.pg : Int), .int .i64 (x.pages : Int), .string x.data] 77)) := by
    have e1 := (show a0.eval (.tmp 1) = .agg #[.int .u8 (x.act : Int), .int .u32 (x.pg : Int), .int .i64 (x.pages : Int), .string x.data] from ((fa0_0.at_ 1).trans (ha 1 _ rfl)))
    clear fa0_0 ha
    generalize a0.eval = ρ at *
    go_simp
  refine fa0_0.stepW 4 (.pointer (some ⟨w.heap.size, 0, none⟩)) rfl (lb_ hsz) (wanted_none rfl) r_a0_1 (fun a0_1 fa0_1 => ?_)
  clear r_a0_1
  obtain ⟨V, hV⟩ : ∃ V, V = w.alloc (.cells #[.int .u8 (x.act : Int), .int .u32 (x.pg : Int), .int .i64 (x.pages : Int), .string x.data] 77) := ⟨_, rfl⟩
  rw [← hV]
  have sV : Same w V := by rw [hV]; exact (Fr.refl _ w).alloc _
  have hVr : V.heap[w.heap.size]? = some (.cells #[.int .u8 (x.act : Int), .int .u32 (x.pg : Int), .int .i64 (x.pages : Int), .string x.data] 77 (0, 0)) := by rw [hV]; exact heap_alloc_new w _
  clear hV
  have k0 : V.cell? ⟨w.heap.size, 0, none⟩ = some (.int .u8 (x.act : Int)) := (cell_of_row _ _ _ _ _ _ hVr).trans rfl
  have k1 : V.cell? ⟨w.heap.size, 1, none⟩ = some (.int .u32 (x.pg : Int)) := (cell_of_row _ _ _ _ _ _ hVr).trans rfl
  have k2 : V.cell? ⟨w.heap.size, 2, none⟩ = some (.int .i64 (x.pages : Int)) := (cell_of_row _ _ _ _ _ _ hVr).trans rfl
  have k3 : V.cell? ⟨w.heap.size, 3, none⟩ = some (.string x.data) := (cell_of_row _ _ _ _ _ _ hVr).trans rfl
  clear fa0_0
  refine wpList_nil ?_
  change Code.wp _ _ _ _ _
  refine wp_block (wp_seq ?_)
  refine wp_region_list ?_
  unfold rOJ3
  refine fa0_1.move 35 (.int .u8 (m : Int)) _ (Or.inl rfl) rfl (lb_ hsz) (wanted_none rfl) ((fa0_1.at_ 2).trans (ha 2 _ rfl)) (fun a0_2 fa0_2 => ?_)
  clear fa0_1
  have r_a0_3 : (execOp a0_2.eval { dst := some 36, op := Op.binOp BinOp.eql 66 (Operand.tmp 35) (Operand.const (Value.int IntKind.u8 0)) 66, type := 4, pos := "sheets.go:45", after := #[{ on := 0, ground := Ground.data }], guard := none }).run Try.prog (V) = .ok (.value (.bool false)) (V) := by
    have kc : ∀ v, a0_2.eval (.const v) = v := fun _ => rfl
    have e35 := (show a0_2.eval (.tmp 35) = .int .u8 (m : Int) from (fa0_2.at_ 35))
    clear fa0_2 ha
    generalize a0_2.eval = ρ at *
    go_simp
  refine fa0_2.step 36 (.bool false) rfl (lb_ hsz) (wanted_none rfl) r_a0_3 (fun a0_3 fa0_3 => ?_)
  clear r_a0_3
  clear fa0_2
  refine fa0_3.move 34 (.bool false) _ (Or.inr rfl) rfl (lb_ hsz) (wanted_none rfl) (fa0_3.at_ 36) (fun a0_4 fa0_4 => ?_)
  clear fa0_3
  refine wpList_nil ?_
  change Code.wp _ _ _ _ _
  refine wp_cond_false (show a0_4.eval (.tmp 34) = .bool false from (fa0_4.at_ 34)) (wp_seq ?_)
  refine wp_region_list ?_
  unfold rOJ4
  have r_a0_5 : (execOp a0_4.eval { dst := some 38, op := Op.fieldAddr 77 (Operand.tmp 4) 0, type := 0, pos := "sheets.go:46", after := #[], guard := none }).run Try.prog (V) = .ok (.value (.pointer (some ⟨w.heap.size, 0, none⟩))) (V) := by
    have e4 := (show a0_4.eval (.tmp 4) = .pointer (some ⟨w.heap.size, 0, none⟩) from (fa0_4.at_ 4))
    clear fa0_4 ha
    generalize a0_4.eval = ρ at *
    go_simp
  refine fa0_4.step 38 (.pointer (some ⟨w.heap.size, 0, none⟩)) rfl (lb_ hsz) (wanted_none rfl) r_a0_5 (fun a0_5 fa0_5 => ?_)
  clear r_a0_5
  clear fa0_4
  have r_a0_6 : (execOp a0_5.eval { dst := some 39, op := Op.fieldAddr 75 (Operand.tmp 38) 0, type := 0, pos := "sheets.go:46", after := #[{ on := 0, ground := Ground.data }], guard := none }).run Try.prog (V) = .ok (.value (.pointer (some ⟨w.heap.size, 0, none⟩))) (V) := by
    have e38 := (show a0_5.eval (.tmp 38) = .pointer (some ⟨w.heap.size, 0, none⟩) from (fa0_5.at_ 38))
    clear fa0_5 ha
    generalize a0_5.eval = ρ at *
    go_simp
  refine fa0_5.step 39 (.pointer (some ⟨w.heap.size, 0, none⟩)) rfl (lb_ hsz) (wanted_none rfl) r_a0_6 (fun a0_6 fa0_6 => ?_)
  clear r_a0_6
  clear fa0_5
  have r_a0_7 : (execOp a0_6.eval { dst := some 40, op := Op.load 73 (Operand.tmp 39), type := 73, pos := "sheets.go:46", after := #[{ on := 1, ground := Ground.data }], guard := none }).run Try.prog (V) = .ok (.value (.int .u8 (x.act : Int))) (V) := by
    have e39 := (show a0_6.eval (.tmp 39) = .pointer (some ⟨w.heap.size, 0, none⟩) from (fa0_6.at_ 39))
    clear fa0_6 ha
    generalize a0_6.eval = ρ at *
    go_simp
  refine fa0_6.step 40 (.int .u8 (x.act : Int)) rfl (lb_ hsz) (wanted_none rfl) r_a0_7 (fun a0_7 fa0_7 => ?_)
  clear r_a0_7
  clear fa0_6
  have r_a0_8 : (execOp a0_7.eval { dst := some 41, op := Op.binOp BinOp.eql 73 (Operand.tmp 40) (Operand.const (Value.int IntKind.u8 2)) 73, type := 4, pos := "sheets.go:46", after := #[{ on := 2, ground := Ground.data }], guard := none }).run Try.prog (V) = .ok (.value (.bool false)) (V) := by
    have kc : ∀ v, a0_7.eval (.const v) = v := fun _ => rfl
    have e40 := (show a0_7.eval (.tmp 40) = .int .u8 (x.act : Int) from (fa0_7.at_ 40))
    clear fa0_7 ha
    generalize a0_7.eval = ρ at *
    go_simp
  refine fa0_7.step 41 (.bool false) rfl (lb_ hsz) (wanted_none rfl) r_a0_8 (fun a0_8 fa0_8 => ?_)
  clear r_a0_8
  clear fa0_7
  refine fa0_8.move 37 (.bool false) _ (Or.inr rfl) rfl (lb_ hsz) (wanted_none rfl) (fa0_8.at_ 41) (fun a0_9 fa0_9 => ?_)
  clear fa0_8
  refine wpList_nil ?_
  change Code.wp _ _ _ _ _
  refine wp_cond_false (show a0_9.eval (.tmp 37) = .bool false from (fa0_9.at_ 37)) (wp_seq ?_)
  refine wp_region_list ?_
  unfold rOJ1
  refine fa0_9.move 6 (.pointer (some ⟨b, o, none⟩)) _ (Or.inl rfl) rfl (lb_ hsz) (wanted_none rfl) ((fa0_9.at_ 0).trans (ha 0 _ rfl)) (fun a0_10 fa0_10 => ?_)
  clear fa0_9
  have r_a0_11 : (execOp a0_10.eval { dst := some 7, op := Op.fieldAddr 77 (Operand.tmp 4) 0, type := 0, pos := "sheets.go:49", after := #[], guard := none }).run Try.prog (V) = .ok (.value (.pointer (some ⟨w.heap.size, 0, none⟩))) (V) := by
    have e4 := (show a0_10.eval (.tmp 4) = .pointer (some ⟨w.heap.size, 0, none⟩) from (fa0_10.at_ 4))
    clear fa0_10 ha
    generalize a0_10.eval = ρ at *
    go_simp
  refine fa0_10.step 7 (.pointer (some ⟨w.heap.size, 0, none⟩)) rfl (lb_ hsz) (wanted_none rfl) r_a0_11 (fun a0_11 fa0_11 => ?_)
  clear r_a0_11
  clear fa0_10
  have r_a0_12 : (execOp a0_11.eval { dst := some 8, op := Op.fieldAddr 75 (Operand.tmp 7) 1, type := 0, pos := "sheets.go:49", after := #[{ on := 1, ground := Ground.data }], guard := none }).run Try.prog (V) = .ok (.value (.pointer (some ⟨w.heap.size, 1, none⟩))) (V) := by
    have e7 := (show a0_11.eval (.tmp 7) = .pointer (some ⟨w.heap.size, 0, none⟩) from (fa0_11.at_ 7))
    clear fa0_11 ha
    generalize a0_11.eval = ρ at *
    go_simp
  refine fa0_11.step 8 (.pointer (some ⟨w.heap.size, 1, none⟩)) rfl (lb_ hsz) (wanted_none rfl) r_a0_12 (fun a0_12 fa0_12 => ?_)
  clear r_a0_12
  clear fa0_11
  have r_a0_13 : (execOp a0_12.eval { dst := some 9, op := Op.load 59 (Operand.tmp 8), type := 59, pos := "sheets.go:49", after := #[{ on := 2, ground := Ground.data }], guard := none }).run Try.prog (V) = .ok (.value (.int .u32 (x.pg : Int))) (V) := by
    have e8 := (show a0_12.eval (.tmp 8) = .pointer (some ⟨w.heap.size, 1, none⟩) from (fa0_12.at_ 8))
    clear fa0_12 ha
    generalize a0_12.eval = ρ at *
    go_simp
  refine fa0_12.step 9 (.int .u32 (x.pg : Int)) rfl (lb_ hsz) (wanted_none rfl) r_a0_13 (fun a0_13 fa0_13 => ?_)
  clear r_a0_13
  clear fa0_12
  have r_a0_14 : (execOp a0_13.eval { dst := some 10, op := Op.convert 59 3 (Operand.tmp 9), type := 3, pos := "sheets.go:49", after := #[{ on := 3, ground := Ground.data }], guard := none }).run Try.prog (V) = .ok (.value (.int .i64 (x.pg : Int))) (V) := by
    have e9 := (show a0_13.eval (.tmp 9) = .int .u32 (x.pg : Int) from (fa0_13.at_ 9))
    clear fa0_13 ha
    generalize a0_13.eval = ρ at *
    go_simp
  refine fa0_13.step 10 (.int .i64 (x.pg : Int)) rfl (lb_ hsz) (wanted_none rfl) r_a0_14 (fun a0_14 fa0_14 => ?_)
  clear r_a0_14
  clear fa0_13
  have r_a0_15 : (execOp a0_14.eval { dst := some 11, op := Op.binOp BinOp.add 3 (Operand.tmp 10) (Operand.const (Value.int IntKind.i64 1)) 3, type := 3, pos := "sheets.go:49", after := #[{ on := 4, ground := Ground.data }], guard := none }).run Try.prog (V) = .ok (.value (.int .i64 ((x.pg + 1 : Nat) : Int))) (V) := by
    have kc : ∀ v, a0_14.eval (.const v) = v := fun _ => rfl
    have e10 := (show a0_14.eval (.tmp 10) = .int .i64 (x.pg : Int) from (fa0_14.at_ 10))
    clear fa0_14 ha
    generalize a0_14.eval = ρ at *
    go_simp
  refine fa0_14.step 11 (.int .i64 ((x.pg + 1 : Nat) : Int)) rfl (lb_ hsz) (wanted_none rfl) r_a0_15 (fun a0_15 fa0_15 => ?_)
  clear r_a0_15
  clear fa0_14
  have r_a0_16 : (execOp a0_15.eval { dst := some 12, op := Op.call { callee := Callee.value (Operand.func 50), args := #[Operand.tmp 6, Operand.tmp 11], argTypes := #[68, 3] }, type := 0, pos := "sheets.go:49", after := #[{ on := 0, ground := Ground.data }, { on := 5, ground := Ground.data }], guard := none }).run Try.prog (V) = .ok (.enter 50 #[.pointer (some ⟨b, o, none⟩), .int .i64 ((x.pg + 1 : Nat) : Int)]) (V) := by
    have kf : ∀ f, a0_15.eval (.func f) = .func (.func f) #[] #[] := fun _ => rfl
    have e6 := (show a0_15.eval (.tmp 6) = .pointer (some ⟨b, o, none⟩) from (fa0_15.at_ 6))
    have e11 := (show a0_15.eval (.tmp 11) = .int .i64 ((x.pg + 1 : Nat) : Int) from (fa0_15.at_ 11))
    clear fa0_15 ha
    generalize a0_15.eval = ρ at *
    go_simp
  refine fa0_15.call 12 rfl (lb_ hsz) (wanted_none rfl) r_a0_16 (extend_calls (n := x.pg + 1) V hT (heap_fr h sV (fun f => f)) hc0 hc1 (own_frameB ho sV (fun _ _ f => f)) hx.page hpg) (fun e V2 hR => ?_)
  obtain ⟨rfl, hso⟩ := hR
  clear r_a0_16
  obtain ⟨pa2, pc2, g1, g2, g3, g4⟩ := hso
  have hle : l.length ≤ (extP pg l (x.pg + 1)).length := by rw [extP_len]; exact Nat.le_max_left _ _
  obtain ⟨l1, hl1⟩ : ∃ l1, l1 = extP pg l (x.pg + 1) := ⟨_, rfl⟩
  rw [← hl1] at g1 g2 g4 hle
  have hlt : x.pg < l1.length := by rw [hl1, extP_len]; omega
  have hall1 : ∀ s ∈ l1, s.size = pg := by rw [hl1]; exact extP_all hall
  obtain ⟨gp, rfl, hgp⟩ := own_some g2 (by omega)
  obtain ⟨s, hs⟩ : ∃ s, l1[x.pg]? = some s := ⟨_, List.getElem?_eq_getElem hlt⟩
  have hss : s.size = 8 * (pg / 8) := by rw [hall1 s (List.mem_of_getElem? hs)]; exact h8
  have q1 : V2.cell? ⟨b, o + 1, none⟩ = some (.slice (some ⟨gp, 0, none⟩) l1.length pc2) := (cell_of_row _ _ _ _ _ _ g1).trans (by simp [hco])
  have q2 : V2.cell? ⟨gp, x.pg, none⟩ = some (.string s) := own_cell g2 (by unfold scells; rw [List.getElem?_map, hs]; rfl)
  have hb0 : w.heap.size ≠ b := by have := lt_of_heap h; omega
  have hbo : ¬ (Value.slice pa l.length pc).ownBlock = some w.heap.size := fun e => by obtain ⟨_, hcu⟩ := own_cellsB ho e; have := lt_of_heap hcu; omega
  have q3 := (g3.cell (World.block_lt_of_cell? _ _ k1) (fun e => e.elim hb0 hbo)).trans k1
  have q4 := (g3.cell (World.block_lt_of_cell? _ _ k3) (fun e => e.elim hb0 hbo)).trans k3
  have dd : Same V2 V2.drew := (Fr.refl (fun _ => False) V2).drew
  have hpi : (x.pg : Int) < (l1.length : Int) := by omega
  have hle1 := hl1
  have hgb : ¬ gp = b := fun e => own_neT g2 g1 (Ne.symm hT) gp rfl e
  have HLE : Hid (l1 = extP pg l (x.pg + 1)) := hl1
  clear hl1 hle hlt hle1
  refine ⟨_, rfl, fun a0_16 fa0_16 => ?_⟩
  clear fa0_15
  refine wpList_nil ?_
  change Code.wp _ _ _ _ _
  refine wp_region_pop (ops := rOJ2) (ops' := rOJ2p) (F := rOJ2f) (S := fun Z => Same V2 Z) (by kernel_rfl) rfl (by kernel_rfl) rfl (by kernel_rfl) (by kernel_rfl) (by kernel_rfl) (dd) (fun hS16 => ?_)
  refine fa0_16.takeMove 0 13 (.pointer (some ⟨b, o, none⟩)) _ (Or.inl rfl) rfl (by kernel_rfl) (by kernel_rfl) (by kernel_rfl) (fun _ _ _ h => h) rfl (lb_ hsz) (wanted_none rfl) ((fa0_16.at_ 0).trans (ha 0 _ rfl)) hS16 (fun a0_17 fa0_17 => ?_)
  clear fa0_16
  have r_a0_18 : ∀ Z, (fun Z => Same V2 Z) Z → (execOp a0_17.eval { dst := some 14, op := Op.nilCheck (Operand.tmp 13), type := 0, pos := "sheets.go:50", after := #[{ on := 0, ground := Ground.data }], guard := none }).run Try.prog Z = .ok (.value (.pointer (some ⟨b, o, none⟩))) Z := fun Z hZ => by
    have e13 := (show a0_17.eval (.tmp 13) = .pointer (some ⟨b, o, none⟩) from (fa0_17.at_ 13))
    clear fa0_17 ha h8
    generalize a0_17.eval = ρ at *
    go_simp
  refine fa0_17.take 1 14 (.pointer (some ⟨b, o, none⟩)) rfl (by kernel_rfl) (by kernel_rfl) (by kernel_rfl) (fun _ _ _ h => h) rfl (lb_ hsz) (wanted_none rfl) r_a0_18 hS16 (fun a0_18 fa0_18 => ?_)
  clear r_a0_18
  clear fa0_17
  have r_a0_19 : ∀ Z, (fun Z => Same V2 Z) Z → (execOp a0_18.eval { dst := some 15, op := Op.fieldAddr 46 (Operand.tmp 14) 1, type := 0, pos := "sheets.go:50", after := #[{ on := 1, ground := Ground.data }], guard := none }).run Try.prog Z = .ok (.value (.pointer (some ⟨b, o + 1, none⟩))) Z := fun Z hZ => by
    have e14 := (show a0_18.eval (.tmp 14) = .pointer (some ⟨b, o, none⟩) from (fa0_18.at_ 14))
    clear fa0_18 ha h8
    generalize a0_18.eval = ρ at *
    go_simp
  refine fa0_18.take 2 15 (.pointer (some ⟨b, o + 1, none⟩)) rfl (by kernel_rfl) (by kernel_rfl) (by kernel_rfl) (fun _ _ _ h => h) rfl (lb_ hsz) (wanted_none rfl) r_a0_19 hS16 (fun a0_19 fa0_19 => ?_)
  clear r_a0_19
  clear fa0_18
  have r_a0_20 : ∀ Z, (fun Z => Same V2 Z) Z → (execOp a0_19.eval { dst := some 16, op := Op.load 22 (Operand.tmp 15), type := 22, pos := "sheets.go:50", after := #[{ on := 2, ground := Ground.data }], guard := none }).run Try.prog Z = .ok (.value (.slice (some ⟨gp, 0, none⟩) l1.length pc2)) Z := fun Z hZ => by
    have z1 := hZ.keep q1
    have z2 := hZ.keep q2
    have z3 := hZ.keep q3
    have z4 := hZ.keep q4
    have e15 := (show a0_19.eval (.tmp 15) = .pointer (some ⟨b, o + 1, none⟩) from (fa0_19.at_ 15))
    clear fa0_19 ha h8
    generalize a0_19.eval = ρ at *
    go_simp
  refine fa0_19.take 3 16 (.slice (some ⟨gp, 0, none⟩) l1.length pc2) rfl (by kernel_rfl) (by kernel_rfl) (by kernel_rfl) (fun _ _ _ h => h) rfl (lb_ hsz) (wanted_none rfl) r_a0_20 hS16 (fun a0_20 fa0_20 => ?_)
  clear r_a0_20
  clear fa0_19
  have r_a0_21 : ∀ Z, (fun Z => Same V2 Z) Z → (execOp a0_20.eval { dst := some 17, op := Op.fieldAddr 77 (Operand.tmp 4) 0, type := 0, pos := "sheets.go:50", after := #[], guard := none }).run Try.prog Z = .ok (.value (.pointer (some ⟨w.heap.size, 0, none⟩))) Z := fun Z hZ => by
    have e4 := (show a0_20.eval (.tmp 4) = .pointer (some ⟨w.heap.size, 0, none⟩) from (fa0_20.at_ 4))
    clear fa0_20 ha h8
    generalize a0_20.eval = ρ at *
    go_simp
  refine fa0_20.take 4 17 (.pointer (some ⟨w.heap.size, 0, none⟩)) rfl (by kernel_rfl) (by kernel_rfl) (by kernel_rfl) (fun _ _ _ h => h) rfl (lb_ hsz) (wanted_none rfl) r_a0_21 hS16 (fun a0_21 fa0_21 => ?_)
  clear r_a0_21
  clear fa0_20
  have r_a0_22 : ∀ Z, (fun Z => Same V2 Z) Z → (execOp a0_21.eval { dst := some 18, op := Op.fieldAddr 75 (Operand.tmp 17) 1, type := 0, pos := "sheets.go:50", after := #[{ on := 4, ground := Ground.data }], guard := none }).run Try.prog Z = .ok (.value (.pointer (some ⟨w.heap.size, 1, none⟩))) Z := fun Z hZ => by
    have e17 := (show a0_21.eval (.tmp 17) = .pointer (some ⟨w.heap.size, 0, none⟩) from (fa0_21.at_ 17))
    clear fa0_21 ha h8
    generalize a0_21.eval = ρ at *
    go_simp
  refine fa0_21.take 5 18 (.pointer (some ⟨w.heap.size, 1, none⟩)) rfl (by kernel_rfl) (by kernel_rfl) (by kernel_rfl) (fun _ _ _ h => h) rfl (lb_ hsz) (wanted_none rfl) r_a0_22 hS16 (fun a0_22 fa0_22 => ?_)
  clear r_a0_22
  clear fa0_21
  have r_a0_23 : ∀ Z, (fun Z => Same V2 Z) Z → (execOp a0_22.eval { dst := some 19, op := Op.load 59 (Operand.tmp 18), type := 59, pos := "sheets.go:50", after := #[{ on := 5, ground := Ground.data }], guard := none }).run Try.prog Z = .ok (.value (.int .u32 (x.pg : Int))) Z := fun Z hZ => by
    have z1 := hZ.keep q1
    have z2 := hZ.keep q2
    have z3 := hZ.keep q3
    have z4 := hZ.keep q4
    have e18 := (show a0_22.eval (.tmp 18) = .pointer (some ⟨w.heap.size, 1, none⟩) from (fa0_22.at_ 18))
    clear fa0_22 ha h8
    generalize a0_22.eval = ρ at *
    go_simp
  refine fa0_22.take 6 19 (.int .u32 (x.pg : Int)) rfl (by kernel_rfl) (by kernel_rfl) (by kernel_rfl) (fun _ _ _ h => h) rfl (lb_ hsz) (wanted_none rfl) r_a0_23 hS16 (fun a0_23 fa0_23 => ?_)
  clear r_a0_23
  clear fa0_22
  refine fa0_23.takeMove 7 20 (.pointer (some ⟨b, o, none⟩)) _ (Or.inl rfl) rfl (by kernel_rfl) (by kernel_rfl) (by kernel_rfl) (fun _ _ _ h => h) rfl (lb_ hsz) (wanted_none rfl) ((fa0_23.at_ 0).trans (ha 0 _ rfl)) hS16 (fun a0_24 fa0_24 => ?_)
  clear fa0_23
  have r_a0_25 : ∀ Z, (fun Z => Same V2 Z) Z → (execOp a0_24.eval { dst := some 21, op := Op.nilCheck (Operand.tmp 20), type := 0, pos := "sheets.go:50", after := #[{ on := 7, ground := Ground.data }], guard := none }).run Try.prog Z = .ok (.value (.pointer (some ⟨b, o, none⟩))) Z := fun Z hZ => by
    have e20 := (show a0_24.eval (.tmp 20) = .pointer (some ⟨b, o, none⟩) from (fa0_24.at_ 20))
    clear fa0_24 ha h8
    generalize a0_24.eval = ρ at *
    go_simp
  refine fa0_24.take 8 21 (.pointer (some ⟨b, o, none⟩)) rfl (by kernel_rfl) (by kernel_rfl) (by kernel_rfl) (fun _ _ _ h => h) rfl (lb_ hsz) (wanted_none rfl) r_a0_25 hS16 (fun a0_25 fa0_25 => ?_)
  clear r_a0_25
  clear fa0_24
  have r_a0_26 : ∀ Z, (fun Z => Same V2 Z) Z → (execOp a0_25.eval { dst := some 22, op := Op.fieldAddr 46 (Operand.tmp 21) 1, type := 0, pos := "sheets.go:50", after := #[{ on := 8, ground := Ground.data }], guard := none }).run Try.prog Z = .ok (.value (.pointer (some ⟨b, o + 1, none⟩))) Z := fun Z hZ => by
    have e21 := (show a0_25.eval (.tmp 21) = .pointer (some ⟨b, o, none⟩) from (fa0_25.at_ 21))
    clear fa0_25 ha h8
    generalize a0_25.eval = ρ at *
    go_simp
  refine fa0_25.take 9 22 (.pointer (some ⟨b, o + 1, none⟩)) rfl (by kernel_rfl) (by kernel_rfl) (by kernel_rfl) (fun _ _ _ h => h) rfl (lb_ hsz) (wanted_none rfl) r_a0_26 hS16 (fun a0_26 fa0_26 => ?_)
  clear r_a0_26
  clear fa0_25
  have r_a0_27 : ∀ Z, (fun Z => Same V2 Z) Z → (execOp a0_26.eval { dst := some 23, op := Op.load 22 (Operand.tmp 22), type := 22, pos := "sheets.go:50", after := #[{ on := 9, ground := Ground.data }], guard := none }).run Try.prog Z = .ok (.value (.slice (some ⟨gp, 0, none⟩) l1.length pc2)) Z := fun Z hZ => by
    have z1 := hZ.keep q1
    have z2 := hZ.keep q2
    have z3 := hZ.keep q3
    have z4 := hZ.keep q4
    have e22 := (show a0_26.eval (.tmp 22) = .pointer (some ⟨b, o + 1, none⟩) from (fa0_26.at_ 22))
    clear fa0_26 ha h8
    generalize a0_26.eval = ρ at *
    go_simp
  refine fa0_26.take 10 23 (.slice (some ⟨gp, 0, none⟩) l1.length pc2) rfl (by kernel_rfl) (by kernel_rfl) (by kernel_rfl) (fun _ _ _ h => h) rfl (lb_ hsz) (wanted_none rfl) r_a0_27 hS16 (fun a0_27 fa0_27 => ?_)
  clear r_a0_27
  clear fa0_26
  have r_a0_28 : ∀ Z, (fun Z => Same V2 Z) Z → (execOp a0_27.eval { dst := some 24, op := Op.fieldAddr 77 (Operand.tmp 4) 0, type := 0, pos := "sheets.go:50", after := #[], guard := none }).run Try.prog Z = .ok (.value (.pointer (some ⟨w.heap.size, 0, none⟩))) Z := fun Z hZ => by
    have e4 := (show a0_27.eval (.tmp 4) = .pointer (some ⟨w.heap.size, 0, none⟩) from (fa0_27.at_ 4))
    clear fa0_27 ha h8
    generalize a0_27.eval = ρ at *
    go_simp
  refine fa0_27.take 11 24 (.pointer (some ⟨w.heap.size, 0, none⟩)) rfl (by kernel_rfl) (by kernel_rfl) (by kernel_rfl) (fun _ _ _ h => h) rfl (lb_ hsz) (wanted_none rfl) r_a0_28 hS16 (fun a0_28 fa0_28 => ?_)
  clear r_a0_28
  clear fa0_27
  have r_a0_29 : ∀ Z, (fun Z => Same V2 Z) Z → (execOp a0_28.eval { dst := some 25, op := Op.fieldAddr 75 (Operand.tmp 24) 1, type := 0, pos := "sheets.go:50", after := #[{ on := 11, ground := Ground.data }], guard := none }).run Try.prog Z = .ok (.value (.pointer (some ⟨w.heap.size, 1, none⟩))) Z := fun Z hZ => by
    have e24 := (show a0_28.eval (.tmp 24) = .pointer (some ⟨w.heap.size, 0, none⟩) from (fa0_28.at_ 24))
    clear fa0_28 ha h8
    generalize a0_28.eval = ρ at *
    go_simp
  refine fa0_28.take 12 25 (.pointer (some ⟨w.heap.size, 1, none⟩)) rfl (by kernel_rfl) (by kernel_rfl) (by kernel_rfl) (fun _ _ _ h => h) rfl (lb_ hsz) (wanted_none rfl) r_a0_29 hS16 (fun a0_29 fa0_29 => ?_)
  clear r_a0_29
  clear fa0_28
  have r_a0_30 : ∀ Z, (fun Z => Same V2 Z) Z → (execOp a0_29.eval { dst := some 26, op := Op.load 59 (Operand.tmp 25), type := 59, pos := "sheets.go:50", after := #[{ on := 12, ground := Ground.data }], guard := none }).run Try.prog Z = .ok (.value (.int .u32 (x.pg : Int))) Z := fun Z hZ => by
    have z1 := hZ.keep q1
    have z2 := hZ.keep q2
    have z3 := hZ.keep q3
    have z4 := hZ.keep q4
    have e25 := (show a0_29.eval (.tmp 25) = .pointer (some ⟨w.heap.size, 1, none⟩) from (fa0_29.at_ 25))
    clear fa0_29 ha h8
    generalize a0_29.eval = ρ at *
    go_simp
  refine fa0_29.take 13 26 (.int .u32 (x.pg : Int)) rfl (by kernel_rfl) (by kernel_rfl) (by kernel_rfl) (fun _ _ _ h => h) rfl (lb_ hsz) (wanted_none rfl) r_a0_30 hS16 (fun a0_30 fa0_30 => ?_)
  clear r_a0_30
  clear fa0_29
  have r_a0_31 : ∀ Z, (fun Z => Same V2 Z) Z → (execOp a0_30.eval { dst := some 27, op := Op.indexAddr 22 (Operand.tmp 23) (Operand.tmp 26), type := 0, pos := "sheets.go:50", after := #[{ on := 10, ground := Ground.data }, { on := 13, ground := Ground.data }], guard := none }).run Try.prog Z = .ok (.value (.pointer (some ⟨gp, x.pg, none⟩))) Z := fun Z hZ => by
    have e23 := (show a0_30.eval (.tmp 23) = .slice (some ⟨gp, 0, none⟩) l1.length pc2 from (fa0_30.at_ 23))
    have e26 := (show a0_30.eval (.tmp 26) = .int .u32 (x.pg : Int) from (fa0_30.at_ 26))
    clear fa0_30 ha h8
    generalize a0_30.eval = ρ at *
    go_simp
  refine fa0_30.take 14 27 (.pointer (some ⟨gp, x.pg, none⟩)) rfl (by kernel_rfl) (by kernel_rfl) (by kernel_rfl) (fun _ _ _ h => h) rfl (lb_ hsz) (wanted_none rfl) r_a0_31 hS16 (fun a0_31 fa0_31 => ?_)
  clear r_a0_31
  clear fa0_30
  have r_a0_32 : ∀ Z, (fun Z => Same V2 Z) Z → (execOp a0_31.eval { dst := some 28, op := Op.load 9 (Operand.tmp 27), type := 9, pos := "sheets.go:50", after := #[{ on := 14, ground := Ground.data }], guard := none }).run Try.prog Z = .ok (.value (.string s)) Z := fun Z hZ => by
    have z1 := hZ.keep q1
    have z2 := hZ.keep q2
    have z3 := hZ.keep q3
    have z4 := hZ.keep q4
    have e27 := (show a0_31.eval (.tmp 27) = .pointer (some ⟨gp, x.pg, none⟩) from (fa0_31.at_ 27))
    clear fa0_31 ha h8
    generalize a0_31.eval = ρ at *
    go_simp
  refine fa0_31.take 15 28 (.string s) rfl (by kernel_rfl) (by kernel_rfl) (by kernel_rfl) (fun _ _ _ h => h) rfl (lb_ hsz) (wanted_none rfl) r_a0_32 hS16 (fun a0_32 fa0_32 => ?_)
  clear r_a0_32
  clear fa0_31
  have r_a0_33 : ∀ Z, (fun Z => Same V2 Z) Z → (execOp a0_32.eval { dst := some 29, op := Op.fieldAddr 77 (Operand.tmp 4) 1, type := 0, pos := "sheets.go:50", after := #[], guard := none }).run Try.prog Z = .ok (.value (.pointer (some ⟨w.heap.size, 3, none⟩))) Z := fun Z hZ => by
    have e4 := (show a0_32.eval (.tmp 4) = .pointer (some ⟨w.heap.size, 0, none⟩) from (fa0_32.at_ 4))
    clear fa0_32 ha h8
    generalize a0_32.eval = ρ at *
    go_simp
  refine fa0_32.take 16 29 (.pointer (some ⟨w.heap.size, 3, none⟩)) rfl (by kernel_rfl) (by kernel_rfl) (by kernel_rfl) (fun _ _ _ h => h) rfl (lb_ hsz) (wanted_none rfl) r_a0_33 hS16 (fun a0_33 fa0_33 => ?_)
  clear r_a0_33
  clear fa0_32
  have r_a0_34 : ∀ Z, (fun Z => Same V2 Z) Z → (execOp a0_33.eval { dst := some 30, op := Op.load 9 (Operand.tmp 29), type := 9, pos := "sheets.go:50", after := #[{ on := 16, ground := Ground.data }], guard := none }).run Try.prog Z = .ok (.value (.string x.data)) Z := fun Z hZ => by
    have z1 := hZ.keep q1
    have z2 := hZ.keep q2
    have z3 := hZ.keep q3
    have z4 := hZ.keep q4
    have e29 := (show a0_33.eval (.tmp 29) = .pointer (some ⟨w.heap.size, 3, none⟩) from (fa0_33.at_ 29))
    clear fa0_33 ha h8
    generalize a0_33.eval = ρ at *
    go_simp
  refine fa0_33.take 17 30 (.string x.data) rfl (by kernel_rfl) (by kernel_rfl) (by kernel_rfl) (fun _ _ _ h => h) rfl (lb_ hsz) (wanted_none rfl) r_a0_34 hS16 (fun a0_34 fa0_34 => ?_)
  clear r_a0_34
  clear fa0_33
  refine fa0_34.takeMove 18 31 (.int .u8 (m : Int)) _ (Or.inl rfl) rfl (by kernel_rfl) (by kernel_rfl) (by kernel_rfl) (fun _ _ _ h => h) rfl (lb_ hsz) (wanted_none rfl) ((fa0_34.at_ 2).trans (ha 2 _ rfl)) hS16 (fun a0_35 fa0_35 => ?_)
  clear fa0_34
  have r_a0_36 : (execOp a0_35.eval { dst := some 32, op := Op.call { callee := Callee.value (Operand.func 51), args := #[Operand.tmp 28, Operand.tmp 30, Operand.tmp 31], argTypes := #[9, 9, 66] }, type := 9, pos := "sheets.go:50", after := #[{ on := 15, ground := Ground.data }, { on := 17, ground := Ground.data }, { on := 18, ground := Ground.data }], guard := none }).run Try.prog (V2.drew) = .ok (.enter 51 #[.string s, .string x.data, .int .u8 (m : Int)]) (V2.drew) := by
    have kf : ∀ f, a0_35.eval (.func f) = .func (.func f) #[] #[] := fun _ => rfl
    have e28 := (show a0_35.eval (.tmp 28) = .string s from (fa0_35.at_ 28))
    have e30 := (show a0_35.eval (.tmp 30) = .string x.data from (fa0_35.at_ 30))
    have e31 := (show a0_35.eval (.tmp 31) = .int .u8 (m : Int) from (fa0_35.at_ 31))
    clear fa0_35 ha h8
    generalize a0_35.eval = ρ at *
    go_simp
  refine fa0_35.oneCall 19 32 (by kernel_rfl) rfl rfl (lb_ hsz) (wanted_none rfl) r_a0_36 (overlaid_calls (sc := pg / 8) V2.drew hss hdd hsc hsc0) (fun e V3 hR => ?_)
  obtain ⟨rfl, s3⟩ := hR
  clear r_a0_36
  have q5 : V3.cell? ⟨gp, x.pg, none⟩ = some (.string s) := s3.keep (dd.keep q2)
  have q6 : V3.frozen? ⟨gp, x.pg, none⟩ = false := own_frozenN (own_frameB g2 (dd.trans s3) (fun _ _ f => f))
  have hS36 : (fun Z => Same V2 Z) V3 := (dd.trans s3)
  refine ⟨_, rfl, hS36, fun a0_36 fa0_36 => ?_⟩
  clear fa0_35
  have r_a0_37 : ∀ Z, (fun Z => Same V2 Z) Z → (execOp a0_36.eval { dst := some 33, op := Op.indexAddr 22 (Operand.tmp 16) (Operand.tmp 19), type := 0, pos := "sheets.go:50", after := #[{ on := 3, ground := Ground.data }, { on := 6, ground := Ground.data }, { on := 0, ground := Ground.phase }, { on := 1, ground := Ground.phase }, { on := 2, ground := Ground.phase }, { on := 3, ground := Ground.phase }, { on := 4, ground := Ground.phase }, { on := 5, ground := Ground.phase }, { on := 6, ground := Ground.phase }, { on := 7, ground := Ground.phase }, { on := 8, ground := Ground.phase }, { on := 9, ground := Ground.phase }, { on := 10, ground := Ground.phase }, { on := 11, ground := Ground.phase }, { on := 12, ground := Ground.phase }, { on := 13, ground := Ground.phase }, { on := 14, ground := Ground.phase }, { on := 15, ground := Ground.phase }, { on := 16, ground := Ground.phase }, { on := 17, ground := Ground.phase }, { on := 18, ground := Ground.phase }, { on := 19, ground := Ground.phase }], guard := none }).run Try.prog Z = .ok (.value (.pointer (some ⟨gp, x.pg, none⟩))) Z := fun Z hZ => by
    have e16 := (show a0_36.eval (.tmp 16) = .slice (some ⟨gp, 0, none⟩) l1.length pc2 from (fa0_36.at_ 16))
    have e19 := (show a0_36.eval (.tmp 19) = .int .u32 (x.pg : Int) from (fa0_36.at_ 19))
    clear fa0_36 ha h8
    generalize a0_36.eval = ρ at *
    go_simp
  refine fa0_36.take 20 33 (.pointer (some ⟨gp, x.pg, none⟩)) rfl (by kernel_rfl) (by kernel_rfl) (by kernel_rfl) (fun _ _ _ h => h) rfl (lb_ hsz) (wanted_none rfl) r_a0_37 hS36 (fun a0_37 fa0_37 => ?_)
  clear r_a0_37
  clear fa0_36
  have r_a0_38 : (execOp a0_37.eval rOJ2f).run Try.prog (V3) = .ok .skip (World.setCell V3 ⟨gp, x.pg, none⟩ (.string (ovlS (pg / 8) s x.data m))) := by
    unfold rOJ2f
    have e33 := (show a0_37.eval (.tmp 33) = .pointer (some ⟨gp, x.pg, none⟩) from (fa0_37.at_ 33))
    have e32 := (show a0_37.eval (.tmp 32) = .string (ovlS (pg / 8) s x.data m) from (fa0_37.at_ 32))
    clear fa0_37 ha h8
    generalize a0_37.eval = ρ at *
    go_simp
  refine wpAnyH_done (by kernel_rfl) ?_ _
  refine fa0_37.last rfl r_a0_38 (fun a0_38 fa0_38 => ?_)
  clear r_a0_38 fa0_37
  have f9 : Fr (fun k => k = gp) V3 (V3.setCell ⟨gp, x.pg, none⟩ (.string (ovlS (pg / 8) s x.data m))) := Fr.setCell (S := fun k => k = gp) (Fr.refl _ V3) (p := ⟨gp, x.pg, none⟩) (fun _ => rfl) _
  have s23 : Same V2 V3 := dd.trans s3
  simp only [Exit.inBlock]
  refine end_none rfl (fa0_38.defers.trans hd) ⟨rfl, ?_⟩
  have hcp : comeP pg l x m = l1.set x.pg (ovlS (pg / 8) s x.data m) := by unfold comeP; rw [if_neg hm, if_neg ha2, ← HLE.out, hs]; rfl
  rw [hcp]
  have hlen : (l1.set x.pg (ovlS (pg / 8) s x.data m)).length = l1.length := List.length_set
  refine ⟨some ⟨gp, 0, none⟩, pc2, ?_, ?_, ?_, ?_⟩
  · rw [hlen]; exact (f9.block b (lt_of_heap (heap_fr g1 s23 (fun f => f))) (fun e => hgb e.symm)).trans (heap_fr g1 s23 (fun f => f))
  · rw [hlen, show scells (l1.set x.pg (ovlS (pg / 8) s x.data m)) = (scells l1).set x.pg (.string (ovlS (pg / 8) s x.data m)) from by unfold scells; rw [List.map_set]]; exact own_setN (own_frameB g2 s23 (fun _ _ f => f)) _
  · exact Fr.trans (Fr.trans (Fr.trans (sV.mono (fun _ _ f => f.elim)) g3 (fun _ _ e => e)) s23 (fun _ _ f => f.elim)) f9 (fun k hk e => by have e2 : k = gp := e; subst e2; exact Or.inr ((g4 k rfl).resolve_right (by have := sV.size; omega)))
  · rw [hlen]; intro k hk; exact (g4 k hk).imp id (fun e => Nat.le_trans sV.size e)
theorem come_calls {b o pc pg m : Nat} {pa : Option Addr} {l : List ByteArray} {cs : Array Value} {T : TypeId} {x : Wt} (w : World) (hT : T ≠ 9) (h : w.heap[b]? = some (.cells cs T (0, 0))) (hc0 : cs[o]? = some (.int .i64 (pg : Int))) (hc1 : cs[o + 1]? = some (.slice pa l.length pc)) (ho : w.ownsRow 0 9 1 (.slice pa l.length pc) l.length (scells l)) (hx : WtOk pg x) (hpg : pg ≤ 8192) (h8 : pg = 8 * (pg / 8)) (hpg0 : 0 < pg) (hall : ∀ s ∈ l, s.size = pg) :
    Calls Try.prog 45 #[.pointer (some ⟨b, o, none⟩), .agg #[.int .u8 (x.act : Int), .int .u32 (x.pg : Int), .int .i64 (x.pages : Int), .string x.data], .int .u8 (m : Int)] w fun e w' => e = .returned (.tuple #[]) ∧ ShOut w w' b o pa l.length pc cs T (comeP pg l x m) := by
  by_cases hm : m = 0
  · exact come_none w h hc1 ho hm
  · by_cases ha2 : x.act = 2
    · exact come_grow w hT h hc0 hc1 ho hx hpg hm ha2
    · exact come_write w hT h hc0 hc1 ho hx hpg h8 hpg0 hall hm ha2
end Go.Proofs.Ytljlkcmjbjnihaa
