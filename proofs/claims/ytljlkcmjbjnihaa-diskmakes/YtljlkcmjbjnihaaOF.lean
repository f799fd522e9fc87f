/- disk: Image; New; count where no arm is; Fork. -/
import Derived.Test.YtljlkcmjbjnihaaOE
namespace Go.Proofs.Ytljlkcmjbjnihaa
open Go.RowKit

set_option maxRecDepth 100000 in
theorem indexStrs_none {pa : Option Addr} {c : Nat} {f : Value} (w : World) :
    Calls Try.prog 34 #[.slice pa 0 c, f] w fun e w' => e = .returned (.int .i64 (-1)) ∧ w' = w := by
  go_enter Try.func34, Try.ntmps34
  go_wp2_with fail
  refine wp_loop_rounds 1 ?_
  rw [rounds_succ]
  go_wp2_with fail
  go_ret
  exact ⟨rfl, rfl⟩
set_option maxRecDepth 100000 in
theorem indexArms_none {pa : Option Addr} {c : Nat} {f : Value} (w : World) :
    Calls Try.prog 47 #[.slice pa 0 c, f] w fun e w' => e = .returned (.int .i64 (-1)) ∧ w' = w := by
  go_enter Try.func47, Try.ntmps47
  go_wp2_with fail
  refine wp_loop_rounds 1 ?_
  rw [rounds_succ]
  go_wp2_with fail
  go_ret
  exact ⟨rfl, rfl⟩
set_option maxRecDepth 100000 in
theorem containsStrs_none {pa : Option Addr} {c : Nat} {f : Value} (w : World) :
    Calls Try.prog 14 #[.slice pa 0 c, f] w fun e w' => e = .returned (.bool false) ∧ w' = w := by
  have hI := indexStrs_none (pa := pa) (c := c) (f := f) w
  go_enter Try.func14, Try.ntmps14
  go_wp2_with fail
  refine hI.mono ?_
  rintro e w' ⟨rfl, hw⟩
  rw [hw]
  go_wp2_with fail
  go_ret
  exact ⟨rfl, rfl⟩
set_option maxRecDepth 100000 in
theorem pageSize_calls {n : Int} (w : World) (h : n = 1024 ∨ n = 2048 ∨ n = 4096 ∨ n = 8192) :
    Calls Try.prog 12 #[.int .i64 n] w fun e w' => e = .returned (.bool true) ∧ w' = w := by
  rcases h with rfl | rfl | rfl | rfl <;>
  · go_enter Try.func12, Try.ntmps12
    go_wp2_with fail
    go_ret
    exact ⟨rfl, rfl⟩
theorem field_sheets (W : World) (x v : Value) (ao : Option Addr) (n c : Nat) (hx : v = .slice ao n c) : (Instr.field 46 (.agg #[x, v]) 1).run Try.prog W = .ok v W := by subst hx; kernel_rfl
set_option maxRecDepth 100000 in
theorem dimage_calls {b : Nat} {D : Dk} {S : Nat → Prop} (w : World) (h : DkAt w b D S) (hp : 0 < D.page) (hl : D.I.length ≤ 1048576) :
    Calls Try.prog 9 #[.pointer (some ⟨b, 0, none⟩)] w fun e w' => ∃ ao c, e = .returned (.slice ao D.I.length c) ∧ w'.ownsRow w.heap.size 9 1 (.slice ao D.I.length c) D.I.length (scells D.I) ∧ Same w w' := by
  obtain ⟨h1, _⟩ := h.cells
  have hT := there_core w h1 (by omega)
  obtain ⟨ia, ic, c2, c3, ho⟩ := h.rowI
  obtain ⟨pb, hr⟩ := trow_own ho
  have hC := sclone_calls (o := 2) w c2 c3 hr hl
  have hF := fun (W : World) (ao : Option Addr) (c : Nat) => field_sheets W (.int .i64 (D.page : Int)) _ ao D.I.length c rfl
  clear h h1 c2 c3 ho hr
  go_enter Try.func9, Try.ntmps9
  go_wp2_with fail
  refine hT.mono ?_
  rintro e w' ⟨rfl, hw⟩
  rw [hw]
  go_wp2_with fail
  refine hC.mono ?_
  rintro e W1 ⟨ao, c, rfl, o1, s1⟩
  have HO : Hid (W1.ownsRow w.heap.size 9 1 (.slice ao D.I.length c) D.I.length (scells D.I) ∧ Same w W1) := ⟨o1, s1⟩
  clear o1 s1 hT hC
  go_wp2_with fail
  go_ret
  exact ⟨ao, c, rfl, HO.out⟩
set_option maxRecDepth 100000 in
theorem count_none {b : Nat} {D : Dk} {S : Nat → Prop} {act : Int} (w : World) (h : DkAt w b D S) :
    Calls Try.prog 40 #[.pointer (some ⟨b, 0, none⟩), .int .u8 act] w fun e w' => e = .returned (.tuple #[.agg #[.int .u8 0, .int .i64 0, .bool false, .slice none 0 0], .bool false]) ∧ Same w w' := by
  obtain ⟨aa, ac, c7⟩ := h.rowA
  have sV : Same w (w.alloc (.cells #[.int .u8 0, .int .i64 0, .bool false, .slice none 0 0] 82)) := (Fr.refl _ w).alloc _
  have HR : Hid ((w.alloc (.cells #[.int .u8 0, .int .i64 0, .bool false, .slice none 0 0] 82)).heap[w.heap.size]? = some (.cells #[.int .u8 0, .int .i64 0, .bool false, .slice none 0 0] 82 (0, 0))) := heap_alloc_new w _
  have HS : Hid (Same w (w.alloc (.cells #[.int .u8 0, .int .i64 0, .bool false, .slice none 0 0] 82))) := sV
  have g7 := sV.keep c7
  have HI : Hid (∀ f W, Calls Try.prog 47 #[.slice aa 0 ac, f] W fun e w' => e = .returned (.int .i64 (-1)) ∧ w' = W) := fun f W => indexArms_none W
  clear h c7 sV
  go_enter Try.func40, Try.ntmps40
  go_wp2_with fail
  generalize w.alloc (.cells #[.int .u8 0, .int .i64 0, .bool false, .slice none 0 0] 82) = V at *
  refine wp_loop_rounds 1 ?_
  rw [rounds_succ]
  go_wp2_with fail
  refine (HI.out _ V).mono ?_
  rintro e w' ⟨rfl, hw⟩
  rw [hw]
  go_wp2_with (refine wpList_store_whole (by rfl) 82 _ _ (by rfl) w.heap.size #[.int .u8 0, .int .i64 0, .bool false, .slice none 0 0] _ 82 (by rfl) (by rfl) HR.out rfl (by kernel_rfl) (by kernel_rfl) ?_; intro W7 r7 f7)
  go_wp2_with fail
  refine bodyPost_ret (results_row_tmp1 rfl _ _ _ _ _ _ _ rfl r7 Try.underlying82 rfl (by kernel_rfl)) rfl ?_
  exact ⟨rfl, Fr.trans HS.out f7 (fun k hk e => by omega)⟩
def rOF0 : Array Oper := #[{ dst := some 2, op := Op.assign (Operand.const (Value.pointer none)), type := 27, pos := "disk.go:116", after := #[], guard := none }]
def rOF1 : Array Oper := #[{ dst := some 4, op := Op.move (Operand.tmp 0), type := 27, pos := "disk.go:117", after := #[], guard := none },
  { dst := some 5, op := Op.call { callee := Callee.value (Operand.func 25), args := #[Operand.tmp 4], argTypes := #[27] }, type := 4, pos := "disk.go:117", after := #[{ on := 0, ground := Ground.data }], guard := none },
  { dst := some 6, op := Op.unOp UnOp.not 4 (Operand.tmp 5), type := 4, pos := "disk.go:117", after := #[{ on := 1, ground := Ground.data }], guard := none }]
def rOF2 : Array Oper := #[{ dst := some 2, op := Op.assign (Operand.const (Value.pointer none)), type := 27, pos := "disk.go:118", after := #[], guard := none }]
def rOF3 : Array Oper := #[{ dst := some 7, op := Op.move (Operand.tmp 0), type := 27, pos := "disk.go:120", after := #[], guard := none },
  { dst := some 8, op := Op.nilCheck (Operand.tmp 7), type := 0, pos := "disk.go:120", after := #[{ on := 0, ground := Ground.data }], guard := none },
  { dst := some 9, op := Op.load 51 (Operand.tmp 8), type := 51, pos := "disk.go:120", after := #[{ on := 1, ground := Ground.data }], guard := none },
  { dst := some 3, op := Op.alloc 51, type := 0, pos := "disk.go:120", after := #[], guard := none },
  { dst := none, op := Op.store 51 (Operand.tmp 3) (Operand.tmp 9), type := 0, pos := "disk.go:120", after := #[{ on := 3, ground := Ground.data }, { on := 2, ground := Ground.data }, { on := 0, ground := Ground.phase }, { on := 1, ground := Ground.phase }, { on := 2, ground := Ground.phase }, { on := 3, ground := Ground.phase }], guard := none }]
def rOF4 : Array Oper := #[{ dst := some 10, op := Op.move (Operand.tmp 0), type := 27, pos := "disk.go:121", after := #[], guard := none },
  { dst := some 11, op := Op.nilCheck (Operand.tmp 10), type := 0, pos := "disk.go:121", after := #[{ on := 0, ground := Ground.data }], guard := none },
  { dst := some 12, op := Op.fieldAddr 51 (Operand.tmp 11) 0, type := 0, pos := "disk.go:121", after := #[{ on := 1, ground := Ground.data }], guard := none },
  { dst := some 13, op := Op.call { callee := Callee.value (Operand.func 15), args := #[Operand.tmp 12], argTypes := #[46] }, type := 46, pos := "disk.go:121", after := #[{ on := 2, ground := Ground.data }], guard := none },
  { dst := some 14, op := Op.fieldAddr 51 (Operand.tmp 3) 0, type := 0, pos := "disk.go:121", after := #[{ on := 0, ground := Ground.phase }, { on := 1, ground := Ground.phase }, { on := 2, ground := Ground.phase }, { on := 3, ground := Ground.phase }], guard := none },
  { dst := none, op := Op.store 46 (Operand.tmp 14) (Operand.tmp 13), type := 0, pos := "disk.go:121", after := #[{ on := 4, ground := Ground.data }, { on := 3, ground := Ground.data }, { on := 3, ground := Ground.chain }, { on := 0, ground := Ground.phase }, { on := 1, ground := Ground.phase }, { on := 2, ground := Ground.phase }, { on := 3, ground := Ground.phase }], guard := none }]
def rOF5 : Array Oper := #[{ dst := some 15, op := Op.move (Operand.tmp 0), type := 27, pos := "disk.go:122", after := #[], guard := none },
  { dst := some 16, op := Op.nilCheck (Operand.tmp 15), type := 0, pos := "disk.go:122", after := #[{ on := 0, ground := Ground.data }], guard := none },
  { dst := some 17, op := Op.fieldAddr 51 (Operand.tmp 16) 1, type := 0, pos := "disk.go:122", after := #[{ on := 1, ground := Ground.data }], guard := none },
  { dst := some 18, op := Op.call { callee := Callee.value (Operand.func 15), args := #[Operand.tmp 17], argTypes := #[46] }, type := 46, pos := "disk.go:122", after := #[{ on := 2, ground := Ground.data }], guard := none },
  { dst := some 19, op := Op.fieldAddr 51 (Operand.tmp 3) 1, type := 0, pos := "disk.go:122", after := #[{ on := 0, ground := Ground.phase }, { on := 1, ground := Ground.phase }, { on := 2, ground := Ground.phase }, { on := 3, ground := Ground.phase }], guard := none },
  { dst := none, op := Op.store 46 (Operand.tmp 19) (Operand.tmp 18), type := 0, pos := "disk.go:122", after := #[{ on := 4, ground := Ground.data }, { on := 3, ground := Ground.data }, { on := 3, ground := Ground.chain }, { on := 0, ground := Ground.phase }, { on := 1, ground := Ground.phase }, { on := 2, ground := Ground.phase }, { on := 3, ground := Ground.phase }], guard := none }]
def rOF8 : Array Oper := #[{ dst := some 2, op := Op.assign (Operand.tmp 3), type := 27, pos := "disk.go:125", after := #[], guard := none }]
end Go.Proofs.Ytljlkcmjbjnihaa
