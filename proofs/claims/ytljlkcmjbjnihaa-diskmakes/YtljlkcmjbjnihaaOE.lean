/- disk: copies of sheets; Image; Fork. -/
import Derived.Test.YtljlkcmjbjnihaaOC
import Derived.Test.YtljlkcmjbjnihaaOD
namespace Go.Proofs.Ytljlkcmjbjnihaa
open Go.RowKit

def rOE0 : Array Oper := #[{ dst := some 2, op := Op.alloc 46, type := 0, pos := "sheets.go:31", after := #[], guard := none }]
def rOE1 : Array Oper := #[{ dst := some 3, op := Op.move (Operand.tmp 0), type := 68, pos := "sheets.go:31", after := #[], guard := none },
  { dst := some 4, op := Op.nilCheck (Operand.tmp 3), type := 0, pos := "sheets.go:31", after := #[{ on := 0, ground := Ground.data }], guard := none },
  { dst := some 5, op := Op.fieldAddr 46 (Operand.tmp 4) 0, type := 0, pos := "sheets.go:31", after := #[{ on := 1, ground := Ground.data }], guard := none },
  { dst := some 6, op := Op.load 3 (Operand.tmp 5), type := 3, pos := "sheets.go:31", after := #[{ on := 2, ground := Ground.data }], guard := none },
  { dst := some 7, op := Op.move (Operand.tmp 0), type := 68, pos := "sheets.go:31", after := #[], guard := none },
  { dst := some 8, op := Op.nilCheck (Operand.tmp 7), type := 0, pos := "sheets.go:31", after := #[{ on := 4, ground := Ground.data }], guard := none },
  { dst := some 9, op := Op.fieldAddr 46 (Operand.tmp 8) 1, type := 0, pos := "sheets.go:31", after := #[{ on := 5, ground := Ground.data }], guard := none },
  { dst := some 10, op := Op.load 22 (Operand.tmp 9), type := 22, pos := "sheets.go:31", after := #[{ on := 6, ground := Ground.data }], guard := none },
  { dst := some 11, op := Op.call { callee := Callee.value (Operand.func 35), args := #[Operand.tmp 10], argTypes := #[22] }, type := 22, pos := "sheets.go:31", after := #[{ on := 7, ground := Ground.data }], guard := none },
  { dst := some 12, op := Op.build 46 #[(0, Operand.tmp 6), (1, Operand.tmp 11)], type := 46, pos := "sheets.go:31", after := #[{ on := 3, ground := Ground.data }, { on := 8, ground := Ground.data }], guard := none },
  { dst := none, op := Op.store 46 (Operand.tmp 2) (Operand.tmp 12), type := 0, pos := "sheets.go:31", after := #[{ on := 9, ground := Ground.data }, { on := 8, ground := Ground.chain }, { on := 0, ground := Ground.phase }, { on := 1, ground := Ground.phase }, { on := 2, ground := Ground.phase }, { on := 3, ground := Ground.phase }, { on := 4, ground := Ground.phase }, { on := 5, ground := Ground.phase }, { on := 6, ground := Ground.phase }, { on := 7, ground := Ground.phase }, { on := 8, ground := Ground.phase }, { on := 9, ground := Ground.phase }], guard := none }]
def cOE : Code := (Code.seq (Code.region 0 rOE0 false) (Code.seq (Code.region 1 rOE1 true) Code.ret))
set_option maxRecDepth 100000 in
set_option maxHeartbeats 1000000 in
theorem sclone_calls {b o pc pb po : Nat} {pg : Int} {pa : Option Addr} {l : List ByteArray} (w : World) (c0 : w.cell? ⟨b, o, none⟩ = some (.int .i64 pg)) (c1 : w.cell? ⟨b, o + 1, none⟩ = some (.slice pa l.length pc)) (hr : TRow w pa pb po l) (hl : l.length ≤ 1048576) :
    Calls Try.prog 15 #[.pointer (some ⟨b, o, none⟩)] w fun e w' => ∃ ao c, e = .returned (.agg #[.int .i64 pg, .slice ao l.length c]) ∧ w'.ownsRow w.heap.size 9 1 (.slice ao l.length c) l.length (scells l) ∧ Same w w' := by
  have hb0 : b ≠ w.heap.size := by have := World.block_lt_of_cell? _ _ c0; simp only at this; omega
  refine calls_abs (c := cOE) Try.func15 (by kernel_rfl) 13 rfl (by simp) (fun a0 hsz hd ha => ?_)
  have fa0_0 := Fe.refl a0
  unfold cOE
  refine wp_seq ?_
  refine wp_region_list ?_
  unfold rOE0
  have r_a0_1 : (execOp a0.eval { dst := some 2, op := Op.alloc 46, type := 0, pos := "sheets.go:31", after := #[], guard := none }).run Try.prog (w) = .ok (.value (.pointer (some ⟨w.heap.size, 0, none⟩))) (w.alloc (.cells #[.int .i64 0, .slice none 0 0] 46)) := by
    clear fa0_0 ha
    generalize a0.eval = ρ at *
    go_simp
  refine fa0_0.stepW 2 (.pointer (some ⟨w.heap.size, 0, none⟩)) rfl (lb_ hsz) (wanted_none rfl) r_a0_1 (fun a0_1 fa0_1 => ?_)
  clear r_a0_1
  clear fa0_0
  refine wpList_nil ?_
  obtain ⟨V, hV⟩ : ∃ V, V = w.alloc (.cells #[.int .i64 0, .slice none 0 0] 46) := ⟨_, rfl⟩
  rw [← hV]
  have sV : Same w V := by rw [hV]; exact (Fr.refl _ w).alloc _
  have hVr : V.heap[w.heap.size]? = some (.cells #[.int .i64 0, .slice none 0 0] 46 (0, 0)) := by rw [hV]; exact heap_alloc_new w _
  clear hV
  have d0 := sV.keep c0
  have d1 := sV.keep c1
  have dd : Same V V.drew := (Fr.refl (fun _ => False) V).drew
  change Code.wp _ _ _ _ _
  refine wp_seq ?_
  refine wp_region_held_drew (ops := rOE1) (S := fun Z => Z.cell? ⟨b, o, none⟩ = some (.int .i64 pg) ∧ Z.cell? ⟨b, o + 1, none⟩ = some (.slice pa l.length pc)) (by kernel_rfl) (⟨dd.keep d0, dd.keep d1⟩) (fun hS1 => ?_)
  refine fa0_1.takeMove 0 3 (.pointer (some ⟨b, o, none⟩)) _ (Or.inl rfl) rfl (by kernel_rfl) (by kernel_rfl) (by kernel_rfl) (fun _ _ _ h => h) rfl (lb_ hsz) (wanted_none rfl) ((fa0_1.at_ 0).trans (ha 0 _ rfl)) hS1 (fun a0_2 fa0_2 => ?_)
  clear fa0_1
  have r_a0_3 : ∀ Z, (fun Z => Z.cell? ⟨b, o, none⟩ = some (.int .i64 pg) ∧ Z.cell? ⟨b, o + 1, none⟩ = some (.slice pa l.length pc)) Z → (execOp a0_2.eval { dst := some 4, op := Op.nilCheck (Operand.tmp 3), type := 0, pos := "sheets.go:31", after := #[{ on := 0, ground := Ground.data }], guard := none }).run Try.prog Z = .ok (.value (.pointer (some ⟨b, o, none⟩))) Z := fun Z hZ => by
    have e3 := (show a0_2.eval (.tmp 3) = .pointer (some ⟨b, o, none⟩) from (fa0_2.at_ 3))
    clear fa0_2 ha
    generalize a0_2.eval = ρ at *
    go_simp
  refine fa0_2.take 1 4 (.pointer (some ⟨b, o, none⟩)) rfl (by kernel_rfl) (by kernel_rfl) (by kernel_rfl) (fun _ _ _ h => h) rfl (lb_ hsz) (wanted_none rfl) r_a0_3 hS1 (fun a0_3 fa0_3 => ?_)
  clear r_a0_3
  clear fa0_2
  have r_a0_4 : ∀ Z, (fun Z => Z.cell? ⟨b, o, none⟩ = some (.int .i64 pg) ∧ Z.cell? ⟨b, o + 1, none⟩ = some (.slice pa l.length pc)) Z → (execOp a0_3.eval { dst := some 5, op := Op.fieldAddr 46 (Operand.tmp 4) 0, type := 0, pos := "sheets.go:31", after := #[{ on := 1, ground := Ground.data }], guard := none }).run Try.prog Z = .ok (.value (.pointer (some ⟨b, o, none⟩))) Z := fun Z hZ => by
    have e4 := (show a0_3.eval (.tmp 4) = .pointer (some ⟨b, o, none⟩) from (fa0_3.at_ 4))
    clear fa0_3 ha
    generalize a0_3.eval = ρ at *
    go_simp
  refine fa0_3.take 2 5 (.pointer (some ⟨b, o, none⟩)) rfl (by kernel_rfl) (by kernel_rfl) (by kernel_rfl) (fun _ _ _ h => h) rfl (lb_ hsz) (wanted_none rfl) r_a0_4 hS1 (fun a0_4 fa0_4 => ?_)
  clear r_a0_4
  clear fa0_3
  have r_a0_5 : ∀ Z, (fun Z => Z.cell? ⟨b, o, none⟩ = some (.int .i64 pg) ∧ Z.cell? ⟨b, o + 1, none⟩ = some (.slice pa l.length pc)) Z → (execOp a0_4.eval { dst := some 6, op := Op.load 3 (Operand.tmp 5), type := 3, pos := "sheets.go:31", after := #[{ on := 2, ground := Ground.data }], guard := none }).run Try.prog Z = .ok (.value (.int .i64 pg)) Z := fun Z hZ => by
    obtain ⟨z0, z1⟩ := hZ
    have e5 := (show a0_4.eval (.tmp 5) = .pointer (some ⟨b, o, none⟩) from (fa0_4.at_ 5))
    clear fa0_4 ha
    generalize a0_4.eval = ρ at *
    go_simp
  refine fa0_4.take 3 6 (.int .i64 pg) rfl (by kernel_rfl) (by kernel_rfl) (by kernel_rfl) (fun _ _ _ h => h) rfl (lb_ hsz) (wanted_none rfl) r_a0_5 hS1 (fun a0_5 fa0_5 => ?_)
  clear r_a0_5
  clear fa0_4
  refine fa0_5.takeMove 4 7 (.pointer (some ⟨b, o, none⟩)) _ (Or.inl rfl) rfl (by kernel_rfl) (by kernel_rfl) (by kernel_rfl) (fun _ _ _ h => h) rfl (lb_ hsz) (wanted_none rfl) ((fa0_5.at_ 0).trans (ha 0 _ rfl)) hS1 (fun a0_6 fa0_6 => ?_)
  clear fa0_5
  have r_a0_7 : ∀ Z, (fun Z => Z.cell? ⟨b, o, none⟩ = some (.int .i64 pg) ∧ Z.cell? ⟨b, o + 1, none⟩ = some (.slice pa l.length pc)) Z → (execOp a0_6.eval { dst := some 8, op := Op.nilCheck (Operand.tmp 7), type := 0, pos := "sheets.go:31", after := #[{ on := 4, ground := Ground.data }], guard := none }).run Try.prog Z = .ok (.value (.pointer (some ⟨b, o, none⟩))) Z := fun Z hZ => by
    have e7 := (show a0_6.eval (.tmp 7) = .pointer (some ⟨b, o, none⟩) from (fa0_6.at_ 7))
    clear fa0_6 ha
    generalize a0_6.eval = ρ at *
    go_simp
  refine fa0_6.take 5 8 (.pointer (some ⟨b, o, none⟩)) rfl (by kernel_rfl) (by kernel_rfl) (by kernel_rfl) (fun _ _ _ h => h) rfl (lb_ hsz) (wanted_none rfl) r_a0_7 hS1 (fun a0_7 fa0_7 => ?_)
  clear r_a0_7
  clear fa0_6
  have r_a0_8 : ∀ Z, (fun Z => Z.cell? ⟨b, o, none⟩ = some (.int .i64 pg) ∧ Z.cell? ⟨b, o + 1, none⟩ = some (.slice pa l.length pc)) Z → (execOp a0_7.eval { dst := some 9, op := Op.fieldAddr 46 (Operand.tmp 8) 1, type := 0, pos := "sheets.go:31", after := #[{ on := 5, ground := Ground.data }], guard := none }).run Try.prog Z = .ok (.value (.pointer (some ⟨b, o + 1, none⟩))) Z := fun Z hZ => by
    have e8 := (show a0_7.eval (.tmp 8) = .pointer (some ⟨b, o, none⟩) from (fa0_7.at_ 8))
    clear fa0_7 ha
    generalize a0_7.eval = ρ at *
    go_simp
  refine fa0_7.take 6 9 (.pointer (some ⟨b, o + 1, none⟩)) rfl (by kernel_rfl) (by kernel_rfl) (by kernel_rfl) (fun _ _ _ h => h) rfl (lb_ hsz) (wanted_none rfl) r_a0_8 hS1 (fun a0_8 fa0_8 => ?_)
  clear r_a0_8
  clear fa0_7
  have r_a0_9 : ∀ Z, (fun Z => Z.cell? ⟨b, o, none⟩ = some (.int .i64 pg) ∧ Z.cell? ⟨b, o + 1, none⟩ = some (.slice pa l.length pc)) Z → (execOp a0_8.eval { dst := some 10, op := Op.load 22 (Operand.tmp 9), type := 22, pos := "sheets.go:31", after := #[{ on := 6, ground := Ground.data }], guard := none }).run Try.prog Z = .ok (.value (.slice pa l.length pc)) Z := fun Z hZ => by
    obtain ⟨z0, z1⟩ := hZ
    have e9 := (show a0_8.eval (.tmp 9) = .pointer (some ⟨b, o + 1, none⟩) from (fa0_8.at_ 9))
    clear fa0_8 ha
    generalize a0_8.eval = ρ at *
    go_simp
  refine fa0_8.take 7 10 (.slice pa l.length pc) rfl (by kernel_rfl) (by kernel_rfl) (by kernel_rfl) (fun _ _ _ h => h) rfl (lb_ hsz) (wanted_none rfl) r_a0_9 hS1 (fun a0_9 fa0_9 => ?_)
  clear r_a0_9
  clear fa0_8
  have r_a0_10 : (execOp a0_9.eval { dst := some 11, op := Op.call { callee := Callee.value (Operand.func 35), args := #[Operand.tmp 10], argTypes := #[22] }, type := 22, pos := "sheets.go:31", after := #[{ on := 7, ground := Ground.data }], guard := none }).run Try.prog (V.drew) = .ok (.enter 35 #[.slice pa l.length pc]) (V.drew) := by
    have kf : ∀ f, a0_9.eval (.func f) = .func (.func f) #[] #[] := fun _ => rfl
    have e10 := (show a0_9.eval (.tmp 10) = .slice pa l.length pc from (fa0_9.at_ 10))
    clear fa0_9 ha
    generalize a0_9.eval = ρ at *
    go_simp
  refine fa0_9.oneCall 8 11 (by kernel_rfl) rfl rfl (lb_ hsz) (wanted_none rfl) r_a0_10 (cloneTexts (pb := pb) V.drew ((hr.same sV).same dd) hl) (fun e W3 hR => ?_)
  obtain ⟨ao, c, rfl, o1, s1⟩ := hR
  clear r_a0_10
  have hW3 : W3.heap[w.heap.size]? = some (.cells #[.int .i64 0, .slice none 0 0] 46 (0, 0)) := ((dd.trans s1).block _ (lt_of_heap hVr) (fun f => f)).trans hVr
  have hS10 : (fun Z => Z.cell? ⟨b, o, none⟩ = some (.int .i64 pg) ∧ Z.cell? ⟨b, o + 1, none⟩ = some (.slice pa l.length pc)) W3 := ⟨s1.keep (dd.keep d0), s1.keep (dd.keep d1)⟩
  refine ⟨_, rfl, hS10, fun a0_10 fa0_10 => ?_⟩
  clear fa0_9
  have r_a0_11 : ∀ Z, (fun Z => Z.cell? ⟨b, o, none⟩ = some (.int .i64 pg) ∧ Z.cell? ⟨b, o + 1, none⟩ = some (.slice pa l.length pc)) Z → (execOp a0_10.eval { dst := some 12, op := Op.build 46 #[(0, Operand.tmp 6), (1, Operand.tmp 11)], type := 46, pos := "sheets.go:31", after := #[{ on := 3, ground := Ground.data }, { on := 8, ground := Ground.data }], guard := none }).run Try.prog Z = .ok (.value (.agg #[.int .i64 pg, .slice ao l.length c])) Z := fun Z hZ => by
    have e6 := (show a0_10.eval (.tmp 6) = .int .i64 pg from (fa0_10.at_ 6))
    have e11 := (show a0_10.eval (.tmp 11) = .slice ao l.length c from (fa0_10.at_ 11))
    clear fa0_10 ha
    generalize a0_10.eval = ρ at *
    go_simp
  refine fa0_10.take 9 12 (.agg #[.int .i64 pg, .slice ao l.length c]) rfl (by kernel_rfl) (by kernel_rfl) (by kernel_rfl) (fun _ _ _ h => h) rfl (lb_ hsz) (wanted_none rfl) r_a0_11 hS10 (fun a0_11 fa0_11 => ?_)
  clear r_a0_11
  clear fa0_10
  have r_a0_12 : (execOp a0_11.eval { dst := none, op := Op.store 46 (Operand.tmp 2) (Operand.tmp 12), type := 0, pos := "sheets.go:31", after := #[{ on := 9, ground := Ground.data }, { on := 8, ground := Ground.chain }, { on := 0, ground := Ground.phase }, { on := 1, ground := Ground.phase }, { on := 2, ground := Ground.phase }, { on := 3, ground := Ground.phase }, { on := 4, ground := Ground.phase }, { on := 5, ground := Ground.phase }, { on := 6, ground := Ground.phase }, { on := 7, ground := Ground.phase }, { on := 8, ground := Ground.phase }, { on := 9, ground := Ground.phase }], guard := none }).run Try.prog (W3) = .ok .skip (W3.setCells w.heap.size 0 [.int .i64 pg, .slice ao l.length c]) := by
    exact exec_store_mid 46 _ _ rfl w.heap.size 0 #[.int .i64 pg, .slice ao l.length c] (show a0_11.eval (.tmp 2) = .pointer (some ⟨w.heap.size, 0, none⟩) from (fa0_11.at_ 2)) (show a0_11.eval (.tmp 12) = .agg #[.int .i64 pg, .slice ao l.length c] from (fa0_11.at_ 12)) (there_row hW3 rfl) (by kernel_rfl) (by kernel_rfl)
  have hS12 : (fun Z => Z.cell? ⟨b, o, none⟩ = some (.int .i64 pg) ∧ Z.cell? ⟨b, o + 1, none⟩ = some (.slice pa l.length pc)) (W3.setCells w.heap.size 0 [.int .i64 pg, .slice ao l.length c]) := ⟨(World.cell?_setCells_out _ _ _ _ _ (fun h _ => absurd h hb0)).trans (s1.keep (dd.keep d0)), (World.cell?_setCells_out _ _ _ _ _ (fun h _ => absurd h hb0)).trans (s1.keep (dd.keep d1))⟩
  refine fa0_11.oneStore 10 (by kernel_rfl) rfl rfl (wanted_none rfl) r_a0_12 hS12 (fun a0_12 fa0_12 => ?_)
  clear r_a0_12
  clear fa0_11
  refine wpAnyH_done (by kernel_rfl) ?_ _
  change Code.wp _ _ _ _ _
  refine wp_ret ?_
  have h7 : (W3.setCells w.heap.size 0 [.int .i64 pg, .slice ao l.length c]).heap[w.heap.size]? = some (.cells #[.int .i64 pg, .slice ao l.length c] 46 (0, 0)) := setCells_whole [.int .i64 pg, .slice ao l.length c] _ hW3 rfl (there_row hW3 rfl)
  have f7 : Fr (fun k => k = w.heap.size) W3 (W3.setCells w.heap.size 0 [.int .i64 pg, .slice ao l.length c]) := Fr.setCells (S := fun k => k = w.heap.size) (fun _ => rfl) _ 0 W3 (Fr.refl _ W3)
  refine bodyPost_ret (results_row_one rfl _ _ _ _ _ _ _ (show a0_12.eval (.tmp 2) = .pointer (some ⟨w.heap.size, 0, none⟩) from (fa0_12.at_ 2)) h7 Try.underlying46 rfl (by kernel_rfl)) (fa0_12.defers.trans hd) ⟨ao, c, rfl, ?_, Fr.trans (sV.trans (dd.trans s1)) f7 (fun k hk e => by omega)⟩
  exact own_base (own_frameB o1 f7 (fun k hk e => own_neT o1 hW3 (by decide) k hk e)) (sV.trans dd).size
end Go.Proofs.Ytljlkcmjbjnihaa
