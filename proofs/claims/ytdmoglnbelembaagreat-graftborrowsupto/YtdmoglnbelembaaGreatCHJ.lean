/- Split of both sides: the same halves, the program's apart. -/
import Derived.Test.YtdmoglnbelembaaGreatCDJ
import Derived.Test.YtdmoglnbelembaaGreatB7J
import Derived.Test.YtdmoglnbelembaaGreatC6J
namespace Go.Proofs.YtdmoglnbelembaaGreat
open Go.RowKit

set_option maxRecDepth 100000 in
set_option maxHeartbeats 4000000 in
theorem halved_branchA {r : Nr} {N : Nd} {m : Nat} {sp : ByteArray} (w : World) (hr : TRow w r.sa r.sb r.so N.ss) (hk : 0 < N.ks.length) (hx : N.ss[m]? = some sp) (hn : N.ss.length ≤ 1048576)
    (HF1 : Hid (∀ W, Same w W → Calls Tryz.prog 56 #[.slice r.sa N.ss.length r.cs, .int .i64 (m : Int)] W fun e w' => ∃ ao' c', e = .returned (.slice ao' m c') ∧ w'.ownsRow W.heap.size 9 1 (.slice ao' m c') m (scells (N.ss.take m)) ∧ Same W w'))
    (HF2 : Hid (∀ W, Same w W → Calls Tryz.prog 57 #[.slice r.ka N.ks.length r.ck, .int .i64 ((m + 1 : Nat) : Int)] W fun e w' => ∃ ao' c', e = .returned (.slice ao' (m + 1) c') ∧ w'.ownsRow W.heap.size 58 33 (.slice ao' (m + 1) c') (m + 1) (kcellsL (N.ks.take (m + 1))) ∧ Same W w'))
    (HW1 : Hid (∀ W, Same w W → Calls Tryz.prog 58 #[.slice r.sa N.ss.length r.cs, .int .i64 0, .int .i64 ((m + 1 : Nat) : Int)] W fun e w' => ∃ ao' c', e = .returned (.slice ao' (N.ss.length - (m + 1)) c') ∧ w'.ownsRow W.heap.size 9 1 (.slice ao' (N.ss.length - (m + 1)) c') (N.ss.length - (m + 1)) (scells (N.ss.drop (m + 1))) ∧ Same W w'))
    (HW2 : Hid (∀ W, Same w W → Calls Tryz.prog 59 #[.slice r.ka N.ks.length r.ck, .int .i64 0, .int .i64 ((m + 1 : Nat) : Int)] W fun e w' => ∃ ao' c', e = .returned (.slice ao' (N.ks.length - (m + 1)) c') ∧ w'.ownsRow W.heap.size 58 33 (.slice ao' (N.ks.length - (m + 1)) c') (N.ks.length - (m + 1)) (kcellsL (N.ks.drop (m + 1))) ∧ Same W w')) :
    Calls Tryz.prog 32 #[ndV r N, .int .i64 ((m + 1 : Nat) : Int)] w fun e w' => ∃ ao1 c1 ao2 c2 ao3 c3 ao4 c4, e = .returned (.agg #[.slice none 0 0, .slice ao1 m c1, .slice ao2 (m + 1) c2, .string sp, .slice none 0 0, .slice ao3 (N.ss.length - (m + 1)) c3, .slice ao4 (N.ks.length - (m + 1)) c4]) ∧ w'.ownsRow w.heap.size 9 1 (.slice ao1 m c1) m (scells (N.ss.take m)) ∧ w'.ownsRow w.heap.size 58 33 (.slice ao2 (m + 1) c2) (m + 1) (kcellsL (N.ks.take (m + 1))) ∧ w'.ownsRow w.heap.size 9 1 (.slice ao3 (N.ss.length - (m + 1)) c3) (N.ss.length - (m + 1)) (scells (N.ss.drop (m + 1))) ∧ w'.ownsRow w.heap.size 58 33 (.slice ao4 (N.ks.length - (m + 1)) c4) (N.ks.length - (m + 1)) (kcellsL (N.ks.drop (m + 1))) ∧ Same w w' ∧ (∀ x y : Addr, ao2 = some x → ao4 = some y → x.block ≠ y.block) := by
  have hl : m < N.ss.length := (List.getElem?_eq_some_iff.1 hx).1
  obtain ⟨hpa, _⟩ := hr.place (fun h => by rw [h] at hl; simp at hl)
  have c0 := hr.cells m sp hx
  obtain ⟨n, hnn⟩ : ∃ n, n = m + 1 := ⟨_, rfl⟩
  rw [← hnn] at HF2 HW1 HW2 ⊢
  rw [hpa] at HF1 HW1
  have e1 : RowKit.wrap64 ((n : Int) - 1) = (m : Int) := by unfold RowKit.wrap64; omega
  have e2 : (n : Int) - 1 = (m : Int) := by omega
  have e3 : IntKind.i64.wrap (m : Int) = (m : Int) := by rw [IntKind.wrap_i64]; omega
  have b0 : (m : Int) < (N.ss.length : Int) := by omega
  have b2 : (0 : Int) ≤ (m : Int) := by omega
  have b4 : (0 : Int) < (N.ks.length : Int) := by omega
  have HC : Hid (w.cell? ⟨r.sb, r.so + m, none⟩ = some (.string sp)) := c0
  have HM : Hid (n = m + 1) := hnn
  clear c0 hnn hl hx hr
  go_enter Tryz.func32, Tryz.ntmps32
  go_wp2_with fail
  obtain ⟨V, hV⟩ : ∃ V, V = (w.alloc (.cells #[.slice r.pa N.ps.length r.cp, .slice (some ⟨r.sb, r.so, none⟩) N.ss.length r.cs, .slice r.ka N.ks.length r.ck] 28)).alloc (.cells #[.slice none 0 0, .slice none 0 0, .slice none 0 0, .string ⟨#[]⟩, .slice none 0 0, .slice none 0 0, .slice none 0 0] 30) := ⟨_, rfl⟩
  rw [← hV]
  have s0 : Same w V := by rw [hV]; exact ((Fr.refl _ w).alloc _).alloc _
  have a0 : V.cell? ⟨w.heap.size, 1, none⟩ = some (.slice (some ⟨r.sb, r.so, none⟩) N.ss.length r.cs) := by rw [hV]; simp
  have a1 : V.cell? ⟨w.heap.size, 2, none⟩ = some (.slice r.ka N.ks.length r.ck) := by rw [hV]; simp
  have HS : Hid (∀ W, Same V W → W.cell? ⟨w.heap.size, 1, none⟩ = some (.slice (some ⟨r.sb, r.so, none⟩) N.ss.length r.cs) ∧ W.cell? ⟨w.heap.size, 2, none⟩ = some (.slice r.ka N.ks.length r.ck) ∧ W.cell? ⟨r.sb, r.so + m, none⟩ = some (.string sp)) := fun W h => ⟨h.keep a0, h.keep a1, h.keep (s0.keep HC.out)⟩
  have d0 : Same V V.drew := Fr.drew (Fr.refl _ V)
  have r2 : V.heap[w.heap.size + 1]? = some (.cells #[.slice none 0 0, .slice none 0 0, .slice none 0 0, .string ⟨#[]⟩, .slice none 0 0, .slice none 0 0, .slice none 0 0] 30 (0, 0)) := by rw [hV]; exact heap_alloc2_new w _ _
  have HG : Hid (∀ W, Same V W → W.heap[w.heap.size + 1]? = some (.cells #[.slice none 0 0, .slice none 0 0, .slice none 0 0, .string ⟨#[]⟩, .slice none 0 0, .slice none 0 0, .slice none 0 0] 30 (0, 0))) := fun W s => (s.block _ (lt_of_heap r2) (fun e => e)).trans r2
  have HZ : Hid (w.heap.size + 2 ≤ V.heap.size) := by show _ ≤ _; rw [hV]; simp
  clear r2 a0 a1 hV
  refine wp_region_held_drew (S := fun W => W.cell? ⟨w.heap.size, 1, none⟩ = some (.slice (some ⟨r.sb, r.so, none⟩) N.ss.length r.cs) ∧ W.cell? ⟨w.heap.size, 2, none⟩ = some (.slice r.ka N.ks.length r.ck) ∧ W.cell? ⟨r.sb, r.so + m, none⟩ = some (.string sp)) (by kernel_rfl) (HS.out _ d0) (fun hHeld => ?_)
  refine wpAnyH_take (i := 0) (oi := { dst := some 11, op := Op.fieldAddr 28 (Operand.tmp 2) 1, type := 0, pos := "cut.go:120", after := #[], guard := none }) (v := .pointer (some ⟨w.heap.size, 1, none⟩)) rfl (by kernel_rfl) (by kernel_rfl) (by kernel_rfl) (fun _ _ _ h => h) (Or.inl ⟨by rfl, fun w hSw => by (obtain ⟨hA, hB, hC⟩ := hSw; go_simp)⟩) (by assumption) ?_
  try simp only [Act.put, List.setIfInBounds_toArray, List.set_cons_zero, List.set_cons_succ]
  refine wpAnyH_take (i := 1) (oi := { dst := some 12, op := Op.load 25 (Operand.tmp 11), type := 25, pos := "cut.go:120", after := #[{ on := 0, ground := Ground.data }], guard := none }) (v := .slice (some ⟨r.sb, r.so, none⟩) N.ss.length r.cs) rfl (by kernel_rfl) (by kernel_rfl) (by kernel_rfl) (fun _ _ _ h => h) (Or.inl ⟨by rfl, fun w hSw => by (obtain ⟨hA, hB, hC⟩ := hSw; go_simp)⟩) (by assumption) ?_
  try simp only [Act.put, List.setIfInBounds_toArray, List.set_cons_zero, List.set_cons_succ]
  refine wpAnyH_take (i := 2) (oi := { dst := some 13, op := Op.move (Operand.tmp 1), type := 3, pos := "cut.go:120", after := #[], guard := none }) (v := .int .i64 (n : Int)) rfl (by kernel_rfl) (by kernel_rfl) (by kernel_rfl) (fun _ _ _ h => h) (Or.inl ⟨by rfl, fun w hSw => by (obtain ⟨hA, hB, hC⟩ := hSw; go_simp)⟩) (by assumption) ?_
  try simp only [Act.put, List.setIfInBounds_toArray, List.set_cons_zero, List.set_cons_succ]
  refine wpAnyH_take (i := 3) (oi := { dst := some 14, op := Op.binOp BinOp.sub 3 (Operand.tmp 13) (Operand.const (Value.int IntKind.i64 1)) 3, type := 3, pos := "cut.go:120", after := #[{ on := 2, ground := Ground.data }], guard := none }) (v := .int .i64 (m : Int)) rfl (by kernel_rfl) (by kernel_rfl) (by kernel_rfl) (fun _ _ _ h => h) (Or.inl ⟨by rfl, fun w hSw => by (obtain ⟨hA, hB, hC⟩ := hSw; go_simp)⟩) (by assumption) ?_
  try simp only [Act.put, List.setIfInBounds_toArray, List.set_cons_zero, List.set_cons_succ]
  refine wpAnyH_take (i := 5) (oi := { dst := some 16, op := Op.fieldAddr 28 (Operand.tmp 2) 2, type := 0, pos := "cut.go:120", after := #[], guard := none }) (v := .pointer (some ⟨w.heap.size, 2, none⟩)) rfl (by kernel_rfl) (by kernel_rfl) (by kernel_rfl) (fun _ _ _ h => h) (Or.inl ⟨by rfl, fun w hSw => by (obtain ⟨hA, hB, hC⟩ := hSw; go_simp)⟩) (by assumption) ?_
  try simp only [Act.put, List.setIfInBounds_toArray, List.set_cons_zero, List.set_cons_succ]
  refine wpAnyH_take (i := 6) (oi := { dst := some 17, op := Op.load 26 (Operand.tmp 16), type := 26, pos := "cut.go:120", after := #[{ on := 5, ground := Ground.data }], guard := none }) (v := .slice r.ka N.ks.length r.ck) rfl (by kernel_rfl) (by kernel_rfl) (by kernel_rfl) (fun _ _ _ h => h) (Or.inl ⟨by rfl, fun w hSw => by (obtain ⟨hA, hB, hC⟩ := hSw; go_simp)⟩) (by assumption) ?_
  try simp only [Act.put, List.setIfInBounds_toArray, List.set_cons_zero, List.set_cons_succ]
  refine wpAnyH_take (i := 7) (oi := { dst := some 18, op := Op.move (Operand.tmp 1), type := 3, pos := "cut.go:120", after := #[], guard := none }) (v := .int .i64 (n : Int)) rfl (by kernel_rfl) (by kernel_rfl) (by kernel_rfl) (fun _ _ _ h => h) (Or.inl ⟨by rfl, fun w hSw => by (obtain ⟨hA, hB, hC⟩ := hSw; go_simp)⟩) (by assumption) ?_
  try simp only [Act.put, List.setIfInBounds_toArray, List.set_cons_zero, List.set_cons_succ]
  refine wpAnyH_take (i := 10) (oi := { dst := some 21, op := Op.fieldAddr 28 (Operand.tmp 2) 1, type := 0, pos := "cut.go:120", after := #[], guard := none }) (v := .pointer (some ⟨w.heap.size, 1, none⟩)) rfl (by kernel_rfl) (by kernel_rfl) (by kernel_rfl) (fun _ _ _ h => h) (Or.inl ⟨by rfl, fun w hSw => by (obtain ⟨hA, hB, hC⟩ := hSw; go_simp)⟩) (by assumption) ?_
  try simp only [Act.put, List.setIfInBounds_toArray, List.set_cons_zero, List.set_cons_succ]
  refine wpAnyH_take (i := 11) (oi := { dst := some 22, op := Op.load 25 (Operand.tmp 21), type := 25, pos := "cut.go:120", after := #[{ on := 10, ground := Ground.data }], guard := none }) (v := .slice (some ⟨r.sb, r.so, none⟩) N.ss.length r.cs) rfl (by kernel_rfl) (by kernel_rfl) (by kernel_rfl) (fun _ _ _ h => h) (Or.inl ⟨by rfl, fun w hSw => by (obtain ⟨hA, hB, hC⟩ := hSw; go_simp)⟩) (by assumption) ?_
  try simp only [Act.put, List.setIfInBounds_toArray, List.set_cons_zero, List.set_cons_succ]
  refine wpAnyH_take (i := 12) (oi := { dst := some 23, op := Op.move (Operand.tmp 1), type := 3, pos := "cut.go:120", after := #[], guard := none }) (v := .int .i64 (n : Int)) rfl (by kernel_rfl) (by kernel_rfl) (by kernel_rfl) (fun _ _ _ h => h) (Or.inl ⟨by rfl, fun w hSw => by (obtain ⟨hA, hB, hC⟩ := hSw; go_simp)⟩) (by assumption) ?_
  try simp only [Act.put, List.setIfInBounds_toArray, List.set_cons_zero, List.set_cons_succ]
  refine wpAnyH_take (i := 13) (oi := { dst := some 24, op := Op.binOp BinOp.sub 3 (Operand.tmp 23) (Operand.const (Value.int IntKind.i64 1)) 3, type := 3, pos := "cut.go:120", after := #[{ on := 12, ground := Ground.data }], guard := none }) (v := .int .i64 (m : Int)) rfl (by kernel_rfl) (by kernel_rfl) (by kernel_rfl) (fun _ _ _ h => h) (Or.inl ⟨by rfl, fun w hSw => by (obtain ⟨hA, hB, hC⟩ := hSw; go_simp)⟩) (by assumption) ?_
  try simp only [Act.put, List.setIfInBounds_toArray, List.set_cons_zero, List.set_cons_succ]
  refine wpAnyH_take (i := 14) (oi := { dst := some 25, op := Op.indexAddr 25 (Operand.tmp 22) (Operand.tmp 24), type := 0, pos := "cut.go:120", after := #[{ on := 11, ground := Ground.data }, { on := 13, ground := Ground.data }], guard := none }) (v := .pointer (some ⟨r.sb, r.so + m, none⟩)) rfl (by kernel_rfl) (by kernel_rfl) (by kernel_rfl) (fun _ _ _ h => h) (Or.inl ⟨by rfl, fun w hSw => by (obtain ⟨hA, hB, hC⟩ := hSw; go_simp)⟩) (by assumption) ?_
  try simp only [Act.put, List.setIfInBounds_toArray, List.set_cons_zero, List.set_cons_succ]
  refine wpAnyH_take (i := 15) (oi := { dst := some 26, op := Op.load 9 (Operand.tmp 25), type := 9, pos := "cut.go:120", after := #[{ on := 14, ground := Ground.data }], guard := none }) (v := .string sp) rfl (by kernel_rfl) (by kernel_rfl) (by kernel_rfl) (fun _ _ _ h => h) (Or.inl ⟨by rfl, fun w hSw => by (obtain ⟨hA, hB, hC⟩ := hSw; go_simp)⟩) (by assumption) ?_
  try simp only [Act.put, List.setIfInBounds_toArray, List.set_cons_zero, List.set_cons_succ]
  refine wpAnyH_take (i := 16) (oi := { dst := some 27, op := Op.fieldAddr 28 (Operand.tmp 2) 1, type := 0, pos := "cut.go:120", after := #[], guard := none }) (v := .pointer (some ⟨w.heap.size, 1, none⟩)) rfl (by kernel_rfl) (by kernel_rfl) (by kernel_rfl) (fun _ _ _ h => h) (Or.inl ⟨by rfl, fun w hSw => by (obtain ⟨hA, hB, hC⟩ := hSw; go_simp)⟩) (by assumption) ?_
  try simp only [Act.put, List.setIfInBounds_toArray, List.set_cons_zero, List.set_cons_succ]
  refine wpAnyH_take (i := 17) (oi := { dst := some 28, op := Op.load 25 (Operand.tmp 27), type := 25, pos := "cut.go:120", after := #[{ on := 16, ground := Ground.data }], guard := none }) (v := .slice (some ⟨r.sb, r.so, none⟩) N.ss.length r.cs) rfl (by kernel_rfl) (by kernel_rfl) (by kernel_rfl) (fun _ _ _ h => h) (Or.inl ⟨by rfl, fun w hSw => by (obtain ⟨hA, hB, hC⟩ := hSw; go_simp)⟩) (by assumption) ?_
  try simp only [Act.put, List.setIfInBounds_toArray, List.set_cons_zero, List.set_cons_succ]
  refine wpAnyH_take (i := 18) (oi := { dst := some 29, op := Op.move (Operand.tmp 1), type := 3, pos := "cut.go:120", after := #[], guard := none }) (v := .int .i64 (n : Int)) rfl (by kernel_rfl) (by kernel_rfl) (by kernel_rfl) (fun _ _ _ h => h) (Or.inl ⟨by rfl, fun w hSw => by (obtain ⟨hA, hB, hC⟩ := hSw; go_simp)⟩) (by assumption) ?_
  try simp only [Act.put, List.setIfInBounds_toArray, List.set_cons_zero, List.set_cons_succ]
  refine wpAnyH_take (i := 20) (oi := { dst := some 31, op := Op.fieldAddr 28 (Operand.tmp 2) 2, type := 0, pos := "cut.go:120", after := #[], guard := none }) (v := .pointer (some ⟨w.heap.size, 2, none⟩)) rfl (by kernel_rfl) (by kernel_rfl) (by kernel_rfl) (fun _ _ _ h => h) (Or.inl ⟨by rfl, fun w hSw => by (obtain ⟨hA, hB, hC⟩ := hSw; go_simp)⟩) (by assumption) ?_
  try simp only [Act.put, List.setIfInBounds_toArray, List.set_cons_zero, List.set_cons_succ]
  refine wpAnyH_take (i := 21) (oi := { dst := some 32, op := Op.load 26 (Operand.tmp 31), type := 26, pos := "cut.go:120", after := #[{ on := 20, ground := Ground.data }], guard := none }) (v := .slice r.ka N.ks.length r.ck) rfl (by kernel_rfl) (by kernel_rfl) (by kernel_rfl) (fun _ _ _ h => h) (Or.inl ⟨by rfl, fun w hSw => by (obtain ⟨hA, hB, hC⟩ := hSw; go_simp)⟩) (by assumption) ?_
  try simp only [Act.put, List.setIfInBounds_toArray, List.set_cons_zero, List.set_cons_succ]
  refine wpAnyH_take (i := 22) (oi := { dst := some 33, op := Op.move (Operand.tmp 1), type := 3, pos := "cut.go:120", after := #[], guard := none }) (v := .int .i64 (n : Int)) rfl (by kernel_rfl) (by kernel_rfl) (by kernel_rfl) (fun _ _ _ h => h) (Or.inl ⟨by rfl, fun w hSw => by (obtain ⟨hA, hB, hC⟩ := hSw; go_simp)⟩) (by assumption) ?_
  try simp only [Act.put, List.setIfInBounds_toArray, List.set_cons_zero, List.set_cons_succ]
  refine wpAnyH_ready (rs := [4]) (by kernel_rfl) (by simp) ?_
  refine AllReadyH.cons (o := { dst := some 15, op := Op.call { callee := Callee.value (Operand.func 56), args := #[Operand.tmp 12, Operand.tmp 14], argTypes := #[25, 3] }, type := 25, pos := "cut.go:121", after := #[{ on := 1, ground := Ground.data }, { on := 3, ground := Ground.data }], guard := none }) rfl (fun K hK => ?_) AllReadyH.nil
  go_simp
  go_at_call 56
  refine (HF1.out _ (s0.trans d0)).mono ?_
  rintro e Z1 ⟨ao1, c1, rfl, own1, q1⟩
  try go_wp2_with fail
  have x1 := Same.trans d0 q1
  refine hK.out _ _ (HS.out _ x1) (fun hHeld => ?_)
  clear hK K
  try simp only [Act.put, List.setIfInBounds_toArray, List.set_cons_zero, List.set_cons_succ]
  refine wpAnyH_ready (rs := [8]) (by kernel_rfl) (by simp) ?_
  refine AllReadyH.cons (o := { dst := some 19, op := Op.call { callee := Callee.value (Operand.func 57), args := #[Operand.tmp 17, Operand.tmp 18], argTypes := #[26, 3] }, type := 26, pos := "cut.go:121", after := #[{ on := 6, ground := Ground.data }, { on := 7, ground := Ground.data }, { on := 4, ground := Ground.chain }], guard := none }) rfl (fun K hK => ?_) AllReadyH.nil
  go_simp
  go_at_call 57
  refine (HF2.out _ (s0.trans x1)).mono ?_
  rintro e Z2 ⟨ao2, c2, rfl, own2, q2⟩
  try go_wp2_with fail
  have x2 := Same.trans x1 q2
  refine hK.out _ _ (HS.out _ x2) (fun hHeld => ?_)
  clear hK K
  try simp only [Act.put, List.setIfInBounds_toArray, List.set_cons_zero, List.set_cons_succ]
  refine wpAnyH_take (i := 9) (oi := { dst := some 20, op := Op.build 28 #[(1, Operand.tmp 15), (2, Operand.tmp 19)], type := 28, pos := "cut.go:120", after := #[{ on := 4, ground := Ground.data }, { on := 8, ground := Ground.data }], guard := none }) (v := .agg #[.slice none 0 0, .slice ao1 m c1, .slice ao2 n c2]) rfl (by kernel_rfl) (by kernel_rfl) (by kernel_rfl) (fun _ _ _ h => h) (Or.inl ⟨by rfl, fun w hSw => by (obtain ⟨hA, hB, hC⟩ := hSw; go_simp)⟩) (by assumption) ?_
  try simp only [Act.put, List.setIfInBounds_toArray, List.set_cons_zero, List.set_cons_succ]
  refine wpAnyH_ready (rs := [19]) (by kernel_rfl) (by simp) ?_
  refine AllReadyH.cons (o := { dst := some 30, op := Op.call { callee := Callee.value (Operand.func 58), args := #[Operand.tmp 28, Operand.const (Value.int IntKind.i64 0), Operand.tmp 29], argTypes := #[25, 3, 3] }, type := 25, pos := "cut.go:123", after := #[{ on := 17, ground := Ground.data }, { on := 18, ground := Ground.data }, { on := 8, ground := Ground.chain }], guard := none }) rfl (fun K hK => ?_) AllReadyH.nil
  go_simp
  go_at_call 58
  refine (HW1.out _ (s0.trans x2)).mono ?_
  rintro e Z3 ⟨ao3, c3, rfl, own3, q3⟩
  try go_wp2_with fail
  have x3 := Same.trans x2 q3
  refine hK.out _ _ (HS.out _ x3) (fun hHeld => ?_)
  clear hK K
  try simp only [Act.put, List.setIfInBounds_toArray, List.set_cons_zero, List.set_cons_succ]
  refine wpAnyH_ready (rs := [23]) (by kernel_rfl) (by simp) ?_
  refine AllReadyH.cons (o := { dst := some 34, op := Op.call { callee := Callee.value (Operand.func 59), args := #[Operand.tmp 32, Operand.const (Value.int IntKind.i64 0), Operand.tmp 33], argTypes := #[26, 3, 3] }, type := 26, pos := "cut.go:123", after := #[{ on := 21, ground := Ground.data }, { on := 22, ground := Ground.data }, { on := 19, ground := Ground.chain }], guard := none }) rfl (fun K hK => ?_) AllReadyH.nil
  go_simp
  go_at_call 59
  refine (HW2.out _ (s0.trans x3)).mono ?_
  rintro e Z4 ⟨ao4, c4, rfl, own4, q4⟩
  try go_wp2_with fail
  have x4 := Same.trans x3 q4
  refine hK.out _ _ (HS.out _ x4) (fun hHeld => ?_)
  clear hK K
  try simp only [Act.put, List.setIfInBounds_toArray, List.set_cons_zero, List.set_cons_succ]
  refine wpAnyH_take (i := 24) (oi := { dst := some 35, op := Op.build 28 #[(1, Operand.tmp 30), (2, Operand.tmp 34)], type := 28, pos := "cut.go:120", after := #[{ on := 19, ground := Ground.data }, { on := 23, ground := Ground.data }], guard := none }) (v := .agg #[.slice none 0 0, .slice ao3 (N.ss.length - n) c3, .slice ao4 (N.ks.length - n) c4]) rfl (by kernel_rfl) (by kernel_rfl) (by kernel_rfl) (fun _ _ _ h => h) (Or.inl ⟨by rfl, fun w hSw => by (obtain ⟨hA, hB, hC⟩ := hSw; go_simp)⟩) (by assumption) ?_
  try simp only [Act.put, List.setIfInBounds_toArray, List.set_cons_zero, List.set_cons_succ]
  refine wpAnyH_take (i := 25) (oi := { dst := some 36, op := Op.build 30 #[(0, Operand.tmp 20), (1, Operand.tmp 26), (2, Operand.tmp 35)], type := 30, pos := "cut.go:120", after := #[{ on := 9, ground := Ground.data }, { on := 15, ground := Ground.data }, { on := 24, ground := Ground.data }], guard := none }) (v := .agg #[.slice none 0 0, .slice ao1 m c1, .slice ao2 n c2, .string sp, .slice none 0 0, .slice ao3 (N.ss.length - n) c3, .slice ao4 (N.ks.length - n) c4]) rfl (by kernel_rfl) (by kernel_rfl) (by kernel_rfl) (fun _ _ _ h => h) (Or.inl ⟨by rfl, fun w hSw => by (obtain ⟨hA, hB, hC⟩ := hSw; go_simp)⟩) (by assumption) ?_
  try simp only [Act.put, List.setIfInBounds_toArray, List.set_cons_zero, List.set_cons_succ]
  have r6 := HG.out _ x4
  refine wpAnyH_ready (rs := [26]) (by kernel_rfl) (by simp) ?_
  refine AllReadyH.cons (o := { dst := none, op := Op.store 30 (Operand.tmp 4) (Operand.tmp 36), type := 0, pos := "cut.go:120", after := #[{ on := 25, ground := Ground.data }, { on := 23, ground := Ground.chain }, { on := 0, ground := Ground.phase }, { on := 1, ground := Ground.phase }, { on := 2, ground := Ground.phase }, { on := 3, ground := Ground.phase }, { on := 4, ground := Ground.phase }, { on := 5, ground := Ground.phase }, { on := 6, ground := Ground.phase }, { on := 7, ground := Ground.phase }, { on := 8, ground := Ground.phase }, { on := 9, ground := Ground.phase }, { on := 10, ground := Ground.phase }, { on := 11, ground := Ground.phase }, { on := 12, ground := Ground.phase }, { on := 13, ground := Ground.phase }, { on := 14, ground := Ground.phase }, { on := 15, ground := Ground.phase }, { on := 16, ground := Ground.phase }, { on := 17, ground := Ground.phase }, { on := 18, ground := Ground.phase }, { on := 19, ground := Ground.phase }, { on := 20, ground := Ground.phase }, { on := 21, ground := Ground.phase }, { on := 22, ground := Ground.phase }, { on := 23, ground := Ground.phase }, { on := 24, ground := Ground.phase }, { on := 25, ground := Ground.phase }], guard := none }) rfl (fun K hK => ?_) AllReadyH.nil
  refine step_store_whole rfl 30 _ _ rfl (w.heap.size + 1) #[.slice none 0 0, .slice ao1 m c1, .slice ao2 n c2, .string sp, .slice none 0 0, .slice ao3 (N.ss.length - n) c3, .slice ao4 (N.ks.length - n) c4] _ 30 (by rfl) (by rfl) r6 rfl (by kernel_rfl) (by kernel_rfl) ?_
  intro W7 r7 f7
  have HFAR : Hid (∀ (a : Addr) v, a.block ≠ w.heap.size + 1 → Z4.cell? a = some v → W7.cell? a = some v) := fun a v hne hc => (f7.cell (World.block_lt_of_cell? _ _ hc) hne).trans hc
  have hsb : r.sb ≠ w.heap.size + 1 := by have h1 := World.block_lt_of_cell? _ _ HC.out; simp only at h1; omega
  refine hK.out _ _ ⟨HFAR.out _ _ (by simp) (HS.out _ x4).1, HFAR.out _ _ (by simp) (HS.out _ x4).2.1, HFAR.out _ _ hsb (HS.out _ x4).2.2⟩ (fun hHeld => ?_)
  clear hK K
  refine wpAnyH_done (by kernel_rfl) ?_ _
  go_wp2_with fail
  have hz := HZ.out
  have z1 := x1.size
  have z2 := x2.size
  have z3 := x3.size
  have zd := d0.size
  have o1 := own_far (own_base (own_frameB (own_frameB (own_frameB own1 q2 (fun _ _ h => h)) q3 (fun _ _ h => h)) q4 (fun _ _ h => h)) (show w.heap.size + 2 ≤ _ by omega)) f7 (by omega)
  have o2 := own_far (own_base (own_frameB (own_frameB own2 q3 (fun _ _ h => h)) q4 (fun _ _ h => h)) (show w.heap.size + 2 ≤ _ by omega)) f7 (by omega)
  have o3 := own_far (own_base (own_frameB own3 q4 (fun _ _ h => h)) (show w.heap.size + 2 ≤ _ by omega)) f7 (by omega)
  have o4 := own_far (own_base own4 (show w.heap.size + 2 ≤ _ by omega)) f7 (by omega)
  have hm := HM.out
  subst hm
  exact bodyPost_ret (results_row_one (p := 4) (ty := 30) (by kernel_rfl) _ _ (w.heap.size + 1) 30 _ (0, 0) _ rfl r7 Tryz.underlying30 rfl (by kernel_rfl)) rfl ⟨ao1, c1, ao2, c2, ao3, c3, ao4, c4, rfl, own_base o1 (by omega), own_base o2 (by omega), own_base o3 (by omega), own_base o4 (by omega), Fr.trans (s0.trans x4) f7 (fun i hi e => by omega), fun x y hx hy => by (subst hx; subst hy; have h1 := (own_ge own2).2; have h2 := (own_ge own4).1; have h3 := q3.size; omega)⟩
theorem halvedB_goodA {r : Nr} {N : Nd} {m : Nat} {sp : ByteArray} (w : World) (h : NdAt w r N) (hr : NdRoom r N) (hx : N.ss[m]? = some sp) (hk : m + 1 ≤ N.ks.length) (h2 : N.ss.length ≤ 1048576) (h3 : N.ks.length ≤ 1048576) :
    Calls Tryz.prog 32 #[ndV r N, .int .i64 ((m + 1 : Nat) : Int)] w fun e w' => ∃ ao1 c1 ao2 c2 ao3 c3 ao4 c4, e = .returned (.agg #[.slice none 0 0, .slice ao1 m c1, .slice ao2 (m + 1) c2, .string sp, .slice none 0 0, .slice ao3 (N.ss.length - (m + 1)) c3, .slice ao4 (N.ks.length - (m + 1)) c4]) ∧ w'.ownsRow w.heap.size 9 1 (.slice ao1 m c1) m (scells (N.ss.take m)) ∧ w'.ownsRow w.heap.size 58 33 (.slice ao2 (m + 1) c2) (m + 1) (kcellsL (N.ks.take (m + 1))) ∧ w'.ownsRow w.heap.size 9 1 (.slice ao3 (N.ss.length - (m + 1)) c3) (N.ss.length - (m + 1)) (scells (N.ss.drop (m + 1))) ∧ w'.ownsRow w.heap.size 58 33 (.slice ao4 (N.ks.length - (m + 1)) c4) (N.ks.length - (m + 1)) (kcellsL (N.ks.drop (m + 1))) ∧ Same w w' ∧ (∀ x y : Addr, ao2 = some x → ao4 = some y → x.block ≠ y.block) := by
  have hl : m < N.ss.length := (List.getElem?_eq_some_iff.1 hx).1
  refine halved_branchA w h.hs (by omega) hx h2 (fun W s => ?_) (fun W s => ?_) (fun W s => ?_) (fun W s => ?_)
  · have := firstTexts (m := m) W (trow_part (h.hs.same s) hr.s0) hr.s3 (by omega) hr.cs h2
    rw [scells_takeK] at this
    exact this
  · have := firstKids (m := m + 1) W (krow_part h.ok (h.hk.same s) hr.k0) hr.k3 (by omega) hr.ck h3
    rw [kcellsL_takeK _ _ h.ok] at this
    exact this
  · have := withoutTexts (i := 0) (m := m + 1) W (trow_part (h.hs.same s) hr.s0) hr.s3 (by omega) hr.cs h2
    rw [Nat.zero_mul, List.take_zero, List.nil_append, Nat.zero_add, scells_dropK] at this
    exact this
  · have := withoutKids (i := 0) (m := m + 1) W (krow_part h.ok (h.hk.same s) hr.k0) hr.k3 (by omega) hr.ck h3
    rw [Nat.zero_mul, List.take_zero, List.nil_append, Nat.zero_add, kcellsL_dropK _ _ h.ok] at this
    exact this
set_option maxRecDepth 100000 in
set_option maxHeartbeats 1000000 in
theorem split_branchA {r : Nr} {N : Nd} {p q : Int} {m n3 n4 : Nat} {sp : ByteArray} {l1 l2 l3 l4 : List Value} (w : World)
    (HC : Hid (∀ W, Same w W → Calls Tryz.prog 30 #[frameV p q, nodeV r.pa N.ps.length r.cp r.sa N.ss.length r.cs r.ka N.ks.length r.ck] W fun e w' => e = .returned (.int .i64 0) ∧ Same W w'))
    (HA : Hid (∀ W, Calls Tryz.prog 24 #[frameV p q, .bool true] W fun e w' => e = .returned (.int .i64 0) ∧ Same W w'))
    (HB : Hid (∀ W, Same w W → Calls Tryz.prog 31 #[frameV p q, nodeV r.pa N.ps.length r.cp r.sa N.ss.length r.cs r.ka N.ks.length r.ck] W fun e w' => e = .returned (.int .i64 ((m + 1 : Nat) : Int)) ∧ Same W w'))
    (HH : Hid (∀ W, Same w W → Calls Tryz.prog 32 #[nodeV r.pa N.ps.length r.cp r.sa N.ss.length r.cs r.ka N.ks.length r.ck, .int .i64 ((m + 1 : Nat) : Int)] W fun e w' => ∃ ao1 c1 ao2 c2 ao3 c3 ao4 c4, e = .returned (.agg (halvesB ao1 ao2 ao3 ao4 m c1 (m + 1) c2 n3 c3 n4 c4 sp)) ∧ w'.ownsRow W.heap.size 9 1 (.slice ao1 m c1) m l1 ∧ w'.ownsRow W.heap.size 58 33 (.slice ao2 (m + 1) c2) (m + 1) l2 ∧ w'.ownsRow W.heap.size 9 1 (.slice ao3 n3 c3) n3 l3 ∧ w'.ownsRow W.heap.size 58 33 (.slice ao4 n4 c4) n4 l4 ∧ Same W w' ∧ (∀ x y : Addr, ao2 = some x → ao4 = some y → x.block ≠ y.block))) :
    Calls Tryz.prog 15 #[frameV p q, ndV r N] w fun e w' => ∃ ao1 c1 ao2 c2 ao3 c3 ao4 c4, e = .returned (.tuple #[.agg (halvesB ao1 ao2 ao3 ao4 m c1 (m + 1) c2 n3 c3 n4 c4 sp), .int .i64 0]) ∧ w'.ownsRow w.heap.size 9 1 (.slice ao1 m c1) m l1 ∧ w'.ownsRow w.heap.size 58 33 (.slice ao2 (m + 1) c2) (m + 1) l2 ∧ w'.ownsRow w.heap.size 9 1 (.slice ao3 n3 c3) n3 l3 ∧ w'.ownsRow w.heap.size 58 33 (.slice ao4 n4 c4) n4 l4 ∧ Same w w' ∧ (∀ x y : Addr, ao2 = some x → ao4 = some y → x.block ≠ y.block) := by
  obtain ⟨V, hV⟩ : ∃ V, V = ((w.alloc (.cells #[.int .i64 p, .int .i64 q] 23)).alloc (.cells #[.slice r.pa N.ps.length r.cp, .slice r.sa N.ss.length r.cs, .slice r.ka N.ks.length r.ck] 28)).alloc (.cells #[.slice none 0 0, .slice none 0 0, .slice none 0 0, .string ⟨#[]⟩, .slice none 0 0, .slice none 0 0, .slice none 0 0] 30) := ⟨_, rfl⟩
  have s0 : Same w V := by rw [hV]; exact (((Fr.refl _ w).alloc _).alloc _).alloc _
  obtain ⟨g0, g1, g2⟩ := three_boxes w (.cells #[.int .i64 p, .int .i64 q] 23) (.cells #[.slice r.pa N.ps.length r.cp, .slice r.sa N.ss.length r.cs, .slice r.ka N.ks.length r.ck] 28) (.cells #[.slice none 0 0, .slice none 0 0, .slice none 0 0, .string ⟨#[]⟩, .slice none 0 0, .slice none 0 0, .slice none 0 0] 30)
  rw [← hV] at g0 g1 g2
  have a0 : V.cell? ⟨w.heap.size, 0, none⟩ = some (.int .i64 p) := by rw [cell_of_row _ _ _ _ _ _ g0]; rfl
  have a1 : V.cell? ⟨w.heap.size, 1, none⟩ = some (.int .i64 q) := by rw [cell_of_row _ _ _ _ _ _ g0]; rfl
  have a2 : V.cell? ⟨w.heap.size + 1, 0, none⟩ = some (.slice r.pa N.ps.length r.cp) := by rw [cell_of_row _ _ _ _ _ _ g1]; rfl
  have a3 : V.cell? ⟨w.heap.size + 1, 1, none⟩ = some (.slice r.sa N.ss.length r.cs) := by rw [cell_of_row _ _ _ _ _ _ g1]; rfl
  have a4 : V.cell? ⟨w.heap.size + 1, 2, none⟩ = some (.slice r.ka N.ks.length r.ck) := by rw [cell_of_row _ _ _ _ _ _ g1]; rfl
  have HZ : Hid (w.heap.size + 3 ≤ V.heap.size) := by show _ ≤ _; rw [hV]; simp
  have HS : Hid (∀ W, Same V W → W.cell? ⟨w.heap.size, 0, none⟩ = some (.int .i64 p) ∧ W.cell? ⟨w.heap.size, 1, none⟩ = some (.int .i64 q) ∧ W.cell? ⟨w.heap.size + 1, 0, none⟩ = some (.slice r.pa N.ps.length r.cp) ∧ W.cell? ⟨w.heap.size + 1, 1, none⟩ = some (.slice r.sa N.ss.length r.cs) ∧ W.cell? ⟨w.heap.size + 1, 2, none⟩ = some (.slice r.ka N.ks.length r.ck)) := fun W s => ⟨s.keep a0, s.keep a1, s.keep a2, s.keep a3, s.keep a4⟩
  have HG : Hid (∀ W, Same V W → W.heap[w.heap.size + 1 + 1]? = some (.cells #[.slice none 0 0, .slice none 0 0, .slice none 0 0, .string ⟨#[]⟩, .slice none 0 0, .slice none 0 0, .slice none 0 0] 30 (0, 0))) := fun W s => (s.block _ (lt_of_heap g2) (fun e => e)).trans g2
  clear a0 a1 a2 a3 a4 g0 g1 g2
  obtain ⟨n, hn⟩ : ∃ n, n = m + 1 := ⟨_, rfl⟩
  rw [← hn] at HB HH ⊢
  have hne : ¬ (n : Int) = 0 := by omega
  clear hn
  go_enter Tryz.func15, Tryz.ntmps15
  go_wp2_with fail
  rw [← hV]
  clear hV
  have d0 : Same V V.drew := Fr.drew (Fr.refl _ V)
  go_region_held3 (fun W => W.cell? ⟨w.heap.size, 0, none⟩ = some (.int .i64 p) ∧ W.cell? ⟨w.heap.size, 1, none⟩ = some (.int .i64 q) ∧ W.cell? ⟨w.heap.size + 1, 0, none⟩ = some (.slice r.pa N.ps.length r.cp) ∧ W.cell? ⟨w.heap.size + 1, 1, none⟩ = some (.slice r.sa N.ss.length r.cs) ∧ W.cell? ⟨w.heap.size + 1, 2, none⟩ = some (.slice r.ka N.ks.length r.ck)) (first | exact HS.out _ u2 | exact HS.out _ u1 | exact HS.out _ d0)
    (first | (go_at_call 30; refine (HC.out _ (s0.trans d0)).mono ?_; rintro e Z1 ⟨rfl, q1⟩; have u1 := Same.trans d0 q1; clear q1) | (go_at_call 24; refine (HA.out _).mono ?_; rintro e Z2 ⟨rfl, q2⟩; have u2 := Same.trans u1 q2; clear q2))
  obtain ⟨a0, a1, a2, a3, a4⟩ := HS.out _ u2
  go_wp2_with fail
  refine (HB.out _ (s0.trans u2)).mono ?_
  rintro e Z3 ⟨rfl, q3⟩
  have u3 := Same.trans u2 q3
  obtain ⟨a0, a1, a2, a3, a4⟩ := HS.out _ u3
  go_wp2_with fail
  refine (HH.out _ (s0.trans u3)).mono ?_
  rintro e Z4 ⟨ao1, c1, ao2, c2, ao3, c3, ao4, c4, rfl, own1, own2, own3, own4, q4, apx⟩
  have u4 := Same.trans u3 q4
  have r6 := HG.out _ u4
  go_wp2_with (refine wpList_store_whole (by rfl) 30 _ _ (by rfl) (w.heap.size + 1 + 1) (halvesB ao1 ao2 ao3 ao4 m c1 n c2 n3 c3 n4 c4 sp) _ 30 (by rfl) (by rfl) r6 rfl (by kernel_rfl) (by kernel_rfl) ?_; intro W7 r7 f7)
  have hz := HZ.out
  have z3 := u3.size
  exact bodyPost_ret (results_row_tmp (p := 4) (u := 5) (ty := 30) (by kernel_rfl) _ _ (w.heap.size + 1 + 1) 30 _ (0, 0) _ rfl r7 Tryz.underlying30 rfl (by kernel_rfl)) rfl ⟨ao1, c1, ao2, c2, ao3, c3, ao4, c4, rfl, own_base (own_far own1 f7 (by omega)) (by omega), own_base (own_far own2 f7 (by omega)) (by omega), own_base (own_far own3 f7 (by omega)) (by omega), own_base (own_far own4 f7 (by omega)) (by omega), Fr.trans (s0.trans u4) f7 (fun i hi e => by omega), apx⟩
theorem row_apart {w : World} {e : TypeId} {sz B B2 n m c c2 : Nat} {a b : Option Addr} {xs ys : List Value} {u v : Value} (h1 : w.ownsRow B e sz (.slice a n c) n xs) (h2 : w.ownsRow B2 e sz (.slice b m c2) m ys) (hu : xs[0]? = some u) (hv : ys[0]? = some v) (hne : u ≠ v) : ∀ k, blkO b k → ¬ blkO a k := by
  rintro k ⟨p, rfl, rfl⟩ ⟨q, rfl, e⟩
  have hn : n ≠ 0 := fun h => by
    subst h
    have := h1.1
    rw [Nat.zero_mul] at this
    rw [List.eq_nil_of_length_eq_zero this] at hu
    simp at hu
  have hm : m ≠ 0 := fun h => by
    subst h
    have := h2.1
    rw [Nat.zero_mul] at this
    rw [List.eq_nil_of_length_eq_zero this] at hv
    simp at hv
  obtain ⟨g1, e1, _⟩ := own_some (own_base h1 (Nat.zero_le _)) hn
  obtain ⟨g2, e2, _⟩ := own_some (own_base h2 (Nat.zero_le _)) hm
  cases e1
  cases e2
  have o1 := own_cell (own_base h1 (Nat.zero_le _)) hu
  have o2 := own_cell (own_base h2 (Nat.zero_le _)) hv
  simp only at e
  subst e
  rw [o1] at o2
  cases o2
  exact hne rfl
theorem less_ne {x y : ByteArray} (h : Op.bytesLess x.toList y.toList = true) : (Value.string x) ≠ .string y := fun e => by
  injection e with e
  subst e
  rw [less_self] at h
  cases h
theorem blkO_none {k : Nat} : ¬ blkO none k := fun ⟨_, e, _⟩ => by cases e
/-- What Split answers, of both sides: halves of their own, the program's apart. -/
def SplitA (B : Nat) (N1 N2 : Nd) (sp : ByteArray) (E : Int) (e : Ending) (w' : World) : Prop := ∃ r1 r2, e = .returned (.tuple #[.agg (halvesN r1 r2 N1 N2 sp), .int .i64 E]) ∧ MadeNd w' B r1 N1 ∧ MadeNd w' B r2 N2 ∧ (∀ k, blkN r2 k → ¬ blkN r1 k)
def SplitD (B : Nat) (N1 N2 : Nd) (sp : ByteArray) (E : Int) (e : Ending) (w' : World) : Prop := ∃ r1 r2, e = .returned (.tuple #[.agg (halvesN r1 r2 N1 N2 sp), .int .i64 E]) ∧ MadeNd w' B r1 N1 ∧ MadeNd w' B r2 N2
theorem splitA_zero {B : Nat} {E : Int} {e : Ending} {w' : World} (h : e = .returned (.tuple #[.agg #[.slice none 0 0, .slice none 0 0, .slice none 0 0, .string ⟨#[]⟩, .slice none 0 0, .slice none 0 0, .slice none 0 0], .int .i64 E])) : SplitA B ⟨[], [], []⟩ ⟨[], [], []⟩ ⟨#[]⟩ E e w' :=
  ⟨⟨none, 0, 0, 0, none, 0, 0, 0, none, 0, 0, 0⟩, ⟨none, 0, 0, 0, none, 0, 0, 0, none, 0, 0, 0⟩, h, ⟨own_nil, own_nil, own_nil⟩, ⟨own_nil, own_nil, own_nil⟩, fun k hk _ => by
    rcases hk with h | h | h <;> exact blkO_none h⟩
theorem splitD_zero {B : Nat} {E : Int} {e : Ending} {w' : World} (h : e = .returned (.tuple #[.agg #[.slice none 0 0, .slice none 0 0, .slice none 0 0, .string ⟨#[]⟩, .slice none 0 0, .slice none 0 0, .slice none 0 0], .int .i64 E])) : SplitD B ⟨[], [], []⟩ ⟨[], [], []⟩ ⟨#[]⟩ E e w' :=
  ⟨⟨none, 0, 0, 0, none, 0, 0, 0, none, 0, 0, 0⟩, ⟨none, 0, 0, 0, none, 0, 0, 0, none, 0, 0, 0⟩, h, ⟨own_nil, own_nil, own_nil⟩, ⟨own_nil, own_nil, own_nil⟩⟩
structure TwoOk (N1 N2 : Nd) : Prop where
  s1 : NdSmall N1
  s2 : NdSmall N2
  k1 : ∀ x ∈ N1.ks, KidOk x
  k2 : ∀ x ∈ N2.ks, KidOk x
theorem twoOk_zero : TwoOk ⟨[], [], []⟩ ⟨[], [], []⟩ := ⟨⟨by simp, by simp, by simp⟩, ⟨by simp, by simp, by simp⟩, by simp, by simp⟩
theorem split_both {N : Nd} {p q : Int} (hs : NdSmall N) (hk : ∀ x ∈ N.ks, KidOk x) :
    ∃ (E : Int) (N1 N2 : Nd) (sp : ByteArray), TwoOk N1 N2 ∧
      (∀ (r : Nr) (w : World), NdAt w r N → NdRoom r N → Calls Tryz.prog 15 #[frameV p q, ndV r N] w fun e w' => SplitA w.heap.size N1 N2 sp E e w' ∧ Same w w') ∧
      (∀ (r : Nr) (w : World), NdIn w r N → NdCapN r N → Calls Tryz.prog 20 #[frameV p q, ndV r N] w fun e w' => SplitD w.heap.size N1 N2 sp E e w' ∧ Same w w') := by
  obtain ⟨l1, l2, l3, _, hop⟩ := hs.lens
  have hos : ∀ x ∈ N.ss, x.size ≤ 1048576 := fun x hx => by
    have := mem_le_sum (fun x : ByteArray => x.size + 1) N.ss x hx
    have := hs.hs
    omega
  by_cases hf : frameP p q = true
  · obtain ⟨hp, q1, q2⟩ := frameP_cases hf
    have HA := fun W => asked_calls (p := p) (q := q) W hf
    have HR : ∀ W, Calls Tryz.prog 40 #[frameV p q] W fun e w' => e = .returned (.bool true) ∧ Same W w' := fun W => by
      have := dright_calls p q W
      rw [hf] at this
      exact this
    by_cases hc : chkN p q N = 0
    · by_cases hk0 : N.ks.length = 0
      · obtain ⟨es, ek, _, hri, hlo⟩ := chk_leaf hc hk0
        obtain ⟨ps, ss, ks⟩ := N
        simp only at es ek hk0 hri hlo hop l1
        subst es; subst ek
        have HCUTS : ∀ (r : Nr) (w : World), NdIn w r ⟨ps, [], []⟩ → NdCapN r ⟨ps, [], []⟩ → ∀ W, Same w W → Calls Tryz.prog 45 #[frameV p q, ndV r ⟨ps, [], []⟩] W fun e w' => ∃ ao c, e = .returned (.slice ao (ps.length - 1) c) ∧ w'.ownsRow W.heap.size 78 3 (.slice ao (ps.length - 1) c) (ps.length - 1) (ccells (cutsN ps (ps.length - 1))) ∧ Same W w' := fun r w h hcap W s => by
          have HK := fun X (t : Same W X) => dcheck_calls (p := p) (q := q) X ((h.at_.same s).same t) l1 l2 l3
          rw [hc] at HK
          rw [← leaf_cutsL]
          exact dcuts_leaf (N := ⟨ps, [], []⟩) (N1 := fun i => ⟨ps.take i, [], []⟩) (N2 := fun i => ⟨ps.drop i, [], []⟩) (sp := fun i => sepB (pairAt ps (i - 1)).1 (pairAt ps i).1) W rfl l1 HK (fun X => dleaf_calls _ _ _ _ _ _ _ _ _ X) (fun X i t h1 h2 => dcutL hs hc h1 (by omega) X ((h.same s).same t) hcap)
            (fun X B i r' h1 h2 m => by
              have := m.dsize (p := p) (q := q) (leaf_sizes hs hc h1 (by omega)).1.2 (by simp)
              rw [(leaf_sizes hs hc h1 (by omega)).1.1] at this
              exact this)
            (fun X B i r' h1 h2 m => by
              have := m.dsize (p := p) (q := q) (leaf_sizes hs hc h1 (by omega)).2.2 (by simp)
              rw [(leaf_sizes hs hc h1 (by omega)).2.1] at this
              exact this)
        obtain ⟨hparts, hne0⟩ := leaf_parts l1
        rcases best_leaf_range ps with hb | ⟨m, hb, hm⟩
        · have hnil := best_zero hparts hne0 hb
          have hlen : ps.length - 1 = 0 := by rw [← cuts_len ps (ps.length - 1), hnil]; rfl
          refine ⟨82, _, _, ⟨#[]⟩, twoOk_zero, fun r w h hr => ?_, fun r w h hcap => ?_⟩
          · have HC := fun W (s : Same w W) => check_calls p q W (h.same s)
            rw [hc] at HC
            have HB := fun W (s : Same w W) => best_leaf W (h.same s) l1 l2 rfl hc hop
            rw [hb] at HB
            exact (split_nocut w HC HA HB).mono fun e w' ⟨h1, h2⟩ => ⟨splitA_zero h1, h2⟩
          · have HK := fun W (s : Same w W) => dcheck_calls (p := p) (q := q) W (h.at_.same s) l1 l2 l3
            rw [hc] at HK
            have HS := HCUTS r w h hcap
            rw [hnil, hlen] at HS
            exact (dsplit_nocut w HR HK HS).mono fun e w' ⟨h1, h2⟩ => ⟨splitD_zero h1, h2⟩
        · obtain ⟨x, hx⟩ : ∃ x, ps[m]? = some x := ⟨_, List.getElem?_eq_getElem (by omega)⟩
          obtain ⟨y, hy⟩ : ∃ y, ps[m + 1]? = some y := ⟨_, List.getElem?_eq_getElem hm⟩
          have hless := rises_adj _ _ m x.1 y.1 hri (by rw [List.getElem?_map, hx]; rfl) (by rw [List.getElem?_map, hy]; rfl)
          have t1 : (ps.take (m + 1)).length = m + 1 := by rw [List.length_take]; omega
          have t2 : (ps.drop (m + 1)).length = ps.length - (m + 1) := List.length_drop
          obtain ⟨s1, s2⟩ := small_leaf_take hs (m + 1)
          obtain ⟨f, hf0⟩ : ∃ f, ps[0]? = some f := ⟨_, List.getElem?_eq_getElem (by omega)⟩
          have gm : ∀ i (z : ByteArray × ByteArray), ps[i]? = some z → (ps.map (·.1))[i]? = some z.1 := fun i z h => by rw [List.getElem?_map, h]; rfl
          have hfy : Op.bytesLess f.1.toList y.1.toList = true := rises_lt _ _ 0 (m + 1) f.1 y.1 hri (gm _ _ hf0) (gm _ _ hy) (by omega)
          refine ⟨0, ⟨ps.take (m + 1), [], []⟩, ⟨ps.drop (m + 1), [], []⟩, sepB x.1 y.1, ⟨s1, s2, by simp, by simp⟩, fun r w h hr => ?_, fun r w h hcap => ?_⟩
          · have HC := fun W (s : Same w W) => check_calls p q W (h.same s)
            rw [hc] at HC
            have HB := fun W (s : Same w W) => best_leaf W (h.same s) l1 l2 rfl hc hop
            rw [hb] at HB
            have HH := fun W (s : Same w W) => halved_good W (h.same s).hp rfl hx hy l1 hr.cp hr.p0 hr.p3 hless (hop x (List.mem_of_getElem? hx)).1
            refine (split_leaf w rfl HC HA HB HH).mono ?_
            rintro e w' ⟨ao1, c1, ao2, c2, rfl, o1, o2, s⟩
            refine ⟨⟨⟨ao1, 0, 0, c1, none, 0, 0, 0, none, 0, 0, 0⟩, ⟨ao2, 0, 0, c2, none, 0, 0, 0, none, 0, 0, 0⟩, ?_, ⟨?_, own_nil, own_nil⟩, ⟨?_, own_nil, own_nil⟩, ?_⟩, s⟩
            · unfold halvesN halvesV
              rw [t1, t2]
              rfl
            · rw [t1]; exact o1
            · rw [t2]; exact o2
            · have ap := row_apart (u := .string f.1) (v := .string y.1) o1 o2 (by
                rw [show ps.take (m + 1) = f :: (ps.take (m + 1)).tail from by
                  cases hq : ps with
                  | nil => rw [hq] at hf0; simp at hf0
                  | cons a l => rw [hq] at hf0; cases hf0; rfl]
                rfl) (by
                rw [List.drop_eq_getElem_cons hm]
                rw [(List.getElem?_eq_some_iff.1 hy).2]
                rfl) (less_ne hfy)
              intro k hk1 hk2
              rcases hk1 with e1 | e1 | e1
              · rcases hk2 with e2 | e2 | e2
                · exact ap k e1 e2
                · exact blkO_none e2
                · exact blkO_none e2
              · exact blkO_none e1
              · exact blkO_none e1
          · have HK := fun W (s : Same w W) => dcheck_calls (p := p) (q := q) W (h.at_.same s) l1 l2 l3
            rw [hc] at HK
            obtain ⟨z, T, hzT⟩ : ∃ z T, cutsN ps (ps.length - 1) = z :: T := by
              cases hq : cutsN ps (ps.length - 1) with
              | nil => rw [hq] at hb; simp [bestS] at hb
              | cons z T => exact ⟨z, T, rfl⟩
            have hm1 : ((cutsN ps (ps.length - 1)).foldl bet z).1 = m + 1 := by
              rw [hzT] at hparts hne0 hb ⊢
              rw [← best_first hparts hne0]
              exact hb
            have hlen := cuts_len ps (ps.length - 1)
            have HS := HCUTS r w h hcap
            rw [← hlen] at HS
            rw [hlen] at HS
            refine (dsplit_good (L := cutsN ps (ps.length - 1)) (m := m + 1) w HR hzT (by rw [hlen]; omega) hm1 HK (by rw [hlen]; exact HS) (fun W s => ?_)).mono fun e w' ⟨r1, r2, h1, h2, h3, h4⟩ => ⟨⟨r1, r2, h1, h2, h3⟩, h4⟩
            have := dcutL hs hc (i := m + 1) (by omega) hm W (h.same s) hcap
            rw [Nat.add_sub_cancel, pairAt_eq hx, pairAt_eq hy] at this
            exact this
      · obtain ⟨_, hss, hk2⟩ := chk_branch hc (by omega)
        obtain ⟨ep, hri, hlo⟩ := branch_parts hc (by omega)
        obtain ⟨ps, ss, ks⟩ := N
        simp only at ep hss hk2 hk0 hri hlo hos l2 l3 hk
        subst ep
        have hk00 : 0 < ks.length := by omega
        obtain ⟨K, hK⟩ : ∃ K : Nat, (K : Int) = 4 + q := ⟨(4 + q).toNat, by omega⟩
        have HLF : ∀ (r : Nr) X, Calls Tryz.prog 64 #[ndV r ⟨[], ss, ks⟩] X fun e w' => e = .returned (.bool false) ∧ Same X w' := fun r X => by
          refine (dleaf_calls r.pa r.sa r.ka 0 r.cp ss.length r.cs ks.length r.ck X).mono fun e' w' hh => ⟨hh.1.trans ?_, hh.2⟩
          rw [show decide (ks.length = 0) = false from decide_eq_false hk0, Bool.and_false]
        have HCUTS : ∀ (r : Nr) (w : World), NdIn w r ⟨[], ss, ks⟩ → NdCapN r ⟨[], ss, ks⟩ → ∀ W, Same w W → Calls Tryz.prog 45 #[frameV p q, ndV r ⟨[], ss, ks⟩] W fun e w' => ∃ ao c, e = .returned (.slice ao (ks.length - 3) c) ∧ w'.ownsRow W.heap.size 78 3 (.slice ao (ks.length - 3) c) (ks.length - 3) (ccells (cutsB K ks.length ss (ks.length - 3))) ∧ Same W w' := fun r w h hcap W s => by
          have HK := fun X (t : Same W X) => dcheck_calls (p := p) (q := q) X ((h.at_.same s).same t) l1 l2 l3
          rw [hc] at HK
          rw [← branch_cutsL]
          exact dcuts_branch (N := ⟨[], ss, ks⟩) (N1 := fun i => ⟨[], ss.take (i - 1), ks.take i⟩) (N2 := fun i => ⟨[], ss.drop i, ks.drop i⟩) (sp := fun i => textAt ss (i - 1)) W rfl hk2 l3 l1 HK (HLF r) (fun X i t h1 h2 => dcutB hs hc hk00 h1 (by omega) X ((h.same s).same t) hcap)
            (fun X B i r' h1 h2 m => by
              have := m.dsize (p := p) (q := q) (branch_sizes hs hk hc hk00 hK h1 (by omega)).1.2 (fun z hz => hk z (List.mem_of_mem_take hz))
              rw [(branch_sizes hs hk hc hk00 hK h1 (by omega)).1.1] at this
              exact this)
            (fun X B i r' h1 h2 m => by
              have := m.dsize (p := p) (q := q) (branch_sizes hs hk hc hk00 hK h1 (by omega)).2.2 (fun z hz => hk z (List.mem_of_mem_drop hz))
              rw [(branch_sizes hs hk hc hk00 hK h1 (by omega)).2.1] at this
              exact this)
        obtain ⟨hparts, hne0⟩ := branch_cuts (K := K) hss (by omega) l3
        rcases best_branch_range1 K ks.length ss with hb | ⟨m, hb, hm1, hm⟩
        · have hnil := best_zero hparts hne0 hb
          have hlen : ks.length - 3 = 0 := by rw [← cutsB_len K ks.length ss (ks.length - 3), hnil]; rfl
          refine ⟨82, _, _, ⟨#[]⟩, twoOk_zero, fun r w h hr => ?_, fun r w h hcap => ?_⟩
          · have HC := fun W (s : Same w W) => check_calls p q W (h.same s)
            rw [hc] at HC
            have HB := fun W (s : Same w W) => best_branch (K := K) W (h.same s) l1 l2 l3 hk2 hss hc hos q1 q2 hK
            simp only at HB
            rw [hb] at HB
            exact (split_nocut w HC HA HB).mono fun e w' ⟨h1, h2⟩ => ⟨splitA_zero h1, h2⟩
          · have HK := fun W (s : Same w W) => dcheck_calls (p := p) (q := q) W (h.at_.same s) l1 l2 l3
            rw [hc] at HK
            have HS := HCUTS r w h hcap
            rw [hnil, hlen] at HS
            exact (dsplit_nocut w HR HK HS).mono fun e w' ⟨h1, h2⟩ => ⟨splitD_zero h1, h2⟩
        · obtain ⟨sp, hx⟩ : ∃ x, ss[m]? = some x := ⟨_, List.getElem?_eq_getElem (by omega)⟩
          obtain ⟨f, hf0⟩ : ∃ x, ss[0]? = some x := ⟨_, List.getElem?_eq_getElem (by omega)⟩
          obtain ⟨b, hbb⟩ : ∃ x, ss[m + 1]? = some x := ⟨_, List.getElem?_eq_getElem (by omega)⟩
          have hfy : Op.bytesLess f.toList b.toList = true := rises_lt _ _ 0 (m + 1) f b hri hf0 hbb (by omega)
          have t1 : (ks.take (m + 1)).length = m + 1 := by rw [List.length_take]; omega
          have t2 : (ks.drop (m + 1)).length = ks.length - (m + 1) := List.length_drop
          have t3 : (ss.take m).length = m := by rw [List.length_take]; omega
          have t4 : (ss.drop (m + 1)).length = ss.length - (m + 1) := List.length_drop
          have hsz := branch_sizes hs hk hc hk00 hK (i := m + 1) (by omega) (by omega)
          rw [Nat.add_sub_cancel] at hsz
          refine ⟨0, ⟨[], ss.take m, ks.take (m + 1)⟩, ⟨[], ss.drop (m + 1), ks.drop (m + 1)⟩, sp, ⟨hsz.1.2, hsz.2.2, fun z hz => hk z (List.mem_of_mem_take hz), fun z hz => hk z (List.mem_of_mem_drop hz)⟩, fun r w h hr => ?_, fun r w h hcap => ?_⟩
          · have HC := fun W (s : Same w W) => check_calls p q W (h.same s)
            rw [hc] at HC
            have HB := fun W (s : Same w W) => best_branch (K := K) W (h.same s) l1 l2 l3 hk2 hss hc hos q1 q2 hK
            simp only at HB
            rw [hb] at HB
            refine (split_branchA w HC HA HB (fun W s => halvedB_goodA W (h.same s) hr hx (by show m + 1 ≤ ks.length; omega) l2 l3)).mono ?_
            rintro e w' ⟨ao1, c1, ao2, c2, ao3, c3, ao4, c4, rfl, o1, o2, o3, o4, s, apx⟩
            refine ⟨⟨⟨none, 0, 0, 0, ao1, 0, 0, c1, ao2, 0, 0, c2⟩, ⟨none, 0, 0, 0, ao3, 0, 0, c3, ao4, 0, 0, c4⟩, ?_, ⟨own_nil, ?_, ?_⟩, ⟨own_nil, ?_, ?_⟩, ?_⟩, s⟩
            · unfold halvesN halvesB
              simp only
              rw [t1, t2, t3, t4]
              rfl
            · show World.ownsRow _ _ _ _ (.slice ao1 (ss.take m).length c1) (ss.take m).length _; rw [t3]; exact o1
            · show World.ownsRow _ _ _ _ (.slice ao2 (ks.take (m + 1)).length c2) (ks.take (m + 1)).length _; rw [t1]; exact o2
            · show World.ownsRow _ _ _ _ (.slice ao3 (ss.drop (m + 1)).length c3) (ss.drop (m + 1)).length _; rw [t4]; exact o3
            · show World.ownsRow _ _ _ _ (.slice ao4 (ks.drop (m + 1)).length c4) (ks.drop (m + 1)).length _; rw [t2]; exact o4
            · have ap := row_apart (u := .string f) (v := .string b) o1 o3 (by
                rw [scells, List.getElem?_map, List.getElem?_take_of_lt (by omega), hf0]; rfl) (by
                rw [scells, List.getElem?_map, List.getElem?_drop, Nat.add_zero, hbb]; rfl) (less_ne hfy)
              intro k hk1 hk2
              rcases hk1 with e1 | e1 | e1
              · exact blkO_none e1
              · rcases hk2 with e2 | e2 | e2
                · exact blkO_none e2
                · exact ap k e1 e2
                · obtain ⟨x1, rfl, rfl⟩ := e1
                  obtain ⟨x2, rfl, e2⟩ := e2
                  exact own_apart o3 o2 (by decide) x1.block rfl (by rw [← e2]; rfl)
              · rcases hk2 with e2 | e2 | e2
                · exact blkO_none e2
                · obtain ⟨x1, rfl, rfl⟩ := e1
                  obtain ⟨x2, rfl, e2⟩ := e2
                  exact own_apart o4 o1 (by decide) x1.block rfl (by rw [← e2]; rfl)
                · obtain ⟨x1, rfl, rfl⟩ := e1
                  obtain ⟨x2, rfl, e2⟩ := e2
                  exact apx x2 x1 rfl rfl e2
          · have HK := fun W (s : Same w W) => dcheck_calls (p := p) (q := q) W (h.at_.same s) l1 l2 l3
            rw [hc] at HK
            obtain ⟨z, T, hzT⟩ : ∃ z T, cutsB K ks.length ss (ks.length - 3) = z :: T := by
              cases hq : cutsB K ks.length ss (ks.length - 3) with
              | nil => rw [hq] at hb; simp [bestS] at hb
              | cons z T => exact ⟨z, T, rfl⟩
            have hmm : ((cutsB K ks.length ss (ks.length - 3)).foldl bet z).1 = m + 1 := by
              rw [hzT] at hparts hne0 hb ⊢
              rw [← best_first hparts hne0]
              exact hb
            have hlen := cutsB_len K ks.length ss (ks.length - 3)
            have HS := HCUTS r w h hcap
            refine (dsplit_good (L := cutsB K ks.length ss (ks.length - 3)) (m := m + 1) w HR hzT (by rw [hlen]; omega) hmm HK (by rw [hlen]; exact HS) (fun W s => ?_)).mono fun e w' ⟨r1, r2, h1, h2, h3, h4⟩ => ⟨⟨r1, r2, h1, h2, h3⟩, h4⟩
            have := dcutB hs hc hk00 (i := m + 1) (by omega) (by omega) W (h.same s) hcap
            rw [Nat.add_sub_cancel, textAt_eq hx] at this
            exact this
    · refine ⟨80, _, _, ⟨#[]⟩, twoOk_zero, fun r w h hr => ?_, fun r w h hcap => ?_⟩
      · have HE := fun W => askedG_calls (p := p) (q := q) (b := chkN p q N == 0) W
        have e : askE p q (chkN p q N == 0) = 80 := by
          unfold askE
          rw [if_pos hf, if_neg (by simpa using hc)]
        rw [e] at HE
        exact (split_asked w (by decide) (fun W s => check_calls p q W (h.same s)) HE).mono fun e w' ⟨h1, h2⟩ => ⟨splitA_zero h1, h2⟩
      · exact (dsplit_shape w HR (by simpa using hc) (fun W s => dcheck_calls W (h.at_.same s) l1 l2 l3)).mono fun e w' ⟨h1, h2⟩ => ⟨splitD_zero h1, h2⟩
  · refine ⟨2, _, _, ⟨#[]⟩, twoOk_zero, fun r w h hr => ?_, fun r w h hcap => ?_⟩
    · have HE := fun W => askedG_calls (p := p) (q := q) (b := chkN p q N == 0) W
      have e : askE p q (chkN p q N == 0) = 2 := by
        unfold askE
        rw [if_neg hf]
      rw [e] at HE
      exact (split_asked w (by decide) (fun W s => check_calls p q W (h.same s)) HE).mono fun e w' ⟨h1, h2⟩ => ⟨splitA_zero h1, h2⟩
    · have HR : ∀ W, Calls Tryz.prog 40 #[frameV p q] W fun e w' => e = .returned (.bool false) ∧ Same W w' := fun W => by
        have := dright_calls p q W
        rw [Bool.not_eq_true] at hf
        rw [hf] at this
        exact this
      exact (dsplit_arg w HR).mono fun e w' ⟨h1, h2⟩ => ⟨splitD_zero h1, h2⟩
end Go.Proofs.YtdmoglnbelembaaGreat
namespace Go.Proofs.YtdmoglnbelembaaGreat
open Go.RowKit

set_option maxRecDepth 100000 in
set_option maxHeartbeats 1000000 in
theorem borrow_any {p q E : Int} {x0 x1 x2 x3 x4 x5 x6 : Value} {N N1 N2 : Nd} {sp : ByteArray} (w : World)
    (HJ : Hid (∀ W, Same w W → Calls Tryz.prog 18 #[frameV p q, .agg #[x0, x1, x2, x3, x4, x5, x6]] W fun e w' => ∃ r, e = .returned (.tuple #[ndV r N, .int .i64 0]) ∧ MadeNd w' w.heap.size r N ∧ Same W w'))
    (HF : Hid (∀ W B r, MadeNd W B r N → Calls Tryz.prog 15 #[frameV p q, ndV r N] W fun e w' => (∃ r1 r2 : Nr, e = .returned (.tuple #[.agg #[.slice r1.pa N1.ps.length r1.cp, .slice r1.sa N1.ss.length r1.cs, .slice r1.ka N1.ks.length r1.ck, .string sp, .slice r2.pa N2.ps.length r2.cp, .slice r2.sa N2.ss.length r2.cs, .slice r2.ka N2.ks.length r2.ck], .int .i64 E]) ∧ MadeNd w' W.heap.size r1 N1 ∧ MadeNd w' W.heap.size r2 N2 ∧ (∀ k, blkN r2 k → ¬ blkN r1 k)) ∧ Same W w')) :
    Calls Tryz.prog 7 #[frameV p q, .agg #[x0, x1, x2, x3, x4, x5, x6]] w fun e w' => ∃ r1 r2 : Nr, e = .returned (.tuple #[.agg #[.slice r1.pa N1.ps.length r1.cp, .slice r1.sa N1.ss.length r1.cs, .slice r1.ka N1.ks.length r1.ck, .string sp, .slice r2.pa N2.ps.length r2.cp, .slice r2.sa N2.ss.length r2.cs, .slice r2.ka N2.ks.length r2.ck], .int .i64 E]) ∧ MadeNd w' w.heap.size r1 N1 ∧ MadeNd w' w.heap.size r2 N2 ∧ Same w w' ∧ (∀ k, blkN r2 k → ¬ blkN r1 k) := by
  obtain ⟨V, hV⟩ : ∃ V, V = ((w.alloc (.cells #[.int .i64 p, .int .i64 q] 23)).alloc (.cells #[x0, x1, x2, x3, x4, x5, x6] 30)).alloc (.cells #[.slice none 0 0, .slice none 0 0, .slice none 0 0, .string ⟨#[]⟩, .slice none 0 0, .slice none 0 0, .slice none 0 0] 30) := ⟨_, rfl⟩
  have t1 : Same w V := by rw [hV]; exact (((Fr.refl _ w).alloc _).alloc _).alloc _
  obtain ⟨g0, g1, g2⟩ := three_boxes w (.cells #[.int .i64 p, .int .i64 q] 23) (.cells #[x0, x1, x2, x3, x4, x5, x6] 30) (.cells #[.slice none 0 0, .slice none 0 0, .slice none 0 0, .string ⟨#[]⟩, .slice none 0 0, .slice none 0 0, .slice none 0 0] 30)
  rw [← hV] at g0 g1 g2
  have HC : Hid (∀ W, Same V W → W.cell? ⟨w.heap.size, 0, none⟩ = some (.int .i64 p) ∧ W.cell? ⟨w.heap.size, 1, none⟩ = some (.int .i64 q)) := fun W s => ⟨s.keep (by rw [cell_of_row _ _ _ _ _ _ g0]; rfl), s.keep (by rw [cell_of_row _ _ _ _ _ _ g0]; rfl)⟩
  have HG : Hid (∀ W, Same V W → W.heap[w.heap.size + 1 + 1]? = some (.cells #[.slice none 0 0, .slice none 0 0, .slice none 0 0, .string ⟨#[]⟩, .slice none 0 0, .slice none 0 0, .slice none 0 0] 30 (0, 0))) := fun W s => (s.block _ (lt_of_heap g2) (fun e => e)).trans g2
  have HZ : Hid (w.heap.size + 3 ≤ V.heap.size) := by show _ ≤ _; rw [hV]; simp
  clear g0 g1 g2
  go_enter Tryz.func7, Tryz.ntmps7
  go_wp2_with fail
  rw [← hV]
  clear hV
  refine (HJ.out _ t1).mono ?_
  rintro e W1 ⟨r, rfl, m1, s1⟩
  obtain ⟨X, hX⟩ : ∃ X, X = W1.alloc (.cells #[.slice r.pa N.ps.length r.cp, .slice r.sa N.ss.length r.cs, .slice r.ka N.ks.length r.ck] 28) := ⟨_, rfl⟩
  have sX : Same V X := by rw [hX]; exact Fr.alloc s1 _
  have rX : X.heap[W1.heap.size]? = some (.cells #[.slice r.pa N.ps.length r.cp, .slice r.sa N.ss.length r.cs, .slice r.ka N.ks.length r.ck] 28 (0, 0)) := by rw [hX]; exact heap_alloc_new W1 _
  have HM : Hid (MadeNd X w.heap.size r N) := by rw [hX]; exact ⟨m1.op.alloc _, m1.os.alloc _, m1.ok.alloc _⟩
  have HN : Hid (∀ W, Same X W → W.cell? ⟨W1.heap.size, 0, none⟩ = some (.slice r.pa N.ps.length r.cp) ∧ W.cell? ⟨W1.heap.size, 1, none⟩ = some (.slice r.sa N.ss.length r.cs) ∧ W.cell? ⟨W1.heap.size, 2, none⟩ = some (.slice r.ka N.ks.length r.ck)) := fun W s => ⟨s.keep ((cell_of_row _ _ _ _ _ _ rX).trans rfl), s.keep ((cell_of_row _ _ _ _ _ _ rX).trans rfl), s.keep ((cell_of_row _ _ _ _ _ _ rX).trans rfl)⟩
  clear m1 rX
  obtain ⟨f0, f1⟩ := HC.out _ sX
  obtain ⟨n0, n1, n2⟩ := HN.out _ (Fr.refl _ X)
  rw [hX] at f0 f1 n0 n1 n2
  go_wp2_with fail
  rw [← hX]
  rw [← hX] at f0 f1 n0 n1 n2
  clear hX
  refine (HF.out _ _ _ HM.out).mono ?_
  rintro e W2 ⟨⟨r1, r2, rfl, k1, k2, apx⟩, s2⟩
  have u2 := sX.trans s2
  have r6 := HG.out _ u2
  have z2 := (t1.trans sX).size
  have h1 : MadeNd W2 w.heap.size r1 N1 := ⟨own_base k1.op z2, own_base k1.os z2, own_base k1.ok z2⟩
  have h2 : MadeNd W2 w.heap.size r2 N2 := ⟨own_base k2.op z2, own_base k2.os z2, own_base k2.ok z2⟩
  clear f0 f1 n0 n1 n2 k1 k2
  go_wp2_with (refine wpList_store_whole (by rfl) 30 _ _ (by rfl) (w.heap.size + 1 + 1) #[.slice r1.pa N1.ps.length r1.cp, .slice r1.sa N1.ss.length r1.cs, .slice r1.ka N1.ks.length r1.ck, .string sp, .slice r2.pa N2.ps.length r2.cp, .slice r2.sa N2.ss.length r2.cs, .slice r2.ka N2.ks.length r2.ck] _ 30 (by rfl) (by rfl) r6 rfl (by kernel_rfl) (by kernel_rfl) ?_; intro W7 r7 f7)
  exact bodyPost_ret (results_row_tmp (p := 4) (u := 5) (ty := 30) (by kernel_rfl) _ _ (w.heap.size + 1 + 1) 30 _ (0, 0) _ rfl r7 Tryz.underlying30 rfl (by kernel_rfl)) rfl ⟨r1, r2, rfl, ⟨own_frameB h1.op f7 (fun kk hk e => type_ne h1.op r6 (by decide) (by rw [hk, e] <;> rfl)), own_frameB h1.os f7 (fun kk hk e => type_ne h1.os r6 (by decide) (by rw [hk, e] <;> rfl)), own_frameB h1.ok f7 (fun kk hk e => type_ne h1.ok r6 (by decide) (by rw [hk, e] <;> rfl))⟩, ⟨own_frameB h2.op f7 (fun kk hk e => type_ne h2.op r6 (by decide) (by rw [hk, e] <;> rfl)), own_frameB h2.os f7 (fun kk hk e => type_ne h2.os r6 (by decide) (by rw [hk, e] <;> rfl)), own_frameB h2.ok f7 (fun kk hk e => type_ne h2.ok r6 (by decide) (by rw [hk, e] <;> rfl))⟩, Fr.trans (t1.trans u2) f7 (fun i hi e => by omega), apx⟩
set_option maxRecDepth 100000 in
set_option maxHeartbeats 1000000 in
theorem dborrow_any {p q E : Int} {x0 x1 x2 x3 x4 x5 x6 : Value} {N N1 N2 : Nd} {sp : ByteArray} (w : World)
    (HJ : Hid (∀ W, Same w W → Calls Tryz.prog 19 #[frameV p q, .agg #[x0, x1, x2, x3, x4, x5, x6]] W fun e w' => ∃ r, e = .returned (.tuple #[ndV r N, .int .i64 0]) ∧ MadeNd w' w.heap.size r N ∧ Same W w'))
    (HF : Hid (∀ W B r, MadeNd W B r N → Calls Tryz.prog 20 #[frameV p q, ndV r N] W fun e w' => (∃ r1 r2 : Nr, e = .returned (.tuple #[.agg #[.slice r1.pa N1.ps.length r1.cp, .slice r1.sa N1.ss.length r1.cs, .slice r1.ka N1.ks.length r1.ck, .string sp, .slice r2.pa N2.ps.length r2.cp, .slice r2.sa N2.ss.length r2.cs, .slice r2.ka N2.ks.length r2.ck], .int .i64 E]) ∧ MadeNd w' W.heap.size r1 N1 ∧ MadeNd w' W.heap.size r2 N2 ∧ True) ∧ Same W w')) :
    Calls Tryz.prog 8 #[frameV p q, .agg #[x0, x1, x2, x3, x4, x5, x6]] w fun e w' => ∃ r1 r2 : Nr, e = .returned (.tuple #[.agg #[.slice r1.pa N1.ps.length r1.cp, .slice r1.sa N1.ss.length r1.cs, .slice r1.ka N1.ks.length r1.ck, .string sp, .slice r2.pa N2.ps.length r2.cp, .slice r2.sa N2.ss.length r2.cs, .slice r2.ka N2.ks.length r2.ck], .int .i64 E]) ∧ MadeNd w' w.heap.size r1 N1 ∧ MadeNd w' w.heap.size r2 N2 ∧ Same w w' ∧ True := by
  obtain ⟨V, hV⟩ : ∃ V, V = ((w.alloc (.cells #[.int .i64 p, .int .i64 q] 23)).alloc (.cells #[x0, x1, x2, x3, x4, x5, x6] 30)).alloc (.cells #[.slice none 0 0, .slice none 0 0, .slice none 0 0, .string ⟨#[]⟩, .slice none 0 0, .slice none 0 0, .slice none 0 0] 30) := ⟨_, rfl⟩
  have t1 : Same w V := by rw [hV]; exact (((Fr.refl _ w).alloc _).alloc _).alloc _
  obtain ⟨g0, g1, g2⟩ := three_boxes w (.cells #[.int .i64 p, .int .i64 q] 23) (.cells #[x0, x1, x2, x3, x4, x5, x6] 30) (.cells #[.slice none 0 0, .slice none 0 0, .slice none 0 0, .string ⟨#[]⟩, .slice none 0 0, .slice none 0 0, .slice none 0 0] 30)
  rw [← hV] at g0 g1 g2
  have HC : Hid (∀ W, Same V W → W.cell? ⟨w.heap.size, 0, none⟩ = some (.int .i64 p) ∧ W.cell? ⟨w.heap.size, 1, none⟩ = some (.int .i64 q)) := fun W s => ⟨s.keep (by rw [cell_of_row _ _ _ _ _ _ g0]; rfl), s.keep (by rw [cell_of_row _ _ _ _ _ _ g0]; rfl)⟩
  have HG : Hid (∀ W, Same V W → W.heap[w.heap.size + 1 + 1]? = some (.cells #[.slice none 0 0, .slice none 0 0, .slice none 0 0, .string ⟨#[]⟩, .slice none 0 0, .slice none 0 0, .slice none 0 0] 30 (0, 0))) := fun W s => (s.block _ (lt_of_heap g2) (fun e => e)).trans g2
  have HZ : Hid (w.heap.size + 3 ≤ V.heap.size) := by show _ ≤ _; rw [hV]; simp
  clear g0 g1 g2
  go_enter Tryz.func8, Tryz.ntmps8
  go_wp2_with fail
  rw [← hV]
  clear hV
  refine (HJ.out _ t1).mono ?_
  rintro e W1 ⟨r, rfl, m1, s1⟩
  obtain ⟨X, hX⟩ : ∃ X, X = W1.alloc (.cells #[.slice r.pa N.ps.length r.cp, .slice r.sa N.ss.length r.cs, .slice r.ka N.ks.length r.ck] 28) := ⟨_, rfl⟩
  have sX : Same V X := by rw [hX]; exact Fr.alloc s1 _
  have rX : X.heap[W1.heap.size]? = some (.cells #[.slice r.pa N.ps.length r.cp, .slice r.sa N.ss.length r.cs, .slice r.ka N.ks.length r.ck] 28 (0, 0)) := by rw [hX]; exact heap_alloc_new W1 _
  have HM : Hid (MadeNd X w.heap.size r N) := by rw [hX]; exact ⟨m1.op.alloc _, m1.os.alloc _, m1.ok.alloc _⟩
  have HN : Hid (∀ W, Same X W → W.cell? ⟨W1.heap.size, 0, none⟩ = some (.slice r.pa N.ps.length r.cp) ∧ W.cell? ⟨W1.heap.size, 1, none⟩ = some (.slice r.sa N.ss.length r.cs) ∧ W.cell? ⟨W1.heap.size, 2, none⟩ = some (.slice r.ka N.ks.length r.ck)) := fun W s => ⟨s.keep ((cell_of_row _ _ _ _ _ _ rX).trans rfl), s.keep ((cell_of_row _ _ _ _ _ _ rX).trans rfl), s.keep ((cell_of_row _ _ _ _ _ _ rX).trans rfl)⟩
  clear m1 rX
  obtain ⟨f0, f1⟩ := HC.out _ sX
  obtain ⟨n0, n1, n2⟩ := HN.out _ (Fr.refl _ X)
  rw [hX] at f0 f1 n0 n1 n2
  go_wp2_with fail
  rw [← hX]
  rw [← hX] at f0 f1 n0 n1 n2
  clear hX
  refine (HF.out _ _ _ HM.out).mono ?_
  rintro e W2 ⟨⟨r1, r2, rfl, k1, k2, apx⟩, s2⟩
  have u2 := sX.trans s2
  have r6 := HG.out _ u2
  have z2 := (t1.trans sX).size
  have h1 : MadeNd W2 w.heap.size r1 N1 := ⟨own_base k1.op z2, own_base k1.os z2, own_base k1.ok z2⟩
  have h2 : MadeNd W2 w.heap.size r2 N2 := ⟨own_base k2.op z2, own_base k2.os z2, own_base k2.ok z2⟩
  clear f0 f1 n0 n1 n2 k1 k2
  go_wp2_with (refine wpList_store_whole (by rfl) 30 _ _ (by rfl) (w.heap.size + 1 + 1) #[.slice r1.pa N1.ps.length r1.cp, .slice r1.sa N1.ss.length r1.cs, .slice r1.ka N1.ks.length r1.ck, .string sp, .slice r2.pa N2.ps.length r2.cp, .slice r2.sa N2.ss.length r2.cs, .slice r2.ka N2.ks.length r2.ck] _ 30 (by rfl) (by rfl) r6 rfl (by kernel_rfl) (by kernel_rfl) ?_; intro W7 r7 f7)
  exact bodyPost_ret (results_row_tmp (p := 4) (u := 5) (ty := 30) (by kernel_rfl) _ _ (w.heap.size + 1 + 1) 30 _ (0, 0) _ rfl r7 Tryz.underlying30 rfl (by kernel_rfl)) rfl ⟨r1, r2, rfl, ⟨own_frameB h1.op f7 (fun kk hk e => type_ne h1.op r6 (by decide) (by rw [hk, e] <;> rfl)), own_frameB h1.os f7 (fun kk hk e => type_ne h1.os r6 (by decide) (by rw [hk, e] <;> rfl)), own_frameB h1.ok f7 (fun kk hk e => type_ne h1.ok r6 (by decide) (by rw [hk, e] <;> rfl))⟩, ⟨own_frameB h2.op f7 (fun kk hk e => type_ne h2.op r6 (by decide) (by rw [hk, e] <;> rfl)), own_frameB h2.os f7 (fun kk hk e => type_ne h2.os r6 (by decide) (by rw [hk, e] <;> rfl)), own_frameB h2.ok f7 (fun kk hk e => type_ne h2.ok r6 (by decide) (by rw [hk, e] <;> rfl))⟩, Fr.trans (t1.trans u2) f7 (fun i hi e => by omega), apx⟩
set_option maxRecDepth 100000 in
set_option maxHeartbeats 1000000 in
theorem borrow_badE {p q E : Int} {x0 x1 x2 x3 x4 x5 x6 : Value} (w : World) (hE : (E != 0) = true)
    (HJ : Hid (∀ W, Same w W → Calls Tryz.prog 18 #[frameV p q, .agg #[x0, x1, x2, x3, x4, x5, x6]] W fun e w' => e = .returned (.tuple #[nodeV none 0 0 none 0 0 none 0 0, .int .i64 E]) ∧ Same W w')) :
    Calls Tryz.prog 7 #[frameV p q, .agg #[x0, x1, x2, x3, x4, x5, x6]] w fun e w' => e = .returned (.tuple #[.agg #[.slice none 0 0, .slice none 0 0, .slice none 0 0, .string ⟨#[]⟩, .slice none 0 0, .slice none 0 0, .slice none 0 0], .int .i64 E]) ∧ Same w w' := by
  obtain ⟨V, hV⟩ : ∃ V, V = ((w.alloc (.cells #[.int .i64 p, .int .i64 q] 23)).alloc (.cells #[x0, x1, x2, x3, x4, x5, x6] 30)).alloc (.cells #[.slice none 0 0, .slice none 0 0, .slice none 0 0, .string ⟨#[]⟩, .slice none 0 0, .slice none 0 0, .slice none 0 0] 30) := ⟨_, rfl⟩
  have t1 : Same w V := by rw [hV]; exact (((Fr.refl _ w).alloc _).alloc _).alloc _
  obtain ⟨g0, g1, g2⟩ := three_boxes w (.cells #[.int .i64 p, .int .i64 q] 23) (.cells #[x0, x1, x2, x3, x4, x5, x6] 30) (.cells #[.slice none 0 0, .slice none 0 0, .slice none 0 0, .string ⟨#[]⟩, .slice none 0 0, .slice none 0 0, .slice none 0 0] 30)
  rw [← hV] at g0 g1 g2
  have HC : Hid (∀ W, Same V W → W.cell? ⟨w.heap.size, 0, none⟩ = some (.int .i64 p) ∧ W.cell? ⟨w.heap.size, 1, none⟩ = some (.int .i64 q)) := fun W s => ⟨s.keep (by rw [cell_of_row _ _ _ _ _ _ g0]; rfl), s.keep (by rw [cell_of_row _ _ _ _ _ _ g0]; rfl)⟩
  have HG : Hid (∀ W, Same V W → W.heap[w.heap.size + 1 + 1]? = some (.cells #[.slice none 0 0, .slice none 0 0, .slice none 0 0, .string ⟨#[]⟩, .slice none 0 0, .slice none 0 0, .slice none 0 0] 30 (0, 0))) := fun W s => (s.block _ (lt_of_heap g2) (fun e => e)).trans g2
  have HZ : Hid (w.heap.size + 3 ≤ V.heap.size) := by show _ ≤ _; rw [hV]; simp
  clear g0 g1 g2
  go_enter Tryz.func7, Tryz.ntmps7
  go_wp2_with fail
  rw [← hV]
  clear hV
  refine (HJ.out _ t1).mono ?_
  rintro e W1 ⟨rfl, s1⟩
  obtain ⟨X, hX⟩ : ∃ X, X = W1.alloc (.cells #[.slice none 0 0, .slice none 0 0, .slice none 0 0] 28) := ⟨_, rfl⟩
  have sX : Same V X := by rw [hX]; exact Fr.alloc s1 _
  obtain ⟨f0, f1⟩ := HC.out _ sX
  have r6 := HG.out _ sX
  rw [hX] at f0 f1 r6
  go_wp2_with (refine wpList_store_whole (by rfl) 30 _ _ (by rfl) (w.heap.size + 1 + 1) #[.slice none 0 0, .slice none 0 0, .slice none 0 0, .string ⟨#[]⟩, .slice none 0 0, .slice none 0 0, .slice none 0 0] _ 30 (by rfl) (by rfl) r6 rfl (by kernel_rfl) (by kernel_rfl) ?_; intro W7 r7 f7)
  rw [← hX] at f7
  exact bodyPost_ret (results_row_tmp (p := 4) (u := 5) (ty := 30) (by kernel_rfl) _ _ (w.heap.size + 1 + 1) 30 _ (0, 0) _ rfl r7 Tryz.underlying30 rfl (by kernel_rfl)) rfl ⟨rfl, Fr.trans (t1.trans sX) f7 (fun i hi e => by omega)⟩
set_option maxRecDepth 100000 in
set_option maxHeartbeats 1000000 in
theorem dborrow_badE {p q E : Int} {x0 x1 x2 x3 x4 x5 x6 : Value} (w : World) (hE : (E != 0) = true)
    (HJ : Hid (∀ W, Same w W → Calls Tryz.prog 19 #[frameV p q, .agg #[x0, x1, x2, x3, x4, x5, x6]] W fun e w' => e = .returned (.tuple #[nodeV none 0 0 none 0 0 none 0 0, .int .i64 E]) ∧ Same W w')) :
    Calls Tryz.prog 8 #[frameV p q, .agg #[x0, x1, x2, x3, x4, x5, x6]] w fun e w' => e = .returned (.tuple #[.agg #[.slice none 0 0, .slice none 0 0, .slice none 0 0, .string ⟨#[]⟩, .slice none 0 0, .slice none 0 0, .slice none 0 0], .int .i64 E]) ∧ Same w w' := by
  obtain ⟨V, hV⟩ : ∃ V, V = ((w.alloc (.cells #[.int .i64 p, .int .i64 q] 23)).alloc (.cells #[x0, x1, x2, x3, x4, x5, x6] 30)).alloc (.cells #[.slice none 0 0, .slice none 0 0, .slice none 0 0, .string ⟨#[]⟩, .slice none 0 0, .slice none 0 0, .slice none 0 0] 30) := ⟨_, rfl⟩
  have t1 : Same w V := by rw [hV]; exact (((Fr.refl _ w).alloc _).alloc _).alloc _
  obtain ⟨g0, g1, g2⟩ := three_boxes w (.cells #[.int .i64 p, .int .i64 q] 23) (.cells #[x0, x1, x2, x3, x4, x5, x6] 30) (.cells #[.slice none 0 0, .slice none 0 0, .slice none 0 0, .string ⟨#[]⟩, .slice none 0 0, .slice none 0 0, .slice none 0 0] 30)
  rw [← hV] at g0 g1 g2
  have HC : Hid (∀ W, Same V W → W.cell? ⟨w.heap.size, 0, none⟩ = some (.int .i64 p) ∧ W.cell? ⟨w.heap.size, 1, none⟩ = some (.int .i64 q)) := fun W s => ⟨s.keep (by rw [cell_of_row _ _ _ _ _ _ g0]; rfl), s.keep (by rw [cell_of_row _ _ _ _ _ _ g0]; rfl)⟩
  have HG : Hid (∀ W, Same V W → W.heap[w.heap.size + 1 + 1]? = some (.cells #[.slice none 0 0, .slice none 0 0, .slice none 0 0, .string ⟨#[]⟩, .slice none 0 0, .slice none 0 0, .slice none 0 0] 30 (0, 0))) := fun W s => (s.block _ (lt_of_heap g2) (fun e => e)).trans g2
  have HZ : Hid (w.heap.size + 3 ≤ V.heap.size) := by show _ ≤ _; rw [hV]; simp
  clear g0 g1 g2
  go_enter Tryz.func8, Tryz.ntmps8
  go_wp2_with fail
  rw [← hV]
  clear hV
  refine (HJ.out _ t1).mono ?_
  rintro e W1 ⟨rfl, s1⟩
  obtain ⟨X, hX⟩ : ∃ X, X = W1.alloc (.cells #[.slice none 0 0, .slice none 0 0, .slice none 0 0] 28) := ⟨_, rfl⟩
  have sX : Same V X := by rw [hX]; exact Fr.alloc s1 _
  obtain ⟨f0, f1⟩ := HC.out _ sX
  have r6 := HG.out _ sX
  rw [hX] at f0 f1 r6
  go_wp2_with (refine wpList_store_whole (by rfl) 30 _ _ (by rfl) (w.heap.size + 1 + 1) #[.slice none 0 0, .slice none 0 0, .slice none 0 0, .string ⟨#[]⟩, .slice none 0 0, .slice none 0 0, .slice none 0 0] _ 30 (by rfl) (by rfl) r6 rfl (by kernel_rfl) (by kernel_rfl) ?_; intro W7 r7 f7)
  rw [← hX] at f7
  exact bodyPost_ret (results_row_tmp (p := 4) (u := 5) (ty := 30) (by kernel_rfl) _ _ (w.heap.size + 1 + 1) 30 _ (0, 0) _ rfl r7 Tryz.underlying30 rfl (by kernel_rfl)) rfl ⟨rfl, Fr.trans (t1.trans sX) f7 (fun i hi e => by omega)⟩
end Go.Proofs.YtdmoglnbelembaaGreat
namespace Go.Proofs.YtdmoglnbelembaaGreat
open Go.RowKit

theorem own_noneN {w : World} {base : Nat} {e : TypeId} {sz n c : Nat} {ao : Option Addr} {xs : List Value} (h : w.ownsRow base e sz (.slice ao n c) n xs) (h1 : ∀ u ∈ xs, u.oneCell' = true) : ao = none → c = 0 := fun e => ((own_partG h h1).none e).2
theorem MadeNd.allN {w : World} {B : Nat} {r : Nr} {N : Nd} (h : MadeNd w B r N) (hs : NdSmall N) (hk : ∀ x ∈ N.ks, KidOk x) : ∃ r' : Nr, ndV r' N = ndV r N ∧ NdIn w r' N ∧ NdRoom r' N ∧ NdCapN r' N := by
  obtain ⟨g1, r1⟩ := own_prow (own_base h.op (Nat.zero_le _)) rfl
  obtain ⟨g2, r2⟩ := own_trow (own_base h.os (Nat.zero_le _)) rfl
  obtain ⟨g3, r3⟩ := own_krow hk (own_base h.ok (Nat.zero_le _)) rfl
  obtain ⟨l1, l2, l3, _⟩ := hs.lens
  exact ⟨{ r with pb := g1, po := 0, sb := g2, so := 0, kb := g3, ko := 0 }, rfl, ⟨⟨r1, r2, r3, hk, by omega, by omega, by omega⟩, own_partG h.op (pcells_one _), own_partG h.os (scells_one _), own_partG h.ok (kcellsL_one _)⟩, ⟨own_capB h.op, own_capB h.os, own_capB h.ok, own_noneN h.op (pcells_one _), own_noneN h.os (scells_one _), own_noneN h.ok (kcellsL_one _), own_addr h.op, own_addr h.os, own_addr h.ok⟩, ⟨own_capB h.op, own_capB h.os, own_capB h.ok⟩⟩
theorem joined_bad {p q : Int} {r1 r2 : Nr} {N1 N2 : Nd} {sp : ByteArray} (w : World) (i1 : NdIn w r1 N1) (i2 : NdIn w r2 N2) (m1 : NdRoom r1 N1) (h : Small2 N1 N2 sp) (hE : (joinP p q N1 N2 sp).2 ≠ 0) :
    Calls Tryz.prog 18 #[frameV p q, .agg (halvesN r1 r2 N1 N2 sp)] w fun e w' => e = .returned (.tuple #[nodeV none 0 0 none 0 0 none 0 0, .int .i64 (joinP p q N1 N2 sp).2]) ∧ Same w w' := by
  refine (joined_calls w i1 i2 m1 h.lens.1 h.lens.2 h.hk).mono fun e w' ⟨r, h1, h2, h3, h4⟩ => ⟨?_, h3⟩
  have hr := h4 hE
  rw [hr] at h1 h2
  obtain ⟨e1, _⟩ := (own_partG h2.op (pcells_one _)).none rfl
  obtain ⟨e2, _⟩ := (own_partG h2.os (scells_one _)).none rfl
  obtain ⟨e3, _⟩ := (own_partG h2.ok (kcellsL_one _)).none rfl
  simp only at e1 e2 e3
  unfold ndV at h1
  rw [e1, e2, e3] at h1
  exact h1
theorem one_bad {p q : Int} {r1 r2 : Nr} {N1 N2 : Nd} {sp : ByteArray} (w : World) (i1 : NdIn w r1 N1) (i2 : NdIn w r2 N2) (h : Small2 N1 N2 sp) (hE : (joinP p q N1 N2 sp).2 ≠ 0) :
    Calls Tryz.prog 19 #[frameV p q, .agg (halvesN r1 r2 N1 N2 sp)] w fun e w' => e = .returned (.tuple #[nodeV none 0 0 none 0 0 none 0 0, .int .i64 (joinP p q N1 N2 sp).2]) ∧ Same w w' := by
  refine (one_calls w i1 i2 h.one h.two).mono fun e w' ⟨r, h1, h2, h3, h4⟩ => ⟨?_, h3⟩
  have hr := h4 hE
  rw [hr] at h1 h2
  obtain ⟨e1, _⟩ := (own_partG h2.op (pcells_one _)).none rfl
  obtain ⟨e2, _⟩ := (own_partG h2.os (scells_one _)).none rfl
  obtain ⟨e3, _⟩ := (own_partG h2.ok (kcellsL_one _)).none rfl
  simp only at e1 e2 e3
  unfold ndV at h1
  rw [e1, e2, e3] at h1
  exact h1
theorem joined_ok {p q : Int} {r1 r2 : Nr} {N1 N2 : Nd} {sp : ByteArray} (w : World) (i1 : NdIn w r1 N1) (i2 : NdIn w r2 N2) (m1 : NdRoom r1 N1) (h : Small2 N1 N2 sp) (hE : (joinP p q N1 N2 sp).2 = 0) :
    ∀ W, Same w W → Calls Tryz.prog 18 #[frameV p q, .agg (halvesN r1 r2 N1 N2 sp)] W fun e w' => ∃ r, e = .returned (.tuple #[ndV r (joinP p q N1 N2 sp).1, .int .i64 0]) ∧ MadeNd w' w.heap.size r (joinP p q N1 N2 sp).1 ∧ Same W w' := fun W s => by
  have := joined_calls (p := p) (q := q) (sp := sp) W (i1.same s) (i2.same s) m1 h.lens.1 h.lens.2 h.hk
  rw [hE] at this
  exact this.mono fun e w' ⟨r, h1, h2, h3, _⟩ => ⟨r, h1, ⟨own_base h2.op s.size, own_base h2.os s.size, own_base h2.ok s.size⟩, h3⟩
theorem one_ok {p q : Int} {r1 r2 : Nr} {N1 N2 : Nd} {sp : ByteArray} (w : World) (i1 : NdIn w r1 N1) (i2 : NdIn w r2 N2) (h : Small2 N1 N2 sp) (hE : (joinP p q N1 N2 sp).2 = 0) :
    ∀ W, Same w W → Calls Tryz.prog 19 #[frameV p q, .agg (halvesN r1 r2 N1 N2 sp)] W fun e w' => ∃ r, e = .returned (.tuple #[ndV r (joinP p q N1 N2 sp).1, .int .i64 0]) ∧ MadeNd w' w.heap.size r (joinP p q N1 N2 sp).1 ∧ Same W w' := fun W s => by
  have := one_calls (p := p) (q := q) (sp := sp) W (i1.same s) (i2.same s) h.one h.two
  rw [hE] at this
  exact this.mono fun e w' ⟨r, h1, h2, h3, _⟩ => ⟨r, h1, ⟨own_base h2.op s.size, own_base h2.os s.size, own_base h2.ok s.size⟩, h3⟩
theorem borrow_both {p q : Int} {N1 N2 : Nd} {sp : ByteArray} (h : Small2 N1 N2 sp) (k1 : ∀ x ∈ N1.ks, KidOk x) (k2 : ∀ x ∈ N2.ks, KidOk x) :
    ∃ (E : Int) (M1 M2 : Nd) (sq : ByteArray), TwoOk M1 M2 ∧
      (∀ (r1 r2 : Nr) (w : World), NdIn w r1 N1 → NdIn w r2 N2 → NdRoom r1 N1 → Calls Tryz.prog 7 #[frameV p q, .agg (halvesN r1 r2 N1 N2 sp)] w fun e w' => SplitA w.heap.size M1 M2 sq E e w' ∧ Same w w') ∧
      (∀ (r1 r2 : Nr) (w : World), NdIn w r1 N1 → NdIn w r2 N2 → Calls Tryz.prog 8 #[frameV p q, .agg (halvesN r1 r2 N1 N2 sp)] w fun e w' => SplitD w.heap.size M1 M2 sq E e w' ∧ Same w w') := by
  obtain ⟨hs, hk⟩ := join_small (p := p) (q := q) h k1 k2
  by_cases hE : (joinP p q N1 N2 sp).2 = 0
  · obtain ⟨E, M1, M2, sq, ok, hP, hD⟩ := split_both (p := p) (q := q) hs hk
    refine ⟨E, M1, M2, sq, ok, fun r1 r2 w i1 i2 m1 => ?_, fun r1 r2 w i1 i2 => ?_⟩
    · refine (borrow_any (N := (joinP p q N1 N2 sp).1) w (joined_ok w i1 i2 m1 h hE) (fun W B r m => ?_)).mono fun e w' ⟨a, b, h1, h2, h3, h4, h5⟩ => ⟨⟨a, b, h1, h2, h3, h5⟩, h4⟩
      obtain ⟨r', er, ni, nr, _⟩ := m.allN hs hk
      rw [← er]
      exact (hP r' W ni.at_ nr).mono fun e w' ⟨⟨a, b, h1, h2, h3, h4⟩, h5⟩ => ⟨⟨a, b, h1, h2, h3, h4⟩, h5⟩
    · refine (dborrow_any (N := (joinP p q N1 N2 sp).1) w (one_ok w i1 i2 h hE) (fun W B r m => ?_)).mono fun e w' ⟨a, b, h1, h2, h3, h4, _⟩ => ⟨⟨a, b, h1, h2, h3⟩, h4⟩
      obtain ⟨r', er, ni, _, nc⟩ := m.allN hs hk
      rw [← er]
      exact (hD r' W ni nc).mono fun e w' ⟨⟨a, b, h1, h2, h3⟩, h5⟩ => ⟨⟨a, b, h1, h2, h3, trivial⟩, h5⟩
  · refine ⟨(joinP p q N1 N2 sp).2, _, _, ⟨#[]⟩, twoOk_zero, fun r1 r2 w i1 i2 m1 => ?_, fun r1 r2 w i1 i2 => ?_⟩
    · exact (borrow_badE w (by simpa using hE) (fun W s => joined_bad W (i1.same s) (i2.same s) m1 h hE)).mono fun e w' ⟨h1, h2⟩ => ⟨splitA_zero h1, h2⟩
    · exact (dborrow_badE w (by simpa using hE) (fun W s => one_bad W (i1.same s) (i2.same s) h hE)).mono fun e w' ⟨h1, h2⟩ => ⟨splitD_zero h1, h2⟩
end Go.Proofs.YtdmoglnbelembaaGreat
