/- Split of both sides: the same halves, the program's apart. -/
import Derived.Test.YtgihhegkldmhfaaCDJ
import Derived.Test.YtgihhegkldmhfaaB7J
import Derived.Test.YtgihhegkldmhfaaGO1J
import Derived.Test.YtgihhegkldmhfaaCJ
namespace Go.Proofs.Ytgihhegkldmhfaa
open Go.RowKit

set_option maxRecDepth 100000 in
set_option maxHeartbeats 4000000 in
theorem halved_branchA {r : Nr} {N : Nd} {m : Nat} {sp : ByteArray} (w : World) (hr : TRow w r.sa r.sb r.so N.ss) (hk : 0 < N.ks.length) (hx : N.ss[m]? = some sp) (hn : N.ss.length ≤ 1048576)
    (HF1 : Hid (∀ W, Same w W → Calls Try.prog 38 #[.slice r.sa N.ss.length r.cs, .int .i64 (m : Int)] W fun e w' => ∃ ao' c', e = .returned (.slice ao' m c') ∧ w'.ownsRow W.heap.size 9 1 (.slice ao' m c') m (scells (N.ss.take m)) ∧ Same W w'))
    (HF2 : Hid (∀ W, Same w W → Calls Try.prog 39 #[.slice r.ka N.ks.length r.ck, .int .i64 ((m + 1 : Nat) : Int)] W fun e w' => ∃ ao' c', e = .returned (.slice ao' (m + 1) c') ∧ w'.ownsRow W.heap.size 53 33 (.slice ao' (m + 1) c') (m + 1) (kcellsL (N.ks.take (m + 1))) ∧ Same W w'))
    (HW1 : Hid (∀ W, Same w W → Calls Try.prog 40 #[.slice r.sa N.ss.length r.cs, .int .i64 0, .int .i64 ((m + 1 : Nat) : Int)] W fun e w' => ∃ ao' c', e = .returned (.slice ao' (N.ss.length - (m + 1)) c') ∧ w'.ownsRow W.heap.size 9 1 (.slice ao' (N.ss.length - (m + 1)) c') (N.ss.length - (m + 1)) (scells (N.ss.drop (m + 1))) ∧ Same W w'))
    (HW2 : Hid (∀ W, Same w W → Calls Try.prog 41 #[.slice r.ka N.ks.length r.ck, .int .i64 0, .int .i64 ((m + 1 : Nat) : Int)] W fun e w' => ∃ ao' c', e = .returned (.slice ao' (N.ks.length - (m + 1)) c') ∧ w'.ownsRow W.heap.size 53 33 (.slice ao' (N.ks.length - (m + 1)) c') (N.ks.length - (m + 1)) (kcellsL (N.ks.drop (m + 1))) ∧ Same W w')) :
    Calls Try.prog 20 #[ndV r N, .int .i64 ((m + 1 : Nat) : Int)] w fun e w' => ∃ ao1 c1 ao2 c2 ao3 c3 ao4 c4, e = .returned (.agg #[.slice none 0 0, .slice ao1 m c1, .slice ao2 (m + 1) c2, .string sp, .slice none 0 0, .slice ao3 (N.ss.length - (m + 1)) c3, .slice ao4 (N.ks.length - (m + 1)) c4]) ∧ w'.ownsRow w.heap.size 9 1 (.slice ao1 m c1) m (scells (N.ss.take m)) ∧ w'.ownsRow w.heap.size 53 33 (.slice ao2 (m + 1) c2) (m + 1) (kcellsL (N.ks.take (m + 1))) ∧ w'.ownsRow w.heap.size 9 1 (.slice ao3 (N.ss.length - (m + 1)) c3) (N.ss.length - (m + 1)) (scells (N.ss.drop (m + 1))) ∧ w'.ownsRow w.heap.size 53 33 (.slice ao4 (N.ks.length - (m + 1)) c4) (N.ks.length - (m + 1)) (kcellsL (N.ks.drop (m + 1))) ∧ Same w w' ∧ (∀ x y : Addr, ao2 = some x → ao4 = some y → x.block ≠ y.block) := by
  have hl : m < N.ss.length := (List.getElem?_eq_some_iff.1 hx).1
  obtain ⟨hpa, _⟩ := hr.place (fun h => by rw [h] at hl; simp at hl)
  have c0 := hr.cells m sp hx
  obtain ⟨n, hnn⟩ : ∃ n, n = m + 1 := ⟨_, rfl⟩
  rw [← hnn] at HF2 HW1 HW2 ⊢
  rw [hpa] at HF1 HW1
  have e1 : RowKit.wrap64 ((n : Int) - 1) = (m : Int) := by unfold RowKit.wrap64; omega
  have e2 : (n : Int) - 1 = (m : Int) := by omega
  have e3 : IntKind.i64.wrap (m : Int) = (m : Int) := by rw [IntKind.wrap_i64]; omega
  have b0 : (m : Int) < (N.ss.length : Int) := by omega
  have b2 : (0 : Int) ≤ (m : Int) := by omega
  have b4 : (0 : Int) < (N.ks.length : Int) := by omega
  have HC : Hid (w.cell? ⟨r.sb, r.so + m, none⟩ = some (.string sp)) := c0
  have HM : Hid (n = m + 1) := hnn
  clear c0 hnn hl hx hr
  go_enter Try.func20, Try.ntmps20
  go_wp2_with fail
  obtain ⟨V, hV⟩ : ∃ V, V = (w.alloc (.cells #[.slice r.pa N.ps.length r.cp, .slice (some ⟨r.sb, r.so, none⟩) N.ss.length r.cs, .slice r.ka N.ks.length r.ck] 28)).alloc (.cells #[.slice none 0 0, .slice none 0 0, .slice none 0 0, .string ⟨#[]⟩, .slice none 0 0, .slice none 0 0, .slice none 0 0] 33) := ⟨_, rfl⟩
  rw [← hV]
  have s0 : Same w V := by rw [hV]; exact ((Fr.refl _ w).alloc _).alloc _
  have a0 : V.cell? ⟨w.heap.size, 1, none⟩ = some (.slice (some ⟨r.sb, r.so, none⟩) N.ss.length r.cs) := by rw [hV]; simp
  have a1 : V.cell? ⟨w.heap.size, 2, none⟩ = some (.slice r.ka N.ks.length r.ck) := by rw [hV]; simp
  have HS : Hid (∀ W, Same V W → W.cell? ⟨w.heap.size, 1, none⟩ = some (.slice (some ⟨r.sb, r.so, none⟩) N.ss.length r.cs) ∧ W.cell? ⟨w.heap.size, 2, none⟩ = some (.slice r.ka N.ks.length r.ck) ∧ W.cell? ⟨r.sb, r.so + m, none⟩ = some (.string sp)) := fun W h => ⟨h.keep a0, h.keep a1, h.keep (s0.keep HC.out)⟩
  have d0 : Same V V.drew := Fr.drew (Fr.refl _ V)
  have r2 : V.heap[w.heap.size + 1]? = some (.cells #[.slice none 0 0, .slice none 0 0, .slice none 0 0, .string ⟨#[]⟩, .slice none 0 0, .slice none 0 0, .slice none 0 0] 33 (0, 0)) := by rw [hV]; exact heap_alloc2_new w _ _
  have HG : Hid (∀ W, Same V W → W.heap[w.heap.size + 1]? = some (.cells #[.slice none 0 0, .slice none 0 0, .slice none 0 0, .string ⟨#[]⟩, .slice none 0 0, .slice none 0 0, .slice none 0 0] 33 (0, 0))) := fun W s => (s.block _ (lt_of_heap r2) (fun e => e)).trans r2
  have HZ : Hid (w.heap.size + 2 ≤ V.heap.size) := by show _ ≤ _; rw [hV]; simp
  clear r2 a0 a1 hV
  refine wp_region_held_drew (S := fun W => W.cell? ⟨w.heap.size, 1, none⟩ = some (.slice (some ⟨r.sb, r.so, none⟩) N.ss.length r.cs) ∧ W.cell? ⟨w.heap.size, 2, none⟩ = some (.slice r.ka N.ks.length r.ck) ∧ W.cell? ⟨r.sb, r.so + m, none⟩ = some (.string sp)) (by kernel_rfl) (HS.out _ d0) (fun hHeld => ?_)
  refine wpAnyH_take (i := 0) (oi := { dst := some 11, op := Op.fieldAddr 28 (Operand.tmp 2) 1, type := 0, pos := "cut.go:120", after := #[], guard := none }) (v := .pointer (some ⟨w.heap.size, 1, none⟩)) rfl (by kernel_rfl) (by kernel_rfl) (by kernel_rfl) (fun _ _ _ h => h) (Or.inl ⟨by rfl, fun w hSw => by (obtain ⟨hA, hB, hC⟩ := hSw; go_simp)⟩) (by assumption) ?_
  try simp only [Act.put, List.setIfInBounds_toArray, List.set_cons_zero, List.set_cons_succ]
  refine wpAnyH_take (i := 1) (oi := { dst := some 12, op := Op.load 25 (Operand.tmp 11), type := 25, pos := "cut.go:120", after := #[{ on := 0, ground := Ground.data }], guard := none }) (v := .slice (some ⟨r.sb, r.so, none⟩) N.ss.length r.cs) rfl (by kernel_rfl) (by kernel_rfl) (by kernel_rfl) (fun _ _ _ h => h) (Or.inl ⟨by rfl, fun w hSw => by (obtain ⟨hA, hB, hC⟩ := hSw; go_simp)⟩) (by assumption) ?_
  try simp only [Act.put, List.setIfInBounds_toArray, List.set_cons_zero, List.set_cons_succ]
  refine wpAnyH_take (i := 2) (oi := { dst := some 13, op := Op.move (Operand.tmp 1), type := 3, pos := "cut.go:120", after := #[], guard := none }) (v := .int .i64 (n : Int)) rfl (by kernel_rfl) (by kernel_rfl) (by kernel_rfl) (fun _ _ _ h => h) (Or.inl ⟨by rfl, fun w hSw => by (obtain ⟨hA, hB, hC⟩ := hSw; go_simp)⟩) (by assumption) ?_
  try simp only [Act.put, List.setIfInBounds_toArray, List.set_cons_zero, List.set_cons_succ]
  refine wpAnyH_take (i := 3) (oi := { dst := some 14, op := Op.binOp BinOp.sub 3 (Operand.tmp 13) (Operand.const (Value.int IntKind.i64 1)) 3, type := 3, pos := "cut.go:120", after := #[{ on := 2, ground := Ground.data }], guard := none }) (v := .int .i64 (m : Int)) rfl (by kernel_rfl) (by kernel_rfl) (by kernel_rfl) (fun _ _ _ h => h) (Or.inl ⟨by rfl, fun w hSw => by (obtain ⟨hA, hB, hC⟩ := hSw; go_simp)⟩) (by assumption) ?_
  try simp only [Act.put, List.setIfInBounds_toArray, List.set_cons_zero, List.set_cons_succ]
  refine wpAnyH_take (i := 5) (oi := { dst := some 16, op := Op.fieldAddr 28 (Operand.tmp 2) 2, type := 0, pos := "cut.go:120", after := #[], guard := none }) (v := .pointer (some ⟨w.heap.size, 2, none⟩)) rfl (by kernel_rfl) (by kernel_rfl) (by kernel_rfl) (fun _ _ _ h => h) (Or.inl ⟨by rfl, fun w hSw => by (obtain ⟨hA, hB, hC⟩ := hSw; go_simp)⟩) (by assumption) ?_
  try simp only [Act.put, List.setIfInBounds_toArray, List.set_cons_zero, List.set_cons_succ]
  refine wpAnyH_take (i := 6) (oi := { dst := some 17, op := Op.load 26 (Operand.tmp 16), type := 26, pos := "cut.go:120", after := #[{ on := 5, ground := Ground.data }], guard := none }) (v := .slice r.ka N.ks.length r.ck) rfl (by kernel_rfl) (by kernel_rfl) (by kernel_rfl) (fun _ _ _ h => h) (Or.inl ⟨by rfl, fun w hSw => by (obtain ⟨hA, hB, hC⟩ := hSw; go_simp)⟩) (by assumption) ?_
  try simp only [Act.put, List.setIfInBounds_toArray, List.set_cons_zero, List.set_cons_succ]
  refine wpAnyH_take (i := 7) (oi := { dst := some 18, op := Op.move (Operand.tmp 1), type := 3, pos := "cut.go:120", after := #[], guard := none }) (v := .int .i64 (n : Int)) rfl (by kernel_rfl) (by kernel_rfl) (by kernel_rfl) (fun _ _ _ h => h) (Or.inl ⟨by rfl, fun w hSw => by (obtain ⟨hA, hB, hC⟩ := hSw; go_simp)⟩) (by assumption) ?_
  try simp only [Act.put, List.setIfInBounds_toArray, List.set_cons_zero, List.set_cons_succ]
  refine wpAnyH_take (i := 10) (oi := { dst := some 21, op := Op.fieldAddr 28 (Operand.tmp 2) 1, type := 0, pos := "cut.go:120", after := #[], guard := none }) (v := .pointer (some ⟨w.heap.size, 1, none⟩)) rfl (by kernel_rfl) (by kernel_rfl) (by kernel_rfl) (fun _ _ _ h => h) (Or.inl ⟨by rfl, fun w hSw => by (obtain ⟨hA, hB, hC⟩ := hSw; go_simp)⟩) (by assumption) ?_
  try simp only [Act.put, List.setIfInBounds_toArray, List.set_cons_zero, List.set_cons_succ]
  refine wpAnyH_take (i := 11) (oi := { dst := some 22, op := Op.load 25 (Operand.tmp 21), type := 25, pos := "cut.go:120", after := #[{ on := 10, ground := Ground.data }], guard := none }) (v := .slice (some ⟨r.sb, r.so, none⟩) N.ss.length r.cs) rfl (by kernel_rfl) (by kernel_rfl) (by kernel_rfl) (fun _ _ _ h => h) (Or.inl ⟨by rfl, fun w hSw => by (obtain ⟨hA, hB, hC⟩ := hSw; go_simp)⟩) (by assumption) ?_
  try simp only [Act.put, List.setIfInBounds_toArray, List.set_cons_zero, List.set_cons_succ]
  refine wpAnyH_take (i := 12) (oi := { dst := some 23, op := Op.move (Operand.tmp 1), type := 3, pos := "cut.go:120", after := #[], guard := none }) (v := .int .i64 (n : Int)) rfl (by kernel_rfl) (by kernel_rfl) (by kernel_rfl) (fun _ _ _ h => h) (Or.inl ⟨by rfl, fun w hSw => by (obtain ⟨hA, hB, hC⟩ := hSw; go_simp)⟩) (by assumption) ?_
  try simp only [Act.put, List.setIfInBounds_toArray, List.set_cons_zero, List.set_cons_succ]
  refine wpAnyH_take (i := 13) (oi := { dst := some 24, op := Op.binOp BinOp.sub 3 (Operand.tmp 23) (Operand.const (Value.int IntKind.i64 1)) 3, type := 3, pos := "cut.go:120", after := #[{ on := 12, ground := Ground.data }], guard := none }) (v := .int .i64 (m : Int)) rfl (by kernel_rfl) (by kernel_rfl) (by kernel_rfl) (fun _ _ _ h => h) (Or.inl ⟨by rfl, fun w hSw => by (obtain ⟨hA, hB, hC⟩ := hSw; go_simp)⟩) (by assumption) ?_
  try simp only [Act.put, List.setIfInBounds_toArray, List.set_cons_zero, List.set_cons_succ]
  refine wpAnyH_take (i := 14) (oi := { dst := some 25, op := Op.indexAddr 25 (Operand.tmp 22) (Operand.tmp 24), type := 0, pos := "cut.go:120", after := #[{ on := 11, ground := Ground.data }, { on := 13, ground := Ground.data }], guard := none }) (v := .pointer (some ⟨r.sb, r.so + m, none⟩)) rfl (by kernel_rfl) (by kernel_rfl) (by kernel_rfl) (fun _ _ _ h => h) (Or.inl ⟨by rfl, fun w hSw => by (obtain ⟨hA, hB, hC⟩ := hSw; go_simp)⟩) (by assumption) ?_
  try simp only [Act.put, List.setIfInBounds_toArray, List.set_cons_zero, List.set_cons_succ]
  refine wpAnyH_take (i := 15) (oi := { dst := some 26, op := Op.load 9 (Operand.tmp 25), type := 9, pos := "cut.go:120", after := #[{ on := 14, ground := Ground.data }], guard := none }) (v := .string sp) rfl (by kernel_rfl) (by kernel_rfl) (by kernel_rfl) (fun _ _ _ h => h) (Or.inl ⟨by rfl, fun w hSw => by (obtain ⟨hA, hB, hC⟩ := hSw; go_simp)⟩) (by assumption) ?_
  try simp only [Act.put, List.setIfInBounds_toArray, List.set_cons_zero, List.set_cons_succ]
  refine wpAnyH_take (i := 16) (oi := { dst := some 27, op := Op.fieldAddr 28 (Operand.tmp 2) 1, type := 0, pos := "cut.go:120", after := #[], guard := none }) (v := .pointer (some ⟨w.heap.size, 1, none⟩)) rfl (by kernel_rfl) (by kernel_rfl) (by kernel_rfl) (fun _ _ _ h => h) (Or.inl ⟨by rfl, fun w hSw => by (obtain ⟨hA, hB, hC⟩ := hSw; go_simp)⟩) (by assumption) ?_
  try simp only [Act.put, List.setIfInBounds_toArray, List.set_cons_zero, List.set_cons_succ]
  refine wpAnyH_take (i := 17) (oi := { dst := some 28, op := Op.load 25 (Operand.tmp 27), type := 25, pos := "cut.go:120", after := #[{ on := 16, ground := Ground.data }], guard := none }) (v := .slice (some ⟨r.sb, r.so, none⟩) N.ss.length r.cs) rfl (by kernel_rfl) (by kernel_rfl) (by kernel_rfl) (fun _ _ _ h => h) (Or.inl ⟨by rfl, fun w hSw => by (obtain ⟨hA, hB, hC⟩ := hSw; go_simp)⟩) (by assumption) ?_
  try simp only [Act.put, List.setIfInBounds_toArray, List.set_cons_zero, List.set_cons_succ]
  refine wpAnyH_take (i := 18) (oi := { dst := some 29, op := Op.move (Operand.tmp 1), type := 3, pos := "cut.go:120", after := #[], guard := none }) (v := .int .i64 (n : Int)) rfl (by kernel_rfl) (by kernel_rfl) (by kernel_rfl) (fun _ _ _ h => h) (Or.inl ⟨by rfl, fun w hSw => by (obtain ⟨hA, hB, hC⟩ := hSw; go_simp)⟩) (by assumption) ?_
  try simp only [Act.put, List.setIfInBounds_toArray, List.set_cons_zero, List.set_cons_succ]
  refine wpAnyH_take (i := 20) (oi := { dst := some 31, op := Op.fieldAddr 28 (Operand.tmp 2) 2, type := 0, pos := "cut.go:120", after := #[], guard := none }) (v := .pointer (some ⟨w.heap.size, 2, none⟩)) rfl (by kernel_rfl) (by kernel_rfl) (by kernel_rfl) (fun _ _ _ h => h) (Or.inl ⟨by rfl, fun w hSw => by (obtain ⟨hA, hB, hC⟩ := hSw; go_simp)⟩) (by assumption) ?_
  try simp only [Act.put, List.setIfInBounds_toArray, List.set_cons_zero, List.set_cons_succ]
  refine wpAnyH_take (i := 21) (oi := { dst := some 32, op := Op.load 26 (Operand.tmp 31), type := 26, pos := "cut.go:120", after := #[{ on := 20, ground := Ground.data }], guard := none }) (v := .slice r.ka N.ks.length r.ck) rfl (by kernel_rfl) (by kernel_rfl) (by kernel_rfl) (fun _ _ _ h => h) (Or.inl ⟨by rfl, fun w hSw => by (obtain ⟨hA, hB, hC⟩ := hSw; go_simp)⟩) (by assumption) ?_
  try simp only [Act.put, List.setIfInBounds_toArray, List.set_cons_zero, List.set_cons_succ]
  refine wpAnyH_take (i := 22) (oi := { dst := some 33, op := Op.move (Operand.tmp 1), type := 3, pos := "cut.go:120", after := #[], guard := none }) (v := .int .i64 (n : Int)) rfl (by kernel_rfl) (by kernel_rfl) (by kernel_rfl) (fun _ _ _ h => h) (Or.inl ⟨by rfl, fun w hSw => by (obtain ⟨hA, hB, hC⟩ := hSw; go_simp)⟩) (by assumption) ?_
  try simp only [Act.put, List.setIfInBounds_toArray, List.set_cons_zero, List.set_cons_succ]
  refine wpAnyH_ready (rs := [4]) (by kernel_rfl) (by simp) ?_
  refine AllReadyH.cons (o := { dst := some 15, op := Op.call { callee := Callee.value (Operand.func 38), args := #[Operand.tmp 12, Operand.tmp 14], argTypes := #[25, 3] }, type := 25, pos := "cut.go:121", after := #[{ on := 1, ground := Ground.data }, { on := 3, ground := Ground.data }], guard := none }) rfl (fun K hK => ?_) AllReadyH.nil
  go_simp
  go_at_call 38
  refine (HF1.out _ (s0.trans d0)).mono ?_
  rintro e Z1 ⟨ao1, c1, rfl, own1, q1⟩
  try go_wp2_with fail
  have x1 := Same.trans d0 q1
  refine hK.out _ _ (HS.out _ x1) (fun hHeld => ?_)
  clear hK K
  try simp only [Act.put, List.setIfInBounds_toArray, List.set_cons_zero, List.set_cons_succ]
  refine wpAnyH_ready (rs := [8]) (by kernel_rfl) (by simp) ?_
  refine AllReadyH.cons (o := { dst := some 19, op := Op.call { callee := Callee.value (Operand.func 39), args := #[Operand.tmp 17, Operand.tmp 18], argTypes := #[26, 3] }, type := 26, pos := "cut.go:121", after := #[{ on := 6, ground := Ground.data }, { on := 7, ground := Ground.data }, { on := 4, ground := Ground.chain }], guard := none }) rfl (fun K hK => ?_) AllReadyH.nil
  go_simp
  go_at_call 39
  refine (HF2.out _ (s0.trans x1)).mono ?_
  rintro e Z2 ⟨ao2, c2, rfl, own2, q2⟩
  try go_wp2_with fail
  have x2 := Same.trans x1 q2
  refine hK.out _ _ (HS.out _ x2) (fun hHeld => ?_)
  clear hK K
  try simp only [Act.put, List.setIfInBounds_toArray, List.set_cons_zero, List.set_cons_succ]
  refine wpAnyH_take (i := 9) (oi := { dst := some 20, op := Op.build 28 #[(1, Operand.tmp 15), (2, Operand.tmp 19)], type := 28, pos := "cut.go:120", after := #[{ on := 4, ground := Ground.data }, { on := 8, ground := Ground.data }], guard := none }) (v := .agg #[.slice none 0 0, .slice ao1 m c1, .slice ao2 n c2]) rfl (by kernel_rfl) (by kernel_rfl) (by kernel_rfl) (fun _ _ _ h => h) (Or.inl ⟨by rfl, fun w hSw => by (obtain ⟨hA, hB, hC⟩ := hSw; go_simp)⟩) (by assumption) ?_
  try simp only [Act.put, List.setIfInBounds_toArray, List.set_cons_zero, List.set_cons_succ]
  refine wpAnyH_ready (rs := [19]) (by kernel_rfl) (by simp) ?_
  refine AllReadyH.cons (o := { dst := some 30, op := Op.call { callee := Callee.value (Operand.func 40), args := #[Operand.tmp 28, Operand.const (Value.int IntKind.i64 0), Operand.tmp 29], argTypes := #[25, 3, 3] }, type := 25, pos := "cut.go:123", after := #[{ on := 17, ground := Ground.data }, { on := 18, ground := Ground.data }, { on := 8, ground := Ground.chain }], guard := none }) rfl (fun K hK => ?_) AllReadyH.nil
  go_simp
  go_at_call 40
  refine (HW1.out _ (s0.trans x2)).mono ?_
  rintro e Z3 ⟨ao3, c3, rfl, own3, q3⟩
  try go_wp2_with fail
  have x3 := Same.trans x2 q3
  refine hK.out _ _ (HS.out _ x3) (fun hHeld => ?_)
  clear hK K
  try simp only [Act.put, List.setIfInBounds_toArray, List.set_cons_zero, List.set_cons_succ]
  refine wpAnyH_ready (rs := [23]) (by kernel_rfl) (by simp) ?_
  refine AllReadyH.cons (o := { dst := some 34, op := Op.call { callee := Callee.value (Operand.func 41), args := #[Operand.tmp 32, Operand.const (Value.int IntKind.i64 0), Operand.tmp 33], argTypes := #[26, 3, 3] }, type := 26, pos := "cut.go:123", after := #[{ on := 21, ground := Ground.data }, { on := 22, ground := Ground.data }, { on := 19, ground := Ground.chain }], guard := none }) rfl (fun K hK => ?_) AllReadyH.nil
  go_simp
  go_at_call 41
  refine (HW2.out _ (s0.trans x3)).mono ?_
  rintro e Z4 ⟨ao4, c4, rfl, own4, q4⟩
  try go_wp2_with fail
  have x4 := Same.trans x3 q4
  refine hK.out _ _ (HS.out _ x4) (fun hHeld => ?_)
  clear hK K
  try simp only [Act.put, List.setIfInBounds_toArray, List.set_cons_zero, List.set_cons_succ]
  refine wpAnyH_take (i := 24) (oi := { dst := some 35, op := Op.build 28 #[(1, Operand.tmp 30), (2, Operand.tmp 34)], type := 28, pos := "cut.go:120", after := #[{ on := 19, ground := Ground.data }, { on := 23, ground := Ground.data }], guard := none }) (v := .agg #[.slice none 0 0, .slice ao3 (N.ss.length - n) c3, .slice ao4 (N.ks.length - n) c4]) rfl (by kernel_rfl) (by kernel_rfl) (by kernel_rfl) (fun _ _ _ h => h) (Or.inl ⟨by rfl, fun w hSw => by (obtain ⟨hA, hB, hC⟩ := hSw; go_simp)⟩) (by assumption) ?_
  try simp only [Act.put, List.setIfInBounds_toArray, List.set_cons_zero, List.set_cons_succ]
  refine wpAnyH_take (i := 25) (oi := { dst := some 36, op := Op.build 33 #[(0, Operand.tmp 20), (1, Operand.tmp 26), (2, Operand.tmp 35)], type := 33, pos := "cut.go:120", after := #[{ on := 9, ground := Ground.data }, { on := 15, ground := Ground.data }, { on := 24, ground := Ground.data }], guard := none }) (v := .agg #[.slice none 0 0, .slice ao1 m c1, .slice ao2 n c2, .string sp, .slice none 0 0, .slice ao3 (N.ss.length - n) c3, .slice ao4 (N.ks.length - n) c4]) rfl (by kernel_rfl) (by kernel_rfl) (by kernel_rfl) (fun _ _ _ h => h) (Or.inl ⟨by rfl, fun w hSw => by (obtain ⟨hA, hB, hC⟩ := hSw; go_simp)⟩) (by assumption) ?_
  try simp only [Act.put, List.setIfInBounds_toArray, List.set_cons_zero, List.set_cons_succ]
  have r6 := HG.out _ x4
  refine wpAnyH_ready (rs := [26]) (by kernel_rfl) (by simp) ?_
  refine AllReadyH.cons (o := { dst := none, op := Op.store 33 (Operand.tmp 4) (Operand.tmp 36), type := 0, pos := "cut.go:120", after := #[{ on := 25, ground := Ground.data }, { on := 23, ground := Ground.chain }, { on := 0, ground := Ground.phase }, { on := 1, ground := Ground.phase }, { on := 2, ground := Ground.phase }, { on := 3, ground := Ground.phase }, { on := 4, ground := Ground.phase }, { on := 5, ground := Ground.phase }, { on := 6, ground := Ground.phase }, { on := 7, ground := Ground.phase }, { on := 8, ground := Ground.phase }, { on := 9, ground := Ground.phase }, { on := 10, ground := Ground.phase }, { on := 11, ground := Ground.phase }, { on := 12, ground := Ground.phase }, { on := 13, ground := Ground.phase }, { on := 14, ground := Ground.phase }, { on := 15, ground := Ground.phase }, { on := 16, ground := Ground.phase }, { on := 17, ground := Ground.phase }, { on := 18, ground := Ground.phase }, { on := 19, ground := Ground.phase }, { on := 20, ground := Ground.phase }, { on := 21, ground := Ground.phase }, { on := 22, ground := Ground.phase }, { on := 23, ground := Ground.phase }, { on := 24, ground := Ground.phase }, { on := 25, ground := Ground.phase }], guard := none }) rfl (fun K hK => ?_) AllReadyH.nil
  refine step_store_whole rfl 33 _ _ rfl (w.heap.size + 1) #[.slice none 0 0, .slice ao1 m c1, .slice ao2 n c2, .string sp, .slice none 0 0, .slice ao3 (N.ss.length - n) c3, .slice ao4 (N.ks.length - n) c4] _ 33 (by rfl) (by rfl) r6 rfl (by kernel_rfl) (by kernel_rfl) ?_
  intro W7 r7 f7
  have HFAR : Hid (∀ (a : Addr) v, a.block ≠ w.heap.size + 1 → Z4.cell? a = some v → W7.cell? a = some v) := fun a v hne hc => (f7.cell (World.block_lt_of_cell? _ _ hc) hne).trans hc
  have hsb : r.sb ≠ w.heap.size + 1 := by have h1 := World.block_lt_of_cell? _ _ HC.out; simp only at h1; omega
  refine hK.out _ _ ⟨HFAR.out _ _ (by simp) (HS.out _ x4).1, HFAR.out _ _ (by simp) (HS.out _ x4).2.1, HFAR.out _ _ hsb (HS.out _ x4).2.2⟩ (fun hHeld => ?_)
  clear hK K
  refine wpAnyH_done (by kernel_rfl) ?_ _
  go_wp2_with fail
  have hz := HZ.out
  have z1 := x1.size
  have z2 := x2.size
  have z3 := x3.size
  have zd := d0.size
  have o1 := own_far (own_base (own_frameB (own_frameB (own_frameB own1 q2 (fun _ _ h => h)) q3 (fun _ _ h => h)) q4 (fun _ _ h => h)) (show w.heap.size + 2 ≤ _ by omega)) f7 (by omega)
  have o2 := own_far (own_base (own_frameB (own_frameB own2 q3 (fun _ _ h => h)) q4 (fun _ _ h => h)) (show w.heap.size + 2 ≤ _ by omega)) f7 (by omega)
  have o3 := own_far (own_base (own_frameB own3 q4 (fun _ _ h => h)) (show w.heap.size + 2 ≤ _ by omega)) f7 (by omega)
  have o4 := own_far (own_base own4 (show w.heap.size + 2 ≤ _ by omega)) f7 (by omega)
  have hm := HM.out
  subst hm
  exact bodyPost_ret (results_row_one (p := 4) (ty := 33) (by kernel_rfl) _ _ (w.heap.size + 1) 33 _ (0, 0) _ rfl r7 Try.underlying33 rfl (by kernel_rfl)) rfl ⟨ao1, c1, ao2, c2, ao3, c3, ao4, c4, rfl, own_base o1 (by omega), own_base o2 (by omega), own_base o3 (by omega), own_base o4 (by omega), Fr.trans (s0.trans x4) f7 (fun i hi e => by omega), fun x y hx hy => by (subst hx; subst hy; have h1 := (own_ge own2).2; have h2 := (own_ge own4).1; have h3 := q3.size; omega)⟩
theorem halvedB_goodA {r : Nr} {N : Nd} {m : Nat} {sp : ByteArray} (w : World) (h : NdAt w r N) (hr : NdRoom r N) (hx : N.ss[m]? = some sp) (hk : m + 1 ≤ N.ks.length) (h2 : N.ss.length ≤ 1048576) (h3 : N.ks.length ≤ 1048576) :
    Calls Try.prog 20 #[ndV r N, .int .i64 ((m + 1 : Nat) : Int)] w fun e w' => ∃ ao1 c1 ao2 c2 ao3 c3 ao4 c4, e = .returned (.agg #[.slice none 0 0, .slice ao1 m c1, .slice ao2 (m + 1) c2, .string sp, .slice none 0 0, .slice ao3 (N.ss.length - (m + 1)) c3, .slice ao4 (N.ks.length - (m + 1)) c4]) ∧ w'.ownsRow w.heap.size 9 1 (.slice ao1 m c1) m (scells (N.ss.take m)) ∧ w'.ownsRow w.heap.size 53 33 (.slice ao2 (m + 1) c2) (m + 1) (kcellsL (N.ks.take (m + 1))) ∧ w'.ownsRow w.heap.size 9 1 (.slice ao3 (N.ss.length - (m + 1)) c3) (N.ss.length - (m + 1)) (scells (N.ss.drop (m + 1))) ∧ w'.ownsRow w.heap.size 53 33 (.slice ao4 (N.ks.length - (m + 1)) c4) (N.ks.length - (m + 1)) (kcellsL (N.ks.drop (m + 1))) ∧ Same w w' ∧ (∀ x y : Addr, ao2 = some x → ao4 = some y → x.block ≠ y.block) := by
  have hl : m < N.ss.length := (List.getElem?_eq_some_iff.1 hx).1
  refine halved_branchA w h.hs (by omega) hx h2 (fun W s => ?_) (fun W s => ?_) (fun W s => ?_) (fun W s => ?_)
  · have := firstTexts (m := m) W (trow_part (h.hs.same s) hr.s0) hr.s3 (by omega) hr.cs h2
    rw [scells_takeK] at this
    exact this
  · have := firstKids (m := m + 1) W (krow_part h.ok (h.hk.same s) hr.k0) hr.k3 (by omega) hr.ck h3
    rw [kcellsL_takeK _ _ h.ok] at this
    exact this
  · have := withoutTexts (i := 0) (m := m + 1) W (trow_part (h.hs.same s) hr.s0) hr.s3 (by omega) hr.cs h2
    rw [Nat.zero_mul, List.take_zero, List.nil_append, Nat.zero_add, scells_dropK] at this
    exact this
  · have := withoutKids (i := 0) (m := m + 1) W (krow_part h.ok (h.hk.same s) hr.k0) hr.k3 (by omega) hr.ck h3
    rw [Nat.zero_mul, List.take_zero, List.nil_append, Nat.zero_add, kcellsL_dropK _ _ h.ok] at this
    exact this
set_option maxRecDepth 100000 in
set_option maxHeartbeats 1000000 in
theorem split_branchA {r : Nr} {N : Nd} {p q : Int} {m n3 n4 : Nat} {sp : ByteArray} {l1 l2 l3 l4 : List Value} (w : World)
    (HC : Hid (∀ W, Same w W → Calls Try.prog 18 #[frameV p q, nodeV r.pa N.ps.length r.cp r.sa N.ss.length r.cs r.ka N.ks.length r.ck] W fun e w' => e = .returned (.int .i64 0) ∧ Same W w'))
    (HA : Hid (∀ W, Calls Try.prog 17 #[frameV p q, .bool true] W fun e w' => e = .returned (.int .i64 0) ∧ Same W w'))
    (HB : Hid (∀ W, Same w W → Calls Try.prog 19 #[frameV p q, nodeV r.pa N.ps.length r.cp r.sa N.ss.length r.cs r.ka N.ks.length r.ck] W fun e w' => e = .returned (.int .i64 ((m + 1 : Nat) : Int)) ∧ Same W w'))
    (HH : Hid (∀ W, Same w W → Calls Try.prog 20 #[nodeV r.pa N.ps.length r.cp r.sa N.ss.length r.cs r.ka N.ks.length r.ck, .int .i64 ((m + 1 : Nat) : Int)] W fun e w' => ∃ ao1 c1 ao2 c2 ao3 c3 ao4 c4, e = .returned (.agg (halvesB ao1 ao2 ao3 ao4 m c1 (m + 1) c2 n3 c3 n4 c4 sp)) ∧ w'.ownsRow W.heap.size 9 1 (.slice ao1 m c1) m l1 ∧ w'.ownsRow W.heap.size 53 33 (.slice ao2 (m + 1) c2) (m + 1) l2 ∧ w'.ownsRow W.heap.size 9 1 (.slice ao3 n3 c3) n3 l3 ∧ w'.ownsRow W.heap.size 53 33 (.slice ao4 n4 c4) n4 l4 ∧ Same W w' ∧ (∀ x y : Addr, ao2 = some x → ao4 = some y → x.block ≠ y.block))) :
    Calls Try.prog 7 #[frameV p q, ndV r N] w fun e w' => ∃ ao1 c1 ao2 c2 ao3 c3 ao4 c4, e = .returned (.tuple #[.agg (halvesB ao1 ao2 ao3 ao4 m c1 (m + 1) c2 n3 c3 n4 c4 sp), .int .i64 0]) ∧ w'.ownsRow w.heap.size 9 1 (.slice ao1 m c1) m l1 ∧ w'.ownsRow w.heap.size 53 33 (.slice ao2 (m + 1) c2) (m + 1) l2 ∧ w'.ownsRow w.heap.size 9 1 (.slice ao3 n3 c3) n3 l3 ∧ w'.ownsRow w.heap.size 53 33 (.slice ao4 n4 c4) n4 l4 ∧ Same w w' ∧ (∀ x y : Addr, ao2 = some x → ao4 = some y → x.block ≠ y.block) := by
  obtain ⟨V, hV⟩ : ∃ V, V = ((w.alloc (.cells #[.int .i64 p, .int .i64 q] 23)).alloc (.cells #[.slice r.pa N.ps.length r.cp, .slice r.sa N.ss.length r.cs, .slice r.ka N.ks.length r.ck] 28)).alloc (.cells #[.slice none 0 0, .slice none 0 0, .slice none 0 0, .string ⟨#[]⟩, .slice none 0 0, .slice none 0 0, .slice none 0 0] 33) := ⟨_, rfl⟩
  have s0 : Same w V := by rw [hV]; exact (((Fr.refl _ w).alloc _).alloc _).alloc _
  obtain ⟨g0, g1, g2⟩ := three_boxes w (.cells #[.int .i64 p, .int .i64 q] 23) (.cells #[.slice r.pa N.ps.length r.cp, .slice r.sa N.ss.length r.cs, .slice r.ka N.ks.length r.ck] 28) (.cells #[.slice none 0 0, .slice none 0 0, .slice none 0 0, .string ⟨#[]⟩, .slice none 0 0, .slice none 0 0, .slice none 0 0] 33)
  rw [← hV] at g0 g1 g2
  have a0 : V.cell? ⟨w.heap.size, 0, none⟩ = some (.int .i64 p) := by rw [cell_of_row _ _ _ _ _ _ g0]; rfl
  have a1 : V.cell? ⟨w.heap.size, 1, none⟩ = some (.int .i64 q) := by rw [cell_of_row _ _ _ _ _ _ g0]; rfl
  have a2 : V.cell? ⟨w.heap.size + 1, 0, none⟩ = some (.slice r.pa N.ps.length r.cp) := by rw [cell_of_row _ _ _ _ _ _ g1]; rfl
  have a3 : V.cell? ⟨w.heap.size + 1, 1, none⟩ = some (.slice r.sa N.ss.length r.cs) := by rw [cell_of_row _ _ _ _ _ _ g1]; rfl
  have a4 : V.cell? ⟨w.heap.size + 1, 2, none⟩ = some (.slice r.ka N.ks.length r.ck) := by rw [cell_of_row _ _ _ _ _ _ g1]; rfl
  have HZ : Hid (w.heap.size + 3 ≤ V.heap.size) := by show _ ≤ _; rw [hV]; simp
  have HS : Hid (∀ W, Same V W → W.cell? ⟨w.heap.size, 0, none⟩ = some (.int .i64 p) ∧ W.cell? ⟨w.heap.size, 1, none⟩ = some (.int .i64 q) ∧ W.cell? ⟨w.heap.size + 1, 0, none⟩ = some (.slice r.pa N.ps.length r.cp) ∧ W.cell? ⟨w.heap.size + 1, 1, none⟩ = some (.slice r.sa N.ss.length r.cs) ∧ W.cell? ⟨w.heap.size + 1, 2, none⟩ = some (.slice r.ka N.ks.length r.ck)) := fun W s => ⟨s.keep a0, s.keep a1, s.keep a2, s.keep a3, s.keep a4⟩
  have HG : Hid (∀ W, Same V W → W.heap[w.heap.size + 1 + 1]? = some (.cells #[.slice none 0 0, .slice none 0 0, .slice none 0 0, .string ⟨#[]⟩, .slice none 0 0, .slice none 0 0, .slice none 0 0] 33 (0, 0))) := fun W s => (s.block _ (lt_of_heap g2) (fun e => e)).trans g2
  clear a0 a1 a2 a3 a4 g0 g1 g2
  obtain ⟨n, hn⟩ : ∃ n, n = m + 1 := ⟨_, rfl⟩
  rw [← hn] at HB HH ⊢
  have hne : ¬ (n : Int) = 0 := by omega
  clear hn
  go_enter Try.func7, Try.ntmps7
  go_wp2_with fail
  rw [← hV]
  clear hV
  have d0 : Same V V.drew := Fr.drew (Fr.refl _ V)
  go_region_held3 (fun W => W.cell? ⟨w.heap.size, 0, none⟩ = some (.int .i64 p) ∧ W.cell? ⟨w.heap.size, 1, none⟩ = some (.int .i64 q) ∧ W.cell? ⟨w.heap.size + 1, 0, none⟩ = some (.slice r.pa N.ps.length r.cp) ∧ W.cell? ⟨w.heap.size + 1, 1, none⟩ = some (.slice r.sa N.ss.length r.cs) ∧ W.cell? ⟨w.heap.size + 1, 2, none⟩ = some (.slice r.ka N.ks.length r.ck)) (first | exact HS.out _ u2 | exact HS.out _ u1 | exact HS.out _ d0)
    (first | (go_at_call 18; refine (HC.out _ (s0.trans d0)).mono ?_; rintro e Z1 ⟨rfl, q1⟩; have u1 := Same.trans d0 q1; clear q1) | (go_at_call 17; refine (HA.out _).mono ?_; rintro e Z2 ⟨rfl, q2⟩; have u2 := Same.trans u1 q2; clear q2))
  obtain ⟨a0, a1, a2, a3, a4⟩ := HS.out _ u2
  go_wp2_with fail
  refine (HB.out _ (s0.trans u2)).mono ?_
  rintro e Z3 ⟨rfl, q3⟩
  have u3 := Same.trans u2 q3
  obtain ⟨a0, a1, a2, a3, a4⟩ := HS.out _ u3
  go_wp2_with fail
  refine (HH.out _ (s0.trans u3)).mono ?_
  rintro e Z4 ⟨ao1, c1, ao2, c2, ao3, c3, ao4, c4, rfl, own1, own2, own3, own4, q4, apx⟩
  have u4 := Same.trans u3 q4
  have r6 := HG.out _ u4
  go_wp2_with (refine wpList_store_whole (by rfl) 33 _ _ (by rfl) (w.heap.size + 1 + 1) (halvesB ao1 ao2 ao3 ao4 m c1 n c2 n3 c3 n4 c4 sp) _ 33 (by rfl) (by rfl) r6 rfl (by kernel_rfl) (by kernel_rfl) ?_; intro W7 r7 f7)
  have hz := HZ.out
  have z3 := u3.size
  exact bodyPost_ret (results_row_tmp (p := 4) (u := 5) (ty := 33) (by kernel_rfl) _ _ (w.heap.size + 1 + 1) 33 _ (0, 0) _ rfl r7 Try.underlying33 rfl (by kernel_rfl)) rfl ⟨ao1, c1, ao2, c2, ao3, c3, ao4, c4, rfl, own_base (own_far own1 f7 (by omega)) (by omega), own_base (own_far own2 f7 (by omega)) (by omega), own_base (own_far own3 f7 (by omega)) (by omega), own_base (own_far own4 f7 (by omega)) (by omega), Fr.trans (s0.trans u4) f7 (fun i hi e => by omega), apx⟩
theorem row_apart {w : World} {e : TypeId} {sz B B2 n m c c2 : Nat} {a b : Option Addr} {xs ys : List Value} {u v : Value} (h1 : w.ownsRow B e sz (.slice a n c) n xs) (h2 : w.ownsRow B2 e sz (.slice b m c2) m ys) (hu : xs[0]? = some u) (hv : ys[0]? = some v) (hne : u ≠ v) : ∀ k, blkO b k → ¬ blkO a k := by
  rintro k ⟨p, rfl, rfl⟩ ⟨q, rfl, e⟩
  have hn : n ≠ 0 := fun h => by
    subst h
    have := h1.1
    rw [Nat.zero_mul] at this
    rw [List.eq_nil_of_length_eq_zero this] at hu
    simp at hu
  have hm : m ≠ 0 := fun h => by
    subst h
    have := h2.1
    rw [Nat.zero_mul] at this
    rw [List.eq_nil_of_length_eq_zero this] at hv
    simp at hv
  obtain ⟨g1, e1, _⟩ := own_some (own_base h1 (Nat.zero_le _)) hn
  obtain ⟨g2, e2, _⟩ := own_some (own_base h2 (Nat.zero_le _)) hm
  cases e1
  cases e2
  have o1 := own_cell (own_base h1 (Nat.zero_le _)) hu
  have o2 := own_cell (own_base h2 (Nat.zero_le _)) hv
  simp only at e
  subst e
  rw [o1] at o2
  cases o2
  exact hne rfl
theorem less_ne {x y : ByteArray} (h : Op.bytesLess x.toList y.toList = true) : (Value.string x) ≠ .string y := fun e => by
  injection e with e
  subst e
  rw [less_self] at h
  cases h
theorem blkO_none {k : Nat} : ¬ blkO none k := fun ⟨_, e, _⟩ => by cases e
/-- What Split answers, of both sides: halves of their own, the program's apart. -/
def SplitA (B : Nat) (N1 N2 : Nd) (sp : ByteArray) (E : Int) (e : Ending) (w' : World) : Prop := ∃ r1 r2, e = .returned (.tuple #[.agg (halvesN r1 r2 N1 N2 sp), .int .i64 E]) ∧ MadeNd w' B r1 N1 ∧ MadeNd w' B r2 N2 ∧ (∀ k, blkN r2 k → ¬ blkN r1 k)
def SplitD (B : Nat) (N1 N2 : Nd) (sp : ByteArray) (E : Int) (e : Ending) (w' : World) : Prop := ∃ r1 r2, e = .returned (.tuple #[.agg (halvesN r1 r2 N1 N2 sp), .int .i64 E]) ∧ MadeNd w' B r1 N1 ∧ MadeNd w' B r2 N2
theorem splitA_zero {B : Nat} {E : Int} {e : Ending} {w' : World} (h : e = .returned (.tuple #[.agg #[.slice none 0 0, .slice none 0 0, .slice none 0 0, .string ⟨#[]⟩, .slice none 0 0, .slice none 0 0, .slice none 0 0], .int .i64 E])) : SplitA B ⟨[], [], []⟩ ⟨[], [], []⟩ ⟨#[]⟩ E e w' :=
  ⟨⟨none, 0, 0, 0, none, 0, 0, 0, none, 0, 0, 0⟩, ⟨none, 0, 0, 0, none, 0, 0, 0, none, 0, 0, 0⟩, h, ⟨own_nil, own_nil, own_nil⟩, ⟨own_nil, own_nil, own_nil⟩, fun k hk _ => by
    rcases hk with h | h | h <;> exact blkO_none h⟩
theorem splitD_zero {B : Nat} {E : Int} {e : Ending} {w' : World} (h : e = .returned (.tuple #[.agg #[.slice none 0 0, .slice none 0 0, .slice none 0 0, .string ⟨#[]⟩, .slice none 0 0, .slice none 0 0, .slice none 0 0], .int .i64 E])) : SplitD B ⟨[], [], []⟩ ⟨[], [], []⟩ ⟨#[]⟩ E e w' :=
  ⟨⟨none, 0, 0, 0, none, 0, 0, 0, none, 0, 0, 0⟩, ⟨none, 0, 0, 0, none, 0, 0, 0, none, 0, 0, 0⟩, h, ⟨own_nil, own_nil, own_nil⟩, ⟨own_nil, own_nil, own_nil⟩⟩
structure TwoOk (N1 N2 : Nd) : Prop where
  s1 : NdSmall N1
  s2 : NdSmall N2
  k1 : ∀ x ∈ N1.ks, KidOk x
  k2 : ∀ x ∈ N2.ks, KidOk x
theorem twoOk_zero : TwoOk ⟨[], [], []⟩ ⟨[], [], []⟩ := ⟨⟨by simp, by simp, by simp⟩, ⟨by simp, by simp, by simp⟩, by simp, by simp⟩
theorem split_both {N : Nd} {p q : Int} (hs : NdSmall N) (hk : ∀ x ∈ N.ks, KidOk x) :
    ∃ (E : Int) (N1 N2 : Nd) (sp : ByteArray), TwoOk N1 N2 ∧
      (∀ (r : Nr) (w : World), NdAt w r N → NdRoom r N → Calls Try.prog 7 #[frameV p q, ndV r N] w fun e w' => SplitA w.heap.size N1 N2 sp E e w' ∧ Same w w') ∧
      (∀ (r : Nr) (w : World), NdIn w r N → NdCapN r N → Calls Try.prog 8 #[frameV p q, ndV r N] w fun e w' => SplitD w.heap.size N1 N2 sp E e w' ∧ Same w w') := by
  obtain ⟨l1, l2, l3, _, hop⟩ := hs.lens
  have hos : ∀ x ∈ N.ss, x.size ≤ 1048576 := fun x hx => by
    have := mem_le_sum (fun x : ByteArray => x.size + 1) N.ss x hx
    have := hs.hs
    omega
  by_cases hf : frameP p q = true
  · obtain ⟨hp, q1, q2⟩ := frameP_cases hf
    have HA := fun W => asked_calls (p := p) (q := q) W hf
    have HR : ∀ W, Calls Try.prog 21 #[frameV p q] W fun e w' => e = .returned (.bool true) ∧ Same W w' := fun W => by
      have := dright_calls p q W
      rw [hf] at this
      exact this
    by_cases hc : chkN p q N = 0
    · by_cases hk0 : N.ks.length = 0
      · obtain ⟨es, ek, _, hri, hlo⟩ := chk_leaf hc hk0
        obtain ⟨ps, ss, ks⟩ := N
        simp only at es ek hk0 hri hlo hop l1
        subst es; subst ek
        have HCUTS : ∀ (r : Nr) (w : World), NdIn w r ⟨ps, [], []⟩ → NdCapN r ⟨ps, [], []⟩ → ∀ W, Same w W → Calls Try.prog 23 #[frameV p q, ndV r ⟨ps, [], []⟩] W fun e w' => ∃ ao c, e = .returned (.slice ao (ps.length - 1) c) ∧ w'.ownsRow W.heap.size 63 3 (.slice ao (ps.length - 1) c) (ps.length - 1) (ccells (cutsN ps (ps.length - 1))) ∧ Same W w' := fun r w h hcap W s => by
          have HK := fun X (t : Same W X) => dcheck_calls (p := p) (q := q) X ((h.at_.same s).same t) l1 l2 l3
          rw [hc] at HK
          rw [← leaf_cutsL]
          exact dcuts_leaf (N := ⟨ps, [], []⟩) (N1 := fun i => ⟨ps.take i, [], []⟩) (N2 := fun i => ⟨ps.drop i, [], []⟩) (sp := fun i => sepB (pairAt ps (i - 1)).1 (pairAt ps i).1) W rfl l1 HK (fun X => dleaf_calls _ _ _ _ _ _ _ _ _ X) (fun X i t h1 h2 => dcutL hs hc h1 (by omega) X ((h.same s).same t) hcap)
            (fun X B i r' h1 h2 m => by
              have := m.dsize (p := p) (q := q) (leaf_sizes hs hc h1 (by omega)).1.2 (by simp)
              rw [(leaf_sizes hs hc h1 (by omega)).1.1] at this
              exact this)
            (fun X B i r' h1 h2 m => by
              have := m.dsize (p := p) (q := q) (leaf_sizes hs hc h1 (by omega)).2.2 (by simp)
              rw [(leaf_sizes hs hc h1 (by omega)).2.1] at this
              exact this)
        obtain ⟨hparts, hne0⟩ := leaf_parts l1
        rcases best_leaf_range ps with hb | ⟨m, hb, hm⟩
        · have hnil := best_zero hparts hne0 hb
          have hlen : ps.length - 1 = 0 := by rw [← cuts_len ps (ps.length - 1), hnil]; rfl
          refine ⟨82, _, _, ⟨#[]⟩, twoOk_zero, fun r w h hr => ?_, fun r w h hcap => ?_⟩
          · have HC := fun W (s : Same w W) => check_calls p q W (h.same s)
            rw [hc] at HC
            have HB := fun W (s : Same w W) => best_leaf W (h.same s) l1 l2 rfl hc hop
            rw [hb] at HB
            exact (split_nocut w HC HA HB).mono fun e w' ⟨h1, h2⟩ => ⟨splitA_zero h1, h2⟩
          · have HK := fun W (s : Same w W) => dcheck_calls (p := p) (q := q) W (h.at_.same s) l1 l2 l3
            rw [hc] at HK
            have HS := HCUTS r w h hcap
            rw [hnil, hlen] at HS
            exact (dsplit_nocut w HR HK HS).mono fun e w' ⟨h1, h2⟩ => ⟨splitD_zero h1, h2⟩
        · obtain ⟨x, hx⟩ : ∃ x, ps[m]? = some x := ⟨_, List.getElem?_eq_getElem (by omega)⟩
          obtain ⟨y, hy⟩ : ∃ y, ps[m + 1]? = some y := ⟨_, List.getElem?_eq_getElem hm⟩
          have hless := rises_adj _ _ m x.1 y.1 hri (by rw [List.getElem?_map, hx]; rfl) (by rw [List.getElem?_map, hy]; rfl)
          have t1 : (ps.take (m + 1)).length = m + 1 := by rw [List.length_take]; omega
          have t2 : (ps.drop (m + 1)).length = ps.length - (m + 1) := List.length_drop
          obtain ⟨s1, s2⟩ := small_leaf_take hs (m + 1)
          obtain ⟨f, hf0⟩ : ∃ f, ps[0]? = some f := ⟨_, List.getElem?_eq_getElem (by omega)⟩
          have gm : ∀ i (z : ByteArray × ByteArray), ps[i]? = some z → (ps.map (·.1))[i]? = some z.1 := fun i z h => by rw [List.getElem?_map, h]; rfl
          have hfy : Op.bytesLess f.1.toList y.1.toList = true := rises_lt _ _ 0 (m + 1) f.1 y.1 hri (gm _ _ hf0) (gm _ _ hy) (by omega)
          refine ⟨0, ⟨ps.take (m + 1), [], []⟩, ⟨ps.drop (m + 1), [], []⟩, sepB x.1 y.1, ⟨s1, s2, by simp, by simp⟩, fun r w h hr => ?_, fun r w h hcap => ?_⟩
          · have HC := fun W (s : Same w W) => check_calls p q W (h.same s)
            rw [hc] at HC
            have HB := fun W (s : Same w W) => best_leaf W (h.same s) l1 l2 rfl hc hop
            rw [hb] at HB
            have HH := fun W (s : Same w W) => halved_good W (h.same s).hp rfl hx hy l1 hr.cp hr.p0 hr.p3 hless (hop x (List.mem_of_getElem? hx)).1
            refine (split_leaf w rfl HC HA HB HH).mono ?_
            rintro e w' ⟨ao1, c1, ao2, c2, rfl, o1, o2, s⟩
            refine ⟨⟨⟨ao1, 0, 0, c1, none, 0, 0, 0, none, 0, 0, 0⟩, ⟨ao2, 0, 0, c2, none, 0, 0, 0, none, 0, 0, 0⟩, ?_, ⟨?_, own_nil, own_nil⟩, ⟨?_, own_nil, own_nil⟩, ?_⟩, s⟩
            · unfold halvesN halvesV
              rw [t1, t2]
              rfl
            · rw [t1]; exact o1
            · rw [t2]; exact o2
            · have ap := row_apart (u := .string f.1) (v := .string y.1) o1 o2 (by
                rw [show ps.take (m + 1) = f :: (ps.take (m + 1)).tail from by
                  cases hq : ps with
                  | nil => rw [hq] at hf0; simp at hf0
                  | cons a l => rw [hq] at hf0; cases hf0; rfl]
                rfl) (by
                rw [List.drop_eq_getElem_cons hm]
                rw [(List.getElem?_eq_some_iff.1 hy).2]
                rfl) (less_ne hfy)
              intro k hk1 hk2
              rcases hk1 with e1 | e1 | e1
              · rcases hk2 with e2 | e2 | e2
                · exact ap k e1 e2
                · exact blkO_none e2
                · exact blkO_none e2
              · exact blkO_none e1
              · exact blkO_none e1
          · have HK := fun W (s : Same w W) => dcheck_calls (p := p) (q := q) W (h.at_.same s) l1 l2 l3
            rw [hc] at HK
            obtain ⟨z, T, hzT⟩ : ∃ z T, cutsN ps (ps.length - 1) = z :: T := by
              cases hq : cutsN ps (ps.length - 1) with
              | nil => rw [hq] at hb; simp [bestS] at hb
              | cons z T => exact ⟨z, T, rfl⟩
            have hm1 : ((cutsN ps (ps.length - 1)).foldl bet z).1 = m + 1 := by
              rw [hzT] at hparts hne0 hb ⊢
              rw [← best_first hparts hne0]
              exact hb
            have hlen := cuts_len ps (ps.length - 1)
            have HS := HCUTS r w h hcap
            rw [← hlen] at HS
            rw [hlen] at HS
            refine (dsplit_good (L := cutsN ps (ps.length - 1)) (m := m + 1) w HR hzT (by rw [hlen]; omega) hm1 HK (by rw [hlen]; exact HS) (fun W s => ?_)).mono fun e w' ⟨r1, r2, h1, h2, h3, h4⟩ => ⟨⟨r1, r2, h1, h2, h3⟩, h4⟩
            have := dcutL hs hc (i := m + 1) (by omega) hm W (h.same s) hcap
            rw [Nat.add_sub_cancel, pairAt_eq hx, pairAt_eq hy] at this
            exact this
      · obtain ⟨_, hss, hk2⟩ := chk_branch hc (by omega)
        obtain ⟨ep, hri, hlo⟩ := branch_parts hc (by omega)
        obtain ⟨ps, ss, ks⟩ := N
        simp only at ep hss hk2 hk0 hri hlo hos l2 l3 hk
        subst ep
        have hk00 : 0 < ks.length := by omega
        obtain ⟨K, hK⟩ : ∃ K : Nat, (K : Int) = 4 + q := ⟨(4 + q).toNat, by omega⟩
        have HLF : ∀ (r : Nr) X, Calls Try.prog 45 #[ndV r ⟨[], ss, ks⟩] X fun e w' => e = .returned (.bool false) ∧ Same X w' := fun r X => by
          refine (dleaf_calls r.pa r.sa r.ka 0 r.cp ss.length r.cs ks.length r.ck X).mono fun e' w' hh => ⟨hh.1.trans ?_, hh.2⟩
          rw [show decide (ks.length = 0) = false from decide_eq_false hk0, Bool.and_false]
        have HCUTS : ∀ (r : Nr) (w : World), NdIn w r ⟨[], ss, ks⟩ → NdCapN r ⟨[], ss, ks⟩ → ∀ W, Same w W → Calls Try.prog 23 #[frameV p q, ndV r ⟨[], ss, ks⟩] W fun e w' => ∃ ao c, e = .returned (.slice ao (ks.length - 3) c) ∧ w'.ownsRow W.heap.size 63 3 (.slice ao (ks.length - 3) c) (ks.length - 3) (ccells (cutsB K ks.length ss (ks.length - 3))) ∧ Same W w' := fun r w h hcap W s => by
          have HK := fun X (t : Same W X) => dcheck_calls (p := p) (q := q) X ((h.at_.same s).same t) l1 l2 l3
          rw [hc] at HK
          rw [← branch_cutsL]
          exact dcuts_branch (N := ⟨[], ss, ks⟩) (N1 := fun i => ⟨[], ss.take (i - 1), ks.take i⟩) (N2 := fun i => ⟨[], ss.drop i, ks.drop i⟩) (sp := fun i => textAt ss (i - 1)) W rfl hk2 l3 l1 HK (HLF r) (fun X i t h1 h2 => dcutB hs hc hk00 h1 (by omega) X ((h.same s).same t) hcap)
            (fun X B i r' h1 h2 m => by
              have := m.dsize (p := p) (q := q) (branch_sizes hs hk hc hk00 hK h1 (by omega)).1.2 (fun z hz => hk z (List.mem_of_mem_take hz))
              rw [(branch_sizes hs hk hc hk00 hK h1 (by omega)).1.1] at this
              exact this)
            (fun X B i r' h1 h2 m => by
              have := m.dsize (p := p) (q := q) (branch_sizes hs hk hc hk00 hK h1 (by omega)).2.2 (fun z hz => hk z (List.mem_of_mem_drop hz))
              rw [(branch_sizes hs hk hc hk00 hK h1 (by omega)).2.1] at this
              exact this)
        obtain ⟨hparts, hne0⟩ := branch_cuts (K := K) hss (by omega) l3
        rcases best_branch_range1 K ks.length ss with hb | ⟨m, hb, hm1, hm⟩
        · have hnil := best_zero hparts hne0 hb
          have hlen : ks.length - 3 = 0 := by rw [← cutsB_len K ks.length ss (ks.length - 3), hnil]; rfl
          refine ⟨82, _, _, ⟨#[]⟩, twoOk_zero, fun r w h hr => ?_, fun r w h hcap => ?_⟩
          · have HC := fun W (s : Same w W) => check_calls p q W (h.same s)
            rw [hc] at HC
            have HB := fun W (s : Same w W) => best_branch (K := K) W (h.same s) l1 l2 l3 hk2 hss hc hos q1 q2 hK
            simp only at HB
            rw [hb] at HB
            exact (split_nocut w HC HA HB).mono fun e w' ⟨h1, h2⟩ => ⟨splitA_zero h1, h2⟩
          · have HK := fun W (s : Same w W) => dcheck_calls (p := p) (q := q) W (h.at_.same s) l1 l2 l3
            rw [hc] at HK
            have HS := HCUTS r w h hcap
            rw [hnil, hlen] at HS
            exact (dsplit_nocut w HR HK HS).mono fun e w' ⟨h1, h2⟩ => ⟨splitD_zero h1, h2⟩
        · obtain ⟨sp, hx⟩ : ∃ x, ss[m]? = some x := ⟨_, List.getElem?_eq_getElem (by omega)⟩
          obtain ⟨f, hf0⟩ : ∃ x, ss[0]? = some x := ⟨_, List.getElem?_eq_getElem (by omega)⟩
          obtain ⟨b, hbb⟩ : ∃ x, ss[m + 1]? = some x := ⟨_, List.getElem?_eq_getElem (by omega)⟩
          have hfy : Op.bytesLess f.toList b.toList = true := rises_lt _ _ 0 (m + 1) f b hri hf0 hbb (by omega)
          have t1 : (ks.take (m + 1)).length = m + 1 := by rw [List.length_take]; omega
          have t2 : (ks.drop (m + 1)).length = ks.length - (m + 1) := List.length_drop
          have t3 : (ss.take m).length = m := by rw [List.length_take]; omega
          have t4 : (ss.drop (m + 1)).length = ss.length - (m + 1) := List.length_drop
          have hsz := branch_sizes hs hk hc hk00 hK (i := m + 1) (by omega) (by omega)
          rw [Nat.add_sub_cancel] at hsz
          refine ⟨0, ⟨[], ss.take m, ks.take (m + 1)⟩, ⟨[], ss.drop (m + 1), ks.drop (m + 1)⟩, sp, ⟨hsz.1.2, hsz.2.2, fun z hz => hk z (List.mem_of_mem_take hz), fun z hz => hk z (List.mem_of_mem_drop hz)⟩, fun r w h hr => ?_, fun r w h hcap => ?_⟩
          · have HC := fun W (s : Same w W) => check_calls p q W (h.same s)
            rw [hc] at HC
            have HB := fun W (s : Same w W) => best_branch (K := K) W (h.same s) l1 l2 l3 hk2 hss hc hos q1 q2 hK
            simp only at HB
            rw [hb] at HB
            refine (split_branchA w HC HA HB (fun W s => halvedB_goodA W (h.same s) hr hx (by show m + 1 ≤ ks.length; omega) l2 l3)).mono ?_
            rintro e w' ⟨ao1, c1, ao2, c2, ao3, c3, ao4, c4, rfl, o1, o2, o3, o4, s, apx⟩
            refine ⟨⟨⟨none, 0, 0, 0, ao1, 0, 0, c1, ao2, 0, 0, c2⟩, ⟨none, 0, 0, 0, ao3, 0, 0, c3, ao4, 0, 0, c4⟩, ?_, ⟨own_nil, ?_, ?_⟩, ⟨own_nil, ?_, ?_⟩, ?_⟩, s⟩
            · unfold halvesN halvesB
              simp only
              rw [t1, t2, t3, t4]
              rfl
            · show World.ownsRow _ _ _ _ (.slice ao1 (ss.take m).length c1) (ss.take m).length _; rw [t3]; exact o1
            · show World.ownsRow _ _ _ _ (.slice ao2 (ks.take (m + 1)).length c2) (ks.take (m + 1)).length _; rw [t1]; exact o2
            · show World.ownsRow _ _ _ _ (.slice ao3 (ss.drop (m + 1)).length c3) (ss.drop (m + 1)).length _; rw [t4]; exact o3
            · show World.ownsRow _ _ _ _ (.slice ao4 (ks.drop (m + 1)).length c4) (ks.drop (m + 1)).length _; rw [t2]; exact o4
            · have ap := row_apart (u := .string f) (v := .string b) o1 o3 (by
                rw [scells, List.getElem?_map, List.getElem?_take_of_lt (by omega), hf0]; rfl) (by
                rw [scells, List.getElem?_map, List.getElem?_drop, Nat.add_zero, hbb]; rfl) (less_ne hfy)
              intro k hk1 hk2
              rcases hk1 with e1 | e1 | e1
              · exact blkO_none e1
              · rcases hk2 with e2 | e2 | e2
                · exact blkO_none e2
                · exact ap k e1 e2
                · obtain ⟨x1, rfl, rfl⟩ := e1
                  obtain ⟨x2, rfl, e2⟩ := e2
                  exact own_apart o3 o2 (by decide) x1.block rfl (by rw [← e2]; rfl)
              · rcases hk2 with e2 | e2 | e2
                · exact blkO_none e2
                · obtain ⟨x1, rfl, rfl⟩ := e1
                  obtain ⟨x2, rfl, e2⟩ := e2
                  exact own_apart o4 o1 (by decide) x1.block rfl (by rw [← e2]; rfl)
                · obtain ⟨x1, rfl, rfl⟩ := e1
                  obtain ⟨x2, rfl, e2⟩ := e2
                  exact apx x2 x1 rfl rfl e2
          · have HK := fun W (s : Same w W) => dcheck_calls (p := p) (q := q) W (h.at_.same s) l1 l2 l3
            rw [hc] at HK
            obtain ⟨z, T, hzT⟩ : ∃ z T, cutsB K ks.length ss (ks.length - 3) = z :: T := by
              cases hq : cutsB K ks.length ss (ks.length - 3) with
              | nil => rw [hq] at hb; simp [bestS] at hb
              | cons z T => exact ⟨z, T, rfl⟩
            have hmm : ((cutsB K ks.length ss (ks.length - 3)).foldl bet z).1 = m + 1 := by
              rw [hzT] at hparts hne0 hb ⊢
              rw [← best_first hparts hne0]
              exact hb
            have hlen := cutsB_len K ks.length ss (ks.length - 3)
            have HS := HCUTS r w h hcap
            refine (dsplit_good (L := cutsB K ks.length ss (ks.length - 3)) (m := m + 1) w HR hzT (by rw [hlen]; omega) hmm HK (by rw [hlen]; exact HS) (fun W s => ?_)).mono fun e w' ⟨r1, r2, h1, h2, h3, h4⟩ => ⟨⟨r1, r2, h1, h2, h3⟩, h4⟩
            have := dcutB hs hc hk00 (i := m + 1) (by omega) (by omega) W (h.same s) hcap
            rw [Nat.add_sub_cancel, textAt_eq hx] at this
            exact this
    · refine ⟨80, _, _, ⟨#[]⟩, twoOk_zero, fun r w h hr => ?_, fun r w h hcap => ?_⟩
      · have HE := fun W => askedG_calls (p := p) (q := q) (b := chkN p q N == 0) W
        have e : askE p q (chkN p q N == 0) = 80 := by
          unfold askE
          rw [if_pos hf, if_neg (by simpa using hc)]
        rw [e] at HE
        exact (split_asked w (by decide) (fun W s => check_calls p q W (h.same s)) HE).mono fun e w' ⟨h1, h2⟩ => ⟨splitA_zero h1, h2⟩
      · exact (dsplit_shape w HR (by simpa using hc) (fun W s => dcheck_calls W (h.at_.same s) l1 l2 l3)).mono fun e w' ⟨h1, h2⟩ => ⟨splitD_zero h1, h2⟩
  · refine ⟨2, _, _, ⟨#[]⟩, twoOk_zero, fun r w h hr => ?_, fun r w h hcap => ?_⟩
    · have HE := fun W => askedG_calls (p := p) (q := q) (b := chkN p q N == 0) W
      have e : askE p q (chkN p q N == 0) = 2 := by
        unfold askE
        rw [if_neg hf]
      rw [e] at HE
      exact (split_asked w (by decide) (fun W s => check_calls p q W (h.same s)) HE).mono fun e w' ⟨h1, h2⟩ => ⟨splitA_zero h1, h2⟩
    · have HR : ∀ W, Calls Try.prog 21 #[frameV p q] W fun e w' => e = .returned (.bool false) ∧ Same W w' := fun W => by
        have := dright_calls p q W
        rw [Bool.not_eq_true] at hf
        rw [hf] at this
        exact this
      exact (dsplit_arg w HR).mono fun e w' ⟨h1, h2⟩ => ⟨splitD_zero h1, h2⟩
end Go.Proofs.Ytgihhegkldmhfaa
namespace Go.Proofs.Ytgihhegkldmhfaa
open Go.RowKit

set_option maxRecDepth 100000 in
set_option maxHeartbeats 2000000 in
theorem sameH_made {B1 B2 B3 B4 : Nat} {r1 r2 r3 r4 : Nr} {N1 N2 : Nd} {sp : ByteArray} (w : World) (m1 : MadeNd w B1 r1 N1) (m2 : MadeNd w B2 r2 N2) (m3 : MadeNd w B3 r3 N1) (m4 : MadeNd w B4 r4 N2) (s1 : NdSmall N1) (s2 : NdSmall N2) (k1 : ∀ x ∈ N1.ks, KidOk x) (k2 : ∀ x ∈ N2.ks, KidOk x) :
    Calls Try.prog 27 #[.agg (halvesN r1 r2 N1 N2 sp), .agg (halvesN r3 r4 N1 N2 sp)] w fun e w' => e = .returned (.bool true) ∧ Same w w' := by
  have HK1 : Hid (∀ W, Same w W → Calls Try.prog 26 #[ndV r1 N1, ndV r3 N1] W fun e w' => e = .returned (.bool true) ∧ Same W w') := fun W s => made_sameN (m1.same s) (m3.same s) s1 k1
  have HK2 : Hid (∀ W, Same w W → Calls Try.prog 26 #[ndV r2 N2, ndV r4 N2] W fun e w' => e = .returned (.bool true) ∧ Same W w') := fun W s => made_sameN (m2.same s) (m4.same s) s2 k2
  obtain ⟨V, hV⟩ : ∃ V, V = (w.alloc (.cells (halvesN r1 r2 N1 N2 sp) 33)).alloc (.cells (halvesN r3 r4 N1 N2 sp) 33) := ⟨_, rfl⟩
  have t1 : Same w V := by rw [hV]; exact ((Fr.refl _ w).alloc _).alloc _
  have g1 : V.heap[w.heap.size + 1]? = some (.cells (halvesN r3 r4 N1 N2 sp) 33 (0, 0)) := by rw [hV]; exact heap_alloc2_new w _ _
  have g0 : V.heap[w.heap.size]? = some (.cells (halvesN r1 r2 N1 N2 sp) 33 (0, 0)) := by rw [hV]; exact (Below.heap_alloc _ _ _ (by simp)).trans (heap_alloc_new w _)
  have H0 : Hid (∀ W, Same V W → HCells W w.heap.size r1 r2 N1 N2 sp) := fun W s => (hcells_row g0).keep s
  have H1 : Hid (∀ W, Same V W → HCells W (w.heap.size + 1) r3 r4 N1 N2 sp) := fun W s => (hcells_row g1).keep s
  have ee : (sp.toList == sp.toList) = true := by simp
  clear g0 g1 m1 m2 m3 m4 s1 s2 k1 k2
  unfold halvesN at hV ⊢
  unfold HCells at H0 H1
  obtain ⟨a0, a1, a2, a3, a4, a5, a6⟩ := H0.out _ (Fr.refl _ V)
  obtain ⟨b0, b1, b2, b3, b4, b5, b6⟩ := H1.out _ (Fr.refl _ V)
  go_enter Try.func27, Try.ntmps27
  go_wp2_with fail
  rw [← hV]
  clear hV
  refine (HK1.out _ t1).mono ?_
  rintro e W1 ⟨rfl, s1⟩
  clear a0 a1 a2 a3 a4 a5 a6 b0 b1 b2 b3 b4 b5 b6
  obtain ⟨a0, a1, a2, a3, a4, a5, a6⟩ := H0.out _ s1
  obtain ⟨b0, b1, b2, b3, b4, b5, b6⟩ := H1.out _ s1
  go_wp2_with fail
  refine (HK2.out _ (t1.trans s1)).mono ?_
  rintro e W2 ⟨rfl, s2⟩
  go_wp2_with fail
  go_ret
  exact ⟨rfl, (t1.trans s1).trans s2⟩
theorem MadeNd.spoil {w : World} {B : Nat} {r : Nr} {N : Nd} (m : MadeNd w B r N) (hs : NdSmall N) : Calls Try.prog 10 #[ndV r N] w fun e w' => (∃ n : Int, e = .returned (.int .i64 n)) ∧ Fr (blkN r) w w' :=
  spoil_calls w ⟨_, own_base m.op (Nat.zero_le _)⟩ ⟨_, own_base m.os (Nat.zero_le _)⟩ ⟨_, own_base m.ok (Nat.zero_le _)⟩ hs.lens.1 hs.lens.2.1 hs.lens.2.2.1 (fun a h => by
    rcases h with h | h | h
    · exact Or.inl ⟨a, h, rfl⟩
    · exact Or.inr (Or.inl ⟨a, h, rfl⟩)
    · exact Or.inr (Or.inr ⟨a, h, rfl⟩))
set_option maxRecDepth 100000 in
set_option maxHeartbeats 4000000 in
theorem halves_made {B1 B2 B3 B4 B5 B6 : Nat} {r1 r2 r3 r4 r5 r6 : Nr} {N1 N2 : Nd} {sp : ByteArray} (w : World) (m1 : MadeNd w B1 r1 N1) (m2 : MadeNd w B2 r2 N2) (m3 : MadeNd w B3 r3 N1) (m4 : MadeNd w B4 r4 N2) (m5 : MadeNd w B5 r5 N1) (m6 : MadeNd w B6 r6 N2) (s1 : NdSmall N1) (s2 : NdSmall N2) (k1 : ∀ x ∈ N1.ks, KidOk x) (k2 : ∀ x ∈ N2.ks, KidOk x)
    (ap : ∀ k, blkN r2 k → ¬ blkN r1 k) (ap3 : ∀ k, (blkN r3 k ∨ blkN r4 k ∨ blkN r5 k ∨ blkN r6 k) → ¬ (blkN r1 k ∨ blkN r2 k)) :
    Calls Try.prog 11 #[.agg (halvesN r1 r2 N1 N2 sp), .agg (halvesN r3 r4 N1 N2 sp), .agg (halvesN r5 r6 N1 N2 sp)] w fun e w' => e = .returned (.bool true) ∧ Fr (fun k => blkN r1 k ∨ blkN r2 k) w w' := by
  have up : ∀ {A B : World}, Same A B → Fr (fun k => blkN r1 k ∨ blkN r2 k) A B := fun s => s.mono (fun _ _ f => f.elim)
  have HSA : Hid (∀ W, Same w W → Calls Try.prog 27 #[.agg (halvesN r1 r2 N1 N2 sp), .agg (halvesN r5 r6 N1 N2 sp)] W fun e w' => e = .returned (.bool true) ∧ Same W w') := fun W s => sameH_made W (m1.same s) (m2.same s) (m5.same s) (m6.same s) s1 s2 k1 k2
  have HSB : Hid (∀ W, Fr (fun k => blkN r1 k ∨ blkN r2 k) w W → Calls Try.prog 27 #[.agg (halvesN r3 r4 N1 N2 sp), .agg (halvesN r5 r6 N1 N2 sp)] W fun e w' => e = .returned (.bool true) ∧ Same W w') := fun W s => sameH_made W (m3.fr s (fun k h => ap3 k (Or.inl h))) (m4.fr s (fun k h => ap3 k (Or.inr (Or.inl h)))) (m5.fr s (fun k h => ap3 k (Or.inr (Or.inr (Or.inl h))))) (m6.fr s (fun k h => ap3 k (Or.inr (Or.inr (Or.inr h))))) s1 s2 k1 k2
  have HSR : Hid (∀ W, Fr (blkN r1) w W → Calls Try.prog 26 #[ndV r2 N2, ndV r6 N2] W fun e w' => e = .returned (.bool true) ∧ Same W w') := fun W s => made_sameN (m2.fr s ap) (m6.fr s (fun k h e => ap3 k (Or.inr (Or.inr (Or.inr h))) (Or.inl e))) s2 k2
  have HP1 : Hid (∀ W, Same w W → Calls Try.prog 10 #[ndV r1 N1] W fun e w' => (∃ n : Int, e = .returned (.int .i64 n)) ∧ Fr (blkN r1) W w') := fun W s => (m1.same s).spoil s1
  have HP2 : Hid (∀ W, Fr (blkN r1) w W → Calls Try.prog 10 #[ndV r2 N2] W fun e w' => (∃ n : Int, e = .returned (.int .i64 n)) ∧ Fr (blkN r2) W w') := fun W s => (m2.fr s ap).spoil s2
  have HBK : Hid (∀ k, (blkN r1 k ∨ blkN r2 k) → k < w.heap.size) := fun k hk => by
    rcases hk with hk | hk
    · exact (m1.blk hk).2
    · exact (m2.blk hk).2
  obtain ⟨V, hV⟩ : ∃ V, V = ((w.alloc (.cells (halvesN r1 r2 N1 N2 sp) 33)).alloc (.cells (halvesN r3 r4 N1 N2 sp) 33)).alloc (.cells (halvesN r5 r6 N1 N2 sp) 33) := ⟨_, rfl⟩
  have t1 : Same w V := by rw [hV]; exact (((Fr.refl _ w).alloc _).alloc _).alloc _
  obtain ⟨g0, g1, g2⟩ := three_boxes w (.cells (halvesN r1 r2 N1 N2 sp) 33) (.cells (halvesN r3 r4 N1 N2 sp) 33) (.cells (halvesN r5 r6 N1 N2 sp) 33)
  rw [← hV] at g0 g1 g2
  have HC : Hid (∀ W, Fr (fun k => blkN r1 k ∨ blkN r2 k) V W → HCells W w.heap.size r1 r2 N1 N2 sp ∧ HCells W (w.heap.size + 1) r3 r4 N1 N2 sp ∧ HCells W (w.heap.size + 1 + 1) r5 r6 N1 N2 sp) := fun W s =>
    ⟨hcells_row ((s.block _ (lt_of_heap g0) (fun e => by have := HBK.out _ e; omega)).trans g0), hcells_row ((s.block _ (lt_of_heap g1) (fun e => by have := HBK.out _ e; omega)).trans g1), hcells_row ((s.block _ (lt_of_heap g2) (fun e => by have := HBK.out _ e; omega)).trans g2)⟩
  have UP : Hid (∀ A B : World, Same A B → Fr (fun k => blkN r1 k ∨ blkN r2 k) A B) := fun A B s => up s
  have UP1 : Hid (∀ A B : World, Same A B → Fr (blkN r1) A B) := fun A B s => s.mono (fun _ _ f => f.elim)
  have UP2 : Hid (∀ A B : World, Fr (blkN r1) A B → Fr (fun k => blkN r1 k ∨ blkN r2 k) A B) := fun A B s => s.mono (fun _ _ f => Or.inl f)
  have UP3 : Hid (∀ A B : World, Fr (blkN r2) A B → Fr (fun k => blkN r1 k ∨ blkN r2 k) A B) := fun A B s => s.mono (fun _ _ f => Or.inr f)
  unfold HCells at HC
  unfold halvesN at hV HSA HSB ⊢
  clear m1 m2 m3 m4 m5 m6 s1 s2 k1 k2 ap ap3 g0 g1 g2 up
  obtain ⟨⟨a0, a1, a2, a3, a4, a5, a6⟩, ⟨b0, b1, b2, b3, b4, b5, b6⟩, c0, c1, c2, c3, c4, c5, c6⟩ := HC.out V (Fr.refl _ V)
  go_enter Try.func11, Try.ntmps11
  go_wp2_with fail
  rw [← hV]
  clear hV
  refine (HSA.out _ t1).mono ?_
  rintro e W1 ⟨rfl, s1⟩
  clear a0 a1 a2 a3 a4 a5 a6 b0 b1 b2 b3 b4 b5 b6 c0 c1 c2 c3 c4 c5 c6
  obtain ⟨⟨a0, a1, a2, a3, a4, a5, a6⟩, ⟨b0, b1, b2, b3, b4, b5, b6⟩, c0, c1, c2, c3, c4, c5, c6⟩ := HC.out W1 (UP.out _ _ s1)
  go_wp2_with fail
  refine (HSB.out _ (UP.out _ _ (t1.trans s1))).mono ?_
  rintro e W2 ⟨rfl, s2⟩
  have s2 := s1.trans s2
  clear a0 a1 a2 a3 a4 a5 a6 b0 b1 b2 b3 b4 b5 b6 c0 c1 c2 c3 c4 c5 c6
  obtain ⟨⟨a0, a1, a2, a3, a4, a5, a6⟩, ⟨b0, b1, b2, b3, b4, b5, b6⟩, c0, c1, c2, c3, c4, c5, c6⟩ := HC.out W2 (UP.out _ _ s2)
  go_wp2_with fail
  refine (HP1.out _ (t1.trans s2)).mono ?_
  rintro e W3 ⟨⟨n, rfl⟩, s3⟩
  have u3 : Fr (blkN r1) V W3 := Fr.trans (UP1.out _ _ s2) s3 (fun _ _ e => e)
  have v3 : Fr (blkN r1) w W3 := Fr.trans (UP1.out _ _ t1) u3 (fun _ _ e => e)
  clear a0 a1 a2 a3 a4 a5 a6 b0 b1 b2 b3 b4 b5 b6 c0 c1 c2 c3 c4 c5 c6
  obtain ⟨⟨a0, a1, a2, a3, a4, a5, a6⟩, ⟨b0, b1, b2, b3, b4, b5, b6⟩, c0, c1, c2, c3, c4, c5, c6⟩ := HC.out W3 (UP2.out _ _ u3)
  go_wp2_with fail
  refine (HSR.out _ v3).mono ?_
  rintro e W4 ⟨rfl, s4⟩
  have u4 : Fr (blkN r1) V W4 := Fr.trans u3 (UP1.out _ _ s4) (fun _ _ e => e)
  have v4 : Fr (blkN r1) w W4 := Fr.trans v3 (UP1.out _ _ s4) (fun _ _ e => e)
  clear a0 a1 a2 a3 a4 a5 a6 b0 b1 b2 b3 b4 b5 b6 c0 c1 c2 c3 c4 c5 c6
  obtain ⟨⟨a0, a1, a2, a3, a4, a5, a6⟩, ⟨b0, b1, b2, b3, b4, b5, b6⟩, c0, c1, c2, c3, c4, c5, c6⟩ := HC.out W4 (UP2.out _ _ u4)
  go_wp2_with fail
  refine (HSB.out _ (UP2.out _ _ v4)).mono ?_
  rintro e W5 ⟨rfl, s5⟩
  have u5 : Fr (blkN r1) V W5 := Fr.trans u4 (UP1.out _ _ s5) (fun _ _ e => e)
  have v5 : Fr (blkN r1) w W5 := Fr.trans v4 (UP1.out _ _ s5) (fun _ _ e => e)
  clear a0 a1 a2 a3 a4 a5 a6 b0 b1 b2 b3 b4 b5 b6 c0 c1 c2 c3 c4 c5 c6
  obtain ⟨⟨a0, a1, a2, a3, a4, a5, a6⟩, ⟨b0, b1, b2, b3, b4, b5, b6⟩, c0, c1, c2, c3, c4, c5, c6⟩ := HC.out W5 (UP2.out _ _ u5)
  go_wp2_with fail
  refine (HP2.out _ v5).mono ?_
  rintro e W6 ⟨⟨n6, rfl⟩, s6⟩
  have u6 : Fr (fun k => blkN r1 k ∨ blkN r2 k) V W6 := Fr.trans (UP2.out _ _ u5) (UP3.out _ _ s6) (fun _ _ e => e)
  have v6 : Fr (fun k => blkN r1 k ∨ blkN r2 k) w W6 := Fr.trans (UP2.out _ _ v5) (UP3.out _ _ s6) (fun _ _ e => e)
  clear a0 a1 a2 a3 a4 a5 a6 b0 b1 b2 b3 b4 b5 b6 c0 c1 c2 c3 c4 c5 c6
  obtain ⟨⟨a0, a1, a2, a3, a4, a5, a6⟩, ⟨b0, b1, b2, b3, b4, b5, b6⟩, c0, c1, c2, c3, c4, c5, c6⟩ := HC.out W6 u6
  go_wp2_with fail
  refine (HSB.out _ v6).mono ?_
  rintro e W7 ⟨rfl, s7⟩
  go_wp2_with fail
  go_ret
  exact ⟨rfl, Fr.trans v6 (UP.out _ _ s7) (fun _ _ e => e)⟩
end Go.Proofs.Ytgihhegkldmhfaa
namespace Go.Proofs.Ytgihhegkldmhfaa
open Go.RowKit

def greatB (N : Nd) : Bool := decide ((2000 : Int) < (N.ps.length : Int)) || decide ((2000 : Int) < (N.ss.length : Int)) || decide ((2000 : Int) < (N.ks.length : Int))
set_option maxRecDepth 100000 in
set_option maxHeartbeats 1000000 in
theorem great_calls {r : Nr} {N : Nd} (w : World) : Calls Try.prog 4 #[ndV r N] w fun e w' => e = .returned (.bool (greatB N)) ∧ Same w w' := by
  have t1 : Same w (w.alloc (.cells #[.slice r.pa N.ps.length r.cp, .slice r.sa N.ss.length r.cs, .slice r.ka N.ks.length r.ck] 28)) := (Fr.refl _ w).alloc _
  unfold greatB
  go_enter Try.func4, Try.ntmps4
  go_wp2_with fail
  all_goals go_ret
  all_goals exact ⟨by first | rfl | simp_all, t1⟩
set_option maxRecDepth 100000 in
set_option maxHeartbeats 1000000 in
theorem gsplits_great {p q : Int} {r : Nr} {N : Nd} (w : World) (hg : greatB N = true) :
    Calls Try.prog 3 #[frameV p q, ndV r N] w fun e w' => e = .returned (.bool true) ∧ Same w w' := by
  have HGR : Hid (∀ W, Calls Try.prog 4 #[ndV r N] W fun e w' => e = .returned (.bool true) ∧ Same W w') := fun W => by rw [← hg]; exact great_calls W
  have HA : Hid (∀ W, Calls Try.prog 5 #[] W fun e w' => e = .returned (.bool true) ∧ Same W w') := awake_calls
  have t1 : Same w ((w.alloc (.cells #[.int .i64 p, .int .i64 q] 23)).alloc (.cells #[.slice r.pa N.ps.length r.cp, .slice r.sa N.ss.length r.cs, .slice r.ka N.ks.length r.ck] 28)) := ((Fr.refl _ w).alloc _).alloc _
  clear hg
  go_enter Try.func3, Try.ntmps3
  go_wp2_with fail
  refine (HGR.out _).mono ?_
  rintro e W1 ⟨rfl, s1⟩
  go_wp2_with fail
  refine (HA.out _).mono ?_
  rintro e W2 ⟨rfl, s2⟩
  go_wp2_with fail
  go_ret
  exact ⟨rfl, (t1.trans s1).trans s2⟩
set_option maxRecDepth 100000 in
set_option maxHeartbeats 8000000 in
theorem gsplits_core {p q E : Int} {r : Nr} {N N1 N2 : Nd} {sp : ByteArray} (w : World) (h : NdIn w r N) (hs : NdSmall N) (ok : TwoOk N1 N2) (hg : greatB N = false)
    (HR : Hid (∀ W gp cp gs cs gk ck B, LentAt W B gp cp gs cs gk ck N → Calls Try.prog 7 #[frameV p q, ndV (lentNr gp cp gs cs gk ck) N] W fun e w' => SplitA W.heap.size N1 N2 sp E e w' ∧ Same W w'))
    (HD : Hid (∀ W, Same w W → Calls Try.prog 8 #[frameV p q, ndV r N] W fun e w' => SplitD W.heap.size N1 N2 sp E e w' ∧ Same W w')) :
    Calls Try.prog 3 #[frameV p q, ndV r N] w fun e w' => e = .returned (.bool true) ∧ Same w w' := by
  obtain ⟨h1, h2, h3, _, _⟩ := hs.lens
  have HGR : Hid (∀ W, Calls Try.prog 4 #[ndV r N] W fun e w' => e = .returned (.bool false) ∧ Same W w') := fun W => by rw [← hg]; exact great_calls W
  have HL : Hid (∀ W, Same w W → Calls Try.prog 6 #[ndV r N] W fun e w' => ∃ gp cp gs cs gk ck, e = .returned (ndV (lentNr gp cp gs cs gk ck) N) ∧ LentAt w' W.heap.size gp cp gs cs gk ck N ∧ Same W w') := fun W s => lent_at W (h.same s) h1 h2 h3
  have HK : Hid (∀ W gp cp gs cs gk ck B, Same w W → LentAt W B gp cp gs cs gk ck N → Calls Try.prog 9 #[ndV (lentNr gp cp gs cs gk ck) N, ndV r N] W fun e w' => e = .returned (.bool true) ∧ Same W w') := fun W gp cp gs cs gk ck B s l => kept_true W l (h.at_.same s) h1 h2 h3
  have HSP : Hid (∀ W gp cp gs cs gk ck B, LentAt W B gp cp gs cs gk ck N → Calls Try.prog 10 #[ndV (lentNr gp cp gs cs gk ck) N] W fun e w' => (∃ n : Int, e = .returned (.int .i64 n)) ∧ Fr (fun k => k = gp ∨ k = gs ∨ k = gk) W w') := fun W gp cp gs cs gk ck B l =>
    spoil_calls W (Own.first l.oP (by omega)) (Own.first l.oS (by omega)) (Own.first l.oK (by omega)) h1 h2 h3 (fun a h => by
      rcases h with h | h | h
      · cases h; exact Or.inl rfl
      · cases h; exact Or.inr (Or.inl rfl)
      · cases h; exact Or.inr (Or.inr rfl))
  have HA : Hid (∀ W, Calls Try.prog 5 #[] W fun e w' => e = .returned (.bool true) ∧ Same W w') := awake_calls
  have HFR : Hid (∀ (W : World) B1 B2 B3 B4 B5 B6 r1 r2 r3 r4 r5 r6, MadeNd W B1 r1 N1 → MadeNd W B2 r2 N2 → MadeNd W B3 r3 N1 → MadeNd W B4 r4 N2 → MadeNd W B5 r5 N1 → MadeNd W B6 r6 N2 → (∀ k, blkN r2 k → ¬ blkN r1 k) → (∀ k, (blkN r3 k ∨ blkN r4 k ∨ blkN r5 k ∨ blkN r6 k) → ¬ (blkN r1 k ∨ blkN r2 k)) → Calls Try.prog 11 #[.agg (halvesN r1 r2 N1 N2 sp), .agg (halvesN r3 r4 N1 N2 sp), .agg (halvesN r5 r6 N1 N2 sp)] W fun e w' => e = .returned (.bool true) ∧ Fr (fun k => blkN r1 k ∨ blkN r2 k) W w') := fun W B1 B2 B3 B4 B5 B6 r1 r2 r3 r4 r5 r6 m1 m2 m3 m4 m5 m6 ap ap3 => halves_made W m1 m2 m3 m4 m5 m6 ok.s1 ok.s2 ok.k1 ok.k2 ap ap3
  have eEE : (E == E) = true := by simp
  obtain ⟨V, hV⟩ : ∃ V, V = (w.alloc (.cells #[.int .i64 p, .int .i64 q] 23)).alloc (.cells #[.slice r.pa N.ps.length r.cp, .slice r.sa N.ss.length r.cs, .slice r.ka N.ks.length r.ck] 28) := ⟨_, rfl⟩
  have t1 : Same w V := by rw [hV]; exact ((Fr.refl _ w).alloc _).alloc _
  have a0 : V.cell? ⟨w.heap.size, 0, none⟩ = some (.int .i64 p) := by rw [hV]; simp
  have a1 : V.cell? ⟨w.heap.size, 1, none⟩ = some (.int .i64 q) := by rw [hV]; simp
  have n0 : V.cell? ⟨w.heap.size + 1, 0, none⟩ = some (.slice r.pa N.ps.length r.cp) := by rw [hV]; simp
  have n1 : V.cell? ⟨w.heap.size + 1, 1, none⟩ = some (.slice r.sa N.ss.length r.cs) := by rw [hV]; simp
  have n2 : V.cell? ⟨w.heap.size + 1, 2, none⟩ = some (.slice r.ka N.ks.length r.ck) := by rw [hV]; simp
  have HC : Hid (∀ W, Same V W → W.cell? ⟨w.heap.size, 0, none⟩ = some (.int .i64 p) ∧ W.cell? ⟨w.heap.size, 1, none⟩ = some (.int .i64 q) ∧ W.cell? ⟨w.heap.size + 1, 0, none⟩ = some (.slice r.pa N.ps.length r.cp) ∧ W.cell? ⟨w.heap.size + 1, 1, none⟩ = some (.slice r.sa N.ss.length r.cs) ∧ W.cell? ⟨w.heap.size + 1, 2, none⟩ = some (.slice r.ka N.ks.length r.ck)) := fun W s => ⟨s.keep a0, s.keep a1, s.keep n0, s.keep n1, s.keep n2⟩
  have HVZ : Hid (w.heap.size ≤ V.heap.size) := t1.size
  clear h hs ok h1 h2 h3 hg
  unfold lentNr at HL HR HK HSP
  unfold SplitA at HR
  unfold SplitD at HD
  unfold halvesN at HR HD HFR
  go_enter Try.func3, Try.ntmps3
  go_wp2_with fail
  rw [← hV]
  clear hV
  refine (HGR.out _).mono ?_
  rintro e W0 ⟨rfl, s0⟩
  clear a0 a1 n0 n1 n2
  obtain ⟨a0, a1, n0, n1, n2⟩ := HC.out _ s0
  go_wp2_with fail
  refine (HL.out _ (t1.trans s0)).mono ?_
  rintro e W1 ⟨gp, cp, gs, cs, gk, ck, rfl, l1, s1⟩
  unfold ndV nodeV
  obtain ⟨V2, hV2⟩ : ∃ V2, V2 = W1.alloc (.cells #[.slice (some ⟨gp, 0, none⟩) N.ps.length cp, .slice (some ⟨gs, 0, none⟩) N.ss.length cs, .slice (some ⟨gk, 0, none⟩) N.ks.length ck] 28) := ⟨_, rfl⟩
  have v1 : Same V V2 := by rw [hV2]; exact Fr.alloc (s0.trans s1) _
  have rx := heap_alloc_new W1 (.cells #[.slice (some ⟨gp, 0, none⟩) N.ps.length cp, .slice (some ⟨gs, 0, none⟩) N.ss.length cs, .slice (some ⟨gk, 0, none⟩) N.ks.length ck] 28)
  rw [← hV2] at rx
  have sv : Same W1 V2 := by rw [hV2]; exact (Fr.refl _ W1).alloc _
  have zv : V2.heap.size = W1.heap.size + 1 := by rw [hV2]; simp
  have HLA : Hid (∀ W, Same V2 W → LentAt W W0.heap.size gp cp gs cs gk ck N) := fun W s => l1.same (sv.trans s)
  clear a0 a1 n0 n1 n2
  obtain ⟨a0, a1, n0, n1, n2⟩ := HC.out _ v1
  obtain ⟨xb, hxb⟩ : ∃ xb, xb = W1.heap.size := ⟨_, rfl⟩
  rw [← hxb] at rx zv
  have HX : Hid (∀ W : World, W.heap[xb]? = V2.heap[xb]? → W.cell? ⟨xb, 0, none⟩ = some (.slice (some ⟨gp, 0, none⟩) N.ps.length cp) ∧ W.cell? ⟨xb, 1, none⟩ = some (.slice (some ⟨gs, 0, none⟩) N.ss.length cs) ∧ W.cell? ⟨xb, 2, none⟩ = some (.slice (some ⟨gk, 0, none⟩) N.ks.length ck)) := fun W s => by
    have e := s.trans rx
    exact ⟨(cell_of_row _ _ _ _ _ _ e).trans rfl, (cell_of_row _ _ _ _ _ _ e).trans rfl, (cell_of_row _ _ _ _ _ _ e).trans rfl⟩
  have HSZ : Hid ((gp < xb ∧ gs < xb ∧ gk < xb) ∧ (V.heap.size ≤ gp ∧ V.heap.size ≤ gs ∧ V.heap.size ≤ gk) ∧ V2.heap.size = xb + 1) := by
    have e1 := own_ge l1.oP
    have e2 := own_ge l1.oS
    have e3 := own_ge l1.oK
    have e4 := s0.size
    rw [← hxb] at e1 e2 e3
    simp only at e1 e2 e3
    exact ⟨⟨e1.2, e2.2, e3.2⟩, ⟨by omega, by omega, by omega⟩, zv⟩
  obtain ⟨x0, x1, x2⟩ := HX.out _ rfl
  rw [hV2] at a0 a1 n0 n1 n2 x0 x1 x2
  rw [hxb] at x0 x1 x2
  go_wp2_with fail
  rw [← hV2, ← hxb]
  have T2 : Hid (Same V V2) := v1
  clear hV2 hxb rx l1 s0 s1 sv zv a0 a1 n0 n1 n2 x0 x1 x2 HL HGR
  refine (HR.out _ _ _ _ _ _ _ _ (HLA.out _ (Fr.refl _ _))).mono ?_
  rintro e Y1 ⟨⟨rA1, rA2, rfl, m1, m2, apA⟩, qq⟩
  obtain ⟨V3, hV3⟩ : ∃ Z, Z = Y1.alloc (.cells #[.slice rA1.pa N1.ps.length rA1.cp, .slice rA1.sa N1.ss.length rA1.cs, .slice rA1.ka N1.ks.length rA1.ck, .string sp, .slice rA2.pa N2.ps.length rA2.cp, .slice rA2.sa N2.ss.length rA2.cs, .slice rA2.ka N2.ks.length rA2.ck] 33) := ⟨_, rfl⟩
  have s3 : Same V2 V3 := by rw [hV3]; exact Fr.alloc qq _
  have ra := heap_alloc_new Y1 (.cells #[.slice rA1.pa N1.ps.length rA1.cp, .slice rA1.sa N1.ss.length rA1.cs, .slice rA1.ka N1.ks.length rA1.ck, .string sp, .slice rA2.pa N2.ps.length rA2.cp, .slice rA2.sa N2.ss.length rA2.cs, .slice rA2.ka N2.ks.length rA2.ck] 33)
  have mm : MadeNd V3 V2.heap.size rA1 N1 ∧ MadeNd V3 V2.heap.size rA2 N2 := by rw [hV3]; exact ⟨m1.same ((Fr.refl _ _).alloc _), m2.same ((Fr.refl _ _).alloc _)⟩
  have zA : V3.heap.size = Y1.heap.size + 1 := by rw [hV3]; simp
  rw [← hV3] at ra
  obtain ⟨a0, a1, n0, n1, n2⟩ := HC.out _ (T2.out.trans s3)
  obtain ⟨x0, x1, x2⟩ := HX.out _ (s3.block xb (by have := HSZ.out; omega) (fun f => f))
  rw [hV3] at a0 a1 n0 n1 n2 x0 x1 x2
  go_wp2_with fail
  rw [← hV3]
  obtain ⟨ab, hab⟩ : ∃ ab, ab = Y1.heap.size := ⟨_, rfl⟩
  rw [← hab] at ra zA ⊢
  have HAB : Hid (V3.heap.size = ab + 1 ∧ V2.heap.size ≤ ab) := ⟨zA, by rw [hab]; exact qq.size⟩
  have HMA : Hid (MadeNd V3 V2.heap.size rA1 N1 ∧ MadeNd V3 V2.heap.size rA2 N2) := mm
  have HRA : Hid (V3.heap[ab]? = some (.cells #[.slice rA1.pa N1.ps.length rA1.cp, .slice rA1.sa N1.ss.length rA1.cs, .slice rA1.ka N1.ks.length rA1.ck, .string sp, .slice rA2.pa N2.ps.length rA2.cp, .slice rA2.sa N2.ss.length rA2.cs, .slice rA2.ka N2.ks.length rA2.ck] 33 (0, 0))) := ra
  have HS3 : Hid (Same V2 V3) := s3
  have HAPA : Hid (∀ k, blkN rA2 k → ¬ blkN rA1 k) := apA
  clear apA
  clear hV3 a0 a1 n0 n1 n2 x0 x1 x2 hab m1 m2 mm qq ra zA s3
  refine (HR.out _ _ _ _ _ _ _ _ (HLA.out _ HS3.out)).mono ?_
  rintro e Y2 ⟨⟨rB1, rB2, rfl, m1, m2, apB⟩, qq⟩
  obtain ⟨V4, hV4⟩ : ∃ Z, Z = Y2.alloc (.cells #[.slice rB1.pa N1.ps.length rB1.cp, .slice rB1.sa N1.ss.length rB1.cs, .slice rB1.ka N1.ks.length rB1.ck, .string sp, .slice rB2.pa N2.ps.length rB2.cp, .slice rB2.sa N2.ss.length rB2.cs, .slice rB2.ka N2.ks.length rB2.ck] 33) := ⟨_, rfl⟩
  have s4 : Same V3 V4 := by rw [hV4]; exact Fr.alloc qq _
  have ra := heap_alloc_new Y2 (.cells #[.slice rB1.pa N1.ps.length rB1.cp, .slice rB1.sa N1.ss.length rB1.cs, .slice rB1.ka N1.ks.length rB1.ck, .string sp, .slice rB2.pa N2.ps.length rB2.cp, .slice rB2.sa N2.ss.length rB2.cs, .slice rB2.ka N2.ks.length rB2.ck] 33)
  have mm : MadeNd V4 V3.heap.size rB1 N1 ∧ MadeNd V4 V3.heap.size rB2 N2 := by rw [hV4]; exact ⟨m1.same ((Fr.refl _ _).alloc _), m2.same ((Fr.refl _ _).alloc _)⟩
  have zA : V4.heap.size = Y2.heap.size + 1 := by rw [hV4]; simp
  rw [← hV4] at ra
  obtain ⟨a0, a1, n0, n1, n2⟩ := HC.out _ (T2.out.trans (HS3.out.trans s4))
  obtain ⟨x0, x1, x2⟩ := HX.out _ ((HS3.out.trans s4).block xb (by have := HSZ.out; omega) (fun f => f))
  rw [hV4] at a0 a1 n0 n1 n2 x0 x1 x2
  go_wp2_with fail
  rw [← hV4]
  obtain ⟨bb, hbb⟩ : ∃ ab, ab = Y2.heap.size := ⟨_, rfl⟩
  rw [← hbb] at ra zA ⊢
  have HBB : Hid (V4.heap.size = bb + 1 ∧ V3.heap.size ≤ bb) := ⟨zA, by rw [hbb]; exact qq.size⟩
  have HMB : Hid (MadeNd V4 V3.heap.size rB1 N1 ∧ MadeNd V4 V3.heap.size rB2 N2) := mm
  have HRB : Hid (V4.heap[bb]? = some (.cells #[.slice rB1.pa N1.ps.length rB1.cp, .slice rB1.sa N1.ss.length rB1.cs, .slice rB1.ka N1.ks.length rB1.ck, .string sp, .slice rB2.pa N2.ps.length rB2.cp, .slice rB2.sa N2.ss.length rB2.cs, .slice rB2.ka N2.ks.length rB2.ck] 33 (0, 0))) := ra
  have HS4 : Hid (Same V3 V4) := s4
  have HAPB : Hid (∀ k, blkN rB2 k → ¬ blkN rB1 k) := apB
  clear apB
  clear hV4 a0 a1 n0 n1 n2 x0 x1 x2 hbb m1 m2 mm qq ra zA s4
  refine (HD.out _ (t1.trans (T2.out.trans (HS3.out.trans HS4.out)))).mono ?_
  rintro e Y3 ⟨⟨rC1, rC2, rfl, m1, m2⟩, qq⟩
  obtain ⟨V5, hV5⟩ : ∃ Z, Z = Y3.alloc (.cells #[.slice rC1.pa N1.ps.length rC1.cp, .slice rC1.sa N1.ss.length rC1.cs, .slice rC1.ka N1.ks.length rC1.ck, .string sp, .slice rC2.pa N2.ps.length rC2.cp, .slice rC2.sa N2.ss.length rC2.cs, .slice rC2.ka N2.ks.length rC2.ck] 33) := ⟨_, rfl⟩
  have s5 : Same V4 V5 := by rw [hV5]; exact Fr.alloc qq _
  have ra := heap_alloc_new Y3 (.cells #[.slice rC1.pa N1.ps.length rC1.cp, .slice rC1.sa N1.ss.length rC1.cs, .slice rC1.ka N1.ks.length rC1.ck, .string sp, .slice rC2.pa N2.ps.length rC2.cp, .slice rC2.sa N2.ss.length rC2.cs, .slice rC2.ka N2.ks.length rC2.ck] 33)
  have mm : MadeNd V5 V4.heap.size rC1 N1 ∧ MadeNd V5 V4.heap.size rC2 N2 := by rw [hV5]; exact ⟨m1.same ((Fr.refl _ _).alloc _), m2.same ((Fr.refl _ _).alloc _)⟩
  have zA : V5.heap.size = Y3.heap.size + 1 := by rw [hV5]; simp
  rw [← hV5] at ra
  obtain ⟨a0, a1, n0, n1, n2⟩ := HC.out _ (T2.out.trans ((HS3.out.trans HS4.out).trans s5))
  obtain ⟨x0, x1, x2⟩ := HX.out _ (((HS3.out.trans HS4.out).trans s5).block xb (by have := HSZ.out; omega) (fun f => f))
  rw [hV5] at a0 a1 n0 n1 n2 x0 x1 x2
  go_wp2_with fail
  rw [← hV5]
  obtain ⟨cb, hcb⟩ : ∃ ab, ab = Y3.heap.size := ⟨_, rfl⟩
  rw [← hcb] at ra zA ⊢
  have HCB : Hid (V5.heap.size = cb + 1 ∧ V4.heap.size ≤ cb) := ⟨zA, by rw [hcb]; exact qq.size⟩
  have HMC : Hid (MadeNd V5 V4.heap.size rC1 N1 ∧ MadeNd V5 V4.heap.size rC2 N2) := mm
  have HRC : Hid (V5.heap[cb]? = some (.cells #[.slice rC1.pa N1.ps.length rC1.cp, .slice rC1.sa N1.ss.length rC1.cs, .slice rC1.ka N1.ks.length rC1.ck, .string sp, .slice rC2.pa N2.ps.length rC2.cp, .slice rC2.sa N2.ss.length rC2.cs, .slice rC2.ka N2.ks.length rC2.ck] 33 (0, 0))) := ra
  have HS5 : Hid (Same V4 V5) := s5
  clear hV5 a0 a1 n0 n1 n2 x0 x1 x2 hcb m1 m2 mm qq ra zA s5
  have HT5 : Hid (Same V2 V5) := (HS3.out.trans HS4.out).trans HS5.out
  obtain ⟨a0, a1, n0, n1, n2⟩ := HC.out _ (T2.out.trans HT5.out)
  obtain ⟨x0, x1, x2⟩ := HX.out _ (HT5.out.block xb (by have := HSZ.out; omega) (fun f => f))
  try go_wp2_with fail
  refine (HK.out _ _ _ _ _ _ _ _ (t1.trans (T2.out.trans HT5.out)) (HLA.out _ HT5.out)).mono ?_
  rintro e Y5 ⟨rfl, q5⟩
  have HT6 : Hid (Same V2 Y5) := HT5.out.trans q5
  clear a0 a1 n0 n1 n2 x0 x1 x2
  obtain ⟨x0, x1, x2⟩ := HX.out _ (HT6.out.block xb (by have := HSZ.out; omega) (fun f => f))
  go_wp2_with fail
  refine (HSP.out _ _ _ _ _ _ _ _ (HLA.out _ HT6.out)).mono ?_
  rintro e Y6 ⟨⟨nn, rfl⟩, q6⟩
  have q67 : Fr (fun k => V.heap.size ≤ k ∧ k < xb) Y5 Y6 := q6.mono (fun k _ e => by have := HSZ.out; omega)
  obtain ⟨z1, z2⟩ := HAB.out
  obtain ⟨z3, z4⟩ := HBB.out
  obtain ⟨z5, z6⟩ := HCB.out
  have z7 := HSZ.out.2.2
  have qa : Same V3 Y5 := (HS4.out.trans HS5.out).trans q5
  have qb : Same V4 Y5 := HS5.out.trans q5
  have fa : Y6.heap[ab]? = some (.cells #[.slice rA1.pa N1.ps.length rA1.cp, .slice rA1.sa N1.ss.length rA1.cs, .slice rA1.ka N1.ks.length rA1.ck, .string sp, .slice rA2.pa N2.ps.length rA2.cp, .slice rA2.sa N2.ss.length rA2.cs, .slice rA2.ka N2.ks.length rA2.ck] 33 (0, 0)) := (q67.block ab (by have := qa.size; omega) (by omega)).trans ((qa.block ab (by omega) (fun f => f)).trans HRA.out)
  have MA6 : MadeNd Y6 V2.heap.size rA1 N1 ∧ MadeNd Y6 V2.heap.size rA2 N2 := ⟨(HMA.out.1.same qa).fr q67 (fun kk hk e => by have := (HMA.out.1.blk hk).1; omega), (HMA.out.2.same qa).fr q67 (fun kk hk e => by have := (HMA.out.2.blk hk).1; omega)⟩
  have fb : Y6.heap[bb]? = some (.cells #[.slice rB1.pa N1.ps.length rB1.cp, .slice rB1.sa N1.ss.length rB1.cs, .slice rB1.ka N1.ks.length rB1.ck, .string sp, .slice rB2.pa N2.ps.length rB2.cp, .slice rB2.sa N2.ss.length rB2.cs, .slice rB2.ka N2.ks.length rB2.ck] 33 (0, 0)) := (q67.block bb (by have := qb.size; omega) (by omega)).trans ((qb.block bb (by omega) (fun f => f)).trans HRB.out)
  have MB6 : MadeNd Y6 V3.heap.size rB1 N1 ∧ MadeNd Y6 V3.heap.size rB2 N2 := ⟨(HMB.out.1.same qb).fr q67 (fun kk hk e => by have := (HMB.out.1.blk hk).1; omega), (HMB.out.2.same qb).fr q67 (fun kk hk e => by have := (HMB.out.2.blk hk).1; omega)⟩
  have fc : Y6.heap[cb]? = some (.cells #[.slice rC1.pa N1.ps.length rC1.cp, .slice rC1.sa N1.ss.length rC1.cs, .slice rC1.ka N1.ks.length rC1.ck, .string sp, .slice rC2.pa N2.ps.length rC2.cp, .slice rC2.sa N2.ss.length rC2.cs, .slice rC2.ka N2.ks.length rC2.ck] 33 (0, 0)) := (q67.block cb (by have := q5.size; omega) (by omega)).trans ((q5.block cb (by omega) (fun f => f)).trans HRC.out)
  have MC6 : MadeNd Y6 V4.heap.size rC1 N1 ∧ MadeNd Y6 V4.heap.size rC2 N2 := ⟨(HMC.out.1.same q5).fr q67 (fun kk hk e => by have := (HMC.out.1.blk hk).1; omega), (HMC.out.2.same q5).fr q67 (fun kk hk e => by have := (HMC.out.2.blk hk).1; omega)⟩
  have HAP3 : Hid (∀ k, (blkN rB1 k ∨ blkN rB2 k ∨ blkN rC1 k ∨ blkN rC2 k) → ¬ (blkN rA1 k ∨ blkN rA2 k)) := fun kk e1 e2 => by
    have hi : kk < V3.heap.size := by
      rcases e2 with e2 | e2
      · exact (HMA.out.1.blk e2).2
      · exact (HMA.out.2.blk e2).2
    have lo : V3.heap.size ≤ kk := by
      rcases e1 with e1 | e1 | e1 | e1
      · exact (HMB.out.1.blk e1).1
      · exact (HMB.out.2.blk e1).1
      · have := (HMC.out.1.blk e1).1; omega
      · have := (HMC.out.2.blk e1).1; omega
    omega
  have HM6 : Hid ((MadeNd Y6 V2.heap.size rA1 N1 ∧ MadeNd Y6 V2.heap.size rA2 N2) ∧ (MadeNd Y6 V3.heap.size rB1 N1 ∧ MadeNd Y6 V3.heap.size rB2 N2) ∧ (MadeNd Y6 V4.heap.size rC1 N1 ∧ MadeNd Y6 V4.heap.size rC2 N2)) := ⟨MA6, MB6, MC6⟩
  have HW6 : Hid (Same w Y6) := Fr.trans (t1.trans (T2.out.trans HT6.out)) q67 (fun kk hk e => by have := HVZ.out; omega)
  have HAL : Hid (∀ kk, (blkN rA1 kk ∨ blkN rA2 kk) → w.heap.size ≤ kk) := fun kk e => by
    have h1 := HVZ.out
    have h2 := T2.out.size
    rcases e with e | e
    · have := (HMA.out.1.blk e).1; omega
    · have := (HMA.out.2.blk e).1; omega
  have ua0 : Y6.cell? ⟨ab, 0, none⟩ = some (.slice rA1.pa N1.ps.length rA1.cp) := (cell_of_row _ _ _ _ _ _ fa).trans rfl
  have ua1 : Y6.cell? ⟨ab, 1, none⟩ = some (.slice rA1.sa N1.ss.length rA1.cs) := (cell_of_row _ _ _ _ _ _ fa).trans rfl
  have ua2 : Y6.cell? ⟨ab, 2, none⟩ = some (.slice rA1.ka N1.ks.length rA1.ck) := (cell_of_row _ _ _ _ _ _ fa).trans rfl
  have ua3 : Y6.cell? ⟨ab, 3, none⟩ = some (.string sp) := (cell_of_row _ _ _ _ _ _ fa).trans rfl
  have ua4 : Y6.cell? ⟨ab, 4, none⟩ = some (.slice rA2.pa N2.ps.length rA2.cp) := (cell_of_row _ _ _ _ _ _ fa).trans rfl
  have ua5 : Y6.cell? ⟨ab, 5, none⟩ = some (.slice rA2.sa N2.ss.length rA2.cs) := (cell_of_row _ _ _ _ _ _ fa).trans rfl
  have ua6 : Y6.cell? ⟨ab, 6, none⟩ = some (.slice rA2.ka N2.ks.length rA2.ck) := (cell_of_row _ _ _ _ _ _ fa).trans rfl
  have ub0 : Y6.cell? ⟨bb, 0, none⟩ = some (.slice rB1.pa N1.ps.length rB1.cp) := (cell_of_row _ _ _ _ _ _ fb).trans rfl
  have ub1 : Y6.cell? ⟨bb, 1, none⟩ = some (.slice rB1.sa N1.ss.length rB1.cs) := (cell_of_row _ _ _ _ _ _ fb).trans rfl
  have ub2 : Y6.cell? ⟨bb, 2, none⟩ = some (.slice rB1.ka N1.ks.length rB1.ck) := (cell_of_row _ _ _ _ _ _ fb).trans rfl
  have ub3 : Y6.cell? ⟨bb, 3, none⟩ = some (.string sp) := (cell_of_row _ _ _ _ _ _ fb).trans rfl
  have ub4 : Y6.cell? ⟨bb, 4, none⟩ = some (.slice rB2.pa N2.ps.length rB2.cp) := (cell_of_row _ _ _ _ _ _ fb).trans rfl
  have ub5 : Y6.cell? ⟨bb, 5, none⟩ = some (.slice rB2.sa N2.ss.length rB2.cs) := (cell_of_row _ _ _ _ _ _ fb).trans rfl
  have ub6 : Y6.cell? ⟨bb, 6, none⟩ = some (.slice rB2.ka N2.ks.length rB2.ck) := (cell_of_row _ _ _ _ _ _ fb).trans rfl
  have uc0 : Y6.cell? ⟨cb, 0, none⟩ = some (.slice rC1.pa N1.ps.length rC1.cp) := (cell_of_row _ _ _ _ _ _ fc).trans rfl
  have uc1 : Y6.cell? ⟨cb, 1, none⟩ = some (.slice rC1.sa N1.ss.length rC1.cs) := (cell_of_row _ _ _ _ _ _ fc).trans rfl
  have uc2 : Y6.cell? ⟨cb, 2, none⟩ = some (.slice rC1.ka N1.ks.length rC1.ck) := (cell_of_row _ _ _ _ _ _ fc).trans rfl
  have uc3 : Y6.cell? ⟨cb, 3, none⟩ = some (.string sp) := (cell_of_row _ _ _ _ _ _ fc).trans rfl
  have uc4 : Y6.cell? ⟨cb, 4, none⟩ = some (.slice rC2.pa N2.ps.length rC2.cp) := (cell_of_row _ _ _ _ _ _ fc).trans rfl
  have uc5 : Y6.cell? ⟨cb, 5, none⟩ = some (.slice rC2.sa N2.ss.length rC2.cs) := (cell_of_row _ _ _ _ _ _ fc).trans rfl
  have uc6 : Y6.cell? ⟨cb, 6, none⟩ = some (.slice rC2.ka N2.ks.length rC2.ck) := (cell_of_row _ _ _ _ _ _ fc).trans rfl
  clear z1 z2 z3 z4 z5 z6 z7 qa qb fa fb fc MA6 MB6 MC6 q67 q6 x0 x1 x2
  go_wp2_with fail
  refine (HFR.out _ _ _ _ _ _ _ _ _ _ _ _ _ HM6.out.1.1 HM6.out.1.2 HM6.out.2.1.1 HM6.out.2.1.2 HM6.out.2.2.1 HM6.out.2.2.2 HAPA.out HAP3.out).mono ?_
  rintro e Y8 ⟨rfl, q8⟩
  go_wp2_with fail
  refine (HA.out _).mono ?_
  rintro e Y9 ⟨rfl, q9⟩
  go_wp2_with fail
  go_ret
  exact ⟨rfl, Same.trans (Fr.trans HW6.out q8 (fun kk hk e => by have := HAL.out kk e; omega)) q9⟩
theorem gsplits_walk {p q : Int} {r : Nr} {N : Nd} (w : World) (h : NdIn w r N) (hc : NdCapN r N) (hs : NdSmall N) :
    Calls Try.prog 3 #[frameV p q, ndV r N] w fun e w' => e = .returned (.bool true) ∧ Same w w' := by
  cases hg : greatB N with
  | true => exact gsplits_great w hg
  | false =>
    obtain ⟨E, N1, N2, sp, ok, hP, hD⟩ := split_both (p := p) (q := q) hs h.at_.ok
    refine gsplits_core w h hs ok hg (fun W gp cp gs cs gk ck B l => hP _ _ (l.nd h.at_) ?_) (fun W s => hD _ _ (h.same s) hc)
    obtain ⟨h1, h2, h3⟩ := l.caps
    exact ⟨by show _ ≤ cp; omega, by show _ ≤ cs; omega, by show _ ≤ ck; omega, fun e => (by cases e), fun e => (by cases e), fun e => (by cases e), fun a e => (by cases e; exact ⟨gp, 0, rfl⟩), fun a e => (by cases e; exact ⟨gs, 0, rfl⟩), fun a e => (by cases e; exact ⟨gk, 0, rfl⟩)⟩
end Go.Proofs.Ytgihhegkldmhfaa
namespace Go.Proofs.Ytgihhegkldmhfaa
open Go.ChangeShapes Go.WideShapes Go.ChangeAt Go.RowKit
open Go.ChangeMaps (open_string shut_string)

set_option maxRecDepth 100000 in
theorem gsplits_contract (H : Type) (enc : TypeId × Value → H) (W : World) (base : Nat) (args : Array Value) (ds gs : List (DataW H)) (before : List MemPlace)
    (hval : ∀ (j : Nat) t v, Try.f3.params[j]? = some t → args[j]? = some v → Value.okWide Try.prog W .any base t v)
    (hW : DataW.Whole enc Try.prog Try.f3.params.toList Rows.graftSplitsSpec.vars false W args.toList ds gs before) (hk : Rows.uptoSmall H (ds ++ gs) = true) :
    Calls Try.prog 3 args W fun e W' => ∃ v, e = .returned v ∧ Rows.graftSplitsSpec.post enc Try.prog Try.f3 false true false false W args v W' := by
  have hW' := hW
  obtain ⟨p, q, hA0, hV, rfl, hfz, hnd⟩ := hW
  have hA : DataW.TrodAll enc Try.prog W 0 (fun _ => true) true Try.f3.params.toList args.toList ds p := hA0
  rw [Try.params3] at hA hval
  obtain ⟨v0, vs0, d0, ds0, p0, q0, hargs, rfl, rfl, h0, r0⟩ := trodAll_cons hA
  obtain ⟨v1, vs1, d1, ds1, p1, q1, rfl, rfl, rfl, h1, r1⟩ := trodAll_cons r0
  obtain ⟨rfl, rfl, rfl⟩ := trodAll_nil r1
  obtain rfl : args = #[v0, v1] := by cases args; simp_all
  obtain ⟨rfl, rfl⟩ := trodVars_none hV
  have k0 := h0
  have lt0 : ∀ x ∈ p0, x.block < W.heap.size := by obtain ⟨m, hm⟩ := k0; exact DataW.trod_lt m _ _ _ hm
  have k1 := h1
  have lt1 : ∀ x ∈ p1, x.block < W.heap.size := by obtain ⟨m, hm⟩ := k1; exact DataW.trod_lt m _ _ _ hm
  have hB : Rows.uptoBulkAll [d0, d1] ≤ 1048576 := by
    simp only [List.append_nil] at hk
    exact of_decide_eq_true hk
  simp only [Rows.uptoBulkAll] at hB
  obtain ⟨fp0, fq0, rfl⟩ := open_frame (hval 0 23 v0 rfl rfl) h0
  obtain ⟨r1, N1, rfl, hn1, hcap1, hm1⟩ := open_nodeC (hval 1 28 v1 rfl rfl) h1 (by omega)
  clear hA0 hval
  refine (gsplits_walk (p := fp0) (q := fq0) W hn1 hcap1 hm1).mono fun e W' ⟨he, sm⟩ => ?_
  subst he
  have bel : Below W.heap.size W W' := Fr.below sm (Nat.le_refl _) (fun _ f => f.elim)
  exact ⟨_, rfl, _, _, _, [], _, [], hW', trodAll_mk1 (shut_bool Try.underlying4 _), trodAll_cons_mk (Below.trod nd_laidOut (by kernel_rfl) (of_decide_eq_true (by kernel_rfl)) k0 bel lt0) (trodAll_cons_mk (Below.trod nd_laidOut (by kernel_rfl) (of_decide_eq_true (by kernel_rfl)) k1 bel lt1) trodAll_mk0), rfl, bel.frame _, fun h => by cases h⟩

set_option maxRecDepth 100000 in
theorem gsplits_lifted (os : Os) (started : os.Started) (H : Type) (enc : TypeId × Value → H) (F : Stop.Interp) :
    ReturnsInHanded {} Try.checked os 3 .any ((Rows.OpenSpec.upto Rows.graftSplitsSpec).pre6 enc Try.prog Try.f3 Rows.graftSplitsUptoRow.domain false) (((Rows.OpenSpec.upto Rows.graftSplitsSpec).at F).post enc Try.prog Try.f3 false true false false) := by
  refine returnsInHanded_of_cond (C := Try.checked) (s := Rows.OpenSpec.upto Rows.graftSplitsSpec) (k := Rows.uptoSmall) rfl nd_own started (by kernel_rfl) Try.func3
    (OpenSpec.witness (enc := enc) (C := Try.checked) (s := Rows.OpenSpec.upto Rows.graftSplitsSpec) (k := Rows.uptoSmall) rfl false ⟨#[], #[.agg #[.int .i64 0, .int .i64 0], .agg #[.slice none 0 0, .slice none 0 0, .slice none 0 0]], []⟩ 8 (by kernel_rfl) (by kernel_rfl) (by kernel_rfl)
      (x := ([.agg [.lit (.int .i64 0), .lit (.int .i64 0)], .agg [.nil, .nil, .nil]], [], [])) (by kernel_rfl) rfl (by kernel_rfl)) ?_
  intro W base args ds gs before hval hW _ hk _
  exact gsplits_contract H enc W base args ds gs before hval hW hk

theorem gsplits_holds : Rows.GraftSplitsUptoSaid :=
  OpenClaim.holds_of_cond 3 Try.f3 rfl rfl rfl rfl rfl rfl rfl ⟨rfl, rfl, rfl, rfl, rfl⟩ rfl rfl rfl rfl rfl (by kernel_rfl) Try.func3 (by kernel_rfl)
    (of_decide_eq_true (by kernel_rfl)) (by unfold Func.isWrapper; first | (rw [if_pos (by decide +kernel)]; kernel_rfl) | (rw [if_neg (by decide +kernel)]; exact ⟨rfl, rfl⟩))
    (fun os started H enc _ F => gsplits_lifted os started H enc F)
end Go.Proofs.Ytgihhegkldmhfaa
