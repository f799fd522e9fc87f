/- halved of a branch. -/
import Derived.Test.YteddbkbfnafbpaaVG
import Derived.Test.YteddbkbfnafbpaaV3
namespace Go.Proofs.Yteddbkbfnafbpaa
open Go.RowKit

set_option maxRecDepth 100000 in
set_option maxHeartbeats 4000000 in
theorem halved_branch {r : Nr} {N : Nd} {m : Nat} {sp : ByteArray} (w : World) (hr : TRow w r.sa r.sb r.so N.ss) (hk : 0 < N.ks.length) (hx : N.ss[m]? = some sp) (hn : N.ss.length ≤ 1048576)
    (HF1 : Hid (∀ W, Same w W → Calls Try.prog 61 #[.slice r.sa N.ss.length r.cs, .int .i64 (m : Int)] W fun e w' => ∃ ao' c', e = .returned (.slice ao' m c') ∧ w'.ownsRow W.heap.size 9 1 (.slice ao' m c') m (scells (N.ss.take m)) ∧ Same W w'))
    (HF2 : Hid (∀ W, Same w W → Calls Try.prog 62 #[.slice r.ka N.ks.length r.ck, .int .i64 ((m + 1 : Nat) : Int)] W fun e w' => ∃ ao' c', e = .returned (.slice ao' (m + 1) c') ∧ w'.ownsRow W.heap.size 46 33 (.slice ao' (m + 1) c') (m + 1) (kcellsL (N.ks.take (m + 1))) ∧ Same W w'))
    (HW1 : Hid (∀ W, Same w W → Calls Try.prog 15 #[.slice r.sa N.ss.length r.cs, .int .i64 0, .int .i64 ((m + 1 : Nat) : Int)] W fun e w' => ∃ ao' c', e = .returned (.slice ao' (N.ss.length - (m + 1)) c') ∧ w'.ownsRow W.heap.size 9 1 (.slice ao' (N.ss.length - (m + 1)) c') (N.ss.length - (m + 1)) (scells (N.ss.drop (m + 1))) ∧ Same W w'))
    (HW2 : Hid (∀ W, Same w W → Calls Try.prog 17 #[.slice r.ka N.ks.length r.ck, .int .i64 0, .int .i64 ((m + 1 : Nat) : Int)] W fun e w' => ∃ ao' c', e = .returned (.slice ao' (N.ks.length - (m + 1)) c') ∧ w'.ownsRow W.heap.size 46 33 (.slice ao' (N.ks.length - (m + 1)) c') (N.ks.length - (m + 1)) (kcellsL (N.ks.drop (m + 1))) ∧ Same W w')) :
    Calls Try.prog 42 #[ndV r N, .int .i64 ((m + 1 : Nat) : Int)] w fun e w' => ∃ ao1 c1 ao2 c2 ao3 c3 ao4 c4, e = .returned (.agg #[.slice none 0 0, .slice ao1 m c1, .slice ao2 (m + 1) c2, .string sp, .slice none 0 0, .slice ao3 (N.ss.length - (m + 1)) c3, .slice ao4 (N.ks.length - (m + 1)) c4]) ∧ w'.ownsRow w.heap.size 9 1 (.slice ao1 m c1) m (scells (N.ss.take m)) ∧ w'.ownsRow w.heap.size 46 33 (.slice ao2 (m + 1) c2) (m + 1) (kcellsL (N.ks.take (m + 1))) ∧ w'.ownsRow w.heap.size 9 1 (.slice ao3 (N.ss.length - (m + 1)) c3) (N.ss.length - (m + 1)) (scells (N.ss.drop (m + 1))) ∧ w'.ownsRow w.heap.size 46 33 (.slice ao4 (N.ks.length - (m + 1)) c4) (N.ks.length - (m + 1)) (kcellsL (N.ks.drop (m + 1))) ∧ Same w w' := by
  have hl : m < N.ss.length := (List.getElem?_eq_some_iff.1 hx).1
  obtain ⟨hpa, _⟩ := hr.place (fun h => by rw [h] at hl; simp at hl)
  have c0 := hr.cells m sp hx
  obtain ⟨n, hnn⟩ : ∃ n, n = m + 1 := ⟨_, rfl⟩
  rw [← hnn] at HF2 HW1 HW2 ⊢
  rw [hpa] at HF1 HW1
  have e1 : RowKit.wrap64 ((n : Int) - 1) = (m : Int) := by unfold RowKit.wrap64; omega
  have e2 : (n : Int) - 1 = (m : Int) := by omega
  have e3 : IntKind.i64.wrap (m : Int) = (m : Int) := by rw [IntKind.wrap_i64]; omega
  have b0 : (m : Int) < (N.ss.length : Int) := by omega
  have b2 : (0 : Int) ≤ (m : Int) := by omega
  have b4 : (0 : Int) < (N.ks.length : Int) := by omega
  have HC : Hid (w.cell? ⟨r.sb, r.so + m, none⟩ = some (.string sp)) := c0
  have HM : Hid (n = m + 1) := hnn
  clear c0 hnn hl hx hr
  go_enter Try.func42, Try.ntmps42
  go_wp2_with fail
  obtain ⟨V, hV⟩ : ∃ V, V = (w.alloc (.cells #[.slice r.pa N.ps.length r.cp, .slice (some ⟨r.sb, r.so, none⟩) N.ss.length r.cs, .slice r.ka N.ks.length r.ck] 28)).alloc (.cells #[.slice none 0 0, .slice none 0 0, .slice none 0 0, .string ⟨#[]⟩, .slice none 0 0, .slice none 0 0, .slice none 0 0] 60) := ⟨_, rfl⟩
  rw [← hV]
  have s0 : Same w V := by rw [hV]; exact ((Fr.refl _ w).alloc _).alloc _
  have a0 : V.cell? ⟨w.heap.size, 1, none⟩ = some (.slice (some ⟨r.sb, r.so, none⟩) N.ss.length r.cs) := by rw [hV]; simp
  have a1 : V.cell? ⟨w.heap.size, 2, none⟩ = some (.slice r.ka N.ks.length r.ck) := by rw [hV]; simp
  have HS : Hid (∀ W, Same V W → W.cell? ⟨w.heap.size, 1, none⟩ = some (.slice (some ⟨r.sb, r.so, none⟩) N.ss.length r.cs) ∧ W.cell? ⟨w.heap.size, 2, none⟩ = some (.slice r.ka N.ks.length r.ck) ∧ W.cell? ⟨r.sb, r.so + m, none⟩ = some (.string sp)) := fun W h => ⟨h.keep a0, h.keep a1, h.keep (s0.keep HC.out)⟩
  have d0 : Same V V.drew := Fr.drew (Fr.refl _ V)
  have r2 : V.heap[w.heap.size + 1]? = some (.cells #[.slice none 0 0, .slice none 0 0, .slice none 0 0, .string ⟨#[]⟩, .slice none 0 0, .slice none 0 0, .slice none 0 0] 60 (0, 0)) := by rw [hV]; exact heap_alloc2_new w _ _
  have HG : Hid (∀ W, Same V W → W.heap[w.heap.size + 1]? = some (.cells #[.slice none 0 0, .slice none 0 0, .slice none 0 0, .string ⟨#[]⟩, .slice none 0 0, .slice none 0 0, .slice none 0 0] 60 (0, 0))) := fun W s => (s.block _ (lt_of_heap r2) (fun e => e)).trans r2
  have HZ : Hid (w.heap.size + 2 ≤ V.heap.size) := by show _ ≤ _; rw [hV]; simp
  clear r2 a0 a1 hV
  refine wp_region_held_drew (S := fun W => W.cell? ⟨w.heap.size, 1, none⟩ = some (.slice (some ⟨r.sb, r.so, none⟩) N.ss.length r.cs) ∧ W.cell? ⟨w.heap.size, 2, none⟩ = some (.slice r.ka N.ks.length r.ck) ∧ W.cell? ⟨r.sb, r.so + m, none⟩ = some (.string sp)) (by kernel_rfl) (HS.out _ d0) (fun hHeld => ?_)
  refine wpAnyH_take (i := 0) (oi := { dst := some 11, op := Op.fieldAddr 28 (Operand.tmp 2) 1, type := 0, pos := "cut.go:120", after := #[], guard := none }) (v := .pointer (some ⟨w.heap.size, 1, none⟩)) rfl (by kernel_rfl) (by kernel_rfl) (by kernel_rfl) (fun _ _ _ h => h) (Or.inl ⟨by rfl, fun w hSw => by (obtain ⟨hA, hB, hC⟩ := hSw; go_simp)⟩) (by assumption) ?_
  try simp only [Act.put, List.setIfInBounds_toArray, List.set_cons_zero, List.set_cons_succ]
  refine wpAnyH_take (i := 1) (oi := { dst := some 12, op := Op.load 25 (Operand.tmp 11), type := 25, pos := "cut.go:120", after := #[{ on := 0, ground := Ground.data }], guard := none }) (v := .slice (some ⟨r.sb, r.so, none⟩) N.ss.length r.cs) rfl (by kernel_rfl) (by kernel_rfl) (by kernel_rfl) (fun _ _ _ h => h) (Or.inl ⟨by rfl, fun w hSw => by (obtain ⟨hA, hB, hC⟩ := hSw; go_simp)⟩) (by assumption) ?_
  try simp only [Act.put, List.setIfInBounds_toArray, List.set_cons_zero, List.set_cons_succ]
  refine wpAnyH_take (i := 2) (oi := { dst := some 13, op := Op.move (Operand.tmp 1), type := 3, pos := "cut.go:120", after := #[], guard := none }) (v := .int .i64 (n : Int)) rfl (by kernel_rfl) (by kernel_rfl) (by kernel_rfl) (fun _ _ _ h => h) (Or.inl ⟨by rfl, fun w hSw => by (obtain ⟨hA, hB, hC⟩ := hSw; go_simp)⟩) (by assumption) ?_
  try simp only [Act.put, List.setIfInBounds_toArray, List.set_cons_zero, List.set_cons_succ]
  refine wpAnyH_take (i := 3) (oi := { dst := some 14, op := Op.binOp BinOp.sub 3 (Operand.tmp 13) (Operand.const (Value.int IntKind.i64 1)) 3, type := 3, pos := "cut.go:120", after := #[{ on := 2, ground := Ground.data }], guard := none }) (v := .int .i64 (m : Int)) rfl (by kernel_rfl) (by kernel_rfl) (by kernel_rfl) (fun _ _ _ h => h) (Or.inl ⟨by rfl, fun w hSw => by (obtain ⟨hA, hB, hC⟩ := hSw; go_simp)⟩) (by assumption) ?_
  try simp only [Act.put, List.setIfInBounds_toArray, List.set_cons_zero, List.set_cons_succ]
  refine wpAnyH_take (i := 5) (oi := { dst := some 16, op := Op.fieldAddr 28 (Operand.tmp 2) 2, type := 0, pos := "cut.go:120", after := #[], guard := none }) (v := .pointer (some ⟨w.heap.size, 2, none⟩)) rfl (by kernel_rfl) (by kernel_rfl) (by kernel_rfl) (fun _ _ _ h => h) (Or.inl ⟨by rfl, fun w hSw => by (obtain ⟨hA, hB, hC⟩ := hSw; go_simp)⟩) (by assumption) ?_
  try simp only [Act.put, List.setIfInBounds_toArray, List.set_cons_zero, List.set_cons_succ]
  refine wpAnyH_take (i := 6) (oi := { dst := some 17, op := Op.load 26 (Operand.tmp 16), type := 26, pos := "cut.go:120", after := #[{ on := 5, ground := Ground.data }], guard := none }) (v := .slice r.ka N.ks.length r.ck) rfl (by kernel_rfl) (by kernel_rfl) (by kernel_rfl) (fun _ _ _ h => h) (Or.inl ⟨by rfl, fun w hSw => by (obtain ⟨hA, hB, hC⟩ := hSw; go_simp)⟩) (by assumption) ?_
  try simp only [Act.put, List.setIfInBounds_toArray, List.set_cons_zero, List.set_cons_succ]
  refine wpAnyH_take (i := 7) (oi := { dst := some 18, op := Op.move (Operand.tmp 1), type := 3, pos := "cut.go:120", after := #[], guard := none }) (v := .int .i64 (n : Int)) rfl (by kernel_rfl) (by kernel_rfl) (by kernel_rfl) (fun _ _ _ h => h) (Or.inl ⟨by rfl, fun w hSw => by (obtain ⟨hA, hB, hC⟩ := hSw; go_simp)⟩) (by assumption) ?_
  try simp only [Act.put, List.setIfInBounds_toArray, List.set_cons_zero, List.set_cons_succ]
  refine wpAnyH_take (i := 10) (oi := { dst := some 21, op := Op.fieldAddr 28 (Operand.tmp 2) 1, type := 0, pos := "cut.go:120", after := #[], guard := none }) (v := .pointer (some ⟨w.heap.size, 1, none⟩)) rfl (by kernel_rfl) (by kernel_rfl) (by kernel_rfl) (fun _ _ _ h => h) (Or.inl ⟨by rfl, fun w hSw => by (obtain ⟨hA, hB, hC⟩ := hSw; go_simp)⟩) (by assumption) ?_
  try simp only [Act.put, List.setIfInBounds_toArray, List.set_cons_zero, List.set_cons_succ]
  refine wpAnyH_take (i := 11) (oi := { dst := some 22, op := Op.load 25 (Operand.tmp 21), type := 25, pos := "cut.go:120", after := #[{ on := 10, ground := Ground.data }], guard := none }) (v := .slice (some ⟨r.sb, r.so, none⟩) N.ss.length r.cs) rfl (by kernel_rfl) (by kernel_rfl) (by kernel_rfl) (fun _ _ _ h => h) (Or.inl ⟨by rfl, fun w hSw => by (obtain ⟨hA, hB, hC⟩ := hSw; go_simp)⟩) (by assumption) ?_
  try simp only [Act.put, List.setIfInBounds_toArray, List.set_cons_zero, List.set_cons_succ]
  refine wpAnyH_take (i := 12) (oi := { dst := some 23, op := Op.move (Operand.tmp 1), type := 3, pos := "cut.go:120", after := #[], guard := none }) (v := .int .i64 (n : Int)) rfl (by kernel_rfl) (by kernel_rfl) (by kernel_rfl) (fun _ _ _ h => h) (Or.inl ⟨by rfl, fun w hSw => by (obtain ⟨hA, hB, hC⟩ := hSw; go_simp)⟩) (by assumption) ?_
  try simp only [Act.put, List.setIfInBounds_toArray, List.set_cons_zero, List.set_cons_succ]
  refine wpAnyH_take (i := 13) (oi := { dst := some 24, op := Op.binOp BinOp.sub 3 (Operand.tmp 23) (Operand.const (Value.int IntKind.i64 1)) 3, type := 3, pos := "cut.go:120", after := #[{ on := 12, ground := Ground.data }], guard := none }) (v := .int .i64 (m : Int)) rfl (by kernel_rfl) (by kernel_rfl) (by kernel_rfl) (fun _ _ _ h => h) (Or.inl ⟨by rfl, fun w hSw => by (obtain ⟨hA, hB, hC⟩ := hSw; go_simp)⟩) (by assumption) ?_
  try simp only [Act.put, List.setIfInBounds_toArray, List.set_cons_zero, List.set_cons_succ]
  refine wpAnyH_take (i := 14) (oi := { dst := some 25, op := Op.indexAddr 25 (Operand.tmp 22) (Operand.tmp 24), type := 0, pos := "cut.go:120", after := #[{ on := 11, ground := Ground.data }, { on := 13, ground := Ground.data }], guard := none }) (v := .pointer (some ⟨r.sb, r.so + m, none⟩)) rfl (by kernel_rfl) (by kernel_rfl) (by kernel_rfl) (fun _ _ _ h => h) (Or.inl ⟨by rfl, fun w hSw => by (obtain ⟨hA, hB, hC⟩ := hSw; go_simp)⟩) (by assumption) ?_
  try simp only [Act.put, List.setIfInBounds_toArray, List.set_cons_zero, List.set_cons_succ]
  refine wpAnyH_take (i := 15) (oi := { dst := some 26, op := Op.load 9 (Operand.tmp 25), type := 9, pos := "cut.go:120", after := #[{ on := 14, ground := Ground.data }], guard := none }) (v := .string sp) rfl (by kernel_rfl) (by kernel_rfl) (by kernel_rfl) (fun _ _ _ h => h) (Or.inl ⟨by rfl, fun w hSw => by (obtain ⟨hA, hB, hC⟩ := hSw; go_simp)⟩) (by assumption) ?_
  try simp only [Act.put, List.setIfInBounds_toArray, List.set_cons_zero, List.set_cons_succ]
  refine wpAnyH_take (i := 16) (oi := { dst := some 27, op := Op.fieldAddr 28 (Operand.tmp 2) 1, type := 0, pos := "cut.go:120", after := #[], guard := none }) (v := .pointer (some ⟨w.heap.size, 1, none⟩)) rfl (by kernel_rfl) (by kernel_rfl) (by kernel_rfl) (fun _ _ _ h => h) (Or.inl ⟨by rfl, fun w hSw => by (obtain ⟨hA, hB, hC⟩ := hSw; go_simp)⟩) (by assumption) ?_
  try simp only [Act.put, List.setIfInBounds_toArray, List.set_cons_zero, List.set_cons_succ]
  refine wpAnyH_take (i := 17) (oi := { dst := some 28, op := Op.load 25 (Operand.tmp 27), type := 25, pos := "cut.go:120", after := #[{ on := 16, ground := Ground.data }], guard := none }) (v := .slice (some ⟨r.sb, r.so, none⟩) N.ss.length r.cs) rfl (by kernel_rfl) (by kernel_rfl) (by kernel_rfl) (fun _ _ _ h => h) (Or.inl ⟨by rfl, fun w hSw => by (obtain ⟨hA, hB, hC⟩ := hSw; go_simp)⟩) (by assumption) ?_
  try simp only [Act.put, List.setIfInBounds_toArray, List.set_cons_zero, List.set_cons_succ]
  refine wpAnyH_take (i := 18) (oi := { dst := some 29, op := Op.move (Operand.tmp 1), type := 3, pos := "cut.go:120", after := #[], guard := none }) (v := .int .i64 (n : Int)) rfl (by kernel_rfl) (by kernel_rfl) (by kernel_rfl) (fun _ _ _ h => h) (Or.inl ⟨by rfl, fun w hSw => by (obtain ⟨hA, hB, hC⟩ := hSw; go_simp)⟩) (by assumption) ?_
  try simp only [Act.put, List.setIfInBounds_toArray, List.set_cons_zero, List.set_cons_succ]
  refine wpAnyH_take (i := 20) (oi := { dst := some 31, op := Op.fieldAddr 28 (Operand.tmp 2) 2, type := 0, pos := "cut.go:120", after := #[], guard := none }) (v := .pointer (some ⟨w.heap.size, 2, none⟩)) rfl (by kernel_rfl) (by kernel_rfl) (by kernel_rfl) (fun _ _ _ h => h) (Or.inl ⟨by rfl, fun w hSw => by (obtain ⟨hA, hB, hC⟩ := hSw; go_simp)⟩) (by assumption) ?_
  try simp only [Act.put, List.setIfInBounds_toArray, List.set_cons_zero, List.set_cons_succ]
  refine wpAnyH_take (i := 21) (oi := { dst := some 32, op := Op.load 26 (Operand.tmp 31), type := 26, pos := "cut.go:120", after := #[{ on := 20, ground := Ground.data }], guard := none }) (v := .slice r.ka N.ks.length r.ck) rfl (by kernel_rfl) (by kernel_rfl) (by kernel_rfl) (fun _ _ _ h => h) (Or.inl ⟨by rfl, fun w hSw => by (obtain ⟨hA, hB, hC⟩ := hSw; go_simp)⟩) (by assumption) ?_
  try simp only [Act.put, List.setIfInBounds_toArray, List.set_cons_zero, List.set_cons_succ]
  refine wpAnyH_take (i := 22) (oi := { dst := some 33, op := Op.move (Operand.tmp 1), type := 3, pos := "cut.go:120", after := #[], guard := none }) (v := .int .i64 (n : Int)) rfl (by kernel_rfl) (by kernel_rfl) (by kernel_rfl) (fun _ _ _ h => h) (Or.inl ⟨by rfl, fun w hSw => by (obtain ⟨hA, hB, hC⟩ := hSw; go_simp)⟩) (by assumption) ?_
  try simp only [Act.put, List.setIfInBounds_toArray, List.set_cons_zero, List.set_cons_succ]
  refine wpAnyH_ready (rs := [4]) (by kernel_rfl) (by simp) ?_
  refine AllReadyH.cons (o := { dst := some 15, op := Op.call { callee := Callee.value (Operand.func 61), args := #[Operand.tmp 12, Operand.tmp 14], argTypes := #[25, 3] }, type := 25, pos := "cut.go:121", after := #[{ on := 1, ground := Ground.data }, { on := 3, ground := Ground.data }], guard := none }) rfl (fun K hK => ?_) AllReadyH.nil
  go_simp
  go_at_call 61
  refine (HF1.out _ (s0.trans d0)).mono ?_
  rintro e Z1 ⟨ao1, c1, rfl, own1, q1⟩
  try go_wp2_with fail
  have x1 := Same.trans d0 q1
  refine hK.out _ _ (HS.out _ x1) (fun hHeld => ?_)
  clear hK K
  try simp only [Act.put, List.setIfInBounds_toArray, List.set_cons_zero, List.set_cons_succ]
  refine wpAnyH_ready (rs := [8]) (by kernel_rfl) (by simp) ?_
  refine AllReadyH.cons (o := { dst := some 19, op := Op.call { callee := Callee.value (Operand.func 62), args := #[Operand.tmp 17, Operand.tmp 18], argTypes := #[26, 3] }, type := 26, pos := "cut.go:121", after := #[{ on := 6, ground := Ground.data }, { on := 7, ground := Ground.data }, { on := 4, ground := Ground.chain }], guard := none }) rfl (fun K hK => ?_) AllReadyH.nil
  go_simp
  go_at_call 62
  refine (HF2.out _ (s0.trans x1)).mono ?_
  rintro e Z2 ⟨ao2, c2, rfl, own2, q2⟩
  try go_wp2_with fail
  have x2 := Same.trans x1 q2
  refine hK.out _ _ (HS.out _ x2) (fun hHeld => ?_)
  clear hK K
  try simp only [Act.put, List.setIfInBounds_toArray, List.set_cons_zero, List.set_cons_succ]
  refine wpAnyH_take (i := 9) (oi := { dst := some 20, op := Op.build 28 #[(1, Operand.tmp 15), (2, Operand.tmp 19)], type := 28, pos := "cut.go:120", after := #[{ on := 4, ground := Ground.data }, { on := 8, ground := Ground.data }], guard := none }) (v := .agg #[.slice none 0 0, .slice ao1 m c1, .slice ao2 n c2]) rfl (by kernel_rfl) (by kernel_rfl) (by kernel_rfl) (fun _ _ _ h => h) (Or.inl ⟨by rfl, fun w hSw => by (obtain ⟨hA, hB, hC⟩ := hSw; go_simp)⟩) (by assumption) ?_
  try simp only [Act.put, List.setIfInBounds_toArray, List.set_cons_zero, List.set_cons_succ]
  refine wpAnyH_ready (rs := [19]) (by kernel_rfl) (by simp) ?_
  refine AllReadyH.cons (o := { dst := some 30, op := Op.call { callee := Callee.value (Operand.func 15), args := #[Operand.tmp 28, Operand.const (Value.int IntKind.i64 0), Operand.tmp 29], argTypes := #[25, 3, 3] }, type := 25, pos := "cut.go:123", after := #[{ on := 17, ground := Ground.data }, { on := 18, ground := Ground.data }, { on := 8, ground := Ground.chain }], guard := none }) rfl (fun K hK => ?_) AllReadyH.nil
  go_simp
  go_at_call 15
  refine (HW1.out _ (s0.trans x2)).mono ?_
  rintro e Z3 ⟨ao3, c3, rfl, own3, q3⟩
  try go_wp2_with fail
  have x3 := Same.trans x2 q3
  refine hK.out _ _ (HS.out _ x3) (fun hHeld => ?_)
  clear hK K
  try simp only [Act.put, List.setIfInBounds_toArray, List.set_cons_zero, List.set_cons_succ]
  refine wpAnyH_ready (rs := [23]) (by kernel_rfl) (by simp) ?_
  refine AllReadyH.cons (o := { dst := some 34, op := Op.call { callee := Callee.value (Operand.func 17), args := #[Operand.tmp 32, Operand.const (Value.int IntKind.i64 0), Operand.tmp 33], argTypes := #[26, 3, 3] }, type := 26, pos := "cut.go:123", after := #[{ on := 21, ground := Ground.data }, { on := 22, ground := Ground.data }, { on := 19, ground := Ground.chain }], guard := none }) rfl (fun K hK => ?_) AllReadyH.nil
  go_simp
  go_at_call 17
  refine (HW2.out _ (s0.trans x3)).mono ?_
  rintro e Z4 ⟨ao4, c4, rfl, own4, q4⟩
  try go_wp2_with fail
  have x4 := Same.trans x3 q4
  refine hK.out _ _ (HS.out _ x4) (fun hHeld => ?_)
  clear hK K
  try simp only [Act.put, List.setIfInBounds_toArray, List.set_cons_zero, List.set_cons_succ]
  refine wpAnyH_take (i := 24) (oi := { dst := some 35, op := Op.build 28 #[(1, Operand.tmp 30), (2, Operand.tmp 34)], type := 28, pos := "cut.go:120", after := #[{ on := 19, ground := Ground.data }, { on := 23, ground := Ground.data }], guard := none }) (v := .agg #[.slice none 0 0, .slice ao3 (N.ss.length - n) c3, .slice ao4 (N.ks.length - n) c4]) rfl (by kernel_rfl) (by kernel_rfl) (by kernel_rfl) (fun _ _ _ h => h) (Or.inl ⟨by rfl, fun w hSw => by (obtain ⟨hA, hB, hC⟩ := hSw; go_simp)⟩) (by assumption) ?_
  try simp only [Act.put, List.setIfInBounds_toArray, List.set_cons_zero, List.set_cons_succ]
  refine wpAnyH_take (i := 25) (oi := { dst := some 36, op := Op.build 60 #[(0, Operand.tmp 20), (1, Operand.tmp 26), (2, Operand.tmp 35)], type := 60, pos := "cut.go:120", after := #[{ on := 9, ground := Ground.data }, { on := 15, ground := Ground.data }, { on := 24, ground := Ground.data }], guard := none }) (v := .agg #[.slice none 0 0, .slice ao1 m c1, .slice ao2 n c2, .string sp, .slice none 0 0, .slice ao3 (N.ss.length - n) c3, .slice ao4 (N.ks.length - n) c4]) rfl (by kernel_rfl) (by kernel_rfl) (by kernel_rfl) (fun _ _ _ h => h) (Or.inl ⟨by rfl, fun w hSw => by (obtain ⟨hA, hB, hC⟩ := hSw; go_simp)⟩) (by assumption) ?_
  try simp only [Act.put, List.setIfInBounds_toArray, List.set_cons_zero, List.set_cons_succ]
  have r6 := HG.out _ x4
  refine wpAnyH_ready (rs := [26]) (by kernel_rfl) (by simp) ?_
  refine AllReadyH.cons (o := { dst := none, op := Op.store 60 (Operand.tmp 4) (Operand.tmp 36), type := 0, pos := "cut.go:120", after := #[{ on := 25, ground := Ground.data }, { on := 23, ground := Ground.chain }, { on := 0, ground := Ground.phase }, { on := 1, ground := Ground.phase }, { on := 2, ground := Ground.phase }, { on := 3, ground := Ground.phase }, { on := 4, ground := Ground.phase }, { on := 5, ground := Ground.phase }, { on := 6, ground := Ground.phase }, { on := 7, ground := Ground.phase }, { on := 8, ground := Ground.phase }, { on := 9, ground := Ground.phase }, { on := 10, ground := Ground.phase }, { on := 11, ground := Ground.phase }, { on := 12, ground := Ground.phase }, { on := 13, ground := Ground.phase }, { on := 14, ground := Ground.phase }, { on := 15, ground := Ground.phase }, { on := 16, ground := Ground.phase }, { on := 17, ground := Ground.phase }, { on := 18, ground := Ground.phase }, { on := 19, ground := Ground.phase }, { on := 20, ground := Ground.phase }, { on := 21, ground := Ground.phase }, { on := 22, ground := Ground.phase }, { on := 23, ground := Ground.phase }, { on := 24, ground := Ground.phase }, { on := 25, ground := Ground.phase }], guard := none }) rfl (fun K hK => ?_) AllReadyH.nil
  refine step_store_whole rfl 60 _ _ rfl (w.heap.size + 1) #[.slice none 0 0, .slice ao1 m c1, .slice ao2 n c2, .string sp, .slice none 0 0, .slice ao3 (N.ss.length - n) c3, .slice ao4 (N.ks.length - n) c4] _ 60 (by rfl) (by rfl) r6 rfl (by kernel_rfl) (by kernel_rfl) ?_
  intro W7 r7 f7
  have HFAR : Hid (∀ (a : Addr) v, a.block ≠ w.heap.size + 1 → Z4.cell? a = some v → W7.cell? a = some v) := fun a v hne hc => (f7.cell (World.block_lt_of_cell? _ _ hc) hne).trans hc
  have hsb : r.sb ≠ w.heap.size + 1 := by have h1 := World.block_lt_of_cell? _ _ HC.out; simp only at h1; omega
  refine hK.out _ _ ⟨HFAR.out _ _ (by simp) (HS.out _ x4).1, HFAR.out _ _ (by simp) (HS.out _ x4).2.1, HFAR.out _ _ hsb (HS.out _ x4).2.2⟩ (fun hHeld => ?_)
  clear hK K
  refine wpAnyH_done (by kernel_rfl) ?_ _
  go_wp2_with fail
  have hz := HZ.out
  have z1 := x1.size
  have z2 := x2.size
  have z3 := x3.size
  have zd := d0.size
  have o1 := own_far (own_base (own_frameB (own_frameB (own_frameB own1 q2 (fun _ _ h => h)) q3 (fun _ _ h => h)) q4 (fun _ _ h => h)) (show w.heap.size + 2 ≤ _ by omega)) f7 (by omega)
  have o2 := own_far (own_base (own_frameB (own_frameB own2 q3 (fun _ _ h => h)) q4 (fun _ _ h => h)) (show w.heap.size + 2 ≤ _ by omega)) f7 (by omega)
  have o3 := own_far (own_base (own_frameB own3 q4 (fun _ _ h => h)) (show w.heap.size + 2 ≤ _ by omega)) f7 (by omega)
  have o4 := own_far (own_base own4 (show w.heap.size + 2 ≤ _ by omega)) f7 (by omega)
  have hm := HM.out
  subst hm
  exact bodyPost_ret (results_row_one (p := 4) (ty := 60) (by kernel_rfl) _ _ (w.heap.size + 1) 60 _ (0, 0) _ rfl r7 Try.underlying60 rfl (by kernel_rfl)) rfl ⟨ao1, c1, ao2, c2, ao3, c3, ao4, c4, rfl, own_base o1 (by omega), own_base o2 (by omega), own_base o3 (by omega), own_base o4 (by omega), Fr.trans (s0.trans x4) f7 (fun i hi e => by omega)⟩
end Go.Proofs.Yteddbkbfnafbpaa
