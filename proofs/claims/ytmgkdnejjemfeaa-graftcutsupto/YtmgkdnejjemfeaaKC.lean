/- halved of a leaf. -/
import Derived.Test.YtmgkdnejjemfeaaKA0J
namespace Go.Proofs.Ytmgkdnejjemfeaa
open Go.RowKit

theorem results_row_one {P : Program} {fn : Func} {p : Tmp} {ty : TypeId} (h : fn.results = #[.cell p ty]) (tmps : Array Value) (w : World) (g : Nat) (t : TypeId) (cs : Array Value) (fr : Nat × Nat) (d : TypeDesc)
    (hp : tmps.getD p undef = .pointer (some ⟨g, 0, none⟩)) (hg : w.heap[g]? = some (.cells cs t fr))
    (hu : P.underlying ty = some d) (hd : (match d with | .struct _ | .array _ _ => true | _ => false) = true) (hi : (P.info? ty).map (·.size) = some cs.size) :
    (results fn tmps).run P w = .ok (.agg cs) w := by
  have hp' : tmps[p]?.getD undef = .pointer (some ⟨g, 0, none⟩) := by simpa using hp
  simp [results, h, hp', asAddr, run_loadVar_row w g t ty cs fr d hg hu hd hi]
set_option maxRecDepth 100000 in
set_option maxHeartbeats 1000000 in
theorem halved_leaf {r : Nr} {N : Nd} {m : Nat} {x y : ByteArray × ByteArray} (w : World) (hr : PRow w r.pa r.pb r.po N.ps) (hk : N.ks.length = 0) (hx : N.ps[m]? = some x) (hy : N.ps[m + 1]? = some y) (hn : N.ps.length ≤ 1048576) {sp : ByteArray} (HB : Hid (∀ W, Calls Try.prog 14 #[.string x.1, .string y.1] W fun e w' => e = .returned (.tuple #[.string sp, .int .i64 0]) ∧ Same W w'))
    (HF : Hid (∀ W, Same w W → Calls Try.prog 59 #[.slice r.pa N.ps.length r.cp, .int .i64 ((m + 1 : Nat) : Int)] W fun e w' => ∃ ao' c', e = .returned (.slice ao' (m + 1) c') ∧ w'.ownsRow W.heap.size 48 2 (.slice ao' (m + 1) c') (m + 1) (pcells (N.ps.take (m + 1))) ∧ Same W w'))
    (HW : Hid (∀ W, Same w W → Calls Try.prog 53 #[.slice r.pa N.ps.length r.cp, .int .i64 0, .int .i64 ((m + 1 : Nat) : Int)] W fun e w' => ∃ ao' c', e = .returned (.slice ao' (N.ps.length - (m + 1)) c') ∧ w'.ownsRow W.heap.size 48 2 (.slice ao' (N.ps.length - (m + 1)) c') (N.ps.length - (m + 1)) (pcells (N.ps.drop (m + 1))) ∧ Same W w')) :
    Calls Try.prog 32 #[ndV r N, .int .i64 ((m + 1 : Nat) : Int)] w fun e w' => ∃ ao1 c1 ao2 c2, e = .returned (.agg #[.slice ao1 (m + 1) c1, .slice none 0 0, .slice none 0 0, .string sp, .slice ao2 (N.ps.length - (m + 1)) c2, .slice none 0 0, .slice none 0 0]) ∧ w'.ownsRow w.heap.size 48 2 (.slice ao1 (m + 1) c1) (m + 1) (pcells (N.ps.take (m + 1))) ∧ w'.ownsRow w.heap.size 48 2 (.slice ao2 (N.ps.length - (m + 1)) c2) (N.ps.length - (m + 1)) (pcells (N.ps.drop (m + 1))) ∧ Same w w' := by
  have hl : m + 1 < N.ps.length := (List.getElem?_eq_some_iff.1 hy).1
  obtain ⟨hpa, _⟩ := hr.place (fun h => by rw [h] at hl; simp at hl)
  obtain ⟨c0, c1⟩ := hr.cells m x hx
  obtain ⟨c2, c3⟩ := hr.cells (m + 1) y hy
  obtain ⟨n, hnn⟩ : ∃ n, n = m + 1 := ⟨_, rfl⟩
  rw [← hnn] at c2 c3 HF HW ⊢
  rw [hpa] at HF HW
  have e1 : RowKit.wrap64 ((n : Int) - 1) = (m : Int) := by unfold RowKit.wrap64; omega
  have e2 : (n : Int) - 1 = (m : Int) := by omega
  have e3 : IntKind.i64.wrap (m : Int) = (m : Int) := by rw [IntKind.wrap_i64]; omega
  have b0 : (m : Int) < (N.ps.length : Int) := by omega
  have b1 : (n : Int) < (N.ps.length : Int) := by omega
  have b2 : (0 : Int) ≤ (m : Int) := by omega
  have b3 : (0 : Int) ≤ (n : Int) := by omega
  clear hl hx hy hr
  obtain ⟨xk, xv⟩ := x
  obtain ⟨yk, yv⟩ := y
  simp only at c0 c2 HB
  have HC : Hid (w.cell? ⟨r.pb, r.po + m * 2, none⟩ = some (.string xk) ∧ w.cell? ⟨r.pb, r.po + n * 2, none⟩ = some (.string yk)) := ⟨c0, c2⟩
  have HM : Hid (n = m + 1) := hnn
  clear c0 c1 c2 c3 hnn
  go_enter Try.func32, Try.ntmps32
  go_wp2_with fail
  obtain ⟨V, hV⟩ : ∃ V, V = (w.alloc (.cells #[.slice (some ⟨r.pb, r.po, none⟩) N.ps.length r.cp, .slice r.sa N.ss.length r.cs, .slice r.ka 0 r.ck] 28)).alloc (.cells #[.slice none 0 0, .slice none 0 0, .slice none 0 0, .string ⟨#[]⟩, .slice none 0 0, .slice none 0 0, .slice none 0 0] 50) := ⟨_, rfl⟩
  rw [← hV]
  have s0 : Same w V := by rw [hV]; exact ((Fr.refl _ w).alloc _).alloc _
  have a0 : V.cell? ⟨w.heap.size, 0, none⟩ = some (.slice (some ⟨r.pb, r.po, none⟩) N.ps.length r.cp) := by rw [hV]; simp
  have HS : Hid (∀ W, Same V W → W.cell? ⟨w.heap.size, 0, none⟩ = some (.slice (some ⟨r.pb, r.po, none⟩) N.ps.length r.cp) ∧ W.cell? ⟨r.pb, r.po + m * 2, none⟩ = some (.string xk) ∧ W.cell? ⟨r.pb, r.po + n * 2, none⟩ = some (.string yk)) := fun W h => ⟨h.keep a0, h.keep (s0.keep HC.out.1), h.keep (s0.keep HC.out.2)⟩
  have d0 : Same V V.drew := Fr.drew (Fr.refl _ V)
  have k1 := HS.out _ d0
  have r2 : V.heap[w.heap.size + 1]? = some (.cells #[.slice none 0 0, .slice none 0 0, .slice none 0 0, .string ⟨#[]⟩, .slice none 0 0, .slice none 0 0, .slice none 0 0] 50 (0, 0)) := by rw [hV]; exact heap_alloc2_new w _ _
  have HG : Hid (∀ W, Same V W → W.heap[w.heap.size + 1]? = some (.cells #[.slice none 0 0, .slice none 0 0, .slice none 0 0, .string ⟨#[]⟩, .slice none 0 0, .slice none 0 0, .slice none 0 0] 50 (0, 0))) := fun W s => (s.block _ (lt_of_heap r2) (fun e => e)).trans r2
  have HZ : Hid (w.heap.size + 2 ≤ V.heap.size) := by show _ ≤ _; rw [hV]; simp
  clear r2
  clear a0 hV
  go_region_held3 (fun W => W.cell? ⟨w.heap.size, 0, none⟩ = some (.slice (some ⟨r.pb, r.po, none⟩) N.ps.length r.cp) ∧ W.cell? ⟨r.pb, r.po + m * 2, none⟩ = some (.string xk) ∧ W.cell? ⟨r.pb, r.po + n * 2, none⟩ = some (.string yk)) (first | exact k2 | exact k1)
    (first | (go_at_call 14; refine (HB.out _).mono ?_; rintro e W1 ⟨rfl, q1⟩; have u1 := Same.trans d0 q1; have k2 := HS.out _ u1))
  go_wp2_with fail
  clear k1 k2
  have d1 : Same V W1.drew := Fr.drew u1
  have HP : Hid (∀ W, Same V W → W.cell? ⟨w.heap.size, 0, none⟩ = some (.slice (some ⟨r.pb, r.po, none⟩) N.ps.length r.cp)) := fun W h => (HS.out W h).1
  refine wp_region_held_drew (S := fun X => X.cell? ⟨w.heap.size, 0, none⟩ = some (.slice (some ⟨r.pb, r.po, none⟩) N.ps.length r.cp)) (by kernel_rfl) (HP.out _ d1) (fun hHeld => ?_)
  refine wpAnyH_take (i := 0) (oi := { dst := some 54, op := Op.fieldAddr 28 (Operand.tmp 2) 0, type := 0, pos := "cut.go:127", after := #[], guard := none }) (v := .pointer (some ⟨w.heap.size, 0, none⟩)) rfl (by kernel_rfl) (by kernel_rfl) (by kernel_rfl) (fun _ _ _ h => h) (Or.inl ⟨by rfl, fun w hSw => by (obtain hA := hSw; go_simp)⟩) (by assumption) ?_
  try simp only [Act.put, List.setIfInBounds_toArray, List.set_cons_zero, List.set_cons_succ]
  refine wpAnyH_take (i := 1) (oi := { dst := some 55, op := Op.load 24 (Operand.tmp 54), type := 24, pos := "cut.go:127", after := #[{ on := 0, ground := Ground.data }], guard := none }) (v := .slice (some ⟨r.pb, r.po, none⟩) N.ps.length r.cp) rfl (by kernel_rfl) (by kernel_rfl) (by kernel_rfl) (fun _ _ _ h => h) (Or.inl ⟨by rfl, fun w hSw => by (obtain hA := hSw; go_simp)⟩) (by assumption) ?_
  try simp only [Act.put, List.setIfInBounds_toArray, List.set_cons_zero, List.set_cons_succ]
  refine wpAnyH_take (i := 2) (oi := { dst := some 56, op := Op.move (Operand.tmp 1), type := 3, pos := "cut.go:127", after := #[], guard := none }) (v := .int .i64 (n : Int)) rfl (by kernel_rfl) (by kernel_rfl) (by kernel_rfl) (fun _ _ _ h => h) (Or.inl ⟨by rfl, fun w hSw => by (obtain hA := hSw; go_simp)⟩) (by assumption) ?_
  try simp only [Act.put, List.setIfInBounds_toArray, List.set_cons_zero, List.set_cons_succ]
  refine wpAnyH_take (i := 5) (oi := { dst := some 59, op := Op.move (Operand.tmp 5), type := 9, pos := "cut.go:127", after := #[], guard := none }) (v := .string sp) rfl (by kernel_rfl) (by kernel_rfl) (by kernel_rfl) (fun _ _ _ h => h) (Or.inl ⟨by rfl, fun w hSw => by (obtain hA := hSw; go_simp)⟩) (by assumption) ?_
  try simp only [Act.put, List.setIfInBounds_toArray, List.set_cons_zero, List.set_cons_succ]
  refine wpAnyH_take (i := 6) (oi := { dst := some 60, op := Op.fieldAddr 28 (Operand.tmp 2) 0, type := 0, pos := "cut.go:127", after := #[], guard := none }) (v := .pointer (some ⟨w.heap.size, 0, none⟩)) rfl (by kernel_rfl) (by kernel_rfl) (by kernel_rfl) (fun _ _ _ h => h) (Or.inl ⟨by rfl, fun w hSw => by (obtain hA := hSw; go_simp)⟩) (by assumption) ?_
  try simp only [Act.put, List.setIfInBounds_toArray, List.set_cons_zero, List.set_cons_succ]
  refine wpAnyH_take (i := 7) (oi := { dst := some 61, op := Op.load 24 (Operand.tmp 60), type := 24, pos := "cut.go:127", after := #[{ on := 6, ground := Ground.data }], guard := none }) (v := .slice (some ⟨r.pb, r.po, none⟩) N.ps.length r.cp) rfl (by kernel_rfl) (by kernel_rfl) (by kernel_rfl) (fun _ _ _ h => h) (Or.inl ⟨by rfl, fun w hSw => by (obtain hA := hSw; go_simp)⟩) (by assumption) ?_
  try simp only [Act.put, List.setIfInBounds_toArray, List.set_cons_zero, List.set_cons_succ]
  refine wpAnyH_take (i := 8) (oi := { dst := some 62, op := Op.move (Operand.tmp 1), type := 3, pos := "cut.go:127", after := #[], guard := none }) (v := .int .i64 (n : Int)) rfl (by kernel_rfl) (by kernel_rfl) (by kernel_rfl) (fun _ _ _ h => h) (Or.inl ⟨by rfl, fun w hSw => by (obtain hA := hSw; go_simp)⟩) (by assumption) ?_
  try simp only [Act.put, List.setIfInBounds_toArray, List.set_cons_zero, List.set_cons_succ]
  refine wpAnyH_ready (rs := [3]) (by kernel_rfl) (by simp) ?_
  refine AllReadyH.cons (o := { dst := some 57, op := Op.call { callee := Callee.value (Operand.func 59), args := #[Operand.tmp 55, Operand.tmp 56], argTypes := #[24, 3] }, type := 24, pos := "cut.go:128", after := #[{ on := 1, ground := Ground.data }, { on := 2, ground := Ground.data }], guard := none }) rfl (fun K hK => ?_) AllReadyH.nil
  go_simp
  go_at_call 59
  refine (HF.out _ (s0.trans d1)).mono ?_
  rintro e Z1 ⟨ao1, c1, rfl, own1, q1⟩
  try go_wp2_with fail
  have x1 := Same.trans d1 q1
  refine hK.out _ _ (HP.out _ x1) (fun hHeld => ?_)
  clear hK K
  try simp only [Act.put, List.setIfInBounds_toArray, List.set_cons_zero, List.set_cons_succ]
  refine wpAnyH_take (i := 4) (oi := { dst := some 58, op := Op.build 28 #[(0, Operand.tmp 57)], type := 28, pos := "cut.go:127", after := #[{ on := 3, ground := Ground.data }], guard := none }) (v := .agg #[.slice ao1 n c1, .slice none 0 0, .slice none 0 0]) rfl (by kernel_rfl) (by kernel_rfl) (by kernel_rfl) (fun _ _ _ h => h) (Or.inl ⟨by rfl, fun w hSw => by (obtain hA := hSw; go_simp)⟩) (by assumption) ?_
  try simp only [Act.put, List.setIfInBounds_toArray, List.set_cons_zero, List.set_cons_succ]
  refine wpAnyH_ready (rs := [9]) (by kernel_rfl) (by simp) ?_
  refine AllReadyH.cons (o := { dst := some 63, op := Op.call { callee := Callee.value (Operand.func 53), args := #[Operand.tmp 61, Operand.const (Value.int IntKind.i64 0), Operand.tmp 62], argTypes := #[24, 3, 3] }, type := 24, pos := "cut.go:130", after := #[{ on := 7, ground := Ground.data }, { on := 8, ground := Ground.data }, { on := 3, ground := Ground.chain }], guard := none }) rfl (fun K hK => ?_) AllReadyH.nil
  go_simp
  go_at_call 53
  refine (HW.out _ (s0.trans x1)).mono ?_
  rintro e Z2 ⟨ao2, c2, rfl, own2, q2⟩
  try go_wp2_with fail
  have x2 := Same.trans x1 q2
  refine hK.out _ _ (HP.out _ x2) (fun hHeld => ?_)
  clear hK K
  try simp only [Act.put, List.setIfInBounds_toArray, List.set_cons_zero, List.set_cons_succ]
  refine wpAnyH_take (i := 10) (oi := { dst := some 64, op := Op.build 28 #[(0, Operand.tmp 63)], type := 28, pos := "cut.go:127", after := #[{ on := 9, ground := Ground.data }], guard := none }) (v := .agg #[.slice ao2 (N.ps.length - n) c2, .slice none 0 0, .slice none 0 0]) rfl (by kernel_rfl) (by kernel_rfl) (by kernel_rfl) (fun _ _ _ h => h) (Or.inl ⟨by rfl, fun w hSw => by (obtain hA := hSw; go_simp)⟩) (by assumption) ?_
  try simp only [Act.put, List.setIfInBounds_toArray, List.set_cons_zero, List.set_cons_succ]
  refine wpAnyH_take (i := 11) (oi := { dst := some 65, op := Op.build 50 #[(0, Operand.tmp 58), (1, Operand.tmp 59), (2, Operand.tmp 64)], type := 50, pos := "cut.go:127", after := #[{ on := 4, ground := Ground.data }, { on := 5, ground := Ground.data }, { on := 10, ground := Ground.data }], guard := none }) (v := .agg #[.slice ao1 n c1, .slice none 0 0, .slice none 0 0, .string sp, .slice ao2 (N.ps.length - n) c2, .slice none 0 0, .slice none 0 0]) rfl (by kernel_rfl) (by kernel_rfl) (by kernel_rfl) (fun _ _ _ h => h) (Or.inl ⟨by rfl, fun w hSw => by (obtain hA := hSw; go_simp)⟩) (by assumption) ?_
  try simp only [Act.put, List.setIfInBounds_toArray, List.set_cons_zero, List.set_cons_succ]
  have r6 := HG.out _ x2
  refine wpAnyH_ready (rs := [12]) (by kernel_rfl) (by simp) ?_
  refine AllReadyH.cons (o := { dst := none, op := Op.store 50 (Operand.tmp 4) (Operand.tmp 65), type := 0, pos := "cut.go:127", after := #[{ on := 11, ground := Ground.data }, { on := 9, ground := Ground.chain }, { on := 0, ground := Ground.phase }, { on := 1, ground := Ground.phase }, { on := 2, ground := Ground.phase }, { on := 3, ground := Ground.phase }, { on := 4, ground := Ground.phase }, { on := 5, ground := Ground.phase }, { on := 6, ground := Ground.phase }, { on := 7, ground := Ground.phase }, { on := 8, ground := Ground.phase }, { on := 9, ground := Ground.phase }, { on := 10, ground := Ground.phase }, { on := 11, ground := Ground.phase }], guard := none }) rfl (fun K hK => ?_) AllReadyH.nil
  refine step_store_whole rfl 50 _ _ rfl (w.heap.size + 1) #[.slice ao1 n c1, .slice none 0 0, .slice none 0 0, .string sp, .slice ao2 (N.ps.length - n) c2, .slice none 0 0, .slice none 0 0] _ 50 (by rfl) (by rfl) r6 rfl (by kernel_rfl) (by kernel_rfl) ?_
  intro W7 r7 f7
  refine hK.out _ _ ((f7.cell (World.block_lt_of_cell? _ _ (HP.out _ x2)) (by simp)).trans (HP.out _ x2)) (fun hHeld => ?_)
  clear hK K
  refine wpAnyH_done (by kernel_rfl) ?_ _
  go_wp2_with fail
  have hz := HZ.out
  have z1 := x1.size
  have z2 := d1.size
  have o1 := own_frameB (own_frameB own1 q2 (fun _ _ h => h)) f7 (fun kk hk e => by
    cases ao1 with
    | none => cases hk
    | some a => have := own_ge own1; simp [Value.ownBlock] at hk; omega)
  have o2 := own_frameB own2 f7 (fun kk hk e => by
    cases ao2 with
    | none => cases hk
    | some a => have := own_ge own2; simp [Value.ownBlock] at hk; omega)
  have hm := HM.out
  subst hm
  exact bodyPost_ret (results_row_one (p := 4) (ty := 50) (by kernel_rfl) _ _ (w.heap.size + 1) 50 _ (0, 0) _ rfl r7 Try.underlying50 rfl (by kernel_rfl)) rfl ⟨ao1, c1, ao2, c2, rfl, own_base o1 (by omega), own_base o2 (by omega), Fr.trans (s0.trans x2) f7 (fun i hi e => by omega)⟩
end Go.Proofs.Ytmgkdnejjemfeaa
