/- The document's Encode. -/
import Derived.Test.YtjfkkjangebblaaDoorMRB
import Derived.Test.YtjfkkjangebblaaDoorMH

namespace Go.Proofs.YtjfkkjangebblaaDoor
open Go.RowKit

set_option maxRecDepth 100000 in
set_option maxHeartbeats 2000000 in
theorem rencode_bad {p q : Int} {A : Array Value} {E : Int} (w : World) (hAs : A.size = 38) (hE : (E != 0) = true)
    (HC : Hid (∀ W, Calls Tryd.prog 21 #[frameV p q, .agg A] W fun e w' => e = .returned (.int .i64 E) ∧ Same W w')) :
    Calls Tryd.prog 10 #[frameV p q, .agg A] w fun e w' => e = .returned (.tuple #[.string ⟨#[]⟩, .int .i64 E]) ∧ Same w w' := by
  have hE := hE
  have hs : (Tryd.prog.info? 34).map (·.size) = some A.size := by rw [Tryd.infoM, hAs]
  have sx : Same w ((w.alloc (.cells #[.int .i64 p, .int .i64 q] 23)).alloc (.cells A 34)) := ((Fr.refl _ w).alloc _).alloc _
  have hA : ((w.alloc (.cells #[.int .i64 p, .int .i64 q] 23)).alloc (.cells A 34)).heap[w.heap.size + 1]? = some (.cells A 34 (0, 0)) := heap_alloc2_new w _ _
  go_enter Tryd.func10, Tryd.ntmps10
  go_wp2_with (first | (refine wpList_load_want (by rfl) 34 _ (by rfl) (w.heap.size + 1) (by rfl) 34 A (0, 0) _ hA Tryd.underlying34 rfl hs ?_))
  refine (HC.out _).mono ?_
  rintro e W1 ⟨rfl, s1⟩
  go_wp2_with fail
  go_ret2
  exact ⟨rfl, sx.trans s1⟩

set_option maxRecDepth 100000 in
set_option maxHeartbeats 2000000 in
theorem rencode_good {p q : Int} {A : Array Value} {n : Nat} {FS NS OUT : ByteArray} (w : World) (hAs : A.size = 38) (hn : p = ((n + 80 : Nat) : Int)) (hn2 : n ≤ 100000)
    (HC : Hid (∀ W, Calls Tryd.prog 21 #[frameV p q, .agg A] W fun e w' => e = .returned (.int .i64 0) ∧ Same W w'))
    (HB : Hid (∀ W, Calls Tryd.prog 22 #[frameV p q, .agg A] W fun e w' => e = .returned (.string FS) ∧ Same W w'))
    (HN : Hid (∀ W, Calls Tryd.prog 23 #[.int .i64 n] W fun e w' => e = .returned (.string NS) ∧ Same W w'))
    (g1 : ∀ W : World, (Op.stringOp .add FS NS).run Tryd.prog W = .ok (.string OUT) W) :
    Calls Tryd.prog 10 #[frameV p q, .agg A] w fun e w' => e = .returned (.tuple #[.string OUT, .int .i64 0]) ∧ Same w w' := by
  have g1 := g1
  have hs : (Tryd.prog.info? 34).map (·.size) = some A.size := by rw [Tryd.infoM, hAs]
  have hsub : IntKind.i64.wrap (n : Int) = (n : Int) := by rw [IntKind.wrap_i64]; omega
  have hsub2 : p - 80 = (n : Int) := by omega
  have sx : Same w ((w.alloc (.cells #[.int .i64 p, .int .i64 q] 23)).alloc (.cells A 34)) := ((Fr.refl _ w).alloc _).alloc _
  have hA : ((w.alloc (.cells #[.int .i64 p, .int .i64 q] 23)).alloc (.cells A 34)).heap[w.heap.size + 1]? = some (.cells A 34 (0, 0)) := heap_alloc2_new w _ _
  have c0 : ((w.alloc (.cells #[.int .i64 p, .int .i64 q] 23)).alloc (.cells A 34)).cell? ⟨w.heap.size, 0, none⟩ = some (.int .i64 p) := by simp
  have c1 : ((w.alloc (.cells #[.int .i64 p, .int .i64 q] 23)).alloc (.cells A 34)).cell? ⟨w.heap.size, 1, none⟩ = some (.int .i64 q) := by simp
  clear hn hn2
  go_enter Tryd.func10, Tryd.ntmps10
  go_wp2_with (first | (refine wpList_load_want (by rfl) 34 _ (by rfl) (w.heap.size + 1) (by rfl) 34 A (0, 0) _ hA Tryd.underlying34 rfl hs ?_))
  refine (HC.out _).mono ?_
  rintro e W1 ⟨rfl, s1⟩
  have hA1 := (s1.block _ (lt_of_heap hA) (fun f => f)).trans hA
  have c0 := s1.keep c0
  have c1 := s1.keep c1
  have t1 := sx.trans s1
  clear s1 sx hA
  go_wp2_with fail
  refine wp_region_held_drew (S := fun W => W.heap[w.heap.size + 1]? = some (.cells A 34 (0, 0)) ∧ W.cell? ⟨w.heap.size, 0, none⟩ = some (.int .i64 p) ∧ W.cell? ⟨w.heap.size, 1, none⟩ = some (.int .i64 q)) (by kernel_rfl) (⟨hA1, c0, c1⟩) (fun hHeld => ?_)
  refine wpAnyH_take (i := 0) (oi := { dst := some 13, op := Op.load 23 (Operand.tmp 2), type := 23, pos := "ref.go:99", after := #[], guard := none }) (v := .agg #[.int .i64 p, .int .i64 q]) rfl (by kernel_rfl) (by kernel_rfl) (by kernel_rfl) (fun _ _ _ h => h) (Or.inl ⟨by rfl, fun w hSw => by (obtain ⟨_, y1, y2⟩ := hSw; go_simp)⟩) (by assumption) ?_
  try simp only [Act.put, List.setIfInBounds_toArray, List.set_cons_zero, List.set_cons_succ]
  refine wpAnyH_take (i := 1) (oi := { dst := some 14, op := Op.load 34 (Operand.tmp 3), type := 34, pos := "ref.go:99", after := #[], guard := none }) (v := .agg A) rfl (by kernel_rfl) (by kernel_rfl) (by kernel_rfl) (fun _ _ _ h => h) (yieldsIf_load_row (by rfl) 34 _ rfl (w.heap.size + 1) rfl 34 A (0, 0) _ (fun _ h => h.1) Tryd.underlying34 rfl hs) (by assumption) ?_
  try simp only [Act.put, List.setIfInBounds_toArray, List.set_cons_zero, List.set_cons_succ]
  refine wpAnyH_take (i := 3) (oi := { dst := some 16, op := Op.fieldAddr 23 (Operand.tmp 2) 0, type := 0, pos := "ref.go:99", after := #[], guard := none }) (v := .pointer (some ⟨w.heap.size, 0, none⟩)) rfl (by kernel_rfl) (by kernel_rfl) (by kernel_rfl) (fun _ _ _ h => h) (Or.inl ⟨by rfl, fun w hSw => by (obtain ⟨_, y1, y2⟩ := hSw; go_simp)⟩) (by assumption) ?_
  try simp only [Act.put, List.setIfInBounds_toArray, List.set_cons_zero, List.set_cons_succ]
  refine wpAnyH_take (i := 4) (oi := { dst := some 17, op := Op.load 3 (Operand.tmp 16), type := 3, pos := "ref.go:99", after := #[{ on := 3, ground := Ground.data }], guard := none }) (v := .int .i64 p) rfl (by kernel_rfl) (by kernel_rfl) (by kernel_rfl) (fun _ _ _ h => h) (Or.inl ⟨by rfl, fun w hSw => by (obtain ⟨_, y1, y2⟩ := hSw; go_simp)⟩) (by assumption) ?_
  try simp only [Act.put, List.setIfInBounds_toArray, List.set_cons_zero, List.set_cons_succ]
  refine wpAnyH_take (i := 5) (oi := { dst := some 18, op := Op.binOp BinOp.sub 3 (Operand.tmp 17) (Operand.const (Value.int IntKind.i64 80)) 3, type := 3, pos := "ref.go:99", after := #[{ on := 4, ground := Ground.data }], guard := none }) (v := .int .i64 n) rfl (by kernel_rfl) (by kernel_rfl) (by kernel_rfl) (fun _ _ _ h => h) (Or.inl ⟨by rfl, fun w hSw => by (obtain ⟨_, y1, y2⟩ := hSw; go_simp)⟩) (by assumption) ?_
  try simp only [Act.put, List.setIfInBounds_toArray, List.set_cons_zero, List.set_cons_succ]
  refine wpAnyH_ready (rs := [2]) (by kernel_rfl) (by simp) ?_
  refine AllReadyH.cons (o := { dst := some 15, op := Op.call { callee := Callee.value (Operand.func 22), args := #[Operand.tmp 13, Operand.tmp 14], argTypes := #[23, 34] }, type := 9, pos := "ref.go:99", after := #[{ on := 0, ground := Ground.data }, { on := 1, ground := Ground.data }], guard := none }) rfl (fun K hK => ?_) AllReadyH.nil
  go_simp
  go_at_call 22
  refine (HB.out _).mono ?_
  rintro e W2 ⟨rfl, s2⟩
  try go_wp2_with fail
  have s2 : Same W1 W2 := Same.trans (Fr.drew (Fr.refl _ _)) s2
  have hA2 := (s2.block _ (lt_of_heap hA1) (fun f => f)).trans hA1
  have c0 := s2.keep c0
  have c1 := s2.keep c1
  have t2 := t1.trans s2
  refine hK.out _ _ (⟨hA2, c0, c1⟩) (fun hHeld => ?_)
  clear hK K
  try simp only [Act.put, List.setIfInBounds_toArray, List.set_cons_zero, List.set_cons_succ]
  refine wpAnyH_ready (rs := [6]) (by kernel_rfl) (by simp) ?_
  refine AllReadyH.cons (o := { dst := some 19, op := Op.call { callee := Callee.value (Operand.func 23), args := #[Operand.tmp 18], argTypes := #[3] }, type := 9, pos := "ref.go:99", after := #[{ on := 5, ground := Ground.data }, { on := 2, ground := Ground.chain }], guard := none }) rfl (fun K hK => ?_) AllReadyH.nil
  go_simp
  go_at_call 23
  refine (HN.out _).mono ?_
  rintro e W3 ⟨rfl, s3⟩
  try go_wp2_with fail
  have hA3 := (s3.block _ (lt_of_heap hA2) (fun f => f)).trans hA2
  have c0 := s3.keep c0
  have c1 := s3.keep c1
  have t3 := t2.trans s3
  refine hK.out _ _ (⟨hA3, c0, c1⟩) (fun hHeld => ?_)
  clear hK K
  try simp only [Act.put, List.setIfInBounds_toArray, List.set_cons_zero, List.set_cons_succ]
  refine wpAnyH_take (i := 7) (oi := { dst := some 20, op := Op.binOp BinOp.add 9 (Operand.tmp 15) (Operand.tmp 19) 9, type := 9, pos := "ref.go:99", after := #[{ on := 2, ground := Ground.data }, { on := 6, ground := Ground.data }], guard := none }) (v := .string OUT) rfl (by kernel_rfl) (by kernel_rfl) (by kernel_rfl) (fun _ _ _ h => h) (Or.inl ⟨by rfl, fun w hSw => by (obtain ⟨_, y1, y2⟩ := hSw; go_simp)⟩) (by assumption) ?_
  try simp only [Act.put, List.setIfInBounds_toArray, List.set_cons_zero, List.set_cons_succ]
  refine wpAnyH_take (i := 8) (oi := { dst := some 4, op := Op.assign (Operand.tmp 20), type := 9, pos := "ref.go:99", after := #[{ on := 7, ground := Ground.data }, { on := 6, ground := Ground.chain }, { on := 0, ground := Ground.phase }, { on := 1, ground := Ground.phase }, { on := 2, ground := Ground.phase }, { on := 3, ground := Ground.phase }, { on := 4, ground := Ground.phase }, { on := 5, ground := Ground.phase }, { on := 6, ground := Ground.phase }, { on := 7, ground := Ground.phase }], guard := none }) (v := .string OUT) rfl (by kernel_rfl) (by kernel_rfl) (by kernel_rfl) (fun _ _ _ h => h) (Or.inl ⟨by rfl, fun w hSw => by (obtain ⟨_, y1, y2⟩ := hSw; go_simp)⟩) (by assumption) ?_
  try simp only [Act.put, List.setIfInBounds_toArray, List.set_cons_zero, List.set_cons_succ]
  refine wpAnyH_take (i := 9) (oi := { dst := some 5, op := Op.assign (Operand.const (Value.int IntKind.i64 0)), type := 3, pos := "ref.go:99", after := #[{ on := 8, ground := Ground.chain }, { on := 0, ground := Ground.phase }, { on := 1, ground := Ground.phase }, { on := 2, ground := Ground.phase }, { on := 3, ground := Ground.phase }, { on := 4, ground := Ground.phase }, { on := 5, ground := Ground.phase }, { on := 6, ground := Ground.phase }, { on := 7, ground := Ground.phase }, { on := 8, ground := Ground.phase }], guard := none }) (v := .int .i64 0) rfl (by kernel_rfl) (by kernel_rfl) (by kernel_rfl) (fun _ _ _ h => h) (Or.inl ⟨by rfl, fun w hSw => by (obtain ⟨_, y1, y2⟩ := hSw; go_simp)⟩) (by assumption) ?_
  try simp only [Act.put, List.setIfInBounds_toArray, List.set_cons_zero, List.set_cons_succ]
  refine wpAnyH_done (by kernel_rfl) ?_ _
  go_wp2_with fail
  go_ret2
  exact ⟨rfl, t3⟩

theorem rencode_calls (p q : Int) (m : Rec) (hm : RecOk m) (w : World) :
    Calls Tryd.prog 10 #[frameV p q, metaV m] w fun e w' => e = .returned (.tuple #[.string (encS p q m), .int .i64 (chkM p q m)]) ∧ Same w w' := by
  have HC := rcheck_calls p q m hm
  by_cases h : mayM p q m = true
  · obtain ⟨hf, _, _⟩ := mayM_parts h
    obtain ⟨hp4, _, _⟩ := frameP_cases hf
    have hfs := formS_size p q m hm.d
    have hes : encS p q m = formS p q m ++ noughtS (p.toNat - 80) := by unfold encS; rw [if_pos h, fillS, hfs]
    rw [chkM_ok h] at HC ⊢
    rw [hes]
    exact rencode_good (n := p.toNat - 80) w (arr_size m hm.d) (by omega) (by omega) HC (bytes_calls hf m hm) (noughts_calls _ (by omega)) (add_run rfl (by rw [hfs, noughtS_size]; omega))
  · have h' : mayM p q m = false := by simpa using h
    have hes : encS p q m = ⟨#[]⟩ := by unfold encS; rw [if_neg h]
    rw [chkM_bad h'] at HC ⊢
    rw [hes]
    exact rencode_bad w (arr_size m hm.d) (by decide) HC
end Go.Proofs.YtjfkkjangebblaaDoor
