/-
  Walks: SumsCut.
-/
import Derived.Test.YthkhfblpdekjhaaDoorSRN
import Derived.Deep.RegionHeld3
namespace Go.Proofs.YthkhfblpdekjhaaDoor
open Go.RowKit

theorem range_of_row {w : World} {b : Nat} {cs : List Value} {t : TypeId} (h : w.heap[b]? = some (.cells cs.toArray t (0, 0))) : w.rangeAt b 0 cs := by
  intro j v hv
  rw [Nat.zero_add, cell_of_row _ _ _ _ _ _ h]
  simpa using hv
theorem range_same {w w' : World} {b : Nat} {cs : List Value} (h : w.rangeAt b 0 cs) (k : Same w w') : w'.rangeAt b 0 cs := fun j v hv => k.keep (h j v hv)

set_option maxRecDepth 100000 in
set_option maxHeartbeats 2000000 in
theorem scut_walk (w : World) (ht : TabAt w) (wd : Int) (pa : Option Addr) (pb po pc : Nat) (l : List UInt8) (h : BIn w pa pb po l) (hl : l.length ≤ 9223372036854775807) : Calls Tryd.prog 4 #[.int .i64 wd, .slice pa l.length pc] w fun e w' => e = .returned (.bool true) ∧ Same w w' := by
  have HD : Hid (Calls Tryd.prog 19 #[.slice pa l.length pc] w fun e w' => e = .returned (.agg (bcells (dig32 l)).toArray) ∧ Same w w') := digest32_calls w pa pb po pc l h hl
  have l32 := dig32_length l
  have lc := cutR_length wd (dig32 l) l32
  have HC : Hid (∀ W, Calls Tryd.prog 20 #[.int .i64 wd, .agg (bcells (dig32 l)).toArray] W fun e w' => e = .returned (.tuple #[.agg (bcells (cutR wd (dig32 l))).toArray, .int .i64 (cutE wd)]) ∧ Same W w') := fun W => cut_calls W wd _ l32
  have HR : Hid (∀ W, Calls Tryd.prog 21 #[.int .i64 wd, .agg (bcells (dig32 l)).toArray] W fun e w' => e = .returned (.tuple #[.agg (bcells (cutR wd (dig32 l))).toArray, .int .i64 (cutE wd)]) ∧ Same W w') := fun W => rcut_calls W wd _ l32
  have HF1 : Hid (∀ W, Calls Tryd.prog 22 #[.int .i64 wd, .agg (bcells (dig32 l)).toArray] W fun e w' => e = .returned (.bool (fitsP wd (dig32 l))) ∧ Same W w') := fun W => fits_calls W wd _ l32
  have HF2 : Hid (∀ W, Calls Tryd.prog 23 #[.int .i64 wd, .agg (bcells (dig32 l)).toArray] W fun e w' => e = .returned (.bool (fitsP wd (dig32 l))) ∧ Same W w') := fun W => rfits_calls W wd _ l32
  have HF3 : Hid (∀ W, Calls Tryd.prog 22 #[.int .i64 wd, .agg (bcells (cutR wd (dig32 l))).toArray] W fun e w' => e = .returned (.bool (fitsP wd (cutR wd (dig32 l)))) ∧ Same W w') := fun W => fits_calls W wd _ lc
  have HF4 : Hid (∀ W, Calls Tryd.prog 23 #[.int .i64 wd, .agg (bcells (cutR wd (dig32 l))).toArray] W fun e w' => e = .returned (.bool (fitsP wd (cutR wd (dig32 l)))) ∧ Same W w') := fun W => rfits_calls W wd _ lc
  have HA : Hid (∀ W, Same w W → Calls Tryd.prog 18 #[] W fun e w' => e = .returned (.bool true) ∧ Same W w') := fun W s => awake_calls W (ht.same s)
  have hEq := eq_same (cutR wd (dig32 l)) lc
  have hXs : (bcells (cutR wd (dig32 l))).toArray.size = 32 := by simp [bcells, lc]
  have hYs : (bcells (dig32 l)).toArray.size = 32 := by simp [bcells, l32]
  have hXone := bcells_one (cutR wd (dig32 l))
  have hYone := bcells_one (dig32 l)
  generalize fitsP wd (cutR wd (dig32 l)) = b2 at *
  generalize fitsP wd (dig32 l) = b1 at *
  generalize bcells (cutR wd (dig32 l)) = Xl at *
  generalize bcells (dig32 l) = Yl at *
  generalize cutE wd = ce at *
  have hXsz : (Tryd.prog.info? 36).map (·.size) = some Xl.toArray.size := by rw [Tryd.ainfoD, hXs]
  have hYsz : (Tryd.prog.info? 36).map (·.size) = some Yl.toArray.size := by rw [Tryd.ainfoD, hYs]
  obtain ⟨n, hn⟩ : ∃ n, n = l.length := ⟨_, rfl⟩
  rw [← hn] at HD ⊢
  clear ht h hl hn l32 lc
  go_enter Tryd.func4, Tryd.ntmps4
  go_wp2_with fail
  refine HD.out.mono ?_
  rintro e W0 ⟨rfl, s0⟩
  go_wp2_with (first | (refine wpList_store_whole (by rfl) 36 _ _ (by rfl) W0.heap.size Yl.toArray _ 36 (by rfl) (by rfl) (heap_alloc_new W0 _) (by rw [hYs]; rfl) hYsz hYone ?_; intro W1 r1 f1; have s1 : Same W0 W1 := Fr.trans ((Fr.refl _ W0).alloc _) f1 (fun i hi e => by omega); clear f1) | (refine wpList_load_row (by rfl) 36 _ (by rfl) W0.heap.size (by rfl) 36 Yl.toArray (0, 0) _ r1 Tryd.underlying36 rfl hYsz ?_))
  refine (HC.out _).mono ?_
  rintro e W2 ⟨rfl, s2⟩
  have r2 : W2.heap[W0.heap.size]? = some (.cells Yl.toArray 36 (0, 0)) := by rw [s2.block _ (lt_of_heap r1) (fun f => f)]; exact r1
  clear r1
  go_wp2_with (first | (refine wpList_store_whole (by rfl) 36 _ _ (by rfl) W2.heap.size Xl.toArray _ 36 (by rfl) (by rfl) (heap_alloc_new W2 _) (by rw [hXs]; rfl) hXsz hXone ?_; intro W3 r3 f3; have s3 : Same W2 W3 := Fr.trans ((Fr.refl _ W2).alloc _) f3 (fun i hi e => by omega); clear f3; have q3 := (s3.block _ (lt_of_heap r2) (fun f => f)).trans r2) | (refine wpList_load_row (by rfl) 36 _ (by rfl) W0.heap.size (by rfl) 36 Yl.toArray (0, 0) _ q3 Tryd.underlying36 rfl hYsz ?_))
  refine (HR.out _).mono ?_
  rintro e W4 ⟨rfl, s4⟩
  have r4 : W4.heap[W2.heap.size]? = some (.cells Xl.toArray 36 (0, 0)) := by rw [s4.block _ (lt_of_heap r3) (fun f => f)]; exact r3
  have q4 : W4.heap[W0.heap.size]? = some (.cells Yl.toArray 36 (0, 0)) := by rw [s4.block _ (lt_of_heap q3) (fun f => f)]; exact q3
  clear r2 r3 q3
  go_wp2_with (first | (refine wpList_store_whole (by rfl) 36 _ _ (by rfl) W4.heap.size Xl.toArray _ 36 (by rfl) (by rfl) (heap_alloc_new W4 _) (by rw [hXs]; rfl) hXsz hXone ?_; intro W5 r5 f5; have s5 : Same W4 W5 := Fr.trans ((Fr.refl _ W4).alloc _) f5 (fun i hi e => by omega); clear f5))
  have hS : ∀ W, Same W5 W → (W.rangeAt W0.heap.size 0 Yl ∧ W.rangeAt W2.heap.size 0 Xl ∧ W.rangeAt W4.heap.size 0 Xl) := fun W k => ⟨range_same (range_same (range_of_row q4) s5) k, range_same (range_same (range_of_row r4) s5) k, range_same (range_of_row r5) k⟩
  have hk0 := (hS W5 (Fr.refl _ _)).1
  have hk1 := (hS W5 (Fr.refl _ _)).2.1
  have hk2 := (hS W5 (Fr.refl _ _)).2.2
  have s05 : Same w W5 := s0.trans (s1.trans (s2.trans (s3.trans (s4.trans s5))))
  have hXln : (Tryd.prog.info? 36).map (·.size) = some Xl.length := hXsz
  have hYln : (Tryd.prog.info? 36).map (·.size) = some Yl.length := hYsz
  have hau := Tryd.aund32
  have G1 : Hid (∀ W, Same W5 W → Calls Tryd.prog 22 #[.int .i64 wd, .agg Yl.toArray] W fun e w' => e = .returned (.bool b1) ∧ Same W5 w') := fun W k => (HF1.out W).mono fun e w' h => ⟨h.1, k.trans h.2⟩
  have G2 : Hid (∀ W, Same W5 W → Calls Tryd.prog 23 #[.int .i64 wd, .agg Yl.toArray] W fun e w' => e = .returned (.bool b1) ∧ Same W5 w') := fun W k => (HF2.out W).mono fun e w' h => ⟨h.1, k.trans h.2⟩
  have G3 : Hid (∀ W, Same W5 W → Calls Tryd.prog 22 #[.int .i64 wd, .agg Xl.toArray] W fun e w' => e = .returned (.bool b2) ∧ Same W5 w') := fun W k => (HF3.out W).mono fun e w' h => ⟨h.1, k.trans h.2⟩
  have G4 : Hid (∀ W, Same W5 W → Calls Tryd.prog 23 #[.int .i64 wd, .agg Xl.toArray] W fun e w' => e = .returned (.bool b2) ∧ Same W5 w') := fun W k => (HF4.out W).mono fun e w' h => ⟨h.1, k.trans h.2⟩
  have GA : Hid (∀ W, Same W5 W → Calls Tryd.prog 18 #[] W fun e w' => e = .returned (.bool true) ∧ Same W5 w') := fun W k => (HA.out W (s05.trans k)).mono fun e w' h => ⟨h.1, k.trans h.2⟩
  clear HF1 HF2 HF3 HF4 HA HC HR HD q4 r4 r5 s0 s1 s2 s3 s4 s5 hXone hYone hXs hYs hXsz hYsz
  refine wp_region_held_drew (S := fun w' => w'.rangeAt W0.heap.size 0 Yl ∧ w'.rangeAt W2.heap.size 0 Xl ∧ w'.rangeAt W4.heap.size 0 Xl) (by kernel_rfl) (hS _ (Fr.drew (Fr.refl _ _))) (fun hHeld => ?_)
  have k5 : Same W5 W5.drew := Fr.drew (Fr.refl _ _)
  refine wpAnyH_take (i := 0) (oi := { dst := some 24, op := Op.load 36 (Operand.tmp 6), type := 36, pos := "text.go:93", after := #[], guard := none }) (v := .agg Xl.toArray) rfl (by kernel_rfl) (by kernel_rfl) (by kernel_rfl) (fun _ _ _ h => h) (yieldsIf_load_mid (by rfl) _ _ rfl W2.heap.size 0 rfl _ _ (fun w hSw => hSw.2.1) hau rfl hXln) (by assumption) ?_
  try simp only [Act.put, List.setIfInBounds_toArray, List.set_cons_zero, List.set_cons_succ]
  refine wpAnyH_take (i := 1) (oi := { dst := some 25, op := Op.load 36 (Operand.tmp 8), type := 36, pos := "text.go:93", after := #[], guard := none }) (v := .agg Xl.toArray) rfl (by kernel_rfl) (by kernel_rfl) (by kernel_rfl) (fun _ _ _ h => h) (yieldsIf_load_mid (by rfl) _ _ rfl W4.heap.size 0 rfl _ _ (fun w hSw => hSw.2.2) hau rfl hXln) (by assumption) ?_
  try simp only [Act.put, List.setIfInBounds_toArray, List.set_cons_zero, List.set_cons_succ]
  refine wpAnyH_take (i := 2) (oi := { dst := some 26, op := Op.binOp BinOp.eql 36 (Operand.tmp 24) (Operand.tmp 25) 36, type := 4, pos := "text.go:93", after := #[{ on := 0, ground := Ground.data }, { on := 1, ground := Ground.data }], guard := none }) (v := .bool true) rfl (by kernel_rfl) (by kernel_rfl) (by kernel_rfl) (fun _ _ _ h => h) (Or.inl ⟨by rfl, fun w hSw => by go_simp⟩) (by assumption) ?_
  try simp only [Act.put, List.setIfInBounds_toArray, List.set_cons_zero, List.set_cons_succ]
  refine wpAnyH_take (i := 3) (oi := { dst := some 27, op := Op.move (Operand.tmp 26), type := 4, pos := "text.go:93", after := #[{ on := 2, ground := Ground.data }], guard := none }) (v := .bool true) rfl (by kernel_rfl) (by kernel_rfl) (by kernel_rfl) (fun _ _ _ h => h) (Or.inl ⟨by rfl, fun w hSw => by go_simp⟩) (by assumption) ?_
  try simp only [Act.put, List.setIfInBounds_toArray, List.set_cons_zero, List.set_cons_succ]
  refine wpAnyH_take (i := 4) (oi := { dst := some 28, op := Op.move (Operand.tmp 7), type := 44, pos := "text.go:93", after := #[{ on := 3, ground := Ground.guard }], guard := some (3, true) }) (v := .int .i64 ce) rfl (by kernel_rfl) (by kernel_rfl) (by kernel_rfl) (fun _ _ _ h => h) (Or.inl ⟨by rfl, fun w hSw => by go_simp⟩) (by assumption) ?_
  try simp only [Act.put, List.setIfInBounds_toArray, List.set_cons_zero, List.set_cons_succ]
  refine wpAnyH_take (i := 5) (oi := { dst := some 29, op := Op.move (Operand.tmp 9), type := 44, pos := "text.go:93", after := #[{ on := 3, ground := Ground.guard }], guard := some (3, true) }) (v := .int .i64 ce) rfl (by kernel_rfl) (by kernel_rfl) (by kernel_rfl) (fun _ _ _ h => h) (Or.inl ⟨by rfl, fun w hSw => by go_simp⟩) (by assumption) ?_
  try simp only [Act.put, List.setIfInBounds_toArray, List.set_cons_zero, List.set_cons_succ]
  refine wpAnyH_take (i := 6) (oi := { dst := some 30, op := Op.binOp BinOp.eql 44 (Operand.tmp 28) (Operand.tmp 29) 44, type := 4, pos := "text.go:93", after := #[{ on := 4, ground := Ground.data }, { on := 5, ground := Ground.data }, { on := 3, ground := Ground.guard }], guard := some (3, true) }) (v := .bool true) rfl (by kernel_rfl) (by kernel_rfl) (by kernel_rfl) (fun _ _ _ h => h) (Or.inl ⟨by rfl, fun w hSw => by go_simp⟩) (by assumption) ?_
  try simp only [Act.put, List.setIfInBounds_toArray, List.set_cons_zero, List.set_cons_succ]
  refine wpAnyH_take (i := 7) (oi := { dst := some 31, op := Op.pick (Operand.tmp 27) (Operand.tmp 30) (Operand.const (Value.bool false)), type := 4, pos := "text.go:93", after := #[{ on := 3, ground := Ground.data }, { on := 6, ground := Ground.data }], guard := none }) (v := .bool true) rfl (by kernel_rfl) (by kernel_rfl) (by kernel_rfl) (fun _ _ _ h => h) (Or.inl ⟨by rfl, fun w hSw => by go_simp⟩) (by assumption) ?_
  try simp only [Act.put, List.setIfInBounds_toArray, List.set_cons_zero, List.set_cons_succ]
  refine wpAnyH_take (i := 8) (oi := { dst := some 32, op := Op.move (Operand.tmp 31), type := 4, pos := "text.go:93", after := #[{ on := 7, ground := Ground.data }, { on := 3, ground := Ground.chain }], guard := none }) (v := .bool true) rfl (by kernel_rfl) (by kernel_rfl) (by kernel_rfl) (fun _ _ _ h => h) (Or.inl ⟨by rfl, fun w hSw => by go_simp⟩) (by assumption) ?_
  try simp only [Act.put, List.setIfInBounds_toArray, List.set_cons_zero, List.set_cons_succ]
  refine wpAnyH_take (i := 9) (oi := { dst := some 33, op := Op.move (Operand.tmp 0), type := 3, pos := "text.go:93", after := #[{ on := 8, ground := Ground.guard }], guard := some (8, true) }) (v := .int .i64 wd) rfl (by kernel_rfl) (by kernel_rfl) (by kernel_rfl) (fun _ _ _ h => h) (Or.inl ⟨by rfl, fun w hSw => by go_simp⟩) (by assumption) ?_
  try simp only [Act.put, List.setIfInBounds_toArray, List.set_cons_zero, List.set_cons_succ]
  refine wpAnyH_take (i := 10) (oi := { dst := some 34, op := Op.load 36 (Operand.tmp 5), type := 36, pos := "text.go:93", after := #[{ on := 8, ground := Ground.guard }], guard := some (8, true) }) (v := .agg Yl.toArray) rfl (by kernel_rfl) (by kernel_rfl) (by kernel_rfl) (fun _ _ _ h => h) (yieldsIf_load_mid (by rfl) _ _ rfl W0.heap.size 0 rfl _ _ (fun w hSw => hSw.1) hau rfl hYln) (by assumption) ?_
  try simp only [Act.put, List.setIfInBounds_toArray, List.set_cons_zero, List.set_cons_succ]
  refine wpAnyH_take (i := 12) (oi := { dst := some 36, op := Op.move (Operand.tmp 0), type := 3, pos := "text.go:93", after := #[{ on := 8, ground := Ground.guard }], guard := some (8, true) }) (v := .int .i64 wd) rfl (by kernel_rfl) (by kernel_rfl) (by kernel_rfl) (fun _ _ _ h => h) (Or.inl ⟨by rfl, fun w hSw => by go_simp⟩) (by assumption) ?_
  try simp only [Act.put, List.setIfInBounds_toArray, List.set_cons_zero, List.set_cons_succ]
  refine wpAnyH_take (i := 13) (oi := { dst := some 37, op := Op.load 36 (Operand.tmp 5), type := 36, pos := "text.go:93", after := #[{ on := 8, ground := Ground.guard }], guard := some (8, true) }) (v := .agg Yl.toArray) rfl (by kernel_rfl) (by kernel_rfl) (by kernel_rfl) (fun _ _ _ h => h) (yieldsIf_load_mid (by rfl) _ _ rfl W0.heap.size 0 rfl _ _ (fun w hSw => hSw.1) hau rfl hYln) (by assumption) ?_
  try simp only [Act.put, List.setIfInBounds_toArray, List.set_cons_zero, List.set_cons_succ]
  refine wpAnyH_ready (rs := [11]) (by kernel_rfl) (by simp) ?_
  refine AllReadyH.cons (o := { dst := some 35, op := Op.call { callee := Callee.value (Operand.func 22), args := #[Operand.tmp 33, Operand.tmp 34], argTypes := #[3, 36] }, type := 4, pos := "text.go:93", after := #[{ on := 9, ground := Ground.data }, { on := 10, ground := Ground.data }, { on := 8, ground := Ground.chain }, { on := 8, ground := Ground.guard }], guard := some (8, true) }) rfl (fun K hK => ?_) AllReadyH.nil
  go_simp
  go_at_call 22
  refine (G1.out _ k5).mono ?_
  rintro e V11 ⟨rfl, k11⟩
  try go_wp2_with fail
  refine hK.out _ _ (hS _ k11) (fun hHeld => ?_)
  clear hK K k5
  try simp only [Act.put, List.setIfInBounds_toArray, List.set_cons_zero, List.set_cons_succ]
  refine wpAnyH_ready (rs := [14]) (by kernel_rfl) (by simp) ?_
  refine AllReadyH.cons (o := { dst := some 38, op := Op.call { callee := Callee.value (Operand.func 23), args := #[Operand.tmp 36, Operand.tmp 37], argTypes := #[3, 36] }, type := 4, pos := "text.go:93", after := #[{ on := 12, ground := Ground.data }, { on := 13, ground := Ground.data }, { on := 11, ground := Ground.chain }, { on := 8, ground := Ground.guard }], guard := some (8, true) }) rfl (fun K hK => ?_) AllReadyH.nil
  go_simp
  go_at_call 23
  refine (G2.out _ k11).mono ?_
  rintro e V14 ⟨rfl, k14⟩
  try go_wp2_with fail
  refine hK.out _ _ (hS _ k14) (fun hHeld => ?_)
  clear hK K k11
  try simp only [Act.put, List.setIfInBounds_toArray, List.set_cons_zero, List.set_cons_succ]
  refine wpAnyH_take (i := 15) (oi := { dst := some 39, op := Op.binOp BinOp.eql 4 (Operand.tmp 35) (Operand.tmp 38) 4, type := 4, pos := "text.go:93", after := #[{ on := 11, ground := Ground.data }, { on := 14, ground := Ground.data }, { on := 8, ground := Ground.guard }], guard := some (8, true) }) (v := .bool true) rfl (by kernel_rfl) (by kernel_rfl) (by kernel_rfl) (fun _ _ _ h => h) (Or.inl ⟨by rfl, fun w hSw => by go_simp⟩) (by assumption) ?_
  try simp only [Act.put, List.setIfInBounds_toArray, List.set_cons_zero, List.set_cons_succ]
  refine wpAnyH_take (i := 16) (oi := { dst := some 40, op := Op.pick (Operand.tmp 32) (Operand.tmp 39) (Operand.const (Value.bool false)), type := 4, pos := "text.go:93", after := #[{ on := 8, ground := Ground.data }, { on := 15, ground := Ground.data }], guard := none }) (v := .bool true) rfl (by kernel_rfl) (by kernel_rfl) (by kernel_rfl) (fun _ _ _ h => h) (Or.inl ⟨by rfl, fun w hSw => by go_simp⟩) (by assumption) ?_
  try simp only [Act.put, List.setIfInBounds_toArray, List.set_cons_zero, List.set_cons_succ]
  refine wpAnyH_take (i := 17) (oi := { dst := some 41, op := Op.move (Operand.tmp 40), type := 4, pos := "text.go:93", after := #[{ on := 16, ground := Ground.data }, { on := 14, ground := Ground.chain }], guard := none }) (v := .bool true) rfl (by kernel_rfl) (by kernel_rfl) (by kernel_rfl) (fun _ _ _ h => h) (Or.inl ⟨by rfl, fun w hSw => by go_simp⟩) (by assumption) ?_
  try simp only [Act.put, List.setIfInBounds_toArray, List.set_cons_zero, List.set_cons_succ]
  refine wpAnyH_take (i := 18) (oi := { dst := some 42, op := Op.move (Operand.tmp 0), type := 3, pos := "text.go:93", after := #[{ on := 17, ground := Ground.guard }], guard := some (17, true) }) (v := .int .i64 wd) rfl (by kernel_rfl) (by kernel_rfl) (by kernel_rfl) (fun _ _ _ h => h) (Or.inl ⟨by rfl, fun w hSw => by go_simp⟩) (by assumption) ?_
  try simp only [Act.put, List.setIfInBounds_toArray, List.set_cons_zero, List.set_cons_succ]
  refine wpAnyH_take (i := 19) (oi := { dst := some 43, op := Op.load 36 (Operand.tmp 6), type := 36, pos := "text.go:93", after := #[{ on := 17, ground := Ground.guard }], guard := some (17, true) }) (v := .agg Xl.toArray) rfl (by kernel_rfl) (by kernel_rfl) (by kernel_rfl) (fun _ _ _ h => h) (yieldsIf_load_mid (by rfl) _ _ rfl W2.heap.size 0 rfl _ _ (fun w hSw => hSw.2.1) hau rfl hXln) (by assumption) ?_
  try simp only [Act.put, List.setIfInBounds_toArray, List.set_cons_zero, List.set_cons_succ]
  refine wpAnyH_take (i := 21) (oi := { dst := some 45, op := Op.move (Operand.tmp 0), type := 3, pos := "text.go:93", after := #[{ on := 17, ground := Ground.guard }], guard := some (17, true) }) (v := .int .i64 wd) rfl (by kernel_rfl) (by kernel_rfl) (by kernel_rfl) (fun _ _ _ h => h) (Or.inl ⟨by rfl, fun w hSw => by go_simp⟩) (by assumption) ?_
  try simp only [Act.put, List.setIfInBounds_toArray, List.set_cons_zero, List.set_cons_succ]
  refine wpAnyH_take (i := 22) (oi := { dst := some 46, op := Op.load 36 (Operand.tmp 8), type := 36, pos := "text.go:93", after := #[{ on := 17, ground := Ground.guard }], guard := some (17, true) }) (v := .agg Xl.toArray) rfl (by kernel_rfl) (by kernel_rfl) (by kernel_rfl) (fun _ _ _ h => h) (yieldsIf_load_mid (by rfl) _ _ rfl W4.heap.size 0 rfl _ _ (fun w hSw => hSw.2.2) hau rfl hXln) (by assumption) ?_
  try simp only [Act.put, List.setIfInBounds_toArray, List.set_cons_zero, List.set_cons_succ]
  refine wpAnyH_ready (rs := [20]) (by kernel_rfl) (by simp) ?_
  refine AllReadyH.cons (o := { dst := some 44, op := Op.call { callee := Callee.value (Operand.func 22), args := #[Operand.tmp 42, Operand.tmp 43], argTypes := #[3, 36] }, type := 4, pos := "text.go:93", after := #[{ on := 18, ground := Ground.data }, { on := 19, ground := Ground.data }, { on := 17, ground := Ground.chain }, { on := 17, ground := Ground.guard }], guard := some (17, true) }) rfl (fun K hK => ?_) AllReadyH.nil
  go_simp
  go_at_call 22
  refine (G3.out _ k14).mono ?_
  rintro e V20 ⟨rfl, k20⟩
  try go_wp2_with fail
  refine hK.out _ _ (hS _ k20) (fun hHeld => ?_)
  clear hK K k14
  try simp only [Act.put, List.setIfInBounds_toArray, List.set_cons_zero, List.set_cons_succ]
  refine wpAnyH_ready (rs := [23]) (by kernel_rfl) (by simp) ?_
  refine AllReadyH.cons (o := { dst := some 47, op := Op.call { callee := Callee.value (Operand.func 23), args := #[Operand.tmp 45, Operand.tmp 46], argTypes := #[3, 36] }, type := 4, pos := "text.go:93", after := #[{ on := 21, ground := Ground.data }, { on := 22, ground := Ground.data }, { on := 20, ground := Ground.chain }, { on := 17, ground := Ground.guard }], guard := some (17, true) }) rfl (fun K hK => ?_) AllReadyH.nil
  go_simp
  go_at_call 23
  refine (G4.out _ k20).mono ?_
  rintro e V23 ⟨rfl, k23⟩
  try go_wp2_with fail
  refine hK.out _ _ (hS _ k23) (fun hHeld => ?_)
  clear hK K k20
  try simp only [Act.put, List.setIfInBounds_toArray, List.set_cons_zero, List.set_cons_succ]
  refine wpAnyH_take (i := 24) (oi := { dst := some 48, op := Op.binOp BinOp.eql 4 (Operand.tmp 44) (Operand.tmp 47) 4, type := 4, pos := "text.go:93", after := #[{ on := 20, ground := Ground.data }, { on := 23, ground := Ground.data }, { on := 17, ground := Ground.guard }], guard := some (17, true) }) (v := .bool true) rfl (by kernel_rfl) (by kernel_rfl) (by kernel_rfl) (fun _ _ _ h => h) (Or.inl ⟨by rfl, fun w hSw => by go_simp⟩) (by assumption) ?_
  try simp only [Act.put, List.setIfInBounds_toArray, List.set_cons_zero, List.set_cons_succ]
  refine wpAnyH_take (i := 25) (oi := { dst := some 49, op := Op.pick (Operand.tmp 41) (Operand.tmp 48) (Operand.const (Value.bool false)), type := 4, pos := "text.go:93", after := #[{ on := 17, ground := Ground.data }, { on := 24, ground := Ground.data }], guard := none }) (v := .bool true) rfl (by kernel_rfl) (by kernel_rfl) (by kernel_rfl) (fun _ _ _ h => h) (Or.inl ⟨by rfl, fun w hSw => by go_simp⟩) (by assumption) ?_
  try simp only [Act.put, List.setIfInBounds_toArray, List.set_cons_zero, List.set_cons_succ]
  refine wpAnyH_take (i := 26) (oi := { dst := some 50, op := Op.move (Operand.tmp 49), type := 4, pos := "text.go:93", after := #[{ on := 25, ground := Ground.data }, { on := 23, ground := Ground.chain }], guard := none }) (v := .bool true) rfl (by kernel_rfl) (by kernel_rfl) (by kernel_rfl) (fun _ _ _ h => h) (Or.inl ⟨by rfl, fun w hSw => by go_simp⟩) (by assumption) ?_
  try simp only [Act.put, List.setIfInBounds_toArray, List.set_cons_zero, List.set_cons_succ]
  refine wpAnyH_ready (rs := [27]) (by kernel_rfl) (by simp) ?_
  refine AllReadyH.cons (o := { dst := some 51, op := Op.call { callee := Callee.value (Operand.func 18), args := #[], argTypes := #[] }, type := 4, pos := "text.go:93", after := #[{ on := 26, ground := Ground.chain }, { on := 26, ground := Ground.guard }], guard := some (26, true) }) rfl (fun K hK => ?_) AllReadyH.nil
  go_simp
  go_at_call 18
  refine (GA.out _ k23).mono ?_
  rintro e V27 ⟨rfl, k27⟩
  try go_wp2_with fail
  refine hK.out _ _ (hS _ k27) (fun hHeld => ?_)
  clear hK K k23
  try simp only [Act.put, List.setIfInBounds_toArray, List.set_cons_zero, List.set_cons_succ]
  refine wpAnyH_take (i := 28) (oi := { dst := some 52, op := Op.pick (Operand.tmp 50) (Operand.tmp 51) (Operand.const (Value.bool false)), type := 4, pos := "text.go:93", after := #[{ on := 26, ground := Ground.data }, { on := 27, ground := Ground.data }], guard := none }) (v := .bool true) rfl (by kernel_rfl) (by kernel_rfl) (by kernel_rfl) (fun _ _ _ h => h) (Or.inl ⟨by rfl, fun w hSw => by go_simp⟩) (by assumption) ?_
  try simp only [Act.put, List.setIfInBounds_toArray, List.set_cons_zero, List.set_cons_succ]
  refine wpAnyH_take (i := 29) (oi := { dst := some 4, op := Op.assign (Operand.tmp 52), type := 4, pos := "text.go:93", after := _, guard := none }) (v := .bool true) rfl (by kernel_rfl) (by kernel_rfl) (by kernel_rfl) (fun _ _ _ h => h) (Or.inl ⟨by rfl, fun w hSw => by go_simp⟩) (by assumption) ?_
  try simp only [Act.put, List.setIfInBounds_toArray, List.set_cons_zero, List.set_cons_succ]
  refine wpAnyH_done (by kernel_rfl) ?_ _
  go_wp2_with fail
  go_ret
  exact ⟨rfl, s05.trans k27⟩
end Go.Proofs.YthkhfblpdekjhaaDoor
