/- Walks: MetaWhole. -/
import Derived.Test.YtaknpcimdpdekaaDoorMI
import Derived.Test.YtaknpcimdpdekaaDoorMWE
namespace Go.Proofs.YtaknpcimdpdekaaDoor
open Go.RowKit

structure ContBox (P : Prop) : Prop where
  out : P
theorem cont_of {P G : Prop} (f : ContBox P → G) (p : P) : G := f ⟨p⟩
theorem cont3 {R : Prop} {F : Nat → World → ByteArray → Prop} (H : Nat → World → ByteArray → Prop) (f : ContBox (∀ g W X, H g W X → F g W X) → R) (p : ∀ g W X, H g W X → F g W X) : R := f ⟨p⟩

/-- What is told of a page hangs on its length and its first sector alone. -/
theorem dec_sect {p q : Int} {x y : ByteArray} (hx : decB p q x = true) (hz : y.size = x.size) (hs : sectS p y = sectS p x) : decB p q y = true ∧ decK p q y = decK p q x ∧ decR p q y = decR p q x := by
  have hy : decB p q y = true := by unfold decB at hx ⊢; rw [hz]; exact hx
  refine ⟨hy, ?_, ?_⟩
  · unfold decK; rw [if_pos hy, if_pos hx, hs]
  · unfold decR; rw [if_pos hy, if_pos hx, hs]

theorem wpList_load_last {P : Program} {ops : Array Oper} {rest : List Oper} {o : Oper} {a : Act} {w : World} {Q : Exit → Act → World → Prop} (ty : TypeId) (x : Operand) (ho : o.op = .load ty x)
    (g : Nat) (hx : a.eval x = .pointer (some ⟨g, 0, none⟩)) (t : TypeId) (cs : Array Value) (fr : Nat × Nat) (d : TypeDesc) (hg : w.heap[g]? = some (.cells cs t fr))
    (hu : P.underlying ty = some d) (hd : (match d with | .struct _ | .array _ _ => true | _ => false) = true) (hi : (P.info? ty).map (·.size) = some cs.size) (hw : Region.wanted o (yielded ops a.tmps) = true)
    (h : wpList P ops Q rest (a.put o.dst (.agg cs)) w) : wpList P ops Q (o :: rest) a w := wpList_load_want hw ty x ho g hx t cs fr d hg hu hd hi h

set_option maxRecDepth 100000 in
set_option maxHeartbeats 2000000 in
theorem mwhole_bad {p q : Int} {z o : ByteArray} {mask : Int} {ZA A B : Array Value} {J K : Nat} {E G : Int} (w : World) (hzl : (#[.int .u64 0, .int .u32 0, .int .u8 0, .int .u8 0, .int .u8 0, .int .u8 0, .int .u8 0, .int .u8 0, .int .u8 0, .int .u8 0, .int .u8 0, .int .u8 0, .int .u8 0, .int .u8 0, .int .u8 0, .int .u8 0, .int .u8 0, .int .u8 0, .int .u8 0, .int .u8 0, .int .u8 0, .int .u8 0, .int .u8 0, .int .u8 0, .int .u8 0, .int .u8 0, .int .u8 0, .int .u8 0, .int .u8 0, .int .u8 0, .int .u8 0, .int .u8 0, .int .u8 0, .int .u8 0, .int .u64 0, .int .u64 0, .int .u32 0, .int .u32 0] : Array Value) = ZA) (hzs : ZA.size = 38) (hAs : A.size = 38) (hAo : A.all (·.oneCell') = true) (hBs : B.size = 38) (hBo : B.all (·.oneCell') = true) (hbad : (E != 0) = true ∨ ((E != 0) = false ∧ (G != 0) = true))
    (HA : Hid (∀ W, Same w W → Calls Tryd.prog 7 #[] W fun e w' => e = .returned (.bool true) ∧ Same W w'))
    (HZ : Hid (∀ W, Same w W → Calls Tryd.prog 8 #[frameV p q, .string z] W fun e w' => e = .returned (.tuple #[.agg A, .int .u8 J, .int .i64 E]) ∧ Same W w'))
    (HO : Hid (∀ W, Same w W → Calls Tryd.prog 8 #[frameV p q, .string o] W fun e w' => e = .returned (.tuple #[.agg B, .int .u8 K, .int .i64 G]) ∧ Same W w')) :
    Calls Tryd.prog 3 #[frameV p q, .agg #[.string z, .string o], .int .u8 mask] w fun e w' => e = .returned (.bool true) ∧ Same w w' := by
  have hzl := hzl
  have sx : Same w ((w.alloc (.cells #[.int .i64 p, .int .i64 q] 23)).alloc (.cells #[.string z, .string o] 25)) := ((Fr.refl _ w).alloc _).alloc _
  have c0 : ((w.alloc (.cells #[.int .i64 p, .int .i64 q] 23)).alloc (.cells #[.string z, .string o] 25)).cell? ⟨w.heap.size, 0, none⟩ = some (.int .i64 p) := by simp
  have c1 : ((w.alloc (.cells #[.int .i64 p, .int .i64 q] 23)).alloc (.cells #[.string z, .string o] 25)).cell? ⟨w.heap.size, 1, none⟩ = some (.int .i64 q) := by simp
  have z0 : ((w.alloc (.cells #[.int .i64 p, .int .i64 q] 23)).alloc (.cells #[.string z, .string o] 25)).cell? ⟨w.heap.size + 1, 0, none⟩ = some (.string z) := by simp
  have z1 : ((w.alloc (.cells #[.int .i64 p, .int .i64 q] 23)).alloc (.cells #[.string z, .string o] 25)).cell? ⟨w.heap.size + 1, 1, none⟩ = some (.string o) := by simp
  have hAz : (Tryd.prog.info? 34).map (·.size) = some A.size := by rw [Tryd.infoM, hAs]
  have hBz : (Tryd.prog.info? 34).map (·.size) = some B.size := by rw [Tryd.infoM, hBs]
  rcases hbad with hE | ⟨hE, hG⟩
  · go_enter Tryd.func3, Tryd.ntmps3
    go_wp2_with fail
    refine (HA.out _ sx).mono ?_
    rintro e W1 ⟨rfl, s1⟩
    have c0 := s1.keep c0
    have c1 := s1.keep c1
    have z0 := s1.keep z0
    have z1 := s1.keep z1
    have t1 := sx.trans s1
    clear s1 sx
    go_wp2_with fail
    refine (HZ.out _ t1).mono ?_
    rintro e W2 ⟨rfl, s2⟩
    have c0 := s2.keep c0
    have c1 := s2.keep c1
    have z0 := s2.keep z0
    have z1 := s2.keep z1
    have t2 := t1.trans s2
    clear s2 t1
    go_wp2_with (first | (refine wpList_store_whole (by rfl) 34 _ _ (by rfl) W2.heap.size A ZA 34 (by rfl) (by rfl) (heap_alloc_new W2 _) (by rw [hzs, hAs]) hAz hAo ?_; intro W3 r3 f3; have s3 : Same W2 W3 := Fr.trans ((Fr.refl _ W2).alloc _) f3 (fun i hi e => by omega); have c0 := s3.keep c0; have c1 := s3.keep c1; have z0 := s3.keep z0; have z1 := s3.keep z1; have t3 := t2.trans s3))
    clear f3 s3 t2
    refine (HO.out _ t3).mono ?_
    rintro e W4 ⟨rfl, s4⟩
    have c0 := s4.keep c0
    have c1 := s4.keep c1
    have z0 := s4.keep z0
    have z1 := s4.keep z1
    have t4 := t3.trans s4
    have r4 := (s4.block _ (lt_of_heap r3) (fun f => f)).trans r3
    clear s4 t3 r3
    go_wp2_with (first | (refine wpList_store_whole (by rfl) 34 _ _ (by rfl) W4.heap.size B ZA 34 (by rfl) (by rfl) (heap_alloc_new W4 _) (by rw [hzs, hBs]) hBz hBo ?_; intro W5 r5 f5; have s5 : Same W4 W5 := Fr.trans ((Fr.refl _ W4).alloc _) f5 (fun i hi e => by omega); have c0 := s5.keep c0; have c1 := s5.keep c1; have z0 := s5.keep z0; have z1 := s5.keep z1; have t5 := t4.trans s5; have q5 := (s5.block _ (lt_of_heap r4) (fun f => f)).trans r4))
    go_ret
    exact ⟨rfl, t5⟩
  · go_enter Tryd.func3, Tryd.ntmps3
    go_wp2_with fail
    refine (HA.out _ sx).mono ?_
    rintro e W1 ⟨rfl, s1⟩
    have c0 := s1.keep c0
    have c1 := s1.keep c1
    have z0 := s1.keep z0
    have z1 := s1.keep z1
    have t1 := sx.trans s1
    clear s1 sx
    go_wp2_with fail
    refine (HZ.out _ t1).mono ?_
    rintro e W2 ⟨rfl, s2⟩
    have c0 := s2.keep c0
    have c1 := s2.keep c1
    have z0 := s2.keep z0
    have z1 := s2.keep z1
    have t2 := t1.trans s2
    clear s2 t1
    go_wp2_with (first | (refine wpList_store_whole (by rfl) 34 _ _ (by rfl) W2.heap.size A ZA 34 (by rfl) (by rfl) (heap_alloc_new W2 _) (by rw [hzs, hAs]) hAz hAo ?_; intro W3 r3 f3; have s3 : Same W2 W3 := Fr.trans ((Fr.refl _ W2).alloc _) f3 (fun i hi e => by omega); have c0 := s3.keep c0; have c1 := s3.keep c1; have z0 := s3.keep z0; have z1 := s3.keep z1; have t3 := t2.trans s3))
    clear f3 s3 t2
    refine (HO.out _ t3).mono ?_
    rintro e W4 ⟨rfl, s4⟩
    have c0 := s4.keep c0
    have c1 := s4.keep c1
    have z0 := s4.keep z0
    have z1 := s4.keep z1
    have t4 := t3.trans s4
    have r4 := (s4.block _ (lt_of_heap r3) (fun f => f)).trans r3
    clear s4 t3 r3
    go_wp2_with (first | (refine wpList_store_whole (by rfl) 34 _ _ (by rfl) W4.heap.size B ZA 34 (by rfl) (by rfl) (heap_alloc_new W4 _) (by rw [hzs, hBs]) hBz hBo ?_; intro W5 r5 f5; have s5 : Same W4 W5 := Fr.trans ((Fr.refl _ W4).alloc _) f5 (fun i hi e => by omega); have c0 := s5.keep c0; have c1 := s5.keep c1; have z0 := s5.keep z0; have z1 := s5.keep z1; have t5 := t4.trans s5; have q5 := (s5.block _ (lt_of_heap r4) (fun f => f)).trans r4))
    go_ret
    exact ⟨rfl, t5⟩

set_option maxRecDepth 100000 in
set_option maxHeartbeats 20000000 in
theorem mwhole_good {p q : Int} {z o : ByteArray} {mask : Int} {Φ : ByteArray → Prop} {ZA A B : Array Value} {J K : Nat} (w : World) (hzl : (#[.int .u64 0, .int .u32 0, .int .u8 0, .int .u8 0, .int .u8 0, .int .u8 0, .int .u8 0, .int .u8 0, .int .u8 0, .int .u8 0, .int .u8 0, .int .u8 0, .int .u8 0, .int .u8 0, .int .u8 0, .int .u8 0, .int .u8 0, .int .u8 0, .int .u8 0, .int .u8 0, .int .u8 0, .int .u8 0, .int .u8 0, .int .u8 0, .int .u8 0, .int .u8 0, .int .u8 0, .int .u8 0, .int .u8 0, .int .u8 0, .int .u8 0, .int .u8 0, .int .u8 0, .int .u8 0, .int .u64 0, .int .u64 0, .int .u32 0, .int .u32 0] : Array Value) = ZA) (hzs : ZA.size = 38) (hAs : A.size = 38) (hAo : A.all (·.oneCell') = true) (hBs : B.size = 38) (hBo : B.all (·.oneCell') = true) {C : Array Value} {L : Nat} (hCs : C.size = 38) (hCo : C.all (·.oneCell') = true) {e1 e2 : Bool}
    (HE1 : Hid (∀ W : World, (Op.equalIn 10000 34 (.agg C) (.agg A)).run Tryd.prog W = .ok e1 W)) (HE2 : Hid (∀ W : World, (Op.equalIn 10000 34 (.agg C) (.agg B)).run Tryd.prog W = .ok e2 W)) {k1 k2 : Bool} (hk1 : ((L : Int) == (J : Int)) = k1) (hk2 : ((L : Int) == (K : Int)) = k2) (hor : (e1 && k1 || e2 && k2) = true)
    (HA : Hid (∀ W, Same w W → Calls Tryd.prog 7 #[] W fun e w' => e = .returned (.bool true) ∧ Same W w'))
    (HZ : Hid (∀ W, Same w W → Calls Tryd.prog 8 #[frameV p q, .string z] W fun e w' => e = .returned (.tuple #[.agg A, .int .u8 J, .int .i64 0]) ∧ Same W w'))
    (HO : Hid (∀ W, Same w W → Calls Tryd.prog 8 #[frameV p q, .string o] W fun e w' => e = .returned (.tuple #[.agg B, .int .u8 K, .int .i64 0]) ∧ Same W w'))
    (HM : Hid (∀ W, Calls Tryd.prog 9 #[frameV p q, .string z, .string o, .int .u8 mask] W fun e w' => (∃ s, e = .returned (.string s) ∧ Φ s) ∧ Same W w'))
    (HD : Hid (∀ s, Φ s → ∀ W, Same w W → Calls Tryd.prog 8 #[frameV p q, .string s] W fun e w' => e = .returned (.tuple #[.agg C, .int .u8 L, .int .i64 0]) ∧ Same W w')) :
    Calls Tryd.prog 3 #[frameV p q, .agg #[.string z, .string o], .int .u8 mask] w fun e w' => e = .returned (.bool true) ∧ Same w w' := by
  have hk1 := hk1
  have hk2 := hk2
  have hCz : (Tryd.prog.info? 34).map (·.size) = some C.size := by rw [Tryd.infoM, hCs]
  have hzl := hzl
  have sx : Same w ((w.alloc (.cells #[.int .i64 p, .int .i64 q] 23)).alloc (.cells #[.string z, .string o] 25)) := ((Fr.refl _ w).alloc _).alloc _
  have c0 : ((w.alloc (.cells #[.int .i64 p, .int .i64 q] 23)).alloc (.cells #[.string z, .string o] 25)).cell? ⟨w.heap.size, 0, none⟩ = some (.int .i64 p) := by simp
  have c1 : ((w.alloc (.cells #[.int .i64 p, .int .i64 q] 23)).alloc (.cells #[.string z, .string o] 25)).cell? ⟨w.heap.size, 1, none⟩ = some (.int .i64 q) := by simp
  have z0 : ((w.alloc (.cells #[.int .i64 p, .int .i64 q] 23)).alloc (.cells #[.string z, .string o] 25)).cell? ⟨w.heap.size + 1, 0, none⟩ = some (.string z) := by simp
  have z1 : ((w.alloc (.cells #[.int .i64 p, .int .i64 q] 23)).alloc (.cells #[.string z, .string o] 25)).cell? ⟨w.heap.size + 1, 1, none⟩ = some (.string o) := by simp
  have hAz : (Tryd.prog.info? 34).map (·.size) = some A.size := by rw [Tryd.infoM, hAs]
  have hBz : (Tryd.prog.info? 34).map (·.size) = some B.size := by rw [Tryd.infoM, hBs]
  go_enter Tryd.func3, Tryd.ntmps3
  go_wp2_with fail
  refine (HA.out _ sx).mono ?_
  rintro e W1 ⟨rfl, s1⟩
  have c0 := s1.keep c0
  have c1 := s1.keep c1
  have z0 := s1.keep z0
  have z1 := s1.keep z1
  have t1 := sx.trans s1
  clear s1 sx
  go_wp2_with fail
  refine (HZ.out _ t1).mono ?_
  rintro e W2 ⟨rfl, s2⟩
  have c0 := s2.keep c0
  have c1 := s2.keep c1
  have z0 := s2.keep z0
  have z1 := s2.keep z1
  have t2 := t1.trans s2
  clear s2 t1
  go_wp2_with (first | (refine wpList_store_whole (by rfl) 34 _ _ (by rfl) W2.heap.size A ZA 34 (by rfl) (by rfl) (heap_alloc_new W2 _) (by rw [hzs, hAs]) hAz hAo ?_; intro W3 r3 f3; have s3 : Same W2 W3 := Fr.trans ((Fr.refl _ W2).alloc _) f3 (fun i hi e => by omega); have c0 := s3.keep c0; have c1 := s3.keep c1; have z0 := s3.keep z0; have z1 := s3.keep z1; have t3 := t2.trans s3))
  clear f3 s3 t2
  refine (HO.out _ t3).mono ?_
  rintro e W4 ⟨rfl, s4⟩
  have c0 := s4.keep c0
  have c1 := s4.keep c1
  have z0 := s4.keep z0
  have z1 := s4.keep z1
  have t4 := t3.trans s4
  have r4 := (s4.block _ (lt_of_heap r3) (fun f => f)).trans r3
  clear s4 t3 r3
  go_wp2_with (first | (refine wpList_store_whole (by rfl) 34 _ _ (by rfl) W4.heap.size B ZA 34 (by rfl) (by rfl) (heap_alloc_new W4 _) (by rw [hzs, hBs]) hBz hBo ?_; intro W5 r5 f5; have s5 : Same W4 W5 := Fr.trans ((Fr.refl _ W4).alloc _) f5 (fun i hi e => by omega); have c0 := s5.keep c0; have c1 := s5.keep c1; have z0 := s5.keep z0; have z1 := s5.keep z1; have t5 := t4.trans s5; have q5 := (s5.block _ (lt_of_heap r4) (fun f => f)).trans r4))
  clear f5 s5 t4 r4
  have hor3 : (e1 = true ∧ k1 = true) ∨ (e1 = false ∧ e2 = true ∧ k2 = true) ∨ (e1 = true ∧ k1 = false ∧ e2 = true ∧ k2 = true) := by cases e1 <;> cases k1 <;> cases e2 <;> cases k2 <;> simp at hor ⊢
  clear hor
  apply cont3 (fun (g : Nat) (W : World) (_ : ByteArray) => W.heap[g]? = some (.cells C 34 (0, 0)) ∧ W.heap[W2.heap.size]? = some (.cells A 34 (0, 0)) ∧ W.heap[W4.heap.size]? = some (.cells B 34 (0, 0)) ∧ Same w W)
  · intro hcont
    refine wp_region_held_drew (S := fun W => W.cell? ⟨w.heap.size, 0, none⟩ = some (.int .i64 p) ∧ W.cell? ⟨w.heap.size, 1, none⟩ = some (.int .i64 q) ∧ W.cell? ⟨w.heap.size + 1, 0, none⟩ = some (.string z) ∧ W.cell? ⟨w.heap.size + 1, 1, none⟩ = some (.string o)) (by kernel_rfl) (⟨c0, c1, z0, z1⟩) (fun hHeld => ?_)
    refine wpAnyH_take (i := 0) (oi := { dst := some 41, op := Op.load 23 (Operand.tmp 3), type := 23, pos := "outright.go:70", after := #[], guard := none }) (v := .agg #[.int .i64 p, .int .i64 q]) rfl (by kernel_rfl) (by kernel_rfl) (by kernel_rfl) (fun _ _ _ h => h) (Or.inl ⟨by rfl, fun w hSw => by (obtain ⟨y0, y1, y2, y3⟩ := hSw; go_simp)⟩) (by assumption) ?_
    try simp only [Act.put, List.setIfInBounds_toArray, List.set_cons_zero, List.set_cons_succ]
    refine wpAnyH_take (i := 1) (oi := { dst := some 42, op := Op.load 23 (Operand.tmp 3), type := 23, pos := "outright.go:70", after := #[], guard := none }) (v := .agg #[.int .i64 p, .int .i64 q]) rfl (by kernel_rfl) (by kernel_rfl) (by kernel_rfl) (fun _ _ _ h => h) (Or.inl ⟨by rfl, fun w hSw => by (obtain ⟨y0, y1, y2, y3⟩ := hSw; go_simp)⟩) (by assumption) ?_
    try simp only [Act.put, List.setIfInBounds_toArray, List.set_cons_zero, List.set_cons_succ]
    refine wpAnyH_take (i := 2) (oi := { dst := some 43, op := Op.fieldAddr 25 (Operand.tmp 4) 0, type := 0, pos := "outright.go:70", after := #[], guard := none }) (v := .pointer (some ⟨w.heap.size + 1, 0, none⟩)) rfl (by kernel_rfl) (by kernel_rfl) (by kernel_rfl) (fun _ _ _ h => h) (Or.inl ⟨by rfl, fun w hSw => by (obtain ⟨y0, y1, y2, y3⟩ := hSw; go_simp)⟩) (by assumption) ?_
    try simp only [Act.put, List.setIfInBounds_toArray, List.set_cons_zero, List.set_cons_succ]
    refine wpAnyH_take (i := 3) (oi := { dst := some 44, op := Op.load 9 (Operand.tmp 43), type := 9, pos := "outright.go:70", after := #[{ on := 2, ground := Ground.data }], guard := none }) (v := .string z) rfl (by kernel_rfl) (by kernel_rfl) (by kernel_rfl) (fun _ _ _ h => h) (Or.inl ⟨by rfl, fun w hSw => by (obtain ⟨y0, y1, y2, y3⟩ := hSw; go_simp)⟩) (by assumption) ?_
    try simp only [Act.put, List.setIfInBounds_toArray, List.set_cons_zero, List.set_cons_succ]
    refine wpAnyH_take (i := 4) (oi := { dst := some 45, op := Op.fieldAddr 25 (Operand.tmp 4) 1, type := 0, pos := "outright.go:70", after := #[], guard := none }) (v := .pointer (some ⟨w.heap.size + 1, 1, none⟩)) rfl (by kernel_rfl) (by kernel_rfl) (by kernel_rfl) (fun _ _ _ h => h) (Or.inl ⟨by rfl, fun w hSw => by (obtain ⟨y0, y1, y2, y3⟩ := hSw; go_simp)⟩) (by assumption) ?_
    try simp only [Act.put, List.setIfInBounds_toArray, List.set_cons_zero, List.set_cons_succ]
    refine wpAnyH_take (i := 5) (oi := { dst := some 46, op := Op.load 9 (Operand.tmp 45), type := 9, pos := "outright.go:70", after := #[{ on := 4, ground := Ground.data }], guard := none }) (v := .string o) rfl (by kernel_rfl) (by kernel_rfl) (by kernel_rfl) (fun _ _ _ h => h) (Or.inl ⟨by rfl, fun w hSw => by (obtain ⟨y0, y1, y2, y3⟩ := hSw; go_simp)⟩) (by assumption) ?_
    try simp only [Act.put, List.setIfInBounds_toArray, List.set_cons_zero, List.set_cons_succ]
    refine wpAnyH_take (i := 6) (oi := { dst := some 47, op := Op.move (Operand.tmp 2), type := 5, pos := "outright.go:70", after := #[], guard := none }) (v := .int .u8 mask) rfl (by kernel_rfl) (by kernel_rfl) (by kernel_rfl) (fun _ _ _ h => h) (Or.inl ⟨by rfl, fun w hSw => by go_simp⟩) (by assumption) ?_
    try simp only [Act.put, List.setIfInBounds_toArray, List.set_cons_zero, List.set_cons_succ]
    refine wpAnyH_ready (rs := [7, 13]) (by kernel_rfl) (by simp) ?_
    refine AllReadyH.cons (o := { dst := some 48, op := Op.call { callee := Callee.value (Operand.func 9), args := #[Operand.tmp 42, Operand.tmp 44, Operand.tmp 46, Operand.tmp 47], argTypes := #[23, 9, 9, 5] }, type := 9, pos := "outright.go:70", after := #[{ on := 1, ground := Ground.data }, { on := 3, ground := Ground.data }, { on := 5, ground := Ground.data }, { on := 6, ground := Ground.data }], guard := none }) rfl (fun K hK => ?_) (AllReadyH.cons (o := { dst := some 13, op := Op.alloc 34, type := 0, pos := "outright.go:70", after := #[], guard := none }) rfl (fun K hK => ?_) AllReadyH.nil)
    · go_simp
      go_at_call 9
      refine (HM.out _).mono ?_
      rintro e W6 ⟨⟨X, rfl, hX⟩, s6⟩
      try go_wp2_with fail
      have s6 : Same W5 W6 := Same.trans (Fr.drew (Fr.refl _ W5)) s6
      have c0 := s6.keep c0
      have c1 := s6.keep c1
      have z0 := s6.keep z0
      have z1 := s6.keep z1
      have q5 := (s6.block _ (lt_of_heap q5) (fun f => f)).trans q5
      have r5 := (s6.block _ (lt_of_heap r5) (fun f => f)).trans r5
      have t5 := t5.trans s6
      refine hK.out _ _ ⟨c0, c1, z0, z1⟩ (fun hHeld => ?_)
      clear hK K
      try simp only [Act.put, List.setIfInBounds_toArray, List.set_cons_zero, List.set_cons_succ]
      refine wpAnyH_ready (rs := [8, 13]) (by kernel_rfl) (by simp) ?_
      refine AllReadyH.cons (o := { dst := some 49, op := Op.call { callee := Callee.value (Operand.func 8), args := #[Operand.tmp 41, Operand.tmp 48], argTypes := #[23, 9] }, type := 37, pos := "outright.go:70", after := #[{ on := 0, ground := Ground.data }, { on := 7, ground := Ground.data }, { on := 7, ground := Ground.chain }], guard := none }) rfl (fun K hK => ?_) (AllReadyH.cons (o := { dst := some 13, op := Op.alloc 34, type := 0, pos := "outright.go:70", after := #[], guard := none }) rfl (fun K hK => ?_) AllReadyH.nil)
      · go_simp
        go_at_call 8
        refine (HD.out X hX _ t5).mono ?_
        rintro e W7 ⟨rfl, s7⟩
        try go_wp2_with fail
        have c0 := s7.keep c0
        have c1 := s7.keep c1
        have z0 := s7.keep z0
        have z1 := s7.keep z1
        have q5 := (s7.block _ (lt_of_heap q5) (fun f => f)).trans q5
        have r5 := (s7.block _ (lt_of_heap r5) (fun f => f)).trans r5
        have t5 := t5.trans s7
        refine hK.out _ _ ⟨c0, c1, z0, z1⟩ (fun hHeld => ?_)
        clear hK K
        try simp only [Act.put, List.setIfInBounds_toArray, List.set_cons_zero, List.set_cons_succ]
        refine wpAnyH_take (i := 9) (oi := { dst := some 40, op := Op.move (Operand.tmp 49), type := 37, pos := "outright.go:70", after := #[{ on := 8, ground := Ground.data }], guard := none }) (v := .tuple #[.agg C, .int .u8 L, .int .i64 0]) rfl (by kernel_rfl) (by kernel_rfl) (by kernel_rfl) (fun _ _ _ h => h) (Or.inl ⟨by rfl, fun w hSw => by go_simp⟩) (by assumption) ?_
        try simp only [Act.put, List.setIfInBounds_toArray, List.set_cons_zero, List.set_cons_succ]
        refine wpAnyH_take (i := 10) (oi := { dst := some 50, op := Op.extract (Operand.tmp 40) 0, type := 34, pos := "outright.go:70", after := #[{ on := 9, ground := Ground.data }], guard := none }) (v := .agg C) rfl (by kernel_rfl) (by kernel_rfl) (by kernel_rfl) (fun _ _ _ h => h) (Or.inl ⟨by rfl, fun w hSw => by go_simp⟩) (by assumption) ?_
        try simp only [Act.put, List.setIfInBounds_toArray, List.set_cons_zero, List.set_cons_succ]
        refine wpAnyH_take (i := 11) (oi := { dst := some 51, op := Op.extract (Operand.tmp 40) 1, type := 35, pos := "outright.go:70", after := #[{ on := 9, ground := Ground.data }, { on := 14, ground := Ground.gcOnly Departure.lateStores }], guard := none }) (v := .int .u8 L) rfl (by kernel_rfl) (by kernel_rfl) (by kernel_rfl) (fun _ _ _ h => h) (Or.inl ⟨by rfl, fun w hSw => by go_simp⟩) (by assumption) ?_
        try simp only [Act.put, List.setIfInBounds_toArray, List.set_cons_zero, List.set_cons_succ]
        refine wpAnyH_take (i := 12) (oi := { dst := some 52, op := Op.extract (Operand.tmp 40) 2, type := 36, pos := "outright.go:70", after := #[{ on := 9, ground := Ground.data }, { on := 15, ground := Ground.gcOnly Departure.lateStores }], guard := none }) (v := .int .i64 0) rfl (by kernel_rfl) (by kernel_rfl) (by kernel_rfl) (fun _ _ _ h => h) (Or.inl ⟨by rfl, fun w hSw => by go_simp⟩) (by assumption) ?_
        try simp only [Act.put, List.setIfInBounds_toArray, List.set_cons_zero, List.set_cons_succ]
        have hltW7 : w.heap.size + 1 < W7.heap.size := World.block_lt_of_cell? _ _ z0
        have hlaW7 : W2.heap.size < W7.heap.size := lt_of_heap q5
        have hlbW7 : W4.heap.size < W7.heap.size := lt_of_heap r5
        refine wpAnyH_ready (rs := [13]) (by kernel_rfl) (by simp) ?_
        refine AllReadyH.cons (o := { dst := some 13, op := Op.alloc 34, type := 0, pos := "outright.go:70", after := #[], guard := none }) rfl (fun K hK => ?_) AllReadyH.nil
        go_simp
        have s9 : Same W7 (W7.alloc (.cells ZA 34)) := (Fr.refl _ W7).alloc _
        have m9 : (W7.alloc (.cells ZA 34)).heap[W7.heap.size]? = some (.cells ZA 34 (0, 0)) := heap_alloc_new W7 _
        have c0 := s9.keep c0
        have c1 := s9.keep c1
        have z0 := s9.keep z0
        have z1 := s9.keep z1
        have q5 := (s9.block _ (lt_of_heap q5) (fun f => f)).trans q5
        have r5 := (s9.block _ (lt_of_heap r5) (fun f => f)).trans r5
        have t5 := t5.trans s9
        generalize (W7.alloc (.cells ZA 34)) = W9 at *
        refine hK.out _ _ ⟨c0, c1, z0, z1⟩ (fun hHeld => ?_)
        clear hK K
        try simp only [Act.put, List.setIfInBounds_toArray, List.set_cons_zero, List.set_cons_succ]
        refine wpAnyH_ready (rs := [14]) (by kernel_rfl) (by simp) ?_
        refine AllReadyH.cons (o := { dst := none, op := Op.store 34 (Operand.tmp 13) (Operand.tmp 50), type := 0, pos := "outright.go:70", after := #[{ on := 13, ground := Ground.data }, { on := 10, ground := Ground.data }, { on := 8, ground := Ground.chain }, { on := 0, ground := Ground.phase }, { on := 1, ground := Ground.phase }, { on := 2, ground := Ground.phase }, { on := 3, ground := Ground.phase }, { on := 4, ground := Ground.phase }, { on := 5, ground := Ground.phase }, { on := 6, ground := Ground.phase }, { on := 7, ground := Ground.phase }, { on := 8, ground := Ground.phase }, { on := 9, ground := Ground.phase }, { on := 10, ground := Ground.phase }, { on := 11, ground := Ground.textOnly Departure.lateStores }, { on := 12, ground := Ground.textOnly Departure.lateStores }, { on := 13, ground := Ground.phase }], guard := none }) rfl (fun K hK => ?_) AllReadyH.nil
        rw [if_pos (by rfl)]
        refine wp_store_mid 34 _ _ rfl W7.heap.size 0 C rfl rfl (there_row m9 (by rw [hzs, hCs])) hCz hCo ?_
        have hlm : w.heap.size + 1 < W7.heap.size := hltW7
        have hl2 : W2.heap.size < W7.heap.size := hlaW7
        have hl4 : W4.heap.size < W7.heap.size := hlbW7
        have f10 : Fr (fun k => k = W7.heap.size) W9 (W9.setCells W7.heap.size 0 C.toList) := Fr.setCells (S := fun k => k = W7.heap.size) (fun _ => rfl) _ 0 W9 (Fr.refl _ W9)
        have m10 := row_put (M := C) m9 (by rw [hzs, hCs])
        have c0 := (f10.cell (p := ⟨w.heap.size, 0, none⟩) (World.block_lt_of_cell? _ _ c0) (by simp only; omega)).trans c0
        have c1 := (f10.cell (p := ⟨w.heap.size, 1, none⟩) (World.block_lt_of_cell? _ _ c1) (by simp only; omega)).trans c1
        have z0 := (f10.cell (p := ⟨w.heap.size + 1, 0, none⟩) (World.block_lt_of_cell? _ _ z0) (by simp only; omega)).trans z0
        have z1 := (f10.cell (p := ⟨w.heap.size + 1, 1, none⟩) (World.block_lt_of_cell? _ _ z1) (by simp only; omega)).trans z1
        have q10 := (f10.block W2.heap.size (lt_of_heap q5) (by omega)).trans q5
        have r10 := (f10.block W4.heap.size (lt_of_heap r5) (by omega)).trans r5
        have t10 := Fr.trans t5 f10 (fun i hi e => by omega)
        generalize W9.setCells W7.heap.size 0 C.toList = W10 at *
        refine hK.out _ _ ⟨c0, c1, z0, z1⟩ (fun hHeld => ?_)
        clear hK K
        try simp only [Act.put]
        refine wpAnyH_take (i := 15) (oi := { dst := some 14, op := Op.assign (Operand.tmp 51), type := 35, pos := "outright.go:70", after := #[{ on := 11, ground := Ground.data }, { on := 14, ground := Ground.chain }, { on := 0, ground := Ground.phase }, { on := 1, ground := Ground.phase }, { on := 2, ground := Ground.phase }, { on := 3, ground := Ground.phase }, { on := 4, ground := Ground.phase }, { on := 5, ground := Ground.phase }, { on := 6, ground := Ground.phase }, { on := 7, ground := Ground.phase }, { on := 8, ground := Ground.phase }, { on := 9, ground := Ground.phase }, { on := 10, ground := Ground.phase }, { on := 11, ground := Ground.phase }, { on := 12, ground := Ground.textOnly Departure.lateStores }, { on := 13, ground := Ground.phase }, { on := 14, ground := Ground.phase }], guard := none }) (v := .int .u8 L) rfl (by kernel_rfl) (by kernel_rfl) (by kernel_rfl) (fun _ _ _ h => h) (Or.inl ⟨by rfl, fun w hSw => by go_simp⟩) (by assumption) ?_
        try simp only [Act.put, List.setIfInBounds_toArray, List.set_cons_zero, List.set_cons_succ]
        refine wpAnyH_take (i := 16) (oi := { dst := some 15, op := Op.assign (Operand.tmp 52), type := 36, pos := "outright.go:70", after := #[{ on := 12, ground := Ground.data }, { on := 15, ground := Ground.chain }, { on := 0, ground := Ground.phase }, { on := 1, ground := Ground.phase }, { on := 2, ground := Ground.phase }, { on := 3, ground := Ground.phase }, { on := 4, ground := Ground.phase }, { on := 5, ground := Ground.phase }, { on := 6, ground := Ground.phase }, { on := 7, ground := Ground.phase }, { on := 8, ground := Ground.phase }, { on := 9, ground := Ground.phase }, { on := 10, ground := Ground.phase }, { on := 11, ground := Ground.phase }, { on := 12, ground := Ground.phase }, { on := 13, ground := Ground.phase }, { on := 14, ground := Ground.phase }, { on := 15, ground := Ground.phase }], guard := none }) (v := .int .i64 0) rfl (by kernel_rfl) (by kernel_rfl) (by kernel_rfl) (fun _ _ _ h => h) (Or.inl ⟨by rfl, fun w hSw => by go_simp⟩) (by assumption) ?_
        try simp only [Act.put, List.setIfInBounds_toArray, List.set_cons_zero, List.set_cons_succ]
        refine wpAnyH_done (by kernel_rfl) ?_ _
        obtain ⟨gg, hgg⟩ : ∃ gg, gg = W7.heap.size := ⟨_, rfl⟩
        rw [← hgg] at m10 ⊢
        exact hcont.out gg W10 X ⟨m10, q10, r10, t10⟩
      · have hltW6 : w.heap.size + 1 < W6.heap.size := World.block_lt_of_cell? _ _ z0
        have hlaW6 : W2.heap.size < W6.heap.size := lt_of_heap q5
        have hlbW6 : W4.heap.size < W6.heap.size := lt_of_heap r5
        go_simp
        have s9 : Same W6 (W6.alloc (.cells ZA 34)) := (Fr.refl _ W6).alloc _
        have m9 : (W6.alloc (.cells ZA 34)).heap[W6.heap.size]? = some (.cells ZA 34 (0, 0)) := heap_alloc_new W6 _
        have c0 := s9.keep c0
        have c1 := s9.keep c1
        have z0 := s9.keep z0
        have z1 := s9.keep z1
        have q5 := (s9.block _ (lt_of_heap q5) (fun f => f)).trans q5
        have r5 := (s9.block _ (lt_of_heap r5) (fun f => f)).trans r5
        have t5 := t5.trans s9
        generalize (W6.alloc (.cells ZA 34)) = W9 at *
        refine hK.out _ _ ⟨c0, c1, z0, z1⟩ (fun hHeld => ?_)
        clear hK K
        try simp only [Act.put, List.setIfInBounds_toArray, List.set_cons_zero, List.set_cons_succ]
        refine wpAnyH_ready (rs := [8]) (by kernel_rfl) (by simp) ?_
        refine AllReadyH.cons (o := { dst := some 49, op := Op.call { callee := Callee.value (Operand.func 8), args := #[Operand.tmp 41, Operand.tmp 48], argTypes := #[23, 9] }, type := 37, pos := "outright.go:70", after := #[{ on := 0, ground := Ground.data }, { on := 7, ground := Ground.data }, { on := 7, ground := Ground.chain }], guard := none }) rfl (fun K hK => ?_) AllReadyH.nil
        go_simp
        go_at_call 8
        refine (HD.out X hX _ t5).mono ?_
        rintro e W7 ⟨rfl, s7⟩
        try go_wp2_with fail
        have c0 := s7.keep c0
        have c1 := s7.keep c1
        have z0 := s7.keep z0
        have z1 := s7.keep z1
        have q5 := (s7.block _ (lt_of_heap q5) (fun f => f)).trans q5
        have r5 := (s7.block _ (lt_of_heap r5) (fun f => f)).trans r5
        have t5 := t5.trans s7
        have m9 := (s7.block _ (lt_of_heap m9) (fun f => f)).trans m9
        refine hK.out _ _ ⟨c0, c1, z0, z1⟩ (fun hHeld => ?_)
        clear hK K
        try simp only [Act.put, List.setIfInBounds_toArray, List.set_cons_zero, List.set_cons_succ]
        refine wpAnyH_take (i := 9) (oi := { dst := some 40, op := Op.move (Operand.tmp 49), type := 37, pos := "outright.go:70", after := #[{ on := 8, ground := Ground.data }], guard := none }) (v := .tuple #[.agg C, .int .u8 L, .int .i64 0]) rfl (by kernel_rfl) (by kernel_rfl) (by kernel_rfl) (fun _ _ _ h => h) (Or.inl ⟨by rfl, fun w hSw => by go_simp⟩) (by assumption) ?_
        try simp only [Act.put, List.setIfInBounds_toArray, List.set_cons_zero, List.set_cons_succ]
        refine wpAnyH_take (i := 10) (oi := { dst := some 50, op := Op.extract (Operand.tmp 40) 0, type := 34, pos := "outright.go:70", after := #[{ on := 9, ground := Ground.data }], guard := none }) (v := .agg C) rfl (by kernel_rfl) (by kernel_rfl) (by kernel_rfl) (fun _ _ _ h => h) (Or.inl ⟨by rfl, fun w hSw => by go_simp⟩) (by assumption) ?_
        try simp only [Act.put, List.setIfInBounds_toArray, List.set_cons_zero, List.set_cons_succ]
        refine wpAnyH_take (i := 11) (oi := { dst := some 51, op := Op.extract (Operand.tmp 40) 1, type := 35, pos := "outright.go:70", after := #[{ on := 9, ground := Ground.data }, { on := 14, ground := Ground.gcOnly Departure.lateStores }], guard := none }) (v := .int .u8 L) rfl (by kernel_rfl) (by kernel_rfl) (by kernel_rfl) (fun _ _ _ h => h) (Or.inl ⟨by rfl, fun w hSw => by go_simp⟩) (by assumption) ?_
        try simp only [Act.put, List.setIfInBounds_toArray, List.set_cons_zero, List.set_cons_succ]
        refine wpAnyH_take (i := 12) (oi := { dst := some 52, op := Op.extract (Operand.tmp 40) 2, type := 36, pos := "outright.go:70", after := #[{ on := 9, ground := Ground.data }, { on := 15, ground := Ground.gcOnly Departure.lateStores }], guard := none }) (v := .int .i64 0) rfl (by kernel_rfl) (by kernel_rfl) (by kernel_rfl) (fun _ _ _ h => h) (Or.inl ⟨by rfl, fun w hSw => by go_simp⟩) (by assumption) ?_
        try simp only [Act.put, List.setIfInBounds_toArray, List.set_cons_zero, List.set_cons_succ]
        refine wpAnyH_ready (rs := [14]) (by kernel_rfl) (by simp) ?_
        refine AllReadyH.cons (o := { dst := none, op := Op.store 34 (Operand.tmp 13) (Operand.tmp 50), type := 0, pos := "outright.go:70", after := #[{ on := 13, ground := Ground.data }, { on := 10, ground := Ground.data }, { on := 8, ground := Ground.chain }, { on := 0, ground := Ground.phase }, { on := 1, ground := Ground.phase }, { on := 2, ground := Ground.phase }, { on := 3, ground := Ground.phase }, { on := 4, ground := Ground.phase }, { on := 5, ground := Ground.phase }, { on := 6, ground := Ground.phase }, { on := 7, ground := Ground.phase }, { on := 8, ground := Ground.phase }, { on := 9, ground := Ground.phase }, { on := 10, ground := Ground.phase }, { on := 11, ground := Ground.textOnly Departure.lateStores }, { on := 12, ground := Ground.textOnly Departure.lateStores }, { on := 13, ground := Ground.phase }], guard := none }) rfl (fun K hK => ?_) AllReadyH.nil
        rw [if_pos (by rfl)]
        refine wp_store_mid 34 _ _ rfl W6.heap.size 0 C rfl rfl (there_row m9 (by rw [hzs, hCs])) hCz hCo ?_
        have hlm : w.heap.size + 1 < W6.heap.size := hltW6
        have hl2 : W2.heap.size < W6.heap.size := hlaW6
        have hl4 : W4.heap.size < W6.heap.size := hlbW6
        have f10 : Fr (fun k => k = W6.heap.size) W7 (W7.setCells W6.heap.size 0 C.toList) := Fr.setCells (S := fun k => k = W6.heap.size) (fun _ => rfl) _ 0 W7 (Fr.refl _ W7)
        have m10 := row_put (M := C) m9 (by rw [hzs, hCs])
        have c0 := (f10.cell (p := ⟨w.heap.size, 0, none⟩) (World.block_lt_of_cell? _ _ c0) (by simp only; omega)).trans c0
        have c1 := (f10.cell (p := ⟨w.heap.size, 1, none⟩) (World.block_lt_of_cell? _ _ c1) (by simp only; omega)).trans c1
        have z0 := (f10.cell (p := ⟨w.heap.size + 1, 0, none⟩) (World.block_lt_of_cell? _ _ z0) (by simp only; omega)).trans z0
        have z1 := (f10.cell (p := ⟨w.heap.size + 1, 1, none⟩) (World.block_lt_of_cell? _ _ z1) (by simp only; omega)).trans z1
        have q10 := (f10.block W2.heap.size (lt_of_heap q5) (by omega)).trans q5
        have r10 := (f10.block W4.heap.size (lt_of_heap r5) (by omega)).trans r5
        have t10 := Fr.trans t5 f10 (fun i hi e => by omega)
        generalize W7.setCells W6.heap.size 0 C.toList = W10 at *
        refine hK.out _ _ ⟨c0, c1, z0, z1⟩ (fun hHeld => ?_)
        clear hK K
        try simp only [Act.put]
        refine wpAnyH_take (i := 15) (oi := { dst := some 14, op := Op.assign (Operand.tmp 51), type := 35, pos := "outright.go:70", after := #[{ on := 11, ground := Ground.data }, { on := 14, ground := Ground.chain }, { on := 0, ground := Ground.phase }, { on := 1, ground := Ground.phase }, { on := 2, ground := Ground.phase }, { on := 3, ground := Ground.phase }, { on := 4, ground := Ground.phase }, { on := 5, ground := Ground.phase }, { on := 6, ground := Ground.phase }, { on := 7, ground := Ground.phase }, { on := 8, ground := Ground.phase }, { on := 9, ground := Ground.phase }, { on := 10, ground := Ground.phase }, { on := 11, ground := Ground.phase }, { on := 12, ground := Ground.textOnly Departure.lateStores }, { on := 13, ground := Ground.phase }, { on := 14, ground := Ground.phase }], guard := none }) (v := .int .u8 L) rfl (by kernel_rfl) (by kernel_rfl) (by kernel_rfl) (fun _ _ _ h => h) (Or.inl ⟨by rfl, fun w hSw => by go_simp⟩) (by assumption) ?_
        try simp only [Act.put, List.setIfInBounds_toArray, List.set_cons_zero, List.set_cons_succ]
        refine wpAnyH_take (i := 16) (oi := { dst := some 15, op := Op.assign (Operand.tmp 52), type := 36, pos := "outright.go:70", after := #[{ on := 12, ground := Ground.data }, { on := 15, ground := Ground.chain }, { on := 0, ground := Ground.phase }, { on := 1, ground := Ground.phase }, { on := 2, ground := Ground.phase }, { on := 3, ground := Ground.phase }, { on := 4, ground := Ground.phase }, { on := 5, ground := Ground.phase }, { on := 6, ground := Ground.phase }, { on := 7, ground := Ground.phase }, { on := 8, ground := Ground.phase }, { on := 9, ground := Ground.phase }, { on := 10, ground := Ground.phase }, { on := 11, ground := Ground.phase }, { on := 12, ground := Ground.phase }, { on := 13, ground := Ground.phase }, { on := 14, ground := Ground.phase }, { on := 15, ground := Ground.phase }], guard := none }) (v := .int .i64 0) rfl (by kernel_rfl) (by kernel_rfl) (by kernel_rfl) (fun _ _ _ h => h) (Or.inl ⟨by rfl, fun w hSw => by go_simp⟩) (by assumption) ?_
        try simp only [Act.put, List.setIfInBounds_toArray, List.set_cons_zero, List.set_cons_succ]
        refine wpAnyH_done (by kernel_rfl) ?_ _
        obtain ⟨gg, hgg⟩ : ∃ gg, gg = W6.heap.size := ⟨_, rfl⟩
        rw [← hgg] at m10 ⊢
        exact hcont.out gg W10 X ⟨m10, q10, r10, t10⟩
    · have hltW5 : w.heap.size + 1 < W5.heap.size := World.block_lt_of_cell? _ _ z0
      have hlaW5 : W2.heap.size < W5.heap.size := lt_of_heap q5
      have hlbW5 : W4.heap.size < W5.heap.size := lt_of_heap r5
      go_simp
      have s9 : Same W5 (W5.alloc (.cells ZA 34)).drew := Fr.drew ((Fr.refl _ W5).alloc _)
      have m9 : (W5.alloc (.cells ZA 34)).drew.heap[W5.heap.size]? = some (.cells ZA 34 (0, 0)) := heap_alloc_new W5 _
      have c0 := s9.keep c0
      have c1 := s9.keep c1
      have z0 := s9.keep z0
      have z1 := s9.keep z1
      have q5 := (s9.block _ (lt_of_heap q5) (fun f => f)).trans q5
      have r5 := (s9.block _ (lt_of_heap r5) (fun f => f)).trans r5
      have t5 := t5.trans s9
      generalize (W5.alloc (.cells ZA 34)).drew = W9 at *
      refine hK.out _ _ ⟨c0, c1, z0, z1⟩ (fun hHeld => ?_)
      clear hK K
      try simp only [Act.put, List.setIfInBounds_toArray, List.set_cons_zero, List.set_cons_succ]
      refine wpAnyH_ready (rs := [7]) (by kernel_rfl) (by simp) ?_
      refine AllReadyH.cons (o := { dst := some 48, op := Op.call { callee := Callee.value (Operand.func 9), args := #[Operand.tmp 42, Operand.tmp 44, Operand.tmp 46, Operand.tmp 47], argTypes := #[23, 9, 9, 5] }, type := 9, pos := "outright.go:70", after := #[{ on := 1, ground := Ground.data }, { on := 3, ground := Ground.data }, { on := 5, ground := Ground.data }, { on := 6, ground := Ground.data }], guard := none }) rfl (fun K hK => ?_) AllReadyH.nil
      go_simp
      go_at_call 9
      refine (HM.out _).mono ?_
      rintro e W6 ⟨⟨X, rfl, hX⟩, s6⟩
      try go_wp2_with fail
      have c0 := s6.keep c0
      have c1 := s6.keep c1
      have z0 := s6.keep z0
      have z1 := s6.keep z1
      have q5 := (s6.block _ (lt_of_heap q5) (fun f => f)).trans q5
      have r5 := (s6.block _ (lt_of_heap r5) (fun f => f)).trans r5
      have t5 := t5.trans s6
      have m9 := (s6.block _ (lt_of_heap m9) (fun f => f)).trans m9
      refine hK.out _ _ ⟨c0, c1, z0, z1⟩ (fun hHeld => ?_)
      clear hK K
      try simp only [Act.put, List.setIfInBounds_toArray, List.set_cons_zero, List.set_cons_succ]
      refine wpAnyH_ready (rs := [8]) (by kernel_rfl) (by simp) ?_
      refine AllReadyH.cons (o := { dst := some 49, op := Op.call { callee := Callee.value (Operand.func 8), args := #[Operand.tmp 41, Operand.tmp 48], argTypes := #[23, 9] }, type := 37, pos := "outright.go:70", after := #[{ on := 0, ground := Ground.data }, { on := 7, ground := Ground.data }, { on := 7, ground := Ground.chain }], guard := none }) rfl (fun K hK => ?_) AllReadyH.nil
      go_simp
      go_at_call 8
      refine (HD.out X hX _ t5).mono ?_
      rintro e W7 ⟨rfl, s7⟩
      try go_wp2_with fail
      have c0 := s7.keep c0
      have c1 := s7.keep c1
      have z0 := s7.keep z0
      have z1 := s7.keep z1
      have q5 := (s7.block _ (lt_of_heap q5) (fun f => f)).trans q5
      have r5 := (s7.block _ (lt_of_heap r5) (fun f => f)).trans r5
      have t5 := t5.trans s7
      have m9 := (s7.block _ (lt_of_heap m9) (fun f => f)).trans m9
      refine hK.out _ _ ⟨c0, c1, z0, z1⟩ (fun hHeld => ?_)
      clear hK K
      try simp only [Act.put, List.setIfInBounds_toArray, List.set_cons_zero, List.set_cons_succ]
      refine wpAnyH_take (i := 9) (oi := { dst := some 40, op := Op.move (Operand.tmp 49), type := 37, pos := "outright.go:70", after := #[{ on := 8, ground := Ground.data }], guard := none }) (v := .tuple #[.agg C, .int .u8 L, .int .i64 0]) rfl (by kernel_rfl) (by kernel_rfl) (by kernel_rfl) (fun _ _ _ h => h) (Or.inl ⟨by rfl, fun w hSw => by go_simp⟩) (by assumption) ?_
      try simp only [Act.put, List.setIfInBounds_toArray, List.set_cons_zero, List.set_cons_succ]
      refine wpAnyH_take (i := 10) (oi := { dst := some 50, op := Op.extract (Operand.tmp 40) 0, type := 34, pos := "outright.go:70", after := #[{ on := 9, ground := Ground.data }], guard := none }) (v := .agg C) rfl (by kernel_rfl) (by kernel_rfl) (by kernel_rfl) (fun _ _ _ h => h) (Or.inl ⟨by rfl, fun w hSw => by go_simp⟩) (by assumption) ?_
      try simp only [Act.put, List.setIfInBounds_toArray, List.set_cons_zero, List.set_cons_succ]
      refine wpAnyH_take (i := 11) (oi := { dst := some 51, op := Op.extract (Operand.tmp 40) 1, type := 35, pos := "outright.go:70", after := #[{ on := 9, ground := Ground.data }, { on := 14, ground := Ground.gcOnly Departure.lateStores }], guard := none }) (v := .int .u8 L) rfl (by kernel_rfl) (by kernel_rfl) (by kernel_rfl) (fun _ _ _ h => h) (Or.inl ⟨by rfl, fun w hSw => by go_simp⟩) (by assumption) ?_
      try simp only [Act.put, List.setIfInBounds_toArray, List.set_cons_zero, List.set_cons_succ]
      refine wpAnyH_take (i := 12) (oi := { dst := some 52, op := Op.extract (Operand.tmp 40) 2, type := 36, pos := "outright.go:70", after := #[{ on := 9, ground := Ground.data }, { on := 15, ground := Ground.gcOnly Departure.lateStores }], guard := none }) (v := .int .i64 0) rfl (by kernel_rfl) (by kernel_rfl) (by kernel_rfl) (fun _ _ _ h => h) (Or.inl ⟨by rfl, fun w hSw => by go_simp⟩) (by assumption) ?_
      try simp only [Act.put, List.setIfInBounds_toArray, List.set_cons_zero, List.set_cons_succ]
      refine wpAnyH_ready (rs := [14]) (by kernel_rfl) (by simp) ?_
      refine AllReadyH.cons (o := { dst := none, op := Op.store 34 (Operand.tmp 13) (Operand.tmp 50), type := 0, pos := "outright.go:70", after := #[{ on := 13, ground := Ground.data }, { on := 10, ground := Ground.data }, { on := 8, ground := Ground.chain }, { on := 0, ground := Ground.phase }, { on := 1, ground := Ground.phase }, { on := 2, ground := Ground.phase }, { on := 3, ground := Ground.phase }, { on := 4, ground := Ground.phase }, { on := 5, ground := Ground.phase }, { on := 6, ground := Ground.phase }, { on := 7, ground := Ground.phase }, { on := 8, ground := Ground.phase }, { on := 9, ground := Ground.phase }, { on := 10, ground := Ground.phase }, { on := 11, ground := Ground.textOnly Departure.lateStores }, { on := 12, ground := Ground.textOnly Departure.lateStores }, { on := 13, ground := Ground.phase }], guard := none }) rfl (fun K hK => ?_) AllReadyH.nil
      rw [if_pos (by rfl)]
      refine wp_store_mid 34 _ _ rfl W5.heap.size 0 C rfl rfl (there_row m9 (by rw [hzs, hCs])) hCz hCo ?_
      have hlm : w.heap.size + 1 < W5.heap.size := hltW5
      have hl2 : W2.heap.size < W5.heap.size := hlaW5
      have hl4 : W4.heap.size < W5.heap.size := hlbW5
      have f10 : Fr (fun k => k = W5.heap.size) W7 (W7.setCells W5.heap.size 0 C.toList) := Fr.setCells (S := fun k => k = W5.heap.size) (fun _ => rfl) _ 0 W7 (Fr.refl _ W7)
      have m10 := row_put (M := C) m9 (by rw [hzs, hCs])
      have c0 := (f10.cell (p := ⟨w.heap.size, 0, none⟩) (World.block_lt_of_cell? _ _ c0) (by simp only; omega)).trans c0
      have c1 := (f10.cell (p := ⟨w.heap.size, 1, none⟩) (World.block_lt_of_cell? _ _ c1) (by simp only; omega)).trans c1
      have z0 := (f10.cell (p := ⟨w.heap.size + 1, 0, none⟩) (World.block_lt_of_cell? _ _ z0) (by simp only; omega)).trans z0
      have z1 := (f10.cell (p := ⟨w.heap.size + 1, 1, none⟩) (World.block_lt_of_cell? _ _ z1) (by simp only; omega)).trans z1
      have q10 := (f10.block W2.heap.size (lt_of_heap q5) (by omega)).trans q5
      have r10 := (f10.block W4.heap.size (lt_of_heap r5) (by omega)).trans r5
      have t10 := Fr.trans t5 f10 (fun i hi e => by omega)
      generalize W7.setCells W5.heap.size 0 C.toList = W10 at *
      refine hK.out _ _ ⟨c0, c1, z0, z1⟩ (fun hHeld => ?_)
      clear hK K
      try simp only [Act.put]
      refine wpAnyH_take (i := 15) (oi := { dst := some 14, op := Op.assign (Operand.tmp 51), type := 35, pos := "outright.go:70", after := #[{ on := 11, ground := Ground.data }, { on := 14, ground := Ground.chain }, { on := 0, ground := Ground.phase }, { on := 1, ground := Ground.phase }, { on := 2, ground := Ground.phase }, { on := 3, ground := Ground.phase }, { on := 4, ground := Ground.phase }, { on := 5, ground := Ground.phase }, { on := 6, ground := Ground.phase }, { on := 7, ground := Ground.phase }, { on := 8, ground := Ground.phase }, { on := 9, ground := Ground.phase }, { on := 10, ground := Ground.phase }, { on := 11, ground := Ground.phase }, { on := 12, ground := Ground.textOnly Departure.lateStores }, { on := 13, ground := Ground.phase }, { on := 14, ground := Ground.phase }], guard := none }) (v := .int .u8 L) rfl (by kernel_rfl) (by kernel_rfl) (by kernel_rfl) (fun _ _ _ h => h) (Or.inl ⟨by rfl, fun w hSw => by go_simp⟩) (by assumption) ?_
      try simp only [Act.put, List.setIfInBounds_toArray, List.set_cons_zero, List.set_cons_succ]
      refine wpAnyH_take (i := 16) (oi := { dst := some 15, op := Op.assign (Operand.tmp 52), type := 36, pos := "outright.go:70", after := #[{ on := 12, ground := Ground.data }, { on := 15, ground := Ground.chain }, { on := 0, ground := Ground.phase }, { on := 1, ground := Ground.phase }, { on := 2, ground := Ground.phase }, { on := 3, ground := Ground.phase }, { on := 4, ground := Ground.phase }, { on := 5, ground := Ground.phase }, { on := 6, ground := Ground.phase }, { on := 7, ground := Ground.phase }, { on := 8, ground := Ground.phase }, { on := 9, ground := Ground.phase }, { on := 10, ground := Ground.phase }, { on := 11, ground := Ground.phase }, { on := 12, ground := Ground.phase }, { on := 13, ground := Ground.phase }, { on := 14, ground := Ground.phase }, { on := 15, ground := Ground.phase }], guard := none }) (v := .int .i64 0) rfl (by kernel_rfl) (by kernel_rfl) (by kernel_rfl) (fun _ _ _ h => h) (Or.inl ⟨by rfl, fun w hSw => by go_simp⟩) (by assumption) ?_
      try simp only [Act.put, List.setIfInBounds_toArray, List.set_cons_zero, List.set_cons_succ]
      refine wpAnyH_done (by kernel_rfl) ?_ _
      obtain ⟨gg, hgg⟩ : ∃ gg, gg = W5.heap.size := ⟨_, rfl⟩
      rw [← hgg] at m10 ⊢
      exact hcont.out gg W10 X ⟨m10, q10, r10, t10⟩
  · rintro g W X ⟨m10, q10, r10, t10⟩
    clear c0 c1 z0 z1 HD HM HZ HO HA q5 r5 t5 hAs hBs hCs hAo hBo hCo hzs
    go_wp2_with (refine wpList_load_last 34 (Operand.tmp 13) (by with_reducible rfl) g (by rfl) 34 C (0, 0) _ m10 Tryd.underlying34 rfl hCz (by rfl) ?_; refine Hid.out ?_)
    unfold Hid
    try simp only [Act.put, List.setIfInBounds_toArray, List.set_cons_zero, List.set_cons_succ]
    rcases hor3 with ⟨rfl, rfl⟩ | ⟨rfl, rfl, rfl⟩ | ⟨rfl, rfl, rfl, rfl⟩
    · refine wpList_load_last 34 (Operand.tmp 7) (by kernel_rfl) (W2.heap.size) (by kernel_rfl) 34 A (0, 0) _ q10 Tryd.underlying34 (by kernel_rfl) hAz (by kernel_rfl) ?_
      try simp only [Act.put, List.setIfInBounds_toArray, List.set_cons_zero, List.set_cons_succ]
      refine wpList_eql_agg 34 34 (Operand.tmp 56) (Operand.tmp 57) (by kernel_rfl) C A (by kernel_rfl) (by kernel_rfl) Tryd.eqGuardType34 _ HE1.out (by kernel_rfl) ?_
      try simp only [Act.put, List.setIfInBounds_toArray, List.set_cons_zero, List.set_cons_succ]
      go_wp2_with fail
      go_ret
      exact ⟨rfl, t10⟩
    · refine wpList_load_last 34 (Operand.tmp 7) (by kernel_rfl) (W2.heap.size) (by kernel_rfl) 34 A (0, 0) _ q10 Tryd.underlying34 (by kernel_rfl) hAz (by kernel_rfl) ?_
      try simp only [Act.put, List.setIfInBounds_toArray, List.set_cons_zero, List.set_cons_succ]
      refine wpList_eql_agg 34 34 (Operand.tmp 56) (Operand.tmp 57) (by kernel_rfl) C A (by kernel_rfl) (by kernel_rfl) Tryd.eqGuardType34 _ HE1.out (by kernel_rfl) ?_
      try simp only [Act.put, List.setIfInBounds_toArray, List.set_cons_zero, List.set_cons_succ]
      go_wp2_with (first | (refine wpList_load_last 34 (Operand.tmp 13) (by with_reducible rfl) (g) (by rfl) 34 C (0, 0) _ m10 Tryd.underlying34 rfl hCz (by rfl) ?_) | (refine wpList_load_last 34 (Operand.tmp 10) (by with_reducible rfl) (W4.heap.size) (by rfl) 34 B (0, 0) _ r10 Tryd.underlying34 rfl hBz (by rfl) ?_) | (refine wpList_eql_agg 34 34 (Operand.tmp 65) (Operand.tmp 66) (by with_reducible rfl) C B (by rfl) (by rfl) Tryd.eqGuardType34 _ HE2.out (by rfl) ?_))
      go_ret
      exact ⟨rfl, t10⟩
    · refine wpList_load_last 34 (Operand.tmp 7) (by kernel_rfl) (W2.heap.size) (by kernel_rfl) 34 A (0, 0) _ q10 Tryd.underlying34 (by kernel_rfl) hAz (by kernel_rfl) ?_
      try simp only [Act.put, List.setIfInBounds_toArray, List.set_cons_zero, List.set_cons_succ]
      refine wpList_eql_agg 34 34 (Operand.tmp 56) (Operand.tmp 57) (by kernel_rfl) C A (by kernel_rfl) (by kernel_rfl) Tryd.eqGuardType34 _ HE1.out (by kernel_rfl) ?_
      try simp only [Act.put, List.setIfInBounds_toArray, List.set_cons_zero, List.set_cons_succ]
      go_wp2_with (first | (refine wpList_load_last 34 (Operand.tmp 13) (by with_reducible rfl) (g) (by rfl) 34 C (0, 0) _ m10 Tryd.underlying34 rfl hCz (by rfl) ?_) | (refine wpList_load_last 34 (Operand.tmp 10) (by with_reducible rfl) (W4.heap.size) (by rfl) 34 B (0, 0) _ r10 Tryd.underlying34 rfl hBz (by rfl) ?_) | (refine wpList_eql_agg 34 34 (Operand.tmp 65) (Operand.tmp 66) (by with_reducible rfl) C B (by rfl) (by rfl) Tryd.eqGuardType34 _ HE2.out (by rfl) ?_))
      go_ret
      exact ⟨rfl, t10⟩

theorem mix_sect2 {p : Int} {n : Nat} {a b s : ByteArray} {bit : Bool} (hp : p = ((8 * n : Nat) : Int)) (h : MixAt n 8 a b bit s) : s.size = 8 * n ∧ sectS p s = sectS p (if bit = true then b else a) := by
  refine ⟨h.1, ?_⟩
  have e : p.toNat / 8 = n := by omega
  unfold sectS
  rw [e]
  exact h.2 (by omega)
theorem mwhole_walk (w : World) (ht : TabAt w) (hz : TzAt w) (p q : Int) (z o : ByteArray) (mask : Nat) (hc : mask < 256) :
    Calls Tryd.prog 3 #[frameV p q, .agg #[.string z, .string o], .int .u8 mask] w fun e w' => e = .returned (.bool true) ∧ Same w w' := by
  have HA := fun W (h : Same w W) => awake_calls W (ht.same h) (hz.same h)
  have HZ := fun W (h : Same w W) => decode_calls p q z W (ht.same h) (hz.same h)
  have HO := fun W (h : Same w W) => decode_calls p q o W (ht.same h) (hz.same h)
  have ka := decR_ok p q z
  have kb := decR_ok p q o
  by_cases hdz : decB p q z = true
  · have e1 : decE p q z = 0 := by unfold decE; rw [if_pos hdz]
    by_cases hdo : decB p q o = true
    · have e2 : decE p q o = 0 := by unfold decE; rw [if_pos hdo]
      rw [e1] at HZ
      rw [e2] at HO
      obtain ⟨hp4, _, _⟩ := frameP_cases (decB_parts hdz).1
      obtain ⟨n, hn⟩ : ∃ n : Nat, p = ((8 * n : Nat) : Int) := ⟨p.toNat / 8, by omega⟩
      have hzs : z.size = 8 * n := by have := (decB_parts hdz).2; omega
      have hos : o.size = 8 * n := by have := (decB_parts hdo).2; omega
      have HM : ∀ W, Calls Tryd.prog 9 #[frameV p q, .string z, .string o, .int .u8 mask] W fun e w' => (∃ s, e = .returned (.string s) ∧ MixAt n 8 z o (decide (mask % 2 = 1)) s) ∧ Same W w' := fun W => by
        have := mixed_core (q := q) hc (by omega) (by omega) hzs hos W
        rw [← hn] at this
        exact this
      by_cases hb : mask % 2 = 1
      · rw [decide_eq_true hb] at HM
        have hE1 := fun W => eq_rec W (decR p q o) (decR p q z) kb.d ka.d
        have hE2 := fun W => eq_rec W (decR p q o) (decR p q o) kb.d kb.d
        rw [recEq_self] at hE2
        refine mwhole_good w zeroRec_lit rfl (arr_size _ ka.d) (arr_one _) (arr_size _ kb.d) (arr_one _) (arr_size _ kb.d) (arr_one _) hE1 hE2 (k1 := ((decK p q o : Int) == (decK p q z : Int))) (k2 := true) rfl (by simp) (by simp) HA HZ HO HM ?_
        intro s hs W h
        obtain ⟨g1, g2⟩ := mix_sect2 hn hs
        rw [if_pos rfl] at g2
        obtain ⟨k1, k2, k3⟩ := dec_sect hdo (by rw [g1, hos]) g2
        have := decode_calls p q s W (ht.same h) (hz.same h)
        rw [k2, k3, show decE p q s = 0 from by (unfold decE; rw [if_pos k1])] at this
        exact this
      · rw [decide_eq_false hb] at HM
        have hE1 := fun W => eq_rec W (decR p q z) (decR p q z) ka.d ka.d
        rw [recEq_self] at hE1
        have hE2 := fun W => eq_rec W (decR p q z) (decR p q o) ka.d kb.d
        refine mwhole_good w zeroRec_lit rfl (arr_size _ ka.d) (arr_one _) (arr_size _ kb.d) (arr_one _) (arr_size _ ka.d) (arr_one _) hE1 hE2 (k1 := true) (k2 := ((decK p q z : Int) == (decK p q o : Int))) (by simp) rfl (by simp) HA HZ HO HM ?_
        intro s hs W h
        obtain ⟨g1, g2⟩ := mix_sect2 hn hs
        rw [if_neg (by simp)] at g2
        obtain ⟨k1, k2, k3⟩ := dec_sect hdz (by rw [g1, hzs]) g2
        have := decode_calls p q s W (ht.same h) (hz.same h)
        rw [k2, k3, show decE p q s = 0 from by (unfold decE; rw [if_pos k1])] at this
        exact this
    · have e2 : decE p q o = 2 := by unfold decE; rw [if_neg hdo]
      rw [e1] at HZ
      rw [e2] at HO
      exact mwhole_bad w zeroRec_lit rfl (arr_size _ ka.d) (arr_one _) (arr_size _ kb.d) (arr_one _) (Or.inr ⟨rfl, rfl⟩) HA HZ HO
  · have e1 : decE p q z = 2 := by unfold decE; rw [if_neg hdz]
    rw [e1] at HZ
    exact mwhole_bad w zeroRec_lit rfl (arr_size _ ka.d) (arr_one _) (arr_size _ kb.d) (arr_one _) (Or.inl rfl) HA HZ HO
end Go.Proofs.YtaknpcimdpdekaaDoor
