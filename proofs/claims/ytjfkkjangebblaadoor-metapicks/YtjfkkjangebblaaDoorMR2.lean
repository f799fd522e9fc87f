/- The document's fields: plain. -/
import Derived.Test.YtjfkkjangebblaaDoorMR1
namespace Go.Proofs.YtjfkkjangebblaaDoor
open Go.RowKit

/-- The page length that the document reads: none but the four. -/
def pDoc (s : ByteArray) : Int := if 10 ≤ beAt s 4 1 ∧ beAt s 4 1 ≤ 13 then pAt s else 0
theorem shP_four : ∀ b : Fin 256, (shP b.val = 1024 ∨ shP b.val = 2048 ∨ shP b.val = 4096 ∨ shP b.val = 8192) → 10 ≤ b.val ∧ b.val ≤ 13 := by decide +kernel
theorem pDoc_frame (s : ByteArray) (h : 80 ≤ s.size) (q : Int) : frameP (pDoc s) q = frameP (pAt s) q := by
  unfold pDoc
  by_cases hb : 10 ≤ beAt s 4 1 ∧ beAt s 4 1 ≤ 13
  · rw [if_pos hb]
  · rw [if_neg hb]
    have h1 := beAt_lt s 4 1 (by omega)
    have h2 : frameP (pAt s) q = false := by
      rw [Bool.eq_false_iff]
      intro e
      exact hb (shP_four ⟨beAt s 4 1, by omega⟩ (frameP_cases e).1)
    rw [h2]
    have : ((0 : Int) == 1024 || (0 : Int) == 2048 || (0 : Int) == 4096 || (0 : Int) == 8192) = false := by decide
    unfold frameP
    rw [this]
    rfl
theorem pDoc_eq (s : ByteArray) (q : Int) (hf : frameP (pDoc s) q = true) : pDoc s = pAt s := by
  unfold pDoc at hf ⊢
  by_cases hb : 10 ≤ beAt s 4 1 ∧ beAt s 4 1 ≤ 13
  · rw [if_pos hb]
  · rw [if_neg hb] at hf
    exact absurd (frameP_cases hf).1 (by omega)
/-- The records that fields holds on its way. -/
def fdA (v li pg : Nat) : Rec := ⟨v, 0, zeroD32, 0, 0, li, pg⟩
theorem fdA_lit (v li pg : Nat) : ((zeroRec.arr.setIfInBounds 0 (.int .u64 v)).setIfInBounds 36 (.int .u32 li)).setIfInBounds 37 (.int .u32 pg) = (fdA v li pg).arr := rfl
theorem beAt_ext (s : ByteArray) (i n : Nat) : beN (s.extract i (i + n)).data.toList = beAt s i n := rfl
theorem byte_at (s : ByteArray) (i : Nat) (h : i < s.size) : ((s[i]'h).toNat) = beAt s i 1 := by
  have e : (s.data.toList.drop i).take 1 = [s[i]'h] := by
    rw [List.drop_eq_getElem_cons (by rw [bytes_length]; exact h)]
    rfl
  rw [beAt_list, e]
  simp [beN]
theorem rec_c {W : World} {b : Nat} {m : Rec} (h : MAt W b m) (hd : m.d.length = 32) (x : Nat) : MAt (W.setCell ⟨b, 34, none⟩ (.int .u64 x)) b { m with c := x } := by
  have := heap_setCell_same W b 34 m.arr 34 (.int .u64 x) h
  rw [show m.arr.setIfInBounds 34 (.int .u64 x) = ({ m with c := x } : Rec).arr from by
    unfold Rec.arr Rec.cells
    rw [List.setIfInBounds_toArray]
    congr 1
    show Value.int .u64 m.v :: Value.int .u32 m.rp :: ((bcells m.d ++ [Value.int .u64 m.c, .int .u64 m.rv, .int .u32 m.li, .int .u32 m.pg]).set 32 (.int .u64 x)) = _
    rw [List.set_append_right _ _ (by rw [bcells_length, hd]; omega), bcells_length, hd]
    rfl] at this
  exact this
theorem rec_rv {W : World} {b : Nat} {m : Rec} (h : MAt W b m) (hd : m.d.length = 32) (x : Nat) : MAt (W.setCell ⟨b, 35, none⟩ (.int .u64 x)) b { m with rv := x } := by
  have := heap_setCell_same W b 35 m.arr 34 (.int .u64 x) h
  rw [show m.arr.setIfInBounds 35 (.int .u64 x) = ({ m with rv := x } : Rec).arr from by
    unfold Rec.arr Rec.cells
    rw [List.setIfInBounds_toArray]
    congr 1
    show Value.int .u64 m.v :: Value.int .u32 m.rp :: ((bcells m.d ++ [Value.int .u64 m.c, .int .u64 m.rv, .int .u32 m.li, .int .u32 m.pg]).set 33 (.int .u64 x)) = _
    rw [List.set_append_right _ _ (by rw [bcells_length, hd]; omega), bcells_length, hd]
    rfl] at this
  exact this
theorem rec_rp {W : World} {b : Nat} {m : Rec} (h : MAt W b m) (x : Nat) : MAt (W.setCell ⟨b, 1, none⟩ (.int .u32 x)) b { m with rp := x } := heap_setCell_same W b 1 m.arr 34 (.int .u32 x) h
theorem rec_d {W : World} {b : Nat} {m : Rec} (h : MAt W b m) {a r : List UInt8} {y x : UInt8} {k : Nat} (hm : m.d = a ++ y :: r) (hk : a.length = k) : MAt (W.setCell ⟨b, 2 + k, none⟩ (.int .u8 x.toNat)) b { m with d := a ++ x :: r } := by
  have := heap_setCell_same W b (2 + k) m.arr 34 (.int .u8 x.toNat) h
  rw [show m.arr.setIfInBounds (2 + k) (.int .u8 x.toNat) = ({ m with d := a ++ x :: r } : Rec).arr from by
    unfold Rec.arr Rec.cells
    rw [List.setIfInBounds_toArray, hm, Nat.add_comm 2 k]
    congr 1
    show Value.int .u64 m.v :: Value.int .u32 m.rp :: ((bcells (a ++ y :: r) ++ [Value.int .u64 m.c, .int .u64 m.rv, .int .u32 m.li, .int .u32 m.pg]).set k (.int .u8 x.toNat)) = _
    rw [List.set_append_left _ _ (by rw [bcells_length, List.length_append, List.length_cons]; omega), set_mid hk]] at this
  exact this

structure ContBox (P : Prop) : Prop where
  out : P
theorem cont2 {R : Prop} {F : Nat → World → Prop} (H : Nat → World → Prop) (f : ContBox (∀ g W, H g W → F g W) → R) (p : ∀ g W, H g W → F g W) : R := f ⟨p⟩
/-- What fields holds: the two results' rows, its frame's, and its record's. -/
def FLd (w : World) (ZA : Array Value) (PD : Int) (n5 : Nat) (W : World) : Prop := W.heap[w.heap.size]? = some (.cells #[.int .i64 0, .int .i64 0] 23 (0, 0)) ∧ W.heap[w.heap.size + 1]? = some (.cells ZA 34 (0, 0)) ∧ W.heap[w.heap.size + 1 + 1]? = some (.cells #[.int .i64 PD, .int .i64 n5] 23 (0, 0)) ∧ Same w W
theorem FLd.of {w W W' : World} {ZA : Array Value} {PD : Int} {n5 : Nat} (h : FLd w ZA PD n5 W) (f : Fr (fun k => w.heap.size + 1 + 1 < k) W W') : FLd w ZA PD n5 W' :=
  ⟨(f.block _ (lt_of_heap h.1) (by omega)).trans h.1, (f.block _ (lt_of_heap h.2.1) (by omega)).trans h.2.1, (f.block _ (lt_of_heap h.2.2.1) (by omega)).trans h.2.2.1, Fr.trans h.2.2.2 f (fun i hi e => by omega)⟩
theorem heap3 (w : World) (a b c : Obj) : (((w.alloc a).alloc b).alloc c).heap[w.heap.size]? = some a ∧ (((w.alloc a).alloc b).alloc c).heap[w.heap.size + 1]? = some b ∧ (((w.alloc a).alloc b).alloc c).heap[w.heap.size + 1 + 1]? = some c := by
  refine ⟨?_, ?_, ?_⟩
  · rw [Below.heap_alloc _ _ _ (by simp; omega)]; exact heap_alloc2_old w _ _
  · rw [Below.heap_alloc _ _ _ (by simp)]; exact heap_alloc2_new w _ _
  · have := heap_alloc2_new (w.alloc a) b c
    rw [show (w.alloc a).heap.size = w.heap.size + 1 from by simp] at this
    exact this

set_option maxRecDepth 100000 in
set_option maxHeartbeats 2000000 in
theorem fields_core {s : ByteArray} {n4 n5 v li pg cc rv rp : Nat} {PA PD : Int} {ZA XA : Array Value} {D : List UInt8} (w : World) (hs : 80 ≤ s.size) (hs2 : s.size ≤ 1024) (h4 : ∀ h, ((s[4]'h).toNat : Int) = (n4 : Int)) (h5 : ∀ h, ((s[5]'h).toNat : Int) = (n5 : Int)) (hn4 : n4 < 256) (hn5 : n5 < 256)
    (hPA : n4 ≤ 13 → wrap64 (2 ^ n4) = PA) (hPD : (10 ≤ n4 ∧ n4 ≤ 13 ∧ PD = PA) ∨ (n4 < 10 ∧ PD = 0) ∨ (10 ≤ n4 ∧ 13 < n4 ∧ PD = 0))
    (hzl : (#[.int .u64 0, .int .u32 0, .int .u8 0, .int .u8 0, .int .u8 0, .int .u8 0, .int .u8 0, .int .u8 0, .int .u8 0, .int .u8 0, .int .u8 0, .int .u8 0, .int .u8 0, .int .u8 0, .int .u8 0, .int .u8 0, .int .u8 0, .int .u8 0, .int .u8 0, .int .u8 0, .int .u8 0, .int .u8 0, .int .u8 0, .int .u8 0, .int .u8 0, .int .u8 0, .int .u8 0, .int .u8 0, .int .u8 0, .int .u8 0, .int .u8 0, .int .u8 0, .int .u8 0, .int .u8 0, .int .u64 0, .int .u64 0, .int .u32 0, .int .u32 0] : Array Value) = ZA) (hzs : ZA.size = 38) (hzn : ¬ ZA = #[])
    (hli : li < 4294967296) (hpg : pg < 4294967296) (hrp : rp < 4294967296) (hX : ((ZA.setIfInBounds 0 (.int .u64 v)).setIfInBounds 36 (.int .u32 li)).setIfInBounds 37 (.int .u32 pg) = XA) (hXr : XA = (fdA v li pg).arr)
    (HW1 : Hid (∀ W, Calls Tryd.prog 77 #[.string (s.extract 8 16)] W fun e w' => e = .returned (.int .u64 v) ∧ w' = W))
    (HW2 : Hid (∀ W, Calls Tryd.prog 77 #[.string (s.extract 36 40)] W fun e w' => e = .returned (.int .u64 li) ∧ w' = W))
    (HW3 : Hid (∀ W, Calls Tryd.prog 77 #[.string (s.extract 40 44)] W fun e w' => e = .returned (.int .u64 pg) ∧ w' = W))
    (HW4 : Hid (∀ W, Calls Tryd.prog 77 #[.string (s.extract 16 24)] W fun e w' => e = .returned (.int .u64 cc) ∧ w' = W))
    (HW5 : Hid (∀ W, Calls Tryd.prog 77 #[.string (s.extract 24 32)] W fun e w' => e = .returned (.int .u64 rv) ∧ w' = W))
    (HW6 : Hid (∀ W, Calls Tryd.prog 77 #[.string (s.extract 32 36)] W fun e w' => e = .returned (.int .u64 rp) ∧ w' = W))
    (HD : Hid (D.length = 32 ∧ ∀ k (h : 44 + k < s.size), k < 32 → D[k]? = some (s[44 + k]'h))) :
    Calls Tryd.prog 53 #[.string s] w fun e w' => e = .returned (.tuple #[frameV PD n5, metaV ⟨v, rp, D, cc, rv, li, pg⟩]) ∧ Same w w' := by
  have hzl := hzl
  have hX := hX
  have hzn := hzn
  have u5 : IntKind.i64.wrap (n5 : Int) = (n5 : Int) := by rw [IntKind.wrap_i64]; omega
  have u4 : IntKind.i64.wrap (n4 : Int) = (n4 : Int) := by rw [IntKind.wrap_i64]; omega
  have uli : IntKind.u32.wrap (li : Int) = (li : Int) := by rw [IntKind.wrap_u32]; omega
  have upg : IntKind.u32.wrap (pg : Int) = (pg : Int) := by rw [IntKind.wrap_u32]; omega
  have urp : IntKind.u32.wrap (rp : Int) = (rp : Int) := by rw [IntKind.wrap_u32]; omega
  have q3 := heap3 w (.cells #[.int .i64 0, .int .i64 0] 23) (.cells ZA 34) (.cells #[.int .i64 PD, .int .i64 n5] 23)
  have F3 : FLd w ZA PD n5 (((w.alloc (.cells #[.int .i64 0, .int .i64 0] 23)).alloc (.cells ZA 34)).alloc (.cells #[.int .i64 PD, .int .i64 n5] 23)) := ⟨q3.1, q3.2.1, q3.2.2, (((Fr.refl _ w).alloc _).alloc _).alloc _⟩
  have HX : Hid (XA = (fdA v li pg).arr) := hXr
  clear q3 hli hpg hrp hXr hn4 hn5
  have hXs : XA.size = 38 := by rw [HX.out]; rfl
  have hXo : XA.all (·.oneCell') = true := by rw [HX.out]; exact arr_one _
  have hXz : (Tryd.prog.info? 34).map (·.size) = some XA.size := by rw [Tryd.infoM, hXs]
  rcases hPD with ⟨k1, k2, rfl⟩ | ⟨k1, rfl⟩ | ⟨k1, k2, rfl⟩
  · have hpp := hPA k2
    clear hPA
    go_enter Tryd.func53, Tryd.ntmps53
    go_wp2_with fail
    generalize (((w.alloc (.cells #[.int .i64 0, .int .i64 0] 23)).alloc (.cells ZA 34)).alloc (.cells #[.int .i64 PD, .int .i64 n5] 23)) = G0 at *
    have hlt : w.heap.size + 1 + 1 < G0.heap.size := lt_of_heap F3.2.2.1
    apply cont2 (fun (g : Nat) (W : World) => FLd w ZA PD n5 W ∧ W.heap[g]? = some (.cells XA 34 (0, 0)) ∧ w.heap.size + 1 + 1 < g)
    · intro hcont
      refine wp_region_held_drew (S := fun _ => True) (by kernel_rfl) (trivial) (fun hHeld => ?_)
      refine wpAnyH_take (i := 0) (oi := { dst := some 24, op := Op.move (Operand.tmp 0), type := 9, pos := "ref.go:117", after := #[], guard := none }) (v := .string s) rfl (by kernel_rfl) (by kernel_rfl) (by kernel_rfl) (fun _ _ _ h => h) (Or.inl ⟨by rfl, fun w hSw => by go_simp⟩) (by assumption) ?_
      try simp only [Act.put, List.setIfInBounds_toArray, List.set_cons_zero, List.set_cons_succ]
      refine wpAnyH_take (i := 1) (oi := { dst := some 25, op := Op.slice 9 (Operand.tmp 24) (some (Operand.const (Value.int IntKind.i64 8))) (some (Operand.const (Value.int IntKind.i64 16))) none, type := 9, pos := "ref.go:117", after := #[{ on := 0, ground := Ground.data }], guard := none }) (v := .string (s.extract 8 16)) rfl (by kernel_rfl) (by kernel_rfl) (by kernel_rfl) (fun _ _ _ h => h) (Or.inl ⟨by rfl, fun w hSw => by (go_simp; intro hh; exfalso; omega)⟩) (by assumption) ?_
      try simp only [Act.put, List.setIfInBounds_toArray, List.set_cons_zero, List.set_cons_succ]
      refine wpAnyH_take (i := 3) (oi := { dst := some 27, op := Op.move (Operand.tmp 0), type := 9, pos := "ref.go:117", after := #[], guard := none }) (v := .string s) rfl (by kernel_rfl) (by kernel_rfl) (by kernel_rfl) (fun _ _ _ h => h) (Or.inl ⟨by rfl, fun w hSw => by go_simp⟩) (by assumption) ?_
      try simp only [Act.put, List.setIfInBounds_toArray, List.set_cons_zero, List.set_cons_succ]
      refine wpAnyH_take (i := 4) (oi := { dst := some 28, op := Op.slice 9 (Operand.tmp 27) (some (Operand.const (Value.int IntKind.i64 36))) (some (Operand.const (Value.int IntKind.i64 40))) none, type := 9, pos := "ref.go:117", after := #[{ on := 3, ground := Ground.data }], guard := none }) (v := .string (s.extract 36 40)) rfl (by kernel_rfl) (by kernel_rfl) (by kernel_rfl) (fun _ _ _ h => h) (Or.inl ⟨by rfl, fun w hSw => by (go_simp; intro hh; exfalso; omega)⟩) (by assumption) ?_
      try simp only [Act.put, List.setIfInBounds_toArray, List.set_cons_zero, List.set_cons_succ]
      refine wpAnyH_take (i := 7) (oi := { dst := some 31, op := Op.move (Operand.tmp 0), type := 9, pos := "ref.go:117", after := #[], guard := none }) (v := .string s) rfl (by kernel_rfl) (by kernel_rfl) (by kernel_rfl) (fun _ _ _ h => h) (Or.inl ⟨by rfl, fun w hSw => by go_simp⟩) (by assumption) ?_
      try simp only [Act.put, List.setIfInBounds_toArray, List.set_cons_zero, List.set_cons_succ]
      refine wpAnyH_take (i := 8) (oi := { dst := some 32, op := Op.slice 9 (Operand.tmp 31) (some (Operand.const (Value.int IntKind.i64 40))) (some (Operand.const (Value.int IntKind.i64 44))) none, type := 9, pos := "ref.go:117", after := #[{ on := 7, ground := Ground.data }], guard := none }) (v := .string (s.extract 40 44)) rfl (by kernel_rfl) (by kernel_rfl) (by kernel_rfl) (fun _ _ _ h => h) (Or.inl ⟨by rfl, fun w hSw => by (go_simp; intro hh; exfalso; omega)⟩) (by assumption) ?_
      try simp only [Act.put, List.setIfInBounds_toArray, List.set_cons_zero, List.set_cons_succ]
      refine wpAnyH_ready (rs := [2, 12]) (by kernel_rfl) (by simp) ?_
      refine (AllReadyH.cons (o := { dst := some 26, op := Op.call { callee := Callee.value (Operand.func 77), args := #[Operand.tmp 25], argTypes := #[9] }, type := 27, pos := "ref.go:117", after := #[{ on := 1, ground := Ground.data }], guard := none }) rfl (fun K hK => ?_) (AllReadyH.cons (o := { dst := some 5, op := Op.alloc 34, type := 0, pos := "ref.go:117", after := #[], guard := none }) rfl (fun K hK => ?_) AllReadyH.nil))
      · go_simp
        go_at_call 77
        refine (HW1.out _).mono ?_
        rintro e W6 ⟨rfl, rfl⟩
        try go_wp2_with fail
        refine hK.out _ _ trivial (fun hHeld => ?_)
        clear hK K
        try simp only [Act.put, List.setIfInBounds_toArray, List.set_cons_zero, List.set_cons_succ]
        refine wpAnyH_ready (rs := [5, 12]) (by kernel_rfl) (by simp) ?_
        refine (AllReadyH.cons (o := { dst := some 29, op := Op.call { callee := Callee.value (Operand.func 77), args := #[Operand.tmp 28], argTypes := #[9] }, type := 27, pos := "ref.go:117", after := #[{ on := 4, ground := Ground.data }, { on := 2, ground := Ground.chain }], guard := none }) rfl (fun K hK => ?_) (AllReadyH.cons (o := { dst := some 5, op := Op.alloc 34, type := 0, pos := "ref.go:117", after := #[], guard := none }) rfl (fun K hK => ?_) AllReadyH.nil))
        · go_simp
          go_at_call 77
          refine (HW2.out _).mono ?_
          rintro e W6 ⟨rfl, rfl⟩
          try go_wp2_with fail
          refine hK.out _ _ trivial (fun hHeld => ?_)
          clear hK K
          try simp only [Act.put, List.setIfInBounds_toArray, List.set_cons_zero, List.set_cons_succ]
          refine wpAnyH_take (i := 6) (oi := { dst := some 30, op := Op.convert 27 28 (Operand.tmp 29), type := 28, pos := "ref.go:117", after := #[{ on := 5, ground := Ground.data }], guard := none }) (v := .int .u32 li) rfl (by kernel_rfl) (by kernel_rfl) (by kernel_rfl) (fun _ _ _ h => h) (Or.inl ⟨by rfl, fun w hSw => by go_simp⟩) (by assumption) ?_
          try simp only [Act.put, List.setIfInBounds_toArray, List.set_cons_zero, List.set_cons_succ]
          refine wpAnyH_ready (rs := [9, 12]) (by kernel_rfl) (by simp) ?_
          refine (AllReadyH.cons (o := { dst := some 33, op := Op.call { callee := Callee.value (Operand.func 77), args := #[Operand.tmp 32], argTypes := #[9] }, type := 27, pos := "ref.go:117", after := #[{ on := 8, ground := Ground.data }, { on := 5, ground := Ground.chain }], guard := none }) rfl (fun K hK => ?_) (AllReadyH.cons (o := { dst := some 5, op := Op.alloc 34, type := 0, pos := "ref.go:117", after := #[], guard := none }) rfl (fun K hK => ?_) AllReadyH.nil))
          · go_simp
            go_at_call 77
            refine (HW3.out _).mono ?_
            rintro e W6 ⟨rfl, rfl⟩
            try go_wp2_with fail
            refine hK.out _ _ trivial (fun hHeld => ?_)
            clear hK K
            try simp only [Act.put, List.setIfInBounds_toArray, List.set_cons_zero, List.set_cons_succ]
            refine wpAnyH_take (i := 10) (oi := { dst := some 34, op := Op.convert 27 28 (Operand.tmp 33), type := 28, pos := "ref.go:117", after := #[{ on := 9, ground := Ground.data }], guard := none }) (v := .int .u32 pg) rfl (by kernel_rfl) (by kernel_rfl) (by kernel_rfl) (fun _ _ _ h => h) (Or.inl ⟨by rfl, fun w hSw => by go_simp⟩) (by assumption) ?_
            try simp only [Act.put, List.setIfInBounds_toArray, List.set_cons_zero, List.set_cons_succ]
            refine wpAnyH_take (i := 11) (oi := { dst := some 35, op := Op.build 34 #[(0, Operand.tmp 26), (2, Operand.tmp 30), (3, Operand.tmp 34)], type := 34, pos := "ref.go:117", after := #[{ on := 2, ground := Ground.data }, { on := 6, ground := Ground.data }, { on := 10, ground := Ground.data }], guard := none }) (v := .agg XA) rfl (by kernel_rfl) (by kernel_rfl) (by kernel_rfl) (fun _ _ _ h => h) (Or.inl ⟨by rfl, fun w hSw => by go_simp⟩) (by assumption) ?_
            try simp only [Act.put, List.setIfInBounds_toArray, List.set_cons_zero, List.set_cons_succ]
            refine wpAnyH_ready (rs := [12]) (by kernel_rfl) (by simp) ?_
            refine (AllReadyH.cons (o := { dst := some 5, op := Op.alloc 34, type := 0, pos := "ref.go:117", after := #[], guard := none }) rfl (fun K hK => ?_) AllReadyH.nil)
            go_simp
            refine hK.out _ _ trivial (fun hHeld => ?_)
            clear hK K
            try simp only [Act.put, List.setIfInBounds_toArray, List.set_cons_zero, List.set_cons_succ]
            refine wpAnyH_ready (rs := [13]) (by kernel_rfl) (by simp) ?_
            refine (AllReadyH.cons (o := { dst := none, op := Op.store 34 (Operand.tmp 5) (Operand.tmp 35), type := 0, pos := "ref.go:117", after := #[{ on := 12, ground := Ground.data }, { on := 11, ground := Ground.data }, { on := 9, ground := Ground.chain }, { on := 0, ground := Ground.phase }, { on := 1, ground := Ground.phase }, { on := 2, ground := Ground.phase }, { on := 3, ground := Ground.phase }, { on := 4, ground := Ground.phase }, { on := 5, ground := Ground.phase }, { on := 6, ground := Ground.phase }, { on := 7, ground := Ground.phase }, { on := 8, ground := Ground.phase }, { on := 9, ground := Ground.phase }, { on := 10, ground := Ground.phase }, { on := 11, ground := Ground.phase }, { on := 12, ground := Ground.phase }], guard := none }) rfl (fun K hK => ?_) AllReadyH.nil)
            rw [if_pos (by rfl)]
            have m9 : (G0.alloc (.cells ZA 34)).drew.heap[G0.heap.size]? = some (.cells ZA 34 (0, 0)) := heap_alloc_new G0 _
            refine wp_store_mid 34 _ _ rfl G0.heap.size 0 XA rfl rfl (there_row m9 (by rw [hzs, hXs])) hXz hXo ?_
            have m10 := row_put (M := XA) m9 (by rw [hzs, hXs])
            have f10 : Fr (fun k => w.heap.size + 1 + 1 < k) G0 ((G0.alloc (.cells ZA 34)).drew.setCells G0.heap.size 0 XA.toList) := Fr.setCells (S := fun k => w.heap.size + 1 + 1 < k) (b := G0.heap.size) (fun _ => hlt) _ 0 _ (Fr.drew ((Fr.refl _ G0).alloc _))
            have F10 := F3.of f10
            generalize (G0.alloc (.cells ZA 34)).drew.setCells G0.heap.size 0 XA.toList = W10 at *
            refine hK.out _ _ trivial (fun hHeld => ?_)
            clear hK K
            try simp only [Act.put]
            refine wpAnyH_done (by kernel_rfl) ?_ _
            obtain ⟨gg, hgg⟩ : ∃ gg, gg = G0.heap.size := ⟨_, rfl⟩
            rw [← hgg] at m10 hlt ⊢
            exact hcont.out gg W10 ⟨F10, m10, hlt⟩
          · go_simp
            refine hK.out _ _ trivial (fun hHeld => ?_)
            clear hK K
            try simp only [Act.put, List.setIfInBounds_toArray, List.set_cons_zero, List.set_cons_succ]
            refine wpAnyH_ready (rs := [9]) (by kernel_rfl) (by simp) ?_
            refine (AllReadyH.cons (o := { dst := some 33, op := Op.call { callee := Callee.value (Operand.func 77), args := #[Operand.tmp 32], argTypes := #[9] }, type := 27, pos := "ref.go:117", after := #[{ on := 8, ground := Ground.data }, { on := 5, ground := Ground.chain }], guard := none }) rfl (fun K hK => ?_) AllReadyH.nil)
            go_simp
            go_at_call 77
            refine (HW3.out _).mono ?_
            rintro e W6 ⟨rfl, rfl⟩
            try go_wp2_with fail
            refine hK.out _ _ trivial (fun hHeld => ?_)
            clear hK K
            try simp only [Act.put, List.setIfInBounds_toArray, List.set_cons_zero, List.set_cons_succ]
            refine wpAnyH_take (i := 10) (oi := { dst := some 34, op := Op.convert 27 28 (Operand.tmp 33), type := 28, pos := "ref.go:117", after := #[{ on := 9, ground := Ground.data }], guard := none }) (v := .int .u32 pg) rfl (by kernel_rfl) (by kernel_rfl) (by kernel_rfl) (fun _ _ _ h => h) (Or.inl ⟨by rfl, fun w hSw => by go_simp⟩) (by assumption) ?_
            try simp only [Act.put, List.setIfInBounds_toArray, List.set_cons_zero, List.set_cons_succ]
            refine wpAnyH_take (i := 11) (oi := { dst := some 35, op := Op.build 34 #[(0, Operand.tmp 26), (2, Operand.tmp 30), (3, Operand.tmp 34)], type := 34, pos := "ref.go:117", after := #[{ on := 2, ground := Ground.data }, { on := 6, ground := Ground.data }, { on := 10, ground := Ground.data }], guard := none }) (v := .agg XA) rfl (by kernel_rfl) (by kernel_rfl) (by kernel_rfl) (fun _ _ _ h => h) (Or.inl ⟨by rfl, fun w hSw => by go_simp⟩) (by assumption) ?_
            try simp only [Act.put, List.setIfInBounds_toArray, List.set_cons_zero, List.set_cons_succ]
            refine wpAnyH_ready (rs := [13]) (by kernel_rfl) (by simp) ?_
            refine (AllReadyH.cons (o := { dst := none, op := Op.store 34 (Operand.tmp 5) (Operand.tmp 35), type := 0, pos := "ref.go:117", after := #[{ on := 12, ground := Ground.data }, { on := 11, ground := Ground.data }, { on := 9, ground := Ground.chain }, { on := 0, ground := Ground.phase }, { on := 1, ground := Ground.phase }, { on := 2, ground := Ground.phase }, { on := 3, ground := Ground.phase }, { on := 4, ground := Ground.phase }, { on := 5, ground := Ground.phase }, { on := 6, ground := Ground.phase }, { on := 7, ground := Ground.phase }, { on := 8, ground := Ground.phase }, { on := 9, ground := Ground.phase }, { on := 10, ground := Ground.phase }, { on := 11, ground := Ground.phase }, { on := 12, ground := Ground.phase }], guard := none }) rfl (fun K hK => ?_) AllReadyH.nil)
            rw [if_pos (by rfl)]
            have m9 : (G0.alloc (.cells ZA 34)).drew.heap[G0.heap.size]? = some (.cells ZA 34 (0, 0)) := heap_alloc_new G0 _
            refine wp_store_mid 34 _ _ rfl G0.heap.size 0 XA rfl rfl (there_row m9 (by rw [hzs, hXs])) hXz hXo ?_
            have m10 := row_put (M := XA) m9 (by rw [hzs, hXs])
            have f10 : Fr (fun k => w.heap.size + 1 + 1 < k) G0 ((G0.alloc (.cells ZA 34)).drew.setCells G0.heap.size 0 XA.toList) := Fr.setCells (S := fun k => w.heap.size + 1 + 1 < k) (b := G0.heap.size) (fun _ => hlt) _ 0 _ (Fr.drew ((Fr.refl _ G0).alloc _))
            have F10 := F3.of f10
            generalize (G0.alloc (.cells ZA 34)).drew.setCells G0.heap.size 0 XA.toList = W10 at *
            refine hK.out _ _ trivial (fun hHeld => ?_)
            clear hK K
            try simp only [Act.put]
            refine wpAnyH_done (by kernel_rfl) ?_ _
            obtain ⟨gg, hgg⟩ : ∃ gg, gg = G0.heap.size := ⟨_, rfl⟩
            rw [← hgg] at m10 hlt ⊢
            exact hcont.out gg W10 ⟨F10, m10, hlt⟩
        · go_simp
          refine hK.out _ _ trivial (fun hHeld => ?_)
          clear hK K
          try simp only [Act.put, List.setIfInBounds_toArray, List.set_cons_zero, List.set_cons_succ]
          refine wpAnyH_ready (rs := [5]) (by kernel_rfl) (by simp) ?_
          refine (AllReadyH.cons (o := { dst := some 29, op := Op.call { callee := Callee.value (Operand.func 77), args := #[Operand.tmp 28], argTypes := #[9] }, type := 27, pos := "ref.go:117", after := #[{ on := 4, ground := Ground.data }, { on := 2, ground := Ground.chain }], guard := none }) rfl (fun K hK => ?_) AllReadyH.nil)
          go_simp
          go_at_call 77
          refine (HW2.out _).mono ?_
          rintro e W6 ⟨rfl, rfl⟩
          try go_wp2_with fail
          refine hK.out _ _ trivial (fun hHeld => ?_)
          clear hK K
          try simp only [Act.put, List.setIfInBounds_toArray, List.set_cons_zero, List.set_cons_succ]
          refine wpAnyH_take (i := 6) (oi := { dst := some 30, op := Op.convert 27 28 (Operand.tmp 29), type := 28, pos := "ref.go:117", after := #[{ on := 5, ground := Ground.data }], guard := none }) (v := .int .u32 li) rfl (by kernel_rfl) (by kernel_rfl) (by kernel_rfl) (fun _ _ _ h => h) (Or.inl ⟨by rfl, fun w hSw => by go_simp⟩) (by assumption) ?_
          try simp only [Act.put, List.setIfInBounds_toArray, List.set_cons_zero, List.set_cons_succ]
          refine wpAnyH_ready (rs := [9]) (by kernel_rfl) (by simp) ?_
          refine (AllReadyH.cons (o := { dst := some 33, op := Op.call { callee := Callee.value (Operand.func 77), args := #[Operand.tmp 32], argTypes := #[9] }, type := 27, pos := "ref.go:117", after := #[{ on := 8, ground := Ground.data }, { on := 5, ground := Ground.chain }], guard := none }) rfl (fun K hK => ?_) AllReadyH.nil)
          go_simp
          go_at_call 77
          refine (HW3.out _).mono ?_
          rintro e W6 ⟨rfl, rfl⟩
          try go_wp2_with fail
          refine hK.out _ _ trivial (fun hHeld => ?_)
          clear hK K
          try simp only [Act.put, List.setIfInBounds_toArray, List.set_cons_zero, List.set_cons_succ]
          refine wpAnyH_take (i := 10) (oi := { dst := some 34, op := Op.convert 27 28 (Operand.tmp 33), type := 28, pos := "ref.go:117", after := #[{ on := 9, ground := Ground.data }], guard := none }) (v := .int .u32 pg) rfl (by kernel_rfl) (by kernel_rfl) (by kernel_rfl) (fun _ _ _ h => h) (Or.inl ⟨by rfl, fun w hSw => by go_simp⟩) (by assumption) ?_
          try simp only [Act.put, List.setIfInBounds_toArray, List.set_cons_zero, List.set_cons_succ]
          refine wpAnyH_take (i := 11) (oi := { dst := some 35, op := Op.build 34 #[(0, Operand.tmp 26), (2, Operand.tmp 30), (3, Operand.tmp 34)], type := 34, pos := "ref.go:117", after := #[{ on := 2, ground := Ground.data }, { on := 6, ground := Ground.data }, { on := 10, ground := Ground.data }], guard := none }) (v := .agg XA) rfl (by kernel_rfl) (by kernel_rfl) (by kernel_rfl) (fun _ _ _ h => h) (Or.inl ⟨by rfl, fun w hSw => by go_simp⟩) (by assumption) ?_
          try simp only [Act.put, List.setIfInBounds_toArray, List.set_cons_zero, List.set_cons_succ]
          refine wpAnyH_ready (rs := [13]) (by kernel_rfl) (by simp) ?_
          refine (AllReadyH.cons (o := { dst := none, op := Op.store 34 (Operand.tmp 5) (Operand.tmp 35), type := 0, pos := "ref.go:117", after := #[{ on := 12, ground := Ground.data }, { on := 11, ground := Ground.data }, { on := 9, ground := Ground.chain }, { on := 0, ground := Ground.phase }, { on := 1, ground := Ground.phase }, { on := 2, ground := Ground.phase }, { on := 3, ground := Ground.phase }, { on := 4, ground := Ground.phase }, { on := 5, ground := Ground.phase }, { on := 6, ground := Ground.phase }, { on := 7, ground := Ground.phase }, { on := 8, ground := Ground.phase }, { on := 9, ground := Ground.phase }, { on := 10, ground := Ground.phase }, { on := 11, ground := Ground.phase }, { on := 12, ground := Ground.phase }], guard := none }) rfl (fun K hK => ?_) AllReadyH.nil)
          rw [if_pos (by rfl)]
          have m9 : (G0.alloc (.cells ZA 34)).drew.heap[G0.heap.size]? = some (.cells ZA 34 (0, 0)) := heap_alloc_new G0 _
          refine wp_store_mid 34 _ _ rfl G0.heap.size 0 XA rfl rfl (there_row m9 (by rw [hzs, hXs])) hXz hXo ?_
          have m10 := row_put (M := XA) m9 (by rw [hzs, hXs])
          have f10 : Fr (fun k => w.heap.size + 1 + 1 < k) G0 ((G0.alloc (.cells ZA 34)).drew.setCells G0.heap.size 0 XA.toList) := Fr.setCells (S := fun k => w.heap.size + 1 + 1 < k) (b := G0.heap.size) (fun _ => hlt) _ 0 _ (Fr.drew ((Fr.refl _ G0).alloc _))
          have F10 := F3.of f10
          generalize (G0.alloc (.cells ZA 34)).drew.setCells G0.heap.size 0 XA.toList = W10 at *
          refine hK.out _ _ trivial (fun hHeld => ?_)
          clear hK K
          try simp only [Act.put]
          refine wpAnyH_done (by kernel_rfl) ?_ _
          obtain ⟨gg, hgg⟩ : ∃ gg, gg = G0.heap.size := ⟨_, rfl⟩
          rw [← hgg] at m10 hlt ⊢
          exact hcont.out gg W10 ⟨F10, m10, hlt⟩
      · go_simp
        refine hK.out _ _ trivial (fun hHeld => ?_)
        clear hK K
        try simp only [Act.put, List.setIfInBounds_toArray, List.set_cons_zero, List.set_cons_succ]
        refine wpAnyH_ready (rs := [2]) (by kernel_rfl) (by simp) ?_
        refine (AllReadyH.cons (o := { dst := some 26, op := Op.call { callee := Callee.value (Operand.func 77), args := #[Operand.tmp 25], argTypes := #[9] }, type := 27, pos := "ref.go:117", after := #[{ on := 1, ground := Ground.data }], guard := none }) rfl (fun K hK => ?_) AllReadyH.nil)
        go_simp
        go_at_call 77
        refine (HW1.out _).mono ?_
        rintro e W6 ⟨rfl, rfl⟩
        try go_wp2_with fail
        refine hK.out _ _ trivial (fun hHeld => ?_)
        clear hK K
        try simp only [Act.put, List.setIfInBounds_toArray, List.set_cons_zero, List.set_cons_succ]
        refine wpAnyH_ready (rs := [5]) (by kernel_rfl) (by simp) ?_
        refine (AllReadyH.cons (o := { dst := some 29, op := Op.call { callee := Callee.value (Operand.func 77), args := #[Operand.tmp 28], argTypes := #[9] }, type := 27, pos := "ref.go:117", after := #[{ on := 4, ground := Ground.data }, { on := 2, ground := Ground.chain }], guard := none }) rfl (fun K hK => ?_) AllReadyH.nil)
        go_simp
        go_at_call 77
        refine (HW2.out _).mono ?_
        rintro e W6 ⟨rfl, rfl⟩
        try go_wp2_with fail
        refine hK.out _ _ trivial (fun hHeld => ?_)
        clear hK K
        try simp only [Act.put, List.setIfInBounds_toArray, List.set_cons_zero, List.set_cons_succ]
        refine wpAnyH_take (i := 6) (oi := { dst := some 30, op := Op.convert 27 28 (Operand.tmp 29), type := 28, pos := "ref.go:117", after := #[{ on := 5, ground := Ground.data }], guard := none }) (v := .int .u32 li) rfl (by kernel_rfl) (by kernel_rfl) (by kernel_rfl) (fun _ _ _ h => h) (Or.inl ⟨by rfl, fun w hSw => by go_simp⟩) (by assumption) ?_
        try simp only [Act.put, List.setIfInBounds_toArray, List.set_cons_zero, List.set_cons_succ]
        refine wpAnyH_ready (rs := [9]) (by kernel_rfl) (by simp) ?_
        refine (AllReadyH.cons (o := { dst := some 33, op := Op.call { callee := Callee.value (Operand.func 77), args := #[Operand.tmp 32], argTypes := #[9] }, type := 27, pos := "ref.go:117", after := #[{ on := 8, ground := Ground.data }, { on := 5, ground := Ground.chain }], guard := none }) rfl (fun K hK => ?_) AllReadyH.nil)
        go_simp
        go_at_call 77
        refine (HW3.out _).mono ?_
        rintro e W6 ⟨rfl, rfl⟩
        try go_wp2_with fail
        refine hK.out _ _ trivial (fun hHeld => ?_)
        clear hK K
        try simp only [Act.put, List.setIfInBounds_toArray, List.set_cons_zero, List.set_cons_succ]
        refine wpAnyH_take (i := 10) (oi := { dst := some 34, op := Op.convert 27 28 (Operand.tmp 33), type := 28, pos := "ref.go:117", after := #[{ on := 9, ground := Ground.data }], guard := none }) (v := .int .u32 pg) rfl (by kernel_rfl) (by kernel_rfl) (by kernel_rfl) (fun _ _ _ h => h) (Or.inl ⟨by rfl, fun w hSw => by go_simp⟩) (by assumption) ?_
        try simp only [Act.put, List.setIfInBounds_toArray, List.set_cons_zero, List.set_cons_succ]
        refine wpAnyH_take (i := 11) (oi := { dst := some 35, op := Op.build 34 #[(0, Operand.tmp 26), (2, Operand.tmp 30), (3, Operand.tmp 34)], type := 34, pos := "ref.go:117", after := #[{ on := 2, ground := Ground.data }, { on := 6, ground := Ground.data }, { on := 10, ground := Ground.data }], guard := none }) (v := .agg XA) rfl (by kernel_rfl) (by kernel_rfl) (by kernel_rfl) (fun _ _ _ h => h) (Or.inl ⟨by rfl, fun w hSw => by go_simp⟩) (by assumption) ?_
        try simp only [Act.put, List.setIfInBounds_toArray, List.set_cons_zero, List.set_cons_succ]
        refine wpAnyH_ready (rs := [13]) (by kernel_rfl) (by simp) ?_
        refine (AllReadyH.cons (o := { dst := none, op := Op.store 34 (Operand.tmp 5) (Operand.tmp 35), type := 0, pos := "ref.go:117", after := #[{ on := 12, ground := Ground.data }, { on := 11, ground := Ground.data }, { on := 9, ground := Ground.chain }, { on := 0, ground := Ground.phase }, { on := 1, ground := Ground.phase }, { on := 2, ground := Ground.phase }, { on := 3, ground := Ground.phase }, { on := 4, ground := Ground.phase }, { on := 5, ground := Ground.phase }, { on := 6, ground := Ground.phase }, { on := 7, ground := Ground.phase }, { on := 8, ground := Ground.phase }, { on := 9, ground := Ground.phase }, { on := 10, ground := Ground.phase }, { on := 11, ground := Ground.phase }, { on := 12, ground := Ground.phase }], guard := none }) rfl (fun K hK => ?_) AllReadyH.nil)
        rw [if_pos (by rfl)]
        have m9 : (G0.alloc (.cells ZA 34)).drew.heap[G0.heap.size]? = some (.cells ZA 34 (0, 0)) := heap_alloc_new G0 _
        refine wp_store_mid 34 _ _ rfl G0.heap.size 0 XA rfl rfl (there_row m9 (by rw [hzs, hXs])) hXz hXo ?_
        have m10 := row_put (M := XA) m9 (by rw [hzs, hXs])
        have f10 : Fr (fun k => w.heap.size + 1 + 1 < k) G0 ((G0.alloc (.cells ZA 34)).drew.setCells G0.heap.size 0 XA.toList) := Fr.setCells (S := fun k => w.heap.size + 1 + 1 < k) (b := G0.heap.size) (fun _ => hlt) _ 0 _ (Fr.drew ((Fr.refl _ G0).alloc _))
        have F10 := F3.of f10
        generalize (G0.alloc (.cells ZA 34)).drew.setCells G0.heap.size 0 XA.toList = W10 at *
        refine hK.out _ _ trivial (fun hHeld => ?_)
        clear hK K
        try simp only [Act.put]
        refine wpAnyH_done (by kernel_rfl) ?_ _
        obtain ⟨gg, hgg⟩ : ∃ gg, gg = G0.heap.size := ⟨_, rfl⟩
        rw [← hgg] at m10 hlt ⊢
        exact hcont.out gg W10 ⟨F10, m10, hlt⟩
    · rintro g W ⟨F0, m0, hg⟩
      have M0 : MAt W g (fdA v li pg) := by rw [HX.out] at m0; exact m0
      clear m0 hX hXs hXo hXz F3 hlt k1 HW1 HW2 HW3 uli upg h4 h5 u4 u5
      have c34 : W.cell? ⟨g, 34, none⟩ = some (.int .u64 0) := (M0.cells rfl).2.2.1
      have f34 : W.frozen? ⟨g, 34, none⟩ = false := frozen_of_row W g 34 _ _ M0
      go_wp2_with fail
      refine (HW4.out _).mono ?_
      rintro e W6 ⟨rfl, hW6⟩
      rw [hW6]
      clear hW6
      have M1 := rec_c M0 rfl cc
      have F1 : FLd w ZA PD n5 (W.setCell ⟨g, 34, none⟩ (.int .u64 cc)) := F0.of ((Fr.refl _ W).setCell (p := ⟨g, 34, none⟩) (fun _ => hg) _)
      clear F0 M0
      go_wp2_with fail
      generalize W.setCell ⟨g, 34, none⟩ (.int .u64 cc) = W1 at *
      clear c34 f34
      have c35 : W1.cell? ⟨g, 35, none⟩ = some (.int .u64 0) := (M1.cells rfl).2.2.2.1
      have f35 : W1.frozen? ⟨g, 35, none⟩ = false := frozen_of_row W1 g 35 _ _ M1
      refine (HW5.out _).mono ?_
      rintro e W6 ⟨rfl, hW6⟩
      rw [hW6]
      clear hW6
      have M2 := rec_rv M1 rfl rv
      have F2 : FLd w ZA PD n5 (W1.setCell ⟨g, 35, none⟩ (.int .u64 rv)) := F1.of ((Fr.refl _ W1).setCell (p := ⟨g, 35, none⟩) (fun _ => hg) _)
      clear F1 M1
      go_wp2_with fail
      generalize W1.setCell ⟨g, 35, none⟩ (.int .u64 rv) = W2 at *
      clear c35 f35
      have c1 : W2.cell? ⟨g, 1, none⟩ = some (.int .u32 0) := (M2.cells rfl).2.1
      have f1 : W2.frozen? ⟨g, 1, none⟩ = false := frozen_of_row W2 g 1 _ _ M2
      refine (HW6.out _).mono ?_
      rintro e W6 ⟨rfl, hW6⟩
      rw [hW6]
      clear hW6
      have M3 := rec_rp M2 rp
      have F3 : FLd w ZA PD n5 (W2.setCell ⟨g, 1, none⟩ (.int .u32 rp)) := F2.of ((Fr.refl _ W2).setCell (p := ⟨g, 1, none⟩) (fun _ => hg) _)
      clear F2 M2
      go_wp2_with fail
      generalize W2.setCell ⟨g, 1, none⟩ (.int .u32 rp) = W3 at *
      clear c1 f1 HW4 HW5 HW6 urp
      have HG : Hid (w.heap.size + 1 + 1 < g) := hg
      have HSZ : Hid (80 ≤ s.size ∧ s.size ≤ 1024) := ⟨hs, hs2⟩
      clear hg
      go_loopg [6] 32 (fun gk iv wr => ∃ k : Nat, iv = .int .i64 (k : Int) ∧ k ≤ 32 ∧ gk = 32 - k ∧ Hid (MAt wr g ⟨v, rp, D.take k ++ List.replicate (32 - k) 0, cc, rv, li, pg⟩) ∧ Hid (FLd w ZA PD n5 wr))
      case atStart => exact ⟨0, rfl, by omega, rfl, M3, F3⟩
      case round =>
        obtain ⟨k, rfl, hk, hgk, HM, HF⟩ := hrel
        by_cases hgo : k < 32
        · obtain ⟨x, hx⟩ : ∃ x : UInt8, x = s[44 + k]'(by have := HSZ.out; omega) := ⟨_, rfl⟩
          have hDx : D[k]? = some x := by rw [hx]; exact HD.out.2 k _ hgo
          have hxi : ∀ h, (s[44 + k]'h).toNat = x.toNat := fun _ => by rw [hx]
          have hb : (44 : Int) + (k : Int) < (s.size : Int) := by have := HSZ.out; omega
          have hlen : (D.take k).length = k := by rw [List.length_take, HD.out.1]; omega
          have e1 : (D.take k ++ List.replicate (32 - k) 0 : List UInt8) = D.take k ++ 0 :: List.replicate (31 - k) 0 := by rw [show 32 - k = (31 - k) + 1 from by omega, List.replicate_succ]
          have e2 : (D.take k ++ x :: List.replicate (31 - k) 0 : List UInt8) = D.take (k + 1) ++ List.replicate (32 - (k + 1)) 0 := by rw [List.take_add_one, hDx, show 32 - (k + 1) = 31 - k from by omega]; simp
          have HM2 : Hid (MAt (wr.setCell ⟨g, 2 + k, none⟩ (.int .u8 x.toNat)) g ⟨v, rp, D.take (k + 1) ++ List.replicate (32 - (k + 1)) 0, cc, rv, li, pg⟩) := by
            have := rec_d (x := x) HM.out e1 hlen
            rw [e2] at this
            exact this
          have HF2 : Hid (FLd w ZA PD n5 (wr.setCell ⟨g, 2 + k, none⟩ (.int .u8 x.toNat))) := HF.out.of ((Fr.refl _ wr).setCell (p := ⟨g, 2 + k, none⟩) (fun _ => HG.out) _)
          have cc2 : wr.cell? ⟨g, 2 + k, none⟩ = some (.int .u8 0) := HM.out.sum k (.int .u8 0) (by rw [bcells, List.getElem?_map]; simp only; rw [e1, List.getElem?_append_right (by omega), hlen, Nat.sub_self]; rfl)
          have fz : wr.frozen? ⟨g, 2 + k, none⟩ = false := frozen_of_row wr g (2 + k) _ _ HM.out
          have b1 : (k : Int) < 32 := by omega
          have b0 : (0 : Int) ≤ (k : Int) := by omega
          clear hx hDx hlen e1 e2 HM HF
          go_wp2_with fail
          go_roundg (32 - (k + 1))
          case measure => omega
          case rel => exact ⟨k + 1, by go_num, by omega, rfl, HM2, HF2⟩
        · obtain rfl : k = 32 := by omega
          have MD : MAt wr g ⟨v, rp, D, cc, rv, li, pg⟩ := by
            have := HM.out
            rw [List.take_of_length_le (by rw [HD.out.1]; omega), Nat.sub_self, List.replicate_zero, List.append_nil] at this
            exact this
          have FD := HF.out
          clear HM HF
          go_wp2_with fail
          have hMs : (Rec.arr ⟨v, rp, D, cc, rv, li, pg⟩).size = 38 := arr_size _ HD.out.1
          have hMo := arr_one ⟨v, rp, D, cc, rv, li, pg⟩
          have hMz : (Tryd.prog.info? 34).map (·.size) = some (Rec.arr ⟨v, rp, D, cc, rv, li, pg⟩).size := by rw [Tryd.infoM, hMs]
          unfold MAt at MD
          obtain ⟨MA, hMA⟩ : ∃ MA, MA = Rec.arr ⟨v, rp, D, cc, rv, li, pg⟩ := ⟨_, rfl⟩
          rw [← hMA] at MD hMs hMo hMz
          have HMA : Hid (MA = Rec.arr ⟨v, rp, D, cc, rv, li, pg⟩) := hMA
          clear hMA
          obtain ⟨b0, b1, _, _⟩ := cell_of_two FD.2.2.1
          refine wp_region_held_drew (S := fun W => W.cell? ⟨w.heap.size + 1 + 1, 0, none⟩ = some (.int .i64 PD) ∧ W.cell? ⟨w.heap.size + 1 + 1, 1, none⟩ = some (.int .i64 n5) ∧ W.heap[g]? = some (.cells MA 34 (0, 0))) (by kernel_rfl) (⟨b0, b1, MD⟩) (fun hHeld => ?_)
          refine wpAnyH_take (i := 0) (oi := { dst := some 64, op := Op.load 23 (Operand.tmp 4), type := 23, pos := "ref.go:124", after := #[], guard := none }) (v := .agg #[.int .i64 PD, .int .i64 n5]) rfl (by kernel_rfl) (by kernel_rfl) (by kernel_rfl) (fun _ _ _ h => h) (Or.inl ⟨by rfl, fun w hSw => by (obtain ⟨y0, y1, y2⟩ := hSw; go_simp)⟩) (by assumption) ?_
          try simp only [Act.put, List.setIfInBounds_toArray, List.set_cons_zero, List.set_cons_succ]
          refine wpAnyH_take (i := 1) (oi := { dst := some 65, op := Op.load 34 (Operand.tmp 5), type := 34, pos := "ref.go:124", after := #[{ on := 2, ground := Ground.gcOnly Departure.lateStores }], guard := none }) (v := .agg MA) rfl (by kernel_rfl) (by kernel_rfl) (by kernel_rfl) (fun _ _ _ h => h) (yieldsIf_load_row (by rfl) 34 _ rfl g rfl 34 MA (0, 0) _ (fun _ h => h.2.2) Tryd.underlying34 rfl hMz) (by assumption) ?_
          try simp only [Act.put, List.setIfInBounds_toArray, List.set_cons_zero, List.set_cons_succ]
          obtain ⟨fc0, fc1, ff0, ff1⟩ := cell_of_two FD.1
          refine wpAnyH_ready (rs := [2]) (by kernel_rfl) (by simp) ?_
          refine AllReadyH.cons (o := { dst := none, op := Op.store 23 (Operand.tmp 2) (Operand.tmp 64), type := 0, pos := "ref.go:124", after := #[{ on := 0, ground := Ground.data }, { on := 0, ground := Ground.phase }, { on := 1, ground := Ground.textOnly Departure.lateStores }], guard := none }) rfl (fun K hK => ?_) AllReadyH.nil
          go_simp
          have f7 : Fr (fun k => k = w.heap.size) wr ((wr.setCell ⟨w.heap.size, 0, none⟩ (.int .i64 PD)).setCell ⟨w.heap.size, 1, none⟩ (.int .i64 n5)).drew := Fr.drew (((Fr.refl (fun k => k = w.heap.size) wr).setCell (p := ⟨w.heap.size, 0, none⟩) (fun _ => rfl) _).setCell (p := ⟨w.heap.size, 1, none⟩) (fun _ => rfl) _)
          have g0 : ((wr.setCell ⟨w.heap.size, 0, none⟩ (.int .i64 PD)).setCell ⟨w.heap.size, 1, none⟩ (.int .i64 n5)).drew.heap[w.heap.size]? = some (.cells #[.int .i64 PD, .int .i64 n5] 23 (0, 0)) := by have := heap_setCell_same _ w.heap.size 1 _ _ (.int .i64 n5) (heap_setCell_same wr w.heap.size 0 _ _ (.int .i64 PD) FD.1); simp only [List.setIfInBounds_toArray, List.set_cons_zero, List.set_cons_succ] at this; exact this
          have g1 := (f7.block (w.heap.size + 1) (lt_of_heap FD.2.1) (by omega)).trans FD.2.1
          have g2 := (f7.block (w.heap.size + 1 + 1) (lt_of_heap FD.2.2.1) (by omega)).trans FD.2.2.1
          have g3 := (f7.block g (lt_of_heap MD) (by have := HG.out; omega)).trans MD
          have s7 := Fr.trans FD.2.2.2 f7 (fun i hi e => by omega)
          generalize ((wr.setCell ⟨w.heap.size, 0, none⟩ (.int .i64 PD)).setCell ⟨w.heap.size, 1, none⟩ (.int .i64 n5)).drew = W7 at *
          obtain ⟨e0, e1, _, _⟩ := cell_of_two g2
          refine hK.out _ _ ⟨e0, e1, g3⟩ (fun hHeld => ?_)
          clear hK K
          try simp only [Act.put, List.setIfInBounds_toArray, List.set_cons_zero, List.set_cons_succ]
          refine wpAnyH_ready (rs := [3]) (by kernel_rfl) (by simp) ?_
          refine AllReadyH.cons (o := { dst := none, op := Op.store 34 (Operand.tmp 3) (Operand.tmp 65), type := 0, pos := "ref.go:124", after := #[{ on := 1, ground := Ground.data }, { on := 2, ground := Ground.chain }, { on := 0, ground := Ground.phase }, { on := 1, ground := Ground.phase }, { on := 2, ground := Ground.phase }], guard := none }) rfl (fun K hK => ?_) AllReadyH.nil
          rw [if_pos (by rfl)]
          refine wp_store_mid 34 _ _ rfl (w.heap.size + 1) 0 MA rfl rfl (there_row g1 (by rw [hzs, hMs])) hMz hMo ?_
          have f8 : Fr (fun k => k = w.heap.size + 1) W7 (W7.setCells (w.heap.size + 1) 0 MA.toList) := Fr.setCells (S := fun k => k = w.heap.size + 1) (fun _ => rfl) _ 0 W7 (Fr.refl _ W7)
          have r1 := row_put (M := MA) g1 (by rw [hzs, hMs])
          have r0 := (f8.block w.heap.size (lt_of_heap g0) (by omega)).trans g0
          have r2 := (f8.block (w.heap.size + 1 + 1) (lt_of_heap g2) (by omega)).trans g2
          have r3 := (f8.block g (lt_of_heap g3) (by have := HG.out; omega)).trans g3
          have s8 := Fr.trans s7 f8 (fun i hi e => by omega)
          generalize W7.setCells (w.heap.size + 1) 0 MA.toList = W8 at *
          obtain ⟨e0, e1, _, _⟩ := cell_of_two r2
          refine hK.out _ _ ⟨e0, e1, r3⟩ (fun hHeld => ?_)
          clear hK K
          try simp only [Act.put]
          refine wpAnyH_done (by kernel_rfl) ?_ _
          go_wp2_with fail
          exact bodyPost_ret (results_cell2 (p := 2) (q := 3) (ty := 23) (uy := 34) (by kernel_rfl) _ _ w.heap.size (w.heap.size + 1) 23 34 _ _ (0, 0) (0, 0) _ _ rfl r0 Tryd.underlying23 rfl (by kernel_rfl) rfl r1 Tryd.underlying34 rfl hMz) rfl ⟨by rw [HMA.out], s8⟩
  · clear hPA
    go_enter Tryd.func53, Tryd.ntmps53
    go_wp2_with fail
    generalize (((w.alloc (.cells #[.int .i64 0, .int .i64 0] 23)).alloc (.cells ZA 34)).alloc (.cells #[.int .i64 0, .int .i64 n5] 23)) = G0 at *
    have hlt : w.heap.size + 1 + 1 < G0.heap.size := lt_of_heap F3.2.2.1
    apply cont2 (fun (g : Nat) (W : World) => FLd w ZA 0 n5 W ∧ W.heap[g]? = some (.cells XA 34 (0, 0)) ∧ w.heap.size + 1 + 1 < g)
    · intro hcont
      refine wp_region_held_drew (S := fun _ => True) (by kernel_rfl) (trivial) (fun hHeld => ?_)
      refine wpAnyH_take (i := 0) (oi := { dst := some 24, op := Op.move (Operand.tmp 0), type := 9, pos := "ref.go:117", after := #[], guard := none }) (v := .string s) rfl (by kernel_rfl) (by kernel_rfl) (by kernel_rfl) (fun _ _ _ h => h) (Or.inl ⟨by rfl, fun w hSw => by go_simp⟩) (by assumption) ?_
      try simp only [Act.put, List.setIfInBounds_toArray, List.set_cons_zero, List.set_cons_succ]
      refine wpAnyH_take (i := 1) (oi := { dst := some 25, op := Op.slice 9 (Operand.tmp 24) (some (Operand.const (Value.int IntKind.i64 8))) (some (Operand.const (Value.int IntKind.i64 16))) none, type := 9, pos := "ref.go:117", after := #[{ on := 0, ground := Ground.data }], guard := none }) (v := .string (s.extract 8 16)) rfl (by kernel_rfl) (by kernel_rfl) (by kernel_rfl) (fun _ _ _ h => h) (Or.inl ⟨by rfl, fun w hSw => by (go_simp; intro hh; exfalso; omega)⟩) (by assumption) ?_
      try simp only [Act.put, List.setIfInBounds_toArray, List.set_cons_zero, List.set_cons_succ]
      refine wpAnyH_take (i := 3) (oi := { dst := some 27, op := Op.move (Operand.tmp 0), type := 9, pos := "ref.go:117", after := #[], guard := none }) (v := .string s) rfl (by kernel_rfl) (by kernel_rfl) (by kernel_rfl) (fun _ _ _ h => h) (Or.inl ⟨by rfl, fun w hSw => by go_simp⟩) (by assumption) ?_
      try simp only [Act.put, List.setIfInBounds_toArray, List.set_cons_zero, List.set_cons_succ]
      refine wpAnyH_take (i := 4) (oi := { dst := some 28, op := Op.slice 9 (Operand.tmp 27) (some (Operand.const (Value.int IntKind.i64 36))) (some (Operand.const (Value.int IntKind.i64 40))) none, type := 9, pos := "ref.go:117", after := #[{ on := 3, ground := Ground.data }], guard := none }) (v := .string (s.extract 36 40)) rfl (by kernel_rfl) (by kernel_rfl) (by kernel_rfl) (fun _ _ _ h => h) (Or.inl ⟨by rfl, fun w hSw => by (go_simp; intro hh; exfalso; omega)⟩) (by assumption) ?_
      try simp only [Act.put, List.setIfInBounds_toArray, List.set_cons_zero, List.set_cons_succ]
      refine wpAnyH_take (i := 7) (oi := { dst := some 31, op := Op.move (Operand.tmp 0), type := 9, pos := "ref.go:117", after := #[], guard := none }) (v := .string s) rfl (by kernel_rfl) (by kernel_rfl) (by kernel_rfl) (fun _ _ _ h => h) (Or.inl ⟨by rfl, fun w hSw => by go_simp⟩) (by assumption) ?_
      try simp only [Act.put, List.setIfInBounds_toArray, List.set_cons_zero, List.set_cons_succ]
      refine wpAnyH_take (i := 8) (oi := { dst := some 32, op := Op.slice 9 (Operand.tmp 31) (some (Operand.const (Value.int IntKind.i64 40))) (some (Operand.const (Value.int IntKind.i64 44))) none, type := 9, pos := "ref.go:117", after := #[{ on := 7, ground := Ground.data }], guard := none }) (v := .string (s.extract 40 44)) rfl (by kernel_rfl) (by kernel_rfl) (by kernel_rfl) (fun _ _ _ h => h) (Or.inl ⟨by rfl, fun w hSw => by (go_simp; intro hh; exfalso; omega)⟩) (by assumption) ?_
      try simp only [Act.put, List.setIfInBounds_toArray, List.set_cons_zero, List.set_cons_succ]
      refine wpAnyH_ready (rs := [2, 12]) (by kernel_rfl) (by simp) ?_
      refine (AllReadyH.cons (o := { dst := some 26, op := Op.call { callee := Callee.value (Operand.func 77), args := #[Operand.tmp 25], argTypes := #[9] }, type := 27, pos := "ref.go:117", after := #[{ on := 1, ground := Ground.data }], guard := none }) rfl (fun K hK => ?_) (AllReadyH.cons (o := { dst := some 5, op := Op.alloc 34, type := 0, pos := "ref.go:117", after := #[], guard := none }) rfl (fun K hK => ?_) AllReadyH.nil))
      · go_simp
        go_at_call 77
        refine (HW1.out _).mono ?_
        rintro e W6 ⟨rfl, rfl⟩
        try go_wp2_with fail
        refine hK.out _ _ trivial (fun hHeld => ?_)
        clear hK K
        try simp only [Act.put, List.setIfInBounds_toArray, List.set_cons_zero, List.set_cons_succ]
        refine wpAnyH_ready (rs := [5, 12]) (by kernel_rfl) (by simp) ?_
        refine (AllReadyH.cons (o := { dst := some 29, op := Op.call { callee := Callee.value (Operand.func 77), args := #[Operand.tmp 28], argTypes := #[9] }, type := 27, pos := "ref.go:117", after := #[{ on := 4, ground := Ground.data }, { on := 2, ground := Ground.chain }], guard := none }) rfl (fun K hK => ?_) (AllReadyH.cons (o := { dst := some 5, op := Op.alloc 34, type := 0, pos := "ref.go:117", after := #[], guard := none }) rfl (fun K hK => ?_) AllReadyH.nil))
        · go_simp
          go_at_call 77
          refine (HW2.out _).mono ?_
          rintro e W6 ⟨rfl, rfl⟩
          try go_wp2_with fail
          refine hK.out _ _ trivial (fun hHeld => ?_)
          clear hK K
          try simp only [Act.put, List.setIfInBounds_toArray, List.set_cons_zero, List.set_cons_succ]
          refine wpAnyH_take (i := 6) (oi := { dst := some 30, op := Op.convert 27 28 (Operand.tmp 29), type := 28, pos := "ref.go:117", after := #[{ on := 5, ground := Ground.data }], guard := none }) (v := .int .u32 li) rfl (by kernel_rfl) (by kernel_rfl) (by kernel_rfl) (fun _ _ _ h => h) (Or.inl ⟨by rfl, fun w hSw => by go_simp⟩) (by assumption) ?_
          try simp only [Act.put, List.setIfInBounds_toArray, List.set_cons_zero, List.set_cons_succ]
          refine wpAnyH_ready (rs := [9, 12]) (by kernel_rfl) (by simp) ?_
          refine (AllReadyH.cons (o := { dst := some 33, op := Op.call { callee := Callee.value (Operand.func 77), args := #[Operand.tmp 32], argTypes := #[9] }, type := 27, pos := "ref.go:117", after := #[{ on := 8, ground := Ground.data }, { on := 5, ground := Ground.chain }], guard := none }) rfl (fun K hK => ?_) (AllReadyH.cons (o := { dst := some 5, op := Op.alloc 34, type := 0, pos := "ref.go:117", after := #[], guard := none }) rfl (fun K hK => ?_) AllReadyH.nil))
          · go_simp
            go_at_call 77
            refine (HW3.out _).mono ?_
            rintro e W6 ⟨rfl, rfl⟩
            try go_wp2_with fail
            refine hK.out _ _ trivial (fun hHeld => ?_)
            clear hK K
            try simp only [Act.put, List.setIfInBounds_toArray, List.set_cons_zero, List.set_cons_succ]
            refine wpAnyH_take (i := 10) (oi := { dst := some 34, op := Op.convert 27 28 (Operand.tmp 33), type := 28, pos := "ref.go:117", after := #[{ on := 9, ground := Ground.data }], guard := none }) (v := .int .u32 pg) rfl (by kernel_rfl) (by kernel_rfl) (by kernel_rfl) (fun _ _ _ h => h) (Or.inl ⟨by rfl, fun w hSw => by go_simp⟩) (by assumption) ?_
            try simp only [Act.put, List.setIfInBounds_toArray, List.set_cons_zero, List.set_cons_succ]
            refine wpAnyH_take (i := 11) (oi := { dst := some 35, op := Op.build 34 #[(0, Operand.tmp 26), (2, Operand.tmp 30), (3, Operand.tmp 34)], type := 34, pos := "ref.go:117", after := #[{ on := 2, ground := Ground.data }, { on := 6, ground := Ground.data }, { on := 10, ground := Ground.data }], guard := none }) (v := .agg XA) rfl (by kernel_rfl) (by kernel_rfl) (by kernel_rfl) (fun _ _ _ h => h) (Or.inl ⟨by rfl, fun w hSw => by go_simp⟩) (by assumption) ?_
            try simp only [Act.put, List.setIfInBounds_toArray, List.set_cons_zero, List.set_cons_succ]
            refine wpAnyH_ready (rs := [12]) (by kernel_rfl) (by simp) ?_
            refine (AllReadyH.cons (o := { dst := some 5, op := Op.alloc 34, type := 0, pos := "ref.go:117", after := #[], guard := none }) rfl (fun K hK => ?_) AllReadyH.nil)
            go_simp
            refine hK.out _ _ trivial (fun hHeld => ?_)
            clear hK K
            try simp only [Act.put, List.setIfInBounds_toArray, List.set_cons_zero, List.set_cons_succ]
            refine wpAnyH_ready (rs := [13]) (by kernel_rfl) (by simp) ?_
            refine (AllReadyH.cons (o := { dst := none, op := Op.store 34 (Operand.tmp 5) (Operand.tmp 35), type := 0, pos := "ref.go:117", after := #[{ on := 12, ground := Ground.data }, { on := 11, ground := Ground.data }, { on := 9, ground := Ground.chain }, { on := 0, ground := Ground.phase }, { on := 1, ground := Ground.phase }, { on := 2, ground := Ground.phase }, { on := 3, ground := Ground.phase }, { on := 4, ground := Ground.phase }, { on := 5, ground := Ground.phase }, { on := 6, ground := Ground.phase }, { on := 7, ground := Ground.phase }, { on := 8, ground := Ground.phase }, { on := 9, ground := Ground.phase }, { on := 10, ground := Ground.phase }, { on := 11, ground := Ground.phase }, { on := 12, ground := Ground.phase }], guard := none }) rfl (fun K hK => ?_) AllReadyH.nil)
            rw [if_pos (by rfl)]
            have m9 : (G0.alloc (.cells ZA 34)).drew.heap[G0.heap.size]? = some (.cells ZA 34 (0, 0)) := heap_alloc_new G0 _
            refine wp_store_mid 34 _ _ rfl G0.heap.size 0 XA rfl rfl (there_row m9 (by rw [hzs, hXs])) hXz hXo ?_
            have m10 := row_put (M := XA) m9 (by rw [hzs, hXs])
            have f10 : Fr (fun k => w.heap.size + 1 + 1 < k) G0 ((G0.alloc (.cells ZA 34)).drew.setCells G0.heap.size 0 XA.toList) := Fr.setCells (S := fun k => w.heap.size + 1 + 1 < k) (b := G0.heap.size) (fun _ => hlt) _ 0 _ (Fr.drew ((Fr.refl _ G0).alloc _))
            have F10 := F3.of f10
            generalize (G0.alloc (.cells ZA 34)).drew.setCells G0.heap.size 0 XA.toList = W10 at *
            refine hK.out _ _ trivial (fun hHeld => ?_)
            clear hK K
            try simp only [Act.put]
            refine wpAnyH_done (by kernel_rfl) ?_ _
            obtain ⟨gg, hgg⟩ : ∃ gg, gg = G0.heap.size := ⟨_, rfl⟩
            rw [← hgg] at m10 hlt ⊢
            exact hcont.out gg W10 ⟨F10, m10, hlt⟩
          · go_simp
            refine hK.out _ _ trivial (fun hHeld => ?_)
            clear hK K
            try simp only [Act.put, List.setIfInBounds_toArray, List.set_cons_zero, List.set_cons_succ]
            refine wpAnyH_ready (rs := [9]) (by kernel_rfl) (by simp) ?_
            refine (AllReadyH.cons (o := { dst := some 33, op := Op.call { callee := Callee.value (Operand.func 77), args := #[Operand.tmp 32], argTypes := #[9] }, type := 27, pos := "ref.go:117", after := #[{ on := 8, ground := Ground.data }, { on := 5, ground := Ground.chain }], guard := none }) rfl (fun K hK => ?_) AllReadyH.nil)
            go_simp
            go_at_call 77
            refine (HW3.out _).mono ?_
            rintro e W6 ⟨rfl, rfl⟩
            try go_wp2_with fail
            refine hK.out _ _ trivial (fun hHeld => ?_)
            clear hK K
            try simp only [Act.put, List.setIfInBounds_toArray, List.set_cons_zero, List.set_cons_succ]
            refine wpAnyH_take (i := 10) (oi := { dst := some 34, op := Op.convert 27 28 (Operand.tmp 33), type := 28, pos := "ref.go:117", after := #[{ on := 9, ground := Ground.data }], guard := none }) (v := .int .u32 pg) rfl (by kernel_rfl) (by kernel_rfl) (by kernel_rfl) (fun _ _ _ h => h) (Or.inl ⟨by rfl, fun w hSw => by go_simp⟩) (by assumption) ?_
            try simp only [Act.put, List.setIfInBounds_toArray, List.set_cons_zero, List.set_cons_succ]
            refine wpAnyH_take (i := 11) (oi := { dst := some 35, op := Op.build 34 #[(0, Operand.tmp 26), (2, Operand.tmp 30), (3, Operand.tmp 34)], type := 34, pos := "ref.go:117", after := #[{ on := 2, ground := Ground.data }, { on := 6, ground := Ground.data }, { on := 10, ground := Ground.data }], guard := none }) (v := .agg XA) rfl (by kernel_rfl) (by kernel_rfl) (by kernel_rfl) (fun _ _ _ h => h) (Or.inl ⟨by rfl, fun w hSw => by go_simp⟩) (by assumption) ?_
            try simp only [Act.put, List.setIfInBounds_toArray, List.set_cons_zero, List.set_cons_succ]
            refine wpAnyH_ready (rs := [13]) (by kernel_rfl) (by simp) ?_
            refine (AllReadyH.cons (o := { dst := none, op := Op.store 34 (Operand.tmp 5) (Operand.tmp 35), type := 0, pos := "ref.go:117", after := #[{ on := 12, ground := Ground.data }, { on := 11, ground := Ground.data }, { on := 9, ground := Ground.chain }, { on := 0, ground := Ground.phase }, { on := 1, ground := Ground.phase }, { on := 2, ground := Ground.phase }, { on := 3, ground := Ground.phase }, { on := 4, ground := Ground.phase }, { on := 5, ground := Ground.phase }, { on := 6, ground := Ground.phase }, { on := 7, ground := Ground.phase }, { on := 8, ground := Ground.phase }, { on := 9, ground := Ground.phase }, { on := 10, ground := Ground.phase }, { on := 11, ground := Ground.phase }, { on := 12, ground := Ground.phase }], guard := none }) rfl (fun K hK => ?_) AllReadyH.nil)
            rw [if_pos (by rfl)]
            have m9 : (G0.alloc (.cells ZA 34)).drew.heap[G0.heap.size]? = some (.cells ZA 34 (0, 0)) := heap_alloc_new G0 _
            refine wp_store_mid 34 _ _ rfl G0.heap.size 0 XA rfl rfl (there_row m9 (by rw [hzs, hXs])) hXz hXo ?_
            have m10 := row_put (M := XA) m9 (by rw [hzs, hXs])
            have f10 : Fr (fun k => w.heap.size + 1 + 1 < k) G0 ((G0.alloc (.cells ZA 34)).drew.setCells G0.heap.size 0 XA.toList) := Fr.setCells (S := fun k => w.heap.size + 1 + 1 < k) (b := G0.heap.size) (fun _ => hlt) _ 0 _ (Fr.drew ((Fr.refl _ G0).alloc _))
            have F10 := F3.of f10
            generalize (G0.alloc (.cells ZA 34)).drew.setCells G0.heap.size 0 XA.toList = W10 at *
            refine hK.out _ _ trivial (fun hHeld => ?_)
            clear hK K
            try simp only [Act.put]
            refine wpAnyH_done (by kernel_rfl) ?_ _
            obtain ⟨gg, hgg⟩ : ∃ gg, gg = G0.heap.size := ⟨_, rfl⟩
            rw [← hgg] at m10 hlt ⊢
            exact hcont.out gg W10 ⟨F10, m10, hlt⟩
        · go_simp
          refine hK.out _ _ trivial (fun hHeld => ?_)
          clear hK K
          try simp only [Act.put, List.setIfInBounds_toArray, List.set_cons_zero, List.set_cons_succ]
          refine wpAnyH_ready (rs := [5]) (by kernel_rfl) (by simp) ?_
          refine (AllReadyH.cons (o := { dst := some 29, op := Op.call { callee := Callee.value (Operand.func 77), args := #[Operand.tmp 28], argTypes := #[9] }, type := 27, pos := "ref.go:117", after := #[{ on := 4, ground := Ground.data }, { on := 2, ground := Ground.chain }], guard := none }) rfl (fun K hK => ?_) AllReadyH.nil)
          go_simp
          go_at_call 77
          refine (HW2.out _).mono ?_
          rintro e W6 ⟨rfl, rfl⟩
          try go_wp2_with fail
          refine hK.out _ _ trivial (fun hHeld => ?_)
          clear hK K
          try simp only [Act.put, List.setIfInBounds_toArray, List.set_cons_zero, List.set_cons_succ]
          refine wpAnyH_take (i := 6) (oi := { dst := some 30, op := Op.convert 27 28 (Operand.tmp 29), type := 28, pos := "ref.go:117", after := #[{ on := 5, ground := Ground.data }], guard := none }) (v := .int .u32 li) rfl (by kernel_rfl) (by kernel_rfl) (by kernel_rfl) (fun _ _ _ h => h) (Or.inl ⟨by rfl, fun w hSw => by go_simp⟩) (by assumption) ?_
          try simp only [Act.put, List.setIfInBounds_toArray, List.set_cons_zero, List.set_cons_succ]
          refine wpAnyH_ready (rs := [9]) (by kernel_rfl) (by simp) ?_
          refine (AllReadyH.cons (o := { dst := some 33, op := Op.call { callee := Callee.value (Operand.func 77), args := #[Operand.tmp 32], argTypes := #[9] }, type := 27, pos := "ref.go:117", after := #[{ on := 8, ground := Ground.data }, { on := 5, ground := Ground.chain }], guard := none }) rfl (fun K hK => ?_) AllReadyH.nil)
          go_simp
          go_at_call 77
          refine (HW3.out _).mono ?_
          rintro e W6 ⟨rfl, rfl⟩
          try go_wp2_with fail
          refine hK.out _ _ trivial (fun hHeld => ?_)
          clear hK K
          try simp only [Act.put, List.setIfInBounds_toArray, List.set_cons_zero, List.set_cons_succ]
          refine wpAnyH_take (i := 10) (oi := { dst := some 34, op := Op.convert 27 28 (Operand.tmp 33), type := 28, pos := "ref.go:117", after := #[{ on := 9, ground := Ground.data }], guard := none }) (v := .int .u32 pg) rfl (by kernel_rfl) (by kernel_rfl) (by kernel_rfl) (fun _ _ _ h => h) (Or.inl ⟨by rfl, fun w hSw => by go_simp⟩) (by assumption) ?_
          try simp only [Act.put, List.setIfInBounds_toArray, List.set_cons_zero, List.set_cons_succ]
          refine wpAnyH_take (i := 11) (oi := { dst := some 35, op := Op.build 34 #[(0, Operand.tmp 26), (2, Operand.tmp 30), (3, Operand.tmp 34)], type := 34, pos := "ref.go:117", after := #[{ on := 2, ground := Ground.data }, { on := 6, ground := Ground.data }, { on := 10, ground := Ground.data }], guard := none }) (v := .agg XA) rfl (by kernel_rfl) (by kernel_rfl) (by kernel_rfl) (fun _ _ _ h => h) (Or.inl ⟨by rfl, fun w hSw => by go_simp⟩) (by assumption) ?_
          try simp only [Act.put, List.setIfInBounds_toArray, List.set_cons_zero, List.set_cons_succ]
          refine wpAnyH_ready (rs := [13]) (by kernel_rfl) (by simp) ?_
          refine (AllReadyH.cons (o := { dst := none, op := Op.store 34 (Operand.tmp 5) (Operand.tmp 35), type := 0, pos := "ref.go:117", after := #[{ on := 12, ground := Ground.data }, { on := 11, ground := Ground.data }, { on := 9, ground := Ground.chain }, { on := 0, ground := Ground.phase }, { on := 1, ground := Ground.phase }, { on := 2, ground := Ground.phase }, { on := 3, ground := Ground.phase }, { on := 4, ground := Ground.phase }, { on := 5, ground := Ground.phase }, { on := 6, ground := Ground.phase }, { on := 7, ground := Ground.phase }, { on := 8, ground := Ground.phase }, { on := 9, ground := Ground.phase }, { on := 10, ground := Ground.phase }, { on := 11, ground := Ground.phase }, { on := 12, ground := Ground.phase }], guard := none }) rfl (fun K hK => ?_) AllReadyH.nil)
          rw [if_pos (by rfl)]
          have m9 : (G0.alloc (.cells ZA 34)).drew.heap[G0.heap.size]? = some (.cells ZA 34 (0, 0)) := heap_alloc_new G0 _
          refine wp_store_mid 34 _ _ rfl G0.heap.size 0 XA rfl rfl (there_row m9 (by rw [hzs, hXs])) hXz hXo ?_
          have m10 := row_put (M := XA) m9 (by rw [hzs, hXs])
          have f10 : Fr (fun k => w.heap.size + 1 + 1 < k) G0 ((G0.alloc (.cells ZA 34)).drew.setCells G0.heap.size 0 XA.toList) := Fr.setCells (S := fun k => w.heap.size + 1 + 1 < k) (b := G0.heap.size) (fun _ => hlt) _ 0 _ (Fr.drew ((Fr.refl _ G0).alloc _))
          have F10 := F3.of f10
          generalize (G0.alloc (.cells ZA 34)).drew.setCells G0.heap.size 0 XA.toList = W10 at *
          refine hK.out _ _ trivial (fun hHeld => ?_)
          clear hK K
          try simp only [Act.put]
          refine wpAnyH_done (by kernel_rfl) ?_ _
          obtain ⟨gg, hgg⟩ : ∃ gg, gg = G0.heap.size := ⟨_, rfl⟩
          rw [← hgg] at m10 hlt ⊢
          exact hcont.out gg W10 ⟨F10, m10, hlt⟩
      · go_simp
        refine hK.out _ _ trivial (fun hHeld => ?_)
        clear hK K
        try simp only [Act.put, List.setIfInBounds_toArray, List.set_cons_zero, List.set_cons_succ]
        refine wpAnyH_ready (rs := [2]) (by kernel_rfl) (by simp) ?_
        refine (AllReadyH.cons (o := { dst := some 26, op := Op.call { callee := Callee.value (Operand.func 77), args := #[Operand.tmp 25], argTypes := #[9] }, type := 27, pos := "ref.go:117", after := #[{ on := 1, ground := Ground.data }], guard := none }) rfl (fun K hK => ?_) AllReadyH.nil)
        go_simp
        go_at_call 77
        refine (HW1.out _).mono ?_
        rintro e W6 ⟨rfl, rfl⟩
        try go_wp2_with fail
        refine hK.out _ _ trivial (fun hHeld => ?_)
        clear hK K
        try simp only [Act.put, List.setIfInBounds_toArray, List.set_cons_zero, List.set_cons_succ]
        refine wpAnyH_ready (rs := [5]) (by kernel_rfl) (by simp) ?_
        refine (AllReadyH.cons (o := { dst := some 29, op := Op.call { callee := Callee.value (Operand.func 77), args := #[Operand.tmp 28], argTypes := #[9] }, type := 27, pos := "ref.go:117", after := #[{ on := 4, ground := Ground.data }, { on := 2, ground := Ground.chain }], guard := none }) rfl (fun K hK => ?_) AllReadyH.nil)
        go_simp
        go_at_call 77
        refine (HW2.out _).mono ?_
        rintro e W6 ⟨rfl, rfl⟩
        try go_wp2_with fail
        refine hK.out _ _ trivial (fun hHeld => ?_)
        clear hK K
        try simp only [Act.put, List.setIfInBounds_toArray, List.set_cons_zero, List.set_cons_succ]
        refine wpAnyH_take (i := 6) (oi := { dst := some 30, op := Op.convert 27 28 (Operand.tmp 29), type := 28, pos := "ref.go:117", after := #[{ on := 5, ground := Ground.data }], guard := none }) (v := .int .u32 li) rfl (by kernel_rfl) (by kernel_rfl) (by kernel_rfl) (fun _ _ _ h => h) (Or.inl ⟨by rfl, fun w hSw => by go_simp⟩) (by assumption) ?_
        try simp only [Act.put, List.setIfInBounds_toArray, List.set_cons_zero, List.set_cons_succ]
        refine wpAnyH_ready (rs := [9]) (by kernel_rfl) (by simp) ?_
        refine (AllReadyH.cons (o := { dst := some 33, op := Op.call { callee := Callee.value (Operand.func 77), args := #[Operand.tmp 32], argTypes := #[9] }, type := 27, pos := "ref.go:117", after := #[{ on := 8, ground := Ground.data }, { on := 5, ground := Ground.chain }], guard := none }) rfl (fun K hK => ?_) AllReadyH.nil)
        go_simp
        go_at_call 77
        refine (HW3.out _).mono ?_
        rintro e W6 ⟨rfl, rfl⟩
        try go_wp2_with fail
        refine hK.out _ _ trivial (fun hHeld => ?_)
        clear hK K
        try simp only [Act.put, List.setIfInBounds_toArray, List.set_cons_zero, List.set_cons_succ]
        refine wpAnyH_take (i := 10) (oi := { dst := some 34, op := Op.convert 27 28 (Operand.tmp 33), type := 28, pos := "ref.go:117", after := #[{ on := 9, ground := Ground.data }], guard := none }) (v := .int .u32 pg) rfl (by kernel_rfl) (by kernel_rfl) (by kernel_rfl) (fun _ _ _ h => h) (Or.inl ⟨by rfl, fun w hSw => by go_simp⟩) (by assumption) ?_
        try simp only [Act.put, List.setIfInBounds_toArray, List.set_cons_zero, List.set_cons_succ]
        refine wpAnyH_take (i := 11) (oi := { dst := some 35, op := Op.build 34 #[(0, Operand.tmp 26), (2, Operand.tmp 30), (3, Operand.tmp 34)], type := 34, pos := "ref.go:117", after := #[{ on := 2, ground := Ground.data }, { on := 6, ground := Ground.data }, { on := 10, ground := Ground.data }], guard := none }) (v := .agg XA) rfl (by kernel_rfl) (by kernel_rfl) (by kernel_rfl) (fun _ _ _ h => h) (Or.inl ⟨by rfl, fun w hSw => by go_simp⟩) (by assumption) ?_
        try simp only [Act.put, List.setIfInBounds_toArray, List.set_cons_zero, List.set_cons_succ]
        refine wpAnyH_ready (rs := [13]) (by kernel_rfl) (by simp) ?_
        refine (AllReadyH.cons (o := { dst := none, op := Op.store 34 (Operand.tmp 5) (Operand.tmp 35), type := 0, pos := "ref.go:117", after := #[{ on := 12, ground := Ground.data }, { on := 11, ground := Ground.data }, { on := 9, ground := Ground.chain }, { on := 0, ground := Ground.phase }, { on := 1, ground := Ground.phase }, { on := 2, ground := Ground.phase }, { on := 3, ground := Ground.phase }, { on := 4, ground := Ground.phase }, { on := 5, ground := Ground.phase }, { on := 6, ground := Ground.phase }, { on := 7, ground := Ground.phase }, { on := 8, ground := Ground.phase }, { on := 9, ground := Ground.phase }, { on := 10, ground := Ground.phase }, { on := 11, ground := Ground.phase }, { on := 12, ground := Ground.phase }], guard := none }) rfl (fun K hK => ?_) AllReadyH.nil)
        rw [if_pos (by rfl)]
        have m9 : (G0.alloc (.cells ZA 34)).drew.heap[G0.heap.size]? = some (.cells ZA 34 (0, 0)) := heap_alloc_new G0 _
        refine wp_store_mid 34 _ _ rfl G0.heap.size 0 XA rfl rfl (there_row m9 (by rw [hzs, hXs])) hXz hXo ?_
        have m10 := row_put (M := XA) m9 (by rw [hzs, hXs])
        have f10 : Fr (fun k => w.heap.size + 1 + 1 < k) G0 ((G0.alloc (.cells ZA 34)).drew.setCells G0.heap.size 0 XA.toList) := Fr.setCells (S := fun k => w.heap.size + 1 + 1 < k) (b := G0.heap.size) (fun _ => hlt) _ 0 _ (Fr.drew ((Fr.refl _ G0).alloc _))
        have F10 := F3.of f10
        generalize (G0.alloc (.cells ZA 34)).drew.setCells G0.heap.size 0 XA.toList = W10 at *
        refine hK.out _ _ trivial (fun hHeld => ?_)
        clear hK K
        try simp only [Act.put]
        refine wpAnyH_done (by kernel_rfl) ?_ _
        obtain ⟨gg, hgg⟩ : ∃ gg, gg = G0.heap.size := ⟨_, rfl⟩
        rw [← hgg] at m10 hlt ⊢
        exact hcont.out gg W10 ⟨F10, m10, hlt⟩
    · rintro g W ⟨F0, m0, hg⟩
      have M0 : MAt W g (fdA v li pg) := by rw [HX.out] at m0; exact m0
      clear m0 hX hXs hXo hXz F3 hlt k1 HW1 HW2 HW3 uli upg h4 h5 u4 u5
      have c34 : W.cell? ⟨g, 34, none⟩ = some (.int .u64 0) := (M0.cells rfl).2.2.1
      have f34 : W.frozen? ⟨g, 34, none⟩ = false := frozen_of_row W g 34 _ _ M0
      go_wp2_with fail
      refine (HW4.out _).mono ?_
      rintro e W6 ⟨rfl, hW6⟩
      rw [hW6]
      clear hW6
      have M1 := rec_c M0 rfl cc
      have F1 : FLd w ZA 0 n5 (W.setCell ⟨g, 34, none⟩ (.int .u64 cc)) := F0.of ((Fr.refl _ W).setCell (p := ⟨g, 34, none⟩) (fun _ => hg) _)
      clear F0 M0
      go_wp2_with fail
      generalize W.setCell ⟨g, 34, none⟩ (.int .u64 cc) = W1 at *
      clear c34 f34
      have c35 : W1.cell? ⟨g, 35, none⟩ = some (.int .u64 0) := (M1.cells rfl).2.2.2.1
      have f35 : W1.frozen? ⟨g, 35, none⟩ = false := frozen_of_row W1 g 35 _ _ M1
      refine (HW5.out _).mono ?_
      rintro e W6 ⟨rfl, hW6⟩
      rw [hW6]
      clear hW6
      have M2 := rec_rv M1 rfl rv
      have F2 : FLd w ZA 0 n5 (W1.setCell ⟨g, 35, none⟩ (.int .u64 rv)) := F1.of ((Fr.refl _ W1).setCell (p := ⟨g, 35, none⟩) (fun _ => hg) _)
      clear F1 M1
      go_wp2_with fail
      generalize W1.setCell ⟨g, 35, none⟩ (.int .u64 rv) = W2 at *
      clear c35 f35
      have c1 : W2.cell? ⟨g, 1, none⟩ = some (.int .u32 0) := (M2.cells rfl).2.1
      have f1 : W2.frozen? ⟨g, 1, none⟩ = false := frozen_of_row W2 g 1 _ _ M2
      refine (HW6.out _).mono ?_
      rintro e W6 ⟨rfl, hW6⟩
      rw [hW6]
      clear hW6
      have M3 := rec_rp M2 rp
      have F3 : FLd w ZA 0 n5 (W2.setCell ⟨g, 1, none⟩ (.int .u32 rp)) := F2.of ((Fr.refl _ W2).setCell (p := ⟨g, 1, none⟩) (fun _ => hg) _)
      clear F2 M2
      go_wp2_with fail
      generalize W2.setCell ⟨g, 1, none⟩ (.int .u32 rp) = W3 at *
      clear c1 f1 HW4 HW5 HW6 urp
      have HG : Hid (w.heap.size + 1 + 1 < g) := hg
      have HSZ : Hid (80 ≤ s.size ∧ s.size ≤ 1024) := ⟨hs, hs2⟩
      clear hg
      go_loopg [6] 32 (fun gk iv wr => ∃ k : Nat, iv = .int .i64 (k : Int) ∧ k ≤ 32 ∧ gk = 32 - k ∧ Hid (MAt wr g ⟨v, rp, D.take k ++ List.replicate (32 - k) 0, cc, rv, li, pg⟩) ∧ Hid (FLd w ZA 0 n5 wr))
      case atStart => exact ⟨0, rfl, by omega, rfl, M3, F3⟩
      case round =>
        obtain ⟨k, rfl, hk, hgk, HM, HF⟩ := hrel
        by_cases hgo : k < 32
        · obtain ⟨x, hx⟩ : ∃ x : UInt8, x = s[44 + k]'(by have := HSZ.out; omega) := ⟨_, rfl⟩
          have hDx : D[k]? = some x := by rw [hx]; exact HD.out.2 k _ hgo
          have hxi : ∀ h, (s[44 + k]'h).toNat = x.toNat := fun _ => by rw [hx]
          have hb : (44 : Int) + (k : Int) < (s.size : Int) := by have := HSZ.out; omega
          have hlen : (D.take k).length = k := by rw [List.length_take, HD.out.1]; omega
          have e1 : (D.take k ++ List.replicate (32 - k) 0 : List UInt8) = D.take k ++ 0 :: List.replicate (31 - k) 0 := by rw [show 32 - k = (31 - k) + 1 from by omega, List.replicate_succ]
          have e2 : (D.take k ++ x :: List.replicate (31 - k) 0 : List UInt8) = D.take (k + 1) ++ List.replicate (32 - (k + 1)) 0 := by rw [List.take_add_one, hDx, show 32 - (k + 1) = 31 - k from by omega]; simp
          have HM2 : Hid (MAt (wr.setCell ⟨g, 2 + k, none⟩ (.int .u8 x.toNat)) g ⟨v, rp, D.take (k + 1) ++ List.replicate (32 - (k + 1)) 0, cc, rv, li, pg⟩) := by
            have := rec_d (x := x) HM.out e1 hlen
            rw [e2] at this
            exact this
          have HF2 : Hid (FLd w ZA 0 n5 (wr.setCell ⟨g, 2 + k, none⟩ (.int .u8 x.toNat))) := HF.out.of ((Fr.refl _ wr).setCell (p := ⟨g, 2 + k, none⟩) (fun _ => HG.out) _)
          have cc2 : wr.cell? ⟨g, 2 + k, none⟩ = some (.int .u8 0) := HM.out.sum k (.int .u8 0) (by rw [bcells, List.getElem?_map]; simp only; rw [e1, List.getElem?_append_right (by omega), hlen, Nat.sub_self]; rfl)
          have fz : wr.frozen? ⟨g, 2 + k, none⟩ = false := frozen_of_row wr g (2 + k) _ _ HM.out
          have b1 : (k : Int) < 32 := by omega
          have b0 : (0 : Int) ≤ (k : Int) := by omega
          clear hx hDx hlen e1 e2 HM HF
          go_wp2_with fail
          go_roundg (32 - (k + 1))
          case measure => omega
          case rel => exact ⟨k + 1, by go_num, by omega, rfl, HM2, HF2⟩
        · obtain rfl : k = 32 := by omega
          have MD : MAt wr g ⟨v, rp, D, cc, rv, li, pg⟩ := by
            have := HM.out
            rw [List.take_of_length_le (by rw [HD.out.1]; omega), Nat.sub_self, List.replicate_zero, List.append_nil] at this
            exact this
          have FD := HF.out
          clear HM HF
          go_wp2_with fail
          have hMs : (Rec.arr ⟨v, rp, D, cc, rv, li, pg⟩).size = 38 := arr_size _ HD.out.1
          have hMo := arr_one ⟨v, rp, D, cc, rv, li, pg⟩
          have hMz : (Tryd.prog.info? 34).map (·.size) = some (Rec.arr ⟨v, rp, D, cc, rv, li, pg⟩).size := by rw [Tryd.infoM, hMs]
          unfold MAt at MD
          obtain ⟨MA, hMA⟩ : ∃ MA, MA = Rec.arr ⟨v, rp, D, cc, rv, li, pg⟩ := ⟨_, rfl⟩
          rw [← hMA] at MD hMs hMo hMz
          have HMA : Hid (MA = Rec.arr ⟨v, rp, D, cc, rv, li, pg⟩) := hMA
          clear hMA
          obtain ⟨b0, b1, _, _⟩ := cell_of_two FD.2.2.1
          refine wp_region_held_drew (S := fun W => W.cell? ⟨w.heap.size + 1 + 1, 0, none⟩ = some (.int .i64 0) ∧ W.cell? ⟨w.heap.size + 1 + 1, 1, none⟩ = some (.int .i64 n5) ∧ W.heap[g]? = some (.cells MA 34 (0, 0))) (by kernel_rfl) (⟨b0, b1, MD⟩) (fun hHeld => ?_)
          refine wpAnyH_take (i := 0) (oi := { dst := some 64, op := Op.load 23 (Operand.tmp 4), type := 23, pos := "ref.go:124", after := #[], guard := none }) (v := .agg #[.int .i64 0, .int .i64 n5]) rfl (by kernel_rfl) (by kernel_rfl) (by kernel_rfl) (fun _ _ _ h => h) (Or.inl ⟨by rfl, fun w hSw => by (obtain ⟨y0, y1, y2⟩ := hSw; go_simp)⟩) (by assumption) ?_
          try simp only [Act.put, List.setIfInBounds_toArray, List.set_cons_zero, List.set_cons_succ]
          refine wpAnyH_take (i := 1) (oi := { dst := some 65, op := Op.load 34 (Operand.tmp 5), type := 34, pos := "ref.go:124", after := #[{ on := 2, ground := Ground.gcOnly Departure.lateStores }], guard := none }) (v := .agg MA) rfl (by kernel_rfl) (by kernel_rfl) (by kernel_rfl) (fun _ _ _ h => h) (yieldsIf_load_row (by rfl) 34 _ rfl g rfl 34 MA (0, 0) _ (fun _ h => h.2.2) Tryd.underlying34 rfl hMz) (by assumption) ?_
          try simp only [Act.put, List.setIfInBounds_toArray, List.set_cons_zero, List.set_cons_succ]
          obtain ⟨fc0, fc1, ff0, ff1⟩ := cell_of_two FD.1
          refine wpAnyH_ready (rs := [2]) (by kernel_rfl) (by simp) ?_
          refine AllReadyH.cons (o := { dst := none, op := Op.store 23 (Operand.tmp 2) (Operand.tmp 64), type := 0, pos := "ref.go:124", after := #[{ on := 0, ground := Ground.data }, { on := 0, ground := Ground.phase }, { on := 1, ground := Ground.textOnly Departure.lateStores }], guard := none }) rfl (fun K hK => ?_) AllReadyH.nil
          go_simp
          have f7 : Fr (fun k => k = w.heap.size) wr ((wr.setCell ⟨w.heap.size, 0, none⟩ (.int .i64 0)).setCell ⟨w.heap.size, 1, none⟩ (.int .i64 n5)).drew := Fr.drew (((Fr.refl (fun k => k = w.heap.size) wr).setCell (p := ⟨w.heap.size, 0, none⟩) (fun _ => rfl) _).setCell (p := ⟨w.heap.size, 1, none⟩) (fun _ => rfl) _)
          have g0 : ((wr.setCell ⟨w.heap.size, 0, none⟩ (.int .i64 0)).setCell ⟨w.heap.size, 1, none⟩ (.int .i64 n5)).drew.heap[w.heap.size]? = some (.cells #[.int .i64 0, .int .i64 n5] 23 (0, 0)) := by have := heap_setCell_same _ w.heap.size 1 _ _ (.int .i64 n5) (heap_setCell_same wr w.heap.size 0 _ _ (.int .i64 0) FD.1); simp only [List.setIfInBounds_toArray, List.set_cons_zero, List.set_cons_succ] at this; exact this
          have g1 := (f7.block (w.heap.size + 1) (lt_of_heap FD.2.1) (by omega)).trans FD.2.1
          have g2 := (f7.block (w.heap.size + 1 + 1) (lt_of_heap FD.2.2.1) (by omega)).trans FD.2.2.1
          have g3 := (f7.block g (lt_of_heap MD) (by have := HG.out; omega)).trans MD
          have s7 := Fr.trans FD.2.2.2 f7 (fun i hi e => by omega)
          generalize ((wr.setCell ⟨w.heap.size, 0, none⟩ (.int .i64 0)).setCell ⟨w.heap.size, 1, none⟩ (.int .i64 n5)).drew = W7 at *
          obtain ⟨e0, e1, _, _⟩ := cell_of_two g2
          refine hK.out _ _ ⟨e0, e1, g3⟩ (fun hHeld => ?_)
          clear hK K
          try simp only [Act.put, List.setIfInBounds_toArray, List.set_cons_zero, List.set_cons_succ]
          refine wpAnyH_ready (rs := [3]) (by kernel_rfl) (by simp) ?_
          refine AllReadyH.cons (o := { dst := none, op := Op.store 34 (Operand.tmp 3) (Operand.tmp 65), type := 0, pos := "ref.go:124", after := #[{ on := 1, ground := Ground.data }, { on := 2, ground := Ground.chain }, { on := 0, ground := Ground.phase }, { on := 1, ground := Ground.phase }, { on := 2, ground := Ground.phase }], guard := none }) rfl (fun K hK => ?_) AllReadyH.nil
          rw [if_pos (by rfl)]
          refine wp_store_mid 34 _ _ rfl (w.heap.size + 1) 0 MA rfl rfl (there_row g1 (by rw [hzs, hMs])) hMz hMo ?_
          have f8 : Fr (fun k => k = w.heap.size + 1) W7 (W7.setCells (w.heap.size + 1) 0 MA.toList) := Fr.setCells (S := fun k => k = w.heap.size + 1) (fun _ => rfl) _ 0 W7 (Fr.refl _ W7)
          have r1 := row_put (M := MA) g1 (by rw [hzs, hMs])
          have r0 := (f8.block w.heap.size (lt_of_heap g0) (by omega)).trans g0
          have r2 := (f8.block (w.heap.size + 1 + 1) (lt_of_heap g2) (by omega)).trans g2
          have r3 := (f8.block g (lt_of_heap g3) (by have := HG.out; omega)).trans g3
          have s8 := Fr.trans s7 f8 (fun i hi e => by omega)
          generalize W7.setCells (w.heap.size + 1) 0 MA.toList = W8 at *
          obtain ⟨e0, e1, _, _⟩ := cell_of_two r2
          refine hK.out _ _ ⟨e0, e1, r3⟩ (fun hHeld => ?_)
          clear hK K
          try simp only [Act.put]
          refine wpAnyH_done (by kernel_rfl) ?_ _
          go_wp2_with fail
          exact bodyPost_ret (results_cell2 (p := 2) (q := 3) (ty := 23) (uy := 34) (by kernel_rfl) _ _ w.heap.size (w.heap.size + 1) 23 34 _ _ (0, 0) (0, 0) _ _ rfl r0 Tryd.underlying23 rfl (by kernel_rfl) rfl r1 Tryd.underlying34 rfl hMz) rfl ⟨by rw [HMA.out], s8⟩
  · clear hPA
    go_enter Tryd.func53, Tryd.ntmps53
    go_wp2_with fail
    generalize (((w.alloc (.cells #[.int .i64 0, .int .i64 0] 23)).alloc (.cells ZA 34)).alloc (.cells #[.int .i64 0, .int .i64 n5] 23)) = G0 at *
    have hlt : w.heap.size + 1 + 1 < G0.heap.size := lt_of_heap F3.2.2.1
    apply cont2 (fun (g : Nat) (W : World) => FLd w ZA 0 n5 W ∧ W.heap[g]? = some (.cells XA 34 (0, 0)) ∧ w.heap.size + 1 + 1 < g)
    · intro hcont
      refine wp_region_held_drew (S := fun _ => True) (by kernel_rfl) (trivial) (fun hHeld => ?_)
      refine wpAnyH_take (i := 0) (oi := { dst := some 24, op := Op.move (Operand.tmp 0), type := 9, pos := "ref.go:117", after := #[], guard := none }) (v := .string s) rfl (by kernel_rfl) (by kernel_rfl) (by kernel_rfl) (fun _ _ _ h => h) (Or.inl ⟨by rfl, fun w hSw => by go_simp⟩) (by assumption) ?_
      try simp only [Act.put, List.setIfInBounds_toArray, List.set_cons_zero, List.set_cons_succ]
      refine wpAnyH_take (i := 1) (oi := { dst := some 25, op := Op.slice 9 (Operand.tmp 24) (some (Operand.const (Value.int IntKind.i64 8))) (some (Operand.const (Value.int IntKind.i64 16))) none, type := 9, pos := "ref.go:117", after := #[{ on := 0, ground := Ground.data }], guard := none }) (v := .string (s.extract 8 16)) rfl (by kernel_rfl) (by kernel_rfl) (by kernel_rfl) (fun _ _ _ h => h) (Or.inl ⟨by rfl, fun w hSw => by (go_simp; intro hh; exfalso; omega)⟩) (by assumption) ?_
      try simp only [Act.put, List.setIfInBounds_toArray, List.set_cons_zero, List.set_cons_succ]
      refine wpAnyH_take (i := 3) (oi := { dst := some 27, op := Op.move (Operand.tmp 0), type := 9, pos := "ref.go:117", after := #[], guard := none }) (v := .string s) rfl (by kernel_rfl) (by kernel_rfl) (by kernel_rfl) (fun _ _ _ h => h) (Or.inl ⟨by rfl, fun w hSw => by go_simp⟩) (by assumption) ?_
      try simp only [Act.put, List.setIfInBounds_toArray, List.set_cons_zero, List.set_cons_succ]
      refine wpAnyH_take (i := 4) (oi := { dst := some 28, op := Op.slice 9 (Operand.tmp 27) (some (Operand.const (Value.int IntKind.i64 36))) (some (Operand.const (Value.int IntKind.i64 40))) none, type := 9, pos := "ref.go:117", after := #[{ on := 3, ground := Ground.data }], guard := none }) (v := .string (s.extract 36 40)) rfl (by kernel_rfl) (by kernel_rfl) (by kernel_rfl) (fun _ _ _ h => h) (Or.inl ⟨by rfl, fun w hSw => by (go_simp; intro hh; exfalso; omega)⟩) (by assumption) ?_
      try simp only [Act.put, List.setIfInBounds_toArray, List.set_cons_zero, List.set_cons_succ]
      refine wpAnyH_take (i := 7) (oi := { dst := some 31, op := Op.move (Operand.tmp 0), type := 9, pos := "ref.go:117", after := #[], guard := none }) (v := .string s) rfl (by kernel_rfl) (by kernel_rfl) (by kernel_rfl) (fun _ _ _ h => h) (Or.inl ⟨by rfl, fun w hSw => by go_simp⟩) (by assumption) ?_
      try simp only [Act.put, List.setIfInBounds_toArray, List.set_cons_zero, List.set_cons_succ]
      refine wpAnyH_take (i := 8) (oi := { dst := some 32, op := Op.slice 9 (Operand.tmp 31) (some (Operand.const (Value.int IntKind.i64 40))) (some (Operand.const (Value.int IntKind.i64 44))) none, type := 9, pos := "ref.go:117", after := #[{ on := 7, ground := Ground.data }], guard := none }) (v := .string (s.extract 40 44)) rfl (by kernel_rfl) (by kernel_rfl) (by kernel_rfl) (fun _ _ _ h => h) (Or.inl ⟨by rfl, fun w hSw => by (go_simp; intro hh; exfalso; omega)⟩) (by assumption) ?_
      try simp only [Act.put, List.setIfInBounds_toArray, List.set_cons_zero, List.set_cons_succ]
      refine wpAnyH_ready (rs := [2, 12]) (by kernel_rfl) (by simp) ?_
      refine (AllReadyH.cons (o := { dst := some 26, op := Op.call { callee := Callee.value (Operand.func 77), args := #[Operand.tmp 25], argTypes := #[9] }, type := 27, pos := "ref.go:117", after := #[{ on := 1, ground := Ground.data }], guard := none }) rfl (fun K hK => ?_) (AllReadyH.cons (o := { dst := some 5, op := Op.alloc 34, type := 0, pos := "ref.go:117", after := #[], guard := none }) rfl (fun K hK => ?_) AllReadyH.nil))
      · go_simp
        go_at_call 77
        refine (HW1.out _).mono ?_
        rintro e W6 ⟨rfl, rfl⟩
        try go_wp2_with fail
        refine hK.out _ _ trivial (fun hHeld => ?_)
        clear hK K
        try simp only [Act.put, List.setIfInBounds_toArray, List.set_cons_zero, List.set_cons_succ]
        refine wpAnyH_ready (rs := [5, 12]) (by kernel_rfl) (by simp) ?_
        refine (AllReadyH.cons (o := { dst := some 29, op := Op.call { callee := Callee.value (Operand.func 77), args := #[Operand.tmp 28], argTypes := #[9] }, type := 27, pos := "ref.go:117", after := #[{ on := 4, ground := Ground.data }, { on := 2, ground := Ground.chain }], guard := none }) rfl (fun K hK => ?_) (AllReadyH.cons (o := { dst := some 5, op := Op.alloc 34, type := 0, pos := "ref.go:117", after := #[], guard := none }) rfl (fun K hK => ?_) AllReadyH.nil))
        · go_simp
          go_at_call 77
          refine (HW2.out _).mono ?_
          rintro e W6 ⟨rfl, rfl⟩
          try go_wp2_with fail
          refine hK.out _ _ trivial (fun hHeld => ?_)
          clear hK K
          try simp only [Act.put, List.setIfInBounds_toArray, List.set_cons_zero, List.set_cons_succ]
          refine wpAnyH_take (i := 6) (oi := { dst := some 30, op := Op.convert 27 28 (Operand.tmp 29), type := 28, pos := "ref.go:117", after := #[{ on := 5, ground := Ground.data }], guard := none }) (v := .int .u32 li) rfl (by kernel_rfl) (by kernel_rfl) (by kernel_rfl) (fun _ _ _ h => h) (Or.inl ⟨by rfl, fun w hSw => by go_simp⟩) (by assumption) ?_
          try simp only [Act.put, List.setIfInBounds_toArray, List.set_cons_zero, List.set_cons_succ]
          refine wpAnyH_ready (rs := [9, 12]) (by kernel_rfl) (by simp) ?_
          refine (AllReadyH.cons (o := { dst := some 33, op := Op.call { callee := Callee.value (Operand.func 77), args := #[Operand.tmp 32], argTypes := #[9] }, type := 27, pos := "ref.go:117", after := #[{ on := 8, ground := Ground.data }, { on := 5, ground := Ground.chain }], guard := none }) rfl (fun K hK => ?_) (AllReadyH.cons (o := { dst := some 5, op := Op.alloc 34, type := 0, pos := "ref.go:117", after := #[], guard := none }) rfl (fun K hK => ?_) AllReadyH.nil))
          · go_simp
            go_at_call 77
            refine (HW3.out _).mono ?_
            rintro e W6 ⟨rfl, rfl⟩
            try go_wp2_with fail
            refine hK.out _ _ trivial (fun hHeld => ?_)
            clear hK K
            try simp only [Act.put, List.setIfInBounds_toArray, List.set_cons_zero, List.set_cons_succ]
            refine wpAnyH_take (i := 10) (oi := { dst := some 34, op := Op.convert 27 28 (Operand.tmp 33), type := 28, pos := "ref.go:117", after := #[{ on := 9, ground := Ground.data }], guard := none }) (v := .int .u32 pg) rfl (by kernel_rfl) (by kernel_rfl) (by kernel_rfl) (fun _ _ _ h => h) (Or.inl ⟨by rfl, fun w hSw => by go_simp⟩) (by assumption) ?_
            try simp only [Act.put, List.setIfInBounds_toArray, List.set_cons_zero, List.set_cons_succ]
            refine wpAnyH_take (i := 11) (oi := { dst := some 35, op := Op.build 34 #[(0, Operand.tmp 26), (2, Operand.tmp 30), (3, Operand.tmp 34)], type := 34, pos := "ref.go:117", after := #[{ on := 2, ground := Ground.data }, { on := 6, ground := Ground.data }, { on := 10, ground := Ground.data }], guard := none }) (v := .agg XA) rfl (by kernel_rfl) (by kernel_rfl) (by kernel_rfl) (fun _ _ _ h => h) (Or.inl ⟨by rfl, fun w hSw => by go_simp⟩) (by assumption) ?_
            try simp only [Act.put, List.setIfInBounds_toArray, List.set_cons_zero, List.set_cons_succ]
            refine wpAnyH_ready (rs := [12]) (by kernel_rfl) (by simp) ?_
            refine (AllReadyH.cons (o := { dst := some 5, op := Op.alloc 34, type := 0, pos := "ref.go:117", after := #[], guard := none }) rfl (fun K hK => ?_) AllReadyH.nil)
            go_simp
            refine hK.out _ _ trivial (fun hHeld => ?_)
            clear hK K
            try simp only [Act.put, List.setIfInBounds_toArray, List.set_cons_zero, List.set_cons_succ]
            refine wpAnyH_ready (rs := [13]) (by kernel_rfl) (by simp) ?_
            refine (AllReadyH.cons (o := { dst := none, op := Op.store 34 (Operand.tmp 5) (Operand.tmp 35), type := 0, pos := "ref.go:117", after := #[{ on := 12, ground := Ground.data }, { on := 11, ground := Ground.data }, { on := 9, ground := Ground.chain }, { on := 0, ground := Ground.phase }, { on := 1, ground := Ground.phase }, { on := 2, ground := Ground.phase }, { on := 3, ground := Ground.phase }, { on := 4, ground := Ground.phase }, { on := 5, ground := Ground.phase }, { on := 6, ground := Ground.phase }, { on := 7, ground := Ground.phase }, { on := 8, ground := Ground.phase }, { on := 9, ground := Ground.phase }, { on := 10, ground := Ground.phase }, { on := 11, ground := Ground.phase }, { on := 12, ground := Ground.phase }], guard := none }) rfl (fun K hK => ?_) AllReadyH.nil)
            rw [if_pos (by rfl)]
            have m9 : (G0.alloc (.cells ZA 34)).drew.heap[G0.heap.size]? = some (.cells ZA 34 (0, 0)) := heap_alloc_new G0 _
            refine wp_store_mid 34 _ _ rfl G0.heap.size 0 XA rfl rfl (there_row m9 (by rw [hzs, hXs])) hXz hXo ?_
            have m10 := row_put (M := XA) m9 (by rw [hzs, hXs])
            have f10 : Fr (fun k => w.heap.size + 1 + 1 < k) G0 ((G0.alloc (.cells ZA 34)).drew.setCells G0.heap.size 0 XA.toList) := Fr.setCells (S := fun k => w.heap.size + 1 + 1 < k) (b := G0.heap.size) (fun _ => hlt) _ 0 _ (Fr.drew ((Fr.refl _ G0).alloc _))
            have F10 := F3.of f10
            generalize (G0.alloc (.cells ZA 34)).drew.setCells G0.heap.size 0 XA.toList = W10 at *
            refine hK.out _ _ trivial (fun hHeld => ?_)
            clear hK K
            try simp only [Act.put]
            refine wpAnyH_done (by kernel_rfl) ?_ _
            obtain ⟨gg, hgg⟩ : ∃ gg, gg = G0.heap.size := ⟨_, rfl⟩
            rw [← hgg] at m10 hlt ⊢
            exact hcont.out gg W10 ⟨F10, m10, hlt⟩
          · go_simp
            refine hK.out _ _ trivial (fun hHeld => ?_)
            clear hK K
            try simp only [Act.put, List.setIfInBounds_toArray, List.set_cons_zero, List.set_cons_succ]
            refine wpAnyH_ready (rs := [9]) (by kernel_rfl) (by simp) ?_
            refine (AllReadyH.cons (o := { dst := some 33, op := Op.call { callee := Callee.value (Operand.func 77), args := #[Operand.tmp 32], argTypes := #[9] }, type := 27, pos := "ref.go:117", after := #[{ on := 8, ground := Ground.data }, { on := 5, ground := Ground.chain }], guard := none }) rfl (fun K hK => ?_) AllReadyH.nil)
            go_simp
            go_at_call 77
            refine (HW3.out _).mono ?_
            rintro e W6 ⟨rfl, rfl⟩
            try go_wp2_with fail
            refine hK.out _ _ trivial (fun hHeld => ?_)
            clear hK K
            try simp only [Act.put, List.setIfInBounds_toArray, List.set_cons_zero, List.set_cons_succ]
            refine wpAnyH_take (i := 10) (oi := { dst := some 34, op := Op.convert 27 28 (Operand.tmp 33), type := 28, pos := "ref.go:117", after := #[{ on := 9, ground := Ground.data }], guard := none }) (v := .int .u32 pg) rfl (by kernel_rfl) (by kernel_rfl) (by kernel_rfl) (fun _ _ _ h => h) (Or.inl ⟨by rfl, fun w hSw => by go_simp⟩) (by assumption) ?_
            try simp only [Act.put, List.setIfInBounds_toArray, List.set_cons_zero, List.set_cons_succ]
            refine wpAnyH_take (i := 11) (oi := { dst := some 35, op := Op.build 34 #[(0, Operand.tmp 26), (2, Operand.tmp 30), (3, Operand.tmp 34)], type := 34, pos := "ref.go:117", after := #[{ on := 2, ground := Ground.data }, { on := 6, ground := Ground.data }, { on := 10, ground := Ground.data }], guard := none }) (v := .agg XA) rfl (by kernel_rfl) (by kernel_rfl) (by kernel_rfl) (fun _ _ _ h => h) (Or.inl ⟨by rfl, fun w hSw => by go_simp⟩) (by assumption) ?_
            try simp only [Act.put, List.setIfInBounds_toArray, List.set_cons_zero, List.set_cons_succ]
            refine wpAnyH_ready (rs := [13]) (by kernel_rfl) (by simp) ?_
            refine (AllReadyH.cons (o := { dst := none, op := Op.store 34 (Operand.tmp 5) (Operand.tmp 35), type := 0, pos := "ref.go:117", after := #[{ on := 12, ground := Ground.data }, { on := 11, ground := Ground.data }, { on := 9, ground := Ground.chain }, { on := 0, ground := Ground.phase }, { on := 1, ground := Ground.phase }, { on := 2, ground := Ground.phase }, { on := 3, ground := Ground.phase }, { on := 4, ground := Ground.phase }, { on := 5, ground := Ground.phase }, { on := 6, ground := Ground.phase }, { on := 7, ground := Ground.phase }, { on := 8, ground := Ground.phase }, { on := 9, ground := Ground.phase }, { on := 10, ground := Ground.phase }, { on := 11, ground := Ground.phase }, { on := 12, ground := Ground.phase }], guard := none }) rfl (fun K hK => ?_) AllReadyH.nil)
            rw [if_pos (by rfl)]
            have m9 : (G0.alloc (.cells ZA 34)).drew.heap[G0.heap.size]? = some (.cells ZA 34 (0, 0)) := heap_alloc_new G0 _
            refine wp_store_mid 34 _ _ rfl G0.heap.size 0 XA rfl rfl (there_row m9 (by rw [hzs, hXs])) hXz hXo ?_
            have m10 := row_put (M := XA) m9 (by rw [hzs, hXs])
            have f10 : Fr (fun k => w.heap.size + 1 + 1 < k) G0 ((G0.alloc (.cells ZA 34)).drew.setCells G0.heap.size 0 XA.toList) := Fr.setCells (S := fun k => w.heap.size + 1 + 1 < k) (b := G0.heap.size) (fun _ => hlt) _ 0 _ (Fr.drew ((Fr.refl _ G0).alloc _))
            have F10 := F3.of f10
            generalize (G0.alloc (.cells ZA 34)).drew.setCells G0.heap.size 0 XA.toList = W10 at *
            refine hK.out _ _ trivial (fun hHeld => ?_)
            clear hK K
            try simp only [Act.put]
            refine wpAnyH_done (by kernel_rfl) ?_ _
            obtain ⟨gg, hgg⟩ : ∃ gg, gg = G0.heap.size := ⟨_, rfl⟩
            rw [← hgg] at m10 hlt ⊢
            exact hcont.out gg W10 ⟨F10, m10, hlt⟩
        · go_simp
          refine hK.out _ _ trivial (fun hHeld => ?_)
          clear hK K
          try simp only [Act.put, List.setIfInBounds_toArray, List.set_cons_zero, List.set_cons_succ]
          refine wpAnyH_ready (rs := [5]) (by kernel_rfl) (by simp) ?_
          refine (AllReadyH.cons (o := { dst := some 29, op := Op.call { callee := Callee.value (Operand.func 77), args := #[Operand.tmp 28], argTypes := #[9] }, type := 27, pos := "ref.go:117", after := #[{ on := 4, ground := Ground.data }, { on := 2, ground := Ground.chain }], guard := none }) rfl (fun K hK => ?_) AllReadyH.nil)
          go_simp
          go_at_call 77
          refine (HW2.out _).mono ?_
          rintro e W6 ⟨rfl, rfl⟩
          try go_wp2_with fail
          refine hK.out _ _ trivial (fun hHeld => ?_)
          clear hK K
          try simp only [Act.put, List.setIfInBounds_toArray, List.set_cons_zero, List.set_cons_succ]
          refine wpAnyH_take (i := 6) (oi := { dst := some 30, op := Op.convert 27 28 (Operand.tmp 29), type := 28, pos := "ref.go:117", after := #[{ on := 5, ground := Ground.data }], guard := none }) (v := .int .u32 li) rfl (by kernel_rfl) (by kernel_rfl) (by kernel_rfl) (fun _ _ _ h => h) (Or.inl ⟨by rfl, fun w hSw => by go_simp⟩) (by assumption) ?_
          try simp only [Act.put, List.setIfInBounds_toArray, List.set_cons_zero, List.set_cons_succ]
          refine wpAnyH_ready (rs := [9]) (by kernel_rfl) (by simp) ?_
          refine (AllReadyH.cons (o := { dst := some 33, op := Op.call { callee := Callee.value (Operand.func 77), args := #[Operand.tmp 32], argTypes := #[9] }, type := 27, pos := "ref.go:117", after := #[{ on := 8, ground := Ground.data }, { on := 5, ground := Ground.chain }], guard := none }) rfl (fun K hK => ?_) AllReadyH.nil)
          go_simp
          go_at_call 77
          refine (HW3.out _).mono ?_
          rintro e W6 ⟨rfl, rfl⟩
          try go_wp2_with fail
          refine hK.out _ _ trivial (fun hHeld => ?_)
          clear hK K
          try simp only [Act.put, List.setIfInBounds_toArray, List.set_cons_zero, List.set_cons_succ]
          refine wpAnyH_take (i := 10) (oi := { dst := some 34, op := Op.convert 27 28 (Operand.tmp 33), type := 28, pos := "ref.go:117", after := #[{ on := 9, ground := Ground.data }], guard := none }) (v := .int .u32 pg) rfl (by kernel_rfl) (by kernel_rfl) (by kernel_rfl) (fun _ _ _ h => h) (Or.inl ⟨by rfl, fun w hSw => by go_simp⟩) (by assumption) ?_
          try simp only [Act.put, List.setIfInBounds_toArray, List.set_cons_zero, List.set_cons_succ]
          refine wpAnyH_take (i := 11) (oi := { dst := some 35, op := Op.build 34 #[(0, Operand.tmp 26), (2, Operand.tmp 30), (3, Operand.tmp 34)], type := 34, pos := "ref.go:117", after := #[{ on := 2, ground := Ground.data }, { on := 6, ground := Ground.data }, { on := 10, ground := Ground.data }], guard := none }) (v := .agg XA) rfl (by kernel_rfl) (by kernel_rfl) (by kernel_rfl) (fun _ _ _ h => h) (Or.inl ⟨by rfl, fun w hSw => by go_simp⟩) (by assumption) ?_
          try simp only [Act.put, List.setIfInBounds_toArray, List.set_cons_zero, List.set_cons_succ]
          refine wpAnyH_ready (rs := [13]) (by kernel_rfl) (by simp) ?_
          refine (AllReadyH.cons (o := { dst := none, op := Op.store 34 (Operand.tmp 5) (Operand.tmp 35), type := 0, pos := "ref.go:117", after := #[{ on := 12, ground := Ground.data }, { on := 11, ground := Ground.data }, { on := 9, ground := Ground.chain }, { on := 0, ground := Ground.phase }, { on := 1, ground := Ground.phase }, { on := 2, ground := Ground.phase }, { on := 3, ground := Ground.phase }, { on := 4, ground := Ground.phase }, { on := 5, ground := Ground.phase }, { on := 6, ground := Ground.phase }, { on := 7, ground := Ground.phase }, { on := 8, ground := Ground.phase }, { on := 9, ground := Ground.phase }, { on := 10, ground := Ground.phase }, { on := 11, ground := Ground.phase }, { on := 12, ground := Ground.phase }], guard := none }) rfl (fun K hK => ?_) AllReadyH.nil)
          rw [if_pos (by rfl)]
          have m9 : (G0.alloc (.cells ZA 34)).drew.heap[G0.heap.size]? = some (.cells ZA 34 (0, 0)) := heap_alloc_new G0 _
          refine wp_store_mid 34 _ _ rfl G0.heap.size 0 XA rfl rfl (there_row m9 (by rw [hzs, hXs])) hXz hXo ?_
          have m10 := row_put (M := XA) m9 (by rw [hzs, hXs])
          have f10 : Fr (fun k => w.heap.size + 1 + 1 < k) G0 ((G0.alloc (.cells ZA 34)).drew.setCells G0.heap.size 0 XA.toList) := Fr.setCells (S := fun k => w.heap.size + 1 + 1 < k) (b := G0.heap.size) (fun _ => hlt) _ 0 _ (Fr.drew ((Fr.refl _ G0).alloc _))
          have F10 := F3.of f10
          generalize (G0.alloc (.cells ZA 34)).drew.setCells G0.heap.size 0 XA.toList = W10 at *
          refine hK.out _ _ trivial (fun hHeld => ?_)
          clear hK K
          try simp only [Act.put]
          refine wpAnyH_done (by kernel_rfl) ?_ _
          obtain ⟨gg, hgg⟩ : ∃ gg, gg = G0.heap.size := ⟨_, rfl⟩
          rw [← hgg] at m10 hlt ⊢
          exact hcont.out gg W10 ⟨F10, m10, hlt⟩
      · go_simp
        refine hK.out _ _ trivial (fun hHeld => ?_)
        clear hK K
        try simp only [Act.put, List.setIfInBounds_toArray, List.set_cons_zero, List.set_cons_succ]
        refine wpAnyH_ready (rs := [2]) (by kernel_rfl) (by simp) ?_
        refine (AllReadyH.cons (o := { dst := some 26, op := Op.call { callee := Callee.value (Operand.func 77), args := #[Operand.tmp 25], argTypes := #[9] }, type := 27, pos := "ref.go:117", after := #[{ on := 1, ground := Ground.data }], guard := none }) rfl (fun K hK => ?_) AllReadyH.nil)
        go_simp
        go_at_call 77
        refine (HW1.out _).mono ?_
        rintro e W6 ⟨rfl, rfl⟩
        try go_wp2_with fail
        refine hK.out _ _ trivial (fun hHeld => ?_)
        clear hK K
        try simp only [Act.put, List.setIfInBounds_toArray, List.set_cons_zero, List.set_cons_succ]
        refine wpAnyH_ready (rs := [5]) (by kernel_rfl) (by simp) ?_
        refine (AllReadyH.cons (o := { dst := some 29, op := Op.call { callee := Callee.value (Operand.func 77), args := #[Operand.tmp 28], argTypes := #[9] }, type := 27, pos := "ref.go:117", after := #[{ on := 4, ground := Ground.data }, { on := 2, ground := Ground.chain }], guard := none }) rfl (fun K hK => ?_) AllReadyH.nil)
        go_simp
        go_at_call 77
        refine (HW2.out _).mono ?_
        rintro e W6 ⟨rfl, rfl⟩
        try go_wp2_with fail
        refine hK.out _ _ trivial (fun hHeld => ?_)
        clear hK K
        try simp only [Act.put, List.setIfInBounds_toArray, List.set_cons_zero, List.set_cons_succ]
        refine wpAnyH_take (i := 6) (oi := { dst := some 30, op := Op.convert 27 28 (Operand.tmp 29), type := 28, pos := "ref.go:117", after := #[{ on := 5, ground := Ground.data }], guard := none }) (v := .int .u32 li) rfl (by kernel_rfl) (by kernel_rfl) (by kernel_rfl) (fun _ _ _ h => h) (Or.inl ⟨by rfl, fun w hSw => by go_simp⟩) (by assumption) ?_
        try simp only [Act.put, List.setIfInBounds_toArray, List.set_cons_zero, List.set_cons_succ]
        refine wpAnyH_ready (rs := [9]) (by kernel_rfl) (by simp) ?_
        refine (AllReadyH.cons (o := { dst := some 33, op := Op.call { callee := Callee.value (Operand.func 77), args := #[Operand.tmp 32], argTypes := #[9] }, type := 27, pos := "ref.go:117", after := #[{ on := 8, ground := Ground.data }, { on := 5, ground := Ground.chain }], guard := none }) rfl (fun K hK => ?_) AllReadyH.nil)
        go_simp
        go_at_call 77
        refine (HW3.out _).mono ?_
        rintro e W6 ⟨rfl, rfl⟩
        try go_wp2_with fail
        refine hK.out _ _ trivial (fun hHeld => ?_)
        clear hK K
        try simp only [Act.put, List.setIfInBounds_toArray, List.set_cons_zero, List.set_cons_succ]
        refine wpAnyH_take (i := 10) (oi := { dst := some 34, op := Op.convert 27 28 (Operand.tmp 33), type := 28, pos := "ref.go:117", after := #[{ on := 9, ground := Ground.data }], guard := none }) (v := .int .u32 pg) rfl (by kernel_rfl) (by kernel_rfl) (by kernel_rfl) (fun _ _ _ h => h) (Or.inl ⟨by rfl, fun w hSw => by go_simp⟩) (by assumption) ?_
        try simp only [Act.put, List.setIfInBounds_toArray, List.set_cons_zero, List.set_cons_succ]
        refine wpAnyH_take (i := 11) (oi := { dst := some 35, op := Op.build 34 #[(0, Operand.tmp 26), (2, Operand.tmp 30), (3, Operand.tmp 34)], type := 34, pos := "ref.go:117", after := #[{ on := 2, ground := Ground.data }, { on := 6, ground := Ground.data }, { on := 10, ground := Ground.data }], guard := none }) (v := .agg XA) rfl (by kernel_rfl) (by kernel_rfl) (by kernel_rfl) (fun _ _ _ h => h) (Or.inl ⟨by rfl, fun w hSw => by go_simp⟩) (by assumption) ?_
        try simp only [Act.put, List.setIfInBounds_toArray, List.set_cons_zero, List.set_cons_succ]
        refine wpAnyH_ready (rs := [13]) (by kernel_rfl) (by simp) ?_
        refine (AllReadyH.cons (o := { dst := none, op := Op.store 34 (Operand.tmp 5) (Operand.tmp 35), type := 0, pos := "ref.go:117", after := #[{ on := 12, ground := Ground.data }, { on := 11, ground := Ground.data }, { on := 9, ground := Ground.chain }, { on := 0, ground := Ground.phase }, { on := 1, ground := Ground.phase }, { on := 2, ground := Ground.phase }, { on := 3, ground := Ground.phase }, { on := 4, ground := Ground.phase }, { on := 5, ground := Ground.phase }, { on := 6, ground := Ground.phase }, { on := 7, ground := Ground.phase }, { on := 8, ground := Ground.phase }, { on := 9, ground := Ground.phase }, { on := 10, ground := Ground.phase }, { on := 11, ground := Ground.phase }, { on := 12, ground := Ground.phase }], guard := none }) rfl (fun K hK => ?_) AllReadyH.nil)
        rw [if_pos (by rfl)]
        have m9 : (G0.alloc (.cells ZA 34)).drew.heap[G0.heap.size]? = some (.cells ZA 34 (0, 0)) := heap_alloc_new G0 _
        refine wp_store_mid 34 _ _ rfl G0.heap.size 0 XA rfl rfl (there_row m9 (by rw [hzs, hXs])) hXz hXo ?_
        have m10 := row_put (M := XA) m9 (by rw [hzs, hXs])
        have f10 : Fr (fun k => w.heap.size + 1 + 1 < k) G0 ((G0.alloc (.cells ZA 34)).drew.setCells G0.heap.size 0 XA.toList) := Fr.setCells (S := fun k => w.heap.size + 1 + 1 < k) (b := G0.heap.size) (fun _ => hlt) _ 0 _ (Fr.drew ((Fr.refl _ G0).alloc _))
        have F10 := F3.of f10
        generalize (G0.alloc (.cells ZA 34)).drew.setCells G0.heap.size 0 XA.toList = W10 at *
        refine hK.out _ _ trivial (fun hHeld => ?_)
        clear hK K
        try simp only [Act.put]
        refine wpAnyH_done (by kernel_rfl) ?_ _
        obtain ⟨gg, hgg⟩ : ∃ gg, gg = G0.heap.size := ⟨_, rfl⟩
        rw [← hgg] at m10 hlt ⊢
        exact hcont.out gg W10 ⟨F10, m10, hlt⟩
    · rintro g W ⟨F0, m0, hg⟩
      have M0 : MAt W g (fdA v li pg) := by rw [HX.out] at m0; exact m0
      clear m0 hX hXs hXo hXz F3 hlt k1 HW1 HW2 HW3 uli upg h4 h5 u4 u5
      have c34 : W.cell? ⟨g, 34, none⟩ = some (.int .u64 0) := (M0.cells rfl).2.2.1
      have f34 : W.frozen? ⟨g, 34, none⟩ = false := frozen_of_row W g 34 _ _ M0
      go_wp2_with fail
      refine (HW4.out _).mono ?_
      rintro e W6 ⟨rfl, hW6⟩
      rw [hW6]
      clear hW6
      have M1 := rec_c M0 rfl cc
      have F1 : FLd w ZA 0 n5 (W.setCell ⟨g, 34, none⟩ (.int .u64 cc)) := F0.of ((Fr.refl _ W).setCell (p := ⟨g, 34, none⟩) (fun _ => hg) _)
      clear F0 M0
      go_wp2_with fail
      generalize W.setCell ⟨g, 34, none⟩ (.int .u64 cc) = W1 at *
      clear c34 f34
      have c35 : W1.cell? ⟨g, 35, none⟩ = some (.int .u64 0) := (M1.cells rfl).2.2.2.1
      have f35 : W1.frozen? ⟨g, 35, none⟩ = false := frozen_of_row W1 g 35 _ _ M1
      refine (HW5.out _).mono ?_
      rintro e W6 ⟨rfl, hW6⟩
      rw [hW6]
      clear hW6
      have M2 := rec_rv M1 rfl rv
      have F2 : FLd w ZA 0 n5 (W1.setCell ⟨g, 35, none⟩ (.int .u64 rv)) := F1.of ((Fr.refl _ W1).setCell (p := ⟨g, 35, none⟩) (fun _ => hg) _)
      clear F1 M1
      go_wp2_with fail
      generalize W1.setCell ⟨g, 35, none⟩ (.int .u64 rv) = W2 at *
      clear c35 f35
      have c1 : W2.cell? ⟨g, 1, none⟩ = some (.int .u32 0) := (M2.cells rfl).2.1
      have f1 : W2.frozen? ⟨g, 1, none⟩ = false := frozen_of_row W2 g 1 _ _ M2
      refine (HW6.out _).mono ?_
      rintro e W6 ⟨rfl, hW6⟩
      rw [hW6]
      clear hW6
      have M3 := rec_rp M2 rp
      have F3 : FLd w ZA 0 n5 (W2.setCell ⟨g, 1, none⟩ (.int .u32 rp)) := F2.of ((Fr.refl _ W2).setCell (p := ⟨g, 1, none⟩) (fun _ => hg) _)
      clear F2 M2
      go_wp2_with fail
      generalize W2.setCell ⟨g, 1, none⟩ (.int .u32 rp) = W3 at *
      clear c1 f1 HW4 HW5 HW6 urp
      have HG : Hid (w.heap.size + 1 + 1 < g) := hg
      have HSZ : Hid (80 ≤ s.size ∧ s.size ≤ 1024) := ⟨hs, hs2⟩
      clear hg
      go_loopg [6] 32 (fun gk iv wr => ∃ k : Nat, iv = .int .i64 (k : Int) ∧ k ≤ 32 ∧ gk = 32 - k ∧ Hid (MAt wr g ⟨v, rp, D.take k ++ List.replicate (32 - k) 0, cc, rv, li, pg⟩) ∧ Hid (FLd w ZA 0 n5 wr))
      case atStart => exact ⟨0, rfl, by omega, rfl, M3, F3⟩
      case round =>
        obtain ⟨k, rfl, hk, hgk, HM, HF⟩ := hrel
        by_cases hgo : k < 32
        · obtain ⟨x, hx⟩ : ∃ x : UInt8, x = s[44 + k]'(by have := HSZ.out; omega) := ⟨_, rfl⟩
          have hDx : D[k]? = some x := by rw [hx]; exact HD.out.2 k _ hgo
          have hxi : ∀ h, (s[44 + k]'h).toNat = x.toNat := fun _ => by rw [hx]
          have hb : (44 : Int) + (k : Int) < (s.size : Int) := by have := HSZ.out; omega
          have hlen : (D.take k).length = k := by rw [List.length_take, HD.out.1]; omega
          have e1 : (D.take k ++ List.replicate (32 - k) 0 : List UInt8) = D.take k ++ 0 :: List.replicate (31 - k) 0 := by rw [show 32 - k = (31 - k) + 1 from by omega, List.replicate_succ]
          have e2 : (D.take k ++ x :: List.replicate (31 - k) 0 : List UInt8) = D.take (k + 1) ++ List.replicate (32 - (k + 1)) 0 := by rw [List.take_add_one, hDx, show 32 - (k + 1) = 31 - k from by omega]; simp
          have HM2 : Hid (MAt (wr.setCell ⟨g, 2 + k, none⟩ (.int .u8 x.toNat)) g ⟨v, rp, D.take (k + 1) ++ List.replicate (32 - (k + 1)) 0, cc, rv, li, pg⟩) := by
            have := rec_d (x := x) HM.out e1 hlen
            rw [e2] at this
            exact this
          have HF2 : Hid (FLd w ZA 0 n5 (wr.setCell ⟨g, 2 + k, none⟩ (.int .u8 x.toNat))) := HF.out.of ((Fr.refl _ wr).setCell (p := ⟨g, 2 + k, none⟩) (fun _ => HG.out) _)
          have cc2 : wr.cell? ⟨g, 2 + k, none⟩ = some (.int .u8 0) := HM.out.sum k (.int .u8 0) (by rw [bcells, List.getElem?_map]; simp only; rw [e1, List.getElem?_append_right (by omega), hlen, Nat.sub_self]; rfl)
          have fz : wr.frozen? ⟨g, 2 + k, none⟩ = false := frozen_of_row wr g (2 + k) _ _ HM.out
          have b1 : (k : Int) < 32 := by omega
          have b0 : (0 : Int) ≤ (k : Int) := by omega
          clear hx hDx hlen e1 e2 HM HF
          go_wp2_with fail
          go_roundg (32 - (k + 1))
          case measure => omega
          case rel => exact ⟨k + 1, by go_num, by omega, rfl, HM2, HF2⟩
        · obtain rfl : k = 32 := by omega
          have MD : MAt wr g ⟨v, rp, D, cc, rv, li, pg⟩ := by
            have := HM.out
            rw [List.take_of_length_le (by rw [HD.out.1]; omega), Nat.sub_self, List.replicate_zero, List.append_nil] at this
            exact this
          have FD := HF.out
          clear HM HF
          go_wp2_with fail
          have hMs : (Rec.arr ⟨v, rp, D, cc, rv, li, pg⟩).size = 38 := arr_size _ HD.out.1
          have hMo := arr_one ⟨v, rp, D, cc, rv, li, pg⟩
          have hMz : (Tryd.prog.info? 34).map (·.size) = some (Rec.arr ⟨v, rp, D, cc, rv, li, pg⟩).size := by rw [Tryd.infoM, hMs]
          unfold MAt at MD
          obtain ⟨MA, hMA⟩ : ∃ MA, MA = Rec.arr ⟨v, rp, D, cc, rv, li, pg⟩ := ⟨_, rfl⟩
          rw [← hMA] at MD hMs hMo hMz
          have HMA : Hid (MA = Rec.arr ⟨v, rp, D, cc, rv, li, pg⟩) := hMA
          clear hMA
          obtain ⟨b0, b1, _, _⟩ := cell_of_two FD.2.2.1
          refine wp_region_held_drew (S := fun W => W.cell? ⟨w.heap.size + 1 + 1, 0, none⟩ = some (.int .i64 0) ∧ W.cell? ⟨w.heap.size + 1 + 1, 1, none⟩ = some (.int .i64 n5) ∧ W.heap[g]? = some (.cells MA 34 (0, 0))) (by kernel_rfl) (⟨b0, b1, MD⟩) (fun hHeld => ?_)
          refine wpAnyH_take (i := 0) (oi := { dst := some 64, op := Op.load 23 (Operand.tmp 4), type := 23, pos := "ref.go:124", after := #[], guard := none }) (v := .agg #[.int .i64 0, .int .i64 n5]) rfl (by kernel_rfl) (by kernel_rfl) (by kernel_rfl) (fun _ _ _ h => h) (Or.inl ⟨by rfl, fun w hSw => by (obtain ⟨y0, y1, y2⟩ := hSw; go_simp)⟩) (by assumption) ?_
          try simp only [Act.put, List.setIfInBounds_toArray, List.set_cons_zero, List.set_cons_succ]
          refine wpAnyH_take (i := 1) (oi := { dst := some 65, op := Op.load 34 (Operand.tmp 5), type := 34, pos := "ref.go:124", after := #[{ on := 2, ground := Ground.gcOnly Departure.lateStores }], guard := none }) (v := .agg MA) rfl (by kernel_rfl) (by kernel_rfl) (by kernel_rfl) (fun _ _ _ h => h) (yieldsIf_load_row (by rfl) 34 _ rfl g rfl 34 MA (0, 0) _ (fun _ h => h.2.2) Tryd.underlying34 rfl hMz) (by assumption) ?_
          try simp only [Act.put, List.setIfInBounds_toArray, List.set_cons_zero, List.set_cons_succ]
          obtain ⟨fc0, fc1, ff0, ff1⟩ := cell_of_two FD.1
          refine wpAnyH_ready (rs := [2]) (by kernel_rfl) (by simp) ?_
          refine AllReadyH.cons (o := { dst := none, op := Op.store 23 (Operand.tmp 2) (Operand.tmp 64), type := 0, pos := "ref.go:124", after := #[{ on := 0, ground := Ground.data }, { on := 0, ground := Ground.phase }, { on := 1, ground := Ground.textOnly Departure.lateStores }], guard := none }) rfl (fun K hK => ?_) AllReadyH.nil
          go_simp
          have f7 : Fr (fun k => k = w.heap.size) wr ((wr.setCell ⟨w.heap.size, 0, none⟩ (.int .i64 0)).setCell ⟨w.heap.size, 1, none⟩ (.int .i64 n5)).drew := Fr.drew (((Fr.refl (fun k => k = w.heap.size) wr).setCell (p := ⟨w.heap.size, 0, none⟩) (fun _ => rfl) _).setCell (p := ⟨w.heap.size, 1, none⟩) (fun _ => rfl) _)
          have g0 : ((wr.setCell ⟨w.heap.size, 0, none⟩ (.int .i64 0)).setCell ⟨w.heap.size, 1, none⟩ (.int .i64 n5)).drew.heap[w.heap.size]? = some (.cells #[.int .i64 0, .int .i64 n5] 23 (0, 0)) := by have := heap_setCell_same _ w.heap.size 1 _ _ (.int .i64 n5) (heap_setCell_same wr w.heap.size 0 _ _ (.int .i64 0) FD.1); simp only [List.setIfInBounds_toArray, List.set_cons_zero, List.set_cons_succ] at this; exact this
          have g1 := (f7.block (w.heap.size + 1) (lt_of_heap FD.2.1) (by omega)).trans FD.2.1
          have g2 := (f7.block (w.heap.size + 1 + 1) (lt_of_heap FD.2.2.1) (by omega)).trans FD.2.2.1
          have g3 := (f7.block g (lt_of_heap MD) (by have := HG.out; omega)).trans MD
          have s7 := Fr.trans FD.2.2.2 f7 (fun i hi e => by omega)
          generalize ((wr.setCell ⟨w.heap.size, 0, none⟩ (.int .i64 0)).setCell ⟨w.heap.size, 1, none⟩ (.int .i64 n5)).drew = W7 at *
          obtain ⟨e0, e1, _, _⟩ := cell_of_two g2
          refine hK.out _ _ ⟨e0, e1, g3⟩ (fun hHeld => ?_)
          clear hK K
          try simp only [Act.put, List.setIfInBounds_toArray, List.set_cons_zero, List.set_cons_succ]
          refine wpAnyH_ready (rs := [3]) (by kernel_rfl) (by simp) ?_
          refine AllReadyH.cons (o := { dst := none, op := Op.store 34 (Operand.tmp 3) (Operand.tmp 65), type := 0, pos := "ref.go:124", after := #[{ on := 1, ground := Ground.data }, { on := 2, ground := Ground.chain }, { on := 0, ground := Ground.phase }, { on := 1, ground := Ground.phase }, { on := 2, ground := Ground.phase }], guard := none }) rfl (fun K hK => ?_) AllReadyH.nil
          rw [if_pos (by rfl)]
          refine wp_store_mid 34 _ _ rfl (w.heap.size + 1) 0 MA rfl rfl (there_row g1 (by rw [hzs, hMs])) hMz hMo ?_
          have f8 : Fr (fun k => k = w.heap.size + 1) W7 (W7.setCells (w.heap.size + 1) 0 MA.toList) := Fr.setCells (S := fun k => k = w.heap.size + 1) (fun _ => rfl) _ 0 W7 (Fr.refl _ W7)
          have r1 := row_put (M := MA) g1 (by rw [hzs, hMs])
          have r0 := (f8.block w.heap.size (lt_of_heap g0) (by omega)).trans g0
          have r2 := (f8.block (w.heap.size + 1 + 1) (lt_of_heap g2) (by omega)).trans g2
          have r3 := (f8.block g (lt_of_heap g3) (by have := HG.out; omega)).trans g3
          have s8 := Fr.trans s7 f8 (fun i hi e => by omega)
          generalize W7.setCells (w.heap.size + 1) 0 MA.toList = W8 at *
          obtain ⟨e0, e1, _, _⟩ := cell_of_two r2
          refine hK.out _ _ ⟨e0, e1, r3⟩ (fun hHeld => ?_)
          clear hK K
          try simp only [Act.put]
          refine wpAnyH_done (by kernel_rfl) ?_ _
          go_wp2_with fail
          exact bodyPost_ret (results_cell2 (p := 2) (q := 3) (ty := 23) (uy := 34) (by kernel_rfl) _ _ w.heap.size (w.heap.size + 1) 23 34 _ _ (0, 0) (0, 0) _ _ rfl r0 Tryd.underlying23 rfl (by kernel_rfl) rfl r1 Tryd.underlying34 rfl hMz) rfl ⟨by rw [HMA.out], s8⟩

theorem whole_at (s : ByteArray) (i n : Nat) (hn : n ≤ 8) (W : World) : Calls Tryd.prog 77 #[.string (s.extract i (i + n))] W fun e w' => e = .returned (.int .u64 (beAt s i n)) ∧ w' = W :=
  whole_calls (s.extract i (i + n)) (by rw [ByteArray.size_extract]; omega) W
theorem sum_at (s : ByteArray) (k : Nat) (h : 44 + k < s.size) (hk : k < 32) : (recAt s).d[k]? = some (s[44 + k]'h) := by
  show (s.extract 44 (44 + 32)).data.toList[k]? = _
  rw [extract_list, List.getElem?_take, if_pos hk, List.getElem?_drop, List.getElem?_eq_getElem (by rw [bytes_length]; exact h)]
  rfl
theorem fields_calls (s : ByteArray) (hs : 80 ≤ s.size) (hs2 : s.size ≤ 1024) (w : World) :
    Calls Tryd.prog 53 #[.string s] w fun e w' => e = .returned (.tuple #[frameV (pDoc s) (qAt s), metaV (recAt s)]) ∧ Same w w' := by
  have hm := recAt_ok s hs
  have h41 := beAt_lt s 4 1 (by omega)
  have h51 := beAt_lt s 5 1 (by omega)
  refine fields_core (n4 := beAt s 4 1) (n5 := beAt s 5 1) (v := beAt s 8 8) (li := beAt s 36 4) (pg := beAt s 40 4) (cc := beAt s 16 8) (rv := beAt s 24 8) (rp := beAt s 32 4) (PA := pAt s) (D := (s.extract 44 76).data.toList) w hs hs2 (fun h => by rw [byte_at s 4 h]) (fun h => by rw [byte_at s 5 h]) (by omega) (by omega) ?_ ?_ zeroRec_lit rfl (by intro h; have := congrArg Array.size h; revert this; decide) hm.li hm.pg hm.rp (fdA_lit _ _ _) rfl
    (whole_at s 8 8 (by omega)) (whole_at s 36 4 (by omega)) (whole_at s 40 4 (by omega)) (whole_at s 16 8 (by omega)) (whole_at s 24 8 (by omega)) (whole_at s 32 4 (by omega)) ⟨hm.d, fun k h hk => sum_at s k h hk⟩
  · intro h
    show _ = wrap64 (2 ^ min (beAt s 4 1) 64)
    rw [Nat.min_eq_left (by omega)]
  · unfold pDoc
    by_cases h1 : 10 ≤ beAt s 4 1
    · by_cases h2 : beAt s 4 1 ≤ 13
      · exact Or.inl ⟨h1, h2, by rw [if_pos ⟨h1, h2⟩]⟩
      · exact Or.inr (Or.inr ⟨h1, by omega, by rw [if_neg (by omega)]⟩)
    · exact Or.inr (Or.inl ⟨by omega, by rw [if_neg (by omega)]⟩)

set_option maxRecDepth 100000 in
set_option maxHeartbeats 2000000 in
theorem slot_blank {p q : Int} {n : Nat} {page S NS : ByteArray} {ZA : Array Value} (w : World) (hp0 : 0 ≤ p) (hpn : p / 8 = (n : Int)) (hps : n ≤ page.size) (hpg : page.size ≤ 100000) (hS : page.extract 0 n = S) (hSn : S.size = n)
    (hzl : (#[.int .u64 0, .int .u32 0, .int .u8 0, .int .u8 0, .int .u8 0, .int .u8 0, .int .u8 0, .int .u8 0, .int .u8 0, .int .u8 0, .int .u8 0, .int .u8 0, .int .u8 0, .int .u8 0, .int .u8 0, .int .u8 0, .int .u8 0, .int .u8 0, .int .u8 0, .int .u8 0, .int .u8 0, .int .u8 0, .int .u8 0, .int .u8 0, .int .u8 0, .int .u8 0, .int .u8 0, .int .u8 0, .int .u8 0, .int .u8 0, .int .u8 0, .int .u8 0, .int .u8 0, .int .u8 0, .int .u64 0, .int .u64 0, .int .u32 0, .int .u32 0] : Array Value) = ZA) (hzs : ZA.size = 38) (hzo : ZA.all (·.oneCell') = true)
    (HN : Hid (∀ W, Calls Tryd.prog 23 #[.int .i64 n] W fun e w' => e = .returned (.string NS) ∧ Same W w')) (hz : (S.toList == NS.toList) = true)
 :
    Calls Tryd.prog 26 #[frameV p q, .string page] w fun e w' => e = .returned (.tuple #[.agg ZA, .int .i64 0]) ∧ Same w w' := by
  have hzl := hzl
  have hz := hz
  have hS := hS
  have hSn := hSn
  have hpn := hpn
  have hzz : (Tryd.prog.info? 34).map (·.size) = some ZA.size := by rw [Tryd.infoM, hzs]
  have sx : Same w ((w.alloc (.cells #[.int .i64 p, .int .i64 q] 23)).alloc (.cells ZA 34)) := ((Fr.refl _ w).alloc _).alloc _
  have rz : ((w.alloc (.cells #[.int .i64 p, .int .i64 q] 23)).alloc (.cells ZA 34)).heap[w.heap.size + 1]? = some (.cells ZA 34 (0, 0)) := heap_alloc2_new w _ _
  have c0 : ((w.alloc (.cells #[.int .i64 p, .int .i64 q] 23)).alloc (.cells ZA 34)).cell? ⟨w.heap.size, 0, none⟩ = some (.int .i64 p) := by simp
  have c1 : ((w.alloc (.cells #[.int .i64 p, .int .i64 q] 23)).alloc (.cells ZA 34)).cell? ⟨w.heap.size, 1, none⟩ = some (.int .i64 q) := by simp
  have HRES : Hid (∀ (tmps : Array Value) (W : World) (cs : Array Value), W.heap[w.heap.size + 1]? = some (.cells cs 34 (0, 0)) → cs.size = 38 → tmps.getD 4 undef = .pointer (some ⟨w.heap.size + 1, 0, none⟩) → (results Tryd.f26 tmps).run Tryd.prog W = .ok (.tuple #[.agg cs, tmps.getD 5 undef]) W) := fun tmps W cs h h4 hp => results_row_tmp (p := 4) (u := 5) (ty := 34) (by kernel_rfl) tmps _ (w.heap.size + 1) 34 _ (0, 0) _ hp h Tryd.underlying34 rfl (by rw [h4]; exact Tryd.infoM)
  go_enter Tryd.func26, Tryd.ntmps26
  go_wp2_with fail
  generalize ((w.alloc (.cells #[.int .i64 p, .int .i64 q] 23)).alloc (.cells ZA 34)) = V at *
  refine (HN.out _).mono ?_
  rintro e W1 ⟨rfl, s1⟩
  have c0 := s1.keep c0
  have c1 := s1.keep c1
  have rz := (s1.block _ (lt_of_heap rz) (fun f => f)).trans rz
  have t1 := sx.trans s1
  clear s1 sx
  go_wp2_with (refine wpList_store_whole (by rfl) 34 _ _ (by rfl) (w.heap.size + 1) ZA ZA 34 (by rfl) (by rfl) rz rfl hzz hzo ?_; intro WE rE fE)
  exact bodyPost_ret (HRES.out _ _ _ rE hzs rfl) rfl ⟨rfl, Fr.trans t1 fE (fun i hi e => by omega)⟩

set_option maxRecDepth 100000 in
set_option maxHeartbeats 2000000 in
theorem slot_frame {p q P Q : Int} {n : Nat} {page S NS : ByteArray} {ZA R : Array Value} (w : World) (hp0 : 0 ≤ p) (hpn : p / 8 = (n : Int)) (hps : n ≤ page.size) (hpg : page.size ≤ 100000) (hS : page.extract 0 n = S) (hSn : S.size = n)
    (hzl : (#[.int .u64 0, .int .u32 0, .int .u8 0, .int .u8 0, .int .u8 0, .int .u8 0, .int .u8 0, .int .u8 0, .int .u8 0, .int .u8 0, .int .u8 0, .int .u8 0, .int .u8 0, .int .u8 0, .int .u8 0, .int .u8 0, .int .u8 0, .int .u8 0, .int .u8 0, .int .u8 0, .int .u8 0, .int .u8 0, .int .u8 0, .int .u8 0, .int .u8 0, .int .u8 0, .int .u8 0, .int .u8 0, .int .u8 0, .int .u8 0, .int .u8 0, .int .u8 0, .int .u8 0, .int .u8 0, .int .u64 0, .int .u64 0, .int .u32 0, .int .u32 0] : Array Value) = ZA) (hzs : ZA.size = 38) (hzo : ZA.all (·.oneCell') = true)
    (HN : Hid (∀ W, Calls Tryd.prog 23 #[.int .i64 n] W fun e w' => e = .returned (.string NS) ∧ Same W w')) (hz : (S.toList == NS.toList) = false)
    (hRs : R.size = 38) (hRo : R.all (·.oneCell') = true) (HFL : Hid (∀ W, Calls Tryd.prog 53 #[.string S] W fun e w' => e = .returned (.tuple #[frameV P Q, .agg R]) ∧ Same W w'))
    (HF : Hid (∀ W, Calls Tryd.prog 25 #[frameV P Q] W fun e w' => e = .returned (.bool false) ∧ Same W w')) :
    Calls Tryd.prog 26 #[frameV p q, .string page] w fun e w' => e = .returned (.tuple #[.agg ZA, .int .i64 3]) ∧ Same w w' := by
  have hRz : (Tryd.prog.info? 34).map (·.size) = some R.size := by rw [Tryd.infoM, hRs]
  have hzl := hzl
  have hz := hz
  have hS := hS
  have hSn := hSn
  have hpn := hpn
  have hzz : (Tryd.prog.info? 34).map (·.size) = some ZA.size := by rw [Tryd.infoM, hzs]
  have sx : Same w ((w.alloc (.cells #[.int .i64 p, .int .i64 q] 23)).alloc (.cells ZA 34)) := ((Fr.refl _ w).alloc _).alloc _
  have rz : ((w.alloc (.cells #[.int .i64 p, .int .i64 q] 23)).alloc (.cells ZA 34)).heap[w.heap.size + 1]? = some (.cells ZA 34 (0, 0)) := heap_alloc2_new w _ _
  have c0 : ((w.alloc (.cells #[.int .i64 p, .int .i64 q] 23)).alloc (.cells ZA 34)).cell? ⟨w.heap.size, 0, none⟩ = some (.int .i64 p) := by simp
  have c1 : ((w.alloc (.cells #[.int .i64 p, .int .i64 q] 23)).alloc (.cells ZA 34)).cell? ⟨w.heap.size, 1, none⟩ = some (.int .i64 q) := by simp
  have HRES : Hid (∀ (tmps : Array Value) (W : World) (cs : Array Value), W.heap[w.heap.size + 1]? = some (.cells cs 34 (0, 0)) → cs.size = 38 → tmps.getD 4 undef = .pointer (some ⟨w.heap.size + 1, 0, none⟩) → (results Tryd.f26 tmps).run Tryd.prog W = .ok (.tuple #[.agg cs, tmps.getD 5 undef]) W) := fun tmps W cs h h4 hp => results_row_tmp (p := 4) (u := 5) (ty := 34) (by kernel_rfl) tmps _ (w.heap.size + 1) 34 _ (0, 0) _ hp h Tryd.underlying34 rfl (by rw [h4]; exact Tryd.infoM)
  go_enter Tryd.func26, Tryd.ntmps26
  go_wp2_with fail
  generalize ((w.alloc (.cells #[.int .i64 p, .int .i64 q] 23)).alloc (.cells ZA 34)) = V at *
  refine (HN.out _).mono ?_
  rintro e W1 ⟨rfl, s1⟩
  have c0 := s1.keep c0
  have c1 := s1.keep c1
  have rz := (s1.block _ (lt_of_heap rz) (fun f => f)).trans rz
  have t1 := sx.trans s1
  clear s1 sx
  go_wp2_with fail
  refine (HFL.out _).mono ?_
  rintro e W2 ⟨rfl, s2⟩
  have c0 := s2.keep c0
  have c1 := s2.keep c1
  have rz := (s2.block _ (lt_of_heap rz) (fun f => f)).trans rz
  have t2 := t1.trans s2
  clear s2 t1
  have a0 : ((W2.alloc (.cells #[.int .i64 P, .int .i64 Q] 23)).alloc (.cells ZA 34)).cell? ⟨W2.heap.size, 0, none⟩ = some (.int .i64 P) := by simp
  have a1 : ((W2.alloc (.cells #[.int .i64 P, .int .i64 Q] 23)).alloc (.cells ZA 34)).cell? ⟨W2.heap.size, 1, none⟩ = some (.int .i64 Q) := by simp
  have hl2 : w.heap.size + 1 < W2.heap.size := lt_of_heap rz
  go_wp2_with (refine wpList_store_whole (by rfl) 34 _ _ (by rfl) (W2.heap.size + 1) R ZA 34 (by rfl) (by rfl) (heap_alloc2_new W2 _ _) (by rw [hzs, hRs]) hRz hRo ?_; intro W3 r3 f3; have s3 : Same W2 W3 := Fr.trans (((Fr.refl _ W2).alloc _).alloc _) f3 (fun i hi e => by omega); have c0 := s3.keep c0; have c1 := s3.keep c1; have rz := (s3.block _ (lt_of_heap rz) (fun f => f)).trans rz; have a0 := (f3.cell (p := ⟨W2.heap.size, 0, none⟩) (World.block_lt_of_cell? _ _ a0) (by simp)).trans a0; have a1 := (f3.cell (p := ⟨W2.heap.size, 1, none⟩) (World.block_lt_of_cell? _ _ a1) (by simp)).trans a1; have t3 := t2.trans s3)
  clear f3 s3 t2
  refine (HF.out _).mono ?_
  rintro e W4 ⟨rfl, s4⟩
  have c0 := s4.keep c0
  have c1 := s4.keep c1
  have rz := (s4.block _ (lt_of_heap rz) (fun f => f)).trans rz
  have a0 := s4.keep a0
  have a1 := s4.keep a1
  have r3 := (s4.block _ (lt_of_heap r3) (fun f => f)).trans r3
  have t4 := t3.trans s4
  clear s4 t3
  go_wp2_with (refine wpList_store_whole (by rfl) 34 _ _ (by rfl) (w.heap.size + 1) ZA ZA 34 (by rfl) (by rfl) rz rfl hzz hzo ?_; intro WE rE fE)
  exact bodyPost_ret (HRES.out _ _ _ rE hzs rfl) rfl ⟨rfl, Fr.trans t4 fE (fun i hi e => by omega)⟩

set_option maxRecDepth 100000 in
set_option maxHeartbeats 2000000 in
theorem slot_may {p q P Q : Int} {n : Nat} {page S NS : ByteArray} {ZA R : Array Value} (w : World) (hp0 : 0 ≤ p) (hpn : p / 8 = (n : Int)) (hps : n ≤ page.size) (hpg : page.size ≤ 100000) (hS : page.extract 0 n = S) (hSn : S.size = n)
    (hzl : (#[.int .u64 0, .int .u32 0, .int .u8 0, .int .u8 0, .int .u8 0, .int .u8 0, .int .u8 0, .int .u8 0, .int .u8 0, .int .u8 0, .int .u8 0, .int .u8 0, .int .u8 0, .int .u8 0, .int .u8 0, .int .u8 0, .int .u8 0, .int .u8 0, .int .u8 0, .int .u8 0, .int .u8 0, .int .u8 0, .int .u8 0, .int .u8 0, .int .u8 0, .int .u8 0, .int .u8 0, .int .u8 0, .int .u8 0, .int .u8 0, .int .u8 0, .int .u8 0, .int .u8 0, .int .u8 0, .int .u64 0, .int .u64 0, .int .u32 0, .int .u32 0] : Array Value) = ZA) (hzs : ZA.size = 38) (hzo : ZA.all (·.oneCell') = true)
    (HN : Hid (∀ W, Calls Tryd.prog 23 #[.int .i64 n] W fun e w' => e = .returned (.string NS) ∧ Same W w')) (hz : (S.toList == NS.toList) = false)
    (hRs : R.size = 38) (hRo : R.all (·.oneCell') = true) (HFL : Hid (∀ W, Calls Tryd.prog 53 #[.string S] W fun e w' => e = .returned (.tuple #[frameV P Q, .agg R]) ∧ Same W w'))
    (HF : Hid (∀ W, Calls Tryd.prog 25 #[frameV P Q] W fun e w' => e = .returned (.bool true) ∧ Same W w'))
    (HM : Hid (∀ W, Calls Tryd.prog 39 #[frameV P Q, .agg R] W fun e w' => e = .returned (.bool false) ∧ Same W w')) :
    Calls Tryd.prog 26 #[frameV p q, .string page] w fun e w' => e = .returned (.tuple #[.agg ZA, .int .i64 3]) ∧ Same w w' := by
  have hRz : (Tryd.prog.info? 34).map (·.size) = some R.size := by rw [Tryd.infoM, hRs]
  have hzl := hzl
  have hz := hz
  have hS := hS
  have hSn := hSn
  have hpn := hpn
  have hzz : (Tryd.prog.info? 34).map (·.size) = some ZA.size := by rw [Tryd.infoM, hzs]
  have sx : Same w ((w.alloc (.cells #[.int .i64 p, .int .i64 q] 23)).alloc (.cells ZA 34)) := ((Fr.refl _ w).alloc _).alloc _
  have rz : ((w.alloc (.cells #[.int .i64 p, .int .i64 q] 23)).alloc (.cells ZA 34)).heap[w.heap.size + 1]? = some (.cells ZA 34 (0, 0)) := heap_alloc2_new w _ _
  have c0 : ((w.alloc (.cells #[.int .i64 p, .int .i64 q] 23)).alloc (.cells ZA 34)).cell? ⟨w.heap.size, 0, none⟩ = some (.int .i64 p) := by simp
  have c1 : ((w.alloc (.cells #[.int .i64 p, .int .i64 q] 23)).alloc (.cells ZA 34)).cell? ⟨w.heap.size, 1, none⟩ = some (.int .i64 q) := by simp
  have HRES : Hid (∀ (tmps : Array Value) (W : World) (cs : Array Value), W.heap[w.heap.size + 1]? = some (.cells cs 34 (0, 0)) → cs.size = 38 → tmps.getD 4 undef = .pointer (some ⟨w.heap.size + 1, 0, none⟩) → (results Tryd.f26 tmps).run Tryd.prog W = .ok (.tuple #[.agg cs, tmps.getD 5 undef]) W) := fun tmps W cs h h4 hp => results_row_tmp (p := 4) (u := 5) (ty := 34) (by kernel_rfl) tmps _ (w.heap.size + 1) 34 _ (0, 0) _ hp h Tryd.underlying34 rfl (by rw [h4]; exact Tryd.infoM)
  go_enter Tryd.func26, Tryd.ntmps26
  go_wp2_with fail
  generalize ((w.alloc (.cells #[.int .i64 p, .int .i64 q] 23)).alloc (.cells ZA 34)) = V at *
  refine (HN.out _).mono ?_
  rintro e W1 ⟨rfl, s1⟩
  have c0 := s1.keep c0
  have c1 := s1.keep c1
  have rz := (s1.block _ (lt_of_heap rz) (fun f => f)).trans rz
  have t1 := sx.trans s1
  clear s1 sx
  go_wp2_with fail
  refine (HFL.out _).mono ?_
  rintro e W2 ⟨rfl, s2⟩
  have c0 := s2.keep c0
  have c1 := s2.keep c1
  have rz := (s2.block _ (lt_of_heap rz) (fun f => f)).trans rz
  have t2 := t1.trans s2
  clear s2 t1
  have a0 : ((W2.alloc (.cells #[.int .i64 P, .int .i64 Q] 23)).alloc (.cells ZA 34)).cell? ⟨W2.heap.size, 0, none⟩ = some (.int .i64 P) := by simp
  have a1 : ((W2.alloc (.cells #[.int .i64 P, .int .i64 Q] 23)).alloc (.cells ZA 34)).cell? ⟨W2.heap.size, 1, none⟩ = some (.int .i64 Q) := by simp
  have hl2 : w.heap.size + 1 < W2.heap.size := lt_of_heap rz
  go_wp2_with (refine wpList_store_whole (by rfl) 34 _ _ (by rfl) (W2.heap.size + 1) R ZA 34 (by rfl) (by rfl) (heap_alloc2_new W2 _ _) (by rw [hzs, hRs]) hRz hRo ?_; intro W3 r3 f3; have s3 : Same W2 W3 := Fr.trans (((Fr.refl _ W2).alloc _).alloc _) f3 (fun i hi e => by omega); have c0 := s3.keep c0; have c1 := s3.keep c1; have rz := (s3.block _ (lt_of_heap rz) (fun f => f)).trans rz; have a0 := (f3.cell (p := ⟨W2.heap.size, 0, none⟩) (World.block_lt_of_cell? _ _ a0) (by simp)).trans a0; have a1 := (f3.cell (p := ⟨W2.heap.size, 1, none⟩) (World.block_lt_of_cell? _ _ a1) (by simp)).trans a1; have t3 := t2.trans s3)
  clear f3 s3 t2
  refine (HF.out _).mono ?_
  rintro e W4 ⟨rfl, s4⟩
  have c0 := s4.keep c0
  have c1 := s4.keep c1
  have rz := (s4.block _ (lt_of_heap rz) (fun f => f)).trans rz
  have a0 := s4.keep a0
  have a1 := s4.keep a1
  have r3 := (s4.block _ (lt_of_heap r3) (fun f => f)).trans r3
  have t4 := t3.trans s4
  clear s4 t3
  go_wp2_with (refine wpList_load_want (by rfl) 34 _ (by rfl) (W2.heap.size + 1) (by rfl) 34 R (0, 0) _ r3 Tryd.underlying34 rfl hRz ?_)
  refine (HM.out _).mono ?_
  rintro e W5 ⟨rfl, s5⟩
  have c0 := s5.keep c0
  have c1 := s5.keep c1
  have rz := (s5.block _ (lt_of_heap rz) (fun f => f)).trans rz
  have a0 := s5.keep a0
  have a1 := s5.keep a1
  have r3 := (s5.block _ (lt_of_heap r3) (fun f => f)).trans r3
  have t5 := t4.trans s5
  clear s5 t4
  go_wp2_with (refine wpList_store_whole (by rfl) 34 _ _ (by rfl) (w.heap.size + 1) ZA ZA 34 (by rfl) (by rfl) rz rfl hzz hzo ?_; intro WE rE fE)
  exact bodyPost_ret (HRES.out _ _ _ rE hzs rfl) rfl ⟨rfl, Fr.trans t5 fE (fun i hi e => by omega)⟩

set_option maxRecDepth 100000 in
set_option maxHeartbeats 2000000 in
theorem slot_bytes {p q P Q : Int} {n n8 : Nat} {page S NS FS N8 S2 : ByteArray} {ZA R : Array Value} (w : World) (hp0 : 0 ≤ p) (hpn : p / 8 = (n : Int)) (hps : n ≤ page.size) (hpg : page.size ≤ 100000) (hS : page.extract 0 n = S) (hSn : S.size = n)
    (hzl : (#[.int .u64 0, .int .u32 0, .int .u8 0, .int .u8 0, .int .u8 0, .int .u8 0, .int .u8 0, .int .u8 0, .int .u8 0, .int .u8 0, .int .u8 0, .int .u8 0, .int .u8 0, .int .u8 0, .int .u8 0, .int .u8 0, .int .u8 0, .int .u8 0, .int .u8 0, .int .u8 0, .int .u8 0, .int .u8 0, .int .u8 0, .int .u8 0, .int .u8 0, .int .u8 0, .int .u8 0, .int .u8 0, .int .u8 0, .int .u8 0, .int .u8 0, .int .u8 0, .int .u8 0, .int .u8 0, .int .u64 0, .int .u64 0, .int .u32 0, .int .u32 0] : Array Value) = ZA) (hzs : ZA.size = 38) (hzo : ZA.all (·.oneCell') = true)
    (HN : Hid (∀ W, Calls Tryd.prog 23 #[.int .i64 n] W fun e w' => e = .returned (.string NS) ∧ Same W w')) (hz : (S.toList == NS.toList) = false)
    (hRs : R.size = 38) (hRo : R.all (·.oneCell') = true) (HFL : Hid (∀ W, Calls Tryd.prog 53 #[.string S] W fun e w' => e = .returned (.tuple #[frameV P Q, .agg R]) ∧ Same W w'))
    (HF : Hid (∀ W, Calls Tryd.prog 25 #[frameV P Q] W fun e w' => e = .returned (.bool true) ∧ Same W w'))
    (HM : Hid (∀ W, Calls Tryd.prog 39 #[frameV P Q, .agg R] W fun e w' => e = .returned (.bool true) ∧ Same W w'))
    (HB : Hid (∀ W, Calls Tryd.prog 22 #[frameV P Q, .agg R] W fun e w' => e = .returned (.string FS) ∧ Same W w')) (hn8 : (n : Int) - 80 = (n8 : Int)) (HN8 : Hid (∀ W, Calls Tryd.prog 23 #[.int .i64 n8] W fun e w' => e = .returned (.string N8) ∧ Same W w')) (hadd : ∀ W : World, (Op.stringOp .add FS N8).run Tryd.prog W = .ok (.string S2) W) (hss : (S.toList == S2.toList) = false) :
    Calls Tryd.prog 26 #[frameV p q, .string page] w fun e w' => e = .returned (.tuple #[.agg ZA, .int .i64 3]) ∧ Same w w' := by
  have hRz : (Tryd.prog.info? 34).map (·.size) = some R.size := by rw [Tryd.infoM, hRs]
  have hn8 := hn8
  have hadd := hadd
  have hss := hss
  have hzl := hzl
  have hz := hz
  have hS := hS
  have hSn := hSn
  have hpn := hpn
  have hzz : (Tryd.prog.info? 34).map (·.size) = some ZA.size := by rw [Tryd.infoM, hzs]
  have sx : Same w ((w.alloc (.cells #[.int .i64 p, .int .i64 q] 23)).alloc (.cells ZA 34)) := ((Fr.refl _ w).alloc _).alloc _
  have rz : ((w.alloc (.cells #[.int .i64 p, .int .i64 q] 23)).alloc (.cells ZA 34)).heap[w.heap.size + 1]? = some (.cells ZA 34 (0, 0)) := heap_alloc2_new w _ _
  have c0 : ((w.alloc (.cells #[.int .i64 p, .int .i64 q] 23)).alloc (.cells ZA 34)).cell? ⟨w.heap.size, 0, none⟩ = some (.int .i64 p) := by simp
  have c1 : ((w.alloc (.cells #[.int .i64 p, .int .i64 q] 23)).alloc (.cells ZA 34)).cell? ⟨w.heap.size, 1, none⟩ = some (.int .i64 q) := by simp
  have HRES : Hid (∀ (tmps : Array Value) (W : World) (cs : Array Value), W.heap[w.heap.size + 1]? = some (.cells cs 34 (0, 0)) → cs.size = 38 → tmps.getD 4 undef = .pointer (some ⟨w.heap.size + 1, 0, none⟩) → (results Tryd.f26 tmps).run Tryd.prog W = .ok (.tuple #[.agg cs, tmps.getD 5 undef]) W) := fun tmps W cs h h4 hp => results_row_tmp (p := 4) (u := 5) (ty := 34) (by kernel_rfl) tmps _ (w.heap.size + 1) 34 _ (0, 0) _ hp h Tryd.underlying34 rfl (by rw [h4]; exact Tryd.infoM)
  go_enter Tryd.func26, Tryd.ntmps26
  go_wp2_with fail
  generalize ((w.alloc (.cells #[.int .i64 p, .int .i64 q] 23)).alloc (.cells ZA 34)) = V at *
  refine (HN.out _).mono ?_
  rintro e W1 ⟨rfl, s1⟩
  have c0 := s1.keep c0
  have c1 := s1.keep c1
  have rz := (s1.block _ (lt_of_heap rz) (fun f => f)).trans rz
  have t1 := sx.trans s1
  clear s1 sx
  go_wp2_with fail
  refine (HFL.out _).mono ?_
  rintro e W2 ⟨rfl, s2⟩
  have c0 := s2.keep c0
  have c1 := s2.keep c1
  have rz := (s2.block _ (lt_of_heap rz) (fun f => f)).trans rz
  have t2 := t1.trans s2
  clear s2 t1
  have a0 : ((W2.alloc (.cells #[.int .i64 P, .int .i64 Q] 23)).alloc (.cells ZA 34)).cell? ⟨W2.heap.size, 0, none⟩ = some (.int .i64 P) := by simp
  have a1 : ((W2.alloc (.cells #[.int .i64 P, .int .i64 Q] 23)).alloc (.cells ZA 34)).cell? ⟨W2.heap.size, 1, none⟩ = some (.int .i64 Q) := by simp
  have hl2 : w.heap.size + 1 < W2.heap.size := lt_of_heap rz
  go_wp2_with (refine wpList_store_whole (by rfl) 34 _ _ (by rfl) (W2.heap.size + 1) R ZA 34 (by rfl) (by rfl) (heap_alloc2_new W2 _ _) (by rw [hzs, hRs]) hRz hRo ?_; intro W3 r3 f3; have s3 : Same W2 W3 := Fr.trans (((Fr.refl _ W2).alloc _).alloc _) f3 (fun i hi e => by omega); have c0 := s3.keep c0; have c1 := s3.keep c1; have rz := (s3.block _ (lt_of_heap rz) (fun f => f)).trans rz; have a0 := (f3.cell (p := ⟨W2.heap.size, 0, none⟩) (World.block_lt_of_cell? _ _ a0) (by simp)).trans a0; have a1 := (f3.cell (p := ⟨W2.heap.size, 1, none⟩) (World.block_lt_of_cell? _ _ a1) (by simp)).trans a1; have t3 := t2.trans s3)
  clear f3 s3 t2
  refine (HF.out _).mono ?_
  rintro e W4 ⟨rfl, s4⟩
  have c0 := s4.keep c0
  have c1 := s4.keep c1
  have rz := (s4.block _ (lt_of_heap rz) (fun f => f)).trans rz
  have a0 := s4.keep a0
  have a1 := s4.keep a1
  have r3 := (s4.block _ (lt_of_heap r3) (fun f => f)).trans r3
  have t4 := t3.trans s4
  clear s4 t3
  go_wp2_with (refine wpList_load_want (by rfl) 34 _ (by rfl) (W2.heap.size + 1) (by rfl) 34 R (0, 0) _ r3 Tryd.underlying34 rfl hRz ?_)
  refine (HM.out _).mono ?_
  rintro e W5 ⟨rfl, s5⟩
  have c0 := s5.keep c0
  have c1 := s5.keep c1
  have rz := (s5.block _ (lt_of_heap rz) (fun f => f)).trans rz
  have a0 := s5.keep a0
  have a1 := s5.keep a1
  have r3 := (s5.block _ (lt_of_heap r3) (fun f => f)).trans r3
  have t5 := t4.trans s5
  clear s5 t4
  go_wp2_with (refine wpList_load_want (by rfl) 34 _ (by rfl) (W2.heap.size + 1) (by rfl) 34 R (0, 0) _ r3 Tryd.underlying34 rfl hRz ?_)
  refine (HB.out _).mono ?_
  rintro e W6 ⟨rfl, s6⟩
  have c0 := s6.keep c0
  have c1 := s6.keep c1
  have rz := (s6.block _ (lt_of_heap rz) (fun f => f)).trans rz
  have a0 := s6.keep a0
  have a1 := s6.keep a1
  have r3 := (s6.block _ (lt_of_heap r3) (fun f => f)).trans r3
  have t6 := t5.trans s6
  clear s6 t5
  go_wp2_with fail
  refine (HN8.out _).mono ?_
  rintro e W7 ⟨rfl, s7⟩
  have c0 := s7.keep c0
  have c1 := s7.keep c1
  have rz := (s7.block _ (lt_of_heap rz) (fun f => f)).trans rz
  have a0 := s7.keep a0
  have a1 := s7.keep a1
  have r3 := (s7.block _ (lt_of_heap r3) (fun f => f)).trans r3
  have t7 := t6.trans s7
  clear s7 t6
  go_wp2_with (refine wpList_store_whole (by rfl) 34 _ _ (by rfl) (w.heap.size + 1) ZA ZA 34 (by rfl) (by rfl) rz rfl hzz hzo ?_; intro WE rE fE)
  exact bodyPost_ret (HRES.out _ _ _ rE hzs rfl) rfl ⟨rfl, Fr.trans t7 fE (fun i hi e => by omega)⟩

set_option maxRecDepth 100000 in
set_option maxHeartbeats 2000000 in
theorem slot_foreign {p q P Q : Int} {n n8 : Nat} {page S NS FS N8 S2 : ByteArray} {ZA R : Array Value} (w : World) (hp0 : 0 ≤ p) (hpn : p / 8 = (n : Int)) (hps : n ≤ page.size) (hpg : page.size ≤ 100000) (hS : page.extract 0 n = S) (hSn : S.size = n)
    (hzl : (#[.int .u64 0, .int .u32 0, .int .u8 0, .int .u8 0, .int .u8 0, .int .u8 0, .int .u8 0, .int .u8 0, .int .u8 0, .int .u8 0, .int .u8 0, .int .u8 0, .int .u8 0, .int .u8 0, .int .u8 0, .int .u8 0, .int .u8 0, .int .u8 0, .int .u8 0, .int .u8 0, .int .u8 0, .int .u8 0, .int .u8 0, .int .u8 0, .int .u8 0, .int .u8 0, .int .u8 0, .int .u8 0, .int .u8 0, .int .u8 0, .int .u8 0, .int .u8 0, .int .u8 0, .int .u8 0, .int .u64 0, .int .u64 0, .int .u32 0, .int .u32 0] : Array Value) = ZA) (hzs : ZA.size = 38) (hzo : ZA.all (·.oneCell') = true)
    (HN : Hid (∀ W, Calls Tryd.prog 23 #[.int .i64 n] W fun e w' => e = .returned (.string NS) ∧ Same W w')) (hz : (S.toList == NS.toList) = false)
    (hRs : R.size = 38) (hRo : R.all (·.oneCell') = true) (HFL : Hid (∀ W, Calls Tryd.prog 53 #[.string S] W fun e w' => e = .returned (.tuple #[frameV P Q, .agg R]) ∧ Same W w'))
    (HF : Hid (∀ W, Calls Tryd.prog 25 #[frameV P Q] W fun e w' => e = .returned (.bool true) ∧ Same W w'))
    (HM : Hid (∀ W, Calls Tryd.prog 39 #[frameV P Q, .agg R] W fun e w' => e = .returned (.bool true) ∧ Same W w'))
    (HB : Hid (∀ W, Calls Tryd.prog 22 #[frameV P Q, .agg R] W fun e w' => e = .returned (.string FS) ∧ Same W w')) (hn8 : (n : Int) - 80 = (n8 : Int)) (HN8 : Hid (∀ W, Calls Tryd.prog 23 #[.int .i64 n8] W fun e w' => e = .returned (.string N8) ∧ Same W w')) (hadd : ∀ W : World, (Op.stringOp .add FS N8).run Tryd.prog W = .ok (.string S2) W) (hss : (S.toList == S2.toList) = true) (hne : (P == p) = false ∨ ((P == p) = true ∧ (Q == q) = false)) :
    Calls Tryd.prog 26 #[frameV p q, .string page] w fun e w' => e = .returned (.tuple #[.agg ZA, .int .i64 2]) ∧ Same w w' := by
  have hRz : (Tryd.prog.info? 34).map (·.size) = some R.size := by rw [Tryd.infoM, hRs]
  have hn8 := hn8
  have hadd := hadd
  have hss := hss
  have hzl := hzl
  have hz := hz
  have hS := hS
  have hSn := hSn
  have hpn := hpn
  have hzz : (Tryd.prog.info? 34).map (·.size) = some ZA.size := by rw [Tryd.infoM, hzs]
  have sx : Same w ((w.alloc (.cells #[.int .i64 p, .int .i64 q] 23)).alloc (.cells ZA 34)) := ((Fr.refl _ w).alloc _).alloc _
  have rz : ((w.alloc (.cells #[.int .i64 p, .int .i64 q] 23)).alloc (.cells ZA 34)).heap[w.heap.size + 1]? = some (.cells ZA 34 (0, 0)) := heap_alloc2_new w _ _
  have c0 : ((w.alloc (.cells #[.int .i64 p, .int .i64 q] 23)).alloc (.cells ZA 34)).cell? ⟨w.heap.size, 0, none⟩ = some (.int .i64 p) := by simp
  have c1 : ((w.alloc (.cells #[.int .i64 p, .int .i64 q] 23)).alloc (.cells ZA 34)).cell? ⟨w.heap.size, 1, none⟩ = some (.int .i64 q) := by simp
  have HRES : Hid (∀ (tmps : Array Value) (W : World) (cs : Array Value), W.heap[w.heap.size + 1]? = some (.cells cs 34 (0, 0)) → cs.size = 38 → tmps.getD 4 undef = .pointer (some ⟨w.heap.size + 1, 0, none⟩) → (results Tryd.f26 tmps).run Tryd.prog W = .ok (.tuple #[.agg cs, tmps.getD 5 undef]) W) := fun tmps W cs h h4 hp => results_row_tmp (p := 4) (u := 5) (ty := 34) (by kernel_rfl) tmps _ (w.heap.size + 1) 34 _ (0, 0) _ hp h Tryd.underlying34 rfl (by rw [h4]; exact Tryd.infoM)
  rcases hne with h1 | ⟨h1, h2⟩
  all_goals
    go_enter Tryd.func26, Tryd.ntmps26
    go_wp2_with fail
    generalize ((w.alloc (.cells #[.int .i64 p, .int .i64 q] 23)).alloc (.cells ZA 34)) = V at *
    refine (HN.out _).mono ?_
    rintro e W1 ⟨rfl, s1⟩
    have c0 := s1.keep c0
    have c1 := s1.keep c1
    have rz := (s1.block _ (lt_of_heap rz) (fun f => f)).trans rz
    have t1 := sx.trans s1
    clear s1 sx
    go_wp2_with fail
    refine (HFL.out _).mono ?_
    rintro e W2 ⟨rfl, s2⟩
    have c0 := s2.keep c0
    have c1 := s2.keep c1
    have rz := (s2.block _ (lt_of_heap rz) (fun f => f)).trans rz
    have t2 := t1.trans s2
    clear s2 t1
    have a0 : ((W2.alloc (.cells #[.int .i64 P, .int .i64 Q] 23)).alloc (.cells ZA 34)).cell? ⟨W2.heap.size, 0, none⟩ = some (.int .i64 P) := by simp
    have a1 : ((W2.alloc (.cells #[.int .i64 P, .int .i64 Q] 23)).alloc (.cells ZA 34)).cell? ⟨W2.heap.size, 1, none⟩ = some (.int .i64 Q) := by simp
    have hl2 : w.heap.size + 1 < W2.heap.size := lt_of_heap rz
    go_wp2_with (refine wpList_store_whole (by rfl) 34 _ _ (by rfl) (W2.heap.size + 1) R ZA 34 (by rfl) (by rfl) (heap_alloc2_new W2 _ _) (by rw [hzs, hRs]) hRz hRo ?_; intro W3 r3 f3; have s3 : Same W2 W3 := Fr.trans (((Fr.refl _ W2).alloc _).alloc _) f3 (fun i hi e => by omega); have c0 := s3.keep c0; have c1 := s3.keep c1; have rz := (s3.block _ (lt_of_heap rz) (fun f => f)).trans rz; have a0 := (f3.cell (p := ⟨W2.heap.size, 0, none⟩) (World.block_lt_of_cell? _ _ a0) (by simp)).trans a0; have a1 := (f3.cell (p := ⟨W2.heap.size, 1, none⟩) (World.block_lt_of_cell? _ _ a1) (by simp)).trans a1; have t3 := t2.trans s3)
    clear f3 s3 t2
    refine (HF.out _).mono ?_
    rintro e W4 ⟨rfl, s4⟩
    have c0 := s4.keep c0
    have c1 := s4.keep c1
    have rz := (s4.block _ (lt_of_heap rz) (fun f => f)).trans rz
    have a0 := s4.keep a0
    have a1 := s4.keep a1
    have r3 := (s4.block _ (lt_of_heap r3) (fun f => f)).trans r3
    have t4 := t3.trans s4
    clear s4 t3
    go_wp2_with (refine wpList_load_want (by rfl) 34 _ (by rfl) (W2.heap.size + 1) (by rfl) 34 R (0, 0) _ r3 Tryd.underlying34 rfl hRz ?_)
    refine (HM.out _).mono ?_
    rintro e W5 ⟨rfl, s5⟩
    have c0 := s5.keep c0
    have c1 := s5.keep c1
    have rz := (s5.block _ (lt_of_heap rz) (fun f => f)).trans rz
    have a0 := s5.keep a0
    have a1 := s5.keep a1
    have r3 := (s5.block _ (lt_of_heap r3) (fun f => f)).trans r3
    have t5 := t4.trans s5
    clear s5 t4
    go_wp2_with (refine wpList_load_want (by rfl) 34 _ (by rfl) (W2.heap.size + 1) (by rfl) 34 R (0, 0) _ r3 Tryd.underlying34 rfl hRz ?_)
    refine (HB.out _).mono ?_
    rintro e W6 ⟨rfl, s6⟩
    have c0 := s6.keep c0
    have c1 := s6.keep c1
    have rz := (s6.block _ (lt_of_heap rz) (fun f => f)).trans rz
    have a0 := s6.keep a0
    have a1 := s6.keep a1
    have r3 := (s6.block _ (lt_of_heap r3) (fun f => f)).trans r3
    have t6 := t5.trans s6
    clear s6 t5
    go_wp2_with fail
    refine (HN8.out _).mono ?_
    rintro e W7 ⟨rfl, s7⟩
    have c0 := s7.keep c0
    have c1 := s7.keep c1
    have rz := (s7.block _ (lt_of_heap rz) (fun f => f)).trans rz
    have a0 := s7.keep a0
    have a1 := s7.keep a1
    have r3 := (s7.block _ (lt_of_heap r3) (fun f => f)).trans r3
    have t7 := t6.trans s7
    clear s7 t6
    go_wp2_with (refine wpList_store_whole (by rfl) 34 _ _ (by rfl) (w.heap.size + 1) ZA ZA 34 (by rfl) (by rfl) rz rfl hzz hzo ?_; intro WE rE fE)
    exact bodyPost_ret (HRES.out _ _ _ rE hzs rfl) rfl ⟨rfl, Fr.trans t7 fE (fun i hi e => by omega)⟩

set_option maxRecDepth 100000 in
set_option maxHeartbeats 2000000 in
theorem slot_record {p q : Int} {n n8 : Nat} {page S NS FS N8 S2 : ByteArray} {ZA R : Array Value} (w : World) (hp0 : 0 ≤ p) (hpn : p / 8 = (n : Int)) (hps : n ≤ page.size) (hpg : page.size ≤ 100000) (hS : page.extract 0 n = S) (hSn : S.size = n)
    (hzl : (#[.int .u64 0, .int .u32 0, .int .u8 0, .int .u8 0, .int .u8 0, .int .u8 0, .int .u8 0, .int .u8 0, .int .u8 0, .int .u8 0, .int .u8 0, .int .u8 0, .int .u8 0, .int .u8 0, .int .u8 0, .int .u8 0, .int .u8 0, .int .u8 0, .int .u8 0, .int .u8 0, .int .u8 0, .int .u8 0, .int .u8 0, .int .u8 0, .int .u8 0, .int .u8 0, .int .u8 0, .int .u8 0, .int .u8 0, .int .u8 0, .int .u8 0, .int .u8 0, .int .u8 0, .int .u8 0, .int .u64 0, .int .u64 0, .int .u32 0, .int .u32 0] : Array Value) = ZA) (hzs : ZA.size = 38)
    (HN : Hid (∀ W, Calls Tryd.prog 23 #[.int .i64 n] W fun e w' => e = .returned (.string NS) ∧ Same W w')) (hz : (S.toList == NS.toList) = false)
    (hRs : R.size = 38) (hRo : R.all (·.oneCell') = true) (HFL : Hid (∀ W, Calls Tryd.prog 53 #[.string S] W fun e w' => e = .returned (.tuple #[frameV p q, .agg R]) ∧ Same W w'))
    (HF : Hid (∀ W, Calls Tryd.prog 25 #[frameV p q] W fun e w' => e = .returned (.bool true) ∧ Same W w'))
    (HM : Hid (∀ W, Calls Tryd.prog 39 #[frameV p q, .agg R] W fun e w' => e = .returned (.bool true) ∧ Same W w'))
    (HB : Hid (∀ W, Calls Tryd.prog 22 #[frameV p q, .agg R] W fun e w' => e = .returned (.string FS) ∧ Same W w')) (hn8 : (n : Int) - 80 = (n8 : Int)) (HN8 : Hid (∀ W, Calls Tryd.prog 23 #[.int .i64 n8] W fun e w' => e = .returned (.string N8) ∧ Same W w')) (hadd : ∀ W : World, (Op.stringOp .add FS N8).run Tryd.prog W = .ok (.string S2) W) (hss : (S.toList == S2.toList) = true) :
    Calls Tryd.prog 26 #[frameV p q, .string page] w fun e w' => e = .returned (.tuple #[.agg R, .int .i64 1]) ∧ Same w w' := by
  have hRz : (Tryd.prog.info? 34).map (·.size) = some R.size := by rw [Tryd.infoM, hRs]
  have hn8 := hn8
  have hadd := hadd
  have hss := hss
  have hzl := hzl
  have hz := hz
  have hS := hS
  have hSn := hSn
  have hpn := hpn
  have hzz : (Tryd.prog.info? 34).map (·.size) = some ZA.size := by rw [Tryd.infoM, hzs]
  have sx : Same w ((w.alloc (.cells #[.int .i64 p, .int .i64 q] 23)).alloc (.cells ZA 34)) := ((Fr.refl _ w).alloc _).alloc _
  have rz : ((w.alloc (.cells #[.int .i64 p, .int .i64 q] 23)).alloc (.cells ZA 34)).heap[w.heap.size + 1]? = some (.cells ZA 34 (0, 0)) := heap_alloc2_new w _ _
  have c0 : ((w.alloc (.cells #[.int .i64 p, .int .i64 q] 23)).alloc (.cells ZA 34)).cell? ⟨w.heap.size, 0, none⟩ = some (.int .i64 p) := by simp
  have c1 : ((w.alloc (.cells #[.int .i64 p, .int .i64 q] 23)).alloc (.cells ZA 34)).cell? ⟨w.heap.size, 1, none⟩ = some (.int .i64 q) := by simp
  have HRES : Hid (∀ (tmps : Array Value) (W : World) (cs : Array Value), W.heap[w.heap.size + 1]? = some (.cells cs 34 (0, 0)) → cs.size = 38 → tmps.getD 4 undef = .pointer (some ⟨w.heap.size + 1, 0, none⟩) → (results Tryd.f26 tmps).run Tryd.prog W = .ok (.tuple #[.agg cs, tmps.getD 5 undef]) W) := fun tmps W cs h h4 hp => results_row_tmp (p := 4) (u := 5) (ty := 34) (by kernel_rfl) tmps _ (w.heap.size + 1) 34 _ (0, 0) _ hp h Tryd.underlying34 rfl (by rw [h4]; exact Tryd.infoM)
  go_enter Tryd.func26, Tryd.ntmps26
  go_wp2_with fail
  generalize ((w.alloc (.cells #[.int .i64 p, .int .i64 q] 23)).alloc (.cells ZA 34)) = V at *
  refine (HN.out _).mono ?_
  rintro e W1 ⟨rfl, s1⟩
  have c0 := s1.keep c0
  have c1 := s1.keep c1
  have rz := (s1.block _ (lt_of_heap rz) (fun f => f)).trans rz
  have t1 := sx.trans s1
  clear s1 sx
  go_wp2_with fail
  refine (HFL.out _).mono ?_
  rintro e W2 ⟨rfl, s2⟩
  have c0 := s2.keep c0
  have c1 := s2.keep c1
  have rz := (s2.block _ (lt_of_heap rz) (fun f => f)).trans rz
  have t2 := t1.trans s2
  clear s2 t1
  have a0 : ((W2.alloc (.cells #[.int .i64 p, .int .i64 q] 23)).alloc (.cells ZA 34)).cell? ⟨W2.heap.size, 0, none⟩ = some (.int .i64 p) := by simp
  have a1 : ((W2.alloc (.cells #[.int .i64 p, .int .i64 q] 23)).alloc (.cells ZA 34)).cell? ⟨W2.heap.size, 1, none⟩ = some (.int .i64 q) := by simp
  have hl2 : w.heap.size + 1 < W2.heap.size := lt_of_heap rz
  go_wp2_with (refine wpList_store_whole (by rfl) 34 _ _ (by rfl) (W2.heap.size + 1) R ZA 34 (by rfl) (by rfl) (heap_alloc2_new W2 _ _) (by rw [hzs, hRs]) hRz hRo ?_; intro W3 r3 f3; have s3 : Same W2 W3 := Fr.trans (((Fr.refl _ W2).alloc _).alloc _) f3 (fun i hi e => by omega); have c0 := s3.keep c0; have c1 := s3.keep c1; have rz := (s3.block _ (lt_of_heap rz) (fun f => f)).trans rz; have a0 := (f3.cell (p := ⟨W2.heap.size, 0, none⟩) (World.block_lt_of_cell? _ _ a0) (by simp)).trans a0; have a1 := (f3.cell (p := ⟨W2.heap.size, 1, none⟩) (World.block_lt_of_cell? _ _ a1) (by simp)).trans a1; have t3 := t2.trans s3)
  clear f3 s3 t2
  refine (HF.out _).mono ?_
  rintro e W4 ⟨rfl, s4⟩
  have c0 := s4.keep c0
  have c1 := s4.keep c1
  have rz := (s4.block _ (lt_of_heap rz) (fun f => f)).trans rz
  have a0 := s4.keep a0
  have a1 := s4.keep a1
  have r3 := (s4.block _ (lt_of_heap r3) (fun f => f)).trans r3
  have t4 := t3.trans s4
  clear s4 t3
  go_wp2_with (refine wpList_load_want (by rfl) 34 _ (by rfl) (W2.heap.size + 1) (by rfl) 34 R (0, 0) _ r3 Tryd.underlying34 rfl hRz ?_)
  refine (HM.out _).mono ?_
  rintro e W5 ⟨rfl, s5⟩
  have c0 := s5.keep c0
  have c1 := s5.keep c1
  have rz := (s5.block _ (lt_of_heap rz) (fun f => f)).trans rz
  have a0 := s5.keep a0
  have a1 := s5.keep a1
  have r3 := (s5.block _ (lt_of_heap r3) (fun f => f)).trans r3
  have t5 := t4.trans s5
  clear s5 t4
  go_wp2_with (refine wpList_load_want (by rfl) 34 _ (by rfl) (W2.heap.size + 1) (by rfl) 34 R (0, 0) _ r3 Tryd.underlying34 rfl hRz ?_)
  refine (HB.out _).mono ?_
  rintro e W6 ⟨rfl, s6⟩
  have c0 := s6.keep c0
  have c1 := s6.keep c1
  have rz := (s6.block _ (lt_of_heap rz) (fun f => f)).trans rz
  have a0 := s6.keep a0
  have a1 := s6.keep a1
  have r3 := (s6.block _ (lt_of_heap r3) (fun f => f)).trans r3
  have t6 := t5.trans s6
  clear s6 t5
  go_wp2_with fail
  refine (HN8.out _).mono ?_
  rintro e W7 ⟨rfl, s7⟩
  have c0 := s7.keep c0
  have c1 := s7.keep c1
  have rz := (s7.block _ (lt_of_heap rz) (fun f => f)).trans rz
  have a0 := s7.keep a0
  have a1 := s7.keep a1
  have r3 := (s7.block _ (lt_of_heap r3) (fun f => f)).trans r3
  have t7 := t6.trans s7
  clear s7 t6
  go_wp2_with (first | (refine wpList_load_want (by rfl) 34 _ (by rfl) (W2.heap.size + 1) (by rfl) 34 R (0, 0) _ r3 Tryd.underlying34 rfl hRz ?_) | (refine wpList_store_whole (by rfl) 34 _ _ (by rfl) (w.heap.size + 1) R ZA 34 (by rfl) (by rfl) rz (by rw [hzs, hRs]) hRz hRo ?_; intro WE rE fE))
  exact bodyPost_ret (HRES.out _ _ _ rE hRs rfl) rfl ⟨rfl, Fr.trans t7 fE (fun i hi e => by omega)⟩


theorem beqL (a b : ByteArray) : (a.toList == b.toList) = decide (a = b) := by
  rw [Bool.eq_iff_iff, beq_iff_eq, decide_eq_true_eq, ByteArray.toList_eq, ByteArray.toList_eq]
  exact ⟨bytes_ext, fun h => by rw [h]⟩
theorem slot_calls {p q : Int} (hf : frameP p q = true) (page : ByteArray) (hsz : (page.size : Int) = p) (w : World) :
    Calls Tryd.prog 26 #[frameV p q, .string page] w fun e w' => e = .returned (.tuple #[metaV (slotR p q (sectS p page)), .int .i64 (slotK p q (sectS p page))]) ∧ Same w w' := by
  obtain ⟨hp4, hq1, hq2⟩ := frameP_cases hf
  obtain ⟨n, hn⟩ : ∃ n : Nat, p = ((8 * n : Nat) : Int) := ⟨p.toNat / 8, by omega⟩
  obtain ⟨S, hS⟩ : ∃ S, S = sectS p page := ⟨_, rfl⟩
  have hS' : page.extract 0 n = S := by rw [hS]; unfold sectS; rw [hn]; congr 1; omega
  have hSn : S.size = n := by rw [← hS', ByteArray.size_extract]; omega
  have hn1 : 80 ≤ n ∧ n ≤ 1024 := by omega
  have hm := recAt_ok S (by omega)
  have HFL := fields_calls S (by omega) (by omega)
  have hzz := arr_one zeroRec
  have HN := noughts_calls n (by omega)
  have hfs := formS_size (pAt S) (qAt S) (recAt S) hm.d
  have hfill : formS (pAt S) (qAt S) (recAt S) ++ noughtS (n - 80) = fillS (formS (pAt S) (qAt S) (recAt S)) S.size := by unfold fillS; rw [hfs, hSn]
  rw [← hS]
  have hbz : (S.toList == (noughtS n).toList) = decide (S = noughtS S.size) := by rw [beqL, hSn]
  rcases slotK_cases p q S with ⟨h0, hk, hr⟩ | ⟨h0, hl, hk, hr⟩ | ⟨h0, hl, hne, hk, hr⟩ | ⟨h0, hl, heq, hk, hr⟩
  · rw [hk, hr]
    rw [decide_eq_true h0] at hbz
    exact slot_blank w (by omega) (by omega) (by omega) (by omega) hS' hSn zeroRec_lit rfl hzz HN hbz
  all_goals rw [decide_eq_false h0] at hbz
  · rw [hk, hr]
    by_cases b1 : frameP (pDoc S) (qAt S) = true
    · have HF := rframe_calls (pDoc S) (qAt S)
      rw [b1] at HF
      have ep := pDoc_eq S (qAt S) b1
      rw [ep] at HF HFL b1
      have HM := rmay_calls b1 (recAt S) hm
      by_cases b2 : (numP (recAt S) && rootP (qAt S) (recAt S)) = true
      · rw [b2] at HM
        have hss : (S.toList == (fillS (formS (pAt S) (qAt S) (recAt S)) S.size).toList) = false := by
          rw [beqL, decide_eq_false_iff_not]
          intro e
          unfold laidM mayM at hl
          rw [b1, Bool.true_and, b2, Bool.true_and, decide_eq_false_iff_not] at hl
          exact hl e
        exact slot_bytes w (by omega) (by omega) (by omega) (by omega) hS' hSn zeroRec_lit rfl hzz HN hbz (arr_size _ hm.d) (arr_one _) HFL HF HM (bytes_calls b1 _ hm) (n8 := n - 80) (by omega) (noughts_calls _ (by omega)) (add_run hfill (by rw [hfs, noughtS_size]; omega)) hss
      · rw [Bool.not_eq_true] at b2
        rw [b2] at HM
        exact slot_may w (by omega) (by omega) (by omega) (by omega) hS' hSn zeroRec_lit rfl hzz HN hbz (arr_size _ hm.d) (arr_one _) HFL HF HM
    · rw [Bool.not_eq_true] at b1
      have HF := rframe_calls (pDoc S) (qAt S)
      rw [b1] at HF
      exact slot_frame w (by omega) (by omega) (by omega) (by omega) hS' hSn zeroRec_lit rfl hzz HN hbz (arr_size _ hm.d) (arr_one _) HFL HF
  all_goals
    have hl2 := hl
    unfold laidM at hl2
    rw [Bool.and_eq_true, decide_eq_true_eq] at hl2
    obtain ⟨hmay, hform⟩ := hl2
    obtain ⟨b1, b2, b3⟩ := mayM_parts hmay
    have HF := rframe_calls (pDoc S) (qAt S)
    rw [pDoc_frame S (by omega), b1] at HF
    have ep := pDoc_eq S (qAt S) (by rw [pDoc_frame S (by omega)]; exact b1)
    rw [ep] at HF HFL
    have HM := rmay_calls b1 (recAt S) hm
    rw [b2, b3] at HM
    have hss : (S.toList == (fillS (formS (pAt S) (qAt S) (recAt S)) S.size).toList) = true := by
      rw [beqL, decide_eq_true_eq]; exact hform
    have HB := bytes_calls b1 _ hm
  · rw [hk, hr]
    refine slot_foreign w (by omega) (by omega) (by omega) (by omega) hS' hSn zeroRec_lit rfl hzz HN hbz (arr_size _ hm.d) (arr_one _) HFL HF HM HB (n8 := n - 80) (by omega) (noughts_calls _ (by omega)) (add_run hfill (by rw [hfs, noughtS_size]; omega)) hss ?_
    by_cases e1 : pAt S = p
    · exact Or.inr ⟨by rw [beq_iff_eq]; exact e1, by rw [beq_eq_false_iff_ne]; intro e2; exact hne ⟨e1, e2⟩⟩
    · exact Or.inl (by rw [beq_eq_false_iff_ne]; exact e1)
  · rw [hk, hr]
    obtain ⟨e1, e2⟩ := heq
    rw [e1, e2] at HFL HF HM HB hfill hss hfs
    exact slot_record w (by omega) (by omega) (by omega) (by omega) hS' hSn zeroRec_lit rfl HN hbz (arr_size _ hm.d) (arr_one _) HFL HF HM HB (n8 := n - 80) (by omega) (noughts_calls _ (by omega)) (add_run hfill (by rw [hfs, noughtS_size]; omega)) hss
end Go.Proofs.YtjfkkjangebblaaDoor
