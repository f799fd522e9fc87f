/- Encode; what parse holds. -/
import Derived.Test.YtaknpcimdpdekaaDoorM5
namespace Go.Proofs.YtaknpcimdpdekaaDoor
open Go.RowKit

theorem range_of_row {w : World} {b : Nat} {t : TypeId} {cs : List Value} (h : w.heap[b]? = some (.cells cs.toArray t (0, 0))) : w.rangeAt b 0 cs := by
  intro j v hv
  rw [Nat.zero_add, cell_of_row _ _ _ _ _ _ h]; simpa using hv
theorem range_same {w w' : World} {b o : Nat} {cs : List Value} (h : w.rangeAt b o cs) (s : Same w w') : w'.rangeAt b o cs := fun j v hv => s.keep (h j v hv)
/-- What Encode answers. -/
def encS (p q : Int) (m : Rec) : ByteArray := if mayM p q m = true then fillS (formS p q m) p.toNat else ⟨#[]⟩
theorem chkM_ok {p q : Int} {m : Rec} (h : mayM p q m = true) : chkM p q m = 0 := by unfold chkM; rw [if_pos h]
theorem chkM_bad {p q : Int} {m : Rec} (h : mayM p q m = false) : chkM p q m = 2 := by unfold chkM; rw [h]; rfl

set_option maxRecDepth 100000 in
set_option maxHeartbeats 2000000 in
theorem encode_calls (p q : Int) (m : Rec) (hm : RecOk m) (w : World) (ht : TabAt w) (hz : TzAt w) :
    Calls Tryd.prog 11 #[frameV p q, metaV m] w fun e w' => e = .returned (.tuple #[.string (encS p q m), .int .i64 (chkM p q m)]) ∧ Same w w' := by
  have HC : Hid (∀ W, Calls Tryd.prog 16 #[frameV p q, metaV m] W fun e w' => e = .returned (.int .i64 (chkM p q m)) ∧ Same W w') := check_calls p q m hm.d
  have hs : (Tryd.prog.info? 34).map (·.size) = some m.arr.size := by rw [Tryd.infoM, arr_size m hm.d]
  obtain ⟨V, hV⟩ : ∃ V, V = ((w.alloc (.cells #[.int .i64 p, .int .i64 q] 23)).alloc (.cells m.arr 34)) := ⟨_, rfl⟩
  have sx : Same w V := by rw [hV]; exact ((Fr.refl _ w).alloc _).alloc _
  have hA : V.heap[w.heap.size + 1]? = some (.cells m.arr 34 (0, 0)) := by rw [hV]; exact heap_alloc2_new w _ _
  have hA' := hA
  rw [hV] at hA'
  have c0 : V.cell? ⟨w.heap.size, 0, none⟩ = some (.int .i64 p) := by rw [hV]; simp
  have c1 : V.cell? ⟨w.heap.size, 1, none⟩ = some (.int .i64 q) := by rw [hV]; simp
  by_cases h : mayM p q m = true
  · obtain ⟨hf, _, _⟩ := mayM_parts h
    obtain ⟨hp4, _, _⟩ := frameP_cases hf
    have hes : encS p q m = fillS (formS p q m) p.toNat := by unfold encS; rw [if_pos h]
    rw [chkM_ok h] at HC ⊢
    rw [hes]
    have HF : Hid (∀ W, Same w W → Calls Tryd.prog 24 #[frameV p q, metaV m] W fun e w' => e = .returned (.string (formS p q m)) ∧ Same W w') := fun W h => form_calls hf m hm W (ht.same h) (hz.same h)
    have hfs := formS_size p q m hm.d
    obtain ⟨n, rfl⟩ : ∃ n : Nat, p = (n : Int) := ⟨p.toNat, by omega⟩
    have hn2 : n ≤ 1000000 ∧ 80 ≤ n := by omega
    have HL : Hid (∀ W, Calls Tryd.prog 19 #[.string (formS n q m), .int .i64 n] W fun e w' => e = .returned (.string (fillS (formS n q m) n)) ∧ Same W w') := fun W => filled_calls (formS n q m) n (by omega) (by omega) W
    have hpn : (n : Int).toNat = n := by omega
    rw [hpn]
    generalize fillS (formS n q m) n = FS at *
    generalize formS n q m = F at *
    have hszL : (Tryd.prog.info? 34).map (·.size) = some m.cells.length := by rw [Tryd.infoM, cells_length m hm.d]
    unfold metaV Rec.arr at *
    generalize m.cells = AL at *
    clear hf hp4 hes hn2 hfs ht hz hm h hpn
    go_enter Tryd.func11, Tryd.ntmps11
    go_wp2_with (first | (refine wpList_load_row (by rfl) 34 _ (by rfl) (w.heap.size + 1) (by rfl) 34 AL.toArray (0, 0) _ hA' Tryd.underlying34 rfl hs ?_))
    rw [← hV]
    clear hV hA'
    refine (HC.out _).mono ?_
    rintro e W1 ⟨rfl, s1⟩
    have hA1 := (s1.block _ (lt_of_heap hA) (fun f => f)).trans hA
    have c0 := s1.keep c0
    have c1 := s1.keep c1
    have t1 := sx.trans s1
    clear s1 sx hA
    have q1 : W1.rangeAt (w.heap.size + 1) 0 AL := range_of_row hA1
    go_wp2_with fail
    refine wp_region_held_drew (S := fun w' => w'.rangeAt (w.heap.size + 1) 0 AL ∧ w'.cell? ⟨w.heap.size, 0, none⟩ = some (.int .i64 n) ∧ w'.cell? ⟨w.heap.size, 1, none⟩ = some (.int .i64 q)) (by kernel_rfl) (⟨q1, c0, c1⟩) (fun hHeld => ?_)
    refine wpAnyH_take (i := 0) (oi := { dst := some 13, op := Op.load 23 (Operand.tmp 2), type := 23, pos := "meta.go:54", after := #[], guard := none }) (v := .agg #[.int .i64 n, .int .i64 q]) rfl (by kernel_rfl) (by kernel_rfl) (by kernel_rfl) (fun _ _ _ h => h) (Or.inl ⟨by rfl, fun w hSw => by (obtain ⟨y0, y1, y2⟩ := hSw; go_simp)⟩) (by assumption) ?_
    try simp only [Act.put, List.setIfInBounds_toArray, List.set_cons_zero, List.set_cons_succ]
    refine wpAnyH_take (i := 1) (oi := { dst := some 14, op := Op.load 34 (Operand.tmp 3), type := 34, pos := "meta.go:54", after := #[], guard := none }) (v := .agg (AL).toArray) rfl (by kernel_rfl) (by kernel_rfl) (by kernel_rfl) (fun _ _ _ h => h) (yieldsIf_load_mid (by rfl) 34 _ rfl (w.heap.size + 1) 0 rfl (AL) _ (fun w hSw => hSw.1) Tryd.underlying34 rfl hszL) (by assumption) ?_
    try simp only [Act.put, List.setIfInBounds_toArray, List.set_cons_zero, List.set_cons_succ]
    refine wpAnyH_take (i := 3) (oi := { dst := some 16, op := Op.fieldAddr 23 (Operand.tmp 2) 0, type := 0, pos := "meta.go:54", after := #[], guard := none }) (v := .pointer (some ⟨w.heap.size, 0, none⟩)) rfl (by kernel_rfl) (by kernel_rfl) (by kernel_rfl) (fun _ _ _ h => h) (Or.inl ⟨by rfl, fun w hSw => by (obtain ⟨y0, y1, y2⟩ := hSw; go_simp)⟩) (by assumption) ?_
    try simp only [Act.put, List.setIfInBounds_toArray, List.set_cons_zero, List.set_cons_succ]
    refine wpAnyH_take (i := 4) (oi := { dst := some 17, op := Op.load 3 (Operand.tmp 16), type := 3, pos := "meta.go:54", after := #[{ on := 3, ground := Ground.data }], guard := none }) (v := .int .i64 n) rfl (by kernel_rfl) (by kernel_rfl) (by kernel_rfl) (fun _ _ _ h => h) (Or.inl ⟨by rfl, fun w hSw => by (obtain ⟨y0, y1, y2⟩ := hSw; go_simp)⟩) (by assumption) ?_
    try simp only [Act.put, List.setIfInBounds_toArray, List.set_cons_zero, List.set_cons_succ]
    refine wpAnyH_ready (rs := [2]) (by kernel_rfl) (by simp) ?_
    refine AllReadyH.cons (o := { dst := some 15, op := Op.call { callee := Callee.value (Operand.func 24), args := #[Operand.tmp 13, Operand.tmp 14], argTypes := #[23, 34] }, type := 9, pos := "meta.go:54", after := #[{ on := 0, ground := Ground.data }, { on := 1, ground := Ground.data }], guard := none }) rfl (fun K hK => ?_) AllReadyH.nil
    go_simp
    go_at_call 24
    refine (HF.out _ (Fr.drew t1)).mono ?_
    rintro e W2 ⟨rfl, s2⟩
    try go_wp2_with fail
    have r2 := range_same (w := W1.drew) q1 s2
    have i0 := Same.keep (w := W1.drew) s2 (a := ⟨w.heap.size, 0, none⟩) c0
    have i1 := Same.keep (w := W1.drew) s2 (a := ⟨w.heap.size, 1, none⟩) c1
    have t2 := Same.trans (Fr.drew t1) s2
    refine hK.out _ _ (⟨r2, i0, i1⟩) (fun hHeld => ?_)
    clear hK K
    try simp only [Act.put, List.setIfInBounds_toArray, List.set_cons_zero, List.set_cons_succ]
    refine wpAnyH_ready (rs := [5]) (by kernel_rfl) (by simp) ?_
    refine AllReadyH.cons (o := { dst := some 18, op := Op.call { callee := Callee.value (Operand.func 19), args := #[Operand.tmp 15, Operand.tmp 17], argTypes := #[9, 3] }, type := 9, pos := "meta.go:54", after := #[{ on := 2, ground := Ground.data }, { on := 4, ground := Ground.data }, { on := 2, ground := Ground.chain }], guard := none }) rfl (fun K hK => ?_) AllReadyH.nil
    go_simp
    go_at_call 19
    refine (HL.out _).mono ?_
    rintro e W3 ⟨rfl, s3⟩
    try go_wp2_with fail
    have r3 := range_same r2 s3
    have j0 := s3.keep i0
    have j1 := s3.keep i1
    have t3 := t2.trans s3
    refine hK.out _ _ (⟨r3, j0, j1⟩) (fun hHeld => ?_)
    clear hK K
    try simp only [Act.put, List.setIfInBounds_toArray, List.set_cons_zero, List.set_cons_succ]
    refine wpAnyH_take (i := 6) (oi := { dst := some 4, op := Op.assign (Operand.tmp 18), type := 9, pos := "meta.go:54", after := #[{ on := 5, ground := Ground.data }, { on := 5, ground := Ground.chain }, { on := 0, ground := Ground.phase }, { on := 1, ground := Ground.phase }, { on := 2, ground := Ground.phase }, { on := 3, ground := Ground.phase }, { on := 4, ground := Ground.phase }, { on := 5, ground := Ground.phase }], guard := none }) (v := .string FS) rfl (by kernel_rfl) (by kernel_rfl) (by kernel_rfl) (fun _ _ _ h => h) (Or.inl ⟨by rfl, fun w hSw => by (obtain ⟨y0, y1, y2⟩ := hSw; go_simp)⟩) (by assumption) ?_
    try simp only [Act.put, List.setIfInBounds_toArray, List.set_cons_zero, List.set_cons_succ]
    refine wpAnyH_take (i := 7) (oi := { dst := some 5, op := Op.assign (Operand.const (Value.int IntKind.i64 0)), type := 36, pos := "meta.go:54", after := #[{ on := 6, ground := Ground.chain }, { on := 0, ground := Ground.phase }, { on := 1, ground := Ground.phase }, { on := 2, ground := Ground.phase }, { on := 3, ground := Ground.phase }, { on := 4, ground := Ground.phase }, { on := 5, ground := Ground.phase }, { on := 6, ground := Ground.phase }], guard := none }) (v := .int .i64 0) rfl (by kernel_rfl) (by kernel_rfl) (by kernel_rfl) (fun _ _ _ h => h) (Or.inl ⟨by rfl, fun w hSw => by (obtain ⟨y0, y1, y2⟩ := hSw; go_simp)⟩) (by assumption) ?_
    try simp only [Act.put, List.setIfInBounds_toArray, List.set_cons_zero, List.set_cons_succ]
    refine wpAnyH_done (by kernel_rfl) ?_ _
    go_wp2_with fail
    go_ret2
    exact ⟨rfl, t3⟩
  · have h' : mayM p q m = false := by simpa using h
    have hes : encS p q m = ⟨#[]⟩ := by unfold encS; rw [if_neg h]
    rw [chkM_bad h'] at HC ⊢
    rw [hes]
    unfold metaV at *
    generalize m.arr = A at *
    clear hes h h' ht hz hm
    go_enter Tryd.func11, Tryd.ntmps11
    go_wp2_with (first | (refine wpList_load_row (by rfl) 34 _ (by rfl) (w.heap.size + 1) (by rfl) 34 A (0, 0) _ hA' Tryd.underlying34 rfl hs ?_))
    rw [← hV]
    refine (HC.out _).mono ?_
    rintro e W1 ⟨rfl, s1⟩
    go_wp2_with fail
    go_ret2
    exact ⟨rfl, sx.trans s1⟩

theorem list_set_tail {α : Type} (a b : α) (l t : List α) (i : Nat) (x : α) (h : l.length = 32) : (a :: b :: (l ++ t)).set (34 + i) x = a :: b :: (l ++ t.set i x) := by
  rw [show 34 + i = (32 + i) + 1 + 1 from by omega, List.set_cons_succ, List.set_cons_succ, List.set_append_right _ _ (by omega), h, Nat.add_sub_cancel_left]
theorem MAt.set_ {W : World} {b : Nat} {m m' : Rec} (h : MAt W b m) (i : Nat) (x : Value) (hx : m.cells.set i x = m'.cells) : MAt (W.setCell ⟨b, i, none⟩ x) b m' := by
  have := heap_setCell_same W b i m.arr 34 x h
  rw [MAt, this, Rec.arr, Rec.arr, List.setIfInBounds_toArray, hx]
theorem MAt.sets {W : World} {b : Nat} {m : Rec} (h : MAt W b m) (hd : m.d.length = 32) :
    (∀ x : Nat, MAt (W.setCell ⟨b, 0, none⟩ (.int .u64 x)) b { m with v := x }) ∧ (∀ x : Nat, MAt (W.setCell ⟨b, 1, none⟩ (.int .u32 x)) b { m with rp := x }) ∧ (∀ x : Nat, MAt (W.setCell ⟨b, 34, none⟩ (.int .u64 x)) b { m with c := x }) ∧
    (∀ x : Nat, MAt (W.setCell ⟨b, 35, none⟩ (.int .u64 x)) b { m with rv := x }) ∧ (∀ x : Nat, MAt (W.setCell ⟨b, 36, none⟩ (.int .u32 x)) b { m with li := x }) ∧ (∀ x : Nat, MAt (W.setCell ⟨b, 37, none⟩ (.int .u32 x)) b { m with pg := x }) := by
  have hl : (bcells m.d).length = 32 := by rw [bcells_length, hd]
  exact ⟨fun x => h.set_ 0 _ rfl, fun x => h.set_ 1 _ rfl, fun x => h.set_ 34 _ (list_set_tail _ _ _ _ 0 _ hl), fun x => h.set_ 35 _ (list_set_tail _ _ _ _ 1 _ hl), fun x => h.set_ 36 _ (list_set_tail _ _ _ _ 2 _ hl), fun x => h.set_ 37 _ (list_set_tail _ _ _ _ 3 _ hl)⟩
theorem setCells_list (b : Nat) (t : TypeId) (vs : List Value) : ∀ (W : World) (pre mid post : List Value), mid.length = vs.length → W.heap[b]? = some (.cells (pre ++ (mid ++ post)).toArray t (0, 0)) → (W.setCells b pre.length vs).heap[b]? = some (.cells (pre ++ (vs ++ post)).toArray t (0, 0)) := by
  induction vs with
  | nil => intro W pre mid post hm h; rw [List.length_nil, List.length_eq_zero_iff] at hm; subst hm; exact h
  | cons x vs ih =>
    intro W pre mid post hm h
    match mid, hm with
    | y :: mid, hm =>
      have h1 := heap_setCell_same W b pre.length _ t x h
      rw [List.setIfInBounds_toArray, List.set_append_right _ _ (Nat.le_refl _), Nat.sub_self] at h1
      have h2 := ih (W.setCell ⟨b, pre.length, none⟩ x) (pre ++ [x]) mid post (by simpa using hm) (by rw [h1]; simp)
      rw [World.setCells]
      rw [show (pre ++ [x]).length = pre.length + 1 from by simp] at h2
      rw [h2]
      simp
theorem MAt.set_sum {W : World} {b : Nat} {m : Rec} (h : MAt W b m) (hd : m.d.length = 32) (D : List UInt8) (hD : D.length = 32) : MAt (W.setCells b 2 (bcells D)) b { m with d := D } :=
  setCells_list b 34 (bcells D) W [.int .u64 m.v, .int .u32 m.rp] (bcells m.d) _ (by rw [bcells_length, bcells_length, hd, hD]) h
theorem MAt.there_sum {W : World} {b : Nat} {m : Rec} (h : MAt W b m) (hd : m.d.length = 32) : W.there b 2 32 := by
  intro j hj
  refine ⟨?_, frozen_of_row W b (2 + j) _ _ h⟩
  rw [cell_of_row _ _ _ _ _ _ h, Array.getElem?_eq_getElem (by rw [arr_size m hd]; omega)]; rfl

/-- What parse holds: a frame's row and a record's row that w lacks, and a Reader behind them. -/
def PSt (w W : World) (b : Nat) (s : ByteArray) (k : Nat) (fp fq : Int) (m : Rec) : Prop :=
  RdAt W b s k 0 ∧ w.heap.size + 1 < b ∧ W.heap[w.heap.size]? = some (.cells #[.int .i64 fp, .int .i64 fq] 23 (0, 0)) ∧ MAt W (w.heap.size + 1) m ∧ Same w W
theorem PSt.step {w W W' : World} {b : Nat} {s : ByteArray} {k k' : Nat} {fp fq : Int} {m : Rec} (h : PSt w W b s k fp fq m) (h' : RdAt W' b s k' 0) (st : RdStep b W W') : PSt w W' b s k' fp fq m := by
  obtain ⟨h1, h2, h3, h4, h5⟩ := h
  exact ⟨h', h2, by rw [st.block _ (lt_of_heap h3) (fun e => by omega)]; exact h3, by rw [MAt, st.block _ (lt_of_heap h4) (fun e => by omega)]; exact h4, Fr.trans h5 st (fun i hi e => by omega)⟩
theorem pst_open (w : World) (s : ByteArray) (hs : s.size ≤ 281474976710656) : PSt w (((w.alloc (.cells #[.int .i64 0, .int .i64 0] 23)).alloc (.cells zeroRec.arr 34)).alloc (.cells #[.bool true, .string s, .int .i64 0, .int .i64 0] 110)) (w.heap.size + 2) s 0 0 0 zeroRec := by
  refine ⟨⟨?_, Nat.zero_le _, hs⟩, by omega, ?_, ?_, (((Fr.refl _ w).alloc _).alloc _).alloc _⟩
  · exact heap_alloc2_new (w.alloc _) _ _ |> fun h => by simpa using h
  · rw [Below.heap_alloc _ _ _ (by simp; omega)]; exact heap_alloc2_old w _ _
  · rw [MAt, Below.heap_alloc _ _ _ (by simp)]; exact heap_alloc2_new w _ _
theorem pst_raw {w W : World} {b : Nat} {s : ByteArray} {k : Nat} {fp fq : Int} {m : Rec} (n : Nat) (hn : n ≤ 1000000) (hp : k + n ≤ s.size) (h : PSt w W b s k fp fq m) :
    Calls Tryd.prog 34 #[.pointer (some ⟨b, 0, none⟩), .int .i64 n] W fun e w' => e = .returned (.string (s.extract k (k + n))) ∧ PSt w w' b s (k + n) fp fq m := by
  have hr := rraw_calls h.1 (n : Int) (by omega)
  rw [rRaw_ok s k n hp] at hr
  exact hr.mono fun e w' ⟨he, h', st⟩ => ⟨he, h.step h' st⟩
theorem pst_u8 {w W : World} {b : Nat} {s : ByteArray} {k : Nat} {fp fq : Int} {m : Rec} (hp : k + 1 ≤ s.size) (h : PSt w W b s k fp fq m) :
    Calls Tryd.prog 35 #[.pointer (some ⟨b, 0, none⟩)] W fun e w' => e = .returned (.int .u8 (beAt s k 1)) ∧ PSt w w' b s (k + 1) fp fq m := by
  have hr := take_u8 h.1
  have e := rRaw_ok s k 1 hp
  rw [show (((1 : Nat)) : Int) = 1 from rfl] at e
  rw [e] at hr
  have hl := beAt_lt s k 1 hp
  have hw : IntKind.u8.wrap (beN (s.extract k (k + 1)).data.toList : Nat) = (beAt s k 1 : Int) := by
    have : beN (s.extract k (k + 1)).data.toList = beAt s k 1 := rfl
    rw [this, IntKind.wrap_u8]
    omega
  simp only [hw] at hr
  exact hr.mono fun e w' ⟨he, h', st⟩ => ⟨he, h.step h' st⟩
theorem pst_u32 {w W : World} {b : Nat} {s : ByteArray} {k : Nat} {fp fq : Int} {m : Rec} (hp : k + 4 ≤ s.size) (h : PSt w W b s k fp fq m) :
    Calls Tryd.prog 37 #[.pointer (some ⟨b, 0, none⟩)] W fun e w' => e = .returned (.int .u32 (beAt s k 4)) ∧ PSt w w' b s (k + 4) fp fq m := by
  have hr := take_u32 h.1
  have e := rRaw_ok s k 4 hp
  rw [show (((4 : Nat)) : Int) = 4 from rfl] at e
  rw [e] at hr
  have hl := beAt_lt s k 4 hp
  have hw : IntKind.u32.wrap (beN (s.extract k (k + 4)).data.toList : Nat) = (beAt s k 4 : Int) := by
    have : beN (s.extract k (k + 4)).data.toList = beAt s k 4 := rfl
    rw [this, IntKind.wrap_u32]
    omega
  simp only [hw] at hr
  exact hr.mono fun e w' ⟨he, h', st⟩ => ⟨he, h.step h' st⟩
theorem pst_u64 {w W : World} {b : Nat} {s : ByteArray} {k : Nat} {fp fq : Int} {m : Rec} (hp : k + 8 ≤ s.size) (h : PSt w W b s k fp fq m) :
    Calls Tryd.prog 36 #[.pointer (some ⟨b, 0, none⟩)] W fun e w' => e = .returned (.int .u64 (beAt s k 8)) ∧ PSt w w' b s (k + 8) fp fq m := by
  have hr := take_u64 h.1
  have e := rRaw_ok s k 8 hp
  rw [show (((8 : Nat)) : Int) = 8 from rfl] at e
  rw [e] at hr
  have hl := beAt_lt s k 8 hp
  have hw : IntKind.u64.wrap (beN (s.extract k (k + 8)).data.toList : Nat) = (beAt s k 8 : Int) := by
    have : beN (s.extract k (k + 8)).data.toList = beAt s k 8 := rfl
    rw [this, IntKind.wrap_u64]
    omega
  simp only [hw] at hr
  exact hr.mono fun e w' ⟨he, h', st⟩ => ⟨he, h.step h' st⟩
theorem pst_digest {w W : World} {b : Nat} {s : ByteArray} {k : Nat} {fp fq : Int} {m : Rec} (hp : k + 32 ≤ s.size) (h : PSt w W b s k fp fq m) :
    Calls Tryd.prog 38 #[.pointer (some ⟨b, 0, none⟩), .int .i64 32] W fun e w' => e = .returned (.agg (bcells (s.extract k (k + 32)).data.toList).toArray) ∧ PSt w w' b s (k + 32) fp fq m := by
  have hr := rdigest_calls h.1 32
  have e := rRaw_ok s k 32 hp
  rw [show ((widthN 32 : Nat) : Int) = ((32 : Nat) : Int) from rfl, e] at hr
  have hpd : padD (s.extract k (k + 32)) = (s.extract k (k + 32)).data.toList := by
    have := extract_len s k 32 hp
    unfold padD
    rw [← bytes_length, this]
    simp
  simp only [hpd] at hr
  exact hr.mono fun e w' ⟨he, h', st⟩ => ⟨he, h.step h' st⟩
theorem PSt.put {w W : World} {b : Nat} {s : ByteArray} {k : Nat} {fp fq : Int} {m m' : Rec} (h : PSt w W b s k fp fq m) (i : Nat) (x : Value) (hm : MAt (W.setCell ⟨w.heap.size + 1, i, none⟩ x) (w.heap.size + 1) m') : PSt w (W.setCell ⟨w.heap.size + 1, i, none⟩ x) b s k fp fq m' := by
  obtain ⟨h1, h2, h3, h4, h5⟩ := h
  have f : Fr (fun k => k = w.heap.size + 1) W (W.setCell ⟨w.heap.size + 1, i, none⟩ x) := (Fr.refl (fun k => k = w.heap.size + 1) W).setCell (p := ⟨w.heap.size + 1, i, none⟩) (fun _ => rfl) x
  exact ⟨h1.frame f (fun e => by omega), h2, by rw [f.block _ (lt_of_heap h3) (fun e => by omega)]; exact h3, hm, Fr.trans h5 f (fun i hi e => by omega)⟩
theorem PSt.putD {w W : World} {b : Nat} {s : ByteArray} {k : Nat} {fp fq : Int} {m : Rec} (h : PSt w W b s k fp fq m) (hd : m.d.length = 32) (D : List UInt8) (hD : D.length = 32) : PSt w (W.setCells (w.heap.size + 1) 2 (bcells D)) b s k fp fq { m with d := D } := by
  obtain ⟨h1, h2, h3, h4, h5⟩ := h
  have f : Fr (fun k => k = w.heap.size + 1) W (W.setCells (w.heap.size + 1) 2 (bcells D)) := Fr.setCells (S := fun k => k = w.heap.size + 1) (fun _ => rfl) _ 2 W (Fr.refl _ W)
  exact ⟨h1.frame f (fun e => by omega), h2, by rw [f.block _ (lt_of_heap h3) (fun e => by omega)]; exact h3, h4.set_sum hd D hD, Fr.trans h5 f (fun i hi e => by omega)⟩
theorem PSt.putF {w W : World} {b : Nat} {s : ByteArray} {k : Nat} {fp fq : Int} {m : Rec} (h : PSt w W b s k fp fq m) :
    (∀ x : Int, PSt w (W.setCell ⟨w.heap.size, 0, none⟩ (.int .i64 x)) b s k x fq m) ∧ (∀ x : Int, PSt w (W.setCell ⟨w.heap.size, 1, none⟩ (.int .i64 x)) b s k fp x m) := by
  obtain ⟨h1, h2, h3, h4, h5⟩ := h
  have f : ∀ i x, Fr (fun k => k = w.heap.size) W (W.setCell ⟨w.heap.size, i, none⟩ x) := fun i x => (Fr.refl (fun k => k = w.heap.size) W).setCell (p := ⟨w.heap.size, i, none⟩) (fun _ => rfl) x
  refine ⟨fun x => ⟨h1.frame (f 0 _) (fun e => by omega), h2, ?_, by rw [MAt, (f 0 _).block _ (lt_of_heap h4) (fun e => by omega)]; exact h4, Fr.trans h5 (f 0 _) (fun i hi e => by omega)⟩, fun x => ⟨h1.frame (f 1 _) (fun e => by omega), h2, ?_, by rw [MAt, (f 1 _).block _ (lt_of_heap h4) (fun e => by omega)]; exact h4, Fr.trans h5 (f 1 _) (fun i hi e => by omega)⟩⟩
  · rw [heap_setCell_same W _ 0 _ _ _ h3]; rfl
  · rw [heap_setCell_same W _ 1 _ _ _ h3]; rfl
theorem PSt.fcells {w W : World} {b : Nat} {s : ByteArray} {k : Nat} {fp fq : Int} {m : Rec} (h : PSt w W b s k fp fq m) : W.cell? ⟨w.heap.size, 0, none⟩ = some (.int .i64 fp) ∧ W.cell? ⟨w.heap.size, 1, none⟩ = some (.int .i64 fq) ∧ W.frozen? ⟨w.heap.size, 0, none⟩ = false ∧ W.frozen? ⟨w.heap.size, 1, none⟩ = false :=
  cell_of_two h.2.2.1
end Go.Proofs.YtaknpcimdpdekaaDoor
