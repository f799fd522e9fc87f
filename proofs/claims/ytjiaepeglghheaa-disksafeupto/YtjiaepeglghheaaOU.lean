/- What disks keep; the law's play. -/
import Derived.Test.YtjiaepeglghheaaOS
namespace Go.Proofs.Ytjiaepeglghheaa
open Go.RowKit

/-- What a disk keeps, whatever is done; n bounds its numbers. -/
structure DkIn (D : Dk) (n : Nat) : Prop where
  ok : DkOk D
  most : D.most ≤ 65536
  P : D.P.length ≤ D.most
  I : D.I.length ≤ D.most
  W : ∀ x ∈ D.W, x.pages ≤ D.most ∧ (x.act ≠ 2 → x.pg < D.most)
  wl : D.W.length ≤ n
  wr : D.wr ≤ n
  gr : D.gr ≤ n
  sy : D.sy ≤ n
  life : D.life ≤ n
  taken : D.taken ≤ n
theorem DkIn.sm {D : Dk} {n m : Nat} (h : DkIn D n) (hn : n ≤ m) (hm : 65536 ≤ m) : DkSm D m :=
  ⟨Nat.le_trans h.P (Nat.le_trans h.most hm), Nat.le_trans h.I (Nat.le_trans h.most hm), Nat.le_trans h.wl hn, Nat.le_trans h.wr hn, Nat.le_trans h.gr hn, Nat.le_trans h.sy hn, Nat.le_trans h.life hn, Nat.le_trans h.taken hn⟩
theorem comeP_le {pg m f : Nat} {l : List ByteArray} {x : Wt} (hl : l.length ≤ m) (hx : x.pages ≤ m ∧ (x.act ≠ 2 → x.pg < m)) : (comeP pg l x f).length ≤ m := by
  unfold comeP
  split
  · exact hl
  · split
    · rw [extP_len]; exact Nat.max_le.2 ⟨hl, hx.1⟩
    · rename_i h
      rw [List.length_set, extP_len]
      exact Nat.max_le.2 ⟨hl, hx.2 h⟩
theorem setP_le {pg m : Nat} {f : Nat → Nat} : ∀ (W : List Wt) (k : Nat) (l : List ByteArray), (∀ x ∈ W, x.pages ≤ m ∧ (x.act ≠ 2 → x.pg < m)) → l.length ≤ m → (setP pg f k W l).length ≤ m
  | [], _, _, _, h => h
  | x :: W, k, _, hw, h => setP_le W (k + 1) _ (fun y hy => hw y (List.mem_cons_of_mem _ hy)) (comeP_le h (hw x List.mem_cons_self))
theorem change_in {D : Dk} {n : Nat} {x : Wt} (h : DkIn D n) (hx : WtOk D.page x) (hb : x.pages ≤ D.most ∧ (x.act ≠ 2 → x.pg < D.most)) : DkIn (dkChange D x) (n + 1) where
  ok := ⟨h.ok.h8, h.ok.hp0, h.ok.hp1, (show ∀ s ∈ comeP D.page D.P x 255, s.size = D.page from comeP_all h.ok.h8 hx h.ok.P), h.ok.I, fun y hy => by
    rcases List.mem_append.1 hy with e | e
    · exact h.ok.W y e
    · rw [List.mem_singleton] at e; rw [e]; exact hx⟩
  most := h.most
  P := show (comeP D.page D.P x 255).length ≤ D.most from comeP_le h.P hb
  I := h.I
  W := fun y hy => by
    rcases List.mem_append.1 hy with e | e
    · exact h.W y e
    · rw [List.mem_singleton] at e; rw [e]; exact hb
  wl := by show (D.W ++ [x]).length ≤ n + 1; rw [List.length_append]; have := h.wl; simp; omega
  wr := Nat.le_succ_of_le h.wr
  gr := Nat.le_succ_of_le h.gr
  sy := Nat.le_succ_of_le h.sy
  life := Nat.le_succ_of_le h.life
  taken := Nat.le_succ_of_le h.taken
theorem DkIn.up {D : Dk} {n : Nat} (h : DkIn D n) : DkIn D (n + 1) := ⟨h.ok, h.most, h.P, h.I, h.W, Nat.le_succ_of_le h.wl, Nat.le_succ_of_le h.wr, Nat.le_succ_of_le h.gr, Nat.le_succ_of_le h.sy, Nat.le_succ_of_le h.life, Nat.le_succ_of_le h.taken⟩
theorem write_in {D : Dk} {n no : Nat} {s : ByteArray} (h : DkIn D n) : DkIn (dkWrite D no s) (n + 1) := by
  unfold dkWrite
  by_cases he : wrE D no s = 0
  · rw [if_pos he]
    have hh : no < D.P.length ∧ s.size = D.page := by
      unfold wrE at he
      split at he
      · cases he
      · split at he
        · rename_i h1
          split at he
          · rename_i h2; exact ⟨h1, h2⟩
          · cases he
        · cases he
    have c := change_in (x := wrX no s) h ⟨Nat.zero_le _, by have := h.P; have := h.most; show no < 1048576; omega, fun _ => hh.2, by show 1 < 256; decide⟩ ⟨Nat.zero_le _, fun _ => by have := h.P; show no < D.most; omega⟩
    exact ⟨⟨c.ok.h8, c.ok.hp0, c.ok.hp1, c.ok.P, c.ok.I, c.ok.W⟩, c.most, c.P, c.I, c.W, c.wl, by show D.wr + 1 ≤ n + 1; have := h.wr; omega, c.gr, c.sy, c.life, c.taken⟩
  · rw [if_neg he]; exact h.up
theorem grow_in {D : Dk} {n : Nat} {k : Int} (h : DkIn D n) : DkIn (dkGrow D k) (n + 1) := by
  unfold dkGrow
  by_cases he : grE D k = 0
  · rw [if_pos he]
    have hh : ¬ k < 1 ∧ ¬ (D.most : Int) - (D.P.length : Int) < k := by
      unfold grE at he
      split at he
      · cases he
      · split at he
        · cases he
        · rename_i h1
          split at he
          · cases he
          · rename_i h2; exact ⟨h1, h2⟩
    have hP := h.P
    have hmo := h.most
    have c := change_in (x := grX D k) h ⟨by show D.P.length + k.toNat ≤ 1048576; omega, by show (0 : Nat) < 1048576; decide, fun e => absurd rfl e, by show 2 < 256; decide⟩ ⟨by show D.P.length + k.toNat ≤ D.most; omega, fun e => absurd rfl e⟩
    exact ⟨⟨c.ok.h8, c.ok.hp0, c.ok.hp1, c.ok.P, c.ok.I, c.ok.W⟩, c.most, c.P, c.I, c.W, c.wl, c.wr, by show D.gr + 1 ≤ n + 1; have := h.gr; omega, c.sy, c.life, c.taken⟩
  · rw [if_neg he]; exact h.up
theorem sync_in {D : Dk} {n : Nat} (h : DkIn D n) : DkIn (dkSync D) (n + 1) where
  ok := ⟨h.ok.h8, h.ok.hp0, h.ok.hp1, h.ok.P, setP_all h.ok.h8 _ _ _ h.ok.W h.ok.I, fun y hy => by cases hy⟩
  most := h.most
  P := h.P
  I := setP_le _ _ _ h.W h.I
  W := fun y hy => by cases hy
  wl := Nat.zero_le _
  wr := Nat.le_succ_of_le h.wr
  gr := Nat.le_succ_of_le h.gr
  sy := Nat.succ_le_succ h.sy
  life := Nat.le_succ_of_le h.life
  taken := Nat.le_succ_of_le h.taken
theorem lose_in {D : Dk} {n : Nat} {F : List Nat} (h : DkIn D n) : DkIn (dkLose D F) (n + 1) where
  ok := ⟨h.ok.h8, h.ok.hp0, h.ok.hp1, setP_all h.ok.h8 _ _ _ h.ok.W h.ok.I, setP_all h.ok.h8 _ _ _ h.ok.W h.ok.I, fun y hy => by cases hy⟩
  most := h.most
  P := setP_le _ _ _ h.W h.I
  I := setP_le _ _ _ h.W h.I
  W := fun y hy => by cases hy
  wl := Nat.zero_le _
  wr := Nat.le_succ_of_le h.wr
  gr := Nat.le_succ_of_le h.gr
  sy := Nat.le_succ_of_le h.sy
  life := Nat.le_succ_of_le h.life
  taken := Nat.succ_le_succ h.taken
/-- A step of the law's. -/
structure Sp where
  do_ : Int
  which : Int
  no : Nat
  n : Int
  len : Int
  x : UInt8
  st : UInt8
  av : Value
  fv : Value
def spC (s : Sp) : List Value := [.int .i64 s.do_, .int .i64 s.which, .int .u32 (s.no : Int), .int .i64 s.n, .int .i64 s.len, .int .u8 (s.x.toNat : Int), .int .u8 (s.st.toNat : Int), s.av, s.fv]
def spT (s : Sp) : ByteArray := textS s.len s.x s.st 1024
def playE (D : Dk) (s : Sp) : Bool := if s.do_ = 1 then wrE D (s.no % 8) (spT s) == 0 else if s.do_ = 2 then grE D s.n == 0 else if s.do_ = 3 then (if D.off then (7 : Int) else 0) == 0 else true
def playD (D : Dk) (s : Sp) : Dk := if s.do_ = 1 then dkWrite D (s.no % 8) (spT s) else if s.do_ = 2 then dkGrow D s.n else if s.do_ = 3 then (if D.off then D else dkSync D) else D
theorem play_in {D : Dk} {n : Nat} {s : Sp} (h : DkIn D n) : DkIn (playD D s) (n + 1) := by
  unfold playD
  split
  · exact write_in h
  · split
    · exact grow_in h
    · split
      · split
        · exact h.up
        · exact sync_in h
      · exact h.up
def rOU0 : Array Oper := #[{ dst := some 3, op := Op.box 35 (Operand.tmp 1), type := 0, pos := "outright.go:30", after := #[], guard := none },
  { dst := some 4, op := Op.assign (Operand.const (Value.bool false)), type := 4, pos := "outright.go:30", after := #[], guard := none }]
def rOU1 : Array Oper := #[{ dst := some 5, op := Op.fieldAddr 35 (Operand.tmp 3) 0, type := 0, pos := "outright.go:31", after := #[], guard := none },
  { dst := some 6, op := Op.load 3 (Operand.tmp 5), type := 3, pos := "outright.go:31", after := #[{ on := 0, ground := Ground.data }], guard := none }]
def rOU2 : Array Oper := #[{ dst := some 8, op := Op.binOp BinOp.eql 3 (Operand.tmp 6) (Operand.const (Value.int IntKind.i64 1)) 3, type := 4, pos := "outright.go:32", after := #[], guard := none },
  { dst := some 7, op := Op.assign (Operand.tmp 8), type := 4, pos := "outright.go:32", after := #[{ on := 0, ground := Ground.data }], guard := none }]
def rOU3 : Array Oper := #[{ dst := some 9, op := Op.move (Operand.tmp 0), type := 24, pos := "outright.go:33", after := #[], guard := none },
  { dst := some 10, op := Op.fieldAddr 35 (Operand.tmp 3) 2, type := 0, pos := "outright.go:33", after := #[], guard := none },
  { dst := some 11, op := Op.load 29 (Operand.tmp 10), type := 29, pos := "outright.go:33", after := #[{ on := 1, ground := Ground.data }], guard := none },
  { dst := some 12, op := Op.binOp BinOp.rem 29 (Operand.tmp 11) (Operand.const (Value.int IntKind.u32 8)) 29, type := 29, pos := "outright.go:33", after := #[{ on := 2, ground := Ground.data }], guard := none },
  { dst := some 13, op := Op.fieldAddr 35 (Operand.tmp 3) 4, type := 0, pos := "outright.go:33", after := #[], guard := none },
  { dst := some 14, op := Op.load 31 (Operand.tmp 13), type := 31, pos := "outright.go:33", after := #[{ on := 4, ground := Ground.data }], guard := none },
  { dst := some 15, op := Op.call { callee := Callee.value (Operand.func 19), args := #[Operand.tmp 14, Operand.const (Value.int IntKind.i64 1024)], argTypes := #[31, 3] }, type := 9, pos := "outright.go:33", after := #[{ on := 5, ground := Ground.data }], guard := none },
  { dst := some 16, op := Op.call { callee := Callee.value (Operand.func 26), args := #[Operand.tmp 9, Operand.tmp 12, Operand.tmp 15], argTypes := #[24, 29, 9] }, type := 25, pos := "outright.go:33", after := #[{ on := 0, ground := Ground.data }, { on := 3, ground := Ground.data }, { on := 6, ground := Ground.data }, { on := 6, ground := Ground.chain }], guard := none },
  { dst := some 17, op := Op.binOp BinOp.eql 25 (Operand.tmp 16) (Operand.const (Value.int IntKind.i64 0)) 25, type := 4, pos := "outright.go:33", after := #[{ on := 7, ground := Ground.data }], guard := none },
  { dst := some 4, op := Op.assign (Operand.tmp 17), type := 4, pos := "outright.go:33", after := #[{ on := 8, ground := Ground.data }, { on := 7, ground := Ground.chain }, { on := 0, ground := Ground.phase }, { on := 1, ground := Ground.phase }, { on := 2, ground := Ground.phase }, { on := 3, ground := Ground.phase }, { on := 4, ground := Ground.phase }, { on := 5, ground := Ground.phase }, { on := 6, ground := Ground.phase }, { on := 7, ground := Ground.phase }, { on := 8, ground := Ground.phase }], guard := none }]
def rOU4 : Array Oper := #[{ dst := some 19, op := Op.binOp BinOp.eql 3 (Operand.tmp 6) (Operand.const (Value.int IntKind.i64 2)) 3, type := 4, pos := "outright.go:34", after := #[], guard := none },
  { dst := some 18, op := Op.assign (Operand.tmp 19), type := 4, pos := "outright.go:34", after := #[{ on := 0, ground := Ground.data }], guard := none }]
def rOU5 : Array Oper := #[{ dst := some 20, op := Op.move (Operand.tmp 0), type := 24, pos := "outright.go:35", after := #[], guard := none },
  { dst := some 21, op := Op.fieldAddr 35 (Operand.tmp 3) 3, type := 0, pos := "outright.go:35", after := #[], guard := none },
  { dst := some 22, op := Op.load 3 (Operand.tmp 21), type := 3, pos := "outright.go:35", after := #[{ on := 1, ground := Ground.data }], guard := none },
  { dst := some 23, op := Op.call { callee := Callee.value (Operand.func 25), args := #[Operand.tmp 20, Operand.tmp 22], argTypes := #[24, 3] }, type := 25, pos := "outright.go:35", after := #[{ on := 0, ground := Ground.data }, { on := 2, ground := Ground.data }], guard := none },
  { dst := some 24, op := Op.binOp BinOp.eql 25 (Operand.tmp 23) (Operand.const (Value.int IntKind.i64 0)) 25, type := 4, pos := "outright.go:35", after := #[{ on := 3, ground := Ground.data }], guard := none },
  { dst := some 4, op := Op.assign (Operand.tmp 24), type := 4, pos := "outright.go:35", after := #[{ on := 4, ground := Ground.data }, { on := 3, ground := Ground.chain }, { on := 0, ground := Ground.phase }, { on := 1, ground := Ground.phase }, { on := 2, ground := Ground.phase }, { on := 3, ground := Ground.phase }, { on := 4, ground := Ground.phase }], guard := none }]
def rOU6 : Array Oper := #[{ dst := some 26, op := Op.binOp BinOp.eql 3 (Operand.tmp 6) (Operand.const (Value.int IntKind.i64 3)) 3, type := 4, pos := "outright.go:36", after := #[], guard := none },
  { dst := some 25, op := Op.assign (Operand.tmp 26), type := 4, pos := "outright.go:36", after := #[{ on := 0, ground := Ground.data }], guard := none }]
def rOU7 : Array Oper := #[{ dst := some 27, op := Op.move (Operand.tmp 0), type := 24, pos := "outright.go:37", after := #[], guard := none },
  { dst := some 28, op := Op.call { callee := Callee.value (Operand.func 24), args := #[Operand.tmp 27], argTypes := #[24] }, type := 25, pos := "outright.go:37", after := #[{ on := 0, ground := Ground.data }], guard := none },
  { dst := some 29, op := Op.binOp BinOp.eql 25 (Operand.tmp 28) (Operand.const (Value.int IntKind.i64 0)) 25, type := 4, pos := "outright.go:37", after := #[{ on := 1, ground := Ground.data }], guard := none },
  { dst := some 4, op := Op.assign (Operand.tmp 29), type := 4, pos := "outright.go:37", after := #[{ on := 2, ground := Ground.data }, { on := 1, ground := Ground.chain }, { on := 0, ground := Ground.phase }, { on := 1, ground := Ground.phase }, { on := 2, ground := Ground.phase }], guard := none }]
def rOU8 : Array Oper := #[{ dst := some 4, op := Op.assign (Operand.const (Value.bool true)), type := 4, pos := "outright.go:39", after := #[], guard := none }]
def cOU : Code := (Code.seq (Code.region 0 rOU0 false) (Code.seq (Code.seq (Code.region 1 rOU1 false) (Code.block 0 (Code.seq (Code.region 2 rOU2 false) (Code.cond (Operand.tmp 7) (Code.seq (Code.region 3 rOU3 true) Code.ret) (Code.seq (Code.region 4 rOU4 false) (Code.cond (Operand.tmp 18) (Code.seq (Code.region 5 rOU5 false) Code.ret) (Code.seq (Code.region 6 rOU6 false) (Code.cond (Operand.tmp 25) (Code.seq (Code.region 7 rOU7 false) Code.ret) Code.skip)))))))) (Code.seq (Code.region 8 rOU8 false) Code.ret)))
set_option maxRecDepth 100000 in
set_option maxHeartbeats 1000000 in
theorem play_write {b n : Nat} {D : Dk} {S : Nat → Prop} {s : Sp} (w : World) (h : DkAt w b D S) (hi : DkIn D n) (hn : n ≤ 1048575) (hno : s.no < 4294967296) (hd1 : s.do_ = 1) :
    Calls Try.prog 9 #[.pointer (some ⟨b, 0, none⟩), .agg #[.int .i64 s.do_, .int .i64 s.which, .int .u32 (s.no : Int), .int .i64 s.n, .int .i64 s.len, .int .u8 (s.x.toNat : Int), .int .u8 (s.st.toNat : Int), s.av, s.fv]] w fun e w' => e = .returned (.bool (wrE D (s.no % 8) (spT s) == 0)) ∧ DkAt w' b (dkWrite D (s.no % 8) (spT s)) (Land S w w') ∧ Fr S w w' := by
  have hrem : ((s.no : Int)).tmod 8 = (s.no : Int) % 8 := Int.tmod_eq_emod_of_nonneg (by omega)
  have hd1 := hd1
  refine calls_abs (c := cOU) Try.func9 (by kernel_rfl) 30 rfl (by simp) (fun a0 hsz hd ha => ?_)
  have fa0_0 := Fe.refl a0
  unfold cOU
  refine wp_seq ?_
  refine wp_region_list ?_
  unfold rOU0
  have r_a0_1 : (execOp a0.eval { dst := some 3, op := Op.box 35 (Operand.tmp 1), type := 0, pos := "outright.go:30", after := #[], guard := none }).run Try.prog (w) = .ok (.value (.pointer (some ⟨w.heap.size, 0, none⟩))) (w.alloc (.cells #[.int .i64 s.do_, .int .i64 s.which, .int .u32 (s.no : Int), .int .i64 s.n, .int .i64 s.len, .int .u8 (s.x.toNat : Int), .int .u8 (s.st.toNat : Int), s.av, s.fv] 35)) := by
    have e1 := (show a0.eval (.tmp 1) = .agg #[.int .i64 s.do_, .int .i64 s.which, .int .u32 (s.no : Int), .int .i64 s.n, .int .i64 s.len, .int .u8 (s.x.toNat : Int), .int .u8 (s.st.toNat : Int), s.av, s.fv] from ((fa0_0.at_ 1).trans (ha 1 _ rfl)))
    clear fa0_0 ha
    generalize a0.eval = ρ at *
    go_simp
  refine fa0_0.stepW 3 (.pointer (some ⟨w.heap.size, 0, none⟩)) rfl (lb_ hsz) (wanted_none rfl) r_a0_1 (fun a0_1 fa0_1 => ?_)
  clear r_a0_1
  obtain ⟨V, hV⟩ : ∃ V, V = w.alloc (.cells #[.int .i64 s.do_, .int .i64 s.which, .int .u32 (s.no : Int), .int .i64 s.n, .int .i64 s.len, .int .u8 (s.x.toNat : Int), .int .u8 (s.st.toNat : Int), s.av, s.fv] 35) := ⟨_, rfl⟩
  rw [← hV]
  have sV : Same w V := by rw [hV]; exact (Fr.refl _ w).alloc _
  have hVr : V.heap[w.heap.size]? = some (.cells #[.int .i64 s.do_, .int .i64 s.which, .int .u32 (s.no : Int), .int .i64 s.n, .int .i64 s.len, .int .u8 (s.x.toNat : Int), .int .u8 (s.st.toNat : Int), s.av, s.fv] 35 (0, 0)) := by rw [hV]; exact heap_alloc_new w _
  clear hV
  have dV := h.same sV
  have k0 : V.cell? ⟨w.heap.size, 0, none⟩ = some (.int .i64 s.do_) := (cell_of_row _ _ _ _ _ _ hVr).trans rfl
  have k2 : V.cell? ⟨w.heap.size, 2, none⟩ = some (.int .u32 (s.no : Int)) := (cell_of_row _ _ _ _ _ _ hVr).trans rfl
  have k3 : V.cell? ⟨w.heap.size, 3, none⟩ = some (.int .i64 s.n) := (cell_of_row _ _ _ _ _ _ hVr).trans rfl
  have k4 : V.cell? ⟨w.heap.size, 4, none⟩ = some (.int .i64 s.len) := (cell_of_row _ _ _ _ _ _ hVr).trans rfl
  have k5 : V.cell? ⟨w.heap.size, 5, none⟩ = some (.int .u8 (s.x.toNat : Int)) := (cell_of_row _ _ _ _ _ _ hVr).trans rfl
  have k6 : V.cell? ⟨w.heap.size, 6, none⟩ = some (.int .u8 (s.st.toNat : Int)) := (cell_of_row _ _ _ _ _ _ hVr).trans rfl
  clear fa0_0
  refine fa0_1.move 4 (.bool false) _ (Or.inr rfl) rfl (lb_ hsz) (wanted_none rfl) rfl (fun a0_2 fa0_2 => ?_)
  clear fa0_1
  refine wpList_nil ?_
  change Code.wp _ _ _ _ _
  refine wp_seq (wp_seq ?_)
  refine wp_region_list ?_
  unfold rOU1
  have r_a0_3 : (execOp a0_2.eval { dst := some 5, op := Op.fieldAddr 35 (Operand.tmp 3) 0, type := 0, pos := "outright.go:31", after := #[], guard := none }).run Try.prog (V) = .ok (.value (.pointer (some ⟨w.heap.size, 0, none⟩))) (V) := by
    have e3 := (show a0_2.eval (.tmp 3) = .pointer (some ⟨w.heap.size, 0, none⟩) from (fa0_2.at_ 3))
    clear fa0_2 ha
    generalize a0_2.eval = ρ at *
    go_simp
  refine fa0_2.step 5 (.pointer (some ⟨w.heap.size, 0, none⟩)) rfl (lb_ hsz) (wanted_none rfl) r_a0_3 (fun a0_3 fa0_3 => ?_)
  clear r_a0_3
  clear fa0_2
  have r_a0_4 : (execOp a0_3.eval { dst := some 6, op := Op.load 3 (Operand.tmp 5), type := 3, pos := "outright.go:31", after := #[{ on := 0, ground := Ground.data }], guard := none }).run Try.prog (V) = .ok (.value (.int .i64 s.do_)) (V) := by
    have e5 := (show a0_3.eval (.tmp 5) = .pointer (some ⟨w.heap.size, 0, none⟩) from (fa0_3.at_ 5))
    clear fa0_3 ha
    generalize a0_3.eval = ρ at *
    go_simp
  refine fa0_3.step 6 (.int .i64 s.do_) rfl (lb_ hsz) (wanted_none rfl) r_a0_4 (fun a0_4 fa0_4 => ?_)
  clear r_a0_4
  clear fa0_3
  refine wpList_nil ?_
  change Code.wp _ _ _ _ _
  refine wp_block (wp_seq ?_)
  refine wp_region_list ?_
  unfold rOU2
  have r_a0_5 : (execOp a0_4.eval { dst := some 8, op := Op.binOp BinOp.eql 3 (Operand.tmp 6) (Operand.const (Value.int IntKind.i64 1)) 3, type := 4, pos := "outright.go:32", after := #[], guard := none }).run Try.prog (V) = .ok (.value (.bool true)) (V) := by
    have kc : ∀ v, a0_4.eval (.const v) = v := fun _ => rfl
    have e6 := (show a0_4.eval (.tmp 6) = .int .i64 s.do_ from (fa0_4.at_ 6))
    clear fa0_4 ha
    generalize a0_4.eval = ρ at *
    go_simp
  refine fa0_4.step 8 (.bool true) rfl (lb_ hsz) (wanted_none rfl) r_a0_5 (fun a0_5 fa0_5 => ?_)
  clear r_a0_5
  clear fa0_4
  refine fa0_5.move 7 (.bool true) _ (Or.inr rfl) rfl (lb_ hsz) (wanted_none rfl) (fa0_5.at_ 8) (fun a0_6 fa0_6 => ?_)
  clear fa0_5
  refine wpList_nil ?_
  change Code.wp _ _ _ _ _
  refine wp_cond_true (show a0_6.eval (.tmp 7) = .bool true from (fa0_6.at_ 7)) (wp_seq ?_)
  have dd : Same V V.drew := (Fr.refl (fun _ => False) V).drew
  have hBd : V.drew.heap[w.heap.size]? = some (.cells #[.int .i64 s.do_, .int .i64 s.which, .int .u32 (s.no : Int), .int .i64 s.n, .int .i64 s.len, .int .u8 (s.x.toNat : Int), .int .u8 (s.st.toNat : Int), s.av, s.fv] 35 (0, 0)) := hVr
  refine wp_region_held_drew (ops := rOU3) (S := fun Z => Z.heap[w.heap.size]? = some (.cells #[.int .i64 s.do_, .int .i64 s.which, .int .u32 (s.no : Int), .int .i64 s.n, .int .i64 s.len, .int .u8 (s.x.toNat : Int), .int .u8 (s.st.toNat : Int), s.av, s.fv] 35 (0, 0))) (by kernel_rfl) (hVr) (fun hS6 => ?_)
  refine fa0_6.takeMove 0 9 (.pointer (some ⟨b, 0, none⟩)) _ (Or.inl rfl) rfl (by kernel_rfl) (by kernel_rfl) (by kernel_rfl) (fun _ _ _ h => h) rfl (lb_ hsz) (wanted_none rfl) ((fa0_6.at_ 0).trans (ha 0 _ rfl)) hS6 (fun a0_7 fa0_7 => ?_)
  clear fa0_6
  have r_a0_8 : ∀ Z, (fun Z => Z.heap[w.heap.size]? = some (.cells #[.int .i64 s.do_, .int .i64 s.which, .int .u32 (s.no : Int), .int .i64 s.n, .int .i64 s.len, .int .u8 (s.x.toNat : Int), .int .u8 (s.st.toNat : Int), s.av, s.fv] 35 (0, 0))) Z → (execOp a0_7.eval { dst := some 10, op := Op.fieldAddr 35 (Operand.tmp 3) 2, type := 0, pos := "outright.go:33", after := #[], guard := none }).run Try.prog Z = .ok (.value (.pointer (some ⟨w.heap.size, 2, none⟩))) Z := fun Z hZ => by
    have e3 := (show a0_7.eval (.tmp 3) = .pointer (some ⟨w.heap.size, 0, none⟩) from (fa0_7.at_ 3))
    clear fa0_7 ha
    generalize a0_7.eval = ρ at *
    go_simp
  refine fa0_7.take 1 10 (.pointer (some ⟨w.heap.size, 2, none⟩)) rfl (by kernel_rfl) (by kernel_rfl) (by kernel_rfl) (fun _ _ _ h => h) rfl (lb_ hsz) (wanted_none rfl) r_a0_8 hS6 (fun a0_8 fa0_8 => ?_)
  clear r_a0_8
  clear fa0_7
  have r_a0_9 : ∀ Z, (fun Z => Z.heap[w.heap.size]? = some (.cells #[.int .i64 s.do_, .int .i64 s.which, .int .u32 (s.no : Int), .int .i64 s.n, .int .i64 s.len, .int .u8 (s.x.toNat : Int), .int .u8 (s.st.toNat : Int), s.av, s.fv] 35 (0, 0))) Z → (execOp a0_8.eval { dst := some 11, op := Op.load 29 (Operand.tmp 10), type := 29, pos := "outright.go:33", after := #[{ on := 1, ground := Ground.data }], guard := none }).run Try.prog Z = .ok (.value (.int .u32 (s.no : Int))) Z := fun Z hZ => by
    have z2 : Z.cell? ⟨w.heap.size, 2, none⟩ = some (.int .u32 (s.no : Int)) := (cell_of_row _ _ _ _ _ _ hZ).trans rfl
    have z4 : Z.cell? ⟨w.heap.size, 4, none⟩ = some (.int .i64 s.len) := (cell_of_row _ _ _ _ _ _ hZ).trans rfl
    have z5 : Z.cell? ⟨w.heap.size, 5, none⟩ = some (.int .u8 (s.x.toNat : Int)) := (cell_of_row _ _ _ _ _ _ hZ).trans rfl
    have z6 : Z.cell? ⟨w.heap.size, 6, none⟩ = some (.int .u8 (s.st.toNat : Int)) := (cell_of_row _ _ _ _ _ _ hZ).trans rfl
    have e10 := (show a0_8.eval (.tmp 10) = .pointer (some ⟨w.heap.size, 2, none⟩) from (fa0_8.at_ 10))
    clear fa0_8 ha
    generalize a0_8.eval = ρ at *
    go_simp
  refine fa0_8.take 2 11 (.int .u32 (s.no : Int)) rfl (by kernel_rfl) (by kernel_rfl) (by kernel_rfl) (fun _ _ _ h => h) rfl (lb_ hsz) (wanted_none rfl) r_a0_9 hS6 (fun a0_9 fa0_9 => ?_)
  clear r_a0_9
  clear fa0_8
  have r_a0_10 : ∀ Z, (fun Z => Z.heap[w.heap.size]? = some (.cells #[.int .i64 s.do_, .int .i64 s.which, .int .u32 (s.no : Int), .int .i64 s.n, .int .i64 s.len, .int .u8 (s.x.toNat : Int), .int .u8 (s.st.toNat : Int), s.av, s.fv] 35 (0, 0))) Z → (execOp a0_9.eval { dst := some 12, op := Op.binOp BinOp.rem 29 (Operand.tmp 11) (Operand.const (Value.int IntKind.u32 8)) 29, type := 29, pos := "outright.go:33", after := #[{ on := 2, ground := Ground.data }], guard := none }).run Try.prog Z = .ok (.value (.int .u32 ((s.no % 8 : Nat) : Int))) Z := fun Z hZ => by
    have kc : ∀ v, a0_9.eval (.const v) = v := fun _ => rfl
    have e11 := (show a0_9.eval (.tmp 11) = .int .u32 (s.no : Int) from (fa0_9.at_ 11))
    clear fa0_9 ha
    generalize a0_9.eval = ρ at *
    go_simp
  refine fa0_9.take 3 12 (.int .u32 ((s.no % 8 : Nat) : Int)) rfl (by kernel_rfl) (by kernel_rfl) (by kernel_rfl) (fun _ _ _ h => h) rfl (lb_ hsz) (wanted_none rfl) r_a0_10 hS6 (fun a0_10 fa0_10 => ?_)
  clear r_a0_10
  clear fa0_9
  have r_a0_11 : ∀ Z, (fun Z => Z.heap[w.heap.size]? = some (.cells #[.int .i64 s.do_, .int .i64 s.which, .int .u32 (s.no : Int), .int .i64 s.n, .int .i64 s.len, .int .u8 (s.x.toNat : Int), .int .u8 (s.st.toNat : Int), s.av, s.fv] 35 (0, 0))) Z → (execOp a0_10.eval { dst := some 13, op := Op.fieldAddr 35 (Operand.tmp 3) 4, type := 0, pos := "outright.go:33", after := #[], guard := none }).run Try.prog Z = .ok (.value (.pointer (some ⟨w.heap.size, 4, none⟩))) Z := fun Z hZ => by
    have e3 := (show a0_10.eval (.tmp 3) = .pointer (some ⟨w.heap.size, 0, none⟩) from (fa0_10.at_ 3))
    clear fa0_10 ha
    generalize a0_10.eval = ρ at *
    go_simp
  refine fa0_10.take 4 13 (.pointer (some ⟨w.heap.size, 4, none⟩)) rfl (by kernel_rfl) (by kernel_rfl) (by kernel_rfl) (fun _ _ _ h => h) rfl (lb_ hsz) (wanted_none rfl) r_a0_11 hS6 (fun a0_11 fa0_11 => ?_)
  clear r_a0_11
  clear fa0_10
  have r_a0_12 : ∀ Z, (fun Z => Z.heap[w.heap.size]? = some (.cells #[.int .i64 s.do_, .int .i64 s.which, .int .u32 (s.no : Int), .int .i64 s.n, .int .i64 s.len, .int .u8 (s.x.toNat : Int), .int .u8 (s.st.toNat : Int), s.av, s.fv] 35 (0, 0))) Z → (execOp a0_11.eval { dst := some 14, op := Op.load 31 (Operand.tmp 13), type := 31, pos := "outright.go:33", after := #[{ on := 4, ground := Ground.data }], guard := none }).run Try.prog Z = .ok (.value (.agg #[.int .i64 s.len, .int .u8 (s.x.toNat : Int), .int .u8 (s.st.toNat : Int)])) Z := fun Z hZ => by
    have z2 : Z.cell? ⟨w.heap.size, 2, none⟩ = some (.int .u32 (s.no : Int)) := (cell_of_row _ _ _ _ _ _ hZ).trans rfl
    have z4 : Z.cell? ⟨w.heap.size, 4, none⟩ = some (.int .i64 s.len) := (cell_of_row _ _ _ _ _ _ hZ).trans rfl
    have z5 : Z.cell? ⟨w.heap.size, 5, none⟩ = some (.int .u8 (s.x.toNat : Int)) := (cell_of_row _ _ _ _ _ _ hZ).trans rfl
    have z6 : Z.cell? ⟨w.heap.size, 6, none⟩ = some (.int .u8 (s.st.toNat : Int)) := (cell_of_row _ _ _ _ _ _ hZ).trans rfl
    have e13 := (show a0_11.eval (.tmp 13) = .pointer (some ⟨w.heap.size, 4, none⟩) from (fa0_11.at_ 13))
    clear fa0_11 ha
    generalize a0_11.eval = ρ at *
    go_simp
  refine fa0_11.take 5 14 (.agg #[.int .i64 s.len, .int .u8 (s.x.toNat : Int), .int .u8 (s.st.toNat : Int)]) rfl (by kernel_rfl) (by kernel_rfl) (by kernel_rfl) (fun _ _ _ h => h) rfl (lb_ hsz) (wanted_none rfl) r_a0_12 hS6 (fun a0_12 fa0_12 => ?_)
  clear r_a0_12
  clear fa0_11
  have r_a0_13 : (execOp a0_12.eval { dst := some 15, op := Op.call { callee := Callee.value (Operand.func 19), args := #[Operand.tmp 14, Operand.const (Value.int IntKind.i64 1024)], argTypes := #[31, 3] }, type := 9, pos := "outright.go:33", after := #[{ on := 5, ground := Ground.data }], guard := none }).run Try.prog (V.drew) = .ok (.enter 19 #[.agg #[.int .i64 s.len, .int .u8 (s.x.toNat : Int), .int .u8 (s.st.toNat : Int)], Value.int IntKind.i64 1024]) (V.drew) := by
    have kc : ∀ v, a0_12.eval (.const v) = v := fun _ => rfl
    have kf : ∀ f, a0_12.eval (.func f) = .func (.func f) #[] #[] := fun _ => rfl
    have e14 := (show a0_12.eval (.tmp 14) = .agg #[.int .i64 s.len, .int .u8 (s.x.toNat : Int), .int .u8 (s.st.toNat : Int)] from (fa0_12.at_ 14))
    clear fa0_12 ha
    generalize a0_12.eval = ρ at *
    go_simp
  refine fa0_12.oneCall 6 15 (by kernel_rfl) rfl rfl (lb_ hsz) (wanted_none rfl) r_a0_13 (text_calls V.drew (by decide)) (fun e V2 hR => ?_)
  obtain ⟨rfl, s2⟩ := hR
  clear r_a0_13
  have hS13 : (fun Z => Z.heap[w.heap.size]? = some (.cells #[.int .i64 s.do_, .int .i64 s.which, .int .u32 (s.no : Int), .int .i64 s.n, .int .i64 s.len, .int .u8 (s.x.toNat : Int), .int .u8 (s.st.toNat : Int), s.av, s.fv] 35 (0, 0))) V2 := heap_fr hBd s2 (fun f => f)
  refine ⟨_, rfl, hS13, fun a0_13 fa0_13 => ?_⟩
  clear fa0_12
  have r_a0_14 : (execOp a0_13.eval { dst := some 16, op := Op.call { callee := Callee.value (Operand.func 26), args := #[Operand.tmp 9, Operand.tmp 12, Operand.tmp 15], argTypes := #[24, 29, 9] }, type := 25, pos := "outright.go:33", after := #[{ on := 0, ground := Ground.data }, { on := 3, ground := Ground.data }, { on := 6, ground := Ground.data }, { on := 6, ground := Ground.chain }], guard := none }).run Try.prog (V2) = .ok (.enter 26 #[.pointer (some ⟨b, 0, none⟩), .int .u32 ((s.no % 8 : Nat) : Int), .string (spT s)]) (V2) := by
    have kf : ∀ f, a0_13.eval (.func f) = .func (.func f) #[] #[] := fun _ => rfl
    have e9 := (show a0_13.eval (.tmp 9) = .pointer (some ⟨b, 0, none⟩) from (fa0_13.at_ 9))
    have e12 := (show a0_13.eval (.tmp 12) = .int .u32 ((s.no % 8 : Nat) : Int) from (fa0_13.at_ 12))
    have e15 := (show a0_13.eval (.tmp 15) = .string (spT s) from (fa0_13.at_ 15))
    clear fa0_13 ha
    generalize a0_13.eval = ρ at *
    go_simp
  refine fa0_13.oneCall 7 16 (by kernel_rfl) rfl rfl (lb_ hsz) (wanted_none rfl) r_a0_14 (write_calls (s := spT s) V2 ((dV.same dd).same s2) hi.ok (hi.sm hn (by decide)) (by omega)) (fun e V3 hR => ?_)
  obtain ⟨rfl, d1, f1⟩ := hR
  clear r_a0_14
  have hS14 : (fun Z => Z.heap[w.heap.size]? = some (.cells #[.int .i64 s.do_, .int .i64 s.which, .int .u32 (s.no : Int), .int .i64 s.n, .int .i64 s.len, .int .u8 (s.x.toNat : Int), .int .u8 (s.st.toNat : Int), s.av, s.fv] 35 (0, 0))) V3 := heap_fr (heap_fr hBd s2 (fun f => f)) f1 (fun e => by have := h.lt _ e; omega)
  refine ⟨_, rfl, hS14, fun a0_14 fa0_14 => ?_⟩
  clear fa0_13
  have r_a0_15 : ∀ Z, (fun Z => Z.heap[w.heap.size]? = some (.cells #[.int .i64 s.do_, .int .i64 s.which, .int .u32 (s.no : Int), .int .i64 s.n, .int .i64 s.len, .int .u8 (s.x.toNat : Int), .int .u8 (s.st.toNat : Int), s.av, s.fv] 35 (0, 0))) Z → (execOp a0_14.eval { dst := some 17, op := Op.binOp BinOp.eql 25 (Operand.tmp 16) (Operand.const (Value.int IntKind.i64 0)) 25, type := 4, pos := "outright.go:33", after := #[{ on := 7, ground := Ground.data }], guard := none }).run Try.prog Z = .ok (.value (.bool (wrE D (s.no % 8) (spT s) == 0))) Z := fun Z hZ => by
    have kc : ∀ v, a0_14.eval (.const v) = v := fun _ => rfl
    have e16 := (show a0_14.eval (.tmp 16) = .int .i64 (wrE D (s.no % 8) (spT s)) from (fa0_14.at_ 16))
    clear fa0_14 ha
    generalize a0_14.eval = ρ at *
    go_simp
  refine fa0_14.take 8 17 (.bool (wrE D (s.no % 8) (spT s) == 0)) rfl (by kernel_rfl) (by kernel_rfl) (by kernel_rfl) (fun _ _ _ h => h) rfl (lb_ hsz) (wanted_none rfl) r_a0_15 hS14 (fun a0_15 fa0_15 => ?_)
  clear r_a0_15
  clear fa0_14
  refine fa0_15.takeMove 9 4 (.bool (wrE D (s.no % 8) (spT s) == 0)) _ (Or.inr rfl) rfl (by kernel_rfl) (by kernel_rfl) (by kernel_rfl) (fun _ _ _ h => h) rfl (lb_ hsz) (wanted_none rfl) (fa0_15.at_ 17) hS14 (fun a0_16 fa0_16 => ?_)
  clear fa0_15
  refine wpAnyH_done (by kernel_rfl) ?_ _
  have s02 : Same V V2 := dd.trans s2
  have hs2 := s02.size
  change Code.wp _ _ _ _ _
  refine wp_ret ?_
  simp only [Exit.then, Exit.inBlock]
  exact ret_abs rfl (fa0_16.defers.trans hd) (show a0_16.eval (.tmp 4) = .bool (wrE D (s.no % 8) (spT s) == 0) from (fa0_16.at_ 4)) ⟨rfl, d1.land (T := Land S w V3) (fun k hk => by rcases hk with e | e; exact Or.inl e; exact Or.inr ⟨by have := sV.size; omega, e.2⟩) (fun k hk => land_lt h.lt (Nat.le_trans sV.size (Nat.le_trans hs2 f1.size)) hk), Fr.trans ((sV.trans s02).mono (fun _ _ f => f.elim)) f1 (fun _ _ e => e)⟩
set_option maxRecDepth 100000 in
set_option maxHeartbeats 1000000 in
theorem play_grow {b n : Nat} {D : Dk} {S : Nat → Prop} {s : Sp} (w : World) (h : DkAt w b D S) (hi : DkIn D n) (hn : n ≤ 1048575) (hd1 : ¬ s.do_ = 1) (hd2 : s.do_ = 2) :
    Calls Try.prog 9 #[.pointer (some ⟨b, 0, none⟩), .agg #[.int .i64 s.do_, .int .i64 s.which, .int .u32 (s.no : Int), .int .i64 s.n, .int .i64 s.len, .int .u8 (s.x.toNat : Int), .int .u8 (s.st.toNat : Int), s.av, s.fv]] w fun e w' => e = .returned (.bool (grE D s.n == 0)) ∧ DkAt w' b (dkGrow D s.n) (Land S w w') ∧ Fr S w w' := by
  have hd1 := hd1
  have hd2 := hd2
  refine calls_abs (c := cOU) Try.func9 (by kernel_rfl) 30 rfl (by simp) (fun a0 hsz hd ha => ?_)
  have fa0_0 := Fe.refl a0
  unfold cOU
  refine wp_seq ?_
  refine wp_region_list ?_
  unfold rOU0
  have r_a0_1 : (execOp a0.eval { dst := some 3, op := Op.box 35 (Operand.tmp 1), type := 0, pos := "outright.go:30", after := #[], guard := none }).run Try.prog (w) = .ok (.value (.pointer (some ⟨w.heap.size, 0, none⟩))) (w.alloc (.cells #[.int .i64 s.do_, .int .i64 s.which, .int .u32 (s.no : Int), .int .i64 s.n, .int .i64 s.len, .int .u8 (s.x.toNat : Int), .int .u8 (s.st.toNat : Int), s.av, s.fv] 35)) := by
    have e1 := (show a0.eval (.tmp 1) = .agg #[.int .i64 s.do_, .int .i64 s.which, .int .u32 (s.no : Int), .int .i64 s.n, .int .i64 s.len, .int .u8 (s.x.toNat : Int), .int .u8 (s.st.toNat : Int), s.av, s.fv] from ((fa0_0.at_ 1).trans (ha 1 _ rfl)))
    clear fa0_0 ha
    generalize a0.eval = ρ at *
    go_simp
  refine fa0_0.stepW 3 (.pointer (some ⟨w.heap.size, 0, none⟩)) rfl (lb_ hsz) (wanted_none rfl) r_a0_1 (fun a0_1 fa0_1 => ?_)
  clear r_a0_1
  obtain ⟨V, hV⟩ : ∃ V, V = w.alloc (.cells #[.int .i64 s.do_, .int .i64 s.which, .int .u32 (s.no : Int), .int .i64 s.n, .int .i64 s.len, .int .u8 (s.x.toNat : Int), .int .u8 (s.st.toNat : Int), s.av, s.fv] 35) := ⟨_, rfl⟩
  rw [← hV]
  have sV : Same w V := by rw [hV]; exact (Fr.refl _ w).alloc _
  have hVr : V.heap[w.heap.size]? = some (.cells #[.int .i64 s.do_, .int .i64 s.which, .int .u32 (s.no : Int), .int .i64 s.n, .int .i64 s.len, .int .u8 (s.x.toNat : Int), .int .u8 (s.st.toNat : Int), s.av, s.fv] 35 (0, 0)) := by rw [hV]; exact heap_alloc_new w _
  clear hV
  have dV := h.same sV
  have k0 : V.cell? ⟨w.heap.size, 0, none⟩ = some (.int .i64 s.do_) := (cell_of_row _ _ _ _ _ _ hVr).trans rfl
  have k2 : V.cell? ⟨w.heap.size, 2, none⟩ = some (.int .u32 (s.no : Int)) := (cell_of_row _ _ _ _ _ _ hVr).trans rfl
  have k3 : V.cell? ⟨w.heap.size, 3, none⟩ = some (.int .i64 s.n) := (cell_of_row _ _ _ _ _ _ hVr).trans rfl
  have k4 : V.cell? ⟨w.heap.size, 4, none⟩ = some (.int .i64 s.len) := (cell_of_row _ _ _ _ _ _ hVr).trans rfl
  have k5 : V.cell? ⟨w.heap.size, 5, none⟩ = some (.int .u8 (s.x.toNat : Int)) := (cell_of_row _ _ _ _ _ _ hVr).trans rfl
  have k6 : V.cell? ⟨w.heap.size, 6, none⟩ = some (.int .u8 (s.st.toNat : Int)) := (cell_of_row _ _ _ _ _ _ hVr).trans rfl
  clear fa0_0
  refine fa0_1.move 4 (.bool false) _ (Or.inr rfl) rfl (lb_ hsz) (wanted_none rfl) rfl (fun a0_2 fa0_2 => ?_)
  clear fa0_1
  refine wpList_nil ?_
  change Code.wp _ _ _ _ _
  refine wp_seq (wp_seq ?_)
  refine wp_region_list ?_
  unfold rOU1
  have r_a0_3 : (execOp a0_2.eval { dst := some 5, op := Op.fieldAddr 35 (Operand.tmp 3) 0, type := 0, pos := "outright.go:31", after := #[], guard := none }).run Try.prog (V) = .ok (.value (.pointer (some ⟨w.heap.size, 0, none⟩))) (V) := by
    have e3 := (show a0_2.eval (.tmp 3) = .pointer (some ⟨w.heap.size, 0, none⟩) from (fa0_2.at_ 3))
    clear fa0_2 ha
    generalize a0_2.eval = ρ at *
    go_simp
  refine fa0_2.step 5 (.pointer (some ⟨w.heap.size, 0, none⟩)) rfl (lb_ hsz) (wanted_none rfl) r_a0_3 (fun a0_3 fa0_3 => ?_)
  clear r_a0_3
  clear fa0_2
  have r_a0_4 : (execOp a0_3.eval { dst := some 6, op := Op.load 3 (Operand.tmp 5), type := 3, pos := "outright.go:31", after := #[{ on := 0, ground := Ground.data }], guard := none }).run Try.prog (V) = .ok (.value (.int .i64 s.do_)) (V) := by
    have e5 := (show a0_3.eval (.tmp 5) = .pointer (some ⟨w.heap.size, 0, none⟩) from (fa0_3.at_ 5))
    clear fa0_3 ha
    generalize a0_3.eval = ρ at *
    go_simp
  refine fa0_3.step 6 (.int .i64 s.do_) rfl (lb_ hsz) (wanted_none rfl) r_a0_4 (fun a0_4 fa0_4 => ?_)
  clear r_a0_4
  clear fa0_3
  refine wpList_nil ?_
  change Code.wp _ _ _ _ _
  refine wp_block (wp_seq ?_)
  refine wp_region_list ?_
  unfold rOU2
  have r_a0_5 : (execOp a0_4.eval { dst := some 8, op := Op.binOp BinOp.eql 3 (Operand.tmp 6) (Operand.const (Value.int IntKind.i64 1)) 3, type := 4, pos := "outright.go:32", after := #[], guard := none }).run Try.prog (V) = .ok (.value (.bool false)) (V) := by
    have kc : ∀ v, a0_4.eval (.const v) = v := fun _ => rfl
    have e6 := (show a0_4.eval (.tmp 6) = .int .i64 s.do_ from (fa0_4.at_ 6))
    clear fa0_4 ha
    generalize a0_4.eval = ρ at *
    go_simp
  refine fa0_4.step 8 (.bool false) rfl (lb_ hsz) (wanted_none rfl) r_a0_5 (fun a0_5 fa0_5 => ?_)
  clear r_a0_5
  clear fa0_4
  refine fa0_5.move 7 (.bool false) _ (Or.inr rfl) rfl (lb_ hsz) (wanted_none rfl) (fa0_5.at_ 8) (fun a0_6 fa0_6 => ?_)
  clear fa0_5
  refine wpList_nil ?_
  change Code.wp _ _ _ _ _
  refine wp_cond_false (show a0_6.eval (.tmp 7) = .bool false from (fa0_6.at_ 7)) (wp_seq ?_)
  refine wp_region_list ?_
  unfold rOU4
  have r_a0_7 : (execOp a0_6.eval { dst := some 19, op := Op.binOp BinOp.eql 3 (Operand.tmp 6) (Operand.const (Value.int IntKind.i64 2)) 3, type := 4, pos := "outright.go:34", after := #[], guard := none }).run Try.prog (V) = .ok (.value (.bool true)) (V) := by
    have kc : ∀ v, a0_6.eval (.const v) = v := fun _ => rfl
    have e6 := (show a0_6.eval (.tmp 6) = .int .i64 s.do_ from (fa0_6.at_ 6))
    clear fa0_6 ha
    generalize a0_6.eval = ρ at *
    go_simp
  refine fa0_6.step 19 (.bool true) rfl (lb_ hsz) (wanted_none rfl) r_a0_7 (fun a0_7 fa0_7 => ?_)
  clear r_a0_7
  clear fa0_6
  refine fa0_7.move 18 (.bool true) _ (Or.inr rfl) rfl (lb_ hsz) (wanted_none rfl) (fa0_7.at_ 19) (fun a0_8 fa0_8 => ?_)
  clear fa0_7
  refine wpList_nil ?_
  change Code.wp _ _ _ _ _
  refine wp_cond_true (show a0_8.eval (.tmp 18) = .bool true from (fa0_8.at_ 18)) (wp_seq ?_)
  refine wp_region_list ?_
  unfold rOU5
  refine fa0_8.move 20 (.pointer (some ⟨b, 0, none⟩)) _ (Or.inl rfl) rfl (lb_ hsz) (wanted_none rfl) ((fa0_8.at_ 0).trans (ha 0 _ rfl)) (fun a0_9 fa0_9 => ?_)
  clear fa0_8
  have r_a0_10 : (execOp a0_9.eval { dst := some 21, op := Op.fieldAddr 35 (Operand.tmp 3) 3, type := 0, pos := "outright.go:35", after := #[], guard := none }).run Try.prog (V) = .ok (.value (.pointer (some ⟨w.heap.size, 3, none⟩))) (V) := by
    have e3 := (show a0_9.eval (.tmp 3) = .pointer (some ⟨w.heap.size, 0, none⟩) from (fa0_9.at_ 3))
    clear fa0_9 ha
    generalize a0_9.eval = ρ at *
    go_simp
  refine fa0_9.step 21 (.pointer (some ⟨w.heap.size, 3, none⟩)) rfl (lb_ hsz) (wanted_none rfl) r_a0_10 (fun a0_10 fa0_10 => ?_)
  clear r_a0_10
  clear fa0_9
  have r_a0_11 : (execOp a0_10.eval { dst := some 22, op := Op.load 3 (Operand.tmp 21), type := 3, pos := "outright.go:35", after := #[{ on := 1, ground := Ground.data }], guard := none }).run Try.prog (V) = .ok (.value (.int .i64 s.n)) (V) := by
    have e21 := (show a0_10.eval (.tmp 21) = .pointer (some ⟨w.heap.size, 3, none⟩) from (fa0_10.at_ 21))
    clear fa0_10 ha
    generalize a0_10.eval = ρ at *
    go_simp
  refine fa0_10.step 22 (.int .i64 s.n) rfl (lb_ hsz) (wanted_none rfl) r_a0_11 (fun a0_11 fa0_11 => ?_)
  clear r_a0_11
  clear fa0_10
  have r_a0_12 : (execOp a0_11.eval { dst := some 23, op := Op.call { callee := Callee.value (Operand.func 25), args := #[Operand.tmp 20, Operand.tmp 22], argTypes := #[24, 3] }, type := 25, pos := "outright.go:35", after := #[{ on := 0, ground := Ground.data }, { on := 2, ground := Ground.data }], guard := none }).run Try.prog (V) = .ok (.enter 25 #[.pointer (some ⟨b, 0, none⟩), .int .i64 s.n]) (V) := by
    have kf : ∀ f, a0_11.eval (.func f) = .func (.func f) #[] #[] := fun _ => rfl
    have e20 := (show a0_11.eval (.tmp 20) = .pointer (some ⟨b, 0, none⟩) from (fa0_11.at_ 20))
    have e22 := (show a0_11.eval (.tmp 22) = .int .i64 s.n from (fa0_11.at_ 22))
    clear fa0_11 ha
    generalize a0_11.eval = ρ at *
    go_simp
  refine fa0_11.call 23 rfl (lb_ hsz) (wanted_none rfl) r_a0_12 (grow_calls V dV hi.ok (hi.sm hn (by decide)) hi.most hi.P) (fun e V3 hR => ?_)
  obtain ⟨rfl, d1, f1⟩ := hR
  clear r_a0_12
  refine ⟨_, rfl, fun a0_12 fa0_12 => ?_⟩
  clear fa0_11
  have r_a0_13 : (execOp a0_12.eval { dst := some 24, op := Op.binOp BinOp.eql 25 (Operand.tmp 23) (Operand.const (Value.int IntKind.i64 0)) 25, type := 4, pos := "outright.go:35", after := #[{ on := 3, ground := Ground.data }], guard := none }).run Try.prog (V3) = .ok (.value (.bool (grE D s.n == 0))) (V3) := by
    have kc : ∀ v, a0_12.eval (.const v) = v := fun _ => rfl
    have e23 := (show a0_12.eval (.tmp 23) = .int .i64 (grE D s.n) from (fa0_12.at_ 23))
    clear fa0_12 ha
    generalize a0_12.eval = ρ at *
    go_simp
  refine fa0_12.step 24 (.bool (grE D s.n == 0)) rfl (lb_ hsz) (wanted_none rfl) r_a0_13 (fun a0_13 fa0_13 => ?_)
  clear r_a0_13
  clear fa0_12
  refine fa0_13.move 4 (.bool (grE D s.n == 0)) _ (Or.inr rfl) rfl (lb_ hsz) (wanted_none rfl) (fa0_13.at_ 24) (fun a0_14 fa0_14 => ?_)
  clear fa0_13
  refine wpList_nil ?_
  change Code.wp _ _ _ _ _
  refine wp_ret ?_
  simp only [Exit.then, Exit.inBlock]
  exact ret_abs rfl (fa0_14.defers.trans hd) (show a0_14.eval (.tmp 4) = .bool (grE D s.n == 0) from (fa0_14.at_ 4)) ⟨rfl, d1.land (T := Land S w V3) (fun k hk => by rcases hk with e | e; exact Or.inl e; exact Or.inr ⟨Nat.le_trans sV.size e.1, e.2⟩) (fun k hk => land_lt h.lt (Nat.le_trans sV.size f1.size) hk), Fr.trans (sV.mono (fun _ _ f => f.elim)) f1 (fun _ _ e => e)⟩
set_option maxRecDepth 100000 in
set_option maxHeartbeats 1000000 in
theorem play_sync {b n : Nat} {D : Dk} {S : Nat → Prop} {s : Sp} (w : World) (h : DkAt w b D S) (hi : DkIn D n) (hn : n ≤ 1048575) (hd1 : ¬ s.do_ = 1) (hd2 : ¬ s.do_ = 2) (hd3 : s.do_ = 3) :
    Calls Try.prog 9 #[.pointer (some ⟨b, 0, none⟩), .agg #[.int .i64 s.do_, .int .i64 s.which, .int .u32 (s.no : Int), .int .i64 s.n, .int .i64 s.len, .int .u8 (s.x.toNat : Int), .int .u8 (s.st.toNat : Int), s.av, s.fv]] w fun e w' => e = .returned (.bool ((if D.off then (7 : Int) else 0) == 0)) ∧ DkAt w' b (if D.off then D else dkSync D) (Land S w w') ∧ Fr S w w' := by
  have hd1 := hd1
  have hd2 := hd2
  have hd3 := hd3
  refine calls_abs (c := cOU) Try.func9 (by kernel_rfl) 30 rfl (by simp) (fun a0 hsz hd ha => ?_)
  have fa0_0 := Fe.refl a0
  unfold cOU
  refine wp_seq ?_
  refine wp_region_list ?_
  unfold rOU0
  have r_a0_1 : (execOp a0.eval { dst := some 3, op := Op.box 35 (Operand.tmp 1), type := 0, pos := "outright.go:30", after := #[], guard := none }).run Try.prog (w) = .ok (.value (.pointer (some ⟨w.heap.size, 0, none⟩))) (w.alloc (.cells #[.int .i64 s.do_, .int .i64 s.which, .int .u32 (s.no : Int), .int .i64 s.n, .int .i64 s.len, .int .u8 (s.x.toNat : Int), .int .u8 (s.st.toNat : Int), s.av, s.fv] 35)) := by
    have e1 := (show a0.eval (.tmp 1) = .agg #[.int .i64 s.do_, .int .i64 s.which, .int .u32 (s.no : Int), .int .i64 s.n, .int .i64 s.len, .int .u8 (s.x.toNat : Int), .int .u8 (s.st.toNat : Int), s.av, s.fv] from ((fa0_0.at_ 1).trans (ha 1 _ rfl)))
    clear fa0_0 ha
    generalize a0.eval = ρ at *
    go_simp
  refine fa0_0.stepW 3 (.pointer (some ⟨w.heap.size, 0, none⟩)) rfl (lb_ hsz) (wanted_none rfl) r_a0_1 (fun a0_1 fa0_1 => ?_)
  clear r_a0_1
  obtain ⟨V, hV⟩ : ∃ V, V = w.alloc (.cells #[.int .i64 s.do_, .int .i64 s.which, .int .u32 (s.no : Int), .int .i64 s.n, .int .i64 s.len, .int .u8 (s.x.toNat : Int), .int .u8 (s.st.toNat : Int), s.av, s.fv] 35) := ⟨_, rfl⟩
  rw [← hV]
  have sV : Same w V := by rw [hV]; exact (Fr.refl _ w).alloc _
  have hVr : V.heap[w.heap.size]? = some (.cells #[.int .i64 s.do_, .int .i64 s.which, .int .u32 (s.no : Int), .int .i64 s.n, .int .i64 s.len, .int .u8 (s.x.toNat : Int), .int .u8 (s.st.toNat : Int), s.av, s.fv] 35 (0, 0)) := by rw [hV]; exact heap_alloc_new w _
  clear hV
  have dV := h.same sV
  have k0 : V.cell? ⟨w.heap.size, 0, none⟩ = some (.int .i64 s.do_) := (cell_of_row _ _ _ _ _ _ hVr).trans rfl
  have k2 : V.cell? ⟨w.heap.size, 2, none⟩ = some (.int .u32 (s.no : Int)) := (cell_of_row _ _ _ _ _ _ hVr).trans rfl
  have k3 : V.cell? ⟨w.heap.size, 3, none⟩ = some (.int .i64 s.n) := (cell_of_row _ _ _ _ _ _ hVr).trans rfl
  have k4 : V.cell? ⟨w.heap.size, 4, none⟩ = some (.int .i64 s.len) := (cell_of_row _ _ _ _ _ _ hVr).trans rfl
  have k5 : V.cell? ⟨w.heap.size, 5, none⟩ = some (.int .u8 (s.x.toNat : Int)) := (cell_of_row _ _ _ _ _ _ hVr).trans rfl
  have k6 : V.cell? ⟨w.heap.size, 6, none⟩ = some (.int .u8 (s.st.toNat : Int)) := (cell_of_row _ _ _ _ _ _ hVr).trans rfl
  clear fa0_0
  refine fa0_1.move 4 (.bool false) _ (Or.inr rfl) rfl (lb_ hsz) (wanted_none rfl) rfl (fun a0_2 fa0_2 => ?_)
  clear fa0_1
  refine wpList_nil ?_
  change Code.wp _ _ _ _ _
  refine wp_seq (wp_seq ?_)
  refine wp_region_list ?_
  unfold rOU1
  have r_a0_3 : (execOp a0_2.eval { dst := some 5, op := Op.fieldAddr 35 (Operand.tmp 3) 0, type := 0, pos := "outright.go:31", after := #[], guard := none }).run Try.prog (V) = .ok (.value (.pointer (some ⟨w.heap.size, 0, none⟩))) (V) := by
    have e3 := (show a0_2.eval (.tmp 3) = .pointer (some ⟨w.heap.size, 0, none⟩) from (fa0_2.at_ 3))
    clear fa0_2 ha
    generalize a0_2.eval = ρ at *
    go_simp
  refine fa0_2.step 5 (.pointer (some ⟨w.heap.size, 0, none⟩)) rfl (lb_ hsz) (wanted_none rfl) r_a0_3 (fun a0_3 fa0_3 => ?_)
  clear r_a0_3
  clear fa0_2
  have r_a0_4 : (execOp a0_3.eval { dst := some 6, op := Op.load 3 (Operand.tmp 5), type := 3, pos := "outright.go:31", after := #[{ on := 0, ground := Ground.data }], guard := none }).run Try.prog (V) = .ok (.value (.int .i64 s.do_)) (V) := by
    have e5 := (show a0_3.eval (.tmp 5) = .pointer (some ⟨w.heap.size, 0, none⟩) from (fa0_3.at_ 5))
    clear fa0_3 ha
    generalize a0_3.eval = ρ at *
    go_simp
  refine fa0_3.step 6 (.int .i64 s.do_) rfl (lb_ hsz) (wanted_none rfl) r_a0_4 (fun a0_4 fa0_4 => ?_)
  clear r_a0_4
  clear fa0_3
  refine wpList_nil ?_
  change Code.wp _ _ _ _ _
  refine wp_block (wp_seq ?_)
  refine wp_region_list ?_
  unfold rOU2
  have r_a0_5 : (execOp a0_4.eval { dst := some 8, op := Op.binOp BinOp.eql 3 (Operand.tmp 6) (Operand.const (Value.int IntKind.i64 1)) 3, type := 4, pos := "outright.go:32", after := #[], guard := none }).run Try.prog (V) = .ok (.value (.bool false)) (V) := by
    have kc : ∀ v, a0_4.eval (.const v) = v := fun _ => rfl
    have e6 := (show a0_4.eval (.tmp 6) = .int .i64 s.do_ from (fa0_4.at_ 6))
    clear fa0_4 ha
    generalize a0_4.eval = ρ at *
    go_simp
  refine fa0_4.step 8 (.bool false) rfl (lb_ hsz) (wanted_none rfl) r_a0_5 (fun a0_5 fa0_5 => ?_)
  clear r_a0_5
  clear fa0_4
  refine fa0_5.move 7 (.bool false) _ (Or.inr rfl) rfl (lb_ hsz) (wanted_none rfl) (fa0_5.at_ 8) (fun a0_6 fa0_6 => ?_)
  clear fa0_5
  refine wpList_nil ?_
  change Code.wp _ _ _ _ _
  refine wp_cond_false (show a0_6.eval (.tmp 7) = .bool false from (fa0_6.at_ 7)) (wp_seq ?_)
  refine wp_region_list ?_
  unfold rOU4
  have r_a0_7 : (execOp a0_6.eval { dst := some 19, op := Op.binOp BinOp.eql 3 (Operand.tmp 6) (Operand.const (Value.int IntKind.i64 2)) 3, type := 4, pos := "outright.go:34", after := #[], guard := none }).run Try.prog (V) = .ok (.value (.bool false)) (V) := by
    have kc : ∀ v, a0_6.eval (.const v) = v := fun _ => rfl
    have e6 := (show a0_6.eval (.tmp 6) = .int .i64 s.do_ from (fa0_6.at_ 6))
    clear fa0_6 ha
    generalize a0_6.eval = ρ at *
    go_simp
  refine fa0_6.step 19 (.bool false) rfl (lb_ hsz) (wanted_none rfl) r_a0_7 (fun a0_7 fa0_7 => ?_)
  clear r_a0_7
  clear fa0_6
  refine fa0_7.move 18 (.bool false) _ (Or.inr rfl) rfl (lb_ hsz) (wanted_none rfl) (fa0_7.at_ 19) (fun a0_8 fa0_8 => ?_)
  clear fa0_7
  refine wpList_nil ?_
  change Code.wp _ _ _ _ _
  refine wp_cond_false (show a0_8.eval (.tmp 18) = .bool false from (fa0_8.at_ 18)) (wp_seq ?_)
  refine wp_region_list ?_
  unfold rOU6
  have r_a0_9 : (execOp a0_8.eval { dst := some 26, op := Op.binOp BinOp.eql 3 (Operand.tmp 6) (Operand.const (Value.int IntKind.i64 3)) 3, type := 4, pos := "outright.go:36", after := #[], guard := none }).run Try.prog (V) = .ok (.value (.bool true)) (V) := by
    have kc : ∀ v, a0_8.eval (.const v) = v := fun _ => rfl
    have e6 := (show a0_8.eval (.tmp 6) = .int .i64 s.do_ from (fa0_8.at_ 6))
    clear fa0_8 ha
    generalize a0_8.eval = ρ at *
    go_simp
  refine fa0_8.step 26 (.bool true) rfl (lb_ hsz) (wanted_none rfl) r_a0_9 (fun a0_9 fa0_9 => ?_)
  clear r_a0_9
  clear fa0_8
  refine fa0_9.move 25 (.bool true) _ (Or.inr rfl) rfl (lb_ hsz) (wanted_none rfl) (fa0_9.at_ 26) (fun a0_10 fa0_10 => ?_)
  clear fa0_9
  refine wpList_nil ?_
  change Code.wp _ _ _ _ _
  refine wp_cond_true (show a0_10.eval (.tmp 25) = .bool true from (fa0_10.at_ 25)) (wp_seq ?_)
  refine wp_region_list ?_
  unfold rOU7
  refine fa0_10.move 27 (.pointer (some ⟨b, 0, none⟩)) _ (Or.inl rfl) rfl (lb_ hsz) (wanted_none rfl) ((fa0_10.at_ 0).trans (ha 0 _ rfl)) (fun a0_11 fa0_11 => ?_)
  clear fa0_10
  have r_a0_12 : (execOp a0_11.eval { dst := some 28, op := Op.call { callee := Callee.value (Operand.func 24), args := #[Operand.tmp 27], argTypes := #[24] }, type := 25, pos := "outright.go:37", after := #[{ on := 0, ground := Ground.data }], guard := none }).run Try.prog (V) = .ok (.enter 24 #[.pointer (some ⟨b, 0, none⟩)]) (V) := by
    have kf : ∀ f, a0_11.eval (.func f) = .func (.func f) #[] #[] := fun _ => rfl
    have e27 := (show a0_11.eval (.tmp 27) = .pointer (some ⟨b, 0, none⟩) from (fa0_11.at_ 27))
    clear fa0_11 ha
    generalize a0_11.eval = ρ at *
    go_simp
  refine fa0_11.call 28 rfl (lb_ hsz) (wanted_none rfl) r_a0_12 (sync_calls V dV hi.ok (hi.sm (Nat.le_succ_of_le hn) (by decide))) (fun e V3 hR => ?_)
  obtain ⟨rfl, d1, f1⟩ := hR
  clear r_a0_12
  refine ⟨_, rfl, fun a0_12 fa0_12 => ?_⟩
  clear fa0_11
  have r_a0_13 : (execOp a0_12.eval { dst := some 29, op := Op.binOp BinOp.eql 25 (Operand.tmp 28) (Operand.const (Value.int IntKind.i64 0)) 25, type := 4, pos := "outright.go:37", after := #[{ on := 1, ground := Ground.data }], guard := none }).run Try.prog (V3) = .ok (.value (.bool ((if D.off then (7 : Int) else 0) == 0))) (V3) := by
    have kc : ∀ v, a0_12.eval (.const v) = v := fun _ => rfl
    have e28 := (show a0_12.eval (.tmp 28) = .int .i64 (if D.off then 7 else 0) from (fa0_12.at_ 28))
    clear fa0_12 ha
    generalize a0_12.eval = ρ at *
    go_simp
  refine fa0_12.step 29 (.bool ((if D.off then (7 : Int) else 0) == 0)) rfl (lb_ hsz) (wanted_none rfl) r_a0_13 (fun a0_13 fa0_13 => ?_)
  clear r_a0_13
  clear fa0_12
  refine fa0_13.move 4 (.bool ((if D.off then (7 : Int) else 0) == 0)) _ (Or.inr rfl) rfl (lb_ hsz) (wanted_none rfl) (fa0_13.at_ 29) (fun a0_14 fa0_14 => ?_)
  clear fa0_13
  refine wpList_nil ?_
  change Code.wp _ _ _ _ _
  refine wp_ret ?_
  simp only [Exit.then, Exit.inBlock]
  exact ret_abs rfl (fa0_14.defers.trans hd) (show a0_14.eval (.tmp 4) = .bool ((if D.off then (7 : Int) else 0) == 0) from (fa0_14.at_ 4)) ⟨rfl, d1.land (T := Land S w V3) (fun k hk => by rcases hk with e | e; exact Or.inl e; exact Or.inr ⟨Nat.le_trans sV.size e.1, e.2⟩) (fun k hk => land_lt h.lt (Nat.le_trans sV.size f1.size) hk), Fr.trans (sV.mono (fun _ _ f => f.elim)) f1 (fun _ _ e => e)⟩
set_option maxRecDepth 100000 in
set_option maxHeartbeats 1000000 in
theorem play_none {b : Nat} {D : Dk} {S : Nat → Prop} {s : Sp} (w : World) (h : DkAt w b D S) (hd1 : ¬ s.do_ = 1) (hd2 : ¬ s.do_ = 2) (hd3 : ¬ s.do_ = 3) :
    Calls Try.prog 9 #[.pointer (some ⟨b, 0, none⟩), .agg #[.int .i64 s.do_, .int .i64 s.which, .int .u32 (s.no : Int), .int .i64 s.n, .int .i64 s.len, .int .u8 (s.x.toNat : Int), .int .u8 (s.st.toNat : Int), s.av, s.fv]] w fun e w' => e = .returned (.bool true) ∧ DkAt w' b D (Land S w w') ∧ Fr S w w' := by
  have hd1 := hd1
  have hd2 := hd2
  have hd3 := hd3
  refine calls_abs (c := cOU) Try.func9 (by kernel_rfl) 30 rfl (by simp) (fun a0 hsz hd ha => ?_)
  have fa0_0 := Fe.refl a0
  unfold cOU
  refine wp_seq ?_
  refine wp_region_list ?_
  unfold rOU0
  have r_a0_1 : (execOp a0.eval { dst := some 3, op := Op.box 35 (Operand.tmp 1), type := 0, pos := "outright.go:30", after := #[], guard := none }).run Try.prog (w) = .ok (.value (.pointer (some ⟨w.heap.size, 0, none⟩))) (w.alloc (.cells #[.int .i64 s.do_, .int .i64 s.which, .int .u32 (s.no : Int), .int .i64 s.n, .int .i64 s.len, .int .u8 (s.x.toNat : Int), .int .u8 (s.st.toNat : Int), s.av, s.fv] 35)) := by
    have e1 := (show a0.eval (.tmp 1) = .agg #[.int .i64 s.do_, .int .i64 s.which, .int .u32 (s.no : Int), .int .i64 s.n, .int .i64 s.len, .int .u8 (s.x.toNat : Int), .int .u8 (s.st.toNat : Int), s.av, s.fv] from ((fa0_0.at_ 1).trans (ha 1 _ rfl)))
    clear fa0_0 ha
    generalize a0.eval = ρ at *
    go_simp
  refine fa0_0.stepW 3 (.pointer (some ⟨w.heap.size, 0, none⟩)) rfl (lb_ hsz) (wanted_none rfl) r_a0_1 (fun a0_1 fa0_1 => ?_)
  clear r_a0_1
  obtain ⟨V, hV⟩ : ∃ V, V = w.alloc (.cells #[.int .i64 s.do_, .int .i64 s.which, .int .u32 (s.no : Int), .int .i64 s.n, .int .i64 s.len, .int .u8 (s.x.toNat : Int), .int .u8 (s.st.toNat : Int), s.av, s.fv] 35) := ⟨_, rfl⟩
  rw [← hV]
  have sV : Same w V := by rw [hV]; exact (Fr.refl _ w).alloc _
  have hVr : V.heap[w.heap.size]? = some (.cells #[.int .i64 s.do_, .int .i64 s.which, .int .u32 (s.no : Int), .int .i64 s.n, .int .i64 s.len, .int .u8 (s.x.toNat : Int), .int .u8 (s.st.toNat : Int), s.av, s.fv] 35 (0, 0)) := by rw [hV]; exact heap_alloc_new w _
  clear hV
  have dV := h.same sV
  have k0 : V.cell? ⟨w.heap.size, 0, none⟩ = some (.int .i64 s.do_) := (cell_of_row _ _ _ _ _ _ hVr).trans rfl
  have k2 : V.cell? ⟨w.heap.size, 2, none⟩ = some (.int .u32 (s.no : Int)) := (cell_of_row _ _ _ _ _ _ hVr).trans rfl
  have k3 : V.cell? ⟨w.heap.size, 3, none⟩ = some (.int .i64 s.n) := (cell_of_row _ _ _ _ _ _ hVr).trans rfl
  have k4 : V.cell? ⟨w.heap.size, 4, none⟩ = some (.int .i64 s.len) := (cell_of_row _ _ _ _ _ _ hVr).trans rfl
  have k5 : V.cell? ⟨w.heap.size, 5, none⟩ = some (.int .u8 (s.x.toNat : Int)) := (cell_of_row _ _ _ _ _ _ hVr).trans rfl
  have k6 : V.cell? ⟨w.heap.size, 6, none⟩ = some (.int .u8 (s.st.toNat : Int)) := (cell_of_row _ _ _ _ _ _ hVr).trans rfl
  clear fa0_0
  refine fa0_1.move 4 (.bool false) _ (Or.inr rfl) rfl (lb_ hsz) (wanted_none rfl) rfl (fun a0_2 fa0_2 => ?_)
  clear fa0_1
  refine wpList_nil ?_
  change Code.wp _ _ _ _ _
  refine wp_seq (wp_seq ?_)
  refine wp_region_list ?_
  unfold rOU1
  have r_a0_3 : (execOp a0_2.eval { dst := some 5, op := Op.fieldAddr 35 (Operand.tmp 3) 0, type := 0, pos := "outright.go:31", after := #[], guard := none }).run Try.prog (V) = .ok (.value (.pointer (some ⟨w.heap.size, 0, none⟩))) (V) := by
    have e3 := (show a0_2.eval (.tmp 3) = .pointer (some ⟨w.heap.size, 0, none⟩) from (fa0_2.at_ 3))
    clear fa0_2 ha
    generalize a0_2.eval = ρ at *
    go_simp
  refine fa0_2.step 5 (.pointer (some ⟨w.heap.size, 0, none⟩)) rfl (lb_ hsz) (wanted_none rfl) r_a0_3 (fun a0_3 fa0_3 => ?_)
  clear r_a0_3
  clear fa0_2
  have r_a0_4 : (execOp a0_3.eval { dst := some 6, op := Op.load 3 (Operand.tmp 5), type := 3, pos := "outright.go:31", after := #[{ on := 0, ground := Ground.data }], guard := none }).run Try.prog (V) = .ok (.value (.int .i64 s.do_)) (V) := by
    have e5 := (show a0_3.eval (.tmp 5) = .pointer (some ⟨w.heap.size, 0, none⟩) from (fa0_3.at_ 5))
    clear fa0_3 ha
    generalize a0_3.eval = ρ at *
    go_simp
  refine fa0_3.step 6 (.int .i64 s.do_) rfl (lb_ hsz) (wanted_none rfl) r_a0_4 (fun a0_4 fa0_4 => ?_)
  clear r_a0_4
  clear fa0_3
  refine wpList_nil ?_
  change Code.wp _ _ _ _ _
  refine wp_block (wp_seq ?_)
  refine wp_region_list ?_
  unfold rOU2
  have r_a0_5 : (execOp a0_4.eval { dst := some 8, op := Op.binOp BinOp.eql 3 (Operand.tmp 6) (Operand.const (Value.int IntKind.i64 1)) 3, type := 4, pos := "outright.go:32", after := #[], guard := none }).run Try.prog (V) = .ok (.value (.bool false)) (V) := by
    have kc : ∀ v, a0_4.eval (.const v) = v := fun _ => rfl
    have e6 := (show a0_4.eval (.tmp 6) = .int .i64 s.do_ from (fa0_4.at_ 6))
    clear fa0_4 ha
    generalize a0_4.eval = ρ at *
    go_simp
  refine fa0_4.step 8 (.bool false) rfl (lb_ hsz) (wanted_none rfl) r_a0_5 (fun a0_5 fa0_5 => ?_)
  clear r_a0_5
  clear fa0_4
  refine fa0_5.move 7 (.bool false) _ (Or.inr rfl) rfl (lb_ hsz) (wanted_none rfl) (fa0_5.at_ 8) (fun a0_6 fa0_6 => ?_)
  clear fa0_5
  refine wpList_nil ?_
  change Code.wp _ _ _ _ _
  refine wp_cond_false (show a0_6.eval (.tmp 7) = .bool false from (fa0_6.at_ 7)) (wp_seq ?_)
  refine wp_region_list ?_
  unfold rOU4
  have r_a0_7 : (execOp a0_6.eval { dst := some 19, op := Op.binOp BinOp.eql 3 (Operand.tmp 6) (Operand.const (Value.int IntKind.i64 2)) 3, type := 4, pos := "outright.go:34", after := #[], guard := none }).run Try.prog (V) = .ok (.value (.bool false)) (V) := by
    have kc : ∀ v, a0_6.eval (.const v) = v := fun _ => rfl
    have e6 := (show a0_6.eval (.tmp 6) = .int .i64 s.do_ from (fa0_6.at_ 6))
    clear fa0_6 ha
    generalize a0_6.eval = ρ at *
    go_simp
  refine fa0_6.step 19 (.bool false) rfl (lb_ hsz) (wanted_none rfl) r_a0_7 (fun a0_7 fa0_7 => ?_)
  clear r_a0_7
  clear fa0_6
  refine fa0_7.move 18 (.bool false) _ (Or.inr rfl) rfl (lb_ hsz) (wanted_none rfl) (fa0_7.at_ 19) (fun a0_8 fa0_8 => ?_)
  clear fa0_7
  refine wpList_nil ?_
  change Code.wp _ _ _ _ _
  refine wp_cond_false (show a0_8.eval (.tmp 18) = .bool false from (fa0_8.at_ 18)) (wp_seq ?_)
  refine wp_region_list ?_
  unfold rOU6
  have r_a0_9 : (execOp a0_8.eval { dst := some 26, op := Op.binOp BinOp.eql 3 (Operand.tmp 6) (Operand.const (Value.int IntKind.i64 3)) 3, type := 4, pos := "outright.go:36", after := #[], guard := none }).run Try.prog (V) = .ok (.value (.bool false)) (V) := by
    have kc : ∀ v, a0_8.eval (.const v) = v := fun _ => rfl
    have e6 := (show a0_8.eval (.tmp 6) = .int .i64 s.do_ from (fa0_8.at_ 6))
    clear fa0_8 ha
    generalize a0_8.eval = ρ at *
    go_simp
  refine fa0_8.step 26 (.bool false) rfl (lb_ hsz) (wanted_none rfl) r_a0_9 (fun a0_9 fa0_9 => ?_)
  clear r_a0_9
  clear fa0_8
  refine fa0_9.move 25 (.bool false) _ (Or.inr rfl) rfl (lb_ hsz) (wanted_none rfl) (fa0_9.at_ 26) (fun a0_10 fa0_10 => ?_)
  clear fa0_9
  refine wpList_nil ?_
  change Code.wp _ _ _ _ _
  refine wp_cond_false (show a0_10.eval (.tmp 25) = .bool false from (fa0_10.at_ 25)) (wp_skip ?_)
  change Code.wp _ _ _ _ _
  refine wp_seq ?_
  refine wp_region_list ?_
  unfold rOU8
  refine fa0_10.move 4 (.bool true) _ (Or.inr rfl) rfl (lb_ hsz) (wanted_none rfl) rfl (fun a0_11 fa0_11 => ?_)
  clear fa0_10
  refine wpList_nil ?_
  have f1 : Fr S V V := Fr.refl _ _
  have d1 := dV.stay
  change Code.wp _ _ _ _ _
  refine wp_ret ?_
  exact ret_abs rfl (fa0_11.defers.trans hd) (show a0_11.eval (.tmp 4) = .bool true from (fa0_11.at_ 4)) ⟨rfl, d1.land (T := Land S w V) (fun k hk => by rcases hk with e | e; exact Or.inl e; exact Or.inr ⟨Nat.le_trans sV.size e.1, e.2⟩) (fun k hk => land_lt h.lt (Nat.le_trans sV.size f1.size) hk), Fr.trans (sV.mono (fun _ _ f => f.elim)) f1 (fun _ _ e => e)⟩
theorem play_calls {b n : Nat} {D : Dk} {S : Nat → Prop} {s : Sp} (w : World) (h : DkAt w b D S) (hi : DkIn D n) (hn : n ≤ 1048575) (hno : s.no < 4294967296) :
    Calls Try.prog 9 #[.pointer (some ⟨b, 0, none⟩), .agg (spC s).toArray] w fun e w' => e = .returned (.bool (playE D s)) ∧ DkAt w' b (playD D s) (Land S w w') ∧ Fr S w w' := by
  unfold playE playD
  by_cases h1 : s.do_ = 1
  · rw [if_pos h1, if_pos h1]; exact play_write w h hi hn hno h1
  · rw [if_neg h1, if_neg h1]
    by_cases h2 : s.do_ = 2
    · rw [if_pos h2, if_pos h2]; exact play_grow w h hi hn h1 h2
    · rw [if_neg h2, if_neg h2]
      by_cases h3 : s.do_ = 3
      · rw [if_pos h3, if_pos h3]; exact play_sync w h hi hn h1 h2 h3
      · rw [if_neg h3, if_neg h3]; exact play_none w h h1 h2 h3
end Go.Proofs.Ytjiaepeglghheaa
