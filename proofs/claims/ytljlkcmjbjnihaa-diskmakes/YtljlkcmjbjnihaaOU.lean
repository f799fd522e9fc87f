/- What disks keep; the law's play. -/
import Derived.Test.YtljlkcmjbjnihaaOS
namespace Go.Proofs.Ytljlkcmjbjnihaa
open Go.RowKit

/-- What a disk keeps, whatever is done; n bounds its numbers. -/
structure DkIn (D : Dk) (n : Nat) : Prop where
  ok : DkOk D
  most : D.most ≤ 65536
  P : D.P.length ≤ D.most
  I : D.I.length ≤ D.most
  W : ∀ x ∈ D.W, x.pages ≤ D.most ∧ (x.act ≠ 2 → x.pg < D.most)
  wl : D.W.length ≤ n
  wr : D.wr ≤ n
  gr : D.gr ≤ n
  sy : D.sy ≤ n
  life : D.life ≤ n
  taken : D.taken ≤ n
theorem DkIn.sm {D : Dk} {n m : Nat} (h : DkIn D n) (hn : n ≤ m) (hm : 65536 ≤ m) : DkSm D m :=
  ⟨Nat.le_trans h.P (Nat.le_trans h.most hm), Nat.le_trans h.I (Nat.le_trans h.most hm), Nat.le_trans h.wl hn, Nat.le_trans h.wr hn, Nat.le_trans h.gr hn, Nat.le_trans h.sy hn, Nat.le_trans h.life hn, Nat.le_trans h.taken hn⟩
theorem comeP_le {pg m f : Nat} {l : List ByteArray} {x : Wt} (hl : l.length ≤ m) (hx : x.pages ≤ m ∧ (x.act ≠ 2 → x.pg < m)) : (comeP pg l x f).length ≤ m := by
  unfold comeP
  split
  · exact hl
  · split
    · rw [extP_len]; exact Nat.max_le.2 ⟨hl, hx.1⟩
    · rename_i h
      rw [List.length_set, extP_len]
      exact Nat.max_le.2 ⟨hl, hx.2 h⟩
theorem setP_le {pg m : Nat} {f : Nat → Nat} : ∀ (W : List Wt) (k : Nat) (l : List ByteArray), (∀ x ∈ W, x.pages ≤ m ∧ (x.act ≠ 2 → x.pg < m)) → l.length ≤ m → (setP pg f k W l).length ≤ m
  | [], _, _, _, h => h
  | x :: W, k, _, hw, h => setP_le W (k + 1) _ (fun y hy => hw y (List.mem_cons_of_mem _ hy)) (comeP_le h (hw x List.mem_cons_self))
theorem change_in {D : Dk} {n : Nat} {x : Wt} (h : DkIn D n) (hx : WtOk D.page x) (hb : x.pages ≤ D.most ∧ (x.act ≠ 2 → x.pg < D.most)) : DkIn (dkChange D x) (n + 1) where
  ok := ⟨h.ok.h8, h.ok.hp0, h.ok.hp1, (show ∀ s ∈ comeP D.page D.P x 255, s.size = D.page from comeP_all h.ok.h8 hx h.ok.P), h.ok.I, fun y hy => by
    rcases List.mem_append.1 hy with e | e
    · exact h.ok.W y e
    · rw [List.mem_singleton] at e; rw [e]; exact hx⟩
  most := h.most
  P := show (comeP D.page D.P x 255).length ≤ D.most from comeP_le h.P hb
  I := h.I
  W := fun y hy => by
    rcases List.mem_append.1 hy with e | e
    · exact h.W y e
    · rw [List.mem_singleton] at e; rw [e]; exact hb
  wl := by show (D.W ++ [x]).length ≤ n + 1; rw [List.length_append]; have := h.wl; simp; omega
  wr := Nat.le_succ_of_le h.wr
  gr := Nat.le_succ_of_le h.gr
  sy := Nat.le_succ_of_le h.sy
  life := Nat.le_succ_of_le h.life
  taken := Nat.le_succ_of_le h.taken
theorem DkIn.up {D : Dk} {n : Nat} (h : DkIn D n) : DkIn D (n + 1) := ⟨h.ok, h.most, h.P, h.I, h.W, Nat.le_succ_of_le h.wl, Nat.le_succ_of_le h.wr, Nat.le_succ_of_le h.gr, Nat.le_succ_of_le h.sy, Nat.le_succ_of_le h.life, Nat.le_succ_of_le h.taken⟩
theorem write_in {D : Dk} {n no : Nat} {s : ByteArray} (h : DkIn D n) : DkIn (dkWrite D no s) (n + 1) := by
  unfold dkWrite
  by_cases he : wrE D no s = 0
  · rw [if_pos he]
    have hh : no < D.P.length ∧ s.size = D.page := by
      unfold wrE at he
      split at he
      · cases he
      · split at he
        · rename_i h1
          split at he
          · rename_i h2; exact ⟨h1, h2⟩
          · cases he
        · cases he
    have c := change_in (x := wrX no s) h ⟨Nat.zero_le _, by have := h.P; have := h.most; show no < 1048576; omega, fun _ => hh.2, by show 1 < 256; decide⟩ ⟨Nat.zero_le _, fun _ => by have := h.P; show no < D.most; omega⟩
    exact ⟨⟨c.ok.h8, c.ok.hp0, c.ok.hp1, c.ok.P, c.ok.I, c.ok.W⟩, c.most, c.P, c.I, c.W, c.wl, by show D.wr + 1 ≤ n + 1; have := h.wr; omega, c.gr, c.sy, c.life, c.taken⟩
  · rw [if_neg he]; exact h.up
theorem grow_in {D : Dk} {n : Nat} {k : Int} (h : DkIn D n) : DkIn (dkGrow D k) (n + 1) := by
  unfold dkGrow
  by_cases he : grE D k = 0
  · rw [if_pos he]
    have hh : ¬ k < 1 ∧ ¬ (D.most : Int) - (D.P.length : Int) < k := by
      unfold grE at he
      split at he
      · cases he
      · split at he
        · cases he
        · rename_i h1
          split at he
          · cases he
          · rename_i h2; exact ⟨h1, h2⟩
    have hP := h.P
    have hmo := h.most
    have c := change_in (x := grX D k) h ⟨by show D.P.length + k.toNat ≤ 1048576; omega, by show (0 : Nat) < 1048576; decide, fun e => absurd rfl e, by show 2 < 256; decide⟩ ⟨by show D.P.length + k.toNat ≤ D.most; omega, fun e => absurd rfl e⟩
    exact ⟨⟨c.ok.h8, c.ok.hp0, c.ok.hp1, c.ok.P, c.ok.I, c.ok.W⟩, c.most, c.P, c.I, c.W, c.wl, c.wr, by show D.gr + 1 ≤ n + 1; have := h.gr; omega, c.sy, c.life, c.taken⟩
  · rw [if_neg he]; exact h.up
theorem sync_in {D : Dk} {n : Nat} (h : DkIn D n) : DkIn (dkSync D) (n + 1) where
  ok := ⟨h.ok.h8, h.ok.hp0, h.ok.hp1, h.ok.P, setP_all h.ok.h8 _ _ _ h.ok.W h.ok.I, fun y hy => by cases hy⟩
  most := h.most
  P := h.P
  I := setP_le _ _ _ h.W h.I
  W := fun y hy => by cases hy
  wl := Nat.zero_le _
  wr := Nat.le_succ_of_le h.wr
  gr := Nat.le_succ_of_le h.gr
  sy := Nat.succ_le_succ h.sy
  life := Nat.le_succ_of_le h.life
  taken := Nat.le_succ_of_le h.taken
theorem lose_in {D : Dk} {n : Nat} {F : List Nat} (h : DkIn D n) : DkIn (dkLose D F) (n + 1) where
  ok := ⟨h.ok.h8, h.ok.hp0, h.ok.hp1, setP_all h.ok.h8 _ _ _ h.ok.W h.ok.I, setP_all h.ok.h8 _ _ _ h.ok.W h.ok.I, fun y hy => by cases hy⟩
  most := h.most
  P := setP_le _ _ _ h.W h.I
  I := setP_le _ _ _ h.W h.I
  W := fun y hy => by cases hy
  wl := Nat.zero_le _
  wr := Nat.le_succ_of_le h.wr
  gr := Nat.le_succ_of_le h.gr
  sy := Nat.le_succ_of_le h.sy
  life := Nat.le_succ_of_le h.life
  taken := Nat.succ_le_succ h.taken
/-- A step of the law's. -/
structure Sp where
  do_ : Int
  which : Int
  no : Nat
  n : Int
  len : Int
  x : UInt8
  st : UInt8
  av : Value
  fv : Value
def spC (s : Sp) : List Value := [.int .i64 s.do_, .int .i64 s.which, .int .u32 (s.no : Int), .int .i64 s.n, .int .i64 s.len, .int .u8 (s.x.toNat : Int), .int .u8 (s.st.toNat : Int), s.av, s.fv]
def spT (s : Sp) : ByteArray := textS s.len s.x s.st 1024
def playE (D : Dk) (s : Sp) : Bool := if s.do_ = 1 then wrE D (s.no % 8) (spT s) == 0 else if s.do_ = 2 then grE D s.n == 0 else if s.do_ = 3 then (if D.off then (7 : Int) else 0) == 0 else true
def playD (D : Dk) (s : Sp) : Dk := if s.do_ = 1 then dkWrite D (s.no % 8) (spT s) else if s.do_ = 2 then dkGrow D s.n else if s.do_ = 3 then (if D.off then D else dkSync D) else D
theorem play_in {D : Dk} {n : Nat} {s : Sp} (h : DkIn D n) : DkIn (playD D s) (n + 1) := by
  unfold playD
  split
  · exact write_in h
  · split
    · exact grow_in h
    · split
      · split
        · exact h.up
        · exact sync_in h
      · exact h.up
def rOU2 : Array Oper := #[{ dst := some 8, op := Op.binOp BinOp.eql 3 (Operand.tmp 6) (Operand.const (Value.int IntKind.i64 1)) 3, type := 4, pos := "outright.go:32", after := #[], guard := none },
  { dst := some 7, op := Op.assign (Operand.tmp 8), type := 4, pos := "outright.go:32", after := #[{ on := 0, ground := Ground.data }], guard := none }]
def rOU4 : Array Oper := #[{ dst := some 19, op := Op.binOp BinOp.eql 3 (Operand.tmp 6) (Operand.const (Value.int IntKind.i64 2)) 3, type := 4, pos := "outright.go:34", after := #[], guard := none },
  { dst := some 18, op := Op.assign (Operand.tmp 19), type := 4, pos := "outright.go:34", after := #[{ on := 0, ground := Ground.data }], guard := none }]
def rOU6 : Array Oper := #[{ dst := some 26, op := Op.binOp BinOp.eql 3 (Operand.tmp 6) (Operand.const (Value.int IntKind.i64 3)) 3, type := 4, pos := "outright.go:36", after := #[], guard := none },
  { dst := some 25, op := Op.assign (Operand.tmp 26), type := 4, pos := "outright.go:36", after := #[{ on := 0, ground := Ground.data }], guard := none }]
def rOU7 : Array Oper := #[{ dst := some 27, op := Op.move (Operand.tmp 0), type := 27, pos := "outright.go:37", after := #[], guard := none },
  { dst := some 28, op := Op.call { callee := Callee.value (Operand.func 29), args := #[Operand.tmp 27], argTypes := #[27] }, type := 24, pos := "outright.go:37", after := #[{ on := 0, ground := Ground.data }], guard := none },
  { dst := some 29, op := Op.binOp BinOp.eql 24 (Operand.tmp 28) (Operand.const (Value.int IntKind.i64 0)) 24, type := 4, pos := "outright.go:37", after := #[{ on := 1, ground := Ground.data }], guard := none },
  { dst := some 4, op := Op.assign (Operand.tmp 29), type := 4, pos := "outright.go:37", after := #[{ on := 2, ground := Ground.data }, { on := 1, ground := Ground.chain }, { on := 0, ground := Ground.phase }, { on := 1, ground := Ground.phase }, { on := 2, ground := Ground.phase }], guard := none }]
def rOU8 : Array Oper := #[{ dst := some 4, op := Op.assign (Operand.const (Value.bool true)), type := 4, pos := "outright.go:39", after := #[], guard := none }]
end Go.Proofs.Ytljlkcmjbjnihaa
