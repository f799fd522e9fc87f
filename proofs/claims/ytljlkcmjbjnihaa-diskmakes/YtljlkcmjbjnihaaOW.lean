/- The law's lives. -/
import Derived.Test.YtljlkcmjbjnihaaOU
import Derived.Test.YtljlkcmjbjnihaaOV
namespace Go.Proofs.Ytljlkcmjbjnihaa
open Go.RowKit

def zS : ByteArray := zerosT 1024
def lvE1 : Dk := { dkNew 1024 4 with P := [zS, zS], W := [⟨2, 0, 2, ⟨#[]⟩⟩], gr := 1 }
def lvE2 (a : ByteArray) : Dk := { lvE1 with P := [a, zS], W := [⟨2, 0, 2, ⟨#[]⟩⟩, wrX 0 a], wr := 1 }
def lvE3 (a : ByteArray) : Dk := { lvE2 a with I := [a, zS], W := [], sy := 1 }
def lvE4 (a b : ByteArray) : Dk := { lvE3 a with P := [b, zS], W := [wrX 0 b], wr := 2 }
def lvE5 (a b : ByteArray) : Dk := { lvE3 a with P := [b, b], W := [wrX 0 b, wrX 1 b], wr := 3 }
def lvE6 (a b : ByteArray) : Dk := { lvE5 a b with P := [ovlS 128 a b 1, zS], I := [ovlS 128 a b 1, zS], W := [], off := true, taken := 1 }
def lvE7 (a b : ByteArray) : Dk := { lvE6 a b with off := false, life := 1 }
theorem lv1 : grE (dkNew 1024 4) 2 = 0 ∧ dkGrow (dkNew 1024 4) 2 = lvE1 := ⟨rfl, rfl⟩
theorem lv2 {a : ByteArray} (ha : a.size = 1024) : wrE lvE1 0 a = 0 ∧ dkWrite lvE1 0 a = lvE2 a := by
  have e : wrE lvE1 0 a = 0 := by
    show (if a.size = 1024 then (0 : Int) else 2) = 0
    rw [if_pos ha]
  exact ⟨e, by unfold dkWrite; rw [if_pos e]; rfl⟩
theorem lv3 (a : ByteArray) : dkSync (lvE2 a) = lvE3 a := by kernel_rfl
theorem lv4 {a b : ByteArray} (hb : b.size = 1024) : wrE (lvE3 a) 0 b = 0 ∧ dkWrite (lvE3 a) 0 b = lvE4 a b := by
  have e : wrE (lvE3 a) 0 b = 0 := by
    show (if b.size = 1024 then (0 : Int) else 2) = 0
    rw [if_pos hb]
  exact ⟨e, by unfold dkWrite; rw [if_pos e]; rfl⟩
theorem lv5 {a b : ByteArray} (hb : b.size = 1024) : wrE (lvE4 a b) 1 b = 0 ∧ dkWrite (lvE4 a b) 1 b = lvE5 a b := by
  have e : wrE (lvE4 a b) 1 b = 0 := by
    show (if b.size = 1024 then (0 : Int) else 2) = 0
    rw [if_pos hb]
  exact ⟨e, by unfold dkWrite; rw [if_pos e]; rfl⟩
theorem lv6 (a b : ByteArray) : dkLose (lvE5 a b) [1] = lvE6 a b := by kernel_rfl
theorem lv7 (a b : ByteArray) : dkWake (lvE6 a b) = lvE7 a b := by kernel_rfl
theorem new_in {mo n : Nat} (hm : mo ≤ 65536) : DkIn (dkNew 1024 mo) n where
  ok := ⟨show 1024 = 8 * (1024 / 8) by decide, by show 0 < 1024; decide, by show 1024 ≤ 8192; decide, fun s hs => (by cases hs), fun s hs => (by cases hs), fun s hs => (by cases hs)⟩
  most := hm
  P := Nat.zero_le _
  I := Nat.zero_le _
  W := fun x hx => (by cases hx)
  wl := Nat.zero_le _
  wr := Nat.zero_le _
  gr := Nat.zero_le _
  sy := Nat.zero_le _
  life := Nat.zero_le _
  taken := Nat.zero_le _
theorem pbit1 : pbit 1 0 = true ∧ pbit 1 1 = false ∧ pbit 1 2 = false ∧ pbit 1 3 = false ∧ pbit 1 4 = false ∧ pbit 1 5 = false ∧ pbit 1 6 = false ∧ pbit 1 7 = false := by decide
/-- The first sector alone. -/
theorem ovl_first {a b : ByteArray} (hb : b.size = 1024) : ovlS 128 a b 1 = b.extract 0 128 ++ a.extract 128 a.size := by
  obtain ⟨h0, h1, h2, h3, h4, h5, h6, h7⟩ := pbit1
  have e : ovl 128 a.data.toList b.data.toList 1 8 = (b.data.toList.take 128) ++ a.data.toList.drop 128 := by
    simp only [ovl, h0, h1, h2, h3, h4, h5, h6, h7, if_true, Bool.false_eq_true, if_false]
    unfold lay8
    have : b.data.toList.length = 1024 := hb
    simp [this]
  have e2 : ovlS 128 a b 1 = ⟨(ovl 128 a.data.toList b.data.toList 1 8).toArray⟩ := rfl
  rw [e2, e]
  apply ByteArray.ext
  apply Array.toList_inj.1
  rw [ByteArray.data_append, Array.toList_append, ByteArray.data_extract, ByteArray.data_extract, Array.toList_extract, Array.toList_extract, List.extract_eq_take_drop, List.extract_eq_take_drop]
  have hl : a.data.toList.length = a.size := rfl
  simp
  exact (List.take_of_length_le (by rw [List.length_drop, hl]; exact Nat.le_refl _)).symm
theorem write_as {b no : Nat} {D D' : Dk} {S : Nat → Prop} {s : ByteArray} (w : World) (h : DkAt w b D S) (hk : DkOk D) (hm : DkSm D 1048575) (hno : no < 4294967296) (he : wrE D no s = 0) (hD : dkWrite D no s = D') :
    Calls Try.prog 28 #[.pointer (some ⟨b, 0, none⟩), .int .u32 (no : Int), .string s] w fun e w' => e = .returned (.int .i64 0) ∧ DkAt w' b D' (Land S w w') ∧ Fr S w w' := by
  have := write_calls (s := s) w h hk hm hno
  rw [he, hD] at this
  exact this
theorem sync_as {b : Nat} {D D' : Dk} {S : Nat → Prop} (w : World) (h : DkAt w b D S) (hk : DkOk D) (hm : DkSm D 1048576) (hoff : D.off = false) (hD : dkSync D = D') :
    Calls Try.prog 29 #[.pointer (some ⟨b, 0, none⟩)] w fun e w' => e = .returned (.int .i64 0) ∧ DkAt w' b D' (Land S w w') ∧ Fr S w w' := by
  have := sync_calls w h hk hm
  rw [hoff, hD] at this
  exact this
theorem crash_as {b fc : Nat} {fa : Option Addr} {F : List Nat} {D D' : Dk} {S : Nat → Prop} (w : World) (h : DkAt w b D S) (hk : DkOk D) (hm : DkSm D 1048576) (hmI : (setP D.page (fateF F) 0 D.W D.I).length ≤ 1048576) (hft : FtRow w fa F) (hfs : ∀ g o, fa = some ⟨g, o, none⟩ → ¬ S g) (hoff : D.off = false) (hD : dkLose D F = D') :
    Calls Try.prog 32 #[.pointer (some ⟨b, 0, none⟩), .slice fa F.length fc] w fun e w' => e = .returned (.int .i64 0) ∧ DkAt w' b D' (Land S w w') ∧ Fr S w w' := by
  have := crash_calls (fc := fc) w h hk hm hmI hft hfs
  rw [hoff, hD] at this
  exact this
/-- The land since w. -/
def LV (w W : World) (k : Nat) : Prop := w.heap.size ≤ k ∧ k < W.heap.size
theorem lv_step {w W W' : World} {b : Nat} {D : Dk} (h : DkAt W' b D (Land (LV w W) W W')) (s : Same w W) (f : W.heap.size ≤ W'.heap.size) : DkAt W' b D (LV w W') :=
  h.land (fun k hk => by rcases hk with e | e; exact ⟨e.1, Nat.lt_of_lt_of_le e.2 f⟩; exact ⟨Nat.le_trans s.size e.1, e.2⟩) (fun _ hk => hk.2)
theorem lv_same {w W W' : World} {b : Nat} {D : Dk} (h : DkAt W b D (LV w W)) (s : Same W W') : DkAt W' b D (LV w W') :=
  (h.same s).land (fun _ hk => ⟨hk.1, Nat.lt_of_lt_of_le hk.2 s.size⟩) (fun _ hk => hk.2)
theorem lv_fr {w W W' : World} (s : Same w W) (f : Fr (LV w W) W W') : Same w W' := Fr.trans s f (fun k hk e => by have := e.1; omega)
def rOW0 : Array Oper := #[{ dst := some 0, op := Op.assign (Operand.const (Value.bool false)), type := 4, pos := "outright.go:11", after := #[], guard := none }]
def rOW1 : Array Oper := #[{ dst := some 11, op := Op.call { callee := Callee.value (Operand.func 6), args := #[Operand.const (Value.int IntKind.i64 1024), Operand.const (Value.int IntKind.i64 4)], argTypes := #[3, 3] }, type := 28, pos := "outright.go:12", after := #[], guard := none },
  { dst := some 10, op := Op.move (Operand.tmp 11), type := 28, pos := "outright.go:12", after := #[{ on := 0, ground := Ground.data }], guard := none },
  { dst := some 12, op := Op.extract (Operand.tmp 10) 0, type := 27, pos := "outright.go:12", after := #[{ on := 1, ground := Ground.data }], guard := none },
  { dst := some 13, op := Op.extract (Operand.tmp 10) 1, type := 24, pos := "outright.go:12", after := #[{ on := 1, ground := Ground.data }, { on := 4, ground := Ground.gcOnly Go.Departure.lateStores }], guard := none },
  { dst := some 1, op := Op.assign (Operand.tmp 12), type := 27, pos := "outright.go:12", after := #[{ on := 2, ground := Ground.data }, { on := 0, ground := Ground.chain }, { on := 0, ground := Ground.phase }, { on := 1, ground := Ground.phase }, { on := 2, ground := Ground.phase }, { on := 3, ground := Ground.textOnly Go.Departure.lateStores }], guard := none },
  { dst := some 2, op := Op.assign (Operand.tmp 13), type := 24, pos := "outright.go:12", after := #[{ on := 3, ground := Ground.data }, { on := 4, ground := Ground.chain }, { on := 0, ground := Ground.phase }, { on := 1, ground := Ground.phase }, { on := 2, ground := Ground.phase }, { on := 3, ground := Ground.phase }, { on := 4, ground := Ground.phase }], guard := none }]
def rOW2 : Array Oper := #[{ dst := some 14, op := Op.move (Operand.tmp 2), type := 24, pos := "outright.go:13", after := #[], guard := none },
  { dst := some 15, op := Op.binOp BinOp.neq 24 (Operand.tmp 14) (Operand.const (Value.int IntKind.i64 0)) 24, type := 4, pos := "outright.go:13", after := #[{ on := 0, ground := Ground.data }], guard := none },
  { dst := some 16, op := Op.move (Operand.tmp 15), type := 4, pos := "outright.go:13", after := #[{ on := 1, ground := Ground.data }], guard := none },
  { dst := some 17, op := Op.move (Operand.tmp 1), type := 27, pos := "outright.go:13", after := #[{ on := 2, ground := Ground.guard }], guard := some (2, false) },
  { dst := some 18, op := Op.binOp BinOp.eql 27 (Operand.tmp 17) (Operand.const (Value.pointer none)) 27, type := 4, pos := "outright.go:13", after := #[{ on := 3, ground := Ground.data }, { on := 2, ground := Ground.guard }], guard := some (2, false) },
  { dst := some 19, op := Op.pick (Operand.tmp 16) (Operand.const (Value.bool true)) (Operand.tmp 18), type := 4, pos := "outright.go:13", after := #[{ on := 2, ground := Ground.data }, { on := 4, ground := Ground.data }], guard := none },
  { dst := some 20, op := Op.move (Operand.tmp 19), type := 4, pos := "outright.go:13", after := #[{ on := 5, ground := Ground.data }, { on := 2, ground := Ground.chain }], guard := none },
  { dst := some 21, op := Op.move (Operand.tmp 1), type := 27, pos := "outright.go:13", after := #[{ on := 6, ground := Ground.guard }], guard := some (6, false) },
  { dst := some 22, op := Op.call { callee := Callee.value (Operand.func 26), args := #[Operand.tmp 21, Operand.const (Value.int IntKind.i64 2)], argTypes := #[27, 3] }, type := 24, pos := "outright.go:13", after := #[{ on := 7, ground := Ground.data }, { on := 6, ground := Ground.chain }, { on := 6, ground := Ground.guard }], guard := some (6, false) },
  { dst := some 23, op := Op.binOp BinOp.neq 24 (Operand.tmp 22) (Operand.const (Value.int IntKind.i64 0)) 24, type := 4, pos := "outright.go:13", after := #[{ on := 8, ground := Ground.data }, { on := 6, ground := Ground.guard }], guard := some (6, false) },
  { dst := some 24, op := Op.pick (Operand.tmp 20) (Operand.const (Value.bool true)) (Operand.tmp 23), type := 4, pos := "outright.go:13", after := #[{ on := 6, ground := Ground.data }, { on := 9, ground := Ground.data }], guard := none }]
def rOW3 : Array Oper := #[{ dst := some 0, op := Op.assign (Operand.const (Value.bool false)), type := 4, pos := "outright.go:14", after := #[], guard := none }]
def rOW4 : Array Oper := #[{ dst := some 25, op := Op.build 57 #[(0, Operand.const (Value.int IntKind.i64 (-1))), (1, Operand.const (Value.int IntKind.u8 97))], type := 57, pos := "outright.go:16", after := #[], guard := none },
  { dst := some 26, op := Op.call { callee := Callee.value (Operand.func 27), args := #[Operand.tmp 25, Operand.const (Value.int IntKind.i64 1024)], argTypes := #[57, 3] }, type := 9, pos := "outright.go:16", after := #[{ on := 0, ground := Ground.data }], guard := none },
  { dst := some 27, op := Op.build 57 #[(0, Operand.const (Value.int IntKind.i64 (-1))), (1, Operand.const (Value.int IntKind.u8 98))], type := 57, pos := "outright.go:16", after := #[], guard := none },
  { dst := some 28, op := Op.call { callee := Callee.value (Operand.func 27), args := #[Operand.tmp 27, Operand.const (Value.int IntKind.i64 1024)], argTypes := #[57, 3] }, type := 9, pos := "outright.go:16", after := #[{ on := 2, ground := Ground.data }, { on := 1, ground := Ground.chain }], guard := none },
  { dst := some 3, op := Op.assign (Operand.tmp 26), type := 9, pos := "outright.go:16", after := #[{ on := 1, ground := Ground.data }, { on := 3, ground := Ground.chain }, { on := 0, ground := Ground.phase }, { on := 1, ground := Ground.phase }, { on := 2, ground := Ground.textOnly Go.Departure.lateStores }, { on := 3, ground := Ground.textOnly Go.Departure.lateStoresUnsure }], guard := none },
  { dst := some 4, op := Op.assign (Operand.tmp 28), type := 9, pos := "outright.go:16", after := #[{ on := 3, ground := Ground.data }, { on := 4, ground := Ground.chain }, { on := 0, ground := Ground.phase }, { on := 1, ground := Ground.phase }, { on := 2, ground := Ground.phase }, { on := 3, ground := Ground.phase }, { on := 4, ground := Ground.phase }], guard := none }]
def rOW5 : Array Oper := #[{ dst := some 29, op := Op.move (Operand.tmp 1), type := 27, pos := "outright.go:17", after := #[], guard := none },
  { dst := some 30, op := Op.move (Operand.tmp 3), type := 9, pos := "outright.go:17", after := #[], guard := none },
  { dst := some 31, op := Op.call { callee := Callee.value (Operand.func 28), args := #[Operand.tmp 29, Operand.const (Value.int IntKind.u32 0), Operand.tmp 30], argTypes := #[27, 59, 9] }, type := 24, pos := "outright.go:17", after := #[{ on := 0, ground := Ground.data }, { on := 1, ground := Ground.data }], guard := none },
  { dst := some 32, op := Op.binOp BinOp.neq 24 (Operand.tmp 31) (Operand.const (Value.int IntKind.i64 0)) 24, type := 4, pos := "outright.go:17", after := #[{ on := 2, ground := Ground.data }], guard := none },
  { dst := some 33, op := Op.move (Operand.tmp 32), type := 4, pos := "outright.go:17", after := #[{ on := 3, ground := Ground.data }, { on := 2, ground := Ground.chain }], guard := none },
  { dst := some 34, op := Op.move (Operand.tmp 1), type := 27, pos := "outright.go:17", after := #[{ on := 4, ground := Ground.guard }], guard := some (4, false) },
  { dst := some 35, op := Op.call { callee := Callee.value (Operand.func 29), args := #[Operand.tmp 34], argTypes := #[27] }, type := 24, pos := "outright.go:17", after := #[{ on := 5, ground := Ground.data }, { on := 4, ground := Ground.chain }, { on := 4, ground := Ground.guard }], guard := some (4, false) },
  { dst := some 36, op := Op.binOp BinOp.neq 24 (Operand.tmp 35) (Operand.const (Value.int IntKind.i64 0)) 24, type := 4, pos := "outright.go:17", after := #[{ on := 6, ground := Ground.data }, { on := 4, ground := Ground.guard }], guard := some (4, false) },
  { dst := some 37, op := Op.pick (Operand.tmp 33) (Operand.const (Value.bool true)) (Operand.tmp 36), type := 4, pos := "outright.go:17", after := #[{ on := 4, ground := Ground.data }, { on := 7, ground := Ground.data }], guard := none },
  { dst := some 38, op := Op.move (Operand.tmp 37), type := 4, pos := "outright.go:17", after := #[{ on := 8, ground := Ground.data }, { on := 6, ground := Ground.chain }], guard := none },
  { dst := some 39, op := Op.move (Operand.tmp 1), type := 27, pos := "outright.go:17", after := #[{ on := 9, ground := Ground.guard }], guard := some (9, false) },
  { dst := some 40, op := Op.move (Operand.tmp 4), type := 9, pos := "outright.go:17", after := #[{ on := 9, ground := Ground.guard }], guard := some (9, false) },
  { dst := some 41, op := Op.call { callee := Callee.value (Operand.func 28), args := #[Operand.tmp 39, Operand.const (Value.int IntKind.u32 0), Operand.tmp 40], argTypes := #[27, 59, 9] }, type := 24, pos := "outright.go:17", after := #[{ on := 10, ground := Ground.data }, { on := 11, ground := Ground.data }, { on := 9, ground := Ground.chain }, { on := 9, ground := Ground.guard }], guard := some (9, false) },
  { dst := some 42, op := Op.binOp BinOp.neq 24 (Operand.tmp 41) (Operand.const (Value.int IntKind.i64 0)) 24, type := 4, pos := "outright.go:17", after := #[{ on := 12, ground := Ground.data }, { on := 9, ground := Ground.guard }], guard := some (9, false) },
  { dst := some 43, op := Op.pick (Operand.tmp 38) (Operand.const (Value.bool true)) (Operand.tmp 42), type := 4, pos := "outright.go:17", after := #[{ on := 9, ground := Ground.data }, { on := 13, ground := Ground.data }], guard := none },
  { dst := some 44, op := Op.move (Operand.tmp 43), type := 4, pos := "outright.go:17", after := #[{ on := 14, ground := Ground.data }, { on := 12, ground := Ground.chain }], guard := none },
  { dst := some 45, op := Op.move (Operand.tmp 1), type := 27, pos := "outright.go:17", after := #[{ on := 15, ground := Ground.guard }], guard := some (15, false) },
  { dst := some 46, op := Op.move (Operand.tmp 4), type := 9, pos := "outright.go:17", after := #[{ on := 15, ground := Ground.guard }], guard := some (15, false) },
  { dst := some 47, op := Op.call { callee := Callee.value (Operand.func 28), args := #[Operand.tmp 45, Operand.const (Value.int IntKind.u32 1), Operand.tmp 46], argTypes := #[27, 59, 9] }, type := 24, pos := "outright.go:17", after := #[{ on := 16, ground := Ground.data }, { on := 17, ground := Ground.data }, { on := 15, ground := Ground.chain }, { on := 15, ground := Ground.guard }], guard := some (15, false) },
  { dst := some 48, op := Op.binOp BinOp.neq 24 (Operand.tmp 47) (Operand.const (Value.int IntKind.i64 0)) 24, type := 4, pos := "outright.go:17", after := #[{ on := 18, ground := Ground.data }, { on := 15, ground := Ground.guard }], guard := some (15, false) },
  { dst := some 49, op := Op.pick (Operand.tmp 44) (Operand.const (Value.bool true)) (Operand.tmp 48), type := 4, pos := "outright.go:17", after := #[{ on := 15, ground := Ground.data }, { on := 19, ground := Ground.data }], guard := none }]
def rOW6 : Array Oper := #[{ dst := some 0, op := Op.assign (Operand.const (Value.bool false)), type := 4, pos := "outright.go:18", after := #[], guard := none }]
def rOW7 : Array Oper := #[{ dst := some 51, op := Op.move (Operand.tmp 1), type := 27, pos := "outright.go:20", after := #[], guard := none },
  { dst := some 52, op := Op.call { callee := Callee.value (Operand.func 30), args := #[Operand.tmp 51, Operand.const (Value.int IntKind.u32 0)], argTypes := #[27, 59] }, type := 61, pos := "outright.go:20", after := #[{ on := 0, ground := Ground.data }], guard := none },
  { dst := some 50, op := Op.move (Operand.tmp 52), type := 61, pos := "outright.go:20", after := #[{ on := 1, ground := Ground.data }], guard := none },
  { dst := some 53, op := Op.extract (Operand.tmp 50) 0, type := 9, pos := "outright.go:20", after := #[{ on := 2, ground := Ground.data }], guard := none },
  { dst := some 54, op := Op.extract (Operand.tmp 50) 1, type := 24, pos := "outright.go:20", after := #[{ on := 2, ground := Ground.data }, { on := 5, ground := Ground.gcOnly Go.Departure.lateStores }], guard := none },
  { dst := some 5, op := Op.assign (Operand.tmp 53), type := 9, pos := "outright.go:20", after := #[{ on := 3, ground := Ground.data }, { on := 1, ground := Ground.chain }, { on := 0, ground := Ground.phase }, { on := 1, ground := Ground.phase }, { on := 2, ground := Ground.phase }, { on := 3, ground := Ground.phase }, { on := 4, ground := Ground.textOnly Go.Departure.lateStores }], guard := none },
  { dst := some 6, op := Op.assign (Operand.tmp 54), type := 24, pos := "outright.go:20", after := #[{ on := 4, ground := Ground.data }, { on := 5, ground := Ground.chain }, { on := 0, ground := Ground.phase }, { on := 1, ground := Ground.phase }, { on := 2, ground := Ground.phase }, { on := 3, ground := Ground.phase }, { on := 4, ground := Ground.phase }, { on := 5, ground := Ground.phase }], guard := none }]
def rOW8 : Array Oper := #[{ dst := some 55, op := Op.move (Operand.tmp 6), type := 24, pos := "outright.go:21", after := #[], guard := none },
  { dst := some 56, op := Op.binOp BinOp.neq 24 (Operand.tmp 55) (Operand.const (Value.int IntKind.i64 0)) 24, type := 4, pos := "outright.go:21", after := #[{ on := 0, ground := Ground.data }], guard := none },
  { dst := some 57, op := Op.move (Operand.tmp 56), type := 4, pos := "outright.go:21", after := #[{ on := 1, ground := Ground.data }], guard := none },
  { dst := some 58, op := Op.move (Operand.tmp 5), type := 9, pos := "outright.go:21", after := #[{ on := 2, ground := Ground.guard }], guard := some (2, false) },
  { dst := some 59, op := Op.move (Operand.tmp 4), type := 9, pos := "outright.go:21", after := #[{ on := 2, ground := Ground.guard }], guard := some (2, false) },
  { dst := some 60, op := Op.binOp BinOp.neq 9 (Operand.tmp 58) (Operand.tmp 59) 9, type := 4, pos := "outright.go:21", after := #[{ on := 3, ground := Ground.data }, { on := 4, ground := Ground.data }, { on := 2, ground := Ground.guard }], guard := some (2, false) },
  { dst := some 61, op := Op.pick (Operand.tmp 57) (Operand.const (Value.bool true)) (Operand.tmp 60), type := 4, pos := "outright.go:21", after := #[{ on := 2, ground := Ground.data }, { on := 5, ground := Ground.data }], guard := none },
  { dst := some 62, op := Op.move (Operand.tmp 61), type := 4, pos := "outright.go:21", after := #[{ on := 6, ground := Ground.data }, { on := 2, ground := Ground.chain }], guard := none },
  { dst := some 63, op := Op.move (Operand.tmp 1), type := 27, pos := "outright.go:21", after := #[{ on := 7, ground := Ground.guard }], guard := some (7, false) },
  { dst := some 64, op := Op.call { callee := Callee.value (Operand.func 31), args := #[Operand.tmp 63], argTypes := #[27] }, type := 63, pos := "outright.go:21", after := #[{ on := 8, ground := Ground.data }, { on := 7, ground := Ground.chain }, { on := 7, ground := Ground.guard }], guard := some (7, false) },
  { dst := some 65, op := Op.call { callee := Callee.builtin Builtin.len, args := #[Operand.tmp 64], argTypes := #[63] }, type := 3, pos := "outright.go:21", after := #[{ on := 9, ground := Ground.data }, { on := 7, ground := Ground.guard }], guard := some (7, false) },
  { dst := some 66, op := Op.binOp BinOp.neq 3 (Operand.tmp 65) (Operand.const (Value.int IntKind.i64 2)) 3, type := 4, pos := "outright.go:21", after := #[{ on := 10, ground := Ground.data }, { on := 7, ground := Ground.guard }], guard := some (7, false) },
  { dst := some 67, op := Op.pick (Operand.tmp 62) (Operand.const (Value.bool true)) (Operand.tmp 66), type := 4, pos := "outright.go:21", after := #[{ on := 7, ground := Ground.data }, { on := 11, ground := Ground.data }], guard := none },
  { dst := some 68, op := Op.move (Operand.tmp 67), type := 4, pos := "outright.go:21", after := #[{ on := 12, ground := Ground.data }, { on := 9, ground := Ground.chain }], guard := none },
  { dst := some 69, op := Op.move (Operand.tmp 1), type := 27, pos := "outright.go:21", after := #[{ on := 13, ground := Ground.guard }], guard := some (13, false) },
  { dst := some 70, op := Op.buildSlice 80 1 #[(0, Operand.const (Value.int IntKind.u8 1))], type := 80, pos := "outright.go:21", after := #[{ on := 13, ground := Ground.guard }], guard := some (13, false) },
  { dst := some 71, op := Op.call { callee := Callee.value (Operand.func 32), args := #[Operand.tmp 69, Operand.tmp 70], argTypes := #[27, 80] }, type := 24, pos := "outright.go:21", after := #[{ on := 14, ground := Ground.data }, { on := 15, ground := Ground.data }, { on := 13, ground := Ground.chain }, { on := 13, ground := Ground.guard }], guard := some (13, false) },
  { dst := some 72, op := Op.binOp BinOp.neq 24 (Operand.tmp 71) (Operand.const (Value.int IntKind.i64 0)) 24, type := 4, pos := "outright.go:21", after := #[{ on := 16, ground := Ground.data }, { on := 13, ground := Ground.guard }], guard := some (13, false) },
  { dst := some 73, op := Op.pick (Operand.tmp 68) (Operand.const (Value.bool true)) (Operand.tmp 72), type := 4, pos := "outright.go:21", after := #[{ on := 13, ground := Ground.data }, { on := 17, ground := Ground.data }], guard := none },
  { dst := some 74, op := Op.move (Operand.tmp 73), type := 4, pos := "outright.go:21", after := #[{ on := 18, ground := Ground.data }, { on := 16, ground := Ground.chain }], guard := none },
  { dst := some 75, op := Op.move (Operand.tmp 1), type := 27, pos := "outright.go:21", after := #[{ on := 19, ground := Ground.guard }], guard := some (19, false) },
  { dst := some 76, op := Op.call { callee := Callee.value (Operand.func 21), args := #[Operand.tmp 75], argTypes := #[27] }, type := 4, pos := "outright.go:21", after := #[{ on := 20, ground := Ground.data }, { on := 19, ground := Ground.chain }, { on := 19, ground := Ground.guard }], guard := some (19, false) },
  { dst := some 77, op := Op.pick (Operand.tmp 74) (Operand.const (Value.bool true)) (Operand.tmp 76), type := 4, pos := "outright.go:21", after := #[{ on := 19, ground := Ground.data }, { on := 21, ground := Ground.data }], guard := none }]
def rOW9 : Array Oper := #[{ dst := some 0, op := Op.assign (Operand.const (Value.bool false)), type := 4, pos := "outright.go:22", after := #[], guard := none }]
def rOW10 : Array Oper := #[{ dst := some 78, op := Op.move (Operand.tmp 1), type := 27, pos := "outright.go:24", after := #[], guard := none },
  { dst := some 79, op := Op.call { callee := Callee.value (Operand.func 9), args := #[Operand.tmp 78], argTypes := #[27] }, type := 22, pos := "outright.go:24", after := #[{ on := 0, ground := Ground.data }], guard := none },
  { dst := some 7, op := Op.assign (Operand.tmp 79), type := 22, pos := "outright.go:24", after := #[{ on := 1, ground := Ground.data }, { on := 1, ground := Ground.chain }, { on := 0, ground := Ground.phase }, { on := 1, ground := Ground.phase }], guard := none }]
def rOW11 : Array Oper := #[{ dst := some 81, op := Op.move (Operand.tmp 1), type := 27, pos := "outright.go:25", after := #[], guard := none },
  { dst := some 82, op := Op.call { callee := Callee.value (Operand.func 30), args := #[Operand.tmp 81, Operand.const (Value.int IntKind.u32 0)], argTypes := #[27, 59] }, type := 61, pos := "outright.go:25", after := #[{ on := 0, ground := Ground.data }], guard := none },
  { dst := some 80, op := Op.move (Operand.tmp 82), type := 61, pos := "outright.go:25", after := #[{ on := 1, ground := Ground.data }], guard := none },
  { dst := some 83, op := Op.extract (Operand.tmp 80) 0, type := 9, pos := "outright.go:25", after := #[{ on := 2, ground := Ground.data }], guard := none },
  { dst := some 84, op := Op.extract (Operand.tmp 80) 1, type := 24, pos := "outright.go:25", after := #[{ on := 2, ground := Ground.data }, { on := 5, ground := Ground.gcOnly Go.Departure.lateStores }], guard := none },
  { dst := some 8, op := Op.assign (Operand.tmp 83), type := 9, pos := "outright.go:25", after := #[{ on := 3, ground := Ground.data }, { on := 1, ground := Ground.chain }, { on := 0, ground := Ground.phase }, { on := 1, ground := Ground.phase }, { on := 2, ground := Ground.phase }, { on := 3, ground := Ground.phase }, { on := 4, ground := Ground.textOnly Go.Departure.lateStores }], guard := none },
  { dst := some 9, op := Op.assign (Operand.tmp 84), type := 24, pos := "outright.go:25", after := #[{ on := 4, ground := Ground.data }, { on := 5, ground := Ground.chain }, { on := 0, ground := Ground.phase }, { on := 1, ground := Ground.phase }, { on := 2, ground := Ground.phase }, { on := 3, ground := Ground.phase }, { on := 4, ground := Ground.phase }, { on := 5, ground := Ground.phase }], guard := none }]
def rOW12 : Array Oper := #[{ dst := some 85, op := Op.move (Operand.tmp 7), type := 22, pos := "outright.go:26", after := #[], guard := none },
  { dst := some 86, op := Op.call { callee := Callee.builtin Builtin.len, args := #[Operand.tmp 85], argTypes := #[22] }, type := 3, pos := "outright.go:26", after := #[{ on := 0, ground := Ground.data }], guard := none },
  { dst := some 87, op := Op.binOp BinOp.eql 3 (Operand.tmp 86) (Operand.const (Value.int IntKind.i64 2)) 3, type := 4, pos := "outright.go:26", after := #[{ on := 1, ground := Ground.data }], guard := none },
  { dst := some 88, op := Op.move (Operand.tmp 87), type := 4, pos := "outright.go:26", after := #[{ on := 2, ground := Ground.data }], guard := none },
  { dst := some 89, op := Op.move (Operand.tmp 7), type := 22, pos := "outright.go:26", after := #[{ on := 3, ground := Ground.guard }], guard := some (3, true) },
  { dst := some 90, op := Op.indexAddr 22 (Operand.tmp 89) (Operand.const (Value.int IntKind.i64 0)), type := 0, pos := "outright.go:26", after := #[{ on := 4, ground := Ground.data }, { on := 3, ground := Ground.guard }], guard := some (3, true) },
  { dst := some 91, op := Op.load 9 (Operand.tmp 90), type := 9, pos := "outright.go:26", after := #[{ on := 5, ground := Ground.data }, { on := 3, ground := Ground.guard }], guard := some (3, true) },
  { dst := some 92, op := Op.move (Operand.tmp 4), type := 9, pos := "outright.go:26", after := #[{ on := 3, ground := Ground.guard }], guard := some (3, true) },
  { dst := some 93, op := Op.slice 9 (Operand.tmp 92) none (some (Operand.const (Value.int IntKind.i64 128))) none, type := 9, pos := "outright.go:26", after := #[{ on := 7, ground := Ground.data }, { on := 3, ground := Ground.guard }], guard := some (3, true) },
  { dst := some 94, op := Op.move (Operand.tmp 3), type := 9, pos := "outright.go:26", after := #[{ on := 3, ground := Ground.guard }], guard := some (3, true) },
  { dst := some 95, op := Op.slice 9 (Operand.tmp 94) (some (Operand.const (Value.int IntKind.i64 128))) none none, type := 9, pos := "outright.go:26", after := #[{ on := 9, ground := Ground.data }, { on := 3, ground := Ground.guard }], guard := some (3, true) },
  { dst := some 96, op := Op.binOp BinOp.add 9 (Operand.tmp 93) (Operand.tmp 95) 9, type := 9, pos := "outright.go:26", after := #[{ on := 8, ground := Ground.data }, { on := 10, ground := Ground.data }, { on := 3, ground := Ground.guard }], guard := some (3, true) },
  { dst := some 97, op := Op.binOp BinOp.eql 9 (Operand.tmp 91) (Operand.tmp 96) 9, type := 4, pos := "outright.go:26", after := #[{ on := 6, ground := Ground.data }, { on := 11, ground := Ground.data }, { on := 3, ground := Ground.guard }], guard := some (3, true) },
  { dst := some 98, op := Op.pick (Operand.tmp 88) (Operand.tmp 97) (Operand.const (Value.bool false)), type := 4, pos := "outright.go:26", after := #[{ on := 3, ground := Ground.data }, { on := 12, ground := Ground.data }], guard := none },
  { dst := some 99, op := Op.move (Operand.tmp 98), type := 4, pos := "outright.go:26", after := #[{ on := 13, ground := Ground.data }, { on := 3, ground := Ground.chain }], guard := none },
  { dst := some 100, op := Op.move (Operand.tmp 9), type := 24, pos := "outright.go:26", after := #[{ on := 14, ground := Ground.guard }], guard := some (14, true) },
  { dst := some 101, op := Op.binOp BinOp.eql 24 (Operand.tmp 100) (Operand.const (Value.int IntKind.i64 7)) 24, type := 4, pos := "outright.go:26", after := #[{ on := 15, ground := Ground.data }, { on := 14, ground := Ground.guard }], guard := some (14, true) },
  { dst := some 102, op := Op.pick (Operand.tmp 99) (Operand.tmp 101) (Operand.const (Value.bool false)), type := 4, pos := "outright.go:26", after := #[{ on := 14, ground := Ground.data }, { on := 16, ground := Ground.data }], guard := none },
  { dst := some 103, op := Op.move (Operand.tmp 102), type := 4, pos := "outright.go:26", after := #[{ on := 17, ground := Ground.data }, { on := 14, ground := Ground.chain }], guard := none },
  { dst := some 104, op := Op.move (Operand.tmp 1), type := 27, pos := "outright.go:26", after := #[{ on := 18, ground := Ground.guard }], guard := some (18, true) },
  { dst := some 105, op := Op.call { callee := Callee.value (Operand.func 33), args := #[Operand.tmp 104], argTypes := #[27] }, type := 24, pos := "outright.go:26", after := #[{ on := 19, ground := Ground.data }, { on := 18, ground := Ground.chain }, { on := 18, ground := Ground.guard }], guard := some (18, true) },
  { dst := some 106, op := Op.binOp BinOp.eql 24 (Operand.tmp 105) (Operand.const (Value.int IntKind.i64 0)) 24, type := 4, pos := "outright.go:26", after := #[{ on := 20, ground := Ground.data }, { on := 18, ground := Ground.guard }], guard := some (18, true) },
  { dst := some 107, op := Op.pick (Operand.tmp 103) (Operand.tmp 106) (Operand.const (Value.bool false)), type := 4, pos := "outright.go:26", after := #[{ on := 18, ground := Ground.data }, { on := 21, ground := Ground.data }], guard := none },
  { dst := some 108, op := Op.move (Operand.tmp 107), type := 4, pos := "outright.go:26", after := #[{ on := 22, ground := Ground.data }, { on := 20, ground := Ground.chain }], guard := none },
  { dst := some 109, op := Op.move (Operand.tmp 1), type := 27, pos := "outright.go:26", after := #[{ on := 23, ground := Ground.guard }], guard := some (23, true) },
  { dst := some 110, op := Op.call { callee := Callee.value (Operand.func 22), args := #[Operand.tmp 109], argTypes := #[27] }, type := 3, pos := "outright.go:26", after := #[{ on := 24, ground := Ground.data }, { on := 23, ground := Ground.chain }, { on := 23, ground := Ground.guard }], guard := some (23, true) },
  { dst := some 111, op := Op.binOp BinOp.eql 3 (Operand.tmp 110) (Operand.const (Value.int IntKind.i64 1)) 3, type := 4, pos := "outright.go:26", after := #[{ on := 25, ground := Ground.data }, { on := 23, ground := Ground.guard }], guard := some (23, true) },
  { dst := some 112, op := Op.pick (Operand.tmp 108) (Operand.tmp 111) (Operand.const (Value.bool false)), type := 4, pos := "outright.go:26", after := #[{ on := 23, ground := Ground.data }, { on := 26, ground := Ground.data }], guard := none },
  { dst := some 0, op := Op.assign (Operand.tmp 112), type := 4, pos := "outright.go:26", after := #[{ on := 27, ground := Ground.data }, { on := 25, ground := Ground.chain }, { on := 0, ground := Ground.phase }, { on := 1, ground := Ground.phase }, { on := 2, ground := Ground.phase }, { on := 3, ground := Ground.phase }, { on := 4, ground := Ground.phase }, { on := 5, ground := Ground.phase }, { on := 6, ground := Ground.phase }, { on := 7, ground := Ground.phase }, { on := 8, ground := Ground.phase }, { on := 9, ground := Ground.phase }, { on := 10, ground := Ground.phase }, { on := 11, ground := Ground.phase }, { on := 12, ground := Ground.phase }, { on := 13, ground := Ground.phase }, { on := 14, ground := Ground.phase }, { on := 15, ground := Ground.phase }, { on := 16, ground := Ground.phase }, { on := 17, ground := Ground.phase }, { on := 18, ground := Ground.phase }, { on := 19, ground := Ground.phase }, { on := 20, ground := Ground.phase }, { on := 21, ground := Ground.phase }, { on := 22, ground := Ground.phase }, { on := 23, ground := Ground.phase }, { on := 24, ground := Ground.phase }, { on := 25, ground := Ground.phase }, { on := 26, ground := Ground.phase }, { on := 27, ground := Ground.phase }], guard := none }]
def cOW : Code := (Code.seq (Code.region 0 rOW0 false) (Code.seq (Code.region 1 rOW1 false) (Code.seq (Code.seq (Code.region 2 rOW2 false) (Code.cond (Operand.tmp 24) (Code.seq (Code.region 3 rOW3 false) Code.ret) Code.skip)) (Code.seq (Code.region 4 rOW4 false) (Code.seq (Code.seq (Code.region 5 rOW5 false) (Code.cond (Operand.tmp 49) (Code.seq (Code.region 6 rOW6 false) Code.ret) Code.skip)) (Code.seq (Code.region 7 rOW7 false) (Code.seq (Code.seq (Code.region 8 rOW8 false) (Code.cond (Operand.tmp 77) (Code.seq (Code.region 9 rOW9 false) Code.ret) Code.skip)) (Code.seq (Code.region 10 rOW10 false) (Code.seq (Code.region 11 rOW11 false) (Code.seq (Code.region 12 rOW12 true) Code.ret))))))))))
set_option maxRecDepth 100000 in
set_option maxHeartbeats 4000000 in
theorem lives_calls (w : World) : Calls Try.prog 10 #[] w fun e w' => e = .returned (.bool true) ∧ Same w w' := by
  refine calls_abs (c := cOW) Try.func10 (by kernel_rfl) 113 rfl (by simp) (fun a0 hsz hd ha => ?_)
  have fa0_0 := Fe.refl a0
  unfold cOW
  refine wp_seq ?_
  refine wp_region_list ?_
  unfold rOW0
  refine fa0_0.move 0 (.bool false) _ (Or.inr rfl) rfl (lb_ hsz) (wanted_none rfl) rfl (fun a0_1 fa0_1 => ?_)
  clear fa0_0
  refine wpList_nil ?_
  change Code.wp _ _ _ _ _
  refine wp_seq ?_
  refine wp_region_list ?_
  unfold rOW1
  have r_a0_2 : (execOp a0_1.eval { dst := some 11, op := Op.call { callee := Callee.value (Operand.func 6), args := #[Operand.const (Value.int IntKind.i64 1024), Operand.const (Value.int IntKind.i64 4)], argTypes := #[3, 3] }, type := 28, pos := "outright.go:12", after := #[], guard := none }).run Try.prog (w) = .ok (.enter 6 #[Value.int IntKind.i64 1024, Value.int IntKind.i64 4]) (w) := by
    have kc : ∀ v, a0_1.eval (.const v) = v := fun _ => rfl
    have kf : ∀ f, a0_1.eval (.func f) = .func (.func f) #[] #[] := fun _ => rfl
    clear fa0_1 ha
    generalize a0_1.eval = ρ at *
    go_simp
  refine fa0_1.call 11 rfl (lb_ hsz) (wanted_none rfl) r_a0_2 (new_calls (pg := 1024) (mo := 4) w (Or.inl rfl) (by decide) (by decide)) (fun e W0 hR => ?_)
  obtain ⟨b, rfl, d0, s0⟩ := hR
  clear r_a0_2
  have d0 : DkAt W0 b (dkNew 1024 4) (LV w W0) := d0
  have i0 : DkIn (dkNew 1024 4) 0 := new_in (by decide)
  refine ⟨_, rfl, fun a0_2 fa0_2 => ?_⟩
  clear fa0_1
  refine fa0_2.move 10 (.tuple #[.pointer (some ⟨b, 0, none⟩), .int .i64 0]) _ (Or.inl rfl) rfl (lb_ hsz) (wanted_none rfl) (fa0_2.at_ 11) (fun a0_3 fa0_3 => ?_)
  clear fa0_2
  have r_a0_4 : (execOp a0_3.eval { dst := some 12, op := Op.extract (Operand.tmp 10) 0, type := 27, pos := "outright.go:12", after := #[{ on := 1, ground := Ground.data }], guard := none }).run Try.prog (W0) = .ok (.value (.pointer (some ⟨b, 0, none⟩))) (W0) := by
    have e10 := (show a0_3.eval (.tmp 10) = .tuple #[.pointer (some ⟨b, 0, none⟩), .int .i64 0] from (fa0_3.at_ 10))
    clear fa0_3 ha
    generalize a0_3.eval = ρ at *
    go_simp
  refine fa0_3.step 12 (.pointer (some ⟨b, 0, none⟩)) rfl (lb_ hsz) (wanted_none rfl) r_a0_4 (fun a0_4 fa0_4 => ?_)
  clear r_a0_4
  clear fa0_3
  have r_a0_5 : (execOp a0_4.eval { dst := some 13, op := Op.extract (Operand.tmp 10) 1, type := 24, pos := "outright.go:12", after := #[{ on := 1, ground := Ground.data }, { on := 4, ground := Ground.gcOnly Go.Departure.lateStores }], guard := none }).run Try.prog (W0) = .ok (.value (.int .i64 0)) (W0) := by
    have e10 := (show a0_4.eval (.tmp 10) = .tuple #[.pointer (some ⟨b, 0, none⟩), .int .i64 0] from (fa0_4.at_ 10))
    clear fa0_4 ha
    generalize a0_4.eval = ρ at *
    go_simp
  refine fa0_4.step 13 (.int .i64 0) rfl (lb_ hsz) (wanted_none rfl) r_a0_5 (fun a0_5 fa0_5 => ?_)
  clear r_a0_5
  clear fa0_4
  refine fa0_5.move 1 (.pointer (some ⟨b, 0, none⟩)) _ (Or.inr rfl) rfl (lb_ hsz) (wanted_none rfl) (fa0_5.at_ 12) (fun a0_6 fa0_6 => ?_)
  clear fa0_5
  refine fa0_6.move 2 (.int .i64 0) _ (Or.inr rfl) rfl (lb_ hsz) (wanted_none rfl) (fa0_6.at_ 13) (fun a0_7 fa0_7 => ?_)
  clear fa0_6
  refine wpList_nil ?_
  change Code.wp _ _ _ _ _
  refine wp_seq (wp_seq ?_)
  refine wp_region_list ?_
  unfold rOW2
  refine fa0_7.move 14 (.int .i64 0) _ (Or.inl rfl) rfl (lb_ hsz) (wanted_none rfl) (fa0_7.at_ 2) (fun a0_8 fa0_8 => ?_)
  clear fa0_7
  have r_a0_9 : (execOp a0_8.eval { dst := some 15, op := Op.binOp BinOp.neq 24 (Operand.tmp 14) (Operand.const (Value.int IntKind.i64 0)) 24, type := 4, pos := "outright.go:13", after := #[{ on := 0, ground := Ground.data }], guard := none }).run Try.prog (W0) = .ok (.value (.bool false)) (W0) := by
    have kc : ∀ v, a0_8.eval (.const v) = v := fun _ => rfl
    have e14 := (show a0_8.eval (.tmp 14) = .int .i64 0 from (fa0_8.at_ 14))
    clear fa0_8 ha
    generalize a0_8.eval = ρ at *
    go_simp
  refine fa0_8.step 15 (.bool false) rfl (lb_ hsz) (wanted_none rfl) r_a0_9 (fun a0_9 fa0_9 => ?_)
  clear r_a0_9
  clear fa0_8
  refine fa0_9.move 16 (.bool false) _ (Or.inl rfl) rfl (lb_ hsz) (wanted_none rfl) (fa0_9.at_ 15) (fun a0_10 fa0_10 => ?_)
  clear fa0_9
  refine fa0_10.move 17 (.pointer (some ⟨b, 0, none⟩)) _ (Or.inl rfl) rfl (lb_ hsz) ((wanted_at (t := 16) (c := false) (b := false) rfl rfl rfl (lb_ (fa0_10.size.trans hsz)) (fa0_10.at_ 16)).trans (by rfl)) (fa0_10.at_ 1) (fun a0_11 fa0_11 => ?_)
  clear fa0_10
  have r_a0_12 : (execOp a0_11.eval { dst := some 18, op := Op.binOp BinOp.eql 27 (Operand.tmp 17) (Operand.const (Value.pointer none)) 27, type := 4, pos := "outright.go:13", after := #[{ on := 3, ground := Ground.data }, { on := 2, ground := Ground.guard }], guard := some (2, false) }).run Try.prog (W0) = .ok (.value (.bool false)) (W0) := by
    have kc : ∀ v, a0_11.eval (.const v) = v := fun _ => rfl
    have e17 := (show a0_11.eval (.tmp 17) = .pointer (some ⟨b, 0, none⟩) from (fa0_11.at_ 17))
    clear fa0_11 ha
    generalize a0_11.eval = ρ at *
    go_simp
  refine fa0_11.step 18 (.bool false) rfl (lb_ hsz) ((wanted_at (t := 16) (c := false) (b := false) rfl rfl rfl (lb_ (fa0_11.size.trans hsz)) (fa0_11.at_ 16)).trans (by rfl)) r_a0_12 (fun a0_12 fa0_12 => ?_)
  clear r_a0_12
  clear fa0_11
  have r_a0_13 : (execOp a0_12.eval { dst := some 19, op := Op.pick (Operand.tmp 16) (Operand.const (Value.bool true)) (Operand.tmp 18), type := 4, pos := "outright.go:13", after := #[{ on := 2, ground := Ground.data }, { on := 4, ground := Ground.data }], guard := none }).run Try.prog (W0) = .ok (.value (.bool false)) (W0) := by
    have kc : ∀ v, a0_12.eval (.const v) = v := fun _ => rfl
    have e16 := (show a0_12.eval (.tmp 16) = .bool false from (fa0_12.at_ 16))
    have e18 := (show a0_12.eval (.tmp 18) = .bool false from (fa0_12.at_ 18))
    clear fa0_12 ha
    generalize a0_12.eval = ρ at *
    go_simp
  refine fa0_12.step 19 (.bool false) rfl (lb_ hsz) (wanted_none rfl) r_a0_13 (fun a0_13 fa0_13 => ?_)
  clear r_a0_13
  clear fa0_12
  refine fa0_13.move 20 (.bool false) _ (Or.inl rfl) rfl (lb_ hsz) (wanted_none rfl) (fa0_13.at_ 19) (fun a0_14 fa0_14 => ?_)
  clear fa0_13
  refine fa0_14.move 21 (.pointer (some ⟨b, 0, none⟩)) _ (Or.inl rfl) rfl (lb_ hsz) ((wanted_at (t := 20) (c := false) (b := false) rfl rfl rfl (lb_ (fa0_14.size.trans hsz)) (fa0_14.at_ 20)).trans (by rfl)) (fa0_14.at_ 1) (fun a0_15 fa0_15 => ?_)
  clear fa0_14
  have r_a0_16 : (execOp a0_15.eval { dst := some 22, op := Op.call { callee := Callee.value (Operand.func 26), args := #[Operand.tmp 21, Operand.const (Value.int IntKind.i64 2)], argTypes := #[27, 3] }, type := 24, pos := "outright.go:13", after := #[{ on := 7, ground := Ground.data }, { on := 6, ground := Ground.chain }, { on := 6, ground := Ground.guard }], guard := some (6, false) }).run Try.prog (W0) = .ok (.enter 26 #[.pointer (some ⟨b, 0, none⟩), Value.int IntKind.i64 2]) (W0) := by
    have kc : ∀ v, a0_15.eval (.const v) = v := fun _ => rfl
    have kf : ∀ f, a0_15.eval (.func f) = .func (.func f) #[] #[] := fun _ => rfl
    have e21 := (show a0_15.eval (.tmp 21) = .pointer (some ⟨b, 0, none⟩) from (fa0_15.at_ 21))
    clear fa0_15 ha
    generalize a0_15.eval = ρ at *
    go_simp
  refine fa0_15.call 22 rfl (lb_ hsz) ((wanted_at (t := 20) (c := false) (b := false) rfl rfl rfl (lb_ (fa0_15.size.trans hsz)) (fa0_15.at_ 20)).trans (by rfl)) r_a0_16 (grow_calls (n := 2) W0 d0 i0.ok (i0.sm (by decide) (by decide)) i0.most i0.P) (fun e W1 hR => ?_)
  obtain ⟨rfl, dx, fx⟩ := hR
  clear r_a0_16
  have s1 := lv_fr s0 fx
  have d1 := lv_step dx s0 fx.size
  rw [lv1.2] at d1
  have i1 := (lv1.2 ▸ grow_in (k := 2) i0 : DkIn lvE1 1)
  clear dx fx
  refine ⟨_, rfl, fun a0_16 fa0_16 => ?_⟩
  clear fa0_15
  have r_a0_17 : (execOp a0_16.eval { dst := some 23, op := Op.binOp BinOp.neq 24 (Operand.tmp 22) (Operand.const (Value.int IntKind.i64 0)) 24, type := 4, pos := "outright.go:13", after := #[{ on := 8, ground := Ground.data }, { on := 6, ground := Ground.guard }], guard := some (6, false) }).run Try.prog (W1) = .ok (.value (.bool false)) (W1) := by
    have kc : ∀ v, a0_16.eval (.const v) = v := fun _ => rfl
    have e22 := (show a0_16.eval (.tmp 22) = .int .i64 0 from (fa0_16.at_ 22))
    clear fa0_16 ha
    generalize a0_16.eval = ρ at *
    go_simp
  refine fa0_16.step 23 (.bool false) rfl (lb_ hsz) ((wanted_at (t := 20) (c := false) (b := false) rfl rfl rfl (lb_ (fa0_16.size.trans hsz)) (fa0_16.at_ 20)).trans (by rfl)) r_a0_17 (fun a0_17 fa0_17 => ?_)
  clear r_a0_17
  clear fa0_16
  have r_a0_18 : (execOp a0_17.eval { dst := some 24, op := Op.pick (Operand.tmp 20) (Operand.const (Value.bool true)) (Operand.tmp 23), type := 4, pos := "outright.go:13", after := #[{ on := 6, ground := Ground.data }, { on := 9, ground := Ground.data }], guard := none }).run Try.prog (W1) = .ok (.value (.bool false)) (W1) := by
    have kc : ∀ v, a0_17.eval (.const v) = v := fun _ => rfl
    have e20 := (show a0_17.eval (.tmp 20) = .bool false from (fa0_17.at_ 20))
    have e23 := (show a0_17.eval (.tmp 23) = .bool false from (fa0_17.at_ 23))
    clear fa0_17 ha
    generalize a0_17.eval = ρ at *
    go_simp
  refine fa0_17.step 24 (.bool false) rfl (lb_ hsz) (wanted_none rfl) r_a0_18 (fun a0_18 fa0_18 => ?_)
  clear r_a0_18
  clear fa0_17
  refine wpList_nil ?_
  change Code.wp _ _ _ _ _
  refine wp_cond_false (show a0_18.eval (.tmp 24) = .bool false from (fa0_18.at_ 24)) (wp_skip ?_)
  change Code.wp _ _ _ _ _
  refine wp_seq ?_
  refine wp_region_list ?_
  unfold rOW4
  have r_a0_19 : (execOp a0_18.eval { dst := some 25, op := Op.build 57 #[(0, Operand.const (Value.int IntKind.i64 (-1))), (1, Operand.const (Value.int IntKind.u8 97))], type := 57, pos := "outright.go:16", after := #[], guard := none }).run Try.prog (W1) = .ok (.value (.agg #[.int .i64 (-1), .int .u8 ((97 : UInt8).toNat : Int), .int .u8 ((0 : UInt8).toNat : Int)])) (W1) := by
    have kc : ∀ v, a0_18.eval (.const v) = v := fun _ => rfl
    clear fa0_18 ha
    generalize a0_18.eval = ρ at *
    go_simp
  refine fa0_18.step 25 (.agg #[.int .i64 (-1), .int .u8 ((97 : UInt8).toNat : Int), .int .u8 ((0 : UInt8).toNat : Int)]) rfl (lb_ hsz) (wanted_none rfl) r_a0_19 (fun a0_19 fa0_19 => ?_)
  clear r_a0_19
  clear fa0_18
  have r_a0_20 : (execOp a0_19.eval { dst := some 26, op := Op.call { callee := Callee.value (Operand.func 27), args := #[Operand.tmp 25, Operand.const (Value.int IntKind.i64 1024)], argTypes := #[57, 3] }, type := 9, pos := "outright.go:16", after := #[{ on := 0, ground := Ground.data }], guard := none }).run Try.prog (W1) = .ok (.enter 27 #[.agg #[.int .i64 (-1), .int .u8 ((97 : UInt8).toNat : Int), .int .u8 ((0 : UInt8).toNat : Int)], Value.int IntKind.i64 1024]) (W1) := by
    have kc : ∀ v, a0_19.eval (.const v) = v := fun _ => rfl
    have kf : ∀ f, a0_19.eval (.func f) = .func (.func f) #[] #[] := fun _ => rfl
    have e25 := (show a0_19.eval (.tmp 25) = .agg #[.int .i64 (-1), .int .u8 ((97 : UInt8).toNat : Int), .int .u8 ((0 : UInt8).toNat : Int)] from (fa0_19.at_ 25))
    clear fa0_19 ha
    generalize a0_19.eval = ρ at *
    go_simp
  refine fa0_19.call 26 rfl (lb_ hsz) (wanted_none rfl) r_a0_20 (text_calls W1 (by decide)) (fun e W2 hR => ?_)
  obtain ⟨rfl, tx2⟩ := hR
  clear r_a0_20
  have s2 := s1.trans tx2
  have d2 := lv_same d1 tx2
  have i2 := i1
  refine ⟨_, rfl, fun a0_20 fa0_20 => ?_⟩
  clear fa0_19
  have r_a0_21 : (execOp a0_20.eval { dst := some 27, op := Op.build 57 #[(0, Operand.const (Value.int IntKind.i64 (-1))), (1, Operand.const (Value.int IntKind.u8 98))], type := 57, pos := "outright.go:16", after := #[], guard := none }).run Try.prog (W2) = .ok (.value (.agg #[.int .i64 (-1), .int .u8 ((98 : UInt8).toNat : Int), .int .u8 ((0 : UInt8).toNat : Int)])) (W2) := by
    have kc : ∀ v, a0_20.eval (.const v) = v := fun _ => rfl
    clear fa0_20 ha
    generalize a0_20.eval = ρ at *
    go_simp
  refine fa0_20.step 27 (.agg #[.int .i64 (-1), .int .u8 ((98 : UInt8).toNat : Int), .int .u8 ((0 : UInt8).toNat : Int)]) rfl (lb_ hsz) (wanted_none rfl) r_a0_21 (fun a0_21 fa0_21 => ?_)
  clear r_a0_21
  clear fa0_20
  have r_a0_22 : (execOp a0_21.eval { dst := some 28, op := Op.call { callee := Callee.value (Operand.func 27), args := #[Operand.tmp 27, Operand.const (Value.int IntKind.i64 1024)], argTypes := #[57, 3] }, type := 9, pos := "outright.go:16", after := #[{ on := 2, ground := Ground.data }, { on := 1, ground := Ground.chain }], guard := none }).run Try.prog (W2) = .ok (.enter 27 #[.agg #[.int .i64 (-1), .int .u8 ((98 : UInt8).toNat : Int), .int .u8 ((0 : UInt8).toNat : Int)], Value.int IntKind.i64 1024]) (W2) := by
    have kc : ∀ v, a0_21.eval (.const v) = v := fun _ => rfl
    have kf : ∀ f, a0_21.eval (.func f) = .func (.func f) #[] #[] := fun _ => rfl
    have e27 := (show a0_21.eval (.tmp 27) = .agg #[.int .i64 (-1), .int .u8 ((98 : UInt8).toNat : Int), .int .u8 ((0 : UInt8).toNat : Int)] from (fa0_21.at_ 27))
    clear fa0_21 ha
    generalize a0_21.eval = ρ at *
    go_simp
  refine fa0_21.call 28 rfl (lb_ hsz) (wanted_none rfl) r_a0_22 (text_calls W2 (by decide)) (fun e W3 hR => ?_)
  obtain ⟨rfl, tx3⟩ := hR
  clear r_a0_22
  have s3 := s2.trans tx3
  have d3 := lv_same d2 tx3
  have i3 := i2
  refine ⟨_, rfl, fun a0_22 fa0_22 => ?_⟩
  clear fa0_21
  refine fa0_22.move 3 (.string (textS (-1) 97 0 1024)) _ (Or.inr rfl) rfl (lb_ hsz) (wanted_none rfl) (fa0_22.at_ 26) (fun a0_23 fa0_23 => ?_)
  clear fa0_22
  refine fa0_23.move 4 (.string (textS (-1) 98 0 1024)) _ (Or.inr rfl) rfl (lb_ hsz) (wanted_none rfl) (fa0_23.at_ 28) (fun a0_24 fa0_24 => ?_)
  clear fa0_23
  refine wpList_nil ?_
  change Code.wp _ _ _ _ _
  obtain ⟨xa, hxa⟩ : ∃ x, x = (textS (-1) 97 0 1024) := ⟨_, rfl⟩
  obtain ⟨xb, hxb⟩ : ∃ x, x = (textS (-1) 98 0 1024) := ⟨_, rfl⟩
  have ha1 : xa.size = 1024 := by rw [hxa]; exact textS_size _ _ _ _
  have hb1 : xb.size = 1024 := by rw [hxb]; exact textS_size _ _ _ _
  have q3 := (show a0_24.eval (.tmp 3) = .string (textS (-1) 97 0 1024) from (fa0_24.at_ 3))
  have q4 := (show a0_24.eval (.tmp 4) = .string (textS (-1) 98 0 1024) from (fa0_24.at_ 4))
  rw [← hxa] at q3
  rw [← hxb] at q4
  have q1 := (show a0_24.eval (.tmp 1) = .pointer (some ⟨b, 0, none⟩) from (fa0_24.at_ 1))
  clear hxa hxb
  refine wp_seq (wp_seq ?_)
  have hsz2 : a0_24.tmps.size = 113 := fa0_24.size.trans hsz
  have hd2 : a0_24.defers = [] := fa0_24.defers.trans hd
  clear fa0_24
  generalize a0_24 = c0 at *
  have fc0_0 := Fe.refl c0
  refine wp_region_list ?_
  unfold rOW5
  refine fc0_0.move 29 (.pointer (some ⟨b, 0, none⟩)) _ (Or.inl rfl) rfl (lb_ hsz2) (wanted_none rfl) ((fc0_0.at_ 1).trans q1) (fun c0_1 fc0_1 => ?_)
  clear fc0_0
  refine fc0_1.move 30 (.string xa) _ (Or.inl rfl) rfl (lb_ hsz2) (wanted_none rfl) ((fc0_1.at_ 3).trans q3) (fun c0_2 fc0_2 => ?_)
  clear fc0_1
  have r_c0_3 : (execOp c0_2.eval { dst := some 31, op := Op.call { callee := Callee.value (Operand.func 28), args := #[Operand.tmp 29, Operand.const (Value.int IntKind.u32 0), Operand.tmp 30], argTypes := #[27, 59, 9] }, type := 24, pos := "outright.go:17", after := #[{ on := 0, ground := Ground.data }, { on := 1, ground := Ground.data }], guard := none }).run Try.prog (W3) = .ok (.enter 28 #[.pointer (some ⟨b, 0, none⟩), Value.int IntKind.u32 0, .string xa]) (W3) := by
    have kc : ∀ v, c0_2.eval (.const v) = v := fun _ => rfl
    have kf : ∀ f, c0_2.eval (.func f) = .func (.func f) #[] #[] := fun _ => rfl
    have e29 := (show c0_2.eval (.tmp 29) = .pointer (some ⟨b, 0, none⟩) from (fc0_2.at_ 29))
    have e30 := (show c0_2.eval (.tmp 30) = .string xa from (fc0_2.at_ 30))
    clear fc0_2 ha
    generalize c0_2.eval = ρ at *
    go_simp
  refine fc0_2.call 31 rfl (lb_ hsz2) (wanted_none rfl) r_c0_3 (write_as (no := 0) (s := xa) W3 d3 i3.ok (i3.sm (by decide) (by decide)) (by decide) (lv2 ha1).1 (lv2 ha1).2) (fun e W4 hR => ?_)
  obtain ⟨rfl, dx, fx⟩ := hR
  clear r_c0_3
  have s4 := lv_fr s3 fx
  have d4 := lv_step dx s3 fx.size
  have i4 := ((lv2 ha1).2 ▸ write_in i3 : DkIn (lvE2 xa) 2)
  clear dx fx
  refine ⟨_, rfl, fun c0_3 fc0_3 => ?_⟩
  clear fc0_2
  have r_c0_4 : (execOp c0_3.eval { dst := some 32, op := Op.binOp BinOp.neq 24 (Operand.tmp 31) (Operand.const (Value.int IntKind.i64 0)) 24, type := 4, pos := "outright.go:17", after := #[{ on := 2, ground := Ground.data }], guard := none }).run Try.prog (W4) = .ok (.value (.bool false)) (W4) := by
    have kc : ∀ v, c0_3.eval (.const v) = v := fun _ => rfl
    have e31 := (show c0_3.eval (.tmp 31) = .int .i64 0 from (fc0_3.at_ 31))
    clear fc0_3 ha
    generalize c0_3.eval = ρ at *
    go_simp
  refine fc0_3.step 32 (.bool false) rfl (lb_ hsz2) (wanted_none rfl) r_c0_4 (fun c0_4 fc0_4 => ?_)
  clear r_c0_4
  clear fc0_3
  refine fc0_4.move 33 (.bool false) _ (Or.inl rfl) rfl (lb_ hsz2) (wanted_none rfl) (fc0_4.at_ 32) (fun c0_5 fc0_5 => ?_)
  clear fc0_4
  refine fc0_5.move 34 (.pointer (some ⟨b, 0, none⟩)) _ (Or.inl rfl) rfl (lb_ hsz2) ((wanted_at (t := 33) (c := false) (b := false) rfl rfl rfl (lb_ (fc0_5.size.trans hsz2)) (fc0_5.at_ 33)).trans (by rfl)) ((fc0_5.at_ 1).trans q1) (fun c0_6 fc0_6 => ?_)
  clear fc0_5
  have r_c0_7 : (execOp c0_6.eval { dst := some 35, op := Op.call { callee := Callee.value (Operand.func 29), args := #[Operand.tmp 34], argTypes := #[27] }, type := 24, pos := "outright.go:17", after := #[{ on := 5, ground := Ground.data }, { on := 4, ground := Ground.chain }, { on := 4, ground := Ground.guard }], guard := some (4, false) }).run Try.prog (W4) = .ok (.enter 29 #[.pointer (some ⟨b, 0, none⟩)]) (W4) := by
    have kf : ∀ f, c0_6.eval (.func f) = .func (.func f) #[] #[] := fun _ => rfl
    have e34 := (show c0_6.eval (.tmp 34) = .pointer (some ⟨b, 0, none⟩) from (fc0_6.at_ 34))
    clear fc0_6 ha
    generalize c0_6.eval = ρ at *
    go_simp
  refine fc0_6.call 35 rfl (lb_ hsz2) ((wanted_at (t := 33) (c := false) (b := false) rfl rfl rfl (lb_ (fc0_6.size.trans hsz2)) (fc0_6.at_ 33)).trans (by rfl)) r_c0_7 (sync_as W4 d4 i4.ok (i4.sm (by decide) (by decide)) rfl (lv3 xa)) (fun e W5 hR => ?_)
  obtain ⟨rfl, dx, fx⟩ := hR
  clear r_c0_7
  have s5 := lv_fr s4 fx
  have d5 := lv_step dx s4 fx.size
  have i5 := ((lv3 xa) ▸ sync_in i4 : DkIn (lvE3 xa) 3)
  clear dx fx
  refine ⟨_, rfl, fun c0_7 fc0_7 => ?_⟩
  clear fc0_6
  have r_c0_8 : (execOp c0_7.eval { dst := some 36, op := Op.binOp BinOp.neq 24 (Operand.tmp 35) (Operand.const (Value.int IntKind.i64 0)) 24, type := 4, pos := "outright.go:17", after := #[{ on := 6, ground := Ground.data }, { on := 4, ground := Ground.guard }], guard := some (4, false) }).run Try.prog (W5) = .ok (.value (.bool false)) (W5) := by
    have kc : ∀ v, c0_7.eval (.const v) = v := fun _ => rfl
    have e35 := (show c0_7.eval (.tmp 35) = .int .i64 0 from (fc0_7.at_ 35))
    clear fc0_7 ha
    generalize c0_7.eval = ρ at *
    go_simp
  refine fc0_7.step 36 (.bool false) rfl (lb_ hsz2) ((wanted_at (t := 33) (c := false) (b := false) rfl rfl rfl (lb_ (fc0_7.size.trans hsz2)) (fc0_7.at_ 33)).trans (by rfl)) r_c0_8 (fun c0_8 fc0_8 => ?_)
  clear r_c0_8
  clear fc0_7
  have r_c0_9 : (execOp c0_8.eval { dst := some 37, op := Op.pick (Operand.tmp 33) (Operand.const (Value.bool true)) (Operand.tmp 36), type := 4, pos := "outright.go:17", after := #[{ on := 4, ground := Ground.data }, { on := 7, ground := Ground.data }], guard := none }).run Try.prog (W5) = .ok (.value (.bool false)) (W5) := by
    have kc : ∀ v, c0_8.eval (.const v) = v := fun _ => rfl
    have e33 := (show c0_8.eval (.tmp 33) = .bool false from (fc0_8.at_ 33))
    have e36 := (show c0_8.eval (.tmp 36) = .bool false from (fc0_8.at_ 36))
    clear fc0_8 ha
    generalize c0_8.eval = ρ at *
    go_simp
  refine fc0_8.step 37 (.bool false) rfl (lb_ hsz2) (wanted_none rfl) r_c0_9 (fun c0_9 fc0_9 => ?_)
  clear r_c0_9
  clear fc0_8
  refine fc0_9.move 38 (.bool false) _ (Or.inl rfl) rfl (lb_ hsz2) (wanted_none rfl) (fc0_9.at_ 37) (fun c0_10 fc0_10 => ?_)
  clear fc0_9
  refine fc0_10.move 39 (.pointer (some ⟨b, 0, none⟩)) _ (Or.inl rfl) rfl (lb_ hsz2) ((wanted_at (t := 38) (c := false) (b := false) rfl rfl rfl (lb_ (fc0_10.size.trans hsz2)) (fc0_10.at_ 38)).trans (by rfl)) ((fc0_10.at_ 1).trans q1) (fun c0_11 fc0_11 => ?_)
  clear fc0_10
  refine fc0_11.move 40 (.string xb) _ (Or.inl rfl) rfl (lb_ hsz2) ((wanted_at (t := 38) (c := false) (b := false) rfl rfl rfl (lb_ (fc0_11.size.trans hsz2)) (fc0_11.at_ 38)).trans (by rfl)) ((fc0_11.at_ 4).trans q4) (fun c0_12 fc0_12 => ?_)
  clear fc0_11
  have r_c0_13 : (execOp c0_12.eval { dst := some 41, op := Op.call { callee := Callee.value (Operand.func 28), args := #[Operand.tmp 39, Operand.const (Value.int IntKind.u32 0), Operand.tmp 40], argTypes := #[27, 59, 9] }, type := 24, pos := "outright.go:17", after := #[{ on := 10, ground := Ground.data }, { on := 11, ground := Ground.data }, { on := 9, ground := Ground.chain }, { on := 9, ground := Ground.guard }], guard := some (9, false) }).run Try.prog (W5) = .ok (.enter 28 #[.pointer (some ⟨b, 0, none⟩), Value.int IntKind.u32 0, .string xb]) (W5) := by
    have kc : ∀ v, c0_12.eval (.const v) = v := fun _ => rfl
    have kf : ∀ f, c0_12.eval (.func f) = .func (.func f) #[] #[] := fun _ => rfl
    have e39 := (show c0_12.eval (.tmp 39) = .pointer (some ⟨b, 0, none⟩) from (fc0_12.at_ 39))
    have e40 := (show c0_12.eval (.tmp 40) = .string xb from (fc0_12.at_ 40))
    clear fc0_12 ha
    generalize c0_12.eval = ρ at *
    go_simp
  refine fc0_12.call 41 rfl (lb_ hsz2) ((wanted_at (t := 38) (c := false) (b := false) rfl rfl rfl (lb_ (fc0_12.size.trans hsz2)) (fc0_12.at_ 38)).trans (by rfl)) r_c0_13 (write_as (no := 0) (s := xb) W5 d5 i5.ok (i5.sm (by decide) (by decide)) (by decide) (lv4 hb1).1 (lv4 hb1).2) (fun e W6 hR => ?_)
  obtain ⟨rfl, dx, fx⟩ := hR
  clear r_c0_13
  have s6 := lv_fr s5 fx
  have d6 := lv_step dx s5 fx.size
  have i6 := ((lv4 (a := xa) hb1).2 ▸ write_in i5 : DkIn (lvE4 xa xb) 4)
  clear dx fx
  refine ⟨_, rfl, fun c0_13 fc0_13 => ?_⟩
  clear fc0_12
  have r_c0_14 : (execOp c0_13.eval { dst := some 42, op := Op.binOp BinOp.neq 24 (Operand.tmp 41) (Operand.const (Value.int IntKind.i64 0)) 24, type := 4, pos := "outright.go:17", after := #[{ on := 12, ground := Ground.data }, { on := 9, ground := Ground.guard }], guard := some (9, false) }).run Try.prog (W6) = .ok (.value (.bool false)) (W6) := by
    have kc : ∀ v, c0_13.eval (.const v) = v := fun _ => rfl
    have e41 := (show c0_13.eval (.tmp 41) = .int .i64 0 from (fc0_13.at_ 41))
    clear fc0_13 ha
    generalize c0_13.eval = ρ at *
    go_simp
  refine fc0_13.step 42 (.bool false) rfl (lb_ hsz2) ((wanted_at (t := 38) (c := false) (b := false) rfl rfl rfl (lb_ (fc0_13.size.trans hsz2)) (fc0_13.at_ 38)).trans (by rfl)) r_c0_14 (fun c0_14 fc0_14 => ?_)
  clear r_c0_14
  clear fc0_13
  have r_c0_15 : (execOp c0_14.eval { dst := some 43, op := Op.pick (Operand.tmp 38) (Operand.const (Value.bool true)) (Operand.tmp 42), type := 4, pos := "outright.go:17", after := #[{ on := 9, ground := Ground.data }, { on := 13, ground := Ground.data }], guard := none }).run Try.prog (W6) = .ok (.value (.bool false)) (W6) := by
    have kc : ∀ v, c0_14.eval (.const v) = v := fun _ => rfl
    have e38 := (show c0_14.eval (.tmp 38) = .bool false from (fc0_14.at_ 38))
    have e42 := (show c0_14.eval (.tmp 42) = .bool false from (fc0_14.at_ 42))
    clear fc0_14 ha
    generalize c0_14.eval = ρ at *
    go_simp
  refine fc0_14.step 43 (.bool false) rfl (lb_ hsz2) (wanted_none rfl) r_c0_15 (fun c0_15 fc0_15 => ?_)
  clear r_c0_15
  clear fc0_14
  refine fc0_15.move 44 (.bool false) _ (Or.inl rfl) rfl (lb_ hsz2) (wanted_none rfl) (fc0_15.at_ 43) (fun c0_16 fc0_16 => ?_)
  clear fc0_15
  refine fc0_16.move 45 (.pointer (some ⟨b, 0, none⟩)) _ (Or.inl rfl) rfl (lb_ hsz2) ((wanted_at (t := 44) (c := false) (b := false) rfl rfl rfl (lb_ (fc0_16.size.trans hsz2)) (fc0_16.at_ 44)).trans (by rfl)) ((fc0_16.at_ 1).trans q1) (fun c0_17 fc0_17 => ?_)
  clear fc0_16
  refine fc0_17.move 46 (.string xb) _ (Or.inl rfl) rfl (lb_ hsz2) ((wanted_at (t := 44) (c := false) (b := false) rfl rfl rfl (lb_ (fc0_17.size.trans hsz2)) (fc0_17.at_ 44)).trans (by rfl)) ((fc0_17.at_ 4).trans q4) (fun c0_18 fc0_18 => ?_)
  clear fc0_17
  have r_c0_19 : (execOp c0_18.eval { dst := some 47, op := Op.call { callee := Callee.value (Operand.func 28), args := #[Operand.tmp 45, Operand.const (Value.int IntKind.u32 1), Operand.tmp 46], argTypes := #[27, 59, 9] }, type := 24, pos := "outright.go:17", after := #[{ on := 16, ground := Ground.data }, { on := 17, ground := Ground.data }, { on := 15, ground := Ground.chain }, { on := 15, ground := Ground.guard }], guard := some (15, false) }).run Try.prog (W6) = .ok (.enter 28 #[.pointer (some ⟨b, 0, none⟩), Value.int IntKind.u32 1, .string xb]) (W6) := by
    have kc : ∀ v, c0_18.eval (.const v) = v := fun _ => rfl
    have kf : ∀ f, c0_18.eval (.func f) = .func (.func f) #[] #[] := fun _ => rfl
    have e45 := (show c0_18.eval (.tmp 45) = .pointer (some ⟨b, 0, none⟩) from (fc0_18.at_ 45))
    have e46 := (show c0_18.eval (.tmp 46) = .string xb from (fc0_18.at_ 46))
    clear fc0_18 ha
    generalize c0_18.eval = ρ at *
    go_simp
  refine fc0_18.call 47 rfl (lb_ hsz2) ((wanted_at (t := 44) (c := false) (b := false) rfl rfl rfl (lb_ (fc0_18.size.trans hsz2)) (fc0_18.at_ 44)).trans (by rfl)) r_c0_19 (write_as (no := 1) (s := xb) W6 d6 i6.ok (i6.sm (by decide) (by decide)) (by decide) (lv5 hb1).1 (lv5 hb1).2) (fun e W7 hR => ?_)
  obtain ⟨rfl, dx, fx⟩ := hR
  clear r_c0_19
  have s7 := lv_fr s6 fx
  have d7 := lv_step dx s6 fx.size
  have i7 := ((lv5 (a := xa) hb1).2 ▸ write_in i6 : DkIn (lvE5 xa xb) 5)
  clear dx fx
  refine ⟨_, rfl, fun c0_19 fc0_19 => ?_⟩
  clear fc0_18
  have r_c0_20 : (execOp c0_19.eval { dst := some 48, op := Op.binOp BinOp.neq 24 (Operand.tmp 47) (Operand.const (Value.int IntKind.i64 0)) 24, type := 4, pos := "outright.go:17", after := #[{ on := 18, ground := Ground.data }, { on := 15, ground := Ground.guard }], guard := some (15, false) }).run Try.prog (W7) = .ok (.value (.bool false)) (W7) := by
    have kc : ∀ v, c0_19.eval (.const v) = v := fun _ => rfl
    have e47 := (show c0_19.eval (.tmp 47) = .int .i64 0 from (fc0_19.at_ 47))
    clear fc0_19 ha
    generalize c0_19.eval = ρ at *
    go_simp
  refine fc0_19.step 48 (.bool false) rfl (lb_ hsz2) ((wanted_at (t := 44) (c := false) (b := false) rfl rfl rfl (lb_ (fc0_19.size.trans hsz2)) (fc0_19.at_ 44)).trans (by rfl)) r_c0_20 (fun c0_20 fc0_20 => ?_)
  clear r_c0_20
  clear fc0_19
  have r_c0_21 : (execOp c0_20.eval { dst := some 49, op := Op.pick (Operand.tmp 44) (Operand.const (Value.bool true)) (Operand.tmp 48), type := 4, pos := "outright.go:17", after := #[{ on := 15, ground := Ground.data }, { on := 19, ground := Ground.data }], guard := none }).run Try.prog (W7) = .ok (.value (.bool false)) (W7) := by
    have kc : ∀ v, c0_20.eval (.const v) = v := fun _ => rfl
    have e44 := (show c0_20.eval (.tmp 44) = .bool false from (fc0_20.at_ 44))
    have e48 := (show c0_20.eval (.tmp 48) = .bool false from (fc0_20.at_ 48))
    clear fc0_20 ha
    generalize c0_20.eval = ρ at *
    go_simp
  refine fc0_20.step 49 (.bool false) rfl (lb_ hsz2) (wanted_none rfl) r_c0_21 (fun c0_21 fc0_21 => ?_)
  clear r_c0_21
  clear fc0_20
  refine wpList_nil ?_
  change Code.wp _ _ _ _ _
  refine wp_cond_false (show c0_21.eval (.tmp 49) = .bool false from (fc0_21.at_ 49)) (wp_skip ?_)
  change Code.wp _ _ _ _ _
  refine wp_seq ?_
  refine wp_region_list ?_
  unfold rOW7
  refine fc0_21.move 51 (.pointer (some ⟨b, 0, none⟩)) _ (Or.inl rfl) rfl (lb_ hsz2) (wanted_none rfl) ((fc0_21.at_ 1).trans q1) (fun c0_22 fc0_22 => ?_)
  clear fc0_21
  have r_c0_23 : (execOp c0_22.eval { dst := some 52, op := Op.call { callee := Callee.value (Operand.func 30), args := #[Operand.tmp 51, Operand.const (Value.int IntKind.u32 0)], argTypes := #[27, 59] }, type := 61, pos := "outright.go:20", after := #[{ on := 0, ground := Ground.data }], guard := none }).run Try.prog (W7) = .ok (.enter 30 #[.pointer (some ⟨b, 0, none⟩), Value.int IntKind.u32 0]) (W7) := by
    have kc : ∀ v, c0_22.eval (.const v) = v := fun _ => rfl
    have kf : ∀ f, c0_22.eval (.func f) = .func (.func f) #[] #[] := fun _ => rfl
    have e51 := (show c0_22.eval (.tmp 51) = .pointer (some ⟨b, 0, none⟩) from (fc0_22.at_ 51))
    clear fc0_22 ha
    generalize c0_22.eval = ρ at *
    go_simp
  refine fc0_22.call 52 rfl (lb_ hsz2) (wanted_none rfl) r_c0_23 (dread_calls (no := 0) W7 d7 i7.ok.hp0 (by decide) (by show 2 ≤ 1048576; decide)) (fun e w8 hR => ?_)
  obtain ⟨rfl, hw8⟩ := hR
  clear r_c0_23
  have hw8 := hw8.symm
  subst hw8
  refine ⟨_, rfl, fun c0_23 fc0_23 => ?_⟩
  clear fc0_22
  refine fc0_23.move 50 (.tuple #[.string xb, .int .i64 0]) _ (Or.inl rfl) rfl (lb_ hsz2) (wanted_none rfl) (fc0_23.at_ 52) (fun c0_24 fc0_24 => ?_)
  clear fc0_23
  have r_c0_25 : (execOp c0_24.eval { dst := some 53, op := Op.extract (Operand.tmp 50) 0, type := 9, pos := "outright.go:20", after := #[{ on := 2, ground := Ground.data }], guard := none }).run Try.prog (W7) = .ok (.value (.string xb)) (W7) := by
    have e50 := (show c0_24.eval (.tmp 50) = .tuple #[.string xb, .int .i64 0] from (fc0_24.at_ 50))
    clear fc0_24 ha
    generalize c0_24.eval = ρ at *
    go_simp
  refine fc0_24.step 53 (.string xb) rfl (lb_ hsz2) (wanted_none rfl) r_c0_25 (fun c0_25 fc0_25 => ?_)
  clear r_c0_25
  clear fc0_24
  have r_c0_26 : (execOp c0_25.eval { dst := some 54, op := Op.extract (Operand.tmp 50) 1, type := 24, pos := "outright.go:20", after := #[{ on := 2, ground := Ground.data }, { on := 5, ground := Ground.gcOnly Go.Departure.lateStores }], guard := none }).run Try.prog (W7) = .ok (.value (.int .i64 0)) (W7) := by
    have e50 := (show c0_25.eval (.tmp 50) = .tuple #[.string xb, .int .i64 0] from (fc0_25.at_ 50))
    clear fc0_25 ha
    generalize c0_25.eval = ρ at *
    go_simp
  refine fc0_25.step 54 (.int .i64 0) rfl (lb_ hsz2) (wanted_none rfl) r_c0_26 (fun c0_26 fc0_26 => ?_)
  clear r_c0_26
  clear fc0_25
  refine fc0_26.move 5 (.string xb) _ (Or.inr rfl) rfl (lb_ hsz2) (wanted_none rfl) (fc0_26.at_ 53) (fun c0_27 fc0_27 => ?_)
  clear fc0_26
  refine fc0_27.move 6 (.int .i64 0) _ (Or.inr rfl) rfl (lb_ hsz2) (wanted_none rfl) (fc0_27.at_ 54) (fun c0_28 fc0_28 => ?_)
  clear fc0_27
  refine wpList_nil ?_
  change Code.wp _ _ _ _ _
  refine wp_seq (wp_seq ?_)
  refine wp_region_list ?_
  unfold rOW8
  refine fc0_28.move 55 (.int .i64 0) _ (Or.inl rfl) rfl (lb_ hsz2) (wanted_none rfl) (fc0_28.at_ 6) (fun c0_29 fc0_29 => ?_)
  clear fc0_28
  have r_c0_30 : (execOp c0_29.eval { dst := some 56, op := Op.binOp BinOp.neq 24 (Operand.tmp 55) (Operand.const (Value.int IntKind.i64 0)) 24, type := 4, pos := "outright.go:21", after := #[{ on := 0, ground := Ground.data }], guard := none }).run Try.prog (W7) = .ok (.value (.bool false)) (W7) := by
    have kc : ∀ v, c0_29.eval (.const v) = v := fun _ => rfl
    have e55 := (show c0_29.eval (.tmp 55) = .int .i64 0 from (fc0_29.at_ 55))
    clear fc0_29 ha
    generalize c0_29.eval = ρ at *
    go_simp
  refine fc0_29.step 56 (.bool false) rfl (lb_ hsz2) (wanted_none rfl) r_c0_30 (fun c0_30 fc0_30 => ?_)
  clear r_c0_30
  clear fc0_29
  refine fc0_30.move 57 (.bool false) _ (Or.inl rfl) rfl (lb_ hsz2) (wanted_none rfl) (fc0_30.at_ 56) (fun c0_31 fc0_31 => ?_)
  clear fc0_30
  refine fc0_31.move 58 (.string xb) _ (Or.inl rfl) rfl (lb_ hsz2) ((wanted_at (t := 57) (c := false) (b := false) rfl rfl rfl (lb_ (fc0_31.size.trans hsz2)) (fc0_31.at_ 57)).trans (by rfl)) (fc0_31.at_ 5) (fun c0_32 fc0_32 => ?_)
  clear fc0_31
  refine fc0_32.move 59 (.string xb) _ (Or.inl rfl) rfl (lb_ hsz2) ((wanted_at (t := 57) (c := false) (b := false) rfl rfl rfl (lb_ (fc0_32.size.trans hsz2)) (fc0_32.at_ 57)).trans (by rfl)) ((fc0_32.at_ 4).trans q4) (fun c0_33 fc0_33 => ?_)
  clear fc0_32
  have r_c0_34 : (execOp c0_33.eval { dst := some 60, op := Op.binOp BinOp.neq 9 (Operand.tmp 58) (Operand.tmp 59) 9, type := 4, pos := "outright.go:21", after := #[{ on := 3, ground := Ground.data }, { on := 4, ground := Ground.data }, { on := 2, ground := Ground.guard }], guard := some (2, false) }).run Try.prog (W7) = .ok (.value (.bool false)) (W7) := by
    have e58 := (show c0_33.eval (.tmp 58) = .string xb from (fc0_33.at_ 58))
    have e59 := (show c0_33.eval (.tmp 59) = .string xb from (fc0_33.at_ 59))
    clear fc0_33 ha
    generalize c0_33.eval = ρ at *
    go_simp
  refine fc0_33.step 60 (.bool false) rfl (lb_ hsz2) ((wanted_at (t := 57) (c := false) (b := false) rfl rfl rfl (lb_ (fc0_33.size.trans hsz2)) (fc0_33.at_ 57)).trans (by rfl)) r_c0_34 (fun c0_34 fc0_34 => ?_)
  clear r_c0_34
  clear fc0_33
  have r_c0_35 : (execOp c0_34.eval { dst := some 61, op := Op.pick (Operand.tmp 57) (Operand.const (Value.bool true)) (Operand.tmp 60), type := 4, pos := "outright.go:21", after := #[{ on := 2, ground := Ground.data }, { on := 5, ground := Ground.data }], guard := none }).run Try.prog (W7) = .ok (.value (.bool false)) (W7) := by
    have kc : ∀ v, c0_34.eval (.const v) = v := fun _ => rfl
    have e57 := (show c0_34.eval (.tmp 57) = .bool false from (fc0_34.at_ 57))
    have e60 := (show c0_34.eval (.tmp 60) = .bool false from (fc0_34.at_ 60))
    clear fc0_34 ha
    generalize c0_34.eval = ρ at *
    go_simp
  refine fc0_34.step 61 (.bool false) rfl (lb_ hsz2) (wanted_none rfl) r_c0_35 (fun c0_35 fc0_35 => ?_)
  clear r_c0_35
  clear fc0_34
  refine fc0_35.move 62 (.bool false) _ (Or.inl rfl) rfl (lb_ hsz2) (wanted_none rfl) (fc0_35.at_ 61) (fun c0_36 fc0_36 => ?_)
  clear fc0_35
  refine fc0_36.move 63 (.pointer (some ⟨b, 0, none⟩)) _ (Or.inl rfl) rfl (lb_ hsz2) ((wanted_at (t := 62) (c := false) (b := false) rfl rfl rfl (lb_ (fc0_36.size.trans hsz2)) (fc0_36.at_ 62)).trans (by rfl)) ((fc0_36.at_ 1).trans q1) (fun c0_37 fc0_37 => ?_)
  clear fc0_36
  have r_c0_38 : (execOp c0_37.eval { dst := some 64, op := Op.call { callee := Callee.value (Operand.func 31), args := #[Operand.tmp 63], argTypes := #[27] }, type := 63, pos := "outright.go:21", after := #[{ on := 8, ground := Ground.data }, { on := 7, ground := Ground.chain }, { on := 7, ground := Ground.guard }], guard := some (7, false) }).run Try.prog (W7) = .ok (.enter 31 #[.pointer (some ⟨b, 0, none⟩)]) (W7) := by
    have kf : ∀ f, c0_37.eval (.func f) = .func (.func f) #[] #[] := fun _ => rfl
    have e63 := (show c0_37.eval (.tmp 63) = .pointer (some ⟨b, 0, none⟩) from (fc0_37.at_ 63))
    clear fc0_37 ha
    generalize c0_37.eval = ρ at *
    go_simp
  refine fc0_37.call 64 rfl (lb_ hsz2) ((wanted_at (t := 62) (c := false) (b := false) rfl rfl rfl (lb_ (fc0_37.size.trans hsz2)) (fc0_37.at_ 62)).trans (by rfl)) r_c0_38 (waits_calls W7 d7 i7.ok.hp0 (by show 2 ≤ 1048576; decide)) (fun e W8 hR => ?_)
  obtain ⟨wa8, wc8, rfl, _, sw8⟩ := hR
  clear r_c0_38
  have s8 := s7.trans sw8
  have d8 := lv_same d7 sw8
  refine ⟨_, rfl, fun c0_38 fc0_38 => ?_⟩
  clear fc0_37
  have r_c0_39 : (execOp c0_38.eval { dst := some 65, op := Op.call { callee := Callee.builtin Builtin.len, args := #[Operand.tmp 64], argTypes := #[63] }, type := 3, pos := "outright.go:21", after := #[{ on := 9, ground := Ground.data }, { on := 7, ground := Ground.guard }], guard := some (7, false) }).run Try.prog (W8) = .ok (.value (.int .i64 2)) (W8) := by
    have e64 := (show c0_38.eval (.tmp 64) = .slice wa8 2 wc8 from (fc0_38.at_ 64))
    clear fc0_38 ha
    generalize c0_38.eval = ρ at *
    go_simp
  refine fc0_38.step 65 (.int .i64 2) rfl (lb_ hsz2) ((wanted_at (t := 62) (c := false) (b := false) rfl rfl rfl (lb_ (fc0_38.size.trans hsz2)) (fc0_38.at_ 62)).trans (by rfl)) r_c0_39 (fun c0_39 fc0_39 => ?_)
  clear r_c0_39
  clear fc0_38
  have r_c0_40 : (execOp c0_39.eval { dst := some 66, op := Op.binOp BinOp.neq 3 (Operand.tmp 65) (Operand.const (Value.int IntKind.i64 2)) 3, type := 4, pos := "outright.go:21", after := #[{ on := 10, ground := Ground.data }, { on := 7, ground := Ground.guard }], guard := some (7, false) }).run Try.prog (W8) = .ok (.value (.bool false)) (W8) := by
    have kc : ∀ v, c0_39.eval (.const v) = v := fun _ => rfl
    have e65 := (show c0_39.eval (.tmp 65) = .int .i64 2 from (fc0_39.at_ 65))
    clear fc0_39 ha
    generalize c0_39.eval = ρ at *
    go_simp
  refine fc0_39.step 66 (.bool false) rfl (lb_ hsz2) ((wanted_at (t := 62) (c := false) (b := false) rfl rfl rfl (lb_ (fc0_39.size.trans hsz2)) (fc0_39.at_ 62)).trans (by rfl)) r_c0_40 (fun c0_40 fc0_40 => ?_)
  clear r_c0_40
  clear fc0_39
  have r_c0_41 : (execOp c0_40.eval { dst := some 67, op := Op.pick (Operand.tmp 62) (Operand.const (Value.bool true)) (Operand.tmp 66), type := 4, pos := "outright.go:21", after := #[{ on := 7, ground := Ground.data }, { on := 11, ground := Ground.data }], guard := none }).run Try.prog (W8) = .ok (.value (.bool false)) (W8) := by
    have kc : ∀ v, c0_40.eval (.const v) = v := fun _ => rfl
    have e62 := (show c0_40.eval (.tmp 62) = .bool false from (fc0_40.at_ 62))
    have e66 := (show c0_40.eval (.tmp 66) = .bool false from (fc0_40.at_ 66))
    clear fc0_40 ha
    generalize c0_40.eval = ρ at *
    go_simp
  refine fc0_40.step 67 (.bool false) rfl (lb_ hsz2) (wanted_none rfl) r_c0_41 (fun c0_41 fc0_41 => ?_)
  clear r_c0_41
  clear fc0_40
  refine fc0_41.move 68 (.bool false) _ (Or.inl rfl) rfl (lb_ hsz2) (wanted_none rfl) (fc0_41.at_ 67) (fun c0_42 fc0_42 => ?_)
  clear fc0_41
  refine fc0_42.move 69 (.pointer (some ⟨b, 0, none⟩)) _ (Or.inl rfl) rfl (lb_ hsz2) ((wanted_at (t := 68) (c := false) (b := false) rfl rfl rfl (lb_ (fc0_42.size.trans hsz2)) (fc0_42.at_ 68)).trans (by rfl)) ((fc0_42.at_ 1).trans q1) (fun c0_43 fc0_43 => ?_)
  clear fc0_42
  have r_c0_44 : (execOp c0_43.eval { dst := some 70, op := Op.buildSlice 80 1 #[(0, Operand.const (Value.int IntKind.u8 1))], type := 80, pos := "outright.go:21", after := #[{ on := 13, ground := Ground.guard }], guard := some (13, false) }).run Try.prog (W8) = .ok (.value (.slice (some ⟨W8.heap.size, 0, none⟩) 1 1)) (World.alloc W8 (.cells #[.int .u8 1] 66)) := by
    have kc : ∀ v, c0_43.eval (.const v) = v := fun _ => rfl
    clear fc0_43 ha
    generalize c0_43.eval = ρ at *
    go_simp
  refine fc0_43.stepW 70 (.slice (some ⟨W8.heap.size, 0, none⟩) 1 1) rfl (lb_ hsz2) ((wanted_at (t := 68) (c := false) (b := false) rfl rfl rfl (lb_ (fc0_43.size.trans hsz2)) (fc0_43.at_ 68)).trans (by rfl)) r_c0_44 (fun c0_44 fc0_44 => ?_)
  clear r_c0_44
  have s89 : Same W8 (World.alloc W8 (.cells #[.int .u8 1] 66)) := (Fr.refl _ W8).alloc _
  have r9 : (World.alloc W8 (.cells #[.int .u8 1] 66)).heap[W8.heap.size]? = some (.cells #[.int .u8 1] 66 (0, 0)) := heap_alloc_new W8 _
  generalize World.alloc W8 (.cells #[.int .u8 1] 66) = W9 at *
  have s9 := s8.trans s89
  have d9 := d8.same s89
  have hft : FtRow W9 (some ⟨W8.heap.size, 0, none⟩) [1] := ⟨fun _ => ⟨_, _, rfl⟩, fun g o e j x hx => by cases e; match j, hx with | 0, hx => exact (cell_of_row _ _ _ _ _ _ r9).trans (by cases hx; rfl)⟩
  have hi9 : (setP (lvE5 xa xb).page (fateF [1]) 0 (lvE5 xa xb).W (lvE5 xa xb).I).length ≤ 1048576 := by show 2 ≤ 1048576; decide
  clear fc0_43
  have r_c0_45 : (execOp c0_44.eval { dst := some 71, op := Op.call { callee := Callee.value (Operand.func 32), args := #[Operand.tmp 69, Operand.tmp 70], argTypes := #[27, 80] }, type := 24, pos := "outright.go:21", after := #[{ on := 14, ground := Ground.data }, { on := 15, ground := Ground.data }, { on := 13, ground := Ground.chain }, { on := 13, ground := Ground.guard }], guard := some (13, false) }).run Try.prog (W9) = .ok (.enter 32 #[.pointer (some ⟨b, 0, none⟩), .slice (some ⟨W8.heap.size, 0, none⟩) 1 1]) (W9) := by
    have kf : ∀ f, c0_44.eval (.func f) = .func (.func f) #[] #[] := fun _ => rfl
    have e69 := (show c0_44.eval (.tmp 69) = .pointer (some ⟨b, 0, none⟩) from (fc0_44.at_ 69))
    have e70 := (show c0_44.eval (.tmp 70) = .slice (some ⟨W8.heap.size, 0, none⟩) 1 1 from (fc0_44.at_ 70))
    clear fc0_44 ha
    generalize c0_44.eval = ρ at *
    go_simp
  refine fc0_44.call 71 rfl (lb_ hsz2) ((wanted_at (t := 68) (c := false) (b := false) rfl rfl rfl (lb_ (fc0_44.size.trans hsz2)) (fc0_44.at_ 68)).trans (by rfl)) r_c0_45 (crash_as (F := [1]) (fc := 1) W9 d9 i7.ok (i7.sm (by decide) (by decide)) hi9 hft (fun g o e hk => by cases e; have := hk.2; omega) rfl (lv6 xa xb)) (fun e W10 hR => ?_)
  obtain ⟨rfl, dx, fx⟩ := hR
  clear r_c0_45
  have s10 : Same w W10 := Fr.trans s9 fx (fun k hk e => by have := e.1; omega)
  have d10 : DkAt W10 b (lvE6 xa xb) (LV w W10) := dx.land (T := LV w W10) (fun k hk => by rcases hk with e | e; exact ⟨e.1, by have := s89.size; have := fx.size; have := e.2; omega⟩; exact ⟨Nat.le_trans s9.size e.1, e.2⟩) (fun k hk => hk.2)
  have i10 : DkIn (lvE6 xa xb) 6 := lv6 xa xb ▸ lose_in i7
  refine ⟨_, rfl, fun c0_45 fc0_45 => ?_⟩
  clear fc0_44
  have r_c0_46 : (execOp c0_45.eval { dst := some 72, op := Op.binOp BinOp.neq 24 (Operand.tmp 71) (Operand.const (Value.int IntKind.i64 0)) 24, type := 4, pos := "outright.go:21", after := #[{ on := 16, ground := Ground.data }, { on := 13, ground := Ground.guard }], guard := some (13, false) }).run Try.prog (W10) = .ok (.value (.bool false)) (W10) := by
    have kc : ∀ v, c0_45.eval (.const v) = v := fun _ => rfl
    have e71 := (show c0_45.eval (.tmp 71) = .int .i64 0 from (fc0_45.at_ 71))
    clear fc0_45 ha
    generalize c0_45.eval = ρ at *
    go_simp
  refine fc0_45.step 72 (.bool false) rfl (lb_ hsz2) ((wanted_at (t := 68) (c := false) (b := false) rfl rfl rfl (lb_ (fc0_45.size.trans hsz2)) (fc0_45.at_ 68)).trans (by rfl)) r_c0_46 (fun c0_46 fc0_46 => ?_)
  clear r_c0_46
  clear fc0_45
  have r_c0_47 : (execOp c0_46.eval { dst := some 73, op := Op.pick (Operand.tmp 68) (Operand.const (Value.bool true)) (Operand.tmp 72), type := 4, pos := "outright.go:21", after := #[{ on := 13, ground := Ground.data }, { on := 17, ground := Ground.data }], guard := none }).run Try.prog (W10) = .ok (.value (.bool false)) (W10) := by
    have kc : ∀ v, c0_46.eval (.const v) = v := fun _ => rfl
    have e68 := (show c0_46.eval (.tmp 68) = .bool false from (fc0_46.at_ 68))
    have e72 := (show c0_46.eval (.tmp 72) = .bool false from (fc0_46.at_ 72))
    clear fc0_46 ha
    generalize c0_46.eval = ρ at *
    go_simp
  refine fc0_46.step 73 (.bool false) rfl (lb_ hsz2) (wanted_none rfl) r_c0_47 (fun c0_47 fc0_47 => ?_)
  clear r_c0_47
  clear fc0_46
  refine fc0_47.move 74 (.bool false) _ (Or.inl rfl) rfl (lb_ hsz2) (wanted_none rfl) (fc0_47.at_ 73) (fun c0_48 fc0_48 => ?_)
  clear fc0_47
  refine fc0_48.move 75 (.pointer (some ⟨b, 0, none⟩)) _ (Or.inl rfl) rfl (lb_ hsz2) ((wanted_at (t := 74) (c := false) (b := false) rfl rfl rfl (lb_ (fc0_48.size.trans hsz2)) (fc0_48.at_ 74)).trans (by rfl)) ((fc0_48.at_ 1).trans q1) (fun c0_49 fc0_49 => ?_)
  clear fc0_48
  have r_c0_50 : (execOp c0_49.eval { dst := some 76, op := Op.call { callee := Callee.value (Operand.func 21), args := #[Operand.tmp 75], argTypes := #[27] }, type := 4, pos := "outright.go:21", after := #[{ on := 20, ground := Ground.data }, { on := 19, ground := Ground.chain }, { on := 19, ground := Ground.guard }], guard := some (19, false) }).run Try.prog (W10) = .ok (.enter 21 #[.pointer (some ⟨b, 0, none⟩)]) (W10) := by
    have kf : ∀ f, c0_49.eval (.func f) = .func (.func f) #[] #[] := fun _ => rfl
    have e75 := (show c0_49.eval (.tmp 75) = .pointer (some ⟨b, 0, none⟩) from (fc0_49.at_ 75))
    clear fc0_49 ha
    generalize c0_49.eval = ρ at *
    go_simp
  refine fc0_49.call 76 rfl (lb_ hsz2) ((wanted_at (t := 74) (c := false) (b := false) rfl rfl rfl (lb_ (fc0_49.size.trans hsz2)) (fc0_49.at_ 74)).trans (by rfl)) r_c0_50 (don_calls W10 d10 i10.ok.hp0) (fun e w11 hR => ?_)
  obtain ⟨rfl, hw11⟩ := hR
  clear r_c0_50
  have hw11 := hw11.symm
  subst hw11
  refine ⟨_, rfl, fun c0_50 fc0_50 => ?_⟩
  clear fc0_49
  have r_c0_51 : (execOp c0_50.eval { dst := some 77, op := Op.pick (Operand.tmp 74) (Operand.const (Value.bool true)) (Operand.tmp 76), type := 4, pos := "outright.go:21", after := #[{ on := 19, ground := Ground.data }, { on := 21, ground := Ground.data }], guard := none }).run Try.prog (W10) = .ok (.value (.bool false)) (W10) := by
    have kc : ∀ v, c0_50.eval (.const v) = v := fun _ => rfl
    have e74 := (show c0_50.eval (.tmp 74) = .bool false from (fc0_50.at_ 74))
    have e76 := (show c0_50.eval (.tmp 76) = .bool false from (fc0_50.at_ 76))
    clear fc0_50 ha
    generalize c0_50.eval = ρ at *
    go_simp
  refine fc0_50.step 77 (.bool false) rfl (lb_ hsz2) (wanted_none rfl) r_c0_51 (fun c0_51 fc0_51 => ?_)
  clear r_c0_51
  clear fc0_50
  refine wpList_nil ?_
  change Code.wp _ _ _ _ _
  refine wp_cond_false (show c0_51.eval (.tmp 77) = .bool false from (fc0_51.at_ 77)) (wp_skip ?_)
  change Code.wp _ _ _ _ _
  refine wp_seq ?_
  refine wp_region_list ?_
  unfold rOW10
  refine fc0_51.move 78 (.pointer (some ⟨b, 0, none⟩)) _ (Or.inl rfl) rfl (lb_ hsz2) (wanted_none rfl) ((fc0_51.at_ 1).trans q1) (fun c0_52 fc0_52 => ?_)
  clear fc0_51
  have r_c0_53 : (execOp c0_52.eval { dst := some 79, op := Op.call { callee := Callee.value (Operand.func 9), args := #[Operand.tmp 78], argTypes := #[27] }, type := 22, pos := "outright.go:24", after := #[{ on := 0, ground := Ground.data }], guard := none }).run Try.prog (W10) = .ok (.enter 9 #[.pointer (some ⟨b, 0, none⟩)]) (W10) := by
    have kf : ∀ f, c0_52.eval (.func f) = .func (.func f) #[] #[] := fun _ => rfl
    have e78 := (show c0_52.eval (.tmp 78) = .pointer (some ⟨b, 0, none⟩) from (fc0_52.at_ 78))
    clear fc0_52 ha
    generalize c0_52.eval = ρ at *
    go_simp
  refine fc0_52.call 79 rfl (lb_ hsz2) (wanted_none rfl) r_c0_53 (dimage_calls W10 d10 i10.ok.hp0 (by show 2 ≤ 1048576; decide)) (fun e W11 hR => ?_)
  obtain ⟨ga, gc, rfl, o11, s11⟩ := hR
  clear r_c0_53
  have d11 := d10.same s11
  have o11 : W11.ownsRow W10.heap.size 9 1 (.slice ga 2 gc) 2 (scells [ovlS 128 xa xb 1, zS]) := o11
  obtain ⟨gl, rfl, _⟩ := own_some (own_base o11 (Nat.zero_le _)) (by decide)
  have hgl := (own_ge o11).1
  have k11 : W11.cell? ⟨gl, 0, none⟩ = some (.string (ovlS 128 xa xb 1)) := own_cell (own_base o11 (Nat.zero_le _)) rfl
  rw [ovl_first hb1] at k11
  refine ⟨_, rfl, fun c0_53 fc0_53 => ?_⟩
  clear fc0_52
  refine fc0_53.move 7 (.slice (some ⟨gl, 0, none⟩) 2 gc) _ (Or.inr rfl) rfl (lb_ hsz2) (wanted_none rfl) (fc0_53.at_ 79) (fun c0_54 fc0_54 => ?_)
  clear fc0_53
  refine wpList_nil ?_
  change Code.wp _ _ _ _ _
  refine wp_seq ?_
  refine wp_region_list ?_
  unfold rOW11
  refine fc0_54.move 81 (.pointer (some ⟨b, 0, none⟩)) _ (Or.inl rfl) rfl (lb_ hsz2) (wanted_none rfl) ((fc0_54.at_ 1).trans q1) (fun c0_55 fc0_55 => ?_)
  clear fc0_54
  have r_c0_56 : (execOp c0_55.eval { dst := some 82, op := Op.call { callee := Callee.value (Operand.func 30), args := #[Operand.tmp 81, Operand.const (Value.int IntKind.u32 0)], argTypes := #[27, 59] }, type := 61, pos := "outright.go:25", after := #[{ on := 0, ground := Ground.data }], guard := none }).run Try.prog (W11) = .ok (.enter 30 #[.pointer (some ⟨b, 0, none⟩), Value.int IntKind.u32 0]) (W11) := by
    have kc : ∀ v, c0_55.eval (.const v) = v := fun _ => rfl
    have kf : ∀ f, c0_55.eval (.func f) = .func (.func f) #[] #[] := fun _ => rfl
    have e81 := (show c0_55.eval (.tmp 81) = .pointer (some ⟨b, 0, none⟩) from (fc0_55.at_ 81))
    clear fc0_55 ha
    generalize c0_55.eval = ρ at *
    go_simp
  refine fc0_55.call 82 rfl (lb_ hsz2) (wanted_none rfl) r_c0_56 (dread_calls (no := 0) W11 d11 i10.ok.hp0 (by decide) (by show 2 ≤ 1048576; decide)) (fun e w12 hR => ?_)
  obtain ⟨rfl, hw12⟩ := hR
  clear r_c0_56
  have hw12 := hw12.symm
  subst hw12
  refine ⟨_, rfl, fun c0_56 fc0_56 => ?_⟩
  clear fc0_55
  refine fc0_56.move 80 (.tuple #[.string ⟨#[]⟩, .int .i64 7]) _ (Or.inl rfl) rfl (lb_ hsz2) (wanted_none rfl) (fc0_56.at_ 82) (fun c0_57 fc0_57 => ?_)
  clear fc0_56
  have r_c0_58 : (execOp c0_57.eval { dst := some 83, op := Op.extract (Operand.tmp 80) 0, type := 9, pos := "outright.go:25", after := #[{ on := 2, ground := Ground.data }], guard := none }).run Try.prog (W11) = .ok (.value (.string ⟨#[]⟩)) (W11) := by
    have e80 := (show c0_57.eval (.tmp 80) = .tuple #[.string ⟨#[]⟩, .int .i64 7] from (fc0_57.at_ 80))
    clear fc0_57 ha
    generalize c0_57.eval = ρ at *
    go_simp
  refine fc0_57.step 83 (.string ⟨#[]⟩) rfl (lb_ hsz2) (wanted_none rfl) r_c0_58 (fun c0_58 fc0_58 => ?_)
  clear r_c0_58
  clear fc0_57
  have r_c0_59 : (execOp c0_58.eval { dst := some 84, op := Op.extract (Operand.tmp 80) 1, type := 24, pos := "outright.go:25", after := #[{ on := 2, ground := Ground.data }, { on := 5, ground := Ground.gcOnly Go.Departure.lateStores }], guard := none }).run Try.prog (W11) = .ok (.value (.int .i64 7)) (W11) := by
    have e80 := (show c0_58.eval (.tmp 80) = .tuple #[.string ⟨#[]⟩, .int .i64 7] from (fc0_58.at_ 80))
    clear fc0_58 ha
    generalize c0_58.eval = ρ at *
    go_simp
  refine fc0_58.step 84 (.int .i64 7) rfl (lb_ hsz2) (wanted_none rfl) r_c0_59 (fun c0_59 fc0_59 => ?_)
  clear r_c0_59
  clear fc0_58
  refine fc0_59.move 8 (.string ⟨#[]⟩) _ (Or.inr rfl) rfl (lb_ hsz2) (wanted_none rfl) (fc0_59.at_ 83) (fun c0_60 fc0_60 => ?_)
  clear fc0_59
  refine fc0_60.move 9 (.int .i64 7) _ (Or.inr rfl) rfl (lb_ hsz2) (wanted_none rfl) (fc0_60.at_ 84) (fun c0_61 fc0_61 => ?_)
  clear fc0_60
  refine wpList_nil ?_
  change Code.wp _ _ _ _ _
  have dd : Same W11 W11.drew := (Fr.refl (fun _ => False) W11).drew
  refine wp_seq ?_
  refine wp_region_held_drew (ops := rOW12) (S := fun Z => Z.cell? ⟨gl, 0, none⟩ = some (.string (xb.extract 0 128 ++ xa.extract 128 xa.size))) (by kernel_rfl) (dd.keep k11) (fun hS61 => ?_)
  refine fc0_61.takeMove 0 85 (.slice (some ⟨gl, 0, none⟩) 2 gc) _ (Or.inl rfl) rfl (by kernel_rfl) (by kernel_rfl) (by kernel_rfl) (fun _ _ _ h => h) rfl (lb_ hsz2) (wanted_none rfl) (fc0_61.at_ 7) hS61 (fun c0_62 fc0_62 => ?_)
  clear fc0_61
  have r_c0_63 : ∀ Z, (fun Z => Z.cell? ⟨gl, 0, none⟩ = some (.string (xb.extract 0 128 ++ xa.extract 128 xa.size))) Z → (execOp c0_62.eval { dst := some 86, op := Op.call { callee := Callee.builtin Builtin.len, args := #[Operand.tmp 85], argTypes := #[22] }, type := 3, pos := "outright.go:26", after := #[{ on := 0, ground := Ground.data }], guard := none }).run Try.prog Z = .ok (.value (.int .i64 2)) Z := fun Z hZ => by
    have e85 := (show c0_62.eval (.tmp 85) = .slice (some ⟨gl, 0, none⟩) 2 gc from (fc0_62.at_ 85))
    clear fc0_62 ha
    generalize c0_62.eval = ρ at *
    go_simp
  refine fc0_62.take 1 86 (.int .i64 2) rfl (by kernel_rfl) (by kernel_rfl) (by kernel_rfl) (fun _ _ _ h => h) rfl (lb_ hsz2) (wanted_none rfl) r_c0_63 hS61 (fun c0_63 fc0_63 => ?_)
  clear r_c0_63
  clear fc0_62
  have r_c0_64 : ∀ Z, (fun Z => Z.cell? ⟨gl, 0, none⟩ = some (.string (xb.extract 0 128 ++ xa.extract 128 xa.size))) Z → (execOp c0_63.eval { dst := some 87, op := Op.binOp BinOp.eql 3 (Operand.tmp 86) (Operand.const (Value.int IntKind.i64 2)) 3, type := 4, pos := "outright.go:26", after := #[{ on := 1, ground := Ground.data }], guard := none }).run Try.prog Z = .ok (.value (.bool true)) Z := fun Z hZ => by
    have kc : ∀ v, c0_63.eval (.const v) = v := fun _ => rfl
    have e86 := (show c0_63.eval (.tmp 86) = .int .i64 2 from (fc0_63.at_ 86))
    clear fc0_63 ha
    generalize c0_63.eval = ρ at *
    go_simp
  refine fc0_63.take 2 87 (.bool true) rfl (by kernel_rfl) (by kernel_rfl) (by kernel_rfl) (fun _ _ _ h => h) rfl (lb_ hsz2) (wanted_none rfl) r_c0_64 hS61 (fun c0_64 fc0_64 => ?_)
  clear r_c0_64
  clear fc0_63
  refine fc0_64.takeMove 3 88 (.bool true) _ (Or.inl rfl) rfl (by kernel_rfl) (by kernel_rfl) (by kernel_rfl) (fun _ _ _ h => h) rfl (lb_ hsz2) (wanted_none rfl) (fc0_64.at_ 87) hS61 (fun c0_65 fc0_65 => ?_)
  clear fc0_64
  refine fc0_65.takeMove 4 89 (.slice (some ⟨gl, 0, none⟩) 2 gc) _ (Or.inl rfl) rfl (by kernel_rfl) (by kernel_rfl) (by kernel_rfl) (fun _ _ _ h => h) rfl (lb_ hsz2) ((wanted_at (t := 88) (c := true) (b := true) rfl rfl rfl (lb_ (fc0_65.size.trans hsz2)) (fc0_65.at_ 88)).trans (by rfl)) (fc0_65.at_ 7) hS61 (fun c0_66 fc0_66 => ?_)
  clear fc0_65
  have r_c0_67 : ∀ Z, (fun Z => Z.cell? ⟨gl, 0, none⟩ = some (.string (xb.extract 0 128 ++ xa.extract 128 xa.size))) Z → (execOp c0_66.eval { dst := some 90, op := Op.indexAddr 22 (Operand.tmp 89) (Operand.const (Value.int IntKind.i64 0)), type := 0, pos := "outright.go:26", after := #[{ on := 4, ground := Ground.data }, { on := 3, ground := Ground.guard }], guard := some (3, true) }).run Try.prog Z = .ok (.value (.pointer (some ⟨gl, 0, none⟩))) Z := fun Z hZ => by
    have kc : ∀ v, c0_66.eval (.const v) = v := fun _ => rfl
    have e89 := (show c0_66.eval (.tmp 89) = .slice (some ⟨gl, 0, none⟩) 2 gc from (fc0_66.at_ 89))
    clear fc0_66 ha
    generalize c0_66.eval = ρ at *
    go_simp
  refine fc0_66.take 5 90 (.pointer (some ⟨gl, 0, none⟩)) rfl (by kernel_rfl) (by kernel_rfl) (by kernel_rfl) (fun _ _ _ h => h) rfl (lb_ hsz2) ((wanted_at (t := 88) (c := true) (b := true) rfl rfl rfl (lb_ (fc0_66.size.trans hsz2)) (fc0_66.at_ 88)).trans (by rfl)) r_c0_67 hS61 (fun c0_67 fc0_67 => ?_)
  clear r_c0_67
  clear fc0_66
  have r_c0_68 : ∀ Z, (fun Z => Z.cell? ⟨gl, 0, none⟩ = some (.string (xb.extract 0 128 ++ xa.extract 128 xa.size))) Z → (execOp c0_67.eval { dst := some 91, op := Op.load 9 (Operand.tmp 90), type := 9, pos := "outright.go:26", after := #[{ on := 5, ground := Ground.data }, { on := 3, ground := Ground.guard }], guard := some (3, true) }).run Try.prog Z = .ok (.value (.string (xb.extract 0 128 ++ xa.extract 128 xa.size))) Z := fun Z hZ => by
    have z0 := hZ
    have e90 := (show c0_67.eval (.tmp 90) = .pointer (some ⟨gl, 0, none⟩) from (fc0_67.at_ 90))
    clear fc0_67 ha
    generalize c0_67.eval = ρ at *
    go_simp
  refine fc0_67.take 6 91 (.string (xb.extract 0 128 ++ xa.extract 128 xa.size)) rfl (by kernel_rfl) (by kernel_rfl) (by kernel_rfl) (fun _ _ _ h => h) rfl (lb_ hsz2) ((wanted_at (t := 88) (c := true) (b := true) rfl rfl rfl (lb_ (fc0_67.size.trans hsz2)) (fc0_67.at_ 88)).trans (by rfl)) r_c0_68 hS61 (fun c0_68 fc0_68 => ?_)
  clear r_c0_68
  clear fc0_67
  refine fc0_68.takeMove 7 92 (.string xb) _ (Or.inl rfl) rfl (by kernel_rfl) (by kernel_rfl) (by kernel_rfl) (fun _ _ _ h => h) rfl (lb_ hsz2) ((wanted_at (t := 88) (c := true) (b := true) rfl rfl rfl (lb_ (fc0_68.size.trans hsz2)) (fc0_68.at_ 88)).trans (by rfl)) ((fc0_68.at_ 4).trans q4) hS61 (fun c0_69 fc0_69 => ?_)
  clear fc0_68
  have r_c0_70 : ∀ Z, (fun Z => Z.cell? ⟨gl, 0, none⟩ = some (.string (xb.extract 0 128 ++ xa.extract 128 xa.size))) Z → (execOp c0_69.eval { dst := some 93, op := Op.slice 9 (Operand.tmp 92) none (some (Operand.const (Value.int IntKind.i64 128))) none, type := 9, pos := "outright.go:26", after := #[{ on := 7, ground := Ground.data }, { on := 3, ground := Ground.guard }], guard := some (3, true) }).run Try.prog Z = .ok (.value (.string (xb.extract 0 128))) Z := fun Z hZ => by
    have kc : ∀ v, c0_69.eval (.const v) = v := fun _ => rfl
    have e92 := (show c0_69.eval (.tmp 92) = .string xb from (fc0_69.at_ 92))
    clear fc0_69 ha
    generalize c0_69.eval = ρ at *
    go_simp
  refine fc0_69.take 8 93 (.string (xb.extract 0 128)) rfl (by kernel_rfl) (by kernel_rfl) (by kernel_rfl) (fun _ _ _ h => h) rfl (lb_ hsz2) ((wanted_at (t := 88) (c := true) (b := true) rfl rfl rfl (lb_ (fc0_69.size.trans hsz2)) (fc0_69.at_ 88)).trans (by rfl)) r_c0_70 hS61 (fun c0_70 fc0_70 => ?_)
  clear r_c0_70
  clear fc0_69
  refine fc0_70.takeMove 9 94 (.string xa) _ (Or.inl rfl) rfl (by kernel_rfl) (by kernel_rfl) (by kernel_rfl) (fun _ _ _ h => h) rfl (lb_ hsz2) ((wanted_at (t := 88) (c := true) (b := true) rfl rfl rfl (lb_ (fc0_70.size.trans hsz2)) (fc0_70.at_ 88)).trans (by rfl)) ((fc0_70.at_ 3).trans q3) hS61 (fun c0_71 fc0_71 => ?_)
  clear fc0_70
  have r_c0_72 : ∀ Z, (fun Z => Z.cell? ⟨gl, 0, none⟩ = some (.string (xb.extract 0 128 ++ xa.extract 128 xa.size))) Z → (execOp c0_71.eval { dst := some 95, op := Op.slice 9 (Operand.tmp 94) (some (Operand.const (Value.int IntKind.i64 128))) none none, type := 9, pos := "outright.go:26", after := #[{ on := 9, ground := Ground.data }, { on := 3, ground := Ground.guard }], guard := some (3, true) }).run Try.prog Z = .ok (.value (.string (xa.extract 128 xa.size))) Z := fun Z hZ => by
    have kc : ∀ v, c0_71.eval (.const v) = v := fun _ => rfl
    have e94 := (show c0_71.eval (.tmp 94) = .string xa from (fc0_71.at_ 94))
    clear fc0_71 ha
    generalize c0_71.eval = ρ at *
    go_simp
  refine fc0_71.take 10 95 (.string (xa.extract 128 xa.size)) rfl (by kernel_rfl) (by kernel_rfl) (by kernel_rfl) (fun _ _ _ h => h) rfl (lb_ hsz2) ((wanted_at (t := 88) (c := true) (b := true) rfl rfl rfl (lb_ (fc0_71.size.trans hsz2)) (fc0_71.at_ 88)).trans (by rfl)) r_c0_72 hS61 (fun c0_72 fc0_72 => ?_)
  clear r_c0_72
  clear fc0_71
  have r_c0_73 : ∀ Z, (fun Z => Z.cell? ⟨gl, 0, none⟩ = some (.string (xb.extract 0 128 ++ xa.extract 128 xa.size))) Z → (execOp c0_72.eval { dst := some 96, op := Op.binOp BinOp.add 9 (Operand.tmp 93) (Operand.tmp 95) 9, type := 9, pos := "outright.go:26", after := #[{ on := 8, ground := Ground.data }, { on := 10, ground := Ground.data }, { on := 3, ground := Ground.guard }], guard := some (3, true) }).run Try.prog Z = .ok (.value (.string (xb.extract 0 128 ++ xa.extract 128 xa.size))) Z := fun Z hZ => by
    have e93 := (show c0_72.eval (.tmp 93) = .string (xb.extract 0 128) from (fc0_72.at_ 93))
    have e95 := (show c0_72.eval (.tmp 95) = .string (xa.extract 128 xa.size) from (fc0_72.at_ 95))
    clear fc0_72 ha
    generalize c0_72.eval = ρ at *
    go_simp
  refine fc0_72.take 11 96 (.string (xb.extract 0 128 ++ xa.extract 128 xa.size)) rfl (by kernel_rfl) (by kernel_rfl) (by kernel_rfl) (fun _ _ _ h => h) rfl (lb_ hsz2) ((wanted_at (t := 88) (c := true) (b := true) rfl rfl rfl (lb_ (fc0_72.size.trans hsz2)) (fc0_72.at_ 88)).trans (by rfl)) r_c0_73 hS61 (fun c0_73 fc0_73 => ?_)
  clear r_c0_73
  clear fc0_72
  have r_c0_74 : ∀ Z, (fun Z => Z.cell? ⟨gl, 0, none⟩ = some (.string (xb.extract 0 128 ++ xa.extract 128 xa.size))) Z → (execOp c0_73.eval { dst := some 97, op := Op.binOp BinOp.eql 9 (Operand.tmp 91) (Operand.tmp 96) 9, type := 4, pos := "outright.go:26", after := #[{ on := 6, ground := Ground.data }, { on := 11, ground := Ground.data }, { on := 3, ground := Ground.guard }], guard := some (3, true) }).run Try.prog Z = .ok (.value (.bool true)) Z := fun Z hZ => by
    have e91 := (show c0_73.eval (.tmp 91) = .string (xb.extract 0 128 ++ xa.extract 128 xa.size) from (fc0_73.at_ 91))
    have e96 := (show c0_73.eval (.tmp 96) = .string (xb.extract 0 128 ++ xa.extract 128 xa.size) from (fc0_73.at_ 96))
    clear fc0_73 ha
    generalize c0_73.eval = ρ at *
    go_simp
  refine fc0_73.take 12 97 (.bool true) rfl (by kernel_rfl) (by kernel_rfl) (by kernel_rfl) (fun _ _ _ h => h) rfl (lb_ hsz2) ((wanted_at (t := 88) (c := true) (b := true) rfl rfl rfl (lb_ (fc0_73.size.trans hsz2)) (fc0_73.at_ 88)).trans (by rfl)) r_c0_74 hS61 (fun c0_74 fc0_74 => ?_)
  clear r_c0_74
  clear fc0_73
  have r_c0_75 : ∀ Z, (fun Z => Z.cell? ⟨gl, 0, none⟩ = some (.string (xb.extract 0 128 ++ xa.extract 128 xa.size))) Z → (execOp c0_74.eval { dst := some 98, op := Op.pick (Operand.tmp 88) (Operand.tmp 97) (Operand.const (Value.bool false)), type := 4, pos := "outright.go:26", after := #[{ on := 3, ground := Ground.data }, { on := 12, ground := Ground.data }], guard := none }).run Try.prog Z = .ok (.value (.bool true)) Z := fun Z hZ => by
    have kc : ∀ v, c0_74.eval (.const v) = v := fun _ => rfl
    have e88 := (show c0_74.eval (.tmp 88) = .bool true from (fc0_74.at_ 88))
    have e97 := (show c0_74.eval (.tmp 97) = .bool true from (fc0_74.at_ 97))
    clear fc0_74 ha
    generalize c0_74.eval = ρ at *
    go_simp
  refine fc0_74.take 13 98 (.bool true) rfl (by kernel_rfl) (by kernel_rfl) (by kernel_rfl) (fun _ _ _ h => h) rfl (lb_ hsz2) (wanted_none rfl) r_c0_75 hS61 (fun c0_75 fc0_75 => ?_)
  clear r_c0_75
  clear fc0_74
  refine fc0_75.takeMove 14 99 (.bool true) _ (Or.inl rfl) rfl (by kernel_rfl) (by kernel_rfl) (by kernel_rfl) (fun _ _ _ h => h) rfl (lb_ hsz2) (wanted_none rfl) (fc0_75.at_ 98) hS61 (fun c0_76 fc0_76 => ?_)
  clear fc0_75
  refine fc0_76.takeMove 15 100 (.int .i64 7) _ (Or.inl rfl) rfl (by kernel_rfl) (by kernel_rfl) (by kernel_rfl) (fun _ _ _ h => h) rfl (lb_ hsz2) ((wanted_at (t := 99) (c := true) (b := true) rfl rfl rfl (lb_ (fc0_76.size.trans hsz2)) (fc0_76.at_ 99)).trans (by rfl)) (fc0_76.at_ 9) hS61 (fun c0_77 fc0_77 => ?_)
  clear fc0_76
  have r_c0_78 : ∀ Z, (fun Z => Z.cell? ⟨gl, 0, none⟩ = some (.string (xb.extract 0 128 ++ xa.extract 128 xa.size))) Z → (execOp c0_77.eval { dst := some 101, op := Op.binOp BinOp.eql 24 (Operand.tmp 100) (Operand.const (Value.int IntKind.i64 7)) 24, type := 4, pos := "outright.go:26", after := #[{ on := 15, ground := Ground.data }, { on := 14, ground := Ground.guard }], guard := some (14, true) }).run Try.prog Z = .ok (.value (.bool true)) Z := fun Z hZ => by
    have kc : ∀ v, c0_77.eval (.const v) = v := fun _ => rfl
    have e100 := (show c0_77.eval (.tmp 100) = .int .i64 7 from (fc0_77.at_ 100))
    clear fc0_77 ha
    generalize c0_77.eval = ρ at *
    go_simp
  refine fc0_77.take 16 101 (.bool true) rfl (by kernel_rfl) (by kernel_rfl) (by kernel_rfl) (fun _ _ _ h => h) rfl (lb_ hsz2) ((wanted_at (t := 99) (c := true) (b := true) rfl rfl rfl (lb_ (fc0_77.size.trans hsz2)) (fc0_77.at_ 99)).trans (by rfl)) r_c0_78 hS61 (fun c0_78 fc0_78 => ?_)
  clear r_c0_78
  clear fc0_77
  have r_c0_79 : ∀ Z, (fun Z => Z.cell? ⟨gl, 0, none⟩ = some (.string (xb.extract 0 128 ++ xa.extract 128 xa.size))) Z → (execOp c0_78.eval { dst := some 102, op := Op.pick (Operand.tmp 99) (Operand.tmp 101) (Operand.const (Value.bool false)), type := 4, pos := "outright.go:26", after := #[{ on := 14, ground := Ground.data }, { on := 16, ground := Ground.data }], guard := none }).run Try.prog Z = .ok (.value (.bool true)) Z := fun Z hZ => by
    have kc : ∀ v, c0_78.eval (.const v) = v := fun _ => rfl
    have e99 := (show c0_78.eval (.tmp 99) = .bool true from (fc0_78.at_ 99))
    have e101 := (show c0_78.eval (.tmp 101) = .bool true from (fc0_78.at_ 101))
    clear fc0_78 ha
    generalize c0_78.eval = ρ at *
    go_simp
  refine fc0_78.take 17 102 (.bool true) rfl (by kernel_rfl) (by kernel_rfl) (by kernel_rfl) (fun _ _ _ h => h) rfl (lb_ hsz2) (wanted_none rfl) r_c0_79 hS61 (fun c0_79 fc0_79 => ?_)
  clear r_c0_79
  clear fc0_78
  refine fc0_79.takeMove 18 103 (.bool true) _ (Or.inl rfl) rfl (by kernel_rfl) (by kernel_rfl) (by kernel_rfl) (fun _ _ _ h => h) rfl (lb_ hsz2) (wanted_none rfl) (fc0_79.at_ 102) hS61 (fun c0_80 fc0_80 => ?_)
  clear fc0_79
  refine fc0_80.takeMove 19 104 (.pointer (some ⟨b, 0, none⟩)) _ (Or.inl rfl) rfl (by kernel_rfl) (by kernel_rfl) (by kernel_rfl) (fun _ _ _ h => h) rfl (lb_ hsz2) ((wanted_at (t := 103) (c := true) (b := true) rfl rfl rfl (lb_ (fc0_80.size.trans hsz2)) (fc0_80.at_ 103)).trans (by rfl)) ((fc0_80.at_ 1).trans q1) hS61 (fun c0_81 fc0_81 => ?_)
  clear fc0_80
  have r_c0_82 : (execOp c0_81.eval { dst := some 105, op := Op.call { callee := Callee.value (Operand.func 33), args := #[Operand.tmp 104], argTypes := #[27] }, type := 24, pos := "outright.go:26", after := #[{ on := 19, ground := Ground.data }, { on := 18, ground := Ground.chain }, { on := 18, ground := Ground.guard }], guard := some (18, true) }).run Try.prog (W11.drew) = .ok (.enter 33 #[.pointer (some ⟨b, 0, none⟩)]) (W11.drew) := by
    have kf : ∀ f, c0_81.eval (.func f) = .func (.func f) #[] #[] := fun _ => rfl
    have e104 := (show c0_81.eval (.tmp 104) = .pointer (some ⟨b, 0, none⟩) from (fc0_81.at_ 104))
    clear fc0_81 ha
    generalize c0_81.eval = ρ at *
    go_simp
  refine fc0_81.oneCall 20 105 (by kernel_rfl) rfl rfl (lb_ hsz2) ((wanted_at (t := 103) (c := true) (b := true) rfl rfl rfl (lb_ (fc0_81.size.trans hsz2)) (fc0_81.at_ 103)).trans (by rfl)) r_c0_82 (dwake_calls W11.drew (d11.same dd) i10.ok.hp0 rfl (by show 0 < 1000000000; decide)) (fun e W12 hR => ?_)
  obtain ⟨rfl, d12, f12⟩ := hR
  clear r_c0_82
  have hS82 : (fun Z => Z.cell? ⟨gl, 0, none⟩ = some (.string (xb.extract 0 128 ++ xa.extract 128 xa.size))) W12 := (f12.cell (World.block_lt_of_cell? _ _ (dd.keep k11)) (fun e => by have := e.2; simp only at *; omega)).trans (dd.keep k11)
  refine ⟨_, rfl, hS82, fun c0_82 fc0_82 => ?_⟩
  clear fc0_81
  have r_c0_83 : ∀ Z, (fun Z => Z.cell? ⟨gl, 0, none⟩ = some (.string (xb.extract 0 128 ++ xa.extract 128 xa.size))) Z → (execOp c0_82.eval { dst := some 106, op := Op.binOp BinOp.eql 24 (Operand.tmp 105) (Operand.const (Value.int IntKind.i64 0)) 24, type := 4, pos := "outright.go:26", after := #[{ on := 20, ground := Ground.data }, { on := 18, ground := Ground.guard }], guard := some (18, true) }).run Try.prog Z = .ok (.value (.bool true)) Z := fun Z hZ => by
    have kc : ∀ v, c0_82.eval (.const v) = v := fun _ => rfl
    have e105 := (show c0_82.eval (.tmp 105) = .int .i64 0 from (fc0_82.at_ 105))
    clear fc0_82 ha
    generalize c0_82.eval = ρ at *
    go_simp
  refine fc0_82.take 21 106 (.bool true) rfl (by kernel_rfl) (by kernel_rfl) (by kernel_rfl) (fun _ _ _ h => h) rfl (lb_ hsz2) ((wanted_at (t := 103) (c := true) (b := true) rfl rfl rfl (lb_ (fc0_82.size.trans hsz2)) (fc0_82.at_ 103)).trans (by rfl)) r_c0_83 hS82 (fun c0_83 fc0_83 => ?_)
  clear r_c0_83
  clear fc0_82
  have r_c0_84 : ∀ Z, (fun Z => Z.cell? ⟨gl, 0, none⟩ = some (.string (xb.extract 0 128 ++ xa.extract 128 xa.size))) Z → (execOp c0_83.eval { dst := some 107, op := Op.pick (Operand.tmp 103) (Operand.tmp 106) (Operand.const (Value.bool false)), type := 4, pos := "outright.go:26", after := #[{ on := 18, ground := Ground.data }, { on := 21, ground := Ground.data }], guard := none }).run Try.prog Z = .ok (.value (.bool true)) Z := fun Z hZ => by
    have kc : ∀ v, c0_83.eval (.const v) = v := fun _ => rfl
    have e103 := (show c0_83.eval (.tmp 103) = .bool true from (fc0_83.at_ 103))
    have e106 := (show c0_83.eval (.tmp 106) = .bool true from (fc0_83.at_ 106))
    clear fc0_83 ha
    generalize c0_83.eval = ρ at *
    go_simp
  refine fc0_83.take 22 107 (.bool true) rfl (by kernel_rfl) (by kernel_rfl) (by kernel_rfl) (fun _ _ _ h => h) rfl (lb_ hsz2) (wanted_none rfl) r_c0_84 hS82 (fun c0_84 fc0_84 => ?_)
  clear r_c0_84
  clear fc0_83
  refine fc0_84.takeMove 23 108 (.bool true) _ (Or.inl rfl) rfl (by kernel_rfl) (by kernel_rfl) (by kernel_rfl) (fun _ _ _ h => h) rfl (lb_ hsz2) (wanted_none rfl) (fc0_84.at_ 107) hS82 (fun c0_85 fc0_85 => ?_)
  clear fc0_84
  refine fc0_85.takeMove 24 109 (.pointer (some ⟨b, 0, none⟩)) _ (Or.inl rfl) rfl (by kernel_rfl) (by kernel_rfl) (by kernel_rfl) (fun _ _ _ h => h) rfl (lb_ hsz2) ((wanted_at (t := 108) (c := true) (b := true) rfl rfl rfl (lb_ (fc0_85.size.trans hsz2)) (fc0_85.at_ 108)).trans (by rfl)) ((fc0_85.at_ 1).trans q1) hS82 (fun c0_86 fc0_86 => ?_)
  clear fc0_85
  have r_c0_87 : (execOp c0_86.eval { dst := some 110, op := Op.call { callee := Callee.value (Operand.func 22), args := #[Operand.tmp 109], argTypes := #[27] }, type := 3, pos := "outright.go:26", after := #[{ on := 24, ground := Ground.data }, { on := 23, ground := Ground.chain }, { on := 23, ground := Ground.guard }], guard := some (23, true) }).run Try.prog (W12) = .ok (.enter 22 #[.pointer (some ⟨b, 0, none⟩)]) (W12) := by
    have kf : ∀ f, c0_86.eval (.func f) = .func (.func f) #[] #[] := fun _ => rfl
    have e109 := (show c0_86.eval (.tmp 109) = .pointer (some ⟨b, 0, none⟩) from (fc0_86.at_ 109))
    clear fc0_86 ha
    generalize c0_86.eval = ρ at *
    go_simp
  refine fc0_86.oneCall 25 110 (by kernel_rfl) rfl rfl (lb_ hsz2) ((wanted_at (t := 108) (c := true) (b := true) rfl rfl rfl (lb_ (fc0_86.size.trans hsz2)) (fc0_86.at_ 108)).trans (by rfl)) r_c0_87 (dlife_calls W12 d12 i10.ok.hp0) (fun e W13 hR => ?_)
  obtain ⟨rfl, hw13⟩ := hR
  clear r_c0_87
  have hS87 : (fun Z => Z.cell? ⟨gl, 0, none⟩ = some (.string (xb.extract 0 128 ++ xa.extract 128 xa.size))) W13 := by rw [hw13]; exact hS82
  refine ⟨_, rfl, hS87, fun c0_87 fc0_87 => ?_⟩
  clear fc0_86
  have r_c0_88 : ∀ Z, (fun Z => Z.cell? ⟨gl, 0, none⟩ = some (.string (xb.extract 0 128 ++ xa.extract 128 xa.size))) Z → (execOp c0_87.eval { dst := some 111, op := Op.binOp BinOp.eql 3 (Operand.tmp 110) (Operand.const (Value.int IntKind.i64 1)) 3, type := 4, pos := "outright.go:26", after := #[{ on := 25, ground := Ground.data }, { on := 23, ground := Ground.guard }], guard := some (23, true) }).run Try.prog Z = .ok (.value (.bool true)) Z := fun Z hZ => by
    have kc : ∀ v, c0_87.eval (.const v) = v := fun _ => rfl
    have e110 := (show c0_87.eval (.tmp 110) = .int .i64 1 from (fc0_87.at_ 110))
    clear fc0_87 ha
    generalize c0_87.eval = ρ at *
    go_simp
  refine fc0_87.take 26 111 (.bool true) rfl (by kernel_rfl) (by kernel_rfl) (by kernel_rfl) (fun _ _ _ h => h) rfl (lb_ hsz2) ((wanted_at (t := 108) (c := true) (b := true) rfl rfl rfl (lb_ (fc0_87.size.trans hsz2)) (fc0_87.at_ 108)).trans (by rfl)) r_c0_88 hS87 (fun c0_88 fc0_88 => ?_)
  clear r_c0_88
  clear fc0_87
  have r_c0_89 : ∀ Z, (fun Z => Z.cell? ⟨gl, 0, none⟩ = some (.string (xb.extract 0 128 ++ xa.extract 128 xa.size))) Z → (execOp c0_88.eval { dst := some 112, op := Op.pick (Operand.tmp 108) (Operand.tmp 111) (Operand.const (Value.bool false)), type := 4, pos := "outright.go:26", after := #[{ on := 23, ground := Ground.data }, { on := 26, ground := Ground.data }], guard := none }).run Try.prog Z = .ok (.value (.bool true)) Z := fun Z hZ => by
    have kc : ∀ v, c0_88.eval (.const v) = v := fun _ => rfl
    have e108 := (show c0_88.eval (.tmp 108) = .bool true from (fc0_88.at_ 108))
    have e111 := (show c0_88.eval (.tmp 111) = .bool true from (fc0_88.at_ 111))
    clear fc0_88 ha
    generalize c0_88.eval = ρ at *
    go_simp
  refine fc0_88.take 27 112 (.bool true) rfl (by kernel_rfl) (by kernel_rfl) (by kernel_rfl) (fun _ _ _ h => h) rfl (lb_ hsz2) (wanted_none rfl) r_c0_89 hS87 (fun c0_89 fc0_89 => ?_)
  clear r_c0_89
  clear fc0_88
  refine fc0_89.takeMove 28 0 (.bool true) _ (Or.inr rfl) rfl (by kernel_rfl) (by kernel_rfl) (by kernel_rfl) (fun _ _ _ h => h) rfl (lb_ hsz2) (wanted_none rfl) (fc0_89.at_ 112) hS87 (fun c0_90 fc0_90 => ?_)
  clear fc0_89
  refine wpAnyH_done (by kernel_rfl) ?_ _
  change Code.wp _ _ _ _ _
  refine wp_ret ?_
  exact ret_abs rfl (fc0_90.defers.trans hd2) (show c0_90.eval (.tmp 0) = .bool true from (fc0_90.at_ 0)) ⟨rfl, by rw [hw13]; exact Fr.trans (s10.trans (s11.trans dd)) f12 (fun k hk e => by have := e.1; omega)⟩
end Go.Proofs.Ytljlkcmjbjnihaa
