/- disk: overlaid. -/
import Derived.Test.YtljlkcmjbjnihaaOH
namespace Go.Proofs.Ytljlkcmjbjnihaa
open Go.RowKit

/-- A row of bytes that may be written to. -/
def BRw (w : World) (g : Nat) (xs : List UInt8) : Prop := g < w.heap.size ∧ ∀ j x, xs[j]? = some x → w.cell? ⟨g, j, none⟩ = some (.int .u8 (x.toNat : Int)) ∧ w.frozen? ⟨g, j, none⟩ = false
theorem frozen_setCell (w : World) (p : Addr) (v : Value) (q : Addr) : (w.setCell p v).frozen? q = w.frozen? q := by
  unfold World.frozen? World.setCell
  simp only [Array.getElem?_modify]
  by_cases e : p.block = q.block
  · rw [if_pos e]
    cases w.heap[q.block]? with
    | none => rfl
    | some o => cases o <;> rfl
  · rw [if_neg e]
theorem frozen_setCells (b : Nat) (q : Addr) : ∀ (vs : List Value) (o : Nat) (w : World), (w.setCells b o vs).frozen? q = w.frozen? q
  | [], _, _ => rfl
  | v :: vs, o, w => (frozen_setCells b q vs (o + 1) (w.setCell ⟨b, o, none⟩ v)).trans (frozen_setCell w _ v q)
/-- Bytes are laid over a part of the row. -/
def lay8 (xs : List UInt8) (o : Nat) (ys : List UInt8) : List UInt8 := xs.take o ++ ys ++ xs.drop (o + ys.length)
theorem lay8_len {xs ys : List UInt8} {o : Nat} (h : o + ys.length ≤ xs.length) : (lay8 xs o ys).length = xs.length := by unfold lay8; simp; omega
theorem lay8_get {xs ys : List UInt8} {o j : Nat} (h : o + ys.length ≤ xs.length) : (lay8 xs o ys)[j]? = if o ≤ j ∧ j < o + ys.length then ys[j - o]? else xs[j]? := by
  unfold lay8
  by_cases h1 : j < o
  · rw [if_neg (by omega), List.append_assoc, List.getElem?_append_left (by simp; omega), List.getElem?_take, if_pos h1]
  · by_cases h2 : j < o + ys.length
    · rw [if_pos ⟨by omega, h2⟩, List.getElem?_append_left (by simp; omega), List.getElem?_append_right (by simp; omega)]
      congr 1
      simp; omega
    · rw [if_neg (by omega), List.getElem?_append_right (by simp; omega), List.getElem?_drop]
      congr 1
      simp; omega
theorem BRw.lay {w : World} {g o : Nat} {xs ys : List UInt8} (h : BRw w g xs) (ho : o + ys.length ≤ xs.length) : BRw (w.setCells g o (bcells ys)) g (lay8 xs o ys) := by
  have f : Fr (fun k => k = g) w (w.setCells g o (bcells ys)) := Fr.setCells (S := fun k => k = g) (fun _ => rfl) _ o w (Fr.refl _ w)
  refine ⟨Nat.lt_of_lt_of_le h.1 f.size, fun j x hx => ?_⟩
  rw [lay8_get ho] at hx
  rw [frozen_setCells]
  have hjl : j < xs.length := by
    by_cases e : j < xs.length
    · exact e
    · split at hx
      · omega
      · rw [List.getElem?_eq_none (by omega)] at hx; cases hx
  obtain ⟨y, hy⟩ : ∃ y, xs[j]? = some y := ⟨_, List.getElem?_eq_getElem hjl⟩
  refine ⟨?_, (h.2 j y hy).2⟩
  by_cases e : o ≤ j ∧ j < o + ys.length
  · rw [if_pos e] at hx
    have hin := World.cell?_setCells_in g (bcells ys) o w (fun i hi => by
      rw [bcells_length] at hi
      obtain ⟨z, hz⟩ : ∃ z, xs[o + i]? = some z := ⟨_, List.getElem?_eq_getElem (by omega)⟩
      rw [(h.2 (o + i) z hz).1]; rfl) (j - o) (by rw [bcells_length]; omega)
    rw [show o + (j - o) = j from by omega] at hin
    rw [hin]
    have : (bcells ys)[j - o]? = some (.int .u8 (x.toNat : Int)) := by unfold bcells; rw [List.getElem?_map, hx]; rfl
    rw [List.getElem?_eq_getElem (by rw [bcells_length]; omega)] at this
    exact this
  · rw [if_neg e] at hx
    rw [World.cell?_setCells_out _ _ _ _ _ (fun _ _ => by rw [bcells_length]; simp only; omega)]
    exact (h.2 j x hx).1
/-- Is a sector in the mask? -/
def pbit (m i : Nat) : Bool := bits .and .u8 (m : Int) (IntKind.u8.wrap (2 ^ i)) != 0
/-- The page behind i sectors. -/
def ovl (sc : Nat) (u o : List UInt8) (m : Nat) : Nat → List UInt8
  | 0 => u
  | i + 1 => if pbit m i then lay8 (ovl sc u o m i) (i * sc) ((o.drop (i * sc)).take sc) else ovl sc u o m i
theorem sec_len {sc i : Nat} {o : List UInt8} (h : o.length = 8 * sc) (hi : i < 8) : ((o.drop (i * sc)).take sc).length = sc ∧ i * sc + sc ≤ 8 * sc := by
  have h1 : (i + 1) * sc ≤ 8 * sc := Nat.mul_le_mul_right sc (by omega)
  rw [Nat.succ_mul] at h1
  exact ⟨by simp; omega, h1⟩
theorem ovl_len {sc m : Nat} {u o : List UInt8} (hu : u.length = 8 * sc) (ho : o.length = 8 * sc) : ∀ i, i ≤ 8 → (ovl sc u o m i).length = 8 * sc
  | 0, _ => hu
  | i + 1, hi => by
    have ih := ovl_len (m := m) hu ho i (by omega)
    obtain ⟨h1, h2⟩ := sec_len (i := i) ho (by omega)
    unfold ovl
    split
    · rw [lay8_len (by rw [h1, ih]; exact h2), ih]
    · exact ih
def rOI0 : Array Oper := #[{ dst := some 6, op := Op.assign (Operand.const (Value.string { data := #[] })), type := 9, pos := "sheets.go:55", after := #[], guard := none }]
def rOI1 : Array Oper := #[{ dst := some 12, op := Op.move (Operand.tmp 2), type := 66, pos := "sheets.go:56", after := #[], guard := none },
  { dst := some 13, op := Op.binOp BinOp.eql 66 (Operand.tmp 12) (Operand.const (Value.int IntKind.u8 255)) 66, type := 4, pos := "sheets.go:56", after := #[{ on := 0, ground := Ground.data }], guard := none }]
def rOI2 : Array Oper := #[{ dst := some 14, op := Op.move (Operand.tmp 1), type := 9, pos := "sheets.go:57", after := #[], guard := none },
  { dst := some 6, op := Op.assign (Operand.tmp 14), type := 9, pos := "sheets.go:57", after := #[{ on := 0, ground := Ground.data }, { on := 0, ground := Ground.phase }], guard := none }]
def rOI3 : Array Oper := #[{ dst := some 15, op := Op.move (Operand.tmp 0), type := 9, pos := "sheets.go:59", after := #[], guard := none },
  { dst := some 16, op := Op.call { callee := Callee.builtin Builtin.len, args := #[Operand.tmp 15], argTypes := #[9] }, type := 3, pos := "sheets.go:59", after := #[{ on := 0, ground := Ground.data }], guard := none },
  { dst := some 17, op := Op.binOp BinOp.quo 3 (Operand.tmp 16) (Operand.const (Value.int IntKind.i64 8)) 3, type := 3, pos := "sheets.go:59", after := #[{ on := 1, ground := Ground.data }], guard := none },
  { dst := some 7, op := Op.assign (Operand.tmp 17), type := 3, pos := "sheets.go:59", after := #[{ on := 2, ground := Ground.data }, { on := 0, ground := Ground.phase }, { on := 1, ground := Ground.phase }, { on := 2, ground := Ground.phase }], guard := none }]
def rOI4 : Array Oper := #[{ dst := some 18, op := Op.move (Operand.tmp 0), type := 9, pos := "sheets.go:60", after := #[], guard := none },
  { dst := some 19, op := Op.convert 9 78 (Operand.tmp 18), type := 78, pos := "sheets.go:60", after := #[{ on := 0, ground := Ground.data }], guard := none },
  { dst := some 8, op := Op.assign (Operand.tmp 19), type := 78, pos := "sheets.go:60", after := #[{ on := 1, ground := Ground.data }, { on := 0, ground := Ground.phase }, { on := 1, ground := Ground.phase }], guard := none }]
def rOI5 : Array Oper := #[{ dst := some 20, op := Op.move (Operand.const (Value.int IntKind.i64 0)), type := 3, pos := "sheets.go:61", after := #[], guard := none }]
def rOI6 : Array Oper := #[{ dst := some 21, op := Op.binOp BinOp.lss 3 (Operand.tmp 20) (Operand.const (Value.int IntKind.i64 8)) 3, type := 4, pos := "sheets.go:61", after := #[], guard := none }]
def rOI7 : Array Oper := #[{ dst := some 22, op := Op.move (Operand.tmp 20), type := 3, pos := "sheets.go:61", after := #[], guard := none },
  { dst := some 9, op := Op.assign (Operand.tmp 22), type := 3, pos := "sheets.go:61", after := #[{ on := 0, ground := Ground.data }, { on := 0, ground := Ground.phase }], guard := none }]
def rOI8 : Array Oper := #[{ dst := some 23, op := Op.move (Operand.tmp 2), type := 66, pos := "sheets.go:62", after := #[], guard := none },
  { dst := some 24, op := Op.move (Operand.tmp 9), type := 3, pos := "sheets.go:62", after := #[], guard := none },
  { dst := some 25, op := Op.binOp BinOp.shl 66 (Operand.const (Value.int IntKind.u8 1)) (Operand.tmp 24) 3, type := 66, pos := "sheets.go:62", after := #[{ on := 1, ground := Ground.data }], guard := none },
  { dst := some 26, op := Op.binOp BinOp.and 66 (Operand.tmp 23) (Operand.tmp 25) 66, type := 66, pos := "sheets.go:62", after := #[{ on := 0, ground := Ground.data }, { on := 2, ground := Ground.data }], guard := none },
  { dst := some 27, op := Op.binOp BinOp.neq 66 (Operand.tmp 26) (Operand.const (Value.int IntKind.u8 0)) 66, type := 4, pos := "sheets.go:62", after := #[{ on := 3, ground := Ground.data }], guard := none }]
def rOI9 : Array Oper := #[{ dst := some 28, op := Op.move (Operand.tmp 9), type := 3, pos := "sheets.go:63", after := #[], guard := none },
  { dst := some 29, op := Op.move (Operand.tmp 7), type := 3, pos := "sheets.go:63", after := #[], guard := none },
  { dst := some 30, op := Op.binOp BinOp.mul 3 (Operand.tmp 28) (Operand.tmp 29) 3, type := 3, pos := "sheets.go:63", after := #[{ on := 0, ground := Ground.data }, { on := 1, ground := Ground.data }], guard := none },
  { dst := some 31, op := Op.move (Operand.tmp 9), type := 3, pos := "sheets.go:63", after := #[{ on := 7, ground := Ground.gcOnly Go.Departure.lateStores }], guard := none },
  { dst := some 32, op := Op.binOp BinOp.add 3 (Operand.tmp 31) (Operand.const (Value.int IntKind.i64 1)) 3, type := 3, pos := "sheets.go:63", after := #[{ on := 3, ground := Ground.data }, { on := 7, ground := Ground.gcOnly Go.Departure.lateStores }], guard := none },
  { dst := some 33, op := Op.move (Operand.tmp 7), type := 3, pos := "sheets.go:63", after := #[{ on := 7, ground := Ground.gcOnly Go.Departure.lateStores }], guard := none },
  { dst := some 34, op := Op.binOp BinOp.mul 3 (Operand.tmp 32) (Operand.tmp 33) 3, type := 3, pos := "sheets.go:63", after := #[{ on := 4, ground := Ground.data }, { on := 5, ground := Ground.data }, { on := 7, ground := Ground.gcOnly Go.Departure.lateStores }], guard := none },
  { dst := some 10, op := Op.assign (Operand.tmp 30), type := 3, pos := "sheets.go:63", after := #[{ on := 2, ground := Ground.data }, { on := 0, ground := Ground.phase }, { on := 1, ground := Ground.phase }, { on := 2, ground := Ground.phase }, { on := 3, ground := Ground.textOnly Go.Departure.lateStores }, { on := 4, ground := Ground.textOnly Go.Departure.lateStores }, { on := 5, ground := Ground.textOnly Go.Departure.lateStores }, { on := 6, ground := Ground.textOnly Go.Departure.lateStores }], guard := none },
  { dst := some 11, op := Op.assign (Operand.tmp 34), type := 3, pos := "sheets.go:63", after := #[{ on := 6, ground := Ground.data }, { on := 7, ground := Ground.chain }, { on := 0, ground := Ground.phase }, { on := 1, ground := Ground.phase }, { on := 2, ground := Ground.phase }, { on := 3, ground := Ground.phase }, { on := 4, ground := Ground.phase }, { on := 5, ground := Ground.phase }, { on := 6, ground := Ground.phase }, { on := 7, ground := Ground.phase }], guard := none }]
def rOI10 : Array Oper := #[{ dst := some 35, op := Op.move (Operand.tmp 8), type := 78, pos := "sheets.go:64", after := #[], guard := none },
  { dst := some 36, op := Op.move (Operand.tmp 10), type := 3, pos := "sheets.go:64", after := #[], guard := none },
  { dst := some 37, op := Op.move (Operand.tmp 11), type := 3, pos := "sheets.go:64", after := #[], guard := none },
  { dst := some 38, op := Op.slice 78 (Operand.tmp 35) (some (Operand.tmp 36)) (some (Operand.tmp 37)) none, type := 78, pos := "sheets.go:64", after := #[{ on := 0, ground := Ground.data }, { on := 1, ground := Ground.data }, { on := 2, ground := Ground.data }], guard := none },
  { dst := some 39, op := Op.move (Operand.tmp 1), type := 9, pos := "sheets.go:64", after := #[], guard := none },
  { dst := some 40, op := Op.move (Operand.tmp 10), type := 3, pos := "sheets.go:64", after := #[], guard := none },
  { dst := some 41, op := Op.move (Operand.tmp 11), type := 3, pos := "sheets.go:64", after := #[], guard := none },
  { dst := some 42, op := Op.slice 9 (Operand.tmp 39) (some (Operand.tmp 40)) (some (Operand.tmp 41)) none, type := 9, pos := "sheets.go:64", after := #[{ on := 4, ground := Ground.data }, { on := 5, ground := Ground.data }, { on := 6, ground := Ground.data }], guard := none },
  { dst := some 43, op := Op.call { callee := Callee.builtin Builtin.copy, args := #[Operand.tmp 38, Operand.tmp 42], argTypes := #[78, 9] }, type := 3, pos := "sheets.go:64", after := #[{ on := 3, ground := Ground.data }, { on := 7, ground := Ground.data }], guard := none }]
def rOI11 : Array Oper := #[{ dst := some 44, op := Op.binOp BinOp.add 3 (Operand.tmp 20) (Operand.const (Value.int IntKind.i64 1)) 3, type := 3, pos := "sheets.go:61", after := #[], guard := none },
  { dst := some 20, op := Op.move (Operand.tmp 44), type := 3, pos := "sheets.go:61", after := #[{ on := 0, ground := Ground.data }], guard := none }]
def rOI12 : Array Oper := #[{ dst := some 45, op := Op.move (Operand.tmp 8), type := 78, pos := "sheets.go:67", after := #[], guard := none },
  { dst := some 46, op := Op.convert 78 9 (Operand.tmp 45), type := 9, pos := "sheets.go:67", after := #[{ on := 0, ground := Ground.data }], guard := none },
  { dst := some 6, op := Op.assign (Operand.tmp 46), type := 9, pos := "sheets.go:67", after := #[{ on := 1, ground := Ground.data }, { on := 0, ground := Ground.phase }, { on := 1, ground := Ground.phase }], guard := none }]
def cOI1 : Code := (Code.seq (Code.region 6 rOI6 false) (Code.seq (Code.cond (Operand.tmp 21) Code.skip (Code.exit 0)) (Code.seq (Code.block 1 (Code.seq (Code.region 7 rOI7 false) (Code.seq (Code.region 8 rOI8 false) (Code.cond (Operand.tmp 27) (Code.seq (Code.region 9 rOI9 false) (Code.region 10 rOI10 true)) Code.skip)))) (Code.region 11 rOI11 false))))
def cOI : Code := (Code.seq (Code.region 0 rOI0 false) (Code.seq (Code.seq (Code.region 1 rOI1 false) (Code.cond (Operand.tmp 13) (Code.seq (Code.region 2 rOI2 false) Code.ret) Code.skip)) (Code.seq (Code.region 3 rOI3 false) (Code.seq (Code.region 4 rOI4 false) (Code.seq (Code.seq (Code.region 5 rOI5 false) (Code.block 0 (Code.loop cOI1))) (Code.seq (Code.region 12 rOI12 false) Code.ret))))))
structure IOI (g n cp sc m : Nat) (o : ByteArray) (a : Act) : Prop where
  size : a.tmps.size = 47
  defers : a.defers = []
  s1 : a.eval (.tmp 1) = .string o
  s2 : a.eval (.tmp 2) = .int .u8 (m : Int)
  s7 : a.eval (.tmp 7) = .int .i64 (sc : Int)
  s8 : a.eval (.tmp 8) = .slice (some ⟨g, 0, none⟩) n cp
theorem IOI.keep {g n cp sc m : Nat} {o : ByteArray} {a0 a : Act} {env : List (Nat × Value)} (h : IOI g n cp sc m o a0) (f : Fe a0 env a) (h1 : look env 1 (a0.eval (.tmp 1)) = a0.eval (.tmp 1)) (h2 : look env 2 (a0.eval (.tmp 2)) = a0.eval (.tmp 2)) (h7 : look env 7 (a0.eval (.tmp 7)) = a0.eval (.tmp 7)) (h8 : look env 8 (a0.eval (.tmp 8)) = a0.eval (.tmp 8)) : IOI g n cp sc m o a :=
  ⟨f.size.trans h.size, f.defers.trans h.defers, ((f.at_ 1).trans h1).trans h.s1, ((f.at_ 2).trans h2).trans h.s2, ((f.at_ 7).trans h7).trans h.s7, ((f.at_ 8).trans h8).trans h.s8⟩
set_option maxRecDepth 100000 in
set_option maxHeartbeats 1000000 in
theorem oiT {g n cp sc m i A B : Nat} {kv : Int} {o : ByteArray} {xs : List UInt8} {Q : Exit → Act → World → Prop} (hQp : ∀ c (a : Act) d v w, Q (.panic c) (a.put d v) w → Q (.panic c) a w) (a0 : Act) (wr : World) (I0 : IOI g n cp sc m o a0) (h20 : a0.eval (.tmp 20) = .int .i64 (i : Int)) (hi : i < 8) (hkv : IntKind.u8.wrap (2 ^ i) = kv) (hB : (bits .and .u8 (m : Int) kv != 0) = true) (hA : A = i * sc) (hB2 : B = (i + 1) * sc) (hxn : xs.length = 8 * sc) (hn : n = 8 * sc) (hcp : n ≤ cp) (hon : o.size = 8 * sc) (hsc : sc ≤ 4096) (hsc0 : 0 < sc) (hr : BRw wr g xs)
    (hQ : ∀ a W ys, BRw W g ys → Fr (fun k => k = g) wr W → IOI g n cp sc m o a → a.eval (.tmp 20) = .int .i64 ((i : Int) + 1) → ys = lay8 xs A ((o.data.toList.drop A).take sc) → Q .normal a W) : cOI1.wp Try.prog Q a0 wr := by
  have hii : (i : Int) < 8 := by omega
  have hAB : B = A + sc := by rw [hA, hB2, Nat.succ_mul]
  have hB8 : B ≤ n := by have : (i + 1) * sc ≤ 8 * sc := Nat.mul_le_mul_right sc (by omega)
                         omega
  have hyl : (o.data.toList.drop A).take sc = (o.extract A B).data.toList := by
    rw [hAB]
    simp [ByteArray.data_extract, Array.toList_extract, List.extract, Nat.add_sub_cancel_left]
  have hys : ((o.data.toList.drop A).take sc).length = sc := by
    have : o.data.toList.length = o.size := rfl
    simp only [List.length_take, List.length_drop]
    omega
  have hxs : (o.extract A B).size = B - A := by
    have h1 : (o.extract A B).data.toList.length = (o.extract A B).size := rfl
    rw [← h1, ← hyl, hys]
    omega
  have hext : (o.extract A B).data.toList.map (fun x => Value.int .u8 (x.toNat : Int)) = bcells ((o.data.toList.drop A).take sc) := by rw [hyl]; rfl
  have hcell : ∀ j, j < (o.extract A B).size → (wr.drew.cell? ⟨g, A + j, none⟩).isSome = true ∧ wr.drew.frozen? ⟨g, A + j, none⟩ = false := fun j hj => by
    obtain ⟨z, hz⟩ : ∃ z, xs[A + j]? = some z := ⟨_, List.getElem?_eq_getElem (by omega)⟩
    obtain ⟨h1, h2⟩ := hr.2 (A + j) z hz
    exact ⟨by show (wr.cell? _).isSome = true; rw [h1]; rfl, h2⟩
  have w1 : IntKind.i64.wrap ((i : Int) + 1) = (i : Int) + 1 := by rw [IntKind.wrap_i64]; omega
  have wA : IntKind.i64.wrap ((i : Int) * (sc : Int)) = (A : Int) := by rw [← Int.natCast_mul, ← hA, IntKind.wrap_i64]; omega
  have wB : IntKind.i64.wrap (((i : Int) + 1) * (sc : Int)) = (B : Int) := by rw [show ((i : Int) + 1) * (sc : Int) = (B : Int) from by rw [hB2]; simp, IntKind.wrap_i64]; omega
  have hABi : (A : Int) ≤ (B : Int) := by omega
  have hBcp : (B : Int) ≤ (cp : Int) := by omega
  have hBo : (B : Int) ≤ (o.size : Int) := by omega
  have hAcp : ¬ cp = A := by omega
  have hfit : Hid (A + ((o.data.toList.drop A).take sc).length ≤ xs.length) := by show _ ≤ _; rw [hys]; omega
  clear hA hB2 hAB hB8 hn hxn hon hys hcp
  have fa0_0 := Fe.refl a0
  unfold cOI1
  refine wp_seq ?_
  refine wp_region_list ?_
  unfold rOI6
  have r_a0_1 : (execOp a0.eval { dst := some 21, op := Op.binOp BinOp.lss 3 (Operand.tmp 20) (Operand.const (Value.int IntKind.i64 8)) 3, type := 4, pos := "sheets.go:61", after := #[], guard := none }).run Try.prog (wr) = .ok (.value (.bool true)) (wr) := by
    have kc : ∀ v, a0.eval (.const v) = v := fun _ => rfl
    have e20 := (show a0.eval (.tmp 20) = .int .i64 (i : Int) from ((fa0_0.at_ 20).trans h20))
    clear fa0_0 hQ h20 hr
    generalize a0.eval = ρ at *
    go_simp
  refine fa0_0.step 21 (.bool true) rfl (lb_ I0.size) (wanted_none rfl) r_a0_1 (fun a0_1 fa0_1 => ?_)
  clear r_a0_1
  clear fa0_0
  refine wpList_nil ?_
  change Code.wp _ _ _ _ _
  refine wp_seq (wp_cond_true (show a0_1.eval (.tmp 21) = .bool true from (fa0_1.at_ 21)) (wp_skip ?_))
  change Code.wp _ _ _ _ _
  refine wp_seq (wp_block (wp_seq ?_))
  refine wp_region_list ?_
  unfold rOI7
  refine fa0_1.move 22 (.int .i64 (i : Int)) _ (Or.inl rfl) rfl (lb_ I0.size) (wanted_none rfl) ((fa0_1.at_ 20).trans h20) (fun a0_2 fa0_2 => ?_)
  clear fa0_1
  refine fa0_2.move 9 (.int .i64 (i : Int)) _ (Or.inr rfl) rfl (lb_ I0.size) (wanted_none rfl) (fa0_2.at_ 22) (fun a0_3 fa0_3 => ?_)
  clear fa0_2
  refine wpList_nil ?_
  change Code.wp _ _ _ _ _
  refine wp_seq ?_
  refine wp_region_list ?_
  unfold rOI8
  refine fa0_3.move 23 (.int .u8 (m : Int)) _ (Or.inl rfl) rfl (lb_ I0.size) (wanted_none rfl) ((fa0_3.at_ 2).trans I0.s2) (fun a0_4 fa0_4 => ?_)
  clear fa0_3
  refine fa0_4.move 24 (.int .i64 (i : Int)) _ (Or.inl rfl) rfl (lb_ I0.size) (wanted_none rfl) (fa0_4.at_ 9) (fun a0_5 fa0_5 => ?_)
  clear fa0_4
  have r_a0_6 : (execOp a0_5.eval { dst := some 25, op := Op.binOp BinOp.shl 66 (Operand.const (Value.int IntKind.u8 1)) (Operand.tmp 24) 3, type := 66, pos := "sheets.go:62", after := #[{ on := 1, ground := Ground.data }], guard := none }).run Try.prog (wr) = .ok (.value (.int .u8 kv)) (wr) := by
    have kc : ∀ v, a0_5.eval (.const v) = v := fun _ => rfl
    have e24 := (show a0_5.eval (.tmp 24) = .int .i64 (i : Int) from (fa0_5.at_ 24))
    clear fa0_5 hQ h20 hr
    generalize a0_5.eval = ρ at *
    go_simp
  refine fa0_5.step 25 (.int .u8 kv) rfl (lb_ I0.size) (wanted_none rfl) r_a0_6 (fun a0_6 fa0_6 => ?_)
  clear r_a0_6
  clear fa0_5
  have r_a0_7 : (execOp a0_6.eval { dst := some 26, op := Op.binOp BinOp.and 66 (Operand.tmp 23) (Operand.tmp 25) 66, type := 66, pos := "sheets.go:62", after := #[{ on := 0, ground := Ground.data }, { on := 2, ground := Ground.data }], guard := none }).run Try.prog (wr) = .ok (.value (.int .u8 (bits .and .u8 (m : Int) kv))) (wr) := by
    have e23 := (show a0_6.eval (.tmp 23) = .int .u8 (m : Int) from (fa0_6.at_ 23))
    have e25 := (show a0_6.eval (.tmp 25) = .int .u8 kv from (fa0_6.at_ 25))
    clear fa0_6 hQ h20 hr
    generalize a0_6.eval = ρ at *
    go_simp
  refine fa0_6.step 26 (.int .u8 (bits .and .u8 (m : Int) kv)) rfl (lb_ I0.size) (wanted_none rfl) r_a0_7 (fun a0_7 fa0_7 => ?_)
  clear r_a0_7
  clear fa0_6
  have r_a0_8 : (execOp a0_7.eval { dst := some 27, op := Op.binOp BinOp.neq 66 (Operand.tmp 26) (Operand.const (Value.int IntKind.u8 0)) 66, type := 4, pos := "sheets.go:62", after := #[{ on := 3, ground := Ground.data }], guard := none }).run Try.prog (wr) = .ok (.value (.bool true)) (wr) := by
    have kc : ∀ v, a0_7.eval (.const v) = v := fun _ => rfl
    have e26 := (show a0_7.eval (.tmp 26) = .int .u8 (bits .and .u8 (m : Int) kv) from (fa0_7.at_ 26))
    clear fa0_7 hQ h20 hr
    generalize a0_7.eval = ρ at *
    go_simp
  refine fa0_7.step 27 (.bool true) rfl (lb_ I0.size) (wanted_none rfl) r_a0_8 (fun a0_8 fa0_8 => ?_)
  clear r_a0_8
  clear fa0_7
  refine wpList_nil ?_
  change Code.wp _ _ _ _ _
  refine wp_cond_true (show a0_8.eval (.tmp 27) = .bool true from (fa0_8.at_ 27)) (wp_seq ?_)
  refine wp_region_list ?_
  unfold rOI9
  refine fa0_8.move 28 (.int .i64 (i : Int)) _ (Or.inl rfl) rfl (lb_ I0.size) (wanted_none rfl) (fa0_8.at_ 9) (fun a0_9 fa0_9 => ?_)
  clear fa0_8
  refine fa0_9.move 29 (.int .i64 (sc : Int)) _ (Or.inl rfl) rfl (lb_ I0.size) (wanted_none rfl) ((fa0_9.at_ 7).trans I0.s7) (fun a0_10 fa0_10 => ?_)
  clear fa0_9
  have r_a0_11 : (execOp a0_10.eval { dst := some 30, op := Op.binOp BinOp.mul 3 (Operand.tmp 28) (Operand.tmp 29) 3, type := 3, pos := "sheets.go:63", after := #[{ on := 0, ground := Ground.data }, { on := 1, ground := Ground.data }], guard := none }).run Try.prog (wr) = .ok (.value (.int .i64 (A : Int))) (wr) := by
    have e28 := (show a0_10.eval (.tmp 28) = .int .i64 (i : Int) from (fa0_10.at_ 28))
    have e29 := (show a0_10.eval (.tmp 29) = .int .i64 (sc : Int) from (fa0_10.at_ 29))
    clear fa0_10 hQ h20 hr
    generalize a0_10.eval = ρ at *
    go_simp
  refine fa0_10.step 30 (.int .i64 (A : Int)) rfl (lb_ I0.size) (wanted_none rfl) r_a0_11 (fun a0_11 fa0_11 => ?_)
  clear r_a0_11
  clear fa0_10
  refine fa0_11.move 31 (.int .i64 (i : Int)) _ (Or.inl rfl) rfl (lb_ I0.size) (wanted_none rfl) (fa0_11.at_ 9) (fun a0_12 fa0_12 => ?_)
  clear fa0_11
  have r_a0_13 : (execOp a0_12.eval { dst := some 32, op := Op.binOp BinOp.add 3 (Operand.tmp 31) (Operand.const (Value.int IntKind.i64 1)) 3, type := 3, pos := "sheets.go:63", after := #[{ on := 3, ground := Ground.data }, { on := 7, ground := Ground.gcOnly Go.Departure.lateStores }], guard := none }).run Try.prog (wr) = .ok (.value (.int .i64 ((i : Int) + 1))) (wr) := by
    have kc : ∀ v, a0_12.eval (.const v) = v := fun _ => rfl
    have e31 := (show a0_12.eval (.tmp 31) = .int .i64 (i : Int) from (fa0_12.at_ 31))
    clear fa0_12 hQ h20 hr
    generalize a0_12.eval = ρ at *
    go_simp
  refine fa0_12.step 32 (.int .i64 ((i : Int) + 1)) rfl (lb_ I0.size) (wanted_none rfl) r_a0_13 (fun a0_13 fa0_13 => ?_)
  clear r_a0_13
  clear fa0_12
  refine fa0_13.move 33 (.int .i64 (sc : Int)) _ (Or.inl rfl) rfl (lb_ I0.size) (wanted_none rfl) ((fa0_13.at_ 7).trans I0.s7) (fun a0_14 fa0_14 => ?_)
  clear fa0_13
  have r_a0_15 : (execOp a0_14.eval { dst := some 34, op := Op.binOp BinOp.mul 3 (Operand.tmp 32) (Operand.tmp 33) 3, type := 3, pos := "sheets.go:63", after := #[{ on := 4, ground := Ground.data }, { on := 5, ground := Ground.data }, { on := 7, ground := Ground.gcOnly Go.Departure.lateStores }], guard := none }).run Try.prog (wr) = .ok (.value (.int .i64 (B : Int))) (wr) := by
    have e32 := (show a0_14.eval (.tmp 32) = .int .i64 ((i : Int) + 1) from (fa0_14.at_ 32))
    have e33 := (show a0_14.eval (.tmp 33) = .int .i64 (sc : Int) from (fa0_14.at_ 33))
    clear fa0_14 hQ h20 hr
    generalize a0_14.eval = ρ at *
    go_simp
  refine fa0_14.step 34 (.int .i64 (B : Int)) rfl (lb_ I0.size) (wanted_none rfl) r_a0_15 (fun a0_15 fa0_15 => ?_)
  clear r_a0_15
  clear fa0_14
  refine fa0_15.move 10 (.int .i64 (A : Int)) _ (Or.inr rfl) rfl (lb_ I0.size) (wanted_none rfl) (fa0_15.at_ 30) (fun a0_16 fa0_16 => ?_)
  clear fa0_15
  refine fa0_16.move 11 (.int .i64 (B : Int)) _ (Or.inr rfl) rfl (lb_ I0.size) (wanted_none rfl) (fa0_16.at_ 34) (fun a0_17 fa0_17 => ?_)
  clear fa0_16
  refine wpList_nil ?_
  change Code.wp _ _ _ _ _
  refine wp_region_held_drew (ops := rOI10) (S := fun _ => True) (by kernel_rfl) (trivial) (fun hS17 => ?_)
  refine fa0_17.takeMove 0 35 (.slice (some ⟨g, 0, none⟩) n cp) _ (Or.inl rfl) rfl (by kernel_rfl) (by kernel_rfl) (by kernel_rfl) (fun _ _ _ h => hQp _ _ _ _ _ h) rfl (lb_ I0.size) (wanted_none rfl) ((fa0_17.at_ 8).trans I0.s8) hS17 (fun a0_18 fa0_18 => ?_)
  clear fa0_17
  refine fa0_18.takeMove 1 36 (.int .i64 (A : Int)) _ (Or.inl rfl) rfl (by kernel_rfl) (by kernel_rfl) (by kernel_rfl) (fun _ _ _ h => hQp _ _ _ _ _ h) rfl (lb_ I0.size) (wanted_none rfl) (fa0_18.at_ 10) hS17 (fun a0_19 fa0_19 => ?_)
  clear fa0_18
  refine fa0_19.takeMove 2 37 (.int .i64 (B : Int)) _ (Or.inl rfl) rfl (by kernel_rfl) (by kernel_rfl) (by kernel_rfl) (fun _ _ _ h => hQp _ _ _ _ _ h) rfl (lb_ I0.size) (wanted_none rfl) (fa0_19.at_ 11) hS17 (fun a0_20 fa0_20 => ?_)
  clear fa0_19
  have r_a0_21 : ∀ Z, (fun _ => True) Z → (execOp a0_20.eval { dst := some 38, op := Op.slice 78 (Operand.tmp 35) (some (Operand.tmp 36)) (some (Operand.tmp 37)) none, type := 78, pos := "sheets.go:64", after := #[{ on := 0, ground := Ground.data }, { on := 1, ground := Ground.data }, { on := 2, ground := Ground.data }], guard := none }).run Try.prog Z = .ok (.value (.slice (some ⟨g, A, none⟩) (B - A) (cp - A))) Z := fun Z hZ => by
    have e35 := (show a0_20.eval (.tmp 35) = .slice (some ⟨g, 0, none⟩) n cp from (fa0_20.at_ 35))
    have e36 := (show a0_20.eval (.tmp 36) = .int .i64 (A : Int) from (fa0_20.at_ 36))
    have e37 := (show a0_20.eval (.tmp 37) = .int .i64 (B : Int) from (fa0_20.at_ 37))
    clear fa0_20 hQ h20 hr
    generalize a0_20.eval = ρ at *
    go_simp
  refine fa0_20.take 3 38 (.slice (some ⟨g, A, none⟩) (B - A) (cp - A)) rfl (by kernel_rfl) (by kernel_rfl) (by kernel_rfl) (fun _ _ _ h => hQp _ _ _ _ _ h) rfl (lb_ I0.size) (wanted_none rfl) r_a0_21 hS17 (fun a0_21 fa0_21 => ?_)
  clear r_a0_21
  clear fa0_20
  refine fa0_21.takeMove 4 39 (.string o) _ (Or.inl rfl) rfl (by kernel_rfl) (by kernel_rfl) (by kernel_rfl) (fun _ _ _ h => hQp _ _ _ _ _ h) rfl (lb_ I0.size) (wanted_none rfl) ((fa0_21.at_ 1).trans I0.s1) hS17 (fun a0_22 fa0_22 => ?_)
  clear fa0_21
  refine fa0_22.takeMove 5 40 (.int .i64 (A : Int)) _ (Or.inl rfl) rfl (by kernel_rfl) (by kernel_rfl) (by kernel_rfl) (fun _ _ _ h => hQp _ _ _ _ _ h) rfl (lb_ I0.size) (wanted_none rfl) (fa0_22.at_ 10) hS17 (fun a0_23 fa0_23 => ?_)
  clear fa0_22
  refine fa0_23.takeMove 6 41 (.int .i64 (B : Int)) _ (Or.inl rfl) rfl (by kernel_rfl) (by kernel_rfl) (by kernel_rfl) (fun _ _ _ h => hQp _ _ _ _ _ h) rfl (lb_ I0.size) (wanted_none rfl) (fa0_23.at_ 11) hS17 (fun a0_24 fa0_24 => ?_)
  clear fa0_23
  have r_a0_25 : ∀ Z, (fun _ => True) Z → (execOp a0_24.eval { dst := some 42, op := Op.slice 9 (Operand.tmp 39) (some (Operand.tmp 40)) (some (Operand.tmp 41)) none, type := 9, pos := "sheets.go:64", after := #[{ on := 4, ground := Ground.data }, { on := 5, ground := Ground.data }, { on := 6, ground := Ground.data }], guard := none }).run Try.prog Z = .ok (.value (.string (o.extract A B))) Z := fun Z hZ => by
    have e39 := (show a0_24.eval (.tmp 39) = .string o from (fa0_24.at_ 39))
    have e40 := (show a0_24.eval (.tmp 40) = .int .i64 (A : Int) from (fa0_24.at_ 40))
    have e41 := (show a0_24.eval (.tmp 41) = .int .i64 (B : Int) from (fa0_24.at_ 41))
    clear fa0_24 hQ h20 hr
    generalize a0_24.eval = ρ at *
    go_simp
  refine fa0_24.take 7 42 (.string (o.extract A B)) rfl (by kernel_rfl) (by kernel_rfl) (by kernel_rfl) (fun _ _ _ h => hQp _ _ _ _ _ h) rfl (lb_ I0.size) (wanted_none rfl) r_a0_25 hS17 (fun a0_25 fa0_25 => ?_)
  clear r_a0_25
  clear fa0_24
  have r_a0_26 : (execOp a0_25.eval { dst := some 43, op := Op.call { callee := Callee.builtin Builtin.copy, args := #[Operand.tmp 38, Operand.tmp 42], argTypes := #[78, 9] }, type := 3, pos := "sheets.go:64", after := #[{ on := 3, ground := Ground.data }, { on := 7, ground := Ground.data }], guard := none }).run Try.prog (wr.drew) = .ok (.value (goInt (o.extract A B).size)) (World.setCells wr.drew g A ((o.extract A B).data.toList.map fun x => Value.int .u8 (x.toNat : Int))) := by
    refine exec_copy rfl ?_
    rw [(show a0_25.eval (.tmp 38) = .slice (some ⟨g, A, none⟩) (B - A) (cp - A) from (fa0_25.at_ 38)), (show a0_25.eval (.tmp 42) = .string (o.extract A B) from (fa0_25.at_ 42))]
    exact run_copy_string (P := Try.prog) wr.drew 78 9 _ 5 g A (B - A) (cp - A) (o.extract A B) Try.underlying78 Try.sizeOf5 (by rw [hxs]; exact Nat.le_refl _) (fun j hj => (hcell j hj).1) (fun j hj => (hcell j hj).2)
  have hS26 : (fun _ => True) (World.setCells wr.drew g A ((o.extract A B).data.toList.map fun x => Value.int .u8 (x.toNat : Int))) := trivial
  refine fa0_25.one 8 43 (goInt (o.extract A B).size) (by kernel_rfl) rfl rfl (lb_ I0.size) (wanted_none rfl) r_a0_26 hS26 (fun a0_26 fa0_26 => ?_)
  clear r_a0_26
  clear fa0_25
  refine wpAnyH_done (by kernel_rfl) ?_ _
  generalize hW9 : World.setCells wr.drew g A ((o.extract A B).data.toList.map fun x => Value.int .u8 (x.toNat : Int)) = W9 at *
  have hr9 : BRw W9 g (lay8 xs A ((o.data.toList.drop A).take sc)) := by rw [← hW9]; have := (show BRw wr.drew g xs from hr).lay (o := A) (ys := (o.data.toList.drop A).take sc) hfit.out; rw [← hext] at this; exact this
  have f9 : Fr (fun k => k = g) wr W9 := by rw [← hW9]; exact (Fr.drew (Fr.refl _ wr)).trans (Fr.setCells (S := fun k => k = g) (fun _ => rfl) _ A _ (Fr.refl _ _)) (fun _ _ e => e)
  clear hW9
  change Code.wp _ _ _ _ _
  refine wp_region_list ?_
  unfold rOI11
  have r_a0_27 : (execOp a0_26.eval { dst := some 44, op := Op.binOp BinOp.add 3 (Operand.tmp 20) (Operand.const (Value.int IntKind.i64 1)) 3, type := 3, pos := "sheets.go:61", after := #[], guard := none }).run Try.prog (W9) = .ok (.value (.int .i64 ((i : Int) + 1))) (W9) := by
    have kc : ∀ v, a0_26.eval (.const v) = v := fun _ => rfl
    have e20 := (show a0_26.eval (.tmp 20) = .int .i64 (i : Int) from ((fa0_26.at_ 20).trans h20))
    clear fa0_26 hQ h20 hr
    generalize a0_26.eval = ρ at *
    go_simp
  refine fa0_26.step 44 (.int .i64 ((i : Int) + 1)) rfl (lb_ I0.size) (wanted_none rfl) r_a0_27 (fun a0_27 fa0_27 => ?_)
  clear r_a0_27
  clear fa0_26
  refine fa0_27.move 20 (.int .i64 ((i : Int) + 1)) _ (Or.inl rfl) rfl (lb_ I0.size) (wanted_none rfl) (fa0_27.at_ 44) (fun a0_28 fa0_28 => ?_)
  clear fa0_27
  refine wpList_nil ?_
  exact hQ a0_28 W9 _ hr9 f9 (I0.keep fa0_28 rfl rfl rfl rfl) (show a0_28.eval (.tmp 20) = .int .i64 ((i : Int) + 1) from (fa0_28.at_ 20)) rfl
set_option maxRecDepth 100000 in
set_option maxHeartbeats 1000000 in
theorem oiF {g n cp sc m i : Nat} {kv : Int} {o : ByteArray} {xs : List UInt8} {Q : Exit → Act → World → Prop} (a0 : Act) (wr : World) (I0 : IOI g n cp sc m o a0) (h20 : a0.eval (.tmp 20) = .int .i64 (i : Int)) (hi : i < 8) (hkv : IntKind.u8.wrap (2 ^ i) = kv) (hB : (bits .and .u8 (m : Int) kv != 0) = false)  (hr : BRw wr g xs)
    (hQ : ∀ a W ys, BRw W g ys → Fr (fun k => k = g) wr W → IOI g n cp sc m o a → a.eval (.tmp 20) = .int .i64 ((i : Int) + 1) → ys = xs → Q .normal a W) : cOI1.wp Try.prog Q a0 wr := by
  have hii : (i : Int) < 8 := by omega
  have w1 : IntKind.i64.wrap ((i : Int) + 1) = (i : Int) + 1 := by rw [IntKind.wrap_i64]; omega
  have fa0_0 := Fe.refl a0
  unfold cOI1
  refine wp_seq ?_
  refine wp_region_list ?_
  unfold rOI6
  have r_a0_1 : (execOp a0.eval { dst := some 21, op := Op.binOp BinOp.lss 3 (Operand.tmp 20) (Operand.const (Value.int IntKind.i64 8)) 3, type := 4, pos := "sheets.go:61", after := #[], guard := none }).run Try.prog (wr) = .ok (.value (.bool true)) (wr) := by
    have kc : ∀ v, a0.eval (.const v) = v := fun _ => rfl
    have e20 := (show a0.eval (.tmp 20) = .int .i64 (i : Int) from ((fa0_0.at_ 20).trans h20))
    clear fa0_0 hQ h20 hr
    generalize a0.eval = ρ at *
    go_simp
  refine fa0_0.step 21 (.bool true) rfl (lb_ I0.size) (wanted_none rfl) r_a0_1 (fun a0_1 fa0_1 => ?_)
  clear r_a0_1
  clear fa0_0
  refine wpList_nil ?_
  change Code.wp _ _ _ _ _
  refine wp_seq (wp_cond_true (show a0_1.eval (.tmp 21) = .bool true from (fa0_1.at_ 21)) (wp_skip ?_))
  change Code.wp _ _ _ _ _
  refine wp_seq (wp_block (wp_seq ?_))
  refine wp_region_list ?_
  unfold rOI7
  refine fa0_1.move 22 (.int .i64 (i : Int)) _ (Or.inl rfl) rfl (lb_ I0.size) (wanted_none rfl) ((fa0_1.at_ 20).trans h20) (fun a0_2 fa0_2 => ?_)
  clear fa0_1
  refine fa0_2.move 9 (.int .i64 (i : Int)) _ (Or.inr rfl) rfl (lb_ I0.size) (wanted_none rfl) (fa0_2.at_ 22) (fun a0_3 fa0_3 => ?_)
  clear fa0_2
  refine wpList_nil ?_
  change Code.wp _ _ _ _ _
  refine wp_seq ?_
  refine wp_region_list ?_
  unfold rOI8
  refine fa0_3.move 23 (.int .u8 (m : Int)) _ (Or.inl rfl) rfl (lb_ I0.size) (wanted_none rfl) ((fa0_3.at_ 2).trans I0.s2) (fun a0_4 fa0_4 => ?_)
  clear fa0_3
  refine fa0_4.move 24 (.int .i64 (i : Int)) _ (Or.inl rfl) rfl (lb_ I0.size) (wanted_none rfl) (fa0_4.at_ 9) (fun a0_5 fa0_5 => ?_)
  clear fa0_4
  have r_a0_6 : (execOp a0_5.eval { dst := some 25, op := Op.binOp BinOp.shl 66 (Operand.const (Value.int IntKind.u8 1)) (Operand.tmp 24) 3, type := 66, pos := "sheets.go:62", after := #[{ on := 1, ground := Ground.data }], guard := none }).run Try.prog (wr) = .ok (.value (.int .u8 kv)) (wr) := by
    have kc : ∀ v, a0_5.eval (.const v) = v := fun _ => rfl
    have e24 := (show a0_5.eval (.tmp 24) = .int .i64 (i : Int) from (fa0_5.at_ 24))
    clear fa0_5 hQ h20 hr
    generalize a0_5.eval = ρ at *
    go_simp
  refine fa0_5.step 25 (.int .u8 kv) rfl (lb_ I0.size) (wanted_none rfl) r_a0_6 (fun a0_6 fa0_6 => ?_)
  clear r_a0_6
  clear fa0_5
  have r_a0_7 : (execOp a0_6.eval { dst := some 26, op := Op.binOp BinOp.and 66 (Operand.tmp 23) (Operand.tmp 25) 66, type := 66, pos := "sheets.go:62", after := #[{ on := 0, ground := Ground.data }, { on := 2, ground := Ground.data }], guard := none }).run Try.prog (wr) = .ok (.value (.int .u8 (bits .and .u8 (m : Int) kv))) (wr) := by
    have e23 := (show a0_6.eval (.tmp 23) = .int .u8 (m : Int) from (fa0_6.at_ 23))
    have e25 := (show a0_6.eval (.tmp 25) = .int .u8 kv from (fa0_6.at_ 25))
    clear fa0_6 hQ h20 hr
    generalize a0_6.eval = ρ at *
    go_simp
  refine fa0_6.step 26 (.int .u8 (bits .and .u8 (m : Int) kv)) rfl (lb_ I0.size) (wanted_none rfl) r_a0_7 (fun a0_7 fa0_7 => ?_)
  clear r_a0_7
  clear fa0_6
  have r_a0_8 : (execOp a0_7.eval { dst := some 27, op := Op.binOp BinOp.neq 66 (Operand.tmp 26) (Operand.const (Value.int IntKind.u8 0)) 66, type := 4, pos := "sheets.go:62", after := #[{ on := 3, ground := Ground.data }], guard := none }).run Try.prog (wr) = .ok (.value (.bool false)) (wr) := by
    have kc : ∀ v, a0_7.eval (.const v) = v := fun _ => rfl
    have e26 := (show a0_7.eval (.tmp 26) = .int .u8 (bits .and .u8 (m : Int) kv) from (fa0_7.at_ 26))
    clear fa0_7 hQ h20 hr
    generalize a0_7.eval = ρ at *
    go_simp
  refine fa0_7.step 27 (.bool false) rfl (lb_ I0.size) (wanted_none rfl) r_a0_8 (fun a0_8 fa0_8 => ?_)
  clear r_a0_8
  clear fa0_7
  refine wpList_nil ?_
  change Code.wp _ _ _ _ _
  refine wp_cond_false (show a0_8.eval (.tmp 27) = .bool false from (fa0_8.at_ 27)) (wp_skip ?_)
  change Code.wp _ _ _ _ _
  refine wp_region_list ?_
  unfold rOI11
  have r_a0_9 : (execOp a0_8.eval { dst := some 44, op := Op.binOp BinOp.add 3 (Operand.tmp 20) (Operand.const (Value.int IntKind.i64 1)) 3, type := 3, pos := "sheets.go:61", after := #[], guard := none }).run Try.prog (wr) = .ok (.value (.int .i64 ((i : Int) + 1))) (wr) := by
    have kc : ∀ v, a0_8.eval (.const v) = v := fun _ => rfl
    have e20 := (show a0_8.eval (.tmp 20) = .int .i64 (i : Int) from ((fa0_8.at_ 20).trans h20))
    clear fa0_8 hQ h20 hr
    generalize a0_8.eval = ρ at *
    go_simp
  refine fa0_8.step 44 (.int .i64 ((i : Int) + 1)) rfl (lb_ I0.size) (wanted_none rfl) r_a0_9 (fun a0_9 fa0_9 => ?_)
  clear r_a0_9
  clear fa0_8
  refine fa0_9.move 20 (.int .i64 ((i : Int) + 1)) _ (Or.inl rfl) rfl (lb_ I0.size) (wanted_none rfl) (fa0_9.at_ 44) (fun a0_10 fa0_10 => ?_)
  clear fa0_9
  refine wpList_nil ?_
  exact hQ a0_10 wr _ hr (Fr.refl _ wr) (I0.keep fa0_10 rfl rfl rfl rfl) (show a0_10.eval (.tmp 20) = .int .i64 ((i : Int) + 1) from (fa0_10.at_ 20)) rfl
theorem oiE {g n cp sc m : Nat} {o : ByteArray} {Q : Exit → Act → World → Prop} (a0 : Act) (wr : World) (I0 : IOI g n cp sc m o a0) (h20 : a0.eval (.tmp 20) = .int .i64 8) (hQ : ∀ a, IOI g n cp sc m o a → Q (.exit 0) a wr) : cOI1.wp Try.prog Q a0 wr := by
  have fa0_0 := Fe.refl a0
  unfold cOI1
  refine wp_seq ?_
  refine wp_region_list ?_
  unfold rOI6
  have r_a0_1 : (execOp a0.eval { dst := some 21, op := Op.binOp BinOp.lss 3 (Operand.tmp 20) (Operand.const (Value.int IntKind.i64 8)) 3, type := 4, pos := "sheets.go:61", after := #[], guard := none }).run Try.prog (wr) = .ok (.value (.bool false)) (wr) := by
    have kc : ∀ v, a0.eval (.const v) = v := fun _ => rfl
    have e20 := (show a0.eval (.tmp 20) = .int .i64 8 from ((fa0_0.at_ 20).trans h20))
    clear fa0_0 hQ h20
    generalize a0.eval = ρ at *
    go_simp
  refine fa0_0.step 21 (.bool false) rfl (lb_ I0.size) (wanted_none rfl) r_a0_1 (fun a0_1 fa0_1 => ?_)
  clear r_a0_1
  clear fa0_0
  refine wpList_nil ?_
  change Code.wp _ _ _ _ _
  refine wp_seq (wp_cond_false (show a0_1.eval (.tmp 21) = .bool false from (fa0_1.at_ 21)) (wp_exit ?_))
  exact hQ a0_1 (I0.keep fa0_1 rfl rfl rfl rfl)
theorem oiL {g n cp sc m : Nat} {u o : ByteArray} {Q : Exit → Act → World → Prop} (hQp : ∀ c (a : Act) d v w, Q (.panic c) (a.put d v) w → Q (.panic c) a w) (a0 : Act) (w : World) (I0 : IOI g n cp sc m o a0) (h20 : a0.eval (.tmp 20) = .int .i64 ((0 : Nat) : Int)) (hr : BRw w g u.data.toList) (hu : u.size = 8 * sc) (hon : o.size = 8 * sc) (hn : n = 8 * sc) (hcp : n ≤ cp) (hsc : sc ≤ 4096) (hsc0 : 0 < sc)
    (hQ : ∀ a W, IOI g n cp sc m o a → BRw W g (ovl sc u.data.toList o.data.toList m 8) → Fr (fun k => k = g) w W → Q (.exit 0) a W) : (Code.loop cOI1).wp Try.prog Q a0 w := by
  refine wp_loop (fun a W => IOI g n cp sc m o a ∧ ∃ i : Nat, i ≤ 8 ∧ a.eval (.tmp 20) = .int .i64 (i : Int) ∧ BRw W g (ovl sc u.data.toList o.data.toList m i) ∧ Fr (fun k => k = g) w W) (fun a _ => 8 - kOf a 20) ⟨I0, 0, Nat.zero_le _, h20, hr, Fr.refl _ _⟩ ?_
  rintro a W ⟨I1, i, hi, g20, hr1, f1⟩
  by_cases hgo : i < 8
  · have next : ∀ (a' : Act) (W3 : World) (ys : List UInt8), BRw W3 g ys → Fr (fun k => k = g) W W3 → IOI g n cp sc m o a' → a'.eval (.tmp 20) = .int .i64 ((i : Int) + 1) → ys = ovl sc u.data.toList o.data.toList m (i + 1) →
        (IOI g n cp sc m o a' ∧ ∃ k : Nat, k ≤ 8 ∧ a'.eval (.tmp 20) = .int .i64 (k : Int) ∧ BRw W3 g (ovl sc u.data.toList o.data.toList m k) ∧ Fr (fun k => k = g) w W3) ∧ 8 - kOf a' 20 < 8 - kOf a 20 := fun a' W3 ys h1 h2 i3 h3 e => by
      have h4 : a'.eval (.tmp 20) = .int .i64 ((i + 1 : Nat) : Int) := h3
      refine ⟨⟨i3, i + 1, hgo, h4, e ▸ h1, f1.trans h2 (fun _ _ e => e)⟩, ?_⟩
      rw [kOf_eq h4, kOf_eq g20]
      omega
    cases hb : pbit m i with
    | true =>
      refine oiT (A := i * sc) (B := (i + 1) * sc) (Q := Exit.then _ Q) hQp a W I1 g20 hgo rfl hb rfl rfl (ovl_len (o := o.data.toList) hu hon i hi) hn hcp hon hsc hsc0 hr1 (fun a' W3 ys h1 h2 i3 h3 e => next a' W3 ys h1 h2 i3 h3 ?_)
      rw [e]
      show _ = if pbit m i = true then _ else _
      rw [if_pos hb]
    | false =>
      refine oiF (Q := Exit.then _ Q) a W I1 g20 hgo rfl hb hr1 (fun a' W3 ys h1 h2 i3 h3 e => next a' W3 ys h1 h2 i3 h3 ?_)
      rw [e]
      show _ = if pbit m i = true then _ else _
      rw [if_neg (by rw [hb]; decide)]
  · obtain rfl : i = 8 := by omega
    exact oiE a W I1 g20 (fun a' i2 => hQ a' W i2 hr1 f1)
theorem exec_conv {P : Program} {ρ : Operand → Value} {o : Oper} {s d : TypeId} {x : Operand} {v : Value} {w w' : World} (ho : o.op = .convert s d x)
    (h : (convert s d (ρ x)).run P w = .ok v w') : (execOp ρ o).run P w = .ok (.value v) w' := by
  unfold execOp
  simp only [ho, Sem.run_bind, Sem.run_pure, Result.andThen_ok, h]
/-- A page with the sectors in the mask of another one. -/
def ovlS (sc : Nat) (u o : ByteArray) (m : Nat) : ByteArray := if m = 255 then o else ⟨(ovl sc u.data.toList o.data.toList m 8).toArray⟩
theorem ovlS_size {sc m : Nat} {u o : ByteArray} (hu : u.size = 8 * sc) (ho : o.size = 8 * sc) : (ovlS sc u o m).size = 8 * sc := by
  unfold ovlS
  split
  · exact ho
  · show (ovl sc u.data.toList o.data.toList m 8).toArray.size = _
    rw [List.size_toArray]
    exact ovl_len (u := u.data.toList) (o := o.data.toList) hu ho 8 (Nat.le_refl _)
theorem size_bytesRow (s : ByteArray) (c : Nat) : (bytesRow s c).size = s.size + (c - s.size) := by unfold bytesRow; simp
set_option maxRecDepth 100000 in
set_option maxHeartbeats 1000000 in
theorem overlaid_all {u o : ByteArray} (w : World) : Calls Try.prog 51 #[.string u, .string o, .int .u8 255] w fun e w' => e = .returned (.string o) ∧ Same w w' := by
  refine calls_abs (c := cOI) Try.func51 (by kernel_rfl) 47 rfl (by simp) (fun a0 hsz hd ha => ?_)
  have fa0_0 := Fe.refl a0
  unfold cOI
  refine wp_seq ?_
  refine wp_region_list ?_
  unfold rOI0
  refine fa0_0.move 6 (.string ⟨#[]⟩) _ (Or.inr rfl) rfl (lb_ hsz) (wanted_none rfl) rfl (fun a0_1 fa0_1 => ?_)
  clear fa0_0
  refine wpList_nil ?_
  change Code.wp _ _ _ _ _
  refine wp_seq (wp_seq ?_)
  refine wp_region_list ?_
  unfold rOI1
  refine fa0_1.move 12 (.int .u8 255) _ (Or.inl rfl) rfl (lb_ hsz) (wanted_none rfl) ((fa0_1.at_ 2).trans (ha 2 _ rfl)) (fun a0_2 fa0_2 => ?_)
  clear fa0_1
  have r_a0_3 : (execOp a0_2.eval { dst := some 13, op := Op.binOp BinOp.eql 66 (Operand.tmp 12) (Operand.const (Value.int IntKind.u8 255)) 66, type := 4, pos := "sheets.go:56", after := #[{ on := 0, ground := Ground.data }], guard := none }).run Try.prog (w) = .ok (.value (.bool true)) (w) := by
    have kc : ∀ v, a0_2.eval (.const v) = v := fun _ => rfl
    have e12 := (show a0_2.eval (.tmp 12) = .int .u8 255 from (fa0_2.at_ 12))
    clear fa0_2 ha
    generalize a0_2.eval = ρ at *
    go_simp
  refine fa0_2.step 13 (.bool true) rfl (lb_ hsz) (wanted_none rfl) r_a0_3 (fun a0_3 fa0_3 => ?_)
  clear r_a0_3
  clear fa0_2
  refine wpList_nil ?_
  change Code.wp _ _ _ _ _
  refine wp_cond_true (show a0_3.eval (.tmp 13) = .bool true from (fa0_3.at_ 13)) (wp_seq ?_)
  refine wp_region_list ?_
  unfold rOI2
  refine fa0_3.move 14 (.string o) _ (Or.inl rfl) rfl (lb_ hsz) (wanted_none rfl) ((fa0_3.at_ 1).trans (ha 1 _ rfl)) (fun a0_4 fa0_4 => ?_)
  clear fa0_3
  refine fa0_4.move 6 (.string o) _ (Or.inr rfl) rfl (lb_ hsz) (wanted_none rfl) (fa0_4.at_ 14) (fun a0_5 fa0_5 => ?_)
  clear fa0_4
  refine wpList_nil ?_
  change Code.wp _ _ _ _ _
  refine wp_ret ?_
  simp only [Exit.then]
  exact ret_abs rfl (fa0_5.defers.trans hd) (show a0_5.eval (.tmp 6) = .string o from (fa0_5.at_ 6)) ⟨rfl, Fr.refl _ _⟩
set_option maxRecDepth 100000 in
set_option maxHeartbeats 1000000 in
theorem overlaid_part {u o : ByteArray} {m sc : Nat} (w : World) (hu : u.size = 8 * sc) (ho : o.size = 8 * sc) (hsc : sc ≤ 4096) (hsc0 : 0 < sc) (hm : ¬ m = 255) :
    Calls Try.prog 51 #[.string u, .string o, .int .u8 (m : Int)] w fun e w' => e = .returned (.string (ovlS sc u o m)) ∧ Same w w' := by
  have hmi : ¬ (m : Int) = 255 := by omega
  have hq : ((u.size : Int)).tdiv 8 = (sc : Int) := by rw [hu, Int.natCast_mul]; exact Int.mul_tdiv_cancel_left _ (by decide)
  have hq2 : IntKind.i64.wrap (sc : Int) = (sc : Int) := by rw [IntKind.wrap_i64]; omega
  refine calls_abs (c := cOI) Try.func51 (by kernel_rfl) 47 rfl (by simp) (fun a0 hsz hd ha => ?_)
  have fa0_0 := Fe.refl a0
  unfold cOI
  refine wp_seq ?_
  refine wp_region_list ?_
  unfold rOI0
  refine fa0_0.move 6 (.string ⟨#[]⟩) _ (Or.inr rfl) rfl (lb_ hsz) (wanted_none rfl) rfl (fun a0_1 fa0_1 => ?_)
  clear fa0_0
  refine wpList_nil ?_
  change Code.wp _ _ _ _ _
  refine wp_seq (wp_seq ?_)
  refine wp_region_list ?_
  unfold rOI1
  refine fa0_1.move 12 (.int .u8 (m : Int)) _ (Or.inl rfl) rfl (lb_ hsz) (wanted_none rfl) ((fa0_1.at_ 2).trans (ha 2 _ rfl)) (fun a0_2 fa0_2 => ?_)
  clear fa0_1
  have r_a0_3 : (execOp a0_2.eval { dst := some 13, op := Op.binOp BinOp.eql 66 (Operand.tmp 12) (Operand.const (Value.int IntKind.u8 255)) 66, type := 4, pos := "sheets.go:56", after := #[{ on := 0, ground := Ground.data }], guard := none }).run Try.prog (w) = .ok (.value (.bool false)) (w) := by
    have kc : ∀ v, a0_2.eval (.const v) = v := fun _ => rfl
    have e12 := (show a0_2.eval (.tmp 12) = .int .u8 (m : Int) from (fa0_2.at_ 12))
    clear fa0_2 ha
    generalize a0_2.eval = ρ at *
    go_simp
  refine fa0_2.step 13 (.bool false) rfl (lb_ hsz) (wanted_none rfl) r_a0_3 (fun a0_3 fa0_3 => ?_)
  clear r_a0_3
  clear fa0_2
  refine wpList_nil ?_
  change Code.wp _ _ _ _ _
  refine wp_cond_false (show a0_3.eval (.tmp 13) = .bool false from (fa0_3.at_ 13)) (wp_skip ?_)
  change Code.wp _ _ _ _ _
  refine wp_seq ?_
  refine wp_region_list ?_
  unfold rOI3
  refine fa0_3.move 15 (.string u) _ (Or.inl rfl) rfl (lb_ hsz) (wanted_none rfl) ((fa0_3.at_ 0).trans (ha 0 _ rfl)) (fun a0_4 fa0_4 => ?_)
  clear fa0_3
  have r_a0_5 : (execOp a0_4.eval { dst := some 16, op := Op.call { callee := Callee.builtin Builtin.len, args := #[Operand.tmp 15], argTypes := #[9] }, type := 3, pos := "sheets.go:59", after := #[{ on := 0, ground := Ground.data }], guard := none }).run Try.prog (w) = .ok (.value (.int .i64 (u.size : Int))) (w) := by
    have e15 := (show a0_4.eval (.tmp 15) = .string u from (fa0_4.at_ 15))
    clear fa0_4 ha
    generalize a0_4.eval = ρ at *
    go_simp
  refine fa0_4.step 16 (.int .i64 (u.size : Int)) rfl (lb_ hsz) (wanted_none rfl) r_a0_5 (fun a0_5 fa0_5 => ?_)
  clear r_a0_5
  clear fa0_4
  have r_a0_6 : (execOp a0_5.eval { dst := some 17, op := Op.binOp BinOp.quo 3 (Operand.tmp 16) (Operand.const (Value.int IntKind.i64 8)) 3, type := 3, pos := "sheets.go:59", after := #[{ on := 1, ground := Ground.data }], guard := none }).run Try.prog (w) = .ok (.value (.int .i64 (sc : Int))) (w) := by
    have kc : ∀ v, a0_5.eval (.const v) = v := fun _ => rfl
    have e16 := (show a0_5.eval (.tmp 16) = .int .i64 (u.size : Int) from (fa0_5.at_ 16))
    clear fa0_5 ha
    generalize a0_5.eval = ρ at *
    go_simp
  refine fa0_5.step 17 (.int .i64 (sc : Int)) rfl (lb_ hsz) (wanted_none rfl) r_a0_6 (fun a0_6 fa0_6 => ?_)
  clear r_a0_6
  clear fa0_5
  refine fa0_6.move 7 (.int .i64 (sc : Int)) _ (Or.inr rfl) rfl (lb_ hsz) (wanted_none rfl) (fa0_6.at_ 17) (fun a0_7 fa0_7 => ?_)
  clear fa0_6
  refine wpList_nil ?_
  change Code.wp _ _ _ _ _
  refine wp_seq ?_
  refine wp_region_list ?_
  unfold rOI4
  refine fa0_7.move 18 (.string u) _ (Or.inl rfl) rfl (lb_ hsz) (wanted_none rfl) ((fa0_7.at_ 0).trans (ha 0 _ rfl)) (fun a0_8 fa0_8 => ?_)
  clear fa0_7
  have r_a0_9 : (execOp a0_8.eval { dst := some 19, op := Op.convert 9 78 (Operand.tmp 18), type := 78, pos := "sheets.go:60", after := #[{ on := 0, ground := Ground.data }], guard := none }).run Try.prog (w) = .ok (.value (.slice (some ⟨w.heap.size, 0, none⟩) u.size (grownCap w u.size 0 5))) (World.alloc w.drew (.cells (bytesRow u (grownCap w u.size 0 5)) 5 ((bytesRow u (grownCap w u.size 0 5)).size, (bytesRow u (grownCap w u.size 0 5)).size + 1))) := by
    refine exec_conv rfl ?_
    rw [(show a0_8.eval (.tmp 18) = .string u from (fa0_8.at_ 18))]
    exact run_bytes_of_string (P := Try.prog) w 9 78 5 u Try.underlying9 Try.underlying78 Try.underlying5
  refine fa0_8.stepW 19 (.slice (some ⟨w.heap.size, 0, none⟩) u.size (grownCap w u.size 0 5)) rfl (lb_ hsz) (wanted_none rfl) r_a0_9 (fun a0_9 fa0_9 => ?_)
  clear r_a0_9
  obtain ⟨V, hV⟩ : ∃ V, V = World.alloc w.drew (.cells (bytesRow u (grownCap w u.size 0 5)) 5 ((bytesRow u (grownCap w u.size 0 5)).size, (bytesRow u (grownCap w u.size 0 5)).size + 1)) := ⟨_, rfl⟩
  rw [← hV]
  have sV : Same w V := by rw [hV]; exact (Fr.drew (Fr.refl _ w)).alloc _
  have hrV : BRw V w.heap.size u.data.toList := by
      refine ⟨by rw [hV]; simp, fun j x hx => ?_⟩
      have hj : j < u.data.size := by have := (List.getElem?_eq_some_iff.1 hx).1; simpa using this
      have hxe : u.data[j] = x := by have := (List.getElem?_eq_some_iff.1 hx).2; simpa using this
      rw [hV]
      refine ⟨(World.cell?_alloc_mark w.drew _ _ _ j).trans (by rw [bytesRow_at u _ j hj, hxe]), (World.frozen?_alloc_mark w.drew _ _ _ _ j).trans ?_⟩
      have : j < (bytesRow u (grownCap w u.size 0 5)).size := by rw [size_bytesRow]; have : u.data.size = u.size := rfl; omega
      simp; omega
  clear hV
  clear fa0_8
  refine fa0_9.move 8 (.slice (some ⟨w.heap.size, 0, none⟩) u.size (grownCap w u.size 0 5)) _ (Or.inr rfl) rfl (lb_ hsz) (wanted_none rfl) (fa0_9.at_ 19) (fun a0_10 fa0_10 => ?_)
  clear fa0_9
  refine wpList_nil ?_
  change Code.wp _ _ _ _ _
  obtain ⟨cp, hcp⟩ : ∃ cp, cp = grownCap w u.size 0 5 := ⟨_, rfl⟩
  have hge : u.size ≤ cp := by rw [hcp]; exact Nat.le_trans (by omega) (grownCap_ge w u.size 0 5)
  refine wp_seq (wp_seq ?_)
  refine wp_region_list ?_
  unfold rOI5
  refine fa0_10.move 20 (.int .i64 ((0 : Nat) : Int)) _ (Or.inl rfl) rfl (lb_ hsz) (wanted_none rfl) rfl (fun a0_11 fa0_11 => ?_)
  clear fa0_10
  refine wpList_nil ?_
  change Code.wp _ _ _ _ _
  refine wp_block ?_
  refine oiL (u := u) (cp := grownCap w u.size 0 5) (by intro c a d v w h; cases d <;> exact h) a0_11 V ⟨fa0_11.size.trans hsz, fa0_11.defers.trans hd, (show a0_11.eval (.tmp 1) = .string o from ((fa0_11.at_ 1).trans (ha 1 _ rfl))), (show a0_11.eval (.tmp 2) = .int .u8 (m : Int) from ((fa0_11.at_ 2).trans (ha 2 _ rfl))), (show a0_11.eval (.tmp 7) = .int .i64 (sc : Int) from (fa0_11.at_ 7)), (show a0_11.eval (.tmp 8) = .slice (some ⟨w.heap.size, 0, none⟩) u.size (grownCap w u.size 0 5) from (fa0_11.at_ 8))⟩ (show a0_11.eval (.tmp 20) = .int .i64 ((0 : Nat) : Int) from (fa0_11.at_ 20)) hrV hu ho hu (by omega) hsc hsc0 (fun b W i1 hrW f1 => ?_)
  change Code.wp _ _ _ _ _
  refine wp_seq ?_
  have fb_0 := Fe.refl b
  refine wp_region_list ?_
  unfold rOI12
  refine fb_0.move 45 (.slice (some ⟨w.heap.size, 0, none⟩) u.size (grownCap w u.size 0 5)) _ (Or.inl rfl) rfl (lb_ i1.size) (wanted_none rfl) ((fb_0.at_ 8).trans i1.s8) (fun b_1 fb_1 => ?_)
  clear fb_0
  have r_b_2 : (execOp b_1.eval { dst := some 46, op := Op.convert 78 9 (Operand.tmp 45), type := 9, pos := "sheets.go:67", after := #[{ on := 0, ground := Ground.data }], guard := none }).run Try.prog (W) = .ok (.value (.string ⟨(ovl sc u.data.toList o.data.toList m 8).toArray⟩)) (W) := by
    refine exec_conv rfl ?_
    rw [(show b_1.eval (.tmp 45) = .slice (some ⟨w.heap.size, 0, none⟩) u.size (grownCap w u.size 0 5) from (fb_1.at_ 45))]
    have hl8 : (ovl sc u.data.toList o.data.toList m 8).length = u.size := by rw [hu]; exact ovl_len (u := u.data.toList) (o := o.data.toList) hu ho 8 (Nat.le_refl _)
    have hc := run_convert_bytes_back (P := Try.prog) W 78 9 5 ⟨w.heap.size, 0, none⟩ (grownCap w u.size 0 5) (ovl sc u.data.toList o.data.toList m 8) Try.underlying78 Try.underlying5 Try.underlying9 (fun j hj => by rw [WideShapes.add_plain, Nat.zero_add]; exact (hrW.2 j _ (List.getElem?_eq_getElem hj)).1)
    rw [hl8] at hc
    exact hc
  refine fb_1.stepW 46 (.string ⟨(ovl sc u.data.toList o.data.toList m 8).toArray⟩) rfl (lb_ i1.size) (wanted_none rfl) r_b_2 (fun b_2 fb_2 => ?_)
  clear r_b_2
  clear fb_1
  refine fb_2.move 6 (.string ⟨(ovl sc u.data.toList o.data.toList m 8).toArray⟩) _ (Or.inr rfl) rfl (lb_ i1.size) (wanted_none rfl) (fb_2.at_ 46) (fun b_3 fb_3 => ?_)
  clear fb_2
  refine wpList_nil ?_
  change Code.wp _ _ _ _ _
  refine wp_ret ?_
  refine ret_abs rfl (fb_3.defers.trans i1.defers) (show b_3.eval (.tmp 6) = .string ⟨(ovl sc u.data.toList o.data.toList m 8).toArray⟩ from (fb_3.at_ 6)) ⟨by unfold ovlS; rw [if_neg hm], Fr.trans sV f1 (fun k hk e => by have e2 : k = w.heap.size := e; omega)⟩
theorem overlaid_calls {u o : ByteArray} {m sc : Nat} (w : World) (hu : u.size = 8 * sc) (ho : o.size = 8 * sc) (hsc : sc ≤ 4096) (hsc0 : 0 < sc) :
    Calls Try.prog 51 #[.string u, .string o, .int .u8 (m : Int)] w fun e w' => e = .returned (.string (ovlS sc u o m)) ∧ Same w w' := by
  by_cases hm : m = 255
  · subst hm; exact overlaid_all w
  · exact overlaid_part w hu ho hsc hsc0 hm
end Go.Proofs.Ytljlkcmjbjnihaa
