/- Records, plain: as cells, as bytes; what a slot is. -/
import Derived.Test.YtaknpcimdpdekaaDoorMW
import Derived.Test.YtaknpcimdpdekaaDoorGF
namespace Go.Proofs.YtaknpcimdpdekaaDoor
open Go.RowKit

/-- A record: its version, its root's page, digest, count and version, its list, its count of pages. -/
structure Rec where
  v : Nat
  rp : Nat
  d : List UInt8
  c : Nat
  rv : Nat
  li : Nat
  pg : Nat
/-- Each number is one of its type. -/
structure RecOk (m : Rec) : Prop where
  v : m.v < 18446744073709551616
  rp : m.rp < 4294967296
  d : m.d.length = 32
  c : m.c < 18446744073709551616
  rv : m.rv < 18446744073709551616
  li : m.li < 4294967296
  pg : m.pg < 4294967296
def Rec.cells (m : Rec) : List Value := .int .u64 m.v :: .int .u32 m.rp :: (bcells m.d ++ [.int .u64 m.c, .int .u64 m.rv, .int .u32 m.li, .int .u32 m.pg])
def Rec.root (m : Rec) : List Value := .int .u32 m.rp :: (bcells m.d ++ [.int .u64 m.c, .int .u64 m.rv])
def Rec.arr (m : Rec) : Array Value := m.cells.toArray
abbrev metaV (m : Rec) : Value := .agg m.arr
abbrev frameV (p q : Int) : Value := .agg #[.int .i64 p, .int .i64 q]
def zeroD32 : List UInt8 := List.replicate 32 0
def zeroRec : Rec := ⟨0, 0, zeroD32, 0, 0, 0, 0⟩
def emptyRec : Rec := ⟨0, 0, zeroD32, 0, 0, 0, 2⟩
theorem zeroRec_ok : RecOk zeroRec := ⟨by decide, by decide, by decide, by decide, by decide, by decide, by decide⟩
theorem emptyRec_ok : RecOk emptyRec := ⟨by decide, by decide, by decide, by decide, by decide, by decide, by decide⟩
theorem cells_length (m : Rec) (h : m.d.length = 32) : m.cells.length = 38 := by simp [Rec.cells, bcells_length, h]
theorem arr_size (m : Rec) (h : m.d.length = 32) : m.arr.size = 38 := by rw [Rec.arr, List.size_toArray, cells_length m h]
theorem cells_one (m : Rec) : ∀ x ∈ m.cells, x.oneCell' = true := by
  intro x hx
  simp only [Rec.cells, List.mem_cons, List.mem_append, bcells, List.mem_map, List.not_mem_nil, or_false] at hx
  rcases hx with rfl | rfl | ⟨b, _, rfl⟩ | rfl | rfl | rfl | rfl <;> rfl
theorem arr_one (m : Rec) : m.arr.all (·.oneCell') = true := all_oneCell_toArray (cells_one m)
theorem cells_tail (m : Rec) (h : m.d.length = 32) (j : Nat) : m.cells[34 + j]? = [Value.int .u64 m.c, .int .u64 m.rv, .int .u32 m.li, .int .u32 m.pg][j]? := by
  rw [show 34 + j = (32 + j) + 1 + 1 from by omega]
  show (bcells m.d ++ _)[32 + j]? = _
  rw [List.getElem?_append_right (by rw [bcells_length, h]; omega), bcells_length, h, Nat.add_sub_cancel_left]
theorem cells_sum (m : Rec) (j : Nat) (x : Value) (hx : (bcells m.d)[j]? = some x) : m.cells[2 + j]? = some x := by
  rw [Nat.add_comm]
  show (bcells m.d ++ _)[j]? = _
  rw [List.getElem?_append_left (List.getElem?_eq_some_iff.1 hx).1]; exact hx
/-- A record's row at block b. -/
abbrev MAt (w : World) (b : Nat) (m : Rec) : Prop := w.heap[b]? = some (.cells m.arr 34 (0, 0))
theorem MAt.at_ {w : World} {b : Nat} {m : Rec} (h : MAt w b m) (i : Nat) (x : Value) (hx : m.cells[i]? = some x) : w.cell? ⟨b, i, none⟩ = some x := by
  rw [cell_of_row _ _ _ _ _ _ h, Rec.arr, List.getElem?_toArray]; exact hx
theorem MAt.cells {w : World} {b : Nat} {m : Rec} (h : MAt w b m) (hd : m.d.length = 32) :
    w.cell? ⟨b, 0, none⟩ = some (.int .u64 m.v) ∧ w.cell? ⟨b, 1, none⟩ = some (.int .u32 m.rp) ∧ w.cell? ⟨b, 34, none⟩ = some (.int .u64 m.c) ∧ w.cell? ⟨b, 35, none⟩ = some (.int .u64 m.rv) ∧ w.cell? ⟨b, 36, none⟩ = some (.int .u32 m.li) ∧ w.cell? ⟨b, 37, none⟩ = some (.int .u32 m.pg) :=
  ⟨h.at_ 0 _ rfl, h.at_ 1 _ rfl, h.at_ 34 _ (cells_tail m hd 0), h.at_ 35 _ (cells_tail m hd 1), h.at_ 36 _ (cells_tail m hd 2), h.at_ 37 _ (cells_tail m hd 3)⟩
theorem MAt.sum {w : World} {b : Nat} {m : Rec} (h : MAt w b m) : w.rangeAt b 2 (bcells m.d) := fun j x hx => h.at_ (2 + j) x (cells_sum m j x hx)
theorem MAt.root {w : World} {b : Nat} {m : Rec} (h : MAt w b m) : w.rangeAt b 1 m.root := by
  intro j x hx
  refine h.at_ (1 + j) x ?_
  rw [Nat.add_comm]
  show (Value.int .u32 m.rp :: (bcells m.d ++ ([Value.int .u64 m.c, .int .u64 m.rv] ++ [.int .u32 m.li, .int .u32 m.pg])))[j]? = _
  rw [← List.append_assoc, ← List.cons_append]
  have hl := (List.getElem?_eq_some_iff.1 hx).1
  rw [Rec.root] at hl hx
  rw [List.getElem?_append_left hl]
  exact hx
theorem MAt.same {w w' : World} {b : Nat} {m : Rec} (h : MAt w b m) (s : Same w w') : MAt w' b m := (s.block b (lt_of_heap h) (fun f => f)).trans h

/-- A frame that may be. -/
def frameP (p q : Int) : Bool := (p == 1024 || p == 2048 || p == 4096 || p == 8192) && decide (1 ≤ q) && decide (q ≤ 32)
def placedP (n pg : Nat) : Bool := decide (n = 0 ∨ (2 ≤ n ∧ n < pg))
def numP (m : Rec) : Bool := decide (1 ≤ m.v) && decide (m.v ≤ 1099511627776) && decide (2 ≤ m.pg) && decide (m.pg ≤ 65536) && decide (m.rp ≠ m.li ∨ m.li = 0) && placedP m.rp m.pg && placedP m.li m.pg
def rootP (q : Int) (m : Rec) : Bool := fitsP q m.d && (if m.rp = 0 then decide (m.c = 0 ∧ m.rv = 0) else decide (0 < m.c ∧ 1 ≤ m.rv ∧ m.rv ≤ m.v))
/-- A record of a frame that may be. -/
def mayM (p q : Int) (m : Rec) : Bool := frameP p q && numP m && rootP q m
def chkM (p q : Int) (m : Rec) : Int := if mayM p q m = true then 0 else 2
theorem frameP_cases {p q : Int} (h : frameP p q = true) : (p = 1024 ∨ p = 2048 ∨ p = 4096 ∨ p = 8192) ∧ 1 ≤ q ∧ q ≤ 32 := by
  simp only [frameP, Bool.and_eq_true, Bool.or_eq_true, beq_iff_eq, decide_eq_true_eq] at h
  omega
theorem mayM_parts {p q : Int} {m : Rec} (h : mayM p q m = true) : frameP p q = true ∧ numP m = true ∧ rootP q m = true := by
  simp only [mayM, Bool.and_eq_true] at h
  exact ⟨h.1.1, h.1.2, h.2⟩

def logP (p : Int) : Nat := if p = 1024 then 10 else if p = 2048 then 11 else if p = 4096 then 12 else 13
/-- A record's bytes, ahead of their sum. -/
def recB (lg wd : Nat) (m : Rec) : List UInt8 := [104, 119, 109, 49] ++ fixB 1 lg ++ fixB 1 wd ++ fixB 2 0 ++ fixB 8 m.v ++ fixB 8 m.c ++ fixB 8 m.rv ++ fixB 4 m.rp ++ fixB 4 m.li ++ fixB 4 m.pg ++ m.d
theorem recB_length (lg wd : Nat) (m : Rec) (h : m.d.length = 32) : (recB lg wd m).length = 76 := by simp [recB, fixB_length, h]
def formM (lg wd : Nat) (m : Rec) : List UInt8 := recB lg wd m ++ fixB 4 (crcP [⟨(recB lg wd m).toArray⟩]).toNat
theorem formM_length (lg wd : Nat) (m : Rec) (h : m.d.length = 32) : (formM lg wd m).length = 80 := by rw [formM, List.length_append, recB_length lg wd m h, fixB_length]
/-- A record's bytes. -/
def formS (p q : Int) (m : Rec) : ByteArray := ⟨(formM (logP p) q.toNat m).toArray⟩
theorem formS_list (p q : Int) (m : Rec) : (formS p q m).data.toList = formM (logP p) q.toNat m := by rw [formS, List.toList_toArray]
theorem formS_size (p q : Int) (m : Rec) (h : m.d.length = 32) : (formS p q m).size = 80 := by rw [← bytes_length, formS_list, formM_length _ _ m h]
def noughtS (n : Nat) : ByteArray := ⟨(List.replicate n (0 : UInt8)).toArray⟩
theorem noughtS_list (n : Nat) : (noughtS n).data.toList = List.replicate n 0 := by rw [noughtS, List.toList_toArray]
theorem noughtS_size (n : Nat) : (noughtS n).size = n := by rw [← bytes_length, noughtS_list, List.length_replicate]
/-- Some bytes, noughts behind them, n in all. -/
def fillS (s : ByteArray) (n : Nat) : ByteArray := s ++ noughtS (n - s.size)
theorem fillS_list (s : ByteArray) (n : Nat) : (fillS s n).data.toList = s.data.toList ++ List.replicate (n - s.size) 0 := by
  rw [fillS, ByteArray.data_append, Array.toList_append, noughtS_list]
theorem fillS_size (s : ByteArray) (n : Nat) (h : s.size ≤ n) : (fillS s n).size = n := by
  rw [← bytes_length, fillS_list, List.length_append, bytes_length, List.length_replicate]; omega

theorem extract_list (s : ByteArray) (i n : Nat) : (s.extract i (i + n)).data.toList = (s.data.toList.drop i).take n := by
  rw [ByteArray.data_extract, Array.toList_extract, List.extract_eq_take_drop, Nat.add_sub_cancel_left]
theorem bytes_ext {a b : ByteArray} (h : a.data.toList = b.data.toList) : a = b := by
  obtain ⟨⟨a⟩⟩ := a; obtain ⟨⟨b⟩⟩ := b
  simp only at h
  rw [h]
theorem beAt_list (s : ByteArray) (i n : Nat) : beAt s i n = beN ((s.data.toList.drop i).take n) := by unfold beAt; rw [extract_list]
theorem beAt_fix {s : ByteArray} {i n x : Nat} (h : (s.data.toList.drop i).take n = fixB n x) (hx : x < 256 ^ n) : beAt s i n = x := by
  rw [beAt_list, h, beN_fix, Nat.mod_eq_of_lt hx]

/-- 1 << b. -/
def shP (b : Nat) : Int := wrap64 (2 ^ min b 64)
/-- The record that a sector speaks of, and its frame. -/
def recAt (s : ByteArray) : Rec := ⟨beAt s 8 8, beAt s 32 4, (s.extract 44 76).data.toList, beAt s 16 8, beAt s 24 8, beAt s 36 4, beAt s 40 4⟩
def pAt (s : ByteArray) : Int := shP (beAt s 4 1)
def qAt (s : ByteArray) : Int := beAt s 5 1
theorem recAt_ok (s : ByteArray) (h : 80 ≤ s.size) : RecOk (recAt s) :=
  ⟨(by have h1 := beAt_lt s 8 8 (by omega); show beAt s 8 8 < _; omega), (by have h1 := beAt_lt s 32 4 (by omega); show beAt s 32 4 < _; omega), (by show ((s.extract 44 (44 + 32)).data.toList).length = 32; exact extract_len s 44 32 (by omega)), (by have h1 := beAt_lt s 16 8 (by omega); show beAt s 16 8 < _; omega), (by have h1 := beAt_lt s 24 8 (by omega); show beAt s 24 8 < _; omega), (by have h1 := beAt_lt s 36 4 (by omega); show beAt s 36 4 < _; omega), (by have h1 := beAt_lt s 40 4 (by omega); show beAt s 40 4 < _; omega)⟩
/-- Whether a sector is, byte for byte, that record's, which may be. -/
def laidM (s : ByteArray) : Bool := mayM (pAt s) (qAt s) (recAt s) && decide (s = fillS (formS (pAt s) (qAt s) (recAt s)) s.size)
/-- What a slot is, by its first sector. -/
def slotK (p q : Int) (s : ByteArray) : Nat := if s = noughtS s.size then 0 else if laidM s = false then 3 else if pAt s = p ∧ qAt s = q then 1 else 2
def slotR (p q : Int) (s : ByteArray) : Rec := if slotK p q s = 1 then recAt s else zeroRec
theorem slotK_cases (p q : Int) (s : ByteArray) : (s = noughtS s.size ∧ slotK p q s = 0 ∧ slotR p q s = zeroRec) ∨ (¬ s = noughtS s.size ∧ laidM s = false ∧ slotK p q s = 3 ∧ slotR p q s = zeroRec) ∨ (¬ s = noughtS s.size ∧ laidM s = true ∧ ¬ (pAt s = p ∧ qAt s = q) ∧ slotK p q s = 2 ∧ slotR p q s = zeroRec) ∨ (¬ s = noughtS s.size ∧ laidM s = true ∧ (pAt s = p ∧ qAt s = q) ∧ slotK p q s = 1 ∧ slotR p q s = recAt s) := by
  by_cases h0 : s = noughtS s.size
  · have e : slotK p q s = 0 := by unfold slotK; rw [if_pos h0]
    exact Or.inl ⟨h0, e, by unfold slotR; rw [e]; rfl⟩
  · right
    by_cases h1 : laidM s = false
    · have e : slotK p q s = 3 := by unfold slotK; rw [if_neg h0, if_pos h1]
      exact Or.inl ⟨h0, h1, e, by unfold slotR; rw [e]; rfl⟩
    · right
      have h1' : laidM s = true := by simpa using h1
      by_cases h2 : pAt s = p ∧ qAt s = q
      · have e : slotK p q s = 1 := by unfold slotK; rw [if_neg h0, if_neg h1, if_pos h2]
        exact Or.inr ⟨h0, h1', h2, e, by unfold slotR; rw [e]; rfl⟩
      · have e : slotK p q s = 2 := by unfold slotK; rw [if_neg h0, if_neg h1, if_neg h2]
        exact Or.inl ⟨h0, h1', h2, e, by unfold slotR; rw [e]; rfl⟩
theorem slotR_ok (p q : Int) (s : ByteArray) (h : 80 ≤ s.size) : RecOk (slotR p q s) := by
  rcases slotK_cases p q s with ⟨_, _, e⟩ | ⟨_, _, _, e⟩ | ⟨_, _, _, _, e⟩ | ⟨_, _, _, _, e⟩ <;> rw [e]
  · exact zeroRec_ok
  · exact zeroRec_ok
  · exact zeroRec_ok
  · exact recAt_ok s h
/-- Decode. -/
def decB (p q : Int) (page : ByteArray) : Bool := frameP p q && decide ((page.size : Int) = p)
def sectS (p : Int) (page : ByteArray) : ByteArray := page.extract 0 (p.toNat / 8)
def decK (p q : Int) (page : ByteArray) : Nat := if decB p q page = true then slotK p q (sectS p page) else 0
def decR (p q : Int) (page : ByteArray) : Rec := if decB p q page = true then slotR p q (sectS p page) else zeroRec
def decE (p q : Int) (page : ByteArray) : Int := if decB p q page = true then 0 else 2
theorem decB_parts {p q : Int} {page : ByteArray} (h : decB p q page = true) : frameP p q = true ∧ (page.size : Int) = p := by
  simp only [decB, Bool.and_eq_true, decide_eq_true_eq] at h; exact h
theorem sectS_size {p q : Int} {page : ByteArray} (h : decB p q page = true) : (sectS p page).size = p.toNat / 8 := by
  have h1 := decB_parts h
  unfold sectS
  rw [ByteArray.size_extract]
  omega
theorem sect_lo {p q : Int} (h : frameP p q = true) : 80 ≤ p.toNat / 8 ∧ p.toNat / 8 ≤ 1024 := by
  rcases (frameP_cases h).1 with rfl | rfl | rfl | rfl <;> decide
theorem decR_ok (p q : Int) (page : ByteArray) : RecOk (decR p q page) := by
  unfold decR
  by_cases h : decB p q page = true
  · rw [if_pos h]
    have h1 := sectS_size h
    have h2 := sect_lo (decB_parts h).1
    exact slotR_ok p q _ (by omega)
  · rw [if_neg h]; exact zeroRec_ok
end Go.Proofs.YtaknpcimdpdekaaDoor
