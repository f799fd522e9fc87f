/- Whether two records, roots, frames are one. -/
import Derived.Test.YtaknpcimdpdekaaDoorMP
namespace Go.Proofs.YtaknpcimdpdekaaDoor
open Go.RowKit

set_option maxRecDepth 100000 in
theorem eq_digest_at (d : Nat) (W : World) (D E : List UInt8) (hD : D.length = 32) (hE : E.length = 32) : (Op.equalIn (d + 1 + 1) 30 (.agg (bcells D).toArray) (.agg (bcells E).toArray)).run Tryd.prog W = .ok (decide (D = E)) W := by
  obtain ⟨i8, hi8⟩ := info_of_underlying Tryd.und8
  have h1 := run_equalIn_array (w := W) (d + 1) (bcells D).toArray (bcells E).toArray Tryd.aund32 hi8
  rw [Tryd.cells8] at h1
  have h2 := eqItems_gen W d D E (List.range 32) (fun i hi => by rw [hD]; exact List.mem_range.1 hi) (fun i hi => by rw [hE]; exact List.mem_range.1 hi)
  rw [h1, h2]
  congr 1
  rw [Bool.eq_iff_iff, List.all_eq_true, decide_eq_true_eq]
  constructor
  · intro h
    apply List.ext_getElem (by omega)
    intro i hi1 hi2
    have := h i (List.mem_range.2 (by omega))
    simpa [hi1, hi2] using this
  · rintro rfl i _
    simp
theorem Tryd.aggD (W : World) : (isAgg 30).run Tryd.prog W = .ok true W := by kernel_rfl
theorem Tryd.szD (W : World) : (sizeOf 30).run Tryd.prog W = .ok 32 W := by kernel_rfl
theorem Tryd.aggR (W : World) : (isAgg 32).run Tryd.prog W = .ok true W := by kernel_rfl
theorem Tryd.szR (W : World) : (sizeOf 32).run Tryd.prog W = .ok 35 W := by kernel_rfl
theorem Tryd.plain32 : Tryd.prog.plainKey 28 = true := by kernel_rfl
theorem Tryd.plain64 : Tryd.prog.plainKey 27 = true := by kernel_rfl
theorem Tryd.sihR : Tryd.prog.stoodInHeld 32 = false := by kernel_rfl
theorem Tryd.sihM : Tryd.prog.stoodInHeld 34 = false := by kernel_rfl
theorem Tryd.fldR : Tryd.prog.underlying 32 = some (.struct (Tryd.prog.fieldsOf 32)) := by kernel_rfl
theorem Tryd.fldM : Tryd.prog.underlying 34 = some (.struct (Tryd.prog.fieldsOf 34)) := by kernel_rfl
theorem part_dig (W : World) (cs : Array Value) (off : Nat) : (part 30 cs off).run Tryd.prog W = .ok (.agg (cs.extract off (off + 32))) W := by
  simp [part, Sem.run_bind]
theorem part_root (W : World) (cs : Array Value) (off : Nat) : (part 32 cs off).run Tryd.prog W = .ok (.agg (cs.extract off (off + 35))) W := by
  simp [part, Sem.run_bind]
theorem part_u32 (W : World) (cs : Array Value) (off : Nat) (v : Value) (h : cs[off]? = some v) : (part 28 cs off).run Tryd.prog W = .ok v W := run_part_plain W Tryd.plain32 h
theorem part_u64 (W : World) (cs : Array Value) (off : Nat) (v : Value) (h : cs[off]? = some v) : (part 27 cs off).run Tryd.prog W = .ok v W := run_part_plain W Tryd.plain64 h
theorem natEq (a b : Nat) : ((a : Int) == (b : Int)) = decide (a = b) := by rw [Bool.eq_iff_iff, beq_iff_eq, decide_eq_true_eq]; omega
theorem root_dig (m : Rec) (h : m.d.length = 32) : (m.root.toArray).extract 1 33 = (bcells m.d).toArray := by
  simp only [Rec.root, List.extract_toArray, List.extract_eq_take_drop, List.drop_succ_cons, List.drop_zero]
  congr 1
  exact List.take_left' (by rw [bcells_length, h])
theorem root_tail (m : Rec) (h : m.d.length = 32) (j : Nat) : (m.root.toArray)[33 + j]? = [Value.int .u64 m.c, .int .u64 m.rv][j]? := by
  rw [List.getElem?_toArray, show 33 + j = (32 + j) + 1 from by omega]
  show (bcells m.d ++ _)[32 + j]? = _
  rw [List.getElem?_append_right (by rw [bcells_length, h]; omega), bcells_length, h, Nat.add_sub_cancel_left]
theorem arr_root (m : Rec) (h : m.d.length = 32) : m.arr.extract 1 36 = m.root.toArray := by
  simp only [Rec.arr, Rec.cells, Rec.root, List.extract_toArray, List.extract_eq_take_drop, List.drop_succ_cons, List.drop_zero]
  congr 1
  rw [show (Value.int .u32 m.rp :: (bcells m.d ++ [Value.int .u64 m.c, .int .u64 m.rv, .int .u32 m.li, .int .u32 m.pg])) = (Value.int .u32 m.rp :: (bcells m.d ++ [Value.int .u64 m.c, .int .u64 m.rv])) ++ [.int .u32 m.li, .int .u32 m.pg] from by simp]
  exact List.take_left' (by simp [bcells_length, h])
theorem arr_tail (m : Rec) (h : m.d.length = 32) (j : Nat) : m.arr[34 + j]? = [Value.int .u64 m.c, .int .u64 m.rv, .int .u32 m.li, .int .u32 m.pg][j]? := by
  rw [Rec.arr, List.getElem?_toArray]; exact cells_tail m h j
def rootEq (a b : Rec) : Bool := decide (a.rp = b.rp) && decide (a.d = b.d) && decide (a.c = b.c) && decide (a.rv = b.rv)
def recEq (a b : Rec) : Bool := decide (a.v = b.v) && rootEq a b && decide (a.li = b.li) && decide (a.pg = b.pg)
theorem recEq_iff (a b : Rec) : recEq a b = true ↔ a = b := by
  obtain ⟨v, rp, d, c, rv, li, pg⟩ := a
  obtain ⟨v', rp', d', c', rv', li', pg'⟩ := b
  simp only [recEq, rootEq, Bool.and_eq_true, decide_eq_true_eq, Rec.mk.injEq]
  constructor
  · rintro ⟨⟨⟨h1, ⟨⟨h2, h3⟩, h4⟩, h5⟩, h6⟩, h7⟩; exact ⟨h1, h2, h3, h4, h5, h6, h7⟩
  · rintro ⟨h1, h2, h3, h4, h5, h6, h7⟩; exact ⟨⟨⟨h1, ⟨⟨h2, h3⟩, h4⟩, h5⟩, h6⟩, h7⟩
theorem recEq_self (a : Rec) : recEq a a = true := (recEq_iff a a).2 rfl

theorem eqFields_step {P : Program} (W : World) (d : Nat) (X Y : Array Value) (f : Field) (fs : List Field) (a b : Value) (r s : Bool) (hn : f.name ≠ "_") (ha : (part f.type X f.offset).run P W = .ok a W) (hb : (part f.type Y f.offset).run P W = .ok b W)
    (hr : (Op.equalIn d f.type a b).run P W = .ok r W) (hs : (Op.eqFields d X Y fs).run P W = .ok s W) : (Op.eqFields d X Y (f :: fs)).run P W = .ok (r && s) W := by
  simp only [Op.eqFields, Sem.run_bind, Sem.run_ite, if_pos hn, ha, hb, hr, Result.andThen_ok]
  cases r
  · simp
  · simp [hs]
theorem eqFields_nil {P : Program} (W : World) (d : Nat) (X Y : Array Value) : (Op.eqFields d X Y []).run P W = .ok true W := by simp [Op.eqFields]
theorem eqR {P : Program} {W : World} {m : Sem Bool} {r s : Bool} (h : m.run P W = .ok r W) (e : r = s) : m.run P W = .ok s W := by rw [h, e]
set_option maxRecDepth 100000 in
theorem eq_root_10000 (W : World) (a b : Rec) (ha : a.d.length = 32) (hb : b.d.length = 32) : (Op.equalIn 10000 32 (.agg a.root.toArray) (.agg b.root.toArray)).run Tryd.prog W = .ok (rootEq a b) W := by
  have e1 := part_dig W a.root.toArray 1
  have f1 := part_dig W b.root.toArray 1
  rw [show 1 + 32 = 33 from rfl, root_dig a ha] at e1
  rw [show 1 + 32 = 33 from rfl, root_dig b hb] at f1
  have g0 := run_equalIn_int W 9998 28 .u32 .u32 (a.rp : Int) (b.rp : Int) Tryd.underlying28
  have g1 := eq_digest_at 9997 W a.d b.d ha hb
  have g2 := run_equalIn_int W 9998 27 .u64 .u64 (a.c : Int) (b.c : Int) Tryd.underlying27
  have g3 := run_equalIn_int W 9998 27 .u64 .u64 (a.rv : Int) (b.rv : Int) Tryd.underlying27
  rw [natEq] at g0 g2 g3
  have hst := run_equalIn_struct (P := Tryd.prog) W 9999 32 a.root.toArray b.root.toArray Tryd.fldR Tryd.sihR
  rw [Program.fieldsOf, Tryd.underlying32] at hst
  refine Eq.trans hst ?_
  refine eqR (eqFields_step W 9999 _ _ _ _ _ _ _ _ (by decide) (part_u32 W _ 0 (.int .u32 a.rp) rfl) (part_u32 W _ 0 (.int .u32 b.rp) rfl) g0 (eqFields_step W 9999 _ _ _ _ _ _ _ _ (by decide) e1 f1 g1 (eqFields_step W 9999 _ _ _ _ _ _ _ _ (by decide) (part_u64 W _ 33 _ (root_tail a ha 0)) (part_u64 W _ 33 _ (root_tail b hb 0)) g2 (eqFields_step W 9999 _ _ _ _ _ _ _ _ (by decide) (part_u64 W _ 34 _ (root_tail a ha 1)) (part_u64 W _ 34 _ (root_tail b hb 1)) g3 (eqFields_nil W _ _ _))))) ?_
  unfold rootEq
  simp only [Bool.and_true, Bool.and_assoc]
set_option maxRecDepth 100000 in
theorem eq_root_9999 (W : World) (a b : Rec) (ha : a.d.length = 32) (hb : b.d.length = 32) : (Op.equalIn 9999 32 (.agg a.root.toArray) (.agg b.root.toArray)).run Tryd.prog W = .ok (rootEq a b) W := by
  have e1 := part_dig W a.root.toArray 1
  have f1 := part_dig W b.root.toArray 1
  rw [show 1 + 32 = 33 from rfl, root_dig a ha] at e1
  rw [show 1 + 32 = 33 from rfl, root_dig b hb] at f1
  have g0 := run_equalIn_int W 9997 28 .u32 .u32 (a.rp : Int) (b.rp : Int) Tryd.underlying28
  have g1 := eq_digest_at 9996 W a.d b.d ha hb
  have g2 := run_equalIn_int W 9997 27 .u64 .u64 (a.c : Int) (b.c : Int) Tryd.underlying27
  have g3 := run_equalIn_int W 9997 27 .u64 .u64 (a.rv : Int) (b.rv : Int) Tryd.underlying27
  rw [natEq] at g0 g2 g3
  have hst := run_equalIn_struct (P := Tryd.prog) W 9998 32 a.root.toArray b.root.toArray Tryd.fldR Tryd.sihR
  rw [Program.fieldsOf, Tryd.underlying32] at hst
  refine Eq.trans hst ?_
  refine eqR (eqFields_step W 9998 _ _ _ _ _ _ _ _ (by decide) (part_u32 W _ 0 (.int .u32 a.rp) rfl) (part_u32 W _ 0 (.int .u32 b.rp) rfl) g0 (eqFields_step W 9998 _ _ _ _ _ _ _ _ (by decide) e1 f1 g1 (eqFields_step W 9998 _ _ _ _ _ _ _ _ (by decide) (part_u64 W _ 33 _ (root_tail a ha 0)) (part_u64 W _ 33 _ (root_tail b hb 0)) g2 (eqFields_step W 9998 _ _ _ _ _ _ _ _ (by decide) (part_u64 W _ 34 _ (root_tail a ha 1)) (part_u64 W _ 34 _ (root_tail b hb 1)) g3 (eqFields_nil W _ _ _))))) ?_
  unfold rootEq
  simp only [Bool.and_true, Bool.and_assoc]
set_option maxRecDepth 100000 in
theorem eq_rec (W : World) (a b : Rec) (ha : a.d.length = 32) (hb : b.d.length = 32) : (Op.equalIn 10000 34 (.agg a.arr) (.agg b.arr)).run Tryd.prog W = .ok (recEq a b) W := by
  have e1 := part_root W a.arr 1
  have f1 := part_root W b.arr 1
  rw [show 1 + 35 = 36 from rfl, arr_root a ha] at e1
  rw [show 1 + 35 = 36 from rfl, arr_root b hb] at f1
  have g0 := run_equalIn_int W 9998 27 .u64 .u64 (a.v : Int) (b.v : Int) Tryd.underlying27
  have g1 := eq_root_9999 W a b ha hb
  have g2 := run_equalIn_int W 9998 28 .u32 .u32 (a.li : Int) (b.li : Int) Tryd.underlying28
  have g3 := run_equalIn_int W 9998 28 .u32 .u32 (a.pg : Int) (b.pg : Int) Tryd.underlying28
  rw [natEq] at g0 g2 g3
  have hst := run_equalIn_struct (P := Tryd.prog) W 9999 34 a.arr b.arr Tryd.fldM Tryd.sihM
  rw [Program.fieldsOf, Tryd.underlying34] at hst
  refine Eq.trans hst ?_
  refine eqR (eqFields_step W 9999 _ _ _ _ _ _ _ _ (by decide) (part_u64 W _ 0 (.int .u64 a.v) rfl) (part_u64 W _ 0 (.int .u64 b.v) rfl) g0 (eqFields_step W 9999 _ _ _ _ _ _ _ _ (by decide) e1 f1 g1 (eqFields_step W 9999 _ _ _ _ _ _ _ _ (by decide) (part_u32 W _ 36 _ (arr_tail a ha 2)) (part_u32 W _ 36 _ (arr_tail b hb 2)) g2 (eqFields_step W 9999 _ _ _ _ _ _ _ _ (by decide) (part_u32 W _ 37 _ (arr_tail a ha 3)) (part_u32 W _ 37 _ (arr_tail b hb 3)) g3 (eqFields_nil W _ _ _))))) ?_
  unfold recEq
  simp only [Bool.and_true, Bool.and_assoc]
end Go.Proofs.YtaknpcimdpdekaaDoor
