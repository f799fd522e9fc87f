/- Two records held against one another, as one operation. -/
import Derived.Test.YtaknpcimdpdekaaDoorMC
import Derived.Test.YtaknpcimdpdekaaDoorM1
namespace Go.Proofs.YtaknpcimdpdekaaDoor
open Go.RowKit

theorem wp_eql_agg {P : Program} {o : Oper} {a : Act} {w : World} {K : Act → World → Prop} {Q : Exit → Act → World → Prop} (ty ty2 : TypeId) (x y : Operand) (ho : o.op = .binOp .eql ty x y ty2) (X Y : Array Value) (hx : a.eval x = .agg X) (hy : a.eval y = .agg Y)
    (hgt : P.eqGuardType P.depth ty = false) (e : Bool) (hE : ∀ W : World, (Op.equalIn 10000 ty (.agg X) (.agg Y)).run P W = .ok e W) (h : K (a.put o.dst (.bool e)) w) : o.wp P a w K Q := by
  unfold Oper.wp execOp
  have hg : (eqGuard .eql ty x y (.agg X) (.agg Y)).run P w = .ok () w := by
    simp [eqGuard, hgt]
  have hb : (binOp .eql ty (.agg X) (.agg Y)).run P w = .ok (.bool e) w := by
    have := hE w
    simp only [binOp, Op.equal, Op.maxDepth, Sem.run_bind, this, Result.andThen_ok, Sem.run_pure]
  simp only [ho, hx, hy, Sem.run_bind, hg, hb, Result.andThen_ok, Sem.run_pure]
  exact h
theorem wpList_eql_agg {P : Program} {ops : Array Oper} {rest : List Oper} {o : Oper} {a : Act} {w : World} {Q : Exit → Act → World → Prop} (ty ty2 : TypeId) (x y : Operand) (ho : o.op = .binOp .eql ty x y ty2) (X Y : Array Value) (hx : a.eval x = .agg X) (hy : a.eval y = .agg Y)
    (hgt : P.eqGuardType P.depth ty = false) (e : Bool) (hE : ∀ W : World, (Op.equalIn 10000 ty (.agg X) (.agg Y)).run P W = .ok e W) (hw : Region.wanted o (yielded ops a.tmps) = true)
    (h : wpList P ops Q rest (a.put o.dst (.bool e)) w) : wpList P ops Q (o :: rest) a w :=
  BigFrame.wpList_want hw fun _ hK => wp_eql_agg ty ty2 x y ho X Y hx hy hgt e hE (hK _ _ h)
/-- Guards: the next operation is a load, a comparison, of this type (looked at alone). -/
theorem at_load (ty : TypeId) {P : Program} {ops : Array Oper} {rest : List Oper} {a : Act} {w : World} {Q : Exit → Act → World → Prop} {d : Option Tmp} {x : Operand} {t : TypeId} {ps : String} {af : Array Edge} {gd : Option (Nat × Bool)} (h : wpList P ops Q ({ dst := d, op := .load ty x, type := t, pos := ps, after := af, guard := gd } :: rest) a w) :
    wpList P ops Q ({ dst := d, op := .load ty x, type := t, pos := ps, after := af, guard := gd } :: rest) a w := h
theorem at_eql (ty : TypeId) {P : Program} {ops : Array Oper} {rest : List Oper} {a : Act} {w : World} {Q : Exit → Act → World → Prop} {d : Option Tmp} {x y : Operand} {t : TypeId} {ps : String} {af : Array Edge} {gd : Option (Nat × Bool)} (h : wpList P ops Q ({ dst := d, op := .binOp .eql ty x y ty, type := t, pos := ps, after := af, guard := gd } :: rest) a w) :
    wpList P ops Q ({ dst := d, op := .binOp .eql ty x y ty, type := t, pos := ps, after := af, guard := gd } :: rest) a w := h
section
variable {P : Program} {ops : Array Oper} {rest : List Oper} {o : Oper} {a : Act} {w : World} {Q : Exit → Act → World → Prop}
theorem wpList_mv (x : Operand) (v : Value) (ho : o.op = .move x) (hv : a.eval x = v) (hw : Region.wanted o (yielded ops a.tmps) = true) (h : wpList P ops Q rest (a.put o.dst v) w) : wpList P ops Q (o :: rest) a w :=
  BigFrame.wpList_want hw fun _ hK => BigFrame.wp_move x ho (by rw [hv]; exact hK _ _ h)
theorem wpList_as (x : Operand) (v : Value) (ho : o.op = .assign x) (hv : a.eval x = v) (hw : Region.wanted o (yielded ops a.tmps) = true) (h : wpList P ops Q rest (a.put o.dst v) w) : wpList P ops Q (o :: rest) a w :=
  BigFrame.wpList_want hw fun _ hK => BigFrame.wp_assign x ho (by rw [hv]; exact hK _ _ h)
theorem wpList_pk (c x y : Operand) (b : Bool) (v : Value) (ho : o.op = .pick c x y) (hc : a.eval c = .bool b) (hv : (if b = true then a.eval x else a.eval y) = v) (hw : Region.wanted o (yielded ops a.tmps) = true) (h : wpList P ops Q rest (a.put o.dst v) w) : wpList P ops Q (o :: rest) a w :=
  BigFrame.wpList_want hw fun _ hK => by
    unfold Oper.wp execOp
    simp only [ho, hc]
    cases b
    · simp only [Bool.false_eq_true, if_false] at hv
      simp only [hv]
      exact hK _ _ h
    · simp only [if_true] at hv
      simp only [hv]
      exact hK _ _ h
theorem wpList_sk (i : Nat) (b want : Bool) (hg : o.guard = some (i, want)) (hy : yielded ops a.tmps i = some b) (hne : (some b == some want) = false) (h : wpList P ops Q rest (a.put o.dst undef) w) : wpList P ops Q (o :: rest) a w :=
  wpList_skip (by unfold Region.wanted; rw [hg]; simp only [hy]; exact hne) h
theorem wpList_skU (i : Nat) (want : Bool) (hg : o.guard = some (i, want)) (hy : yielded ops a.tmps i = none) (h : wpList P ops Q rest (a.put o.dst undef) w) : wpList P ops Q (o :: rest) a w :=
  wpList_skip (by unfold Region.wanted; rw [hg]; simp only [hy]; rfl) h
theorem wpList_eqi (ty ty2 : TypeId) (x y : Operand) (k : IntKind) (m n : Int) (b : Bool) (ho : o.op = .binOp .eql ty x y ty2) (hx : a.eval x = .int k m) (hy : a.eval y = .int k n) (hb : (m == n) = b) (hw : Region.wanted o (yielded ops a.tmps) = true) (h : wpList P ops Q rest (a.put o.dst (.bool b)) w) : wpList P ops Q (o :: rest) a w :=
  BigFrame.wpList_want hw fun _ hK => by
    subst hb
    unfold Oper.wp execOp
    simp only [ho, hx, hy]
    simp [eqGuard, binOp]
    exact hK _ _ h
end
end Go.Proofs.YtaknpcimdpdekaaDoor
