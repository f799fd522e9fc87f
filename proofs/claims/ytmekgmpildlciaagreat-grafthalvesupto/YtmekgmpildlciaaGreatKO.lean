/- The document's Same of two nodes that are alike. -/
import Derived.Test.YtmekgmpildlciaaGreatK1
import Derived.Deep.LoopGhost
namespace Go.Proofs.YtmekgmpildlciaaGreat
open Go.RowKit

theorem yieldsIf_neq_agg {P : Program} {ops : Array Oper} {S : World → Prop} {op : Oper} {a : Act} (hw : Region.wanted op (yielded ops a.tmps) = true) (ty ty2 : TypeId) (x y : Operand) (ho : op.op = .binOp .neq ty x y ty2) (X Y : Array Value) (hx : a.eval x = .agg X) (hy : a.eval y = .agg Y)
    (hgt : P.eqGuardType P.depth ty = false) (e : Bool) (hE : ∀ W : World, (Op.equalIn 10000 ty (.agg X) (.agg Y)).run P W = .ok e W) : YieldsIf P ops S op (.bool (!e)) a :=
  .inl ⟨hw, fun w _ => by
    have hg : (eqGuard .neq ty x y (.agg X) (.agg Y)).run P w = .ok () w := by
      simp [eqGuard, hgt]
    have hb : (binOp .neq ty (.agg X) (.agg Y)).run P w = .ok (.bool (!e)) w := by
      have := hE w
      simp only [binOp, Op.equal, Op.maxDepth, Sem.run_bind, this, Result.andThen_ok, Sem.run_pure]
    unfold execOp
    simp only [ho, hx, hy, Sem.run_bind, hg, hb, Result.andThen_ok, Sem.run_pure]⟩
set_option maxRecDepth 100000 in
theorem eq_digest_at (d : Nat) (W : World) (D : List UInt8) (hD : D.length = 32) : (Op.equalIn (d + 1 + 1) 44 (.agg (bcells D).toArray) (.agg (bcells D).toArray)).run Tryz.prog W = .ok true W := by
  obtain ⟨i8, hi8⟩ := info_of_underlying Tryz.und8
  have h1 := run_equalIn_array (w := W) (d + 1) (bcells D).toArray (bcells D).toArray Tryz.aund32 hi8
  rw [Tryz.cells8] at h1
  have h2 := eqItems_gen W d D D (List.range 32) (fun i hi => by rw [hD]; exact List.mem_range.1 hi) (fun i hi => by rw [hD]; exact List.mem_range.1 hi)
  rw [h1, h2]
  simp
theorem Tryz.aggD (W : World) : (isAgg 44).run Tryz.prog W = .ok true W := by kernel_rfl
theorem Tryz.szD (W : World) : (sizeOf 44).run Tryz.prog W = .ok 32 W := by kernel_rfl
theorem Tryz.plain32 : Tryz.prog.plainKey 42 = true := by kernel_rfl
theorem Tryz.sihK : Tryz.prog.stoodInHeld 46 = false := by kernel_rfl
theorem Tryz.fldK : Tryz.prog.underlying 46 = some (.struct (Tryz.prog.fieldsOf 46)) := by kernel_rfl
theorem part_dig (W : World) (cs : Array Value) (off : Nat) : (part 44 cs off).run Tryz.prog W = .ok (.agg (cs.extract off (off + 32))) W := by
  have h1 := Tryz.aggD
  have h2 := Tryz.szD
  simp [part, Sem.run_bind, h1, h2]
theorem part_u32 (W : World) (cs : Array Value) (off : Nat) (v : Value) (h : cs[off]? = some v) : (part 42 cs off).run Tryz.prog W = .ok v W := run_part_plain W Tryz.plain32 h
theorem eqFields_step {P : Program} (W : World) (d : Nat) (X Y : Array Value) (f : Field) (fs : List Field) (a b : Value) (r s : Bool) (hn : f.name ≠ "_") (ha : (part f.type X f.offset).run P W = .ok a W) (hb : (part f.type Y f.offset).run P W = .ok b W)
    (hr : (Op.equalIn d f.type a b).run P W = .ok r W) (hs : (Op.eqFields d X Y fs).run P W = .ok s W) : (Op.eqFields d X Y (f :: fs)).run P W = .ok (r && s) W := by
  simp only [Op.eqFields, Sem.run_bind, Sem.run_ite, if_pos hn, ha, hb, hr, Result.andThen_ok]
  cases r
  · simp
  · simp [hs]
theorem eqFields_nil {P : Program} (W : World) (d : Nat) (X Y : Array Value) : (Op.eqFields d X Y []).run P W = .ok true W := by simp [Op.eqFields]
theorem eqR {P : Program} {W : World} {m : Sem Bool} {r s : Bool} (h : m.run P W = .ok r W) (e : r = s) : m.run P W = .ok s W := by rw [h, e]
theorem kid_dig (k : Kid) (h : k.d.length = 32) : ((kcells k).toArray).extract 1 33 = (bcells k.d).toArray := by
  simp only [kcells, List.extract_toArray, List.extract_eq_take_drop, List.drop_succ_cons, List.drop_zero]
  congr 1
  rw [show 33 - 1 = (bcells k.d).length from by rw [bcells_length, h]]
  exact List.take_length
set_option maxRecDepth 100000 in
theorem eq_kid (W : World) (k : Kid) (h : k.d.length = 32) : (Op.equalIn 10000 46 (.agg (kcells k).toArray) (.agg (kcells k).toArray)).run Tryz.prog W = .ok true W := by
  have e1 := part_dig W (kcells k).toArray 1
  rw [show 1 + 32 = 33 from rfl, kid_dig k h] at e1
  have g0 := run_equalIn_int W 9998 42 .u32 .u32 (k.page : Int) (k.page : Int) Tryz.underlying42
  have g1 := eq_digest_at 9997 W k.d h
  have hst := run_equalIn_struct (P := Tryz.prog) W 9999 46 (kcells k).toArray (kcells k).toArray Tryz.fldK Tryz.sihK
  rw [Program.fieldsOf, Tryz.underlying46] at hst
  refine Eq.trans hst ?_
  refine eqR (eqFields_step W 9999 _ _ _ _ _ _ _ _ (by decide) (part_u32 W _ 0 (.int .u32 k.page) rfl) (part_u32 W _ 0 (.int .u32 k.page) rfl) g0 (eqFields_step W 9999 _ _ _ _ _ _ _ _ (by decide) e1 e1 g1 (eqFields_nil W _ _ _))) ?_
  simp
end Go.Proofs.YtmekgmpildlciaaGreat
