/- free: what the laws lean on when they are opened. -/
import Derived.Test.YtajbifblbmlffaaRows
import Derived.Test.YtajbifblbmlffaaEA
import Derived.ProofKit
import Derived.OpenShut
import Derived.Test.YtajbifblbmlffaaID
namespace Go.Proofs.Ytajbifblbmlffaa
open Go.ChangeShapes Go.WideShapes Go.ChangeAt Go.RowKit

theorem nd_own : ownKnob Try.prog.godebug = none := by kernel_rfl
theorem nd_laidOut : laidOutB Try.prog = true := by kernel_rfl
theorem Fr.below {S : Nat → Prop} {w w' : World} (h : Fr S w w') {B : Nat} (hB : B ≤ w.heap.size) (hS : ∀ k, S k → B ≤ k) : Below B w w' :=
  ⟨h.os, h.tape, h.output, h.size, fun k hk => h.block k (by omega) (fun s => by have := hS k s; omega)⟩
theorem Try.cellsFrame : Try.prog.cellsOf 23 = 2 := by kernel_rfl
set_option maxRecDepth 100000 in
theorem open_frame {H : Type} {enc : TypeId × Value → H} {W : World} {v : Value} {d : DataW H} {pl : List MemPlace} {base : Nat}
    (hv : Value.okWide Try.prog W .any base 23 v) (h : DataW.Trod enc Try.prog W 0 (fun _ => true) true 23 v d pl) :
    ∃ p q, v = .agg #[.int .i64 p, .int .i64 q] := by
  obtain ⟨cs, rfl, hz⟩ := okWide_struct Try.underlying23 hv
  rw [Try.cellsFrame] at hz
  obtain ⟨fuel, hf⟩ := h
  obtain ⟨x, y, rfl⟩ : ∃ x y, cs = #[x, y] := by
    obtain ⟨l⟩ := cs
    match l, hz with
    | [x, y], _ => exact ⟨x, y, rfl⟩
  obtain ⟨y0, y1, n, hx, _, f0, f1⟩ := trod_struct2 Try.underlying23 hf
  have c4 : Try.prog.cellsOf 3 = 1 := by kernel_rfl
  simp only [Value.cells, c4, List.drop_succ_cons, List.drop_zero, List.take_succ_cons, List.take_zero] at f0 f1
  obtain ⟨a, e0, g0, _⟩ := DataW.trod_int Try.underlying3 f0
  obtain ⟨b, e1, g1, _⟩ := DataW.trod_int Try.underlying3 f1
  simp only [List.cons.injEq, and_true] at e0 e1
  subst e0; subst e1
  exact ⟨a, b, rfl⟩
end Go.Proofs.Ytajbifblbmlffaa
namespace Go.Proofs.Ytajbifblbmlffaa
open Go.RowKit Go.Maps

/-- Numbers that came in. -/
structure NIn (w : World) (pa : Option Addr) (pb po cp : Nat) (ns : List Nat) : Prop where
  row : NRow w pa pb po ns
  no : pa = none → ns = [] ∧ cp = 0
theorem NIn.same {w w' : World} {pa : Option Addr} {pb po cp : Nat} {ns : List Nat} (h : NIn w pa pb po cp ns) (s : Same w w') : NIn w' pa pb po cp ns := ⟨h.row.same s, h.no⟩
def mkN (k : Nat) : List Nat := (List.range k).map fun i => 900000 + i
theorem mkN_len (k : Nat) : (mkN k).length = k := by simp [mkN]
abbrev LentN (W : World) (B g c : Nat) (ns : List Nat) : Prop := W.ownsRow B 28 1 (.slice (some ⟨g, 0, none⟩) (ns.length + 70) c) (ns.length + 70) (ncells (ns ++ mkN 70))
theorem LentN.row {W : World} {B g c : Nat} {ns : List Nat} (h : LentN W B g c ns) : NRow W (some ⟨g, 0, none⟩) g 0 (ns ++ mkN 70) := by
  obtain ⟨g1, r1⟩ := own_nrow h (by simp [mkN_len])
  have e1 := (r1.place (by intro e; have := congrArg List.length e; simp [mkN_len] at this)).1
  cases e1
  exact r1
theorem nrow_front {w : World} {pa : Option Addr} {pb po : Nat} {a b : List Nat} (h : NRow w pa pb po (a ++ b)) : NRow w pa pb po a :=
  ⟨fun e => h.place (by intro e2; exact e (List.append_eq_nil_iff.1 e2).1), fun j x hx => h.cells j x (by rw [List.getElem?_append_left (List.getElem?_eq_some_iff.1 hx).1]; exact hx)⟩
theorem LentN.ns {W : World} {B g c : Nat} {ns : List Nat} (h : LentN W B g c ns) : NRow W (some ⟨g, 0, none⟩) g 0 ns := nrow_front (LentN.row h)
theorem LentN.same {W W' : World} {B g c : Nat} {ns : List Nat} (h : LentN W B g c ns) (s : Same W W') : LentN W' B g c ns := own_frameB h s (fun _ _ f => f)
end Go.Proofs.Ytajbifblbmlffaa
