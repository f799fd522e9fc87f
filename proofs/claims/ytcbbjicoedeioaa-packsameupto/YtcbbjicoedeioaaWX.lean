/-
  Any step: how it is laid, and that it is read back.
-/
import Derived.Test.YtcbbjicoedeioaaU1
import Derived.Test.YtcbbjicoedeioaaWV
namespace Go.Proofs.Ytcbbjicoedeioaa
open Go.RowKit

/-- A step as a value, whose lists lie below block B. -/
def StepIn (B : Nat) (w : World) (v : Value) (t : StepP) : Prop :=
  ∃ pa pl pc na nl nc, v = stepV t.kd t.n t.i t.s pa pl pc na nl nc t.wd t.m t.bd ∧ ElemIn Value.string B w (.slice pa pl pc) t.parts ∧ ElemIn vNum B w (.slice na nl nc) t.ns
theorem StepIn.below {B : Nat} {w w' : World} {v : Value} {t : StepP} (h : StepIn B w v t) (k : Below B w w') : StepIn B w' v t := by
  obtain ⟨pa, pl, pc, na, nl, nc, hv, h1, h2⟩ := h
  exact ⟨pa, pl, pc, na, nl, nc, hv, h1.below k, h2.below k⟩

theorem lay_any {w : World} {b B : Nat} {g : Option Nat} {bs : List UInt8} {v : Value} (t : StepP) (ok : StepOK t) (hin : StepIn B w v t) (h : WrAt w b g bs) (ha : Above B b g) (hB : B ≤ w.heap.size) (hl : bs.length ≤ 600000000000) :
    Calls Try.prog 8 #[.pointer (some ⟨b, 0, none⟩), v] w fun e w' => e = .returned (.tuple #[]) ∧ ∃ g', WrAt w' b g' (bs ++ encS t) ∧ WrStep b g g' w w' := by
  obtain ⟨pa, pl, pc, na, nl, nc, rfl, h1, h2⟩ := hin
  obtain ⟨on, oi0, oi1, ons, ow, _⟩ := ok
  have g1 := flat_sumB t.parts
  have g2 := laid_texts_len t.parts
  have g3 := laid_free_len t.ns
  obtain ⟨kd, n, i, s, parts, ns, wd, m, bd⟩ := t
  simp only [wt] at ow
  simp only at *
  by_cases k0 : kd = 0
  · subst k0; exact lay_0 n on i s pa pl pc na nl nc wd m bd h (by omega)
  by_cases k1 : kd = 1
  · subst k1; exact lay_1 n on i s pa pl pc na nl nc wd m bd h (by omega)
  by_cases k2 : kd = 2
  · subst k2; exact lay_2 n on i s pa pl pc na nl nc wd m bd h (by omega)
  by_cases k3 : kd = 3
  · subst k3; exact lay_3 n on i s pa pl pc na nl nc wd m bd h (by omega)
  by_cases k4 : kd = 4
  · subst k4; exact lay_4 n on i s pa pl pc na nl nc wd m bd h (by omega)
  by_cases k5 : kd = 5
  · subst k5; exact lay_5 n on i s pa pl pc na nl nc wd m bd h (by omega)
  by_cases k6 : kd = 6
  · subst k6; exact lay_6 n on i s pa pl pc na nl nc wd m bd h (by omega)
  by_cases k7 : kd = 7
  · subst k7; exact lay_7 n on i s pa pl pc na nl nc wd m bd h (by omega)
  by_cases k8 : kd = 8
  · subst k8; exact lay_8 n on i s pa pl pc na nl nc wd m bd h (by omega)
  by_cases k9 : kd = 9
  · subst k9; exact lay_9 9 rfl n i s pa pl pc na nl nc wd m bd h on (by omega)
  by_cases k10 : kd = 10
  · subst k10; exact lay_10 10 rfl n i s pa pl pc na nl nc wd m bd h oi0 oi1 (by omega)
  by_cases k11 : kd = 11
  · subst k11; exact lay_11 11 rfl n i s pa pl pc na nl nc wd m bd h ha hB parts h1 (by omega)
  by_cases k12 : kd = 12
  · subst k12; exact lay_12 12 rfl n i s pa pl pc na nl nc wd m bd h (by omega)
  by_cases k13 : kd = 13
  · subst k13; exact lay_13 13 rfl n i s pa pl pc na nl nc wd m bd h (by omega) (by omega)
  by_cases k14 : kd = 14
  · subst k14; exact lay_14 14 rfl n i s pa pl pc na nl nc wd m bd h ha hB ns ons h2 (by omega)
  by_cases k15 : kd = 15
  · subst k15; exact lay_15 15 rfl n i s pa pl pc na nl nc wd m bd h ha hB parts h1 (by omega)
  by_cases k16 : kd = 16
  · subst k16; exact lay_16 16 rfl n i s pa pl pc na nl nc wd m bd h ha hB parts (fun x hx => by have := sumB_mem hx; omega) h1 (by omega)
  have e : encS ⟨kd, n, i, s, parts, ns, wd, m, bd⟩ = [] := by simp [encS, *]
  rw [e]
  exact lay_other kd (by omega) n i s pa pl pc na nl nc wd m bd h

theorem back_any {w : World} {b B : Nat} {S : ByteArray} {p : Nat} {v : Value} (t : StepP) (ok : StepOK t) (hin : StepIn B w v t) (h : RdAt w b S p 0) (hS : S.size ≤ 1000000000000) (hbB : B ≤ b) (r : List UInt8) (hst : Stands S p (encS t) r) :
    Calls Try.prog 32 #[.pointer (some ⟨b, 0, none⟩), v] w fun e w' => e = .returned (.bool true) ∧ RdAt w' b S (p + (encS t).length) 0 ∧ RdStep b w w' := by
  obtain ⟨pa, pl, pc, na, nl, nc, rfl, h1, h2⟩ := hin
  obtain ⟨on, oi0, oi1, ons, ow, _⟩ := ok
  obtain ⟨kd, n, i, s, parts, ns, wd, m, bd⟩ := t
  simp only [wt] at ow
  simp only at *
  have hp : ∀ x ∈ parts, x.size ≤ 1000000000000 := fun x hx => by have := sumB_mem hx; omega
  by_cases k0 : kd = 0
  · subst k0; exact back_0 n on i s pa pl pc na nl nc wd m bd h r hst
  by_cases k1 : kd = 1
  · subst k1; exact back_1 n on i s pa pl pc na nl nc wd m bd h r hst
  by_cases k2 : kd = 2
  · subst k2; exact back_2 n on i s pa pl pc na nl nc wd m bd h r hst
  by_cases k3 : kd = 3
  · subst k3; exact back_3 n on i s pa pl pc na nl nc wd m bd h r hst
  by_cases k4 : kd = 4
  · subst k4; exact back_4 n on i s pa pl pc na nl nc wd m bd h r hst
  by_cases k5 : kd = 5
  · subst k5; exact back_5 n on i s pa pl pc na nl nc wd m bd h r hst
  by_cases k6 : kd = 6
  · subst k6; exact back_6 n on i s pa pl pc na nl nc wd m bd h r hst
  by_cases k7 : kd = 7
  · subst k7; exact back_7 n on i s pa pl pc na nl nc wd m bd h r hst
  by_cases k8 : kd = 8
  · subst k8; exact back_8 n on i s pa pl pc na nl nc wd m bd h r hst
  by_cases k9 : kd = 9
  · subst k9; exact back_9 n on i s pa pl pc na nl nc wd m bd h r hst
  by_cases k10 : kd = 10
  · subst k10; exact back_10 n on i oi0 oi1 s pa pl pc na nl nc wd m bd h r hst
  by_cases k11 : kd = 11
  · subst k11; exact back_11 n i s pa pl pc na nl nc wd m bd h hbB parts h1 hp r hst
  by_cases k12 : kd = 12
  · subst k12; exact back_12 n on i s (by omega) pa pl pc na nl nc wd m bd h r hst
  by_cases k13 : kd = 13
  · subst k13; exact back_13 n i s (by omega) pa pl pc na nl nc wd m bd h r hst
  by_cases k14 : kd = 14
  · subst k14; exact back_14 n i s pa pl pc na nl nc wd m bd h hS hbB ns h2 ons r hst
  by_cases k15 : kd = 15
  · subst k15; exact back_15 n i s pa pl pc na nl nc wd m bd h hS hbB parts h1 hp r hst
  by_cases k16 : kd = 16
  · subst k16; exact back_16 n i s pa pl pc na nl nc wd m bd h hS hbB parts h1 hp r hst
  have e : encS ⟨kd, n, i, s, parts, ns, wd, m, bd⟩ = [] := by simp [encS, *]
  rw [e]
  exact back_none kd (by omega) n i s pa pl pc na nl nc wd m bd h
end Go.Proofs.Ytcbbjicoedeioaa
