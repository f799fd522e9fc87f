/- GraftPuts: the law. -/
import Derived.Test.YtkkjalmedogmeaaBC
import Derived.Test.YtkkjalmedogmeaaBD
namespace Go.Proofs.Ytkkjalmedogmeaa
open Go.RowKit

theorem gputs_walk {p q : Int} {r : Nr} {N : Nd} {k v : ByteArray} (w : World) (h : NdIn w r N) (h1 : 3 * N.ps.length ≤ 1048576) (h2 : N.ss.length ≤ 1048576) (h3 : N.ks.length ≤ 1048576) :
    Calls Try.prog 3 #[frameV p q, ndV r N, .agg #[.string k, .string v]] w fun e w' => e = .returned (.bool true) ∧ Same w w' := by
  by_cases h0 : putE p q N k v = 0
  · obtain ⟨hE, hk1, hk2, hv⟩ := putE_zero h0
    have hl := (askE_zero hE).2
    unfold leafG at hl
    simp only [Bool.and_eq_true, decide_eq_true_eq] at hl
    refine gputs_core (M := insR k v N.ps) (b := (findP k N.ps 0).2) (E := 0) w h h1 h2 h3 ?_ (fun W gp cp gs cs gk ck B l => put_ok W (l.nd h.at_) hl.1 hl.2 hk1 hk2 hv (by show N.ps.length ≤ cp; have := l.caps.1; omega) (fun e => by cases e) (fun a e => by cases e; exact ⟨gp, 0, rfl⟩) (by omega)) (fun W s => rput_ok W (h.at_.same s) (by omega) h2 h3 h0)
    have := (ins_lenE (k := k) (v := v) (ps := N.ps) rfl).1
    omega
  · refine gputs_core (M := []) (b := false) (E := putE p q N k v) w h h1 h2 h3 (by simp) (fun W gp cp gs cs gk ck B l => ?_) (fun W s => ?_)
    · refine (put_bad W (l.nd h.at_) h0).mono ?_
      rintro e w' ⟨rfl, sm⟩
      exact ⟨none, 0, rfl, ⟨own_nil⟩, sm⟩
    · refine (rput_bad W (h.at_.same s) (by omega) h2 h3 h0).mono ?_
      rintro e w' ⟨rfl, sm⟩
      exact ⟨none, 0, rfl, ⟨own_nil⟩, sm⟩
end Go.Proofs.Ytkkjalmedogmeaa
