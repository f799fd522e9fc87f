/- The walk of DiskForks. -/
import Derived.Test.YtjiaepeglghheaaOW
import Derived.Test.YtjiaepeglghheaaOY
namespace Go.Proofs.Ytjiaepeglghheaa
open Go.RowKit

def playsD (D : Dk) (L : List Sp) : Dk := L.foldl playD D
theorem playsD_snoc {D : Dk} {L : List Sp} {s : Sp} {i : Nat} (h : L[i]? = some s) : playsD D (L.take (i + 1)) = playD (playsD D (L.take i)) s := by
  unfold playsD
  rw [List.take_add_one, h, Option.toList_some, List.foldl_append]; rfl
theorem playsD_all {D : Dk} {L : List Sp} : playsD D (L.take L.length) = playsD D L := by rw [List.take_length]
theorem plays_in : ∀ {L : List Sp} {D : Dk} {n : Nat}, DkIn D n → DkIn (playsD D L) (n + L.length)
  | [], D, n, h => h
  | s :: L, D, n, h => by
    have := plays_in (L := L) (play_in (s := s) h)
    rw [List.length_cons, show n + (L.length + 1) = n + 1 + L.length by omega]
    exact this
theorem play_off (D : Dk) (s : Sp) : (playD D s).off = D.off ∧ (playD D s).taken = D.taken := by
  unfold playD
  split
  · unfold dkWrite; split <;> exact ⟨rfl, rfl⟩
  · split
    · unfold dkGrow; split <;> exact ⟨rfl, rfl⟩
    · split
      · split <;> exact ⟨rfl, rfl⟩
      · exact ⟨rfl, rfl⟩
structure IPD (v0 v1 v2 v7 v10 v11 : Value) (a : Act) : Prop where
  size : a.tmps.size = 126
  defers : a.defers = []
  s0 : a.eval (.tmp 0) = v0
  s1 : a.eval (.tmp 1) = v1
  s2 : a.eval (.tmp 2) = v2
  s7 : a.eval (.tmp 7) = v7
  s10 : a.eval (.tmp 10) = v10
  s11 : a.eval (.tmp 11) = v11
theorem IPD.keep {v0 v1 v2 v7 v10 v11 : Value} {a0 a : Act} {env : List (Nat × Value)} (h : IPD v0 v1 v2 v7 v10 v11 a0) (f : Fe a0 env a) (h0 : look env 0 (a0.eval (.tmp 0)) = a0.eval (.tmp 0)) (h1 : look env 1 (a0.eval (.tmp 1)) = a0.eval (.tmp 1)) (h2 : look env 2 (a0.eval (.tmp 2)) = a0.eval (.tmp 2)) (h7 : look env 7 (a0.eval (.tmp 7)) = a0.eval (.tmp 7)) (h10 : look env 10 (a0.eval (.tmp 10)) = a0.eval (.tmp 10)) (h11 : look env 11 (a0.eval (.tmp 11)) = a0.eval (.tmp 11)) : IPD v0 v1 v2 v7 v10 v11 a :=
  ⟨f.size.trans h.size, f.defers.trans h.defers, ((f.at_ 0).trans h0).trans h.s0, ((f.at_ 1).trans h1).trans h.s1, ((f.at_ 2).trans h2).trans h.s2, ((f.at_ 7).trans h7).trans h.s7, ((f.at_ 10).trans h10).trans h.s10, ((f.at_ 11).trans h11).trans h.s11⟩
end Go.Proofs.Ytjiaepeglghheaa
