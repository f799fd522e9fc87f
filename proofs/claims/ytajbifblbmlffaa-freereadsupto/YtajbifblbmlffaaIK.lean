/- free: numbers that come in, opened. -/
import Derived.Test.YtajbifblbmlffaaIEJ
import Derived.Deep.Slices
import Derived.Deep.Strs
namespace Go.Proofs.Ytajbifblbmlffaa
open Go.ChangeShapes Go.WideShapes Go.ChangeAt Go.RowKit Go.Joins

theorem u32_nat {u : Int} (h : (Lit.int .u32 u).wf = true) : ∃ k : Nat, u = (k : Int) ∧ k < 4294967296 := by
  obtain ⟨h1, h2⟩ := bounds_u32 h
  obtain ⟨k, rfl⟩ := Int.eq_ofNat_of_zero_le h1
  exact ⟨k, rfl, by omega⟩
end Go.Proofs.Ytajbifblbmlffaa
