/- free: batches that come in, opened. -/
import Derived.Test.YtajbifblbmlffaaIK
import Derived.Test.YtajbifblbmlffaaYD
namespace Go.Proofs.Ytajbifblbmlffaa
open Go.ChangeShapes Go.WideShapes Go.ChangeAt Go.RowKit Go.Joins

theorem pair_list {α : Type} (l : List α) (h : l.length = 2) : ∃ a b, l = [a, b] := by
  match l, h with
  | [a, b], _ => exact ⟨a, b, rfl⟩
instance : Inhabited Bt := ⟨⟨0, none, 0, 0, 0, []⟩⟩
end Go.Proofs.Ytajbifblbmlffaa
