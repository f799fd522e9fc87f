/- Split in all its ways, whole: zero halves with an error, or halves that stand in order and make the node. -/
import Derived.Test.YtmgkdnejjemfeaaFJ
import Derived.Test.YtmgkdnejjemfeaaKJ
namespace Go.Proofs.Ytmgkdnejjemfeaa
open Go.RowKit

end Go.Proofs.Ytmgkdnejjemfeaa
namespace Go.Proofs.Ytmgkdnejjemfeaa
open Go.RowKit

/-- Halves' seven cells. -/
def HCells (W : World) (b : Nat) (r1 r2 : Nr) (N1 N2 : Nd) (sp : ByteArray) : Prop := W.cell? ⟨b, 0, none⟩ = some (.slice r1.pa N1.ps.length r1.cp) ∧ W.cell? ⟨b, 1, none⟩ = some (.slice r1.sa N1.ss.length r1.cs) ∧ W.cell? ⟨b, 2, none⟩ = some (.slice r1.ka N1.ks.length r1.ck) ∧ W.cell? ⟨b, 3, none⟩ = some (.string sp) ∧ W.cell? ⟨b, 4, none⟩ = some (.slice r2.pa N2.ps.length r2.cp) ∧ W.cell? ⟨b, 5, none⟩ = some (.slice r2.sa N2.ss.length r2.cs) ∧ W.cell? ⟨b, 6, none⟩ = some (.slice r2.ka N2.ks.length r2.ck)
theorem hcells_row {W : World} {b : Nat} {r1 r2 : Nr} {N1 N2 : Nd} {sp : ByteArray} {t : TypeId} {fr : Nat × Nat} (h : W.heap[b]? = some (.cells (halvesN r1 r2 N1 N2 sp) t fr)) : HCells W b r1 r2 N1 N2 sp :=
  ⟨(cell_of_row _ _ _ _ _ _ h).trans rfl, (cell_of_row _ _ _ _ _ _ h).trans rfl, (cell_of_row _ _ _ _ _ _ h).trans rfl, (cell_of_row _ _ _ _ _ _ h).trans rfl, (cell_of_row _ _ _ _ _ _ h).trans rfl, (cell_of_row _ _ _ _ _ _ h).trans rfl, (cell_of_row _ _ _ _ _ _ h).trans rfl⟩
theorem HCells.keep {W W' : World} {b : Nat} {r1 r2 : Nr} {N1 N2 : Nd} {sp : ByteArray} (h : HCells W b r1 r2 N1 N2 sp) (s : Same W W') : HCells W' b r1 r2 N1 N2 sp := ⟨s.keep h.1, s.keep h.2.1, s.keep h.2.2.1, s.keep h.2.2.2.1, s.keep h.2.2.2.2.1, s.keep h.2.2.2.2.2.1, s.keep h.2.2.2.2.2.2⟩
end Go.Proofs.Ytmgkdnejjemfeaa
