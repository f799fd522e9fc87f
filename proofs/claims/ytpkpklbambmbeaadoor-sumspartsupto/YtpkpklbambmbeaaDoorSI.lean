/-
  Walks: lent.
-/
import Derived.Test.YtpkpklbambmbeaaDoorSG
namespace Go.Proofs.YtpkpklbambmbeaaDoor
open Go.RowKit

def scells (ss : List ByteArray) : List Value := ss.map Value.string
theorem scells_append (a b : List ByteArray) : scells (a ++ b) = scells a ++ scells b := by simp [scells]
theorem scells_length (a : List ByteArray) : (scells a).length = a.length := by simp [scells]
def markS : ByteArray := ⟨#[109, 97, 114, 107]⟩
theorem Tryd.infoStr : (Tryd.prog.info? 9).map (fun i => (i.zero, i.size, i.bytes)) = some (some (.string ⟨#[]⟩), 1, 16) := by kernel_rfl
/-- Texts that a slice which came in, or was made, holds. -/
structure SAt (w : World) (pa : Option Addr) (pb po : Nat) (ss : List ByteArray) : Prop where
  place : ss ≠ [] → pa = some ⟨pb, po, none⟩ ∧ pb < w.heap.size
  cells : ∀ j s, ss[j]? = some s → w.cell? ⟨pb, po + j, none⟩ = some (.string s)
theorem SAt.same {w w' : World} {pa : Option Addr} {pb po : Nat} {ss : List ByteArray} (h : SAt w pa pb po ss) (s : Same w w') : SAt w' pa pb po ss :=
  ⟨fun e => ⟨(h.place e).1, Nat.lt_of_lt_of_le (h.place e).2 s.size⟩, fun j x hx => s.keep (h.cells j x hx)⟩

/-- What lent leaves: a row of the texts and five marks. -/
def Lent (w w' : World) (ss : List ByteArray) (g cap : Nat) : Prop :=
  w'.ownsRow 0 9 1 (.slice (some ⟨g, 0, none⟩) (ss.length + 5) cap) (ss.length + 5) (scells (ss ++ List.replicate 5 markS)) ∧ w.heap.size ≤ g ∧ Same w w'

end Go.Proofs.YtpkpklbambmbeaaDoor
