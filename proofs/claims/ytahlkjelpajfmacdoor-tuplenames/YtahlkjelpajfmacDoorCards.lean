/-
  DERIVED. GIVEN WITH THE SEED: THE CARDS: each row of YtahlkjelpajfmacDoorRows.lean that lists a variable, with what it lists TIED to the program's text (the seventh form; the later family's looks); each row that meets fmt, with fmt's text TOLD by the authors' own Lean function (tested against real Go, not proved from fmt's source: count such statements apart). THE CARD IS WHAT COUNTS. Prove the row's statement (the work); the ties are given (YtahlkjelpajfmacDoorTie.lean); close each card by the builder's one call (the guide's Derived/Test/ToyasCard.lean, 'card_holds'). Laid BY PROGRAM, IN A SANDBOX (cutbox-door.mjs). By AI agents, Wed Nov 11 2026. No macro, syntax, notation, axiom, sorry.
-/
import Derived.Test.YtahlkjelpajfmacDoorRows
import GoSem.ClaimSeven
namespace Go.Proofs.YtahlkjelpajfmacDoor
namespace Rows

/-- THE TIED CARD OF 'heartwoodlaw03.TupleTotal'. -/
def tupleTotalCard : Claim7 := { stood := { row := tupleTotalRow, standIns := [], harness := (true, "7f4c7b8f543b68de5748d94a9ac0eeb74a0d7ff082fb7997abf4885c359bf478"), looks := false }, kinds := [], alts := [], laidByText := true, laidKinds := [.data, .data, .data], laidTests := true, laidLooks := .later }
def TupleTotalCardSaid : Prop := Claim7.holds Tryd.pinned (.plain (OpenSpec.ofChange tupleTotalSpec)) tupleTotalCard

/-- THE TIED CARD OF 'heartwoodlaw03.TupleDeep'. -/
def tupleDeepCard : Claim7 := { stood := { row := tupleDeepRow, standIns := [], harness := (true, "7f4c7b8f543b68de5748d94a9ac0eeb74a0d7ff082fb7997abf4885c359bf478"), looks := false }, kinds := [], alts := [], laidByText := true, laidKinds := [.data, .data, .data], laidTests := true, laidLooks := .later }
def TupleDeepCardSaid : Prop := Claim7.holds Tryd.pinned (.plain (OpenSpec.ofChange tupleDeepSpec)) tupleDeepCard

/-- THE TIED CARD OF 'heartwoodlaw03.TupleNames'. -/
def tupleNamesCard : Claim7 := { stood := { row := tupleNamesRow, standIns := [], harness := (true, "7f4c7b8f543b68de5748d94a9ac0eeb74a0d7ff082fb7997abf4885c359bf478"), looks := false }, kinds := [], alts := [], laidByText := true, laidKinds := [.data, .data, .data], laidTests := true, laidLooks := .later }
def TupleNamesCardSaid : Prop := Claim7.holds Tryd.pinned (.plain (OpenSpec.ofChange tupleNamesSpec)) tupleNamesCard

/-- THE SECOND FORM's CARD OF 'heartwoodlaw03.TupleTotal'. -/
def tupleTotalUptoCard : Claim7 := { stood := { row := tupleTotalUptoRow, standIns := [], harness := (true, "7f4c7b8f543b68de5748d94a9ac0eeb74a0d7ff082fb7997abf4885c359bf478"), looks := false }, kinds := [], alts := [], laidByText := true, laidKinds := [.data, .data, .data], laidTests := true, laidLooks := .later }
def TupleTotalUptoCardSaid : Prop := Claim7.holds Tryd.pinned (.plain (OpenSpec.upto tupleTotalSpec)) tupleTotalUptoCard

/-- THE SECOND FORM's CARD OF 'heartwoodlaw03.TupleDeep'. -/
def tupleDeepUptoCard : Claim7 := { stood := { row := tupleDeepUptoRow, standIns := [], harness := (true, "7f4c7b8f543b68de5748d94a9ac0eeb74a0d7ff082fb7997abf4885c359bf478"), looks := false }, kinds := [], alts := [], laidByText := true, laidKinds := [.data, .data, .data], laidTests := true, laidLooks := .later }
def TupleDeepUptoCardSaid : Prop := Claim7.holds Tryd.pinned (.plain (OpenSpec.upto tupleDeepSpec)) tupleDeepUptoCard

/-- THE SECOND FORM's CARD OF 'heartwoodlaw03.TupleNames'. -/
def tupleNamesUptoCard : Claim7 := { stood := { row := tupleNamesUptoRow, standIns := [], harness := (true, "7f4c7b8f543b68de5748d94a9ac0eeb74a0d7ff082fb7997abf4885c359bf478"), looks := false }, kinds := [], alts := [], laidByText := true, laidKinds := [.data, .data, .data], laidTests := true, laidLooks := .later }
def TupleNamesUptoCardSaid : Prop := Claim7.holds Tryd.pinned (.plain (OpenSpec.upto tupleNamesSpec)) tupleNamesUptoCard
end Rows
end Go.Proofs.YtahlkjelpajfmacDoor
