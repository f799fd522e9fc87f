/-
  DERIVED. GIVEN WITH THE SEED: THE CARDS: each row of YtjhnehhiahoelaaDoorRows.lean that lists a variable, with what it lists TIED to the program's text (the seventh form; the later family's looks); each row that meets fmt, with fmt's text TOLD by the authors' own Lean function (tested against real Go, not proved from fmt's source: count such statements apart). THE CARD IS WHAT COUNTS. Prove the row's statement (the work); the ties are given (YtjhnehhiahoelaaDoorTie.lean); close each card by the builder's one call (the guide's Derived/Test/ToyasCard.lean, 'card_holds'). Laid BY PROGRAM, IN A SANDBOX (cutbox-door.mjs). By AI agents, Wed Nov 11 2026. No macro, syntax, notation, axiom, sorry.
-/
import Derived.Test.YtjhnehhiahoelaaDoorRows
import GoSem.ClaimSeven
namespace Go.Proofs.YtjhnehhiahoelaaDoor
namespace Rows

/-- THE TIED CARD OF 'heartwoodlaw03.TupleTotal'. -/
def tupleTotalCard : Claim7 := { stood := { row := tupleTotalRow, standIns := [], harness := (true, "752032588c6c2362d87a0fd3ece98fac266d4923f4a41d62088899a053f8ec83"), looks := false }, kinds := [], alts := [], laidByText := true, laidKinds := [.data, .data, .data], laidTests := true, laidLooks := .later }
def TupleTotalCardSaid : Prop := Claim7.holds Tryd.pinned (.plain (OpenSpec.ofChange tupleTotalSpec)) tupleTotalCard

/-- THE TIED CARD OF 'heartwoodlaw03.TupleDeep'. -/
def tupleDeepCard : Claim7 := { stood := { row := tupleDeepRow, standIns := [], harness := (true, "752032588c6c2362d87a0fd3ece98fac266d4923f4a41d62088899a053f8ec83"), looks := false }, kinds := [], alts := [], laidByText := true, laidKinds := [.data, .data, .data], laidTests := true, laidLooks := .later }
def TupleDeepCardSaid : Prop := Claim7.holds Tryd.pinned (.plain (OpenSpec.ofChange tupleDeepSpec)) tupleDeepCard

/-- THE SECOND FORM's CARD OF 'heartwoodlaw03.TupleTotal'. -/
def tupleTotalUptoCard : Claim7 := { stood := { row := tupleTotalUptoRow, standIns := [], harness := (true, "752032588c6c2362d87a0fd3ece98fac266d4923f4a41d62088899a053f8ec83"), looks := false }, kinds := [], alts := [], laidByText := true, laidKinds := [.data, .data, .data], laidTests := true, laidLooks := .later }
def TupleTotalUptoCardSaid : Prop := Claim7.holds Tryd.pinned (.plain (OpenSpec.upto tupleTotalSpec)) tupleTotalUptoCard

/-- THE SECOND FORM's CARD OF 'heartwoodlaw03.TupleDeep'. -/
def tupleDeepUptoCard : Claim7 := { stood := { row := tupleDeepUptoRow, standIns := [], harness := (true, "752032588c6c2362d87a0fd3ece98fac266d4923f4a41d62088899a053f8ec83"), looks := false }, kinds := [], alts := [], laidByText := true, laidKinds := [.data, .data, .data], laidTests := true, laidLooks := .later }
def TupleDeepUptoCardSaid : Prop := Claim7.holds Tryd.pinned (.plain (OpenSpec.upto tupleDeepSpec)) tupleDeepUptoCard
end Rows
end Go.Proofs.YtjhnehhiahoelaaDoor
