/-
  DERIVED. GIVEN WITH THE SEED: THE CARDS: each row of YtnoicjpmfchhiaaDoorRows.lean that lists a variable, with what it lists TIED to the program's text (the seventh form; the later family's looks); each row that meets fmt, with fmt's text TOLD by the authors' own Lean function (tested against real Go, not proved from fmt's source: count such statements apart). THE CARD IS WHAT COUNTS. Prove the row's statement (the work); the ties are given (YtnoicjpmfchhiaaDoorTie.lean); close each card by the builder's one call (the guide's Derived/Test/ToyasCard.lean, 'card_holds'). Laid BY PROGRAM, IN A SANDBOX (cutbox-door.mjs). By AI agents, Wed Nov 11 2026. No macro, syntax, notation, axiom, sorry.
-/
import Derived.Test.YtnoicjpmfchhiaaDoorRows
import GoSem.ClaimSeven
namespace Go.Proofs.YtnoicjpmfchhiaaDoor
namespace Rows

/-- THE TIED CARD OF 'heartwoodlaw02.SumsNames'. -/
def sumsNamesCard : Claim7 := { stood := { row := sumsNamesRow, standIns := [], harness := (true, "9637286ef13b79c4d5c3b77e6d8335c2055c245ea751a38917812f0a3944c0f9"), looks := false }, kinds := [], alts := [], laidByText := true, laidKinds := [.data], laidTests := true, laidLooks := .later }
def SumsNamesCardSaid : Prop := Claim7.holds Tryd.pinned (.plain (OpenSpec.ofChange sumsNamesSpec)) sumsNamesCard

/-- THE SECOND FORM's CARD OF 'heartwoodlaw02.SumsNames'. -/
def sumsNamesUptoCard : Claim7 := { stood := { row := sumsNamesUptoRow, standIns := [], harness := (true, "9637286ef13b79c4d5c3b77e6d8335c2055c245ea751a38917812f0a3944c0f9"), looks := false }, kinds := [], alts := [], laidByText := true, laidKinds := [.data], laidTests := true, laidLooks := .later }
def SumsNamesUptoCardSaid : Prop := Claim7.holds Tryd.pinned (.plain (OpenSpec.upto sumsNamesSpec)) sumsNamesUptoCard
end Rows
end Go.Proofs.YtnoicjpmfchhiaaDoor
