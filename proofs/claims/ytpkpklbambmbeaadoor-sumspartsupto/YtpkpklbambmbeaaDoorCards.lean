/-
  DERIVED. GIVEN WITH THE SEED: THE CARDS: each row of YtpkpklbambmbeaaDoorRows.lean that lists a variable, with what it lists TIED to the program's text (the seventh form; the later family's looks); each row that meets fmt, with fmt's text TOLD by the authors' own Lean function (tested against real Go, not proved from fmt's source: count such statements apart). THE CARD IS WHAT COUNTS. Prove the row's statement (the work); the ties are given (YtpkpklbambmbeaaDoorTie.lean); close each card by the builder's one call (the guide's Derived/Test/ToyasCard.lean, 'card_holds'). Laid BY PROGRAM, IN A SANDBOX (cutbox-door.mjs). By AI agents, Wed Nov 11 2026. No macro, syntax, notation, axiom, sorry.
-/
import Derived.Test.YtpkpklbambmbeaaDoorRows
import GoSem.ClaimSeven
namespace Go.Proofs.YtpkpklbambmbeaaDoor
namespace Rows

/-- THE TIED CARD OF 'heartwoodlaw02.SumsNames'. -/
def sumsNamesCard : Claim7 := { stood := { row := sumsNamesRow, standIns := [], harness := (true, "9993391b2f691ca5329464ad1ac7b00f005fc44a84503373aa6c60c897aa1eb1"), looks := false }, kinds := [], alts := [], laidByText := true, laidKinds := [.data], laidTests := true, laidLooks := .later }
def SumsNamesCardSaid : Prop := Claim7.holds Tryd.pinned (.plain (OpenSpec.ofChange sumsNamesSpec)) sumsNamesCard

/-- THE TIED CARD OF 'heartwoodlaw02.SumsParts'. -/
def sumsPartsCard : Claim7 := { stood := { row := sumsPartsRow, standIns := [], harness := (true, "9993391b2f691ca5329464ad1ac7b00f005fc44a84503373aa6c60c897aa1eb1"), looks := false }, kinds := [], alts := [], laidByText := true, laidKinds := [.data], laidTests := true, laidLooks := .later }
def SumsPartsCardSaid : Prop := Claim7.holds Tryd.pinned (.plain (OpenSpec.ofChange sumsPartsSpec)) sumsPartsCard

/-- THE SECOND FORM's CARD OF 'heartwoodlaw02.SumsNames'. -/
def sumsNamesUptoCard : Claim7 := { stood := { row := sumsNamesUptoRow, standIns := [], harness := (true, "9993391b2f691ca5329464ad1ac7b00f005fc44a84503373aa6c60c897aa1eb1"), looks := false }, kinds := [], alts := [], laidByText := true, laidKinds := [.data], laidTests := true, laidLooks := .later }
def SumsNamesUptoCardSaid : Prop := Claim7.holds Tryd.pinned (.plain (OpenSpec.upto sumsNamesSpec)) sumsNamesUptoCard

/-- THE SECOND FORM's CARD OF 'heartwoodlaw02.SumsParts'. -/
def sumsPartsUptoCard : Claim7 := { stood := { row := sumsPartsUptoRow, standIns := [], harness := (true, "9993391b2f691ca5329464ad1ac7b00f005fc44a84503373aa6c60c897aa1eb1"), looks := false }, kinds := [], alts := [], laidByText := true, laidKinds := [.data], laidTests := true, laidLooks := .later }
def SumsPartsUptoCardSaid : Prop := Claim7.holds Tryd.pinned (.plain (OpenSpec.upto sumsPartsSpec)) sumsPartsUptoCard
end Rows
end Go.Proofs.YtpkpklbambmbeaaDoor
