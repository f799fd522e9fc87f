/-
  DERIVED. GIVEN WITH THE SEED: THE CARDS: each row of YtcbnaopcehhdeaaDoorRows.lean that lists a variable, with what it lists TIED to the program's text (the seventh form; the later family's looks); each row that meets fmt, with fmt's text TOLD by the authors' own Lean function (tested against real Go, not proved from fmt's source: count such statements apart). THE CARD IS WHAT COUNTS. Prove the row's statement (the work); the ties are given (YtcbnaopcehhdeaaDoorTie.lean); close each card by the builder's one call (the guide's Derived/Test/ToyasCard.lean, 'card_holds'). Laid BY PROGRAM, IN A SANDBOX (cutbox-door.mjs). By AI agents, Wed Nov 11 2026. No macro, syntax, notation, axiom, sorry.
-/
import Derived.Test.YtcbnaopcehhdeaaDoorRows
import GoSem.ClaimSeven
namespace Go.Proofs.YtcbnaopcehhdeaaDoor
namespace Rows

/-- THE TIED CARD OF 'heartwoodlaw02.SumsCRC'. -/
def sumsCRCCard : Claim7 := { stood := { row := sumsCRCRow, standIns := [], harness := (true, "33bfd81f4e0f068c998ea0432b379396932de96689118a134c2358e5d07d4fed"), looks := false }, kinds := [], alts := [], laidByText := true, laidKinds := [.data], laidTests := true, laidLooks := .later }
def SumsCRCCardSaid : Prop := Claim7.holds Tryd.pinned (.plain (OpenSpec.ofChange sumsCRCSpec)) sumsCRCCard

/-- THE TIED CARD OF 'heartwoodlaw02.SumsMore'. -/
def sumsMoreCard : Claim7 := { stood := { row := sumsMoreRow, standIns := [], harness := (true, "33bfd81f4e0f068c998ea0432b379396932de96689118a134c2358e5d07d4fed"), looks := false }, kinds := [], alts := [], laidByText := true, laidKinds := [.data], laidTests := true, laidLooks := .later }
def SumsMoreCardSaid : Prop := Claim7.holds Tryd.pinned (.plain (OpenSpec.ofChange sumsMoreSpec)) sumsMoreCard

/-- THE TIED CARD OF 'heartwoodlaw02.SumsNil'. -/
def sumsNilCard : Claim7 := { stood := { row := sumsNilRow, standIns := [], harness := (true, "33bfd81f4e0f068c998ea0432b379396932de96689118a134c2358e5d07d4fed"), looks := false }, kinds := [], alts := [], laidByText := true, laidKinds := [.data], laidTests := true, laidLooks := .later }
def SumsNilCardSaid : Prop := Claim7.holds Tryd.pinned (.plain (OpenSpec.ofChange sumsNilSpec)) sumsNilCard

/-- THE TIED CARD OF 'heartwoodlaw02.SumsCut'. -/
def sumsCutCard : Claim7 := { stood := { row := sumsCutRow, standIns := [], harness := (true, "33bfd81f4e0f068c998ea0432b379396932de96689118a134c2358e5d07d4fed"), looks := false }, kinds := [], alts := [], laidByText := true, laidKinds := [.data], laidTests := true, laidLooks := .later }
def SumsCutCardSaid : Prop := Claim7.holds Tryd.pinned (.plain (OpenSpec.ofChange sumsCutSpec)) sumsCutCard

/-- THE SECOND FORM's CARD OF 'heartwoodlaw02.SumsCRC'. -/
def sumsCRCUptoCard : Claim7 := { stood := { row := sumsCRCUptoRow, standIns := [], harness := (true, "33bfd81f4e0f068c998ea0432b379396932de96689118a134c2358e5d07d4fed"), looks := false }, kinds := [], alts := [], laidByText := true, laidKinds := [.data], laidTests := true, laidLooks := .later }
def SumsCRCUptoCardSaid : Prop := Claim7.holds Tryd.pinned (.plain (OpenSpec.upto sumsCRCSpec)) sumsCRCUptoCard

/-- THE SECOND FORM's CARD OF 'heartwoodlaw02.SumsMore'. -/
def sumsMoreUptoCard : Claim7 := { stood := { row := sumsMoreUptoRow, standIns := [], harness := (true, "33bfd81f4e0f068c998ea0432b379396932de96689118a134c2358e5d07d4fed"), looks := false }, kinds := [], alts := [], laidByText := true, laidKinds := [.data], laidTests := true, laidLooks := .later }
def SumsMoreUptoCardSaid : Prop := Claim7.holds Tryd.pinned (.plain (OpenSpec.upto sumsMoreSpec)) sumsMoreUptoCard

/-- THE SECOND FORM's CARD OF 'heartwoodlaw02.SumsNil'. -/
def sumsNilUptoCard : Claim7 := { stood := { row := sumsNilUptoRow, standIns := [], harness := (true, "33bfd81f4e0f068c998ea0432b379396932de96689118a134c2358e5d07d4fed"), looks := false }, kinds := [], alts := [], laidByText := true, laidKinds := [.data], laidTests := true, laidLooks := .later }
def SumsNilUptoCardSaid : Prop := Claim7.holds Tryd.pinned (.plain (OpenSpec.upto sumsNilSpec)) sumsNilUptoCard

/-- THE SECOND FORM's CARD OF 'heartwoodlaw02.SumsCut'. -/
def sumsCutUptoCard : Claim7 := { stood := { row := sumsCutUptoRow, standIns := [], harness := (true, "33bfd81f4e0f068c998ea0432b379396932de96689118a134c2358e5d07d4fed"), looks := false }, kinds := [], alts := [], laidByText := true, laidKinds := [.data], laidTests := true, laidLooks := .later }
def SumsCutUptoCardSaid : Prop := Claim7.holds Tryd.pinned (.plain (OpenSpec.upto sumsCutSpec)) sumsCutUptoCard
end Rows
end Go.Proofs.YtcbnaopcehhdeaaDoor
