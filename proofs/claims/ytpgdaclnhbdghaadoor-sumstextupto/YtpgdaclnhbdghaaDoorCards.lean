/-
  DERIVED. GIVEN WITH THE SEED: THE CARDS: each row of YtpgdaclnhbdghaaDoorRows.lean that lists a variable, with what it lists TIED to the program's text (the seventh form; the later family's looks); each row that meets fmt, with fmt's text TOLD by the authors' own Lean function (tested against real Go, not proved from fmt's source: count such statements apart). THE CARD IS WHAT COUNTS. Prove the row's statement (the work); the ties are given (YtpgdaclnhbdghaaDoorTie.lean); close each card by the builder's one call (the guide's Derived/Test/ToyasCard.lean, 'card_holds'). Laid BY PROGRAM, IN A SANDBOX (cutbox-door.mjs). By AI agents, Wed Nov 11 2026. No macro, syntax, notation, axiom, sorry.
-/
import Derived.Test.YtpgdaclnhbdghaaDoorRows
import GoSem.ClaimSeven
namespace Go.Proofs.YtpgdaclnhbdghaaDoor
namespace Rows

/-- THE TIED CARD OF 'heartwoodlaw02.SumsText'. -/
def sumsTextCard : Claim7 := { stood := { row := sumsTextRow, standIns := [], harness := (true, "382cd614307ea8e33d521b1188fd16f46c7871b6974a37cfa58370118d99c4e6"), looks := false }, kinds := [], alts := [], laidByText := true, laidKinds := [.data], laidTests := true, laidLooks := .later }
def SumsTextCardSaid : Prop := Claim7.holds Tryd.pinned (.plain (OpenSpec.ofChange sumsTextSpec)) sumsTextCard

/-- THE TIED CARD OF 'heartwoodlaw02.SumsParts'. -/
def sumsPartsCard : Claim7 := { stood := { row := sumsPartsRow, standIns := [], harness := (true, "382cd614307ea8e33d521b1188fd16f46c7871b6974a37cfa58370118d99c4e6"), looks := false }, kinds := [], alts := [], laidByText := true, laidKinds := [.data], laidTests := true, laidLooks := .later }
def SumsPartsCardSaid : Prop := Claim7.holds Tryd.pinned (.plain (OpenSpec.ofChange sumsPartsSpec)) sumsPartsCard

/-- THE TIED CARD OF 'heartwoodlaw02.SumsOneText'. -/
def sumsOneTextCard : Claim7 := { stood := { row := sumsOneTextRow, standIns := [], harness := (true, "382cd614307ea8e33d521b1188fd16f46c7871b6974a37cfa58370118d99c4e6"), looks := false }, kinds := [], alts := [], laidByText := true, laidKinds := [.data], laidTests := true, laidLooks := .later }
def SumsOneTextCardSaid : Prop := Claim7.holds Tryd.pinned (.plain (OpenSpec.ofChange sumsOneTextSpec)) sumsOneTextCard

/-- THE TIED CARD OF 'heartwoodlaw02.SumsShow'. -/
def sumsShowCard : Claim7 := { stood := { row := sumsShowRow, standIns := [], harness := (true, "382cd614307ea8e33d521b1188fd16f46c7871b6974a37cfa58370118d99c4e6"), looks := false }, kinds := [], alts := [], laidByText := true, laidKinds := [.data], laidTests := true, laidLooks := .later }
def SumsShowCardSaid : Prop := Claim7.holds Tryd.pinned (.plain (OpenSpec.ofChange sumsShowSpec)) sumsShowCard

/-- THE SECOND FORM's CARD OF 'heartwoodlaw02.SumsText'. -/
def sumsTextUptoCard : Claim7 := { stood := { row := sumsTextUptoRow, standIns := [], harness := (true, "382cd614307ea8e33d521b1188fd16f46c7871b6974a37cfa58370118d99c4e6"), looks := false }, kinds := [], alts := [], laidByText := true, laidKinds := [.data], laidTests := true, laidLooks := .later }
def SumsTextUptoCardSaid : Prop := Claim7.holds Tryd.pinned (.plain (OpenSpec.upto sumsTextSpec)) sumsTextUptoCard

/-- THE SECOND FORM's CARD OF 'heartwoodlaw02.SumsParts'. -/
def sumsPartsUptoCard : Claim7 := { stood := { row := sumsPartsUptoRow, standIns := [], harness := (true, "382cd614307ea8e33d521b1188fd16f46c7871b6974a37cfa58370118d99c4e6"), looks := false }, kinds := [], alts := [], laidByText := true, laidKinds := [.data], laidTests := true, laidLooks := .later }
def SumsPartsUptoCardSaid : Prop := Claim7.holds Tryd.pinned (.plain (OpenSpec.upto sumsPartsSpec)) sumsPartsUptoCard

/-- THE SECOND FORM's CARD OF 'heartwoodlaw02.SumsOneText'. -/
def sumsOneTextUptoCard : Claim7 := { stood := { row := sumsOneTextUptoRow, standIns := [], harness := (true, "382cd614307ea8e33d521b1188fd16f46c7871b6974a37cfa58370118d99c4e6"), looks := false }, kinds := [], alts := [], laidByText := true, laidKinds := [.data], laidTests := true, laidLooks := .later }
def SumsOneTextUptoCardSaid : Prop := Claim7.holds Tryd.pinned (.plain (OpenSpec.upto sumsOneTextSpec)) sumsOneTextUptoCard

/-- THE SECOND FORM's CARD OF 'heartwoodlaw02.SumsShow'. -/
def sumsShowUptoCard : Claim7 := { stood := { row := sumsShowUptoRow, standIns := [], harness := (true, "382cd614307ea8e33d521b1188fd16f46c7871b6974a37cfa58370118d99c4e6"), looks := false }, kinds := [], alts := [], laidByText := true, laidKinds := [.data], laidTests := true, laidLooks := .later }
def SumsShowUptoCardSaid : Prop := Claim7.holds Tryd.pinned (.plain (OpenSpec.upto sumsShowSpec)) sumsShowUptoCard
end Rows
end Go.Proofs.YtpgdaclnhbdghaaDoor
