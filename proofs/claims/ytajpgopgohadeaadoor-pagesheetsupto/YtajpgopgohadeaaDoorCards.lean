/-
  DERIVED. GIVEN WITH THE SEED: THE CARDS: each row of YtajpgopgohadeaaDoorRows.lean that lists a variable, with what it lists TIED to the program's text (the seventh form; the later family's looks); each row that meets fmt, with fmt's text TOLD by the authors' own Lean function (tested against real Go, not proved from fmt's source: count such statements apart). THE CARD IS WHAT COUNTS. Prove the row's statement (the work); the ties are given (YtajpgopgohadeaaDoorTie.lean); close each card by the builder's one call (the guide's Derived/Test/ToyasCard.lean, 'card_holds'). Laid BY PROGRAM, IN A SANDBOX (cutbox-door.mjs). By AI agents, Wed Nov 11 2026. No macro, syntax, notation, axiom, sorry.
-/
import Derived.Test.YtajpgopgohadeaaDoorRows
import GoSem.ClaimSeven
namespace Go.Proofs.YtajpgopgohadeaaDoor
namespace Rows

/-- THE TIED CARD OF 'heartwoodlaw05.PageSheets'. -/
def pageSheetsCard : Claim7 := { stood := { row := pageSheetsRow, standIns := [], harness := (true, "c7bb54a082d2cd23c2042b953d509f8ccc0a5e9c6c27c2e9fb4abc0cd9a913a3"), looks := false }, kinds := [], alts := [], laidByText := true, laidKinds := [.data], laidTests := true, laidLooks := .later }
def PageSheetsCardSaid : Prop := Claim7.holds Tryd.pinned (.plain (OpenSpec.ofChange pageSheetsSpec)) pageSheetsCard

/-- THE TIED CARD OF 'heartwoodlaw05.PageAlike'. -/
def pageAlikeCard : Claim7 := { stood := { row := pageAlikeRow, standIns := [], harness := (true, "c7bb54a082d2cd23c2042b953d509f8ccc0a5e9c6c27c2e9fb4abc0cd9a913a3"), looks := false }, kinds := [], alts := [], laidByText := true, laidKinds := [.data], laidTests := true, laidLooks := .later }
def PageAlikeCardSaid : Prop := Claim7.holds Tryd.pinned (.plain (OpenSpec.ofChange pageAlikeSpec)) pageAlikeCard

/-- THE SECOND FORM's CARD OF 'heartwoodlaw05.PageSheets'. -/
def pageSheetsUptoCard : Claim7 := { stood := { row := pageSheetsUptoRow, standIns := [], harness := (true, "c7bb54a082d2cd23c2042b953d509f8ccc0a5e9c6c27c2e9fb4abc0cd9a913a3"), looks := false }, kinds := [], alts := [], laidByText := true, laidKinds := [.data], laidTests := true, laidLooks := .later }
def PageSheetsUptoCardSaid : Prop := Claim7.holds Tryd.pinned (.plain (OpenSpec.upto pageSheetsSpec)) pageSheetsUptoCard

/-- THE SECOND FORM's CARD OF 'heartwoodlaw05.PageAlike'. -/
def pageAlikeUptoCard : Claim7 := { stood := { row := pageAlikeUptoRow, standIns := [], harness := (true, "c7bb54a082d2cd23c2042b953d509f8ccc0a5e9c6c27c2e9fb4abc0cd9a913a3"), looks := false }, kinds := [], alts := [], laidByText := true, laidKinds := [.data], laidTests := true, laidLooks := .later }
def PageAlikeUptoCardSaid : Prop := Claim7.holds Tryd.pinned (.plain (OpenSpec.upto pageAlikeSpec)) pageAlikeUptoCard
end Rows
end Go.Proofs.YtajpgopgohadeaaDoor
