/-
  DERIVED. GIVEN WITH THE SEED: THE CARDS: each row of YtajpgopgohadeaaGreatDoorRows.lean that lists a variable, with what it lists TIED to the program's text (the seventh form; the later family's looks); each row that meets fmt, with fmt's text TOLD by the authors' own Lean function (tested against real Go, not proved from fmt's source: count such statements apart). THE CARD IS WHAT COUNTS. Prove the row's statement (the work); the ties are given (YtajpgopgohadeaaGreatDoorTie.lean); close each card by the builder's one call (the guide's Derived/Test/ToyasCard.lean, 'card_holds'). Laid BY PROGRAM, IN A SANDBOX (cutbox-door.mjs). By AI agents, Wed Nov 11 2026. No macro, syntax, notation, axiom, sorry.
-/
import Derived.Test.YtajpgopgohadeaaGreatDoorRows
import GoSem.ClaimSeven
namespace Go.Proofs.YtajpgopgohadeaaGreatDoor
namespace Rows

/-- THE TIED CARD OF 'heartwoodlaw05.PageShelf'. -/
def pageShelfCard : Claim7 := { stood := { row := pageShelfRow, standIns := [], harness := (true, "3ea886a838fcea3d9be6f28fe6746c4858fb42532bad977f9659bfcf469e5d89"), looks := false }, kinds := [], alts := [], laidByText := true, laidKinds := [.data], laidTests := true, laidLooks := .later }
def PageShelfCardSaid : Prop := Claim7.holds Tryz.pinned (.plain (OpenSpec.ofChange pageShelfSpec)) pageShelfCard

/-- THE TIED CARD OF 'heartwoodlaw05.PageNil'. -/
def pageNilCard : Claim7 := { stood := { row := pageNilRow, standIns := [], harness := (true, "3ea886a838fcea3d9be6f28fe6746c4858fb42532bad977f9659bfcf469e5d89"), looks := false }, kinds := [], alts := [], laidByText := true, laidKinds := [.data], laidTests := true, laidLooks := .later }
def PageNilCardSaid : Prop := Claim7.holds Tryz.pinned (.plain (OpenSpec.ofChange pageNilSpec)) pageNilCard

/-- THE SECOND FORM's CARD OF 'heartwoodlaw05.PageShelf'. -/
def pageShelfUptoCard : Claim7 := { stood := { row := pageShelfUptoRow, standIns := [], harness := (true, "3ea886a838fcea3d9be6f28fe6746c4858fb42532bad977f9659bfcf469e5d89"), looks := false }, kinds := [], alts := [], laidByText := true, laidKinds := [.data], laidTests := true, laidLooks := .later }
def PageShelfUptoCardSaid : Prop := Claim7.holds Tryz.pinned (.plain (OpenSpec.upto pageShelfSpec)) pageShelfUptoCard

/-- THE SECOND FORM's CARD OF 'heartwoodlaw05.PageNil'. -/
def pageNilUptoCard : Claim7 := { stood := { row := pageNilUptoRow, standIns := [], harness := (true, "3ea886a838fcea3d9be6f28fe6746c4858fb42532bad977f9659bfcf469e5d89"), looks := false }, kinds := [], alts := [], laidByText := true, laidKinds := [.data], laidTests := true, laidLooks := .later }
def PageNilUptoCardSaid : Prop := Claim7.holds Tryz.pinned (.plain (OpenSpec.upto pageNilSpec)) pageNilUptoCard
end Rows
end Go.Proofs.YtajpgopgohadeaaGreatDoor
