/-
  DERIVED. GIVEN WITH THE SEED: THE CARDS: each row of YtdnfcpkdibojmaaDoorRows.lean that lists a variable, with what it lists TIED to the program's text (the seventh form; the later family's looks); each row that meets fmt, with fmt's text TOLD by the authors' own Lean function (tested against real Go, not proved from fmt's source: count such statements apart). THE CARD IS WHAT COUNTS. Prove the row's statement (the work); the ties are given (YtdnfcpkdibojmaaDoorTie.lean); close each card by the builder's one call (the guide's Derived/Test/ToyasCard.lean, 'card_holds'). Laid BY PROGRAM, IN A SANDBOX (cutbox-door.mjs). By AI agents, Wed Nov 11 2026. No macro, syntax, notation, axiom, sorry.
-/
import Derived.Test.YtdnfcpkdibojmaaDoorRows
import GoSem.ClaimSeven
namespace Go.Proofs.YtdnfcpkdibojmaaDoor
namespace Rows

/-- THE TIED CARD OF 'heartwoodlaw05.PageNames'. -/
def pageNamesCard : Claim7 := { stood := { row := pageNamesRow, standIns := [], harness := (true, "940cf477db0ee3bca0981f3c9644e4e436b6e4a315a7a3ac0298e7688da7f678"), looks := false }, kinds := [], alts := [], laidByText := true, laidKinds := [.data], laidTests := true, laidLooks := .later }
def PageNamesCardSaid : Prop := Claim7.holds Tryd.pinned (.plain (OpenSpec.ofChange pageNamesSpec)) pageNamesCard

/-- THE TIED CARD OF 'heartwoodlaw05.PageCheck'. -/
def pageCheckCard : Claim7 := { stood := { row := pageCheckRow, standIns := [], harness := (true, "940cf477db0ee3bca0981f3c9644e4e436b6e4a315a7a3ac0298e7688da7f678"), looks := false }, kinds := [], alts := [], laidByText := true, laidKinds := [.data], laidTests := true, laidLooks := .later }
def PageCheckCardSaid : Prop := Claim7.holds Tryd.pinned (.plain (OpenSpec.ofChange pageCheckSpec)) pageCheckCard

/-- THE TIED CARD OF 'heartwoodlaw05.PageWrite'. -/
def pageWriteCard : Claim7 := { stood := { row := pageWriteRow, standIns := [], harness := (true, "940cf477db0ee3bca0981f3c9644e4e436b6e4a315a7a3ac0298e7688da7f678"), looks := false }, kinds := [], alts := [], laidByText := true, laidKinds := [.data], laidTests := true, laidLooks := .later }
def PageWriteCardSaid : Prop := Claim7.holds Tryd.pinned (.plain (OpenSpec.ofChange pageWriteSpec)) pageWriteCard

/-- THE TIED CARD OF 'heartwoodlaw05.PageRead'. -/
def pageReadCard : Claim7 := { stood := { row := pageReadRow, standIns := [], harness := (true, "940cf477db0ee3bca0981f3c9644e4e436b6e4a315a7a3ac0298e7688da7f678"), looks := false }, kinds := [], alts := [], laidByText := true, laidKinds := [.data], laidTests := true, laidLooks := .later }
def PageReadCardSaid : Prop := Claim7.holds Tryd.pinned (.plain (OpenSpec.ofChange pageReadSpec)) pageReadCard

/-- THE TIED CARD OF 'heartwoodlaw05.PageBack'. -/
def pageBackCard : Claim7 := { stood := { row := pageBackRow, standIns := [], harness := (true, "940cf477db0ee3bca0981f3c9644e4e436b6e4a315a7a3ac0298e7688da7f678"), looks := false }, kinds := [], alts := [], laidByText := true, laidKinds := [.data], laidTests := true, laidLooks := .later }
def PageBackCardSaid : Prop := Claim7.holds Tryd.pinned (.plain (OpenSpec.ofChange pageBackSpec)) pageBackCard

/-- THE TIED CARD OF 'heartwoodlaw05.PageTurned'. -/
def pageTurnedCard : Claim7 := { stood := { row := pageTurnedRow, standIns := [], harness := (true, "940cf477db0ee3bca0981f3c9644e4e436b6e4a315a7a3ac0298e7688da7f678"), looks := false }, kinds := [], alts := [], laidByText := true, laidKinds := [.data], laidTests := true, laidLooks := .later }
def PageTurnedCardSaid : Prop := Claim7.holds Tryd.pinned (.plain (OpenSpec.ofChange pageTurnedSpec)) pageTurnedCard

/-- THE SECOND FORM's CARD OF 'heartwoodlaw05.PageNames'. -/
def pageNamesUptoCard : Claim7 := { stood := { row := pageNamesUptoRow, standIns := [], harness := (true, "940cf477db0ee3bca0981f3c9644e4e436b6e4a315a7a3ac0298e7688da7f678"), looks := false }, kinds := [], alts := [], laidByText := true, laidKinds := [.data], laidTests := true, laidLooks := .later }
def PageNamesUptoCardSaid : Prop := Claim7.holds Tryd.pinned (.plain (OpenSpec.upto pageNamesSpec)) pageNamesUptoCard

/-- THE SECOND FORM's CARD OF 'heartwoodlaw05.PageCheck'. -/
def pageCheckUptoCard : Claim7 := { stood := { row := pageCheckUptoRow, standIns := [], harness := (true, "940cf477db0ee3bca0981f3c9644e4e436b6e4a315a7a3ac0298e7688da7f678"), looks := false }, kinds := [], alts := [], laidByText := true, laidKinds := [.data], laidTests := true, laidLooks := .later }
def PageCheckUptoCardSaid : Prop := Claim7.holds Tryd.pinned (.plain (OpenSpec.upto pageCheckSpec)) pageCheckUptoCard

/-- THE SECOND FORM's CARD OF 'heartwoodlaw05.PageWrite'. -/
def pageWriteUptoCard : Claim7 := { stood := { row := pageWriteUptoRow, standIns := [], harness := (true, "940cf477db0ee3bca0981f3c9644e4e436b6e4a315a7a3ac0298e7688da7f678"), looks := false }, kinds := [], alts := [], laidByText := true, laidKinds := [.data], laidTests := true, laidLooks := .later }
def PageWriteUptoCardSaid : Prop := Claim7.holds Tryd.pinned (.plain (OpenSpec.upto pageWriteSpec)) pageWriteUptoCard

/-- THE SECOND FORM's CARD OF 'heartwoodlaw05.PageRead'. -/
def pageReadUptoCard : Claim7 := { stood := { row := pageReadUptoRow, standIns := [], harness := (true, "940cf477db0ee3bca0981f3c9644e4e436b6e4a315a7a3ac0298e7688da7f678"), looks := false }, kinds := [], alts := [], laidByText := true, laidKinds := [.data], laidTests := true, laidLooks := .later }
def PageReadUptoCardSaid : Prop := Claim7.holds Tryd.pinned (.plain (OpenSpec.upto pageReadSpec)) pageReadUptoCard

/-- THE SECOND FORM's CARD OF 'heartwoodlaw05.PageBack'. -/
def pageBackUptoCard : Claim7 := { stood := { row := pageBackUptoRow, standIns := [], harness := (true, "940cf477db0ee3bca0981f3c9644e4e436b6e4a315a7a3ac0298e7688da7f678"), looks := false }, kinds := [], alts := [], laidByText := true, laidKinds := [.data], laidTests := true, laidLooks := .later }
def PageBackUptoCardSaid : Prop := Claim7.holds Tryd.pinned (.plain (OpenSpec.upto pageBackSpec)) pageBackUptoCard

/-- THE SECOND FORM's CARD OF 'heartwoodlaw05.PageTurned'. -/
def pageTurnedUptoCard : Claim7 := { stood := { row := pageTurnedUptoRow, standIns := [], harness := (true, "940cf477db0ee3bca0981f3c9644e4e436b6e4a315a7a3ac0298e7688da7f678"), looks := false }, kinds := [], alts := [], laidByText := true, laidKinds := [.data], laidTests := true, laidLooks := .later }
def PageTurnedUptoCardSaid : Prop := Claim7.holds Tryd.pinned (.plain (OpenSpec.upto pageTurnedSpec)) pageTurnedUptoCard
end Rows
end Go.Proofs.YtdnfcpkdibojmaaDoor
