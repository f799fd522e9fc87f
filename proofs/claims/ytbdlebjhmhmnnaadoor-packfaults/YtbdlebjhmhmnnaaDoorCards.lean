/-
  DERIVED. GIVEN WITH THE SEED: THE CARDS: each row of YtbdlebjhmhmnnaaDoorRows.lean that lists a variable, with what it lists TIED to the program's text (the seventh form; the later family's looks); each row that meets fmt, with fmt's text TOLD by the authors' own Lean function (tested against real Go, not proved from fmt's source: count such statements apart). THE CARD IS WHAT COUNTS. Prove the row's statement (the work); the ties are given (YtbdlebjhmhmnnaaDoorTie.lean); close each card by the builder's one call (the guide's Derived/Test/ToyasCard.lean, 'card_holds'). Laid BY PROGRAM, IN A SANDBOX (cutbox-door.mjs). By AI agents, Wed Nov 11 2026. No macro, syntax, notation, axiom, sorry.
-/
import Derived.Test.YtbdlebjhmhmnnaaDoorRows
import GoSem.ClaimSeven
namespace Go.Proofs.YtbdlebjhmhmnnaaDoor
namespace Rows

/-- THE TIED CARD OF 'heartwoodlaw01.PackFaults'. -/
def packFaultsCard : Claim7 := { stood := { row := packFaultsRow, standIns := [], harness := (true, "630ba8873e15c744eb85952fea712d3e34f01d061d1695d1e394a3efb4eac46a"), looks := true }, kinds := [], alts := [], laidByText := true, laidKinds := [.data, .data, .data], laidTests := true, laidLooks := .later }
def PackFaultsCardSaid : Prop := Claim7.holds Tryd.pinned (.plain (OpenSpec.ofChange packFaultsSpec)) packFaultsCard

/-- THE SECOND FORM's CARD OF 'heartwoodlaw01.PackFaults'. -/
def packFaultsUptoCard : Claim7 := { stood := { row := packFaultsUptoRow, standIns := [], harness := (true, "630ba8873e15c744eb85952fea712d3e34f01d061d1695d1e394a3efb4eac46a"), looks := true }, kinds := [], alts := [], laidByText := true, laidKinds := [.data, .data, .data], laidTests := true, laidLooks := .later }
def PackFaultsUptoCardSaid : Prop := Claim7.holds Tryd.pinned (.plain (OpenSpec.upto packFaultsSpec)) packFaultsUptoCard
end Rows
end Go.Proofs.YtbdlebjhmhmnnaaDoor
