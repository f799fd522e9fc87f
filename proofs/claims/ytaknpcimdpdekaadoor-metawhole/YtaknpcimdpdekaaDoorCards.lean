/-
  DERIVED. GIVEN WITH THE SEED: THE CARDS: each row of YtaknpcimdpdekaaDoorRows.lean that lists a variable, with what it lists TIED to the program's text (the seventh form; the later family's looks); each row that meets fmt, with fmt's text TOLD by the authors' own Lean function (tested against real Go, not proved from fmt's source: count such statements apart). THE CARD IS WHAT COUNTS. Prove the row's statement (the work); the ties are given (YtaknpcimdpdekaaDoorTie.lean); close each card by the builder's one call (the guide's Derived/Test/ToyasCard.lean, 'card_holds'). Laid BY PROGRAM, IN A SANDBOX (cutbox-door.mjs). By AI agents, Wed Nov 11 2026. No macro, syntax, notation, axiom, sorry.
-/
import Derived.Test.YtaknpcimdpdekaaDoorRows
import GoSem.ClaimSeven
namespace Go.Proofs.YtaknpcimdpdekaaDoor
namespace Rows

/-- THE TIED CARD OF 'heartwoodlaw06.MetaWhole'. -/
def metaWholeCard : Claim7 := { stood := { row := metaWholeRow, standIns := [], harness := (true, "b871d7d54a588dd441518ea053adfee9d4c16b1fee9076390a5a5ce5976669c1"), looks := false }, kinds := [], alts := [], laidByText := true, laidKinds := [.data, .data, .data], laidTests := true, laidLooks := .later }
def MetaWholeCardSaid : Prop := Claim7.holds Tryd.pinned (.plain (OpenSpec.ofChange metaWholeSpec)) metaWholeCard

/-- THE TIED CARD OF 'heartwoodlaw06.MetaEncodes'. -/
def metaEncodesCard : Claim7 := { stood := { row := metaEncodesRow, standIns := [], harness := (true, "b871d7d54a588dd441518ea053adfee9d4c16b1fee9076390a5a5ce5976669c1"), looks := false }, kinds := [], alts := [], laidByText := true, laidKinds := [.data, .data, .data], laidTests := true, laidLooks := .later }
def MetaEncodesCardSaid : Prop := Claim7.holds Tryd.pinned (.plain (OpenSpec.ofChange metaEncodesSpec)) metaEncodesCard

/-- THE TIED CARD OF 'heartwoodlaw06.MetaDecodes'. -/
def metaDecodesCard : Claim7 := { stood := { row := metaDecodesRow, standIns := [], harness := (true, "b871d7d54a588dd441518ea053adfee9d4c16b1fee9076390a5a5ce5976669c1"), looks := false }, kinds := [], alts := [], laidByText := true, laidKinds := [.data, .data, .data], laidTests := true, laidLooks := .later }
def MetaDecodesCardSaid : Prop := Claim7.holds Tryd.pinned (.plain (OpenSpec.ofChange metaDecodesSpec)) metaDecodesCard

/-- THE TIED CARD OF 'heartwoodlaw06.MetaPicks'. -/
def metaPicksCard : Claim7 := { stood := { row := metaPicksRow, standIns := [], harness := (true, "b871d7d54a588dd441518ea053adfee9d4c16b1fee9076390a5a5ce5976669c1"), looks := false }, kinds := [], alts := [], laidByText := true, laidKinds := [.data, .data, .data], laidTests := true, laidLooks := .later }
def MetaPicksCardSaid : Prop := Claim7.holds Tryd.pinned (.plain (OpenSpec.ofChange metaPicksSpec)) metaPicksCard

/-- THE SECOND FORM's CARD OF 'heartwoodlaw06.MetaWhole'. -/
def metaWholeUptoCard : Claim7 := { stood := { row := metaWholeUptoRow, standIns := [], harness := (true, "b871d7d54a588dd441518ea053adfee9d4c16b1fee9076390a5a5ce5976669c1"), looks := false }, kinds := [], alts := [], laidByText := true, laidKinds := [.data, .data, .data], laidTests := true, laidLooks := .later }
def MetaWholeUptoCardSaid : Prop := Claim7.holds Tryd.pinned (.plain (OpenSpec.upto metaWholeSpec)) metaWholeUptoCard

/-- THE SECOND FORM's CARD OF 'heartwoodlaw06.MetaEncodes'. -/
def metaEncodesUptoCard : Claim7 := { stood := { row := metaEncodesUptoRow, standIns := [], harness := (true, "b871d7d54a588dd441518ea053adfee9d4c16b1fee9076390a5a5ce5976669c1"), looks := false }, kinds := [], alts := [], laidByText := true, laidKinds := [.data, .data, .data], laidTests := true, laidLooks := .later }
def MetaEncodesUptoCardSaid : Prop := Claim7.holds Tryd.pinned (.plain (OpenSpec.upto metaEncodesSpec)) metaEncodesUptoCard

/-- THE SECOND FORM's CARD OF 'heartwoodlaw06.MetaDecodes'. -/
def metaDecodesUptoCard : Claim7 := { stood := { row := metaDecodesUptoRow, standIns := [], harness := (true, "b871d7d54a588dd441518ea053adfee9d4c16b1fee9076390a5a5ce5976669c1"), looks := false }, kinds := [], alts := [], laidByText := true, laidKinds := [.data, .data, .data], laidTests := true, laidLooks := .later }
def MetaDecodesUptoCardSaid : Prop := Claim7.holds Tryd.pinned (.plain (OpenSpec.upto metaDecodesSpec)) metaDecodesUptoCard

/-- THE SECOND FORM's CARD OF 'heartwoodlaw06.MetaPicks'. -/
def metaPicksUptoCard : Claim7 := { stood := { row := metaPicksUptoRow, standIns := [], harness := (true, "b871d7d54a588dd441518ea053adfee9d4c16b1fee9076390a5a5ce5976669c1"), looks := false }, kinds := [], alts := [], laidByText := true, laidKinds := [.data, .data, .data], laidTests := true, laidLooks := .later }
def MetaPicksUptoCardSaid : Prop := Claim7.holds Tryd.pinned (.plain (OpenSpec.upto metaPicksSpec)) metaPicksUptoCard
end Rows
end Go.Proofs.YtaknpcimdpdekaaDoor
