/-
  DERIVED. GIVEN WITH THE SEED: THE CARDS: each row of YtepbphgpklphiaaDoorRows.lean that lists a variable, with what it lists TIED to the program's text (the seventh form; the later family's looks); each row that meets fmt, with fmt's text TOLD by the authors' own Lean function (tested against real Go, not proved from fmt's source: count such statements apart). THE CARD IS WHAT COUNTS. Prove the row's statement (the work); the ties are given (YtepbphgpklphiaaDoorTie.lean); close each card by the builder's one call (the guide's Derived/Test/ToyasCard.lean, 'card_holds'). Laid BY PROGRAM, IN A SANDBOX (cutbox-door.mjs). By AI agents, Wed Nov 11 2026. No macro, syntax, notation, axiom, sorry.
-/
import Derived.Test.YtepbphgpklphiaaDoorRows
import GoSem.ClaimSeven
namespace Go.Proofs.YtepbphgpklphiaaDoor
namespace Rows

/-- THE TIED CARD OF 'heartwoodlaw06.MetaNames'. -/
def metaNamesCard : Claim7 := { stood := { row := metaNamesRow, standIns := [], harness := (true, "fda4a75a0a3425853f4e560ed7761b23f7cc732d679f4644a92f71bd76f0c0f5"), looks := false }, kinds := [], alts := [], laidByText := true, laidKinds := [.data, .data, .data], laidTests := true, laidLooks := .later }
def MetaNamesCardSaid : Prop := Claim7.holds Tryd.pinned (.plain (OpenSpec.ofChange metaNamesSpec)) metaNamesCard

/-- THE TIED CARD OF 'heartwoodlaw06.MetaBack'. -/
def metaBackCard : Claim7 := { stood := { row := metaBackRow, standIns := [], harness := (true, "fda4a75a0a3425853f4e560ed7761b23f7cc732d679f4644a92f71bd76f0c0f5"), looks := false }, kinds := [], alts := [], laidByText := true, laidKinds := [.data, .data, .data], laidTests := true, laidLooks := .later }
def MetaBackCardSaid : Prop := Claim7.holds Tryd.pinned (.plain (OpenSpec.ofChange metaBackSpec)) metaBackCard

/-- THE TIED CARD OF 'heartwoodlaw06.MetaTurned'. -/
def metaTurnedCard : Claim7 := { stood := { row := metaTurnedRow, standIns := [], harness := (true, "fda4a75a0a3425853f4e560ed7761b23f7cc732d679f4644a92f71bd76f0c0f5"), looks := false }, kinds := [], alts := [], laidByText := true, laidKinds := [.data, .data, .data], laidTests := true, laidLooks := .later }
def MetaTurnedCardSaid : Prop := Claim7.holds Tryd.pinned (.plain (OpenSpec.ofChange metaTurnedSpec)) metaTurnedCard

/-- THE TIED CARD OF 'heartwoodlaw06.MetaWhole'. -/
def metaWholeCard : Claim7 := { stood := { row := metaWholeRow, standIns := [], harness := (true, "fda4a75a0a3425853f4e560ed7761b23f7cc732d679f4644a92f71bd76f0c0f5"), looks := false }, kinds := [], alts := [], laidByText := true, laidKinds := [.data, .data, .data], laidTests := true, laidLooks := .later }
def MetaWholeCardSaid : Prop := Claim7.holds Tryd.pinned (.plain (OpenSpec.ofChange metaWholeSpec)) metaWholeCard

/-- THE TIED CARD OF 'heartwoodlaw06.MetaGoes'. -/
def metaGoesCard : Claim7 := { stood := { row := metaGoesRow, standIns := [], harness := (true, "fda4a75a0a3425853f4e560ed7761b23f7cc732d679f4644a92f71bd76f0c0f5"), looks := false }, kinds := [], alts := [], laidByText := true, laidKinds := [.data, .data, .data], laidTests := true, laidLooks := .later }
def MetaGoesCardSaid : Prop := Claim7.holds Tryd.pinned (.plain (OpenSpec.ofChange metaGoesSpec)) metaGoesCard

/-- THE TIED CARD OF 'heartwoodlaw06.MetaChecks'. -/
def metaChecksCard : Claim7 := { stood := { row := metaChecksRow, standIns := [], harness := (true, "fda4a75a0a3425853f4e560ed7761b23f7cc732d679f4644a92f71bd76f0c0f5"), looks := false }, kinds := [], alts := [], laidByText := true, laidKinds := [.data, .data, .data], laidTests := true, laidLooks := .later }
def MetaChecksCardSaid : Prop := Claim7.holds Tryd.pinned (.plain (OpenSpec.ofChange metaChecksSpec)) metaChecksCard

/-- THE SECOND FORM's CARD OF 'heartwoodlaw06.MetaNames'. -/
def metaNamesUptoCard : Claim7 := { stood := { row := metaNamesUptoRow, standIns := [], harness := (true, "fda4a75a0a3425853f4e560ed7761b23f7cc732d679f4644a92f71bd76f0c0f5"), looks := false }, kinds := [], alts := [], laidByText := true, laidKinds := [.data, .data, .data], laidTests := true, laidLooks := .later }
def MetaNamesUptoCardSaid : Prop := Claim7.holds Tryd.pinned (.plain (OpenSpec.upto metaNamesSpec)) metaNamesUptoCard

/-- THE SECOND FORM's CARD OF 'heartwoodlaw06.MetaBack'. -/
def metaBackUptoCard : Claim7 := { stood := { row := metaBackUptoRow, standIns := [], harness := (true, "fda4a75a0a3425853f4e560ed7761b23f7cc732d679f4644a92f71bd76f0c0f5"), looks := false }, kinds := [], alts := [], laidByText := true, laidKinds := [.data, .data, .data], laidTests := true, laidLooks := .later }
def MetaBackUptoCardSaid : Prop := Claim7.holds Tryd.pinned (.plain (OpenSpec.upto metaBackSpec)) metaBackUptoCard

/-- THE SECOND FORM's CARD OF 'heartwoodlaw06.MetaTurned'. -/
def metaTurnedUptoCard : Claim7 := { stood := { row := metaTurnedUptoRow, standIns := [], harness := (true, "fda4a75a0a3425853f4e560ed7761b23f7cc732d679f4644a92f71bd76f0c0f5"), looks := false }, kinds := [], alts := [], laidByText := true, laidKinds := [.data, .data, .data], laidTests := true, laidLooks := .later }
def MetaTurnedUptoCardSaid : Prop := Claim7.holds Tryd.pinned (.plain (OpenSpec.upto metaTurnedSpec)) metaTurnedUptoCard

/-- THE SECOND FORM's CARD OF 'heartwoodlaw06.MetaWhole'. -/
def metaWholeUptoCard : Claim7 := { stood := { row := metaWholeUptoRow, standIns := [], harness := (true, "fda4a75a0a3425853f4e560ed7761b23f7cc732d679f4644a92f71bd76f0c0f5"), looks := false }, kinds := [], alts := [], laidByText := true, laidKinds := [.data, .data, .data], laidTests := true, laidLooks := .later }
def MetaWholeUptoCardSaid : Prop := Claim7.holds Tryd.pinned (.plain (OpenSpec.upto metaWholeSpec)) metaWholeUptoCard

/-- THE SECOND FORM's CARD OF 'heartwoodlaw06.MetaGoes'. -/
def metaGoesUptoCard : Claim7 := { stood := { row := metaGoesUptoRow, standIns := [], harness := (true, "fda4a75a0a3425853f4e560ed7761b23f7cc732d679f4644a92f71bd76f0c0f5"), looks := false }, kinds := [], alts := [], laidByText := true, laidKinds := [.data, .data, .data], laidTests := true, laidLooks := .later }
def MetaGoesUptoCardSaid : Prop := Claim7.holds Tryd.pinned (.plain (OpenSpec.upto metaGoesSpec)) metaGoesUptoCard

/-- THE SECOND FORM's CARD OF 'heartwoodlaw06.MetaChecks'. -/
def metaChecksUptoCard : Claim7 := { stood := { row := metaChecksUptoRow, standIns := [], harness := (true, "fda4a75a0a3425853f4e560ed7761b23f7cc732d679f4644a92f71bd76f0c0f5"), looks := false }, kinds := [], alts := [], laidByText := true, laidKinds := [.data, .data, .data], laidTests := true, laidLooks := .later }
def MetaChecksUptoCardSaid : Prop := Claim7.holds Tryd.pinned (.plain (OpenSpec.upto metaChecksSpec)) metaChecksUptoCard
end Rows
end Go.Proofs.YtepbphgpklphiaaDoor
