/-
  DERIVED. GIVEN WITH THE SEED: THE CARDS: each row of YtdkkglnkacdhdaaDoorRows.lean that lists a variable, with what it lists TIED to the program's text (the seventh form; the later family's looks); each row that meets fmt, with fmt's text TOLD by the authors' own Lean function (tested against real Go, not proved from fmt's source: count such statements apart). THE CARD IS WHAT COUNTS. Prove the row's statement (the work); the ties are given (YtdkkglnkacdhdaaDoorTie.lean); close each card by the builder's one call (the guide's Derived/Test/ToyasCard.lean, 'card_holds'). Laid BY PROGRAM, IN A SANDBOX (cutbox-door.mjs). By AI agents, Wed Nov 11 2026. No macro, syntax, notation, axiom, sorry.
-/
import Derived.Test.YtdkkglnkacdhdaaDoorRows
import GoSem.ClaimSeven
namespace Go.Proofs.YtdkkglnkacdhdaaDoor
namespace Rows

/-- THE TIED CARD OF 'heartwoodlaw02.SumsSum'. -/
def sumsSumCard : Claim7 := { stood := { row := sumsSumRow, standIns := [], harness := (true, "146f44ec0d17ff59aefcfbb027b3821ab6445bd9323b6c7b60f42365b887b59f"), looks := false }, kinds := [], alts := [], laidByText := true, laidKinds := [.data], laidTests := true, laidLooks := .later }
def SumsSumCardSaid : Prop := Claim7.holds Tryd.pinned (.plain (OpenSpec.ofChange sumsSumSpec)) sumsSumCard

/-- THE TIED CARD OF 'heartwoodlaw02.SumsOf'. -/
def sumsOfCard : Claim7 := { stood := { row := sumsOfRow, standIns := [], harness := (true, "146f44ec0d17ff59aefcfbb027b3821ab6445bd9323b6c7b60f42365b887b59f"), looks := false }, kinds := [], alts := [], laidByText := true, laidKinds := [.data], laidTests := true, laidLooks := .later }
def SumsOfCardSaid : Prop := Claim7.holds Tryd.pinned (.plain (OpenSpec.ofChange sumsOfSpec)) sumsOfCard

/-- THE TIED CARD OF 'heartwoodlaw02.SumsDigest'. -/
def sumsDigestCard : Claim7 := { stood := { row := sumsDigestRow, standIns := [], harness := (true, "146f44ec0d17ff59aefcfbb027b3821ab6445bd9323b6c7b60f42365b887b59f"), looks := false }, kinds := [], alts := [], laidByText := true, laidKinds := [.data], laidTests := true, laidLooks := .later }
def SumsDigestCardSaid : Prop := Claim7.holds Tryd.pinned (.plain (OpenSpec.ofChange sumsDigestSpec)) sumsDigestCard

/-- THE TIED CARD OF 'heartwoodlaw02.SumsClash'. -/
def sumsClashCard : Claim7 := { stood := { row := sumsClashRow, standIns := [], harness := (true, "146f44ec0d17ff59aefcfbb027b3821ab6445bd9323b6c7b60f42365b887b59f"), looks := false }, kinds := [], alts := [], laidByText := true, laidKinds := [.data], laidTests := true, laidLooks := .later }
def SumsClashCardSaid : Prop := Claim7.holds Tryd.pinned (.plain (OpenSpec.ofChange sumsClashSpec)) sumsClashCard

/-- THE TIED CARD OF 'heartwoodlaw02.SumsHash'. -/
def sumsHashCard : Claim7 := { stood := { row := sumsHashRow, standIns := [], harness := (true, "146f44ec0d17ff59aefcfbb027b3821ab6445bd9323b6c7b60f42365b887b59f"), looks := false }, kinds := [], alts := [], laidByText := true, laidKinds := [.data], laidTests := true, laidLooks := .later }
def SumsHashCardSaid : Prop := Claim7.holds Tryd.pinned (.plain (OpenSpec.ofChange sumsHashSpec)) sumsHashCard

/-- THE TIED CARD OF 'heartwoodlaw02.SumsCut'. -/
def sumsCutCard : Claim7 := { stood := { row := sumsCutRow, standIns := [], harness := (true, "146f44ec0d17ff59aefcfbb027b3821ab6445bd9323b6c7b60f42365b887b59f"), looks := false }, kinds := [], alts := [], laidByText := true, laidKinds := [.data], laidTests := true, laidLooks := .later }
def SumsCutCardSaid : Prop := Claim7.holds Tryd.pinned (.plain (OpenSpec.ofChange sumsCutSpec)) sumsCutCard

/-- THE SECOND FORM's CARD OF 'heartwoodlaw02.SumsSum'. -/
def sumsSumUptoCard : Claim7 := { stood := { row := sumsSumUptoRow, standIns := [], harness := (true, "146f44ec0d17ff59aefcfbb027b3821ab6445bd9323b6c7b60f42365b887b59f"), looks := false }, kinds := [], alts := [], laidByText := true, laidKinds := [.data], laidTests := true, laidLooks := .later }
def SumsSumUptoCardSaid : Prop := Claim7.holds Tryd.pinned (.plain (OpenSpec.upto sumsSumSpec)) sumsSumUptoCard

/-- THE SECOND FORM's CARD OF 'heartwoodlaw02.SumsOf'. -/
def sumsOfUptoCard : Claim7 := { stood := { row := sumsOfUptoRow, standIns := [], harness := (true, "146f44ec0d17ff59aefcfbb027b3821ab6445bd9323b6c7b60f42365b887b59f"), looks := false }, kinds := [], alts := [], laidByText := true, laidKinds := [.data], laidTests := true, laidLooks := .later }
def SumsOfUptoCardSaid : Prop := Claim7.holds Tryd.pinned (.plain (OpenSpec.upto sumsOfSpec)) sumsOfUptoCard

/-- THE SECOND FORM's CARD OF 'heartwoodlaw02.SumsDigest'. -/
def sumsDigestUptoCard : Claim7 := { stood := { row := sumsDigestUptoRow, standIns := [], harness := (true, "146f44ec0d17ff59aefcfbb027b3821ab6445bd9323b6c7b60f42365b887b59f"), looks := false }, kinds := [], alts := [], laidByText := true, laidKinds := [.data], laidTests := true, laidLooks := .later }
def SumsDigestUptoCardSaid : Prop := Claim7.holds Tryd.pinned (.plain (OpenSpec.upto sumsDigestSpec)) sumsDigestUptoCard

/-- THE SECOND FORM's CARD OF 'heartwoodlaw02.SumsClash'. -/
def sumsClashUptoCard : Claim7 := { stood := { row := sumsClashUptoRow, standIns := [], harness := (true, "146f44ec0d17ff59aefcfbb027b3821ab6445bd9323b6c7b60f42365b887b59f"), looks := false }, kinds := [], alts := [], laidByText := true, laidKinds := [.data], laidTests := true, laidLooks := .later }
def SumsClashUptoCardSaid : Prop := Claim7.holds Tryd.pinned (.plain (OpenSpec.upto sumsClashSpec)) sumsClashUptoCard

/-- THE SECOND FORM's CARD OF 'heartwoodlaw02.SumsHash'. -/
def sumsHashUptoCard : Claim7 := { stood := { row := sumsHashUptoRow, standIns := [], harness := (true, "146f44ec0d17ff59aefcfbb027b3821ab6445bd9323b6c7b60f42365b887b59f"), looks := false }, kinds := [], alts := [], laidByText := true, laidKinds := [.data], laidTests := true, laidLooks := .later }
def SumsHashUptoCardSaid : Prop := Claim7.holds Tryd.pinned (.plain (OpenSpec.upto sumsHashSpec)) sumsHashUptoCard

/-- THE SECOND FORM's CARD OF 'heartwoodlaw02.SumsCut'. -/
def sumsCutUptoCard : Claim7 := { stood := { row := sumsCutUptoRow, standIns := [], harness := (true, "146f44ec0d17ff59aefcfbb027b3821ab6445bd9323b6c7b60f42365b887b59f"), looks := false }, kinds := [], alts := [], laidByText := true, laidKinds := [.data], laidTests := true, laidLooks := .later }
def SumsCutUptoCardSaid : Prop := Claim7.holds Tryd.pinned (.plain (OpenSpec.upto sumsCutSpec)) sumsCutUptoCard
end Rows
end Go.Proofs.YtdkkglnkacdhdaaDoor
