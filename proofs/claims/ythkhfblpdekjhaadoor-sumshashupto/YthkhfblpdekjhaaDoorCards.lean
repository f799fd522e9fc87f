/-
  DERIVED. GIVEN WITH THE SEED: THE CARDS: each row of YthkhfblpdekjhaaDoorRows.lean that lists a variable, with what it lists TIED to the program's text (the seventh form; the later family's looks); each row that meets fmt, with fmt's text TOLD by the authors' own Lean function (tested against real Go, not proved from fmt's source: count such statements apart). THE CARD IS WHAT COUNTS. Prove the row's statement (the work); the ties are given (YthkhfblpdekjhaaDoorTie.lean); close each card by the builder's one call (the guide's Derived/Test/ToyasCard.lean, 'card_holds'). Laid BY PROGRAM, IN A SANDBOX (cutbox-door.mjs). By AI agents, Wed Nov 11 2026. No macro, syntax, notation, axiom, sorry.
-/
import Derived.Test.YthkhfblpdekjhaaDoorRows
import GoSem.ClaimSeven
namespace Go.Proofs.YthkhfblpdekjhaaDoor
namespace Rows

/-- THE TIED CARD OF 'heartwoodlaw02.SumsHash'. -/
def sumsHashCard : Claim7 := { stood := { row := sumsHashRow, standIns := [], harness := (true, "b6701844551e48b3a4c3b0c45c61e4e13db5e78df030e8df30327935f1de273e"), looks := false }, kinds := [], alts := [], laidByText := true, laidKinds := [.data], laidTests := true, laidLooks := .later }
def SumsHashCardSaid : Prop := Claim7.holds Tryd.pinned (.plain (OpenSpec.ofChange sumsHashSpec)) sumsHashCard

/-- THE TIED CARD OF 'heartwoodlaw02.SumsCut'. -/
def sumsCutCard : Claim7 := { stood := { row := sumsCutRow, standIns := [], harness := (true, "b6701844551e48b3a4c3b0c45c61e4e13db5e78df030e8df30327935f1de273e"), looks := false }, kinds := [], alts := [], laidByText := true, laidKinds := [.data], laidTests := true, laidLooks := .later }
def SumsCutCardSaid : Prop := Claim7.holds Tryd.pinned (.plain (OpenSpec.ofChange sumsCutSpec)) sumsCutCard

/-- THE TIED CARD OF 'heartwoodlaw02.SumsMany'. -/
def sumsManyCard : Claim7 := { stood := { row := sumsManyRow, standIns := [], harness := (true, "b6701844551e48b3a4c3b0c45c61e4e13db5e78df030e8df30327935f1de273e"), looks := false }, kinds := [], alts := [], laidByText := true, laidKinds := [.data], laidTests := true, laidLooks := .later }
def SumsManyCardSaid : Prop := Claim7.holds Tryd.pinned (.plain (OpenSpec.ofChange sumsManySpec)) sumsManyCard

/-- THE TIED CARD OF 'heartwoodlaw02.SumsShow'. -/
def sumsShowCard : Claim7 := { stood := { row := sumsShowRow, standIns := [], harness := (true, "b6701844551e48b3a4c3b0c45c61e4e13db5e78df030e8df30327935f1de273e"), looks := false }, kinds := [], alts := [], laidByText := true, laidKinds := [.data], laidTests := true, laidLooks := .later }
def SumsShowCardSaid : Prop := Claim7.holds Tryd.pinned (.plain (OpenSpec.ofChange sumsShowSpec)) sumsShowCard

/-- THE TIED CARD OF 'heartwoodlaw02.SumsRead'. -/
def sumsReadCard : Claim7 := { stood := { row := sumsReadRow, standIns := [], harness := (true, "b6701844551e48b3a4c3b0c45c61e4e13db5e78df030e8df30327935f1de273e"), looks := false }, kinds := [], alts := [], laidByText := true, laidKinds := [.data], laidTests := true, laidLooks := .later }
def SumsReadCardSaid : Prop := Claim7.holds Tryd.pinned (.plain (OpenSpec.ofChange sumsReadSpec)) sumsReadCard

/-- THE SECOND FORM's CARD OF 'heartwoodlaw02.SumsHash'. -/
def sumsHashUptoCard : Claim7 := { stood := { row := sumsHashUptoRow, standIns := [], harness := (true, "b6701844551e48b3a4c3b0c45c61e4e13db5e78df030e8df30327935f1de273e"), looks := false }, kinds := [], alts := [], laidByText := true, laidKinds := [.data], laidTests := true, laidLooks := .later }
def SumsHashUptoCardSaid : Prop := Claim7.holds Tryd.pinned (.plain (OpenSpec.upto sumsHashSpec)) sumsHashUptoCard

/-- THE SECOND FORM's CARD OF 'heartwoodlaw02.SumsCut'. -/
def sumsCutUptoCard : Claim7 := { stood := { row := sumsCutUptoRow, standIns := [], harness := (true, "b6701844551e48b3a4c3b0c45c61e4e13db5e78df030e8df30327935f1de273e"), looks := false }, kinds := [], alts := [], laidByText := true, laidKinds := [.data], laidTests := true, laidLooks := .later }
def SumsCutUptoCardSaid : Prop := Claim7.holds Tryd.pinned (.plain (OpenSpec.upto sumsCutSpec)) sumsCutUptoCard

/-- THE SECOND FORM's CARD OF 'heartwoodlaw02.SumsMany'. -/
def sumsManyUptoCard : Claim7 := { stood := { row := sumsManyUptoRow, standIns := [], harness := (true, "b6701844551e48b3a4c3b0c45c61e4e13db5e78df030e8df30327935f1de273e"), looks := false }, kinds := [], alts := [], laidByText := true, laidKinds := [.data], laidTests := true, laidLooks := .later }
def SumsManyUptoCardSaid : Prop := Claim7.holds Tryd.pinned (.plain (OpenSpec.upto sumsManySpec)) sumsManyUptoCard

/-- THE SECOND FORM's CARD OF 'heartwoodlaw02.SumsShow'. -/
def sumsShowUptoCard : Claim7 := { stood := { row := sumsShowUptoRow, standIns := [], harness := (true, "b6701844551e48b3a4c3b0c45c61e4e13db5e78df030e8df30327935f1de273e"), looks := false }, kinds := [], alts := [], laidByText := true, laidKinds := [.data], laidTests := true, laidLooks := .later }
def SumsShowUptoCardSaid : Prop := Claim7.holds Tryd.pinned (.plain (OpenSpec.upto sumsShowSpec)) sumsShowUptoCard

/-- THE SECOND FORM's CARD OF 'heartwoodlaw02.SumsRead'. -/
def sumsReadUptoCard : Claim7 := { stood := { row := sumsReadUptoRow, standIns := [], harness := (true, "b6701844551e48b3a4c3b0c45c61e4e13db5e78df030e8df30327935f1de273e"), looks := false }, kinds := [], alts := [], laidByText := true, laidKinds := [.data], laidTests := true, laidLooks := .later }
def SumsReadUptoCardSaid : Prop := Claim7.holds Tryd.pinned (.plain (OpenSpec.upto sumsReadSpec)) sumsReadUptoCard
end Rows
end Go.Proofs.YthkhfblpdekjhaaDoor
