/-
  DERIVED. GIVEN WITH THE SEED: THE CARDS: each row of YtmdapkdnfjnmbaaDoorRows.lean that lists a variable, with what it lists TIED to the program's text (the seventh form; the later family's looks); each row that meets fmt, with fmt's text TOLD by the authors' own Lean function (tested against real Go, not proved from fmt's source: count such statements apart). THE CARD IS WHAT COUNTS. Prove the row's statement (the work); the ties are given (YtmdapkdnfjnmbaaDoorTie.lean); close each card by the builder's one call (the guide's Derived/Test/ToyasCard.lean, 'card_holds'). Laid BY PROGRAM, IN A SANDBOX (cutbox-door.mjs). By AI agents, Wed Nov 11 2026. No macro, syntax, notation, axiom, sorry.
-/
import Derived.Test.YtmdapkdnfjnmbaaDoorRows
import GoSem.ClaimSeven
namespace Go.Proofs.YtmdapkdnfjnmbaaDoor
namespace Rows

/-- THE TIED CARD OF 'heartwoodlaw02.SumsJoin'. -/
def sumsJoinCard : Claim7 := { stood := { row := sumsJoinRow, standIns := [], harness := (true, "74afea11996c16d7a015ef1075fa582b188350de5f4b901e2d17d1d88d71a89e"), looks := false }, kinds := [], alts := [], laidByText := true, laidKinds := [.data], laidTests := true, laidLooks := .later }
def SumsJoinCardSaid : Prop := Claim7.holds Tryd.pinned (.plain (OpenSpec.ofChange sumsJoinSpec)) sumsJoinCard

/-- THE TIED CARD OF 'heartwoodlaw02.SumsTogether'. -/
def sumsTogetherCard : Claim7 := { stood := { row := sumsTogetherRow, standIns := [], harness := (true, "74afea11996c16d7a015ef1075fa582b188350de5f4b901e2d17d1d88d71a89e"), looks := false }, kinds := [], alts := [], laidByText := true, laidKinds := [.data], laidTests := true, laidLooks := .later }
def SumsTogetherCardSaid : Prop := Claim7.holds Tryd.pinned (.plain (OpenSpec.ofChange sumsTogetherSpec)) sumsTogetherCard

/-- THE TIED CARD OF 'heartwoodlaw02.SumsTurned'. -/
def sumsTurnedCard : Claim7 := { stood := { row := sumsTurnedRow, standIns := [], harness := (true, "74afea11996c16d7a015ef1075fa582b188350de5f4b901e2d17d1d88d71a89e"), looks := false }, kinds := [], alts := [], laidByText := true, laidKinds := [.data], laidTests := true, laidLooks := .later }
def SumsTurnedCardSaid : Prop := Claim7.holds Tryd.pinned (.plain (OpenSpec.ofChange sumsTurnedSpec)) sumsTurnedCard

/-- THE SECOND FORM's CARD OF 'heartwoodlaw02.SumsJoin'. -/
def sumsJoinUptoCard : Claim7 := { stood := { row := sumsJoinUptoRow, standIns := [], harness := (true, "74afea11996c16d7a015ef1075fa582b188350de5f4b901e2d17d1d88d71a89e"), looks := false }, kinds := [], alts := [], laidByText := true, laidKinds := [.data], laidTests := true, laidLooks := .later }
def SumsJoinUptoCardSaid : Prop := Claim7.holds Tryd.pinned (.plain (OpenSpec.upto sumsJoinSpec)) sumsJoinUptoCard

/-- THE SECOND FORM's CARD OF 'heartwoodlaw02.SumsTogether'. -/
def sumsTogetherUptoCard : Claim7 := { stood := { row := sumsTogetherUptoRow, standIns := [], harness := (true, "74afea11996c16d7a015ef1075fa582b188350de5f4b901e2d17d1d88d71a89e"), looks := false }, kinds := [], alts := [], laidByText := true, laidKinds := [.data], laidTests := true, laidLooks := .later }
def SumsTogetherUptoCardSaid : Prop := Claim7.holds Tryd.pinned (.plain (OpenSpec.upto sumsTogetherSpec)) sumsTogetherUptoCard

/-- THE SECOND FORM's CARD OF 'heartwoodlaw02.SumsTurned'. -/
def sumsTurnedUptoCard : Claim7 := { stood := { row := sumsTurnedUptoRow, standIns := [], harness := (true, "74afea11996c16d7a015ef1075fa582b188350de5f4b901e2d17d1d88d71a89e"), looks := false }, kinds := [], alts := [], laidByText := true, laidKinds := [.data], laidTests := true, laidLooks := .later }
def SumsTurnedUptoCardSaid : Prop := Claim7.holds Tryd.pinned (.plain (OpenSpec.upto sumsTurnedSpec)) sumsTurnedUptoCard
end Rows
end Go.Proofs.YtmdapkdnfjnmbaaDoor
