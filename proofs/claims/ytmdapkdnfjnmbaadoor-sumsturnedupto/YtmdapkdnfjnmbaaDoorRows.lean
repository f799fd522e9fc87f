/-
  NARROWER THAN 'FOR EVERY INPUT', by the rows' own cells (each row's printed sentence says how): SumsJoin: laid · SumsTogether: laid · SumsTurned: laid.
  DERIVED. THE GIVEN ROWS OF THIS SEAT. 3 by the template 'for every input the law returns true; each argument reads behind the call as it read before'; 0 by the template 'total and deterministic' (their statements: YtmdapkdnfjnmbaaDoorTotals.lean).
  GIVEN WITH THE SEED: the statements are not yours to turn. If you find one false, say at which input.
  Laid BY PROGRAM, IN A SANDBOX (cutbox-rows.mjs): the forced cells as the released guide's own fill.sh prints them over the translation 9e1f0495beb54b63… (all of the seat's roots in one cut). By AI agents, Wed Nov 11 2026. No macro, syntax, notation, axiom, sorry.
-/
import Derived.Test.YtmdapkdnfjnmbaaDoorChecked
import GoSem.Claim
import GoSem.ClaimJoined
import GoSem.ClaimMapViews
import Derived.JoinedTies
import Derived.KernelRfl
namespace Go.Proofs.YtmdapkdnfjnmbaaDoor
/- THE CELL 'sum', in the pinned program and in every row, IS THE sha256 OF THE DUMP (.gsa) THAT YtmdapkdnfjnmbaaDoorProg.lean LOADS. Nothing in Lean hashes anything: it is a label: what it is worth is what the hold of that sum in a sandbox is worth. -/
noncomputable def Tryd.pinned : Pinned := { name := "ytmdapkdnfjnmbaadoor", sum := "9e1f0495beb54b6333ed7fda33c3108dab20ef271c383463c9429e417d150111", checked := Tryd.checked }
namespace Rows
def none {H : Type} : Left H := { results := [], args := [] }

/- WHAT THE LISTED PACKAGE-LEVEL VARIABLES READ AS WHEN THE CALL BEGINS. Each datum BY PROGRAM (the guide's laid-datum.mjs) off the statement by which the dump's own 'gosem.cut.vars' lays the variable. In a bare row this is a premise. The card (YtmdapkdnfjnmbaaDoorCards.lean) ties it to the program's text. -/
def laid_heartwood_sums_nibbles {H : Type} : DataW H := .agg [.lit (.int .u32 0), .lit (.int .u32 498536548), .lit (.int .u32 997073096), .lit (.int .u32 651767980), .lit (.int .u32 1994146192), .lit (.int .u32 1802195444), .lit (.int .u32 1303535960), .lit (.int .u32 1342533948), .lit (.int .u32 3988292384), .lit (.int .u32 4027552580), .lit (.int .u32 3604390888), .lit (.int .u32 3412177804), .lit (.int .u32 2607071920), .lit (.int .u32 2262029012), .lit (.int .u32 2685067896), .lit (.int .u32 3183342108)]

/-- 'heartwoodlaw02.SumsJoin': WHATEVER THE INPUT: true; the input reads as it did. -/
def sumsJoinSpec : ChangeSpec := { name := "sumsJoin", fn := fun _ => fun
  | [d1, d2, d3] => { results := [.lit (.bool true)], args := [d1, d2, d3] }
  | _ => none }
def sumsJoinRow : OpenClaim := { program := "ytmdapkdnfjnmbaadoor", sum := "9e1f0495beb54b6333ed7fda33c3108dab20ef271c383463c9429e417d150111", func := "heartwood/heartwoodlaw02.SumsJoin", spec := "sumsJoin", recurses := true, named := ["heartwood/sums.nibbles"], apart := false, laid := [("heartwood/sums.nibbles", laid_heartwood_sums_nibbles)] }
def SumsJoinSaid : Prop := sumsJoinRow.holds Tryd.pinned (OpenSpec.ofChange sumsJoinSpec)

/-- ITS FALSE NEIGHBOUR: 'it returns false'. Refute it at one input. -/
def sumsJoinWrong : ChangeSpec := { name := "sumsJoin", fn := fun _ => fun
  | [d1, d2, d3] => { results := [.lit (.bool false)], args := [d1, d2, d3] }
  | _ => none }
def SumsJoinWrongFalsely : Prop := sumsJoinRow.holds Tryd.pinned (OpenSpec.ofChange sumsJoinWrong)

/-- 'heartwoodlaw02.SumsTogether': WHATEVER THE INPUT: true; the input reads as it did. -/
def sumsTogetherSpec : ChangeSpec := { name := "sumsTogether", fn := fun _ => fun
  | [d1, d2, d3] => { results := [.lit (.bool true)], args := [d1, d2, d3] }
  | _ => none }
def sumsTogetherRow : OpenClaim := { program := "ytmdapkdnfjnmbaadoor", sum := "9e1f0495beb54b6333ed7fda33c3108dab20ef271c383463c9429e417d150111", func := "heartwood/heartwoodlaw02.SumsTogether", spec := "sumsTogether", named := ["heartwood/sums.nibbles"], apart := false, laid := [("heartwood/sums.nibbles", laid_heartwood_sums_nibbles)] }
def SumsTogetherSaid : Prop := sumsTogetherRow.holds Tryd.pinned (OpenSpec.ofChange sumsTogetherSpec)

/-- ITS FALSE NEIGHBOUR: 'it returns false'. Refute it at one input. -/
def sumsTogetherWrong : ChangeSpec := { name := "sumsTogether", fn := fun _ => fun
  | [d1, d2, d3] => { results := [.lit (.bool false)], args := [d1, d2, d3] }
  | _ => none }
def SumsTogetherWrongFalsely : Prop := sumsTogetherRow.holds Tryd.pinned (OpenSpec.ofChange sumsTogetherWrong)

/-- 'heartwoodlaw02.SumsTurned': WHATEVER THE INPUT: true; the input reads as it did. -/
def sumsTurnedSpec : ChangeSpec := { name := "sumsTurned", fn := fun _ => fun
  | [d1, d2, d3] => { results := [.lit (.bool true)], args := [d1, d2, d3] }
  | _ => none }
def sumsTurnedRow : OpenClaim := { program := "ytmdapkdnfjnmbaadoor", sum := "9e1f0495beb54b6333ed7fda33c3108dab20ef271c383463c9429e417d150111", func := "heartwood/heartwoodlaw02.SumsTurned", spec := "sumsTurned", named := ["heartwood/sums.nibbles"], apart := false, laid := [("heartwood/sums.nibbles", laid_heartwood_sums_nibbles)] }
def SumsTurnedSaid : Prop := sumsTurnedRow.holds Tryd.pinned (OpenSpec.ofChange sumsTurnedSpec)

/-- ITS FALSE NEIGHBOUR: 'it returns false'. Refute it at one input. -/
def sumsTurnedWrong : ChangeSpec := { name := "sumsTurned", fn := fun _ => fun
  | [d1, d2, d3] => { results := [.lit (.bool false)], args := [d1, d2, d3] }
  | _ => none }
def SumsTurnedWrongFalsely : Prop := sumsTurnedRow.holds Tryd.pinned (OpenSpec.ofChange sumsTurnedWrong)

/- THE SECOND FORM. 'bulk': how many values and letters a reading holds, each counted each time it is reached (what is shared counts as often as it is met; a slice's spare places count too). A statement '..UptoSaid' is the law's where the arguments, and the package variables that the reading takes, are together of bulk at most 1048576: NARROWER than '..Said'. Prove '..Said' where nothing that the law and all that it calls make is longer than what came in: it says more and counts as full. Else prove '..UptoSaid'. A law counts once. -/
mutual
def uptoBulk {H : Type} : DataW H → Nat
  | .lit (.string bytes) => bytes.length + 1
  | .lit _ => 1
  | .nil => 1
  | .ptr d => uptoBulk d + 1
  | .slice elems spare => uptoBulkAll elems + uptoBulkAll spare + 1
  | .agg parts => uptoBulkAll parts + 1
  | .iface _ d => uptoBulk d + 1
  | .map entries => uptoBulkEntries entries + 1
  | .held _ => 1
def uptoBulkAll {H : Type} : List (DataW H) → Nat
  | [] => 0
  | d :: r => uptoBulk d + uptoBulkAll r
def uptoBulkEntries {H : Type} : List (Lit × DataW H) → Nat
  | [] => 0
  | x :: r => uptoBulkEntry x + uptoBulkEntries r
def uptoBulkEntry {H : Type} : Lit × DataW H → Nat
  | (.string bytes, d) => bytes.length + uptoBulk d + 1
  | (_, d) => uptoBulk d + 1
 end
def uptoSmall : (H : Type) → List (DataW H) → Bool := fun _ ds => decide (uptoBulkAll ds ≤ 1048576)
def OpenSpec.upto (s : _root_.Go.ChangeSpec) : _root_.Go.OpenSpec := { _root_.Go.OpenSpec.ofChange s with cond := some uptoSmall }

/-- 'heartwoodlaw02.SumsJoin', WHERE WHAT IT READS IS OF BULK AT MOST 1048576: true; the input reads as it did. -/
def sumsJoinUptoRow : OpenClaim := { program := "ytmdapkdnfjnmbaadoor", sum := "9e1f0495beb54b6333ed7fda33c3108dab20ef271c383463c9429e417d150111", func := "heartwood/heartwoodlaw02.SumsJoin", spec := "sumsJoin", recurses := true, named := ["heartwood/sums.nibbles"], apart := false, laid := [("heartwood/sums.nibbles", laid_heartwood_sums_nibbles)], narrowed := true }
def SumsJoinUptoSaid : Prop := sumsJoinUptoRow.holds Tryd.pinned (OpenSpec.upto sumsJoinSpec)

/-- 'heartwoodlaw02.SumsTogether', WHERE WHAT IT READS IS OF BULK AT MOST 1048576: true; the input reads as it did. -/
def sumsTogetherUptoRow : OpenClaim := { program := "ytmdapkdnfjnmbaadoor", sum := "9e1f0495beb54b6333ed7fda33c3108dab20ef271c383463c9429e417d150111", func := "heartwood/heartwoodlaw02.SumsTogether", spec := "sumsTogether", named := ["heartwood/sums.nibbles"], apart := false, laid := [("heartwood/sums.nibbles", laid_heartwood_sums_nibbles)], narrowed := true }
def SumsTogetherUptoSaid : Prop := sumsTogetherUptoRow.holds Tryd.pinned (OpenSpec.upto sumsTogetherSpec)

/-- 'heartwoodlaw02.SumsTurned', WHERE WHAT IT READS IS OF BULK AT MOST 1048576: true; the input reads as it did. -/
def sumsTurnedUptoRow : OpenClaim := { program := "ytmdapkdnfjnmbaadoor", sum := "9e1f0495beb54b6333ed7fda33c3108dab20ef271c383463c9429e417d150111", func := "heartwood/heartwoodlaw02.SumsTurned", spec := "sumsTurned", named := ["heartwood/sums.nibbles"], apart := false, laid := [("heartwood/sums.nibbles", laid_heartwood_sums_nibbles)], narrowed := true }
def SumsTurnedUptoSaid : Prop := sumsTurnedUptoRow.holds Tryd.pinned (OpenSpec.upto sumsTurnedSpec)

end Rows
end Go.Proofs.YtmdapkdnfjnmbaaDoor
