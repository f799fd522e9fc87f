/-
  NARROWER THAN 'FOR EVERY INPUT', by the rows' own cells (each row's printed sentence says how): SumsCRC: laid · SumsMore: laid · SumsNil: laid · SumsCut: laid.
  DERIVED. THE GIVEN ROWS OF THIS SEAT. 4 by the template 'for every input the law returns true; each argument reads behind the call as it read before'; 0 by the template 'total and deterministic' (their statements: YtcbnaopcehhdeaaDoorTotals.lean).
  GIVEN WITH THE SEED: the statements are not yours to turn. If you find one false, say at which input.
  Laid BY PROGRAM, IN A SANDBOX (cutbox-rows.mjs): the forced cells as the released guide's own fill.sh prints them over the translation cd3a1b4353e29e5d… (all of the seat's roots in one cut). By AI agents, Wed Nov 11 2026. No macro, syntax, notation, axiom, sorry.
-/
import Derived.Test.YtcbnaopcehhdeaaDoorChecked
import GoSem.Claim
import GoSem.ClaimJoined
import GoSem.ClaimMapViews
import Derived.JoinedTies
import Derived.KernelRfl
namespace Go.Proofs.YtcbnaopcehhdeaaDoor
/- THE CELL 'sum', in the pinned program and in every row, IS THE sha256 OF THE DUMP (.gsa) THAT YtcbnaopcehhdeaaDoorProg.lean LOADS. Nothing in Lean hashes anything: it is a label: what it is worth is what the hold of that sum in a sandbox is worth. -/
noncomputable def Tryd.pinned : Pinned := { name := "ytcbnaopcehhdeaadoor", sum := "cd3a1b4353e29e5da81a465b9c3a3a074efcb115c2d46e5fcb3f7576798f3a09", checked := Tryd.checked }
namespace Rows
def none {H : Type} : Left H := { results := [], args := [] }

/- WHAT THE LISTED PACKAGE-LEVEL VARIABLES READ AS WHEN THE CALL BEGINS. Each datum BY PROGRAM (the guide's laid-datum.mjs) off the statement by which the dump's own 'gosem.cut.vars' lays the variable. In a bare row this is a premise. The card (YtcbnaopcehhdeaaDoorCards.lean) ties it to the program's text. -/
def laid_heartwood_sums_nibbles {H : Type} : DataW H := .agg [.lit (.int .u32 0), .lit (.int .u32 498536548), .lit (.int .u32 997073096), .lit (.int .u32 651767980), .lit (.int .u32 1994146192), .lit (.int .u32 1802195444), .lit (.int .u32 1303535960), .lit (.int .u32 1342533948), .lit (.int .u32 3988292384), .lit (.int .u32 4027552580), .lit (.int .u32 3604390888), .lit (.int .u32 3412177804), .lit (.int .u32 2607071920), .lit (.int .u32 2262029012), .lit (.int .u32 2685067896), .lit (.int .u32 3183342108)]

/-- 'heartwoodlaw02.SumsCRC': WHATEVER THE INPUT: true; the input reads as it did. -/
def sumsCRCSpec : ChangeSpec := { name := "sumsCRC", fn := fun _ => fun
  | [d] => { results := [.lit (.bool true)], args := [d] }
  | _ => none }
def sumsCRCRow : OpenClaim := { program := "ytcbnaopcehhdeaadoor", sum := "cd3a1b4353e29e5da81a465b9c3a3a074efcb115c2d46e5fcb3f7576798f3a09", func := "heartwood/heartwoodlaw02.SumsCRC", spec := "sumsCRC", named := ["heartwood/sums.nibbles"], apart := false, laid := [("heartwood/sums.nibbles", laid_heartwood_sums_nibbles)] }
def SumsCRCSaid : Prop := sumsCRCRow.holds Tryd.pinned (OpenSpec.ofChange sumsCRCSpec)

/-- ITS FALSE NEIGHBOUR: 'it returns false'. Refute it at one input. -/
def sumsCRCWrong : ChangeSpec := { name := "sumsCRC", fn := fun _ => fun
  | [d] => { results := [.lit (.bool false)], args := [d] }
  | _ => none }
def SumsCRCWrongFalsely : Prop := sumsCRCRow.holds Tryd.pinned (OpenSpec.ofChange sumsCRCWrong)

/-- 'heartwoodlaw02.SumsMore': WHATEVER THE INPUT: true; the input reads as it did. -/
def sumsMoreSpec : ChangeSpec := { name := "sumsMore", fn := fun _ => fun
  | [d1, d2] => { results := [.lit (.bool true)], args := [d1, d2] }
  | _ => none }
def sumsMoreRow : OpenClaim := { program := "ytcbnaopcehhdeaadoor", sum := "cd3a1b4353e29e5da81a465b9c3a3a074efcb115c2d46e5fcb3f7576798f3a09", func := "heartwood/heartwoodlaw02.SumsMore", spec := "sumsMore", named := ["heartwood/sums.nibbles"], apart := false, laid := [("heartwood/sums.nibbles", laid_heartwood_sums_nibbles)] }
def SumsMoreSaid : Prop := sumsMoreRow.holds Tryd.pinned (OpenSpec.ofChange sumsMoreSpec)

/-- ITS FALSE NEIGHBOUR: 'it returns false'. Refute it at one input. -/
def sumsMoreWrong : ChangeSpec := { name := "sumsMore", fn := fun _ => fun
  | [d1, d2] => { results := [.lit (.bool false)], args := [d1, d2] }
  | _ => none }
def SumsMoreWrongFalsely : Prop := sumsMoreRow.holds Tryd.pinned (OpenSpec.ofChange sumsMoreWrong)

/-- 'heartwoodlaw02.SumsNil': WHATEVER THE INPUT: true; the input reads as it did. -/
def sumsNilSpec : ChangeSpec := { name := "sumsNil", fn := fun _ => fun
  | [d] => { results := [.lit (.bool true)], args := [d] }
  | _ => none }
def sumsNilRow : OpenClaim := { program := "ytcbnaopcehhdeaadoor", sum := "cd3a1b4353e29e5da81a465b9c3a3a074efcb115c2d46e5fcb3f7576798f3a09", func := "heartwood/heartwoodlaw02.SumsNil", spec := "sumsNil", named := ["heartwood/sums.nibbles"], apart := false, laid := [("heartwood/sums.nibbles", laid_heartwood_sums_nibbles)] }
def SumsNilSaid : Prop := sumsNilRow.holds Tryd.pinned (OpenSpec.ofChange sumsNilSpec)

/-- ITS FALSE NEIGHBOUR: 'it returns false'. Refute it at one input. -/
def sumsNilWrong : ChangeSpec := { name := "sumsNil", fn := fun _ => fun
  | [d] => { results := [.lit (.bool false)], args := [d] }
  | _ => none }
def SumsNilWrongFalsely : Prop := sumsNilRow.holds Tryd.pinned (OpenSpec.ofChange sumsNilWrong)

/-- 'heartwoodlaw02.SumsCut': WHATEVER THE INPUT: true; the input reads as it did. -/
def sumsCutSpec : ChangeSpec := { name := "sumsCut", fn := fun _ => fun
  | [d1, d2] => { results := [.lit (.bool true)], args := [d1, d2] }
  | _ => none }
def sumsCutRow : OpenClaim := { program := "ytcbnaopcehhdeaadoor", sum := "cd3a1b4353e29e5da81a465b9c3a3a074efcb115c2d46e5fcb3f7576798f3a09", func := "heartwood/heartwoodlaw02.SumsCut", spec := "sumsCut", named := ["heartwood/sums.nibbles"], apart := false, laid := [("heartwood/sums.nibbles", laid_heartwood_sums_nibbles)] }
def SumsCutSaid : Prop := sumsCutRow.holds Tryd.pinned (OpenSpec.ofChange sumsCutSpec)

/-- ITS FALSE NEIGHBOUR: 'it returns false'. Refute it at one input. -/
def sumsCutWrong : ChangeSpec := { name := "sumsCut", fn := fun _ => fun
  | [d1, d2] => { results := [.lit (.bool false)], args := [d1, d2] }
  | _ => none }
def SumsCutWrongFalsely : Prop := sumsCutRow.holds Tryd.pinned (OpenSpec.ofChange sumsCutWrong)

/- THE SECOND FORM. 'bulk': how many values and letters a reading holds, each counted each time it is reached (what is shared counts as often as it is met; a slice's spare places count too). A statement '..UptoSaid' is the law's where the arguments, and the package variables that the reading takes, are together of bulk at most 1048576: NARROWER than '..Said'. Prove '..Said' where nothing that the law and all that it calls make is longer than what came in: it says more and counts as full. Else prove '..UptoSaid'. A law counts once. -/
mutual
def uptoBulk {H : Type} : DataW H → Nat
  | .lit (.string bytes) => bytes.length + 1
  | .lit _ => 1
  | .nil => 1
  | .ptr d => uptoBulk d + 1
  | .slice elems spare => uptoBulkAll elems + uptoBulkAll spare + 1
  | .agg parts => uptoBulkAll parts + 1
  | .iface _ d => uptoBulk d + 1
  | .map entries => uptoBulkEntries entries + 1
  | .held _ => 1
def uptoBulkAll {H : Type} : List (DataW H) → Nat
  | [] => 0
  | d :: r => uptoBulk d + uptoBulkAll r
def uptoBulkEntries {H : Type} : List (Lit × DataW H) → Nat
  | [] => 0
  | x :: r => uptoBulkEntry x + uptoBulkEntries r
def uptoBulkEntry {H : Type} : Lit × DataW H → Nat
  | (.string bytes, d) => bytes.length + uptoBulk d + 1
  | (_, d) => uptoBulk d + 1
 end
def uptoSmall : (H : Type) → List (DataW H) → Bool := fun _ ds => decide (uptoBulkAll ds ≤ 1048576)
def OpenSpec.upto (s : _root_.Go.ChangeSpec) : _root_.Go.OpenSpec := { _root_.Go.OpenSpec.ofChange s with cond := some uptoSmall }

/-- 'heartwoodlaw02.SumsCRC', WHERE WHAT IT READS IS OF BULK AT MOST 1048576: true; the input reads as it did. -/
def sumsCRCUptoRow : OpenClaim := { program := "ytcbnaopcehhdeaadoor", sum := "cd3a1b4353e29e5da81a465b9c3a3a074efcb115c2d46e5fcb3f7576798f3a09", func := "heartwood/heartwoodlaw02.SumsCRC", spec := "sumsCRC", named := ["heartwood/sums.nibbles"], apart := false, laid := [("heartwood/sums.nibbles", laid_heartwood_sums_nibbles)], narrowed := true }
def SumsCRCUptoSaid : Prop := sumsCRCUptoRow.holds Tryd.pinned (OpenSpec.upto sumsCRCSpec)

/-- 'heartwoodlaw02.SumsMore', WHERE WHAT IT READS IS OF BULK AT MOST 1048576: true; the input reads as it did. -/
def sumsMoreUptoRow : OpenClaim := { program := "ytcbnaopcehhdeaadoor", sum := "cd3a1b4353e29e5da81a465b9c3a3a074efcb115c2d46e5fcb3f7576798f3a09", func := "heartwood/heartwoodlaw02.SumsMore", spec := "sumsMore", named := ["heartwood/sums.nibbles"], apart := false, laid := [("heartwood/sums.nibbles", laid_heartwood_sums_nibbles)], narrowed := true }
def SumsMoreUptoSaid : Prop := sumsMoreUptoRow.holds Tryd.pinned (OpenSpec.upto sumsMoreSpec)

/-- 'heartwoodlaw02.SumsNil', WHERE WHAT IT READS IS OF BULK AT MOST 1048576: true; the input reads as it did. -/
def sumsNilUptoRow : OpenClaim := { program := "ytcbnaopcehhdeaadoor", sum := "cd3a1b4353e29e5da81a465b9c3a3a074efcb115c2d46e5fcb3f7576798f3a09", func := "heartwood/heartwoodlaw02.SumsNil", spec := "sumsNil", named := ["heartwood/sums.nibbles"], apart := false, laid := [("heartwood/sums.nibbles", laid_heartwood_sums_nibbles)], narrowed := true }
def SumsNilUptoSaid : Prop := sumsNilUptoRow.holds Tryd.pinned (OpenSpec.upto sumsNilSpec)

/-- 'heartwoodlaw02.SumsCut', WHERE WHAT IT READS IS OF BULK AT MOST 1048576: true; the input reads as it did. -/
def sumsCutUptoRow : OpenClaim := { program := "ytcbnaopcehhdeaadoor", sum := "cd3a1b4353e29e5da81a465b9c3a3a074efcb115c2d46e5fcb3f7576798f3a09", func := "heartwood/heartwoodlaw02.SumsCut", spec := "sumsCut", named := ["heartwood/sums.nibbles"], apart := false, laid := [("heartwood/sums.nibbles", laid_heartwood_sums_nibbles)], narrowed := true }
def SumsCutUptoSaid : Prop := sumsCutUptoRow.holds Tryd.pinned (OpenSpec.upto sumsCutSpec)

end Rows
end Go.Proofs.YtcbnaopcehhdeaaDoor
