/-
  NARROWER THAN 'FOR EVERY INPUT', by the rows' own cells (each row's printed sentence says how): SumsHash: laid · SumsCut: laid · SumsMany: laid · SumsShow: laid · SumsRead: laid.
  DERIVED. THE GIVEN ROWS OF THIS SEAT. 5 by the template 'for every input the law returns true; each argument reads behind the call as it read before'; 0 by the template 'total and deterministic' (their statements: YthkhfblpdekjhaaDoorTotals.lean).
  GIVEN WITH THE SEED: the statements are not yours to turn. If you find one false, say at which input.
  Laid BY PROGRAM, IN A SANDBOX (cutbox-rows.mjs): the forced cells as the released guide's own fill.sh prints them over the translation bb535b83baf3639d… (all of the seat's roots in one cut). By AI agents, Wed Nov 11 2026. No macro, syntax, notation, axiom, sorry.
-/
import Derived.Test.YthkhfblpdekjhaaDoorChecked
import GoSem.Claim
import GoSem.ClaimJoined
import GoSem.ClaimMapViews
import Derived.JoinedTies
import Derived.KernelRfl
namespace Go.Proofs.YthkhfblpdekjhaaDoor
/- THE CELL 'sum', in the pinned program and in every row, IS THE sha256 OF THE DUMP (.gsa) THAT YthkhfblpdekjhaaDoorProg.lean LOADS. Nothing in Lean hashes anything: it is a label: what it is worth is what the hold of that sum in a sandbox is worth. -/
noncomputable def Tryd.pinned : Pinned := { name := "ythkhfblpdekjhaadoor", sum := "bb535b83baf3639dbf57b5df55be6e377292b2ea772471f9b5e446eac55bf856", checked := Tryd.checked }
namespace Rows
def none {H : Type} : Left H := { results := [], args := [] }

/- WHAT THE LISTED PACKAGE-LEVEL VARIABLES READ AS WHEN THE CALL BEGINS. Each datum BY PROGRAM (the guide's laid-datum.mjs) off the statement by which the dump's own 'gosem.cut.vars' lays the variable. In a bare row this is a premise. The card (YthkhfblpdekjhaaDoorCards.lean) ties it to the program's text. -/
def laid_heartwood_sums_nibbles {H : Type} : DataW H := .agg [.lit (.int .u32 0), .lit (.int .u32 498536548), .lit (.int .u32 997073096), .lit (.int .u32 651767980), .lit (.int .u32 1994146192), .lit (.int .u32 1802195444), .lit (.int .u32 1303535960), .lit (.int .u32 1342533948), .lit (.int .u32 3988292384), .lit (.int .u32 4027552580), .lit (.int .u32 3604390888), .lit (.int .u32 3412177804), .lit (.int .u32 2607071920), .lit (.int .u32 2262029012), .lit (.int .u32 2685067896), .lit (.int .u32 3183342108)]

/-- 'heartwoodlaw02.SumsHash': WHATEVER THE INPUT: true; the input reads as it did. -/
def sumsHashSpec : ChangeSpec := { name := "sumsHash", fn := fun _ => fun
  | [d] => { results := [.lit (.bool true)], args := [d] }
  | _ => none }
def sumsHashRow : OpenClaim := { program := "ythkhfblpdekjhaadoor", sum := "bb535b83baf3639dbf57b5df55be6e377292b2ea772471f9b5e446eac55bf856", func := "heartwood/heartwoodlaw02.SumsHash", spec := "sumsHash", named := ["heartwood/sums.nibbles"], apart := false, laid := [("heartwood/sums.nibbles", laid_heartwood_sums_nibbles)] }
def SumsHashSaid : Prop := sumsHashRow.holds Tryd.pinned (OpenSpec.ofChange sumsHashSpec)

/-- ITS FALSE NEIGHBOUR: 'it returns false'. Refute it at one input. -/
def sumsHashWrong : ChangeSpec := { name := "sumsHash", fn := fun _ => fun
  | [d] => { results := [.lit (.bool false)], args := [d] }
  | _ => none }
def SumsHashWrongFalsely : Prop := sumsHashRow.holds Tryd.pinned (OpenSpec.ofChange sumsHashWrong)

/-- 'heartwoodlaw02.SumsCut': WHATEVER THE INPUT: true; the input reads as it did. -/
def sumsCutSpec : ChangeSpec := { name := "sumsCut", fn := fun _ => fun
  | [d1, d2] => { results := [.lit (.bool true)], args := [d1, d2] }
  | _ => none }
def sumsCutRow : OpenClaim := { program := "ythkhfblpdekjhaadoor", sum := "bb535b83baf3639dbf57b5df55be6e377292b2ea772471f9b5e446eac55bf856", func := "heartwood/heartwoodlaw02.SumsCut", spec := "sumsCut", named := ["heartwood/sums.nibbles"], apart := false, laid := [("heartwood/sums.nibbles", laid_heartwood_sums_nibbles)] }
def SumsCutSaid : Prop := sumsCutRow.holds Tryd.pinned (OpenSpec.ofChange sumsCutSpec)

/-- ITS FALSE NEIGHBOUR: 'it returns false'. Refute it at one input. -/
def sumsCutWrong : ChangeSpec := { name := "sumsCut", fn := fun _ => fun
  | [d1, d2] => { results := [.lit (.bool false)], args := [d1, d2] }
  | _ => none }
def SumsCutWrongFalsely : Prop := sumsCutRow.holds Tryd.pinned (OpenSpec.ofChange sumsCutWrong)

/-- 'heartwoodlaw02.SumsMany': WHATEVER THE INPUT: true; the input reads as it did. -/
def sumsManySpec : ChangeSpec := { name := "sumsMany", fn := fun _ => fun
  | [d] => { results := [.lit (.bool true)], args := [d] }
  | _ => none }
def sumsManyRow : OpenClaim := { program := "ythkhfblpdekjhaadoor", sum := "bb535b83baf3639dbf57b5df55be6e377292b2ea772471f9b5e446eac55bf856", func := "heartwood/heartwoodlaw02.SumsMany", spec := "sumsMany", named := ["heartwood/sums.nibbles"], apart := false, laid := [("heartwood/sums.nibbles", laid_heartwood_sums_nibbles)] }
def SumsManySaid : Prop := sumsManyRow.holds Tryd.pinned (OpenSpec.ofChange sumsManySpec)

/-- ITS FALSE NEIGHBOUR: 'it returns false'. Refute it at one input. -/
def sumsManyWrong : ChangeSpec := { name := "sumsMany", fn := fun _ => fun
  | [d] => { results := [.lit (.bool false)], args := [d] }
  | _ => none }
def SumsManyWrongFalsely : Prop := sumsManyRow.holds Tryd.pinned (OpenSpec.ofChange sumsManyWrong)

/-- 'heartwoodlaw02.SumsShow': WHATEVER THE INPUT: true; the input reads as it did. -/
def sumsShowSpec : ChangeSpec := { name := "sumsShow", fn := fun _ => fun
  | [d1, d2] => { results := [.lit (.bool true)], args := [d1, d2] }
  | _ => none }
def sumsShowRow : OpenClaim := { program := "ythkhfblpdekjhaadoor", sum := "bb535b83baf3639dbf57b5df55be6e377292b2ea772471f9b5e446eac55bf856", func := "heartwood/heartwoodlaw02.SumsShow", spec := "sumsShow", named := ["heartwood/sums.nibbles"], apart := false, laid := [("heartwood/sums.nibbles", laid_heartwood_sums_nibbles)] }
def SumsShowSaid : Prop := sumsShowRow.holds Tryd.pinned (OpenSpec.ofChange sumsShowSpec)

/-- ITS FALSE NEIGHBOUR: 'it returns false'. Refute it at one input. -/
def sumsShowWrong : ChangeSpec := { name := "sumsShow", fn := fun _ => fun
  | [d1, d2] => { results := [.lit (.bool false)], args := [d1, d2] }
  | _ => none }
def SumsShowWrongFalsely : Prop := sumsShowRow.holds Tryd.pinned (OpenSpec.ofChange sumsShowWrong)

/-- 'heartwoodlaw02.SumsRead': WHATEVER THE INPUT: true; the input reads as it did. -/
def sumsReadSpec : ChangeSpec := { name := "sumsRead", fn := fun _ => fun
  | [d1, d2] => { results := [.lit (.bool true)], args := [d1, d2] }
  | _ => none }
def sumsReadRow : OpenClaim := { program := "ythkhfblpdekjhaadoor", sum := "bb535b83baf3639dbf57b5df55be6e377292b2ea772471f9b5e446eac55bf856", func := "heartwood/heartwoodlaw02.SumsRead", spec := "sumsRead", named := ["heartwood/sums.nibbles"], apart := false, laid := [("heartwood/sums.nibbles", laid_heartwood_sums_nibbles)] }
def SumsReadSaid : Prop := sumsReadRow.holds Tryd.pinned (OpenSpec.ofChange sumsReadSpec)

/-- ITS FALSE NEIGHBOUR: 'it returns false'. Refute it at one input. -/
def sumsReadWrong : ChangeSpec := { name := "sumsRead", fn := fun _ => fun
  | [d1, d2] => { results := [.lit (.bool false)], args := [d1, d2] }
  | _ => none }
def SumsReadWrongFalsely : Prop := sumsReadRow.holds Tryd.pinned (OpenSpec.ofChange sumsReadWrong)

/- THE SECOND FORM. 'bulk': how many values and letters a reading holds, each counted each time it is reached (what is shared counts as often as it is met; a slice's spare places count too). A statement '..UptoSaid' is the law's where the arguments, and the package variables that the reading takes, are together of bulk at most 1048576: NARROWER than '..Said'. Prove '..Said' where nothing that the law and all that it calls make is longer than what came in: it says more and counts as full. Else prove '..UptoSaid'. A law counts once. -/
mutual
def uptoBulk {H : Type} : DataW H → Nat
  | .lit (.string bytes) => bytes.length + 1
  | .lit _ => 1
  | .nil => 1
  | .ptr d => uptoBulk d + 1
  | .slice elems spare => uptoBulkAll elems + uptoBulkAll spare + 1
  | .agg parts => uptoBulkAll parts + 1
  | .iface _ d => uptoBulk d + 1
  | .map entries => uptoBulkEntries entries + 1
  | .held _ => 1
def uptoBulkAll {H : Type} : List (DataW H) → Nat
  | [] => 0
  | d :: r => uptoBulk d + uptoBulkAll r
def uptoBulkEntries {H : Type} : List (Lit × DataW H) → Nat
  | [] => 0
  | x :: r => uptoBulkEntry x + uptoBulkEntries r
def uptoBulkEntry {H : Type} : Lit × DataW H → Nat
  | (.string bytes, d) => bytes.length + uptoBulk d + 1
  | (_, d) => uptoBulk d + 1
 end
def uptoSmall : (H : Type) → List (DataW H) → Bool := fun _ ds => decide (uptoBulkAll ds ≤ 1048576)
def OpenSpec.upto (s : _root_.Go.ChangeSpec) : _root_.Go.OpenSpec := { _root_.Go.OpenSpec.ofChange s with cond := some uptoSmall }

/-- 'heartwoodlaw02.SumsHash', WHERE WHAT IT READS IS OF BULK AT MOST 1048576: true; the input reads as it did. -/
def sumsHashUptoRow : OpenClaim := { program := "ythkhfblpdekjhaadoor", sum := "bb535b83baf3639dbf57b5df55be6e377292b2ea772471f9b5e446eac55bf856", func := "heartwood/heartwoodlaw02.SumsHash", spec := "sumsHash", named := ["heartwood/sums.nibbles"], apart := false, laid := [("heartwood/sums.nibbles", laid_heartwood_sums_nibbles)], narrowed := true }
def SumsHashUptoSaid : Prop := sumsHashUptoRow.holds Tryd.pinned (OpenSpec.upto sumsHashSpec)

/-- 'heartwoodlaw02.SumsCut', WHERE WHAT IT READS IS OF BULK AT MOST 1048576: true; the input reads as it did. -/
def sumsCutUptoRow : OpenClaim := { program := "ythkhfblpdekjhaadoor", sum := "bb535b83baf3639dbf57b5df55be6e377292b2ea772471f9b5e446eac55bf856", func := "heartwood/heartwoodlaw02.SumsCut", spec := "sumsCut", named := ["heartwood/sums.nibbles"], apart := false, laid := [("heartwood/sums.nibbles", laid_heartwood_sums_nibbles)], narrowed := true }
def SumsCutUptoSaid : Prop := sumsCutUptoRow.holds Tryd.pinned (OpenSpec.upto sumsCutSpec)

/-- 'heartwoodlaw02.SumsMany', WHERE WHAT IT READS IS OF BULK AT MOST 1048576: true; the input reads as it did. -/
def sumsManyUptoRow : OpenClaim := { program := "ythkhfblpdekjhaadoor", sum := "bb535b83baf3639dbf57b5df55be6e377292b2ea772471f9b5e446eac55bf856", func := "heartwood/heartwoodlaw02.SumsMany", spec := "sumsMany", named := ["heartwood/sums.nibbles"], apart := false, laid := [("heartwood/sums.nibbles", laid_heartwood_sums_nibbles)], narrowed := true }
def SumsManyUptoSaid : Prop := sumsManyUptoRow.holds Tryd.pinned (OpenSpec.upto sumsManySpec)

/-- 'heartwoodlaw02.SumsShow', WHERE WHAT IT READS IS OF BULK AT MOST 1048576: true; the input reads as it did. -/
def sumsShowUptoRow : OpenClaim := { program := "ythkhfblpdekjhaadoor", sum := "bb535b83baf3639dbf57b5df55be6e377292b2ea772471f9b5e446eac55bf856", func := "heartwood/heartwoodlaw02.SumsShow", spec := "sumsShow", named := ["heartwood/sums.nibbles"], apart := false, laid := [("heartwood/sums.nibbles", laid_heartwood_sums_nibbles)], narrowed := true }
def SumsShowUptoSaid : Prop := sumsShowUptoRow.holds Tryd.pinned (OpenSpec.upto sumsShowSpec)

/-- 'heartwoodlaw02.SumsRead', WHERE WHAT IT READS IS OF BULK AT MOST 1048576: true; the input reads as it did. -/
def sumsReadUptoRow : OpenClaim := { program := "ythkhfblpdekjhaadoor", sum := "bb535b83baf3639dbf57b5df55be6e377292b2ea772471f9b5e446eac55bf856", func := "heartwood/heartwoodlaw02.SumsRead", spec := "sumsRead", named := ["heartwood/sums.nibbles"], apart := false, laid := [("heartwood/sums.nibbles", laid_heartwood_sums_nibbles)], narrowed := true }
def SumsReadUptoSaid : Prop := sumsReadUptoRow.holds Tryd.pinned (OpenSpec.upto sumsReadSpec)

end Rows
end Go.Proofs.YthkhfblpdekjhaaDoor
