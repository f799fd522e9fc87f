/-
  NARROWER THAN 'FOR EVERY INPUT', by the rows' own cells (each row's printed sentence says how): SumsSum: laid · SumsOf: laid · SumsDigest: laid · SumsClash: laid · SumsHash: laid · SumsCut: laid.
  DERIVED. THE GIVEN ROWS OF THIS SEAT. 6 by the template 'for every input the law returns true; each argument reads behind the call as it read before'; 0 by the template 'total and deterministic' (their statements: YtdkkglnkacdhdaaDoorTotals.lean).
  GIVEN WITH THE SEED: the statements are not yours to turn. If you find one false, say at which input.
  Laid BY PROGRAM, IN A SANDBOX (cutbox-rows.mjs): the forced cells as the released guide's own fill.sh prints them over the translation 6693631a3d9e70b9… (all of the seat's roots in one cut). By AI agents, Wed Nov 11 2026. No macro, syntax, notation, axiom, sorry.
-/
import Derived.Test.YtdkkglnkacdhdaaDoorChecked
import GoSem.Claim
import GoSem.ClaimJoined
import GoSem.ClaimMapViews
import Derived.JoinedTies
import Derived.KernelRfl
namespace Go.Proofs.YtdkkglnkacdhdaaDoor
/- THE CELL 'sum', in the pinned program and in every row, IS THE sha256 OF THE DUMP (.gsa) THAT YtdkkglnkacdhdaaDoorProg.lean LOADS. Nothing in Lean hashes anything: it is a label: what it is worth is what the hold of that sum in a sandbox is worth. -/
noncomputable def Tryd.pinned : Pinned := { name := "ytdkkglnkacdhdaadoor", sum := "6693631a3d9e70b965847f92338ecd721f7b6ac93dc8f4e294b36c3b03a9c216", checked := Tryd.checked }
namespace Rows
def none {H : Type} : Left H := { results := [], args := [] }

/- WHAT THE LISTED PACKAGE-LEVEL VARIABLES READ AS WHEN THE CALL BEGINS. Each datum BY PROGRAM (the guide's laid-datum.mjs) off the statement by which the dump's own 'gosem.cut.vars' lays the variable. In a bare row this is a premise. The card (YtdkkglnkacdhdaaDoorCards.lean) ties it to the program's text. -/
def laid_heartwood_sums_nibbles {H : Type} : DataW H := .agg [.lit (.int .u32 0), .lit (.int .u32 498536548), .lit (.int .u32 997073096), .lit (.int .u32 651767980), .lit (.int .u32 1994146192), .lit (.int .u32 1802195444), .lit (.int .u32 1303535960), .lit (.int .u32 1342533948), .lit (.int .u32 3988292384), .lit (.int .u32 4027552580), .lit (.int .u32 3604390888), .lit (.int .u32 3412177804), .lit (.int .u32 2607071920), .lit (.int .u32 2262029012), .lit (.int .u32 2685067896), .lit (.int .u32 3183342108)]

/-- 'heartwoodlaw02.SumsSum': WHATEVER THE INPUT: true; the input reads as it did. -/
def sumsSumSpec : ChangeSpec := { name := "sumsSum", fn := fun _ => fun
  | [d] => { results := [.lit (.bool true)], args := [d] }
  | _ => none }
def sumsSumRow : OpenClaim := { program := "ytdkkglnkacdhdaadoor", sum := "6693631a3d9e70b965847f92338ecd721f7b6ac93dc8f4e294b36c3b03a9c216", func := "heartwood/heartwoodlaw02.SumsSum", spec := "sumsSum", named := ["heartwood/sums.nibbles"], apart := false, laid := [("heartwood/sums.nibbles", laid_heartwood_sums_nibbles)] }
def SumsSumSaid : Prop := sumsSumRow.holds Tryd.pinned (OpenSpec.ofChange sumsSumSpec)

/-- ITS FALSE NEIGHBOUR: 'it returns false'. Refute it at one input. -/
def sumsSumWrong : ChangeSpec := { name := "sumsSum", fn := fun _ => fun
  | [d] => { results := [.lit (.bool false)], args := [d] }
  | _ => none }
def SumsSumWrongFalsely : Prop := sumsSumRow.holds Tryd.pinned (OpenSpec.ofChange sumsSumWrong)

/-- 'heartwoodlaw02.SumsOf': WHATEVER THE INPUT: true; the input reads as it did. -/
def sumsOfSpec : ChangeSpec := { name := "sumsOf", fn := fun _ => fun
  | [d1, d2] => { results := [.lit (.bool true)], args := [d1, d2] }
  | _ => none }
def sumsOfRow : OpenClaim := { program := "ytdkkglnkacdhdaadoor", sum := "6693631a3d9e70b965847f92338ecd721f7b6ac93dc8f4e294b36c3b03a9c216", func := "heartwood/heartwoodlaw02.SumsOf", spec := "sumsOf", named := ["heartwood/sums.nibbles"], apart := false, laid := [("heartwood/sums.nibbles", laid_heartwood_sums_nibbles)] }
def SumsOfSaid : Prop := sumsOfRow.holds Tryd.pinned (OpenSpec.ofChange sumsOfSpec)

/-- ITS FALSE NEIGHBOUR: 'it returns false'. Refute it at one input. -/
def sumsOfWrong : ChangeSpec := { name := "sumsOf", fn := fun _ => fun
  | [d1, d2] => { results := [.lit (.bool false)], args := [d1, d2] }
  | _ => none }
def SumsOfWrongFalsely : Prop := sumsOfRow.holds Tryd.pinned (OpenSpec.ofChange sumsOfWrong)

/-- 'heartwoodlaw02.SumsDigest': WHATEVER THE INPUT: true; the input reads as it did. -/
def sumsDigestSpec : ChangeSpec := { name := "sumsDigest", fn := fun _ => fun
  | [d1, d2, d3] => { results := [.lit (.bool true)], args := [d1, d2, d3] }
  | _ => none }
def sumsDigestRow : OpenClaim := { program := "ytdkkglnkacdhdaadoor", sum := "6693631a3d9e70b965847f92338ecd721f7b6ac93dc8f4e294b36c3b03a9c216", func := "heartwood/heartwoodlaw02.SumsDigest", spec := "sumsDigest", named := ["heartwood/sums.nibbles"], apart := false, laid := [("heartwood/sums.nibbles", laid_heartwood_sums_nibbles)] }
def SumsDigestSaid : Prop := sumsDigestRow.holds Tryd.pinned (OpenSpec.ofChange sumsDigestSpec)

/-- ITS FALSE NEIGHBOUR: 'it returns false'. Refute it at one input. -/
def sumsDigestWrong : ChangeSpec := { name := "sumsDigest", fn := fun _ => fun
  | [d1, d2, d3] => { results := [.lit (.bool false)], args := [d1, d2, d3] }
  | _ => none }
def SumsDigestWrongFalsely : Prop := sumsDigestRow.holds Tryd.pinned (OpenSpec.ofChange sumsDigestWrong)

/-- 'heartwoodlaw02.SumsClash': WHATEVER THE INPUT: true; the input reads as it did. -/
def sumsClashSpec : ChangeSpec := { name := "sumsClash", fn := fun _ => fun
  | [d1, d2, d3] => { results := [.lit (.bool true)], args := [d1, d2, d3] }
  | _ => none }
def sumsClashRow : OpenClaim := { program := "ytdkkglnkacdhdaadoor", sum := "6693631a3d9e70b965847f92338ecd721f7b6ac93dc8f4e294b36c3b03a9c216", func := "heartwood/heartwoodlaw02.SumsClash", spec := "sumsClash", named := ["heartwood/sums.nibbles"], apart := false, laid := [("heartwood/sums.nibbles", laid_heartwood_sums_nibbles)] }
def SumsClashSaid : Prop := sumsClashRow.holds Tryd.pinned (OpenSpec.ofChange sumsClashSpec)

/-- ITS FALSE NEIGHBOUR: 'it returns false'. Refute it at one input. -/
def sumsClashWrong : ChangeSpec := { name := "sumsClash", fn := fun _ => fun
  | [d1, d2, d3] => { results := [.lit (.bool false)], args := [d1, d2, d3] }
  | _ => none }
def SumsClashWrongFalsely : Prop := sumsClashRow.holds Tryd.pinned (OpenSpec.ofChange sumsClashWrong)

/-- 'heartwoodlaw02.SumsHash': WHATEVER THE INPUT: true; the input reads as it did. -/
def sumsHashSpec : ChangeSpec := { name := "sumsHash", fn := fun _ => fun
  | [d] => { results := [.lit (.bool true)], args := [d] }
  | _ => none }
def sumsHashRow : OpenClaim := { program := "ytdkkglnkacdhdaadoor", sum := "6693631a3d9e70b965847f92338ecd721f7b6ac93dc8f4e294b36c3b03a9c216", func := "heartwood/heartwoodlaw02.SumsHash", spec := "sumsHash", named := ["heartwood/sums.nibbles"], apart := false, laid := [("heartwood/sums.nibbles", laid_heartwood_sums_nibbles)] }
def SumsHashSaid : Prop := sumsHashRow.holds Tryd.pinned (OpenSpec.ofChange sumsHashSpec)

/-- ITS FALSE NEIGHBOUR: 'it returns false'. Refute it at one input. -/
def sumsHashWrong : ChangeSpec := { name := "sumsHash", fn := fun _ => fun
  | [d] => { results := [.lit (.bool false)], args := [d] }
  | _ => none }
def SumsHashWrongFalsely : Prop := sumsHashRow.holds Tryd.pinned (OpenSpec.ofChange sumsHashWrong)

/-- 'heartwoodlaw02.SumsCut': WHATEVER THE INPUT: true; the input reads as it did. -/
def sumsCutSpec : ChangeSpec := { name := "sumsCut", fn := fun _ => fun
  | [d1, d2] => { results := [.lit (.bool true)], args := [d1, d2] }
  | _ => none }
def sumsCutRow : OpenClaim := { program := "ytdkkglnkacdhdaadoor", sum := "6693631a3d9e70b965847f92338ecd721f7b6ac93dc8f4e294b36c3b03a9c216", func := "heartwood/heartwoodlaw02.SumsCut", spec := "sumsCut", named := ["heartwood/sums.nibbles"], apart := false, laid := [("heartwood/sums.nibbles", laid_heartwood_sums_nibbles)] }
def SumsCutSaid : Prop := sumsCutRow.holds Tryd.pinned (OpenSpec.ofChange sumsCutSpec)

/-- ITS FALSE NEIGHBOUR: 'it returns false'. Refute it at one input. -/
def sumsCutWrong : ChangeSpec := { name := "sumsCut", fn := fun _ => fun
  | [d1, d2] => { results := [.lit (.bool false)], args := [d1, d2] }
  | _ => none }
def SumsCutWrongFalsely : Prop := sumsCutRow.holds Tryd.pinned (OpenSpec.ofChange sumsCutWrong)

/- THE SECOND FORM. 'bulk': how many values and letters a reading holds, each counted each time it is reached (what is shared counts as often as it is met; a slice's spare places count too). A statement '..UptoSaid' is the law's where the arguments, and the package variables that the reading takes, are together of bulk at most 1048576: NARROWER than '..Said'. Prove '..Said' where nothing that the law and all that it calls make is longer than what came in: it says more and counts as full. Else prove '..UptoSaid'. A law counts once. -/
mutual
def uptoBulk {H : Type} : DataW H → Nat
  | .lit (.string bytes) => bytes.length + 1
  | .lit _ => 1
  | .nil => 1
  | .ptr d => uptoBulk d + 1
  | .slice elems spare => uptoBulkAll elems + uptoBulkAll spare + 1
  | .agg parts => uptoBulkAll parts + 1
  | .iface _ d => uptoBulk d + 1
  | .map entries => uptoBulkEntries entries + 1
  | .held _ => 1
def uptoBulkAll {H : Type} : List (DataW H) → Nat
  | [] => 0
  | d :: r => uptoBulk d + uptoBulkAll r
def uptoBulkEntries {H : Type} : List (Lit × DataW H) → Nat
  | [] => 0
  | x :: r => uptoBulkEntry x + uptoBulkEntries r
def uptoBulkEntry {H : Type} : Lit × DataW H → Nat
  | (.string bytes, d) => bytes.length + uptoBulk d + 1
  | (_, d) => uptoBulk d + 1
 end
def uptoSmall : (H : Type) → List (DataW H) → Bool := fun _ ds => decide (uptoBulkAll ds ≤ 1048576)
def OpenSpec.upto (s : _root_.Go.ChangeSpec) : _root_.Go.OpenSpec := { _root_.Go.OpenSpec.ofChange s with cond := some uptoSmall }

/-- 'heartwoodlaw02.SumsSum', WHERE WHAT IT READS IS OF BULK AT MOST 1048576: true; the input reads as it did. -/
def sumsSumUptoRow : OpenClaim := { program := "ytdkkglnkacdhdaadoor", sum := "6693631a3d9e70b965847f92338ecd721f7b6ac93dc8f4e294b36c3b03a9c216", func := "heartwood/heartwoodlaw02.SumsSum", spec := "sumsSum", named := ["heartwood/sums.nibbles"], apart := false, laid := [("heartwood/sums.nibbles", laid_heartwood_sums_nibbles)], narrowed := true }
def SumsSumUptoSaid : Prop := sumsSumUptoRow.holds Tryd.pinned (OpenSpec.upto sumsSumSpec)

/-- 'heartwoodlaw02.SumsOf', WHERE WHAT IT READS IS OF BULK AT MOST 1048576: true; the input reads as it did. -/
def sumsOfUptoRow : OpenClaim := { program := "ytdkkglnkacdhdaadoor", sum := "6693631a3d9e70b965847f92338ecd721f7b6ac93dc8f4e294b36c3b03a9c216", func := "heartwood/heartwoodlaw02.SumsOf", spec := "sumsOf", named := ["heartwood/sums.nibbles"], apart := false, laid := [("heartwood/sums.nibbles", laid_heartwood_sums_nibbles)], narrowed := true }
def SumsOfUptoSaid : Prop := sumsOfUptoRow.holds Tryd.pinned (OpenSpec.upto sumsOfSpec)

/-- 'heartwoodlaw02.SumsDigest', WHERE WHAT IT READS IS OF BULK AT MOST 1048576: true; the input reads as it did. -/
def sumsDigestUptoRow : OpenClaim := { program := "ytdkkglnkacdhdaadoor", sum := "6693631a3d9e70b965847f92338ecd721f7b6ac93dc8f4e294b36c3b03a9c216", func := "heartwood/heartwoodlaw02.SumsDigest", spec := "sumsDigest", named := ["heartwood/sums.nibbles"], apart := false, laid := [("heartwood/sums.nibbles", laid_heartwood_sums_nibbles)], narrowed := true }
def SumsDigestUptoSaid : Prop := sumsDigestUptoRow.holds Tryd.pinned (OpenSpec.upto sumsDigestSpec)

/-- 'heartwoodlaw02.SumsClash', WHERE WHAT IT READS IS OF BULK AT MOST 1048576: true; the input reads as it did. -/
def sumsClashUptoRow : OpenClaim := { program := "ytdkkglnkacdhdaadoor", sum := "6693631a3d9e70b965847f92338ecd721f7b6ac93dc8f4e294b36c3b03a9c216", func := "heartwood/heartwoodlaw02.SumsClash", spec := "sumsClash", named := ["heartwood/sums.nibbles"], apart := false, laid := [("heartwood/sums.nibbles", laid_heartwood_sums_nibbles)], narrowed := true }
def SumsClashUptoSaid : Prop := sumsClashUptoRow.holds Tryd.pinned (OpenSpec.upto sumsClashSpec)

/-- 'heartwoodlaw02.SumsHash', WHERE WHAT IT READS IS OF BULK AT MOST 1048576: true; the input reads as it did. -/
def sumsHashUptoRow : OpenClaim := { program := "ytdkkglnkacdhdaadoor", sum := "6693631a3d9e70b965847f92338ecd721f7b6ac93dc8f4e294b36c3b03a9c216", func := "heartwood/heartwoodlaw02.SumsHash", spec := "sumsHash", named := ["heartwood/sums.nibbles"], apart := false, laid := [("heartwood/sums.nibbles", laid_heartwood_sums_nibbles)], narrowed := true }
def SumsHashUptoSaid : Prop := sumsHashUptoRow.holds Tryd.pinned (OpenSpec.upto sumsHashSpec)

/-- 'heartwoodlaw02.SumsCut', WHERE WHAT IT READS IS OF BULK AT MOST 1048576: true; the input reads as it did. -/
def sumsCutUptoRow : OpenClaim := { program := "ytdkkglnkacdhdaadoor", sum := "6693631a3d9e70b965847f92338ecd721f7b6ac93dc8f4e294b36c3b03a9c216", func := "heartwood/heartwoodlaw02.SumsCut", spec := "sumsCut", named := ["heartwood/sums.nibbles"], apart := false, laid := [("heartwood/sums.nibbles", laid_heartwood_sums_nibbles)], narrowed := true }
def SumsCutUptoSaid : Prop := sumsCutUptoRow.holds Tryd.pinned (OpenSpec.upto sumsCutSpec)

end Rows
end Go.Proofs.YtdkkglnkacdhdaaDoor
