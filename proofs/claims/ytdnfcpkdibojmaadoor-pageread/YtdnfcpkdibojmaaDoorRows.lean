/-
  NARROWER THAN 'FOR EVERY INPUT', by the rows' own cells (each row's printed sentence says how): PageNames: laid · PageCheck: laid · PageWrite: laid · PageRead: laid · PageBack: laid · PageTurned: laid.
  DERIVED. THE GIVEN ROWS OF THIS SEAT. 6 by the template 'for every input the law returns true; each argument reads behind the call as it read before'; 0 by the template 'total and deterministic' (their statements: YtdnfcpkdibojmaaDoorTotals.lean).
  GIVEN WITH THE SEED: the statements are not yours to turn. If you find one false, say at which input.
  Laid BY PROGRAM, IN A SANDBOX (cutbox-rows.mjs): the forced cells as the released guide's own fill.sh prints them over the translation 410a3658f6a931e2… (all of the seat's roots in one cut). By AI agents, Wed Nov 11 2026. No macro, syntax, notation, axiom, sorry.
-/
import Derived.Test.YtdnfcpkdibojmaaDoorChecked
import GoSem.Claim
import GoSem.ClaimJoined
import GoSem.ClaimMapViews
import Derived.JoinedTies
import Derived.KernelRfl
namespace Go.Proofs.YtdnfcpkdibojmaaDoor
/- THE CELL 'sum', in the pinned program and in every row, IS THE sha256 OF THE DUMP (.gsa) THAT YtdnfcpkdibojmaaDoorProg.lean LOADS. Nothing in Lean hashes anything: it is a label: what it is worth is what the hold of that sum in a sandbox is worth. -/
noncomputable def Tryd.pinned : Pinned := { name := "ytdnfcpkdibojmaadoor", sum := "410a3658f6a931e2f4bf58f65358fe6be8646950ab51297c6f2f1eaa7ba18621", checked := Tryd.checked }
namespace Rows
def none {H : Type} : Left H := { results := [], args := [] }

/- WHAT THE LISTED PACKAGE-LEVEL VARIABLES READ AS WHEN THE CALL BEGINS. Each datum BY PROGRAM (the guide's laid-datum.mjs) off the statement by which the dump's own 'gosem.cut.vars' lays the variable. In a bare row this is a premise. The card (YtdnfcpkdibojmaaDoorCards.lean) ties it to the program's text. -/
def laid_heartwood_sums_nibbles {H : Type} : DataW H := .agg [.lit (.int .u32 0), .lit (.int .u32 498536548), .lit (.int .u32 997073096), .lit (.int .u32 651767980), .lit (.int .u32 1994146192), .lit (.int .u32 1802195444), .lit (.int .u32 1303535960), .lit (.int .u32 1342533948), .lit (.int .u32 3988292384), .lit (.int .u32 4027552580), .lit (.int .u32 3604390888), .lit (.int .u32 3412177804), .lit (.int .u32 2607071920), .lit (.int .u32 2262029012), .lit (.int .u32 2685067896), .lit (.int .u32 3183342108)]

/-- 'heartwoodlaw05.PageNames': WHATEVER THE INPUT: true; the input reads as it did. -/
def pageNamesSpec : ChangeSpec := { name := "pageNames", fn := fun _ => fun
  | [] => { results := [.lit (.bool true)], args := [] }
  | _ => none }
def pageNamesRow : OpenClaim := { program := "ytdnfcpkdibojmaadoor", sum := "410a3658f6a931e2f4bf58f65358fe6be8646950ab51297c6f2f1eaa7ba18621", func := "heartwood/heartwoodlaw05.PageNames", spec := "pageNames", inPlace := ["internal/abi.NoEscape", "internal/bytealg.MakeNoZero", "internal/bytealg.CountString", "internal/bytealg.IndexByteString", "internal/bytealg.IndexString"], named := ["heartwood/sums.nibbles", "internal/bytealg.MaxLen"], apart := false, laid := [("heartwood/sums.nibbles", laid_heartwood_sums_nibbles)] }
def PageNamesSaid : Prop := pageNamesRow.holds Tryd.pinned (OpenSpec.ofChange pageNamesSpec)

/-- ITS FALSE NEIGHBOUR: 'it returns false'. Refute it at one input. -/
def pageNamesWrong : ChangeSpec := { name := "pageNames", fn := fun _ => fun
  | [] => { results := [.lit (.bool false)], args := [] }
  | _ => none }
def PageNamesWrongFalsely : Prop := pageNamesRow.holds Tryd.pinned (OpenSpec.ofChange pageNamesWrong)

/-- 'heartwoodlaw05.PageCheck': WHATEVER THE INPUT: true; the input reads as it did. -/
def pageCheckSpec : ChangeSpec := { name := "pageCheck", fn := fun _ => fun
  | [d1, d2] => { results := [.lit (.bool true)], args := [d1, d2] }
  | _ => none }
def pageCheckRow : OpenClaim := { program := "ytdnfcpkdibojmaadoor", sum := "410a3658f6a931e2f4bf58f65358fe6be8646950ab51297c6f2f1eaa7ba18621", func := "heartwood/heartwoodlaw05.PageCheck", spec := "pageCheck", inPlace := ["internal/abi.NoEscape", "internal/bytealg.MakeNoZero", "internal/bytealg.CountString", "internal/bytealg.IndexByteString", "internal/bytealg.IndexString"], named := ["heartwood/sums.nibbles", "internal/bytealg.MaxLen"], apart := false, laid := [("heartwood/sums.nibbles", laid_heartwood_sums_nibbles)] }
def PageCheckSaid : Prop := pageCheckRow.holds Tryd.pinned (OpenSpec.ofChange pageCheckSpec)

/-- ITS FALSE NEIGHBOUR: 'it returns false'. Refute it at one input. -/
def pageCheckWrong : ChangeSpec := { name := "pageCheck", fn := fun _ => fun
  | [d1, d2] => { results := [.lit (.bool false)], args := [d1, d2] }
  | _ => none }
def PageCheckWrongFalsely : Prop := pageCheckRow.holds Tryd.pinned (OpenSpec.ofChange pageCheckWrong)

/-- 'heartwoodlaw05.PageWrite': WHATEVER THE INPUT: true; the input reads as it did. -/
def pageWriteSpec : ChangeSpec := { name := "pageWrite", fn := fun _ => fun
  | [d1, d2] => { results := [.lit (.bool true)], args := [d1, d2] }
  | _ => none }
def pageWriteRow : OpenClaim := { program := "ytdnfcpkdibojmaadoor", sum := "410a3658f6a931e2f4bf58f65358fe6be8646950ab51297c6f2f1eaa7ba18621", func := "heartwood/heartwoodlaw05.PageWrite", spec := "pageWrite", inPlace := ["internal/abi.NoEscape", "internal/bytealg.MakeNoZero", "internal/bytealg.CountString", "internal/bytealg.IndexByteString", "internal/bytealg.IndexString"], named := ["heartwood/sums.nibbles", "internal/bytealg.MaxLen"], apart := false, laid := [("heartwood/sums.nibbles", laid_heartwood_sums_nibbles)] }
def PageWriteSaid : Prop := pageWriteRow.holds Tryd.pinned (OpenSpec.ofChange pageWriteSpec)

/-- ITS FALSE NEIGHBOUR: 'it returns false'. Refute it at one input. -/
def pageWriteWrong : ChangeSpec := { name := "pageWrite", fn := fun _ => fun
  | [d1, d2] => { results := [.lit (.bool false)], args := [d1, d2] }
  | _ => none }
def PageWriteWrongFalsely : Prop := pageWriteRow.holds Tryd.pinned (OpenSpec.ofChange pageWriteWrong)

/-- 'heartwoodlaw05.PageRead': WHATEVER THE INPUT: true; the input reads as it did. -/
def pageReadSpec : ChangeSpec := { name := "pageRead", fn := fun _ => fun
  | [d1, d2, d3] => { results := [.lit (.bool true)], args := [d1, d2, d3] }
  | _ => none }
def pageReadRow : OpenClaim := { program := "ytdnfcpkdibojmaadoor", sum := "410a3658f6a931e2f4bf58f65358fe6be8646950ab51297c6f2f1eaa7ba18621", func := "heartwood/heartwoodlaw05.PageRead", spec := "pageRead", inPlace := ["internal/bytealg.CountString", "internal/bytealg.IndexByteString", "internal/bytealg.IndexString", "internal/abi.NoEscape", "internal/bytealg.MakeNoZero"], named := ["heartwood/sums.nibbles", "internal/bytealg.MaxLen"], apart := false, laid := [("heartwood/sums.nibbles", laid_heartwood_sums_nibbles)] }
def PageReadSaid : Prop := pageReadRow.holds Tryd.pinned (OpenSpec.ofChange pageReadSpec)

/-- ITS FALSE NEIGHBOUR: 'it returns false'. Refute it at one input. -/
def pageReadWrong : ChangeSpec := { name := "pageRead", fn := fun _ => fun
  | [d1, d2, d3] => { results := [.lit (.bool false)], args := [d1, d2, d3] }
  | _ => none }
def PageReadWrongFalsely : Prop := pageReadRow.holds Tryd.pinned (OpenSpec.ofChange pageReadWrong)

/-- 'heartwoodlaw05.PageBack': WHATEVER THE INPUT: true; the input reads as it did. -/
def pageBackSpec : ChangeSpec := { name := "pageBack", fn := fun _ => fun
  | [d1, d2] => { results := [.lit (.bool true)], args := [d1, d2] }
  | _ => none }
def pageBackRow : OpenClaim := { program := "ytdnfcpkdibojmaadoor", sum := "410a3658f6a931e2f4bf58f65358fe6be8646950ab51297c6f2f1eaa7ba18621", func := "heartwood/heartwoodlaw05.PageBack", spec := "pageBack", inPlace := ["internal/bytealg.CountString", "internal/bytealg.IndexByteString", "internal/bytealg.IndexString", "internal/abi.NoEscape", "internal/bytealg.MakeNoZero"], named := ["heartwood/sums.nibbles", "internal/bytealg.MaxLen"], apart := false, laid := [("heartwood/sums.nibbles", laid_heartwood_sums_nibbles)] }
def PageBackSaid : Prop := pageBackRow.holds Tryd.pinned (OpenSpec.ofChange pageBackSpec)

/-- ITS FALSE NEIGHBOUR: 'it returns false'. Refute it at one input. -/
def pageBackWrong : ChangeSpec := { name := "pageBack", fn := fun _ => fun
  | [d1, d2] => { results := [.lit (.bool false)], args := [d1, d2] }
  | _ => none }
def PageBackWrongFalsely : Prop := pageBackRow.holds Tryd.pinned (OpenSpec.ofChange pageBackWrong)

/-- 'heartwoodlaw05.PageTurned': WHATEVER THE INPUT: true; the input reads as it did. -/
def pageTurnedSpec : ChangeSpec := { name := "pageTurned", fn := fun _ => fun
  | [d] => { results := [.lit (.bool true)], args := [d] }
  | _ => none }
def pageTurnedRow : OpenClaim := { program := "ytdnfcpkdibojmaadoor", sum := "410a3658f6a931e2f4bf58f65358fe6be8646950ab51297c6f2f1eaa7ba18621", func := "heartwood/heartwoodlaw05.PageTurned", spec := "pageTurned", inPlace := ["internal/abi.NoEscape", "internal/bytealg.MakeNoZero", "internal/bytealg.CountString", "internal/bytealg.IndexByteString", "internal/bytealg.IndexString"], named := ["heartwood/sums.nibbles", "internal/bytealg.MaxLen"], apart := false, laid := [("heartwood/sums.nibbles", laid_heartwood_sums_nibbles)] }
def PageTurnedSaid : Prop := pageTurnedRow.holds Tryd.pinned (OpenSpec.ofChange pageTurnedSpec)

/-- ITS FALSE NEIGHBOUR: 'it returns false'. Refute it at one input. -/
def pageTurnedWrong : ChangeSpec := { name := "pageTurned", fn := fun _ => fun
  | [d] => { results := [.lit (.bool false)], args := [d] }
  | _ => none }
def PageTurnedWrongFalsely : Prop := pageTurnedRow.holds Tryd.pinned (OpenSpec.ofChange pageTurnedWrong)

/- THE SECOND FORM. 'bulk': how many values and letters a reading holds, each counted each time it is reached (what is shared counts as often as it is met; a slice's spare places count too). A statement '..UptoSaid' is the law's where the arguments, and the package variables that the reading takes, are together of bulk at most 1048576: NARROWER than '..Said'. Prove '..Said' where nothing that the law and all that it calls make is longer than what came in: it says more and counts as full. Else prove '..UptoSaid'. A law counts once. -/
mutual
def uptoBulk {H : Type} : DataW H → Nat
  | .lit (.string bytes) => bytes.length + 1
  | .lit _ => 1
  | .nil => 1
  | .ptr d => uptoBulk d + 1
  | .slice elems spare => uptoBulkAll elems + uptoBulkAll spare + 1
  | .agg parts => uptoBulkAll parts + 1
  | .iface _ d => uptoBulk d + 1
  | .map entries => uptoBulkEntries entries + 1
  | .held _ => 1
def uptoBulkAll {H : Type} : List (DataW H) → Nat
  | [] => 0
  | d :: r => uptoBulk d + uptoBulkAll r
def uptoBulkEntries {H : Type} : List (Lit × DataW H) → Nat
  | [] => 0
  | x :: r => uptoBulkEntry x + uptoBulkEntries r
def uptoBulkEntry {H : Type} : Lit × DataW H → Nat
  | (.string bytes, d) => bytes.length + uptoBulk d + 1
  | (_, d) => uptoBulk d + 1
 end
def uptoSmall : (H : Type) → List (DataW H) → Bool := fun _ ds => decide (uptoBulkAll ds ≤ 1048576)
def OpenSpec.upto (s : _root_.Go.ChangeSpec) : _root_.Go.OpenSpec := { _root_.Go.OpenSpec.ofChange s with cond := some uptoSmall }

/-- 'heartwoodlaw05.PageNames', WHERE WHAT IT READS IS OF BULK AT MOST 1048576: true; the input reads as it did. -/
def pageNamesUptoRow : OpenClaim := { program := "ytdnfcpkdibojmaadoor", sum := "410a3658f6a931e2f4bf58f65358fe6be8646950ab51297c6f2f1eaa7ba18621", func := "heartwood/heartwoodlaw05.PageNames", spec := "pageNames", inPlace := ["internal/abi.NoEscape", "internal/bytealg.MakeNoZero", "internal/bytealg.CountString", "internal/bytealg.IndexByteString", "internal/bytealg.IndexString"], named := ["heartwood/sums.nibbles", "internal/bytealg.MaxLen"], apart := false, laid := [("heartwood/sums.nibbles", laid_heartwood_sums_nibbles)], narrowed := true }
def PageNamesUptoSaid : Prop := pageNamesUptoRow.holds Tryd.pinned (OpenSpec.upto pageNamesSpec)

/-- 'heartwoodlaw05.PageCheck', WHERE WHAT IT READS IS OF BULK AT MOST 1048576: true; the input reads as it did. -/
def pageCheckUptoRow : OpenClaim := { program := "ytdnfcpkdibojmaadoor", sum := "410a3658f6a931e2f4bf58f65358fe6be8646950ab51297c6f2f1eaa7ba18621", func := "heartwood/heartwoodlaw05.PageCheck", spec := "pageCheck", inPlace := ["internal/abi.NoEscape", "internal/bytealg.MakeNoZero", "internal/bytealg.CountString", "internal/bytealg.IndexByteString", "internal/bytealg.IndexString"], named := ["heartwood/sums.nibbles", "internal/bytealg.MaxLen"], apart := false, laid := [("heartwood/sums.nibbles", laid_heartwood_sums_nibbles)], narrowed := true }
def PageCheckUptoSaid : Prop := pageCheckUptoRow.holds Tryd.pinned (OpenSpec.upto pageCheckSpec)

/-- 'heartwoodlaw05.PageWrite', WHERE WHAT IT READS IS OF BULK AT MOST 1048576: true; the input reads as it did. -/
def pageWriteUptoRow : OpenClaim := { program := "ytdnfcpkdibojmaadoor", sum := "410a3658f6a931e2f4bf58f65358fe6be8646950ab51297c6f2f1eaa7ba18621", func := "heartwood/heartwoodlaw05.PageWrite", spec := "pageWrite", inPlace := ["internal/abi.NoEscape", "internal/bytealg.MakeNoZero", "internal/bytealg.CountString", "internal/bytealg.IndexByteString", "internal/bytealg.IndexString"], named := ["heartwood/sums.nibbles", "internal/bytealg.MaxLen"], apart := false, laid := [("heartwood/sums.nibbles", laid_heartwood_sums_nibbles)], narrowed := true }
def PageWriteUptoSaid : Prop := pageWriteUptoRow.holds Tryd.pinned (OpenSpec.upto pageWriteSpec)

/-- 'heartwoodlaw05.PageRead', WHERE WHAT IT READS IS OF BULK AT MOST 1048576: true; the input reads as it did. -/
def pageReadUptoRow : OpenClaim := { program := "ytdnfcpkdibojmaadoor", sum := "410a3658f6a931e2f4bf58f65358fe6be8646950ab51297c6f2f1eaa7ba18621", func := "heartwood/heartwoodlaw05.PageRead", spec := "pageRead", inPlace := ["internal/bytealg.CountString", "internal/bytealg.IndexByteString", "internal/bytealg.IndexString", "internal/abi.NoEscape", "internal/bytealg.MakeNoZero"], named := ["heartwood/sums.nibbles", "internal/bytealg.MaxLen"], apart := false, laid := [("heartwood/sums.nibbles", laid_heartwood_sums_nibbles)], narrowed := true }
def PageReadUptoSaid : Prop := pageReadUptoRow.holds Tryd.pinned (OpenSpec.upto pageReadSpec)

/-- 'heartwoodlaw05.PageBack', WHERE WHAT IT READS IS OF BULK AT MOST 1048576: true; the input reads as it did. -/
def pageBackUptoRow : OpenClaim := { program := "ytdnfcpkdibojmaadoor", sum := "410a3658f6a931e2f4bf58f65358fe6be8646950ab51297c6f2f1eaa7ba18621", func := "heartwood/heartwoodlaw05.PageBack", spec := "pageBack", inPlace := ["internal/bytealg.CountString", "internal/bytealg.IndexByteString", "internal/bytealg.IndexString", "internal/abi.NoEscape", "internal/bytealg.MakeNoZero"], named := ["heartwood/sums.nibbles", "internal/bytealg.MaxLen"], apart := false, laid := [("heartwood/sums.nibbles", laid_heartwood_sums_nibbles)], narrowed := true }
def PageBackUptoSaid : Prop := pageBackUptoRow.holds Tryd.pinned (OpenSpec.upto pageBackSpec)

/-- 'heartwoodlaw05.PageTurned', WHERE WHAT IT READS IS OF BULK AT MOST 1048576: true; the input reads as it did. -/
def pageTurnedUptoRow : OpenClaim := { program := "ytdnfcpkdibojmaadoor", sum := "410a3658f6a931e2f4bf58f65358fe6be8646950ab51297c6f2f1eaa7ba18621", func := "heartwood/heartwoodlaw05.PageTurned", spec := "pageTurned", inPlace := ["internal/abi.NoEscape", "internal/bytealg.MakeNoZero", "internal/bytealg.CountString", "internal/bytealg.IndexByteString", "internal/bytealg.IndexString"], named := ["heartwood/sums.nibbles", "internal/bytealg.MaxLen"], apart := false, laid := [("heartwood/sums.nibbles", laid_heartwood_sums_nibbles)], narrowed := true }
def PageTurnedUptoSaid : Prop := pageTurnedUptoRow.holds Tryd.pinned (OpenSpec.upto pageTurnedSpec)

end Rows
end Go.Proofs.YtdnfcpkdibojmaaDoor
