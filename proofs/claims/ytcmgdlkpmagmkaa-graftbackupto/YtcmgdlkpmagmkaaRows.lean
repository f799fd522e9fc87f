/-
  No cell of these rows narrows 'for every input' (looked for: loops, veiled, ifaces, maps, wideKeys, modest, calm, conditions, laid).
  DERIVED. THE GIVEN ROWS OF THIS SEAT. 6 by the template 'for every input the law returns true; each argument reads behind the call as it read before'; 0 by the template 'total and deterministic' (their statements: YtcmgdlkpmagmkaaTotals.lean).
  GIVEN WITH THE SEED: the statements are not yours to turn. If you find one false, say at which input.
  Laid BY PROGRAM, IN A SANDBOX (cutbox-rows.mjs): the forced cells as the released guide's own fill.sh prints them over the translation e3327f6adb195dc1… (all of the seat's roots in one cut). By AI agents, Wed Nov 11 2026. No macro, syntax, notation, axiom, sorry.
-/
import Derived.Test.YtcmgdlkpmagmkaaChecked
import GoSem.Claim
import GoSem.ClaimJoined
import GoSem.ClaimMapViews
import Derived.JoinedTies
import Derived.KernelRfl
namespace Go.Proofs.Ytcmgdlkpmagmkaa
/- THE CELL 'sum', in the pinned program and in every row, IS THE sha256 OF THE DUMP (.gsa) THAT YtcmgdlkpmagmkaaProg.lean LOADS. Nothing in Lean hashes anything: it is a label: what it is worth is what the hold of that sum in a sandbox is worth. -/
noncomputable def Try.pinned : Pinned := { name := "ytcmgdlkpmagmkaa", sum := "e3327f6adb195dc17d8eed2cbe1f1f385177c5976a0f31d2e57eb72fdb39c9a8", checked := Try.checked }
namespace Rows
def none {H : Type} : Left H := { results := [], args := [] }

/-- 'heartwoodlaw08.GraftNames': WHATEVER THE INPUT: true; the input reads as it did. -/
def graftNamesSpec : ChangeSpec := { name := "graftNames", fn := fun _ => fun
  | [] => { results := [.lit (.bool true)], args := [] }
  | _ => none }
def graftNamesRow : OpenClaim := { program := "ytcmgdlkpmagmkaa", sum := "e3327f6adb195dc17d8eed2cbe1f1f385177c5976a0f31d2e57eb72fdb39c9a8", func := "heartwood/heartwoodlaw08.GraftNames", spec := "graftNames", inPlace := ["internal/bytealg.abigen_runtime_cmpstring"], unfollowed := true, recurses := true, apart := false }
def GraftNamesSaid : Prop := graftNamesRow.holds Try.pinned (OpenSpec.ofChange graftNamesSpec)

/-- ITS FALSE NEIGHBOUR: 'it returns false'. Refute it at one input. -/
def graftNamesWrong : ChangeSpec := { name := "graftNames", fn := fun _ => fun
  | [] => { results := [.lit (.bool false)], args := [] }
  | _ => none }
def GraftNamesWrongFalsely : Prop := graftNamesRow.holds Try.pinned (OpenSpec.ofChange graftNamesWrong)

/-- 'heartwoodlaw08.GraftBetween': WHATEVER THE INPUT: true; the input reads as it did. -/
def graftBetweenSpec : ChangeSpec := { name := "graftBetween", fn := fun _ => fun
  | [d1, d2] => { results := [.lit (.bool true)], args := [d1, d2] }
  | _ => none }
def graftBetweenRow : OpenClaim := { program := "ytcmgdlkpmagmkaa", sum := "e3327f6adb195dc17d8eed2cbe1f1f385177c5976a0f31d2e57eb72fdb39c9a8", func := "heartwood/heartwoodlaw08.GraftBetween", spec := "graftBetween", inPlace := ["internal/bytealg.abigen_runtime_cmpstring"], unfollowed := true, recurses := true, apart := false }
def GraftBetweenSaid : Prop := graftBetweenRow.holds Try.pinned (OpenSpec.ofChange graftBetweenSpec)

/-- ITS FALSE NEIGHBOUR: 'it returns false'. Refute it at one input. -/
def graftBetweenWrong : ChangeSpec := { name := "graftBetween", fn := fun _ => fun
  | [d1, d2] => { results := [.lit (.bool false)], args := [d1, d2] }
  | _ => none }
def GraftBetweenWrongFalsely : Prop := graftBetweenRow.holds Try.pinned (OpenSpec.ofChange graftBetweenWrong)

/-- 'heartwoodlaw08.GraftSeparates': WHATEVER THE INPUT: true; the input reads as it did. -/
def graftSeparatesSpec : ChangeSpec := { name := "graftSeparates", fn := fun _ => fun
  | [d1, d2] => { results := [.lit (.bool true)], args := [d1, d2] }
  | _ => none }
def graftSeparatesRow : OpenClaim := { program := "ytcmgdlkpmagmkaa", sum := "e3327f6adb195dc17d8eed2cbe1f1f385177c5976a0f31d2e57eb72fdb39c9a8", func := "heartwood/heartwoodlaw08.GraftSeparates", spec := "graftSeparates", inPlace := ["internal/bytealg.abigen_runtime_cmpstring"], unfollowed := true, recurses := true, apart := false }
def GraftSeparatesSaid : Prop := graftSeparatesRow.holds Try.pinned (OpenSpec.ofChange graftSeparatesSpec)

/-- ITS FALSE NEIGHBOUR: 'it returns false'. Refute it at one input. -/
def graftSeparatesWrong : ChangeSpec := { name := "graftSeparates", fn := fun _ => fun
  | [d1, d2] => { results := [.lit (.bool false)], args := [d1, d2] }
  | _ => none }
def GraftSeparatesWrongFalsely : Prop := graftSeparatesRow.holds Try.pinned (OpenSpec.ofChange graftSeparatesWrong)

/-- 'heartwoodlaw08.GraftFinds': WHATEVER THE INPUT: true; the input reads as it did. -/
def graftFindsSpec : ChangeSpec := { name := "graftFinds", fn := fun _ => fun
  | [d1, d2] => { results := [.lit (.bool true)], args := [d1, d2] }
  | _ => none }
def graftFindsRow : OpenClaim := { program := "ytcmgdlkpmagmkaa", sum := "e3327f6adb195dc17d8eed2cbe1f1f385177c5976a0f31d2e57eb72fdb39c9a8", func := "heartwood/heartwoodlaw08.GraftFinds", spec := "graftFinds", inPlace := ["internal/bytealg.abigen_runtime_cmpstring"], unfollowed := true, recurses := true, apart := false }
def GraftFindsSaid : Prop := graftFindsRow.holds Try.pinned (OpenSpec.ofChange graftFindsSpec)

/-- ITS FALSE NEIGHBOUR: 'it returns false'. Refute it at one input. -/
def graftFindsWrong : ChangeSpec := { name := "graftFinds", fn := fun _ => fun
  | [d1, d2] => { results := [.lit (.bool false)], args := [d1, d2] }
  | _ => none }
def GraftFindsWrongFalsely : Prop := graftFindsRow.holds Try.pinned (OpenSpec.ofChange graftFindsWrong)

/-- 'heartwoodlaw08.GraftWays': WHATEVER THE INPUT: true; the input reads as it did. -/
def graftWaysSpec : ChangeSpec := { name := "graftWays", fn := fun _ => fun
  | [d1, d2, d3] => { results := [.lit (.bool true)], args := [d1, d2, d3] }
  | _ => none }
def graftWaysRow : OpenClaim := { program := "ytcmgdlkpmagmkaa", sum := "e3327f6adb195dc17d8eed2cbe1f1f385177c5976a0f31d2e57eb72fdb39c9a8", func := "heartwood/heartwoodlaw08.GraftWays", spec := "graftWays", inPlace := ["internal/bytealg.abigen_runtime_cmpstring"], unfollowed := true, recurses := true, apart := false }
def GraftWaysSaid : Prop := graftWaysRow.holds Try.pinned (OpenSpec.ofChange graftWaysSpec)

/-- ITS FALSE NEIGHBOUR: 'it returns false'. Refute it at one input. -/
def graftWaysWrong : ChangeSpec := { name := "graftWays", fn := fun _ => fun
  | [d1, d2, d3] => { results := [.lit (.bool false)], args := [d1, d2, d3] }
  | _ => none }
def GraftWaysWrongFalsely : Prop := graftWaysRow.holds Try.pinned (OpenSpec.ofChange graftWaysWrong)

/-- 'heartwoodlaw08.GraftBack': WHATEVER THE INPUT: true; the input reads as it did. -/
def graftBackSpec : ChangeSpec := { name := "graftBack", fn := fun _ => fun
  | [d1, d2, d3] => { results := [.lit (.bool true)], args := [d1, d2, d3] }
  | _ => none }
def graftBackRow : OpenClaim := { program := "ytcmgdlkpmagmkaa", sum := "e3327f6adb195dc17d8eed2cbe1f1f385177c5976a0f31d2e57eb72fdb39c9a8", func := "heartwood/heartwoodlaw08.GraftBack", spec := "graftBack", inPlace := ["internal/bytealg.abigen_runtime_cmpstring"], unfollowed := true, recurses := true, apart := false }
def GraftBackSaid : Prop := graftBackRow.holds Try.pinned (OpenSpec.ofChange graftBackSpec)

/-- ITS FALSE NEIGHBOUR: 'it returns false'. Refute it at one input. -/
def graftBackWrong : ChangeSpec := { name := "graftBack", fn := fun _ => fun
  | [d1, d2, d3] => { results := [.lit (.bool false)], args := [d1, d2, d3] }
  | _ => none }
def GraftBackWrongFalsely : Prop := graftBackRow.holds Try.pinned (OpenSpec.ofChange graftBackWrong)

/- THE SECOND FORM. 'bulk': how many values and letters a reading holds, each counted each time it is reached (what is shared counts as often as it is met; a slice's spare places count too). A statement '..UptoSaid' is the law's where the arguments, and the package variables that the reading takes, are together of bulk at most 1048576: NARROWER than '..Said'. Prove '..Said' where nothing that the law and all that it calls make is longer than what came in: it says more and counts as full. Else prove '..UptoSaid'. A law counts once. -/
mutual
def uptoBulk {H : Type} : DataW H → Nat
  | .lit (.string bytes) => bytes.length + 1
  | .lit _ => 1
  | .nil => 1
  | .ptr d => uptoBulk d + 1
  | .slice elems spare => uptoBulkAll elems + uptoBulkAll spare + 1
  | .agg parts => uptoBulkAll parts + 1
  | .iface _ d => uptoBulk d + 1
  | .map entries => uptoBulkEntries entries + 1
  | .held _ => 1
def uptoBulkAll {H : Type} : List (DataW H) → Nat
  | [] => 0
  | d :: r => uptoBulk d + uptoBulkAll r
def uptoBulkEntries {H : Type} : List (Lit × DataW H) → Nat
  | [] => 0
  | x :: r => uptoBulkEntry x + uptoBulkEntries r
def uptoBulkEntry {H : Type} : Lit × DataW H → Nat
  | (.string bytes, d) => bytes.length + uptoBulk d + 1
  | (_, d) => uptoBulk d + 1
 end
def uptoSmall : (H : Type) → List (DataW H) → Bool := fun _ ds => decide (uptoBulkAll ds ≤ 1048576)
def OpenSpec.upto (s : _root_.Go.ChangeSpec) : _root_.Go.OpenSpec := { _root_.Go.OpenSpec.ofChange s with cond := some uptoSmall }

/-- 'heartwoodlaw08.GraftNames', WHERE WHAT IT READS IS OF BULK AT MOST 1048576: true; the input reads as it did. -/
def graftNamesUptoRow : OpenClaim := { program := "ytcmgdlkpmagmkaa", sum := "e3327f6adb195dc17d8eed2cbe1f1f385177c5976a0f31d2e57eb72fdb39c9a8", func := "heartwood/heartwoodlaw08.GraftNames", spec := "graftNames", inPlace := ["internal/bytealg.abigen_runtime_cmpstring"], unfollowed := true, recurses := true, apart := false, narrowed := true }
def GraftNamesUptoSaid : Prop := graftNamesUptoRow.holds Try.pinned (OpenSpec.upto graftNamesSpec)

/-- 'heartwoodlaw08.GraftBetween', WHERE WHAT IT READS IS OF BULK AT MOST 1048576: true; the input reads as it did. -/
def graftBetweenUptoRow : OpenClaim := { program := "ytcmgdlkpmagmkaa", sum := "e3327f6adb195dc17d8eed2cbe1f1f385177c5976a0f31d2e57eb72fdb39c9a8", func := "heartwood/heartwoodlaw08.GraftBetween", spec := "graftBetween", inPlace := ["internal/bytealg.abigen_runtime_cmpstring"], unfollowed := true, recurses := true, apart := false, narrowed := true }
def GraftBetweenUptoSaid : Prop := graftBetweenUptoRow.holds Try.pinned (OpenSpec.upto graftBetweenSpec)

/-- 'heartwoodlaw08.GraftSeparates', WHERE WHAT IT READS IS OF BULK AT MOST 1048576: true; the input reads as it did. -/
def graftSeparatesUptoRow : OpenClaim := { program := "ytcmgdlkpmagmkaa", sum := "e3327f6adb195dc17d8eed2cbe1f1f385177c5976a0f31d2e57eb72fdb39c9a8", func := "heartwood/heartwoodlaw08.GraftSeparates", spec := "graftSeparates", inPlace := ["internal/bytealg.abigen_runtime_cmpstring"], unfollowed := true, recurses := true, apart := false, narrowed := true }
def GraftSeparatesUptoSaid : Prop := graftSeparatesUptoRow.holds Try.pinned (OpenSpec.upto graftSeparatesSpec)

/-- 'heartwoodlaw08.GraftFinds', WHERE WHAT IT READS IS OF BULK AT MOST 1048576: true; the input reads as it did. -/
def graftFindsUptoRow : OpenClaim := { program := "ytcmgdlkpmagmkaa", sum := "e3327f6adb195dc17d8eed2cbe1f1f385177c5976a0f31d2e57eb72fdb39c9a8", func := "heartwood/heartwoodlaw08.GraftFinds", spec := "graftFinds", inPlace := ["internal/bytealg.abigen_runtime_cmpstring"], unfollowed := true, recurses := true, apart := false, narrowed := true }
def GraftFindsUptoSaid : Prop := graftFindsUptoRow.holds Try.pinned (OpenSpec.upto graftFindsSpec)

/-- 'heartwoodlaw08.GraftWays', WHERE WHAT IT READS IS OF BULK AT MOST 1048576: true; the input reads as it did. -/
def graftWaysUptoRow : OpenClaim := { program := "ytcmgdlkpmagmkaa", sum := "e3327f6adb195dc17d8eed2cbe1f1f385177c5976a0f31d2e57eb72fdb39c9a8", func := "heartwood/heartwoodlaw08.GraftWays", spec := "graftWays", inPlace := ["internal/bytealg.abigen_runtime_cmpstring"], unfollowed := true, recurses := true, apart := false, narrowed := true }
def GraftWaysUptoSaid : Prop := graftWaysUptoRow.holds Try.pinned (OpenSpec.upto graftWaysSpec)

/-- 'heartwoodlaw08.GraftBack', WHERE WHAT IT READS IS OF BULK AT MOST 1048576: true; the input reads as it did. -/
def graftBackUptoRow : OpenClaim := { program := "ytcmgdlkpmagmkaa", sum := "e3327f6adb195dc17d8eed2cbe1f1f385177c5976a0f31d2e57eb72fdb39c9a8", func := "heartwood/heartwoodlaw08.GraftBack", spec := "graftBack", inPlace := ["internal/bytealg.abigen_runtime_cmpstring"], unfollowed := true, recurses := true, apart := false, narrowed := true }
def GraftBackUptoSaid : Prop := graftBackUptoRow.holds Try.pinned (OpenSpec.upto graftBackSpec)

end Rows
end Go.Proofs.Ytcmgdlkpmagmkaa
