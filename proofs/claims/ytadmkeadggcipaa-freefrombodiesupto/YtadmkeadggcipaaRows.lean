/-
  No cell of these rows narrows 'for every input' (looked for: loops, veiled, ifaces, maps, wideKeys, modest, calm, conditions, laid).
  DERIVED. THE GIVEN ROWS OF THIS SEAT. 4 by the template 'for every input the law returns true; each argument reads behind the call as it read before'; 0 by the template 'total and deterministic' (their statements: YtadmkeadggcipaaTotals.lean).
  GIVEN WITH THE SEED: the statements are not yours to turn. If you find one false, say at which input.
  Laid BY PROGRAM, IN A SANDBOX (cutbox-rows.mjs): the forced cells as the released guide's own fill.sh prints them over the translation af02ae4450a12118… (all of the seat's roots in one cut). By AI agents, Wed Nov 11 2026. No macro, syntax, notation, axiom, sorry.
-/
import Derived.Test.YtadmkeadggcipaaChecked
import GoSem.Claim
import GoSem.ClaimJoined
import GoSem.ClaimMapViews
import Derived.JoinedTies
import Derived.KernelRfl
namespace Go.Proofs.Ytadmkeadggcipaa
/- THE CELL 'sum', in the pinned program and in every row, IS THE sha256 OF THE DUMP (.gsa) THAT YtadmkeadggcipaaProg.lean LOADS. Nothing in Lean hashes anything: it is a label: what it is worth is what the hold of that sum in a sandbox is worth. -/
noncomputable def Try.pinned : Pinned := { name := "ytadmkeadggcipaa", sum := "af02ae4450a12118bcea38c2a37803eac530108478de1cd1e4763d8af801f19e", checked := Try.checked }
namespace Rows
def none {H : Type} : Left H := { results := [], args := [] }

/-- 'heartwoodlaw09.FreeEntries': WHATEVER THE INPUT: true; the input reads as it did. -/
def freeEntriesSpec : ChangeSpec := { name := "freeEntries", fn := fun _ => fun
  | [d] => { results := [.lit (.bool true)], args := [d] }
  | _ => none }
def freeEntriesRow : OpenClaim := { program := "ytadmkeadggcipaa", sum := "af02ae4450a12118bcea38c2a37803eac530108478de1cd1e4763d8af801f19e", func := "heartwood/heartwoodlaw09.FreeEntries", spec := "freeEntries", unfollowed := true, recurses := true, apart := false }
def FreeEntriesSaid : Prop := freeEntriesRow.holds Try.pinned (OpenSpec.ofChange freeEntriesSpec)

/-- ITS FALSE NEIGHBOUR: 'it returns false'. Refute it at one input. -/
def freeEntriesWrong : ChangeSpec := { name := "freeEntries", fn := fun _ => fun
  | [d] => { results := [.lit (.bool false)], args := [d] }
  | _ => none }
def FreeEntriesWrongFalsely : Prop := freeEntriesRow.holds Try.pinned (OpenSpec.ofChange freeEntriesWrong)

/-- 'heartwoodlaw09.FreeBodies': WHATEVER THE INPUT: true; the input reads as it did. -/
def freeBodiesSpec : ChangeSpec := { name := "freeBodies", fn := fun _ => fun
  | [d1, d2, d3] => { results := [.lit (.bool true)], args := [d1, d2, d3] }
  | _ => none }
def freeBodiesRow : OpenClaim := { program := "ytadmkeadggcipaa", sum := "af02ae4450a12118bcea38c2a37803eac530108478de1cd1e4763d8af801f19e", func := "heartwood/heartwoodlaw09.FreeBodies", spec := "freeBodies", unfollowed := true, recurses := true, apart := false }
def FreeBodiesSaid : Prop := freeBodiesRow.holds Try.pinned (OpenSpec.ofChange freeBodiesSpec)

/-- ITS FALSE NEIGHBOUR: 'it returns false'. Refute it at one input. -/
def freeBodiesWrong : ChangeSpec := { name := "freeBodies", fn := fun _ => fun
  | [d1, d2, d3] => { results := [.lit (.bool false)], args := [d1, d2, d3] }
  | _ => none }
def FreeBodiesWrongFalsely : Prop := freeBodiesRow.holds Try.pinned (OpenSpec.ofChange freeBodiesWrong)

/-- 'heartwoodlaw09.FreeFromBodies': WHATEVER THE INPUT: true; the input reads as it did. -/
def freeFromBodiesSpec : ChangeSpec := { name := "freeFromBodies", fn := fun _ => fun
  | [d1, d2] => { results := [.lit (.bool true)], args := [d1, d2] }
  | _ => none }
def freeFromBodiesRow : OpenClaim := { program := "ytadmkeadggcipaa", sum := "af02ae4450a12118bcea38c2a37803eac530108478de1cd1e4763d8af801f19e", func := "heartwood/heartwoodlaw09.FreeFromBodies", spec := "freeFromBodies", unfollowed := true, recurses := true, apart := false }
def FreeFromBodiesSaid : Prop := freeFromBodiesRow.holds Try.pinned (OpenSpec.ofChange freeFromBodiesSpec)

/-- ITS FALSE NEIGHBOUR: 'it returns false'. Refute it at one input. -/
def freeFromBodiesWrong : ChangeSpec := { name := "freeFromBodies", fn := fun _ => fun
  | [d1, d2] => { results := [.lit (.bool false)], args := [d1, d2] }
  | _ => none }
def FreeFromBodiesWrongFalsely : Prop := freeFromBodiesRow.holds Try.pinned (OpenSpec.ofChange freeFromBodiesWrong)

/-- 'heartwoodlaw09.FreeNames': WHATEVER THE INPUT: true; the input reads as it did. -/
def freeNamesSpec : ChangeSpec := { name := "freeNames", fn := fun _ => fun
  | [] => { results := [.lit (.bool true)], args := [] }
  | _ => none }
def freeNamesRow : OpenClaim := { program := "ytadmkeadggcipaa", sum := "af02ae4450a12118bcea38c2a37803eac530108478de1cd1e4763d8af801f19e", func := "heartwood/heartwoodlaw09.FreeNames", spec := "freeNames", unfollowed := true, recurses := true, apart := false }
def FreeNamesSaid : Prop := freeNamesRow.holds Try.pinned (OpenSpec.ofChange freeNamesSpec)

/-- ITS FALSE NEIGHBOUR: 'it returns false'. Refute it at one input. -/
def freeNamesWrong : ChangeSpec := { name := "freeNames", fn := fun _ => fun
  | [] => { results := [.lit (.bool false)], args := [] }
  | _ => none }
def FreeNamesWrongFalsely : Prop := freeNamesRow.holds Try.pinned (OpenSpec.ofChange freeNamesWrong)

/- THE SECOND FORM. 'bulk': how many values and letters a reading holds, each counted each time it is reached (what is shared counts as often as it is met; a slice's spare places count too). A statement '..UptoSaid' is the law's where the arguments, and the package variables that the reading takes, are together of bulk at most 1048576: NARROWER than '..Said'. Prove '..Said' where nothing that the law and all that it calls make is longer than what came in: it says more and counts as full. Else prove '..UptoSaid'. A law counts once. -/
mutual
def uptoBulk {H : Type} : DataW H → Nat
  | .lit (.string bytes) => bytes.length + 1
  | .lit _ => 1
  | .nil => 1
  | .ptr d => uptoBulk d + 1
  | .slice elems spare => uptoBulkAll elems + uptoBulkAll spare + 1
  | .agg parts => uptoBulkAll parts + 1
  | .iface _ d => uptoBulk d + 1
  | .map entries => uptoBulkEntries entries + 1
  | .held _ => 1
def uptoBulkAll {H : Type} : List (DataW H) → Nat
  | [] => 0
  | d :: r => uptoBulk d + uptoBulkAll r
def uptoBulkEntries {H : Type} : List (Lit × DataW H) → Nat
  | [] => 0
  | x :: r => uptoBulkEntry x + uptoBulkEntries r
def uptoBulkEntry {H : Type} : Lit × DataW H → Nat
  | (.string bytes, d) => bytes.length + uptoBulk d + 1
  | (_, d) => uptoBulk d + 1
 end
def uptoSmall : (H : Type) → List (DataW H) → Bool := fun _ ds => decide (uptoBulkAll ds ≤ 1048576)
def OpenSpec.upto (s : _root_.Go.ChangeSpec) : _root_.Go.OpenSpec := { _root_.Go.OpenSpec.ofChange s with cond := some uptoSmall }

/-- 'heartwoodlaw09.FreeEntries', WHERE WHAT IT READS IS OF BULK AT MOST 1048576: true; the input reads as it did. -/
def freeEntriesUptoRow : OpenClaim := { program := "ytadmkeadggcipaa", sum := "af02ae4450a12118bcea38c2a37803eac530108478de1cd1e4763d8af801f19e", func := "heartwood/heartwoodlaw09.FreeEntries", spec := "freeEntries", unfollowed := true, recurses := true, apart := false, narrowed := true }
def FreeEntriesUptoSaid : Prop := freeEntriesUptoRow.holds Try.pinned (OpenSpec.upto freeEntriesSpec)

/-- 'heartwoodlaw09.FreeBodies', WHERE WHAT IT READS IS OF BULK AT MOST 1048576: true; the input reads as it did. -/
def freeBodiesUptoRow : OpenClaim := { program := "ytadmkeadggcipaa", sum := "af02ae4450a12118bcea38c2a37803eac530108478de1cd1e4763d8af801f19e", func := "heartwood/heartwoodlaw09.FreeBodies", spec := "freeBodies", unfollowed := true, recurses := true, apart := false, narrowed := true }
def FreeBodiesUptoSaid : Prop := freeBodiesUptoRow.holds Try.pinned (OpenSpec.upto freeBodiesSpec)

/-- 'heartwoodlaw09.FreeFromBodies', WHERE WHAT IT READS IS OF BULK AT MOST 1048576: true; the input reads as it did. -/
def freeFromBodiesUptoRow : OpenClaim := { program := "ytadmkeadggcipaa", sum := "af02ae4450a12118bcea38c2a37803eac530108478de1cd1e4763d8af801f19e", func := "heartwood/heartwoodlaw09.FreeFromBodies", spec := "freeFromBodies", unfollowed := true, recurses := true, apart := false, narrowed := true }
def FreeFromBodiesUptoSaid : Prop := freeFromBodiesUptoRow.holds Try.pinned (OpenSpec.upto freeFromBodiesSpec)

/-- 'heartwoodlaw09.FreeNames', WHERE WHAT IT READS IS OF BULK AT MOST 1048576: true; the input reads as it did. -/
def freeNamesUptoRow : OpenClaim := { program := "ytadmkeadggcipaa", sum := "af02ae4450a12118bcea38c2a37803eac530108478de1cd1e4763d8af801f19e", func := "heartwood/heartwoodlaw09.FreeNames", spec := "freeNames", unfollowed := true, recurses := true, apart := false, narrowed := true }
def FreeNamesUptoSaid : Prop := freeNamesUptoRow.holds Try.pinned (OpenSpec.upto freeNamesSpec)

end Rows
end Go.Proofs.Ytadmkeadggcipaa
