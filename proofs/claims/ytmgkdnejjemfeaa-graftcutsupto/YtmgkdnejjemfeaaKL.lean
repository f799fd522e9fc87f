/- What the laws of graft lean on when they are opened. -/
import Derived.Test.YtmgkdnejjemfeaaRows
import Derived.Test.YtmgkdnejjemfeaaK0
import Derived.ProofKit
import Derived.OpenShut
namespace Go.Proofs.Ytmgkdnejjemfeaa
open Go.ChangeShapes Go.WideShapes Go.ChangeAt Go.RowKit

theorem nd_own : ownKnob Try.prog.godebug = none := by kernel_rfl
theorem nd_laidOut : laidOutB Try.prog = true := by kernel_rfl
theorem Fr.below {S : Nat → Prop} {w w' : World} (h : Fr S w w') {B : Nat} (hB : B ≤ w.heap.size) (hS : ∀ k, S k → B ≤ k) : Below B w w' :=
  ⟨h.os, h.tape, h.output, h.size, fun k hk => h.block k (by omega) (fun s => by have := hS k s; omega)⟩
theorem bytes_length (s : ByteArray) : s.data.toList.length = s.size := Array.length_toList
end Go.Proofs.Ytmgkdnejjemfeaa
