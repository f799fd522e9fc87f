/- free: the document's FromBody. -/
import Derived.Test.YtbpoklkaffaleaaIL
namespace Go.Proofs.Ytbpoklkaffaleaa
open Go.RowKit Go.Maps

def RFromIs (p q : Int) (s : ByteArray) (w : World) (e : Ending) (w' : World) : Prop :=
  (docOk p q s = true ∧ ∃ ao c, e = .returned (.tuple #[.int .u32 (num4 s 0 : Int), .slice ao (docNs s).length c, .int .i64 0]) ∧ w'.ownsRow w.heap.size 25 1 (.slice ao (docNs s).length c) (docNs s).length (ncells (docNs s))) ∨
  (docOk p q s = false ∧ e = .returned (.tuple #[.int .u32 0, .slice none 0 0, .int .i64 (if frameP p q then 90 else 2)]))
def nums4 (s : ByteArray) (j : Nat) : List Nat := (List.range j).map fun i => num4 s (8 + 4 * i)
theorem nums4_succ (s : ByteArray) (j : Nat) : nums4 s (j + 1) = nums4 s j ++ [num4 s (8 + 4 * j)] := by simp [nums4, List.range_succ]
end Go.Proofs.Ytbpoklkaffaleaa
