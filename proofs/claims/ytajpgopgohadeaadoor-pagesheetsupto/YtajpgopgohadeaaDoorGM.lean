/- Whether a frame may be: the program's May and the document's answer alike. -/
import Derived.Test.YtajpgopgohadeaaDoorProg
import Derived.Test.YtajpgopgohadeaaDoorPF
namespace Go.Proofs.YtajpgopgohadeaaDoor
open Go.RowKit

/-- Whether a frame may be. -/
def frameP (p q : Int) : Bool := (p == 1024 || p == 2048 || p == 4096 || p == 8192) && (decide (1 ≤ q) && decide (q ≤ 32))

set_option maxRecDepth 100000 in
theorem may_calls (p q : Int) (w : World) :
    Calls Tryd.prog 13 #[.agg #[.int .i64 p, .int .i64 q]] w fun e w' => e = .returned (.bool (frameP p q)) ∧ Same w w' := by
  go_enter Tryd.func13, Tryd.ntmps13
  go_wp2
  all_goals go_ret
  all_goals refine ⟨?_, by repeat' (first | exact Fr.refl _ _ | refine Fr.drewN ?_ _ | refine Fr.drew ?_ | refine Fr.setCell ?_ (fun h => by simp only at h; omega) _ | refine Fr.alloc ?_ _)⟩
  all_goals (simp [frameP, *]; try omega)

set_option maxRecDepth 100000 in
theorem rmay_calls (p q : Int) (w : World) :
    Calls Tryd.prog 6 #[.agg #[.int .i64 p, .int .i64 q]] w fun e w' => e = .returned (.bool (frameP p q)) ∧ Same w w' := by
  go_enter Tryd.func6, Tryd.ntmps6
  go_wp2
  all_goals go_ret
  all_goals refine ⟨?_, by repeat' (first | exact Fr.refl _ _ | refine Fr.drewN ?_ _ | refine Fr.drew ?_ | refine Fr.setCell ?_ (fun h => by simp only at h; omega) _ | refine Fr.alloc ?_ _)⟩
  all_goals (simp [frameP, *]; try omega)
end Go.Proofs.YtajpgopgohadeaaDoor
