/- Same and halves of made halves. -/
import Derived.Test.YtmgkdnejjemfeaaC1J
import Derived.Test.YtmgkdnejjemfeaaGO1J
namespace Go.Proofs.Ytmgkdnejjemfeaa
open Go.RowKit

end Go.Proofs.Ytmgkdnejjemfeaa
namespace Go.Proofs.Ytmgkdnejjemfeaa
open Go.RowKit

def greatB (N : Nd) : Bool := decide ((2000 : Int) < (N.ps.length : Int)) || decide ((2000 : Int) < (N.ss.length : Int)) || decide ((2000 : Int) < (N.ks.length : Int))
set_option maxRecDepth 100000 in
set_option maxHeartbeats 1000000 in
theorem great_calls {r : Nr} {N : Nd} (w : World) : Calls Try.prog 4 #[ndV r N] w fun e w' => e = .returned (.bool (greatB N)) ∧ Same w w' := by
  have t1 : Same w (w.alloc (.cells #[.slice r.pa N.ps.length r.cp, .slice r.sa N.ss.length r.cs, .slice r.ka N.ks.length r.ck] 28)) := (Fr.refl _ w).alloc _
  unfold greatB
  go_enter Try.func4, Try.ntmps4
  go_wp2_with fail
  all_goals go_ret
  all_goals exact ⟨by first | rfl | simp_all, t1⟩
end Go.Proofs.Ytmgkdnejjemfeaa
