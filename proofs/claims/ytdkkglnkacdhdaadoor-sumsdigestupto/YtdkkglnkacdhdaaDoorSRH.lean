/-
  Walks: SumsSum.
-/
import Derived.Test.YtdkkglnkacdhdaaDoorSRG
namespace Go.Proofs.YtdkkglnkacdhdaaDoor
open Go.RowKit

theorem eq_same (D : List UInt8) (hD : D.length = 32) : ∀ W, (Op.equalIn 10000 23 (.agg (bcells D).toArray) (.agg (bcells D).toArray)).run Tryd.prog W = .ok true W := by
  intro W
  rw [eq_digest W D D hD hD]
  simp

set_option maxRecDepth 100000 in
set_option maxHeartbeats 400000 in
theorem ssum_walk (w : World) (ht : TabAt w) (s : ByteArray) (hs : s.size ≤ 1099511627776) : Calls Tryd.prog 3 #[.string s] w fun e w' => e = .returned (.bool true) ∧ Same w w' := by
  have HS : Hid (∀ W, Calls Tryd.prog 9 #[.string s] W fun e w' => e = .returned (.agg (bcells (sha s.data.toList)).toArray) ∧ Same W w') := fun W => sum_calls W s (by omega)
  have HR : Hid (∀ W, Calls Tryd.prog 10 #[.string s] W fun e w' => e = .returned (.agg (bcells (sha s.data.toList)).toArray) ∧ Same W w') := fun W => rsum_calls W s hs
  have hEq := eq_same (sha s.data.toList) rfl
  have HA : Hid (∀ W, Same w W → Calls Tryd.prog 11 #[] W fun e w' => e = .returned (.bool true) ∧ Same W w') := fun W s => awake_calls W (ht.same s)
  generalize (bcells (sha s.data.toList)).toArray = X at *
  clear ht
  go_enter Tryd.func3, Tryd.ntmps3
  go_wp2_with fail
  refine (HS.out _).mono ?_
  rintro e W1 ⟨rfl, s1⟩
  go_wp2_with fail
  refine (HR.out _).mono ?_
  rintro e W2 ⟨rfl, s2⟩
  have s02 := s1.trans s2
  have HA2 := HA.out W2 s02
  clear s1 s2
  go_wp2_with fail
  refine HA2.mono ?_
  rintro e W3 ⟨rfl, s3⟩
  go_wp2_with fail
  go_ret
  exact ⟨rfl, s02.trans s3⟩
end Go.Proofs.YtdkkglnkacdhdaaDoor
