/- first, halved of a leaf. -/
import Derived.Test.YteddbkbfnafbpaaK4
import Derived.Test.YteddbkbfnafbpaaK7
namespace Go.Proofs.Yteddbkbfnafbpaa
open Go.RowKit

set_option maxRecDepth 100000 in
set_option maxHeartbeats 1000000 in
theorem firstPairs {ao : Option Addr} {n c m : Nat} {cells : List Value} (w : World) (h : PartOk w 2 ⟨ao, n, c, cells⟩) (h3 : ∀ a, ao = some a → ∃ b o, a = ⟨b, o, none⟩) (hm : m ≤ n) (hc : n ≤ c) (hn2 : n ≤ 1048576) :
    Calls Try.prog 63 #[.slice ao n c, .int .i64 (m : Int)] w fun e w' => ∃ ao' c', e = .returned (.slice ao' m c') ∧ w'.ownsRow w.heap.size 41 2 (.slice ao' m c') m (cells.take (m * 2)) ∧ Same w w' := by
  obtain ⟨d, hd⟩ : ∃ d, n = m + d := ⟨n - m, by omega⟩
  have hl : cells.length = n * 2 := h.len
  have HW : Hid (∀ W, Same w W → Calls Try.prog 58 #[.slice ao n c, .int .i64 (m : Int), .int .i64 (d : Int)] W fun e w' => ∃ ao' c', e = .returned (.slice ao' m c') ∧ w'.ownsRow W.heap.size 41 2 (.slice ao' m c') m (cells.take (m * 2)) ∧ Same W w') := fun W s => by
    have := withoutPairs (i := m) (m := d) W (h.same s) h3 (by omega) hc hn2
    rw [show n - d = m from by omega, show (m + d) * 2 = cells.length from by omega, List.drop_length, List.append_nil] at this
    exact this
  have e1 : (n : Int) - (m : Int) = (d : Int) := by omega
  have e2 : RowKit.wrap64 ((n : Int) - (m : Int)) = (d : Int) := by unfold RowKit.wrap64; omega
  have e3 : IntKind.i64.wrap (d : Int) = (d : Int) := by rw [IntKind.wrap_i64]; omega
  clear h h3 hd hl
  go_enter Try.func63, Try.ntmps63
  go_wp2_with fail
  refine (HW.out _ (Fr.refl _ _)).mono ?_
  rintro e W1 ⟨ao1, c1, rfl, own1, s1⟩
  go_wp2_with fail
  go_ret
  exact ⟨_, _, rfl, own1, s1⟩
end Go.Proofs.Yteddbkbfnafbpaa
