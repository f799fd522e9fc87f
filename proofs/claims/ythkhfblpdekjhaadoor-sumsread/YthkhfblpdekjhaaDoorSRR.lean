/-
  Walks: the digits' functions.
-/
import Derived.Test.YthkhfblpdekjhaaDoorS2
namespace Go.Proofs.YthkhfblpdekjhaaDoor
open Go.RowKit

def hxN (n : Nat) : Nat := if n < 10 then 48 + n else 87 + n
set_option maxRecDepth 100000 in
set_option maxHeartbeats 400000 in
theorem rdigit_calls (w : World) (n : Nat) (hn : n < 16) : Calls Tryd.prog 43 #[.int .u8 n] w fun e w' => e = .returned (.int .u8 (hxN n : Nat)) ∧ w' = w := by
  unfold hxN
  by_cases h : n < 10
  · rw [if_pos h]
    go_enter Tryd.func43, Tryd.ntmps43
    go_wp2_with fail
    go_ret
    exact ⟨ret_int (by omega), rfl⟩
  · rw [if_neg h]
    go_enter Tryd.func43, Tryd.ntmps43
    go_wp2_with fail
    go_ret
    exact ⟨ret_int (by omega), rfl⟩
def digV (c : Nat) : Nat := if 48 ≤ c ∧ c ≤ 57 then c - 48 else if 97 ≤ c ∧ c ≤ 102 then c - 87 else 0
def digO (c : Nat) : Bool := if 48 ≤ c ∧ c ≤ 57 then true else if 97 ≤ c ∧ c ≤ 102 then true else false
theorem ret_digit {a b : Int} {x y : Bool} (h : a = b) (h2 : x = y) : Ending.returned (.tuple #[.int .u8 a, .bool x]) = .returned (.tuple #[.int .u8 b, .bool y]) := by rw [h, h2]
set_option maxRecDepth 100000 in
set_option maxHeartbeats 400000 in
theorem digit_calls (w : World) (c : Nat) (hc : c < 256) : Calls Tryd.prog 44 #[.int .u8 c] w fun e w' => e = .returned (.tuple #[.int .u8 (digV c : Nat), .bool (digO c)]) ∧ w' = w := by
  unfold digV digO
  by_cases h1 : c < 48
  · rw [if_neg (by omega), if_neg (by omega), if_neg (by omega), if_neg (by omega)]
    have d1 : ¬ (48 : Int) ≤ c := by omega
    have d2 : ¬ (97 : Int) ≤ c := by omega
    go_enter Tryd.func44, Tryd.ntmps44
    go_wp2_with fail
    go_ret2
    exact ⟨ret_digit (by omega) rfl, rfl⟩
  · by_cases h2 : c ≤ 57
    · rw [if_pos (by omega), if_pos (by omega)]
      have d1 : (48 : Int) ≤ c := by omega
      have d2 : (c : Int) ≤ 57 := by omega
      go_enter Tryd.func44, Tryd.ntmps44
      go_wp2_with fail
      go_ret2
      exact ⟨ret_digit (by omega) rfl, rfl⟩
    · by_cases h3 : c < 97
      · rw [if_neg (by omega), if_neg (by omega), if_neg (by omega), if_neg (by omega)]
        have d1 : (48 : Int) ≤ c := by omega
        have d2 : ¬ (c : Int) ≤ 57 := by omega
        have d3 : ¬ (97 : Int) ≤ c := by omega
        go_enter Tryd.func44, Tryd.ntmps44
        go_wp2_with fail
        go_ret2
        exact ⟨ret_digit (by omega) rfl, rfl⟩
      · by_cases h4 : c ≤ 102
        · rw [if_neg (by omega), if_pos (by omega), if_neg (by omega), if_pos (by omega)]
          have d1 : (48 : Int) ≤ c := by omega
          have d2 : ¬ (c : Int) ≤ 57 := by omega
          have d3 : (97 : Int) ≤ c := by omega
          have d4 : (c : Int) ≤ 102 := by omega
          go_enter Tryd.func44, Tryd.ntmps44
          go_wp2_with fail
          go_ret2
          exact ⟨ret_digit (by omega) rfl, rfl⟩
        · rw [if_neg (by omega), if_neg (by omega), if_neg (by omega), if_neg (by omega)]
          have d1 : (48 : Int) ≤ c := by omega
          have d2 : ¬ (c : Int) ≤ 57 := by omega
          have d3 : (97 : Int) ≤ c := by omega
          have d4 : ¬ (c : Int) ≤ 102 := by omega
          go_enter Tryd.func44, Tryd.ntmps44
          go_wp2_with fail
          go_ret2
          exact ⟨ret_digit (by omega) rfl, rfl⟩
end Go.Proofs.YthkhfblpdekjhaaDoor
