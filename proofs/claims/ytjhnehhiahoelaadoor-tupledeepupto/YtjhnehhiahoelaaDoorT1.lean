/-
  Walks: width.
-/
import Derived.Test.YtjhnehhiahoelaaDoorT0
import Derived.Lib.BitFns
import Derived.Lib.Small
namespace Go.Proofs.YtjhnehhiahoelaaDoor
open Go.RowKit

/-- The fewest bytes that hold x. -/
def bytesN (x : Nat) : Nat :=
  if x = 0 then 0 else if x < 256 then 1 else if x < 65536 then 2 else if x < 16777216 then 3 else if x < 4294967296 then 4 else if x < 1099511627776 then 5 else if x < 281474976710656 then 6 else if x < 72057594037927936 then 7 else 8

theorem len8_size : (Lib.len8tab.size : Int) = 256 := by kernel_rfl
theorem len8_fin : ∀ y : Fin 256, ((y.val = 0 → (Lib.len8tab.data.getD y.val 0).toNat = 0) ∧ (1 ≤ y.val → 1 ≤ (Lib.len8tab.data.getD y.val 0).toNat) ∧ (Lib.len8tab.data.getD y.val 0).toNat ≤ 8) := by decide +kernel
theorem bget (T : ByteArray) (y : Nat) (h : y < T.size) : T.data.getD y 0 = T[y] := by
  rw [Array.getD_eq_getD_getElem?, Array.getElem?_eq_getElem h]; rfl
theorem len8_at (y : Nat) (h : y < Lib.len8tab.size) : (y = 0 → (Lib.len8tab[y]).toNat = 0) ∧ (1 ≤ y → 1 ≤ (Lib.len8tab[y]).toNat) ∧ (Lib.len8tab[y]).toNat ≤ 8 := by
  have h2 : y < 256 := by have := len8_size; omega
  have k := len8_fin ⟨y, h2⟩
  rw [← bget Lib.len8tab y h]
  exact k
theorem bytesN_eq (x k : Nat) (h : (k = 0 ∧ x = 0) ∨ (k = 1 ∧ 1 ≤ x ∧ x < 256) ∨ (k = 2 ∧ 256 ≤ x ∧ x < 65536) ∨ (k = 3 ∧ 65536 ≤ x ∧ x < 16777216) ∨ (k = 4 ∧ 16777216 ≤ x ∧ x < 4294967296) ∨ (k = 5 ∧ 4294967296 ≤ x ∧ x < 1099511627776) ∨ (k = 6 ∧ 1099511627776 ≤ x ∧ x < 281474976710656) ∨ (k = 7 ∧ 281474976710656 ≤ x ∧ x < 72057594037927936) ∨ (k = 8 ∧ 72057594037927936 ≤ x)) : bytesN x = k := by
  unfold bytesN
  rcases h with ⟨rfl, h⟩ | ⟨rfl, h⟩ | ⟨rfl, h⟩ | ⟨rfl, h⟩ | ⟨rfl, h⟩ | ⟨rfl, h⟩ | ⟨rfl, h⟩ | ⟨rfl, h⟩ | ⟨rfl, h⟩
  · rw [if_pos h]
  · rw [if_neg (by omega), if_pos (by omega)]
  · rw [if_neg (by omega), if_neg (by omega), if_pos (by omega)]
  · rw [if_neg (by omega), if_neg (by omega), if_neg (by omega), if_pos (by omega)]
  · rw [if_neg (by omega), if_neg (by omega), if_neg (by omega), if_neg (by omega), if_pos (by omega)]
  · rw [if_neg (by omega), if_neg (by omega), if_neg (by omega), if_neg (by omega), if_neg (by omega), if_pos (by omega)]
  · rw [if_neg (by omega), if_neg (by omega), if_neg (by omega), if_neg (by omega), if_neg (by omega), if_neg (by omega), if_pos (by omega)]
  · rw [if_neg (by omega), if_neg (by omega), if_neg (by omega), if_neg (by omega), if_neg (by omega), if_neg (by omega), if_neg (by omega), if_pos (by omega)]
  · rw [if_neg (by omega), if_neg (by omega), if_neg (by omega), if_neg (by omega), if_neg (by omega), if_neg (by omega), if_neg (by omega), if_neg (by omega)]
theorem tdiv8 (a : Nat) (h : a ≤ 100) : wrap64 ((wrap64 ((a : Int) + 7)).tdiv 8) = (((a + 7) / 8 : Nat) : Int) := by
  have e3 : wrap64 ((a : Int) + 7) = ((a + 7 : Nat) : Int) := by unfold wrap64; omega
  rw [e3, Int.tdiv_eq_ediv_of_nonneg (by omega)]
  unfold wrap64
  omega
/-- What width reckons of a table's word. -/
theorem width_end (k y : Nat) (hy : y < Lib.len8tab.size) (x : Nat) (hk : k ≤ 56) (h8 : k % 8 = 0) (h1 : 1 ≤ y) (h : bytesN x = k / 8 + 1) : wrap64 ((wrap64 (wrap64 ((k : Int) + wrap64 ((Lib.len8tab[y]).toNat : Int)) + 7)).tdiv 8) = (bytesN x : Int) := by
  obtain ⟨_, a2, a3⟩ := len8_at y hy
  have a2 := a2 h1
  generalize (Lib.len8tab[y]).toNat = t at *
  have e1 : wrap64 (t : Int) = t := by unfold wrap64; omega
  have e2 : wrap64 ((k : Int) + t) = ((k + t : Nat) : Int) := by unfold wrap64; omega
  rw [e1, e2, tdiv8 _ (by omega), h]
  omega
theorem width_end0 (y : Nat) (hy : y < Lib.len8tab.size) (x : Nat) (h : y = x) (hx : x < 256) : wrap64 ((wrap64 (wrap64 (wrap64 ((Lib.len8tab[y]).toNat : Int)) + 7)).tdiv 8) = (bytesN x : Int) := by
  obtain ⟨a1, a2, a3⟩ := len8_at y hy
  generalize (Lib.len8tab[y]).toNat = t at *
  have e1 : wrap64 (wrap64 (t : Int)) = t := by unfold wrap64; omega
  rw [e1, tdiv8 _ (by omega)]
  unfold bytesN
  by_cases h0 : x = 0
  · rw [if_pos h0, a1 (by omega)]
  · have := a2 (by omega)
    rw [if_neg h0, if_pos hx]; omega

set_option maxRecDepth 100000 in
set_option maxHeartbeats 4000000 in
theorem width_pos (n : Int) (h0 : 0 ≤ n) (h1 : n ≤ 9223372036854775807) (w : World) :
    Calls Tryd.prog 52 #[.int .i64 n] w fun e w' => e = .returned (.int .i64 (bytesN n.toNat)) ∧ w' = w := by
  have hsz := len8_size
  go_enter Tryd.func52, Tryd.ntmps52
  go_wp2
  all_goals go_ret
  all_goals refine ⟨congrArg Ending.returned (congrArg (Value.int IntKind.i64) ?_), rfl⟩
  all_goals first
    | exact width_end 56 _ _ _ (by omega) (by omega) (by omega) (bytesN_eq _ _ (by omega))
    | exact width_end 48 _ _ _ (by omega) (by omega) (by omega) (bytesN_eq _ _ (by omega))
    | exact width_end 40 _ _ _ (by omega) (by omega) (by omega) (bytesN_eq _ _ (by omega))
    | exact width_end 32 _ _ _ (by omega) (by omega) (by omega) (bytesN_eq _ _ (by omega))
    | exact width_end 24 _ _ _ (by omega) (by omega) (by omega) (bytesN_eq _ _ (by omega))
    | exact width_end 16 _ _ _ (by omega) (by omega) (by omega) (bytesN_eq _ _ (by omega))
    | exact width_end 8 _ _ _ (by omega) (by omega) (by omega) (bytesN_eq _ _ (by omega))
    | exact width_end0 _ _ _ rfl (by omega)
set_option maxRecDepth 100000 in
set_option maxHeartbeats 4000000 in
theorem width_neg (n : Int) (h0 : n < 0) (h1 : -9223372036854775808 ≤ n) (w : World) :
    Calls Tryd.prog 52 #[.int .i64 n] w fun e w' => e = .returned (.int .i64 (bytesN (-n).toNat)) ∧ w' = w := by
  have hsz := len8_size
  obtain ⟨m, hm⟩ : ∃ m : Int, m = -n := ⟨_, rfl⟩
  have hwm : IntKind.u64.wrap (-IntKind.u64.wrap n) = m := by rw [IntKind.wrap_u64, IntKind.wrap_u64]; omega
  have hm0 : 0 < m := by omega
  have hm1 : m ≤ 9223372036854775808 := by omega
  rw [← hm]
  clear hm
  go_enter Tryd.func52, Tryd.ntmps52
  go_wp2
  all_goals go_ret
  all_goals refine ⟨congrArg Ending.returned (congrArg (Value.int IntKind.i64) ?_), rfl⟩
  all_goals first
    | exact width_end 56 _ _ _ (by omega) (by omega) (by omega) (bytesN_eq _ _ (by omega))
    | exact width_end 48 _ _ _ (by omega) (by omega) (by omega) (bytesN_eq _ _ (by omega))
    | exact width_end 40 _ _ _ (by omega) (by omega) (by omega) (bytesN_eq _ _ (by omega))
    | exact width_end 32 _ _ _ (by omega) (by omega) (by omega) (bytesN_eq _ _ (by omega))
    | exact width_end 24 _ _ _ (by omega) (by omega) (by omega) (bytesN_eq _ _ (by omega))
    | exact width_end 16 _ _ _ (by omega) (by omega) (by omega) (bytesN_eq _ _ (by omega))
    | exact width_end 8 _ _ _ (by omega) (by omega) (by omega) (bytesN_eq _ _ (by omega))
    | exact width_end0 _ _ _ rfl (by omega)
/-- A number's bytes without its sign. -/
def widthI (n : Int) : Nat := bytesN n.natAbs
theorem width_calls (n : Int) (h0 : -9223372036854775808 ≤ n) (h1 : n ≤ 9223372036854775807) (w : World) :
    Calls Tryd.prog 52 #[.int .i64 n] w fun e w' => e = .returned (.int .i64 (widthI n)) ∧ w' = w := by
  unfold widthI
  by_cases h : n < 0
  · rw [show n.natAbs = (-n).toNat from by omega]; exact width_neg n h h0 w
  · rw [show n.natAbs = n.toNat from by omega]; exact width_pos n (by omega) h1 w
theorem widthI_le (n : Int) : widthI n ≤ 8 := by
  unfold widthI
  have : ∃ k, k ≤ 8 ∧ bytesN n.natAbs = k := by
    by_cases h0 : n.natAbs < 72057594037927936
    · by_cases h1 : n.natAbs < 281474976710656
      · by_cases h2 : n.natAbs < 1099511627776
        · by_cases h3 : n.natAbs < 4294967296
          · by_cases h4 : n.natAbs < 16777216
            · by_cases h5 : n.natAbs < 65536
              · by_cases h6 : n.natAbs < 256
                · by_cases h7 : n.natAbs = 0
                  · exact ⟨0, by omega, bytesN_eq _ _ (by omega)⟩
                  · exact ⟨1, by omega, bytesN_eq _ _ (by omega)⟩
                · exact ⟨2, by omega, bytesN_eq _ _ (by omega)⟩
              · exact ⟨3, by omega, bytesN_eq _ _ (by omega)⟩
            · exact ⟨4, by omega, bytesN_eq _ _ (by omega)⟩
          · exact ⟨5, by omega, bytesN_eq _ _ (by omega)⟩
        · exact ⟨6, by omega, bytesN_eq _ _ (by omega)⟩
      · exact ⟨7, by omega, bytesN_eq _ _ (by omega)⟩
    · exact ⟨8, by omega, bytesN_eq _ _ (by omega)⟩
  obtain ⟨k, h, e⟩ := this
  omega
end Go.Proofs.YtjhnehhiahoelaaDoor
