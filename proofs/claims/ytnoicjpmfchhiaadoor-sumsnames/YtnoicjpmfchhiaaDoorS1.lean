/-
  Walks: More.
-/
import Derived.Test.YtnoicjpmfchhiaaDoorChecked
import Derived.WalkKit
import Derived.ProofKit
import Derived.Handy
import Derived.Test.YtnoicjpmfchhiaaDoorPF
import Derived.Test.YtnoicjpmfchhiaaDoorSW
import Derived.Test.YtnoicjpmfchhiaaDoorSC
namespace Go.Proofs.YtnoicjpmfchhiaaDoor
open Go.RowKit

/-- The table of the CRC lies where it was laid. -/
def TabAt (w : World) : Prop := ∀ k : Nat, k < 16 → w.cell? ⟨0, k, none⟩ = some (.int .u32 ((crcTab.getD k 0).toNat : Int))

theorem tab_facts {w : World} (ht : TabAt w) (x : UInt32) : ∃ q : Nat, bits .and .u32 (x.toNat : Int) 15 = (q : Int) ∧ q < 16 ∧ w.cell? ⟨0, q, none⟩ = some (.int .u32 ((crcT x).toNat : Int)) := by
  have hlt : (x &&& 15).toNat < 16 := by
    rw [UInt32.toNat_and]
    exact Nat.lt_of_le_of_lt Nat.and_le_right (by decide)
  exact ⟨(x &&& 15).toNat, a32 x 15, hlt, ht _ hlt⟩
theorem nib_fact (x : UInt32) : bits .xor .u32 ((x.toNat : Int) / 16) ((crcT x).toNat : Int) = ((nibS x).toNat : Int) := by
  have := r32 x 4 (by decide)
  unfold nibS
  rw [← x32]
  show _ = bits .xor .u32 ((x >>> UInt32.ofNat 4).toNat : Int) _
  rw [← this]; rfl

set_option maxRecDepth 100000 in
set_option maxHeartbeats 400000 in
theorem more_calls (w : World) (sum : UInt32) (s : ByteArray) (hs : s.size ≤ 281474976710656) (ht : TabAt w) :
    Calls Tryd.prog 18 #[.int .u32 sum.toNat, .string s] w fun e w' => e = .returned (.int .u32 (moreP sum s.data.toList).toNat) ∧ w' = w := by
  go_enter Tryd.func18, Tryd.ntmps18
  go_wp2
  go_loop [5, 11] (fun r i => ∃ k : Nat, k ≤ s.size ∧ i = .int .i64 k ∧ r = .int .u32 ((s.data.toList.take k).foldl byteS (~~~ sum)).toNat) (fun _ i => s.size - (intOf i).toNat)
  case atStart => exact ⟨0, Nat.zero_le _, rfl, by rw [n32]; rfl⟩
  case round =>
    obtain ⟨k, hk, rfl, rfl⟩ := hrel
    by_cases hlt : k < s.size
    · obtain ⟨r, hr⟩ : ∃ r, r = (s.data.toList.take k).foldl byteS (~~~ sum) := ⟨_, rfl⟩
      rw [← hr]
      have HR : Hid (r = (s.data.toList.take k).foldl byteS (~~~ sum)) := hr
      clear hr
      obtain ⟨x1, h1⟩ : ∃ x, x = r ^^^ (s[k]).toUInt32 := ⟨_, rfl⟩
      have e1 : bits .xor .u32 (r.toNat : Int) (((s[k]).toNat : Int) % 4294967296) = (x1.toNat : Int) := by
        have := (s[k]).toNat_lt
        rw [h1, ← x32, UInt8.toNat_toUInt32, Int.emod_eq_of_lt (by omega) (by omega)]
      have H1 : Hid (x1 = r ^^^ (s[k]).toUInt32) := h1
      obtain ⟨q1, a1, b1, c1⟩ := tab_facts ht x1
      obtain ⟨x2, h2⟩ : ∃ x, x = nibS x1 := ⟨_, rfl⟩
      have e2 : bits .xor .u32 ((x1.toNat : Int) / 16) ((crcT x1).toNat : Int) = (x2.toNat : Int) := by rw [h2, nib_fact]
      have H2 : Hid (x2 = nibS x1) := h2
      obtain ⟨q2, a2, b2, c2⟩ := tab_facts ht x2
      obtain ⟨x3, h3⟩ : ∃ x, x = nibS x2 := ⟨_, rfl⟩
      have e3 : bits .xor .u32 ((x2.toNat : Int) / 16) ((crcT x2).toNat : Int) = (x3.toNat : Int) := by rw [h3, nib_fact]
      have H3 : Hid (x3 = nibS x2) := h3
      have HT : Hid (TabAt w) := ht
      clear h1 h2 h3 ht
      go_wp2
      go_round
      case rel =>
        refine ⟨k + 1, by omega, by go_num, ?_⟩
        rw [H3.out, H2.out, H1.out, HR.out, List.take_succ_eq_append_getElem (by simpa using hlt), List.foldl_append]
        rfl
      case measure => simp [intOf]; omega
    · obtain rfl : k = s.size := by omega
      go_wp2
      go_ret
      refine ⟨?_, rfl⟩
      rw [n32, show s.size = s.data.toList.length from by simp, List.take_length]
      rfl
end Go.Proofs.YtnoicjpmfchhiaaDoor
