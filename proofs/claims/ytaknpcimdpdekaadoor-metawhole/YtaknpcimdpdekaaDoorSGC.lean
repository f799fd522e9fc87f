/-
  Walks: CRC (alone; in a seat that has SG too, SG takes its place).
-/
import Derived.Test.YtaknpcimdpdekaaDoorS1
namespace Go.Proofs.YtaknpcimdpdekaaDoor
open Go.RowKit

/-- The CRC of parts. -/
def crcP (ss : List ByteArray) : UInt32 := ss.foldl (fun c s => moreP c s.data.toList) 0
theorem TabAt.same {w w' : World} (h : TabAt w) (s : Same w w') : TabAt w' := fun k hk => s.keep (h k hk)

set_option maxRecDepth 100000 in
set_option maxHeartbeats 400000 in
theorem crc_calls (w : World) (ht : TabAt w) (ss : List ByteArray) (pa : Option Addr) (pb po pc : Nat) (hp : ss ≠ [] → pa = some ⟨pb, po, none⟩) (hps : ∀ j s, ss[j]? = some s → w.cell? ⟨pb, po + j, none⟩ = some (.string s)) (hz : ∀ s ∈ ss, s.size ≤ 281474976710656) (hsl : ss.length ≤ 281474976710656) :
    Calls Tryd.prog 51 #[.slice pa ss.length pc] w fun e w' => e = .returned (.int .u32 (crcP ss).toNat) ∧ w' = w := by
  have HM : Hid (∀ sum (s : ByteArray), s ∈ ss → Calls Tryd.prog 76 #[.int .u32 (sum : UInt32).toNat, .string s] w fun e w' => e = .returned (.int .u32 (moreP sum s.data.toList).toNat) ∧ w' = w) := fun sum s h => more_calls w sum s (hz s h) ht
  have HPS : Hid (∀ j s, ss[j]? = some s → w.cell? ⟨pb, po + j, none⟩ = some (.string s)) := hps
  have HP : Hid (ss ≠ [] → pa = some ⟨pb, po, none⟩) := hp
  have HT : Hid (TabAt w) := ht
  clear hps hz ht hp
  go_enter Tryd.func51, Tryd.ntmps51
  go_wp2_with fail
  go_loop [3, 8] (fun r i => ∃ k : Nat, k ≤ ss.length ∧ i = .int .i64 k ∧ r = .int .u32 (crcP (ss.take k)).toNat) (fun _ i => ss.length - (intOf i).toNat)
  case atStart => exact ⟨0, Nat.zero_le _, rfl, rfl⟩
  case round =>
    obtain ⟨k, hk, rfl, rfl⟩ := hrel
    by_cases hgo : k < ss.length
    · obtain ⟨s, hs⟩ : ∃ s, ss[k]? = some s := ⟨_, List.getElem?_eq_getElem hgo⟩
      have hne : ss ≠ [] := by intro e; rw [e] at hgo; simp at hgo
      obtain rfl := HP.out hne
      have hcs := HPS.out k s hs
      have hmem : s ∈ ss := List.mem_of_getElem? hs
      obtain ⟨c, hc⟩ : ∃ c, c = crcP (ss.take k) := ⟨_, rfl⟩
      have hc2 : Hid (crcP (ss.take (k + 1)) = moreP c s.data.toList) := by
        show _ = _
        rw [hc, List.take_add_one, hs]
        simp [crcP]
      rw [← hc]
      have HM' := HM.out c s hmem
      clear hc hs hmem hne
      go_wp2_with fail
      refine HM'.mono ?_
      rintro e W1 ⟨rfl, hW1⟩
      rw [hW1]
      clear hW1
      go_wp2_with fail
      go_round
      case rel => exact ⟨k + 1, by omega, by go_num, by rw [hc2.out]⟩
      case measure => simp [intOf]; omega
    · obtain rfl : k = ss.length := by omega
      rw [List.take_length]
      go_wp2_with fail
      go_ret
      exact ⟨rfl, rfl⟩
end Go.Proofs.YtaknpcimdpdekaaDoor
