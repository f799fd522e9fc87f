/-
  Walks: the document's own step of a bit.
-/
import Derived.Test.YtajpgopgohadeaaDoorS3
namespace Go.Proofs.YtajpgopgohadeaaDoor
open Go.RowKit

set_option maxRecDepth 100000 in
set_option maxHeartbeats 400000 in
theorem bit_calls (w : World) (r b : UInt32) : Calls Tryd.prog 81 #[.int .u32 r.toNat, .int .u32 b.toNat] w fun e w' => e = .returned (.int .u32 (bitS r b).toNat) ∧ w' = w := by
  have e1 : bits .and .u32 (r.toNat : Int) (1 : Int) = ((r &&& 1).toNat : Int) := a32 r 1
  obtain ⟨y, hy⟩ : ∃ y, y = r >>> 1 := ⟨_, rfl⟩
  obtain ⟨z, hz⟩ : ∃ z, z = y ^^^ 0xedb88320 := ⟨_, rfl⟩
  have e2 : (r.toNat : Int) / (2 : Int) = (y.toNat : Int) := by rw [hy]; exact r32 r 1 (by decide)
  have e3 : bits .xor .u32 (y.toNat : Int) (3988292384 : Int) = (z.toNat : Int) := by rw [hz]; exact x32 y 0xedb88320
  unfold bitS
  rw [← hy, ← hz]
  clear hy hz
  obtain ⟨l, hl⟩ : ∃ l, l = r &&& 1 := ⟨_, rfl⟩
  rw [← hl] at e1 ⊢
  clear hl
  by_cases h : l = b
  · rw [if_pos h]
    subst h
    go_enter Tryd.func81, Tryd.ntmps81
    go_wp2
    all_goals go_ret
    all_goals exact ⟨rfl, rfl⟩
  · rw [if_neg h]
    have h0 : ¬ (l.toNat : Int) = (b.toNat : Int) := by
      intro e
      apply h
      apply UInt32.toNat_inj.1
      omega
    go_enter Tryd.func81, Tryd.ntmps81
    go_wp2
    all_goals go_ret
    all_goals exact ⟨rfl, rfl⟩

end Go.Proofs.YtajpgopgohadeaaDoor
