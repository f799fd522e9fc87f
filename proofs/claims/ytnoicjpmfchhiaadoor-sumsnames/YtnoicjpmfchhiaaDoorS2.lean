/-
  Walks: step, times, power, Join; turn.
-/
import Derived.Test.YtnoicjpmfchhiaaDoorS1
import Derived.Test.YtnoicjpmfchhiaaDoorSP
namespace Go.Proofs.YtnoicjpmfchhiaaDoor
open Go.RowKit

theorem ret_int {k : IntKind} {a b : Int} (h : a = b) : Ending.returned (.int k a) = .returned (.int k b) := by rw [h]

set_option maxRecDepth 100000 in
set_option maxHeartbeats 400000 in
theorem step_calls (w : World) (r : UInt32) : Calls Tryd.prog 26 #[.int .u32 r.toNat] w fun e w' => e = .returned (.int .u32 (crcS r).toNat) ∧ w' = w := by
  have e1 : bits .and .u32 (r.toNat : Int) (1 : Int) = ((r &&& 1).toNat : Int) := a32 r 1
  obtain ⟨y, hy⟩ : ∃ y, y = r >>> 1 := ⟨_, rfl⟩
  obtain ⟨z, hz⟩ : ∃ z, z = y ^^^ 0xedb88320 := ⟨_, rfl⟩
  have e2 : (r.toNat : Int) / (2 : Int) = (y.toNat : Int) := by rw [hy]; exact r32 r 1 (by decide)
  have e3 : bits .xor .u32 (y.toNat : Int) (3988292384 : Int) = (z.toNat : Int) := by rw [hz]; exact x32 y 0xedb88320
  unfold crcS
  rw [← hy, ← hz]
  clear hy hz
  by_cases h : r &&& 1 = 0
  · rw [if_pos h]
    rw [h] at e1
    have e1' : bits .and .u32 (r.toNat : Int) (1 : Int) = (0 : Int) := e1
    clear e1
    go_enter Tryd.func26, Tryd.ntmps26
    go_wp2
    all_goals go_ret
    all_goals exact ⟨rfl, rfl⟩
  · rw [if_neg h]
    have h0 : ¬ ((r &&& 1).toNat : Int) = 0 := by
      intro e
      apply h
      apply UInt32.toNat_inj.1
      have : (r &&& 1).toNat = 0 := by omega
      rw [this]; rfl
    generalize (r &&& 1).toNat = q at *
    go_enter Tryd.func26, Tryd.ntmps26
    go_wp2
    all_goals go_ret
    all_goals exact ⟨rfl, rfl⟩

set_option maxRecDepth 100000 in
set_option maxHeartbeats 400000 in
theorem turn7 (w : World) (x : UInt32) : Calls Tryd.prog 37 #[.int .u32 x.toNat, .int .i64 7] w fun e w' => e = .returned (.int .u32 (rotr x 7).toNat) ∧ w' = w := by
  have hk : bits .and .u64 (IntKind.u64.wrap (-7)) 31 = 25 := by decide
  obtain ⟨y, hy⟩ : ∃ y, y = x <<< UInt32.ofNat 25 := ⟨_, rfl⟩
  obtain ⟨z, hz⟩ : ∃ z, z = x >>> UInt32.ofNat 7 := ⟨_, rfl⟩
  obtain ⟨v, hv⟩ : ∃ v, v = y ||| z := ⟨_, rfl⟩
  have hl : IntKind.u32.wrap ((x.toNat : Int) * (33554432 : Int)) = (y.toNat : Int) := by rw [hy]; exact l32 x 25 (by decide)
  have hr : (x.toNat : Int) / (128 : Int) = (z.toNat : Int) := by rw [hz]; exact r32 x 7 (by decide)
  have ho : bits .or .u32 (y.toNat : Int) (z.toNat : Int) = (v.toNat : Int) := by rw [hv]; exact o32 y z
  have e : rotr x 7 = v := by rw [hv, hy, hz]; rfl
  rw [e]
  clear hy hz hv e
  go_enter Tryd.func37, Tryd.ntmps37
  go_wp2
  go_ret
  exact ⟨rfl, rfl⟩
set_option maxRecDepth 100000 in
set_option maxHeartbeats 400000 in
theorem turn18 (w : World) (x : UInt32) : Calls Tryd.prog 37 #[.int .u32 x.toNat, .int .i64 18] w fun e w' => e = .returned (.int .u32 (rotr x 18).toNat) ∧ w' = w := by
  have hk : bits .and .u64 (IntKind.u64.wrap (-18)) 31 = 14 := by decide
  obtain ⟨y, hy⟩ : ∃ y, y = x <<< UInt32.ofNat 14 := ⟨_, rfl⟩
  obtain ⟨z, hz⟩ : ∃ z, z = x >>> UInt32.ofNat 18 := ⟨_, rfl⟩
  obtain ⟨v, hv⟩ : ∃ v, v = y ||| z := ⟨_, rfl⟩
  have hl : IntKind.u32.wrap ((x.toNat : Int) * (16384 : Int)) = (y.toNat : Int) := by rw [hy]; exact l32 x 14 (by decide)
  have hr : (x.toNat : Int) / (262144 : Int) = (z.toNat : Int) := by rw [hz]; exact r32 x 18 (by decide)
  have ho : bits .or .u32 (y.toNat : Int) (z.toNat : Int) = (v.toNat : Int) := by rw [hv]; exact o32 y z
  have e : rotr x 18 = v := by rw [hv, hy, hz]; rfl
  rw [e]
  clear hy hz hv e
  go_enter Tryd.func37, Tryd.ntmps37
  go_wp2
  go_ret
  exact ⟨rfl, rfl⟩
set_option maxRecDepth 100000 in
set_option maxHeartbeats 400000 in
theorem turn17 (w : World) (x : UInt32) : Calls Tryd.prog 37 #[.int .u32 x.toNat, .int .i64 17] w fun e w' => e = .returned (.int .u32 (rotr x 17).toNat) ∧ w' = w := by
  have hk : bits .and .u64 (IntKind.u64.wrap (-17)) 31 = 15 := by decide
  obtain ⟨y, hy⟩ : ∃ y, y = x <<< UInt32.ofNat 15 := ⟨_, rfl⟩
  obtain ⟨z, hz⟩ : ∃ z, z = x >>> UInt32.ofNat 17 := ⟨_, rfl⟩
  obtain ⟨v, hv⟩ : ∃ v, v = y ||| z := ⟨_, rfl⟩
  have hl : IntKind.u32.wrap ((x.toNat : Int) * (32768 : Int)) = (y.toNat : Int) := by rw [hy]; exact l32 x 15 (by decide)
  have hr : (x.toNat : Int) / (131072 : Int) = (z.toNat : Int) := by rw [hz]; exact r32 x 17 (by decide)
  have ho : bits .or .u32 (y.toNat : Int) (z.toNat : Int) = (v.toNat : Int) := by rw [hv]; exact o32 y z
  have e : rotr x 17 = v := by rw [hv, hy, hz]; rfl
  rw [e]
  clear hy hz hv e
  go_enter Tryd.func37, Tryd.ntmps37
  go_wp2
  go_ret
  exact ⟨rfl, rfl⟩
set_option maxRecDepth 100000 in
set_option maxHeartbeats 400000 in
theorem turn19 (w : World) (x : UInt32) : Calls Tryd.prog 37 #[.int .u32 x.toNat, .int .i64 19] w fun e w' => e = .returned (.int .u32 (rotr x 19).toNat) ∧ w' = w := by
  have hk : bits .and .u64 (IntKind.u64.wrap (-19)) 31 = 13 := by decide
  obtain ⟨y, hy⟩ : ∃ y, y = x <<< UInt32.ofNat 13 := ⟨_, rfl⟩
  obtain ⟨z, hz⟩ : ∃ z, z = x >>> UInt32.ofNat 19 := ⟨_, rfl⟩
  obtain ⟨v, hv⟩ : ∃ v, v = y ||| z := ⟨_, rfl⟩
  have hl : IntKind.u32.wrap ((x.toNat : Int) * (8192 : Int)) = (y.toNat : Int) := by rw [hy]; exact l32 x 13 (by decide)
  have hr : (x.toNat : Int) / (524288 : Int) = (z.toNat : Int) := by rw [hz]; exact r32 x 19 (by decide)
  have ho : bits .or .u32 (y.toNat : Int) (z.toNat : Int) = (v.toNat : Int) := by rw [hv]; exact o32 y z
  have e : rotr x 19 = v := by rw [hv, hy, hz]; rfl
  rw [e]
  clear hy hz hv e
  go_enter Tryd.func37, Tryd.ntmps37
  go_wp2
  go_ret
  exact ⟨rfl, rfl⟩
set_option maxRecDepth 100000 in
set_option maxHeartbeats 400000 in
theorem turn6 (w : World) (x : UInt32) : Calls Tryd.prog 37 #[.int .u32 x.toNat, .int .i64 6] w fun e w' => e = .returned (.int .u32 (rotr x 6).toNat) ∧ w' = w := by
  have hk : bits .and .u64 (IntKind.u64.wrap (-6)) 31 = 26 := by decide
  obtain ⟨y, hy⟩ : ∃ y, y = x <<< UInt32.ofNat 26 := ⟨_, rfl⟩
  obtain ⟨z, hz⟩ : ∃ z, z = x >>> UInt32.ofNat 6 := ⟨_, rfl⟩
  obtain ⟨v, hv⟩ : ∃ v, v = y ||| z := ⟨_, rfl⟩
  have hl : IntKind.u32.wrap ((x.toNat : Int) * (67108864 : Int)) = (y.toNat : Int) := by rw [hy]; exact l32 x 26 (by decide)
  have hr : (x.toNat : Int) / (64 : Int) = (z.toNat : Int) := by rw [hz]; exact r32 x 6 (by decide)
  have ho : bits .or .u32 (y.toNat : Int) (z.toNat : Int) = (v.toNat : Int) := by rw [hv]; exact o32 y z
  have e : rotr x 6 = v := by rw [hv, hy, hz]; rfl
  rw [e]
  clear hy hz hv e
  go_enter Tryd.func37, Tryd.ntmps37
  go_wp2
  go_ret
  exact ⟨rfl, rfl⟩
set_option maxRecDepth 100000 in
set_option maxHeartbeats 400000 in
theorem turn11 (w : World) (x : UInt32) : Calls Tryd.prog 37 #[.int .u32 x.toNat, .int .i64 11] w fun e w' => e = .returned (.int .u32 (rotr x 11).toNat) ∧ w' = w := by
  have hk : bits .and .u64 (IntKind.u64.wrap (-11)) 31 = 21 := by decide
  obtain ⟨y, hy⟩ : ∃ y, y = x <<< UInt32.ofNat 21 := ⟨_, rfl⟩
  obtain ⟨z, hz⟩ : ∃ z, z = x >>> UInt32.ofNat 11 := ⟨_, rfl⟩
  obtain ⟨v, hv⟩ : ∃ v, v = y ||| z := ⟨_, rfl⟩
  have hl : IntKind.u32.wrap ((x.toNat : Int) * (2097152 : Int)) = (y.toNat : Int) := by rw [hy]; exact l32 x 21 (by decide)
  have hr : (x.toNat : Int) / (2048 : Int) = (z.toNat : Int) := by rw [hz]; exact r32 x 11 (by decide)
  have ho : bits .or .u32 (y.toNat : Int) (z.toNat : Int) = (v.toNat : Int) := by rw [hv]; exact o32 y z
  have e : rotr x 11 = v := by rw [hv, hy, hz]; rfl
  rw [e]
  clear hy hz hv e
  go_enter Tryd.func37, Tryd.ntmps37
  go_wp2
  go_ret
  exact ⟨rfl, rfl⟩
set_option maxRecDepth 100000 in
set_option maxHeartbeats 400000 in
theorem turn25 (w : World) (x : UInt32) : Calls Tryd.prog 37 #[.int .u32 x.toNat, .int .i64 25] w fun e w' => e = .returned (.int .u32 (rotr x 25).toNat) ∧ w' = w := by
  have hk : bits .and .u64 (IntKind.u64.wrap (-25)) 31 = 7 := by decide
  obtain ⟨y, hy⟩ : ∃ y, y = x <<< UInt32.ofNat 7 := ⟨_, rfl⟩
  obtain ⟨z, hz⟩ : ∃ z, z = x >>> UInt32.ofNat 25 := ⟨_, rfl⟩
  obtain ⟨v, hv⟩ : ∃ v, v = y ||| z := ⟨_, rfl⟩
  have hl : IntKind.u32.wrap ((x.toNat : Int) * (128 : Int)) = (y.toNat : Int) := by rw [hy]; exact l32 x 7 (by decide)
  have hr : (x.toNat : Int) / (33554432 : Int) = (z.toNat : Int) := by rw [hz]; exact r32 x 25 (by decide)
  have ho : bits .or .u32 (y.toNat : Int) (z.toNat : Int) = (v.toNat : Int) := by rw [hv]; exact o32 y z
  have e : rotr x 25 = v := by rw [hv, hy, hz]; rfl
  rw [e]
  clear hy hz hv e
  go_enter Tryd.func37, Tryd.ntmps37
  go_wp2
  go_ret
  exact ⟨rfl, rfl⟩
set_option maxRecDepth 100000 in
set_option maxHeartbeats 400000 in
theorem turn2 (w : World) (x : UInt32) : Calls Tryd.prog 37 #[.int .u32 x.toNat, .int .i64 2] w fun e w' => e = .returned (.int .u32 (rotr x 2).toNat) ∧ w' = w := by
  have hk : bits .and .u64 (IntKind.u64.wrap (-2)) 31 = 30 := by decide
  obtain ⟨y, hy⟩ : ∃ y, y = x <<< UInt32.ofNat 30 := ⟨_, rfl⟩
  obtain ⟨z, hz⟩ : ∃ z, z = x >>> UInt32.ofNat 2 := ⟨_, rfl⟩
  obtain ⟨v, hv⟩ : ∃ v, v = y ||| z := ⟨_, rfl⟩
  have hl : IntKind.u32.wrap ((x.toNat : Int) * (1073741824 : Int)) = (y.toNat : Int) := by rw [hy]; exact l32 x 30 (by decide)
  have hr : (x.toNat : Int) / (4 : Int) = (z.toNat : Int) := by rw [hz]; exact r32 x 2 (by decide)
  have ho : bits .or .u32 (y.toNat : Int) (z.toNat : Int) = (v.toNat : Int) := by rw [hv]; exact o32 y z
  have e : rotr x 2 = v := by rw [hv, hy, hz]; rfl
  rw [e]
  clear hy hz hv e
  go_enter Tryd.func37, Tryd.ntmps37
  go_wp2
  go_ret
  exact ⟨rfl, rfl⟩
set_option maxRecDepth 100000 in
set_option maxHeartbeats 400000 in
theorem turn13 (w : World) (x : UInt32) : Calls Tryd.prog 37 #[.int .u32 x.toNat, .int .i64 13] w fun e w' => e = .returned (.int .u32 (rotr x 13).toNat) ∧ w' = w := by
  have hk : bits .and .u64 (IntKind.u64.wrap (-13)) 31 = 19 := by decide
  obtain ⟨y, hy⟩ : ∃ y, y = x <<< UInt32.ofNat 19 := ⟨_, rfl⟩
  obtain ⟨z, hz⟩ : ∃ z, z = x >>> UInt32.ofNat 13 := ⟨_, rfl⟩
  obtain ⟨v, hv⟩ : ∃ v, v = y ||| z := ⟨_, rfl⟩
  have hl : IntKind.u32.wrap ((x.toNat : Int) * (524288 : Int)) = (y.toNat : Int) := by rw [hy]; exact l32 x 19 (by decide)
  have hr : (x.toNat : Int) / (8192 : Int) = (z.toNat : Int) := by rw [hz]; exact r32 x 13 (by decide)
  have ho : bits .or .u32 (y.toNat : Int) (z.toNat : Int) = (v.toNat : Int) := by rw [hv]; exact o32 y z
  have e : rotr x 13 = v := by rw [hv, hy, hz]; rfl
  rw [e]
  clear hy hz hv e
  go_enter Tryd.func37, Tryd.ntmps37
  go_wp2
  go_ret
  exact ⟨rfl, rfl⟩
set_option maxRecDepth 100000 in
set_option maxHeartbeats 400000 in
theorem turn22 (w : World) (x : UInt32) : Calls Tryd.prog 37 #[.int .u32 x.toNat, .int .i64 22] w fun e w' => e = .returned (.int .u32 (rotr x 22).toNat) ∧ w' = w := by
  have hk : bits .and .u64 (IntKind.u64.wrap (-22)) 31 = 10 := by decide
  obtain ⟨y, hy⟩ : ∃ y, y = x <<< UInt32.ofNat 10 := ⟨_, rfl⟩
  obtain ⟨z, hz⟩ : ∃ z, z = x >>> UInt32.ofNat 22 := ⟨_, rfl⟩
  obtain ⟨v, hv⟩ : ∃ v, v = y ||| z := ⟨_, rfl⟩
  have hl : IntKind.u32.wrap ((x.toNat : Int) * (1024 : Int)) = (y.toNat : Int) := by rw [hy]; exact l32 x 10 (by decide)
  have hr : (x.toNat : Int) / (4194304 : Int) = (z.toNat : Int) := by rw [hz]; exact r32 x 22 (by decide)
  have ho : bits .or .u32 (y.toNat : Int) (z.toNat : Int) = (v.toNat : Int) := by rw [hv]; exact o32 y z
  have e : rotr x 22 = v := by rw [hv, hy, hz]; rfl
  rw [e]
  clear hy hz hv e
  go_enter Tryd.func37, Tryd.ntmps37
  go_wp2
  go_ret
  exact ⟨rfl, rfl⟩
end Go.Proofs.YtnoicjpmfchhiaaDoor
