/-
  Walks: the document's own SHA-256: turn; plain words of a block.
-/
import Derived.Test.YthkhfblpdekjhaaDoorS3
import Derived.Deep.MidRow
namespace Go.Proofs.YthkhfblpdekjhaaDoor
open Go.RowKit

set_option maxRecDepth 100000 in
set_option maxHeartbeats 400000 in
theorem rturn7 (w : World) (x : UInt32) : Calls Tryd.prog 55 #[.int .u32 x.toNat, .int .i64 7] w fun e w' => e = .returned (.int .u32 (rotr x 7).toNat) ∧ w' = w := by
  obtain ⟨y, hy⟩ : ∃ y, y = x <<< UInt32.ofNat 25 := ⟨_, rfl⟩
  obtain ⟨z, hz⟩ : ∃ z, z = x >>> UInt32.ofNat 7 := ⟨_, rfl⟩
  obtain ⟨v, hv⟩ : ∃ v, v = z ||| y := ⟨_, rfl⟩
  have hl : IntKind.u32.wrap ((x.toNat : Int) * (33554432 : Int)) = (y.toNat : Int) := by rw [hy]; exact l32 x 25 (by decide)
  have hr : (x.toNat : Int) / (128 : Int) = (z.toNat : Int) := by rw [hz]; exact r32 x 7 (by decide)
  have ho : bits .or .u32 (z.toNat : Int) (y.toNat : Int) = (v.toNat : Int) := by rw [hv]; exact o32 z y
  have e : rotr x 7 = v := by rw [hv, hy, hz, UInt32.or_comm]; rfl
  rw [e]
  clear hy hz hv e
  go_enter Tryd.func55, Tryd.ntmps55
  go_wp2
  go_ret
  exact ⟨rfl, rfl⟩
set_option maxRecDepth 100000 in
set_option maxHeartbeats 400000 in
theorem rturn18 (w : World) (x : UInt32) : Calls Tryd.prog 55 #[.int .u32 x.toNat, .int .i64 18] w fun e w' => e = .returned (.int .u32 (rotr x 18).toNat) ∧ w' = w := by
  obtain ⟨y, hy⟩ : ∃ y, y = x <<< UInt32.ofNat 14 := ⟨_, rfl⟩
  obtain ⟨z, hz⟩ : ∃ z, z = x >>> UInt32.ofNat 18 := ⟨_, rfl⟩
  obtain ⟨v, hv⟩ : ∃ v, v = z ||| y := ⟨_, rfl⟩
  have hl : IntKind.u32.wrap ((x.toNat : Int) * (16384 : Int)) = (y.toNat : Int) := by rw [hy]; exact l32 x 14 (by decide)
  have hr : (x.toNat : Int) / (262144 : Int) = (z.toNat : Int) := by rw [hz]; exact r32 x 18 (by decide)
  have ho : bits .or .u32 (z.toNat : Int) (y.toNat : Int) = (v.toNat : Int) := by rw [hv]; exact o32 z y
  have e : rotr x 18 = v := by rw [hv, hy, hz, UInt32.or_comm]; rfl
  rw [e]
  clear hy hz hv e
  go_enter Tryd.func55, Tryd.ntmps55
  go_wp2
  go_ret
  exact ⟨rfl, rfl⟩
set_option maxRecDepth 100000 in
set_option maxHeartbeats 400000 in
theorem rturn17 (w : World) (x : UInt32) : Calls Tryd.prog 55 #[.int .u32 x.toNat, .int .i64 17] w fun e w' => e = .returned (.int .u32 (rotr x 17).toNat) ∧ w' = w := by
  obtain ⟨y, hy⟩ : ∃ y, y = x <<< UInt32.ofNat 15 := ⟨_, rfl⟩
  obtain ⟨z, hz⟩ : ∃ z, z = x >>> UInt32.ofNat 17 := ⟨_, rfl⟩
  obtain ⟨v, hv⟩ : ∃ v, v = z ||| y := ⟨_, rfl⟩
  have hl : IntKind.u32.wrap ((x.toNat : Int) * (32768 : Int)) = (y.toNat : Int) := by rw [hy]; exact l32 x 15 (by decide)
  have hr : (x.toNat : Int) / (131072 : Int) = (z.toNat : Int) := by rw [hz]; exact r32 x 17 (by decide)
  have ho : bits .or .u32 (z.toNat : Int) (y.toNat : Int) = (v.toNat : Int) := by rw [hv]; exact o32 z y
  have e : rotr x 17 = v := by rw [hv, hy, hz, UInt32.or_comm]; rfl
  rw [e]
  clear hy hz hv e
  go_enter Tryd.func55, Tryd.ntmps55
  go_wp2
  go_ret
  exact ⟨rfl, rfl⟩
set_option maxRecDepth 100000 in
set_option maxHeartbeats 400000 in
theorem rturn19 (w : World) (x : UInt32) : Calls Tryd.prog 55 #[.int .u32 x.toNat, .int .i64 19] w fun e w' => e = .returned (.int .u32 (rotr x 19).toNat) ∧ w' = w := by
  obtain ⟨y, hy⟩ : ∃ y, y = x <<< UInt32.ofNat 13 := ⟨_, rfl⟩
  obtain ⟨z, hz⟩ : ∃ z, z = x >>> UInt32.ofNat 19 := ⟨_, rfl⟩
  obtain ⟨v, hv⟩ : ∃ v, v = z ||| y := ⟨_, rfl⟩
  have hl : IntKind.u32.wrap ((x.toNat : Int) * (8192 : Int)) = (y.toNat : Int) := by rw [hy]; exact l32 x 13 (by decide)
  have hr : (x.toNat : Int) / (524288 : Int) = (z.toNat : Int) := by rw [hz]; exact r32 x 19 (by decide)
  have ho : bits .or .u32 (z.toNat : Int) (y.toNat : Int) = (v.toNat : Int) := by rw [hv]; exact o32 z y
  have e : rotr x 19 = v := by rw [hv, hy, hz, UInt32.or_comm]; rfl
  rw [e]
  clear hy hz hv e
  go_enter Tryd.func55, Tryd.ntmps55
  go_wp2
  go_ret
  exact ⟨rfl, rfl⟩
set_option maxRecDepth 100000 in
set_option maxHeartbeats 400000 in
theorem rturn6 (w : World) (x : UInt32) : Calls Tryd.prog 55 #[.int .u32 x.toNat, .int .i64 6] w fun e w' => e = .returned (.int .u32 (rotr x 6).toNat) ∧ w' = w := by
  obtain ⟨y, hy⟩ : ∃ y, y = x <<< UInt32.ofNat 26 := ⟨_, rfl⟩
  obtain ⟨z, hz⟩ : ∃ z, z = x >>> UInt32.ofNat 6 := ⟨_, rfl⟩
  obtain ⟨v, hv⟩ : ∃ v, v = z ||| y := ⟨_, rfl⟩
  have hl : IntKind.u32.wrap ((x.toNat : Int) * (67108864 : Int)) = (y.toNat : Int) := by rw [hy]; exact l32 x 26 (by decide)
  have hr : (x.toNat : Int) / (64 : Int) = (z.toNat : Int) := by rw [hz]; exact r32 x 6 (by decide)
  have ho : bits .or .u32 (z.toNat : Int) (y.toNat : Int) = (v.toNat : Int) := by rw [hv]; exact o32 z y
  have e : rotr x 6 = v := by rw [hv, hy, hz, UInt32.or_comm]; rfl
  rw [e]
  clear hy hz hv e
  go_enter Tryd.func55, Tryd.ntmps55
  go_wp2
  go_ret
  exact ⟨rfl, rfl⟩
set_option maxRecDepth 100000 in
set_option maxHeartbeats 400000 in
theorem rturn11 (w : World) (x : UInt32) : Calls Tryd.prog 55 #[.int .u32 x.toNat, .int .i64 11] w fun e w' => e = .returned (.int .u32 (rotr x 11).toNat) ∧ w' = w := by
  obtain ⟨y, hy⟩ : ∃ y, y = x <<< UInt32.ofNat 21 := ⟨_, rfl⟩
  obtain ⟨z, hz⟩ : ∃ z, z = x >>> UInt32.ofNat 11 := ⟨_, rfl⟩
  obtain ⟨v, hv⟩ : ∃ v, v = z ||| y := ⟨_, rfl⟩
  have hl : IntKind.u32.wrap ((x.toNat : Int) * (2097152 : Int)) = (y.toNat : Int) := by rw [hy]; exact l32 x 21 (by decide)
  have hr : (x.toNat : Int) / (2048 : Int) = (z.toNat : Int) := by rw [hz]; exact r32 x 11 (by decide)
  have ho : bits .or .u32 (z.toNat : Int) (y.toNat : Int) = (v.toNat : Int) := by rw [hv]; exact o32 z y
  have e : rotr x 11 = v := by rw [hv, hy, hz, UInt32.or_comm]; rfl
  rw [e]
  clear hy hz hv e
  go_enter Tryd.func55, Tryd.ntmps55
  go_wp2
  go_ret
  exact ⟨rfl, rfl⟩
set_option maxRecDepth 100000 in
set_option maxHeartbeats 400000 in
theorem rturn25 (w : World) (x : UInt32) : Calls Tryd.prog 55 #[.int .u32 x.toNat, .int .i64 25] w fun e w' => e = .returned (.int .u32 (rotr x 25).toNat) ∧ w' = w := by
  obtain ⟨y, hy⟩ : ∃ y, y = x <<< UInt32.ofNat 7 := ⟨_, rfl⟩
  obtain ⟨z, hz⟩ : ∃ z, z = x >>> UInt32.ofNat 25 := ⟨_, rfl⟩
  obtain ⟨v, hv⟩ : ∃ v, v = z ||| y := ⟨_, rfl⟩
  have hl : IntKind.u32.wrap ((x.toNat : Int) * (128 : Int)) = (y.toNat : Int) := by rw [hy]; exact l32 x 7 (by decide)
  have hr : (x.toNat : Int) / (33554432 : Int) = (z.toNat : Int) := by rw [hz]; exact r32 x 25 (by decide)
  have ho : bits .or .u32 (z.toNat : Int) (y.toNat : Int) = (v.toNat : Int) := by rw [hv]; exact o32 z y
  have e : rotr x 25 = v := by rw [hv, hy, hz, UInt32.or_comm]; rfl
  rw [e]
  clear hy hz hv e
  go_enter Tryd.func55, Tryd.ntmps55
  go_wp2
  go_ret
  exact ⟨rfl, rfl⟩
set_option maxRecDepth 100000 in
set_option maxHeartbeats 400000 in
theorem rturn2 (w : World) (x : UInt32) : Calls Tryd.prog 55 #[.int .u32 x.toNat, .int .i64 2] w fun e w' => e = .returned (.int .u32 (rotr x 2).toNat) ∧ w' = w := by
  obtain ⟨y, hy⟩ : ∃ y, y = x <<< UInt32.ofNat 30 := ⟨_, rfl⟩
  obtain ⟨z, hz⟩ : ∃ z, z = x >>> UInt32.ofNat 2 := ⟨_, rfl⟩
  obtain ⟨v, hv⟩ : ∃ v, v = z ||| y := ⟨_, rfl⟩
  have hl : IntKind.u32.wrap ((x.toNat : Int) * (1073741824 : Int)) = (y.toNat : Int) := by rw [hy]; exact l32 x 30 (by decide)
  have hr : (x.toNat : Int) / (4 : Int) = (z.toNat : Int) := by rw [hz]; exact r32 x 2 (by decide)
  have ho : bits .or .u32 (z.toNat : Int) (y.toNat : Int) = (v.toNat : Int) := by rw [hv]; exact o32 z y
  have e : rotr x 2 = v := by rw [hv, hy, hz, UInt32.or_comm]; rfl
  rw [e]
  clear hy hz hv e
  go_enter Tryd.func55, Tryd.ntmps55
  go_wp2
  go_ret
  exact ⟨rfl, rfl⟩
set_option maxRecDepth 100000 in
set_option maxHeartbeats 400000 in
theorem rturn13 (w : World) (x : UInt32) : Calls Tryd.prog 55 #[.int .u32 x.toNat, .int .i64 13] w fun e w' => e = .returned (.int .u32 (rotr x 13).toNat) ∧ w' = w := by
  obtain ⟨y, hy⟩ : ∃ y, y = x <<< UInt32.ofNat 19 := ⟨_, rfl⟩
  obtain ⟨z, hz⟩ : ∃ z, z = x >>> UInt32.ofNat 13 := ⟨_, rfl⟩
  obtain ⟨v, hv⟩ : ∃ v, v = z ||| y := ⟨_, rfl⟩
  have hl : IntKind.u32.wrap ((x.toNat : Int) * (524288 : Int)) = (y.toNat : Int) := by rw [hy]; exact l32 x 19 (by decide)
  have hr : (x.toNat : Int) / (8192 : Int) = (z.toNat : Int) := by rw [hz]; exact r32 x 13 (by decide)
  have ho : bits .or .u32 (z.toNat : Int) (y.toNat : Int) = (v.toNat : Int) := by rw [hv]; exact o32 z y
  have e : rotr x 13 = v := by rw [hv, hy, hz, UInt32.or_comm]; rfl
  rw [e]
  clear hy hz hv e
  go_enter Tryd.func55, Tryd.ntmps55
  go_wp2
  go_ret
  exact ⟨rfl, rfl⟩
set_option maxRecDepth 100000 in
set_option maxHeartbeats 400000 in
theorem rturn22 (w : World) (x : UInt32) : Calls Tryd.prog 55 #[.int .u32 x.toNat, .int .i64 22] w fun e w' => e = .returned (.int .u32 (rotr x 22).toNat) ∧ w' = w := by
  obtain ⟨y, hy⟩ : ∃ y, y = x <<< UInt32.ofNat 10 := ⟨_, rfl⟩
  obtain ⟨z, hz⟩ : ∃ z, z = x >>> UInt32.ofNat 22 := ⟨_, rfl⟩
  obtain ⟨v, hv⟩ : ∃ v, v = z ||| y := ⟨_, rfl⟩
  have hl : IntKind.u32.wrap ((x.toNat : Int) * (1024 : Int)) = (y.toNat : Int) := by rw [hy]; exact l32 x 10 (by decide)
  have hr : (x.toNat : Int) / (4194304 : Int) = (z.toNat : Int) := by rw [hz]; exact r32 x 22 (by decide)
  have ho : bits .or .u32 (z.toNat : Int) (y.toNat : Int) = (v.toNat : Int) := by rw [hv]; exact o32 z y
  have e : rotr x 22 = v := by rw [hv, hy, hz, UInt32.or_comm]; rfl
  rw [e]
  clear hy hz hv e
  go_enter Tryd.func55, Tryd.ntmps55
  go_wp2
  go_ret
  exact ⟨rfl, rfl⟩
theorem or_shl (a b n : UInt32) : (a ||| b) <<< n = (a <<< n) ||| (b <<< n) := by
  apply UInt32.toBitVec_inj.1
  simp only [UInt32.toBitVec_or, UInt32.toBitVec_shiftLeft, BitVec.shiftLeft_eq', BitVec.shiftLeft_or_distrib]
theorem shl_shl8 (a : UInt32) (n : Nat) (hn : n ≤ 16) : (a <<< UInt32.ofNat n) <<< 8 = a <<< UInt32.ofNat (n + 8) := by
  apply UInt32.toBitVec_inj.1
  have a8 : (UInt32.toBitVec 8 % 32).toNat = 8 := by decide
  have hb : ∀ k, k < 32 → ((UInt32.ofNat k).toBitVec % 32).toNat = k := by
    intro k hk
    rw [BitVec.toNat_umod, UInt32.toBitVec_ofNat', BitVec.toNat_ofNat]
    show k % 2 ^ 32 % 32 = k
    omega
  simp only [UInt32.toBitVec_shiftLeft, BitVec.shiftLeft_eq', a8, hb n (by omega), hb (n + 8) (by omega)]
  rw [← BitVec.shiftLeft_add]
/-- Four bytes, each at its place. -/
theorem be4_eq (a b c d : UInt8) : ((a.toUInt32 <<< UInt32.ofNat 24 ||| b.toUInt32 <<< UInt32.ofNat 16) ||| c.toUInt32 <<< UInt32.ofNat 8) ||| d.toUInt32 = be4 a b c d := by
  unfold be4
  rw [or_shl, or_shl, or_shl]
  have e8 : ∀ x : UInt32, x <<< 8 = x <<< UInt32.ofNat 8 := fun x => rfl
  have h1 : (a.toUInt32 <<< 8) <<< 8 = a.toUInt32 <<< UInt32.ofNat 16 := by rw [e8 a.toUInt32]; exact shl_shl8 _ 8 (by omega)
  have h2 : (a.toUInt32 <<< UInt32.ofNat 16) <<< 8 = a.toUInt32 <<< UInt32.ofNat 24 := shl_shl8 _ 16 (by omega)
  have h3 : (b.toUInt32 <<< 8) <<< 8 = b.toUInt32 <<< UInt32.ofNat 16 := by rw [e8 b.toUInt32]; exact shl_shl8 _ 8 (by omega)
  rw [h1, h2, h3]
  rfl
def be4At (B : List UInt8) (i : Nat) : UInt32 := be4 (B.getD (4 * i) 0) (B.getD (4 * i + 1) 0) (B.getD (4 * i + 2) 0) (B.getD (4 * i + 3) 0)
theorem words4_range : ∀ (n : Nat) (B : List UInt8), B.length = 4 * n → words4 B = (List.range n).map (be4At B) := by
  intro n
  induction n with
  | zero =>
    intro B h
    have : B = [] := List.eq_nil_of_length_eq_zero (by omega)
    subst this; rfl
  | succ n ih =>
    intro B h
    match B, h with
    | a :: b :: c :: d :: t, h =>
      have ht : t.length = 4 * n := by simp at h; omega
      rw [words4, ih t ht, List.range_succ_eq_map, List.map_cons, List.map_map]
      congr 1
end Go.Proofs.YthkhfblpdekjhaaDoor
