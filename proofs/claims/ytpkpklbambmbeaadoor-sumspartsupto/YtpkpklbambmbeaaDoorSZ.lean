/-
  Walks: firstPart of what a text's parts lay.
-/
import Derived.Test.YtpkpklbambmbeaaDoorSY
import Derived.Test.YtpkpklbambmbeaaDoorSW
namespace Go.Proofs.YtpkpklbambmbeaaDoor
open Go.RowKit

def topY (n k : Nat) : UInt32 := UInt32.ofNat (n / 2 ^ (32 - 8 * k))
def topB (n k : Nat) : UInt8 := UInt8.ofNat (n / 2 ^ (24 - 8 * k))
theorem topY_step (n k : Nat) (hn : n < 4294967296) (hk : k < 4) : topY n (k + 1) = (topY n k <<< 8) ||| (topB n k).toUInt32 := by
  have e : 32 - 8 * (k + 1) = 24 - 8 * k := by omega
  have e2 : 32 - 8 * k = (24 - 8 * k) + 8 := by omega
  apply UInt32.toNat_inj.1
  unfold topY topB
  rw [e, e2, UInt32.toNat_or, UInt32.toNat_shiftLeft, UInt32.toNat_ofNat', UInt32.toNat_ofNat', UInt8.toNat_toUInt32, UInt8.toNat_ofNat', Nat.pow_add, ← Nat.div_div_eq_div_mul]
  have hm : n / 2 ^ (24 - 8 * k) < 4294967296 := Nat.lt_of_le_of_lt (Nat.div_le_self _ _) hn
  generalize n / 2 ^ (24 - 8 * k) = m at *
  show m % 4294967296 = (m / 256 % 4294967296) <<< 8 % 4294967296 ||| m % 256
  have h1 : m / 256 % 4294967296 = m / 256 := by omega
  have h2 : (m / 256) <<< 8 % 4294967296 = (m / 256) <<< 8 := by rw [Nat.shiftLeft_eq]; omega
  rw [h1, h2, ← Nat.shiftLeft_add_eq_or_of_lt (by omega), Nat.shiftLeft_eq]
  omega
theorem topB_at (n k : Nat) (hk : k < 4) : (by4 (UInt32.ofNat n))[k]? = some (topB n k) := by
  have hx : ∀ j, j ≤ 24 → ((UInt32.ofNat n) >>> UInt32.ofNat j).toUInt8 = UInt8.ofNat (n / 2 ^ j) := by
    intro j hj
    apply UInt8.toNat_inj.1
    rw [UInt32.toNat_toUInt8, UInt32.toNat_shiftRight, UInt32.toNat_ofNat', UInt32.toNat_ofNat', UInt8.toNat_ofNat', Nat.mod_eq_of_lt (a := j) (b := 2 ^ 32) (by omega), Nat.mod_eq_of_lt (a := j) (b := 32) (by omega), Nat.shiftRight_eq_div_pow]
    have : 2 ^ 32 = 2 ^ j * 2 ^ (32 - j) := by rw [← Nat.pow_add]; congr 1; omega
    rw [this, Nat.mod_mul_right_div_self]
    have h8 : 2 ^ (32 - j) = 2 ^ 8 * 2 ^ (24 - j) := by rw [← Nat.pow_add]; congr 1; omega
    rw [h8, Nat.mod_mul_right_mod]
  have h0 : (UInt32.ofNat n).toUInt8 = UInt8.ofNat (n / 2 ^ 0) := by
    have := hx 0 (by omega)
    rw [← this]
    congr 1
  match k, hk with
  | 0, _ => exact congrArg some (hx 24 (by omega))
  | 1, _ => exact congrArg some (hx 16 (by omega))
  | 2, _ => exact congrArg some (hx 8 (by omega))
  | 3, _ => exact congrArg some h0

set_option maxRecDepth 100000 in
set_option maxHeartbeats 400000 in
theorem fpart_calls (w : World) (T s R : ByteArray) (hs : s.size < 4294967296) (hTs : T.size ≤ 70368744177664) (hT : T.data.toList = by4 (UInt32.ofNat s.size) ++ (s.data.toList ++ R.data.toList)) :
    Calls Tryd.prog 16 #[.string T] w fun e w' => e = .returned (.tuple #[.string s, .string R, .bool true]) ∧ w' = w.drew := by
  have hsz : T.size = 4 + s.size + R.size := by
    have := congrArg List.length hT
    simp only [List.length_append, bytes_length, by4_length] at this
    omega
  have HI : Hid (∀ k (hk : k < 4) (h : k < T.size), T[k]'h = topB s.size k) := by
    intro k hk h
    have e : T.data.toList[k]? = some (topB s.size k) := by
      rw [hT, List.getElem?_append_left (by rw [by4_length]; exact hk)]
      exact topB_at _ _ hk
    obtain ⟨⟨l⟩⟩ := T
    have e2 : l[k]? = some (topB s.size k) := e
    exact (List.getElem?_eq_some_iff.1 e2).2
  have HTT : Hid (T.data.toList = by4 (UInt32.ofNat s.size) ++ (s.data.toList ++ R.data.toList)) := hT
  have HY : Hid (topY s.size 0 = 0 ∧ topY s.size 4 = UInt32.ofNat s.size ∧ ∀ k, k < 4 → topY s.size (k + 1) = (topY s.size k <<< 8) ||| (topB s.size k).toUInt32) := by
    refine ⟨?_, ?_, fun k hk => topY_step _ k hs hk⟩
    · unfold topY
      rw [Nat.div_eq_of_lt (by simpa using hs)]; rfl
    · unfold topY
      simp
  clear hT
  have hle : ¬ (T.size : Int) < 4 := by omega
  go_enter Tryd.func16, Tryd.ntmps16
  go_wp2_with fail
  go_loopg [5, 10] 4 (fun gg yv iv wr => ∃ (k : Nat), yv = .int .u32 ((topY s.size k).toNat : Int) ∧ iv = .int .i64 k ∧ k ≤ 4 ∧ gg = 4 - k ∧ wr = w)
  case atStart => exact ⟨0, by rw [HY.out.1]; rfl, rfl, by omega, rfl, rfl⟩
  case round =>
    obtain ⟨k, rfl, rfl, hk, rfl, rfl⟩ := hrel
    by_cases hgo : k < 4
    · have hgi : (k : Int) < 4 := by omega
      have hkT : k < T.size := by omega
      have hTk := HI.out k hgo hkT
      have HS := HY.out.2.2 k hgo
      generalize topY s.size k = y at HS ⊢
      generalize topB s.size k = b at HS hTk ⊢
      obtain ⟨y2, hy2⟩ : ∃ y2, topY s.size (k + 1) = y2 := ⟨_, rfl⟩
      rw [hy2] at HS
      have hbits : bits .or .u32 ((y.toNat : Int) * (256 : Int) % (4294967296 : Int)) ((b.toNat : Int) % (4294967296 : Int)) = (y2.toNat : Int) := by
        have h1 : (y.toNat : Int) * (256 : Int) % (4294967296 : Int) = ((y <<< 8).toNat : Int) := by
          have := l32 y 8 (by omega)
          rw [IntKind.wrap_u32] at this
          exact this
        have h2 : (b.toNat : Int) % (4294967296 : Int) = (b.toUInt32.toNat : Int) := by
          rw [UInt8.toNat_toUInt32]
          have := b.toNat_lt
          omega
        rw [h1, h2, o32, HS]
      have HBI : Hid (Value.int .u32 (bits .or .u32 ((y.toNat : Int) * (256 : Int) % (4294967296 : Int)) ((b.toNat : Int) % (4294967296 : Int))) = .int .u32 (y2.toNat : Int)) := congrArg _ hbits
      have HY2 : Hid (y2 = topY s.size (k + 1)) := hy2.symm
      clear HS hbits hy2
      go_wp2_with fail
      go_roundg (4 - (k + 1))
      case measure => omega
      case rel => exact ⟨k + 1, by rw [HBI.out, HY2.out], by go_num, by omega, rfl, rfl⟩
    · obtain rfl : k = 4 := by omega
      have e4 : ((topY s.size 4).toNat : Int) = (s.size : Int) := by
        rw [HY.out.2.1, UInt32.toNat_ofNat']
        omega
      rw [e4]
      obtain ⟨X, hX⟩ : ∃ X : ByteArray, X.data.toList = s.data.toList ++ R.data.toList := ⟨⟨(s.data.toList ++ R.data.toList).toArray⟩, rfl⟩
      have hXs : X.size = s.size + R.size := by
        have := congrArg List.length hX
        simp only [List.length_append, bytes_length] at this
        exact this
      have x0 : T.extract 4 (4 + s.size + R.size) = X := ext_mid (a := by4 (UInt32.ofNat s.size)) (b := s.data.toList ++ R.data.toList) (c := []) (by rw [List.append_nil]; exact HTT.out) hX rfl (by rw [List.length_append, bytes_length, bytes_length, by4_length]; omega)
      have x1 : X.extract 0 s.size = s := ext_mid (a := []) hX rfl rfl (by rw [bytes_length]; simp)
      have x2 : X.extract s.size (s.size + R.size) = R := ext_mid (a := s.data.toList) (c := []) (by rw [List.append_nil]; exact hX) rfl (by rw [bytes_length]) (by rw [bytes_length, bytes_length])
      have hu1 : IntKind.u64.wrap (s.size : Int) = (s.size : Int) := by rw [IntKind.wrap_u64]; omega
      have hu2 : IntKind.u64.wrap ((s.size : Int) + (R.size : Int)) = (s.size : Int) + (R.size : Int) := by rw [IntKind.wrap_u64]; omega
      have hu3 : IntKind.u64.wrap ((s.size + R.size : Nat) : Int) = (s.size : Int) + (R.size : Int) := by rw [IntKind.wrap_u64]; omega
      have hu4 : ¬ (s.size : Int) + (R.size : Int) < (s.size : Int) := by omega
      clear hX HI HY HTT
      go_wp2_with fail
      go_region
      go_wp2_with fail
      go_ret3
      exact ⟨rfl, rfl⟩
end Go.Proofs.YtpkpklbambmbeaaDoor
