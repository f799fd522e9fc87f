/-
  Walks: firstTag and firstPart of bytes that have a fault.
-/
import Derived.Test.YtpkpklbambmbeaaDoorSPC
namespace Go.Proofs.YtpkpklbambmbeaaDoor
open Go.RowKit

set_option maxRecDepth 100000 in
set_option maxHeartbeats 400000 in
theorem ftag_bad (w : World) (T : ByteArray) (hb : badT T.data.toList) :
    Calls Tryd.prog 15 #[.string T] w fun e w' => e = .returned (.tuple #[.string ⟨#[]⟩, .string ⟨#[]⟩, .bool false]) ∧ Same w w' := by
  by_cases hq0 : T.data.toList = []
  · have hq : T.toList.isEmpty = true := by rw [ByteArray.toList_eq, hq0]; rfl
    clear hb hq0
    go_enter Tryd.func15, Tryd.ntmps15
    go_wp2_with fail
    go_ret3
    exact ⟨rfl, Fr.refl _ _⟩
  · have hq : T.toList.isEmpty = false := by
      rw [ByteArray.toList_eq]
      cases h : T.data.toList with
      | nil => exact absurd h hq0
      | cons a l => rfl
    have h0 : 0 < T.size := by
      rw [← bytes_length]
      cases h : T.data.toList with
      | nil => exact absurd h hq0
      | cons a l => simp
    obtain ⟨n, hn⟩ : ∃ n, n = (T[0]'h0).toNat := ⟨_, rfl⟩
    have hg : T.data.toList.getD 0 0 = T[0]'h0 := by
      obtain ⟨⟨l⟩⟩ := T
      cases l with
      | nil => exact absurd rfl hq0
      | cons a l => rfl
    have hw : wrap64 ((T[0]'h0).toNat : Int) = (n : Int) := by
      have := u8_lt (T[0]'h0)
      rw [hn, wrap64]; omega
    have hb2 : ¬ (1 ≤ n ∧ n ≤ 64) ∨ T.size ≤ n := by
      rcases hb with hb | hb | hb
      · exact absurd hb hq0
      · rw [hg, ← hn] at hb; exact Or.inl hb
      · rw [hg, ← hn, bytes_length] at hb; exact Or.inr hb
    have HT : Hid (∀ W, Calls Tryd.prog 25 #[.int .i64 (n : Int)] W fun e w' => e = .returned (.bool (decide (1 ≤ (n : Int) ∧ (n : Int) ≤ 64))) ∧ w' = W) := fun W => isTag_calls W n
    by_cases h1 : 1 ≤ n ∧ n ≤ 64
    · have hle : (T.size : Int) ≤ (n : Int) := by omega
      rw [decide_eq_true (by omega)] at HT
      clear hb hb2 hg hn hq0
      go_enter Tryd.func15, Tryd.ntmps15
      go_wp2_with fail
      refine (HT.out _).mono ?_
      rintro e W1 ⟨rfl, hW1⟩
      rw [hW1]
      clear hW1
      go_wp2_with fail
      go_ret3
      exact ⟨rfl, Fr.refl _ _⟩
    · rw [decide_eq_false (by omega)] at HT
      clear hb hb2 hg hn hq0
      go_enter Tryd.func15, Tryd.ntmps15
      go_wp2_with fail
      refine (HT.out _).mono ?_
      rintro e W1 ⟨rfl, hW1⟩
      rw [hW1]
      clear hW1
      go_wp2_with fail
      go_ret3
      exact ⟨rfl, Fr.refl _ _⟩

theorem num4_head (R : List UInt8) (h : 4 ≤ R.length) : ∃ X, R = by4 (UInt32.ofNat (num4 R)) ++ X ∧ X.length = R.length - 4 := by
  match R, h with
  | a :: b :: c :: d :: l, _ => exact ⟨l, by rw [by4_num4]; rfl, by simp⟩

set_option maxRecDepth 100000 in
set_option maxHeartbeats 400000 in
theorem fpart_bad (w : World) (T : ByteArray) (hTs : T.size ≤ 70368744177664) (hb : badR T.data.toList) :
    Calls Tryd.prog 16 #[.string T] w fun e w' => e = .returned (.tuple #[.string ⟨#[]⟩, .string ⟨#[]⟩, .bool false]) ∧ Same w w' := by
  by_cases h4 : T.size < 4
  · have hlt : (T.size : Int) < 4 := by omega
    clear hb h4
    go_enter Tryd.func16, Tryd.ntmps16
    go_wp2_with fail
    go_ret3
    exact ⟨rfl, Fr.refl _ _⟩
  · obtain ⟨X0, hX0, hXl⟩ := num4_head T.data.toList (by rw [bytes_length]; omega)
    have hbig : T.size - 4 < num4 T.data.toList := by
      have := hb.2
      rw [bytes_length] at this
      omega
    have hn := num4_lt T.data.toList
    generalize num4 T.data.toList = n at *
    have HI : Hid (∀ k (hk : k < 4) (h : k < T.size), T[k]'h = topB n k) := by
      intro k hk h
      have e : T.data.toList[k]? = some (topB n k) := by
        rw [hX0, List.getElem?_append_left (by rw [by4_length]; exact hk)]
        exact topB_at _ _ hk
      obtain ⟨⟨l⟩⟩ := T
      have e2 : l[k]? = some (topB n k) := e
      exact (List.getElem?_eq_some_iff.1 e2).2
    have HY : Hid (topY n 0 = 0 ∧ topY n 4 = UInt32.ofNat n ∧ ∀ k, k < 4 → topY n (k + 1) = (topY n k <<< 8) ||| (topB n k).toUInt32) := by
      refine ⟨?_, ?_, fun k hk => topY_step _ k hn hk⟩
      · unfold topY
        rw [Nat.div_eq_of_lt (by simpa using hn)]; rfl
      · unfold topY
        simp
    obtain ⟨r, hr⟩ : ∃ r, T.size = 4 + r := ⟨T.size - 4, by omega⟩
    have hle : ¬ (T.size : Int) < 4 := by omega
    obtain ⟨X, hX⟩ : ∃ X : ByteArray, T.extract 4 T.size = X := ⟨_, rfl⟩
    have hXs : X.size = r := by rw [← hX, ByteArray.size_extract]; omega
    clear hb hX0 hXl h4
    go_enter Tryd.func16, Tryd.ntmps16
    go_wp2_with fail
    go_loopg [5, 10] 4 (fun gg yv iv wr => ∃ (k : Nat), yv = .int .u32 ((topY n k).toNat : Int) ∧ iv = .int .i64 k ∧ k ≤ 4 ∧ gg = 4 - k ∧ wr = w)
    case atStart => exact ⟨0, by rw [HY.out.1]; rfl, rfl, by omega, rfl, rfl⟩
    case round =>
      obtain ⟨k, rfl, rfl, hk, rfl, rfl⟩ := hrel
      by_cases hgo : k < 4
      · have hgi : (k : Int) < 4 := by omega
        have hkT : k < T.size := by omega
        have hTk := HI.out k hgo hkT
        have HS := HY.out.2.2 k hgo
        generalize topY n k = y at HS ⊢
        generalize topB n k = b at HS hTk ⊢
        obtain ⟨y2, hy2⟩ : ∃ y2, topY n (k + 1) = y2 := ⟨_, rfl⟩
        rw [hy2] at HS
        have hbits : bits .or .u32 ((y.toNat : Int) * (256 : Int) % (4294967296 : Int)) ((b.toNat : Int) % (4294967296 : Int)) = (y2.toNat : Int) := by
          have h1 : (y.toNat : Int) * (256 : Int) % (4294967296 : Int) = ((y <<< 8).toNat : Int) := by
            have := l32 y 8 (by omega)
            rw [IntKind.wrap_u32] at this
            exact this
          have h2 : (b.toNat : Int) % (4294967296 : Int) = (b.toUInt32.toNat : Int) := by
            rw [UInt8.toNat_toUInt32]
            have := b.toNat_lt
            omega
          rw [h1, h2, o32, HS]
        have HBI : Hid (Value.int .u32 (bits .or .u32 ((y.toNat : Int) * (256 : Int) % (4294967296 : Int)) ((b.toNat : Int) % (4294967296 : Int))) = .int .u32 (y2.toNat : Int)) := congrArg _ hbits
        have HY2 : Hid (y2 = topY n (k + 1)) := hy2.symm
        clear HS hbits hy2
        go_wp2_with fail
        go_roundg (4 - (k + 1))
        case measure => omega
        case rel => exact ⟨k + 1, by rw [HBI.out, HY2.out], by go_num, by omega, rfl, rfl⟩
      · obtain rfl : k = 4 := by omega
        have e4 : ((topY n 4).toNat : Int) = (n : Int) := by
          rw [HY.out.2.1, UInt32.toNat_ofNat']
          omega
        rw [e4]
        have hu1 : IntKind.u64.wrap (n : Int) = (n : Int) := by rw [IntKind.wrap_u64]; omega
        have hu2 : IntKind.u64.wrap (r : Int) = (r : Int) := by rw [IntKind.wrap_u64]; omega
        have hu4 : (r : Int) < (n : Int) := by omega
        clear HI HY
        go_wp2_with fail
        go_ret3
        exact ⟨rfl, Fr.refl _ _⟩
end Go.Proofs.YtpkpklbambmbeaaDoor
