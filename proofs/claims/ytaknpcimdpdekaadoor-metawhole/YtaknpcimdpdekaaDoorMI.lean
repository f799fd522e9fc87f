/- mixed. -/
import Derived.Test.YtaknpcimdpdekaaDoorMG
namespace Go.Proofs.YtaknpcimdpdekaaDoor
open Go.RowKit

/-- What 'mixed' has put together after k rounds: k sectors, the first of which is the one's or the other's. -/
def MixAt (n k : Nat) (a b : ByteArray) (bit : Bool) (s : ByteArray) : Prop := s.size = k * n ∧ (1 ≤ k → s.extract 0 n = (if bit = true then b else a).extract 0 n)
theorem MixAt.zero (n : Nat) (a b : ByteArray) (bit : Bool) : MixAt n 0 a b bit ⟨#[]⟩ := ⟨by rw [Nat.zero_mul]; rfl, fun h => by omega⟩
theorem extract_app (s c : ByteArray) (n : Nat) (h : n ≤ s.size) : (s ++ c).extract 0 n = s.extract 0 n := by
  apply bytes_ext
  rw [show n = 0 + n from by omega, extract_list, extract_list, List.drop_zero, List.drop_zero, ByteArray.data_append, Array.toList_append, List.take_append_of_le_length (by rw [bytes_length]; omega)]
theorem MixAt.step {n k : Nat} {a b s c : ByteArray} {bit : Bool} (h : MixAt n k a b bit s) (hc : c.size = n) (h0 : k = 0 → c = (if bit = true then b else a).extract 0 n) : MixAt n (k + 1) a b bit (s ++ c) := by
  refine ⟨?_, fun _ => ?_⟩
  · rw [ByteArray.size_append, h.1, hc, Nat.add_mul, Nat.one_mul]
  · by_cases hk : k = 0
    · have hs : s.size = 0 := by rw [h.1, hk, Nat.zero_mul]
      have hs2 : s = ⟨#[]⟩ := by
        apply bytes_ext
        exact List.eq_nil_of_length_eq_zero (by rw [bytes_length]; exact hs)
      rw [hs2, show (⟨#[]⟩ : ByteArray) ++ c = c from ByteArray.empty_append]
      have e := h0 hk
      have : c.extract 0 n = c := by
        apply bytes_ext
        rw [show n = 0 + n from by omega, extract_list, List.drop_zero, List.take_of_length_le (by rw [bytes_length]; omega)]
      rw [this, e]
    · rw [extract_app s c n (by rw [h.1]; exact Nat.le_mul_of_pos_left n (by omega)), h.2 (by omega)]

theorem and_one : ∀ m : Fin 256, bits .and .u8 (m.val : Int) 1 = ((m.val % 2 : Nat) : Int) := by decide +kernel

set_option maxRecDepth 100000 in
set_option maxHeartbeats 2000000 in
theorem mixed_core {n : Nat} {q : Int} {a b : ByteArray} {mask : Nat} (hm : mask < 256) (hn : 1 ≤ n) (hn2 : n ≤ 100000) (ha : a.size = 8 * n) (hb : b.size = 8 * n) (w : World) :
    Calls Tryd.prog 9 #[frameV ((8 * n : Nat) : Int) q, .string a, .string b, .int .u8 mask] w fun e w' => (∃ s, e = .returned (.string s) ∧ MixAt n 8 a b (decide (mask % 2 = 1)) s) ∧ Same w w' := by
  have c0 : (w.alloc (.cells #[.int .i64 ((8 * n : Nat) : Int), .int .i64 q] 23)).cell? ⟨w.heap.size, 0, none⟩ = some (.int .i64 ((8 * n : Nat) : Int)) := by simp
  have sx : Same w (w.alloc (.cells #[.int .i64 ((8 * n : Nat) : Int), .int .i64 q] 23)) := (Fr.refl _ w).alloc _
  obtain ⟨P8, hP8⟩ : ∃ P8 : Int, P8 = ((8 * n : Nat) : Int) := ⟨_, rfl⟩
  rw [← hP8] at c0 sx ⊢
  have hdv : wrap64 (P8.tdiv 8) = (n : Int) := by rw [hP8, Int.tdiv_eq_ediv_of_nonneg (by omega), wrap64]; omega
  have HA : Hid (a.size = 8 * n) := ha
  have HB : Hid (b.size = 8 * n) := hb
  have HM0 : Hid (MixAt n 0 a b (decide (mask % 2 = 1)) ⟨#[]⟩) := MixAt.zero n a b _
  have HBIT : Hid ((bits BinOp.and IntKind.u8 ((mask : Int) / 2 ^ 0) 1 == 1) = decide (mask % 2 = 1)) := by
    show _ = _
    have h1 := and_one ⟨mask, hm⟩
    simp only at h1
    rw [Int.pow_zero, Int.ediv_one, h1, Bool.eq_iff_iff, beq_iff_eq, decide_eq_true_eq]
    omega
  generalize decide (mask % 2 = 1) = bit at *
  clear ha hb hP8
  go_enter Tryd.func9, Tryd.ntmps9
  go_wp2_with fail
  go_loop [10, 11] (fun s i => ∃ (k : Nat) (S : ByteArray), s = .string S ∧ i = .int .i64 k ∧ k ≤ 8 ∧ Hid (MixAt n k a b bit S)) (fun _ i => 8 - (intOf i).toNat)
  case atStart => exact ⟨0, ⟨#[]⟩, rfl, rfl, by omega, HM0⟩
  case round =>
    obtain ⟨k, S, rfl, rfl, hk, HS⟩ := hrel
    by_cases hgo : k < 8
    · obtain ⟨kn, hkn⟩ : ∃ kn, kn = k * n := ⟨_, rfl⟩
      have hle : k * n ≤ 7 * n := Nat.mul_le_mul_right n (by omega)
      have hm1 : wrap64 ((k : Int) * (n : Int)) = (kn : Int) := by
        have : ((k : Int) * (n : Int)) = ((k * n : Nat) : Int) := by rw [Int.natCast_mul]
        rw [this, ← hkn, wrap64]; omega
      have hm2 : wrap64 ((kn : Int) + (n : Int)) = ((kn + n : Nat) : Int) := by rw [wrap64]; omega
      have h0 : (0 : Int) ≤ (kn : Int) := by omega
      have h1 : (kn : Int) ≤ ((kn + n : Nat) : Int) := by omega
      have h2a : ((kn + n : Nat) : Int) ≤ (a.size : Int) := by have := HA.out; omega
      have h2b : ((kn + n : Nat) : Int) ≤ (b.size : Int) := by have := HB.out; omega
      obtain ⟨bk, hbk⟩ : ∃ bk, (bits BinOp.and IntKind.u8 ((mask : Int) / 2 ^ k) 1 == 1) = bk := ⟨_, rfl⟩
      have HB0 : Hid (k = 0 → bk = bit) := fun e => by rw [← hbk, e]; exact HBIT.out
      have HSs := HS.out.1
      cases bk
      · obtain ⟨C, hC⟩ : ∃ C, C = a.extract kn (kn + n) := ⟨_, rfl⟩
        have hCs : C.size = n := by rw [hC, ByteArray.size_extract]; omega
        have hmx : IntKind.i64.max = 9223372036854775807 := by decide
        have hcat2 : ¬ (((S.size + C.size : Nat) : Int) > IntKind.i64.max) := by omega
        have hadd : ∀ W : World, (Op.stringOp .add S C).run Tryd.prog W = .ok (.string (S ++ C)) W := by
          intro W; simp only [Op.stringOp, if_neg hcat2]; rfl
        have HN : Hid (MixAt n (k + 1) a b bit (S ++ C)) := HS.out.step hCs (fun e => by rw [hC, hkn, e, ← HB0.out e]; simp)
        have hex : a.extract kn (kn + n) = C := hC.symm
        clear hC hmx hcat2 HSs hCs hkn hle HS HB0
        generalize S ++ C = SC at *
        go_wp2_with fail
        go_round
        case rel => exact ⟨k + 1, SC, rfl, by go_num, by omega, HN⟩
        case measure => simp [intOf]; omega
      · obtain ⟨C, hC⟩ : ∃ C, C = b.extract kn (kn + n) := ⟨_, rfl⟩
        have hCs : C.size = n := by rw [hC, ByteArray.size_extract]; omega
        have hmx : IntKind.i64.max = 9223372036854775807 := by decide
        have hcat2 : ¬ (((S.size + C.size : Nat) : Int) > IntKind.i64.max) := by omega
        have hadd : ∀ W : World, (Op.stringOp .add S C).run Tryd.prog W = .ok (.string (S ++ C)) W := by
          intro W; simp only [Op.stringOp, if_neg hcat2]; rfl
        have HN : Hid (MixAt n (k + 1) a b bit (S ++ C)) := HS.out.step hCs (fun e => by rw [hC, hkn, e, ← HB0.out e]; simp)
        have hex : b.extract kn (kn + n) = C := hC.symm
        clear hC hmx hcat2 HSs hCs hkn hle HS HB0
        generalize S ++ C = SC at *
        go_wp2_with fail
        go_round
        case rel => exact ⟨k + 1, SC, rfl, by go_num, by omega, HN⟩
        case measure => simp [intOf]; omega
    · obtain rfl : k = 8 := by omega
      go_wp2_with fail
      go_ret
      exact ⟨⟨S, rfl, HS.out⟩, sx⟩
end Go.Proofs.YtaknpcimdpdekaaDoor
