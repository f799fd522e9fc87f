/-
  Walks: what New, there and Free of a Writer do.
-/
import Derived.Test.YtjlbkagkmcelgaaProg
import Derived.Test.YtjlbkagkmcelgaaP0
import Derived.Handy
import Derived.Laws.BitsAllLaws
import Derived.Deep.DeepMust
namespace Go.Proofs.Ytjlbkagkmcelgaa
open Go.RowKit

theorem there_calls {w : World} {b : Nat} {v : Bool} (h0 : w.cell? ⟨b, 0, none⟩ = some (.bool v)) :
    Calls Try.prog 64 #[.pointer (some ⟨b, 0, none⟩)] w fun e w' => e = .returned (.bool v) ∧ w = w' := by
  go_enter Try.func64, Try.ntmps64
  go_wp2
  go_ret
  exact ⟨rfl, rfl⟩
def freeF : Nat → Nat → List UInt8
  | 0, n => [UInt8.ofNat n]
  | k + 1, n => if n < 128 then [UInt8.ofNat n] else UInt8.ofNat (n % 128 + 128) :: freeF k (n / 128)
def freeB (n : Nat) : List UInt8 := freeF 9 n

theorem and127 (m : Nat) (h : m < 18446744073709551616) : bits .and .u64 (m : Int) 127 = (m : Int) % 128 := by
  have := u64_and_nat m 127 h (by decide)
  rw [show ((127 : Nat) : Int) = 127 from rfl] at this
  rw [this, show (127 : Nat) = 2 ^ 7 - 1 from rfl, Nat.and_two_pow_sub_one_eq_mod]
  omega
theorem Try.info5 : (Try.prog.info? 5).map (fun i => (i.zero, i.size, i.bytes)) = some (some (.int .u8 0), 1, 1) := by kernel_rfl

set_option maxRecDepth 100000 in
set_option maxHeartbeats 400000 in
theorem wfree_calls {w : World} {b : Nat} {g : Option Nat} {bs : List UInt8} (n : Nat) (hn : n < 18446744073709551616) (h : WrAt w b g bs) (hl : bs.length ≤ 1000000000000) :
    Calls Try.prog 66 #[.pointer (some ⟨b, 0, none⟩), .int .u64 n] w fun e w' => e = .returned (.tuple #[]) ∧ ∃ g', WrAt w' b g' (bs ++ freeB n) ∧ WrStep b g g' w w' := by
  obtain ⟨ao, c, hblk, hown, hg⟩ := id h
  obtain ⟨c0, c1, f0, f1⟩ := cell_of_two hblk
  obtain ⟨i0, hi, hz0, hz1, hz2⟩ := info_parts Try.info5
  go_enter Try.func66, Try.ntmps66
  go_wp2_with (go_at_call 64; refine (there_calls c0).mono ?_; rintro e w' ⟨rfl, rfl⟩)
  go_loopw [1] (fun n1 wr => ∃ (k m : Nat) (cur : List UInt8) (g1 : Option Nat), n1 = .int .u64 m ∧ m < 2 * 128 ^ k ∧ cur.length + k = bs.length + 9 ∧ k ≤ 9 ∧ WrAt wr b g1 cur ∧ Hid (cur ++ freeF k m = bs ++ freeB n) ∧ WrStep b g g1 w wr)
    (fun n1 _ => (intOf n1).toNat)
  case atStart => exact ⟨9, n, bs, g, rfl, by omega, rfl, by omega, h, rfl, WrStep.refl _ _ _⟩
  case round =>
    obtain ⟨k, m, cur, g1, rfl, hm, hk, hk9, hwr, hd, hst⟩ := hrel
    obtain ⟨ao1, c1', hblk1, hown1, hg1⟩ := id hwr
    obtain ⟨d0, d1, e0, e1⟩ := cell_of_two hblk1
    have hm64 : m < 18446744073709551616 := by
      have : 128 ^ k ≤ 128 ^ 9 := Nat.pow_le_pow_right (by decide) hk9
      omega
    have hand : bits .and .u64 (m : Int) 127 = (m : Int) % 128 := and127 m hm64
    by_cases h128 : 127 < m
    · go_wp2_with (at_builtin; go_must (refine wpList_append_lies _ (by rfl) _ _ _ (by rfl) 0 5 i0 (.int .u8 0) 1 1 Try.underlying44 hi hz0 hz1 hz2 rfl (by decide) _ _ _ (by rfl) (hown1.alloc _) ⟨wr.heap.size, 0, none⟩ 1 1 _ (by rfl) ?_ (World.news_of_block (heap_alloc_new wr _)) ?_ (by decide) ?_ ?_ (Nat.zero_le _) (wr.heap.size + 1) (by simp) ?_))
      · exact rfl
      · unfold maxLen; omega
      · omega
      · intro g2 cap w1 hown2 hgrow hat _
        obtain ⟨q0, q1, q2, q3⟩ := wr_cells hblk1 hown1 ((Fr.refl _ wr).alloc _) hgrow
        obtain ⟨g', R1, R2⟩ := wr_push (UInt8.ofNat (m % 128 + 128)) (by simp; omega) ((Fr.refl _ wr).alloc _) hblk1 hown1 hown2 hgrow hat
        subst hg1
        clear hown2 hgrow hat d0 d1 e0 e1
        obtain ⟨k, rfl⟩ : ∃ k', k = k' + 1 := ⟨k - 1, by rcases k with _ | k <;> simp at hm ⊢; omega⟩
        go_wp2
        go_roundw
        case rel => exact ⟨k, m / 128, cur ++ [UInt8.ofNat (m % 128 + 128)], g', by go_num, by rw [Nat.pow_succ] at hm; omega, by simp; omega, by omega, R1, by show _ = _; rw [← hd.out, freeF, if_neg (by omega)]; simp, hst.trans R2⟩
        case measure => simp [intOf]; omega
    · go_wp2_with (at_builtin; go_must (refine wpList_append_lies _ (by rfl) _ _ _ (by rfl) 0 5 i0 (.int .u8 0) 1 1 Try.underlying44 hi hz0 hz1 hz2 rfl (by decide) _ _ _ (by rfl) (hown1.alloc _) ⟨wr.heap.size, 0, none⟩ 1 1 _ (by rfl) ?_ (World.news_of_block (heap_alloc_new wr _)) ?_ (by decide) ?_ ?_ (Nat.zero_le _) (wr.heap.size + 1) (by simp) ?_))
      · exact rfl
      · unfold maxLen; omega
      · omega
      · intro g2 cap w1 hown2 hgrow hat _
        obtain ⟨q0, q1, q2, q3⟩ := wr_cells hblk1 hown1 ((Fr.refl _ wr).alloc _) hgrow
        obtain ⟨g', R1, R2⟩ := wr_push (UInt8.ofNat m) (by simp; omega) ((Fr.refl _ wr).alloc _) hblk1 hown1 hown2 hgrow hat
        subst hg1
        clear hown2 hgrow hat d0 d1 e0 e1
        go_wp2
        go_end0
        refine ⟨rfl, g', ?_, hst.trans R2⟩
        have e : bs ++ freeB n = cur ++ [UInt8.ofNat m] := by
          rw [← hd.out]; cases k <;> simp [freeF]; omega
        rw [e]; exact R1
end Go.Proofs.Ytjlbkagkmcelgaa
namespace Go.Proofs.Ytjlbkagkmcelgaa
open Go.RowKit

set_option maxRecDepth 100000 in
set_option maxHeartbeats 400000 in
theorem wstring_calls {w : World} {b : Nat} {g : Option Nat} {bs : List UInt8} (h : WrAt w b g bs) :
    Calls Try.prog 45 #[.pointer (some ⟨b, 0, none⟩)] w fun e w' => e = .returned (.string ⟨bs.toArray⟩) ∧ w = w' := by
  obtain ⟨ao, c, hblk, hown, hg⟩ := id h
  obtain ⟨c0, c1, f0, f1⟩ := cell_of_two hblk
  have hcv := owns_string (P := Try.prog) hown 44 9 Try.underlying44 Try.underlying5 Try.underlying9
  go_enter Try.func45, Try.ntmps45
  go_wp2_with (go_at_call 64; refine (there_calls c0).mono ?_; rintro e w' ⟨rfl, rfl⟩)
  go_ret
  exact ⟨rfl, rfl⟩

end Go.Proofs.Ytjlbkagkmcelgaa
