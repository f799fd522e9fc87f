/-
  Walks: what Put lays.
-/
import Derived.Test.YtjlbkagkmcelgaaW3J
import Derived.Test.YtjlbkagkmcelgaaS0
import Derived.Deep.RegionLaw
import Derived.Deep.DrawnRows
namespace Go.Proofs.Ytjlbkagkmcelgaa
open Go.RowKit

def fixB : Nat → Int → List UInt8
  | 0, _ => []
  | n + 1, x => UInt8.ofNat ((x / 256 ^ n) % 256).toNat :: fixB n x
theorem fixB_length (n : Nat) (x : Int) : (fixB n x).length = n := by induction n <;> simp [fixB, *]

theorem shr_fix (kd : IntKind) (x : Int) (k : Nat) (h : 8 * k ≤ kd.bits) : Op.shift .shr kd x .i64 (IntKind.i64.wrap (8 * (k : Int))) = pure (.int kd (x / 256 ^ k)) := by
  have hk : kd.bits ≤ 64 := by cases kd <;> simp [IntKind.bits]
  have e : IntKind.i64.wrap (8 * (k : Int)) = ((8 * k : Nat) : Int) := by rw [IntKind.wrap_i64]; omega
  rw [e, shift_shr kd .i64 x _ (by omega) (by omega)]
  rw [Int.toNat_natCast, show (2 : Int) ^ (8 * k) = 256 ^ k from by rw [Int.pow_mul]; rfl]

theorem u8_of (y : Int) : IntKind.u8.wrap y = ((UInt8.ofNat (y % 256).toNat).toNat : Int) := by
  rw [IntKind.wrap_u8]; simp; omega

theorem u8_same {x y : Int} {k : Nat} (h0 : 0 ≤ x) (h1 : x ≤ 255) (h : y = x / 256 ^ k) : y = ((UInt8.ofNat (y % 256).toNat).toNat : Int) := by
  have a : 0 ≤ y := by rw [h]; exact Int.ediv_nonneg h0 (Int.pow_nonneg (by decide))
  have b : y ≤ x := by rw [h]; exact Int.ediv_le_self _ h0
  simp; omega

attribute [local go_sem ↓] Go.wp_at_zero Go.wp_at_succ
set_option maxRecDepth 100000 in
set_option maxHeartbeats 400000 in
theorem put_u8 {w : World} {b : Nat} {g : Option Nat} {bs : List UInt8} (x : Int) (hx0 : 0 ≤ x) (hx1 : x ≤ 255) (h : WrAt w b g bs) (hl : bs.length ≤ 1000000000000) :
    Calls Try.prog 42 #[.pointer (some ⟨b, 0, none⟩), .int .u8 x] w fun e w' => e = .returned (.tuple #[]) ∧ ∃ g', WrAt w' b g' (bs ++ fixB 1 x) ∧ WrStep b g g' w w' := by
  obtain ⟨ao, c, hblk, hown, hg⟩ := id h
  obtain ⟨c0, c1, f0, f1⟩ := cell_of_two hblk
  obtain ⟨i0, hi, hz0, hz1, hz2⟩ := info_parts Try.info5
  go_enter Try.func42, Try.ntmps42
  go_wp2_with (first | (go_at_call 64; refine (there_calls c0).mono ?_; rintro e w' ⟨rfl, rfl⟩) | (go_at_call 65; refine (size_u8 _).mono ?_; rintro e w' ⟨rfl, rfl⟩))
  go_loopw [4] (fun iv wr => ∃ (k : Nat) (cur : List UInt8) (g1 : Option Nat), iv = .int .i64 ((k : Int) - 1) ∧ k ≤ 1 ∧ cur.length + k = bs.length + 1 ∧ WrAt wr b g1 cur ∧ Hid (cur ++ fixB k x = bs ++ fixB 1 x) ∧ WrStep b g g1 w wr)
    (fun iv _ => (intOf iv + 1).toNat)
  case atStart => exact ⟨1, bs, g, rfl, by omega, rfl, h, rfl, WrStep.refl _ _ _⟩
  case round =>
    obtain ⟨k, cur, g1, rfl, hk, hcl, hwr, hd, hst⟩ := hrel
    obtain ⟨ao1, c1', hblk1, hown1, hg1⟩ := id hwr
    obtain ⟨d0, d1, e0, e1⟩ := cell_of_two hblk1
    by_cases hpos : 0 < k
    · obtain ⟨k, rfl⟩ : ∃ k', k = k' + 1 := ⟨k - 1, by omega⟩
      have hlt := lt_of_heap hblk1
      have hnn : wr.heap.size ≠ b := by omega
      obtain ⟨y, hy, hsh⟩ : ∃ y, y = x / 256 ^ k ∧ Op.shift .shr .u8 x .i64 (IntKind.i64.wrap (8 * (k : Int))) = pure (.int .u8 y) := ⟨_, rfl, shr_fix .u8 x k (by simp [IntKind.bits]; omega)⟩
      have HY : Hid (y = x / 256 ^ k) := hy
      clear hy
      go_wp2_with fail
      go_region_law ((refine step_append_lies _ (by rfl) _ _ _ (by rfl) 0 5 i0 (.int .u8 0) 1 1 Try.underlying44 hi hz0 hz1 hz2 rfl (by decide) _ _ _ (by rfl) ((hown1.alloc _).drew) ⟨wr.heap.size, 0, none⟩ 1 1 _ (by rfl) (by rfl) (World.news_of_block (heap_alloc_new wr _)) (by simp [Value.oneCell']) (by decide) (by unfold maxLen; omega) (by omega) (Nat.zero_le _) (wr.heap.size + 1) (by simp) ?_; intro g2 cap w1 hown2 hgrow hat hlt; obtain ⟨q0, q1, q2, q3⟩ := wr_cells hblk1 hown1 (((Fr.refl _ wr).alloc _).drew) hgrow))
      all_goals
        obtain ⟨g', R1, R2⟩ := wr_push (UInt8.ofNat (y % 256).toNat) (u8_same hx0 hx1 HY.out) (((Fr.refl _ wr).alloc _).drew) hblk1 hown1 hown2 hgrow hat
        subst hg1
        clear hown2 hgrow hat d0 d1 e0 e1
        go_wp2
        go_roundw
        case rel => exact ⟨k, cur ++ [UInt8.ofNat (y % 256).toNat], g', by go_num, by omega, by simp; omega, R1, by show _ = _; rw [← hd.out, HY.out, fixB]; simp, hst.trans R2⟩
        case measure => simp [intOf]
    · have hk0 : k = 0 := by omega
      subst hk0
      go_wp2
      go_end0
      refine ⟨rfl, g1, ?_, hst⟩
      have e := hd.out
      simp only [fixB, List.append_nil] at e
      simp only [fixB]
      rw [← e]; exact hwr
set_option maxRecDepth 100000 in
set_option maxHeartbeats 400000 in
theorem put_u32 {w : World} {b : Nat} {g : Option Nat} {bs : List UInt8} (x : Int) (h : WrAt w b g bs) (hl : bs.length ≤ 1000000000000) :
    Calls Try.prog 62 #[.pointer (some ⟨b, 0, none⟩), .int .u32 x] w fun e w' => e = .returned (.tuple #[]) ∧ ∃ g', WrAt w' b g' (bs ++ fixB 4 x) ∧ WrStep b g g' w w' := by
  obtain ⟨ao, c, hblk, hown, hg⟩ := id h
  obtain ⟨c0, c1, f0, f1⟩ := cell_of_two hblk
  obtain ⟨i0, hi, hz0, hz1, hz2⟩ := info_parts Try.info5
  go_enter Try.func62, Try.ntmps62
  go_wp2_with (first | (go_at_call 64; refine (there_calls c0).mono ?_; rintro e w' ⟨rfl, rfl⟩) | (go_at_call 80; refine (size_u32 _).mono ?_; rintro e w' ⟨rfl, rfl⟩))
  go_loopw [4] (fun iv wr => ∃ (k : Nat) (cur : List UInt8) (g1 : Option Nat), iv = .int .i64 ((k : Int) - 1) ∧ k ≤ 4 ∧ cur.length + k = bs.length + 4 ∧ WrAt wr b g1 cur ∧ Hid (cur ++ fixB k x = bs ++ fixB 4 x) ∧ WrStep b g g1 w wr)
    (fun iv _ => (intOf iv + 1).toNat)
  case atStart => exact ⟨4, bs, g, rfl, by omega, rfl, h, rfl, WrStep.refl _ _ _⟩
  case round =>
    obtain ⟨k, cur, g1, rfl, hk, hcl, hwr, hd, hst⟩ := hrel
    obtain ⟨ao1, c1', hblk1, hown1, hg1⟩ := id hwr
    obtain ⟨d0, d1, e0, e1⟩ := cell_of_two hblk1
    by_cases hpos : 0 < k
    · obtain ⟨k, rfl⟩ : ∃ k', k = k' + 1 := ⟨k - 1, by omega⟩
      have hlt := lt_of_heap hblk1
      have hnn : wr.heap.size ≠ b := by omega
      obtain ⟨y, hy, hsh⟩ : ∃ y, y = x / 256 ^ k ∧ Op.shift .shr .u32 x .i64 (IntKind.i64.wrap (8 * (k : Int))) = pure (.int .u32 y) := ⟨_, rfl, shr_fix .u32 x k (by simp [IntKind.bits]; omega)⟩
      have HY : Hid (y = x / 256 ^ k) := hy
      clear hy
      go_wp2_with fail
      go_region_law ((refine step_append_lies _ (by rfl) _ _ _ (by rfl) 0 5 i0 (.int .u8 0) 1 1 Try.underlying44 hi hz0 hz1 hz2 rfl (by decide) _ _ _ (by rfl) ((hown1.alloc _).drew) ⟨wr.heap.size, 0, none⟩ 1 1 _ (by rfl) (by rfl) (World.news_of_block (heap_alloc_new wr _)) (by simp [Value.oneCell']) (by decide) (by unfold maxLen; omega) (by omega) (Nat.zero_le _) (wr.heap.size + 1) (by simp) ?_; intro g2 cap w1 hown2 hgrow hat hlt; obtain ⟨q0, q1, q2, q3⟩ := wr_cells hblk1 hown1 (((Fr.refl _ wr).alloc _).drew) hgrow))
      all_goals
        obtain ⟨g', R1, R2⟩ := wr_push (UInt8.ofNat (y % 256).toNat) (u8_of y) (((Fr.refl _ wr).alloc _).drew) hblk1 hown1 hown2 hgrow hat
        subst hg1
        clear hown2 hgrow hat d0 d1 e0 e1
        go_wp2
        go_roundw
        case rel => exact ⟨k, cur ++ [UInt8.ofNat (y % 256).toNat], g', by go_num, by omega, by simp; omega, R1, by show _ = _; rw [← hd.out, HY.out, fixB]; simp, hst.trans R2⟩
        case measure => simp [intOf]
    · have hk0 : k = 0 := by omega
      subst hk0
      go_wp2
      go_end0
      refine ⟨rfl, g1, ?_, hst⟩
      have e := hd.out
      simp only [fixB, List.append_nil] at e
      simp only [fixB]
      rw [← e]; exact hwr
end Go.Proofs.Ytjlbkagkmcelgaa
