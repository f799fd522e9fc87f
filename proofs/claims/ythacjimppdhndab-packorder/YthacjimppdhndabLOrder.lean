/- PackOrder answers true at every two numbers: fixed numbers without a sign stand, byte by byte, as the numbers do; no condition. -/
import Derived.Test.YthacjimppdhndabWF
import Derived.Test.YthacjimppdhndabWG
namespace Go.Proofs.Ythacjimppdhndab
open Go.RowKit

theorem head_eq (h : Int) (h0 : 0 ≤ h) (h1 : h < 256) : (UInt8.ofNat (h % 256).toNat).toNat = h.toNat := by
  simp; omega
/-- The order of bytes is that of the numbers. -/
theorem bytesLess_fix (n : Nat) (x y : Int) (hx0 : 0 ≤ x) (hy0 : 0 ≤ y) (hx : x < 256 ^ n) (hy : y < 256 ^ n) : Op.bytesLess (fixB n x) (fixB n y) = decide (x < y) ∧ (fixB n x == fixB n y) = decide (x = y) := by
  induction n generalizing x y with
  | zero =>
    simp only [Int.pow_zero] at hx hy
    have e1 : x = 0 := by omega
    have e2 : y = 0 := by omega
    subst e1; subst e2
    decide
  | succ n ih =>
    have hp : (0 : Int) < 256 ^ n := Int.pow_pos (by decide)
    rw [Int.pow_succ] at hx hy
    obtain ⟨P, hP⟩ : ∃ P : Int, P = 256 ^ n := ⟨_, rfl⟩
    have ih' := ih (x % 256 ^ n) (y % 256 ^ n) (Int.emod_nonneg _ (by omega)) (Int.emod_nonneg _ (by omega)) (Int.emod_lt_of_pos _ hp) (Int.emod_lt_of_pos _ hp)
    have ex : fixB n x = fixB n (x % 256 ^ n) := fixB_mod n _ _ (x / 256 ^ n) (by have := Int.emod_add_mul_ediv x (256 ^ n); omega)
    have ey : fixB n y = fixB n (y % 256 ^ n) := fixB_mod n _ _ (y / 256 ^ n) (by have := Int.emod_add_mul_ediv y (256 ^ n); omega)
    have dx := Int.emod_add_mul_ediv x (256 ^ n)
    have dy := Int.emod_add_mul_ediv y (256 ^ n)
    have mx0 := Int.emod_nonneg x (b := 256 ^ n) (by omega)
    have my0 := Int.emod_nonneg y (b := 256 ^ n) (by omega)
    have mx1 := Int.emod_lt_of_pos x hp
    have my1 := Int.emod_lt_of_pos y hp
    have qx0 : 0 ≤ x / 256 ^ n := Int.ediv_nonneg hx0 (by omega)
    have qy0 : 0 ≤ y / 256 ^ n := Int.ediv_nonneg hy0 (by omega)
    have qx1 : x / 256 ^ n < 256 := Int.ediv_lt_of_lt_mul hp (by rw [Int.mul_comm]; exact hx)
    have qy1 : y / 256 ^ n < 256 := Int.ediv_lt_of_lt_mul hp (by rw [Int.mul_comm]; exact hy)
    rw [fixB, fixB, ex, ey]
    have hhx := head_eq _ qx0 qx1
    have hhy := head_eq _ qy0 qy1
    rw [← hP] at *
    generalize x / P = qx at *
    generalize y / P = qy at *
    generalize x % P = rx at *
    generalize y % P = ry at *
    generalize UInt8.ofNat (qx % 256).toNat = cx at *
    generalize UInt8.ofNat (qy % 256).toNat = cy at *
    rcases Int.lt_trichotomy qx qy with hlt | heq | hgt
    · have h1 : P * (qx + 1) ≤ P * qy := Int.mul_le_mul_of_nonneg_left (by omega) (by omega)
      rw [Int.mul_add] at h1
      have hxy : x < y := by omega
      have hc : cx.toNat < cy.toNat := by omega
      have hc' : cx < cy := hc
      have hne : cx ≠ cy := by intro e; rw [e] at hc; omega
      constructor
      · simp [Op.bytesLess, hc', hxy]
      · rw [decide_eq_false (show ¬ x = y from by omega), beq_eq_false_iff_ne]; intro e; injection e with e1; exact hne e1
    · subst heq
      have hc : cx = cy := UInt8.toNat.inj (by omega)
      subst hc
      have e1 : (x < y) = (rx < ry) := by apply propext; omega
      have e2 : (x = y) = (rx = ry) := by apply propext; omega
      constructor
      · simp [Op.bytesLess, ih'.1, e1]
      · simpa [e2] using ih'.2
    · have h1 : P * (qy + 1) ≤ P * qx := Int.mul_le_mul_of_nonneg_left (by omega) (by omega)
      rw [Int.mul_add] at h1
      have hxy : ¬ x < y := by omega
      have hc : cy.toNat < cx.toNat := by omega
      have hc' : ¬ cx < cy := by intro h; have : cx.toNat < cy.toNat := h; omega
      have hne : cx ≠ cy := by intro e; rw [e] at hc; omega
      constructor
      · simp [Op.bytesLess, hc', hne, hxy]
      · rw [decide_eq_false (show ¬ x = y from by omega), beq_eq_false_iff_ne]; intro e; injection e with e1; exact hne e1

/-- The two comparisons of fixed numbers' bytes, as Bools. -/
theorem order_bits (n x y : Nat) (X Y : Int) (hX : X = (x : Int)) (hY : Y = (y : Int)) (hx : x < 256 ^ n) (hy : y < 256 ^ n) (S1 S2 : ByteArray) (h1 : S1 = ⟨(fixB n x).toArray⟩) (h2 : S2 = ⟨(fixB n y).toArray⟩) :
    ∃ t1 t2 : Bool, Op.bytesLess S1.toList S2.toList = t1 ∧ (S1.toList == S2.toList) = t2 ∧ decide (X < Y) = t1 ∧ (X == Y) = t2 := by
  have e : ((256 ^ n : Nat) : Int) = 256 ^ n := Int.natCast_pow 256 n
  have h := bytesLess_fix n x y (by omega) (by omega) (by rw [← e]; exact Int.ofNat_lt.2 hx) (by rw [← e]; exact Int.ofNat_lt.2 hy)
  subst hX; subst hY
  refine ⟨_, _, rfl, rfl, ?_, ?_⟩
  · rw [h1, h2, Lib.toList_data, Lib.toList_data]; exact h.1.symm
  · rw [h1, h2, Lib.toList_data, Lib.toList_data]; show decide ((x : Int) = (y : Int)) = _; exact h.2.symm

set_option maxRecDepth 100000 in
set_option maxHeartbeats 2000000 in
theorem order_walk (a b : Nat) (ha : a < 18446744073709551616) (hb : b < 18446744073709551616) (w : World) :
    Calls Try.prog 5 #[.int .u64 a, .int .u64 b] w fun e w' => e = .returned (.bool true) ∧ Below w.heap.size w w' := by
  go_enter Try.func5, Try.ntmps5
  go_wp2_with fail
  obtain ⟨w2, hw2⟩ : ∃ w2, w2 = (w.alloc (.cells #[.int .i64 8, .int .i64 16, .int .i64 32] 3)).alloc (.cells #[.int .i64 0, .int .i64 1, .int .i64 2, .int .i64 3] 3) := ⟨_, rfl⟩
  rw [← hw2]
  have hs2 : Same w w2 := by rw [hw2]; exact ((Fr.refl _ w).alloc _).alloc _
  have z0 : w2.cell? ⟨w.heap.size, 0, none⟩ = some (.int .i64 8) := by rw [hw2]; simp
  have z1 : w2.cell? ⟨w.heap.size, 1, none⟩ = some (.int .i64 16) := by rw [hw2]; simp
  have z2 : w2.cell? ⟨w.heap.size, 2, none⟩ = some (.int .i64 32) := by rw [hw2]; simp
  have y0 : w2.cell? ⟨w.heap.size + 1, 0, none⟩ = some (.int .i64 0) := by rw [hw2]; simp
  have y1 : w2.cell? ⟨w.heap.size + 1, 1, none⟩ = some (.int .i64 1) := by rw [hw2]; simp
  have y2 : w2.cell? ⟨w.heap.size + 1, 2, none⟩ = some (.int .i64 2) := by rw [hw2]; simp
  have y3 : w2.cell? ⟨w.heap.size + 1, 3, none⟩ = some (.int .i64 3) := by rw [hw2]; simp
  have hsz : w2.heap.size = w.heap.size + 2 := by rw [hw2]; simp
  have HSZ : Hid (w2.heap.size = w.heap.size + 2) := hsz
  clear hw2 hsz
  go_loopw [7] (fun iv wr => ∃ k : Nat, k ≤ 4 ∧ iv = .int .i64 k ∧ Same w2 wr) (fun iv _ => 4 - (intOf iv).toNat)
  case atStart => exact ⟨0, by omega, rfl, Fr.refl _ _⟩
  case round =>
    obtain ⟨k, hk, rfl, hst⟩ := hrel
    have lt0 : w.heap.size < w2.heap.size := by have := HSZ.out; omega
    have lt1 : w.heap.size + 1 < w2.heap.size := by have := HSZ.out; omega
    have Z0 := (hst.cell (p := ⟨w.heap.size, 0, none⟩) lt0 (fun f => f)).trans z0
    have Z1 := (hst.cell (p := ⟨w.heap.size, 1, none⟩) lt0 (fun f => f)).trans z1
    have Z2 := (hst.cell (p := ⟨w.heap.size, 2, none⟩) lt0 (fun f => f)).trans z2
    have Y0 := (hst.cell (p := ⟨w.heap.size + 1, 0, none⟩) lt1 (fun f => f)).trans y0
    have Y1 := (hst.cell (p := ⟨w.heap.size + 1, 1, none⟩) lt1 (fun f => f)).trans y1
    have Y2 := (hst.cell (p := ⟨w.heap.size + 1, 2, none⟩) lt1 (fun f => f)).trans y2
    have Y3 := (hst.cell (p := ⟨w.heap.size + 1, 3, none⟩) lt1 (fun f => f)).trans y3
    clear z0 z1 z2 y0 y1 y2 y3
    rcases (show k = 0 ∨ k = 1 ∨ k = 2 ∨ k = 3 ∨ k = 4 from by omega) with rfl | rfl | rfl | rfl | rfl
    · have OL := order_bits 1 (a % 256) (b % 256) ((a : Int) % 256) ((b : Int) % 256) (by omega) (by omega) (by omega) (by omega)
      have hsz9 := hst.size
      go_wp2_with fail
      refine (new_calls wr).mono ?_
      rintro e W1 ⟨rfl, rfl⟩
      go_wp2_with fail
      refine (new_calls _).mono ?_
      rintro e W2 ⟨rfl, hW2⟩
      have k1 : WrAt W2 wr.heap.size none [] := by rw [hW2]; exact (wr_new wr).same ((Fr.refl _ _).alloc _)
      have k2 : WrAt W2 (wr.heap.size + 1) none [] := by rw [hW2]; have := wr_new (wr.alloc (.cells #[.bool true, .slice none 0 0] 54)); simpa using this
      have sw : Same wr W2 := by rw [hW2]; exact ((Fr.refl _ wr).alloc _).alloc _
      have hz2 : W2.heap.size = wr.heap.size + 2 := by rw [hW2]; simp
      have HZ2 : Hid (W2.heap.size = wr.heap.size + 2) := hz2
      clear hW2 hz2
      have q0 := (sw.cell (World.block_lt_of_cell? _ _ Z0) (fun f => f)).trans Z0
      have q1 := (sw.cell (World.block_lt_of_cell? _ _ Y0) (fun f => f)).trans Y0
      rw [show (wr.alloc (.cells #[.bool true, .slice none 0 0] 54)).heap.size = wr.heap.size + 1 from by simp]
      go_wp2_with fail
      rw [show ((a : Int) % 256) = ((a % 256 : Nat) : Int) from by omega]
      refine (lay_0 (a % 256) (by omega) 0 ⟨#[]⟩ none 0 0 none 0 0 0 0 0 k1 (by simp)).mono ?_
      rintro e W3 ⟨rfl, g1, m1, s1⟩
      have k3 : WrAt W3 (wr.heap.size + 1) none [] := k2.other s1 (by omega) (by simp) (by simp)
      have q2 := (s1.1.cell (World.block_lt_of_cell? _ _ q1) (by rintro (e | e); (simp only at e; omega); cases e)).trans q1
      go_wp2_with fail
      rw [show ((b : Int) % 256) = ((b % 256 : Nat) : Int) from by omega]
      refine (lay_0 (b % 256) (by omega) 0 ⟨#[]⟩ none 0 0 none 0 0 0 0 0 k3 (by simp)).mono ?_
      rintro e W4 ⟨rfl, g2, m2, s2⟩
      have m3 : WrAt W4 wr.heap.size g1 ([] ++ fixB 1 (a % 256)) := m1.other s2 (by omega) (by simp) (fun k hk => ⟨by rcases s1.2 k hk with h' | h'; cases h'; have := HZ2.out; omega, by simp⟩)
      have sfin : Same w2 W4 := by
        have f1 := Fr.trans (S := fun k => wr.heap.size ≤ k) (sw.mono (fun _ _ f => f.elim)) s1.1 (by rintro i _ (e | e); omega; cases e)
        have f2 := Fr.trans (S := fun k => wr.heap.size ≤ k) f1 s2.1 (by rintro i _ (e | e); omega; cases e)
        refine Fr.trans (S := fun _ => False) hst f2 ?_
        intro i hi hh; have := hst.size; omega
      obtain ⟨S1, hS1⟩ : ∃ S1 : ByteArray, S1 = ⟨([] ++ fixB 1 (a % 256)).toArray⟩ := ⟨_, rfl⟩
      obtain ⟨S2, hS2⟩ : ∃ S2 : ByteArray, S2 = ⟨([] ++ fixB 1 (b % 256)).toArray⟩ := ⟨_, rfl⟩
      have C1 : Hid (∀ x : Unit, Calls Try.prog 13 #[.pointer (some ⟨wr.heap.size, 0, none⟩)] W4 fun e w' => e = .returned (.string S1) ∧ W4 = w') := fun _ => by rw [hS1]; exact wstring_calls m3
      have C2 : Hid (∀ x : Unit, Calls Try.prog 13 #[.pointer (some ⟨wr.heap.size + 1, 0, none⟩)] W4 fun e w' => e = .returned (.string S2) ∧ W4 = w') := fun _ => by rw [hS2]; exact wstring_calls m2
      rw [List.nil_append] at hS1 hS2
      obtain ⟨t1, t2, T1, T2, T3, T4⟩ := OL S1 S2 hS1 hS2
      clear k1 k2 k3 m1 m2 m3 s1 s2 q0 q1 q2 hS1 hS2 OL sw hst Z0 Z1 Z2 Y0 Y1 Y2 Y3
      go_wp2_with fail
      refine (C1.out ()).mono ?_
      rintro e w' ⟨rfl, rfl⟩
      go_wp2_with fail
      refine (C2.out ()).mono ?_
      rintro e w' ⟨rfl, rfl⟩
      go_wp2_with fail
      refine (C1.out ()).mono ?_
      rintro e w' ⟨rfl, rfl⟩
      go_wp2_with fail
      refine (C2.out ()).mono ?_
      rintro e w' ⟨rfl, rfl⟩
      go_wp2_with fail
      go_roundw
      case rel => exact ⟨1, by omega, rfl, sfin⟩
      case measure => simp [intOf]
    · have OL := order_bits 2 (a % 65536) (b % 65536) ((a : Int) % 65536) ((b : Int) % 65536) (by omega) (by omega) (by omega) (by omega)
      have hsz9 := hst.size
      go_wp2_with fail
      refine (new_calls wr).mono ?_
      rintro e W1 ⟨rfl, rfl⟩
      go_wp2_with fail
      refine (new_calls _).mono ?_
      rintro e W2 ⟨rfl, hW2⟩
      have k1 : WrAt W2 wr.heap.size none [] := by rw [hW2]; exact (wr_new wr).same ((Fr.refl _ _).alloc _)
      have k2 : WrAt W2 (wr.heap.size + 1) none [] := by rw [hW2]; have := wr_new (wr.alloc (.cells #[.bool true, .slice none 0 0] 54)); simpa using this
      have sw : Same wr W2 := by rw [hW2]; exact ((Fr.refl _ wr).alloc _).alloc _
      have hz2 : W2.heap.size = wr.heap.size + 2 := by rw [hW2]; simp
      have HZ2 : Hid (W2.heap.size = wr.heap.size + 2) := hz2
      clear hW2 hz2
      have q0 := (sw.cell (World.block_lt_of_cell? _ _ Z1) (fun f => f)).trans Z1
      have q1 := (sw.cell (World.block_lt_of_cell? _ _ Y1) (fun f => f)).trans Y1
      rw [show (wr.alloc (.cells #[.bool true, .slice none 0 0] 54)).heap.size = wr.heap.size + 1 from by simp]
      go_wp2_with fail
      rw [show ((a : Int) % 65536) = ((a % 65536 : Nat) : Int) from by omega]
      refine (lay_1 (a % 65536) (by omega) 0 ⟨#[]⟩ none 0 0 none 0 0 0 0 0 k1 (by simp)).mono ?_
      rintro e W3 ⟨rfl, g1, m1, s1⟩
      have k3 : WrAt W3 (wr.heap.size + 1) none [] := k2.other s1 (by omega) (by simp) (by simp)
      have q2 := (s1.1.cell (World.block_lt_of_cell? _ _ q1) (by rintro (e | e); (simp only at e; omega); cases e)).trans q1
      go_wp2_with fail
      rw [show ((b : Int) % 65536) = ((b % 65536 : Nat) : Int) from by omega]
      refine (lay_1 (b % 65536) (by omega) 0 ⟨#[]⟩ none 0 0 none 0 0 0 0 0 k3 (by simp)).mono ?_
      rintro e W4 ⟨rfl, g2, m2, s2⟩
      have m3 : WrAt W4 wr.heap.size g1 ([] ++ fixB 2 (a % 65536)) := m1.other s2 (by omega) (by simp) (fun k hk => ⟨by rcases s1.2 k hk with h' | h'; cases h'; have := HZ2.out; omega, by simp⟩)
      have sfin : Same w2 W4 := by
        have f1 := Fr.trans (S := fun k => wr.heap.size ≤ k) (sw.mono (fun _ _ f => f.elim)) s1.1 (by rintro i _ (e | e); omega; cases e)
        have f2 := Fr.trans (S := fun k => wr.heap.size ≤ k) f1 s2.1 (by rintro i _ (e | e); omega; cases e)
        refine Fr.trans (S := fun _ => False) hst f2 ?_
        intro i hi hh; have := hst.size; omega
      obtain ⟨S1, hS1⟩ : ∃ S1 : ByteArray, S1 = ⟨([] ++ fixB 2 (a % 65536)).toArray⟩ := ⟨_, rfl⟩
      obtain ⟨S2, hS2⟩ : ∃ S2 : ByteArray, S2 = ⟨([] ++ fixB 2 (b % 65536)).toArray⟩ := ⟨_, rfl⟩
      have C1 : Hid (∀ x : Unit, Calls Try.prog 13 #[.pointer (some ⟨wr.heap.size, 0, none⟩)] W4 fun e w' => e = .returned (.string S1) ∧ W4 = w') := fun _ => by rw [hS1]; exact wstring_calls m3
      have C2 : Hid (∀ x : Unit, Calls Try.prog 13 #[.pointer (some ⟨wr.heap.size + 1, 0, none⟩)] W4 fun e w' => e = .returned (.string S2) ∧ W4 = w') := fun _ => by rw [hS2]; exact wstring_calls m2
      rw [List.nil_append] at hS1 hS2
      obtain ⟨t1, t2, T1, T2, T3, T4⟩ := OL S1 S2 hS1 hS2
      clear k1 k2 k3 m1 m2 m3 s1 s2 q0 q1 q2 hS1 hS2 OL sw hst Z0 Z1 Z2 Y0 Y1 Y2 Y3
      go_wp2_with fail
      refine (C1.out ()).mono ?_
      rintro e w' ⟨rfl, rfl⟩
      go_wp2_with fail
      refine (C2.out ()).mono ?_
      rintro e w' ⟨rfl, rfl⟩
      go_wp2_with fail
      refine (C1.out ()).mono ?_
      rintro e w' ⟨rfl, rfl⟩
      go_wp2_with fail
      refine (C2.out ()).mono ?_
      rintro e w' ⟨rfl, rfl⟩
      go_wp2_with fail
      go_roundw
      case rel => exact ⟨2, by omega, rfl, sfin⟩
      case measure => simp [intOf]
    · have OL := order_bits 4 (a % 4294967296) (b % 4294967296) ((a : Int) % 4294967296) ((b : Int) % 4294967296) (by omega) (by omega) (by omega) (by omega)
      have hsz9 := hst.size
      go_wp2_with fail
      refine (new_calls wr).mono ?_
      rintro e W1 ⟨rfl, rfl⟩
      go_wp2_with fail
      refine (new_calls _).mono ?_
      rintro e W2 ⟨rfl, hW2⟩
      have k1 : WrAt W2 wr.heap.size none [] := by rw [hW2]; exact (wr_new wr).same ((Fr.refl _ _).alloc _)
      have k2 : WrAt W2 (wr.heap.size + 1) none [] := by rw [hW2]; have := wr_new (wr.alloc (.cells #[.bool true, .slice none 0 0] 54)); simpa using this
      have sw : Same wr W2 := by rw [hW2]; exact ((Fr.refl _ wr).alloc _).alloc _
      have hz2 : W2.heap.size = wr.heap.size + 2 := by rw [hW2]; simp
      have HZ2 : Hid (W2.heap.size = wr.heap.size + 2) := hz2
      clear hW2 hz2
      have q0 := (sw.cell (World.block_lt_of_cell? _ _ Z2) (fun f => f)).trans Z2
      have q1 := (sw.cell (World.block_lt_of_cell? _ _ Y2) (fun f => f)).trans Y2
      rw [show (wr.alloc (.cells #[.bool true, .slice none 0 0] 54)).heap.size = wr.heap.size + 1 from by simp]
      go_wp2_with fail
      rw [show ((a : Int) % 4294967296) = ((a % 4294967296 : Nat) : Int) from by omega]
      refine (lay_2 (a % 4294967296) (by omega) 0 ⟨#[]⟩ none 0 0 none 0 0 0 0 0 k1 (by simp)).mono ?_
      rintro e W3 ⟨rfl, g1, m1, s1⟩
      have k3 : WrAt W3 (wr.heap.size + 1) none [] := k2.other s1 (by omega) (by simp) (by simp)
      have q2 := (s1.1.cell (World.block_lt_of_cell? _ _ q1) (by rintro (e | e); (simp only at e; omega); cases e)).trans q1
      go_wp2_with fail
      rw [show ((b : Int) % 4294967296) = ((b % 4294967296 : Nat) : Int) from by omega]
      refine (lay_2 (b % 4294967296) (by omega) 0 ⟨#[]⟩ none 0 0 none 0 0 0 0 0 k3 (by simp)).mono ?_
      rintro e W4 ⟨rfl, g2, m2, s2⟩
      have m3 : WrAt W4 wr.heap.size g1 ([] ++ fixB 4 (a % 4294967296)) := m1.other s2 (by omega) (by simp) (fun k hk => ⟨by rcases s1.2 k hk with h' | h'; cases h'; have := HZ2.out; omega, by simp⟩)
      have sfin : Same w2 W4 := by
        have f1 := Fr.trans (S := fun k => wr.heap.size ≤ k) (sw.mono (fun _ _ f => f.elim)) s1.1 (by rintro i _ (e | e); omega; cases e)
        have f2 := Fr.trans (S := fun k => wr.heap.size ≤ k) f1 s2.1 (by rintro i _ (e | e); omega; cases e)
        refine Fr.trans (S := fun _ => False) hst f2 ?_
        intro i hi hh; have := hst.size; omega
      obtain ⟨S1, hS1⟩ : ∃ S1 : ByteArray, S1 = ⟨([] ++ fixB 4 (a % 4294967296)).toArray⟩ := ⟨_, rfl⟩
      obtain ⟨S2, hS2⟩ : ∃ S2 : ByteArray, S2 = ⟨([] ++ fixB 4 (b % 4294967296)).toArray⟩ := ⟨_, rfl⟩
      have C1 : Hid (∀ x : Unit, Calls Try.prog 13 #[.pointer (some ⟨wr.heap.size, 0, none⟩)] W4 fun e w' => e = .returned (.string S1) ∧ W4 = w') := fun _ => by rw [hS1]; exact wstring_calls m3
      have C2 : Hid (∀ x : Unit, Calls Try.prog 13 #[.pointer (some ⟨wr.heap.size + 1, 0, none⟩)] W4 fun e w' => e = .returned (.string S2) ∧ W4 = w') := fun _ => by rw [hS2]; exact wstring_calls m2
      rw [List.nil_append] at hS1 hS2
      obtain ⟨t1, t2, T1, T2, T3, T4⟩ := OL S1 S2 hS1 hS2
      clear k1 k2 k3 m1 m2 m3 s1 s2 q0 q1 q2 hS1 hS2 OL sw hst Z0 Z1 Z2 Y0 Y1 Y2 Y3
      go_wp2_with fail
      refine (C1.out ()).mono ?_
      rintro e w' ⟨rfl, rfl⟩
      go_wp2_with fail
      refine (C2.out ()).mono ?_
      rintro e w' ⟨rfl, rfl⟩
      go_wp2_with fail
      refine (C1.out ()).mono ?_
      rintro e w' ⟨rfl, rfl⟩
      go_wp2_with fail
      refine (C2.out ()).mono ?_
      rintro e w' ⟨rfl, rfl⟩
      go_wp2_with fail
      go_roundw
      case rel => exact ⟨3, by omega, rfl, sfin⟩
      case measure => simp [intOf]
    · have OL := order_bits 8 a b (a : Int) (b : Int) rfl rfl (by omega) (by omega)
      have hsz9 := hst.size
      go_wp2_with fail
      refine (new_calls wr).mono ?_
      rintro e W1 ⟨rfl, rfl⟩
      go_wp2_with fail
      refine (new_calls _).mono ?_
      rintro e W2 ⟨rfl, hW2⟩
      have k1 : WrAt W2 wr.heap.size none [] := by rw [hW2]; exact (wr_new wr).same ((Fr.refl _ _).alloc _)
      have k2 : WrAt W2 (wr.heap.size + 1) none [] := by rw [hW2]; have := wr_new (wr.alloc (.cells #[.bool true, .slice none 0 0] 54)); simpa using this
      have sw : Same wr W2 := by rw [hW2]; exact ((Fr.refl _ wr).alloc _).alloc _
      have hz2 : W2.heap.size = wr.heap.size + 2 := by rw [hW2]; simp
      have HZ2 : Hid (W2.heap.size = wr.heap.size + 2) := hz2
      clear hW2 hz2
      have q0 := (sw.cell (World.block_lt_of_cell? _ _ Z2) (fun f => f)).trans Z2
      have q1 := (sw.cell (World.block_lt_of_cell? _ _ Y3) (fun f => f)).trans Y3
      rw [show (wr.alloc (.cells #[.bool true, .slice none 0 0] 54)).heap.size = wr.heap.size + 1 from by simp]
      go_wp2_with fail
      refine (lay_3 a (by omega) 0 ⟨#[]⟩ none 0 0 none 0 0 0 0 0 k1 (by simp)).mono ?_
      rintro e W3 ⟨rfl, g1, m1, s1⟩
      have k3 : WrAt W3 (wr.heap.size + 1) none [] := k2.other s1 (by omega) (by simp) (by simp)
      have q2 := (s1.1.cell (World.block_lt_of_cell? _ _ q1) (by rintro (e | e); (simp only at e; omega); cases e)).trans q1
      go_wp2_with fail
      refine (lay_3 b (by omega) 0 ⟨#[]⟩ none 0 0 none 0 0 0 0 0 k3 (by simp)).mono ?_
      rintro e W4 ⟨rfl, g2, m2, s2⟩
      have m3 : WrAt W4 wr.heap.size g1 ([] ++ fixB 8 a) := m1.other s2 (by omega) (by simp) (fun k hk => ⟨by rcases s1.2 k hk with h' | h'; cases h'; have := HZ2.out; omega, by simp⟩)
      have sfin : Same w2 W4 := by
        have f1 := Fr.trans (S := fun k => wr.heap.size ≤ k) (sw.mono (fun _ _ f => f.elim)) s1.1 (by rintro i _ (e | e); omega; cases e)
        have f2 := Fr.trans (S := fun k => wr.heap.size ≤ k) f1 s2.1 (by rintro i _ (e | e); omega; cases e)
        refine Fr.trans (S := fun _ => False) hst f2 ?_
        intro i hi hh; have := hst.size; omega
      obtain ⟨S1, hS1⟩ : ∃ S1 : ByteArray, S1 = ⟨([] ++ fixB 8 a).toArray⟩ := ⟨_, rfl⟩
      obtain ⟨S2, hS2⟩ : ∃ S2 : ByteArray, S2 = ⟨([] ++ fixB 8 b).toArray⟩ := ⟨_, rfl⟩
      have C1 : Hid (∀ x : Unit, Calls Try.prog 13 #[.pointer (some ⟨wr.heap.size, 0, none⟩)] W4 fun e w' => e = .returned (.string S1) ∧ W4 = w') := fun _ => by rw [hS1]; exact wstring_calls m3
      have C2 : Hid (∀ x : Unit, Calls Try.prog 13 #[.pointer (some ⟨wr.heap.size + 1, 0, none⟩)] W4 fun e w' => e = .returned (.string S2) ∧ W4 = w') := fun _ => by rw [hS2]; exact wstring_calls m2
      rw [List.nil_append] at hS1 hS2
      obtain ⟨t1, t2, T1, T2, T3, T4⟩ := OL S1 S2 hS1 hS2
      have T5 : decide (a < b) = t1 := by rw [← T3]; simp
      have T6 : (a == b) = t2 := by rw [← T4, Bool.eq_iff_iff]; simp only [beq_iff_eq]; omega
      clear k1 k2 k3 m1 m2 m3 s1 s2 q0 q1 q2 hS1 hS2 OL sw hst Z0 Z1 Z2 Y0 Y1 Y2 Y3
      go_wp2_with fail
      refine (C1.out ()).mono ?_
      rintro e w' ⟨rfl, rfl⟩
      go_wp2_with fail
      refine (C2.out ()).mono ?_
      rintro e w' ⟨rfl, rfl⟩
      go_wp2_with fail
      refine (C1.out ()).mono ?_
      rintro e w' ⟨rfl, rfl⟩
      go_wp2_with fail
      refine (C2.out ()).mono ?_
      rintro e w' ⟨rfl, rfl⟩
      go_wp2_with fail
      go_roundw
      case rel => exact ⟨4, by omega, rfl, sfin⟩
      case measure => simp [intOf]
    · go_wp2_with fail
      refine (lives_calls wr).mono ?_
      rintro e w3 ⟨rfl, st3⟩
      go_wp2_with fail
      go_ret
      exact ⟨rfl, Fr.below (Fr.trans (Fr.trans hs2 hst (fun _ _ f => f)) st3 (fun _ _ f => f)) (Nat.le_refl _) (fun _ f => f.elim)⟩
end Go.Proofs.Ythacjimppdhndab
