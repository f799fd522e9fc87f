/-
  Walks: how a step is laid ('lay'): the kinds of one number, and a text.
-/
import Derived.Test.YtpcdpdagcigigaaW5
namespace Go.Proofs.Ytpcdpdagcigigaa
open Go.RowKit

theorem WrAt.same {w w' : World} {b : Nat} {g : Option Nat} {bs : List UInt8} (h : WrAt w b g bs) (k : Fr (fun _ => False) w w') : WrAt w' b g bs := by
  obtain ⟨ao, c, hblk, hown, hg⟩ := h
  exact ⟨ao, c, by rw [k.block b (lt_of_heap hblk) (fun f => f)]; exact hblk, own_frame hown k (fun _ _ f => f), hg⟩
theorem WrAt.frame {w w' : World} {b : Nat} {g : Option Nat} {bs : List UInt8} {S : Nat → Prop} (h : WrAt w b g bs) (k : Fr S w w') (hb : ¬ S b) (hg : ∀ i, g = some i → ¬ S i) : WrAt w' b g bs := by
  obtain ⟨ao, c, hblk, hown, hgg⟩ := h
  refine ⟨ao, c, by rw [k.block b (lt_of_heap hblk) hb]; exact hblk, own_frame hown k ?_, hgg⟩
  intro i hi
  refine hg i ?_
  rw [hgg, ← hi]; cases ao <;> rfl
theorem WrAt.lt {w : World} {b : Nat} {g : Option Nat} {bs : List UInt8} (h : WrAt w b g bs) : b < w.heap.size ∧ (∀ i, g = some i → i < w.heap.size) := by
  obtain ⟨ao, c, hblk, hown, hgg⟩ := h
  refine ⟨lt_of_heap hblk, fun i hi => own_lt hown ?_⟩
  rw [← hi, hgg]; cases ao <;> rfl
theorem WrStep.same {b : Nat} {g g' : Option Nat} {w w1 w2 : World} (h : Fr (fun _ => False) w w1) (k : WrStep b g g' w1 w2) : WrStep b g g' w w2 :=
  ⟨Fr.trans (h.mono (fun _ _ f => f.elim)) k.1 (fun _ _ t => t), fun i hi => by rcases k.2 i hi with h' | h'; exact Or.inl h'; exact Or.inr (Nat.le_trans h.size h')⟩
theorem WrStep.then_same {b : Nat} {g g' : Option Nat} {w w1 w2 : World} (h : WrStep b g g' w w1) (k : Fr (fun _ => False) w1 w2) : WrStep b g g' w w2 :=
  ⟨Fr.trans h.1 k (fun _ _ f => f.elim), h.2⟩

theorem WrAt.other {w w' : World} {b b' : Nat} {g g' g2 : Option Nat} {bs : List UInt8} (h : WrAt w b g bs) (st : WrStep b' g' g2 w w') (hne : b ≠ b') (h1 : g' ≠ some b) (h2 : ∀ k, g = some k → k ≠ b' ∧ g' ≠ some k) : WrAt w' b g bs := by
  refine h.frame st.1 ?_ ?_
  · rintro (e | e)
    · exact hne e
    · exact h1 e.symm
  · rintro i hi (e | e)
    · exact (h2 i hi).1 e
    · exact (h2 i hi).2 e.symm

theorem fixB_mod (n : Nat) (x y q : Int) (h : x = y + 256 ^ n * q) : fixB n x = fixB n y := by
  induction n generalizing q with
  | zero => rfl
  | succ n ih =>
    rw [fixB, fixB]
    have e : x = y + 256 ^ n * (256 * q) := by rw [h, Int.pow_succ, Int.mul_assoc]
    rw [ih (256 * q) e]
    have hp : (256 : Int) ^ n ≠ 0 := by exact Int.ne_of_gt (Int.pow_pos (by decide))
    have e2 : x / 256 ^ n = y / 256 ^ n + 256 * q := by rw [e, Int.add_mul_ediv_left _ _ hp]
    rw [e2, Int.add_mul_emod_self_left]

abbrev stepV (k : Int) (n : Nat) (i : Int) (s : ByteArray) (pa : Option Addr) (pl pc : Nat) (na : Option Addr) (nl nc : Nat) (wd : Int) (m : Nat) (bd : Int) : Value :=
  .agg #[.int .i64 k, .int .u64 n, .int .i64 i, .string s, .slice pa pl pc, .slice na nl nc, .int .i64 wd, .int .u64 m, .int .i64 bd]

theorem wrap_fix8 (n : Nat) : fixB 1 ((n : Int) % 256) = fixB 1 n := fixB_mod 1 _ _ (-((n : Int) / 256)) (by omega)
theorem wrap_fix16 (n : Nat) : fixB 2 (IntKind.u16.wrap n) = fixB 2 n := fixB_mod 2 _ _ (-((n : Int) / 65536)) (by rw [IntKind.wrap_u16]; omega)
theorem wrap_fix32 (n : Nat) : fixB 4 ((n : Int) % 4294967296) = fixB 4 n := fixB_mod 4 _ _ (-((n : Int) / 4294967296)) (by omega)
theorem wrap_fixi8 (n : Nat) : fixB 1 (IntKind.i8.wrap n) = fixB 1 n := fixB_mod 1 _ _ (-(((n : Int) + 128) / 256)) (by simp [IntKind.wrap, IntKind.bits, IntKind.signed]; omega)
theorem wrap_fixi16 (n : Nat) : fixB 2 (IntKind.i16.wrap n) = fixB 2 n := fixB_mod 2 _ _ (-(((n : Int) + 32768) / 65536)) (by simp [IntKind.wrap, IntKind.bits, IntKind.signed]; omega)
theorem wrap_fixi32 (n : Nat) : fixB 4 (wrap32 n) = fixB 4 n := fixB_mod 4 _ _ (-(((n : Int) + 2147483648) / 4294967296)) (by unfold wrap32; omega)
theorem wrap_fixi64 (n : Nat) : fixB 8 (wrap64 n) = fixB 8 n := fixB_mod 8 _ _ (-(((n : Int) + 9223372036854775808) / 18446744073709551616)) (by unfold wrap64; omega)

set_option maxRecDepth 100000 in
set_option maxHeartbeats 1000000 in
theorem lay_0 {w : World} {b : Nat} {g : Option Nat} {bs : List UInt8} (n : Nat) (_hn : n < 18446744073709551616) (i : Int) (s : ByteArray) (pa : Option Addr) (pl pc : Nat) (na : Option Addr) (nl nc : Nat) (wd : Int) (m : Nat) (bd : Int) (h : WrAt w b g bs) (hl : bs.length ≤ 1000000000000) :
    Calls Try.prog 4 #[.pointer (some ⟨b, 0, none⟩), stepV 0 n i s pa pl pc na nl nc wd m bd] w fun e w' => e = .returned (.tuple #[]) ∧ ∃ g', WrAt w' b g' (bs ++ fixB 1 n) ∧ WrStep b g g' w w' := by
  have sa : Fr (fun _ => False) w (w.alloc (.cells #[.int .i64 0, .int .u64 n, .int .i64 i, .string s, .slice pa pl pc, .slice na nl nc, .int .i64 wd, .int .u64 m, .int .i64 bd] 26)) := (Fr.refl _ w).alloc _
  have h1 := h.same sa
  go_enter Try.func4, Try.ntmps4
  go_wp2_with fail
  refine (put_u8 _ (by omega) (by omega) h1 hl).mono ?_
  rintro e w1 ⟨rfl, g1, h2, st⟩
  go_wp2_with fail
  go_end0
  rw [wrap_fix8] at h2
  exact ⟨rfl, g1, h2, WrStep.same sa st⟩
set_option maxRecDepth 100000 in
set_option maxHeartbeats 1000000 in
theorem lay_3 {w : World} {b : Nat} {g : Option Nat} {bs : List UInt8} (n : Nat) (_hn : n < 18446744073709551616) (i : Int) (s : ByteArray) (pa : Option Addr) (pl pc : Nat) (na : Option Addr) (nl nc : Nat) (wd : Int) (m : Nat) (bd : Int) (h : WrAt w b g bs) (hl : bs.length ≤ 1000000000000) :
    Calls Try.prog 4 #[.pointer (some ⟨b, 0, none⟩), stepV 3 n i s pa pl pc na nl nc wd m bd] w fun e w' => e = .returned (.tuple #[]) ∧ ∃ g', WrAt w' b g' (bs ++ fixB 8 n) ∧ WrStep b g g' w w' := by
  have sa : Fr (fun _ => False) w (w.alloc (.cells #[.int .i64 3, .int .u64 n, .int .i64 i, .string s, .slice pa pl pc, .slice na nl nc, .int .i64 wd, .int .u64 m, .int .i64 bd] 26)) := (Fr.refl _ w).alloc _
  have h1 := h.same sa
  go_enter Try.func4, Try.ntmps4
  go_wp2_with fail
  refine (put_u64 _ h1 hl).mono ?_
  rintro e w1 ⟨rfl, g1, h2, st⟩
  go_wp2_with fail
  go_end0
  exact ⟨rfl, g1, h2, WrStep.same sa st⟩
set_option maxRecDepth 100000 in
set_option maxHeartbeats 1000000 in
theorem lay_1 {w : World} {b : Nat} {g : Option Nat} {bs : List UInt8} (n : Nat) (_hn : n < 18446744073709551616) (i : Int) (s : ByteArray) (pa : Option Addr) (pl pc : Nat) (na : Option Addr) (nl nc : Nat) (wd : Int) (m : Nat) (bd : Int) (h : WrAt w b g bs) (hl : bs.length ≤ 1000000000000) :
    Calls Try.prog 4 #[.pointer (some ⟨b, 0, none⟩), stepV 1 n i s pa pl pc na nl nc wd m bd] w fun e w' => e = .returned (.tuple #[]) ∧ ∃ g', WrAt w' b g' (bs ++ fixB 2 n) ∧ WrStep b g g' w w' := by
  have sa : Fr (fun _ => False) w (w.alloc (.cells #[.int .i64 1, .int .u64 n, .int .i64 i, .string s, .slice pa pl pc, .slice na nl nc, .int .i64 wd, .int .u64 m, .int .i64 bd] 26)) := (Fr.refl _ w).alloc _
  have h1 := h.same sa
  go_enter Try.func4, Try.ntmps4
  go_wp2_with fail
  refine (put_u16 _ h1 hl).mono ?_
  rintro e w1 ⟨rfl, g1, h2, st⟩
  go_wp2_with fail
  go_end0
  rw [wrap_fix16] at h2
  exact ⟨rfl, g1, h2, WrStep.same sa st⟩
set_option maxRecDepth 100000 in
set_option maxHeartbeats 1000000 in
theorem lay_2 {w : World} {b : Nat} {g : Option Nat} {bs : List UInt8} (n : Nat) (_hn : n < 18446744073709551616) (i : Int) (s : ByteArray) (pa : Option Addr) (pl pc : Nat) (na : Option Addr) (nl nc : Nat) (wd : Int) (m : Nat) (bd : Int) (h : WrAt w b g bs) (hl : bs.length ≤ 1000000000000) :
    Calls Try.prog 4 #[.pointer (some ⟨b, 0, none⟩), stepV 2 n i s pa pl pc na nl nc wd m bd] w fun e w' => e = .returned (.tuple #[]) ∧ ∃ g', WrAt w' b g' (bs ++ fixB 4 n) ∧ WrStep b g g' w w' := by
  have sa : Fr (fun _ => False) w (w.alloc (.cells #[.int .i64 2, .int .u64 n, .int .i64 i, .string s, .slice pa pl pc, .slice na nl nc, .int .i64 wd, .int .u64 m, .int .i64 bd] 26)) := (Fr.refl _ w).alloc _
  have h1 := h.same sa
  go_enter Try.func4, Try.ntmps4
  go_wp2_with fail
  refine (put_u32 _ h1 hl).mono ?_
  rintro e w1 ⟨rfl, g1, h2, st⟩
  go_wp2_with fail
  go_end0
  rw [wrap_fix32] at h2
  exact ⟨rfl, g1, h2, WrStep.same sa st⟩
set_option maxRecDepth 100000 in
set_option maxHeartbeats 1000000 in
theorem lay_4 {w : World} {b : Nat} {g : Option Nat} {bs : List UInt8} (n : Nat) (_hn : n < 18446744073709551616) (i : Int) (s : ByteArray) (pa : Option Addr) (pl pc : Nat) (na : Option Addr) (nl nc : Nat) (wd : Int) (m : Nat) (bd : Int) (h : WrAt w b g bs) (hl : bs.length ≤ 1000000000000) :
    Calls Try.prog 4 #[.pointer (some ⟨b, 0, none⟩), stepV 4 n i s pa pl pc na nl nc wd m bd] w fun e w' => e = .returned (.tuple #[]) ∧ ∃ g', WrAt w' b g' (bs ++ fixB 1 n) ∧ WrStep b g g' w w' := by
  have sa : Fr (fun _ => False) w (w.alloc (.cells #[.int .i64 4, .int .u64 n, .int .i64 i, .string s, .slice pa pl pc, .slice na nl nc, .int .i64 wd, .int .u64 m, .int .i64 bd] 26)) := (Fr.refl _ w).alloc _
  have h1 := h.same sa
  go_enter Try.func4, Try.ntmps4
  go_wp2_with fail
  refine (put_i8 _ h1 hl).mono ?_
  rintro e w1 ⟨rfl, g1, h2, st⟩
  go_wp2_with fail
  go_end0
  rw [wrap_fixi8] at h2
  exact ⟨rfl, g1, h2, WrStep.same sa st⟩
set_option maxRecDepth 100000 in
set_option maxHeartbeats 1000000 in
theorem lay_5 {w : World} {b : Nat} {g : Option Nat} {bs : List UInt8} (n : Nat) (_hn : n < 18446744073709551616) (i : Int) (s : ByteArray) (pa : Option Addr) (pl pc : Nat) (na : Option Addr) (nl nc : Nat) (wd : Int) (m : Nat) (bd : Int) (h : WrAt w b g bs) (hl : bs.length ≤ 1000000000000) :
    Calls Try.prog 4 #[.pointer (some ⟨b, 0, none⟩), stepV 5 n i s pa pl pc na nl nc wd m bd] w fun e w' => e = .returned (.tuple #[]) ∧ ∃ g', WrAt w' b g' (bs ++ fixB 2 n) ∧ WrStep b g g' w w' := by
  have sa : Fr (fun _ => False) w (w.alloc (.cells #[.int .i64 5, .int .u64 n, .int .i64 i, .string s, .slice pa pl pc, .slice na nl nc, .int .i64 wd, .int .u64 m, .int .i64 bd] 26)) := (Fr.refl _ w).alloc _
  have h1 := h.same sa
  go_enter Try.func4, Try.ntmps4
  go_wp2_with fail
  refine (put_i16 _ h1 hl).mono ?_
  rintro e w1 ⟨rfl, g1, h2, st⟩
  go_wp2_with fail
  go_end0
  rw [wrap_fixi16] at h2
  exact ⟨rfl, g1, h2, WrStep.same sa st⟩
set_option maxRecDepth 100000 in
set_option maxHeartbeats 1000000 in
theorem lay_6 {w : World} {b : Nat} {g : Option Nat} {bs : List UInt8} (n : Nat) (_hn : n < 18446744073709551616) (i : Int) (s : ByteArray) (pa : Option Addr) (pl pc : Nat) (na : Option Addr) (nl nc : Nat) (wd : Int) (m : Nat) (bd : Int) (h : WrAt w b g bs) (hl : bs.length ≤ 1000000000000) :
    Calls Try.prog 4 #[.pointer (some ⟨b, 0, none⟩), stepV 6 n i s pa pl pc na nl nc wd m bd] w fun e w' => e = .returned (.tuple #[]) ∧ ∃ g', WrAt w' b g' (bs ++ fixB 4 n) ∧ WrStep b g g' w w' := by
  have sa : Fr (fun _ => False) w (w.alloc (.cells #[.int .i64 6, .int .u64 n, .int .i64 i, .string s, .slice pa pl pc, .slice na nl nc, .int .i64 wd, .int .u64 m, .int .i64 bd] 26)) := (Fr.refl _ w).alloc _
  have h1 := h.same sa
  go_enter Try.func4, Try.ntmps4
  go_wp2_with fail
  refine (put_i32 _ h1 hl).mono ?_
  rintro e w1 ⟨rfl, g1, h2, st⟩
  go_wp2_with fail
  go_end0
  rw [wrap_fixi32] at h2
  exact ⟨rfl, g1, h2, WrStep.same sa st⟩
set_option maxRecDepth 100000 in
set_option maxHeartbeats 1000000 in
theorem lay_7 {w : World} {b : Nat} {g : Option Nat} {bs : List UInt8} (n : Nat) (_hn : n < 18446744073709551616) (i : Int) (s : ByteArray) (pa : Option Addr) (pl pc : Nat) (na : Option Addr) (nl nc : Nat) (wd : Int) (m : Nat) (bd : Int) (h : WrAt w b g bs) (hl : bs.length ≤ 1000000000000) :
    Calls Try.prog 4 #[.pointer (some ⟨b, 0, none⟩), stepV 7 n i s pa pl pc na nl nc wd m bd] w fun e w' => e = .returned (.tuple #[]) ∧ ∃ g', WrAt w' b g' (bs ++ fixB 8 n) ∧ WrStep b g g' w w' := by
  have sa : Fr (fun _ => False) w (w.alloc (.cells #[.int .i64 7, .int .u64 n, .int .i64 i, .string s, .slice pa pl pc, .slice na nl nc, .int .i64 wd, .int .u64 m, .int .i64 bd] 26)) := (Fr.refl _ w).alloc _
  have h1 := h.same sa
  go_enter Try.func4, Try.ntmps4
  go_wp2_with fail
  refine (put_i64 _ h1 hl).mono ?_
  rintro e w1 ⟨rfl, g1, h2, st⟩
  go_wp2_with fail
  go_end0
  rw [wrap_fixi64] at h2
  exact ⟨rfl, g1, h2, WrStep.same sa st⟩
set_option maxRecDepth 100000 in
set_option maxHeartbeats 1000000 in
theorem lay_8 {w : World} {b : Nat} {g : Option Nat} {bs : List UInt8} (n : Nat) (_hn : n < 18446744073709551616) (i : Int) (s : ByteArray) (pa : Option Addr) (pl pc : Nat) (na : Option Addr) (nl nc : Nat) (wd : Int) (m : Nat) (bd : Int) (h : WrAt w b g bs) (hl : bs.length ≤ 1000000000000) :
    Calls Try.prog 4 #[.pointer (some ⟨b, 0, none⟩), stepV 8 n i s pa pl pc na nl nc wd m bd] w fun e w' => e = .returned (.tuple #[]) ∧ ∃ g', WrAt w' b g' (bs ++ fixB 2 n) ∧ WrStep b g g' w w' := by
  have sa : Fr (fun _ => False) w (w.alloc (.cells #[.int .i64 8, .int .u64 n, .int .i64 i, .string s, .slice pa pl pc, .slice na nl nc, .int .i64 wd, .int .u64 m, .int .i64 bd] 26)) := (Fr.refl _ w).alloc _
  have h1 := h.same sa
  go_enter Try.func4, Try.ntmps4
  go_wp2_with fail
  refine (put_shade _ h1 hl).mono ?_
  rintro e w1 ⟨rfl, g1, h2, st⟩
  go_wp2_with fail
  go_end0
  rw [wrap_fix16] at h2
  exact ⟨rfl, g1, h2, WrStep.same sa st⟩
end Go.Proofs.Ytpcdpdagcigigaa
