/- Check: the program's and the document's. -/
import Derived.Test.YtajpgopgohadeaaDoorGM
import Derived.Handy
import Derived.Deep.RegionHeld3
namespace Go.Proofs.YtajpgopgohadeaaDoor
open Go.RowKit

abbrev frameV (p q : Int) : Value := .agg #[.int .i64 p, .int .i64 q]
abbrev pageV (kd no vs : Nat) (body : ByteArray) : Value := .agg #[.int .u8 kd, .int .u32 no, .int .u64 vs, .string body]
/-- Why a page may not be in a frame: 0 if it may. -/
def chkE (p q : Int) (kd no vs n : Nat) : Int :=
  if frameP p q = false then 2 else if kd < 1 ∨ 3 < kd then 50 else if no < 2 ∨ 2147483648 ≤ no ∨ vs < 1 ∨ 1099511627776 < vs then 2 else if p - 32 < (n : Int) then 4 else 0
theorem frame_lo {p q : Int} (h : frameP p q = true) : 1024 ≤ p ∧ p ≤ 8192 := by
  simp only [frameP, Bool.and_eq_true, Bool.or_eq_true, beq_iff_eq, decide_eq_true_eq] at h
  omega

set_option maxRecDepth 100000 in
theorem numbered_calls (no : Nat) (w : World) : Calls Tryd.prog 17 #[.int .u32 no] w fun e w' => e = .returned (.bool (decide (2 ≤ no ∧ no < 2147483648))) ∧ w = w' := by
  have hc : (no < 2 ∧ decide (2 ≤ no ∧ no < 2147483648) = false) ∨ (¬ no < 2 ∧ 2147483648 ≤ no ∧ decide (2 ≤ no ∧ no < 2147483648) = false) ∨ (¬ no < 2 ∧ ¬ 2147483648 ≤ no ∧ decide (2 ≤ no ∧ no < 2147483648) = true) := by
    simp only [decide_eq_true_eq, decide_eq_false_iff_not]; omega
  generalize decide (2 ≤ no ∧ no < 2147483648) = E at *
  rcases hc with ⟨h1, rfl⟩ | ⟨h1, h2, rfl⟩ | ⟨h1, h2, rfl⟩
  · have g1 : ¬ (2 : Int) ≤ (no : Int) := by omega
    go_enter Tryd.func17, Tryd.ntmps17
    go_wp2_with fail
    go_ret
    exact ⟨rfl, rfl⟩
  · have g1 : (2 : Int) ≤ (no : Int) := by omega
    have g2 : ¬ (no : Int) < 2147483648 := by omega
    clear h1 h2
    go_enter Tryd.func17, Tryd.ntmps17
    go_wp2_with fail
    go_ret
    exact ⟨rfl, rfl⟩
  · have g1 : (2 : Int) ≤ (no : Int) := by omega
    have g2 : (no : Int) < 2147483648 := by omega
    clear h1 h2
    go_enter Tryd.func17, Tryd.ntmps17
    go_wp2_with fail
    go_ret
    exact ⟨rfl, rfl⟩
set_option maxRecDepth 100000 in
theorem room_calls {p q : Int} (hp : 1024 ≤ p ∧ p ≤ 8192) (w : World) : Calls Tryd.prog 24 #[frameV p q] w fun e w' => e = .returned (.int .i64 (p - 32)) ∧ Same w w' := by
  have hw : IntKind.i64.wrap (p - 32) = p - 32 := by rw [IntKind.wrap_i64]; omega
  go_enter Tryd.func24, Tryd.ntmps24
  go_wp2
  go_ret
  exact ⟨rfl, (Fr.refl _ _).alloc _⟩

theorem chk_cases {p q : Int} (hf : frameP p q = true) (kd no vs : Nat) (b : ByteArray) : (kd < 1 ∧ chkE p q kd no vs b.size = 50) ∨ (¬ kd < 1 ∧ 3 < kd ∧ chkE p q kd no vs b.size = 50) ∨ (¬ kd < 1 ∧ ¬ 3 < kd ∧ decide (2 ≤ no ∧ no < 2147483648) = false ∧ chkE p q kd no vs b.size = 2) ∨ (¬ kd < 1 ∧ ¬ 3 < kd ∧ decide (2 ≤ no ∧ no < 2147483648) = true ∧ vs < 1 ∧ chkE p q kd no vs b.size = 2) ∨ (¬ kd < 1 ∧ ¬ 3 < kd ∧ decide (2 ≤ no ∧ no < 2147483648) = true ∧ ¬ vs < 1 ∧ 1099511627776 < vs ∧ chkE p q kd no vs b.size = 2) ∨ (¬ kd < 1 ∧ ¬ 3 < kd ∧ decide (2 ≤ no ∧ no < 2147483648) = true ∧ ¬ vs < 1 ∧ ¬ 1099511627776 < vs ∧ p - 32 < (b.size : Int) ∧ chkE p q kd no vs b.size = 4) ∨ (¬ kd < 1 ∧ ¬ 3 < kd ∧ decide (2 ≤ no ∧ no < 2147483648) = true ∧ ¬ vs < 1 ∧ ¬ 1099511627776 < vs ∧ ¬ p - 32 < (b.size : Int) ∧ chkE p q kd no vs b.size = 0) := by
  simp only [chkE, hf, decide_eq_true_eq, decide_eq_false_iff_not]
  simp only [Bool.true_eq_false, if_false]
  split <;> (try split) <;> (try split) <;> omega

set_option maxRecDepth 100000 in
set_option maxHeartbeats 1000000 in
theorem check_calls (p q : Int) (kd no vs : Nat) (b : ByteArray) (w : World) :
    Calls Tryd.prog 21 #[frameV p q, pageV kd no vs b] w fun e w' => e = .returned (.int .i64 (chkE p q kd no vs b.size)) ∧ Same w w' := by
  by_cases hf : frameP p q = true
  · have hp := frame_lo hf
    have sx : Same w ((w.alloc (.cells #[.int .i64 p, .int .i64 q] 23)).alloc (.cells #[.int .u8 kd, .int .u32 no, .int .u64 vs, .string b] 41)) := ((Fr.refl _ w).alloc _).alloc _
    have c0 : ((w.alloc (.cells #[.int .i64 p, .int .i64 q] 23)).alloc (.cells #[.int .u8 kd, .int .u32 no, .int .u64 vs, .string b] 41)).cell? ⟨w.heap.size, 0, none⟩ = some (.int .i64 p) := by simp
    have c1 : ((w.alloc (.cells #[.int .i64 p, .int .i64 q] 23)).alloc (.cells #[.int .u8 kd, .int .u32 no, .int .u64 vs, .string b] 41)).cell? ⟨w.heap.size, 1, none⟩ = some (.int .i64 q) := by simp
    have d0 : ((w.alloc (.cells #[.int .i64 p, .int .i64 q] 23)).alloc (.cells #[.int .u8 kd, .int .u32 no, .int .u64 vs, .string b] 41)).cell? ⟨w.heap.size + 1, 0, none⟩ = some (.int .u8 kd) := by simp
    have d1 : ((w.alloc (.cells #[.int .i64 p, .int .i64 q] 23)).alloc (.cells #[.int .u8 kd, .int .u32 no, .int .u64 vs, .string b] 41)).cell? ⟨w.heap.size + 1, 1, none⟩ = some (.int .u32 no) := by simp
    have d2 : ((w.alloc (.cells #[.int .i64 p, .int .i64 q] 23)).alloc (.cells #[.int .u8 kd, .int .u32 no, .int .u64 vs, .string b] 41)).cell? ⟨w.heap.size + 1, 2, none⟩ = some (.int .u64 vs) := by simp
    have d3 : ((w.alloc (.cells #[.int .i64 p, .int .i64 q] 23)).alloc (.cells #[.int .u8 kd, .int .u32 no, .int .u64 vs, .string b] 41)).cell? ⟨w.heap.size + 1, 3, none⟩ = some (.string b) := by simp
    have hc := chk_cases hf kd no vs b
    obtain ⟨E, hE⟩ : ∃ E, E = chkE p q kd no vs b.size := ⟨_, rfl⟩
    rw [← hE] at hc ⊢
    clear hE
    go_enter Tryd.func21, Tryd.ntmps21
    go_wp2_with fail
    generalize ((w.alloc (.cells #[.int .i64 p, .int .i64 q] 23)).alloc (.cells #[.int .u8 kd, .int .u32 no, .int .u64 vs, .string b] 41)) = V at *
    refine (may_calls p q _).mono ?_
    rintro e W1 ⟨rfl, s1⟩
    rw [hf]
    have k0 := s1.keep c0
    have k1 := s1.keep c1
    have e0 := s1.keep d0
    have e1 := s1.keep d1
    have e2 := s1.keep d2
    have e3 := s1.keep d3
    have t1 : Same w W1 := sx.trans s1
    have HR := room_calls (q := q) hp
    clear c0 c1 d0 d1 d2 d3 sx s1
    have HN := numbered_calls no
    rcases hc with ⟨h1, rfl⟩ | ⟨h1, h2, rfl⟩ | ⟨h1, h2, h3, rfl⟩ | ⟨h1, h2, h3, h4, rfl⟩ | ⟨h1, h2, h3, h4, h5, rfl⟩ | ⟨h1, h2, h3, h4, h5, h6, rfl⟩ | ⟨h1, h2, h3, h4, h5, h6, rfl⟩
    · have g1 : (kd : Int) < 1 := by omega
      go_wp2_with fail
      go_ret
      exact ⟨rfl, t1⟩
    · have g1 : ¬ (kd : Int) < 1 := by omega
      have g2 : (3 : Int) < (kd : Int) := by omega
      go_wp2_with fail
      go_ret
      exact ⟨rfl, t1⟩
    · have g1 : ¬ (kd : Int) < 1 := by omega
      have g2 : ¬ (3 : Int) < (kd : Int) := by omega
      rw [h3] at HN
      go_wp2_with fail
      refine (HN _).mono ?_
      rintro e W2 ⟨rfl, rfl⟩
      go_wp2_with fail
      go_ret
      exact ⟨rfl, t1⟩
    · have g1 : ¬ (kd : Int) < 1 := by omega
      have g2 : ¬ (3 : Int) < (kd : Int) := by omega
      have g4 : (vs : Int) < 1 := by omega
      rw [h3] at HN
      go_wp2_with fail
      refine (HN _).mono ?_
      rintro e W2 ⟨rfl, rfl⟩
      go_wp2_with fail
      go_ret
      exact ⟨rfl, t1⟩
    · have g1 : ¬ (kd : Int) < 1 := by omega
      have g2 : ¬ (3 : Int) < (kd : Int) := by omega
      have g4 : ¬ (vs : Int) < 1 := by omega
      have g5 : (1099511627776 : Int) < (vs : Int) := by omega
      rw [h3] at HN
      go_wp2_with fail
      refine (HN _).mono ?_
      rintro e W2 ⟨rfl, rfl⟩
      go_wp2_with fail
      go_ret
      exact ⟨rfl, t1⟩
    all_goals
      have g1 : ¬ (kd : Int) < 1 := by omega
      have g2 : ¬ (3 : Int) < (kd : Int) := by omega
      have g4 : ¬ (vs : Int) < 1 := by omega
      have g5 : ¬ (1099511627776 : Int) < (vs : Int) := by omega
      rw [h3] at HN
      go_wp2_with fail
      refine (HN _).mono ?_
      rintro e W2 ⟨rfl, rfl⟩
      go_wp2_with fail
      go_region_held3 (fun w' => w'.cell? ⟨w.heap.size + 1, 3, none⟩ = some (.string b) ∧ w'.cell? ⟨w.heap.size, 0, none⟩ = some (.int .i64 p) ∧ w'.cell? ⟨w.heap.size, 1, none⟩ = some (.int .i64 q)) (first | go_keep | exact ⟨i0, i1, i2⟩)
        (first | (go_at_call 24; refine (HR _).mono ?_; rintro e W3 ⟨rfl, s2⟩; have i0 := Same.keep (w := W1.drew) s2 (a := ⟨w.heap.size + 1, 3, none⟩) e3; have i1 := Same.keep (w := W1.drew) s2 (a := ⟨w.heap.size, 0, none⟩) k0; have i2 := Same.keep (w := W1.drew) s2 (a := ⟨w.heap.size, 1, none⟩) k1))
      go_wp2_with fail
      go_ret
      exact ⟨rfl, Same.trans (Fr.drew t1) s2⟩
  · have hf' : frameP p q = false := by simpa using hf
    go_enter Tryd.func21, Tryd.ntmps21
    go_wp2_with fail
    refine (may_calls p q _).mono ?_
    rintro e W1 ⟨rfl, s1⟩
    rw [hf']
    go_wp2_with fail
    go_ret
    exact ⟨by simp [chkE, hf'], Same.trans (((Fr.refl _ w).alloc _).alloc _) s1⟩

set_option maxRecDepth 100000 in
set_option maxHeartbeats 1000000 in
theorem rcheck_calls (p q : Int) (kd no vs : Nat) (b : ByteArray) (w : World) :
    Calls Tryd.prog 75 #[frameV p q, pageV kd no vs b] w fun e w' => e = .returned (.int .i64 (chkE p q kd no vs b.size)) ∧ Same w w' := by
  obtain ⟨K, hK⟩ : ∃ K : Int, K = (kd : Int) := ⟨_, rfl⟩
  obtain ⟨N, hN⟩ : ∃ N : Int, N = (no : Int) := ⟨_, rfl⟩
  obtain ⟨V9, hV9⟩ : ∃ V : Int, V = (vs : Int) := ⟨_, rfl⟩
  unfold pageV
  rw [← hK, ← hN, ← hV9]
  have HK : Hid (K = (kd : Int) ∧ N = (no : Int) ∧ V9 = (vs : Int)) := ⟨hK, hN, hV9⟩
  clear hK hN hV9
  by_cases hf : frameP p q = true
  · have hp := frame_lo hf
    have sx : Same w ((w.alloc (.cells #[.int .i64 p, .int .i64 q] 23)).alloc (.cells #[.int .u8 K, .int .u32 N, .int .u64 V9, .string b] 41)) := ((Fr.refl _ w).alloc _).alloc _
    have c0 : ((w.alloc (.cells #[.int .i64 p, .int .i64 q] 23)).alloc (.cells #[.int .u8 K, .int .u32 N, .int .u64 V9, .string b] 41)).cell? ⟨w.heap.size, 0, none⟩ = some (.int .i64 p) := by simp
    have c1 : ((w.alloc (.cells #[.int .i64 p, .int .i64 q] 23)).alloc (.cells #[.int .u8 K, .int .u32 N, .int .u64 V9, .string b] 41)).cell? ⟨w.heap.size, 1, none⟩ = some (.int .i64 q) := by simp
    have d0 : ((w.alloc (.cells #[.int .i64 p, .int .i64 q] 23)).alloc (.cells #[.int .u8 K, .int .u32 N, .int .u64 V9, .string b] 41)).cell? ⟨w.heap.size + 1, 0, none⟩ = some (.int .u8 K) := by simp
    have d1 : ((w.alloc (.cells #[.int .i64 p, .int .i64 q] 23)).alloc (.cells #[.int .u8 K, .int .u32 N, .int .u64 V9, .string b] 41)).cell? ⟨w.heap.size + 1, 1, none⟩ = some (.int .u32 N) := by simp
    have d2 : ((w.alloc (.cells #[.int .i64 p, .int .i64 q] 23)).alloc (.cells #[.int .u8 K, .int .u32 N, .int .u64 V9, .string b] 41)).cell? ⟨w.heap.size + 1, 2, none⟩ = some (.int .u64 V9) := by simp
    have d3 : ((w.alloc (.cells #[.int .i64 p, .int .i64 q] 23)).alloc (.cells #[.int .u8 K, .int .u32 N, .int .u64 V9, .string b] 41)).cell? ⟨w.heap.size + 1, 3, none⟩ = some (.string b) := by simp
    have hc := chk_cases hf kd no vs b
    obtain ⟨E, hE⟩ : ∃ E, E = chkE p q kd no vs b.size := ⟨_, rfl⟩
    rw [← hE] at hc ⊢
    clear hE
    go_enter Tryd.func75, Tryd.ntmps75
    go_wp2_with fail
    generalize ((w.alloc (.cells #[.int .i64 p, .int .i64 q] 23)).alloc (.cells #[.int .u8 K, .int .u32 N, .int .u64 V9, .string b] 41)) = V at *
    refine (rmay_calls p q _).mono ?_
    rintro e W1 ⟨rfl, s1⟩
    rw [hf]
    have k0 := s1.keep c0
    have k1 := s1.keep c1
    have e0 := s1.keep d0
    have e1 := s1.keep d1
    have e2 := s1.keep d2
    have e3 := s1.keep d3
    have t1 : Same w W1 := sx.trans s1
    have hw : IntKind.i64.wrap (p - 32) = p - 32 := by rw [IntKind.wrap_i64]; omega
    clear c0 c1 d0 d1 d2 d3 sx s1
    rcases hc with ⟨h1, rfl⟩ | ⟨h1, h2, rfl⟩ | ⟨h1, h2, h3, rfl⟩ | ⟨h1, h2, h3, h4, rfl⟩ | ⟨h1, h2, h3, h4, h5, rfl⟩ | ⟨h1, h2, h3, h4, h5, h6, rfl⟩ | ⟨h1, h2, h3, h4, h5, h6, rfl⟩
    · have g1 : K < 1 := by have := HK.out; omega
      go_wp2_with fail
      go_ret
      exact ⟨rfl, t1⟩
    · have g1 : ¬ K < 1 := by have := HK.out; omega
      have g2 : (3 : Int) < K := by have := HK.out; omega
      go_wp2_with fail
      go_ret
      exact ⟨rfl, t1⟩
    · have g1 : ¬ K < 1 := by have := HK.out; omega
      have g2 : ¬ (3 : Int) < K := by have := HK.out; omega
      rw [decide_eq_false_iff_not] at h3
      by_cases hn : no < 2
      · have g3 : N < 2 := by have := HK.out; omega
        go_wp2_with fail
        go_ret
        exact ⟨rfl, t1⟩
      · have g3 : ¬ N < 2 := by have := HK.out; omega
        have g6 : (2147483648 : Int) ≤ N := by have := HK.out; omega
        go_wp2_with fail
        go_ret
        exact ⟨rfl, t1⟩
    all_goals
      have g1 : ¬ K < 1 := by have := HK.out; omega
      have g2 : ¬ (3 : Int) < K := by have := HK.out; omega
      rw [decide_eq_true_eq] at h3
      have g3 : ¬ N < 2 := by have := HK.out; omega
      have g6 : N < 2147483648 := by have := HK.out; omega
      clear h3 h1 h2
    · have g4 : V9 < 1 := by have := HK.out; omega
      clear h4
      go_wp2_with fail
      go_ret
      exact ⟨rfl, t1⟩
    · have g4 : ¬ V9 < 1 := by have := HK.out; omega
      have g5 : (1099511627776 : Int) < V9 := by have := HK.out; omega
      go_wp2_with fail
      go_ret
      exact ⟨rfl, t1⟩
    all_goals
      have g4 : ¬ V9 < 1 := by have := HK.out; omega
      have g5 : ¬ (1099511627776 : Int) < V9 := by have := HK.out; omega
      go_wp2_with fail
      go_ret
      exact ⟨rfl, t1⟩
  · have hf' : frameP p q = false := by simpa using hf
    go_enter Tryd.func75, Tryd.ntmps75
    go_wp2_with fail
    refine (rmay_calls p q _).mono ?_
    rintro e W1 ⟨rfl, s1⟩
    rw [hf']
    go_wp2_with fail
    go_ret
    exact ⟨by simp [chkE, hf'], Same.trans (((Fr.refl _ w).alloc _).alloc _) s1⟩
end Go.Proofs.YtajpgopgohadeaaDoor
