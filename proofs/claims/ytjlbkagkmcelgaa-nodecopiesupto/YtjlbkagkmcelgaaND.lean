/- size, Size, Pack, Plain. -/
import Derived.Test.YtjlbkagkmcelgaaNB
namespace Go.Proofs.Ytjlbkagkmcelgaa
open Go.RowKit

set_option maxRecDepth 100000 in
set_option maxHeartbeats 1000000 in
theorem size_core {p q : Int} {pa sa ka : Option Addr} {np cp ns cs nk ck : Nat} {S : ByteArray} (w : World)
    (HPF : Hid (∀ W, Same w W → Calls Try.prog 26 #[] W fun e w' => e = .returned (pageV) ∧ Same W w'))
    (HB : Hid (∀ W, Same w W → Calls Try.prog 27 #[pageV, frameV p q, nodeV pa np cp sa ns cs ka nk ck] W fun e w' => e = .returned (.string S) ∧ Same W w')) :
    Calls Try.prog 32 #[frameV p q, nodeV pa np cp sa ns cs ka nk ck] w fun e w' => e = .returned (.int .i64 S.size) ∧ Same w w' := by
  obtain ⟨V, hV⟩ : ∃ V, V = ((w.alloc (.cells #[.int .i64 p, .int .i64 q] 48)).alloc (.cells #[.slice pa np cp, .slice sa ns cs, .slice ka nk ck] 26)) := ⟨_, rfl⟩
  have sx : Same w V := by rw [hV]; exact ((Fr.refl _ w).alloc _).alloc _
  have c0 : V.cell? ⟨w.heap.size, 0, none⟩ = some (.int .i64 p) := by rw [hV]; simp
  have c1 : V.cell? ⟨w.heap.size, 1, none⟩ = some (.int .i64 q) := by rw [hV]; simp
  have n0 : V.cell? ⟨w.heap.size + 1, 0, none⟩ = some (.slice pa np cp) := by rw [hV]; simp
  have n1 : V.cell? ⟨w.heap.size + 1, 1, none⟩ = some (.slice sa ns cs) := by rw [hV]; simp
  have n2 : V.cell? ⟨w.heap.size + 1, 2, none⟩ = some (.slice ka nk ck) := by rw [hV]; simp
  go_enter Try.func32, Try.ntmps32
  go_wp2_with fail
  rw [← hV]
  clear hV
  have d0 : Same V V.drew := Fr.drew (Fr.refl _ V)
  go_region_held3 (fun W => W.cell? ⟨w.heap.size, 0, none⟩ = some (.int .i64 p) ∧ W.cell? ⟨w.heap.size, 1, none⟩ = some (.int .i64 q) ∧ W.cell? ⟨w.heap.size + 1, 0, none⟩ = some (.slice pa np cp) ∧ W.cell? ⟨w.heap.size + 1, 1, none⟩ = some (.slice sa ns cs) ∧ W.cell? ⟨w.heap.size + 1, 2, none⟩ = some (.slice ka nk ck)) (first | exact ⟨t2.keep c0, t2.keep c1, t2.keep n0, t2.keep n1, t2.keep n2⟩ | exact ⟨t1.keep c0, t1.keep c1, t1.keep n0, t1.keep n1, t1.keep n2⟩ | exact ⟨c0, c1, n0, n1, n2⟩)
    (first | (have hh := t1; go_at_call 27; refine (HB.out _ (sx.trans t1)).mono ?_; rintro e Z1 ⟨rfl, hs⟩; have t2 := Same.trans t1 hs; clear hs) | (go_at_call 26; refine (HPF.out _ (sx.trans d0)).mono ?_; rintro e Z0 ⟨rfl, hs⟩; have t1 := Same.trans d0 hs; clear hs))
  go_wp2_with fail
  go_ret
  exact ⟨rfl, sx.trans t2⟩

set_option maxRecDepth 100000 in
set_option maxHeartbeats 1000000 in
theorem bigSize_core {p q : Int} {pa sa ka : Option Addr} {np cp ns cs nk ck : Nat} {E : Int} {n : Nat} (w : World)
    (HC : Hid (∀ W, Same w W → Calls Try.prog 25 #[frameV p q, nodeV pa np cp sa ns cs ka nk ck] W fun e w' => e = .returned (.int .i64 E) ∧ Same W w'))
    (HS : E = 0 → ∀ W, Same w W → Calls Try.prog 32 #[frameV p q, nodeV pa np cp sa ns cs ka nk ck] W fun e w' => e = .returned (.int .i64 n) ∧ Same W w') :
    Calls Try.prog 24 #[frameV p q, nodeV pa np cp sa ns cs ka nk ck] w fun e w' => e = .returned (.int .i64 (if E = 0 then (n : Int) else 0)) ∧ Same w w' := by
  obtain ⟨V, hV⟩ : ∃ V, V = ((w.alloc (.cells #[.int .i64 p, .int .i64 q] 48)).alloc (.cells #[.slice pa np cp, .slice sa ns cs, .slice ka nk ck] 26)) := ⟨_, rfl⟩
  have sx : Same w V := by rw [hV]; exact ((Fr.refl _ w).alloc _).alloc _
  have c0 : V.cell? ⟨w.heap.size, 0, none⟩ = some (.int .i64 p) := by rw [hV]; simp
  have c1 : V.cell? ⟨w.heap.size, 1, none⟩ = some (.int .i64 q) := by rw [hV]; simp
  have n0 : V.cell? ⟨w.heap.size + 1, 0, none⟩ = some (.slice pa np cp) := by rw [hV]; simp
  have n1 : V.cell? ⟨w.heap.size + 1, 1, none⟩ = some (.slice sa ns cs) := by rw [hV]; simp
  have n2 : V.cell? ⟨w.heap.size + 1, 2, none⟩ = some (.slice ka nk ck) := by rw [hV]; simp
  by_cases hE : E = 0
  · have HS2 : Hid (∀ W, Same w W → Calls Try.prog 32 #[frameV p q, nodeV pa np cp sa ns cs ka nk ck] W fun e w' => e = .returned (.int .i64 n) ∧ Same W w') := HS hE
    subst hE
    clear HS
    go_enter Try.func24, Try.ntmps24
    go_wp2_with fail
    rw [← hV]
    clear hV
    refine (HC.out _ sx).mono ?_
    rintro e W1 ⟨rfl, s1⟩
    have t1 := sx.trans s1
    have c0 := s1.keep c0
    have c1 := s1.keep c1
    have n0 := s1.keep n0
    have n1 := s1.keep n1
    have n2 := s1.keep n2
    clear s1
    go_wp2_with fail
    refine (HS2.out _ t1).mono ?_
    rintro e W2 ⟨rfl, s2⟩
    go_wp2_with fail
    go_ret
    exact ⟨rfl, t1.trans s2⟩
  · rw [if_neg hE]
    have hne : (E != 0) = true := by rw [bne_iff_ne]; exact hE
    clear hE HS
    go_enter Try.func24, Try.ntmps24
    go_wp2_with fail
    rw [← hV]
    clear hV
    refine (HC.out _ sx).mono ?_
    rintro e W1 ⟨rfl, s1⟩
    go_wp2_with fail
    go_ret
    exact ⟨rfl, sx.trans s1⟩

set_option maxRecDepth 100000 in
set_option maxHeartbeats 2000000 in
theorem pack_bad {p q : Int} {pa sa ka : Option Addr} {np cp ns cs nk ck : Nat} {E : Int} (w : World) (hE : (E != 0) = true)
    (HC : Hid (∀ W, Same w W → Calls Try.prog 25 #[frameV p q, nodeV pa np cp sa ns cs ka nk ck] W fun e w' => e = .returned (.int .i64 E) ∧ Same W w')) :
    Calls Try.prog 21 #[frameV p q, nodeV pa np cp sa ns cs ka nk ck] w fun e w' => e = .returned (.tuple #[.string ⟨#[]⟩, .int .i64 E]) ∧ Same w w' := by
  have hE := hE
  obtain ⟨V, hV⟩ : ∃ V, V = ((w.alloc (.cells #[.int .i64 p, .int .i64 q] 48)).alloc (.cells #[.slice pa np cp, .slice sa ns cs, .slice ka nk ck] 26)) := ⟨_, rfl⟩
  have sx : Same w V := by rw [hV]; exact ((Fr.refl _ w).alloc _).alloc _
  have c0 : V.cell? ⟨w.heap.size, 0, none⟩ = some (.int .i64 p) := by rw [hV]; simp
  have c1 : V.cell? ⟨w.heap.size, 1, none⟩ = some (.int .i64 q) := by rw [hV]; simp
  have n0 : V.cell? ⟨w.heap.size + 1, 0, none⟩ = some (.slice pa np cp) := by rw [hV]; simp
  have n1 : V.cell? ⟨w.heap.size + 1, 1, none⟩ = some (.slice sa ns cs) := by rw [hV]; simp
  have n2 : V.cell? ⟨w.heap.size + 1, 2, none⟩ = some (.slice ka nk ck) := by rw [hV]; simp
  go_enter Try.func21, Try.ntmps21
  go_wp2_with fail
  rw [← hV]
  clear hV
  refine (HC.out _ sx).mono ?_
  rintro e W1 ⟨rfl, s1⟩
  go_wp2_with fail
  go_ret2
  exact ⟨rfl, sx.trans s1⟩

set_option maxRecDepth 100000 in
set_option maxHeartbeats 2000000 in
theorem plain_bad {p q : Int} {pa sa ka : Option Addr} {np cp ns cs nk ck : Nat} {E : Int} (w : World) (hE : (E != 0) = true)
    (HC : Hid (∀ W, Same w W → Calls Try.prog 25 #[frameV p q, nodeV pa np cp sa ns cs ka nk ck] W fun e w' => e = .returned (.int .i64 E) ∧ Same W w')) :
    Calls Try.prog 22 #[frameV p q, nodeV pa np cp sa ns cs ka nk ck] w fun e w' => e = .returned (.tuple #[.string ⟨#[]⟩, .int .i64 E]) ∧ Same w w' := by
  have hE := hE
  obtain ⟨V, hV⟩ : ∃ V, V = ((w.alloc (.cells #[.int .i64 p, .int .i64 q] 48)).alloc (.cells #[.slice pa np cp, .slice sa ns cs, .slice ka nk ck] 26)) := ⟨_, rfl⟩
  have sx : Same w V := by rw [hV]; exact ((Fr.refl _ w).alloc _).alloc _
  have c0 : V.cell? ⟨w.heap.size, 0, none⟩ = some (.int .i64 p) := by rw [hV]; simp
  have c1 : V.cell? ⟨w.heap.size, 1, none⟩ = some (.int .i64 q) := by rw [hV]; simp
  have n0 : V.cell? ⟨w.heap.size + 1, 0, none⟩ = some (.slice pa np cp) := by rw [hV]; simp
  have n1 : V.cell? ⟨w.heap.size + 1, 1, none⟩ = some (.slice sa ns cs) := by rw [hV]; simp
  have n2 : V.cell? ⟨w.heap.size + 1, 2, none⟩ = some (.slice ka nk ck) := by rw [hV]; simp
  go_enter Try.func22, Try.ntmps22
  go_wp2_with fail
  rw [← hV]
  clear hV
  refine (HC.out _ sx).mono ?_
  rintro e W1 ⟨rfl, s1⟩
  go_wp2_with fail
  go_ret2
  exact ⟨rfl, sx.trans s1⟩

set_option maxRecDepth 100000 in
set_option maxHeartbeats 2000000 in
theorem pack_good {p q : Int} {pa sa ka : Option Addr} {np cp ns cs nk ck : Nat} {S : ByteArray} {room : Int} {be bh : Bool} (w : World)
    (HC : Hid (∀ W, Same w W → Calls Try.prog 25 #[frameV p q, nodeV pa np cp sa ns cs ka nk ck] W fun e w' => e = .returned (.int .i64 0) ∧ Same W w'))
    (HPF : Hid (∀ W, Same w W → Calls Try.prog 26 #[] W fun e w' => e = .returned (pageV) ∧ Same W w'))
    (HB : Hid (∀ W, Same w W → Calls Try.prog 27 #[pageV, frameV p q, nodeV pa np cp sa ns cs ka nk ck] W fun e w' => e = .returned (.string S) ∧ Same W w'))
    (HI : Hid (∀ W, Same w W → Calls Try.prog 28 #[nodeV pa np cp sa ns cs ka nk ck] W fun e w' => e = .returned (.bool be) ∧ Same W w'))
    (HR : Hid (∀ W, Same w W → Calls Try.prog 29 #[frameV p q] W fun e w' => e = .returned (.int .i64 room) ∧ Same W w'))
    (HK : Hid (∀ W, Same w W → Calls Try.prog 30 #[.slice ka nk ck, .func (.func 31) #[] #[]] W fun e w' => e = .returned (.bool bh) ∧ Same W w')) :
    Calls Try.prog 21 #[frameV p q, nodeV pa np cp sa ns cs ka nk ck] w fun e w' => e = .returned (.tuple #[.string (if be = true then ⟨#[]⟩ else if room < (S.size : Int) then ⟨#[]⟩ else if bh = true then ⟨#[]⟩ else S), .int .i64 (if be = true then 70 else if room < (S.size : Int) then 71 else if bh = true then 72 else 0)]) ∧ Same w w' := by
  obtain ⟨V, hV⟩ : ∃ V, V = ((w.alloc (.cells #[.int .i64 p, .int .i64 q] 48)).alloc (.cells #[.slice pa np cp, .slice sa ns cs, .slice ka nk ck] 26)) := ⟨_, rfl⟩
  have sx : Same w V := by rw [hV]; exact ((Fr.refl _ w).alloc _).alloc _
  have c0 : V.cell? ⟨w.heap.size, 0, none⟩ = some (.int .i64 p) := by rw [hV]; simp
  have c1 : V.cell? ⟨w.heap.size, 1, none⟩ = some (.int .i64 q) := by rw [hV]; simp
  have n0 : V.cell? ⟨w.heap.size + 1, 0, none⟩ = some (.slice pa np cp) := by rw [hV]; simp
  have n1 : V.cell? ⟨w.heap.size + 1, 1, none⟩ = some (.slice sa ns cs) := by rw [hV]; simp
  have n2 : V.cell? ⟨w.heap.size + 1, 2, none⟩ = some (.slice ka nk ck) := by rw [hV]; simp
  have hway : (be = true) ∨ (be = false ∧ room < (S.size : Int)) ∨ (be = false ∧ ¬ room < (S.size : Int) ∧ bh = true) ∨ (be = false ∧ ¬ room < (S.size : Int) ∧ bh = false) := by
    cases be <;> cases bh <;> simp <;> omega
  rcases hway with rfl | ⟨rfl, h1⟩ | ⟨rfl, h1, rfl⟩ | ⟨rfl, h1, rfl⟩
  · go_enter Try.func21, Try.ntmps21
    go_wp2_with fail
    rw [← hV]
    clear hV
    refine (HC.out _ sx).mono ?_
    rintro e W1 ⟨rfl, s1⟩
    have y1 := sx.trans s1
    have c0 := s1.keep c0
    have c1 := s1.keep c1
    have n0 := s1.keep n0
    have n1 := s1.keep n1
    have n2 := s1.keep n2
    go_wp2_with fail
    have d1 : Same W1 W1.drew := Fr.drew (Fr.refl _ W1)
    go_region_held3 (fun W => W.cell? ⟨w.heap.size, 0, none⟩ = some (.int .i64 p) ∧ W.cell? ⟨w.heap.size, 1, none⟩ = some (.int .i64 q) ∧ W.cell? ⟨w.heap.size + 1, 0, none⟩ = some (.slice pa np cp) ∧ W.cell? ⟨w.heap.size + 1, 1, none⟩ = some (.slice sa ns cs) ∧ W.cell? ⟨w.heap.size + 1, 2, none⟩ = some (.slice ka nk ck)) (first | exact ⟨t2.keep c0, t2.keep c1, t2.keep n0, t2.keep n1, t2.keep n2⟩ | exact ⟨t1.keep c0, t1.keep c1, t1.keep n0, t1.keep n1, t1.keep n2⟩ | exact ⟨c0, c1, n0, n1, n2⟩)
      (first | (have hh := t1; go_at_call 27; refine (HB.out _ (y1.trans t1)).mono ?_; rintro e Z1 ⟨rfl, hs⟩; have t2 := Same.trans t1 hs; clear hs) | (go_at_call 26; refine (HPF.out _ (y1.trans d1)).mono ?_; rintro e Z0 ⟨rfl, hs⟩; have t1 := Same.trans d1 hs; clear hs))
    have y2 := y1.trans t2
    have c0 := t2.keep c0
    have c1 := t2.keep c1
    have n0 := t2.keep n0
    have n1 := t2.keep n1
    have n2 := t2.keep n2
    go_wp2_with fail
    refine (HI.out _ y2).mono ?_
    rintro e W5 ⟨rfl, s5⟩
    have y5 := y2.trans s5
    have c0 := s5.keep c0
    have c1 := s5.keep c1
    have n0 := s5.keep n0
    have n1 := s5.keep n1
    have n2 := s5.keep n2
    go_wp2_with fail
    go_ret2
    exact ⟨rfl, y5⟩
  · rw [if_neg (by simp), if_pos h1, if_neg (by simp), if_pos h1]
    go_enter Try.func21, Try.ntmps21
    go_wp2_with fail
    rw [← hV]
    clear hV
    refine (HC.out _ sx).mono ?_
    rintro e W1 ⟨rfl, s1⟩
    have y1 := sx.trans s1
    have c0 := s1.keep c0
    have c1 := s1.keep c1
    have n0 := s1.keep n0
    have n1 := s1.keep n1
    have n2 := s1.keep n2
    go_wp2_with fail
    have d1 : Same W1 W1.drew := Fr.drew (Fr.refl _ W1)
    go_region_held3 (fun W => W.cell? ⟨w.heap.size, 0, none⟩ = some (.int .i64 p) ∧ W.cell? ⟨w.heap.size, 1, none⟩ = some (.int .i64 q) ∧ W.cell? ⟨w.heap.size + 1, 0, none⟩ = some (.slice pa np cp) ∧ W.cell? ⟨w.heap.size + 1, 1, none⟩ = some (.slice sa ns cs) ∧ W.cell? ⟨w.heap.size + 1, 2, none⟩ = some (.slice ka nk ck)) (first | exact ⟨t2.keep c0, t2.keep c1, t2.keep n0, t2.keep n1, t2.keep n2⟩ | exact ⟨t1.keep c0, t1.keep c1, t1.keep n0, t1.keep n1, t1.keep n2⟩ | exact ⟨c0, c1, n0, n1, n2⟩)
      (first | (have hh := t1; go_at_call 27; refine (HB.out _ (y1.trans t1)).mono ?_; rintro e Z1 ⟨rfl, hs⟩; have t2 := Same.trans t1 hs; clear hs) | (go_at_call 26; refine (HPF.out _ (y1.trans d1)).mono ?_; rintro e Z0 ⟨rfl, hs⟩; have t1 := Same.trans d1 hs; clear hs))
    have y2 := y1.trans t2
    have c0 := t2.keep c0
    have c1 := t2.keep c1
    have n0 := t2.keep n0
    have n1 := t2.keep n1
    have n2 := t2.keep n2
    go_wp2_with fail
    refine (HI.out _ y2).mono ?_
    rintro e W5 ⟨rfl, s5⟩
    have y5 := y2.trans s5
    have c0 := s5.keep c0
    have c1 := s5.keep c1
    have n0 := s5.keep n0
    have n1 := s5.keep n1
    have n2 := s5.keep n2
    go_wp2_with fail
    refine (HR.out _ y5).mono ?_
    rintro e W6 ⟨rfl, s6⟩
    have y6 := y5.trans s6
    have c0 := s6.keep c0
    have c1 := s6.keep c1
    have n0 := s6.keep n0
    have n1 := s6.keep n1
    have n2 := s6.keep n2
    go_wp2_with fail
    go_ret2
    exact ⟨rfl, y6⟩
  · rw [if_neg (by simp), if_neg h1, if_pos rfl, if_neg (by simp), if_neg h1, if_pos rfl]
    have h1 : decide (room < (S.size : Int)) = false := decide_eq_false h1
    go_enter Try.func21, Try.ntmps21
    go_wp2_with fail
    rw [← hV]
    clear hV
    refine (HC.out _ sx).mono ?_
    rintro e W1 ⟨rfl, s1⟩
    have y1 := sx.trans s1
    have c0 := s1.keep c0
    have c1 := s1.keep c1
    have n0 := s1.keep n0
    have n1 := s1.keep n1
    have n2 := s1.keep n2
    go_wp2_with fail
    have d1 : Same W1 W1.drew := Fr.drew (Fr.refl _ W1)
    go_region_held3 (fun W => W.cell? ⟨w.heap.size, 0, none⟩ = some (.int .i64 p) ∧ W.cell? ⟨w.heap.size, 1, none⟩ = some (.int .i64 q) ∧ W.cell? ⟨w.heap.size + 1, 0, none⟩ = some (.slice pa np cp) ∧ W.cell? ⟨w.heap.size + 1, 1, none⟩ = some (.slice sa ns cs) ∧ W.cell? ⟨w.heap.size + 1, 2, none⟩ = some (.slice ka nk ck)) (first | exact ⟨t2.keep c0, t2.keep c1, t2.keep n0, t2.keep n1, t2.keep n2⟩ | exact ⟨t1.keep c0, t1.keep c1, t1.keep n0, t1.keep n1, t1.keep n2⟩ | exact ⟨c0, c1, n0, n1, n2⟩)
      (first | (have hh := t1; go_at_call 27; refine (HB.out _ (y1.trans t1)).mono ?_; rintro e Z1 ⟨rfl, hs⟩; have t2 := Same.trans t1 hs; clear hs) | (go_at_call 26; refine (HPF.out _ (y1.trans d1)).mono ?_; rintro e Z0 ⟨rfl, hs⟩; have t1 := Same.trans d1 hs; clear hs))
    have y2 := y1.trans t2
    have c0 := t2.keep c0
    have c1 := t2.keep c1
    have n0 := t2.keep n0
    have n1 := t2.keep n1
    have n2 := t2.keep n2
    go_wp2_with fail
    refine (HI.out _ y2).mono ?_
    rintro e W5 ⟨rfl, s5⟩
    have y5 := y2.trans s5
    have c0 := s5.keep c0
    have c1 := s5.keep c1
    have n0 := s5.keep n0
    have n1 := s5.keep n1
    have n2 := s5.keep n2
    go_wp2_with fail
    refine (HR.out _ y5).mono ?_
    rintro e W6 ⟨rfl, s6⟩
    have y6 := y5.trans s6
    have c0 := s6.keep c0
    have c1 := s6.keep c1
    have n0 := s6.keep n0
    have n1 := s6.keep n1
    have n2 := s6.keep n2
    go_wp2_with fail
    refine (HK.out _ y6).mono ?_
    rintro e W7 ⟨rfl, s7⟩
    have y7 := y6.trans s7
    go_wp2_with fail
    go_ret2
    exact ⟨rfl, y7⟩
  · rw [if_neg (by simp), if_neg h1, if_neg (by simp), if_neg (by simp), if_neg h1, if_neg (by simp)]
    have h1 : decide (room < (S.size : Int)) = false := decide_eq_false h1
    go_enter Try.func21, Try.ntmps21
    go_wp2_with fail
    rw [← hV]
    clear hV
    refine (HC.out _ sx).mono ?_
    rintro e W1 ⟨rfl, s1⟩
    have y1 := sx.trans s1
    have c0 := s1.keep c0
    have c1 := s1.keep c1
    have n0 := s1.keep n0
    have n1 := s1.keep n1
    have n2 := s1.keep n2
    go_wp2_with fail
    have d1 : Same W1 W1.drew := Fr.drew (Fr.refl _ W1)
    go_region_held3 (fun W => W.cell? ⟨w.heap.size, 0, none⟩ = some (.int .i64 p) ∧ W.cell? ⟨w.heap.size, 1, none⟩ = some (.int .i64 q) ∧ W.cell? ⟨w.heap.size + 1, 0, none⟩ = some (.slice pa np cp) ∧ W.cell? ⟨w.heap.size + 1, 1, none⟩ = some (.slice sa ns cs) ∧ W.cell? ⟨w.heap.size + 1, 2, none⟩ = some (.slice ka nk ck)) (first | exact ⟨t2.keep c0, t2.keep c1, t2.keep n0, t2.keep n1, t2.keep n2⟩ | exact ⟨t1.keep c0, t1.keep c1, t1.keep n0, t1.keep n1, t1.keep n2⟩ | exact ⟨c0, c1, n0, n1, n2⟩)
      (first | (have hh := t1; go_at_call 27; refine (HB.out _ (y1.trans t1)).mono ?_; rintro e Z1 ⟨rfl, hs⟩; have t2 := Same.trans t1 hs; clear hs) | (go_at_call 26; refine (HPF.out _ (y1.trans d1)).mono ?_; rintro e Z0 ⟨rfl, hs⟩; have t1 := Same.trans d1 hs; clear hs))
    have y2 := y1.trans t2
    have c0 := t2.keep c0
    have c1 := t2.keep c1
    have n0 := t2.keep n0
    have n1 := t2.keep n1
    have n2 := t2.keep n2
    go_wp2_with fail
    refine (HI.out _ y2).mono ?_
    rintro e W5 ⟨rfl, s5⟩
    have y5 := y2.trans s5
    have c0 := s5.keep c0
    have c1 := s5.keep c1
    have n0 := s5.keep n0
    have n1 := s5.keep n1
    have n2 := s5.keep n2
    go_wp2_with fail
    refine (HR.out _ y5).mono ?_
    rintro e W6 ⟨rfl, s6⟩
    have y6 := y5.trans s6
    have c0 := s6.keep c0
    have c1 := s6.keep c1
    have n0 := s6.keep n0
    have n1 := s6.keep n1
    have n2 := s6.keep n2
    go_wp2_with fail
    refine (HK.out _ y6).mono ?_
    rintro e W7 ⟨rfl, s7⟩
    have y7 := y6.trans s7
    go_wp2_with fail
    go_ret2
    exact ⟨rfl, y7⟩
set_option maxRecDepth 100000 in
set_option maxHeartbeats 2000000 in
theorem plain_good {p q : Int} {pa sa ka : Option Addr} {np cp ns cs nk ck : Nat} {S : ByteArray} {room : Int} {sz : Nat} (w : World)
    (HC : Hid (∀ W, Same w W → Calls Try.prog 25 #[frameV p q, nodeV pa np cp sa ns cs ka nk ck] W fun e w' => e = .returned (.int .i64 0) ∧ Same W w'))
    (HZ : Hid (∀ W, Same w W → Calls Try.prog 32 #[frameV p q, nodeV pa np cp sa ns cs ka nk ck] W fun e w' => e = .returned (.int .i64 sz) ∧ Same W w'))
    (HR : Hid (∀ W, Same w W → Calls Try.prog 29 #[frameV p q] W fun e w' => e = .returned (.int .i64 room) ∧ Same W w'))
    (HPF : Hid (∀ W, Same w W → Calls Try.prog 33 #[] W fun e w' => e = .returned (plainV) ∧ Same W w'))
    (HB : Hid (∀ W, Same w W → Calls Try.prog 27 #[plainV, frameV p q, nodeV pa np cp sa ns cs ka nk ck] W fun e w' => e = .returned (.string S) ∧ Same W w')) :
    Calls Try.prog 22 #[frameV p q, nodeV pa np cp sa ns cs ka nk ck] w fun e w' => e = .returned (.tuple #[.string (if room < (sz : Int) then ⟨#[]⟩ else S), .int .i64 (if room < (sz : Int) then 71 else 0)]) ∧ Same w w' := by
  obtain ⟨V, hV⟩ : ∃ V, V = ((w.alloc (.cells #[.int .i64 p, .int .i64 q] 48)).alloc (.cells #[.slice pa np cp, .slice sa ns cs, .slice ka nk ck] 26)) := ⟨_, rfl⟩
  have sx : Same w V := by rw [hV]; exact ((Fr.refl _ w).alloc _).alloc _
  have c0 : V.cell? ⟨w.heap.size, 0, none⟩ = some (.int .i64 p) := by rw [hV]; simp
  have c1 : V.cell? ⟨w.heap.size, 1, none⟩ = some (.int .i64 q) := by rw [hV]; simp
  have n0 : V.cell? ⟨w.heap.size + 1, 0, none⟩ = some (.slice pa np cp) := by rw [hV]; simp
  have n1 : V.cell? ⟨w.heap.size + 1, 1, none⟩ = some (.slice sa ns cs) := by rw [hV]; simp
  have n2 : V.cell? ⟨w.heap.size + 1, 2, none⟩ = some (.slice ka nk ck) := by rw [hV]; simp
  by_cases h1 : room < (sz : Int)
  · rw [if_pos h1, if_pos h1]
    go_enter Try.func22, Try.ntmps22
    go_wp2_with fail
    rw [← hV]
    clear hV
    refine (HC.out _ sx).mono ?_
    rintro e W1 ⟨rfl, s1⟩
    have y1 := sx.trans s1
    have c0 := s1.keep c0
    have c1 := s1.keep c1
    have n0 := s1.keep n0
    have n1 := s1.keep n1
    have n2 := s1.keep n2
    go_wp2_with fail
    have d1 : Same W1 W1.drew := Fr.drew (Fr.refl _ W1)
    go_region_held3 (fun W => W.cell? ⟨w.heap.size, 0, none⟩ = some (.int .i64 p) ∧ W.cell? ⟨w.heap.size, 1, none⟩ = some (.int .i64 q) ∧ W.cell? ⟨w.heap.size + 1, 0, none⟩ = some (.slice pa np cp) ∧ W.cell? ⟨w.heap.size + 1, 1, none⟩ = some (.slice sa ns cs) ∧ W.cell? ⟨w.heap.size + 1, 2, none⟩ = some (.slice ka nk ck)) (first | exact ⟨t2.keep c0, t2.keep c1, t2.keep n0, t2.keep n1, t2.keep n2⟩ | exact ⟨t1.keep c0, t1.keep c1, t1.keep n0, t1.keep n1, t1.keep n2⟩ | exact ⟨c0, c1, n0, n1, n2⟩)
      (first | (have hh := t1; go_at_call 29; refine (HR.out _ (y1.trans t1)).mono ?_; rintro e Z1 ⟨rfl, hs⟩; have t2 := Same.trans t1 hs; clear hs) | (go_at_call 32; refine (HZ.out _ (y1.trans d1)).mono ?_; rintro e Z0 ⟨rfl, hs⟩; have t1 := Same.trans d1 hs; clear hs))
    have y2 := y1.trans t2
    have c0 := t2.keep c0
    have c1 := t2.keep c1
    have n0 := t2.keep n0
    have n1 := t2.keep n1
    have n2 := t2.keep n2
    go_wp2_with fail
    go_ret2
    exact ⟨rfl, y2⟩
  · rw [if_neg h1, if_neg h1]
    have h1 : decide (room < (sz : Int)) = false := decide_eq_false h1
    go_enter Try.func22, Try.ntmps22
    go_wp2_with fail
    rw [← hV]
    clear hV
    refine (HC.out _ sx).mono ?_
    rintro e W1 ⟨rfl, s1⟩
    have y1 := sx.trans s1
    have c0 := s1.keep c0
    have c1 := s1.keep c1
    have n0 := s1.keep n0
    have n1 := s1.keep n1
    have n2 := s1.keep n2
    go_wp2_with fail
    have d1 : Same W1 W1.drew := Fr.drew (Fr.refl _ W1)
    go_region_held3 (fun W => W.cell? ⟨w.heap.size, 0, none⟩ = some (.int .i64 p) ∧ W.cell? ⟨w.heap.size, 1, none⟩ = some (.int .i64 q) ∧ W.cell? ⟨w.heap.size + 1, 0, none⟩ = some (.slice pa np cp) ∧ W.cell? ⟨w.heap.size + 1, 1, none⟩ = some (.slice sa ns cs) ∧ W.cell? ⟨w.heap.size + 1, 2, none⟩ = some (.slice ka nk ck)) (first | exact ⟨t2.keep c0, t2.keep c1, t2.keep n0, t2.keep n1, t2.keep n2⟩ | exact ⟨t1.keep c0, t1.keep c1, t1.keep n0, t1.keep n1, t1.keep n2⟩ | exact ⟨c0, c1, n0, n1, n2⟩)
      (first | (have hh := t1; go_at_call 29; refine (HR.out _ (y1.trans t1)).mono ?_; rintro e Z1 ⟨rfl, hs⟩; have t2 := Same.trans t1 hs; clear hs) | (go_at_call 32; refine (HZ.out _ (y1.trans d1)).mono ?_; rintro e Z0 ⟨rfl, hs⟩; have t1 := Same.trans d1 hs; clear hs))
    have y2 := y1.trans t2
    have c0 := t2.keep c0
    have c1 := t2.keep c1
    have n0 := t2.keep n0
    have n1 := t2.keep n1
    have n2 := t2.keep n2
    clear t1 d1
    generalize Z1 = X2 at *
    go_wp2_with fail
    have d2 : Same X2 X2.drew := Fr.drew (Fr.refl _ X2)
    clear t2
    go_region_held3 (fun W => W.cell? ⟨w.heap.size, 0, none⟩ = some (.int .i64 p) ∧ W.cell? ⟨w.heap.size, 1, none⟩ = some (.int .i64 q) ∧ W.cell? ⟨w.heap.size + 1, 0, none⟩ = some (.slice pa np cp) ∧ W.cell? ⟨w.heap.size + 1, 1, none⟩ = some (.slice sa ns cs) ∧ W.cell? ⟨w.heap.size + 1, 2, none⟩ = some (.slice ka nk ck)) (first | exact ⟨t4.keep c0, t4.keep c1, t4.keep n0, t4.keep n1, t4.keep n2⟩ | exact ⟨t3.keep c0, t3.keep c1, t3.keep n0, t3.keep n1, t3.keep n2⟩ | exact ⟨c0, c1, n0, n1, n2⟩)
      (first | (have hh := t3; go_at_call 27; refine (HB.out _ (y2.trans t3)).mono ?_; rintro e Z1 ⟨rfl, hs⟩; have t4 := Same.trans t3 hs; clear hs) | (go_at_call 33; refine (HPF.out _ (y2.trans d2)).mono ?_; rintro e Z0 ⟨rfl, hs⟩; have t3 := Same.trans d2 hs; clear hs))
    have y4 := y2.trans t4
    go_wp2_with fail
    go_ret2
    exact ⟨rfl, y4⟩

def emptyB (N : Nd) : Bool := leafB N && decide (N.ps.length = 0)
set_option maxRecDepth 100000 in
theorem isEmpty_core (pa sa ka : Option Addr) (np cp ns cs nk ck : Nat) (w : World) :
    Calls Try.prog 28 #[nodeV pa np cp sa ns cs ka nk ck] w fun e w' => e = .returned (.bool ((decide (ns = 0) && decide (nk = 0)) && decide (np = 0))) ∧ Same w w' := by
  have HI : Hid (∀ W, Calls Try.prog 36 #[nodeV pa np cp sa ns cs ka nk ck] W fun e w' => e = .returned (.bool (decide (ns = 0) && decide (nk = 0))) ∧ Same W w') := isLeaf_core pa sa ka np cp ns cs nk ck
  have e1 := lenz np
  obtain ⟨b1, h1⟩ : ∃ b, b = decide (np = 0) := ⟨_, rfl⟩
  rw [← h1] at e1 ⊢
  obtain ⟨b2, h2⟩ : ∃ b, b = (decide (ns = 0) && decide (nk = 0)) := ⟨_, rfl⟩
  rw [← h2] at HI ⊢
  obtain ⟨V, hV⟩ : ∃ V, V = w.alloc (.cells #[.slice pa np cp, .slice sa ns cs, .slice ka nk ck] 26) := ⟨_, rfl⟩
  have sx : Same w V := by rw [hV]; exact (Fr.refl _ w).alloc _
  have n0 : V.cell? ⟨w.heap.size, 0, none⟩ = some (.slice pa np cp) := by rw [hV]; simp
  clear h1 h2
  cases b2
  all_goals
    go_enter Try.func28, Try.ntmps28
    go_wp2_with fail
    rw [← hV]
    clear hV
    refine (HI.out _).mono ?_
    rintro e W1 ⟨rfl, s1⟩
    have n0 := s1.keep n0
    go_wp2_with fail
    go_ret
    exact ⟨rfl, sx.trans s1⟩
theorem shape_sep {p q : Int} {N : Nd} (h : shapeP p q N = true) (hl : leafB N = false) : N.ss.length + 1 = N.ks.length := by
  unfold shapeP branchP at h
  rw [hl] at h
  simp only [Bool.false_eq_true, if_false, Bool.and_eq_true, Bool.not_eq_true', Bool.or_eq_false_iff, decide_eq_false_iff_not] at h
  omega
theorem chk_zero {p q : Int} {N : Nd} (h : chkN p q N = 0) : frameP p q = true ∧ shapeP p q N = true := by
  unfold chkN at h
  by_cases hf : frameP p q = true
  · rw [if_pos hf] at h
    by_cases hs : shapeP p q N = true
    · exact ⟨hf, hs⟩
    · rw [if_neg hs] at h; omega
  · rw [if_neg hf] at h; omega
/-- What the calls answer. -/
def sizeV (p q : Int) (N : Nd) : Int := if chkN p q N = 0 then ((formN true q N).length : Int) else 0
def packE (p q : Int) (N : Nd) : Int := if chkN p q N = 0 then (if emptyB N = true then 70 else if p - 32 < ((formN true q N).length : Int) then 71 else if N.ks.any homeB = true then 72 else 0) else chkN p q N
def packS (p q : Int) (N : Nd) : ByteArray := if packE p q N = 0 then ⟨(formN true q N).toArray⟩ else ⟨#[]⟩
def plainE (p q : Int) (N : Nd) : Int := if chkN p q N = 0 then (if p - 32 < ((formN true q N).length : Int) then 71 else 0) else chkN p q N
def plainS (p q : Int) (N : Nd) : ByteArray := if plainE p q N = 0 then ⟨(formN false q N).toArray⟩ else ⟨#[]⟩
theorem size_arr (l : List UInt8) : (ByteArray.mk l.toArray).size = l.length := by rw [← bytes_length, List.toList_toArray]
/-- A node that is small enough for all that is asked of it. -/
structure NdOk (w : World) (r : Nr) (q : Int) (N : Nd) : Prop where
  at_ : NdAt w r N
  cap : NdCap r N
  len1 : (formN true q N).length ≤ 50000000000
  len0 : (formN false q N).length ≤ 50000000000
theorem NdOk.same {w w' : World} {r : Nr} {q : Int} {N : Nd} (h : NdOk w r q N) (s : Same w w') : NdOk w' r q N := ⟨h.at_.same s, h.cap, h.len1, h.len0⟩
theorem lsize_calls {p q : Int} {r : Nr} {N : Nd} (w : World) (h : NdOk w r q N) (hs : leafB N = false → N.ss.length + 1 = N.ks.length) :
    Calls Try.prog 32 #[frameV p q, ndV r N] w fun e w' => e = .returned (.int .i64 ((formN true q N).length : Int)) ∧ Same w w' := by
  have := size_core (p := p) (q := q) w (fun W _ => pageForm_calls W) (fun W s => bytes_page W (h.at_.same s) h.cap hs h.len1)
  rw [size_arr] at this
  exact this
theorem size_calls {p q : Int} {r : Nr} {N : Nd} (w : World) (h : NdOk w r q N) :
    Calls Try.prog 24 #[frameV p q, ndV r N] w fun e w' => e = .returned (.int .i64 (sizeV p q N)) ∧ Same w w' :=
  bigSize_core w (fun W s => check_calls p q W (h.at_.same s)) (fun hE W s => lsize_calls W (h.same s) (fun hl => shape_sep (chk_zero hE).2 hl))
theorem pack_calls {p q : Int} {r : Nr} {N : Nd} (w : World) (h : NdOk w r q N) :
    Calls Try.prog 21 #[frameV p q, ndV r N] w fun e w' => e = .returned (.tuple #[.string (packS p q N), .int .i64 (packE p q N)]) ∧ Same w w' := by
  have HC := fun W (s : Same w W) => check_calls p q W (h.at_.same s)
  by_cases hE : chkN p q N = 0
  · obtain ⟨hf, hs⟩ := chk_zero hE
    rw [hE] at HC
    have := pack_good w HC (fun W _ => pageForm_calls W) (fun W s => bytes_page W (h.at_.same s) h.cap (fun hl => shape_sep hs hl) h.len1) (fun W _ => isEmpty_core r.pa r.sa r.ka N.ps.length r.cp N.ss.length r.cs N.ks.length r.ck W) (fun W _ => Room_calls (frameP_cases hf).1 W) (fun W s => contains_home homeB W (h.at_.hk.same s) h.at_.lk h.at_.ok (fun x V _ _ => home_calls x V))
    rw [size_arr] at this
    have e1 : packE p q N = (if emptyB N = true then 70 else if p - 32 < ((formN true q N).length : Int) then 71 else if N.ks.any homeB = true then 72 else 0) := by unfold packE; rw [if_pos hE]
    have e2 : packS p q N = (if emptyB N = true then ⟨#[]⟩ else if p - 32 < ((formN true q N).length : Int) then ⟨#[]⟩ else if N.ks.any homeB = true then ⟨#[]⟩ else ⟨(formN true q N).toArray⟩) := by
      unfold packS
      rw [e1]
      by_cases a : emptyB N = true
      · rw [if_pos a, if_pos a]; rfl
      · rw [if_neg a, if_neg a]
        by_cases b : p - 32 < ((formN true q N).length : Int)
        · rw [if_pos b, if_pos b]; rfl
        · rw [if_neg b, if_neg b]
          by_cases c : N.ks.any homeB = true
          · rw [if_pos c, if_pos c]; rfl
          · rw [if_neg c, if_neg c]; rfl
    rw [e1, e2]
    exact this
  · have e1 : packE p q N = chkN p q N := by unfold packE; rw [if_neg hE]
    have e2 : packS p q N = ⟨#[]⟩ := by unfold packS; rw [if_neg (by rw [e1]; exact hE)]
    rw [e1, e2]
    exact pack_bad w (by rw [bne_iff_ne]; exact hE) HC
theorem plain_calls {p q : Int} {r : Nr} {N : Nd} (w : World) (h : NdOk w r q N) :
    Calls Try.prog 22 #[frameV p q, ndV r N] w fun e w' => e = .returned (.tuple #[.string (plainS p q N), .int .i64 (plainE p q N)]) ∧ Same w w' := by
  have HC := fun W (s : Same w W) => check_calls p q W (h.at_.same s)
  by_cases hE : chkN p q N = 0
  · obtain ⟨hf, hs⟩ := chk_zero hE
    rw [hE] at HC
    have := plain_good w HC (fun W s => lsize_calls W (h.same s) (fun hl => shape_sep hs hl)) (fun W _ => Room_calls (frameP_cases hf).1 W) (fun W _ => plainForm_calls W) (fun W s => bytes_plain W (h.at_.same s) h.cap (fun hl => shape_sep hs hl) h.len0)
    have e1 : plainE p q N = (if p - 32 < ((formN true q N).length : Int) then 71 else 0) := by unfold plainE; rw [if_pos hE]
    have e2 : plainS p q N = (if p - 32 < ((formN true q N).length : Int) then ⟨#[]⟩ else ⟨(formN false q N).toArray⟩) := by
      unfold plainS
      rw [e1]
      by_cases b : p - 32 < ((formN true q N).length : Int)
      · rw [if_pos b, if_pos b]; rfl
      · rw [if_neg b, if_neg b]; rfl
    rw [e1, e2]
    exact this
  · have e1 : plainE p q N = chkN p q N := by unfold plainE; rw [if_neg hE]
    have e2 : plainS p q N = ⟨#[]⟩ := by unfold plainS; rw [if_neg (by rw [e1]; exact hE)]
    rw [e1, e2]
    exact plain_bad w (by rw [bne_iff_ne]; exact hE) HC
end Go.Proofs.Ytjlbkagkmcelgaa
