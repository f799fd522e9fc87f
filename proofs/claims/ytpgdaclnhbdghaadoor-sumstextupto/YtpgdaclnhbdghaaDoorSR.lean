/-
  Walks: SumsOneText.
-/
import Derived.Test.YtpgdaclnhbdghaaDoorSQ
import Derived.Test.YtpgdaclnhbdghaaDoorSM
namespace Go.Proofs.YtpgdaclnhbdghaaDoor
open Go.RowKit

abbrev taggedV (a : ByteArray) (pa : Option Addr) (n pc : Nat) : Value := .agg #[.string a, .slice pa n pc]
def tagB (a : ByteArray) : Bool := decide (1 ≤ a.size ∧ a.size ≤ 64)

set_option maxRecDepth 100000 in
set_option maxHeartbeats 400000 in
theorem tmay_calls (w : World) (a : ByteArray) (pa : Option Addr) (n pc : Nat) : Calls Tryd.prog 15 #[taggedV a pa n pc] w fun e w' => e = .returned (.bool (tagB a)) ∧ Same w w' := by
  unfold tagB
  by_cases h1 : 1 ≤ a.size
  · by_cases h2 : a.size ≤ 64
    · rw [decide_eq_true ⟨h1, h2⟩]
      have hi : decide ((a.size : Int) ≤ 64) = true := decide_eq_true (by omega)
      go_enter Tryd.func15, Tryd.ntmps15
      go_wp2
      go_ret
      exact ⟨rfl, (Fr.refl _ w).alloc _⟩
    · rw [decide_eq_false (by omega)]
      have hi : decide ((a.size : Int) ≤ 64) = false := decide_eq_false (by omega)
      go_enter Tryd.func15, Tryd.ntmps15
      go_wp2
      go_ret
      exact ⟨rfl, (Fr.refl _ w).alloc _⟩
  · rw [decide_eq_false (by omega)]
    go_enter Tryd.func15, Tryd.ntmps15
    go_wp2
    go_ret
    exact ⟨rfl, (Fr.refl _ w).alloc _⟩

theorem Lent.sat {w w' : World} {ss : List ByteArray} {g cap : Nat} (h : Lent w w' ss g cap) : SAt w' (some ⟨g, 0, none⟩) g 0 ss := by
  refine ⟨fun e => ⟨rfl, (h.1.lt g rfl).2⟩, fun j s hj => ?_⟩
  have := h.1.cells (g := g) rfl j (.string s) (by
    simp only [scells, List.getElem?_map, List.getElem?_append_left (List.getElem?_eq_some_iff.1 hj).1, hj]; rfl)
  rw [Addr.add_mid] at this
  exact this

theorem beqL_ne {s t : ByteArray} (h : ¬ s = t) : (s.toList == t.toList) = false := by
  rw [ByteArray.toList_eq, ByteArray.toList_eq, beq_eq_false_iff_ne]
  exact fun e => h (by cases s; cases t; simpa using e)
theorem beqL_eq {s t : ByteArray} (h : s = t) : (s.toList == t.toList) = true := by
  rw [h]
  simp

def textS (a : ByteArray) (ss : List ByteArray) : ByteArray := if tagB a then ⟨(textP a ss).toArray⟩ else ⟨#[]⟩
def textE (a : ByteArray) : Int := if tagB a then 0 else 20
theorem text_any (W : World) (a : ByteArray) (ss : List ByteArray) (g cap : Nat) (h : SAt W (some ⟨g, 0, none⟩) g 0 ss) (hl : (textP a ss).length ≤ 70368744177664) (hsl : ss.length ≤ 70368744177664) :
    Calls Tryd.prog 8 #[.string a, .slice (some ⟨g, 0, none⟩) ss.length cap] W fun e w' => e = .returned (.tuple #[.string (textS a ss), .int .i64 (textE a)]) ∧ Same W w' := by
  unfold textS textE tagB
  by_cases ht : 1 ≤ a.size ∧ a.size ≤ 64
  · rw [if_pos (decide_eq_true ht), if_pos (decide_eq_true ht)]
    exact text_calls W a ht ss (some ⟨g, 0, none⟩) g 0 cap (fun _ => rfl) h.cells hl hsl
  · rw [if_neg (by simpa using ht), if_neg (by simpa using ht)]
    refine (text_bad W a ht _).mono ?_
    rintro e w' ⟨rfl, rfl⟩
    exact ⟨rfl, Fr.refl _ _⟩

set_option maxRecDepth 100000 in
set_option maxHeartbeats 2000000 in
theorem one_walk {w : World} (htab : TabAt w) (a b : ByteArray) {pa qa : Option Addr} {pb po pc qb qo qc : Nat} {ss tt : List ByteArray} (h : SAt w pa pb po ss) (k : SAt w qa qb qo tt) (hl : ss.length ≤ 4194304) (hl2 : tt.length ≤ 4194304)
    (hs1 : (textP a ss).length ≤ 70368744177664) (hs2 : (textP b tt).length ≤ 70368744177664) (hz1 : ∀ s ∈ ss, s.size < 4294967296) (hz2 : ∀ s ∈ tt, s.size < 4294967296) :
    Calls Tryd.prog 5 #[taggedV a pa ss.length pc, taggedV b qa tt.length qc] w fun e w' => e = .returned (.bool true) ∧ Same w w' := by
  have HLA : Hid (∀ W, Same w W → Calls Tryd.prog 7 #[.slice pa ss.length pc] W fun e w' => ∃ g cap, e = .returned (.slice (some ⟨g, 0, none⟩) ss.length cap) ∧ Lent W w' ss g cap) := fun W sW => lent_calls (h.same sW) hl
  have HLB : Hid (∀ W, Same w W → Calls Tryd.prog 7 #[.slice qa tt.length qc] W fun e w' => ∃ g cap, e = .returned (.slice (some ⟨g, 0, none⟩) tt.length cap) ∧ Lent W w' tt g cap) := fun W sW => lent_calls (k.same sW) hl2
  have HTA : Hid (∀ W g cap, SAt W (some ⟨g, 0, none⟩) g 0 ss → Calls Tryd.prog 8 #[.string a, .slice (some ⟨g, 0, none⟩) ss.length cap] W fun e w' => e = .returned (.tuple #[.string (textS a ss), .int .i64 (textE a)]) ∧ Same W w') := fun W g cap hS => text_any W a ss g cap hS hs1 (by omega)
  have HTB : Hid (∀ W g cap, SAt W (some ⟨g, 0, none⟩) g 0 tt → Calls Tryd.prog 8 #[.string b, .slice (some ⟨g, 0, none⟩) tt.length cap] W fun e w' => e = .returned (.tuple #[.string (textS b tt), .int .i64 (textE b)]) ∧ Same W w') := fun W g cap hS => text_any W b tt g cap hS hs2 (by omega)
  have HMA : Hid (∀ W, Calls Tryd.prog 15 #[taggedV a pa ss.length pc] W fun e w' => e = .returned (.bool (tagB a)) ∧ Same W w') := fun W => tmay_calls W a pa _ pc
  have HMB : Hid (∀ W, Calls Tryd.prog 15 #[taggedV b qa tt.length qc] W fun e w' => e = .returned (.bool (tagB b)) ∧ Same W w') := fun W => tmay_calls W b qa _ qc
  have HSM : Hid (∀ W, Same w W → Calls Tryd.prog 13 #[.slice pa ss.length pc, .slice qa tt.length qc] W fun e w' => e = .returned (.bool (decide (ss = tt))) ∧ Same W w') := fun W sW => same_calls (h.same sW) (k.same sW) hl
  have HINJ : Hid (tagB a = true → tagB b = true → textS a ss = textS b tt → a = b ∧ ss = tt) := by
    intro h1 h2 h3
    unfold textS at h3
    rw [if_pos h1, if_pos h2] at h3
    unfold tagB at h1 h2
    simp only [decide_eq_true_eq] at h1 h2
    refine text_inj h1.2 h2.2 hz1 hz2 ?_
    have := congrArg (fun z : ByteArray => z.data.toList) h3
    simpa using this
  have HSAME : Hid (a = b → ss = tt → textS a ss = textS b tt) := by
    rintro rfl rfl; rfl
  have HEA : Hid ((tagB a = true → textE a = 0) ∧ (tagB a = false → textE a = 20)) := ⟨fun h => by unfold textE; rw [if_pos h], fun h => by unfold textE; rw [h]; rfl⟩
  have HEB : Hid ((tagB b = true → textE b = 0) ∧ (tagB b = false → textE b = 20)) := ⟨fun h => by unfold textE; rw [if_pos h], fun h => by unfold textE; rw [h]; rfl⟩
  have HT : Hid (TabAt w) := htab
  generalize textS a ss = TA at *
  generalize textS b tt = TB at *
  generalize textE a = EA at *
  generalize textE b = EB at *
  generalize tagB a = ka at *
  generalize tagB b = kb at *
  obtain ⟨n, hn⟩ : ∃ n, n = ss.length := ⟨_, rfl⟩
  obtain ⟨m, hm⟩ : ∃ m, m = tt.length := ⟨_, rfl⟩
  rw [← hn] at HLA HTA HMA HSM ⊢
  rw [← hm] at HLB HTB HMB HSM ⊢
  clear h k hl hl2 hs1 hs2 hz1 hz2 hn hm htab
  have sx : Same w ((w.alloc (.cells #[.string a, .slice pa n pc] 35)).alloc (.cells #[.string b, .slice qa m qc] 35)) := ((Fr.refl _ w).alloc _).alloc _
  have c0 : ((w.alloc (.cells #[.string a, .slice pa n pc] 35)).alloc (.cells #[.string b, .slice qa m qc] 35)).cell? ⟨w.heap.size, 0, none⟩ = some (.string a) := by simp
  have c1 : ((w.alloc (.cells #[.string a, .slice pa n pc] 35)).alloc (.cells #[.string b, .slice qa m qc] 35)).cell? ⟨w.heap.size, 1, none⟩ = some (.slice pa n pc) := by simp
  have d0 : ((w.alloc (.cells #[.string a, .slice pa n pc] 35)).alloc (.cells #[.string b, .slice qa m qc] 35)).cell? ⟨w.heap.size + 1, 0, none⟩ = some (.string b) := by simp
  have d1 : ((w.alloc (.cells #[.string a, .slice pa n pc] 35)).alloc (.cells #[.string b, .slice qa m qc] 35)).cell? ⟨w.heap.size + 1, 1, none⟩ = some (.slice qa m qc) := by simp
  go_enter Tryd.func5, Tryd.ntmps5
  go_wp2_with fail
  generalize ((w.alloc (.cells #[.string a, .slice pa n pc] 35)).alloc (.cells #[.string b, .slice qa m qc] 35)) = V at *
  go_region_held3 (fun w' => w'.cell? ⟨w.heap.size, 0, none⟩ = some (.string a) ∧ w'.cell? ⟨w.heap.size, 1, none⟩ = some (.slice pa n pc)) (first | go_keep | exact ⟨k0, k1⟩ | exact ⟨j0, j1⟩)
    (first | (go_at_call 7; refine (HLA.out _ (Fr.drew sx)).mono ?_; rintro e W1 ⟨g1, cap1, rfl, l1⟩; have k0 := Same.keep (w := V.drew) l1.2.2 (a := ⟨w.heap.size, 0, none⟩) c0; have k1 := Same.keep (w := V.drew) l1.2.2 (a := ⟨w.heap.size, 1, none⟩) c1; have k2 := Same.keep (w := V.drew) l1.2.2 (a := ⟨w.heap.size + 1, 0, none⟩) d0; have k3 := Same.keep (w := V.drew) l1.2.2 (a := ⟨w.heap.size + 1, 1, none⟩) d1; have t1 : Same w W1 := Same.trans (Fr.drew sx) l1.2.2; have S1 := l1.sat; clear l1) | (go_at_call 8; refine (HTA.out _ _ _ S1).mono ?_; rintro e W2 ⟨rfl, s2⟩; have j0 := s2.keep k0; have j1 := s2.keep k1; have j2 := s2.keep k2; have j3 := s2.keep k3; have t2 := t1.trans s2; clear s2))
  go_wp2_with fail
  go_region_held3 (fun w' => w'.cell? ⟨w.heap.size + 1, 0, none⟩ = some (.string b) ∧ w'.cell? ⟨w.heap.size + 1, 1, none⟩ = some (.slice qa m qc)) (first | go_keep | exact ⟨p2, p3⟩ | exact ⟨q2, q3⟩)
    (first | (go_at_call 7; refine (HLB.out _ (Fr.drew t2)).mono ?_; rintro e W3 ⟨g2, cap2, rfl, l2⟩; have p0 := Same.keep (w := W2.drew) l2.2.2 (a := ⟨w.heap.size, 0, none⟩) j0; have p1 := Same.keep (w := W2.drew) l2.2.2 (a := ⟨w.heap.size, 1, none⟩) j1; have p2 := Same.keep (w := W2.drew) l2.2.2 (a := ⟨w.heap.size + 1, 0, none⟩) j2; have p3 := Same.keep (w := W2.drew) l2.2.2 (a := ⟨w.heap.size + 1, 1, none⟩) j3; have t3 : Same w W3 := Same.trans (Fr.drew t2) l2.2.2; have S2 := l2.sat; clear l2) | (go_at_call 8; refine (HTB.out _ _ _ S2).mono ?_; rintro e W4 ⟨rfl, s4⟩; have q0 := s4.keep p0; have q1 := s4.keep p1; have q2 := s4.keep p2; have q3 := s4.keep p3; have t4 := t3.trans s4; clear s4))
  clear HLA HLB HTA HTB S1 S2 c0 c1 d0 d1 sx t1 t2 t3 k0 k1 k2 k3 j0 j1 j2 j3 p0 p1 p2 p3
  rcases ka with _ | _ <;> rcases kb with _ | _
  · obtain rfl : EA = 20 := HEA.out.2 rfl
    obtain rfl : EB = 20 := HEB.out.2 rfl
    go_wp2_with fail
    refine (HMA.out _).mono ?_
    rintro e W5 ⟨rfl, s5⟩
    have r0 := s5.keep q0
    have r1 := s5.keep q1
    have r2 := s5.keep q2
    have r3 := s5.keep q3
    have t5 := t4.trans s5
    clear q0 q1 q2 q3 t4 s5
    go_wp2_with fail
    refine (HMB.out _).mono ?_
    rintro e W6 ⟨rfl, s6⟩
    have z0 := s6.keep r0
    have z1 := s6.keep r1
    have z2 := s6.keep r2
    have z3 := s6.keep r3
    have t6 := t5.trans s6
    clear r0 r1 r2 r3 t5 s6
    go_wp2_with fail
    refine (awake_calls W6 (HT.out.same t6)).mono ?_
    rintro e W7 ⟨rfl, s7⟩
    go_wp2_with fail
    go_ret
    exact ⟨rfl, t6.trans s7⟩
  · obtain rfl : EA = 20 := HEA.out.2 rfl
    obtain rfl : EB = 0 := HEB.out.1 rfl
    go_wp2_with fail
    refine (HMA.out _).mono ?_
    rintro e W5 ⟨rfl, s5⟩
    have r0 := s5.keep q0
    have r1 := s5.keep q1
    have r2 := s5.keep q2
    have r3 := s5.keep q3
    have t5 := t4.trans s5
    clear q0 q1 q2 q3 t4 s5
    go_wp2_with fail
    refine (HMB.out _).mono ?_
    rintro e W6 ⟨rfl, s6⟩
    have z0 := s6.keep r0
    have z1 := s6.keep r1
    have z2 := s6.keep r2
    have z3 := s6.keep r3
    have t6 := t5.trans s6
    clear r0 r1 r2 r3 t5 s6
    go_wp2_with fail
    refine (awake_calls W6 (HT.out.same t6)).mono ?_
    rintro e W7 ⟨rfl, s7⟩
    go_wp2_with fail
    go_ret
    exact ⟨rfl, t6.trans s7⟩
  · obtain rfl : EA = 0 := HEA.out.1 rfl
    obtain rfl : EB = 20 := HEB.out.2 rfl
    go_wp2_with fail
    refine (HMA.out _).mono ?_
    rintro e W5 ⟨rfl, s5⟩
    have r0 := s5.keep q0
    have r1 := s5.keep q1
    have r2 := s5.keep q2
    have r3 := s5.keep q3
    have t5 := t4.trans s5
    clear q0 q1 q2 q3 t4 s5
    go_wp2_with fail
    refine (HMB.out _).mono ?_
    rintro e W6 ⟨rfl, s6⟩
    have z0 := s6.keep r0
    have z1 := s6.keep r1
    have z2 := s6.keep r2
    have z3 := s6.keep r3
    have t6 := t5.trans s6
    clear r0 r1 r2 r3 t5 s6
    go_wp2_with fail
    refine (awake_calls W6 (HT.out.same t6)).mono ?_
    rintro e W7 ⟨rfl, s7⟩
    go_wp2_with fail
    go_ret
    exact ⟨rfl, t6.trans s7⟩
  · obtain rfl : EA = 0 := HEA.out.1 rfl
    obtain rfl : EB = 0 := HEB.out.1 rfl
    by_cases hab : a = b
    · by_cases hst : ss = tt
      · have hq := beqL_eq hab
        have hT := beqL_eq (HSAME.out hab hst)
        have hd : decide (ss = tt) = true := decide_eq_true hst
        rw [hd] at HSM
        clear hab hst hd HINJ HSAME
        go_wp2_with fail
        refine (HMA.out _).mono ?_
        rintro e W5 ⟨rfl, s5⟩
        have r0 := s5.keep q0
        have r1 := s5.keep q1
        have r2 := s5.keep q2
        have r3 := s5.keep q3
        have t5 := t4.trans s5
        clear q0 q1 q2 q3 t4 s5
        go_wp2_with fail
        refine (HMB.out _).mono ?_
        rintro e W6 ⟨rfl, s6⟩
        have z0 := s6.keep r0
        have z1 := s6.keep r1
        have z2 := s6.keep r2
        have z3 := s6.keep r3
        have t6 := t5.trans s6
        clear r0 r1 r2 r3 t5 s6
        go_wp2_with fail
        refine (HSM.out _ t6).mono ?_
        rintro e W7 ⟨rfl, s7⟩
        have t7 := t6.trans s7
        clear z0 z1 z2 z3 t6 s7
        go_wp2_with fail
        refine (awake_calls W7 (HT.out.same t7)).mono ?_
        rintro e W8 ⟨rfl, s8⟩
        go_wp2_with fail
        go_ret
        exact ⟨rfl, t7.trans s8⟩
      · have hq := beqL_eq hab
        have hT := beqL_ne (fun e => hst (HINJ.out rfl rfl e).2)
        have hd : decide (ss = tt) = false := decide_eq_false hst
        rw [hd] at HSM
        clear hab hst hd HINJ HSAME
        go_wp2_with fail
        refine (HMA.out _).mono ?_
        rintro e W5 ⟨rfl, s5⟩
        have r0 := s5.keep q0
        have r1 := s5.keep q1
        have r2 := s5.keep q2
        have r3 := s5.keep q3
        have t5 := t4.trans s5
        clear q0 q1 q2 q3 t4 s5
        go_wp2_with fail
        refine (HMB.out _).mono ?_
        rintro e W6 ⟨rfl, s6⟩
        have z0 := s6.keep r0
        have z1 := s6.keep r1
        have z2 := s6.keep r2
        have z3 := s6.keep r3
        have t6 := t5.trans s6
        clear r0 r1 r2 r3 t5 s6
        go_wp2_with fail
        refine (HSM.out _ t6).mono ?_
        rintro e W7 ⟨rfl, s7⟩
        have t7 := t6.trans s7
        clear z0 z1 z2 z3 t6 s7
        go_wp2_with fail
        refine (awake_calls W7 (HT.out.same t7)).mono ?_
        rintro e W8 ⟨rfl, s8⟩
        go_wp2_with fail
        go_ret
        exact ⟨rfl, t7.trans s8⟩
    · have hq := beqL_ne hab
      have hT := beqL_ne (fun e => hab (HINJ.out rfl rfl e).1)
      clear hab HINJ HSAME
      go_wp2_with fail
      refine (HMA.out _).mono ?_
      rintro e W5 ⟨rfl, s5⟩
      have r0 := s5.keep q0
      have r1 := s5.keep q1
      have r2 := s5.keep q2
      have r3 := s5.keep q3
      have t5 := t4.trans s5
      clear q0 q1 q2 q3 t4 s5
      go_wp2_with fail
      refine (HMB.out _).mono ?_
      rintro e W6 ⟨rfl, s6⟩
      have z0 := s6.keep r0
      have z1 := s6.keep r1
      have z2 := s6.keep r2
      have z3 := s6.keep r3
      have t6 := t5.trans s6
      clear r0 r1 r2 r3 t5 s6
      go_wp2_with fail
      refine (awake_calls W6 (HT.out.same t6)).mono ?_
      rintro e W7 ⟨rfl, s7⟩
      go_wp2_with fail
      go_ret
      exact ⟨rfl, t6.trans s7⟩
end Go.Proofs.YtpgdaclnhbdghaaDoor
