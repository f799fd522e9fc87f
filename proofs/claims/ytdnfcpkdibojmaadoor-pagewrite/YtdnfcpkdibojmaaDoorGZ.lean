/- Walks: PageWrite. -/
import Derived.Test.YtdnfcpkdibojmaaDoorGY
namespace Go.Proofs.YtdnfcpkdibojmaaDoor
open Go.RowKit

set_option maxRecDepth 100000 in
set_option maxHeartbeats 2000000 in
theorem pwrite_walk (w : World) (ht : TabAt w) (p q : Int) (kd no vs : Nat) (b : ByteArray) :
    Calls Tryd.prog 5 #[frameV p q, pageV kd no vs b] w fun e w' => e = .returned (.bool true) ∧ Same w w' := by
  have HA : Hid (∀ W, Same w W → Calls Tryd.prog 9 #[] W fun e w' => e = .returned (.bool true) ∧ Same W w') := fun W h => awake_calls W (ht.same h)
  obtain ⟨V, hV⟩ : ∃ V, V = ((w.alloc (.cells #[.int .i64 p, .int .i64 q] 24)).alloc (.cells #[.int .u8 kd, .int .u32 no, .int .u64 vs, .string b] 29)) := ⟨_, rfl⟩
  have sx : Same w V := by rw [hV]; exact ((Fr.refl _ w).alloc _).alloc _
  have HS : Hid (∀ W, Same V W → W.cell? ⟨w.heap.size, 0, none⟩ = some (.int .i64 p) ∧ W.cell? ⟨w.heap.size, 1, none⟩ = some (.int .i64 q) ∧ W.cell? ⟨w.heap.size + 1, 0, none⟩ = some (.int .u8 kd) ∧ W.cell? ⟨w.heap.size + 1, 1, none⟩ = some (.int .u32 no) ∧ W.cell? ⟨w.heap.size + 1, 2, none⟩ = some (.int .u64 vs) ∧ W.cell? ⟨w.heap.size + 1, 3, none⟩ = some (.string b)) := by
    intro W h
    refine ⟨h.keep ?_, h.keep ?_, h.keep ?_, h.keep ?_, h.keep ?_, h.keep ?_⟩ <;> (rw [hV]; simp)
  by_cases hE : chkE p q kd no vs b.size = 0
  · obtain ⟨s, hs⟩ : ∃ s : ByteArray, s = ⟨(formB p kd no vs b).toArray⟩ := ⟨_, rfl⟩
    have hsl : s.data.toList = formB p kd no vs b := by rw [hs]
    obtain ⟨hR0, hV0, hz⟩ := read_form hE hsl
    have HW : Hid (∀ W, Same w W → Calls Tryd.prog 12 #[frameV p q, pageV kd no vs b] W fun e w' => e = .returned (.tuple #[.string s, .int .i64 0]) ∧ Same W w') := fun W h => by rw [hs]; exact write_good hE W (ht.same h)
    have HRW : Hid (∀ W, Calls Tryd.prog 13 #[frameV p q, pageV kd no vs b] W fun e w' => e = .returned (.tuple #[.string s, .int .i64 0]) ∧ Same W w') := fun W => by rw [hs]; exact rwrite_good hE W
    have HRD : Hid (∀ W, Same w W → Calls Tryd.prog 14 #[frameV p q, .string s] W fun e w' => e = .returned (.tuple #[pageV kd no vs b, .int .i64 0]) ∧ Same W w') := fun W h => by
      have := read_calls p q s W (ht.same h)
      rw [hR0, hV0] at this
      exact this
    have HOP : Hid (∀ W, Same w W → Calls Tryd.prog 15 #[frameV p q, .int .u32 no, .string s] W fun e w' => e = .returned (.tuple #[pageV kd no vs b, .int .i64 0]) ∧ Same W w') := fun W h => by
      have ho := open_calls5 p q no s W (ht.same h)
      obtain ⟨_, k1, k2, n1, n2, v1, v2, hb⟩ := chk_zero hE
      have hp := frame_lo (chk_zero hE).1
      have hno := (form_places hsl (by omega) (by omega) (by omega) (by omega)).2.2.1
      have e1 : openE p q no s = 0 := by unfold openE; rw [if_pos hR0, if_pos hno]
      have e2 : openV p q no s = pageV kd no vs b := by unfold openV; rw [if_pos e1, hV0]
      rw [e1, e2] at ho
      exact ho
    clear ht hE hs hsl hR0 hV0 hz
    go_enter Tryd.func5, Tryd.ntmps5
    go_wp2_with fail
    rw [← hV]
    clear hV
    refine (HW.out _ sx).mono ?_
    rintro e W1 ⟨rfl, s1⟩
    obtain ⟨c0, c1, c2, c3, c4, c5⟩ := HS.out W1 s1
    go_wp2_with fail
    refine (HRW.out _).mono ?_
    rintro e W2 ⟨rfl, s2⟩
    have t2 := s1.trans s2
    clear c0 c1 c2 c3 c4 c5
    obtain ⟨c0, c1, c2, c3, c4, c5⟩ := HS.out W2 t2
    go_wp2_with fail
    refine (HRD.out _ (sx.trans t2)).mono ?_
    rintro e W3 ⟨rfl, s3⟩
    have t3 : Same V (W3.alloc (.cells #[.int .u8 kd, .int .u32 no, .int .u64 vs, .string b] 29)) := (t2.trans s3).alloc _
    clear c0 c1 c2 c3 c4 c5
    obtain ⟨c0, c1, c2, c3, c4, c5⟩ := HS.out _ t3
    have q0 : (W3.alloc (.cells #[.int .u8 kd, .int .u32 no, .int .u64 vs, .string b] 29)).cell? ⟨W3.heap.size, 0, none⟩ = some (.int .u8 kd) := by simp
    have q1 : (W3.alloc (.cells #[.int .u8 kd, .int .u32 no, .int .u64 vs, .string b] 29)).cell? ⟨W3.heap.size, 1, none⟩ = some (.int .u32 no) := by simp
    have q2 : (W3.alloc (.cells #[.int .u8 kd, .int .u32 no, .int .u64 vs, .string b] 29)).cell? ⟨W3.heap.size, 2, none⟩ = some (.int .u64 vs) := by simp
    have q3 : (W3.alloc (.cells #[.int .u8 kd, .int .u32 no, .int .u64 vs, .string b] 29)).cell? ⟨W3.heap.size, 3, none⟩ = some (.string b) := by simp
    go_wp2_with fail
    refine (HOP.out _ (sx.trans t3)).mono ?_
    rintro e W4 ⟨rfl, s4⟩
    have s5 : Same W4 (W4.alloc (.cells #[.int .u8 kd, .int .u32 no, .int .u64 vs, .string b] 29)) := (Fr.refl _ W4).alloc _
    have t5 := (t3.trans s4).trans s5
    have q0 := s5.keep (s4.keep q0)
    have q1 := s5.keep (s4.keep q1)
    have q2 := s5.keep (s4.keep q2)
    have q3 := s5.keep (s4.keep q3)
    clear c0 c1 c2 c3 c4 c5
    obtain ⟨c0, c1, c2, c3, c4, c5⟩ := HS.out _ t5
    go_wp2_with fail
    refine (HA.out _ (sx.trans t5)).mono ?_
    rintro e W6 ⟨rfl, s6⟩
    go_wp2_with fail
    go_ret
    exact ⟨rfl, (sx.trans t5).trans s6⟩
  · obtain ⟨E, hEE⟩ : ∃ E, chkE p q kd no vs b.size = E := ⟨_, rfl⟩
    have HW : Hid (∀ W, Calls Tryd.prog 12 #[frameV p q, pageV kd no vs b] W fun e w' => e = .returned (.tuple #[.string ⟨#[]⟩, .int .i64 E]) ∧ Same W w') := fun W => write_bad hEE (by rw [← hEE]; exact hE) W
    have HRW : Hid (∀ W, Calls Tryd.prog 13 #[frameV p q, pageV kd no vs b] W fun e w' => e = .returned (.tuple #[.string ⟨#[]⟩, .int .i64 E]) ∧ Same W w') := fun W => rwrite_bad hEE (by rw [← hEE]; exact hE) W
    have hE0 : ¬ E = 0 := by rw [← hEE]; exact hE
    obtain ⟨re, hre⟩ : ∃ re, re = readE p q ⟨#[]⟩ := ⟨_, rfl⟩
    obtain ⟨oe, hoe⟩ : ∃ oe, oe = openE p q no ⟨#[]⟩ := ⟨_, rfl⟩
    have rv : ∃ a0 a1 a2 a3, readV p q ⟨#[]⟩ = pageV a0 a1 a2 a3 := by unfold readV; split <;> exact ⟨_, _, _, _, rfl⟩
    obtain ⟨a0, a1, a2, a3, hrv⟩ := rv
    have ov : ∃ a0 a1 a2 a3, openV p q no ⟨#[]⟩ = pageV a0 a1 a2 a3 := by
      rcases open_cases p q no ⟨#[]⟩ with ⟨_, _, _, h⟩ | ⟨_, _, _, _, h⟩ | ⟨_, _, _, _, h⟩ <;> exact ⟨_, _, _, _, h⟩
    obtain ⟨b0, b1, b2, b3, hov⟩ := ov
    have HRD : Hid (∀ W, Same w W → Calls Tryd.prog 14 #[frameV p q, .string ⟨#[]⟩] W fun e w' => e = .returned (.tuple #[pageV a0 a1 a2 a3, .int .i64 re]) ∧ Same W w') := fun W h => by rw [hre, ← hrv]; exact read_calls p q ⟨#[]⟩ W (ht.same h)
    have HOP : Hid (∀ W, Same w W → Calls Tryd.prog 15 #[frameV p q, .int .u32 no, .string ⟨#[]⟩] W fun e w' => e = .returned (.tuple #[pageV b0 b1 b2 b3, .int .i64 oe]) ∧ Same W w') := fun W h => by rw [hoe, ← hov]; exact open_calls5 p q no ⟨#[]⟩ W (ht.same h)
    clear ht hE hEE hre hoe hrv hov
    go_enter Tryd.func5, Tryd.ntmps5
    go_wp2_with fail
    rw [← hV]
    clear hV
    refine (HW.out _).mono ?_
    rintro e W1 ⟨rfl, s1⟩
    obtain ⟨c0, c1, c2, c3, c4, c5⟩ := HS.out W1 s1
    go_wp2_with fail
    refine (HRW.out _).mono ?_
    rintro e W2 ⟨rfl, s2⟩
    have t2 := s1.trans s2
    clear c0 c1 c2 c3 c4 c5
    obtain ⟨c0, c1, c2, c3, c4, c5⟩ := HS.out W2 t2
    go_wp2_with fail
    refine (HRD.out _ (sx.trans t2)).mono ?_
    rintro e W3 ⟨rfl, s3⟩
    have t3 : Same V (W3.alloc (.cells #[.int .u8 a0, .int .u32 a1, .int .u64 a2, .string a3] 29)) := (t2.trans s3).alloc _
    clear c0 c1 c2 c3 c4 c5
    obtain ⟨c0, c1, c2, c3, c4, c5⟩ := HS.out _ t3
    go_wp2_with fail
    refine (HOP.out _ (sx.trans t3)).mono ?_
    rintro e W4 ⟨rfl, s4⟩
    have t5 : Same V (W4.alloc (.cells #[.int .u8 b0, .int .u32 b1, .int .u64 b2, .string b3] 29)) := (t3.trans s4).alloc _
    go_wp2_with fail
    refine (HA.out _ (sx.trans t5)).mono ?_
    rintro e W6 ⟨rfl, s6⟩
    go_wp2_with fail
    go_ret
    exact ⟨rfl, (sx.trans t5).trans s6⟩
end Go.Proofs.YtdnfcpkdibojmaaDoor
