/- Walks: PageBack. -/
import Derived.Test.YtdnfcpkdibojmaaDoorG8
namespace Go.Proofs.YtdnfcpkdibojmaaDoor
open Go.RowKit

set_option maxRecDepth 100000 in
set_option maxHeartbeats 2000000 in
theorem pback_walk (w : World) (ht : TabAt w) (p q : Int) (s : ByteArray) :
    Calls Tryd.prog 7 #[frameV p q, .string s] w fun e w' => e = .returned (.bool true) ∧ Same w w' := by
  have HA : Hid (∀ W, Same w W → Calls Tryd.prog 9 #[] W fun e w' => e = .returned (.bool true) ∧ Same W w') := fun W h => awake_calls W (ht.same h)
  have HR : Hid (∀ W, Same w W → Calls Tryd.prog 14 #[frameV p q, .string s] W fun e w' => e = .returned (.tuple #[readV p q s, .int .i64 (readE p q s)]) ∧ Same W w') := fun W h => read_calls p q s W (ht.same h)
  obtain ⟨V, hV⟩ : ∃ V, V = w.alloc (.cells #[.int .i64 p, .int .i64 q] 24) := ⟨_, rfl⟩
  have sx : Same w V := by rw [hV]; exact (Fr.refl _ w).alloc _
  have c0 : V.cell? ⟨w.heap.size, 0, none⟩ = some (.int .i64 p) := by rw [hV]; simp
  have c1 : V.cell? ⟨w.heap.size, 1, none⟩ = some (.int .i64 q) := by rw [hV]; simp
  by_cases hE : readE p q s = 0
  · obtain ⟨kd, no, vs, b, hv, hc, hs, hz⟩ := form_read hE
    rw [hE, hv] at HR
    have HW : Hid (∀ W, Same w W → Calls Tryd.prog 12 #[frameV p q, pageV kd no vs b] W fun e w' => e = .returned (.tuple #[.string s, .int .i64 0]) ∧ Same W w') := fun W h => by
      have := write_good hc W (ht.same h)
      rw [← hs] at this
      exact this
    clear ht hE hv hc hs
    go_enter Tryd.func7, Tryd.ntmps7
    go_wp2_with fail
    rw [← hV]
    clear hV
    refine (HR.out _ sx).mono ?_
    rintro e W1 ⟨rfl, s1⟩
    have s2 : Same W1 (W1.alloc (.cells #[.int .u8 kd, .int .u32 no, .int .u64 vs, .string b] 29)) := (Fr.refl _ W1).alloc _
    have t2 := (sx.trans s1).trans s2
    have c0 := s2.keep (s1.keep c0)
    have c1 := s2.keep (s1.keep c1)
    go_wp2_with fail
    refine (HW.out _ t2).mono ?_
    rintro e W3 ⟨rfl, s3⟩
    have t3 := t2.trans s3
    have c0 := s3.keep c0
    have c1 := s3.keep c1
    go_wp2_with fail
    refine (HA.out _ t3).mono ?_
    rintro e W4 ⟨rfl, s4⟩
    go_wp2_with fail
    go_ret
    exact ⟨rfl, t3.trans s4⟩
  · have hv : readV p q s = noPage := by unfold readV; rw [if_neg hE]
    rw [hv] at HR
    generalize readE p q s = E at *
    clear ht hv
    go_enter Tryd.func7, Tryd.ntmps7
    go_wp2_with fail
    rw [← hV]
    clear hV
    refine (HR.out _ sx).mono ?_
    rintro e W1 ⟨rfl, s1⟩
    have t1 := sx.trans s1
    have t2 : Same w (W1.alloc (.cells #[.int .u8 0, .int .u32 0, .int .u64 0, .string ⟨#[]⟩] 29)) := t1.alloc _
    go_wp2_with fail
    refine (HA.out _ t2).mono ?_
    rintro e W4 ⟨rfl, s4⟩
    go_wp2_with fail
    go_ret
    exact ⟨rfl, t2.trans s4⟩
end Go.Proofs.YtdnfcpkdibojmaaDoor
