/- Walks: PageCheck, PageNames. -/
import Derived.Test.YtdnfcpkdibojmaaDoorG8
namespace Go.Proofs.YtdnfcpkdibojmaaDoor
open Go.RowKit

set_option maxRecDepth 100000 in
set_option maxHeartbeats 2000000 in
theorem pcheck_walk (w : World) (ht : TabAt w) (p q : Int) (kd no vs : Nat) (b : ByteArray) :
    Calls Tryd.prog 4 #[frameV p q, pageV kd no vs b] w fun e w' => e = .returned (.bool true) ∧ Same w w' := by
  have HC : Hid (∀ W, Calls Tryd.prog 10 #[frameV p q, pageV kd no vs b] W fun e w' => e = .returned (.int .i64 (chkE p q kd no vs b.size)) ∧ Same W w') := check_calls p q kd no vs b
  have HR : Hid (∀ W, Calls Tryd.prog 11 #[frameV p q, pageV kd no vs b] W fun e w' => e = .returned (.int .i64 (chkE p q kd no vs b.size)) ∧ Same W w') := rcheck_calls p q kd no vs b
  have HA : Hid (∀ W, Same w W → Calls Tryd.prog 9 #[] W fun e w' => e = .returned (.bool true) ∧ Same W w') := fun W h => awake_calls W (ht.same h)
  generalize chkE p q kd no vs b.size = E at *
  have hEE : (E == E) = true := by simp
  obtain ⟨V, hV⟩ : ∃ V, V = ((w.alloc (.cells #[.int .i64 p, .int .i64 q] 24)).alloc (.cells #[.int .u8 kd, .int .u32 no, .int .u64 vs, .string b] 29)) := ⟨_, rfl⟩
  have sx : Same w V := by rw [hV]; exact ((Fr.refl _ w).alloc _).alloc _
  have HS : Hid (∀ W, Same V W → W.cell? ⟨w.heap.size, 0, none⟩ = some (.int .i64 p) ∧ W.cell? ⟨w.heap.size, 1, none⟩ = some (.int .i64 q) ∧ W.cell? ⟨w.heap.size + 1, 0, none⟩ = some (.int .u8 kd) ∧ W.cell? ⟨w.heap.size + 1, 1, none⟩ = some (.int .u32 no) ∧ W.cell? ⟨w.heap.size + 1, 2, none⟩ = some (.int .u64 vs) ∧ W.cell? ⟨w.heap.size + 1, 3, none⟩ = some (.string b)) := by
    intro W h
    refine ⟨h.keep ?_, h.keep ?_, h.keep ?_, h.keep ?_, h.keep ?_, h.keep ?_⟩ <;> (rw [hV]; simp)
  have hd : Same V V.drew := Fr.drew (Fr.refl _ V)
  clear ht
  go_enter Tryd.func4, Tryd.ntmps4
  go_wp2_with fail
  rw [← hV]
  clear hV
  go_region_held3 (fun w' => w'.cell? ⟨w.heap.size, 0, none⟩ = some (.int .i64 p) ∧ w'.cell? ⟨w.heap.size, 1, none⟩ = some (.int .i64 q) ∧ w'.cell? ⟨w.heap.size + 1, 0, none⟩ = some (.int .u8 kd) ∧ w'.cell? ⟨w.heap.size + 1, 1, none⟩ = some (.int .u32 no) ∧ w'.cell? ⟨w.heap.size + 1, 2, none⟩ = some (.int .u64 vs) ∧ w'.cell? ⟨w.heap.size + 1, 3, none⟩ = some (.string b)) (first | exact HS.out _ hd | exact HS.out _ t3 | exact HS.out _ t2 | exact HS.out _ t1)
    (first | (go_at_call 9; refine (HA.out _ (sx.trans t2)).mono ?_; rintro e W3 ⟨rfl, s3⟩; have t3 := t2.trans s3) | (go_at_call 10; refine (HC.out _).mono ?_; rintro e W1 ⟨rfl, s1⟩; have t1 := hd.trans s1) | (go_at_call 11; refine (HR.out _).mono ?_; rintro e W2 ⟨rfl, s2⟩; have t2 := t1.trans s2))
  go_wp2_with fail
  go_ret
  exact ⟨rfl, sx.trans t3⟩

set_option maxRecDepth 100000 in
set_option maxHeartbeats 2000000 in
theorem pnames_walk (w : World) (ht : TabAt w) :
    Calls Tryd.prog 3 #[] w fun e w' => e = .returned (.bool true) ∧ Same w w' := by
  have HA : Hid (∀ W, Same w W → Calls Tryd.prog 9 #[] W fun e w' => e = .returned (.bool true) ∧ Same W w') := fun W h => awake_calls W (ht.same h)
  clear ht
  go_enter Tryd.func3, Tryd.ntmps3
  go_wp2_with fail
  refine (HA.out _ (Fr.refl _ _)).mono ?_
  rintro e W1 ⟨rfl, s1⟩
  go_wp2_with fail
  go_ret
  exact ⟨rfl, s1⟩
end Go.Proofs.YtdnfcpkdibojmaaDoor
