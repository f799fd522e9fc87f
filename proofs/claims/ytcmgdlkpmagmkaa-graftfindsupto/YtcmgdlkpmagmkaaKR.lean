/- The walk of GraftFinds. -/
import Derived.Test.YtcmgdlkpmagmkaaKP
import Derived.Test.YtcmgdlkpmagmkaaKQ
import Derived.Test.YtcmgdlkpmagmkaaKI
namespace Go.Proofs.Ytcmgdlkpmagmkaa
open Go.RowKit

set_option maxRecDepth 100000 in
set_option maxHeartbeats 1000000 in
theorem gfinds_walk {r : Nr} {N : Nd} {key : ByteArray} (w : World) (h : NdIn w r N) (h1 : N.ps.length ≤ 1048576) (h2 : N.ss.length ≤ 1048576) (h3 : N.ks.length ≤ 1048576) : Calls Try.prog 6 #[ndV r N, .string key] w fun e w' => e = .returned (.bool true) ∧ Same w w' := by
  have HL : Hid (∀ W, Same w W → Calls Try.prog 12 #[ndV r N] W fun e w' => ∃ gp cp gs cs gk ck, e = .returned (ndV (lentNr gp cp gs cs gk ck) N) ∧ LentAt w' W.heap.size gp cp gs cs gk ck N ∧ Same W w') := fun W s => lent_at W (h.same s) h1 h2 h3
  have HF2 : Hid (∀ W, Same w W → Calls Try.prog 14 #[ndV r N, .string key] W fun e w' => e = .returned (.tuple #[.int .i64 ((findP key N.ps 0).1 : Int), .bool (findP key N.ps 0).2]) ∧ Same W w') := fun W s => rfind_calls W (h.at_.same s).hp (by omega)
  have HW2 : Hid (∀ W, Same w W → Calls Try.prog 16 #[ndV r N, .string key] W fun e w' => e = .returned (.int .i64 (wayI key N.ss)) ∧ Same W w') := fun W s => rway_calls W (h.at_.same s).hs (by omega)
  have HF1 : Hid (∀ W gp cp gs cs gk ck B, Same w W → LentAt W B gp cp gs cs gk ck N → Calls Try.prog 13 #[ndV (lentNr gp cp gs cs gk ck) N, .string key] W fun e w' => e = .returned (.tuple #[.int .i64 ((findP key N.ps 0).1 : Int), .bool (findP key N.ps 0).2]) ∧ Same W w') := fun W gp cp gs cs gk ck B s l => find_core W (l.nd h.at_).hp (by omega)
  have HW1 : Hid (∀ W gp cp gs cs gk ck B, Same w W → LentAt W B gp cp gs cs gk ck N → Calls Try.prog 15 #[ndV (lentNr gp cp gs cs gk ck) N, .string key] W fun e w' => e = .returned (.int .i64 (wayI key N.ss)) ∧ Same W w') := fun W gp cp gs cs gk ck B s l => way_calls W (l.nd h.at_).hs (by omega)
  have HK : Hid (∀ W gp cp gs cs gk ck B, Same w W → LentAt W B gp cp gs cs gk ck N → Calls Try.prog 17 #[ndV (lentNr gp cp gs cs gk ck) N, ndV r N] W fun e w' => e = .returned (.bool true) ∧ Same W w') := fun W gp cp gs cs gk ck B s l => kept_true W l (h.at_.same s) h1 h2 h3
  generalize ((findP key N.ps 0).1 : Int) = FI at *
  generalize (findP key N.ps 0).2 = FB at *
  generalize wayI key N.ss = WI at *
  have e1 : (FI == FI) = true := by simp
  have e2 : (FB == FB) = true := by simp
  have e3 : (WI == WI) = true := by simp
  have n0 : (w.alloc (.cells #[.slice r.pa N.ps.length r.cp, .slice r.sa N.ss.length r.cs, .slice r.ka N.ks.length r.ck] 31)).cell? ⟨w.heap.size, 0, none⟩ = some (.slice r.pa N.ps.length r.cp) := by simp
  have n1 : (w.alloc (.cells #[.slice r.pa N.ps.length r.cp, .slice r.sa N.ss.length r.cs, .slice r.ka N.ks.length r.ck] 31)).cell? ⟨w.heap.size, 1, none⟩ = some (.slice r.sa N.ss.length r.cs) := by simp
  have n2 : (w.alloc (.cells #[.slice r.pa N.ps.length r.cp, .slice r.sa N.ss.length r.cs, .slice r.ka N.ks.length r.ck] 31)).cell? ⟨w.heap.size, 2, none⟩ = some (.slice r.ka N.ks.length r.ck) := by simp
  have sx : Same w (w.alloc (.cells #[.slice r.pa N.ps.length r.cp, .slice r.sa N.ss.length r.cs, .slice r.ka N.ks.length r.ck] 31)) := (Fr.refl _ w).alloc _
  clear h
  go_enter Try.func6, Try.ntmps6
  go_wp2_with fail
  generalize (w.alloc (.cells #[.slice r.pa N.ps.length r.cp, .slice r.sa N.ss.length r.cs, .slice r.ka N.ks.length r.ck] 31)) = V at *
  refine (HL.out _ sx).mono ?_
  rintro e W1 ⟨gp, cp, gs, cs, gk, ck, rfl, l1, s1⟩
  have t1 := sx.trans s1
  have n0 := s1.keep n0
  have n1 := s1.keep n1
  have n2 := s1.keep n2
  have HLA : Hid (LentAt W1 V.heap.size gp cp gs cs gk ck N) := l1
  clear l1
  unfold lentNr at HF1 HW1 HK ⊢
  go_wp2_with fail
  obtain ⟨V2, hV2⟩ : ∃ V2, V2 = W1.alloc (.cells #[.slice (some ⟨gp, 0, none⟩) N.ps.length cp, .slice (some ⟨gs, 0, none⟩) N.ss.length cs, .slice (some ⟨gk, 0, none⟩) N.ks.length ck] 31) := ⟨_, rfl⟩
  obtain ⟨xb, hxb⟩ : ∃ xb, xb = W1.heap.size := ⟨_, rfl⟩
  have x0 : V2.cell? ⟨xb, 0, none⟩ = some (.slice (some ⟨gp, 0, none⟩) N.ps.length cp) := by rw [hV2, hxb]; simp
  have x1 : V2.cell? ⟨xb, 1, none⟩ = some (.slice (some ⟨gs, 0, none⟩) N.ss.length cs) := by rw [hV2, hxb]; simp
  have x2 : V2.cell? ⟨xb, 2, none⟩ = some (.slice (some ⟨gk, 0, none⟩) N.ks.length ck) := by rw [hV2, hxb]; simp
  have sv : Same W1 V2 := by rw [hV2]; exact (Fr.refl _ W1).alloc _
  rw [← hV2, ← hxb]
  clear hV2 hxb
  have n0 := sv.keep n0
  have n1 := sv.keep n1
  have n2 := sv.keep n2
  have t2 := t1.trans sv
  have HA : Hid (∀ W, Same V2 W → LentAt W V.heap.size gp cp gs cs gk ck N) := fun W s => HLA.out.same (sv.trans s)
  have HC : Hid (∀ W, Same V2 W → (W.cell? ⟨xb, 0, none⟩ = some (.slice (some ⟨gp, 0, none⟩) N.ps.length cp) ∧ W.cell? ⟨xb, 1, none⟩ = some (.slice (some ⟨gs, 0, none⟩) N.ss.length cs) ∧ W.cell? ⟨xb, 2, none⟩ = some (.slice (some ⟨gk, 0, none⟩) N.ks.length ck)) ∧ W.cell? ⟨w.heap.size, 0, none⟩ = some (.slice r.pa N.ps.length r.cp) ∧ W.cell? ⟨w.heap.size, 1, none⟩ = some (.slice r.sa N.ss.length r.cs) ∧ W.cell? ⟨w.heap.size, 2, none⟩ = some (.slice r.ka N.ks.length r.ck)) := fun W s => ⟨⟨s.keep x0, s.keep x1, s.keep x2⟩, s.keep n0, s.keep n1, s.keep n2⟩
  clear HLA HL
  refine (HF1.out _ _ _ _ _ _ _ _ t2 (HA.out _ (Fr.refl _ _))).mono ?_
  rintro e W2 ⟨rfl, s2⟩
  clear x0 x1 x2 n0 n1 n2
  obtain ⟨⟨x0, x1, x2⟩, n0, n1, n2⟩ := HC.out _ s2
  go_wp2_with fail
  refine (HF2.out _ (t2.trans s2)).mono ?_
  rintro e W3 ⟨rfl, s3⟩
  have s3 := s2.trans s3
  clear x0 x1 x2 n0 n1 n2
  obtain ⟨⟨x0, x1, x2⟩, n0, n1, n2⟩ := HC.out _ s3
  go_wp2_with fail
  have HAW : Hid (∀ W, Calls Try.prog 9 #[] W fun e w' => e = .returned (.bool true) ∧ Same W w') := awake_calls
  have d0 : Same V2 W3.drew := Fr.drew s3
  clear x0 x1 x2 n0 n1 n2
  go_region_held3 (fun W => (W.cell? ⟨xb, 0, none⟩ = some (.slice (some ⟨gp, 0, none⟩) N.ps.length cp) ∧ W.cell? ⟨xb, 1, none⟩ = some (.slice (some ⟨gs, 0, none⟩) N.ss.length cs) ∧ W.cell? ⟨xb, 2, none⟩ = some (.slice (some ⟨gk, 0, none⟩) N.ks.length ck)) ∧ W.cell? ⟨w.heap.size, 0, none⟩ = some (.slice r.pa N.ps.length r.cp) ∧ W.cell? ⟨w.heap.size, 1, none⟩ = some (.slice r.sa N.ss.length r.cs) ∧ W.cell? ⟨w.heap.size, 2, none⟩ = some (.slice r.ka N.ks.length r.ck)) (first | exact HC.out _ u4 | exact HC.out _ u3 | exact HC.out _ u2 | exact HC.out _ u1 | exact HC.out _ d0)
    (first | (go_at_call 15; refine (HW1.out _ _ _ _ _ _ _ _ (t2.trans d0) (HA.out _ d0)).mono ?_; rintro e Z1 ⟨rfl, q1⟩; have u1 := Same.trans d0 q1; clear q1) | (go_at_call 16; refine (HW2.out _ (t2.trans u1)).mono ?_; rintro e Z2 ⟨rfl, q2⟩; have u2 := Same.trans u1 q2; clear q2) | (go_at_call 17; refine (HK.out _ _ _ _ _ _ _ _ (t2.trans u2) (HA.out _ u2)).mono ?_; rintro e Z3 ⟨rfl, q3⟩; have u3 := Same.trans u2 q3; clear q3) | (go_at_call 9; refine (HAW.out _).mono ?_; rintro e Z4 ⟨rfl, q4⟩; have u4 := Same.trans u3 q4; clear q4))
  go_wp2_with fail
  go_ret
  exact ⟨rfl, t2.trans u4⟩
end Go.Proofs.Ytcmgdlkpmagmkaa
