/- free: the walk of FreeBodies. -/
import Derived.Test.YtadmkeadggcipaaII
namespace Go.Proofs.Ytadmkeadggcipaa
open Go.RowKit Go.Maps

set_option maxRecDepth 100000 in
set_option maxHeartbeats 2000000 in
theorem fbodies_walk {p q : Int} {pa : Option Addr} {pb po cp next : Nat} {ns : List Nat} (w : World) (h : NIn w pa pb po cp ns) (hn : ns.length ≤ 1099511627000) (hx : next < 4294967296) :
    Calls Try.prog 4 #[frameV p q, .int .u32 (next : Int), .slice pa ns.length cp] w fun e w' => e = .returned (.bool true) ∧ Same w w' := by
  obtain ⟨V, hV⟩ : ∃ V, V = w.alloc (.cells #[.int .i64 p, .int .i64 q] 23) := ⟨_, rfl⟩
  have sx : Same w V := by rw [hV]; exact (Fr.refl _ w).alloc _
  have c0 : V.cell? ⟨w.heap.size, 0, none⟩ = some (.int .i64 p) := by rw [hV]; simp
  have c1 : V.cell? ⟨w.heap.size, 1, none⟩ = some (.int .i64 q) := by rw [hV]; simp
  have HC : Hid (∀ W, Same V W → W.cell? ⟨w.heap.size, 0, none⟩ = some (.int .i64 p) ∧ W.cell? ⟨w.heap.size, 1, none⟩ = some (.int .i64 q)) := fun W h => ⟨h.keep c0, h.keep c1⟩
  have HIn : Hid (∀ W, Same V W → NIn W pa pb po cp ns) := fun W s => h.same (sx.trans s)
  have HR : Hid (∀ W, Same V W → Calls Try.prog 10 #[.agg #[.int .i64 p, .int .i64 q], .int .u32 (next : Int), .slice pa ns.length cp] W fun e w' => e = .returned (.tuple #[.string (bodyS p q next ns), .int .i64 (bodyE p q next ns)]) ∧ Same W w') := fun W s => rbody_calls W (HIn.out W s).row (by omega) hx
  have HB : Hid (∀ W g c B, LentN W B g c ns → Calls Try.prog 12 #[.agg #[.int .i64 p, .int .i64 q], .int .u32 (next : Int), .slice (some ⟨g, 0, none⟩) ns.length c] W fun e w' => e = .returned (.tuple #[.string (bodyS p q next ns), .int .i64 (bodyE p q next ns)]) ∧ Same W w') := fun W g c B hl => fbody_calls W (LentN.ns hl) (by omega) hx
  have HL : Hid (∀ W, Same V W → Calls Try.prog 11 #[.slice pa ns.length cp] W fun e w' => ∃ g c, e = .returned (.slice (some ⟨g, 0, none⟩) ns.length c) ∧ LentN w' W.heap.size g c ns ∧ Same W w') := fun W s => lentN_calls W (HIn.out W s) hn
  have HKp : Hid (∀ W B g c, LentN W B g c ns → Same V W → Calls Try.prog 13 #[.slice (some ⟨g, 0, none⟩) ns.length c, .slice pa ns.length cp] W fun e w' => e = .returned (.bool true) ∧ Same W w') := fun W B g c hl s => keptN_true W hl (HIn.out W s).row hn
  have HA : Hid (∀ W, Calls Try.prog 9 #[] W fun e w' => e = .returned (.bool true) ∧ Same W w') := awake9_calls
  generalize bodyS p q next ns = bs at *
  generalize bodyE p q next ns = be at *
  obtain ⟨n, hnn⟩ : ∃ n, n = ns.length := ⟨_, rfl⟩
  rw [← hnn] at HR HB HL HKp ⊢
  have HSX : Hid (Same w V) := sx
  rw [hV] at c0 c1
  clear h hn hx HIn hnn sx
  go_enter Try.func4, Try.ntmps4
  go_wp2_with fail
  rw [← hV]
  clear hV c0 c1
  refine (HR.out _ (Fr.refl _ V)).mono ?_
  rintro e W1 ⟨rfl, s1⟩
  have HS1 : Hid (Same V W1) := s1
  clear s1
  go_wp2_with fail
  refine (HL.out _ HS1.out).mono ?_
  rintro e W2 ⟨g, c, rfl, l2, s2⟩
  have HS2 : Hid (Same V W2) := HS1.out.trans s2
  have HL2 : Hid (LentN W2 W1.heap.size g c ns) := l2
  clear s2 l2
  obtain ⟨c0, c1⟩ := HC.out _ HS2.out
  go_wp2_with fail
  refine (HB.out _ _ _ _ HL2.out).mono ?_
  rintro e W3 ⟨rfl, s3⟩
  have HS3 : Hid (Same V W3) := HS2.out.trans s3
  have HL3 : Hid (LentN W3 W1.heap.size g c ns) := LentN.same HL2.out s3
  clear s3 c0 c1
  go_wp2_with fail
  refine (HKp.out _ _ _ _ HL3.out HS3.out).mono ?_
  rintro e W4 ⟨rfl, s4⟩
  have HS4 : Hid (Same V W4) := HS3.out.trans s4
  clear s4
  go_wp2_with fail
  refine (HA.out _).mono ?_
  rintro e W5 ⟨rfl, s5⟩
  have HS5 : Hid (Same w W5) := HSX.out.trans (HS4.out.trans s5)
  clear s5
  go_wp2_with fail
  go_ret
  exact ⟨rfl, HS5.out⟩
end Go.Proofs.Ytadmkeadggcipaa
