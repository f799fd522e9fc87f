/- What weighs a branch's side. -/
import Derived.Test.YtmgkdnejjemfeaaV4
namespace Go.Proofs.Ytmgkdnejjemfeaa
open Go.RowKit

set_option maxRecDepth 100000 in
set_option maxHeartbeats 1000000 in
theorem bside_calls {kb cb g n c f t x y K : Nat} (w : World) (hk : w.cell? ⟨kb, 0, none⟩ = some (.int .i64 (K : Int))) (h0 : w.cell? ⟨cb, 0, none⟩ = some (.slice (some ⟨g, 0, none⟩) n c)) (h1 : w.cell? ⟨g, f, none⟩ = some (.int .i64 (x : Int))) (h2 : w.cell? ⟨g, t, none⟩ = some (.int .i64 (y : Int))) (hft : f ≤ t) (htn : t < n) (hn : n ≤ 1048576) (hxy : x ≤ y) (hy : y ≤ 4398046511104) (hK : K ≤ 36) :
    Calls Try.prog 46 #[.int .i64 (f : Int), .int .i64 ((t + 1 : Nat) : Int), .pointer (some ⟨kb, 0, none⟩), .pointer (some ⟨cb, 0, none⟩)] w fun e w' => e = .returned (.int .i64 (1 + numN (t + 1 - f) + (t + 1 - f) * K + (y - x) : Nat)) ∧ Same w w' := by
  obtain ⟨d, hd⟩ : ∃ d, d = t + 1 - f := ⟨_, rfl⟩
  obtain ⟨v, rfl⟩ : ∃ v, y = x + v := ⟨y - x, by omega⟩
  rw [← hd, show x + v - x = v from by omega]
  have H : Hid (∀ W, Calls Try.prog 47 #[.int .i64 (d : Int)] W fun e w' => e = .returned (.int .i64 (1 + numN d : Nat)) ∧ w' = W) := fun W => head_calls d W (by omega)
  have hb := (numN_le (n := d) (by omega)).2
  obtain ⟨q, hq⟩ : ∃ q, q = 1 + numN d := ⟨_, rfl⟩
  rw [← hq] at H ⊢
  have hq2 : q ≤ 5 := by omega
  obtain ⟨M, hM⟩ : ∃ M, M = d * K := ⟨_, rfl⟩
  have hM2 : M ≤ 1048576 * 36 := by rw [hM]; exact Nat.mul_le_mul (by omega) hK
  have hM3 : (d : Int) * (K : Int) = (M : Int) := by rw [hM]; push_cast; rfl
  rw [← hM]
  obtain ⟨y, hyy⟩ : ∃ y, y = x + v := ⟨_, rfl⟩
  rw [← hyy] at h2 hy
  obtain ⟨u, hu⟩ : ∃ u, u = t + 1 := ⟨_, rfl⟩
  rw [← hu]
  have e2 : (u : Int) - (f : Int) = (d : Int) := by omega
  have e3 : IntKind.i64.wrap (d : Int) = (d : Int) := by rw [IntKind.wrap_i64]; omega
  have e4 : IntKind.i64.wrap ((u : Int) - (f : Int)) = (d : Int) := by rw [e2, e3]
  have e5 : (u : Int) - 1 = (t : Int) := by omega
  have e6 : IntKind.i64.wrap (t : Int) = (t : Int) := by rw [IntKind.wrap_i64]; omega
  have e7 : IntKind.i64.wrap ((u : Int) - 1) = (t : Int) := by rw [e5, e6]
  have e8 : IntKind.i64.wrap (M : Int) = (M : Int) := by rw [IntKind.wrap_i64]; omega
  have b0 : (0 : Int) ≤ (f : Int) := by omega
  have b1 : (f : Int) < (n : Int) := by omega
  have b2 : (0 : Int) ≤ (t : Int) := by omega
  have b3 : (t : Int) < (n : Int) := by omega
  have HT : Hid (y = x + v) := hyy
  clear hb hq hyy hft htn hd hu hM
  have d0 : Same w w.drew := Fr.drew (Fr.refl _ w)
  have k1 : w.drew.cell? ⟨kb, 0, none⟩ = some (.int .i64 (K : Int)) ∧ w.drew.cell? ⟨cb, 0, none⟩ = some (.slice (some ⟨g, 0, none⟩) n c) ∧ w.drew.cell? ⟨g, f, none⟩ = some (.int .i64 (x : Int)) ∧ w.drew.cell? ⟨g, t, none⟩ = some (.int .i64 (y : Int)) := ⟨d0.keep hk, d0.keep h0, d0.keep h1, d0.keep h2⟩
  clear hk h0 h1 h2
  go_enter Try.func46, Try.ntmps46
  go_wp2_with fail
  go_region_held3 (fun W => W.cell? ⟨kb, 0, none⟩ = some (.int .i64 (K : Int)) ∧ W.cell? ⟨cb, 0, none⟩ = some (.slice (some ⟨g, 0, none⟩) n c) ∧ W.cell? ⟨g, f, none⟩ = some (.int .i64 (x : Int)) ∧ W.cell? ⟨g, t, none⟩ = some (.int .i64 (y : Int))) (exact k1)
    (first | (go_at_call 47; refine (H.out _).mono ?_; rintro e W1 ⟨rfl, hW⟩; rw [hW]))
  go_wp2_with fail
  go_ret
  refine ⟨congrArg Ending.returned (congrArg (Value.int IntKind.i64) ?_), d0⟩
  have hv := HT.out
  have e9 : IntKind.i64.wrap ((q : Int) + (M : Int)) = ((q + M : Nat) : Int) := by rw [IntKind.wrap_i64]; omega
  have e10 : IntKind.i64.wrap (((q + M : Nat) : Int) + (y : Int)) = ((q + M + y : Nat) : Int) := by rw [IntKind.wrap_i64]; omega
  have e11 : IntKind.i64.wrap (((q + M + y : Nat) : Int) - (x : Int)) = ((q + M + v : Nat) : Int) := by rw [IntKind.wrap_i64]; omega
  show IntKind.i64.wrap (IntKind.i64.wrap (IntKind.i64.wrap ((q : Int) + (M : Int)) + (y : Int)) - (x : Int)) = _
  rw [e9, e10, e11]
/-- What a branch's kids from one on up to another weigh, with the separators between them. -/
def bsideN (K : Nat) (ss : List ByteArray) (i j : Nat) : Nat := 1 + numN (j - i) + (j - i) * K + (textsN (ss.take (j - 1)) - textsN (ss.take i))
set_option maxRecDepth 100000 in
set_option maxHeartbeats 1000000 in
theorem scale_branch {r : Nr} {N : Nd} {p q : Int} (w : World) (hr : TRow w r.sa r.sb r.so N.ss) (hk : 0 < N.ks.length) (hk2 : N.ks.length ≤ 1048576) (hn : N.ss.length ≤ 1048576) (hok : ∀ x ∈ N.ss, x.size ≤ 1048576) (hq1 : 1 ≤ q) (hq2 : q ≤ 32) :
    Calls Try.prog 23 #[frameV p q, ndV r N] w fun e w' => ∃ kb cb, e = .returned (.func (.func 46) #[] #[.pointer (some ⟨kb, 0, none⟩), .pointer (some ⟨cb, 0, none⟩)]) ∧ w.heap.size ≤ cb ∧ w.heap.size ≤ kb ∧ Same w w' ∧ w'.cell? ⟨kb, 0, none⟩ = some (.int .i64 (4 + q)) ∧ (∃ g c, w'.cell? ⟨cb, 0, none⟩ = some (.slice (some ⟨g, 0, none⟩) (N.ss.length + 1) c) ∧ IAt w' g 0 (tpileN N.ss N.ss.length) ∧ w.heap.size ≤ g) := by
  have HP : Hid (∀ W, Same w W → Calls Try.prog 44 #[.slice r.sa N.ss.length r.cs, .func (.func 45) #[] #[]] W fun e w' => ∃ g c, e = .returned (.slice (some ⟨g, 0, none⟩) (N.ss.length + 1) c) ∧ w'.ownsRow W.heap.size 3 1 (.slice (some ⟨g, 0, none⟩) (N.ss.length + 1) c) (N.ss.length + 1) (icells (tpileN N.ss N.ss.length)) ∧ Same W w') := fun W h => piledT_calls W (hr.same h) hn hok
  clear hr hok
  have hz : (0 : Int) < (N.ks.length : Int) := by omega
  go_enter Try.func23, Try.ntmps23
  go_wp2_with fail
  obtain ⟨V, hV⟩ : ∃ V, V = (((w.alloc (Obj.cells #[.int .i64 p, .int .i64 q] 23)).alloc (Obj.cells #[.slice r.pa N.ps.length r.cp, .slice r.sa N.ss.length r.cs, .slice r.ka N.ks.length r.ck] 28)).alloc (Obj.cells #[.int .i64 (4 + q)] 3)) := ⟨_, rfl⟩
  have sx : Same w V := by rw [hV]; exact (((Fr.refl _ w).alloc _).alloc _).alloc _
  have kx : V.cell? ⟨w.heap.size + 1 + 1, 0, none⟩ = some (.int .i64 (4 + q)) := by
    have := heap_alloc_new ((w.alloc (Obj.cells #[.int .i64 p, .int .i64 q] 23)).alloc (Obj.cells #[.slice r.pa N.ps.length r.cp, .slice r.sa N.ss.length r.cs, .slice r.ka N.ks.length r.ck] 28)) (Obj.cells #[.int .i64 (4 + q)] 3)
    simp only [World.size_alloc] at this
    rw [hV, cell_of_row _ _ _ _ _ _ this]; rfl
  rw [← hV]
  clear hV
  refine (HP.out _ sx).mono ?_
  rintro e W1 ⟨g, c, rfl, own1, s1⟩
  have HS : Hid (Same w W1) := Same.trans sx s1
  have HI : Hid (IAt W1 g 0 (tpileN N.ss N.ss.length)) := own_iat own1
  have HG : Hid (w.heap.size ≤ g) := by have h1 := (own_ge own1).1; have h2 := sx.size; simp only at h1; show _ ≤ _; omega
  have HKX : Hid (W1.cell? ⟨w.heap.size + 1 + 1, 0, none⟩ = some (.int .i64 (4 + q))) := s1.keep kx
  clear own1 s1 kx
  go_wp2_with fail
  go_ret
  exact ⟨w.heap.size + 1 + 1, W1.heap.size, rfl, HS.out.size, by omega, HS.out.alloc _, ((Fr.refl (fun _ => False) W1).alloc _).cell (World.block_lt_of_cell? _ _ HKX.out) (fun f => f) |>.trans HKX.out, g, c, by simp, HI.out.same ((Fr.refl _ W1).alloc _), HG.out⟩
end Go.Proofs.Ytmgkdnejjemfeaa
