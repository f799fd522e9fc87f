/- What weighs a leaf's side. -/
import Derived.Test.YteddbkbfnafbpaaKA
namespace Go.Proofs.Yteddbkbfnafbpaa
open Go.RowKit

set_option maxRecDepth 100000 in
set_option maxHeartbeats 1000000 in
theorem side_calls {cb g n c f t x y : Nat} (w : World) (h0 : w.cell? ⟨cb, 0, none⟩ = some (.slice (some ⟨g, 0, none⟩) n c)) (h1 : w.cell? ⟨g, f, none⟩ = some (.int .i64 (x : Int))) (h2 : w.cell? ⟨g, t, none⟩ = some (.int .i64 (y : Int))) (hft : f ≤ t) (htn : t < n) (hn : n ≤ 1048577) (hxy : x ≤ y) (hy : y ≤ 4398046511104) :
    Calls Try.prog 83 #[.int .i64 (f : Int), .int .i64 (t : Int), .pointer (some ⟨cb, 0, none⟩)] w fun e w' => e = .returned (.int .i64 (1 + numN (t - f) + (y - x) : Nat)) ∧ Same w w' := by
  obtain ⟨d, rfl⟩ : ∃ d, t = f + d := ⟨t - f, by omega⟩
  obtain ⟨v, rfl⟩ : ∃ v, y = x + v := ⟨y - x, by omega⟩
  rw [show f + d - f = d from by omega, show x + v - x = v from by omega]
  have H : Hid (∀ W, Calls Try.prog 80 #[.int .i64 (d : Int)] W fun e w' => e = .returned (.int .i64 (1 + numN d : Nat)) ∧ w' = W) := fun W => head_calls d W (by omega)
  have hb := (numN_le (n := d) (by omega)).2
  obtain ⟨q, hq⟩ : ∃ q, q = 1 + numN d := ⟨_, rfl⟩
  rw [← hq] at H ⊢
  have hq2 : q ≤ 5 := by omega
  obtain ⟨t, ht⟩ : ∃ t, t = f + d := ⟨_, rfl⟩
  obtain ⟨y, hyy⟩ : ∃ y, y = x + v := ⟨_, rfl⟩
  rw [← ht] at h2 htn ⊢
  rw [← hyy] at h2 hy
  have e1 : RowKit.wrap64 ((t : Int) - (f : Int)) = (d : Int) := by unfold RowKit.wrap64; omega
  have e2 : (t : Int) - (f : Int) = (d : Int) := by omega
  have e3 : IntKind.i64.wrap (d : Int) = (d : Int) := by rw [IntKind.wrap_i64]; omega
  have e4 : IntKind.i64.wrap ((t : Int) - (f : Int)) = (d : Int) := by rw [e2, e3]
  have b0 : (0 : Int) ≤ (f : Int) := by omega
  have b1 : (f : Int) < (n : Int) := by omega
  have b2 : (0 : Int) ≤ (t : Int) := by omega
  have b3 : (t : Int) < (n : Int) := by omega
  have HT : Hid (t = f + d ∧ y = x + v) := ⟨ht, hyy⟩
  clear hb hq ht hyy hft htn
  have d0 : Same w w.drew := Fr.drew (Fr.refl _ w)
  have k1 : w.drew.cell? ⟨cb, 0, none⟩ = some (.slice (some ⟨g, 0, none⟩) n c) ∧ w.drew.cell? ⟨g, f, none⟩ = some (.int .i64 (x : Int)) ∧ w.drew.cell? ⟨g, t, none⟩ = some (.int .i64 (y : Int)) := ⟨d0.keep h0, d0.keep h1, d0.keep h2⟩
  clear h0 h1 h2
  go_enter Try.func83, Try.ntmps83
  go_wp2_with fail
  go_region_held3 (fun W => W.cell? ⟨cb, 0, none⟩ = some (.slice (some ⟨g, 0, none⟩) n c) ∧ W.cell? ⟨g, f, none⟩ = some (.int .i64 (x : Int)) ∧ W.cell? ⟨g, t, none⟩ = some (.int .i64 (y : Int))) (exact k1)
    (first | (go_at_call 80; refine (H.out _).mono ?_; rintro e W1 ⟨rfl, hW⟩; rw [hW]))
  go_wp2_with fail
  go_ret
  refine ⟨congrArg Ending.returned (congrArg (Value.int IntKind.i64) ?_), d0⟩
  obtain ⟨_, hv⟩ := HT.out
  have e5 : IntKind.i64.wrap ((q : Int) + (y : Int)) = ((q + y : Nat) : Int) := by rw [IntKind.wrap_i64]; omega
  have e6 : IntKind.i64.wrap (((q + y : Nat) : Int) - (x : Int)) = ((q + v : Nat) : Int) := by rw [IntKind.wrap_i64]; omega
  show IntKind.i64.wrap (IntKind.i64.wrap ((q : Int) + (y : Int)) - (x : Int)) = _
  rw [e5, e6]
theorem pairs_take_le (ps : List (ByteArray × ByteArray)) {i j : Nat} (h : i ≤ j) : pairsN (ps.take i) ≤ pairsN (ps.take j) := by
  have : ps.take i = (ps.take j).take i := by rw [List.take_take, Nat.min_eq_left h]
  rw [this]
  unfold pairsN
  rw [List.map_take]
  generalize (ps.take j).map (fun x => textN x.1.size + textN x.2.size) = l
  have := List.sum_append (l₁ := l.take i) (l₂ := l.drop i)
  rw [List.take_append_drop] at this
  omega
/-- What a leaf's pairs from one on up to another weigh. -/
def sideN (ps : List (ByteArray × ByteArray)) (i j : Nat) : Nat := 1 + numN (j - i) + (pairsN (ps.take j) - pairsN (ps.take i))
set_option maxRecDepth 100000 in
set_option maxHeartbeats 1000000 in
theorem scale_leaf {r : Nr} {N : Nd} {p q : Int} (w : World) (hr : PRow w r.pa r.pb r.po N.ps) (hk : N.ks.length = 0) (hn : N.ps.length ≤ 1048576) (hok : ∀ x ∈ N.ps, x.1.size ≤ 1048576 ∧ x.2.size ≤ 1048576) :
    Calls Try.prog 71 #[frameV p q, ndV r N] w fun e w' => ∃ cb, e = .returned (.func (.func 83) #[] #[.pointer (some ⟨cb, 0, none⟩)]) ∧ w.heap.size ≤ cb ∧ Same w w' ∧ (∃ g c, w'.cell? ⟨cb, 0, none⟩ = some (.slice (some ⟨g, 0, none⟩) (N.ps.length + 1) c) ∧ IAt w' g 0 (pileN N.ps N.ps.length) ∧ w.heap.size ≤ g) := by
  have HP : Hid (∀ W, Same w W → Calls Try.prog 81 #[.slice r.pa N.ps.length r.cp, .func (.func 82) #[] #[]] W fun e w' => ∃ g c, e = .returned (.slice (some ⟨g, 0, none⟩) (N.ps.length + 1) c) ∧ w'.ownsRow W.heap.size 3 1 (.slice (some ⟨g, 0, none⟩) (N.ps.length + 1) c) (N.ps.length + 1) (icells (pileN N.ps N.ps.length)) ∧ Same W w') := fun W h => piled_calls W (hr.same h) hn hok
  clear hr hok
  have hz : ¬ 0 < N.ks.length := by omega
  go_enter Try.func71, Try.ntmps71
  go_wp2_with fail
  refine (HP.out _ (((Fr.refl _ w).alloc _).alloc _)).mono ?_
  rintro e W1 ⟨g, c, rfl, own1, s1⟩
  have HS : Hid (Same w W1) := Same.trans (((Fr.refl _ w).alloc _).alloc _) s1
  have HI : Hid (IAt W1 g 0 (pileN N.ps N.ps.length)) := own_iat own1
  have HG : Hid (w.heap.size ≤ g) := by have := (own_ge own1).1; simp at this; show _ ≤ _; omega
  clear own1 s1
  go_wp2_with fail
  go_ret
  exact ⟨W1.heap.size, rfl, HS.out.size, HS.out.alloc _, g, c, by simp, HI.out.same ((Fr.refl _ W1).alloc _), HG.out⟩
end Go.Proofs.Yteddbkbfnafbpaa
