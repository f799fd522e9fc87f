/- The document's leaf and Remove; Remove refused. -/
import Derived.Test.YtkkjalmedogmeaaB3
import Derived.Test.YtkkjalmedogmeaaB4
import Derived.Test.YtkkjalmedogmeaaKU
namespace Go.Proofs.Ytkkjalmedogmeaa
open Go.RowKit

theorem leafD_eq {p q : Int} {N : Nd} : (decide (chkN p q N = 0) && leafB N) = leafG p q N := by
  unfold leafG
  by_cases hc : chkN p q N = 0
  · rw [decide_eq_true hc, Bool.true_and, Bool.true_and]
    by_cases hk : N.ks.length = 0
    · obtain ⟨h1, h2, _⟩ := chk_leaf hc hk
      rw [decide_eq_true hk]; unfold leafB; rw [h1, h2]; rfl
    · rw [decide_eq_false hk]; unfold leafB; rw [decide_eq_false hk, Bool.and_false]
  · rw [decide_eq_false hc]; rfl
theorem isK_iff (k : ByteArray) (x : ByteArray × ByteArray) : isK k x = decide (cmpB x.1 k = 0) := by
  unfold isK
  rcases cmp_cases x.1 k with ⟨h1, h2⟩ | ⟨h1, h2⟩ | ⟨h1, h2⟩
  · rw [h2]
    have := not_below h1
    rw [Bool.or_eq_false_iff] at this
    rw [show (x.1.toList == k.toList) = (k.toList == x.1.toList) from by rw [Bool.eq_iff_iff, beq_iff_eq, beq_iff_eq]; exact eq_comm, this.2]; rfl
  · rw [h2, h1]; simp
  · rw [h2]
    have := not_below h1
    rw [Bool.or_eq_false_iff] at this
    rw [this.2]; rfl
theorem wo_above {mk : Int} (k : ByteArray) : ∀ (l : List (ByteArray × ByteArray)) (pv : ByteArray), (Op.bytesLess k.toList pv.toList = true ∨ pv = k) → risesP mk pv (l.map (·.1)) = true → woK k l = l ∧ l.any (isK k) = false := by
  intro l
  induction l with
  | nil => intro pv _ _; exact ⟨rfl, rfl⟩
  | cons y l ih =>
    intro pv hp h
    rw [List.map_cons, rises_cons] at h
    have hy : Op.bytesLess k.toList y.1.toList = true := by
      rcases hp with hp | rfl
      · exact less_trans hp h.1
      · exact h.1
    obtain ⟨h1, h2⟩ := ih y.1 (Or.inl hy) h.2.2
    have hk : isK k y = false := by
      rw [isK_iff]
      rcases cmp_cases y.1 k with ⟨h3, _⟩ | ⟨h3, _⟩ | ⟨_, h3⟩
      · have := not_below hy; rw [h3] at this; cases this
      · have := not_below hy; rw [h3] at this; simp at this
      · rw [h3]; rfl
    refine ⟨?_, by rw [List.any_cons, hk, h2]; rfl⟩
    unfold woK at h1 ⊢
    rw [List.filter_cons, hk, h1]; rfl
theorem wo_del {mk : Int} (k : ByteArray) : ∀ (l : List (ByteArray × ByteArray)) (pv : ByteArray), risesP mk pv (l.map (·.1)) = true → woK k l = delR k l ∧ l.any (isK k) = (findP k l 0).2 := by
  intro l
  induction l with
  | nil => intro pv _; exact ⟨rfl, rfl⟩
  | cons y l ih =>
    intro pv h
    rw [List.map_cons, rises_cons] at h
    obtain ⟨h1, h2⟩ := ih y.1 h.2.2
    rw [find_cons, delR]
    unfold woK at h1 ⊢
    rw [List.filter_cons, List.any_cons, isK_iff]
    rcases cmp_cases y.1 k with ⟨h3, h4⟩ | ⟨h3, h4⟩ | ⟨h3, h4⟩
    · rw [h4, h1, h2]; simp
    · obtain ⟨h5, h6⟩ := wo_above (mk := mk) k l y.1 (Or.inr h3) h.2.2
      unfold woK at h5
      rw [h4, h5, h6]; simp
    · obtain ⟨h5, h6⟩ := wo_above (mk := mk) k l y.1 (Or.inl h3) h.2.2
      unfold woK at h5
      rw [h4, h5, h6]; simp
set_option maxRecDepth 100000 in
set_option maxHeartbeats 1000000 in
theorem rleaf_calls {p q : Int} {r : Nr} {N : Nd} (w : World) (h : NdAt w r N) (h1 : N.ps.length ≤ 1048576) (h2 : N.ss.length ≤ 1048576) (h3 : N.ks.length ≤ 1048576) :
    Calls Try.prog 22 #[frameV p q, ndV r N] w fun e w' => e = .returned (.bool (leafG p q N)) ∧ Same w w' := by
  have HC : Hid (∀ W, Same w W → Calls Try.prog 35 #[frameV p q, ndV r N] W fun e w' => e = .returned (.int .i64 (chkN p q N)) ∧ Same W w') := fun W s => dcheck_calls W (h.same s) h1 h2 h3
  have HL : Hid (∀ W, Calls Try.prog 36 #[ndV r N] W fun e w' => e = .returned (.bool (leafB N)) ∧ Same W w') := fun W => dleaf_calls _ _ _ _ _ _ _ _ _ W
  obtain ⟨V, hV⟩ : ∃ V, V = (w.alloc (.cells #[.int .i64 p, .int .i64 q] 23)).alloc (.cells #[.slice r.pa N.ps.length r.cp, .slice r.sa N.ss.length r.cs, .slice r.ka N.ks.length r.ck] 28) := ⟨_, rfl⟩
  have t1 : Same w V := by rw [hV]; exact ((Fr.refl _ w).alloc _).alloc _
  have a0 : V.cell? ⟨w.heap.size, 0, none⟩ = some (.int .i64 p) := by rw [hV]; simp
  have a1 : V.cell? ⟨w.heap.size, 1, none⟩ = some (.int .i64 q) := by rw [hV]; simp
  have n0 : V.cell? ⟨w.heap.size + 1, 0, none⟩ = some (.slice r.pa N.ps.length r.cp) := by rw [hV]; simp
  have n1 : V.cell? ⟨w.heap.size + 1, 1, none⟩ = some (.slice r.sa N.ss.length r.cs) := by rw [hV]; simp
  have n2 : V.cell? ⟨w.heap.size + 1, 2, none⟩ = some (.slice r.ka N.ks.length r.ck) := by rw [hV]; simp
  rw [← leafD_eq]
  clear h h1 h2 h3
  generalize leafB N = LB at *
  generalize chkN p q N = C at *
  by_cases h0 : C = 0
  · subst h0
    rw [decide_eq_true rfl, Bool.true_and]
    go_enter Try.func22, Try.ntmps22
    go_wp2_with fail
    rw [← hV]
    clear hV
    refine (HC.out _ t1).mono ?_
    rintro e W1 ⟨rfl, s1⟩
    have n0 := s1.keep n0
    have n1 := s1.keep n1
    have n2 := s1.keep n2
    go_wp2_with fail
    refine (HL.out _).mono ?_
    rintro e W2 ⟨rfl, s2⟩
    go_wp2_with fail
    go_ret
    exact ⟨rfl, (t1.trans s1).trans s2⟩
  · rw [decide_eq_false h0, Bool.false_and]
    go_enter Try.func22, Try.ntmps22
    go_wp2_with fail
    rw [← hV]
    clear hV
    refine (HC.out _ t1).mono ?_
    rintro e W1 ⟨rfl, s1⟩
    go_wp2_with fail
    go_ret
    exact ⟨rfl, t1.trans s1⟩
set_option maxRecDepth 100000 in
set_option maxHeartbeats 1000000 in
theorem remove_bad {p q E : Int} {r : Nr} {N : Nd} {k : ByteArray} (w : World) (h : NdAt w r N) (hE : askE p q (leafG p q N) = E) (h0 : ¬ E = 0) :
    Calls Try.prog 12 #[frameV p q, ndV r N, .string k] w fun e w' => e = .returned (.tuple #[nodeV none 0 0 none 0 0 none 0 0, .bool false, .int .i64 E]) ∧ Same w w' := by
  obtain ⟨b, hb⟩ : ∃ b, leafG p q N = b := ⟨_, rfl⟩
  have HI : Hid (∀ W, Same w W → Calls Try.prog 16 #[frameV p q, ndV r N] W fun e w' => e = .returned (.bool b) ∧ Same W w') := fun W s => by rw [← hb]; exact isLeafG_calls W (h.same s)
  have HA : Hid (∀ W, Calls Try.prog 15 #[frameV p q, .bool b] W fun e w' => e = .returned (.int .i64 E) ∧ Same W w') := fun W => by rw [← hE, hb]; exact askedG_calls W
  obtain ⟨V, hV⟩ : ∃ V, V = ((w.alloc (.cells #[.int .i64 p, .int .i64 q] 23)).alloc (.cells #[.slice r.pa N.ps.length r.cp, .slice r.sa N.ss.length r.cs, .slice r.ka N.ks.length r.ck] 28)).alloc (.cells #[.slice none 0 0, .slice none 0 0, .slice none 0 0] 28) := ⟨_, rfl⟩
  have H4 := heap3 w (.cells #[.int .i64 p, .int .i64 q] 23) (.cells #[.slice r.pa N.ps.length r.cp, .slice r.sa N.ss.length r.cs, .slice r.ka N.ks.length r.ck] 28) (.cells #[.slice none 0 0, .slice none 0 0, .slice none 0 0] 28)
  rw [← hV] at H4
  obtain ⟨g0, g1, g2⟩ := H4
  have t1 : Same w V := by rw [hV]; exact (((Fr.refl _ w).alloc _).alloc _).alloc _
  have HS : Hid (∀ W, Same V W → W.cell? ⟨w.heap.size, 0, none⟩ = some (.int .i64 p) ∧ W.cell? ⟨w.heap.size, 1, none⟩ = some (.int .i64 q) ∧ W.cell? ⟨w.heap.size + 1, 0, none⟩ = some (.slice r.pa N.ps.length r.cp) ∧ W.cell? ⟨w.heap.size + 1, 1, none⟩ = some (.slice r.sa N.ss.length r.cs) ∧ W.cell? ⟨w.heap.size + 1, 2, none⟩ = some (.slice r.ka N.ks.length r.ck)) := fun W s => ⟨s.keep (by rw [cell_of_row _ _ _ _ _ _ g0]; rfl), s.keep (by rw [cell_of_row _ _ _ _ _ _ g0]; rfl), s.keep (by rw [cell_of_row _ _ _ _ _ _ g1]; rfl), s.keep (by rw [cell_of_row _ _ _ _ _ _ g1]; rfl), s.keep (by rw [cell_of_row _ _ _ _ _ _ g1]; rfl)⟩
  have HG3 : Hid (∀ W, Same V W → W.heap[w.heap.size + 1 + 1]? = some (.cells #[.slice none 0 0, .slice none 0 0, .slice none 0 0] 28 (0, 0))) := fun W s => (s.block _ (lt_of_heap g2) (fun e => e)).trans g2
  have HVZ : Hid (w.heap.size + 3 ≤ V.heap.size) := by show _ ≤ _; rw [hV]; simp
  have d0 : Same V V.drew := Fr.drew (Fr.refl _ V)
  clear h g0 g1 g2 hE hb
  go_enter Try.func12, Try.ntmps12
  go_wp2_with fail
  rw [← hV]
  clear hV
  go_region_held3 (fun W => W.cell? ⟨w.heap.size, 0, none⟩ = some (.int .i64 p) ∧ W.cell? ⟨w.heap.size, 1, none⟩ = some (.int .i64 q) ∧ W.cell? ⟨w.heap.size + 1, 0, none⟩ = some (.slice r.pa N.ps.length r.cp) ∧ W.cell? ⟨w.heap.size + 1, 1, none⟩ = some (.slice r.sa N.ss.length r.cs) ∧ W.cell? ⟨w.heap.size + 1, 2, none⟩ = some (.slice r.ka N.ks.length r.ck)) (first | exact HS.out _ u2 | exact HS.out _ u1 | exact HS.out _ d0)
    (first | (go_at_call 16; refine (HI.out _ (t1.trans d0)).mono ?_; rintro e Z1 ⟨rfl, q1⟩; have u1 := Same.trans d0 q1; clear q1) | (go_at_call 15; refine (HA.out _).mono ?_; rintro e Z2 ⟨rfl, q2⟩; have u2 := Same.trans u1 q2; clear q2))
  have r6 := HG3.out _ u2
  go_wp2_with (refine wpList_store_whole (by rfl) 28 _ _ (by rfl) (w.heap.size + 1 + 1) #[.slice none 0 0, .slice none 0 0, .slice none 0 0] #[.slice none 0 0, .slice none 0 0, .slice none 0 0] 28 (by rfl) (by rfl) r6 rfl (by kernel_rfl) (by kernel_rfl) ?_; intro W7 r7 f7)
  have hz := HVZ.out
  exact bodyPost_ret (results_row_tmp2 (p := 6) (u := 7) (u2 := 8) (ty := 28) (by kernel_rfl) _ _ (w.heap.size + 1 + 1) 28 _ (0, 0) _ rfl r7 Try.underlying28 rfl (by kernel_rfl)) rfl ⟨rfl, Fr.trans (t1.trans u2) f7 (fun i hi e => by omega)⟩
end Go.Proofs.Ytkkjalmedogmeaa
