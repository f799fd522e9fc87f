/- Merge, Borrow, Mend of halves that are joined. -/
import Derived.Test.YthbdgpclbcenoaaGreatGO1J
import Derived.Test.YthbdgpclbcenoaaGreatGO3
namespace Go.Proofs.YthbdgpclbcenoaaGreat
open Go.RowKit

set_option maxRecDepth 100000 in
set_option maxHeartbeats 1000000 in
theorem merge_ok {p q : Int} {x0 x1 x2 x3 x4 x5 x6 : Value} {N : Nd} (w : World)
    (HJ : Hid (∀ W, Same w W → Calls Tryz.prog 12 #[frameV p q, .agg #[x0, x1, x2, x3, x4, x5, x6]] W fun e w' => ∃ r, e = .returned (.tuple #[ndV r N, .int .i64 0]) ∧ MadeNd w' w.heap.size r N ∧ Same W w'))
    (HF : Hid (∀ W B r, MadeNd W B r N → Calls Tryz.prog 13 #[frameV p q, ndV r N] W fun e w' => e = .returned (.bool false) ∧ Same W w')) :
    Calls Tryz.prog 5 #[frameV p q, .agg #[x0, x1, x2, x3, x4, x5, x6]] w fun e w' => ∃ r, e = .returned (.tuple #[ndV r N, .int .i64 0]) ∧ MadeNd w' w.heap.size r N ∧ Same w w' := by
  obtain ⟨V, hV⟩ : ∃ V, V = ((w.alloc (.cells #[.int .i64 p, .int .i64 q] 23)).alloc (.cells #[x0, x1, x2, x3, x4, x5, x6] 30)).alloc (.cells #[.slice none 0 0, .slice none 0 0, .slice none 0 0] 28) := ⟨_, rfl⟩
  have t1 : Same w V := by rw [hV]; exact (((Fr.refl _ w).alloc _).alloc _).alloc _
  obtain ⟨g0, g1, g2⟩ := three_boxes w (.cells #[.int .i64 p, .int .i64 q] 23) (.cells #[x0, x1, x2, x3, x4, x5, x6] 30) (.cells #[.slice none 0 0, .slice none 0 0, .slice none 0 0] 28)
  rw [← hV] at g0 g1 g2
  have HC : Hid (∀ W, Same V W → W.cell? ⟨w.heap.size, 0, none⟩ = some (.int .i64 p) ∧ W.cell? ⟨w.heap.size, 1, none⟩ = some (.int .i64 q)) := fun W s => ⟨s.keep (by rw [cell_of_row _ _ _ _ _ _ g0]; rfl), s.keep (by rw [cell_of_row _ _ _ _ _ _ g0]; rfl)⟩
  have HG : Hid (∀ W, Same V W → W.heap[w.heap.size + 1 + 1]? = some (.cells #[.slice none 0 0, .slice none 0 0, .slice none 0 0] 28 (0, 0))) := fun W s => (s.block _ (lt_of_heap g2) (fun e => e)).trans g2
  have HZ : Hid (w.heap.size + 3 ≤ V.heap.size) := by show _ ≤ _; rw [hV]; simp
  clear g0 g1 g2
  go_enter Tryz.func5, Tryz.ntmps5
  go_wp2_with fail
  rw [← hV]
  clear hV
  refine (HJ.out _ t1).mono ?_
  rintro e W1 ⟨r, rfl, m1, s1⟩
  obtain ⟨X, hX⟩ : ∃ X, X = W1.alloc (.cells #[.slice r.pa N.ps.length r.cp, .slice r.sa N.ss.length r.cs, .slice r.ka N.ks.length r.ck] 28) := ⟨_, rfl⟩
  have sX : Same V X := by rw [hX]; exact Fr.alloc s1 _
  have rX : X.heap[W1.heap.size]? = some (.cells #[.slice r.pa N.ps.length r.cp, .slice r.sa N.ss.length r.cs, .slice r.ka N.ks.length r.ck] 28 (0, 0)) := by rw [hX]; exact heap_alloc_new W1 _
  have HM : Hid (MadeNd X w.heap.size r N) := by rw [hX]; exact ⟨m1.op.alloc _, m1.os.alloc _, m1.ok.alloc _⟩
  have HN : Hid (∀ W, Same X W → W.cell? ⟨W1.heap.size, 0, none⟩ = some (.slice r.pa N.ps.length r.cp) ∧ W.cell? ⟨W1.heap.size, 1, none⟩ = some (.slice r.sa N.ss.length r.cs) ∧ W.cell? ⟨W1.heap.size, 2, none⟩ = some (.slice r.ka N.ks.length r.ck)) := fun W s => ⟨s.keep ((cell_of_row _ _ _ _ _ _ rX).trans rfl), s.keep ((cell_of_row _ _ _ _ _ _ rX).trans rfl), s.keep ((cell_of_row _ _ _ _ _ _ rX).trans rfl)⟩
  clear m1 rX
  obtain ⟨f0, f1⟩ := HC.out _ sX
  obtain ⟨n0, n1, n2⟩ := HN.out _ (Fr.refl _ X)
  rw [hX] at f0 f1 n0 n1 n2
  go_wp2_with fail
  rw [← hX]
  rw [← hX] at f0 f1 n0 n1 n2
  clear hX
  refine (HF.out _ _ _ HM.out).mono ?_
  rintro e W2 ⟨rfl, s2⟩
  have u2 := sX.trans s2
  have r6 := HG.out _ u2
  clear f0 f1 n0 n1 n2
  obtain ⟨n0, n1, n2⟩ := HN.out _ s2
  go_wp2_with (refine wpList_store_whole (by rfl) 28 _ _ (by rfl) (w.heap.size + 1 + 1) #[.slice r.pa N.ps.length r.cp, .slice r.sa N.ss.length r.cs, .slice r.ka N.ks.length r.ck] _ 28 (by rfl) (by rfl) r6 rfl (by kernel_rfl) (by kernel_rfl) ?_; intro W7 r7 f7)
  have hm := HM.out.same s2
  exact bodyPost_ret (results_row_tmp (p := 4) (u := 5) (ty := 28) (by kernel_rfl) _ _ (w.heap.size + 1 + 1) 28 _ (0, 0) _ rfl r7 Tryz.underlying28 rfl (by kernel_rfl)) rfl ⟨r, rfl, ⟨own_frameB hm.op f7 (fun kk hk e => type_ne hm.op r6 (by decide) (by rw [hk, e] <;> rfl)), own_frameB hm.os f7 (fun kk hk e => type_ne hm.os r6 (by decide) (by rw [hk, e] <;> rfl)), own_frameB hm.ok f7 (fun kk hk e => type_ne hm.ok r6 (by decide) (by rw [hk, e] <;> rfl))⟩, Fr.trans (t1.trans u2) f7 (fun i hi e => by omega)⟩
set_option maxRecDepth 100000 in
set_option maxHeartbeats 1000000 in
theorem merge_full {p q : Int} {x0 x1 x2 x3 x4 x5 x6 : Value} {N : Nd} (w : World)
    (HJ : Hid (∀ W, Same w W → Calls Tryz.prog 12 #[frameV p q, .agg #[x0, x1, x2, x3, x4, x5, x6]] W fun e w' => ∃ r, e = .returned (.tuple #[ndV r N, .int .i64 0]) ∧ MadeNd w' w.heap.size r N ∧ Same W w'))
    (HF : Hid (∀ W B r, MadeNd W B r N → Calls Tryz.prog 13 #[frameV p q, ndV r N] W fun e w' => e = .returned (.bool true) ∧ Same W w')) :
    Calls Tryz.prog 5 #[frameV p q, .agg #[x0, x1, x2, x3, x4, x5, x6]] w fun e w' => e = .returned (.tuple #[nodeV none 0 0 none 0 0 none 0 0, .int .i64 5]) ∧ Same w w' := by
  obtain ⟨V, hV⟩ : ∃ V, V = ((w.alloc (.cells #[.int .i64 p, .int .i64 q] 23)).alloc (.cells #[x0, x1, x2, x3, x4, x5, x6] 30)).alloc (.cells #[.slice none 0 0, .slice none 0 0, .slice none 0 0] 28) := ⟨_, rfl⟩
  have t1 : Same w V := by rw [hV]; exact (((Fr.refl _ w).alloc _).alloc _).alloc _
  obtain ⟨g0, g1, g2⟩ := three_boxes w (.cells #[.int .i64 p, .int .i64 q] 23) (.cells #[x0, x1, x2, x3, x4, x5, x6] 30) (.cells #[.slice none 0 0, .slice none 0 0, .slice none 0 0] 28)
  rw [← hV] at g0 g1 g2
  have HC : Hid (∀ W, Same V W → W.cell? ⟨w.heap.size, 0, none⟩ = some (.int .i64 p) ∧ W.cell? ⟨w.heap.size, 1, none⟩ = some (.int .i64 q)) := fun W s => ⟨s.keep (by rw [cell_of_row _ _ _ _ _ _ g0]; rfl), s.keep (by rw [cell_of_row _ _ _ _ _ _ g0]; rfl)⟩
  have HG : Hid (∀ W, Same V W → W.heap[w.heap.size + 1 + 1]? = some (.cells #[.slice none 0 0, .slice none 0 0, .slice none 0 0] 28 (0, 0))) := fun W s => (s.block _ (lt_of_heap g2) (fun e => e)).trans g2
  have HZ : Hid (w.heap.size + 3 ≤ V.heap.size) := by show _ ≤ _; rw [hV]; simp
  clear g0 g1 g2
  go_enter Tryz.func5, Tryz.ntmps5
  go_wp2_with fail
  rw [← hV]
  clear hV
  refine (HJ.out _ t1).mono ?_
  rintro e W1 ⟨r, rfl, m1, s1⟩
  obtain ⟨X, hX⟩ : ∃ X, X = W1.alloc (.cells #[.slice r.pa N.ps.length r.cp, .slice r.sa N.ss.length r.cs, .slice r.ka N.ks.length r.ck] 28) := ⟨_, rfl⟩
  have sX : Same V X := by rw [hX]; exact Fr.alloc s1 _
  have rX : X.heap[W1.heap.size]? = some (.cells #[.slice r.pa N.ps.length r.cp, .slice r.sa N.ss.length r.cs, .slice r.ka N.ks.length r.ck] 28 (0, 0)) := by rw [hX]; exact heap_alloc_new W1 _
  have HM : Hid (MadeNd X w.heap.size r N) := by rw [hX]; exact ⟨m1.op.alloc _, m1.os.alloc _, m1.ok.alloc _⟩
  have HN : Hid (∀ W, Same X W → W.cell? ⟨W1.heap.size, 0, none⟩ = some (.slice r.pa N.ps.length r.cp) ∧ W.cell? ⟨W1.heap.size, 1, none⟩ = some (.slice r.sa N.ss.length r.cs) ∧ W.cell? ⟨W1.heap.size, 2, none⟩ = some (.slice r.ka N.ks.length r.ck)) := fun W s => ⟨s.keep ((cell_of_row _ _ _ _ _ _ rX).trans rfl), s.keep ((cell_of_row _ _ _ _ _ _ rX).trans rfl), s.keep ((cell_of_row _ _ _ _ _ _ rX).trans rfl)⟩
  clear m1 rX
  obtain ⟨f0, f1⟩ := HC.out _ sX
  obtain ⟨n0, n1, n2⟩ := HN.out _ (Fr.refl _ X)
  rw [hX] at f0 f1 n0 n1 n2
  go_wp2_with fail
  rw [← hX]
  rw [← hX] at f0 f1 n0 n1 n2
  clear hX
  refine (HF.out _ _ _ HM.out).mono ?_
  rintro e W2 ⟨rfl, s2⟩
  have u2 := sX.trans s2
  have r6 := HG.out _ u2
  clear f0 f1 n0 n1 n2
  go_wp2_with (refine wpList_store_whole (by rfl) 28 _ _ (by rfl) (w.heap.size + 1 + 1) #[.slice none 0 0, .slice none 0 0, .slice none 0 0] _ 28 (by rfl) (by rfl) r6 rfl (by kernel_rfl) (by kernel_rfl) ?_; intro W7 r7 f7)
  exact bodyPost_ret (results_row_tmp (p := 4) (u := 5) (ty := 28) (by kernel_rfl) _ _ (w.heap.size + 1 + 1) 28 _ (0, 0) _ rfl r7 Tryz.underlying28 rfl (by kernel_rfl)) rfl ⟨rfl, Fr.trans (t1.trans u2) f7 (fun i hi e => by omega)⟩
end Go.Proofs.YthbdgpclbcenoaaGreat
namespace Go.Proofs.YthbdgpclbcenoaaGreat
open Go.RowKit

end Go.Proofs.YthbdgpclbcenoaaGreat
namespace Go.Proofs.YthbdgpclbcenoaaGreat
open Go.RowKit

theorem own_partG {w : World} {base : Nat} {e : TypeId} {sz n c : Nat} {ao : Option Addr} {xs : List Value} (h : w.ownsRow base e sz (.slice ao n c) n xs) (h1 : ∀ u ∈ xs, u.oneCell' = true) : PartOk w sz ⟨ao, n, c, xs⟩ := by
  refine ⟨h.1, fun hn => ?_, fun a ha j u hj => ?_, h1⟩
  · obtain ⟨_, ⟨h2, h3⟩ | ⟨g, c, cur, hv, _⟩⟩ := h
    · injection h2 with _ _ e3
      exact ⟨h3, e3⟩
    · injection hv with e1
      simp only at hn
      rw [hn] at e1; cases e1
  · obtain ⟨_, ⟨h2, h3⟩ | ⟨g, c, cur, hv, _, hh, h4, h5, h6, h7⟩⟩ := h
    · simp only at ha; rw [ha] at h2; cases h2
    · injection hv with e1
      simp only at ha hj
      rw [ha] at e1
      injection e1 with e1
      rw [e1, WideShapes.add_plain, Nat.zero_add, cell_of_row _ _ _ _ _ _ hh, ← Array.getElem?_toList]
      rw [← h7, List.getElem?_take] at hj
      split at hj
      · exact hj
      · cases hj
theorem concat2Pairs {a1 a2 : Option Addr} {n1 c1 n2 c2 : Nat} {l1 l2 : List Value} (w : World) (gb : Nat) (h1 : PartOk w 2 ⟨a1, n1, c1, l1⟩) (h2 : PartOk w 2 ⟨a2, n2, c2, l2⟩) (hg : w.heap[gb]? = some (.cells #[.slice a1 n1 c1, .slice a2 n2 c2] 24 (0, 0))) (hb : n1 + n2 ≤ 1048576) :
    Calls Tryz.prog 28 #[.slice (some ⟨gb, 0, none⟩) 2 2] w fun e w' => ∃ ao c, e = .returned (.slice ao (n1 + n2) c) ∧ w'.ownsRow w.heap.size 44 2 (.slice ao (n1 + n2) c) (n1 + n2) (l1 ++ l2) ∧ Same w w' := by
  have := concatPairs (gb := gb) (cc := 2) (L := [⟨a1, n1, c1, l1⟩, ⟨a2, n2, c2, l2⟩]) w (fun j x hx => ?_) (fun x hx => ?_) (by simp) (by simp [partsN]; omega)
  · rw [show partsN [⟨a1, n1, c1, l1⟩, ⟨a2, n2, c2, l2⟩] = n1 + n2 from by simp [partsN], show partsC [⟨a1, n1, c1, l1⟩, ⟨a2, n2, c2, l2⟩] = l1 ++ l2 from by simp [partsC]] at this
    exact this
  · rw [cell_of_row _ _ _ _ _ _ hg]
    rcases j with _ | _ | j
    · obtain rfl : _ = x := by simpa using hx
      rfl
    · obtain rfl : _ = x := by simpa using hx
      rfl
    · simp at hx
  · rcases List.mem_cons.1 hx with rfl | hx
    · exact h1
    · rcases List.mem_cons.1 hx with rfl | hx
      · exact h2
      · cases hx
theorem concat2Texts {a1 a2 : Option Addr} {n1 c1 n2 c2 : Nat} {l1 l2 : List Value} (w : World) (gb : Nat) (h1 : PartOk w 1 ⟨a1, n1, c1, l1⟩) (h2 : PartOk w 1 ⟨a2, n2, c2, l2⟩) (hg : w.heap[gb]? = some (.cells #[.slice a1 n1 c1, .slice a2 n2 c2] 25 (0, 0))) (hb : n1 + n2 ≤ 1048576) :
    Calls Tryz.prog 29 #[.slice (some ⟨gb, 0, none⟩) 2 2] w fun e w' => ∃ ao c, e = .returned (.slice ao (n1 + n2) c) ∧ w'.ownsRow w.heap.size 9 1 (.slice ao (n1 + n2) c) (n1 + n2) (l1 ++ l2) ∧ Same w w' := by
  have := concatTexts (gb := gb) (cc := 2) (L := [⟨a1, n1, c1, l1⟩, ⟨a2, n2, c2, l2⟩]) w (fun j x hx => ?_) (fun x hx => ?_) (by simp) (by simp [partsN]; omega)
  · rw [show partsN [⟨a1, n1, c1, l1⟩, ⟨a2, n2, c2, l2⟩] = n1 + n2 from by simp [partsN], show partsC [⟨a1, n1, c1, l1⟩, ⟨a2, n2, c2, l2⟩] = l1 ++ l2 from by simp [partsC]] at this
    exact this
  · rw [cell_of_row _ _ _ _ _ _ hg]
    rcases j with _ | _ | j
    · obtain rfl : _ = x := by simpa using hx
      rfl
    · obtain rfl : _ = x := by simpa using hx
      rfl
    · simp at hx
  · rcases List.mem_cons.1 hx with rfl | hx
    · exact h1
    · rcases List.mem_cons.1 hx with rfl | hx
      · exact h2
      · cases hx
theorem concat2Kids {a1 a2 : Option Addr} {n1 c1 n2 c2 : Nat} {l1 l2 : List Value} (w : World) (gb : Nat) (h1 : PartOk w 33 ⟨a1, n1, c1, l1⟩) (h2 : PartOk w 33 ⟨a2, n2, c2, l2⟩) (hg : w.heap[gb]? = some (.cells #[.slice a1 n1 c1, .slice a2 n2 c2] 26 (0, 0))) (hb : n1 + n2 ≤ 1048576) :
    Calls Tryz.prog 31 #[.slice (some ⟨gb, 0, none⟩) 2 2] w fun e w' => ∃ ao c, e = .returned (.slice ao (n1 + n2) c) ∧ w'.ownsRow w.heap.size 49 33 (.slice ao (n1 + n2) c) (n1 + n2) (l1 ++ l2) ∧ Same w w' := by
  have := concatKids (gb := gb) (cc := 2) (L := [⟨a1, n1, c1, l1⟩, ⟨a2, n2, c2, l2⟩]) w (fun j x hx => ?_) (fun x hx => ?_) (by simp) (by simp [partsN]; omega)
  · rw [show partsN [⟨a1, n1, c1, l1⟩, ⟨a2, n2, c2, l2⟩] = n1 + n2 from by simp [partsN], show partsC [⟨a1, n1, c1, l1⟩, ⟨a2, n2, c2, l2⟩] = l1 ++ l2 from by simp [partsC]] at this
    exact this
  · rw [cell_of_row _ _ _ _ _ _ hg]
    rcases j with _ | _ | j
    · obtain rfl : _ = x := by simpa using hx
      rfl
    · obtain rfl : _ = x := by simpa using hx
      rfl
    · simp at hx
  · rcases List.mem_cons.1 hx with rfl | hx
    · exact h1
    · rcases List.mem_cons.1 hx with rfl | hx
      · exact h2
      · cases hx
theorem joined_good {p q : Int} {r1 r2 : Nr} {N N1 N2 : Nd} {sp : ByteArray} {B : Nat} (w : World) (hf : frameP p q = true) (co : CutOf p q N N1 N2 sp) (hs : NdSmall N) (m1 : MadeNd w B r1 N1) (m2 : MadeNd w B r2 N2) :
    Calls Tryz.prog 12 #[frameV p q, .agg #[.slice r1.pa N1.ps.length r1.cp, .slice r1.sa N1.ss.length r1.cs, .slice r1.ka N1.ks.length r1.ck, .string sp, .slice r2.pa N2.ps.length r2.cp, .slice r2.sa N2.ss.length r2.cs, .slice r2.ka N2.ks.length r2.ck]] w fun e w' => ∃ r, e = .returned (.tuple #[ndV r N, .int .i64 0]) ∧ MadeNd w' w.heap.size r N ∧ Same w w' := by
  obtain ⟨hp, _, _⟩ := frameP_cases hf
  obtain ⟨l1, l2, l3, _, _⟩ := hs.lens
  obtain ⟨a1, a2, a3, _, _⟩ := co.s1.lens
  obtain ⟨b1, b2, b3, _, _⟩ := co.s2.lens
  have HM : Hid (∀ W, Calls Tryz.prog 41 #[frameV p q, .string sp] W fun e w' => e = .returned (.bool true) ∧ Same W w') := fun W => by
    have := mayKeyG_calls (q := q) (key := sp) W hp
    rw [decide_eq_true co.z1, decide_eq_true co.z2] at this
    exact this
  have HA := fun W => asked_calls (p := p) (q := q) W hf
  obtain ⟨r1', e1, ok1⟩ := m1.nd (q := q) co.s1 co.k1
  obtain ⟨r2', e2, ok2⟩ := m2.nd (q := q) co.s2 co.k2
  have I1 := fun W (s : Same w W) => isLeafG_calls (p := p) (q := q) W (ok1.at_.same s)
  have I2 := fun W (s : Same w W) => isLeafG_calls (p := p) (q := q) W (ok2.at_.same s)
  have J1 := fun W (s : Same w W) => isBranchG_calls (p := p) (q := q) W (ok1.at_.same s)
  have J2 := fun W (s : Same w W) => isBranchG_calls (p := p) (q := q) W (ok2.at_.same s)
  rw [e1] at I1 J1
  rw [e2] at I2 J2
  unfold leafG at I1 I2
  unfold branchG at J1 J2
  rw [decide_eq_true co.c1, Bool.true_and] at I1 J1
  rw [decide_eq_true co.c2, Bool.true_and] at I2 J2
  rcases co.kind with ⟨_, n1, n2, n3, n4, n5, n6, hps, hlt, y, l, hy, hyl⟩ | ⟨n1, n2, n3, n4, n5, hss, hks, ⟨x, hx, hx0, hxl⟩, y, hy, hyl⟩
  · have z1 : N1.ks.length = 0 := by rw [n1]; rfl
    have z2 : N2.ks.length = 0 := by rw [n2]; rfl
    rw [decide_eq_true z1] at I1
    rw [decide_eq_true z2] at I2
    rw [decide_eq_false (by omega : ¬ 0 < N1.ks.length)] at J1
    have F1 := fun W (s : Same w W) => find_core (cp := r1'.cp) (sa := r1'.sa) (ka := r1'.ka) (ns := N1.ss.length) (cs := r1'.cs) (nk := N1.ks.length) (ck := r1'.ck) (key := sp) W (ok1.at_.same s).hp (by omega)
    have F2 := fun W (s : Same w W) => find_core (cp := r2'.cp) (sa := r2'.sa) (ka := r2'.ka) (ns := N2.ss.length) (cs := r2'.cs) (nk := N2.ks.length) (ck := r2'.ck) (key := sp) W (ok2.at_.same s).hp (by omega)
    rw [find_above sp N1.ps hlt] at F1
    have f2 : (findP sp N2.ps 0).1 = 0 := by rw [hy]; exact find_firstly sp y l hyl
    rw [f2] at F2
    have F1' : ∀ W, Same w W → Calls Tryz.prog 48 #[ndV r1 N1, .string sp] W fun e w' => e = .returned (.tuple #[.int .i64 (N1.ps.length : Int), .bool false]) ∧ Same W w' := fun W s => by rw [← e1]; exact F1 W s
    have F2' : ∀ W, Same w W → Calls Tryz.prog 48 #[ndV r2 N2, .string sp] W fun e w' => e = .returned (.tuple #[.int .i64 0, .bool (findP sp N2.ps 0).2]) ∧ Same W w' := fun W s => by rw [← e2]; exact F2 W s
    have hlen : N.ps.length = N1.ps.length + N2.ps.length := by rw [hps, List.length_append]
    refine (joined_leaf (n := N1.ps.length + N2.ps.length) (cs := pcells N1.ps ++ pcells N2.ps) w I1 I2 J1 HA (fun W s => ordered_leaf W (by show N1.ss.length = 0; rw [n3]; rfl) HM (fun W2 s2 => F1' W2 (s.trans s2)) (fun W2 s2 => F2' W2 (s.trans s2))) (fun W gb s hg => concat2Pairs W gb (own_partG (m1.same s).op (pcells_one _)) (own_partG (m2.same s).op (pcells_one _)) hg (by omega))).mono ?_
    rintro e w' ⟨ao, c, rfl, o, s⟩
    refine ⟨⟨ao, 0, 0, c, none, 0, 0, 0, none, 0, 0, 0⟩, ?_, ⟨?_, ?_, ?_⟩, s⟩
    · unfold ndV; rw [hlen, n5, n6]; rfl
    · rw [hlen, hps]
      have : pcells (N1.ps ++ N2.ps) = pcells N1.ps ++ pcells N2.ps := by unfold pcells; exact List.flatMap_append
      rw [this]; exact o
    · rw [n5]; exact own_nil
    · rw [n6]; exact own_nil
  · rw [decide_eq_false (by omega : ¬ N1.ks.length = 0)] at I1
    rw [decide_eq_true n1] at J1
    rw [decide_eq_true n2] at J2
    obtain ⟨k, hk⟩ : ∃ k, N1.ss.length = k + 1 := ⟨N1.ss.length - 1, by omega⟩
    have hl3 : N.ss.length = (N1.ss.length + 1) + N2.ss.length := by rw [hss, List.length_append, List.length_cons]; omega
    have hl4 : N.ks.length = N1.ks.length + N2.ks.length := by rw [hks, List.length_append]
    have hx' : N1.ss[k]? = some x := by rw [show k = N1.ss.length - 1 by omega]; exact hx
    have HO : ∀ W, Same w W → Calls Tryz.prog 27 #[frameV p q, .agg (halvesN r1' r2' N1 N2 sp)] W fun e w' => e = .returned (.bool true) ∧ Same W w' := fun W s => ordered_branch W hk (ok1.at_.same s).hs (ok2.at_.same s).hs hx' hy hxl hyl (by omega) HM
    have ev : halvesN r1' r2' N1 N2 sp = halvesN r1 r2 N1 N2 sp := by
      have q1 := e1
      have q2 := e2
      unfold ndV nodeV at q1 q2
      injection q1 with q1
      injection q2 with q2
      have q1 := congrArg Array.toList q1
      have q2 := congrArg Array.toList q2
      simp only [List.cons.injEq, Value.slice.injEq, and_true] at q1 q2
      obtain ⟨⟨u1, u2⟩, ⟨u3, u4⟩, u5, u6⟩ := q1
      obtain ⟨⟨v1, v2⟩, ⟨v3, v4⟩, v5, v6⟩ := q2
      unfold halvesN
      rw [u1, u2.2, u3, u4.2, u5, u6.2, v1, v2.2, v3, v4.2, v5, v6.2]
    rw [ev] at HO
    refine (joined_branch (n3 := (N1.ss.length + 1) + N2.ss.length) (n4 := N1.ks.length + N2.ks.length) (cs1 := scells N1.ss ++ [.string sp]) (cs3 := (scells N1.ss ++ [.string sp]) ++ scells N2.ss) (cs4 := kcellsL N1.ks ++ kcellsL N2.ks) w I1 J1 J2 HA HO (fun W bo s hb => ?_) (fun W gb ao c B' s o hg => ?_) (fun W gb s hg => ?_)).mono ?_
    · have hpart : PartOk W 1 ⟨some ⟨bo, 0, none⟩, 1, 1, [.string sp]⟩ := ⟨rfl, fun e => (by cases e), fun a ha j u hj => by
        cases ha
        rw [WideShapes.add_plain, Nat.zero_add, cell_of_row _ _ _ _ _ _ hb, ← Array.getElem?_toList]
        exact hj, fun u hu => by simp at hu; subst hu; rfl⟩
      have := withTexts (i := N1.ss.length) W (own_partG (m1.same s).os (scells_one _)) (own_addr (m1.same s).os) hpart (Nat.le_refl _) (own_capB (m1.same s).os) (by omega)
      rw [scells_takeK, scells_dropK, List.take_length, List.drop_length] at this
      refine this.mono ?_
      rintro e w' ⟨ao, c, he, ho, hs'⟩
      exact ⟨ao, c, he, own_base (by simpa [scells] using ho) s.size, hs'⟩
    · refine (concat2Texts W gb (own_partG o (fun u hu => by
        rcases List.mem_append.1 hu with h | h
        · exact scells_one _ u h
        · simp at h; subst h; rfl)) (own_partG (m2.same s).os (scells_one _)) hg (by omega)).mono ?_
      rintro e w' ⟨ao, c, he, ho, hs'⟩
      exact ⟨ao, c, he, own_base ho s.size, hs'⟩
    · refine (concat2Kids W gb (own_partG (m1.same s).ok (kcellsL_one _)) (own_partG (m2.same s).ok (kcellsL_one _)) hg (by omega)).mono ?_
      rintro e w' ⟨ao, c, he, ho, hs'⟩
      exact ⟨ao, c, he, own_base ho s.size, hs'⟩
    · rintro e w' ⟨a3, c3, a4, c4, rfl, o3, o4, s⟩
      refine ⟨⟨none, 0, 0, 0, a3, 0, 0, c3, a4, 0, 0, c4⟩, ?_, ⟨?_, ?_, ?_⟩, s⟩
      · unfold ndV; rw [hl3, hl4, n5]; rfl
      · rw [n5]; exact own_nil
      · rw [hl3, hss]
        have : scells (N1.ss ++ sp :: N2.ss) = (scells N1.ss ++ [.string sp]) ++ scells N2.ss := by simp [scells]
        rw [this]; exact o3
      · rw [hl4, hks]
        have : kcellsL (N1.ks ++ N2.ks) = kcellsL N1.ks ++ kcellsL N2.ks := by unfold kcellsL; exact List.flatMap_append
        rw [this]; exact o4
end Go.Proofs.YthbdgpclbcenoaaGreat
namespace Go.Proofs.YthbdgpclbcenoaaGreat
open Go.RowKit

set_option maxRecDepth 100000 in
set_option maxHeartbeats 2000000 in
theorem ordered_leafF {i1 i2 : Nat} {p q : Int} {r1 r2 : Nr} {N1 N2 : Nd} {sp : ByteArray} {b1 b2 : Bool} (w : World) (hs : Hid (N1.ss.length = 0)) (hi : ¬ i1 = N1.ps.length)
    (HM : Hid (∀ W, Calls Tryz.prog 41 #[frameV p q, .string sp] W fun e w' => e = .returned (.bool true) ∧ Same W w'))
    (HF1 : Hid (∀ W, Same w W → Calls Tryz.prog 48 #[ndV r1 N1, .string sp] W fun e w' => e = .returned (.tuple #[.int .i64 (i1 : Int), .bool b1]) ∧ Same W w'))
    (HF2 : Hid (∀ W, Same w W → Calls Tryz.prog 48 #[ndV r2 N2, .string sp] W fun e w' => e = .returned (.tuple #[.int .i64 (i2 : Int), .bool b2]) ∧ Same W w')) :
    Calls Tryz.prog 27 #[frameV p q, .agg (halvesN r1 r2 N1 N2 sp)] w fun e w' => e = .returned (.bool false) ∧ Same w w' := by
  obtain ⟨V, hV⟩ : ∃ V, V = (w.alloc (.cells #[.int .i64 p, .int .i64 q] 23)).alloc (.cells (halvesN r1 r2 N1 N2 sp) 30) := ⟨_, rfl⟩
  have t1 : Same w V := by rw [hV]; exact ((Fr.refl _ w).alloc _).alloc _
  have c0 : V.cell? ⟨w.heap.size, 0, none⟩ = some (.int .i64 p) := by rw [hV]; simp
  have c1 : V.cell? ⟨w.heap.size, 1, none⟩ = some (.int .i64 q) := by rw [hV]; simp
  have HH : Hid (∀ W, Same V W → HCells W (w.heap.size + 1) r1 r2 N1 N2 sp) := fun W s => (hcells_row (by rw [hV]; exact heap_alloc2_new w _ _)).keep s
  unfold halvesN at hV ⊢
  go_enter Tryz.func27, Tryz.ntmps27
  go_wp2_with fail
  rw [← hV]
  clear hV
  obtain ⟨m0, m1, m2, m3, m4, m5, m6⟩ := HH.out _ (Fr.refl _ V)
  refine (HM.out _).mono ?_
  rintro e W1 ⟨rfl, s1⟩
  clear m0 m1 m2 m3 m4 m5 m6
  obtain ⟨m0, m1, m2, m3, m4, m5, m6⟩ := HH.out _ s1
  have hz : ¬ 0 < N1.ss.length := by have := hs.out; omega
  have e1 : ((i1 : Int) == (N1.ps.length : Int)) = false := by rw [beq_eq_false_iff_ne]; omega
  clear hi
  go_wp2_with fail
  refine (HF1.out _ (t1.trans s1)).mono ?_
  rintro e W2 ⟨rfl, s2⟩
  have s2 := s1.trans s2
  clear m0 m1 m2 m3 m4 m5 m6
  obtain ⟨m0, m1, m2, m3, m4, m5, m6⟩ := HH.out _ s2
  go_wp2_with fail
  refine (HF2.out _ (t1.trans s2)).mono ?_
  rintro e W3 ⟨rfl, s3⟩
  have s3 := s2.trans s3
  clear m0 m1 m2 m3 m4 m5 m6
  obtain ⟨m0, m1, m2, m3, m4, m5, m6⟩ := HH.out _ s3
  go_wp2_with fail
  go_ret
  exact ⟨rfl, t1.trans s3⟩
set_option maxRecDepth 100000 in
set_option maxHeartbeats 2000000 in
theorem ordered_leafG {i2 : Nat} {p q : Int} {r1 r2 : Nr} {N1 N2 : Nd} {sp : ByteArray} {b1 b2 : Bool} (w : World) (hs : Hid (N1.ss.length = 0)) (hi : ¬ i2 = 0)
    (HM : Hid (∀ W, Calls Tryz.prog 41 #[frameV p q, .string sp] W fun e w' => e = .returned (.bool true) ∧ Same W w'))
    (HF1 : Hid (∀ W, Same w W → Calls Tryz.prog 48 #[ndV r1 N1, .string sp] W fun e w' => e = .returned (.tuple #[.int .i64 (N1.ps.length : Int), .bool b1]) ∧ Same W w'))
    (HF2 : Hid (∀ W, Same w W → Calls Tryz.prog 48 #[ndV r2 N2, .string sp] W fun e w' => e = .returned (.tuple #[.int .i64 (i2 : Int), .bool b2]) ∧ Same W w')) :
    Calls Tryz.prog 27 #[frameV p q, .agg (halvesN r1 r2 N1 N2 sp)] w fun e w' => e = .returned (.bool false) ∧ Same w w' := by
  obtain ⟨V, hV⟩ : ∃ V, V = (w.alloc (.cells #[.int .i64 p, .int .i64 q] 23)).alloc (.cells (halvesN r1 r2 N1 N2 sp) 30) := ⟨_, rfl⟩
  have t1 : Same w V := by rw [hV]; exact ((Fr.refl _ w).alloc _).alloc _
  have c0 : V.cell? ⟨w.heap.size, 0, none⟩ = some (.int .i64 p) := by rw [hV]; simp
  have c1 : V.cell? ⟨w.heap.size, 1, none⟩ = some (.int .i64 q) := by rw [hV]; simp
  have HH : Hid (∀ W, Same V W → HCells W (w.heap.size + 1) r1 r2 N1 N2 sp) := fun W s => (hcells_row (by rw [hV]; exact heap_alloc2_new w _ _)).keep s
  unfold halvesN at hV ⊢
  go_enter Tryz.func27, Tryz.ntmps27
  go_wp2_with fail
  rw [← hV]
  clear hV
  obtain ⟨m0, m1, m2, m3, m4, m5, m6⟩ := HH.out _ (Fr.refl _ V)
  refine (HM.out _).mono ?_
  rintro e W1 ⟨rfl, s1⟩
  clear m0 m1 m2 m3 m4 m5 m6
  obtain ⟨m0, m1, m2, m3, m4, m5, m6⟩ := HH.out _ s1
  have hz : ¬ 0 < N1.ss.length := by have := hs.out; omega
  have e1 : ((N1.ps.length : Int) == (N1.ps.length : Int)) = true := by simp
  have e2 : ((i2 : Int) == 0) = false := by simpa using hi
  clear hi
  go_wp2_with fail
  refine (HF1.out _ (t1.trans s1)).mono ?_
  rintro e W2 ⟨rfl, s2⟩
  have s2 := s1.trans s2
  clear m0 m1 m2 m3 m4 m5 m6
  obtain ⟨m0, m1, m2, m3, m4, m5, m6⟩ := HH.out _ s2
  go_wp2_with fail
  refine (HF2.out _ (t1.trans s2)).mono ?_
  rintro e W3 ⟨rfl, s3⟩
  have s3 := s2.trans s3
  clear m0 m1 m2 m3 m4 m5 m6
  obtain ⟨m0, m1, m2, m3, m4, m5, m6⟩ := HH.out _ s3
  go_wp2_with fail
  go_ret
  exact ⟨rfl, t1.trans s3⟩
set_option maxRecDepth 100000 in
set_option maxHeartbeats 2000000 in
theorem ordered_may {p q : Int} {r1 r2 : Nr} {N1 N2 : Nd} {sp : ByteArray} (w : World)
    (HM : Hid (∀ W, Calls Tryz.prog 41 #[frameV p q, .string sp] W fun e w' => e = .returned (.bool false) ∧ Same W w')) :
    Calls Tryz.prog 27 #[frameV p q, .agg (halvesN r1 r2 N1 N2 sp)] w fun e w' => e = .returned (.bool false) ∧ Same w w' := by
  obtain ⟨V, hV⟩ : ∃ V, V = (w.alloc (.cells #[.int .i64 p, .int .i64 q] 23)).alloc (.cells (halvesN r1 r2 N1 N2 sp) 30) := ⟨_, rfl⟩
  have t1 : Same w V := by rw [hV]; exact ((Fr.refl _ w).alloc _).alloc _
  have c0 : V.cell? ⟨w.heap.size, 0, none⟩ = some (.int .i64 p) := by rw [hV]; simp
  have c1 : V.cell? ⟨w.heap.size, 1, none⟩ = some (.int .i64 q) := by rw [hV]; simp
  have HH : Hid (∀ W, Same V W → HCells W (w.heap.size + 1) r1 r2 N1 N2 sp) := fun W s => (hcells_row (by rw [hV]; exact heap_alloc2_new w _ _)).keep s
  unfold halvesN at hV ⊢
  go_enter Tryz.func27, Tryz.ntmps27
  go_wp2_with fail
  rw [← hV]
  clear hV
  obtain ⟨m0, m1, m2, m3, m4, m5, m6⟩ := HH.out _ (Fr.refl _ V)
  refine (HM.out _).mono ?_
  rintro e W1 ⟨rfl, s1⟩
  clear m0 m1 m2 m3 m4 m5 m6
  obtain ⟨m0, m1, m2, m3, m4, m5, m6⟩ := HH.out _ s1
  go_wp2_with fail
  go_ret
  exact ⟨rfl, t1.trans s1⟩
set_option maxRecDepth 100000 in
set_option maxHeartbeats 2000000 in
theorem ordered_branchF {p q : Int} {r1 r2 : Nr} {N1 N2 : Nd} {sp x y : ByteArray} {k : Nat} (w : World) (hk : N1.ss.length = k + 1) (h1 : TRow w r1.sa r1.sb r1.so N1.ss) (h2 : TRow w r2.sa r2.sb r2.so N2.ss) (hx : N1.ss[k]? = some x) (hy : N2.ss[0]? = some y) (lx : Op.bytesLess x.toList sp.toList = false) (hb : k + 1 ≤ 1048576)
    (HM : Hid (∀ W, Calls Tryz.prog 41 #[frameV p q, .string sp] W fun e w' => e = .returned (.bool true) ∧ Same W w')) :
    Calls Tryz.prog 27 #[frameV p q, .agg (halvesN r1 r2 N1 N2 sp)] w fun e w' => e = .returned (.bool false) ∧ Same w w' := by
  obtain ⟨V, hV⟩ : ∃ V, V = (w.alloc (.cells #[.int .i64 p, .int .i64 q] 23)).alloc (.cells (halvesN r1 r2 N1 N2 sp) 30) := ⟨_, rfl⟩
  have t1 : Same w V := by rw [hV]; exact ((Fr.refl _ w).alloc _).alloc _
  have c0 : V.cell? ⟨w.heap.size, 0, none⟩ = some (.int .i64 p) := by rw [hV]; simp
  have c1 : V.cell? ⟨w.heap.size, 1, none⟩ = some (.int .i64 q) := by rw [hV]; simp
  obtain ⟨p1, _⟩ := h1.place (fun e => by rw [e] at hk; simp at hk)
  obtain ⟨p2, _⟩ := h2.place (fun e => by rw [e] at hy; simp at hy)
  have x0 := h1.cells k x hx
  have y0 := h2.cells 0 y hy
  rw [Nat.add_zero] at y0
  have hl2 : 0 < N2.ss.length := (List.getElem?_eq_some_iff.1 hy).1
  have HH : Hid (∀ W, Same V W → (W.cell? ⟨w.heap.size + 1, 0, none⟩ = some (.slice r1.pa N1.ps.length r1.cp) ∧ W.cell? ⟨w.heap.size + 1, 1, none⟩ = some (.slice (some ⟨r1.sb, r1.so, none⟩) (k + 1) r1.cs) ∧ W.cell? ⟨w.heap.size + 1, 2, none⟩ = some (.slice r1.ka N1.ks.length r1.ck) ∧ W.cell? ⟨w.heap.size + 1, 3, none⟩ = some (.string sp) ∧ W.cell? ⟨w.heap.size + 1, 4, none⟩ = some (.slice r2.pa N2.ps.length r2.cp) ∧ W.cell? ⟨w.heap.size + 1, 5, none⟩ = some (.slice (some ⟨r2.sb, r2.so, none⟩) N2.ss.length r2.cs)) ∧ W.cell? ⟨r1.sb, r1.so + k, none⟩ = some (.string x) ∧ W.cell? ⟨r2.sb, r2.so, none⟩ = some (.string y)) := fun W s => by
    obtain ⟨a0, a1, a2, a3, a4, a5, a6⟩ := (hcells_row (r1 := r1) (r2 := r2) (N1 := N1) (N2 := N2) (sp := sp) (W := V) (b := w.heap.size + 1) (t := 30) (fr := (0, 0)) (by rw [hV]; exact heap_alloc2_new w _ _)).keep s
    rw [p1, hk] at a1
    rw [p2] at a5
    exact ⟨⟨a0, a1, a2, a3, a4, a5⟩, (t1.trans s).keep x0, (t1.trans s).keep y0⟩
  have e1 : ((k : Int) + 1) - 1 = (k : Int) := by omega
  have e3 : IntKind.i64.wrap (k : Int) = (k : Int) := by rw [IntKind.wrap_i64]; omega
  have b1 : (0 : Int) ≤ (k : Int) := by omega
  have b2 : (k : Int) < (k : Int) + 1 := by omega
  have b3 : (0 : Int) < (N2.ss.length : Int) := by omega
  clear h1 h2 hx hy x0 y0
  unfold halvesN at hV ⊢
  rw [p1, p2, hk] at hV ⊢
  go_enter Tryz.func27, Tryz.ntmps27
  go_wp2_with fail
  rw [← hV]
  clear hV
  refine (HM.out _).mono ?_
  rintro e W1 ⟨rfl, s1⟩
  obtain ⟨⟨m0, m1, m2, m3, m4, m5⟩, x0, y0⟩ := HH.out _ s1
  go_wp2_with fail
  go_quiet (fail)
  have sq : Same V (W1.drewN nq) := ⟨s1.os, s1.tape, s1.output, s1.size, s1.block⟩
  go_wp2_with fail
  go_ret
  exact ⟨rfl, t1.trans sq⟩
set_option maxRecDepth 100000 in
set_option maxHeartbeats 2000000 in
theorem ordered_branchG {p q : Int} {r1 r2 : Nr} {N1 N2 : Nd} {sp x y : ByteArray} {k : Nat} (w : World) (hk : N1.ss.length = k + 1) (h1 : TRow w r1.sa r1.sb r1.so N1.ss) (h2 : TRow w r2.sa r2.sb r2.so N2.ss) (hx : N1.ss[k]? = some x) (hy : N2.ss[0]? = some y) (lx : Op.bytesLess x.toList sp.toList = true) (ly : Op.bytesLess sp.toList y.toList = false) (hb : k + 1 ≤ 1048576)
    (HM : Hid (∀ W, Calls Tryz.prog 41 #[frameV p q, .string sp] W fun e w' => e = .returned (.bool true) ∧ Same W w')) :
    Calls Tryz.prog 27 #[frameV p q, .agg (halvesN r1 r2 N1 N2 sp)] w fun e w' => e = .returned (.bool false) ∧ Same w w' := by
  obtain ⟨V, hV⟩ : ∃ V, V = (w.alloc (.cells #[.int .i64 p, .int .i64 q] 23)).alloc (.cells (halvesN r1 r2 N1 N2 sp) 30) := ⟨_, rfl⟩
  have t1 : Same w V := by rw [hV]; exact ((Fr.refl _ w).alloc _).alloc _
  have c0 : V.cell? ⟨w.heap.size, 0, none⟩ = some (.int .i64 p) := by rw [hV]; simp
  have c1 : V.cell? ⟨w.heap.size, 1, none⟩ = some (.int .i64 q) := by rw [hV]; simp
  obtain ⟨p1, _⟩ := h1.place (fun e => by rw [e] at hk; simp at hk)
  obtain ⟨p2, _⟩ := h2.place (fun e => by rw [e] at hy; simp at hy)
  have x0 := h1.cells k x hx
  have y0 := h2.cells 0 y hy
  rw [Nat.add_zero] at y0
  have hl2 : 0 < N2.ss.length := (List.getElem?_eq_some_iff.1 hy).1
  have HH : Hid (∀ W, Same V W → (W.cell? ⟨w.heap.size + 1, 0, none⟩ = some (.slice r1.pa N1.ps.length r1.cp) ∧ W.cell? ⟨w.heap.size + 1, 1, none⟩ = some (.slice (some ⟨r1.sb, r1.so, none⟩) (k + 1) r1.cs) ∧ W.cell? ⟨w.heap.size + 1, 2, none⟩ = some (.slice r1.ka N1.ks.length r1.ck) ∧ W.cell? ⟨w.heap.size + 1, 3, none⟩ = some (.string sp) ∧ W.cell? ⟨w.heap.size + 1, 4, none⟩ = some (.slice r2.pa N2.ps.length r2.cp) ∧ W.cell? ⟨w.heap.size + 1, 5, none⟩ = some (.slice (some ⟨r2.sb, r2.so, none⟩) N2.ss.length r2.cs)) ∧ W.cell? ⟨r1.sb, r1.so + k, none⟩ = some (.string x) ∧ W.cell? ⟨r2.sb, r2.so, none⟩ = some (.string y)) := fun W s => by
    obtain ⟨a0, a1, a2, a3, a4, a5, a6⟩ := (hcells_row (r1 := r1) (r2 := r2) (N1 := N1) (N2 := N2) (sp := sp) (W := V) (b := w.heap.size + 1) (t := 30) (fr := (0, 0)) (by rw [hV]; exact heap_alloc2_new w _ _)).keep s
    rw [p1, hk] at a1
    rw [p2] at a5
    exact ⟨⟨a0, a1, a2, a3, a4, a5⟩, (t1.trans s).keep x0, (t1.trans s).keep y0⟩
  have e1 : ((k : Int) + 1) - 1 = (k : Int) := by omega
  have e3 : IntKind.i64.wrap (k : Int) = (k : Int) := by rw [IntKind.wrap_i64]; omega
  have b1 : (0 : Int) ≤ (k : Int) := by omega
  have b2 : (k : Int) < (k : Int) + 1 := by omega
  have b3 : (0 : Int) < (N2.ss.length : Int) := by omega
  clear h1 h2 hx hy x0 y0
  unfold halvesN at hV ⊢
  rw [p1, p2, hk] at hV ⊢
  go_enter Tryz.func27, Tryz.ntmps27
  go_wp2_with fail
  rw [← hV]
  clear hV
  refine (HM.out _).mono ?_
  rintro e W1 ⟨rfl, s1⟩
  obtain ⟨⟨m0, m1, m2, m3, m4, m5⟩, x0, y0⟩ := HH.out _ s1
  go_wp2_with fail
  go_quiet (fail)
  have sq : Same V (W1.drewN nq) := ⟨s1.os, s1.tape, s1.output, s1.size, s1.block⟩
  go_wp2_with fail
  go_ret
  exact ⟨rfl, t1.trans sq⟩
set_option maxRecDepth 100000 in
set_option maxHeartbeats 4000000 in
theorem joined_leafO {p q : Int} {r1 r2 : Nr} {N1 N2 : Nd} {sp : ByteArray} (w : World)
    (HI1 : Hid (∀ W, Same w W → Calls Tryz.prog 24 #[frameV p q, ndV r1 N1] W fun e w' => e = .returned (.bool true) ∧ Same W w'))
    (HI2 : Hid (∀ W, Same w W → Calls Tryz.prog 24 #[frameV p q, ndV r2 N2] W fun e w' => e = .returned (.bool true) ∧ Same W w'))
    (HB1 : Hid (∀ W, Same w W → Calls Tryz.prog 25 #[frameV p q, ndV r1 N1] W fun e w' => e = .returned (.bool false) ∧ Same W w'))
    (HA : Hid (∀ W, Calls Tryz.prog 26 #[frameV p q, .bool true] W fun e w' => e = .returned (.int .i64 0) ∧ Same W w'))
    (HO : Hid (∀ W, Same w W → Calls Tryz.prog 27 #[frameV p q, .agg #[.slice r1.pa N1.ps.length r1.cp, .slice r1.sa N1.ss.length r1.cs, .slice r1.ka N1.ks.length r1.ck, .string sp, .slice r2.pa N2.ps.length r2.cp, .slice r2.sa N2.ss.length r2.cs, .slice r2.ka N2.ks.length r2.ck]] W fun e w' => e = .returned (.bool false) ∧ Same W w')) :
    Calls Tryz.prog 12 #[frameV p q, .agg (halvesN r1 r2 N1 N2 sp)] w fun e w' => e = .returned (.tuple #[nodeV none 0 0 none 0 0 none 0 0, .int .i64 81]) ∧ Same w w' := by
  obtain ⟨V, hV⟩ : ∃ V, V = ((w.alloc (.cells #[.int .i64 p, .int .i64 q] 23)).alloc (.cells (halvesN r1 r2 N1 N2 sp) 30)).alloc (.cells #[.slice none 0 0, .slice none 0 0, .slice none 0 0] 28) := ⟨_, rfl⟩
  have t1 : Same w V := by rw [hV]; exact (((Fr.refl _ w).alloc _).alloc _).alloc _
  obtain ⟨g0, g1, g2⟩ := three_boxes w (.cells #[.int .i64 p, .int .i64 q] 23) (.cells (halvesN r1 r2 N1 N2 sp) 30) (.cells #[.slice none 0 0, .slice none 0 0, .slice none 0 0] 28)
  rw [← hV] at g0 g1 g2
  have c0 : V.cell? ⟨w.heap.size, 0, none⟩ = some (.int .i64 p) := by rw [cell_of_row _ _ _ _ _ _ g0]; rfl
  have c1 : V.cell? ⟨w.heap.size, 1, none⟩ = some (.int .i64 q) := by rw [cell_of_row _ _ _ _ _ _ g0]; rfl
  have HH : Hid (∀ W, Same V W → (W.cell? ⟨w.heap.size, 0, none⟩ = some (.int .i64 p) ∧ W.cell? ⟨w.heap.size, 1, none⟩ = some (.int .i64 q)) ∧ W.cell? ⟨w.heap.size + 1, 0, none⟩ = some (.slice r1.pa N1.ps.length r1.cp) ∧ W.cell? ⟨w.heap.size + 1, 1, none⟩ = some (.slice r1.sa N1.ss.length r1.cs) ∧ W.cell? ⟨w.heap.size + 1, 2, none⟩ = some (.slice r1.ka N1.ks.length r1.ck) ∧ W.cell? ⟨w.heap.size + 1, 3, none⟩ = some (.string sp) ∧ W.cell? ⟨w.heap.size + 1, 4, none⟩ = some (.slice r2.pa N2.ps.length r2.cp) ∧ W.cell? ⟨w.heap.size + 1, 5, none⟩ = some (.slice r2.sa N2.ss.length r2.cs) ∧ W.cell? ⟨w.heap.size + 1, 6, none⟩ = some (.slice r2.ka N2.ks.length r2.ck)) := fun W s => ⟨⟨s.keep c0, s.keep c1⟩, (hcells_row g1).keep s⟩
  have HG : Hid (∀ W, Same V W → W.heap[w.heap.size + 1 + 1]? = some (.cells #[.slice none 0 0, .slice none 0 0, .slice none 0 0] 28 (0, 0))) := fun W s => (s.block _ (lt_of_heap g2) (fun e => e)).trans g2
  have HZ : Hid (w.heap.size + 3 ≤ V.heap.size) := by show _ ≤ _; rw [hV]; simp
  obtain ⟨⟨f0, f1⟩, m0, m1, m2, m3, m4, m5, m6⟩ := HH.out _ (Fr.refl _ V)
  clear g0 g1 g2 c0 c1
  unfold halvesN at hV ⊢
  go_enter Tryz.func12, Tryz.ntmps12
  go_wp2_with fail
  rw [← hV]
  clear hV
  refine (HI1.out _ t1).mono ?_
  rintro e W1 ⟨rfl, s1⟩
  clear f0 f1 m0 m1 m2 m3 m4 m5 m6
  obtain ⟨⟨f0, f1⟩, m0, m1, m2, m3, m4, m5, m6⟩ := HH.out _ s1
  go_wp2_with fail
  refine (HI2.out _ (t1.trans s1)).mono ?_
  rintro e W2 ⟨rfl, s2⟩
  have s2 := s1.trans s2
  clear f0 f1 m0 m1 m2 m3 m4 m5 m6
  obtain ⟨⟨f0, f1⟩, m0, m1, m2, m3, m4, m5, m6⟩ := HH.out _ s2
  go_wp2_with fail
  refine (HB1.out _ (t1.trans s2)).mono ?_
  rintro e W3 ⟨rfl, s3⟩
  have s3 := s2.trans s3
  clear f0 f1 m0 m1 m2 m3 m4 m5 m6
  obtain ⟨⟨f0, f1⟩, m0, m1, m2, m3, m4, m5, m6⟩ := HH.out _ s3
  go_wp2_with fail
  refine (HA.out _).mono ?_
  rintro e W4 ⟨rfl, s4⟩
  have s4 := s3.trans s4
  clear f0 f1 m0 m1 m2 m3 m4 m5 m6
  obtain ⟨⟨f0, f1⟩, m0, m1, m2, m3, m4, m5, m6⟩ := HH.out _ s4
  go_wp2_with fail
  refine (HO.out _ (t1.trans s4)).mono ?_
  rintro e W5 ⟨rfl, s5⟩
  have s5 := s4.trans s5
  clear f0 f1 m0 m1 m2 m3 m4 m5 m6
  obtain ⟨⟨f0, f1⟩, m0, m1, m2, m3, m4, m5, m6⟩ := HH.out _ s5
  have r6 := HG.out _ s5
  go_wp2_with (refine wpList_store_whole (by rfl) 28 _ _ (by rfl) (w.heap.size + 1 + 1) #[.slice none 0 0, .slice none 0 0, .slice none 0 0] _ 28 (by rfl) (by rfl) r6 rfl (by kernel_rfl) (by kernel_rfl) ?_; intro W7 r7 f7)
  have hz := HZ.out
  exact bodyPost_ret (results_row_tmp (p := 4) (u := 5) (ty := 28) (by kernel_rfl) _ _ (w.heap.size + 1 + 1) 28 _ (0, 0) _ rfl r7 Tryz.underlying28 rfl (by kernel_rfl)) rfl ⟨rfl, Fr.trans (t1.trans s5) f7 (fun i hi e => by omega)⟩
set_option maxRecDepth 100000 in
set_option maxHeartbeats 40000000 in
theorem joined_branchO {p q : Int} {r1 r2 : Nr} {N1 N2 : Nd} {sp : ByteArray} (w : World)
    (HI1 : Hid (∀ W, Same w W → Calls Tryz.prog 24 #[frameV p q, ndV r1 N1] W fun e w' => e = .returned (.bool false) ∧ Same W w'))
    (HB1 : Hid (∀ W, Same w W → Calls Tryz.prog 25 #[frameV p q, ndV r1 N1] W fun e w' => e = .returned (.bool true) ∧ Same W w'))
    (HB2 : Hid (∀ W, Same w W → Calls Tryz.prog 25 #[frameV p q, ndV r2 N2] W fun e w' => e = .returned (.bool true) ∧ Same W w'))
    (HA : Hid (∀ W, Calls Tryz.prog 26 #[frameV p q, .bool true] W fun e w' => e = .returned (.int .i64 0) ∧ Same W w'))
    (HO : Hid (∀ W, Same w W → Calls Tryz.prog 27 #[frameV p q, .agg #[.slice r1.pa N1.ps.length r1.cp, .slice r1.sa N1.ss.length r1.cs, .slice r1.ka N1.ks.length r1.ck, .string sp, .slice r2.pa N2.ps.length r2.cp, .slice r2.sa N2.ss.length r2.cs, .slice r2.ka N2.ks.length r2.ck]] W fun e w' => e = .returned (.bool false) ∧ Same W w')) :
    Calls Tryz.prog 12 #[frameV p q, .agg (halvesN r1 r2 N1 N2 sp)] w fun e w' => e = .returned (.tuple #[nodeV none 0 0 none 0 0 none 0 0, .int .i64 81]) ∧ Same w w' := by
  obtain ⟨V, hV⟩ : ∃ V, V = ((w.alloc (.cells #[.int .i64 p, .int .i64 q] 23)).alloc (.cells (halvesN r1 r2 N1 N2 sp) 30)).alloc (.cells #[.slice none 0 0, .slice none 0 0, .slice none 0 0] 28) := ⟨_, rfl⟩
  have t1 : Same w V := by rw [hV]; exact (((Fr.refl _ w).alloc _).alloc _).alloc _
  obtain ⟨g0, g1, g2⟩ := three_boxes w (.cells #[.int .i64 p, .int .i64 q] 23) (.cells (halvesN r1 r2 N1 N2 sp) 30) (.cells #[.slice none 0 0, .slice none 0 0, .slice none 0 0] 28)
  rw [← hV] at g0 g1 g2
  have c0 : V.cell? ⟨w.heap.size, 0, none⟩ = some (.int .i64 p) := by rw [cell_of_row _ _ _ _ _ _ g0]; rfl
  have c1 : V.cell? ⟨w.heap.size, 1, none⟩ = some (.int .i64 q) := by rw [cell_of_row _ _ _ _ _ _ g0]; rfl
  have HH : Hid (∀ W, Same V W → (W.cell? ⟨w.heap.size, 0, none⟩ = some (.int .i64 p) ∧ W.cell? ⟨w.heap.size, 1, none⟩ = some (.int .i64 q)) ∧ W.cell? ⟨w.heap.size + 1, 0, none⟩ = some (.slice r1.pa N1.ps.length r1.cp) ∧ W.cell? ⟨w.heap.size + 1, 1, none⟩ = some (.slice r1.sa N1.ss.length r1.cs) ∧ W.cell? ⟨w.heap.size + 1, 2, none⟩ = some (.slice r1.ka N1.ks.length r1.ck) ∧ W.cell? ⟨w.heap.size + 1, 3, none⟩ = some (.string sp) ∧ W.cell? ⟨w.heap.size + 1, 4, none⟩ = some (.slice r2.pa N2.ps.length r2.cp) ∧ W.cell? ⟨w.heap.size + 1, 5, none⟩ = some (.slice r2.sa N2.ss.length r2.cs) ∧ W.cell? ⟨w.heap.size + 1, 6, none⟩ = some (.slice r2.ka N2.ks.length r2.ck)) := fun W s => ⟨⟨s.keep c0, s.keep c1⟩, (hcells_row g1).keep s⟩
  have HG : Hid (∀ W, Same V W → W.heap[w.heap.size + 1 + 1]? = some (.cells #[.slice none 0 0, .slice none 0 0, .slice none 0 0] 28 (0, 0))) := fun W s => (s.block _ (lt_of_heap g2) (fun e => e)).trans g2
  have HZ : Hid (w.heap.size + 3 ≤ V.heap.size) := by show _ ≤ _; rw [hV]; simp
  obtain ⟨⟨f0, f1⟩, m0, m1, m2, m3, m4, m5, m6⟩ := HH.out _ (Fr.refl _ V)
  clear g0 g1 g2 c0 c1
  unfold halvesN at hV ⊢
  go_enter Tryz.func12, Tryz.ntmps12
  go_wp2_with fail
  rw [← hV]
  clear hV
  refine (HI1.out _ t1).mono ?_
  rintro e W1 ⟨rfl, s1⟩
  clear f0 f1 m0 m1 m2 m3 m4 m5 m6
  obtain ⟨⟨f0, f1⟩, m0, m1, m2, m3, m4, m5, m6⟩ := HH.out _ s1
  go_wp2_with fail
  refine (HB1.out _ (t1.trans s1)).mono ?_
  rintro e W2 ⟨rfl, s2⟩
  have s2 := s1.trans s2
  clear f0 f1 m0 m1 m2 m3 m4 m5 m6
  obtain ⟨⟨f0, f1⟩, m0, m1, m2, m3, m4, m5, m6⟩ := HH.out _ s2
  go_wp2_with fail
  refine (HB2.out _ (t1.trans s2)).mono ?_
  rintro e W3 ⟨rfl, s3⟩
  have s3 := s2.trans s3
  clear f0 f1 m0 m1 m2 m3 m4 m5 m6
  obtain ⟨⟨f0, f1⟩, m0, m1, m2, m3, m4, m5, m6⟩ := HH.out _ s3
  go_wp2_with fail
  refine (HA.out _).mono ?_
  rintro e W4 ⟨rfl, s4⟩
  have s4 := s3.trans s4
  clear f0 f1 m0 m1 m2 m3 m4 m5 m6
  obtain ⟨⟨f0, f1⟩, m0, m1, m2, m3, m4, m5, m6⟩ := HH.out _ s4
  go_wp2_with fail
  refine (HO.out _ (t1.trans s4)).mono ?_
  rintro e W5 ⟨rfl, s5⟩
  have s5 := s4.trans s5
  clear f0 f1 m0 m1 m2 m3 m4 m5 m6
  obtain ⟨⟨f0, f1⟩, m0, m1, m2, m3, m4, m5, m6⟩ := HH.out _ s5
  have r6 := HG.out _ s5
  go_wp2_with (refine wpList_store_whole (by rfl) 28 _ _ (by rfl) (w.heap.size + 1 + 1) #[.slice none 0 0, .slice none 0 0, .slice none 0 0] _ 28 (by rfl) (by rfl) r6 rfl (by kernel_rfl) (by kernel_rfl) ?_; intro W7 r7 f7)
  have hz := HZ.out
  exact bodyPost_ret (results_row_tmp (p := 4) (u := 5) (ty := 28) (by kernel_rfl) _ _ (w.heap.size + 1 + 1) 28 _ (0, 0) _ rfl r7 Tryz.underlying28 rfl (by kernel_rfl)) rfl ⟨rfl, Fr.trans (t1.trans s5) f7 (fun i hi e => by omega)⟩
set_option maxRecDepth 100000 in
set_option maxHeartbeats 4000000 in
theorem joined_sA {p q E : Int} {r1 r2 : Nr} {N1 N2 : Nd} {sp : ByteArray} (w : World) (hE : (E != 0) = true)
    (HI1 : Hid (∀ W, Same w W → Calls Tryz.prog 24 #[frameV p q, ndV r1 N1] W fun e w' => e = .returned (.bool false) ∧ Same W w'))
    (HB1 : Hid (∀ W, Same w W → Calls Tryz.prog 25 #[frameV p q, ndV r1 N1] W fun e w' => e = .returned (.bool false) ∧ Same W w'))
    (HA : Hid (∀ W, Calls Tryz.prog 26 #[frameV p q, .bool false] W fun e w' => e = .returned (.int .i64 E) ∧ Same W w')) :
    Calls Tryz.prog 12 #[frameV p q, .agg (halvesN r1 r2 N1 N2 sp)] w fun e w' => e = .returned (.tuple #[nodeV none 0 0 none 0 0 none 0 0, .int .i64 E]) ∧ Same w w' := by
  obtain ⟨V, hV⟩ : ∃ V, V = ((w.alloc (.cells #[.int .i64 p, .int .i64 q] 23)).alloc (.cells (halvesN r1 r2 N1 N2 sp) 30)).alloc (.cells #[.slice none 0 0, .slice none 0 0, .slice none 0 0] 28) := ⟨_, rfl⟩
  have t1 : Same w V := by rw [hV]; exact (((Fr.refl _ w).alloc _).alloc _).alloc _
  obtain ⟨g0, g1, g2⟩ := three_boxes w (.cells #[.int .i64 p, .int .i64 q] 23) (.cells (halvesN r1 r2 N1 N2 sp) 30) (.cells #[.slice none 0 0, .slice none 0 0, .slice none 0 0] 28)
  rw [← hV] at g0 g1 g2
  have c0 : V.cell? ⟨w.heap.size, 0, none⟩ = some (.int .i64 p) := by rw [cell_of_row _ _ _ _ _ _ g0]; rfl
  have c1 : V.cell? ⟨w.heap.size, 1, none⟩ = some (.int .i64 q) := by rw [cell_of_row _ _ _ _ _ _ g0]; rfl
  have HH : Hid (∀ W, Same V W → (W.cell? ⟨w.heap.size, 0, none⟩ = some (.int .i64 p) ∧ W.cell? ⟨w.heap.size, 1, none⟩ = some (.int .i64 q)) ∧ W.cell? ⟨w.heap.size + 1, 0, none⟩ = some (.slice r1.pa N1.ps.length r1.cp) ∧ W.cell? ⟨w.heap.size + 1, 1, none⟩ = some (.slice r1.sa N1.ss.length r1.cs) ∧ W.cell? ⟨w.heap.size + 1, 2, none⟩ = some (.slice r1.ka N1.ks.length r1.ck) ∧ W.cell? ⟨w.heap.size + 1, 3, none⟩ = some (.string sp) ∧ W.cell? ⟨w.heap.size + 1, 4, none⟩ = some (.slice r2.pa N2.ps.length r2.cp) ∧ W.cell? ⟨w.heap.size + 1, 5, none⟩ = some (.slice r2.sa N2.ss.length r2.cs) ∧ W.cell? ⟨w.heap.size + 1, 6, none⟩ = some (.slice r2.ka N2.ks.length r2.ck)) := fun W s => ⟨⟨s.keep c0, s.keep c1⟩, (hcells_row g1).keep s⟩
  have HG : Hid (∀ W, Same V W → W.heap[w.heap.size + 1 + 1]? = some (.cells #[.slice none 0 0, .slice none 0 0, .slice none 0 0] 28 (0, 0))) := fun W s => (s.block _ (lt_of_heap g2) (fun e => e)).trans g2
  have HZ : Hid (w.heap.size + 3 ≤ V.heap.size) := by show _ ≤ _; rw [hV]; simp
  obtain ⟨⟨f0, f1⟩, m0, m1, m2, m3, m4, m5, m6⟩ := HH.out _ (Fr.refl _ V)
  clear g0 g1 g2 c0 c1
  unfold halvesN at hV ⊢
  go_enter Tryz.func12, Tryz.ntmps12
  go_wp2_with fail
  rw [← hV]
  clear hV
  refine (HI1.out _ t1).mono ?_
  rintro e W1 ⟨rfl, s1⟩
  clear f0 f1 m0 m1 m2 m3 m4 m5 m6
  obtain ⟨⟨f0, f1⟩, m0, m1, m2, m3, m4, m5, m6⟩ := HH.out _ s1
  go_wp2_with fail
  refine (HB1.out _ (t1.trans s1)).mono ?_
  rintro e W2 ⟨rfl, s2⟩
  have s2 := s1.trans s2
  clear f0 f1 m0 m1 m2 m3 m4 m5 m6
  obtain ⟨⟨f0, f1⟩, m0, m1, m2, m3, m4, m5, m6⟩ := HH.out _ s2
  go_wp2_with fail
  refine (HA.out _).mono ?_
  rintro e W9 ⟨rfl, s9⟩
  have s9 := s2.trans s9
  clear f0 f1 m0 m1 m2 m3 m4 m5 m6
  obtain ⟨⟨f0, f1⟩, m0, m1, m2, m3, m4, m5, m6⟩ := HH.out _ s9
  have r6 := HG.out _ s9
  go_wp2_with (refine wpList_store_whole (by rfl) 28 _ _ (by rfl) (w.heap.size + 1 + 1) #[.slice none 0 0, .slice none 0 0, .slice none 0 0] _ 28 (by rfl) (by rfl) r6 rfl (by kernel_rfl) (by kernel_rfl) ?_; intro W7 r7 f7)
  have hz := HZ.out
  exact bodyPost_ret (results_row_tmp (p := 4) (u := 5) (ty := 28) (by kernel_rfl) _ _ (w.heap.size + 1 + 1) 28 _ (0, 0) _ rfl r7 Tryz.underlying28 rfl (by kernel_rfl)) rfl ⟨rfl, Fr.trans (t1.trans s9) f7 (fun i hi e => by omega)⟩
set_option maxRecDepth 100000 in
set_option maxHeartbeats 4000000 in
theorem joined_sB {p q E : Int} {r1 r2 : Nr} {N1 N2 : Nd} {sp : ByteArray} (w : World) (hE : (E != 0) = true)
    (HI1 : Hid (∀ W, Same w W → Calls Tryz.prog 24 #[frameV p q, ndV r1 N1] W fun e w' => e = .returned (.bool false) ∧ Same W w'))
    (HB1 : Hid (∀ W, Same w W → Calls Tryz.prog 25 #[frameV p q, ndV r1 N1] W fun e w' => e = .returned (.bool true) ∧ Same W w'))
    (HB2 : Hid (∀ W, Same w W → Calls Tryz.prog 25 #[frameV p q, ndV r2 N2] W fun e w' => e = .returned (.bool false) ∧ Same W w'))
    (HA : Hid (∀ W, Calls Tryz.prog 26 #[frameV p q, .bool false] W fun e w' => e = .returned (.int .i64 E) ∧ Same W w')) :
    Calls Tryz.prog 12 #[frameV p q, .agg (halvesN r1 r2 N1 N2 sp)] w fun e w' => e = .returned (.tuple #[nodeV none 0 0 none 0 0 none 0 0, .int .i64 E]) ∧ Same w w' := by
  obtain ⟨V, hV⟩ : ∃ V, V = ((w.alloc (.cells #[.int .i64 p, .int .i64 q] 23)).alloc (.cells (halvesN r1 r2 N1 N2 sp) 30)).alloc (.cells #[.slice none 0 0, .slice none 0 0, .slice none 0 0] 28) := ⟨_, rfl⟩
  have t1 : Same w V := by rw [hV]; exact (((Fr.refl _ w).alloc _).alloc _).alloc _
  obtain ⟨g0, g1, g2⟩ := three_boxes w (.cells #[.int .i64 p, .int .i64 q] 23) (.cells (halvesN r1 r2 N1 N2 sp) 30) (.cells #[.slice none 0 0, .slice none 0 0, .slice none 0 0] 28)
  rw [← hV] at g0 g1 g2
  have c0 : V.cell? ⟨w.heap.size, 0, none⟩ = some (.int .i64 p) := by rw [cell_of_row _ _ _ _ _ _ g0]; rfl
  have c1 : V.cell? ⟨w.heap.size, 1, none⟩ = some (.int .i64 q) := by rw [cell_of_row _ _ _ _ _ _ g0]; rfl
  have HH : Hid (∀ W, Same V W → (W.cell? ⟨w.heap.size, 0, none⟩ = some (.int .i64 p) ∧ W.cell? ⟨w.heap.size, 1, none⟩ = some (.int .i64 q)) ∧ W.cell? ⟨w.heap.size + 1, 0, none⟩ = some (.slice r1.pa N1.ps.length r1.cp) ∧ W.cell? ⟨w.heap.size + 1, 1, none⟩ = some (.slice r1.sa N1.ss.length r1.cs) ∧ W.cell? ⟨w.heap.size + 1, 2, none⟩ = some (.slice r1.ka N1.ks.length r1.ck) ∧ W.cell? ⟨w.heap.size + 1, 3, none⟩ = some (.string sp) ∧ W.cell? ⟨w.heap.size + 1, 4, none⟩ = some (.slice r2.pa N2.ps.length r2.cp) ∧ W.cell? ⟨w.heap.size + 1, 5, none⟩ = some (.slice r2.sa N2.ss.length r2.cs) ∧ W.cell? ⟨w.heap.size + 1, 6, none⟩ = some (.slice r2.ka N2.ks.length r2.ck)) := fun W s => ⟨⟨s.keep c0, s.keep c1⟩, (hcells_row g1).keep s⟩
  have HG : Hid (∀ W, Same V W → W.heap[w.heap.size + 1 + 1]? = some (.cells #[.slice none 0 0, .slice none 0 0, .slice none 0 0] 28 (0, 0))) := fun W s => (s.block _ (lt_of_heap g2) (fun e => e)).trans g2
  have HZ : Hid (w.heap.size + 3 ≤ V.heap.size) := by show _ ≤ _; rw [hV]; simp
  obtain ⟨⟨f0, f1⟩, m0, m1, m2, m3, m4, m5, m6⟩ := HH.out _ (Fr.refl _ V)
  clear g0 g1 g2 c0 c1
  unfold halvesN at hV ⊢
  go_enter Tryz.func12, Tryz.ntmps12
  go_wp2_with fail
  rw [← hV]
  clear hV
  refine (HI1.out _ t1).mono ?_
  rintro e W1 ⟨rfl, s1⟩
  clear f0 f1 m0 m1 m2 m3 m4 m5 m6
  obtain ⟨⟨f0, f1⟩, m0, m1, m2, m3, m4, m5, m6⟩ := HH.out _ s1
  go_wp2_with fail
  refine (HB1.out _ (t1.trans s1)).mono ?_
  rintro e W2 ⟨rfl, s2⟩
  have s2 := s1.trans s2
  clear f0 f1 m0 m1 m2 m3 m4 m5 m6
  obtain ⟨⟨f0, f1⟩, m0, m1, m2, m3, m4, m5, m6⟩ := HH.out _ s2
  go_wp2_with fail
  refine (HB2.out _ (t1.trans s2)).mono ?_
  rintro e W3 ⟨rfl, s3⟩
  have s3 := s2.trans s3
  clear f0 f1 m0 m1 m2 m3 m4 m5 m6
  obtain ⟨⟨f0, f1⟩, m0, m1, m2, m3, m4, m5, m6⟩ := HH.out _ s3
  go_wp2_with fail
  refine (HA.out _).mono ?_
  rintro e W9 ⟨rfl, s9⟩
  have s9 := s3.trans s9
  clear f0 f1 m0 m1 m2 m3 m4 m5 m6
  obtain ⟨⟨f0, f1⟩, m0, m1, m2, m3, m4, m5, m6⟩ := HH.out _ s9
  have r6 := HG.out _ s9
  go_wp2_with (refine wpList_store_whole (by rfl) 28 _ _ (by rfl) (w.heap.size + 1 + 1) #[.slice none 0 0, .slice none 0 0, .slice none 0 0] _ 28 (by rfl) (by rfl) r6 rfl (by kernel_rfl) (by kernel_rfl) ?_; intro W7 r7 f7)
  have hz := HZ.out
  exact bodyPost_ret (results_row_tmp (p := 4) (u := 5) (ty := 28) (by kernel_rfl) _ _ (w.heap.size + 1 + 1) 28 _ (0, 0) _ rfl r7 Tryz.underlying28 rfl (by kernel_rfl)) rfl ⟨rfl, Fr.trans (t1.trans s9) f7 (fun i hi e => by omega)⟩
set_option maxRecDepth 100000 in
set_option maxHeartbeats 4000000 in
theorem joined_sC {p q E : Int} {r1 r2 : Nr} {N1 N2 : Nd} {sp : ByteArray} (w : World) (hE : (E != 0) = true)
    (HI1 : Hid (∀ W, Same w W → Calls Tryz.prog 24 #[frameV p q, ndV r1 N1] W fun e w' => e = .returned (.bool true) ∧ Same W w'))
    (HI2 : Hid (∀ W, Same w W → Calls Tryz.prog 24 #[frameV p q, ndV r2 N2] W fun e w' => e = .returned (.bool false) ∧ Same W w'))
    (HB1 : Hid (∀ W, Same w W → Calls Tryz.prog 25 #[frameV p q, ndV r1 N1] W fun e w' => e = .returned (.bool false) ∧ Same W w'))
    (HA : Hid (∀ W, Calls Tryz.prog 26 #[frameV p q, .bool false] W fun e w' => e = .returned (.int .i64 E) ∧ Same W w')) :
    Calls Tryz.prog 12 #[frameV p q, .agg (halvesN r1 r2 N1 N2 sp)] w fun e w' => e = .returned (.tuple #[nodeV none 0 0 none 0 0 none 0 0, .int .i64 E]) ∧ Same w w' := by
  obtain ⟨V, hV⟩ : ∃ V, V = ((w.alloc (.cells #[.int .i64 p, .int .i64 q] 23)).alloc (.cells (halvesN r1 r2 N1 N2 sp) 30)).alloc (.cells #[.slice none 0 0, .slice none 0 0, .slice none 0 0] 28) := ⟨_, rfl⟩
  have t1 : Same w V := by rw [hV]; exact (((Fr.refl _ w).alloc _).alloc _).alloc _
  obtain ⟨g0, g1, g2⟩ := three_boxes w (.cells #[.int .i64 p, .int .i64 q] 23) (.cells (halvesN r1 r2 N1 N2 sp) 30) (.cells #[.slice none 0 0, .slice none 0 0, .slice none 0 0] 28)
  rw [← hV] at g0 g1 g2
  have c0 : V.cell? ⟨w.heap.size, 0, none⟩ = some (.int .i64 p) := by rw [cell_of_row _ _ _ _ _ _ g0]; rfl
  have c1 : V.cell? ⟨w.heap.size, 1, none⟩ = some (.int .i64 q) := by rw [cell_of_row _ _ _ _ _ _ g0]; rfl
  have HH : Hid (∀ W, Same V W → (W.cell? ⟨w.heap.size, 0, none⟩ = some (.int .i64 p) ∧ W.cell? ⟨w.heap.size, 1, none⟩ = some (.int .i64 q)) ∧ W.cell? ⟨w.heap.size + 1, 0, none⟩ = some (.slice r1.pa N1.ps.length r1.cp) ∧ W.cell? ⟨w.heap.size + 1, 1, none⟩ = some (.slice r1.sa N1.ss.length r1.cs) ∧ W.cell? ⟨w.heap.size + 1, 2, none⟩ = some (.slice r1.ka N1.ks.length r1.ck) ∧ W.cell? ⟨w.heap.size + 1, 3, none⟩ = some (.string sp) ∧ W.cell? ⟨w.heap.size + 1, 4, none⟩ = some (.slice r2.pa N2.ps.length r2.cp) ∧ W.cell? ⟨w.heap.size + 1, 5, none⟩ = some (.slice r2.sa N2.ss.length r2.cs) ∧ W.cell? ⟨w.heap.size + 1, 6, none⟩ = some (.slice r2.ka N2.ks.length r2.ck)) := fun W s => ⟨⟨s.keep c0, s.keep c1⟩, (hcells_row g1).keep s⟩
  have HG : Hid (∀ W, Same V W → W.heap[w.heap.size + 1 + 1]? = some (.cells #[.slice none 0 0, .slice none 0 0, .slice none 0 0] 28 (0, 0))) := fun W s => (s.block _ (lt_of_heap g2) (fun e => e)).trans g2
  have HZ : Hid (w.heap.size + 3 ≤ V.heap.size) := by show _ ≤ _; rw [hV]; simp
  obtain ⟨⟨f0, f1⟩, m0, m1, m2, m3, m4, m5, m6⟩ := HH.out _ (Fr.refl _ V)
  clear g0 g1 g2 c0 c1
  unfold halvesN at hV ⊢
  go_enter Tryz.func12, Tryz.ntmps12
  go_wp2_with fail
  rw [← hV]
  clear hV
  refine (HI1.out _ t1).mono ?_
  rintro e W1 ⟨rfl, s1⟩
  clear f0 f1 m0 m1 m2 m3 m4 m5 m6
  obtain ⟨⟨f0, f1⟩, m0, m1, m2, m3, m4, m5, m6⟩ := HH.out _ s1
  go_wp2_with fail
  refine (HI2.out _ (t1.trans s1)).mono ?_
  rintro e W2 ⟨rfl, s2⟩
  have s2 := s1.trans s2
  clear f0 f1 m0 m1 m2 m3 m4 m5 m6
  obtain ⟨⟨f0, f1⟩, m0, m1, m2, m3, m4, m5, m6⟩ := HH.out _ s2
  go_wp2_with fail
  refine (HB1.out _ (t1.trans s2)).mono ?_
  rintro e W3 ⟨rfl, s3⟩
  have s3 := s2.trans s3
  clear f0 f1 m0 m1 m2 m3 m4 m5 m6
  obtain ⟨⟨f0, f1⟩, m0, m1, m2, m3, m4, m5, m6⟩ := HH.out _ s3
  go_wp2_with fail
  refine (HA.out _).mono ?_
  rintro e W9 ⟨rfl, s9⟩
  have s9 := s3.trans s9
  clear f0 f1 m0 m1 m2 m3 m4 m5 m6
  obtain ⟨⟨f0, f1⟩, m0, m1, m2, m3, m4, m5, m6⟩ := HH.out _ s9
  have r6 := HG.out _ s9
  go_wp2_with (refine wpList_store_whole (by rfl) 28 _ _ (by rfl) (w.heap.size + 1 + 1) #[.slice none 0 0, .slice none 0 0, .slice none 0 0] _ 28 (by rfl) (by rfl) r6 rfl (by kernel_rfl) (by kernel_rfl) ?_; intro W7 r7 f7)
  have hz := HZ.out
  exact bodyPost_ret (results_row_tmp (p := 4) (u := 5) (ty := 28) (by kernel_rfl) _ _ (w.heap.size + 1 + 1) 28 _ (0, 0) _ rfl r7 Tryz.underlying28 rfl (by kernel_rfl)) rfl ⟨rfl, Fr.trans (t1.trans s9) f7 (fun i hi e => by omega)⟩
set_option maxRecDepth 100000 in
set_option maxHeartbeats 1000000 in
theorem merge_bad {p q E : Int} {x0 x1 x2 x3 x4 x5 x6 : Value} (w : World) (hE : (E != 0) = true)
    (HJ : Hid (∀ W, Same w W → Calls Tryz.prog 12 #[frameV p q, .agg #[x0, x1, x2, x3, x4, x5, x6]] W fun e w' => e = .returned (.tuple #[nodeV none 0 0 none 0 0 none 0 0, .int .i64 E]) ∧ Same W w')) :
    Calls Tryz.prog 5 #[frameV p q, .agg #[x0, x1, x2, x3, x4, x5, x6]] w fun e w' => e = .returned (.tuple #[nodeV none 0 0 none 0 0 none 0 0, .int .i64 E]) ∧ Same w w' := by
  obtain ⟨V, hV⟩ : ∃ V, V = ((w.alloc (.cells #[.int .i64 p, .int .i64 q] 23)).alloc (.cells #[x0, x1, x2, x3, x4, x5, x6] 30)).alloc (.cells #[.slice none 0 0, .slice none 0 0, .slice none 0 0] 28) := ⟨_, rfl⟩
  have t1 : Same w V := by rw [hV]; exact (((Fr.refl _ w).alloc _).alloc _).alloc _
  obtain ⟨g0, g1, g2⟩ := three_boxes w (.cells #[.int .i64 p, .int .i64 q] 23) (.cells #[x0, x1, x2, x3, x4, x5, x6] 30) (.cells #[.slice none 0 0, .slice none 0 0, .slice none 0 0] 28)
  rw [← hV] at g0 g1 g2
  have HC : Hid (∀ W, Same V W → W.cell? ⟨w.heap.size, 0, none⟩ = some (.int .i64 p) ∧ W.cell? ⟨w.heap.size, 1, none⟩ = some (.int .i64 q)) := fun W s => ⟨s.keep (by rw [cell_of_row _ _ _ _ _ _ g0]; rfl), s.keep (by rw [cell_of_row _ _ _ _ _ _ g0]; rfl)⟩
  have HG : Hid (∀ W, Same V W → W.heap[w.heap.size + 1 + 1]? = some (.cells #[.slice none 0 0, .slice none 0 0, .slice none 0 0] 28 (0, 0))) := fun W s => (s.block _ (lt_of_heap g2) (fun e => e)).trans g2
  have HZ : Hid (w.heap.size + 3 ≤ V.heap.size) := by show _ ≤ _; rw [hV]; simp
  clear g0 g1 g2
  go_enter Tryz.func5, Tryz.ntmps5
  go_wp2_with fail
  rw [← hV]
  clear hV
  refine (HJ.out _ t1).mono ?_
  rintro e W1 ⟨rfl, s1⟩
  obtain ⟨X, hX⟩ : ∃ X, X = W1.alloc (.cells #[.slice none 0 0, .slice none 0 0, .slice none 0 0] 28) := ⟨_, rfl⟩
  have sX : Same V X := by rw [hX]; exact Fr.alloc s1 _
  obtain ⟨f0, f1⟩ := HC.out _ sX
  have r6 := HG.out _ sX
  rw [hX] at f0 f1 r6
  go_wp2_with (refine wpList_store_whole (by rfl) 28 _ _ (by rfl) (w.heap.size + 1 + 1) #[.slice none 0 0, .slice none 0 0, .slice none 0 0] _ 28 (by rfl) (by rfl) r6 rfl (by kernel_rfl) (by kernel_rfl) ?_; intro W7 r7 f7)
  rw [← hX] at f7
  exact bodyPost_ret (results_row_tmp (p := 4) (u := 5) (ty := 28) (by kernel_rfl) _ _ (w.heap.size + 1 + 1) 28 _ (0, 0) _ rfl r7 Tryz.underlying28 rfl (by kernel_rfl)) rfl ⟨rfl, Fr.trans (t1.trans sX) f7 (fun i hi e => by omega)⟩
end Go.Proofs.YthbdgpclbcenoaaGreat
