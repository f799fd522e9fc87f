/- slices.Clone, Copy. -/
import Derived.Test.YtjlbkagkmcelgaaNO
import Derived.Laws.AppendOwn
namespace Go.Proofs.Ytjlbkagkmcelgaa
open Go.RowKit

theorem keepA' {W : World} {a : Addr} {v : Value} (h : W.cell? a = some v) (o : Obj) : (W.alloc o).cell? a = some v := (World.cell?_alloc_lt _ _ _ (World.block_lt_of_cell? W _ h)).trans h
theorem Try.nilSomePairs (W : World) (a : Addr) (n c : Nat) : (binOp .eql 22 (.slice (some a) n c) (.slice none 0 0)).run Try.prog W = .ok (.bool false) W := by kernel_rfl
theorem Try.nilNonePairs (W : World) (n c : Nat) : (binOp .eql 22 (.slice none n c) (.slice none 0 0)).run Try.prog W = .ok (.bool true) W := by kernel_rfl
theorem Try.nilSomeTexts (W : World) (a : Addr) (n c : Nat) : (binOp .eql 23 (.slice (some a) n c) (.slice none 0 0)).run Try.prog W = .ok (.bool false) W := by kernel_rfl
theorem Try.nilNoneTexts (W : World) (n c : Nat) : (binOp .eql 23 (.slice none n c) (.slice none 0 0)).run Try.prog W = .ok (.bool true) W := by kernel_rfl
theorem Try.nilSomeKids (W : World) (a : Addr) (n c : Nat) : (binOp .eql 24 (.slice (some a) n c) (.slice none 0 0)).run Try.prog W = .ok (.bool false) W := by kernel_rfl
theorem Try.nilNoneKids (W : World) (n c : Nat) : (binOp .eql 24 (.slice none n c) (.slice none 0 0)).run Try.prog W = .ok (.bool true) W := by kernel_rfl
theorem flat_length {α : Type} (f : α → List Value) (sz : Nat) (l : List α) (h : ∀ x ∈ l, (f x).length = sz) : (l.flatMap f).length = l.length * sz := by
  induction l with
  | nil => simp
  | cons x l ih =>
    have h1 := h x (by simp)
    have h2 := ih (fun y hy => h y (by simp [hy]))
    rw [List.flatMap_cons, List.length_append, List.length_cons, Nat.succ_mul]; omega
theorem flat_news {α : Type} (f : α → List Value) (sz : Nat) (hsz : 0 < sz) (l : List α) (h : ∀ x ∈ l, (f x).length = sz) {j : Nat} {u : Value} (hj : (l.flatMap f)[j]? = some u) : ∃ i k x, l[i]? = some x ∧ k < sz ∧ j = i * sz + k ∧ (f x)[k]? = some u := by
  have hlt := (List.getElem?_eq_some_iff.1 hj).1
  rw [flat_length f sz l h] at hlt
  have hi : j / sz < l.length := Nat.div_lt_of_lt_mul (by rw [Nat.mul_comm]; exact hlt)
  have hk := Nat.mod_lt j hsz
  have he : j = j / sz * sz + j % sz := by rw [Nat.mul_comm]; exact (Nat.div_add_mod j sz).symm
  refine ⟨j / sz, j % sz, l[j / sz], List.getElem?_eq_getElem hi, hk, he, ?_⟩
  rw [← flat_get f sz l h (j / sz) (j % sz) _ (List.getElem?_eq_getElem hi) hk, ← he]
  exact hj
theorem prow_news {w : World} {pa : Option Addr} {pb po : Nat} {ps : List (ByteArray × ByteArray)} (h : PRow w pa pb po ps) : ∀ j u, (pcells ps)[j]? = some u → w.cell? ⟨pb, po + j, none⟩ = some u := fun j u hj => by
  obtain ⟨i, k, x, hx, hk, rfl, hu⟩ := flat_news (fun x : ByteArray × ByteArray => [Value.string x.1, Value.string x.2]) 2 (by decide) ps (fun _ _ => rfl) hj
  obtain ⟨h0, h1⟩ := h.cells i x hx
  rcases k with _ | _ | k
  · rw [← hu]; simpa using h0
  · rw [← hu, show po + (i * 2 + (0 + 1)) = po + i * 2 + 1 from by omega]; simpa using h1
  · omega
theorem trow_news {w : World} {pa : Option Addr} {pb po : Nat} {ps : List ByteArray} (h : TRow w pa pb po ps) : ∀ j u, (scells ps)[j]? = some u → w.cell? ⟨pb, po + j, none⟩ = some u := fun j u hj => by
  unfold scells at hj
  rw [List.getElem?_map] at hj
  obtain ⟨x, hx, rfl⟩ := Option.map_eq_some_iff.1 hj
  exact h.cells j x hx
theorem krow_news {w : World} {pa : Option Addr} {pb po : Nat} {ps : List Kid} (hok : ∀ x ∈ ps, KidOk x) (h : KRow w pa pb po ps) : ∀ j u, (kcellsL ps)[j]? = some u → w.cell? ⟨pb, po + j, none⟩ = some u := fun j u hj => by
  obtain ⟨i, k, x, hx, hk, rfl, hu⟩ := flat_news kcells 33 (by decide) ps (fun x hx => kcells_length (hok x hx).d) hj
  have := h.cells i x hx k u hu
  rwa [show po + (i * 33 + k) = po + i * 33 + k from by omega]
theorem pcells_one (l : List (ByteArray × ByteArray)) : ∀ u ∈ pcells l, u.oneCell' = true := fun u hu => by
  obtain ⟨x, _, hx⟩ := List.mem_flatMap.1 hu
  rcases List.mem_cons.1 hx with rfl | hx
  · rfl
  · rcases List.mem_cons.1 hx with rfl | hx
    · rfl
    · cases hx
theorem scells_one (l : List ByteArray) : ∀ u ∈ scells l, u.oneCell' = true := fun u hu => by
  obtain ⟨x, _, rfl⟩ := List.mem_map.1 hu
  rfl
theorem kcellsL_one (l : List Kid) : ∀ u ∈ kcellsL l, u.oneCell' = true := fun u hu => by
  obtain ⟨x, _, hx⟩ := List.mem_flatMap.1 hu
  rcases List.mem_cons.1 hx with rfl | hx
  · rfl
  · obtain ⟨y, _, rfl⟩ := List.mem_map.1 hx
    rfl
set_option maxRecDepth 100000 in
set_option maxHeartbeats 1000000 in
theorem clonePairs_core {a : Addr} {n cp : Nat} {news : List Value} (w : World) (hl : news.length = n * 2) (hnews : ∀ j u, news[j]? = some u → w.cell? (a.add j) = some u) (h1 : ∀ u ∈ news, u.oneCell' = true) (hn : n ≤ 1048576) :
    Calls Try.prog 16 #[.slice (some a) n cp] w fun e w' => ∃ v, e = .returned v ∧ w'.ownsRow w.heap.size 33 2 v n news ∧ Same w w' := by
  have hnil := Try.nilSomePairs
  obtain ⟨i0, hi, hz0, hz1, hz2⟩ := info_parts Try.infPair
  have hown0 : (w.alloc (.cells #[] 33)).ownsRow w.heap.size 33 2 (.slice (some ⟨w.heap.size, 0, none⟩) 0 0) 0 [] := ⟨by simp, Or.inr ⟨w.heap.size, 0, #[], rfl, Nat.le_refl _, heap_alloc_new w _, Nat.le_refl _, by unfold maxLen; omega, by simp, by simp⟩⟩
  have HNW : Hid (∀ j u, news[j]? = some u → (w.alloc (.cells #[] 33)).cell? (a.add j) = some u) := fun j u hj => keepA' (hnews j u hj) _
  have h1' : Hid (∀ u ∈ news, u.oneCell' = true) := h1
  clear h1 hnews
  go_enter Try.func16, Try.ntmps16
  go_wp2_with (at_builtin; go_must (refine wpList_append_own _ (by rfl) _ _ _ (by rfl) w.heap.size 33 i0 (.agg #[.string ⟨#[]⟩, .string ⟨#[]⟩]) 2 32 Try.underlying22 hi hz0 hz1 hz2 rfl (by decide) _ 0 [] (by rfl) hown0 a n cp news (by rfl) hl HNW.out h1'.out (by unfold maxLen; omega) (by omega) (by simp) ?_))
  intro v1 w1 hown hgrow _
  have s1 : Same w w1 := Fr.grown ((Fr.refl _ w).alloc _) hgrow (fun k hk hlt => by simp [Value.ownBlock] at hk; omega)
  clear hgrow
  go_wp2_with fail
  go_ret
  exact ⟨_, rfl, hown, s1⟩
set_option maxRecDepth 100000 in
theorem clonePairs_nil {n cp : Nat} (w : World) :
    Calls Try.prog 16 #[.slice none n cp] w fun e w' => e = .returned (.slice none 0 0) ∧ Same w w' := by
  have hnil := Try.nilNonePairs
  go_enter Try.func16, Try.ntmps16
  go_wp2_with fail
  go_ret
  exact ⟨rfl, Fr.refl _ _⟩
set_option maxRecDepth 100000 in
set_option maxHeartbeats 1000000 in
theorem cloneTexts_core {a : Addr} {n cp : Nat} {news : List Value} (w : World) (hl : news.length = n * 1) (hnews : ∀ j u, news[j]? = some u → w.cell? (a.add j) = some u) (h1 : ∀ u ∈ news, u.oneCell' = true) (hn : n ≤ 1048576) :
    Calls Try.prog 17 #[.slice (some a) n cp] w fun e w' => ∃ v, e = .returned v ∧ w'.ownsRow w.heap.size 9 1 v n news ∧ Same w w' := by
  have hnil := Try.nilSomeTexts
  obtain ⟨i0, hi, hz0, hz1, hz2⟩ := info_parts Try.infStr
  have hown0 : (w.alloc (.cells #[] 9)).ownsRow w.heap.size 9 1 (.slice (some ⟨w.heap.size, 0, none⟩) 0 0) 0 [] := ⟨by simp, Or.inr ⟨w.heap.size, 0, #[], rfl, Nat.le_refl _, heap_alloc_new w _, Nat.le_refl _, by unfold maxLen; omega, by simp, by simp⟩⟩
  have HNW : Hid (∀ j u, news[j]? = some u → (w.alloc (.cells #[] 9)).cell? (a.add j) = some u) := fun j u hj => keepA' (hnews j u hj) _
  have h1' : Hid (∀ u ∈ news, u.oneCell' = true) := h1
  clear h1 hnews
  go_enter Try.func17, Try.ntmps17
  go_wp2_with (at_builtin; go_must (refine wpList_append_own _ (by rfl) _ _ _ (by rfl) w.heap.size 9 i0 (.string ⟨#[]⟩) 1 16 Try.underlying23 hi hz0 hz1 hz2 rfl (by decide) _ 0 [] (by rfl) hown0 a n cp news (by rfl) hl HNW.out h1'.out (by unfold maxLen; omega) (by omega) (by simp) ?_))
  intro v1 w1 hown hgrow _
  have s1 : Same w w1 := Fr.grown ((Fr.refl _ w).alloc _) hgrow (fun k hk hlt => by simp [Value.ownBlock] at hk; omega)
  clear hgrow
  go_wp2_with fail
  go_ret
  exact ⟨_, rfl, hown, s1⟩
set_option maxRecDepth 100000 in
theorem cloneTexts_nil {n cp : Nat} (w : World) :
    Calls Try.prog 17 #[.slice none n cp] w fun e w' => e = .returned (.slice none 0 0) ∧ Same w w' := by
  have hnil := Try.nilNoneTexts
  go_enter Try.func17, Try.ntmps17
  go_wp2_with fail
  go_ret
  exact ⟨rfl, Fr.refl _ _⟩
set_option maxRecDepth 100000 in
set_option maxHeartbeats 1000000 in
theorem cloneKids_core {a : Addr} {n cp : Nat} {news : List Value} (w : World) (hl : news.length = n * 33) (hnews : ∀ j u, news[j]? = some u → w.cell? (a.add j) = some u) (h1 : ∀ u ∈ news, u.oneCell' = true) (hn : n ≤ 1048576) :
    Calls Try.prog 18 #[.slice (some a) n cp] w fun e w' => ∃ v, e = .returned v ∧ w'.ownsRow w.heap.size 37 33 v n news ∧ Same w w' := by
  have hnil := Try.nilSomeKids
  obtain ⟨i0, hi, hz0, hz1, hz2⟩ := info_parts Try.infKid
  have hown0 : (w.alloc (.cells #[] 37)).ownsRow w.heap.size 37 33 (.slice (some ⟨w.heap.size, 0, none⟩) 0 0) 0 [] := ⟨by simp, Or.inr ⟨w.heap.size, 0, #[], rfl, Nat.le_refl _, heap_alloc_new w _, Nat.le_refl _, by unfold maxLen; omega, by simp, by simp⟩⟩
  have HNW : Hid (∀ j u, news[j]? = some u → (w.alloc (.cells #[] 37)).cell? (a.add j) = some u) := fun j u hj => keepA' (hnews j u hj) _
  have h1' : Hid (∀ u ∈ news, u.oneCell' = true) := h1
  clear h1 hnews
  go_enter Try.func18, Try.ntmps18
  go_wp2_with (at_builtin; go_must (refine wpList_append_own _ (by rfl) _ _ _ (by rfl) w.heap.size 37 i0 (kidV zeroKid) 33 36 Try.underlying24 hi hz0 hz1 hz2 rfl (by decide) _ 0 [] (by rfl) hown0 a n cp news (by rfl) hl HNW.out h1'.out (by unfold maxLen; omega) (by omega) (by simp) ?_))
  intro v1 w1 hown hgrow _
  have s1 : Same w w1 := Fr.grown ((Fr.refl _ w).alloc _) hgrow (fun k hk hlt => by simp [Value.ownBlock] at hk; omega)
  clear hgrow
  go_wp2_with fail
  go_ret
  exact ⟨_, rfl, hown, s1⟩
set_option maxRecDepth 100000 in
theorem cloneKids_nil {n cp : Nat} (w : World) :
    Calls Try.prog 18 #[.slice none n cp] w fun e w' => e = .returned (.slice none 0 0) ∧ Same w w' := by
  have hnil := Try.nilNoneKids
  go_enter Try.func18, Try.ntmps18
  go_wp2_with fail
  go_ret
  exact ⟨rfl, Fr.refl _ _⟩
theorem own_nil {w : World} {base : Nat} {e : TypeId} {sz : Nat} : w.ownsRow base e sz (.slice none 0 0) 0 [] := ⟨by simp, Or.inl ⟨rfl, rfl⟩⟩
theorem own_shape {w : World} {base : Nat} {e : TypeId} {sz n : Nat} {v : Value} {xs : List Value} (h : w.ownsRow base e sz v n xs) : ∃ ao c, v = .slice ao n c := by
  obtain ⟨_, ⟨rfl, rfl⟩ | ⟨g, c, _, rfl, _⟩⟩ := h
  · exact ⟨none, 0, rfl⟩
  · exact ⟨_, c, rfl⟩
/-- What Clone answers: a row of its own. -/
theorem clonePairs {pa : Option Addr} {pb po cp : Nat} {ps : List (ByteArray × ByteArray)} (w : World) (h : PRow w pa pb po ps) (hl : ps.length ≤ 1048576) :
    Calls Try.prog 16 #[.slice pa ps.length cp] w fun e w' => ∃ ao c, e = .returned (.slice ao ps.length c) ∧ w'.ownsRow w.heap.size 33 2 (.slice ao ps.length c) ps.length (pcells ps) ∧ Same w w' := by
  cases pa with
  | none =>
    have e : ps = [] := Classical.byContradiction fun e => by cases (h.place e).1
    subst e
    exact (clonePairs_nil w).mono fun e w' ⟨he, hs⟩ => ⟨_, _, he, own_nil, hs⟩
  | some a =>
    refine (clonePairs_core w (flat_length (fun x : ByteArray × ByteArray => [Value.string x.1, Value.string x.2]) 2 ps (fun _ _ => rfl)) (fun j u hj => ?_) (pcells_one ps) hl).mono fun e w' ⟨v, he, ho, hs⟩ => ?_
    · obtain ⟨e, _⟩ := h.place (by intro e; rw [e] at hj; simp at hj)
      cases e
      rw [WideShapes.add_plain]; exact prow_news h j u hj
    · obtain ⟨ao, c, rfl⟩ := own_shape ho
      exact ⟨ao, c, he, ho, hs⟩
theorem cloneTexts {pa : Option Addr} {pb po cp : Nat} {ps : List (ByteArray)} (w : World) (h : TRow w pa pb po ps) (hl : ps.length ≤ 1048576) :
    Calls Try.prog 17 #[.slice pa ps.length cp] w fun e w' => ∃ ao c, e = .returned (.slice ao ps.length c) ∧ w'.ownsRow w.heap.size 9 1 (.slice ao ps.length c) ps.length (scells ps) ∧ Same w w' := by
  cases pa with
  | none =>
    have e : ps = [] := Classical.byContradiction fun e => by cases (h.place e).1
    subst e
    exact (cloneTexts_nil w).mono fun e w' ⟨he, hs⟩ => ⟨_, _, he, own_nil, hs⟩
  | some a =>
    refine (cloneTexts_core w (by simp [scells]) (fun j u hj => ?_) (scells_one ps) hl).mono fun e w' ⟨v, he, ho, hs⟩ => ?_
    · obtain ⟨e, _⟩ := h.place (by intro e; rw [e] at hj; simp [scells] at hj)
      cases e
      rw [WideShapes.add_plain]; exact trow_news h j u hj
    · obtain ⟨ao, c, rfl⟩ := own_shape ho
      exact ⟨ao, c, he, ho, hs⟩
theorem cloneKids {pa : Option Addr} {pb po cp : Nat} {ps : List (Kid)} (w : World) (hok : ∀ x ∈ ps, KidOk x) (h : KRow w pa pb po ps) (hl : ps.length ≤ 1048576) :
    Calls Try.prog 18 #[.slice pa ps.length cp] w fun e w' => ∃ ao c, e = .returned (.slice ao ps.length c) ∧ w'.ownsRow w.heap.size 37 33 (.slice ao ps.length c) ps.length (kcellsL ps) ∧ Same w w' := by
  cases pa with
  | none =>
    have e : ps = [] := Classical.byContradiction fun e => by cases (h.place e).1
    subst e
    exact (cloneKids_nil w).mono fun e w' ⟨he, hs⟩ => ⟨_, _, he, own_nil, hs⟩
  | some a =>
    refine (cloneKids_core w (flat_length kcells 33 ps (fun x hx => kcells_length (hok x hx).d)) (fun j u hj => ?_) (kcellsL_one ps) hl).mono fun e w' ⟨v, he, ho, hs⟩ => ?_
    · obtain ⟨e, _⟩ := h.place (by intro e; rw [e] at hj; simp at hj)
      cases e
      rw [WideShapes.add_plain]; exact krow_news hok h j u hj
    · obtain ⟨ao, c, rfl⟩ := own_shape ho
      exact ⟨ao, c, he, ho, hs⟩

/-- A copy: rows of its own, each in another block, all made since. -/
structure Copied (w W : World) (r : Nr) (N : Nd) : Prop where
  op : W.ownsRow w.heap.size 33 2 (.slice r.pa N.ps.length r.cp) N.ps.length (pcells N.ps)
  os : W.ownsRow w.heap.size 9 1 (.slice r.sa N.ss.length r.cs) N.ss.length (scells N.ss)
  ok : W.ownsRow w.heap.size 37 33 (.slice r.ka N.ks.length r.ck) N.ks.length (kcellsL N.ks)
  pk : ∀ a b, r.pa = some a → r.ka = some b → a.block ≠ b.block
  sk : ∀ a b, r.sa = some a → r.ka = some b → a.block ≠ b.block
theorem own_base {w : World} {base b2 : Nat} {e : TypeId} {sz n : Nat} {v : Value} {xs : List Value} (h : w.ownsRow base e sz v n xs) (hb : b2 ≤ base) : w.ownsRow b2 e sz v n xs := by
  obtain ⟨h1, h2⟩ := h
  refine ⟨h1, ?_⟩
  rcases h2 with h2 | ⟨g, c, cur, hv, hg, r⟩
  · exact Or.inl h2
  · exact Or.inr ⟨g, c, cur, hv, by omega, r⟩
theorem own_frameB {w w' : World} {base : Nat} {e : TypeId} {sz n : Nat} {v : Value} {xs : List Value} {S : Nat → Prop} (h : w.ownsRow base e sz v n xs) (hf : Fr S w w') (hn : ∀ k, v.ownBlock = some k → ¬ S k) : w'.ownsRow base e sz v n xs := by
  obtain ⟨h1, h2⟩ := h
  refine ⟨h1, ?_⟩
  rcases h2 with h2 | ⟨g, c, cur, hv, hg, hh, r⟩
  · exact Or.inl h2
  · refine Or.inr ⟨g, c, cur, hv, hg, ?_, r⟩
    rw [hf.block g (lt_of_heap hh) (hn g (by rw [hv]; rfl))]; exact hh
theorem own_ge {w : World} {base : Nat} {e : TypeId} {sz n c : Nat} {a : Addr} {xs : List Value} (h : w.ownsRow base e sz (.slice (some a) n c) n xs) : base ≤ a.block ∧ a.block < w.heap.size := by
  obtain ⟨_, ⟨h2, _⟩ | ⟨g, c, cur, hv, hg, hh, _⟩⟩ := h
  · cases h2
  · injection hv with e1
    injection e1 with e1
    rw [e1]; exact ⟨hg, lt_of_heap hh⟩
theorem far_cell {W W5 : World} {a : Addr} {v : Value} {k : Nat} (hc : W.cell? a = some v) (f : Fr (fun i => i = k) W W5) (hb : a.block ≠ k := by simp) : W5.cell? a = some v := by
  rw [f.cell (World.block_lt_of_cell? W _ hc) hb]; exact hc
set_option maxRecDepth 100000 in
set_option maxHeartbeats 1000000 in
theorem copy_walk {r : Nr} {N : Nd} (w : World) (h : NdAt w r N) (h1 : N.ps.length ≤ 1048576) (h2 : N.ss.length ≤ 1048576) (h3 : N.ks.length ≤ 1048576) :
    Calls Try.prog 8 #[ndV r N] w fun e w' => ∃ r', e = .returned (ndV r' N) ∧ Copied w w' r' N ∧ Same w w' := by
  have HC0 : Hid (∀ W, Same w W → Calls Try.prog 16 #[.slice r.pa N.ps.length r.cp] W fun e w' => ∃ ao c, e = .returned (.slice ao N.ps.length c) ∧ w'.ownsRow W.heap.size 33 2 (.slice ao N.ps.length c) N.ps.length (pcells N.ps) ∧ Same W w') := fun W s => clonePairs W (h.same s).hp h1
  have HC1 : Hid (∀ W, Same w W → Calls Try.prog 17 #[.slice r.sa N.ss.length r.cs] W fun e w' => ∃ ao c, e = .returned (.slice ao N.ss.length c) ∧ w'.ownsRow W.heap.size 9 1 (.slice ao N.ss.length c) N.ss.length (scells N.ss) ∧ Same W w') := fun W s => cloneTexts W (h.same s).hs h2
  have HC2 : Hid (∀ W, Same w W → Calls Try.prog 18 #[.slice r.ka N.ks.length r.ck] W fun e w' => ∃ ao c, e = .returned (.slice ao N.ks.length c) ∧ w'.ownsRow W.heap.size 37 33 (.slice ao N.ks.length c) N.ks.length (kcellsL N.ks) ∧ Same W w') := fun W s => cloneKids W h.ok (h.same s).hk h3
  obtain ⟨V, hV⟩ : ∃ V, V = (w.alloc (.cells #[.slice r.pa N.ps.length r.cp, .slice r.sa N.ss.length r.cs, .slice r.ka N.ks.length r.ck] 26)).alloc (.cells #[.slice none 0 0, .slice none 0 0, .slice none 0 0] 26) := ⟨_, rfl⟩
  have t1 : Same w V := by rw [hV]; exact ((Fr.refl _ w).alloc _).alloc _
  have n0 : V.cell? ⟨w.heap.size, 0, none⟩ = some (.slice r.pa N.ps.length r.cp) := by rw [hV]; simp
  have n1 : V.cell? ⟨w.heap.size, 1, none⟩ = some (.slice r.sa N.ss.length r.cs) := by rw [hV]; simp
  have n2 : V.cell? ⟨w.heap.size, 2, none⟩ = some (.slice r.ka N.ks.length r.ck) := by rw [hV]; simp
  have r2 : V.heap[w.heap.size + 1]? = some (.cells #[.slice none 0 0, .slice none 0 0, .slice none 0 0] 26 (0, 0)) := by rw [hV]; exact heap_alloc2_new w _ _
  have HVS : Hid (w.heap.size + 2 ≤ V.heap.size) := by show _ ≤ _; rw [hV]; simp
  have HRES : Hid (∀ (tmps : Array Value) (W : World) (cs : Array Value), W.heap[w.heap.size + 1]? = some (.cells cs 26 (0, 0)) → cs.size = 3 → tmps.getD 2 undef = .pointer (some ⟨w.heap.size + 1, 0, none⟩) → (results Try.f8 tmps).run Try.prog W = .ok (.agg cs) W) := fun tmps W cs hh h2 hp => results_cell_row (p := 2) (ty := 26) (by kernel_rfl) tmps _ (w.heap.size + 1) 26 _ (0, 0) _ hp hh Try.underlying26 rfl (by rw [h2]; kernel_rfl)
  clear h h1 h2 h3
  go_enter Try.func8, Try.ntmps8
  go_wp2_with fail
  rw [← hV]
  clear hV
  have d0 : Same w V.drew := Fr.drew t1
  have HS : Hid (∀ W, Same V.drew W → W.cell? ⟨w.heap.size, 0, none⟩ = some (.slice r.pa N.ps.length r.cp) ∧ W.cell? ⟨w.heap.size, 1, none⟩ = some (.slice r.sa N.ss.length r.cs) ∧ W.cell? ⟨w.heap.size, 2, none⟩ = some (.slice r.ka N.ks.length r.ck)) := fun W h => ⟨Same.keep (w := V.drew) h n0, Same.keep (w := V.drew) h n1, Same.keep (w := V.drew) h n2⟩
  refine wp_region_held_drew (S := fun X => X.cell? ⟨w.heap.size, 0, none⟩ = some (.slice r.pa N.ps.length r.cp) ∧ X.cell? ⟨w.heap.size, 1, none⟩ = some (.slice r.sa N.ss.length r.cs) ∧ X.cell? ⟨w.heap.size, 2, none⟩ = some (.slice r.ka N.ks.length r.ck)) (by kernel_rfl) (HS.out _ (Fr.refl _ _)) (fun hHeld => ?_)
  refine wpAnyH_take (i := 0) (oi := { dst := some 3, op := Op.fieldAddr 26 (Operand.tmp 1) 0, type := 0, pos := "node.go:97", after := #[], guard := none }) (v := .pointer (some ⟨w.heap.size, 0, none⟩)) rfl (by kernel_rfl) (by kernel_rfl) (by kernel_rfl) (fun _ _ _ h => h) (Or.inl ⟨by rfl, fun w hSw => by (obtain ⟨z0, z1, z2⟩ := hSw; go_simp)⟩) (by assumption) ?_
  try simp only [Act.put, List.setIfInBounds_toArray, List.set_cons_zero, List.set_cons_succ]
  refine wpAnyH_take (i := 1) (oi := { dst := some 4, op := Op.load 22 (Operand.tmp 3), type := 22, pos := "node.go:97", after := #[{ on := 0, ground := Ground.data }], guard := none }) (v := .slice r.pa N.ps.length r.cp) rfl (by kernel_rfl) (by kernel_rfl) (by kernel_rfl) (fun _ _ _ h => h) (Or.inl ⟨by rfl, fun w hSw => by (obtain ⟨z0, z1, z2⟩ := hSw; go_simp)⟩) (by assumption) ?_
  try simp only [Act.put, List.setIfInBounds_toArray, List.set_cons_zero, List.set_cons_succ]
  refine wpAnyH_take (i := 3) (oi := { dst := some 6, op := Op.fieldAddr 26 (Operand.tmp 1) 1, type := 0, pos := "node.go:97", after := #[], guard := none }) (v := .pointer (some ⟨w.heap.size, 1, none⟩)) rfl (by kernel_rfl) (by kernel_rfl) (by kernel_rfl) (fun _ _ _ h => h) (Or.inl ⟨by rfl, fun w hSw => by (obtain ⟨z0, z1, z2⟩ := hSw; go_simp)⟩) (by assumption) ?_
  try simp only [Act.put, List.setIfInBounds_toArray, List.set_cons_zero, List.set_cons_succ]
  refine wpAnyH_take (i := 4) (oi := { dst := some 7, op := Op.load 23 (Operand.tmp 6), type := 23, pos := "node.go:97", after := #[{ on := 3, ground := Ground.data }], guard := none }) (v := .slice r.sa N.ss.length r.cs) rfl (by kernel_rfl) (by kernel_rfl) (by kernel_rfl) (fun _ _ _ h => h) (Or.inl ⟨by rfl, fun w hSw => by (obtain ⟨z0, z1, z2⟩ := hSw; go_simp)⟩) (by assumption) ?_
  try simp only [Act.put, List.setIfInBounds_toArray, List.set_cons_zero, List.set_cons_succ]
  refine wpAnyH_take (i := 6) (oi := { dst := some 9, op := Op.fieldAddr 26 (Operand.tmp 1) 2, type := 0, pos := "node.go:97", after := #[], guard := none }) (v := .pointer (some ⟨w.heap.size, 2, none⟩)) rfl (by kernel_rfl) (by kernel_rfl) (by kernel_rfl) (fun _ _ _ h => h) (Or.inl ⟨by rfl, fun w hSw => by (obtain ⟨z0, z1, z2⟩ := hSw; go_simp)⟩) (by assumption) ?_
  try simp only [Act.put, List.setIfInBounds_toArray, List.set_cons_zero, List.set_cons_succ]
  refine wpAnyH_take (i := 7) (oi := { dst := some 10, op := Op.load 24 (Operand.tmp 9), type := 24, pos := "node.go:97", after := #[{ on := 6, ground := Ground.data }], guard := none }) (v := .slice r.ka N.ks.length r.ck) rfl (by kernel_rfl) (by kernel_rfl) (by kernel_rfl) (fun _ _ _ h => h) (Or.inl ⟨by rfl, fun w hSw => by (obtain ⟨z0, z1, z2⟩ := hSw; go_simp)⟩) (by assumption) ?_
  try simp only [Act.put, List.setIfInBounds_toArray, List.set_cons_zero, List.set_cons_succ]
  refine wpAnyH_ready (rs := [2]) (by kernel_rfl) (by simp) ?_
  refine AllReadyH.cons (o := { dst := some 5, op := Op.call { callee := Callee.value (Operand.func 16), args := #[Operand.tmp 4], argTypes := #[22] }, type := 22, pos := "node.go:97", after := #[{ on := 1, ground := Ground.data }], guard := none }) rfl (fun K hK => ?_) AllReadyH.nil
  go_simp
  go_at_call 16
  refine (HC0.out _ d0).mono ?_
  rintro e W1 ⟨ao1, c1, rfl, own1, s1⟩
  try go_wp2_with fail
  have v1 := s1; have u1 := Same.trans d0 s1
  refine hK.out _ _ (HS.out _ v1) (fun hHeld => ?_)
  clear hK K
  try simp only [Act.put, List.setIfInBounds_toArray, List.set_cons_zero, List.set_cons_succ]
  refine wpAnyH_ready (rs := [5]) (by kernel_rfl) (by simp) ?_
  refine AllReadyH.cons (o := { dst := some 8, op := Op.call { callee := Callee.value (Operand.func 17), args := #[Operand.tmp 7], argTypes := #[23] }, type := 23, pos := "node.go:97", after := #[{ on := 4, ground := Ground.data }, { on := 2, ground := Ground.chain }], guard := none }) rfl (fun K hK => ?_) AllReadyH.nil
  go_simp
  go_at_call 17
  refine (HC1.out _ u1).mono ?_
  rintro e W2 ⟨ao2, c2, rfl, own2, s2⟩
  try go_wp2_with fail
  have v2 := Same.trans v1 s2; have u2 := Same.trans u1 s2
  refine hK.out _ _ (HS.out _ v2) (fun hHeld => ?_)
  clear hK K
  try simp only [Act.put, List.setIfInBounds_toArray, List.set_cons_zero, List.set_cons_succ]
  refine wpAnyH_ready (rs := [8]) (by kernel_rfl) (by simp) ?_
  refine AllReadyH.cons (o := { dst := some 11, op := Op.call { callee := Callee.value (Operand.func 18), args := #[Operand.tmp 10], argTypes := #[24] }, type := 24, pos := "node.go:97", after := #[{ on := 7, ground := Ground.data }, { on := 5, ground := Ground.chain }], guard := none }) rfl (fun K hK => ?_) AllReadyH.nil
  go_simp
  go_at_call 18
  refine (HC2.out _ u2).mono ?_
  rintro e W3 ⟨ao3, c3, rfl, own3, s3⟩
  try go_wp2_with fail
  have v3 := Same.trans v2 s3; have u3 := Same.trans u2 s3
  refine hK.out _ _ (HS.out _ v3) (fun hHeld => ?_)
  clear hK K
  try simp only [Act.put, List.setIfInBounds_toArray, List.set_cons_zero, List.set_cons_succ]
  refine wpAnyH_take (i := 9) (oi := { dst := some 12, op := Op.build 26 #[(0, Operand.tmp 5), (1, Operand.tmp 8), (2, Operand.tmp 11)], type := 26, pos := "node.go:97", after := #[{ on := 2, ground := Ground.data }, { on := 5, ground := Ground.data }, { on := 8, ground := Ground.data }], guard := none }) (v := .agg #[.slice ao1 N.ps.length c1, .slice ao2 N.ss.length c2, .slice ao3 N.ks.length c3]) rfl (by kernel_rfl) (by kernel_rfl) (by kernel_rfl) (fun _ _ _ h => h) (Or.inl ⟨by rfl, fun w hSw => by (obtain ⟨z0, z1, z2⟩ := hSw; go_simp)⟩) (by assumption) ?_
  try simp only [Act.put, List.setIfInBounds_toArray, List.set_cons_zero, List.set_cons_succ]
  have r4 := (Fr.block v3 (w.heap.size + 1) (lt_of_heap (w := V.drew) r2) (fun e => e)).trans r2
  refine wpAnyH_ready (rs := [10]) (by kernel_rfl) (by simp) ?_
  refine AllReadyH.cons (o := { dst := none, op := Op.store 26 (Operand.tmp 2) (Operand.tmp 12), type := 0, pos := "node.go:97", after := #[{ on := 9, ground := Ground.data }, { on := 8, ground := Ground.chain }, { on := 0, ground := Ground.phase }, { on := 1, ground := Ground.phase }, { on := 2, ground := Ground.phase }, { on := 3, ground := Ground.phase }, { on := 4, ground := Ground.phase }, { on := 5, ground := Ground.phase }, { on := 6, ground := Ground.phase }, { on := 7, ground := Ground.phase }, { on := 8, ground := Ground.phase }, { on := 9, ground := Ground.phase }], guard := none }) rfl (fun K hK => ?_) AllReadyH.nil
  refine step_store_whole rfl 26 _ _ rfl (w.heap.size + 1) #[.slice ao1 N.ps.length c1, .slice ao2 N.ss.length c2, .slice ao3 N.ks.length c3] #[.slice none 0 0, .slice none 0 0, .slice none 0 0] 26 (by rfl) (by rfl) r4 rfl (by kernel_rfl) (by kernel_rfl) ?_
  intro W5 r5 f5
  refine hK.out _ _ (by obtain ⟨y0, y1, y2⟩ := HS.out _ v3; exact ⟨far_cell y0 f5, far_cell y1 f5, far_cell y2 f5⟩) (fun hHeld => ?_)
  clear hK K
  refine wpAnyH_done (by kernel_rfl) ?_ _
  go_wp2_with fail
  refine bodyPost_ret (HRES.out _ _ _ r5 rfl rfl) rfl ⟨⟨ao1, 0, 0, c1, ao2, 0, 0, c2, ao3, 0, 0, c3⟩, rfl, ?_, Fr.trans u3 f5 (fun i hi e => by omega)⟩
  have z0 := HVS.out
  have z1 := Fr.size s1
  have z2 := Fr.size s2
  have z3 := Fr.size s3
  have zd : V.drew.heap.size = V.heap.size := rfl
  have o1 := own_frameB (own_frameB (own_frameB own1 s2 (fun _ _ f => f)) s3 (fun _ _ f => f)) f5 (fun k hk e => by
    cases ao1 with
    | none => cases hk
    | some a => have := own_ge own1; simp [Value.ownBlock] at hk; omega)
  have o2 := own_frameB (own_frameB own2 s3 (fun _ _ f => f)) f5 (fun k hk e => by
    cases ao2 with
    | none => cases hk
    | some a => have := own_ge own2; simp [Value.ownBlock] at hk; omega)
  have o3 := own_frameB own3 f5 (fun k hk e => by
    cases ao3 with
    | none => cases hk
    | some a => have := own_ge own3; simp [Value.ownBlock] at hk; omega)
  refine ⟨own_base o1 (by omega), own_base o2 (by omega), own_base o3 (by omega), fun a b ha hb => ?_, fun a b ha hb => ?_⟩
  · simp only at ha hb
    subst ha hb
    have := own_ge own1; have := own_ge own3; omega
  · simp only at ha hb
    subst ha hb
    have := own_ge own2; have := own_ge own3; omega
end Go.Proofs.Ytjlbkagkmcelgaa
