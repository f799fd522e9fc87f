/- The document's cut. -/
import Derived.Test.YtmgkdnejjemfeaaC3
import Derived.Test.YtmgkdnejjemfeaaV3
import Derived.Test.YtmgkdnejjemfeaaK6J
import Derived.Test.YtmgkdnejjemfeaaVDJ
namespace Go.Proofs.Ytmgkdnejjemfeaa
open Go.RowKit

/-- Halves under way in a box of their own. -/
structure HS (V W : World) (nb : Nat) (xs : Array Value) : Prop where
  hb : W.heap[nb]? = some (.cells xs 50 (0, 0))
  fr : Same V W
  hn : V.heap.size ≤ nb
theorem HS.same {V W W' : World} {nb : Nat} {xs : Array Value} (h : HS V W nb xs) (s : Same W W') : HS V W' nb xs := ⟨(s.block _ (lt_of_heap h.hb) (fun e => e)).trans h.hb, h.fr.trans s, h.hn⟩
theorem HS.put {V W : World} {nb : Nat} {xs : Array Value} (h : HS V W nb xs) (j : Nat) (v : Value) : HS V (W.setCell ⟨nb, j, none⟩ v) nb (xs.setIfInBounds j v) ∧ W.frozen? ⟨nb, j, none⟩ = false ∧ Fr (fun k => k = nb) W (W.setCell ⟨nb, j, none⟩ v) := by
  have fs : Fr (fun k => k = nb) W (W.setCell ⟨nb, j, none⟩ v) := (Fr.refl (fun k => k = nb) W).setCell (p := ⟨nb, j, none⟩) (fun _ => rfl) _
  exact ⟨⟨heap_setCell_same W nb j _ _ _ h.hb, Fr.trans h.fr fs (fun i hi e => by have := h.hn; omega), h.hn⟩, frozen_of_row W nb j _ _ h.hb, fs⟩
/-- How much room behind a node's lists. -/
structure NdCapN (r : Nr) (N : Nd) : Prop where
  cp : N.ps.length ≤ r.cp
  cs : N.ss.length ≤ r.cs
  ck : N.ks.length ≤ r.ck
set_option maxRecDepth 100000 in
set_option maxHeartbeats 4000000 in
theorem dcut_leaf {r : Nr} {N : Nd} {m i : Nat} {x y : ByteArray × ByteArray} {sp : ByteArray} (w : World) (h : NdIn w r N) (hc : NdCapN r N) (hi : i = m + 1) (hx : N.ps[m]? = some x) (hy : N.ps[i]? = some y) (hn : N.ps.length ≤ 1048576)
    (HLf : Hid (∀ W, Calls Try.prog 17 #[ndV r N] W fun e w' => e = .returned (.bool true) ∧ Same W w'))
    (HB : Hid (∀ W, Calls Try.prog 35 #[.string x.1, .string y.1] W fun e w' => e = .returned (.tuple #[.string sp, .int .i64 0]) ∧ Same W w')) :
    Calls Try.prog 18 #[ndV r N, .int .i64 (i : Int)] w fun e w' => ∃ r1 r2, e = .returned (.agg (halvesN r1 r2 ⟨N.ps.take i, [], []⟩ ⟨N.ps.drop i, [], []⟩ sp)) ∧ MadeNd w' w.heap.size r1 ⟨N.ps.take i, [], []⟩ ∧ MadeNd w' w.heap.size r2 ⟨N.ps.drop i, [], []⟩ ∧ Same w w' := by
  have hil : i < N.ps.length := (List.getElem?_eq_some_iff.1 hy).1
  have hne : N.ps ≠ [] := by intro e; rw [e] at hil; simp at hil
  have hpa := (h.at_.hp.place hne).1
  obtain ⟨V, hV⟩ : ∃ V, V = (w.alloc (.cells #[.slice (some ⟨r.pb, r.po, none⟩) N.ps.length r.cp, .slice r.sa N.ss.length r.cs, .slice r.ka N.ks.length r.ck] 28)).alloc (.cells #[.slice none 0 0, .slice none 0 0, .slice none 0 0, .string ⟨#[]⟩, .slice none 0 0, .slice none 0 0, .slice none 0 0] 50) := ⟨_, rfl⟩
  obtain ⟨X, hX⟩ : ∃ X, X = ((w.alloc (.cells #[.slice (some ⟨r.pb, r.po, none⟩) N.ps.length r.cp, .slice r.sa N.ss.length r.cs, .slice r.ka N.ks.length r.ck] 28)).alloc (.cells #[.slice none 0 0, .slice none 0 0, .slice none 0 0, .string ⟨#[]⟩, .slice none 0 0, .slice none 0 0, .slice none 0 0] 50)).alloc (.cells #[.slice none 0 0, .slice none 0 0, .slice none 0 0, .string ⟨#[]⟩, .slice none 0 0, .slice none 0 0, .slice none 0 0] 50) := ⟨_, rfl⟩
  have t1 : Same w V := by rw [hV]; exact ((Fr.refl _ w).alloc _).alloc _
  have tx : Same V X := by rw [hX, hV]; exact (Fr.refl _ _).alloc _
  obtain ⟨g0, g1, g2⟩ := three_boxes w (.cells #[.slice (some ⟨r.pb, r.po, none⟩) N.ps.length r.cp, .slice r.sa N.ss.length r.cs, .slice r.ka N.ks.length r.ck] 28) (.cells #[.slice none 0 0, .slice none 0 0, .slice none 0 0, .string ⟨#[]⟩, .slice none 0 0, .slice none 0 0, .slice none 0 0] 50) (.cells #[.slice none 0 0, .slice none 0 0, .slice none 0 0, .string ⟨#[]⟩, .slice none 0 0, .slice none 0 0, .slice none 0 0] 50)
  rw [← hX] at g0 g1 g2
  have HZ : Hid (V.heap.size = w.heap.size + 2 ∧ N.ps.length ≤ 1048576 ∧ i < N.ps.length ∧ i = m + 1) := ⟨by rw [hV]; simp, hn, hil, hi⟩
  have hsX : HS V X (w.heap.size + 1 + 1) #[.slice none 0 0, .slice none 0 0, .slice none 0 0, .string ⟨#[]⟩, .slice none 0 0, .slice none 0 0, .slice none 0 0] := ⟨g2, tx, by have := HZ.out; omega⟩
  have v0 : V.heap[w.heap.size]? = some (.cells #[.slice (some ⟨r.pb, r.po, none⟩) N.ps.length r.cp, .slice r.sa N.ss.length r.cs, .slice r.ka N.ks.length r.ck] 28 (0, 0)) := by rw [hV]; exact (Below.heap_alloc _ _ _ (by simp)).trans (heap_alloc_new w _)
  have v1 : V.heap[w.heap.size + 1]? = some (.cells #[.slice none 0 0, .slice none 0 0, .slice none 0 0, .string ⟨#[]⟩, .slice none 0 0, .slice none 0 0, .slice none 0 0] 50 (0, 0)) := by rw [hV]; exact heap_alloc2_new w _ _
  have HN : Hid (∀ W, Same V W → W.cell? ⟨w.heap.size, 0, none⟩ = some (.slice (some ⟨r.pb, r.po, none⟩) N.ps.length r.cp) ∧ W.cell? ⟨w.heap.size, 1, none⟩ = some (.slice r.sa N.ss.length r.cs) ∧ W.cell? ⟨w.heap.size, 2, none⟩ = some (.slice r.ka N.ks.length r.ck)) := fun W s => ⟨s.keep ((cell_of_row _ _ _ _ _ _ v0).trans rfl), s.keep ((cell_of_row _ _ _ _ _ _ v0).trans rfl), s.keep ((cell_of_row _ _ _ _ _ _ v0).trans rfl)⟩
  have HG : Hid (∀ W, Same V W → W.heap[w.heap.size + 1]? = some (.cells #[.slice none 0 0, .slice none 0 0, .slice none 0 0, .string ⟨#[]⟩, .slice none 0 0, .slice none 0 0, .slice none 0 0] 50 (0, 0))) := fun W s => (s.block _ (lt_of_heap v1) (fun e => e)).trans v1
  have HI : Hid (∀ W, Same V W → NdIn W r N) := fun W s => h.same (t1.trans s)
  have HHI : Hid (i = m + 1) := hi
  have w1 : RowKit.wrap64 ((i : Int) - 1) = (m : Int) := by have := HZ.out; unfold RowKit.wrap64; omega
  have w2 : IntKind.i64.wrap ((i : Int) - 1) = (m : Int) := by have := HZ.out; rw [IntKind.wrap_i64]; omega
  have hhigh := high_pairs (ao := some ⟨r.pb, r.po, none⟩) (show i ≤ N.ps.length by omega) hc.cp
  have pk := h.pp
  simp only [hpa] at pk
  obtain ⟨ad, hlow, q1, q2⟩ := low_pairs (ao := some ⟨r.pb, r.po, none⟩) (show i ≤ N.ps.length by omega) hc.cp (fun e => by cases e)
  have HP1 : Hid (∀ W, Same V W → PartOk W 2 ⟨some ⟨r.pb, r.po, none⟩, i, r.cp, (pcells N.ps).take (i * 2)⟩) := fun W s => (part_high pk (by omega)).same (t1.trans s)
  have HP2 : Hid (∀ W, Same V W → PartOk W 2 ⟨ad, N.ps.length - i, r.cp - i, (pcells N.ps).drop (i * 2)⟩) := fun W s => (part_low pk (by omega) hc.cp q1 q2 (fun a e => by cases e; exact ⟨_, _, rfl⟩)).same (t1.trans s)
  have HXY : Hid (∀ W, Same V W → W.cell? ⟨r.pb, r.po + m * 2, none⟩ = some (.string x.1) ∧ W.cell? ⟨r.pb, r.po + i * 2, none⟩ = some (.string y.1)) := fun W s => ⟨(t1.trans s).keep (h.at_.hp.cells m x hx).1, (t1.trans s).keep (h.at_.hp.cells i y hy).1⟩
  have b1 : (0 : Int) ≤ (m : Int) := by omega
  have b2 : (m : Int) < (N.ps.length : Int) := by omega
  have b3 : (0 : Int) ≤ (i : Int) := by omega
  have b4 : (i : Int) < (N.ps.length : Int) := by omega
  clear pk q1 q2 hx hy hn hil hne
  clear g0 g1 g2 v0 v1 h hc hi
  unfold ndV nodeV at HLf ⊢
  rw [hpa] at HLf ⊢
  go_enter Try.func18, Try.ntmps18
  go_wp2_with fail
  rw [← hX]
  clear hX hV
  refine (HLf.out _).mono ?_
  rintro e X0 ⟨rfl, s0⟩
  have hs0 := hsX.same s0
  clear hsX s0 tx
  obtain ⟨n0, n1, n2⟩ := HN.out _ hs0.fr
  go_wp2_with fail
  have hD1 : HS V X0.drew (w.heap.size + 1 + 1) #[.slice none 0 0, .slice none 0 0, .slice none 0 0, .string ⟨#[]⟩, .slice none 0 0, .slice none 0 0, .slice none 0 0] := ⟨hs0.hb, Fr.drew hs0.fr, hs0.hn⟩
  have sD1 : Same X0 X0.drew := Fr.drew (Fr.refl _ _)
  refine wp_region_held_drew (S := fun X => X.cell? ⟨w.heap.size, 0, none⟩ = some (.slice (some ⟨r.pb, r.po, none⟩) N.ps.length r.cp)) (by kernel_rfl) ((HN.out _ hD1.fr).1) (fun hHeld => ?_)
  generalize X0.drew = D1 at *
  refine wpAnyH_take (i := 0) (oi := { dst := some 8, op := Go.Op.fieldAddr 50 (Go.Operand.tmp 5) 0, type := 0, pos := "ref.go:147", after := #[], guard := none }) (v := .pointer (some ⟨w.heap.size + 1 + 1, 0, none⟩)) rfl (by kernel_rfl) (by kernel_rfl) (by kernel_rfl) (fun _ _ _ h => h) (Or.inl ⟨by rfl, fun w zz => by go_simp⟩) (by assumption) ?_
  try simp only [Act.put, List.setIfInBounds_toArray, List.set_cons_zero, List.set_cons_succ]
  refine wpAnyH_take (i := 1) (oi := { dst := some 9, op := Go.Op.fieldAddr 28 (Go.Operand.tmp 8) 0, type := 0, pos := "ref.go:147", after := #[{ on := 0, ground := Go.Ground.data }], guard := none }) (v := .pointer (some ⟨w.heap.size + 1 + 1, 0, none⟩)) rfl (by kernel_rfl) (by kernel_rfl) (by kernel_rfl) (fun _ _ _ h => h) (Or.inl ⟨by rfl, fun w zz => by go_simp⟩) (by assumption) ?_
  try simp only [Act.put, List.setIfInBounds_toArray, List.set_cons_zero, List.set_cons_succ]
  refine wpAnyH_take (i := 3) (oi := { dst := some 11, op := Go.Op.fieldAddr 28 (Go.Operand.tmp 2) 0, type := 0, pos := "ref.go:147", after := #[], guard := none }) (v := .pointer (some ⟨w.heap.size, 0, none⟩)) rfl (by kernel_rfl) (by kernel_rfl) (by kernel_rfl) (fun _ _ _ h => h) (Or.inl ⟨by rfl, fun w zz => by go_simp⟩) (by assumption) ?_
  try simp only [Act.put, List.setIfInBounds_toArray, List.set_cons_zero, List.set_cons_succ]
  refine wpAnyH_take (i := 4) (oi := { dst := some 12, op := Go.Op.load 24 (Go.Operand.tmp 11), type := 24, pos := "ref.go:147", after := #[{ on := 3, ground := Go.Ground.data }], guard := none }) (v := .slice (some ⟨r.pb, r.po, none⟩) N.ps.length r.cp) rfl (by kernel_rfl) (by kernel_rfl) (by kernel_rfl) (fun _ _ _ h => h) (Or.inl ⟨by rfl, fun w zz => by go_simp⟩) (by assumption) ?_
  try simp only [Act.put, List.setIfInBounds_toArray, List.set_cons_zero, List.set_cons_succ]
  refine wpAnyH_take (i := 5) (oi := { dst := some 13, op := Go.Op.move (Go.Operand.tmp 1), type := 3, pos := "ref.go:147", after := #[], guard := none }) (v := .int .i64 (i : Int)) rfl (by kernel_rfl) (by kernel_rfl) (by kernel_rfl) (fun _ _ _ h => h) (Or.inl ⟨by rfl, fun w zz => by go_simp⟩) (by assumption) ?_
  try simp only [Act.put, List.setIfInBounds_toArray, List.set_cons_zero, List.set_cons_succ]
  refine wpAnyH_take (i := 6) (oi := { dst := some 14, op := Go.Op.slice 24 (Go.Operand.tmp 12) none (some (Go.Operand.tmp 13)) none, type := 24, pos := "ref.go:147", after := #[{ on := 4, ground := Go.Ground.data }, { on := 5, ground := Go.Ground.data }], guard := none }) (v := .slice (some ⟨r.pb, r.po, none⟩) i r.cp) rfl (by kernel_rfl) (by kernel_rfl) (by kernel_rfl) (fun _ _ _ h => h) (Or.inl ⟨by rfl, fun w zz => by (have := hhigh w; go_simp)⟩) (by assumption) ?_
  try simp only [Act.put, List.setIfInBounds_toArray, List.set_cons_zero, List.set_cons_succ]
  have kb1 : D1.cell? ⟨w.heap.size + 1 + 1, 0, none⟩ = some (.slice none 0 0) := (cell_of_row _ _ _ _ _ _ hD1.hb).trans rfl
  refine wpAnyH_ready (rs := [2]) (by kernel_rfl) (by simp) ?_
  refine AllReadyH.cons (o := { dst := some 10, op := Go.Op.load 24 (Go.Operand.tmp 9), type := 24, pos := "ref.go:147", after := #[{ on := 1, ground := Go.Ground.data }], guard := none }) rfl (fun K hK => ?_) AllReadyH.nil
  go_simp
  refine hK.out _ _ (HN.out _ hD1.fr).1 (fun hHeld => ?_)
  clear hK K
  try simp only [Act.put, List.setIfInBounds_toArray, List.set_cons_zero, List.set_cons_succ]
  refine wpAnyH_ready (rs := [7]) (by kernel_rfl) (by simp) ?_
  refine AllReadyH.cons (o := { dst := some 15, op := Go.Op.call { callee := Go.Callee.builtin Go.Builtin.append, args := #[Go.Operand.tmp 10, Go.Operand.tmp 14], argTypes := #[24, 24] }, type := 24, pos := "ref.go:147", after := #[{ on := 2, ground := Go.Ground.data }, { on := 6, ground := Go.Ground.data }], guard := none }) rfl (fun K hK => ?_) AllReadyH.nil
  refine step_partPairs (B := V.heap.size) _ rfl _ _ rfl (by rfl) own_nil (x := ⟨some ⟨r.pb, r.po, none⟩, i, r.cp, (pcells N.ps).take (i * 2)⟩) (by rfl) (HP1.out _ hD1.fr) (by have := HZ.out; simp only; omega) (by have := hD1.fr.size; omega) ?_
  simp only [Nat.zero_add, List.nil_append]
  intro ao1 c1 Y1 o1 g1
  have e1 : Same D1 Y1 := Fr.grown (Fr.refl _ _) g1 (fun k hk => by cases hk)
  have hY1 := hD1.same e1
  refine hK.out _ _ (HN.out _ hY1.fr).1 (fun hHeld => ?_)
  clear hK K
  try simp only [Act.put, List.setIfInBounds_toArray, List.set_cons_zero, List.set_cons_succ]
  refine wpAnyH_take (i := 8) (oi := { dst := some 16, op := Go.Op.fieldAddr 50 (Go.Operand.tmp 5) 0, type := 0, pos := "ref.go:147", after := #[{ on := 0, ground := Go.Ground.phase }, { on := 1, ground := Go.Ground.phase }, { on := 2, ground := Go.Ground.phase }, { on := 3, ground := Go.Ground.phase }, { on := 4, ground := Go.Ground.phase }, { on := 5, ground := Go.Ground.phase }, { on := 6, ground := Go.Ground.phase }, { on := 7, ground := Go.Ground.phase }], guard := none }) (v := .pointer (some ⟨w.heap.size + 1 + 1, 0, none⟩)) rfl (by kernel_rfl) (by kernel_rfl) (by kernel_rfl) (fun _ _ _ h => h) (Or.inl ⟨by rfl, fun w zz => by go_simp⟩) (by assumption) ?_
  try simp only [Act.put, List.setIfInBounds_toArray, List.set_cons_zero, List.set_cons_succ]
  refine wpAnyH_take (i := 9) (oi := { dst := some 17, op := Go.Op.fieldAddr 28 (Go.Operand.tmp 16) 0, type := 0, pos := "ref.go:147", after := #[{ on := 8, ground := Go.Ground.data }, { on := 0, ground := Go.Ground.phase }, { on := 1, ground := Go.Ground.phase }, { on := 2, ground := Go.Ground.phase }, { on := 3, ground := Go.Ground.phase }, { on := 4, ground := Go.Ground.phase }, { on := 5, ground := Go.Ground.phase }, { on := 6, ground := Go.Ground.phase }, { on := 7, ground := Go.Ground.phase }], guard := none }) (v := .pointer (some ⟨w.heap.size + 1 + 1, 0, none⟩)) rfl (by kernel_rfl) (by kernel_rfl) (by kernel_rfl) (fun _ _ _ h => h) (Or.inl ⟨by rfl, fun w zz => by go_simp⟩) (by assumption) ?_
  try simp only [Act.put, List.setIfInBounds_toArray, List.set_cons_zero, List.set_cons_succ]
  obtain ⟨hs1, fz1, fs1⟩ := hY1.put 0 (.slice ao1 i c1)
  clear kb1
  have kb1 : Y1.cell? ⟨w.heap.size + 1 + 1, 0, none⟩ = some (.slice none 0 0) := (cell_of_row _ _ _ _ _ _ hY1.hb).trans rfl
  refine wpAnyH_ready (rs := [10]) (by kernel_rfl) (by simp) ?_
  refine AllReadyH.cons (o := { dst := none, op := Go.Op.store 24 (Go.Operand.tmp 17) (Go.Operand.tmp 15), type := 0, pos := "ref.go:147", after := #[{ on := 9, ground := Go.Ground.data }, { on := 7, ground := Go.Ground.data }, { on := 7, ground := Go.Ground.chain }, { on := 0, ground := Go.Ground.phase }, { on := 1, ground := Go.Ground.phase }, { on := 2, ground := Go.Ground.phase }, { on := 3, ground := Go.Ground.phase }, { on := 4, ground := Go.Ground.phase }, { on := 5, ground := Go.Ground.phase }, { on := 6, ground := Go.Ground.phase }, { on := 7, ground := Go.Ground.phase }], guard := none }) rfl (fun K hK => ?_) AllReadyH.nil
  go_simp
  refine hK.out _ _ (HN.out _ hs1.fr).1 (fun hHeld => ?_)
  clear hK K
  refine wpAnyH_done (by kernel_rfl) ?_ _
  have T1 : Fr (fun k => k = w.heap.size + 1 + 1) D1 (Y1.setCell ⟨w.heap.size + 1 + 1, 0, none⟩ (.slice ao1 i c1)) := Fr.trans (e1.mono (fun _ _ f => f.elim)) fs1 (fun _ _ e => e)
  have row1 := own_frameB o1 fs1 (fun k hk e => type_ne o1 hY1.hb (by decide) (by rw [← e]; exact hk))
  obtain ⟨X1, hX1⟩ : ∃ X, X = Y1.setCell ⟨w.heap.size + 1 + 1, 0, none⟩ (.slice ao1 i c1) := ⟨_, rfl⟩
  rw [← hX1] at hs1 T1 row1 ⊢
  replace hs1 : HS V X1 (w.heap.size + 1 + 1) #[.slice ao1 i c1, .slice none 0 0, .slice none 0 0, .string ⟨#[]⟩, .slice none 0 0, .slice none 0 0, .slice none 0 0] := hs1
  clear hX1 kb1 fz1 fs1 o1 g1 hY1 e1
  go_wp2_with fail
  have hD2 : HS V X1.drew (w.heap.size + 1 + 1) #[.slice ao1 i c1, .slice none 0 0, .slice none 0 0, .string ⟨#[]⟩, .slice none 0 0, .slice none 0 0, .slice none 0 0] := ⟨hs1.hb, Fr.drew hs1.fr, hs1.hn⟩
  have sD2 : Same X1 X1.drew := Fr.drew (Fr.refl _ _)
  refine wp_region_held_drew (S := fun X => X.cell? ⟨w.heap.size, 0, none⟩ = some (.slice (some ⟨r.pb, r.po, none⟩) N.ps.length r.cp)) (by kernel_rfl) ((HN.out _ hD2.fr).1) (fun hHeld => ?_)
  generalize X1.drew = D2 at *
  refine wpAnyH_take (i := 0) (oi := { dst := some 18, op := Go.Op.fieldAddr 50 (Go.Operand.tmp 5) 2, type := 0, pos := "ref.go:148", after := #[], guard := none }) (v := .pointer (some ⟨w.heap.size + 1 + 1, 4, none⟩)) rfl (by kernel_rfl) (by kernel_rfl) (by kernel_rfl) (fun _ _ _ h => h) (Or.inl ⟨by rfl, fun w zz => by go_simp⟩) (by assumption) ?_
  try simp only [Act.put, List.setIfInBounds_toArray, List.set_cons_zero, List.set_cons_succ]
  refine wpAnyH_take (i := 1) (oi := { dst := some 19, op := Go.Op.fieldAddr 28 (Go.Operand.tmp 18) 0, type := 0, pos := "ref.go:148", after := #[{ on := 0, ground := Go.Ground.data }], guard := none }) (v := .pointer (some ⟨w.heap.size + 1 + 1, 4, none⟩)) rfl (by kernel_rfl) (by kernel_rfl) (by kernel_rfl) (fun _ _ _ h => h) (Or.inl ⟨by rfl, fun w zz => by go_simp⟩) (by assumption) ?_
  try simp only [Act.put, List.setIfInBounds_toArray, List.set_cons_zero, List.set_cons_succ]
  refine wpAnyH_take (i := 3) (oi := { dst := some 21, op := Go.Op.fieldAddr 28 (Go.Operand.tmp 2) 0, type := 0, pos := "ref.go:148", after := #[], guard := none }) (v := .pointer (some ⟨w.heap.size, 0, none⟩)) rfl (by kernel_rfl) (by kernel_rfl) (by kernel_rfl) (fun _ _ _ h => h) (Or.inl ⟨by rfl, fun w zz => by go_simp⟩) (by assumption) ?_
  try simp only [Act.put, List.setIfInBounds_toArray, List.set_cons_zero, List.set_cons_succ]
  refine wpAnyH_take (i := 4) (oi := { dst := some 22, op := Go.Op.load 24 (Go.Operand.tmp 21), type := 24, pos := "ref.go:148", after := #[{ on := 3, ground := Go.Ground.data }], guard := none }) (v := .slice (some ⟨r.pb, r.po, none⟩) N.ps.length r.cp) rfl (by kernel_rfl) (by kernel_rfl) (by kernel_rfl) (fun _ _ _ h => h) (Or.inl ⟨by rfl, fun w zz => by go_simp⟩) (by assumption) ?_
  try simp only [Act.put, List.setIfInBounds_toArray, List.set_cons_zero, List.set_cons_succ]
  refine wpAnyH_take (i := 5) (oi := { dst := some 23, op := Go.Op.move (Go.Operand.tmp 1), type := 3, pos := "ref.go:148", after := #[], guard := none }) (v := .int .i64 (i : Int)) rfl (by kernel_rfl) (by kernel_rfl) (by kernel_rfl) (fun _ _ _ h => h) (Or.inl ⟨by rfl, fun w zz => by go_simp⟩) (by assumption) ?_
  try simp only [Act.put, List.setIfInBounds_toArray, List.set_cons_zero, List.set_cons_succ]
  refine wpAnyH_take (i := 6) (oi := { dst := some 24, op := Go.Op.slice 24 (Go.Operand.tmp 22) (some (Go.Operand.tmp 23)) none none, type := 24, pos := "ref.go:148", after := #[{ on := 4, ground := Go.Ground.data }, { on := 5, ground := Go.Ground.data }], guard := none }) (v := .slice ad (N.ps.length - i) (r.cp - i)) rfl (by kernel_rfl) (by kernel_rfl) (by kernel_rfl) (fun _ _ _ h => h) (Or.inl ⟨by rfl, fun w zz => by (have := hlow w; go_simp)⟩) (by assumption) ?_
  try simp only [Act.put, List.setIfInBounds_toArray, List.set_cons_zero, List.set_cons_succ]
  have kb2 : D2.cell? ⟨w.heap.size + 1 + 1, 4, none⟩ = some (.slice none 0 0) := (cell_of_row _ _ _ _ _ _ hD2.hb).trans rfl
  refine wpAnyH_ready (rs := [2]) (by kernel_rfl) (by simp) ?_
  refine AllReadyH.cons (o := { dst := some 20, op := Go.Op.load 24 (Go.Operand.tmp 19), type := 24, pos := "ref.go:148", after := #[{ on := 1, ground := Go.Ground.data }], guard := none }) rfl (fun K hK => ?_) AllReadyH.nil
  go_simp
  refine hK.out _ _ (HN.out _ hD2.fr).1 (fun hHeld => ?_)
  clear hK K
  try simp only [Act.put, List.setIfInBounds_toArray, List.set_cons_zero, List.set_cons_succ]
  refine wpAnyH_ready (rs := [7]) (by kernel_rfl) (by simp) ?_
  refine AllReadyH.cons (o := { dst := some 25, op := Go.Op.call { callee := Go.Callee.builtin Go.Builtin.append, args := #[Go.Operand.tmp 20, Go.Operand.tmp 24], argTypes := #[24, 24] }, type := 24, pos := "ref.go:148", after := #[{ on := 2, ground := Go.Ground.data }, { on := 6, ground := Go.Ground.data }], guard := none }) rfl (fun K hK => ?_) AllReadyH.nil
  refine step_partPairs (B := V.heap.size) _ rfl _ _ rfl (by rfl) own_nil (x := ⟨ad, N.ps.length - i, r.cp - i, (pcells N.ps).drop (i * 2)⟩) (by rfl) (HP2.out _ hD2.fr) (by have := HZ.out; simp only; omega) (by have := hD2.fr.size; omega) ?_
  simp only [Nat.zero_add, List.nil_append]
  intro ao2 c2 Y2 o2 g2
  have e2 : Same D2 Y2 := Fr.grown (Fr.refl _ _) g2 (fun k hk => by cases hk)
  have hY2 := hD2.same e2
  refine hK.out _ _ (HN.out _ hY2.fr).1 (fun hHeld => ?_)
  clear hK K
  try simp only [Act.put, List.setIfInBounds_toArray, List.set_cons_zero, List.set_cons_succ]
  refine wpAnyH_take (i := 8) (oi := { dst := some 26, op := Go.Op.fieldAddr 50 (Go.Operand.tmp 5) 2, type := 0, pos := "ref.go:148", after := #[{ on := 0, ground := Go.Ground.phase }, { on := 1, ground := Go.Ground.phase }, { on := 2, ground := Go.Ground.phase }, { on := 3, ground := Go.Ground.phase }, { on := 4, ground := Go.Ground.phase }, { on := 5, ground := Go.Ground.phase }, { on := 6, ground := Go.Ground.phase }, { on := 7, ground := Go.Ground.phase }], guard := none }) (v := .pointer (some ⟨w.heap.size + 1 + 1, 4, none⟩)) rfl (by kernel_rfl) (by kernel_rfl) (by kernel_rfl) (fun _ _ _ h => h) (Or.inl ⟨by rfl, fun w zz => by go_simp⟩) (by assumption) ?_
  try simp only [Act.put, List.setIfInBounds_toArray, List.set_cons_zero, List.set_cons_succ]
  refine wpAnyH_take (i := 9) (oi := { dst := some 27, op := Go.Op.fieldAddr 28 (Go.Operand.tmp 26) 0, type := 0, pos := "ref.go:148", after := #[{ on := 8, ground := Go.Ground.data }, { on := 0, ground := Go.Ground.phase }, { on := 1, ground := Go.Ground.phase }, { on := 2, ground := Go.Ground.phase }, { on := 3, ground := Go.Ground.phase }, { on := 4, ground := Go.Ground.phase }, { on := 5, ground := Go.Ground.phase }, { on := 6, ground := Go.Ground.phase }, { on := 7, ground := Go.Ground.phase }], guard := none }) (v := .pointer (some ⟨w.heap.size + 1 + 1, 4, none⟩)) rfl (by kernel_rfl) (by kernel_rfl) (by kernel_rfl) (fun _ _ _ h => h) (Or.inl ⟨by rfl, fun w zz => by go_simp⟩) (by assumption) ?_
  try simp only [Act.put, List.setIfInBounds_toArray, List.set_cons_zero, List.set_cons_succ]
  obtain ⟨hs2, fz2, fs2⟩ := hY2.put 4 (.slice ao2 (N.ps.length - i) c2)
  clear kb2
  have kb2 : Y2.cell? ⟨w.heap.size + 1 + 1, 4, none⟩ = some (.slice none 0 0) := (cell_of_row _ _ _ _ _ _ hY2.hb).trans rfl
  refine wpAnyH_ready (rs := [10]) (by kernel_rfl) (by simp) ?_
  refine AllReadyH.cons (o := { dst := none, op := Go.Op.store 24 (Go.Operand.tmp 27) (Go.Operand.tmp 25), type := 0, pos := "ref.go:148", after := #[{ on := 9, ground := Go.Ground.data }, { on := 7, ground := Go.Ground.data }, { on := 7, ground := Go.Ground.chain }, { on := 0, ground := Go.Ground.phase }, { on := 1, ground := Go.Ground.phase }, { on := 2, ground := Go.Ground.phase }, { on := 3, ground := Go.Ground.phase }, { on := 4, ground := Go.Ground.phase }, { on := 5, ground := Go.Ground.phase }, { on := 6, ground := Go.Ground.phase }, { on := 7, ground := Go.Ground.phase }], guard := none }) rfl (fun K hK => ?_) AllReadyH.nil
  go_simp
  refine hK.out _ _ (HN.out _ hs2.fr).1 (fun hHeld => ?_)
  clear hK K
  refine wpAnyH_done (by kernel_rfl) ?_ _
  have T2 : Fr (fun k => k = w.heap.size + 1 + 1) D2 (Y2.setCell ⟨w.heap.size + 1 + 1, 4, none⟩ (.slice ao2 (N.ps.length - i) c2)) := Fr.trans (e2.mono (fun _ _ f => f.elim)) fs2 (fun _ _ e => e)
  have row2 := own_frameB o2 fs2 (fun k hk e => type_ne o2 hY2.hb (by decide) (by rw [← e]; exact hk))
  obtain ⟨X2, hX2⟩ : ∃ X, X = Y2.setCell ⟨w.heap.size + 1 + 1, 4, none⟩ (.slice ao2 (N.ps.length - i) c2) := ⟨_, rfl⟩
  rw [← hX2] at hs2 T2 row2 ⊢
  replace hs2 : HS V X2 (w.heap.size + 1 + 1) #[.slice ao1 i c1, .slice none 0 0, .slice none 0 0, .string ⟨#[]⟩, .slice ao2 (N.ps.length - i) c2, .slice none 0 0, .slice none 0 0] := hs2
  clear hX2 kb2 fz2 fs2 o2 g2 hY2 e2
  have row1b := own_frameB (own_frameB (own_frameB row1 sD2 (fun _ _ f => f)) T2 (fun k hk e => type_ne row1 hs1.hb (by decide) (by rw [← e]; exact hk))) (Fr.refl (fun _ => False) _) (fun _ _ f => f)
  go_wp2_with fail
  have hD3 : HS V X2.drew (w.heap.size + 1 + 1) #[.slice ao1 i c1, .slice none 0 0, .slice none 0 0, .string ⟨#[]⟩, .slice ao2 (N.ps.length - i) c2, .slice none 0 0, .slice none 0 0] := ⟨hs2.hb, Fr.drew hs2.fr, hs2.hn⟩
  have sD3 : Same X2 X2.drew := Fr.drew (Fr.refl _ _)
  refine wp_region_held_drew (S := fun X => X.cell? ⟨w.heap.size, 0, none⟩ = some (.slice (some ⟨r.pb, r.po, none⟩) N.ps.length r.cp) ∧ X.cell? ⟨r.pb, r.po + m * 2, none⟩ = some (.string x.1) ∧ X.cell? ⟨r.pb, r.po + i * 2, none⟩ = some (.string y.1)) (by kernel_rfl) (⟨(HN.out _ hD3.fr).1, (HXY.out _ hD3.fr).1, (HXY.out _ hD3.fr).2⟩) (fun hHeld => ?_)
  generalize X2.drew = D3 at *
  refine wpAnyH_take (i := 0) (oi := { dst := some 29, op := Go.Op.fieldAddr 28 (Go.Operand.tmp 2) 0, type := 0, pos := "ref.go:149", after := #[], guard := none }) (v := .pointer (some ⟨w.heap.size, 0, none⟩)) rfl (by kernel_rfl) (by kernel_rfl) (by kernel_rfl) (fun _ _ _ h => h) (Or.inl ⟨by rfl, fun w hSw => by (obtain ⟨z1, z2, z3⟩ := hSw; go_simp)⟩) (by assumption) ?_
  try simp only [Act.put, List.setIfInBounds_toArray, List.set_cons_zero, List.set_cons_succ]
  refine wpAnyH_take (i := 1) (oi := { dst := some 30, op := Go.Op.load 24 (Go.Operand.tmp 29), type := 24, pos := "ref.go:149", after := #[{ on := 0, ground := Go.Ground.data }], guard := none }) (v := .slice (some ⟨r.pb, r.po, none⟩) N.ps.length r.cp) rfl (by kernel_rfl) (by kernel_rfl) (by kernel_rfl) (fun _ _ _ h => h) (Or.inl ⟨by rfl, fun w hSw => by (obtain ⟨z1, z2, z3⟩ := hSw; go_simp)⟩) (by assumption) ?_
  try simp only [Act.put, List.setIfInBounds_toArray, List.set_cons_zero, List.set_cons_succ]
  refine wpAnyH_take (i := 2) (oi := { dst := some 31, op := Go.Op.move (Go.Operand.tmp 1), type := 3, pos := "ref.go:149", after := #[], guard := none }) (v := .int .i64 (i : Int)) rfl (by kernel_rfl) (by kernel_rfl) (by kernel_rfl) (fun _ _ _ h => h) (Or.inl ⟨by rfl, fun w hSw => by (obtain ⟨z1, z2, z3⟩ := hSw; go_simp)⟩) (by assumption) ?_
  try simp only [Act.put, List.setIfInBounds_toArray, List.set_cons_zero, List.set_cons_succ]
  refine wpAnyH_take (i := 3) (oi := { dst := some 32, op := Go.Op.binOp Go.BinOp.sub 3 (Go.Operand.tmp 31) (Go.Operand.const (Go.Value.int Go.IntKind.i64 1)) 3, type := 3, pos := "ref.go:149", after := #[{ on := 2, ground := Go.Ground.data }], guard := none }) (v := .int .i64 (m : Int)) rfl (by kernel_rfl) (by kernel_rfl) (by kernel_rfl) (fun _ _ _ h => h) (Or.inl ⟨by rfl, fun w hSw => by (obtain ⟨z1, z2, z3⟩ := hSw; go_simp)⟩) (by assumption) ?_
  try simp only [Act.put, List.setIfInBounds_toArray, List.set_cons_zero, List.set_cons_succ]
  refine wpAnyH_take (i := 4) (oi := { dst := some 33, op := Go.Op.indexAddr 24 (Go.Operand.tmp 30) (Go.Operand.tmp 32), type := 0, pos := "ref.go:149", after := #[{ on := 1, ground := Go.Ground.data }, { on := 3, ground := Go.Ground.data }], guard := none }) (v := .pointer (some ⟨r.pb, r.po + m * 2, none⟩)) rfl (by kernel_rfl) (by kernel_rfl) (by kernel_rfl) (fun _ _ _ h => h) (Or.inl ⟨by rfl, fun w hSw => by (obtain ⟨z1, z2, z3⟩ := hSw; go_simp)⟩) (by assumption) ?_
  try simp only [Act.put, List.setIfInBounds_toArray, List.set_cons_zero, List.set_cons_succ]
  refine wpAnyH_take (i := 5) (oi := { dst := some 34, op := Go.Op.fieldAddr 48 (Go.Operand.tmp 33) 0, type := 0, pos := "ref.go:149", after := #[{ on := 4, ground := Go.Ground.data }], guard := none }) (v := .pointer (some ⟨r.pb, r.po + m * 2, none⟩)) rfl (by kernel_rfl) (by kernel_rfl) (by kernel_rfl) (fun _ _ _ h => h) (Or.inl ⟨by rfl, fun w hSw => by (obtain ⟨z1, z2, z3⟩ := hSw; go_simp)⟩) (by assumption) ?_
  try simp only [Act.put, List.setIfInBounds_toArray, List.set_cons_zero, List.set_cons_succ]
  refine wpAnyH_take (i := 6) (oi := { dst := some 35, op := Go.Op.load 9 (Go.Operand.tmp 34), type := 9, pos := "ref.go:149", after := #[{ on := 5, ground := Go.Ground.data }], guard := none }) (v := .string x.1) rfl (by kernel_rfl) (by kernel_rfl) (by kernel_rfl) (fun _ _ _ h => h) (Or.inl ⟨by rfl, fun w hSw => by (obtain ⟨z1, z2, z3⟩ := hSw; go_simp)⟩) (by assumption) ?_
  try simp only [Act.put, List.setIfInBounds_toArray, List.set_cons_zero, List.set_cons_succ]
  refine wpAnyH_take (i := 7) (oi := { dst := some 36, op := Go.Op.fieldAddr 28 (Go.Operand.tmp 2) 0, type := 0, pos := "ref.go:149", after := #[], guard := none }) (v := .pointer (some ⟨w.heap.size, 0, none⟩)) rfl (by kernel_rfl) (by kernel_rfl) (by kernel_rfl) (fun _ _ _ h => h) (Or.inl ⟨by rfl, fun w hSw => by (obtain ⟨z1, z2, z3⟩ := hSw; go_simp)⟩) (by assumption) ?_
  try simp only [Act.put, List.setIfInBounds_toArray, List.set_cons_zero, List.set_cons_succ]
  refine wpAnyH_take (i := 8) (oi := { dst := some 37, op := Go.Op.load 24 (Go.Operand.tmp 36), type := 24, pos := "ref.go:149", after := #[{ on := 7, ground := Go.Ground.data }], guard := none }) (v := .slice (some ⟨r.pb, r.po, none⟩) N.ps.length r.cp) rfl (by kernel_rfl) (by kernel_rfl) (by kernel_rfl) (fun _ _ _ h => h) (Or.inl ⟨by rfl, fun w hSw => by (obtain ⟨z1, z2, z3⟩ := hSw; go_simp)⟩) (by assumption) ?_
  try simp only [Act.put, List.setIfInBounds_toArray, List.set_cons_zero, List.set_cons_succ]
  refine wpAnyH_take (i := 9) (oi := { dst := some 38, op := Go.Op.move (Go.Operand.tmp 1), type := 3, pos := "ref.go:149", after := #[], guard := none }) (v := .int .i64 (i : Int)) rfl (by kernel_rfl) (by kernel_rfl) (by kernel_rfl) (fun _ _ _ h => h) (Or.inl ⟨by rfl, fun w hSw => by (obtain ⟨z1, z2, z3⟩ := hSw; go_simp)⟩) (by assumption) ?_
  try simp only [Act.put, List.setIfInBounds_toArray, List.set_cons_zero, List.set_cons_succ]
  refine wpAnyH_take (i := 10) (oi := { dst := some 39, op := Go.Op.indexAddr 24 (Go.Operand.tmp 37) (Go.Operand.tmp 38), type := 0, pos := "ref.go:149", after := #[{ on := 8, ground := Go.Ground.data }, { on := 9, ground := Go.Ground.data }], guard := none }) (v := .pointer (some ⟨r.pb, r.po + i * 2, none⟩)) rfl (by kernel_rfl) (by kernel_rfl) (by kernel_rfl) (fun _ _ _ h => h) (Or.inl ⟨by rfl, fun w hSw => by (obtain ⟨z1, z2, z3⟩ := hSw; go_simp)⟩) (by assumption) ?_
  try simp only [Act.put, List.setIfInBounds_toArray, List.set_cons_zero, List.set_cons_succ]
  refine wpAnyH_take (i := 11) (oi := { dst := some 40, op := Go.Op.fieldAddr 48 (Go.Operand.tmp 39) 0, type := 0, pos := "ref.go:149", after := #[{ on := 10, ground := Go.Ground.data }], guard := none }) (v := .pointer (some ⟨r.pb, r.po + i * 2, none⟩)) rfl (by kernel_rfl) (by kernel_rfl) (by kernel_rfl) (fun _ _ _ h => h) (Or.inl ⟨by rfl, fun w hSw => by (obtain ⟨z1, z2, z3⟩ := hSw; go_simp)⟩) (by assumption) ?_
  try simp only [Act.put, List.setIfInBounds_toArray, List.set_cons_zero, List.set_cons_succ]
  refine wpAnyH_take (i := 12) (oi := { dst := some 41, op := Go.Op.load 9 (Go.Operand.tmp 40), type := 9, pos := "ref.go:149", after := #[{ on := 11, ground := Go.Ground.data }], guard := none }) (v := .string y.1) rfl (by kernel_rfl) (by kernel_rfl) (by kernel_rfl) (fun _ _ _ h => h) (Or.inl ⟨by rfl, fun w hSw => by (obtain ⟨z1, z2, z3⟩ := hSw; go_simp)⟩) (by assumption) ?_
  try simp only [Act.put, List.setIfInBounds_toArray, List.set_cons_zero, List.set_cons_succ]
  refine wpAnyH_ready (rs := [13]) (by kernel_rfl) (by simp) ?_
  refine AllReadyH.cons (o := { dst := some 42, op := Go.Op.call { callee := Go.Callee.value (Go.Operand.func 35), args := #[Go.Operand.tmp 35, Go.Operand.tmp 41], argTypes := #[9, 9] }, type := 53, pos := "ref.go:149", after := #[{ on := 6, ground := Go.Ground.data }, { on := 12, ground := Go.Ground.data }], guard := none }) rfl (fun K hK => ?_) AllReadyH.nil
  go_simp
  go_at_call 35
  refine (HB.out _).mono ?_
  rintro e Y3 ⟨rfl, e3⟩
  try go_wp2_with fail
  have hY3 := hD3.same e3
  refine hK.out _ _ (⟨(HN.out _ hY3.fr).1, (HXY.out _ hY3.fr).1, (HXY.out _ hY3.fr).2⟩) (fun hHeld => ?_)
  clear hK K
  try simp only [Act.put, List.setIfInBounds_toArray, List.set_cons_zero, List.set_cons_succ]
  refine wpAnyH_take (i := 14) (oi := { dst := some 28, op := Go.Op.move (Go.Operand.tmp 42), type := 53, pos := "ref.go:149", after := #[{ on := 13, ground := Go.Ground.data }], guard := none }) (v := .tuple #[.string sp, .int .i64 0]) rfl (by kernel_rfl) (by kernel_rfl) (by kernel_rfl) (fun _ _ _ h => h) (Or.inl ⟨by rfl, fun w hSw => by (obtain ⟨z1, z2, z3⟩ := hSw; go_simp)⟩) (by assumption) ?_
  try simp only [Act.put, List.setIfInBounds_toArray, List.set_cons_zero, List.set_cons_succ]
  refine wpAnyH_take (i := 15) (oi := { dst := some 43, op := Go.Op.extract (Go.Operand.tmp 28) 0, type := 9, pos := "ref.go:149", after := #[{ on := 14, ground := Go.Ground.data }], guard := none }) (v := .string sp) rfl (by kernel_rfl) (by kernel_rfl) (by kernel_rfl) (fun _ _ _ h => h) (Or.inl ⟨by rfl, fun w hSw => by (obtain ⟨z1, z2, z3⟩ := hSw; go_simp)⟩) (by assumption) ?_
  try simp only [Act.put, List.setIfInBounds_toArray, List.set_cons_zero, List.set_cons_succ]
  refine wpAnyH_take (i := 16) (oi := { dst := some 44, op := Go.Op.extract (Go.Operand.tmp 28) 1, type := 42, pos := "ref.go:149", after := #[{ on := 14, ground := Go.Ground.data }, { on := 18, ground := Go.Ground.gcOnly Go.Departure.lateStores }], guard := none }) (v := .int .i64 0) rfl (by kernel_rfl) (by kernel_rfl) (by kernel_rfl) (fun _ _ _ h => h) (Or.inl ⟨by rfl, fun w hSw => by (obtain ⟨z1, z2, z3⟩ := hSw; go_simp)⟩) (by assumption) ?_
  try simp only [Act.put, List.setIfInBounds_toArray, List.set_cons_zero, List.set_cons_succ]
  refine wpAnyH_take (i := 17) (oi := { dst := some 45, op := Go.Op.fieldAddr 50 (Go.Operand.tmp 5) 1, type := 0, pos := "ref.go:149", after := #[{ on := 0, ground := Go.Ground.phase }, { on := 1, ground := Go.Ground.phase }, { on := 2, ground := Go.Ground.phase }, { on := 3, ground := Go.Ground.phase }, { on := 4, ground := Go.Ground.phase }, { on := 5, ground := Go.Ground.phase }, { on := 6, ground := Go.Ground.phase }, { on := 7, ground := Go.Ground.phase }, { on := 8, ground := Go.Ground.phase }, { on := 9, ground := Go.Ground.phase }, { on := 10, ground := Go.Ground.phase }, { on := 11, ground := Go.Ground.phase }, { on := 12, ground := Go.Ground.phase }, { on := 13, ground := Go.Ground.phase }, { on := 14, ground := Go.Ground.phase }, { on := 15, ground := Go.Ground.phase }, { on := 16, ground := Go.Ground.textOnly Go.Departure.lateStores }], guard := none }) (v := .pointer (some ⟨w.heap.size + 1 + 1, 3, none⟩)) rfl (by kernel_rfl) (by kernel_rfl) (by kernel_rfl) (fun _ _ _ h => h) (Or.inl ⟨by rfl, fun w hSw => by (obtain ⟨z1, z2, z3⟩ := hSw; go_simp)⟩) (by assumption) ?_
  try simp only [Act.put, List.setIfInBounds_toArray, List.set_cons_zero, List.set_cons_succ]
  obtain ⟨hs3, fz3, fs3⟩ := hY3.put 3 (.string sp)
  have kb3 : Y3.cell? ⟨w.heap.size + 1 + 1, 3, none⟩ = some (.string ⟨#[]⟩) := (cell_of_row _ _ _ _ _ _ hY3.hb).trans rfl
  refine wpAnyH_ready (rs := [18]) (by kernel_rfl) (by simp) ?_
  refine AllReadyH.cons (o := { dst := none, op := Go.Op.store 9 (Go.Operand.tmp 45) (Go.Operand.tmp 43), type := 0, pos := "ref.go:149", after := #[{ on := 17, ground := Go.Ground.data }, { on := 15, ground := Go.Ground.data }, { on := 13, ground := Go.Ground.chain }, { on := 0, ground := Go.Ground.phase }, { on := 1, ground := Go.Ground.phase }, { on := 2, ground := Go.Ground.phase }, { on := 3, ground := Go.Ground.phase }, { on := 4, ground := Go.Ground.phase }, { on := 5, ground := Go.Ground.phase }, { on := 6, ground := Go.Ground.phase }, { on := 7, ground := Go.Ground.phase }, { on := 8, ground := Go.Ground.phase }, { on := 9, ground := Go.Ground.phase }, { on := 10, ground := Go.Ground.phase }, { on := 11, ground := Go.Ground.phase }, { on := 12, ground := Go.Ground.phase }, { on := 13, ground := Go.Ground.phase }, { on := 14, ground := Go.Ground.phase }, { on := 15, ground := Go.Ground.phase }, { on := 16, ground := Go.Ground.textOnly Go.Departure.lateStores }], guard := none }) rfl (fun K hK => ?_) AllReadyH.nil
  go_simp
  refine hK.out _ _ ⟨(HN.out _ hs3.fr).1, (HXY.out _ hs3.fr).1, (HXY.out _ hs3.fr).2⟩ (fun hHeld => ?_)
  clear hK K
  refine wpAnyH_done (by kernel_rfl) ?_ _
  have T3 : Fr (fun k => k = w.heap.size + 1 + 1) X2 (Y3.setCell ⟨w.heap.size + 1 + 1, 3, none⟩ (.string sp)) := Fr.trans (Fr.trans (sD3.mono (fun _ _ f => f.elim)) (e3.mono (fun _ _ f => f.elim)) (fun _ _ e => e)) fs3 (fun _ _ e => e)
  have row1c := own_frameB row1b T3 (fun k hk e => type_ne row1b hs2.hb (by decide) (by rw [← e]; exact hk))
  have row2c := own_frameB row2 T3 (fun k hk e => type_ne row2 hs2.hb (by decide) (by rw [← e]; exact hk))
  obtain ⟨X3, hX3⟩ : ∃ X, X = Y3.setCell ⟨w.heap.size + 1 + 1, 3, none⟩ (.string sp) := ⟨_, rfl⟩
  rw [← hX3] at hs3 row1c row2c ⊢
  replace hs3 : HS V X3 (w.heap.size + 1 + 1) #[.slice ao1 i c1, .slice none 0 0, .slice none 0 0, .string sp, .slice ao2 (N.ps.length - i) c2, .slice none 0 0, .slice none 0 0] := hs3
  clear hX3 kb3 fz3 fs3 hY3 e3 T1 T2 T3
  have r6 := HG.out _ hs3.fr
  have m0 : X3.cell? ⟨w.heap.size + 1 + 1, 0, none⟩ = some (.slice ao1 i c1) := (cell_of_row _ _ _ _ _ _ hs3.hb).trans rfl
  have m1 : X3.cell? ⟨w.heap.size + 1 + 1, 1, none⟩ = some (.slice none 0 0) := (cell_of_row _ _ _ _ _ _ hs3.hb).trans rfl
  have m2 : X3.cell? ⟨w.heap.size + 1 + 1, 2, none⟩ = some (.slice none 0 0) := (cell_of_row _ _ _ _ _ _ hs3.hb).trans rfl
  have m3 : X3.cell? ⟨w.heap.size + 1 + 1, 3, none⟩ = some (.string sp) := (cell_of_row _ _ _ _ _ _ hs3.hb).trans rfl
  have m4 : X3.cell? ⟨w.heap.size + 1 + 1, 4, none⟩ = some (.slice ao2 (N.ps.length - i) c2) := (cell_of_row _ _ _ _ _ _ hs3.hb).trans rfl
  have m5 : X3.cell? ⟨w.heap.size + 1 + 1, 5, none⟩ = some (.slice none 0 0) := (cell_of_row _ _ _ _ _ _ hs3.hb).trans rfl
  have m6 : X3.cell? ⟨w.heap.size + 1 + 1, 6, none⟩ = some (.slice none 0 0) := (cell_of_row _ _ _ _ _ _ hs3.hb).trans rfl
  go_wp2_with (refine wpList_store_whole (by rfl) 50 _ _ (by rfl) (w.heap.size + 1) #[.slice ao1 i c1, .slice none 0 0, .slice none 0 0, .string sp, .slice ao2 (N.ps.length - i) c2, .slice none 0 0, .slice none 0 0] _ 50 (by rfl) (by rfl) r6 rfl (by kernel_rfl) (by kernel_rfl) ?_; intro W7 r7 f7)
  have hz := HZ.out
  have u1 : (N.ps.take i).length = i := by rw [List.length_take]; omega
  have u2 : (N.ps.drop i).length = N.ps.length - i := List.length_drop
  have q1 : MadeNd W7 w.heap.size ⟨ao1, 0, 0, c1, none, 0, 0, 0, none, 0, 0, 0⟩ ⟨N.ps.take i, [], []⟩ := ⟨by show World.ownsRow _ _ _ _ (.slice ao1 (N.ps.take i).length c1) (N.ps.take i).length (pcells (N.ps.take i)); rw [u1, ← pcells_takeK]; exact own_base (own_frameB row1c f7 (fun k hk e => type_ne row1c r6 (by decide) (by rw [← e]; exact hk))) (by omega), own_nil, own_nil⟩
  have q2 : MadeNd W7 w.heap.size ⟨ao2, 0, 0, c2, none, 0, 0, 0, none, 0, 0, 0⟩ ⟨N.ps.drop i, [], []⟩ := ⟨by show World.ownsRow _ _ _ _ (.slice ao2 (N.ps.drop i).length c2) (N.ps.drop i).length (pcells (N.ps.drop i)); rw [u2, ← pcells_dropK]; exact own_base (own_frameB row2c f7 (fun k hk e => type_ne row2c r6 (by decide) (by rw [← e]; exact hk))) (by omega), own_nil, own_nil⟩
  refine bodyPost_ret (results_row_one (p := 4) (ty := 50) (by kernel_rfl) _ _ (w.heap.size + 1) 50 _ (0, 0) _ rfl r7 Try.underlying50 rfl (by kernel_rfl)) rfl ⟨_, _, ?_, q1, q2, Fr.trans (t1.trans hs3.fr) f7 (fun i hi e => by omega)⟩
  unfold halvesN
  simp only
  rw [u1, u2]
  rfl
set_option maxRecDepth 100000 in
set_option maxHeartbeats 4000000 in
theorem dcut_branch {r : Nr} {N : Nd} {m i : Nat} {sp : ByteArray} (w : World) (h : NdIn w r N) (hc : NdCapN r N) (hi : i = m + 1) (hx : N.ss[m]? = some sp) (hk : i < N.ks.length) (hsl : i ≤ N.ss.length) (hn : N.ks.length ≤ 1048576) (hn2 : N.ss.length ≤ 1048576)
    (HLf : Hid (∀ W, Calls Try.prog 17 #[ndV r N] W fun e w' => e = .returned (.bool false) ∧ Same W w')) :
    Calls Try.prog 18 #[ndV r N, .int .i64 (i : Int)] w fun e w' => ∃ r1 r2, e = .returned (.agg (halvesN r1 r2 ⟨[], N.ss.take m, N.ks.take i⟩ ⟨[], N.ss.drop i, N.ks.drop i⟩ sp)) ∧ MadeNd w' w.heap.size r1 ⟨[], N.ss.take m, N.ks.take i⟩ ∧ MadeNd w' w.heap.size r2 ⟨[], N.ss.drop i, N.ks.drop i⟩ ∧ Same w w' := by
  have hml : m < N.ss.length := (List.getElem?_eq_some_iff.1 hx).1
  have hne : N.ks ≠ [] := by intro e; rw [e] at hk; simp at hk
  have hne2 : N.ss ≠ [] := by intro e; rw [e] at hml; simp at hml
  have hka := (h.at_.hk.place hne).1
  have hsa := (h.at_.hs.place hne2).1
  have hok := h.at_.ok
  obtain ⟨V, hV⟩ : ∃ V, V = (w.alloc (.cells #[.slice r.pa N.ps.length r.cp, .slice (some ⟨r.sb, r.so, none⟩) N.ss.length r.cs, .slice (some ⟨r.kb, r.ko, none⟩) N.ks.length r.ck] 28)).alloc (.cells #[.slice none 0 0, .slice none 0 0, .slice none 0 0, .string ⟨#[]⟩, .slice none 0 0, .slice none 0 0, .slice none 0 0] 50) := ⟨_, rfl⟩
  obtain ⟨X, hX⟩ : ∃ X, X = ((w.alloc (.cells #[.slice r.pa N.ps.length r.cp, .slice (some ⟨r.sb, r.so, none⟩) N.ss.length r.cs, .slice (some ⟨r.kb, r.ko, none⟩) N.ks.length r.ck] 28)).alloc (.cells #[.slice none 0 0, .slice none 0 0, .slice none 0 0, .string ⟨#[]⟩, .slice none 0 0, .slice none 0 0, .slice none 0 0] 50)).alloc (.cells #[.slice none 0 0, .slice none 0 0, .slice none 0 0, .string ⟨#[]⟩, .slice none 0 0, .slice none 0 0, .slice none 0 0] 50) := ⟨_, rfl⟩
  have t1 : Same w V := by rw [hV]; exact ((Fr.refl _ w).alloc _).alloc _
  have tx : Same V X := by rw [hX, hV]; exact (Fr.refl _ _).alloc _
  obtain ⟨g0, g1, g2⟩ := three_boxes w (.cells #[.slice r.pa N.ps.length r.cp, .slice (some ⟨r.sb, r.so, none⟩) N.ss.length r.cs, .slice (some ⟨r.kb, r.ko, none⟩) N.ks.length r.ck] 28) (.cells #[.slice none 0 0, .slice none 0 0, .slice none 0 0, .string ⟨#[]⟩, .slice none 0 0, .slice none 0 0, .slice none 0 0] 50) (.cells #[.slice none 0 0, .slice none 0 0, .slice none 0 0, .string ⟨#[]⟩, .slice none 0 0, .slice none 0 0, .slice none 0 0] 50)
  rw [← hX] at g0 g1 g2
  have HZ : Hid (V.heap.size = w.heap.size + 2 ∧ (N.ks.length ≤ 1048576 ∧ i < N.ks.length ∧ N.ss.length ≤ 1048576 ∧ i ≤ N.ss.length) ∧ m < N.ss.length ∧ i = m + 1) := ⟨by rw [hV]; simp, ⟨hn, hk, hn2, hsl⟩, hml, hi⟩
  have hsX : HS V X (w.heap.size + 1 + 1) #[.slice none 0 0, .slice none 0 0, .slice none 0 0, .string ⟨#[]⟩, .slice none 0 0, .slice none 0 0, .slice none 0 0] := ⟨g2, tx, by have := HZ.out; omega⟩
  have v0 : V.heap[w.heap.size]? = some (.cells #[.slice r.pa N.ps.length r.cp, .slice (some ⟨r.sb, r.so, none⟩) N.ss.length r.cs, .slice (some ⟨r.kb, r.ko, none⟩) N.ks.length r.ck] 28 (0, 0)) := by rw [hV]; exact (Below.heap_alloc _ _ _ (by simp)).trans (heap_alloc_new w _)
  have v1 : V.heap[w.heap.size + 1]? = some (.cells #[.slice none 0 0, .slice none 0 0, .slice none 0 0, .string ⟨#[]⟩, .slice none 0 0, .slice none 0 0, .slice none 0 0] 50 (0, 0)) := by rw [hV]; exact heap_alloc2_new w _ _
  have HN : Hid (∀ W, Same V W → W.cell? ⟨w.heap.size, 0, none⟩ = some (.slice r.pa N.ps.length r.cp) ∧ W.cell? ⟨w.heap.size, 1, none⟩ = some (.slice (some ⟨r.sb, r.so, none⟩) N.ss.length r.cs) ∧ W.cell? ⟨w.heap.size, 2, none⟩ = some (.slice (some ⟨r.kb, r.ko, none⟩) N.ks.length r.ck)) := fun W s => ⟨s.keep ((cell_of_row _ _ _ _ _ _ v0).trans rfl), s.keep ((cell_of_row _ _ _ _ _ _ v0).trans rfl), s.keep ((cell_of_row _ _ _ _ _ _ v0).trans rfl)⟩
  have HG : Hid (∀ W, Same V W → W.heap[w.heap.size + 1]? = some (.cells #[.slice none 0 0, .slice none 0 0, .slice none 0 0, .string ⟨#[]⟩, .slice none 0 0, .slice none 0 0, .slice none 0 0] 50 (0, 0))) := fun W s => (s.block _ (lt_of_heap v1) (fun e => e)).trans v1
  have HI : Hid (∀ W, Same V W → NdIn W r N) := fun W s => h.same (t1.trans s)
  have HHI : Hid (i = m + 1) := hi
  have w1 : RowKit.wrap64 ((i : Int) - 1) = (m : Int) := by have := HZ.out; unfold RowKit.wrap64; omega
  have w2 : IntKind.i64.wrap ((i : Int) - 1) = (m : Int) := by have := HZ.out; rw [IntKind.wrap_i64]; omega
  have hhighK := high_kids (ao := some ⟨r.kb, r.ko, none⟩) (show i ≤ N.ks.length by omega) hc.ck
  have hhighS := high_texts (ao := some ⟨r.sb, r.so, none⟩) (show m ≤ N.ss.length by omega) hc.cs
  have pk := h.kp
  have ps := h.sp
  simp only [hka] at pk
  simp only [hsa] at ps
  obtain ⟨ak, hlowK, q1, q2⟩ := low_kids (ao := some ⟨r.kb, r.ko, none⟩) (show i ≤ N.ks.length by omega) hc.ck (fun e => by cases e)
  obtain ⟨asx, hlowS, q3, q4⟩ := low_texts (ao := some ⟨r.sb, r.so, none⟩) (show i ≤ N.ss.length by omega) hc.cs (fun e => by cases e)
  have HP1 : Hid (∀ W, Same V W → PartOk W 33 ⟨some ⟨r.kb, r.ko, none⟩, i, r.ck, (kcellsL N.ks).take (i * 33)⟩) := fun W s => (part_highK pk (by omega)).same (t1.trans s)
  have HP2 : Hid (∀ W, Same V W → PartOk W 1 ⟨some ⟨r.sb, r.so, none⟩, m, r.cs, (scells N.ss).take (m * 1)⟩) := fun W s => (part_highT ps (by omega)).same (t1.trans s)
  have HP3 : Hid (∀ W, Same V W → PartOk W 33 ⟨ak, N.ks.length - i, r.ck - i, (kcellsL N.ks).drop (i * 33)⟩) := fun W s => (part_lowK pk (by omega) hc.ck q1 q2 (fun a e => by cases e; exact ⟨_, _, rfl⟩)).same (t1.trans s)
  have HP4 : Hid (∀ W, Same V W → PartOk W 1 ⟨asx, N.ss.length - i, r.cs - i, (scells N.ss).drop (i * 1)⟩) := fun W s => (part_lowT ps hsl hc.cs q3 q4 (fun a e => by cases e; exact ⟨_, _, rfl⟩)).same (t1.trans s)
  have HXY : Hid (∀ W, Same V W → W.cell? ⟨r.sb, r.so + m, none⟩ = some (.string sp)) := fun W s => (t1.trans s).keep (h.at_.hs.cells m sp hx)
  have HOK : Hid (∀ x ∈ N.ks, KidOk x) := hok
  have b1 : (0 : Int) ≤ (m : Int) := by omega
  have b2 : (m : Int) < (N.ss.length : Int) := by omega
  have b3 : (0 : Int) ≤ (i : Int) := by omega
  clear pk ps q1 q2 q3 q4 hx hn hn2 hk hsl hml hne hne2 hok
  clear g0 g1 g2 v0 v1 h hc hi
  unfold ndV nodeV at HLf ⊢
  rw [hka, hsa] at HLf ⊢
  go_enter Try.func18, Try.ntmps18
  go_wp2_with fail
  rw [← hX]
  clear hX hV
  refine (HLf.out _).mono ?_
  rintro e X0 ⟨rfl, s0⟩
  have hs0 := hsX.same s0
  clear hsX s0 tx
  obtain ⟨n0, n1, n2⟩ := HN.out _ hs0.fr
  go_wp2_with fail
  have hD1 : HS V X0.drew (w.heap.size + 1 + 1) #[.slice none 0 0, .slice none 0 0, .slice none 0 0, .string ⟨#[]⟩, .slice none 0 0, .slice none 0 0, .slice none 0 0] := ⟨hs0.hb, Fr.drew hs0.fr, hs0.hn⟩
  have sD1 : Same X0 X0.drew := Fr.drew (Fr.refl _ _)
  refine wp_region_held_drew (S := fun X => X.cell? ⟨w.heap.size, 2, none⟩ = some (.slice (some ⟨r.kb, r.ko, none⟩) N.ks.length r.ck)) (by kernel_rfl) ((HN.out _ hD1.fr).2.2) (fun hHeld => ?_)
  generalize X0.drew = D1 at *
  refine wpAnyH_take (i := 0) (oi := { dst := some 47, op := Go.Op.fieldAddr 50 (Go.Operand.tmp 5) 0, type := 0, pos := "ref.go:152", after := #[], guard := none }) (v := .pointer (some ⟨w.heap.size + 1 + 1, 0, none⟩)) rfl (by kernel_rfl) (by kernel_rfl) (by kernel_rfl) (fun _ _ _ h => h) (Or.inl ⟨by rfl, fun w zz => by go_simp⟩) (by assumption) ?_
  try simp only [Act.put, List.setIfInBounds_toArray, List.set_cons_zero, List.set_cons_succ]
  refine wpAnyH_take (i := 1) (oi := { dst := some 48, op := Go.Op.fieldAddr 28 (Go.Operand.tmp 47) 2, type := 0, pos := "ref.go:152", after := #[{ on := 0, ground := Go.Ground.data }], guard := none }) (v := .pointer (some ⟨w.heap.size + 1 + 1, 2, none⟩)) rfl (by kernel_rfl) (by kernel_rfl) (by kernel_rfl) (fun _ _ _ h => h) (Or.inl ⟨by rfl, fun w zz => by go_simp⟩) (by assumption) ?_
  try simp only [Act.put, List.setIfInBounds_toArray, List.set_cons_zero, List.set_cons_succ]
  refine wpAnyH_take (i := 3) (oi := { dst := some 50, op := Go.Op.fieldAddr 28 (Go.Operand.tmp 2) 2, type := 0, pos := "ref.go:152", after := #[], guard := none }) (v := .pointer (some ⟨w.heap.size, 2, none⟩)) rfl (by kernel_rfl) (by kernel_rfl) (by kernel_rfl) (fun _ _ _ h => h) (Or.inl ⟨by rfl, fun w zz => by go_simp⟩) (by assumption) ?_
  try simp only [Act.put, List.setIfInBounds_toArray, List.set_cons_zero, List.set_cons_succ]
  refine wpAnyH_take (i := 4) (oi := { dst := some 51, op := Go.Op.load 26 (Go.Operand.tmp 50), type := 26, pos := "ref.go:152", after := #[{ on := 3, ground := Go.Ground.data }], guard := none }) (v := .slice (some ⟨r.kb, r.ko, none⟩) N.ks.length r.ck) rfl (by kernel_rfl) (by kernel_rfl) (by kernel_rfl) (fun _ _ _ h => h) (Or.inl ⟨by rfl, fun w zz => by go_simp⟩) (by assumption) ?_
  try simp only [Act.put, List.setIfInBounds_toArray, List.set_cons_zero, List.set_cons_succ]
  refine wpAnyH_take (i := 5) (oi := { dst := some 52, op := Go.Op.move (Go.Operand.tmp 1), type := 3, pos := "ref.go:152", after := #[], guard := none }) (v := .int .i64 (i : Int)) rfl (by kernel_rfl) (by kernel_rfl) (by kernel_rfl) (fun _ _ _ h => h) (Or.inl ⟨by rfl, fun w zz => by go_simp⟩) (by assumption) ?_
  try simp only [Act.put, List.setIfInBounds_toArray, List.set_cons_zero, List.set_cons_succ]
  refine wpAnyH_take (i := 6) (oi := { dst := some 53, op := Go.Op.slice 26 (Go.Operand.tmp 51) none (some (Go.Operand.tmp 52)) none, type := 26, pos := "ref.go:152", after := #[{ on := 4, ground := Go.Ground.data }, { on := 5, ground := Go.Ground.data }], guard := none }) (v := .slice (some ⟨r.kb, r.ko, none⟩) i r.ck) rfl (by kernel_rfl) (by kernel_rfl) (by kernel_rfl) (fun _ _ _ h => h) (Or.inl ⟨by rfl, fun w zz => by (have := hhighK w; go_simp)⟩) (by assumption) ?_
  try simp only [Act.put, List.setIfInBounds_toArray, List.set_cons_zero, List.set_cons_succ]
  have kb1 : D1.cell? ⟨w.heap.size + 1 + 1, 2, none⟩ = some (.slice none 0 0) := (cell_of_row _ _ _ _ _ _ hD1.hb).trans rfl
  refine wpAnyH_ready (rs := [2]) (by kernel_rfl) (by simp) ?_
  refine AllReadyH.cons (o := { dst := some 49, op := Go.Op.load 26 (Go.Operand.tmp 48), type := 26, pos := "ref.go:152", after := #[{ on := 1, ground := Go.Ground.data }], guard := none }) rfl (fun K hK => ?_) AllReadyH.nil
  go_simp
  refine hK.out _ _ (HN.out _ hD1.fr).2.2 (fun hHeld => ?_)
  clear hK K
  try simp only [Act.put, List.setIfInBounds_toArray, List.set_cons_zero, List.set_cons_succ]
  refine wpAnyH_ready (rs := [7]) (by kernel_rfl) (by simp) ?_
  refine AllReadyH.cons (o := { dst := some 54, op := Go.Op.call { callee := Go.Callee.builtin Go.Builtin.append, args := #[Go.Operand.tmp 49, Go.Operand.tmp 53], argTypes := #[26, 26] }, type := 26, pos := "ref.go:152", after := #[{ on := 2, ground := Go.Ground.data }, { on := 6, ground := Go.Ground.data }], guard := none }) rfl (fun K hK => ?_) AllReadyH.nil
  refine step_partKids (B := V.heap.size) _ rfl _ _ rfl (by rfl) own_nil (x := ⟨some ⟨r.kb, r.ko, none⟩, i, r.ck, (kcellsL N.ks).take (i * 33)⟩) (by rfl) (HP1.out _ hD1.fr) (by have := HZ.out; simp only; omega) (by have := hD1.fr.size; omega) ?_
  simp only [Nat.zero_add, List.nil_append]
  intro ao1 c1 Y1 o1 g1
  have e1 : Same D1 Y1 := Fr.grown (Fr.refl _ _) g1 (fun k hk => by cases hk)
  have hY1 := hD1.same e1
  refine hK.out _ _ (HN.out _ hY1.fr).2.2 (fun hHeld => ?_)
  clear hK K
  try simp only [Act.put, List.setIfInBounds_toArray, List.set_cons_zero, List.set_cons_succ]
  refine wpAnyH_take (i := 8) (oi := { dst := some 55, op := Go.Op.fieldAddr 50 (Go.Operand.tmp 5) 0, type := 0, pos := "ref.go:152", after := #[{ on := 0, ground := Go.Ground.phase }, { on := 1, ground := Go.Ground.phase }, { on := 2, ground := Go.Ground.phase }, { on := 3, ground := Go.Ground.phase }, { on := 4, ground := Go.Ground.phase }, { on := 5, ground := Go.Ground.phase }, { on := 6, ground := Go.Ground.phase }, { on := 7, ground := Go.Ground.phase }], guard := none }) (v := .pointer (some ⟨w.heap.size + 1 + 1, 0, none⟩)) rfl (by kernel_rfl) (by kernel_rfl) (by kernel_rfl) (fun _ _ _ h => h) (Or.inl ⟨by rfl, fun w zz => by go_simp⟩) (by assumption) ?_
  try simp only [Act.put, List.setIfInBounds_toArray, List.set_cons_zero, List.set_cons_succ]
  refine wpAnyH_take (i := 9) (oi := { dst := some 56, op := Go.Op.fieldAddr 28 (Go.Operand.tmp 55) 2, type := 0, pos := "ref.go:152", after := #[{ on := 8, ground := Go.Ground.data }, { on := 0, ground := Go.Ground.phase }, { on := 1, ground := Go.Ground.phase }, { on := 2, ground := Go.Ground.phase }, { on := 3, ground := Go.Ground.phase }, { on := 4, ground := Go.Ground.phase }, { on := 5, ground := Go.Ground.phase }, { on := 6, ground := Go.Ground.phase }, { on := 7, ground := Go.Ground.phase }], guard := none }) (v := .pointer (some ⟨w.heap.size + 1 + 1, 2, none⟩)) rfl (by kernel_rfl) (by kernel_rfl) (by kernel_rfl) (fun _ _ _ h => h) (Or.inl ⟨by rfl, fun w zz => by go_simp⟩) (by assumption) ?_
  try simp only [Act.put, List.setIfInBounds_toArray, List.set_cons_zero, List.set_cons_succ]
  obtain ⟨hs1, fz1, fs1⟩ := hY1.put 2 (.slice ao1 i c1)
  clear kb1
  have kb1 : Y1.cell? ⟨w.heap.size + 1 + 1, 2, none⟩ = some (.slice none 0 0) := (cell_of_row _ _ _ _ _ _ hY1.hb).trans rfl
  refine wpAnyH_ready (rs := [10]) (by kernel_rfl) (by simp) ?_
  refine AllReadyH.cons (o := { dst := none, op := Go.Op.store 26 (Go.Operand.tmp 56) (Go.Operand.tmp 54), type := 0, pos := "ref.go:152", after := #[{ on := 9, ground := Go.Ground.data }, { on := 7, ground := Go.Ground.data }, { on := 7, ground := Go.Ground.chain }, { on := 0, ground := Go.Ground.phase }, { on := 1, ground := Go.Ground.phase }, { on := 2, ground := Go.Ground.phase }, { on := 3, ground := Go.Ground.phase }, { on := 4, ground := Go.Ground.phase }, { on := 5, ground := Go.Ground.phase }, { on := 6, ground := Go.Ground.phase }, { on := 7, ground := Go.Ground.phase }], guard := none }) rfl (fun K hK => ?_) AllReadyH.nil
  go_simp
  refine hK.out _ _ (HN.out _ hs1.fr).2.2 (fun hHeld => ?_)
  clear hK K
  refine wpAnyH_done (by kernel_rfl) ?_ _
  have T1 : Fr (fun k => k = w.heap.size + 1 + 1) D1 (Y1.setCell ⟨w.heap.size + 1 + 1, 2, none⟩ (.slice ao1 i c1)) := Fr.trans (e1.mono (fun _ _ f => f.elim)) fs1 (fun _ _ e => e)
  have row1 := own_frameB o1 fs1 (fun k hk e => type_ne o1 hY1.hb (by decide) (by rw [← e]; exact hk))
  obtain ⟨X1, hX1⟩ : ∃ X, X = Y1.setCell ⟨w.heap.size + 1 + 1, 2, none⟩ (.slice ao1 i c1) := ⟨_, rfl⟩
  rw [← hX1] at hs1 T1 row1 ⊢
  replace hs1 : HS V X1 (w.heap.size + 1 + 1) #[.slice none 0 0, .slice none 0 0, .slice ao1 i c1, .string ⟨#[]⟩, .slice none 0 0, .slice none 0 0, .slice none 0 0] := hs1
  clear hX1 kb1 fz1 fs1 o1 g1 hY1 e1
  go_wp2_with fail
  have hD2 : HS V X1.drew (w.heap.size + 1 + 1) #[.slice none 0 0, .slice none 0 0, .slice ao1 i c1, .string ⟨#[]⟩, .slice none 0 0, .slice none 0 0, .slice none 0 0] := ⟨hs1.hb, Fr.drew hs1.fr, hs1.hn⟩
  have sD2 : Same X1 X1.drew := Fr.drew (Fr.refl _ _)
  refine wp_region_held_drew (S := fun X => X.cell? ⟨w.heap.size, 1, none⟩ = some (.slice (some ⟨r.sb, r.so, none⟩) N.ss.length r.cs)) (by kernel_rfl) ((HN.out _ hD2.fr).2.1) (fun hHeld => ?_)
  generalize X1.drew = D2 at *
  refine wpAnyH_take (i := 0) (oi := { dst := some 57, op := Go.Op.fieldAddr 50 (Go.Operand.tmp 5) 0, type := 0, pos := "ref.go:153", after := #[], guard := none }) (v := .pointer (some ⟨w.heap.size + 1 + 1, 0, none⟩)) rfl (by kernel_rfl) (by kernel_rfl) (by kernel_rfl) (fun _ _ _ h => h) (Or.inl ⟨by rfl, fun w zz => by go_simp⟩) (by assumption) ?_
  try simp only [Act.put, List.setIfInBounds_toArray, List.set_cons_zero, List.set_cons_succ]
  refine wpAnyH_take (i := 1) (oi := { dst := some 58, op := Go.Op.fieldAddr 28 (Go.Operand.tmp 57) 1, type := 0, pos := "ref.go:153", after := #[{ on := 0, ground := Go.Ground.data }], guard := none }) (v := .pointer (some ⟨w.heap.size + 1 + 1, 1, none⟩)) rfl (by kernel_rfl) (by kernel_rfl) (by kernel_rfl) (fun _ _ _ h => h) (Or.inl ⟨by rfl, fun w zz => by go_simp⟩) (by assumption) ?_
  try simp only [Act.put, List.setIfInBounds_toArray, List.set_cons_zero, List.set_cons_succ]
  refine wpAnyH_take (i := 3) (oi := { dst := some 60, op := Go.Op.fieldAddr 28 (Go.Operand.tmp 2) 1, type := 0, pos := "ref.go:153", after := #[], guard := none }) (v := .pointer (some ⟨w.heap.size, 1, none⟩)) rfl (by kernel_rfl) (by kernel_rfl) (by kernel_rfl) (fun _ _ _ h => h) (Or.inl ⟨by rfl, fun w zz => by go_simp⟩) (by assumption) ?_
  try simp only [Act.put, List.setIfInBounds_toArray, List.set_cons_zero, List.set_cons_succ]
  refine wpAnyH_take (i := 4) (oi := { dst := some 61, op := Go.Op.load 25 (Go.Operand.tmp 60), type := 25, pos := "ref.go:153", after := #[{ on := 3, ground := Go.Ground.data }], guard := none }) (v := .slice (some ⟨r.sb, r.so, none⟩) N.ss.length r.cs) rfl (by kernel_rfl) (by kernel_rfl) (by kernel_rfl) (fun _ _ _ h => h) (Or.inl ⟨by rfl, fun w zz => by go_simp⟩) (by assumption) ?_
  try simp only [Act.put, List.setIfInBounds_toArray, List.set_cons_zero, List.set_cons_succ]
  refine wpAnyH_take (i := 5) (oi := { dst := some 62, op := Go.Op.move (Go.Operand.tmp 1), type := 3, pos := "ref.go:153", after := #[], guard := none }) (v := .int .i64 (i : Int)) rfl (by kernel_rfl) (by kernel_rfl) (by kernel_rfl) (fun _ _ _ h => h) (Or.inl ⟨by rfl, fun w zz => by go_simp⟩) (by assumption) ?_
  try simp only [Act.put, List.setIfInBounds_toArray, List.set_cons_zero, List.set_cons_succ]
  refine wpAnyH_take (i := 6) (oi := { dst := some 63, op := Go.Op.binOp Go.BinOp.sub 3 (Go.Operand.tmp 62) (Go.Operand.const (Go.Value.int Go.IntKind.i64 1)) 3, type := 3, pos := "ref.go:153", after := #[{ on := 5, ground := Go.Ground.data }], guard := none }) (v := .int .i64 (m : Int)) rfl (by kernel_rfl) (by kernel_rfl) (by kernel_rfl) (fun _ _ _ h => h) (Or.inl ⟨by rfl, fun w zz => by go_simp⟩) (by assumption) ?_
  try simp only [Act.put, List.setIfInBounds_toArray, List.set_cons_zero, List.set_cons_succ]
  refine wpAnyH_take (i := 7) (oi := { dst := some 64, op := Go.Op.slice 25 (Go.Operand.tmp 61) none (some (Go.Operand.tmp 63)) none, type := 25, pos := "ref.go:153", after := #[{ on := 4, ground := Go.Ground.data }, { on := 6, ground := Go.Ground.data }], guard := none }) (v := .slice (some ⟨r.sb, r.so, none⟩) m r.cs) rfl (by kernel_rfl) (by kernel_rfl) (by kernel_rfl) (fun _ _ _ h => h) (Or.inl ⟨by rfl, fun w zz => by (have := hhighS w; go_simp)⟩) (by assumption) ?_
  try simp only [Act.put, List.setIfInBounds_toArray, List.set_cons_zero, List.set_cons_succ]
  have kb2 : D2.cell? ⟨w.heap.size + 1 + 1, 1, none⟩ = some (.slice none 0 0) := (cell_of_row _ _ _ _ _ _ hD2.hb).trans rfl
  refine wpAnyH_ready (rs := [2]) (by kernel_rfl) (by simp) ?_
  refine AllReadyH.cons (o := { dst := some 59, op := Go.Op.load 25 (Go.Operand.tmp 58), type := 25, pos := "ref.go:153", after := #[{ on := 1, ground := Go.Ground.data }], guard := none }) rfl (fun K hK => ?_) AllReadyH.nil
  go_simp
  refine hK.out _ _ (HN.out _ hD2.fr).2.1 (fun hHeld => ?_)
  clear hK K
  try simp only [Act.put, List.setIfInBounds_toArray, List.set_cons_zero, List.set_cons_succ]
  refine wpAnyH_ready (rs := [8]) (by kernel_rfl) (by simp) ?_
  refine AllReadyH.cons (o := { dst := some 65, op := Go.Op.call { callee := Go.Callee.builtin Go.Builtin.append, args := #[Go.Operand.tmp 59, Go.Operand.tmp 64], argTypes := #[25, 25] }, type := 25, pos := "ref.go:153", after := #[{ on := 2, ground := Go.Ground.data }, { on := 7, ground := Go.Ground.data }], guard := none }) rfl (fun K hK => ?_) AllReadyH.nil
  refine step_partTexts (B := V.heap.size) _ rfl _ _ rfl (by rfl) own_nil (x := ⟨some ⟨r.sb, r.so, none⟩, m, r.cs, (scells N.ss).take (m * 1)⟩) (by rfl) (HP2.out _ hD2.fr) (by have := HZ.out; simp only; omega) (by have := hD2.fr.size; omega) ?_
  simp only [Nat.zero_add, List.nil_append]
  intro ao2 c2 Y2 o2 g2
  have e2 : Same D2 Y2 := Fr.grown (Fr.refl _ _) g2 (fun k hk => by cases hk)
  have hY2 := hD2.same e2
  refine hK.out _ _ (HN.out _ hY2.fr).2.1 (fun hHeld => ?_)
  clear hK K
  try simp only [Act.put, List.setIfInBounds_toArray, List.set_cons_zero, List.set_cons_succ]
  refine wpAnyH_take (i := 9) (oi := { dst := some 66, op := Go.Op.fieldAddr 50 (Go.Operand.tmp 5) 0, type := 0, pos := "ref.go:153", after := #[{ on := 0, ground := Go.Ground.phase }, { on := 1, ground := Go.Ground.phase }, { on := 2, ground := Go.Ground.phase }, { on := 3, ground := Go.Ground.phase }, { on := 4, ground := Go.Ground.phase }, { on := 5, ground := Go.Ground.phase }, { on := 6, ground := Go.Ground.phase }, { on := 7, ground := Go.Ground.phase }, { on := 8, ground := Go.Ground.phase }], guard := none }) (v := .pointer (some ⟨w.heap.size + 1 + 1, 0, none⟩)) rfl (by kernel_rfl) (by kernel_rfl) (by kernel_rfl) (fun _ _ _ h => h) (Or.inl ⟨by rfl, fun w zz => by go_simp⟩) (by assumption) ?_
  try simp only [Act.put, List.setIfInBounds_toArray, List.set_cons_zero, List.set_cons_succ]
  refine wpAnyH_take (i := 10) (oi := { dst := some 67, op := Go.Op.fieldAddr 28 (Go.Operand.tmp 66) 1, type := 0, pos := "ref.go:153", after := #[{ on := 9, ground := Go.Ground.data }, { on := 0, ground := Go.Ground.phase }, { on := 1, ground := Go.Ground.phase }, { on := 2, ground := Go.Ground.phase }, { on := 3, ground := Go.Ground.phase }, { on := 4, ground := Go.Ground.phase }, { on := 5, ground := Go.Ground.phase }, { on := 6, ground := Go.Ground.phase }, { on := 7, ground := Go.Ground.phase }, { on := 8, ground := Go.Ground.phase }], guard := none }) (v := .pointer (some ⟨w.heap.size + 1 + 1, 1, none⟩)) rfl (by kernel_rfl) (by kernel_rfl) (by kernel_rfl) (fun _ _ _ h => h) (Or.inl ⟨by rfl, fun w zz => by go_simp⟩) (by assumption) ?_
  try simp only [Act.put, List.setIfInBounds_toArray, List.set_cons_zero, List.set_cons_succ]
  obtain ⟨hs2, fz2, fs2⟩ := hY2.put 1 (.slice ao2 m c2)
  clear kb2
  have kb2 : Y2.cell? ⟨w.heap.size + 1 + 1, 1, none⟩ = some (.slice none 0 0) := (cell_of_row _ _ _ _ _ _ hY2.hb).trans rfl
  refine wpAnyH_ready (rs := [11]) (by kernel_rfl) (by simp) ?_
  refine AllReadyH.cons (o := { dst := none, op := Go.Op.store 25 (Go.Operand.tmp 67) (Go.Operand.tmp 65), type := 0, pos := "ref.go:153", after := #[{ on := 10, ground := Go.Ground.data }, { on := 8, ground := Go.Ground.data }, { on := 8, ground := Go.Ground.chain }, { on := 0, ground := Go.Ground.phase }, { on := 1, ground := Go.Ground.phase }, { on := 2, ground := Go.Ground.phase }, { on := 3, ground := Go.Ground.phase }, { on := 4, ground := Go.Ground.phase }, { on := 5, ground := Go.Ground.phase }, { on := 6, ground := Go.Ground.phase }, { on := 7, ground := Go.Ground.phase }, { on := 8, ground := Go.Ground.phase }], guard := none }) rfl (fun K hK => ?_) AllReadyH.nil
  go_simp
  refine hK.out _ _ (HN.out _ hs2.fr).2.1 (fun hHeld => ?_)
  clear hK K
  refine wpAnyH_done (by kernel_rfl) ?_ _
  have T2 : Fr (fun k => k = w.heap.size + 1 + 1) D2 (Y2.setCell ⟨w.heap.size + 1 + 1, 1, none⟩ (.slice ao2 m c2)) := Fr.trans (e2.mono (fun _ _ f => f.elim)) fs2 (fun _ _ e => e)
  have row2 := own_frameB o2 fs2 (fun k hk e => type_ne o2 hY2.hb (by decide) (by rw [← e]; exact hk))
  obtain ⟨X2, hX2⟩ : ∃ X, X = Y2.setCell ⟨w.heap.size + 1 + 1, 1, none⟩ (.slice ao2 m c2) := ⟨_, rfl⟩
  rw [← hX2] at hs2 T2 row2 ⊢
  replace hs2 : HS V X2 (w.heap.size + 1 + 1) #[.slice none 0 0, .slice ao2 m c2, .slice ao1 i c1, .string ⟨#[]⟩, .slice none 0 0, .slice none 0 0, .slice none 0 0] := hs2
  clear hX2 kb2 fz2 fs2 o2 g2 hY2 e2
  have row1_2 := own_frameB (own_frameB row1 sD2 (fun _ _ f => f)) T2 (fun k hk e => type_ne row1 hs1.hb (by decide) (by rw [← e]; exact hk))
  obtain ⟨n0, n1, n2⟩ := HN.out _ hs2.fr
  have cx := HXY.out _ hs2.fr
  have kb3 : X2.cell? ⟨w.heap.size + 1 + 1, 3, none⟩ = some (.string ⟨#[]⟩) := (cell_of_row _ _ _ _ _ _ hs2.hb).trans rfl
  obtain ⟨hs3, fz3, T3⟩ := hs2.put 3 (.string sp)
  have sD3 : Same X2 X2 := Fr.refl _ _
  go_wp2_with fail
  obtain ⟨X3, hX3⟩ : ∃ X, X = X2.setCell ⟨w.heap.size + 1 + 1, 3, none⟩ (.string sp) := ⟨_, rfl⟩
  rw [← hX3] at hs3 T3 ⊢
  replace hs3 : HS V X3 (w.heap.size + 1 + 1) #[.slice none 0 0, .slice ao2 m c2, .slice ao1 i c1, .string sp, .slice none 0 0, .slice none 0 0, .slice none 0 0] := hs3
  clear hX3 kb3 fz3 n0 n1 n2 cx
  have row1_3 := own_frameB row1_2 T3 (fun k hk e => type_ne row1_2 hs2.hb (by decide) (by rw [← e]; exact hk))
  have row2_3 := own_frameB row2 T3 (fun k hk e => type_ne row2 hs2.hb (by decide) (by rw [← e]; exact hk))
  have hD4 : HS V X3.drew (w.heap.size + 1 + 1) #[.slice none 0 0, .slice ao2 m c2, .slice ao1 i c1, .string sp, .slice none 0 0, .slice none 0 0, .slice none 0 0] := ⟨hs3.hb, Fr.drew hs3.fr, hs3.hn⟩
  have sD4 : Same X3 X3.drew := Fr.drew (Fr.refl _ _)
  refine wp_region_held_drew (S := fun X => X.cell? ⟨w.heap.size, 2, none⟩ = some (.slice (some ⟨r.kb, r.ko, none⟩) N.ks.length r.ck)) (by kernel_rfl) ((HN.out _ hD4.fr).2.2) (fun hHeld => ?_)
  generalize X3.drew = D4 at *
  refine wpAnyH_take (i := 0) (oi := { dst := some 75, op := Go.Op.fieldAddr 50 (Go.Operand.tmp 5) 2, type := 0, pos := "ref.go:155", after := #[], guard := none }) (v := .pointer (some ⟨w.heap.size + 1 + 1, 4, none⟩)) rfl (by kernel_rfl) (by kernel_rfl) (by kernel_rfl) (fun _ _ _ h => h) (Or.inl ⟨by rfl, fun w zz => by go_simp⟩) (by assumption) ?_
  try simp only [Act.put, List.setIfInBounds_toArray, List.set_cons_zero, List.set_cons_succ]
  refine wpAnyH_take (i := 1) (oi := { dst := some 76, op := Go.Op.fieldAddr 28 (Go.Operand.tmp 75) 2, type := 0, pos := "ref.go:155", after := #[{ on := 0, ground := Go.Ground.data }], guard := none }) (v := .pointer (some ⟨w.heap.size + 1 + 1, 6, none⟩)) rfl (by kernel_rfl) (by kernel_rfl) (by kernel_rfl) (fun _ _ _ h => h) (Or.inl ⟨by rfl, fun w zz => by go_simp⟩) (by assumption) ?_
  try simp only [Act.put, List.setIfInBounds_toArray, List.set_cons_zero, List.set_cons_succ]
  refine wpAnyH_take (i := 3) (oi := { dst := some 78, op := Go.Op.fieldAddr 28 (Go.Operand.tmp 2) 2, type := 0, pos := "ref.go:155", after := #[], guard := none }) (v := .pointer (some ⟨w.heap.size, 2, none⟩)) rfl (by kernel_rfl) (by kernel_rfl) (by kernel_rfl) (fun _ _ _ h => h) (Or.inl ⟨by rfl, fun w zz => by go_simp⟩) (by assumption) ?_
  try simp only [Act.put, List.setIfInBounds_toArray, List.set_cons_zero, List.set_cons_succ]
  refine wpAnyH_take (i := 4) (oi := { dst := some 79, op := Go.Op.load 26 (Go.Operand.tmp 78), type := 26, pos := "ref.go:155", after := #[{ on := 3, ground := Go.Ground.data }], guard := none }) (v := .slice (some ⟨r.kb, r.ko, none⟩) N.ks.length r.ck) rfl (by kernel_rfl) (by kernel_rfl) (by kernel_rfl) (fun _ _ _ h => h) (Or.inl ⟨by rfl, fun w zz => by go_simp⟩) (by assumption) ?_
  try simp only [Act.put, List.setIfInBounds_toArray, List.set_cons_zero, List.set_cons_succ]
  refine wpAnyH_take (i := 5) (oi := { dst := some 80, op := Go.Op.move (Go.Operand.tmp 1), type := 3, pos := "ref.go:155", after := #[], guard := none }) (v := .int .i64 (i : Int)) rfl (by kernel_rfl) (by kernel_rfl) (by kernel_rfl) (fun _ _ _ h => h) (Or.inl ⟨by rfl, fun w zz => by go_simp⟩) (by assumption) ?_
  try simp only [Act.put, List.setIfInBounds_toArray, List.set_cons_zero, List.set_cons_succ]
  refine wpAnyH_take (i := 6) (oi := { dst := some 81, op := Go.Op.slice 26 (Go.Operand.tmp 79) (some (Go.Operand.tmp 80)) none none, type := 26, pos := "ref.go:155", after := #[{ on := 4, ground := Go.Ground.data }, { on := 5, ground := Go.Ground.data }], guard := none }) (v := .slice ak (N.ks.length - i) (r.ck - i)) rfl (by kernel_rfl) (by kernel_rfl) (by kernel_rfl) (fun _ _ _ h => h) (Or.inl ⟨by rfl, fun w zz => by (have := hlowK w; go_simp)⟩) (by assumption) ?_
  try simp only [Act.put, List.setIfInBounds_toArray, List.set_cons_zero, List.set_cons_succ]
  have kb4 : D4.cell? ⟨w.heap.size + 1 + 1, 6, none⟩ = some (.slice none 0 0) := (cell_of_row _ _ _ _ _ _ hD4.hb).trans rfl
  refine wpAnyH_ready (rs := [2]) (by kernel_rfl) (by simp) ?_
  refine AllReadyH.cons (o := { dst := some 77, op := Go.Op.load 26 (Go.Operand.tmp 76), type := 26, pos := "ref.go:155", after := #[{ on := 1, ground := Go.Ground.data }], guard := none }) rfl (fun K hK => ?_) AllReadyH.nil
  go_simp
  refine hK.out _ _ (HN.out _ hD4.fr).2.2 (fun hHeld => ?_)
  clear hK K
  try simp only [Act.put, List.setIfInBounds_toArray, List.set_cons_zero, List.set_cons_succ]
  refine wpAnyH_ready (rs := [7]) (by kernel_rfl) (by simp) ?_
  refine AllReadyH.cons (o := { dst := some 82, op := Go.Op.call { callee := Go.Callee.builtin Go.Builtin.append, args := #[Go.Operand.tmp 77, Go.Operand.tmp 81], argTypes := #[26, 26] }, type := 26, pos := "ref.go:155", after := #[{ on := 2, ground := Go.Ground.data }, { on := 6, ground := Go.Ground.data }], guard := none }) rfl (fun K hK => ?_) AllReadyH.nil
  refine step_partKids (B := V.heap.size) _ rfl _ _ rfl (by rfl) own_nil (x := ⟨ak, N.ks.length - i, r.ck - i, (kcellsL N.ks).drop (i * 33)⟩) (by rfl) (HP3.out _ hD4.fr) (by have := HZ.out; simp only; omega) (by have := hD4.fr.size; omega) ?_
  simp only [Nat.zero_add, List.nil_append]
  intro ao4 c4 Y4 o4 g4
  have e4 : Same D4 Y4 := Fr.grown (Fr.refl _ _) g4 (fun k hk => by cases hk)
  have hY4 := hD4.same e4
  refine hK.out _ _ (HN.out _ hY4.fr).2.2 (fun hHeld => ?_)
  clear hK K
  try simp only [Act.put, List.setIfInBounds_toArray, List.set_cons_zero, List.set_cons_succ]
  refine wpAnyH_take (i := 8) (oi := { dst := some 83, op := Go.Op.fieldAddr 50 (Go.Operand.tmp 5) 2, type := 0, pos := "ref.go:155", after := #[{ on := 0, ground := Go.Ground.phase }, { on := 1, ground := Go.Ground.phase }, { on := 2, ground := Go.Ground.phase }, { on := 3, ground := Go.Ground.phase }, { on := 4, ground := Go.Ground.phase }, { on := 5, ground := Go.Ground.phase }, { on := 6, ground := Go.Ground.phase }, { on := 7, ground := Go.Ground.phase }], guard := none }) (v := .pointer (some ⟨w.heap.size + 1 + 1, 4, none⟩)) rfl (by kernel_rfl) (by kernel_rfl) (by kernel_rfl) (fun _ _ _ h => h) (Or.inl ⟨by rfl, fun w zz => by go_simp⟩) (by assumption) ?_
  try simp only [Act.put, List.setIfInBounds_toArray, List.set_cons_zero, List.set_cons_succ]
  refine wpAnyH_take (i := 9) (oi := { dst := some 84, op := Go.Op.fieldAddr 28 (Go.Operand.tmp 83) 2, type := 0, pos := "ref.go:155", after := #[{ on := 8, ground := Go.Ground.data }, { on := 0, ground := Go.Ground.phase }, { on := 1, ground := Go.Ground.phase }, { on := 2, ground := Go.Ground.phase }, { on := 3, ground := Go.Ground.phase }, { on := 4, ground := Go.Ground.phase }, { on := 5, ground := Go.Ground.phase }, { on := 6, ground := Go.Ground.phase }, { on := 7, ground := Go.Ground.phase }], guard := none }) (v := .pointer (some ⟨w.heap.size + 1 + 1, 6, none⟩)) rfl (by kernel_rfl) (by kernel_rfl) (by kernel_rfl) (fun _ _ _ h => h) (Or.inl ⟨by rfl, fun w zz => by go_simp⟩) (by assumption) ?_
  try simp only [Act.put, List.setIfInBounds_toArray, List.set_cons_zero, List.set_cons_succ]
  obtain ⟨hs4, fz4, fs4⟩ := hY4.put 6 (.slice ao4 (N.ks.length - i) c4)
  clear kb4
  have kb4 : Y4.cell? ⟨w.heap.size + 1 + 1, 6, none⟩ = some (.slice none 0 0) := (cell_of_row _ _ _ _ _ _ hY4.hb).trans rfl
  refine wpAnyH_ready (rs := [10]) (by kernel_rfl) (by simp) ?_
  refine AllReadyH.cons (o := { dst := none, op := Go.Op.store 26 (Go.Operand.tmp 84) (Go.Operand.tmp 82), type := 0, pos := "ref.go:155", after := #[{ on := 9, ground := Go.Ground.data }, { on := 7, ground := Go.Ground.data }, { on := 7, ground := Go.Ground.chain }, { on := 0, ground := Go.Ground.phase }, { on := 1, ground := Go.Ground.phase }, { on := 2, ground := Go.Ground.phase }, { on := 3, ground := Go.Ground.phase }, { on := 4, ground := Go.Ground.phase }, { on := 5, ground := Go.Ground.phase }, { on := 6, ground := Go.Ground.phase }, { on := 7, ground := Go.Ground.phase }], guard := none }) rfl (fun K hK => ?_) AllReadyH.nil
  go_simp
  refine hK.out _ _ (HN.out _ hs4.fr).2.2 (fun hHeld => ?_)
  clear hK K
  refine wpAnyH_done (by kernel_rfl) ?_ _
  have T4 : Fr (fun k => k = w.heap.size + 1 + 1) D4 (Y4.setCell ⟨w.heap.size + 1 + 1, 6, none⟩ (.slice ao4 (N.ks.length - i) c4)) := Fr.trans (e4.mono (fun _ _ f => f.elim)) fs4 (fun _ _ e => e)
  have row4 := own_frameB o4 fs4 (fun k hk e => type_ne o4 hY4.hb (by decide) (by rw [← e]; exact hk))
  obtain ⟨X4, hX4⟩ : ∃ X, X = Y4.setCell ⟨w.heap.size + 1 + 1, 6, none⟩ (.slice ao4 (N.ks.length - i) c4) := ⟨_, rfl⟩
  rw [← hX4] at hs4 T4 row4 ⊢
  replace hs4 : HS V X4 (w.heap.size + 1 + 1) #[.slice none 0 0, .slice ao2 m c2, .slice ao1 i c1, .string sp, .slice none 0 0, .slice none 0 0, .slice ao4 (N.ks.length - i) c4] := hs4
  clear hX4 kb4 fz4 fs4 o4 g4 hY4 e4
  have row1_4 := own_frameB (own_frameB row1_3 sD4 (fun _ _ f => f)) T4 (fun k hk e => type_ne row1_3 hs3.hb (by decide) (by rw [← e]; exact hk))
  have row2_4 := own_frameB (own_frameB row2_3 sD4 (fun _ _ f => f)) T4 (fun k hk e => type_ne row2_3 hs3.hb (by decide) (by rw [← e]; exact hk))
  go_wp2_with fail
  have hD5 : HS V X4.drew (w.heap.size + 1 + 1) #[.slice none 0 0, .slice ao2 m c2, .slice ao1 i c1, .string sp, .slice none 0 0, .slice none 0 0, .slice ao4 (N.ks.length - i) c4] := ⟨hs4.hb, Fr.drew hs4.fr, hs4.hn⟩
  have sD5 : Same X4 X4.drew := Fr.drew (Fr.refl _ _)
  refine wp_region_held_drew (S := fun X => X.cell? ⟨w.heap.size, 1, none⟩ = some (.slice (some ⟨r.sb, r.so, none⟩) N.ss.length r.cs)) (by kernel_rfl) ((HN.out _ hD5.fr).2.1) (fun hHeld => ?_)
  generalize X4.drew = D5 at *
  refine wpAnyH_take (i := 0) (oi := { dst := some 85, op := Go.Op.fieldAddr 50 (Go.Operand.tmp 5) 2, type := 0, pos := "ref.go:156", after := #[], guard := none }) (v := .pointer (some ⟨w.heap.size + 1 + 1, 4, none⟩)) rfl (by kernel_rfl) (by kernel_rfl) (by kernel_rfl) (fun _ _ _ h => h) (Or.inl ⟨by rfl, fun w zz => by go_simp⟩) (by assumption) ?_
  try simp only [Act.put, List.setIfInBounds_toArray, List.set_cons_zero, List.set_cons_succ]
  refine wpAnyH_take (i := 1) (oi := { dst := some 86, op := Go.Op.fieldAddr 28 (Go.Operand.tmp 85) 1, type := 0, pos := "ref.go:156", after := #[{ on := 0, ground := Go.Ground.data }], guard := none }) (v := .pointer (some ⟨w.heap.size + 1 + 1, 5, none⟩)) rfl (by kernel_rfl) (by kernel_rfl) (by kernel_rfl) (fun _ _ _ h => h) (Or.inl ⟨by rfl, fun w zz => by go_simp⟩) (by assumption) ?_
  try simp only [Act.put, List.setIfInBounds_toArray, List.set_cons_zero, List.set_cons_succ]
  refine wpAnyH_take (i := 3) (oi := { dst := some 88, op := Go.Op.fieldAddr 28 (Go.Operand.tmp 2) 1, type := 0, pos := "ref.go:156", after := #[], guard := none }) (v := .pointer (some ⟨w.heap.size, 1, none⟩)) rfl (by kernel_rfl) (by kernel_rfl) (by kernel_rfl) (fun _ _ _ h => h) (Or.inl ⟨by rfl, fun w zz => by go_simp⟩) (by assumption) ?_
  try simp only [Act.put, List.setIfInBounds_toArray, List.set_cons_zero, List.set_cons_succ]
  refine wpAnyH_take (i := 4) (oi := { dst := some 89, op := Go.Op.load 25 (Go.Operand.tmp 88), type := 25, pos := "ref.go:156", after := #[{ on := 3, ground := Go.Ground.data }], guard := none }) (v := .slice (some ⟨r.sb, r.so, none⟩) N.ss.length r.cs) rfl (by kernel_rfl) (by kernel_rfl) (by kernel_rfl) (fun _ _ _ h => h) (Or.inl ⟨by rfl, fun w zz => by go_simp⟩) (by assumption) ?_
  try simp only [Act.put, List.setIfInBounds_toArray, List.set_cons_zero, List.set_cons_succ]
  refine wpAnyH_take (i := 5) (oi := { dst := some 90, op := Go.Op.move (Go.Operand.tmp 1), type := 3, pos := "ref.go:156", after := #[], guard := none }) (v := .int .i64 (i : Int)) rfl (by kernel_rfl) (by kernel_rfl) (by kernel_rfl) (fun _ _ _ h => h) (Or.inl ⟨by rfl, fun w zz => by go_simp⟩) (by assumption) ?_
  try simp only [Act.put, List.setIfInBounds_toArray, List.set_cons_zero, List.set_cons_succ]
  refine wpAnyH_take (i := 6) (oi := { dst := some 91, op := Go.Op.slice 25 (Go.Operand.tmp 89) (some (Go.Operand.tmp 90)) none none, type := 25, pos := "ref.go:156", after := #[{ on := 4, ground := Go.Ground.data }, { on := 5, ground := Go.Ground.data }], guard := none }) (v := .slice asx (N.ss.length - i) (r.cs - i)) rfl (by kernel_rfl) (by kernel_rfl) (by kernel_rfl) (fun _ _ _ h => h) (Or.inl ⟨by rfl, fun w zz => by (have := hlowS w; go_simp)⟩) (by assumption) ?_
  try simp only [Act.put, List.setIfInBounds_toArray, List.set_cons_zero, List.set_cons_succ]
  have kb5 : D5.cell? ⟨w.heap.size + 1 + 1, 5, none⟩ = some (.slice none 0 0) := (cell_of_row _ _ _ _ _ _ hD5.hb).trans rfl
  refine wpAnyH_ready (rs := [2]) (by kernel_rfl) (by simp) ?_
  refine AllReadyH.cons (o := { dst := some 87, op := Go.Op.load 25 (Go.Operand.tmp 86), type := 25, pos := "ref.go:156", after := #[{ on := 1, ground := Go.Ground.data }], guard := none }) rfl (fun K hK => ?_) AllReadyH.nil
  go_simp
  refine hK.out _ _ (HN.out _ hD5.fr).2.1 (fun hHeld => ?_)
  clear hK K
  try simp only [Act.put, List.setIfInBounds_toArray, List.set_cons_zero, List.set_cons_succ]
  refine wpAnyH_ready (rs := [7]) (by kernel_rfl) (by simp) ?_
  refine AllReadyH.cons (o := { dst := some 92, op := Go.Op.call { callee := Go.Callee.builtin Go.Builtin.append, args := #[Go.Operand.tmp 87, Go.Operand.tmp 91], argTypes := #[25, 25] }, type := 25, pos := "ref.go:156", after := #[{ on := 2, ground := Go.Ground.data }, { on := 6, ground := Go.Ground.data }], guard := none }) rfl (fun K hK => ?_) AllReadyH.nil
  refine step_partTexts (B := V.heap.size) _ rfl _ _ rfl (by rfl) own_nil (x := ⟨asx, N.ss.length - i, r.cs - i, (scells N.ss).drop (i * 1)⟩) (by rfl) (HP4.out _ hD5.fr) (by have := HZ.out; simp only; omega) (by have := hD5.fr.size; omega) ?_
  simp only [Nat.zero_add, List.nil_append]
  intro ao5 c5 Y5 o5 g5
  have e5 : Same D5 Y5 := Fr.grown (Fr.refl _ _) g5 (fun k hk => by cases hk)
  have hY5 := hD5.same e5
  refine hK.out _ _ (HN.out _ hY5.fr).2.1 (fun hHeld => ?_)
  clear hK K
  try simp only [Act.put, List.setIfInBounds_toArray, List.set_cons_zero, List.set_cons_succ]
  refine wpAnyH_take (i := 8) (oi := { dst := some 93, op := Go.Op.fieldAddr 50 (Go.Operand.tmp 5) 2, type := 0, pos := "ref.go:156", after := #[{ on := 0, ground := Go.Ground.phase }, { on := 1, ground := Go.Ground.phase }, { on := 2, ground := Go.Ground.phase }, { on := 3, ground := Go.Ground.phase }, { on := 4, ground := Go.Ground.phase }, { on := 5, ground := Go.Ground.phase }, { on := 6, ground := Go.Ground.phase }, { on := 7, ground := Go.Ground.phase }], guard := none }) (v := .pointer (some ⟨w.heap.size + 1 + 1, 4, none⟩)) rfl (by kernel_rfl) (by kernel_rfl) (by kernel_rfl) (fun _ _ _ h => h) (Or.inl ⟨by rfl, fun w zz => by go_simp⟩) (by assumption) ?_
  try simp only [Act.put, List.setIfInBounds_toArray, List.set_cons_zero, List.set_cons_succ]
  refine wpAnyH_take (i := 9) (oi := { dst := some 94, op := Go.Op.fieldAddr 28 (Go.Operand.tmp 93) 1, type := 0, pos := "ref.go:156", after := #[{ on := 8, ground := Go.Ground.data }, { on := 0, ground := Go.Ground.phase }, { on := 1, ground := Go.Ground.phase }, { on := 2, ground := Go.Ground.phase }, { on := 3, ground := Go.Ground.phase }, { on := 4, ground := Go.Ground.phase }, { on := 5, ground := Go.Ground.phase }, { on := 6, ground := Go.Ground.phase }, { on := 7, ground := Go.Ground.phase }], guard := none }) (v := .pointer (some ⟨w.heap.size + 1 + 1, 5, none⟩)) rfl (by kernel_rfl) (by kernel_rfl) (by kernel_rfl) (fun _ _ _ h => h) (Or.inl ⟨by rfl, fun w zz => by go_simp⟩) (by assumption) ?_
  try simp only [Act.put, List.setIfInBounds_toArray, List.set_cons_zero, List.set_cons_succ]
  obtain ⟨hs5, fz5, fs5⟩ := hY5.put 5 (.slice ao5 (N.ss.length - i) c5)
  clear kb5
  have kb5 : Y5.cell? ⟨w.heap.size + 1 + 1, 5, none⟩ = some (.slice none 0 0) := (cell_of_row _ _ _ _ _ _ hY5.hb).trans rfl
  refine wpAnyH_ready (rs := [10]) (by kernel_rfl) (by simp) ?_
  refine AllReadyH.cons (o := { dst := none, op := Go.Op.store 25 (Go.Operand.tmp 94) (Go.Operand.tmp 92), type := 0, pos := "ref.go:156", after := #[{ on := 9, ground := Go.Ground.data }, { on := 7, ground := Go.Ground.data }, { on := 7, ground := Go.Ground.chain }, { on := 0, ground := Go.Ground.phase }, { on := 1, ground := Go.Ground.phase }, { on := 2, ground := Go.Ground.phase }, { on := 3, ground := Go.Ground.phase }, { on := 4, ground := Go.Ground.phase }, { on := 5, ground := Go.Ground.phase }, { on := 6, ground := Go.Ground.phase }, { on := 7, ground := Go.Ground.phase }], guard := none }) rfl (fun K hK => ?_) AllReadyH.nil
  go_simp
  refine hK.out _ _ (HN.out _ hs5.fr).2.1 (fun hHeld => ?_)
  clear hK K
  refine wpAnyH_done (by kernel_rfl) ?_ _
  have T5 : Fr (fun k => k = w.heap.size + 1 + 1) D5 (Y5.setCell ⟨w.heap.size + 1 + 1, 5, none⟩ (.slice ao5 (N.ss.length - i) c5)) := Fr.trans (e5.mono (fun _ _ f => f.elim)) fs5 (fun _ _ e => e)
  have row5 := own_frameB o5 fs5 (fun k hk e => type_ne o5 hY5.hb (by decide) (by rw [← e]; exact hk))
  obtain ⟨X5, hX5⟩ : ∃ X, X = Y5.setCell ⟨w.heap.size + 1 + 1, 5, none⟩ (.slice ao5 (N.ss.length - i) c5) := ⟨_, rfl⟩
  rw [← hX5] at hs5 T5 row5 ⊢
  replace hs5 : HS V X5 (w.heap.size + 1 + 1) #[.slice none 0 0, .slice ao2 m c2, .slice ao1 i c1, .string sp, .slice none 0 0, .slice ao5 (N.ss.length - i) c5, .slice ao4 (N.ks.length - i) c4] := hs5
  clear hX5 kb5 fz5 fs5 o5 g5 hY5 e5
  have row1_5 := own_frameB (own_frameB row1_4 sD5 (fun _ _ f => f)) T5 (fun k hk e => type_ne row1_4 hs4.hb (by decide) (by rw [← e]; exact hk))
  have row2_5 := own_frameB (own_frameB row2_4 sD5 (fun _ _ f => f)) T5 (fun k hk e => type_ne row2_4 hs4.hb (by decide) (by rw [← e]; exact hk))
  have row4_5 := own_frameB (own_frameB row4 sD5 (fun _ _ f => f)) T5 (fun k hk e => type_ne row4 hs4.hb (by decide) (by rw [← e]; exact hk))
  have r6 := HG.out _ hs5.fr
  have m0 : X5.cell? ⟨w.heap.size + 1 + 1, 0, none⟩ = some (.slice none 0 0) := (cell_of_row _ _ _ _ _ _ hs5.hb).trans rfl
  have m1 : X5.cell? ⟨w.heap.size + 1 + 1, 1, none⟩ = some (.slice ao2 m c2) := (cell_of_row _ _ _ _ _ _ hs5.hb).trans rfl
  have m2 : X5.cell? ⟨w.heap.size + 1 + 1, 2, none⟩ = some (.slice ao1 i c1) := (cell_of_row _ _ _ _ _ _ hs5.hb).trans rfl
  have m3 : X5.cell? ⟨w.heap.size + 1 + 1, 3, none⟩ = some (.string sp) := (cell_of_row _ _ _ _ _ _ hs5.hb).trans rfl
  have m4 : X5.cell? ⟨w.heap.size + 1 + 1, 4, none⟩ = some (.slice none 0 0) := (cell_of_row _ _ _ _ _ _ hs5.hb).trans rfl
  have m5 : X5.cell? ⟨w.heap.size + 1 + 1, 5, none⟩ = some (.slice ao5 (N.ss.length - i) c5) := (cell_of_row _ _ _ _ _ _ hs5.hb).trans rfl
  have m6 : X5.cell? ⟨w.heap.size + 1 + 1, 6, none⟩ = some (.slice ao4 (N.ks.length - i) c4) := (cell_of_row _ _ _ _ _ _ hs5.hb).trans rfl
  go_wp2_with (refine wpList_store_whole (by rfl) 50 _ _ (by rfl) (w.heap.size + 1) #[.slice none 0 0, .slice ao2 m c2, .slice ao1 i c1, .string sp, .slice none 0 0, .slice ao5 (N.ss.length - i) c5, .slice ao4 (N.ks.length - i) c4] _ 50 (by rfl) (by rfl) r6 rfl (by kernel_rfl) (by kernel_rfl) ?_; intro W7 r7 f7)
  have hz := HZ.out
  have u1 : (N.ks.take i).length = i := by rw [List.length_take]; omega
  have u2 : (N.ks.drop i).length = N.ks.length - i := List.length_drop
  have u3 : (N.ss.take m).length = m := by rw [List.length_take]; omega
  have u4 : (N.ss.drop i).length = N.ss.length - i := List.length_drop
  have q1 : MadeNd W7 w.heap.size ⟨none, 0, 0, 0, ao2, 0, 0, c2, ao1, 0, 0, c1⟩ ⟨[], N.ss.take m, N.ks.take i⟩ := ⟨own_nil, by show World.ownsRow _ _ _ _ (.slice ao2 (N.ss.take m).length c2) (N.ss.take m).length (scells (N.ss.take m)); rw [u3, ← scells_takeK]; exact own_base (own_frameB row2_5 f7 (fun k hk e => type_ne row2_5 r6 (by decide) (by rw [← e]; exact hk))) (by omega), by show World.ownsRow _ _ _ _ (.slice ao1 (N.ks.take i).length c1) (N.ks.take i).length (kcellsL (N.ks.take i)); rw [u1, ← kcellsL_takeK _ _ HOK.out]; exact own_base (own_frameB row1_5 f7 (fun k hk e => type_ne row1_5 r6 (by decide) (by rw [← e]; exact hk))) (by omega)⟩
  have q2 : MadeNd W7 w.heap.size ⟨none, 0, 0, 0, ao5, 0, 0, c5, ao4, 0, 0, c4⟩ ⟨[], N.ss.drop i, N.ks.drop i⟩ := ⟨own_nil, by show World.ownsRow _ _ _ _ (.slice ao5 (N.ss.drop i).length c5) (N.ss.drop i).length (scells (N.ss.drop i)); rw [u4, ← scells_dropK]; exact own_base (own_frameB row5 f7 (fun k hk e => type_ne row5 r6 (by decide) (by rw [← e]; exact hk))) (by omega), by show World.ownsRow _ _ _ _ (.slice ao4 (N.ks.drop i).length c4) (N.ks.drop i).length (kcellsL (N.ks.drop i)); rw [u2, ← kcellsL_dropK _ _ HOK.out]; exact own_base (own_frameB row4_5 f7 (fun k hk e => type_ne row4_5 r6 (by decide) (by rw [← e]; exact hk))) (by omega)⟩
  refine bodyPost_ret (results_row_one (p := 4) (ty := 50) (by kernel_rfl) _ _ (w.heap.size + 1) 50 _ (0, 0) _ rfl r7 Try.underlying50 rfl (by kernel_rfl)) rfl ⟨_, _, ?_, q1, q2, Fr.trans (t1.trans hs5.fr) f7 (fun i hi e => by omega)⟩
  unfold halvesN
  simp only
  rw [u1, u2, u3, u4]
  rfl
end Go.Proofs.Ytmgkdnejjemfeaa
