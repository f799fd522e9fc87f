/- free: lists, where one page is wanted and a spare gives it. -/
import Derived.Test.YtajbifblbmlffaaEW
namespace Go.Proofs.Ytajbifblbmlffaa
open Go.RowKit Go.Maps

theorem Try.infBt : (Try.prog.info? 53).map (fun i => (i.zero, i.size, i.bytes)) = some (some (.agg #[.int .u32 0, .slice none 0 0]), 2, 32) := by kernel_rfl
theorem run_partBts (w : World) (ty : TypeId) {B n : Nat} {v : Value} {xs : List Value} (hown : w.ownsRow B 53 2 v n xs) {x : Part} (hx : PartOk w 2 x) (hb : n + x.n ≤ 1099511627776) (hB : B ≤ w.heap.size) :
    ∃ v' w', (Builtin.append_ #[30, 30] ty #[v, .slice x.ao x.n x.c]).run Try.prog w = .ok v' w' ∧ w'.ownsRow B 53 2 v' (n + x.n) (xs ++ x.cells) ∧ w.grownBy w' v.ownBlock := by
  obtain ⟨i0, hi, hz0, hz1, hz2⟩ := info_parts Try.infBt
  obtain ⟨ao, m, c, cs⟩ := x
  cases ao with
  | none =>
    obtain ⟨e1, e2⟩ := hx.none rfl
    have e3 := hx.len
    simp only at e1 e2 e3
    subst e1 e2
    have e4 : cs = [] := List.eq_nil_of_length_eq_zero (by omega)
    subst e4
    refine ⟨v, w, run_append_owned_none (P := Try.prog) (w := w) B 30 ty 53 i0 2 Try.underlying30 hi v n xs hown, ?_, ⟨rfl, rfl, rfl, Nat.le_refl _, fun _ _ _ => rfl⟩⟩
    rw [List.append_nil]; exact hown
  | some a =>
    simp only at hb
    obtain ⟨v', w', h1, h2, h3, _⟩ := run_append_own (P := Try.prog) w B 30 ty 53 i0 (.agg #[.int .u32 0, .slice none 0 0]) 2 32 Try.underlying30 hi hz0 hz1 hz2 rfl (by decide) v n xs hown a m c cs hx.len (hx.at_ a rfl) hx.one (by unfold maxLen; omega) (by omega) hB
    exact ⟨v', w', h1, h2, h3⟩
theorem wpList_partBts (w : World) {ops : Array Oper} {rest : List Oper} {o : Oper} {a : Act} {Q : Exit → Act → World → Prop} (hgd : o.guard = none) (sl y : Operand)
    (ho : o.op = .call { callee := .builtin .append, args := #[sl, y], argTypes := #[30, 30] }) {B n : Nat} {v : Value} {xs : List Value} (hs : a.eval sl = v) (hown : w.ownsRow B 53 2 v n xs) {x : Part} (hy : a.eval y = .slice x.ao x.n x.c) (hx : PartOk w 2 x) (hb : n + x.n ≤ 1099511627776) (hB : B ≤ w.heap.size)
    (hk : ∀ ao c w', w'.ownsRow B 53 2 (.slice ao (n + x.n) c) (n + x.n) (xs ++ x.cells) → w.grownBy w' v.ownBlock → wpList Try.prog ops Q rest (a.put o.dst (.slice ao (n + x.n) c)) w') : wpList Try.prog ops Q (o :: rest) a w := by
  obtain ⟨v', w', hr, h2, h3⟩ := run_partBts w o.type hown hx hb hB
  obtain ⟨ao, c, rfl⟩ := own_shape h2
  exact Lib.wpList_append_run w hgd sl y _ _ ho _ _ hs hy _ _ hr (hk ao c w' h2 h3)
theorem MkAt.away {w W W' : World} {mb q : Nat} {M : Mk} (h : MkAt w W mb M) (f : Fr (fun k => k = q) W W') (h1 : mb ≠ q) (h2 : M.lb ≠ q) (h3 : M.S ≠ [] → M.sb ≠ q) (h4 : w.heap.size ≤ q) : MkAt w W' mb M :=
  ⟨(f.block _ (lt_of_heap h.hm) h1).trans h.hm, h.set.fr f h2, h.sp.fr f h3, h.ap, Fr.trans h.base f (fun k hk e => by omega), h.ge, h.bn, h.vs, h.sc, h.scm⟩
set_option maxRecDepth 100000 in
set_option maxHeartbeats 1000000 in
theorem lists_one {w0 w : World} {mb no bt a1 a2 en : Nat} {M : Mk} {S' : List (Nat × Nat)} (h : MkAt w0 w mb M) (hS : M.S = (no, bt) :: S') (hbt : bt < M.opened) (hz1 : 0 < Maps.size M.D) (hz1' : Maps.size M.D ≤ 1000) (hz2 : Maps.size (delN M.D no) = 2) (hD : ∀ x : Nat, hasN (delN M.D no) x = true ↔ (x = a1 ∨ x = a2)) (hab : a1 < a2) (he : 2 ≤ en) (he2 : en ≤ 100000) :
    Calls Try.prog 37 #[.pointer (some ⟨mb, 0, none⟩), .int .i64 (en : Int)] w fun e w' => ∃ (bg c g c3 : Nat), e = .returned (.tuple #[.slice (some ⟨bg, 0, none⟩) 1 c, .int .i64 0]) ∧ w'.cell? ⟨bg, 0, none⟩ = some (.int .u32 (no : Int)) ∧ w'.cell? ⟨bg, 1, none⟩ = some (.slice (some ⟨g, 0, none⟩) 2 c3) ∧ NRow w' (some ⟨g, 0, none⟩) g 0 [a1, a2] ∧ w.heap.size ≤ bg ∧ w.heap.size ≤ g ∧ (∃ sa so sc, MkAt w0 w' mb { M with sa := sa, so := so, sc := sc, S := S', D := delN M.D no }) ∧ Fr (fun k => k = mb ∨ k = M.lb) w w' := by
  have HH : Hid (MkAt w0 w mb M) := h
  have HL : Hid (Calls Try.prog 48 #[.pointer (some ⟨mb, 0, none⟩)] w fun e w' => e = .returned (.tuple #[.int .u32 (no : Int), .int .i64 0]) ∧ (∃ sa so sc, MkAt w0 w' mb { M with sa := sa, so := so, sc := sc, S := S', D := delN M.D no }) ∧ Fr (fun k => k = mb ∨ k = M.lb) w w') := list_spare h hS hbt
  obtain ⟨_, _, _, c3, _⟩ := h.cell
  have HZ : Hid (Maps.size (delN M.D no) = 2 ∧ (∀ x : Nat, hasN (delN M.D no) x = true ↔ (x = a1 ∨ x = a2)) ∧ a1 < a2) := ⟨hz2, hD, hab⟩
  have hzi : (0 : Int) < (Maps.size M.D : Int) := by omega
  obtain ⟨zz, hzz⟩ : ∃ zz, zz = Maps.size M.D := ⟨_, rfl⟩
  rw [← hzz] at hzi
  have HZZ : Hid (zz = Maps.size M.D) := hzz
  have hw0 : RowKit.wrap64 (0 * (en : Int)) = 0 := by unfold RowKit.wrap64; omega
  clear h hS hbt hz1 hz1' hz2 hD hab hzz
  go_enter Try.func37, Try.ntmps37
  go_wp2_with fail
  refine wp_loop_rounds 2 ?_
  rw [rounds_succ]
  go_wp2_with (at_len; refine wpList_len_own _ rfl _ 46 rfl 28 108 Try.underlying46 _ M.lb M.n M.D rfl HH.out.set ?_; rw [← HZZ.out])
  refine HL.out.mono ?_
  rintro e W1 ⟨rfl, ⟨sa, so, sc, m1⟩, f1⟩
  have HM1 : Hid (MkAt w0 W1 mb { M with sa := sa, so := so, sc := sc, S := S', D := delN M.D no }) := m1
  have HF1 : Hid (Fr (fun k => k = mb ∨ k = M.lb) w W1) := f1
  have oa : (W1.alloc (.cells #[.int .u32 (no : Int), .slice none 0 0] 53)).ownsRow W1.heap.size 53 2 (.slice none 0 0) 0 [] := own_nil
  have hvb : W1.heap.size ≤ (W1.alloc (.cells #[.int .u32 (no : Int), .slice none 0 0] 53)).heap.size := by simp
  clear m1 f1 HL c3 hzi HZZ hw0
  go_wp2_with (at_builtin; go_must (refine wpList_partBts _ (by rfl) _ _ (by rfl) (by rfl) oa (x := ⟨some ⟨W1.heap.size, 0, none⟩, 1, 1, [.int .u32 (no : Int), .slice none 0 0]⟩) (by rfl) (part_twoSp _ _ (heap_alloc_new W1 _) rfl rfl) (by show 0 + 1 ≤ 1099511627776; decide) hvb ?_; intro ao2 c2 W2 o2 g2))
  have HM2 : Hid (MkAt w0 W2 mb { M with sa := sa, so := so, sc := sc, S := S', D := delN M.D no }) := (HM1.out.same ((Fr.refl _ W1).alloc _)).grown g2 (fun k e => by cases e)
  have HF2 : Hid (Fr (fun k => k = mb ∨ k = M.lb) w W2 ∧ Same W1 W2) := ⟨Fr.grown (Fr.alloc HF1.out _) g2 (fun k e _ => by cases e), Fr.grown (Fr.alloc (Fr.refl _ W1) _) g2 (fun k e _ => by cases e)⟩
  obtain ⟨bg, rfl, hbg⟩ := own_some (own_base o2 (Nat.zero_le _)) (by show 0 + 1 ≠ 0; omega)
  have HO2 : Hid (W2.ownsRow W1.heap.size 53 2 (.slice (some ⟨bg, 0, none⟩) 1 c2) 1 [.int .u32 (no : Int), .slice none 0 0]) := o2
  have hge : W1.heap.size ≤ bg := (own_ge o2).1
  have HBG : Hid (W1.heap.size ≤ bg ∧ bg < W2.heap.size) := ⟨hge, hbg⟩
  clear o2 g2 oa hvb hbg hge
  obtain ⟨_, _, _, c3, _⟩ := HM2.out.cell
  have hen : ¬ (en : Int) < 2 := by omega
  have hwe : RowKit.wrap64 (1 * (en : Int)) = (en : Int) := by unfold RowKit.wrap64; omega
  have hwe2 : RowKit.wrap64 (en : Int) = (en : Int) := by unfold RowKit.wrap64; omega
  rw [rounds_succ]
  go_wp2_with (at_len; refine wpList_len_own _ rfl _ 46 rfl 28 108 Try.underlying46 _ M.lb M.n (delN M.D no) rfl HM2.out.set ?_; rw [HZ.out.1])
  refine (keysCall W2).mono ?_
  rintro e W3 ⟨rfl, hW3⟩
  have s3 : Same W2 W3 := by rw [hW3]; exact (Fr.refl _ W2).alloc _
  have g3 : W3.heap[W2.heap.size]? = some (.cells #[.map (some M.lb)] 46 (0, 0)) := by rw [hW3]; exact heap_alloc_new W2 _
  have HSU : Hid (Calls Try.prog 49 #[.func (.func 61) #[] #[.pointer (some ⟨W2.heap.size, 0, none⟩)]] W3 fun e w' => ∃ (g c : Nat), e = .returned (.slice (some ⟨g, 0, none⟩) 2 c) ∧ NRow w' (some ⟨g, 0, none⟩) g 0 [a1, a2] ∧ W3.heap.size ≤ g ∧ 2 ≤ c ∧ Same W3 w') := sortedU W3 ((cell_of_row _ _ _ _ _ _ g3).trans rfl) (HM2.out.set.fr s3 (fun f => f)) (by have := HZ.out.1; show Maps.size (delN M.D no) ≤ _; omega) HZ.out.2.1 HZ.out.2.2
  have HS3 : Hid (Same W2 W3) := s3
  clear hW3 s3 g3 c3
  go_wp2_with fail
  refine HSU.out.mono ?_
  rintro e W4 ⟨g, cg, rfl, nr, hg, hcg, s4⟩
  have HS4 : Hid (Same W2 W4) := HS3.out.trans s4
  have HNR : Hid (NRow W4 (some ⟨g, 0, none⟩) g 0 [a1, a2] ∧ W2.heap.size ≤ g ∧ 2 ≤ cg) := ⟨nr, by have := HS3.out.size; omega, hcg⟩
  have o4 := own_frameB HO2.out HS4.out (fun _ _ e => e)
  obtain ⟨cur, hcur⟩ := own_cellsB o4 (k := bg) rfl
  have b0 : W4.cell? ⟨bg, 0, none⟩ = some (.int .u32 (no : Int)) := own_cell (own_base o4 (Nat.zero_le _)) rfl
  have b1 : W4.cell? ⟨bg, 1, none⟩ = some (.slice none 0 0) := own_cell (own_base o4 (Nat.zero_le _)) rfl
  have z1 : W4.frozen? ⟨bg, 1, none⟩ = false := by simp [World.frozen?, hcur]
  have HB0 : Hid (W4.cell? ⟨bg, 0, none⟩ = some (.int .u32 (no : Int)) ∧ W4.cell? ⟨bg, 1, none⟩ = some (.slice none 0 0)) := ⟨b0, b1⟩
  have hmin : min (en : Int) 2 = 2 := by omega
  have hcgi : (2 : Int) ≤ (cg : Int) := by omega
  clear nr hg s4 o4 hcur HSU hen hwe hwe2
  go_wp2_with fail
  refine wp_loop_rounds 2 ?_
  rw [rounds_succ]
  go_wp2_with fail
  go_region
  have fX : Fr (fun k => k = bg) W4 (W4.setCell ⟨bg, 1, none⟩ (.slice (some ⟨g, 0, none⟩) 2 2)).drew := Fr.drew ((Fr.refl (fun k => k = bg) W4).setCell (p := ⟨bg, 1, none⟩) (fun _ => rfl) _)
  have x0 : (W4.setCell ⟨bg, 1, none⟩ (.slice (some ⟨g, 0, none⟩) 2 2)).drew.cell? ⟨bg, 0, none⟩ = some (.int .u32 (no : Int)) := by
    show (W4.setCell ⟨bg, 1, none⟩ (.slice (some ⟨g, 0, none⟩) 2 2)).cell? ⟨bg, 0, none⟩ = _
    rw [World.cell?_setCell_other _ _ _ _ (by simp)]
    exact HB0.out.1
  have x1 : (W4.setCell ⟨bg, 1, none⟩ (.slice (some ⟨g, 0, none⟩) 2 2)).drew.cell? ⟨bg, 1, none⟩ = some (.slice (some ⟨g, 0, none⟩) 2 2) := World.cell?_setCell_same' _ _ _ (by rw [HB0.out.2]; rfl)
  generalize (W4.setCell ⟨bg, 1, none⟩ (.slice (some ⟨g, 0, none⟩) 2 2)).drew = X at *
  have HX : Hid (X.cell? ⟨bg, 0, none⟩ = some (.int .u32 (no : Int)) ∧ X.cell? ⟨bg, 1, none⟩ = some (.slice (some ⟨g, 0, none⟩) 2 2) ∧ Fr (fun k => k = bg) W4 X) := ⟨x0, x1, fX⟩
  have HFIN : Hid (X.cell? ⟨bg, 0, none⟩ = some (.int .u32 (no : Int)) ∧ X.cell? ⟨bg, 1, none⟩ = some (.slice (some ⟨g, 0, none⟩) 2 2) ∧ NRow X (some ⟨g, 0, none⟩) g 0 [a1, a2] ∧ w.heap.size ≤ bg ∧ w.heap.size ≤ g ∧ (∃ sa so sc, MkAt w0 X mb { M with sa := sa, so := so, sc := sc, S := S', D := delN M.D no }) ∧ Fr (fun k => k = mb ∨ k = M.lb) w X) := by
    obtain ⟨y1, y2, y3⟩ := HX.out
    obtain ⟨n1, n2, n3⟩ := HNR.out
    obtain ⟨p1, p2⟩ := HBG.out
    have m4 := HM2.out.same HS4.out
    have q0 := HF1.out.size
    have q2 := HF2.out.2.size
    have hmb : mb ≠ bg := fun e => by
      have := lt_of_heap HM1.out.hm
      omega
    have hlb : M.lb ≠ bg := fun e => by
      have : M.lb < W1.heap.size := HM1.out.set.lt
      omega
    have hsb : S' ≠ [] → M.sb ≠ bg := fun e e2 => by
      have : M.sb < W1.heap.size := (HM1.out.sp.place e).2
      omega
    exact ⟨y1, y2, n1.fr y3 (fun _ e => by omega), by omega, by omega, ⟨sa, so, sc, m4.away y3 hmb hlb hsb (by have := HM1.out.base.size; omega)⟩, Fr.trans (Fr.trans HF2.out.1 (HS4.out.mono (fun _ _ e => e.elim)) (fun _ _ e => e)) y3 (fun k hk e => by omega)⟩
  clear fX x0 x1 b0 b1 z1 hmin hcgi HX
  go_wp2_with fail
  all_goals rw [rounds_succ]
  all_goals go_wp2_with fail
  all_goals go_ret2
  all_goals exact ⟨bg, c2, g, 2, rfl, HFIN.out⟩
end Go.Proofs.Ytajbifblbmlffaa
