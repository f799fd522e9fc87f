/- The document's leaf and branch; a node under way in a box of its own; the document's one. -/
import Derived.Test.YtdmoglnbelembaaGreatFC
import Derived.Test.YtdmoglnbelembaaGreatGO2
import Derived.Lib.AppendZeros
namespace Go.Proofs.YtdmoglnbelembaaGreat
open Go.RowKit

theorem leafD_eq2 {p q : Int} {N : Nd} : (decide (chkN p q N = 0) && leafB N) = leafG p q N := by
  unfold leafG
  by_cases hc : chkN p q N = 0
  · rw [decide_eq_true hc, Bool.true_and, Bool.true_and]
    by_cases hk : N.ks.length = 0
    · obtain ⟨h1, h2, _⟩ := chk_leaf hc hk
      rw [decide_eq_true hk]; unfold leafB; rw [h1, h2]; rfl
    · rw [decide_eq_false hk]; unfold leafB; rw [decide_eq_false hk, Bool.and_false]
  · rw [decide_eq_false hc]; rfl
theorem branchD_eq2 {p q : Int} {N : Nd} : (decide (chkN p q N = 0) && !leafB N) = branchG p q N := by
  have h := leafD_eq2 (p := p) (q := q) (N := N)
  unfold leafG at h
  unfold branchG
  by_cases hc : chkN p q N = 0
  · rw [decide_eq_true hc, Bool.true_and, Bool.true_and] at *
    rw [h]
    by_cases hk : N.ks.length = 0
    · rw [decide_eq_true hk, decide_eq_false (by omega)]; rfl
    · rw [decide_eq_false hk, decide_eq_true (by omega)]; rfl
  · rw [decide_eq_false hc]; rfl
set_option maxRecDepth 100000 in
set_option maxHeartbeats 1000000 in
theorem dleafG_calls {p q : Int} {r : Nr} {N : Nd} (w : World) (h : NdAt w r N) (h1 : N.ps.length ≤ 1048576) (h2 : N.ss.length ≤ 1048576) (h3 : N.ks.length ≤ 1048576) :
    Calls Tryz.prog 41 #[frameV p q, ndV r N] w fun e w' => e = .returned (.bool (leafG p q N)) ∧ Same w w' := by
  have HC : Hid (∀ W, Same w W → Calls Tryz.prog 44 #[frameV p q, ndV r N] W fun e w' => e = .returned (.int .i64 (chkN p q N)) ∧ Same W w') := fun W s => dcheck_calls W (h.same s) h1 h2 h3
  have HL : Hid (∀ W, Calls Tryz.prog 64 #[ndV r N] W fun e w' => e = .returned (.bool (leafB N)) ∧ Same W w') := fun W => dleaf_calls _ _ _ _ _ _ _ _ _ W
  obtain ⟨V, hV⟩ : ∃ V, V = (w.alloc (.cells #[.int .i64 p, .int .i64 q] 23)).alloc (.cells #[.slice r.pa N.ps.length r.cp, .slice r.sa N.ss.length r.cs, .slice r.ka N.ks.length r.ck] 28) := ⟨_, rfl⟩
  have t1 : Same w V := by rw [hV]; exact ((Fr.refl _ w).alloc _).alloc _
  have a0 : V.cell? ⟨w.heap.size, 0, none⟩ = some (.int .i64 p) := by rw [hV]; simp
  have a1 : V.cell? ⟨w.heap.size, 1, none⟩ = some (.int .i64 q) := by rw [hV]; simp
  have n0 : V.cell? ⟨w.heap.size + 1, 0, none⟩ = some (.slice r.pa N.ps.length r.cp) := by rw [hV]; simp
  have n1 : V.cell? ⟨w.heap.size + 1, 1, none⟩ = some (.slice r.sa N.ss.length r.cs) := by rw [hV]; simp
  have n2 : V.cell? ⟨w.heap.size + 1, 2, none⟩ = some (.slice r.ka N.ks.length r.ck) := by rw [hV]; simp
  rw [← leafD_eq2]
  clear h h1 h2 h3
  generalize leafB N = LB at *
  generalize chkN p q N = C at *
  by_cases h0 : C = 0
  · subst h0
    rw [decide_eq_true rfl, Bool.true_and]
    go_enter Tryz.func41, Tryz.ntmps41
    go_wp2_with fail
    rw [← hV]
    clear hV
    refine (HC.out _ t1).mono ?_
    rintro e W1 ⟨rfl, s1⟩
    have n0 := s1.keep n0
    have n1 := s1.keep n1
    have n2 := s1.keep n2
    go_wp2_with fail
    refine (HL.out _).mono ?_
    rintro e W2 ⟨rfl, s2⟩
    go_wp2_with fail
    go_ret
    exact ⟨rfl, (t1.trans s1).trans s2⟩
  · rw [decide_eq_false h0, Bool.false_and]
    go_enter Tryz.func41, Tryz.ntmps41
    go_wp2_with fail
    rw [← hV]
    clear hV
    refine (HC.out _ t1).mono ?_
    rintro e W1 ⟨rfl, s1⟩
    go_wp2_with fail
    go_ret
    exact ⟨rfl, t1.trans s1⟩
set_option maxRecDepth 100000 in
set_option maxHeartbeats 1000000 in
theorem dbranchG_calls {p q : Int} {r : Nr} {N : Nd} (w : World) (h : NdAt w r N) (h1 : N.ps.length ≤ 1048576) (h2 : N.ss.length ≤ 1048576) (h3 : N.ks.length ≤ 1048576) :
    Calls Tryz.prog 42 #[frameV p q, ndV r N] w fun e w' => e = .returned (.bool (branchG p q N)) ∧ Same w w' := by
  have HC : Hid (∀ W, Same w W → Calls Tryz.prog 44 #[frameV p q, ndV r N] W fun e w' => e = .returned (.int .i64 (chkN p q N)) ∧ Same W w') := fun W s => dcheck_calls W (h.same s) h1 h2 h3
  have HL : Hid (∀ W, Calls Tryz.prog 64 #[ndV r N] W fun e w' => e = .returned (.bool (leafB N)) ∧ Same W w') := fun W => dleaf_calls _ _ _ _ _ _ _ _ _ W
  obtain ⟨V, hV⟩ : ∃ V, V = (w.alloc (.cells #[.int .i64 p, .int .i64 q] 23)).alloc (.cells #[.slice r.pa N.ps.length r.cp, .slice r.sa N.ss.length r.cs, .slice r.ka N.ks.length r.ck] 28) := ⟨_, rfl⟩
  have t1 : Same w V := by rw [hV]; exact ((Fr.refl _ w).alloc _).alloc _
  have a0 : V.cell? ⟨w.heap.size, 0, none⟩ = some (.int .i64 p) := by rw [hV]; simp
  have a1 : V.cell? ⟨w.heap.size, 1, none⟩ = some (.int .i64 q) := by rw [hV]; simp
  have n0 : V.cell? ⟨w.heap.size + 1, 0, none⟩ = some (.slice r.pa N.ps.length r.cp) := by rw [hV]; simp
  have n1 : V.cell? ⟨w.heap.size + 1, 1, none⟩ = some (.slice r.sa N.ss.length r.cs) := by rw [hV]; simp
  have n2 : V.cell? ⟨w.heap.size + 1, 2, none⟩ = some (.slice r.ka N.ks.length r.ck) := by rw [hV]; simp
  rw [← branchD_eq2]
  clear h h1 h2 h3
  generalize leafB N = LB at *
  generalize chkN p q N = C at *
  by_cases h0 : C = 0
  · subst h0
    rw [decide_eq_true rfl, Bool.true_and]
    go_enter Tryz.func42, Tryz.ntmps42
    go_wp2_with fail
    rw [← hV]
    clear hV
    refine (HC.out _ t1).mono ?_
    rintro e W1 ⟨rfl, s1⟩
    have n0 := s1.keep n0
    have n1 := s1.keep n1
    have n2 := s1.keep n2
    go_wp2_with fail
    refine (HL.out _).mono ?_
    rintro e W2 ⟨rfl, s2⟩
    go_wp2_with fail
    go_ret
    exact ⟨rfl, (t1.trans s1).trans s2⟩
  · rw [decide_eq_false h0, Bool.false_and]
    go_enter Tryz.func42, Tryz.ntmps42
    go_wp2_with fail
    rw [← hV]
    clear hV
    refine (HC.out _ t1).mono ?_
    rintro e W1 ⟨rfl, s1⟩
    go_wp2_with fail
    go_ret
    exact ⟨rfl, t1.trans s1⟩
theorem wpList_partPairs (w : World) {ops : Array Oper} {rest : List Oper} {o : Oper} {a : Act} {Q : Exit → Act → World → Prop} (hgd : o.guard = none) (sl y : Operand)
    (ho : o.op = .call { callee := .builtin .append, args := #[sl, y], argTypes := #[24, 24] }) {B n : Nat} {v : Value} {xs : List Value} (hs : a.eval sl = v) (hown : w.ownsRow B 46 2 v n xs) {x : Part} (hy : a.eval y = .slice x.ao x.n x.c) (hx : PartOk w 2 x) (hb : n + x.n ≤ 1099511627776) (hB : B ≤ w.heap.size)
    (hk : ∀ ao c w', w'.ownsRow B 46 2 (.slice ao (n + x.n) c) (n + x.n) (xs ++ x.cells) → w.grownBy w' v.ownBlock → wpList Tryz.prog ops Q rest (a.put o.dst (.slice ao (n + x.n) c)) w') : wpList Tryz.prog ops Q (o :: rest) a w := by
  obtain ⟨v', w', hr, h2, h3⟩ := run_partPairs w o.type hown hx hb hB
  obtain ⟨ao, c, rfl⟩ := own_shape h2
  exact Lib.wpList_append_run w hgd sl y _ _ ho _ _ hs hy _ _ hr (hk ao c w' h2 h3)
theorem wpList_partTexts (w : World) {ops : Array Oper} {rest : List Oper} {o : Oper} {a : Act} {Q : Exit → Act → World → Prop} (hgd : o.guard = none) (sl y : Operand)
    (ho : o.op = .call { callee := .builtin .append, args := #[sl, y], argTypes := #[25, 25] }) {B n : Nat} {v : Value} {xs : List Value} (hs : a.eval sl = v) (hown : w.ownsRow B 9 1 v n xs) {x : Part} (hy : a.eval y = .slice x.ao x.n x.c) (hx : PartOk w 1 x) (hb : n + x.n ≤ 1099511627776) (hB : B ≤ w.heap.size)
    (hk : ∀ ao c w', w'.ownsRow B 9 1 (.slice ao (n + x.n) c) (n + x.n) (xs ++ x.cells) → w.grownBy w' v.ownBlock → wpList Tryz.prog ops Q rest (a.put o.dst (.slice ao (n + x.n) c)) w') : wpList Tryz.prog ops Q (o :: rest) a w := by
  obtain ⟨v', w', hr, h2, h3⟩ := run_partTexts w o.type hown hx hb hB
  obtain ⟨ao, c, rfl⟩ := own_shape h2
  exact Lib.wpList_append_run w hgd sl y _ _ ho _ _ hs hy _ _ hr (hk ao c w' h2 h3)
theorem wpList_partKids (w : World) {ops : Array Oper} {rest : List Oper} {o : Oper} {a : Act} {Q : Exit → Act → World → Prop} (hgd : o.guard = none) (sl y : Operand)
    (ho : o.op = .call { callee := .builtin .append, args := #[sl, y], argTypes := #[26, 26] }) {B n : Nat} {v : Value} {xs : List Value} (hs : a.eval sl = v) (hown : w.ownsRow B 58 33 v n xs) {x : Part} (hy : a.eval y = .slice x.ao x.n x.c) (hx : PartOk w 33 x) (hb : n + x.n ≤ 1099511627776) (hB : B ≤ w.heap.size)
    (hk : ∀ ao c w', w'.ownsRow B 58 33 (.slice ao (n + x.n) c) (n + x.n) (xs ++ x.cells) → w.grownBy w' v.ownBlock → wpList Tryz.prog ops Q rest (a.put o.dst (.slice ao (n + x.n) c)) w') : wpList Tryz.prog ops Q (o :: rest) a w := by
  obtain ⟨v', w', hr, h2, h3⟩ := run_partKids w o.type hown hx hb hB
  obtain ⟨ao, c, rfl⟩ := own_shape h2
  exact Lib.wpList_append_run w hgd sl y _ _ ho _ _ hs hy _ _ hr (hk ao c w' h2 h3)
/-- A node under way in a box of its own. -/
structure BS (V W : World) (B nb : Nat) (pa : Option Addr) (np cp : Nat) (xs : List Value) (sa : Option Addr) (ns cs : Nat) (ys : List Value) (ka : Option Addr) (nk ck : Nat) (zs : List Value) : Prop where
  hb : W.heap[nb]? = some (.cells #[.slice pa np cp, .slice sa ns cs, .slice ka nk ck] 28 (0, 0))
  oP : W.ownsRow B 46 2 (.slice pa np cp) np xs
  oS : W.ownsRow B 9 1 (.slice sa ns cs) ns ys
  oK : W.ownsRow B 58 33 (.slice ka nk ck) nk zs
  fr : Same V W
  hn : V.heap.size ≤ nb
  hB : V.heap.size ≤ B
  hW : B ≤ W.heap.size
theorem BS.box {V W : World} {B nb : Nat} {pa : Option Addr} {np cp : Nat} {xs : List Value} {sa : Option Addr} {ns cs : Nat} {ys : List Value} {ka : Option Addr} {nk ck : Nat} {zs : List Value} (h : BS V W B nb pa np cp xs sa ns cs ys ka nk ck zs) : W.cell? ⟨nb, 0, none⟩ = some (.slice pa np cp) ∧ W.cell? ⟨nb, 1, none⟩ = some (.slice sa ns cs) ∧ W.cell? ⟨nb, 2, none⟩ = some (.slice ka nk ck) :=
  ⟨(cell_of_row _ _ _ _ _ _ h.hb).trans rfl, (cell_of_row _ _ _ _ _ _ h.hb).trans rfl, (cell_of_row _ _ _ _ _ _ h.hb).trans rfl⟩
theorem BS.alloc {V W : World} {B nb : Nat} {pa : Option Addr} {np cp : Nat} {xs : List Value} {sa : Option Addr} {ns cs : Nat} {ys : List Value} {ka : Option Addr} {nk ck : Nat} {zs : List Value} (h : BS V W B nb pa np cp xs sa ns cs ys ka nk ck zs) (o : Obj) : BS V (W.alloc o) B nb pa np cp xs sa ns cs ys ka nk ck zs :=
  ⟨(Below.heap_alloc _ _ _ (lt_of_heap h.hb)).trans h.hb, h.oP.alloc o, h.oS.alloc o, h.oK.alloc o, h.fr.alloc o, h.hn, h.hB, by have := h.hW; simp; omega⟩
theorem BS.strA {V W : World} {B nb : Nat} {pa : Option Addr} {np cp : Nat} {xs : List Value} {sa : Option Addr} {ns cs : Nat} {ys : List Value} {ka : Option Addr} {nk ck : Nat} {zs : List Value} (h : BS V W B nb pa np cp xs sa ns cs ys ka nk ck zs) (sp : ByteArray) (g : Nat) (hg : W.heap.size = g) : PartOk (W.alloc (.cells #[.string sp] 9)) 1 ⟨some ⟨g, 0, none⟩, 1, 1, [.string sp]⟩ := by
  subst hg
  have bR := heap_alloc_new W (.cells #[.string sp] 9)
  have _ := h.hW
  exact ⟨rfl, fun e => (by cases e), fun a ha j u hj => by
    cases ha
    rw [WideShapes.add_plain, Nat.zero_add, cell_of_row _ _ _ _ _ _ bR, ← Array.getElem?_toList]
    exact hj, fun u hu => by simp at hu; subst hu; rfl⟩
theorem BS.same {V W : World} {B nb : Nat} {pa : Option Addr} {np cp : Nat} {xs : List Value} {sa : Option Addr} {ns cs : Nat} {ys : List Value} {ka : Option Addr} {nk ck : Nat} {zs : List Value} (h : BS V W B nb pa np cp xs sa ns cs ys ka nk ck zs) {W' : World} (s : Same W W') : BS V W' B nb pa np cp xs sa ns cs ys ka nk ck zs :=
  ⟨(s.block _ (lt_of_heap h.hb) (fun e => e)).trans h.hb, own_frameB h.oP s (fun _ _ f => f), own_frameB h.oS s (fun _ _ f => f), own_frameB h.oK s (fun _ _ f => f), h.fr.trans s, h.hn, h.hB, Nat.le_trans h.hW s.size⟩
theorem BS.growP {V W : World} {B nb : Nat} {pa : Option Addr} {np cp : Nat} {xs : List Value} {sa : Option Addr} {ns cs : Nat} {ys : List Value} {ka : Option Addr} {nk ck : Nat} {zs : List Value} (h : BS V W B nb pa np cp xs sa ns cs ys ka nk ck zs) {W' : World} {ao : Option Addr} {n' c' : Nat} {vs : List Value} (ho : W'.ownsRow B 46 2 (.slice ao n' c') n' vs) (hg : W.grownBy W' (Value.ownBlock (.slice pa np cp))) :
    BS V (W'.setCell ⟨nb, 0, none⟩ (.slice ao n' c')) B nb ao n' c' vs sa ns cs ys ka nk ck zs ∧ W'.cell? ⟨nb, 0, none⟩ = some (.slice pa np cp) ∧ W'.frozen? ⟨nb, 0, none⟩ = false := by
  have f1 : Fr (fun k => Value.ownBlock (.slice pa np cp) = some k) W W' := Fr.grown (Fr.refl _ W) hg (fun k hk _ => hk)
  have hb' : W'.heap[nb]? = some (.cells #[.slice pa np cp, .slice sa ns cs, .slice ka nk ck] 28 (0, 0)) := (f1.block nb (lt_of_heap h.hb) (fun e => type_ne h.oP h.hb (by decide) e)).trans h.hb
  have fs : Fr (fun k => k = nb) W' (W'.setCell ⟨nb, 0, none⟩ (.slice ao n' c')) := (Fr.refl (fun k => k = nb) W').setCell (p := ⟨nb, 0, none⟩) (fun _ => rfl) _
  refine ⟨⟨heap_setCell_same W' nb 0 _ _ _ hb', own_frameB ho fs (fun k hk e => type_ne ho hb' (by decide) (by rw [← e]; exact hk)), own_frameB (own_frameB h.oS f1 (fun k hk e => own_apart h.oS h.oP (by decide) k hk e)) fs (fun k hk e => type_ne (own_frameB h.oS f1 (fun k hk e => own_apart h.oS h.oP (by decide) k hk e)) hb' (by decide) (by rw [← e]; exact hk)), own_frameB (own_frameB h.oK f1 (fun k hk e => own_apart h.oK h.oP (by decide) k hk e)) fs (fun k hk e => type_ne (own_frameB h.oK f1 (fun k hk e => own_apart h.oK h.oP (by decide) k hk e)) hb' (by decide) (by rw [← e]; exact hk)), Fr.trans (Fr.grown h.fr hg (fun k hk hl => by have := h.oP.lt k hk; have := h.hB; omega)) fs (fun j hj e => by have := h.hn; omega), h.hn, h.hB, Nat.le_trans (Nat.le_trans h.hW f1.size) fs.size⟩, (cell_of_row _ _ _ _ _ _ hb').trans rfl, frozen_of_row W' nb 0 _ _ hb'⟩
theorem BS.growS {V W : World} {B nb : Nat} {pa : Option Addr} {np cp : Nat} {xs : List Value} {sa : Option Addr} {ns cs : Nat} {ys : List Value} {ka : Option Addr} {nk ck : Nat} {zs : List Value} (h : BS V W B nb pa np cp xs sa ns cs ys ka nk ck zs) {W' : World} {ao : Option Addr} {n' c' : Nat} {vs : List Value} (ho : W'.ownsRow B 9 1 (.slice ao n' c') n' vs) (hg : W.grownBy W' (Value.ownBlock (.slice sa ns cs))) :
    BS V (W'.setCell ⟨nb, 1, none⟩ (.slice ao n' c')) B nb pa np cp xs ao n' c' vs ka nk ck zs ∧ W'.cell? ⟨nb, 1, none⟩ = some (.slice sa ns cs) ∧ W'.frozen? ⟨nb, 1, none⟩ = false := by
  have f1 : Fr (fun k => Value.ownBlock (.slice sa ns cs) = some k) W W' := Fr.grown (Fr.refl _ W) hg (fun k hk _ => hk)
  have hb' : W'.heap[nb]? = some (.cells #[.slice pa np cp, .slice sa ns cs, .slice ka nk ck] 28 (0, 0)) := (f1.block nb (lt_of_heap h.hb) (fun e => type_ne h.oS h.hb (by decide) e)).trans h.hb
  have fs : Fr (fun k => k = nb) W' (W'.setCell ⟨nb, 1, none⟩ (.slice ao n' c')) := (Fr.refl (fun k => k = nb) W').setCell (p := ⟨nb, 1, none⟩) (fun _ => rfl) _
  refine ⟨⟨heap_setCell_same W' nb 1 _ _ _ hb', own_frameB (own_frameB h.oP f1 (fun k hk e => own_apart h.oP h.oS (by decide) k hk e)) fs (fun k hk e => type_ne (own_frameB h.oP f1 (fun k hk e => own_apart h.oP h.oS (by decide) k hk e)) hb' (by decide) (by rw [← e]; exact hk)), own_frameB ho fs (fun k hk e => type_ne ho hb' (by decide) (by rw [← e]; exact hk)), own_frameB (own_frameB h.oK f1 (fun k hk e => own_apart h.oK h.oS (by decide) k hk e)) fs (fun k hk e => type_ne (own_frameB h.oK f1 (fun k hk e => own_apart h.oK h.oS (by decide) k hk e)) hb' (by decide) (by rw [← e]; exact hk)), Fr.trans (Fr.grown h.fr hg (fun k hk hl => by have := h.oS.lt k hk; have := h.hB; omega)) fs (fun j hj e => by have := h.hn; omega), h.hn, h.hB, Nat.le_trans (Nat.le_trans h.hW f1.size) fs.size⟩, (cell_of_row _ _ _ _ _ _ hb').trans rfl, frozen_of_row W' nb 1 _ _ hb'⟩
theorem BS.growK {V W : World} {B nb : Nat} {pa : Option Addr} {np cp : Nat} {xs : List Value} {sa : Option Addr} {ns cs : Nat} {ys : List Value} {ka : Option Addr} {nk ck : Nat} {zs : List Value} (h : BS V W B nb pa np cp xs sa ns cs ys ka nk ck zs) {W' : World} {ao : Option Addr} {n' c' : Nat} {vs : List Value} (ho : W'.ownsRow B 58 33 (.slice ao n' c') n' vs) (hg : W.grownBy W' (Value.ownBlock (.slice ka nk ck))) :
    BS V (W'.setCell ⟨nb, 2, none⟩ (.slice ao n' c')) B nb pa np cp xs sa ns cs ys ao n' c' vs ∧ W'.cell? ⟨nb, 2, none⟩ = some (.slice ka nk ck) ∧ W'.frozen? ⟨nb, 2, none⟩ = false := by
  have f1 : Fr (fun k => Value.ownBlock (.slice ka nk ck) = some k) W W' := Fr.grown (Fr.refl _ W) hg (fun k hk _ => hk)
  have hb' : W'.heap[nb]? = some (.cells #[.slice pa np cp, .slice sa ns cs, .slice ka nk ck] 28 (0, 0)) := (f1.block nb (lt_of_heap h.hb) (fun e => type_ne h.oK h.hb (by decide) e)).trans h.hb
  have fs : Fr (fun k => k = nb) W' (W'.setCell ⟨nb, 2, none⟩ (.slice ao n' c')) := (Fr.refl (fun k => k = nb) W').setCell (p := ⟨nb, 2, none⟩) (fun _ => rfl) _
  refine ⟨⟨heap_setCell_same W' nb 2 _ _ _ hb', own_frameB (own_frameB h.oP f1 (fun k hk e => own_apart h.oP h.oK (by decide) k hk e)) fs (fun k hk e => type_ne (own_frameB h.oP f1 (fun k hk e => own_apart h.oP h.oK (by decide) k hk e)) hb' (by decide) (by rw [← e]; exact hk)), own_frameB (own_frameB h.oS f1 (fun k hk e => own_apart h.oS h.oK (by decide) k hk e)) fs (fun k hk e => type_ne (own_frameB h.oS f1 (fun k hk e => own_apart h.oS h.oK (by decide) k hk e)) hb' (by decide) (by rw [← e]; exact hk)), own_frameB ho fs (fun k hk e => type_ne ho hb' (by decide) (by rw [← e]; exact hk)), Fr.trans (Fr.grown h.fr hg (fun k hk hl => by have := h.oK.lt k hk; have := h.hB; omega)) fs (fun j hj e => by have := h.hn; omega), h.hn, h.hB, Nat.le_trans (Nat.le_trans h.hW f1.size) fs.size⟩, (cell_of_row _ _ _ _ _ _ hb').trans rfl, frozen_of_row W' nb 2 _ _ hb'⟩
set_option maxRecDepth 100000 in
set_option maxHeartbeats 4000000 in
theorem one_arg {p q : Int} {r1 r2 : Nr} {N1 N2 : Nd} {sp : ByteArray} (w : World)
    (HR : Hid (∀ W, Calls Tryz.prog 40 #[frameV p q] W fun e w' => e = .returned (.bool false) ∧ Same W w')) :
    Calls Tryz.prog 19 #[frameV p q, .agg (halvesN r1 r2 N1 N2 sp)] w fun e w' => e = .returned (.tuple #[nodeV none 0 0 none 0 0 none 0 0, .int .i64 2]) ∧ Same w w' := by
  obtain ⟨V, hV⟩ : ∃ V, V = ((w.alloc (.cells #[.int .i64 p, .int .i64 q] 23)).alloc (.cells (halvesN r1 r2 N1 N2 sp) 30)).alloc (.cells #[.slice none 0 0, .slice none 0 0, .slice none 0 0] 28) := ⟨_, rfl⟩
  have t1 : Same w V := by rw [hV]; exact (((Fr.refl _ w).alloc _).alloc _).alloc _
  obtain ⟨g0, g1, g2⟩ := three_boxes w (.cells #[.int .i64 p, .int .i64 q] 23) (.cells (halvesN r1 r2 N1 N2 sp) 30) (.cells #[.slice none 0 0, .slice none 0 0, .slice none 0 0] 28)
  rw [← hV] at g0 g1 g2
  have c0 : V.cell? ⟨w.heap.size, 0, none⟩ = some (.int .i64 p) := by rw [cell_of_row _ _ _ _ _ _ g0]; rfl
  have c1 : V.cell? ⟨w.heap.size, 1, none⟩ = some (.int .i64 q) := by rw [cell_of_row _ _ _ _ _ _ g0]; rfl
  have HH : Hid (∀ W, Same V W → (W.cell? ⟨w.heap.size, 0, none⟩ = some (.int .i64 p) ∧ W.cell? ⟨w.heap.size, 1, none⟩ = some (.int .i64 q)) ∧ W.cell? ⟨w.heap.size + 1, 0, none⟩ = some (.slice r1.pa N1.ps.length r1.cp) ∧ W.cell? ⟨w.heap.size + 1, 1, none⟩ = some (.slice r1.sa N1.ss.length r1.cs) ∧ W.cell? ⟨w.heap.size + 1, 2, none⟩ = some (.slice r1.ka N1.ks.length r1.ck) ∧ W.cell? ⟨w.heap.size + 1, 3, none⟩ = some (.string sp) ∧ W.cell? ⟨w.heap.size + 1, 4, none⟩ = some (.slice r2.pa N2.ps.length r2.cp) ∧ W.cell? ⟨w.heap.size + 1, 5, none⟩ = some (.slice r2.sa N2.ss.length r2.cs) ∧ W.cell? ⟨w.heap.size + 1, 6, none⟩ = some (.slice r2.ka N2.ks.length r2.ck)) := fun W s => ⟨⟨s.keep c0, s.keep c1⟩, (hcells_row g1).keep s⟩
  have HG : Hid (∀ W, Same V W → W.heap[w.heap.size + 1 + 1]? = some (.cells #[.slice none 0 0, .slice none 0 0, .slice none 0 0] 28 (0, 0))) := fun W s => (s.block _ (lt_of_heap g2) (fun e => e)).trans g2
  have HZ : Hid (w.heap.size + 3 ≤ V.heap.size) := by show _ ≤ _; rw [hV]; simp
  obtain ⟨⟨f0, f1⟩, m0, m1, m2, m3, m4, m5, m6⟩ := HH.out _ (Fr.refl _ V)
  clear g0 g1 g2 c0 c1
  unfold halvesN at hV ⊢
  go_enter Tryz.func19, Tryz.ntmps19
  go_wp2_with fail
  rw [← hV]
  clear hV
  refine (HR.out _).mono ?_
  rintro e W0 ⟨rfl, s0⟩
  clear f0 f1 m0 m1 m2 m3 m4 m5 m6
  obtain ⟨⟨f0, f1⟩, m0, m1, m2, m3, m4, m5, m6⟩ := HH.out _ s0
  have r6 := HG.out _ s0
  go_wp2_with (refine wpList_store_whole (by rfl) 28 _ _ (by rfl) (w.heap.size + 1 + 1) #[.slice none 0 0, .slice none 0 0, .slice none 0 0] _ 28 (by rfl) (by rfl) r6 rfl (by kernel_rfl) (by kernel_rfl) ?_; intro W7 r7 f7)
  have hz := HZ.out
  exact bodyPost_ret (results_row_tmp (p := 4) (u := 5) (ty := 28) (by kernel_rfl) _ _ (w.heap.size + 1 + 1) 28 _ (0, 0) _ rfl r7 Tryz.underlying28 rfl (by kernel_rfl)) rfl ⟨rfl, Fr.trans (t1.trans s0) f7 (fun i hi e => by omega)⟩
set_option maxRecDepth 100000 in
set_option maxHeartbeats 4000000 in
theorem one_sA {p q : Int} {r1 r2 : Nr} {N1 N2 : Nd} {sp : ByteArray} (w : World)
    (HR : Hid (∀ W, Calls Tryz.prog 40 #[frameV p q] W fun e w' => e = .returned (.bool true) ∧ Same W w'))
    (HL1 : Hid (∀ W, Same w W → Calls Tryz.prog 41 #[frameV p q, ndV r1 N1] W fun e w' => e = .returned (.bool false) ∧ Same W w'))
    (HB1 : Hid (∀ W, Same w W → Calls Tryz.prog 42 #[frameV p q, ndV r1 N1] W fun e w' => e = .returned (.bool false) ∧ Same W w')) :
    Calls Tryz.prog 19 #[frameV p q, .agg (halvesN r1 r2 N1 N2 sp)] w fun e w' => e = .returned (.tuple #[nodeV none 0 0 none 0 0 none 0 0, .int .i64 80]) ∧ Same w w' := by
  obtain ⟨V, hV⟩ : ∃ V, V = ((w.alloc (.cells #[.int .i64 p, .int .i64 q] 23)).alloc (.cells (halvesN r1 r2 N1 N2 sp) 30)).alloc (.cells #[.slice none 0 0, .slice none 0 0, .slice none 0 0] 28) := ⟨_, rfl⟩
  have t1 : Same w V := by rw [hV]; exact (((Fr.refl _ w).alloc _).alloc _).alloc _
  obtain ⟨g0, g1, g2⟩ := three_boxes w (.cells #[.int .i64 p, .int .i64 q] 23) (.cells (halvesN r1 r2 N1 N2 sp) 30) (.cells #[.slice none 0 0, .slice none 0 0, .slice none 0 0] 28)
  rw [← hV] at g0 g1 g2
  have c0 : V.cell? ⟨w.heap.size, 0, none⟩ = some (.int .i64 p) := by rw [cell_of_row _ _ _ _ _ _ g0]; rfl
  have c1 : V.cell? ⟨w.heap.size, 1, none⟩ = some (.int .i64 q) := by rw [cell_of_row _ _ _ _ _ _ g0]; rfl
  have HH : Hid (∀ W, Same V W → (W.cell? ⟨w.heap.size, 0, none⟩ = some (.int .i64 p) ∧ W.cell? ⟨w.heap.size, 1, none⟩ = some (.int .i64 q)) ∧ W.cell? ⟨w.heap.size + 1, 0, none⟩ = some (.slice r1.pa N1.ps.length r1.cp) ∧ W.cell? ⟨w.heap.size + 1, 1, none⟩ = some (.slice r1.sa N1.ss.length r1.cs) ∧ W.cell? ⟨w.heap.size + 1, 2, none⟩ = some (.slice r1.ka N1.ks.length r1.ck) ∧ W.cell? ⟨w.heap.size + 1, 3, none⟩ = some (.string sp) ∧ W.cell? ⟨w.heap.size + 1, 4, none⟩ = some (.slice r2.pa N2.ps.length r2.cp) ∧ W.cell? ⟨w.heap.size + 1, 5, none⟩ = some (.slice r2.sa N2.ss.length r2.cs) ∧ W.cell? ⟨w.heap.size + 1, 6, none⟩ = some (.slice r2.ka N2.ks.length r2.ck)) := fun W s => ⟨⟨s.keep c0, s.keep c1⟩, (hcells_row g1).keep s⟩
  have HG : Hid (∀ W, Same V W → W.heap[w.heap.size + 1 + 1]? = some (.cells #[.slice none 0 0, .slice none 0 0, .slice none 0 0] 28 (0, 0))) := fun W s => (s.block _ (lt_of_heap g2) (fun e => e)).trans g2
  have HZ : Hid (w.heap.size + 3 ≤ V.heap.size) := by show _ ≤ _; rw [hV]; simp
  obtain ⟨⟨f0, f1⟩, m0, m1, m2, m3, m4, m5, m6⟩ := HH.out _ (Fr.refl _ V)
  clear g0 g1 g2 c0 c1
  unfold halvesN at hV ⊢
  go_enter Tryz.func19, Tryz.ntmps19
  go_wp2_with fail
  rw [← hV]
  clear hV
  refine (HR.out _).mono ?_
  rintro e W0 ⟨rfl, s0⟩
  clear f0 f1 m0 m1 m2 m3 m4 m5 m6
  obtain ⟨⟨f0, f1⟩, m0, m1, m2, m3, m4, m5, m6⟩ := HH.out _ s0
  go_wp2_with fail
  refine (HL1.out _ (t1.trans s0)).mono ?_
  rintro e W1 ⟨rfl, s1⟩
  have s1 := s0.trans s1
  clear f0 f1 m0 m1 m2 m3 m4 m5 m6
  obtain ⟨⟨f0, f1⟩, m0, m1, m2, m3, m4, m5, m6⟩ := HH.out _ s1
  go_wp2_with fail
  refine (HB1.out _ (t1.trans s1)).mono ?_
  rintro e W2 ⟨rfl, s2⟩
  have s2 := s1.trans s2
  clear f0 f1 m0 m1 m2 m3 m4 m5 m6
  obtain ⟨⟨f0, f1⟩, m0, m1, m2, m3, m4, m5, m6⟩ := HH.out _ s2
  have r6 := HG.out _ s2
  go_wp2_with (refine wpList_store_whole (by rfl) 28 _ _ (by rfl) (w.heap.size + 1 + 1) #[.slice none 0 0, .slice none 0 0, .slice none 0 0] _ 28 (by rfl) (by rfl) r6 rfl (by kernel_rfl) (by kernel_rfl) ?_; intro W7 r7 f7)
  have hz := HZ.out
  exact bodyPost_ret (results_row_tmp (p := 4) (u := 5) (ty := 28) (by kernel_rfl) _ _ (w.heap.size + 1 + 1) 28 _ (0, 0) _ rfl r7 Tryz.underlying28 rfl (by kernel_rfl)) rfl ⟨rfl, Fr.trans (t1.trans s2) f7 (fun i hi e => by omega)⟩
set_option maxRecDepth 100000 in
set_option maxHeartbeats 4000000 in
theorem one_sB {p q : Int} {r1 r2 : Nr} {N1 N2 : Nd} {sp : ByteArray} (w : World)
    (HR : Hid (∀ W, Calls Tryz.prog 40 #[frameV p q] W fun e w' => e = .returned (.bool true) ∧ Same W w'))
    (HL1 : Hid (∀ W, Same w W → Calls Tryz.prog 41 #[frameV p q, ndV r1 N1] W fun e w' => e = .returned (.bool false) ∧ Same W w'))
    (HB1 : Hid (∀ W, Same w W → Calls Tryz.prog 42 #[frameV p q, ndV r1 N1] W fun e w' => e = .returned (.bool true) ∧ Same W w'))
    (HB2 : Hid (∀ W, Same w W → Calls Tryz.prog 42 #[frameV p q, ndV r2 N2] W fun e w' => e = .returned (.bool false) ∧ Same W w')) :
    Calls Tryz.prog 19 #[frameV p q, .agg (halvesN r1 r2 N1 N2 sp)] w fun e w' => e = .returned (.tuple #[nodeV none 0 0 none 0 0 none 0 0, .int .i64 80]) ∧ Same w w' := by
  obtain ⟨V, hV⟩ : ∃ V, V = ((w.alloc (.cells #[.int .i64 p, .int .i64 q] 23)).alloc (.cells (halvesN r1 r2 N1 N2 sp) 30)).alloc (.cells #[.slice none 0 0, .slice none 0 0, .slice none 0 0] 28) := ⟨_, rfl⟩
  have t1 : Same w V := by rw [hV]; exact (((Fr.refl _ w).alloc _).alloc _).alloc _
  obtain ⟨g0, g1, g2⟩ := three_boxes w (.cells #[.int .i64 p, .int .i64 q] 23) (.cells (halvesN r1 r2 N1 N2 sp) 30) (.cells #[.slice none 0 0, .slice none 0 0, .slice none 0 0] 28)
  rw [← hV] at g0 g1 g2
  have c0 : V.cell? ⟨w.heap.size, 0, none⟩ = some (.int .i64 p) := by rw [cell_of_row _ _ _ _ _ _ g0]; rfl
  have c1 : V.cell? ⟨w.heap.size, 1, none⟩ = some (.int .i64 q) := by rw [cell_of_row _ _ _ _ _ _ g0]; rfl
  have HH : Hid (∀ W, Same V W → (W.cell? ⟨w.heap.size, 0, none⟩ = some (.int .i64 p) ∧ W.cell? ⟨w.heap.size, 1, none⟩ = some (.int .i64 q)) ∧ W.cell? ⟨w.heap.size + 1, 0, none⟩ = some (.slice r1.pa N1.ps.length r1.cp) ∧ W.cell? ⟨w.heap.size + 1, 1, none⟩ = some (.slice r1.sa N1.ss.length r1.cs) ∧ W.cell? ⟨w.heap.size + 1, 2, none⟩ = some (.slice r1.ka N1.ks.length r1.ck) ∧ W.cell? ⟨w.heap.size + 1, 3, none⟩ = some (.string sp) ∧ W.cell? ⟨w.heap.size + 1, 4, none⟩ = some (.slice r2.pa N2.ps.length r2.cp) ∧ W.cell? ⟨w.heap.size + 1, 5, none⟩ = some (.slice r2.sa N2.ss.length r2.cs) ∧ W.cell? ⟨w.heap.size + 1, 6, none⟩ = some (.slice r2.ka N2.ks.length r2.ck)) := fun W s => ⟨⟨s.keep c0, s.keep c1⟩, (hcells_row g1).keep s⟩
  have HG : Hid (∀ W, Same V W → W.heap[w.heap.size + 1 + 1]? = some (.cells #[.slice none 0 0, .slice none 0 0, .slice none 0 0] 28 (0, 0))) := fun W s => (s.block _ (lt_of_heap g2) (fun e => e)).trans g2
  have HZ : Hid (w.heap.size + 3 ≤ V.heap.size) := by show _ ≤ _; rw [hV]; simp
  obtain ⟨⟨f0, f1⟩, m0, m1, m2, m3, m4, m5, m6⟩ := HH.out _ (Fr.refl _ V)
  clear g0 g1 g2 c0 c1
  unfold halvesN at hV ⊢
  go_enter Tryz.func19, Tryz.ntmps19
  go_wp2_with fail
  rw [← hV]
  clear hV
  refine (HR.out _).mono ?_
  rintro e W0 ⟨rfl, s0⟩
  clear f0 f1 m0 m1 m2 m3 m4 m5 m6
  obtain ⟨⟨f0, f1⟩, m0, m1, m2, m3, m4, m5, m6⟩ := HH.out _ s0
  go_wp2_with fail
  refine (HL1.out _ (t1.trans s0)).mono ?_
  rintro e W1 ⟨rfl, s1⟩
  have s1 := s0.trans s1
  clear f0 f1 m0 m1 m2 m3 m4 m5 m6
  obtain ⟨⟨f0, f1⟩, m0, m1, m2, m3, m4, m5, m6⟩ := HH.out _ s1
  go_wp2_with fail
  refine (HB1.out _ (t1.trans s1)).mono ?_
  rintro e W2 ⟨rfl, s2⟩
  have s2 := s1.trans s2
  clear f0 f1 m0 m1 m2 m3 m4 m5 m6
  obtain ⟨⟨f0, f1⟩, m0, m1, m2, m3, m4, m5, m6⟩ := HH.out _ s2
  go_wp2_with fail
  refine (HB2.out _ (t1.trans s2)).mono ?_
  rintro e W3 ⟨rfl, s3⟩
  have s3 := s2.trans s3
  clear f0 f1 m0 m1 m2 m3 m4 m5 m6
  obtain ⟨⟨f0, f1⟩, m0, m1, m2, m3, m4, m5, m6⟩ := HH.out _ s3
  have r6 := HG.out _ s3
  go_wp2_with (refine wpList_store_whole (by rfl) 28 _ _ (by rfl) (w.heap.size + 1 + 1) #[.slice none 0 0, .slice none 0 0, .slice none 0 0] _ 28 (by rfl) (by rfl) r6 rfl (by kernel_rfl) (by kernel_rfl) ?_; intro W7 r7 f7)
  have hz := HZ.out
  exact bodyPost_ret (results_row_tmp (p := 4) (u := 5) (ty := 28) (by kernel_rfl) _ _ (w.heap.size + 1 + 1) 28 _ (0, 0) _ rfl r7 Tryz.underlying28 rfl (by kernel_rfl)) rfl ⟨rfl, Fr.trans (t1.trans s3) f7 (fun i hi e => by omega)⟩
set_option maxRecDepth 100000 in
set_option maxHeartbeats 4000000 in
theorem one_sC {p q : Int} {r1 r2 : Nr} {N1 N2 : Nd} {sp : ByteArray} (w : World)
    (HR : Hid (∀ W, Calls Tryz.prog 40 #[frameV p q] W fun e w' => e = .returned (.bool true) ∧ Same W w'))
    (HL1 : Hid (∀ W, Same w W → Calls Tryz.prog 41 #[frameV p q, ndV r1 N1] W fun e w' => e = .returned (.bool true) ∧ Same W w'))
    (HL2 : Hid (∀ W, Same w W → Calls Tryz.prog 41 #[frameV p q, ndV r2 N2] W fun e w' => e = .returned (.bool false) ∧ Same W w'))
    (HB1 : Hid (∀ W, Same w W → Calls Tryz.prog 42 #[frameV p q, ndV r1 N1] W fun e w' => e = .returned (.bool false) ∧ Same W w')) :
    Calls Tryz.prog 19 #[frameV p q, .agg (halvesN r1 r2 N1 N2 sp)] w fun e w' => e = .returned (.tuple #[nodeV none 0 0 none 0 0 none 0 0, .int .i64 80]) ∧ Same w w' := by
  obtain ⟨V, hV⟩ : ∃ V, V = ((w.alloc (.cells #[.int .i64 p, .int .i64 q] 23)).alloc (.cells (halvesN r1 r2 N1 N2 sp) 30)).alloc (.cells #[.slice none 0 0, .slice none 0 0, .slice none 0 0] 28) := ⟨_, rfl⟩
  have t1 : Same w V := by rw [hV]; exact (((Fr.refl _ w).alloc _).alloc _).alloc _
  obtain ⟨g0, g1, g2⟩ := three_boxes w (.cells #[.int .i64 p, .int .i64 q] 23) (.cells (halvesN r1 r2 N1 N2 sp) 30) (.cells #[.slice none 0 0, .slice none 0 0, .slice none 0 0] 28)
  rw [← hV] at g0 g1 g2
  have c0 : V.cell? ⟨w.heap.size, 0, none⟩ = some (.int .i64 p) := by rw [cell_of_row _ _ _ _ _ _ g0]; rfl
  have c1 : V.cell? ⟨w.heap.size, 1, none⟩ = some (.int .i64 q) := by rw [cell_of_row _ _ _ _ _ _ g0]; rfl
  have HH : Hid (∀ W, Same V W → (W.cell? ⟨w.heap.size, 0, none⟩ = some (.int .i64 p) ∧ W.cell? ⟨w.heap.size, 1, none⟩ = some (.int .i64 q)) ∧ W.cell? ⟨w.heap.size + 1, 0, none⟩ = some (.slice r1.pa N1.ps.length r1.cp) ∧ W.cell? ⟨w.heap.size + 1, 1, none⟩ = some (.slice r1.sa N1.ss.length r1.cs) ∧ W.cell? ⟨w.heap.size + 1, 2, none⟩ = some (.slice r1.ka N1.ks.length r1.ck) ∧ W.cell? ⟨w.heap.size + 1, 3, none⟩ = some (.string sp) ∧ W.cell? ⟨w.heap.size + 1, 4, none⟩ = some (.slice r2.pa N2.ps.length r2.cp) ∧ W.cell? ⟨w.heap.size + 1, 5, none⟩ = some (.slice r2.sa N2.ss.length r2.cs) ∧ W.cell? ⟨w.heap.size + 1, 6, none⟩ = some (.slice r2.ka N2.ks.length r2.ck)) := fun W s => ⟨⟨s.keep c0, s.keep c1⟩, (hcells_row g1).keep s⟩
  have HG : Hid (∀ W, Same V W → W.heap[w.heap.size + 1 + 1]? = some (.cells #[.slice none 0 0, .slice none 0 0, .slice none 0 0] 28 (0, 0))) := fun W s => (s.block _ (lt_of_heap g2) (fun e => e)).trans g2
  have HZ : Hid (w.heap.size + 3 ≤ V.heap.size) := by show _ ≤ _; rw [hV]; simp
  obtain ⟨⟨f0, f1⟩, m0, m1, m2, m3, m4, m5, m6⟩ := HH.out _ (Fr.refl _ V)
  clear g0 g1 g2 c0 c1
  unfold halvesN at hV ⊢
  go_enter Tryz.func19, Tryz.ntmps19
  go_wp2_with fail
  rw [← hV]
  clear hV
  refine (HR.out _).mono ?_
  rintro e W0 ⟨rfl, s0⟩
  clear f0 f1 m0 m1 m2 m3 m4 m5 m6
  obtain ⟨⟨f0, f1⟩, m0, m1, m2, m3, m4, m5, m6⟩ := HH.out _ s0
  go_wp2_with fail
  refine (HL1.out _ (t1.trans s0)).mono ?_
  rintro e W1 ⟨rfl, s1⟩
  have s1 := s0.trans s1
  clear f0 f1 m0 m1 m2 m3 m4 m5 m6
  obtain ⟨⟨f0, f1⟩, m0, m1, m2, m3, m4, m5, m6⟩ := HH.out _ s1
  go_wp2_with fail
  refine (HL2.out _ (t1.trans s1)).mono ?_
  rintro e W2 ⟨rfl, s2⟩
  have s2 := s1.trans s2
  clear f0 f1 m0 m1 m2 m3 m4 m5 m6
  obtain ⟨⟨f0, f1⟩, m0, m1, m2, m3, m4, m5, m6⟩ := HH.out _ s2
  go_wp2_with fail
  refine (HB1.out _ (t1.trans s2)).mono ?_
  rintro e W3 ⟨rfl, s3⟩
  have s3 := s2.trans s3
  clear f0 f1 m0 m1 m2 m3 m4 m5 m6
  obtain ⟨⟨f0, f1⟩, m0, m1, m2, m3, m4, m5, m6⟩ := HH.out _ s3
  have r6 := HG.out _ s3
  go_wp2_with (refine wpList_store_whole (by rfl) 28 _ _ (by rfl) (w.heap.size + 1 + 1) #[.slice none 0 0, .slice none 0 0, .slice none 0 0] _ 28 (by rfl) (by rfl) r6 rfl (by kernel_rfl) (by kernel_rfl) ?_; intro W7 r7 f7)
  have hz := HZ.out
  exact bodyPost_ret (results_row_tmp (p := 4) (u := 5) (ty := 28) (by kernel_rfl) _ _ (w.heap.size + 1 + 1) 28 _ (0, 0) _ rfl r7 Tryz.underlying28 rfl (by kernel_rfl)) rfl ⟨rfl, Fr.trans (t1.trans s3) f7 (fun i hi e => by omega)⟩
set_option maxRecDepth 100000 in
set_option maxHeartbeats 4000000 in
theorem one_leafO {p q : Int} {r1 r2 : Nr} {N1 N2 : Nd} {sp : ByteArray} (w : World)
    (HR : Hid (∀ W, Calls Tryz.prog 40 #[frameV p q] W fun e w' => e = .returned (.bool true) ∧ Same W w'))
    (HL1 : Hid (∀ W, Same w W → Calls Tryz.prog 41 #[frameV p q, ndV r1 N1] W fun e w' => e = .returned (.bool true) ∧ Same W w'))
    (HL2 : Hid (∀ W, Same w W → Calls Tryz.prog 41 #[frameV p q, ndV r2 N2] W fun e w' => e = .returned (.bool true) ∧ Same W w'))
    (HS : Hid (∀ W, Same w W → Calls Tryz.prog 43 #[frameV p q, .agg #[.slice r1.pa N1.ps.length r1.cp, .slice r1.sa N1.ss.length r1.cs, .slice r1.ka N1.ks.length r1.ck, .string sp, .slice r2.pa N2.ps.length r2.cp, .slice r2.sa N2.ss.length r2.cs, .slice r2.ka N2.ks.length r2.ck]] W fun e w' => e = .returned (.bool false) ∧ Same W w')) :
    Calls Tryz.prog 19 #[frameV p q, .agg (halvesN r1 r2 N1 N2 sp)] w fun e w' => e = .returned (.tuple #[nodeV none 0 0 none 0 0 none 0 0, .int .i64 81]) ∧ Same w w' := by
  obtain ⟨V, hV⟩ : ∃ V, V = ((w.alloc (.cells #[.int .i64 p, .int .i64 q] 23)).alloc (.cells (halvesN r1 r2 N1 N2 sp) 30)).alloc (.cells #[.slice none 0 0, .slice none 0 0, .slice none 0 0] 28) := ⟨_, rfl⟩
  have t1 : Same w V := by rw [hV]; exact (((Fr.refl _ w).alloc _).alloc _).alloc _
  obtain ⟨g0, g1, g2⟩ := three_boxes w (.cells #[.int .i64 p, .int .i64 q] 23) (.cells (halvesN r1 r2 N1 N2 sp) 30) (.cells #[.slice none 0 0, .slice none 0 0, .slice none 0 0] 28)
  rw [← hV] at g0 g1 g2
  have c0 : V.cell? ⟨w.heap.size, 0, none⟩ = some (.int .i64 p) := by rw [cell_of_row _ _ _ _ _ _ g0]; rfl
  have c1 : V.cell? ⟨w.heap.size, 1, none⟩ = some (.int .i64 q) := by rw [cell_of_row _ _ _ _ _ _ g0]; rfl
  have HH : Hid (∀ W, Same V W → (W.cell? ⟨w.heap.size, 0, none⟩ = some (.int .i64 p) ∧ W.cell? ⟨w.heap.size, 1, none⟩ = some (.int .i64 q)) ∧ W.cell? ⟨w.heap.size + 1, 0, none⟩ = some (.slice r1.pa N1.ps.length r1.cp) ∧ W.cell? ⟨w.heap.size + 1, 1, none⟩ = some (.slice r1.sa N1.ss.length r1.cs) ∧ W.cell? ⟨w.heap.size + 1, 2, none⟩ = some (.slice r1.ka N1.ks.length r1.ck) ∧ W.cell? ⟨w.heap.size + 1, 3, none⟩ = some (.string sp) ∧ W.cell? ⟨w.heap.size + 1, 4, none⟩ = some (.slice r2.pa N2.ps.length r2.cp) ∧ W.cell? ⟨w.heap.size + 1, 5, none⟩ = some (.slice r2.sa N2.ss.length r2.cs) ∧ W.cell? ⟨w.heap.size + 1, 6, none⟩ = some (.slice r2.ka N2.ks.length r2.ck)) := fun W s => ⟨⟨s.keep c0, s.keep c1⟩, (hcells_row g1).keep s⟩
  have HG : Hid (∀ W, Same V W → W.heap[w.heap.size + 1 + 1]? = some (.cells #[.slice none 0 0, .slice none 0 0, .slice none 0 0] 28 (0, 0))) := fun W s => (s.block _ (lt_of_heap g2) (fun e => e)).trans g2
  have HZ : Hid (w.heap.size + 3 ≤ V.heap.size) := by show _ ≤ _; rw [hV]; simp
  obtain ⟨⟨f0, f1⟩, m0, m1, m2, m3, m4, m5, m6⟩ := HH.out _ (Fr.refl _ V)
  clear g0 g1 g2 c0 c1
  unfold halvesN at hV ⊢
  go_enter Tryz.func19, Tryz.ntmps19
  go_wp2_with fail
  rw [← hV]
  clear hV
  refine (HR.out _).mono ?_
  rintro e W0 ⟨rfl, s0⟩
  clear f0 f1 m0 m1 m2 m3 m4 m5 m6
  obtain ⟨⟨f0, f1⟩, m0, m1, m2, m3, m4, m5, m6⟩ := HH.out _ s0
  go_wp2_with fail
  refine (HL1.out _ (t1.trans s0)).mono ?_
  rintro e W1 ⟨rfl, s1⟩
  have s1 := s0.trans s1
  clear f0 f1 m0 m1 m2 m3 m4 m5 m6
  obtain ⟨⟨f0, f1⟩, m0, m1, m2, m3, m4, m5, m6⟩ := HH.out _ s1
  go_wp2_with fail
  refine (HL2.out _ (t1.trans s1)).mono ?_
  rintro e W2 ⟨rfl, s2⟩
  have s2 := s1.trans s2
  clear f0 f1 m0 m1 m2 m3 m4 m5 m6
  obtain ⟨⟨f0, f1⟩, m0, m1, m2, m3, m4, m5, m6⟩ := HH.out _ s2
  go_wp2_with fail
  refine (HS.out _ (t1.trans s2)).mono ?_
  rintro e W3 ⟨rfl, s3⟩
  have s3 := s2.trans s3
  clear f0 f1 m0 m1 m2 m3 m4 m5 m6
  obtain ⟨⟨f0, f1⟩, m0, m1, m2, m3, m4, m5, m6⟩ := HH.out _ s3
  have r6 := HG.out _ s3
  go_wp2_with (refine wpList_store_whole (by rfl) 28 _ _ (by rfl) (w.heap.size + 1 + 1) #[.slice none 0 0, .slice none 0 0, .slice none 0 0] _ 28 (by rfl) (by rfl) r6 rfl (by kernel_rfl) (by kernel_rfl) ?_; intro W7 r7 f7)
  have hz := HZ.out
  exact bodyPost_ret (results_row_tmp (p := 4) (u := 5) (ty := 28) (by kernel_rfl) _ _ (w.heap.size + 1 + 1) 28 _ (0, 0) _ rfl r7 Tryz.underlying28 rfl (by kernel_rfl)) rfl ⟨rfl, Fr.trans (t1.trans s3) f7 (fun i hi e => by omega)⟩
set_option maxRecDepth 100000 in
set_option maxHeartbeats 4000000 in
theorem one_branchO {p q : Int} {r1 r2 : Nr} {N1 N2 : Nd} {sp : ByteArray} (w : World)
    (HR : Hid (∀ W, Calls Tryz.prog 40 #[frameV p q] W fun e w' => e = .returned (.bool true) ∧ Same W w'))
    (HL1 : Hid (∀ W, Same w W → Calls Tryz.prog 41 #[frameV p q, ndV r1 N1] W fun e w' => e = .returned (.bool false) ∧ Same W w'))
    (HB1 : Hid (∀ W, Same w W → Calls Tryz.prog 42 #[frameV p q, ndV r1 N1] W fun e w' => e = .returned (.bool true) ∧ Same W w'))
    (HB2 : Hid (∀ W, Same w W → Calls Tryz.prog 42 #[frameV p q, ndV r2 N2] W fun e w' => e = .returned (.bool true) ∧ Same W w'))
    (HS : Hid (∀ W, Same w W → Calls Tryz.prog 43 #[frameV p q, .agg #[.slice r1.pa N1.ps.length r1.cp, .slice r1.sa N1.ss.length r1.cs, .slice r1.ka N1.ks.length r1.ck, .string sp, .slice r2.pa N2.ps.length r2.cp, .slice r2.sa N2.ss.length r2.cs, .slice r2.ka N2.ks.length r2.ck]] W fun e w' => e = .returned (.bool false) ∧ Same W w')) :
    Calls Tryz.prog 19 #[frameV p q, .agg (halvesN r1 r2 N1 N2 sp)] w fun e w' => e = .returned (.tuple #[nodeV none 0 0 none 0 0 none 0 0, .int .i64 81]) ∧ Same w w' := by
  obtain ⟨V, hV⟩ : ∃ V, V = ((w.alloc (.cells #[.int .i64 p, .int .i64 q] 23)).alloc (.cells (halvesN r1 r2 N1 N2 sp) 30)).alloc (.cells #[.slice none 0 0, .slice none 0 0, .slice none 0 0] 28) := ⟨_, rfl⟩
  have t1 : Same w V := by rw [hV]; exact (((Fr.refl _ w).alloc _).alloc _).alloc _
  obtain ⟨g0, g1, g2⟩ := three_boxes w (.cells #[.int .i64 p, .int .i64 q] 23) (.cells (halvesN r1 r2 N1 N2 sp) 30) (.cells #[.slice none 0 0, .slice none 0 0, .slice none 0 0] 28)
  rw [← hV] at g0 g1 g2
  have c0 : V.cell? ⟨w.heap.size, 0, none⟩ = some (.int .i64 p) := by rw [cell_of_row _ _ _ _ _ _ g0]; rfl
  have c1 : V.cell? ⟨w.heap.size, 1, none⟩ = some (.int .i64 q) := by rw [cell_of_row _ _ _ _ _ _ g0]; rfl
  have HH : Hid (∀ W, Same V W → (W.cell? ⟨w.heap.size, 0, none⟩ = some (.int .i64 p) ∧ W.cell? ⟨w.heap.size, 1, none⟩ = some (.int .i64 q)) ∧ W.cell? ⟨w.heap.size + 1, 0, none⟩ = some (.slice r1.pa N1.ps.length r1.cp) ∧ W.cell? ⟨w.heap.size + 1, 1, none⟩ = some (.slice r1.sa N1.ss.length r1.cs) ∧ W.cell? ⟨w.heap.size + 1, 2, none⟩ = some (.slice r1.ka N1.ks.length r1.ck) ∧ W.cell? ⟨w.heap.size + 1, 3, none⟩ = some (.string sp) ∧ W.cell? ⟨w.heap.size + 1, 4, none⟩ = some (.slice r2.pa N2.ps.length r2.cp) ∧ W.cell? ⟨w.heap.size + 1, 5, none⟩ = some (.slice r2.sa N2.ss.length r2.cs) ∧ W.cell? ⟨w.heap.size + 1, 6, none⟩ = some (.slice r2.ka N2.ks.length r2.ck)) := fun W s => ⟨⟨s.keep c0, s.keep c1⟩, (hcells_row g1).keep s⟩
  have HG : Hid (∀ W, Same V W → W.heap[w.heap.size + 1 + 1]? = some (.cells #[.slice none 0 0, .slice none 0 0, .slice none 0 0] 28 (0, 0))) := fun W s => (s.block _ (lt_of_heap g2) (fun e => e)).trans g2
  have HZ : Hid (w.heap.size + 3 ≤ V.heap.size) := by show _ ≤ _; rw [hV]; simp
  obtain ⟨⟨f0, f1⟩, m0, m1, m2, m3, m4, m5, m6⟩ := HH.out _ (Fr.refl _ V)
  clear g0 g1 g2 c0 c1
  unfold halvesN at hV ⊢
  go_enter Tryz.func19, Tryz.ntmps19
  go_wp2_with fail
  rw [← hV]
  clear hV
  refine (HR.out _).mono ?_
  rintro e W0 ⟨rfl, s0⟩
  clear f0 f1 m0 m1 m2 m3 m4 m5 m6
  obtain ⟨⟨f0, f1⟩, m0, m1, m2, m3, m4, m5, m6⟩ := HH.out _ s0
  go_wp2_with fail
  refine (HL1.out _ (t1.trans s0)).mono ?_
  rintro e W1 ⟨rfl, s1⟩
  have s1 := s0.trans s1
  clear f0 f1 m0 m1 m2 m3 m4 m5 m6
  obtain ⟨⟨f0, f1⟩, m0, m1, m2, m3, m4, m5, m6⟩ := HH.out _ s1
  go_wp2_with fail
  refine (HB1.out _ (t1.trans s1)).mono ?_
  rintro e W2 ⟨rfl, s2⟩
  have s2 := s1.trans s2
  clear f0 f1 m0 m1 m2 m3 m4 m5 m6
  obtain ⟨⟨f0, f1⟩, m0, m1, m2, m3, m4, m5, m6⟩ := HH.out _ s2
  go_wp2_with fail
  refine (HB2.out _ (t1.trans s2)).mono ?_
  rintro e W3 ⟨rfl, s3⟩
  have s3 := s2.trans s3
  clear f0 f1 m0 m1 m2 m3 m4 m5 m6
  obtain ⟨⟨f0, f1⟩, m0, m1, m2, m3, m4, m5, m6⟩ := HH.out _ s3
  go_wp2_with fail
  refine (HS.out _ (t1.trans s3)).mono ?_
  rintro e W4 ⟨rfl, s4⟩
  have s4 := s3.trans s4
  clear f0 f1 m0 m1 m2 m3 m4 m5 m6
  obtain ⟨⟨f0, f1⟩, m0, m1, m2, m3, m4, m5, m6⟩ := HH.out _ s4
  have r6 := HG.out _ s4
  go_wp2_with (refine wpList_store_whole (by rfl) 28 _ _ (by rfl) (w.heap.size + 1 + 1) #[.slice none 0 0, .slice none 0 0, .slice none 0 0] _ 28 (by rfl) (by rfl) r6 rfl (by kernel_rfl) (by kernel_rfl) ?_; intro W7 r7 f7)
  have hz := HZ.out
  exact bodyPost_ret (results_row_tmp (p := 4) (u := 5) (ty := 28) (by kernel_rfl) _ _ (w.heap.size + 1 + 1) 28 _ (0, 0) _ rfl r7 Tryz.underlying28 rfl (by kernel_rfl)) rfl ⟨rfl, Fr.trans (t1.trans s4) f7 (fun i hi e => by omega)⟩
set_option maxRecDepth 100000 in
set_option maxHeartbeats 4000000 in
theorem one_branch {p q : Int} {r1 r2 : Nr} {N1 N2 : Nd} {sp : ByteArray} (w : World) (i1 : NdIn w r1 N1) (i2 : NdIn w r2 N2) (h1 : N1.ps.length ≤ 1048576) (h2 : N1.ss.length ≤ 1048576) (h3 : N1.ks.length ≤ 1048576) (h4 : N2.ps.length ≤ 1048576) (h5 : N2.ss.length ≤ 1048576) (h6 : N2.ks.length ≤ 1048576) (hk : 0 < N1.ks.length)
    (HR : Hid (∀ W, Calls Tryz.prog 40 #[frameV p q] W fun e w' => e = .returned (.bool true) ∧ Same W w'))
    (HL1 : Hid (∀ W, Same w W → Calls Tryz.prog 41 #[frameV p q, ndV r1 N1] W fun e w' => e = .returned (.bool false) ∧ Same W w'))
    (HB1 : Hid (∀ W, Same w W → Calls Tryz.prog 42 #[frameV p q, ndV r1 N1] W fun e w' => e = .returned (.bool true) ∧ Same W w'))
    (HB2 : Hid (∀ W, Same w W → Calls Tryz.prog 42 #[frameV p q, ndV r2 N2] W fun e w' => e = .returned (.bool true) ∧ Same W w'))
    (HS : Hid (∀ W, Same w W → Calls Tryz.prog 43 #[frameV p q, .agg #[.slice r1.pa N1.ps.length r1.cp, .slice r1.sa N1.ss.length r1.cs, .slice r1.ka N1.ks.length r1.ck, .string sp, .slice r2.pa N2.ps.length r2.cp, .slice r2.sa N2.ss.length r2.cs, .slice r2.ka N2.ks.length r2.ck]] W fun e w' => e = .returned (.bool true) ∧ Same W w')) :
    Calls Tryz.prog 19 #[frameV p q, .agg (halvesN r1 r2 N1 N2 sp)] w fun e w' => ∃ r, e = .returned (.tuple #[ndV r ⟨N1.ps ++ N2.ps, N1.ss ++ sp :: N2.ss, N1.ks ++ N2.ks⟩, .int .i64 0]) ∧ MadeNd w' w.heap.size r ⟨N1.ps ++ N2.ps, N1.ss ++ sp :: N2.ss, N1.ks ++ N2.ks⟩ ∧ Same w w' := by
  obtain ⟨V, hV⟩ : ∃ V, V = ((w.alloc (.cells #[.int .i64 p, .int .i64 q] 23)).alloc (.cells (halvesN r1 r2 N1 N2 sp) 30)).alloc (.cells #[.slice none 0 0, .slice none 0 0, .slice none 0 0] 28) := ⟨_, rfl⟩
  have t1 : Same w V := by rw [hV]; exact (((Fr.refl _ w).alloc _).alloc _).alloc _
  obtain ⟨g0, g1, g2⟩ := three_boxes w (.cells #[.int .i64 p, .int .i64 q] 23) (.cells (halvesN r1 r2 N1 N2 sp) 30) (.cells #[.slice none 0 0, .slice none 0 0, .slice none 0 0] 28)
  rw [← hV] at g0 g1 g2
  have c0 : V.cell? ⟨w.heap.size, 0, none⟩ = some (.int .i64 p) := by rw [cell_of_row _ _ _ _ _ _ g0]; rfl
  have c1 : V.cell? ⟨w.heap.size, 1, none⟩ = some (.int .i64 q) := by rw [cell_of_row _ _ _ _ _ _ g0]; rfl
  have HH : Hid (∀ W, Same V W → (W.cell? ⟨w.heap.size, 0, none⟩ = some (.int .i64 p) ∧ W.cell? ⟨w.heap.size, 1, none⟩ = some (.int .i64 q)) ∧ W.cell? ⟨w.heap.size + 1, 0, none⟩ = some (.slice r1.pa N1.ps.length r1.cp) ∧ W.cell? ⟨w.heap.size + 1, 1, none⟩ = some (.slice r1.sa N1.ss.length r1.cs) ∧ W.cell? ⟨w.heap.size + 1, 2, none⟩ = some (.slice r1.ka N1.ks.length r1.ck) ∧ W.cell? ⟨w.heap.size + 1, 3, none⟩ = some (.string sp) ∧ W.cell? ⟨w.heap.size + 1, 4, none⟩ = some (.slice r2.pa N2.ps.length r2.cp) ∧ W.cell? ⟨w.heap.size + 1, 5, none⟩ = some (.slice r2.sa N2.ss.length r2.cs) ∧ W.cell? ⟨w.heap.size + 1, 6, none⟩ = some (.slice r2.ka N2.ks.length r2.ck)) := fun W s => ⟨⟨s.keep c0, s.keep c1⟩, (hcells_row g1).keep s⟩
  have HG : Hid (∀ W, Same V W → W.heap[w.heap.size + 1 + 1]? = some (.cells #[.slice none 0 0, .slice none 0 0, .slice none 0 0] 28 (0, 0))) := fun W s => (s.block _ (lt_of_heap g2) (fun e => e)).trans g2
  have HZ : Hid (w.heap.size + 3 ≤ V.heap.size) := by show _ ≤ _; rw [hV]; simp
  obtain ⟨⟨f0, f1⟩, m0, m1, m2, m3, m4, m5, m6⟩ := HH.out _ (Fr.refl _ V)
  have HI1 : Hid (∀ W, Same V W → NdIn W r1 N1) := fun W s => i1.same (t1.trans s)
  have HI2 : Hid (∀ W, Same V W → NdIn W r2 N2) := fun W s => i2.same (t1.trans s)
  have HN : Hid ((N1.ps.length ≤ 1048576 ∧ N1.ss.length ≤ 1048576 ∧ N1.ks.length ≤ 1048576) ∧ (N2.ps.length ≤ 1048576 ∧ N2.ss.length ≤ 1048576 ∧ N2.ks.length ≤ 1048576)) := ⟨⟨h1, h2, h3⟩, h4, h5, h6⟩
  have HK : Hid (0 < N1.ks.length) := hk
  clear i1 i2 h1 h2 h3 h4 h5 h6 hk
  clear g0 g1 g2 c0 c1
  unfold halvesN at hV ⊢
  go_enter Tryz.func19, Tryz.ntmps19
  go_wp2_with fail
  rw [← hV]
  clear hV
  refine (HR.out _).mono ?_
  rintro e W0 ⟨rfl, s0⟩
  clear f0 f1 m0 m1 m2 m3 m4 m5 m6
  obtain ⟨⟨f0, f1⟩, m0, m1, m2, m3, m4, m5, m6⟩ := HH.out _ s0
  go_wp2_with fail
  refine (HL1.out _ (t1.trans s0)).mono ?_
  rintro e W1 ⟨rfl, s1⟩
  have s1 := s0.trans s1
  clear f0 f1 m0 m1 m2 m3 m4 m5 m6
  obtain ⟨⟨f0, f1⟩, m0, m1, m2, m3, m4, m5, m6⟩ := HH.out _ s1
  go_wp2_with fail
  refine (HB1.out _ (t1.trans s1)).mono ?_
  rintro e W2 ⟨rfl, s2⟩
  have s2 := s1.trans s2
  clear f0 f1 m0 m1 m2 m3 m4 m5 m6
  obtain ⟨⟨f0, f1⟩, m0, m1, m2, m3, m4, m5, m6⟩ := HH.out _ s2
  go_wp2_with fail
  refine (HB2.out _ (t1.trans s2)).mono ?_
  rintro e W3 ⟨rfl, s3⟩
  have s3 := s2.trans s3
  clear f0 f1 m0 m1 m2 m3 m4 m5 m6
  obtain ⟨⟨f0, f1⟩, m0, m1, m2, m3, m4, m5, m6⟩ := HH.out _ s3
  go_wp2_with fail
  refine (HS.out _ (t1.trans s3)).mono ?_
  rintro e W4 ⟨rfl, s4⟩
  have s4 := s3.trans s4
  clear f0 f1 m0 m1 m2 m3 m4 m5 m6
  obtain ⟨⟨f0, f1⟩, m0, m1, m2, m3, m4, m5, m6⟩ := HH.out _ s4
  obtain ⟨X, hX⟩ : ∃ X, X = W4.alloc (.cells #[.slice none 0 0, .slice none 0 0, .slice none 0 0] 28) := ⟨_, rfl⟩
  obtain ⟨nb, hnb⟩ : ∃ nb, nb = W4.heap.size := ⟨_, rfl⟩
  have b0 : BS V X V.heap.size nb none 0 0 [] none 0 0 [] none 0 0 [] := by
    rw [hX, hnb]
    exact ⟨heap_alloc_new W4 _, own_nil, own_nil, own_nil, Fr.alloc s4 _, s4.size, Nat.le_refl _, by have := s4.size; simp; omega⟩
  clear f0 f1 m0 m1 m2 m3 m4 m5 m6
  obtain ⟨⟨f0, f1⟩, m0, m1, m2, m3, m4, m5, m6⟩ := HH.out _ b0.fr
  obtain ⟨k0, k1, k2⟩ := b0.box
  rw [hX] at f0 f1 m0 m1 m2 m3 m4 m5 m6 k0 k1 k2
  rw [hnb] at k0 k1 k2
  rw [hX, hnb] at b0
  clear hX hnb
  obtain ⟨KN, hKN⟩ : ∃ KN, KN = N1.ks.length + N2.ks.length := ⟨_, rfl⟩
  have HKN : Hid (KN = N1.ks.length + N2.ks.length) := hKN
  have hk9 : 0 < KN := by have := HK.out; omega
  go_wp2_with (at_builtin; go_must (refine wpList_partPairs _ (by rfl) _ _ (by rfl) (by rfl) b0.oP (x := ⟨r1.pa, N1.ps.length, r1.cp, pcells N1.ps⟩) (by rfl) (HI1.out _ b0.fr).pp (by have := HN.out; simp only; omega) b0.hW ?_))
  intro ao1 cc1 Y1 o1 g1
  try simp only [Nat.zero_add, List.nil_append] at o1 ⊢
  obtain ⟨b1, kx, fz⟩ := b0.growP o1 g1
  clear f0 f1 m0 m1 m2 m3 m4 m5 m6
  obtain ⟨⟨f0, f1⟩, m0, m1, m2, m3, m4, m5, m6⟩ := HH.out _ b1.fr
  clear k0 k1 k2
  obtain ⟨k0, k1, k2⟩ := b1.box
  go_wp2_with (at_builtin; go_must (refine wpList_partPairs _ (by rfl) _ _ (by rfl) (by rfl) b1.oP (x := ⟨r2.pa, N2.ps.length, r2.cp, pcells N2.ps⟩) (by rfl) (HI2.out _ b1.fr).pp (by have := HN.out; simp only; omega) b1.hW ?_))
  intro ao2 cc2 Y2 o2 g2
  obtain ⟨b2, kx, fz⟩ := b1.growP o2 g2
  clear f0 f1 m0 m1 m2 m3 m4 m5 m6
  obtain ⟨⟨f0, f1⟩, m0, m1, m2, m3, m4, m5, m6⟩ := HH.out _ b2.fr
  clear k0 k1 k2
  obtain ⟨k0, k1, k2⟩ := b2.box
  go_wp2_with (at_builtin; go_must (refine wpList_partKids _ (by rfl) _ _ (by rfl) (by rfl) b2.oK (x := ⟨r1.ka, N1.ks.length, r1.ck, kcellsL N1.ks⟩) (by rfl) (HI1.out _ b2.fr).kp (by have := HN.out; simp only; omega) b2.hW ?_))
  intro ao3 cc3 Y3 o3 g3
  try simp only [Nat.zero_add, List.nil_append] at o3 ⊢
  obtain ⟨b3, kx, fz⟩ := b2.growK o3 g3
  clear f0 f1 m0 m1 m2 m3 m4 m5 m6
  obtain ⟨⟨f0, f1⟩, m0, m1, m2, m3, m4, m5, m6⟩ := HH.out _ b3.fr
  clear k0 k1 k2
  obtain ⟨k0, k1, k2⟩ := b3.box
  go_wp2_with (at_builtin; go_must (refine wpList_partKids _ (by rfl) _ _ (by rfl) (by rfl) b3.oK (x := ⟨r2.ka, N2.ks.length, r2.ck, kcellsL N2.ks⟩) (by rfl) (HI2.out _ b3.fr).kp (by have := HN.out; simp only; omega) b3.hW ?_))
  intro ao4 cc4 Y4 o4 g4
  rw [← hKN] at o4 ⊢
  clear hKN
  obtain ⟨b4, kx, fz⟩ := b3.growK o4 g4
  clear f0 f1 m0 m1 m2 m3 m4 m5 m6
  obtain ⟨⟨f0, f1⟩, m0, m1, m2, m3, m4, m5, m6⟩ := HH.out _ b4.fr
  clear k0 k1 k2
  obtain ⟨k0, k1, k2⟩ := b4.box
  go_wp2_with (at_builtin; go_must (refine wpList_partTexts _ (by rfl) _ _ (by rfl) (by rfl) b4.oS (x := ⟨r1.sa, N1.ss.length, r1.cs, scells N1.ss⟩) (by rfl) (HI1.out _ b4.fr).sp (by have := HN.out; simp only; omega) b4.hW ?_))
  intro ao5 cc5 Y5 o5 g5
  try simp only [Nat.zero_add, List.nil_append] at o5 ⊢
  obtain ⟨b5, kx, fz⟩ := b4.growS o5 g5
  clear f0 f1 m0 m1 m2 m3 m4 m5 m6
  obtain ⟨⟨f0, f1⟩, m0, m1, m2, m3, m4, m5, m6⟩ := HH.out _ b5.fr
  clear k0 k1 k2
  obtain ⟨k0, k1, k2⟩ := b5.box
  have bA := b5.alloc (.cells #[.string sp] 9)
  have pOk := b5.strA sp Y5.heap.size (by simp)
  go_wp2_with (at_builtin; go_must (refine wpList_partTexts _ (by rfl) _ _ (by rfl) (by rfl) bA.oS (by rfl) pOk (by have := HN.out; simp only; omega) bA.hW ?_))
  intro ao6 cc6 Y6 o6 g6
  obtain ⟨b6, kx, fz⟩ := bA.growS o6 g6
  clear f0 f1 m0 m1 m2 m3 m4 m5 m6
  obtain ⟨⟨f0, f1⟩, m0, m1, m2, m3, m4, m5, m6⟩ := HH.out _ b6.fr
  clear k0 k1 k2
  obtain ⟨k0, k1, k2⟩ := b6.box
  go_wp2_with (at_builtin; go_must (refine wpList_partTexts _ (by rfl) _ _ (by rfl) (by rfl) b6.oS (x := ⟨r2.sa, N2.ss.length, r2.cs, scells N2.ss⟩) (by rfl) (HI2.out _ b6.fr).sp (by have := HN.out; simp only; omega) b6.hW ?_))
  intro ao7 cc7 Y7 o7 g7
  obtain ⟨b7, kx, fz⟩ := b6.growS o7 g7
  clear f0 f1 m0 m1 m2 m3 m4 m5 m6
  obtain ⟨⟨f0, f1⟩, m0, m1, m2, m3, m4, m5, m6⟩ := HH.out _ b7.fr
  clear k0 k1 k2
  obtain ⟨k0, k1, k2⟩ := b7.box
  have r6 := HG.out _ b7.fr
  go_wp2_with (refine wpList_store_whole (by rfl) 28 _ _ (by rfl) (w.heap.size + 1 + 1) #[.slice ao2 (N1.ps.length + N2.ps.length) cc2, .slice ao7 (N1.ss.length + 1 + N2.ss.length) cc7, .slice ao4 KN cc4] _ 28 (by rfl) (by rfl) r6 rfl (by kernel_rfl) (by kernel_rfl) ?_; intro W7 r7 f7)
  have hz := HZ.out
  have e1 : (N1.ps ++ N2.ps).length = N1.ps.length + N2.ps.length := List.length_append
  have e2 : (N1.ss ++ sp :: N2.ss).length = (N1.ss.length + 1 + N2.ss.length) := by simp; omega
  have e3 : (N1.ks ++ N2.ks).length = KN := by rw [HKN.out, List.length_append]
  have x1 : pcells (N1.ps ++ N2.ps) = pcells N1.ps ++ pcells N2.ps := pcells_app _ _
  have x2 : scells (N1.ss ++ sp :: N2.ss) = (scells N1.ss ++ [.string sp]) ++ scells N2.ss := by simp [scells]
  have x3 : kcellsL (N1.ks ++ N2.ks) = kcellsL N1.ks ++ kcellsL N2.ks := kcellsL_app _ _
  have m7 : MadeNd W7 w.heap.size ⟨ao2, 0, 0, cc2, ao7, 0, 0, cc7, ao4, 0, 0, cc4⟩ ⟨N1.ps ++ N2.ps, N1.ss ++ sp :: N2.ss, N1.ks ++ N2.ks⟩ :=
    ⟨by show World.ownsRow _ _ _ _ (.slice ao2 (N1.ps ++ N2.ps).length cc2) (N1.ps ++ N2.ps).length (pcells (N1.ps ++ N2.ps)); rw [e1, x1]; exact own_base (own_frameB b7.oP f7 (fun k hk e => type_ne b7.oP r6 (by decide) (by rw [← e]; exact hk))) (by omega),
     by show World.ownsRow _ _ _ _ (.slice ao7 (N1.ss ++ sp :: N2.ss).length cc7) (N1.ss ++ sp :: N2.ss).length (scells (N1.ss ++ sp :: N2.ss)); rw [e2, x2]; have oS7 := own_base (own_frameB b7.oS f7 (fun k hk e => type_ne b7.oS r6 (by decide) (by rw [← e]; exact hk))) (show w.heap.size ≤ V.heap.size by omega); (try simp only [List.append_assoc, List.cons_append, List.nil_append] at oS7 ⊢); exact oS7,
     by show World.ownsRow _ _ _ _ (.slice ao4 (N1.ks ++ N2.ks).length cc4) (N1.ks ++ N2.ks).length (kcellsL (N1.ks ++ N2.ks)); rw [e3, x3]; exact own_base (own_frameB b7.oK f7 (fun k hk e => type_ne b7.oK r6 (by decide) (by rw [← e]; exact hk))) (by omega)⟩
  refine bodyPost_ret (results_row_tmp (p := 4) (u := 5) (ty := 28) (by kernel_rfl) _ _ (w.heap.size + 1 + 1) 28 _ (0, 0) _ rfl r7 Tryz.underlying28 rfl (by kernel_rfl)) rfl ⟨_, ?_, m7, Fr.trans (t1.trans b7.fr) f7 (fun i hi e => by omega)⟩
  unfold ndV
  simp only
  rw [e1, e2, e3]
  rfl
set_option maxRecDepth 100000 in
set_option maxHeartbeats 4000000 in
theorem one_leaf {p q : Int} {r1 r2 : Nr} {N1 N2 : Nd} {sp : ByteArray} (w : World) (i1 : NdIn w r1 N1) (i2 : NdIn w r2 N2) (h1 : N1.ps.length ≤ 1048576) (h2 : N1.ss.length ≤ 1048576) (h3 : N1.ks.length ≤ 1048576) (h4 : N2.ps.length ≤ 1048576) (h5 : N2.ss.length ≤ 1048576) (h6 : N2.ks.length ≤ 1048576) (hk : N1.ks.length + N2.ks.length = 0)
    (HR : Hid (∀ W, Calls Tryz.prog 40 #[frameV p q] W fun e w' => e = .returned (.bool true) ∧ Same W w'))
    (HL1 : Hid (∀ W, Same w W → Calls Tryz.prog 41 #[frameV p q, ndV r1 N1] W fun e w' => e = .returned (.bool true) ∧ Same W w'))
    (HL2 : Hid (∀ W, Same w W → Calls Tryz.prog 41 #[frameV p q, ndV r2 N2] W fun e w' => e = .returned (.bool true) ∧ Same W w'))
    (HS : Hid (∀ W, Same w W → Calls Tryz.prog 43 #[frameV p q, .agg #[.slice r1.pa N1.ps.length r1.cp, .slice r1.sa N1.ss.length r1.cs, .slice r1.ka N1.ks.length r1.ck, .string sp, .slice r2.pa N2.ps.length r2.cp, .slice r2.sa N2.ss.length r2.cs, .slice r2.ka N2.ks.length r2.ck]] W fun e w' => e = .returned (.bool true) ∧ Same W w')) :
    Calls Tryz.prog 19 #[frameV p q, .agg (halvesN r1 r2 N1 N2 sp)] w fun e w' => ∃ r, e = .returned (.tuple #[ndV r ⟨N1.ps ++ N2.ps, N1.ss ++ N2.ss, N1.ks ++ N2.ks⟩, .int .i64 0]) ∧ MadeNd w' w.heap.size r ⟨N1.ps ++ N2.ps, N1.ss ++ N2.ss, N1.ks ++ N2.ks⟩ ∧ Same w w' := by
  obtain ⟨V, hV⟩ : ∃ V, V = ((w.alloc (.cells #[.int .i64 p, .int .i64 q] 23)).alloc (.cells (halvesN r1 r2 N1 N2 sp) 30)).alloc (.cells #[.slice none 0 0, .slice none 0 0, .slice none 0 0] 28) := ⟨_, rfl⟩
  have t1 : Same w V := by rw [hV]; exact (((Fr.refl _ w).alloc _).alloc _).alloc _
  obtain ⟨g0, g1, g2⟩ := three_boxes w (.cells #[.int .i64 p, .int .i64 q] 23) (.cells (halvesN r1 r2 N1 N2 sp) 30) (.cells #[.slice none 0 0, .slice none 0 0, .slice none 0 0] 28)
  rw [← hV] at g0 g1 g2
  have c0 : V.cell? ⟨w.heap.size, 0, none⟩ = some (.int .i64 p) := by rw [cell_of_row _ _ _ _ _ _ g0]; rfl
  have c1 : V.cell? ⟨w.heap.size, 1, none⟩ = some (.int .i64 q) := by rw [cell_of_row _ _ _ _ _ _ g0]; rfl
  have HH : Hid (∀ W, Same V W → (W.cell? ⟨w.heap.size, 0, none⟩ = some (.int .i64 p) ∧ W.cell? ⟨w.heap.size, 1, none⟩ = some (.int .i64 q)) ∧ W.cell? ⟨w.heap.size + 1, 0, none⟩ = some (.slice r1.pa N1.ps.length r1.cp) ∧ W.cell? ⟨w.heap.size + 1, 1, none⟩ = some (.slice r1.sa N1.ss.length r1.cs) ∧ W.cell? ⟨w.heap.size + 1, 2, none⟩ = some (.slice r1.ka N1.ks.length r1.ck) ∧ W.cell? ⟨w.heap.size + 1, 3, none⟩ = some (.string sp) ∧ W.cell? ⟨w.heap.size + 1, 4, none⟩ = some (.slice r2.pa N2.ps.length r2.cp) ∧ W.cell? ⟨w.heap.size + 1, 5, none⟩ = some (.slice r2.sa N2.ss.length r2.cs) ∧ W.cell? ⟨w.heap.size + 1, 6, none⟩ = some (.slice r2.ka N2.ks.length r2.ck)) := fun W s => ⟨⟨s.keep c0, s.keep c1⟩, (hcells_row g1).keep s⟩
  have HG : Hid (∀ W, Same V W → W.heap[w.heap.size + 1 + 1]? = some (.cells #[.slice none 0 0, .slice none 0 0, .slice none 0 0] 28 (0, 0))) := fun W s => (s.block _ (lt_of_heap g2) (fun e => e)).trans g2
  have HZ : Hid (w.heap.size + 3 ≤ V.heap.size) := by show _ ≤ _; rw [hV]; simp
  obtain ⟨⟨f0, f1⟩, m0, m1, m2, m3, m4, m5, m6⟩ := HH.out _ (Fr.refl _ V)
  have HI1 : Hid (∀ W, Same V W → NdIn W r1 N1) := fun W s => i1.same (t1.trans s)
  have HI2 : Hid (∀ W, Same V W → NdIn W r2 N2) := fun W s => i2.same (t1.trans s)
  have HN : Hid ((N1.ps.length ≤ 1048576 ∧ N1.ss.length ≤ 1048576 ∧ N1.ks.length ≤ 1048576) ∧ (N2.ps.length ≤ 1048576 ∧ N2.ss.length ≤ 1048576 ∧ N2.ks.length ≤ 1048576)) := ⟨⟨h1, h2, h3⟩, h4, h5, h6⟩
  have HK : Hid (N1.ks.length + N2.ks.length = 0) := hk
  clear i1 i2 h1 h2 h3 h4 h5 h6 hk
  clear g0 g1 g2 c0 c1
  unfold halvesN at hV ⊢
  go_enter Tryz.func19, Tryz.ntmps19
  go_wp2_with fail
  rw [← hV]
  clear hV
  refine (HR.out _).mono ?_
  rintro e W0 ⟨rfl, s0⟩
  clear f0 f1 m0 m1 m2 m3 m4 m5 m6
  obtain ⟨⟨f0, f1⟩, m0, m1, m2, m3, m4, m5, m6⟩ := HH.out _ s0
  go_wp2_with fail
  refine (HL1.out _ (t1.trans s0)).mono ?_
  rintro e W1 ⟨rfl, s1⟩
  have s1 := s0.trans s1
  clear f0 f1 m0 m1 m2 m3 m4 m5 m6
  obtain ⟨⟨f0, f1⟩, m0, m1, m2, m3, m4, m5, m6⟩ := HH.out _ s1
  go_wp2_with fail
  refine (HL2.out _ (t1.trans s1)).mono ?_
  rintro e W2 ⟨rfl, s2⟩
  have s2 := s1.trans s2
  clear f0 f1 m0 m1 m2 m3 m4 m5 m6
  obtain ⟨⟨f0, f1⟩, m0, m1, m2, m3, m4, m5, m6⟩ := HH.out _ s2
  go_wp2_with fail
  refine (HS.out _ (t1.trans s2)).mono ?_
  rintro e W3 ⟨rfl, s3⟩
  have s3 := s2.trans s3
  clear f0 f1 m0 m1 m2 m3 m4 m5 m6
  obtain ⟨⟨f0, f1⟩, m0, m1, m2, m3, m4, m5, m6⟩ := HH.out _ s3
  obtain ⟨X, hX⟩ : ∃ X, X = W3.alloc (.cells #[.slice none 0 0, .slice none 0 0, .slice none 0 0] 28) := ⟨_, rfl⟩
  obtain ⟨nb, hnb⟩ : ∃ nb, nb = W3.heap.size := ⟨_, rfl⟩
  have b0 : BS V X V.heap.size nb none 0 0 [] none 0 0 [] none 0 0 [] := by
    rw [hX, hnb]
    exact ⟨heap_alloc_new W3 _, own_nil, own_nil, own_nil, Fr.alloc s3 _, s3.size, Nat.le_refl _, by have := s3.size; simp; omega⟩
  clear f0 f1 m0 m1 m2 m3 m4 m5 m6
  obtain ⟨⟨f0, f1⟩, m0, m1, m2, m3, m4, m5, m6⟩ := HH.out _ b0.fr
  obtain ⟨k0, k1, k2⟩ := b0.box
  rw [hX] at f0 f1 m0 m1 m2 m3 m4 m5 m6 k0 k1 k2
  rw [hnb] at k0 k1 k2
  rw [hX, hnb] at b0
  clear hX hnb
  obtain ⟨KN, hKN⟩ : ∃ KN, KN = N1.ks.length + N2.ks.length := ⟨_, rfl⟩
  have HKN : Hid (KN = N1.ks.length + N2.ks.length) := hKN
  have hk9 : ¬ 0 < KN := by have := HK.out; omega
  go_wp2_with (at_builtin; go_must (refine wpList_partPairs _ (by rfl) _ _ (by rfl) (by rfl) b0.oP (x := ⟨r1.pa, N1.ps.length, r1.cp, pcells N1.ps⟩) (by rfl) (HI1.out _ b0.fr).pp (by have := HN.out; simp only; omega) b0.hW ?_))
  intro ao1 cc1 Y1 o1 g1
  try simp only [Nat.zero_add, List.nil_append] at o1 ⊢
  obtain ⟨b1, kx, fz⟩ := b0.growP o1 g1
  clear f0 f1 m0 m1 m2 m3 m4 m5 m6
  obtain ⟨⟨f0, f1⟩, m0, m1, m2, m3, m4, m5, m6⟩ := HH.out _ b1.fr
  clear k0 k1 k2
  obtain ⟨k0, k1, k2⟩ := b1.box
  go_wp2_with (at_builtin; go_must (refine wpList_partPairs _ (by rfl) _ _ (by rfl) (by rfl) b1.oP (x := ⟨r2.pa, N2.ps.length, r2.cp, pcells N2.ps⟩) (by rfl) (HI2.out _ b1.fr).pp (by have := HN.out; simp only; omega) b1.hW ?_))
  intro ao2 cc2 Y2 o2 g2
  obtain ⟨b2, kx, fz⟩ := b1.growP o2 g2
  clear f0 f1 m0 m1 m2 m3 m4 m5 m6
  obtain ⟨⟨f0, f1⟩, m0, m1, m2, m3, m4, m5, m6⟩ := HH.out _ b2.fr
  clear k0 k1 k2
  obtain ⟨k0, k1, k2⟩ := b2.box
  go_wp2_with (at_builtin; go_must (refine wpList_partKids _ (by rfl) _ _ (by rfl) (by rfl) b2.oK (x := ⟨r1.ka, N1.ks.length, r1.ck, kcellsL N1.ks⟩) (by rfl) (HI1.out _ b2.fr).kp (by have := HN.out; simp only; omega) b2.hW ?_))
  intro ao3 cc3 Y3 o3 g3
  try simp only [Nat.zero_add, List.nil_append] at o3 ⊢
  obtain ⟨b3, kx, fz⟩ := b2.growK o3 g3
  clear f0 f1 m0 m1 m2 m3 m4 m5 m6
  obtain ⟨⟨f0, f1⟩, m0, m1, m2, m3, m4, m5, m6⟩ := HH.out _ b3.fr
  clear k0 k1 k2
  obtain ⟨k0, k1, k2⟩ := b3.box
  go_wp2_with (at_builtin; go_must (refine wpList_partKids _ (by rfl) _ _ (by rfl) (by rfl) b3.oK (x := ⟨r2.ka, N2.ks.length, r2.ck, kcellsL N2.ks⟩) (by rfl) (HI2.out _ b3.fr).kp (by have := HN.out; simp only; omega) b3.hW ?_))
  intro ao4 cc4 Y4 o4 g4
  rw [← hKN] at o4 ⊢
  clear hKN
  obtain ⟨b4, kx, fz⟩ := b3.growK o4 g4
  clear f0 f1 m0 m1 m2 m3 m4 m5 m6
  obtain ⟨⟨f0, f1⟩, m0, m1, m2, m3, m4, m5, m6⟩ := HH.out _ b4.fr
  clear k0 k1 k2
  obtain ⟨k0, k1, k2⟩ := b4.box
  go_wp2_with (at_builtin; go_must (refine wpList_partTexts _ (by rfl) _ _ (by rfl) (by rfl) b4.oS (x := ⟨r1.sa, N1.ss.length, r1.cs, scells N1.ss⟩) (by rfl) (HI1.out _ b4.fr).sp (by have := HN.out; simp only; omega) b4.hW ?_))
  intro ao5 cc5 Y5 o5 g5
  try simp only [Nat.zero_add, List.nil_append] at o5 ⊢
  obtain ⟨b5, kx, fz⟩ := b4.growS o5 g5
  clear f0 f1 m0 m1 m2 m3 m4 m5 m6
  obtain ⟨⟨f0, f1⟩, m0, m1, m2, m3, m4, m5, m6⟩ := HH.out _ b5.fr
  clear k0 k1 k2
  obtain ⟨k0, k1, k2⟩ := b5.box
  go_wp2_with (at_builtin; go_must (refine wpList_partTexts _ (by rfl) _ _ (by rfl) (by rfl) b5.oS (x := ⟨r2.sa, N2.ss.length, r2.cs, scells N2.ss⟩) (by rfl) (HI2.out _ b5.fr).sp (by have := HN.out; simp only; omega) b5.hW ?_))
  intro ao6 cc6 Y6 o6 g6
  obtain ⟨b6, kx, fz⟩ := b5.growS o6 g6
  clear f0 f1 m0 m1 m2 m3 m4 m5 m6
  obtain ⟨⟨f0, f1⟩, m0, m1, m2, m3, m4, m5, m6⟩ := HH.out _ b6.fr
  clear k0 k1 k2
  obtain ⟨k0, k1, k2⟩ := b6.box
  have r6 := HG.out _ b6.fr
  go_wp2_with (refine wpList_store_whole (by rfl) 28 _ _ (by rfl) (w.heap.size + 1 + 1) #[.slice ao2 (N1.ps.length + N2.ps.length) cc2, .slice ao6 (N1.ss.length + N2.ss.length) cc6, .slice ao4 KN cc4] _ 28 (by rfl) (by rfl) r6 rfl (by kernel_rfl) (by kernel_rfl) ?_; intro W7 r7 f7)
  have hz := HZ.out
  have e1 : (N1.ps ++ N2.ps).length = N1.ps.length + N2.ps.length := List.length_append
  have e2 : (N1.ss ++ N2.ss).length = (N1.ss.length + N2.ss.length) := by simp
  have e3 : (N1.ks ++ N2.ks).length = KN := by rw [HKN.out, List.length_append]
  have x1 : pcells (N1.ps ++ N2.ps) = pcells N1.ps ++ pcells N2.ps := pcells_app _ _
  have x2 : scells (N1.ss ++ N2.ss) = scells N1.ss ++ scells N2.ss := by simp [scells]
  have x3 : kcellsL (N1.ks ++ N2.ks) = kcellsL N1.ks ++ kcellsL N2.ks := kcellsL_app _ _
  have m7 : MadeNd W7 w.heap.size ⟨ao2, 0, 0, cc2, ao6, 0, 0, cc6, ao4, 0, 0, cc4⟩ ⟨N1.ps ++ N2.ps, N1.ss ++ N2.ss, N1.ks ++ N2.ks⟩ :=
    ⟨by show World.ownsRow _ _ _ _ (.slice ao2 (N1.ps ++ N2.ps).length cc2) (N1.ps ++ N2.ps).length (pcells (N1.ps ++ N2.ps)); rw [e1, x1]; exact own_base (own_frameB b6.oP f7 (fun k hk e => type_ne b6.oP r6 (by decide) (by rw [← e]; exact hk))) (by omega),
     by show World.ownsRow _ _ _ _ (.slice ao6 (N1.ss ++ N2.ss).length cc6) (N1.ss ++ N2.ss).length (scells (N1.ss ++ N2.ss)); rw [e2, x2]; have oS7 := own_base (own_frameB b6.oS f7 (fun k hk e => type_ne b6.oS r6 (by decide) (by rw [← e]; exact hk))) (show w.heap.size ≤ V.heap.size by omega); (try simp only [List.append_assoc, List.cons_append, List.nil_append] at oS7 ⊢); exact oS7,
     by show World.ownsRow _ _ _ _ (.slice ao4 (N1.ks ++ N2.ks).length cc4) (N1.ks ++ N2.ks).length (kcellsL (N1.ks ++ N2.ks)); rw [e3, x3]; exact own_base (own_frameB b6.oK f7 (fun k hk e => type_ne b6.oK r6 (by decide) (by rw [← e]; exact hk))) (by omega)⟩
  refine bodyPost_ret (results_row_tmp (p := 4) (u := 5) (ty := 28) (by kernel_rfl) _ _ (w.heap.size + 1 + 1) 28 _ (0, 0) _ rfl r7 Tryz.underlying28 rfl (by kernel_rfl)) rfl ⟨_, ?_, m7, Fr.trans (t1.trans b6.fr) f7 (fun i hi e => by omega)⟩
  unfold ndV
  simp only
  rw [e1, e2, e3]
  rfl
end Go.Proofs.YtdmoglnbelembaaGreat
