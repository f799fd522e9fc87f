/- The document's leaf and branch; a node under way in a box of its own; the document's one. -/
import Derived.Test.YteddbkbfnafbpaaFC
import Derived.Test.YteddbkbfnafbpaaGO2
import Derived.Lib.AppendZeros
namespace Go.Proofs.Yteddbkbfnafbpaa
open Go.RowKit

theorem leafD_eq2 {p q : Int} {N : Nd} : (decide (chkN p q N = 0) && leafB N) = leafG p q N := by
  unfold leafG
  by_cases hc : chkN p q N = 0
  · rw [decide_eq_true hc, Bool.true_and, Bool.true_and]
    by_cases hk : N.ks.length = 0
    · obtain ⟨h1, h2, _⟩ := chk_leaf hc hk
      rw [decide_eq_true hk]; unfold leafB; rw [h1, h2]; rfl
    · rw [decide_eq_false hk]; unfold leafB; rw [decide_eq_false hk, Bool.and_false]
  · rw [decide_eq_false hc]; rfl
theorem branchD_eq2 {p q : Int} {N : Nd} : (decide (chkN p q N = 0) && !leafB N) = branchG p q N := by
  have h := leafD_eq2 (p := p) (q := q) (N := N)
  unfold leafG at h
  unfold branchG
  by_cases hc : chkN p q N = 0
  · rw [decide_eq_true hc, Bool.true_and, Bool.true_and] at *
    rw [h]
    by_cases hk : N.ks.length = 0
    · rw [decide_eq_true hk, decide_eq_false (by omega)]; rfl
    · rw [decide_eq_false hk, decide_eq_true (by omega)]; rfl
  · rw [decide_eq_false hc]; rfl
set_option maxRecDepth 100000 in
set_option maxHeartbeats 1000000 in
theorem dbranchG_calls {p q : Int} {r : Nr} {N : Nd} (w : World) (h : NdAt w r N) (h1 : N.ps.length ≤ 1048576) (h2 : N.ss.length ≤ 1048576) (h3 : N.ks.length ≤ 1048576) :
    Calls Try.prog 20 #[frameV p q, ndV r N] w fun e w' => e = .returned (.bool (branchG p q N)) ∧ Same w w' := by
  have HC : Hid (∀ W, Same w W → Calls Try.prog 21 #[frameV p q, ndV r N] W fun e w' => e = .returned (.int .i64 (chkN p q N)) ∧ Same W w') := fun W s => dcheck_calls W (h.same s) h1 h2 h3
  have HL : Hid (∀ W, Calls Try.prog 34 #[ndV r N] W fun e w' => e = .returned (.bool (leafB N)) ∧ Same W w') := fun W => dleaf_calls _ _ _ _ _ _ _ _ _ W
  obtain ⟨V, hV⟩ : ∃ V, V = (w.alloc (.cells #[.int .i64 p, .int .i64 q] 23)).alloc (.cells #[.slice r.pa N.ps.length r.cp, .slice r.sa N.ss.length r.cs, .slice r.ka N.ks.length r.ck] 28) := ⟨_, rfl⟩
  have t1 : Same w V := by rw [hV]; exact ((Fr.refl _ w).alloc _).alloc _
  have a0 : V.cell? ⟨w.heap.size, 0, none⟩ = some (.int .i64 p) := by rw [hV]; simp
  have a1 : V.cell? ⟨w.heap.size, 1, none⟩ = some (.int .i64 q) := by rw [hV]; simp
  have n0 : V.cell? ⟨w.heap.size + 1, 0, none⟩ = some (.slice r.pa N.ps.length r.cp) := by rw [hV]; simp
  have n1 : V.cell? ⟨w.heap.size + 1, 1, none⟩ = some (.slice r.sa N.ss.length r.cs) := by rw [hV]; simp
  have n2 : V.cell? ⟨w.heap.size + 1, 2, none⟩ = some (.slice r.ka N.ks.length r.ck) := by rw [hV]; simp
  rw [← branchD_eq2]
  clear h h1 h2 h3
  generalize leafB N = LB at *
  generalize chkN p q N = C at *
  by_cases h0 : C = 0
  · subst h0
    rw [decide_eq_true rfl, Bool.true_and]
    go_enter Try.func20, Try.ntmps20
    go_wp2_with fail
    rw [← hV]
    clear hV
    refine (HC.out _ t1).mono ?_
    rintro e W1 ⟨rfl, s1⟩
    have n0 := s1.keep n0
    have n1 := s1.keep n1
    have n2 := s1.keep n2
    go_wp2_with fail
    refine (HL.out _).mono ?_
    rintro e W2 ⟨rfl, s2⟩
    go_wp2_with fail
    go_ret
    exact ⟨rfl, (t1.trans s1).trans s2⟩
  · rw [decide_eq_false h0, Bool.false_and]
    go_enter Try.func20, Try.ntmps20
    go_wp2_with fail
    rw [← hV]
    clear hV
    refine (HC.out _ t1).mono ?_
    rintro e W1 ⟨rfl, s1⟩
    go_wp2_with fail
    go_ret
    exact ⟨rfl, t1.trans s1⟩
theorem wpList_partPairs (w : World) {ops : Array Oper} {rest : List Oper} {o : Oper} {a : Act} {Q : Exit → Act → World → Prop} (hgd : o.guard = none) (sl y : Operand)
    (ho : o.op = .call { callee := .builtin .append, args := #[sl, y], argTypes := #[24, 24] }) {B n : Nat} {v : Value} {xs : List Value} (hs : a.eval sl = v) (hown : w.ownsRow B 41 2 v n xs) {x : Part} (hy : a.eval y = .slice x.ao x.n x.c) (hx : PartOk w 2 x) (hb : n + x.n ≤ 1099511627776) (hB : B ≤ w.heap.size)
    (hk : ∀ ao c w', w'.ownsRow B 41 2 (.slice ao (n + x.n) c) (n + x.n) (xs ++ x.cells) → w.grownBy w' v.ownBlock → wpList Try.prog ops Q rest (a.put o.dst (.slice ao (n + x.n) c)) w') : wpList Try.prog ops Q (o :: rest) a w := by
  obtain ⟨v', w', hr, h2, h3⟩ := run_partPairs w o.type hown hx hb hB
  obtain ⟨ao, c, rfl⟩ := own_shape h2
  exact Lib.wpList_append_run w hgd sl y _ _ ho _ _ hs hy _ _ hr (hk ao c w' h2 h3)
theorem wpList_partTexts (w : World) {ops : Array Oper} {rest : List Oper} {o : Oper} {a : Act} {Q : Exit → Act → World → Prop} (hgd : o.guard = none) (sl y : Operand)
    (ho : o.op = .call { callee := .builtin .append, args := #[sl, y], argTypes := #[25, 25] }) {B n : Nat} {v : Value} {xs : List Value} (hs : a.eval sl = v) (hown : w.ownsRow B 9 1 v n xs) {x : Part} (hy : a.eval y = .slice x.ao x.n x.c) (hx : PartOk w 1 x) (hb : n + x.n ≤ 1099511627776) (hB : B ≤ w.heap.size)
    (hk : ∀ ao c w', w'.ownsRow B 9 1 (.slice ao (n + x.n) c) (n + x.n) (xs ++ x.cells) → w.grownBy w' v.ownBlock → wpList Try.prog ops Q rest (a.put o.dst (.slice ao (n + x.n) c)) w') : wpList Try.prog ops Q (o :: rest) a w := by
  obtain ⟨v', w', hr, h2, h3⟩ := run_partTexts w o.type hown hx hb hB
  obtain ⟨ao, c, rfl⟩ := own_shape h2
  exact Lib.wpList_append_run w hgd sl y _ _ ho _ _ hs hy _ _ hr (hk ao c w' h2 h3)
theorem wpList_partKids (w : World) {ops : Array Oper} {rest : List Oper} {o : Oper} {a : Act} {Q : Exit → Act → World → Prop} (hgd : o.guard = none) (sl y : Operand)
    (ho : o.op = .call { callee := .builtin .append, args := #[sl, y], argTypes := #[26, 26] }) {B n : Nat} {v : Value} {xs : List Value} (hs : a.eval sl = v) (hown : w.ownsRow B 46 33 v n xs) {x : Part} (hy : a.eval y = .slice x.ao x.n x.c) (hx : PartOk w 33 x) (hb : n + x.n ≤ 1099511627776) (hB : B ≤ w.heap.size)
    (hk : ∀ ao c w', w'.ownsRow B 46 33 (.slice ao (n + x.n) c) (n + x.n) (xs ++ x.cells) → w.grownBy w' v.ownBlock → wpList Try.prog ops Q rest (a.put o.dst (.slice ao (n + x.n) c)) w') : wpList Try.prog ops Q (o :: rest) a w := by
  obtain ⟨v', w', hr, h2, h3⟩ := run_partKids w o.type hown hx hb hB
  obtain ⟨ao, c, rfl⟩ := own_shape h2
  exact Lib.wpList_append_run w hgd sl y _ _ ho _ _ hs hy _ _ hr (hk ao c w' h2 h3)
/-- A node under way in a box of its own. -/
structure BS (V W : World) (B nb : Nat) (pa : Option Addr) (np cp : Nat) (xs : List Value) (sa : Option Addr) (ns cs : Nat) (ys : List Value) (ka : Option Addr) (nk ck : Nat) (zs : List Value) : Prop where
  hb : W.heap[nb]? = some (.cells #[.slice pa np cp, .slice sa ns cs, .slice ka nk ck] 28 (0, 0))
  oP : W.ownsRow B 41 2 (.slice pa np cp) np xs
  oS : W.ownsRow B 9 1 (.slice sa ns cs) ns ys
  oK : W.ownsRow B 46 33 (.slice ka nk ck) nk zs
  fr : Same V W
  hn : V.heap.size ≤ nb
  hB : V.heap.size ≤ B
  hW : B ≤ W.heap.size
theorem BS.box {V W : World} {B nb : Nat} {pa : Option Addr} {np cp : Nat} {xs : List Value} {sa : Option Addr} {ns cs : Nat} {ys : List Value} {ka : Option Addr} {nk ck : Nat} {zs : List Value} (h : BS V W B nb pa np cp xs sa ns cs ys ka nk ck zs) : W.cell? ⟨nb, 0, none⟩ = some (.slice pa np cp) ∧ W.cell? ⟨nb, 1, none⟩ = some (.slice sa ns cs) ∧ W.cell? ⟨nb, 2, none⟩ = some (.slice ka nk ck) :=
  ⟨(cell_of_row _ _ _ _ _ _ h.hb).trans rfl, (cell_of_row _ _ _ _ _ _ h.hb).trans rfl, (cell_of_row _ _ _ _ _ _ h.hb).trans rfl⟩
theorem BS.alloc {V W : World} {B nb : Nat} {pa : Option Addr} {np cp : Nat} {xs : List Value} {sa : Option Addr} {ns cs : Nat} {ys : List Value} {ka : Option Addr} {nk ck : Nat} {zs : List Value} (h : BS V W B nb pa np cp xs sa ns cs ys ka nk ck zs) (o : Obj) : BS V (W.alloc o) B nb pa np cp xs sa ns cs ys ka nk ck zs :=
  ⟨(Below.heap_alloc _ _ _ (lt_of_heap h.hb)).trans h.hb, h.oP.alloc o, h.oS.alloc o, h.oK.alloc o, h.fr.alloc o, h.hn, h.hB, by have := h.hW; simp; omega⟩
theorem BS.strA {V W : World} {B nb : Nat} {pa : Option Addr} {np cp : Nat} {xs : List Value} {sa : Option Addr} {ns cs : Nat} {ys : List Value} {ka : Option Addr} {nk ck : Nat} {zs : List Value} (h : BS V W B nb pa np cp xs sa ns cs ys ka nk ck zs) (sp : ByteArray) (g : Nat) (hg : W.heap.size = g) : PartOk (W.alloc (.cells #[.string sp] 9)) 1 ⟨some ⟨g, 0, none⟩, 1, 1, [.string sp]⟩ := by
  subst hg
  have bR := heap_alloc_new W (.cells #[.string sp] 9)
  have _ := h.hW
  exact ⟨rfl, fun e => (by cases e), fun a ha j u hj => by
    cases ha
    rw [WideShapes.add_plain, Nat.zero_add, cell_of_row _ _ _ _ _ _ bR, ← Array.getElem?_toList]
    exact hj, fun u hu => by simp at hu; subst hu; rfl⟩
theorem BS.same {V W : World} {B nb : Nat} {pa : Option Addr} {np cp : Nat} {xs : List Value} {sa : Option Addr} {ns cs : Nat} {ys : List Value} {ka : Option Addr} {nk ck : Nat} {zs : List Value} (h : BS V W B nb pa np cp xs sa ns cs ys ka nk ck zs) {W' : World} (s : Same W W') : BS V W' B nb pa np cp xs sa ns cs ys ka nk ck zs :=
  ⟨(s.block _ (lt_of_heap h.hb) (fun e => e)).trans h.hb, own_frameB h.oP s (fun _ _ f => f), own_frameB h.oS s (fun _ _ f => f), own_frameB h.oK s (fun _ _ f => f), h.fr.trans s, h.hn, h.hB, Nat.le_trans h.hW s.size⟩
theorem BS.growP {V W : World} {B nb : Nat} {pa : Option Addr} {np cp : Nat} {xs : List Value} {sa : Option Addr} {ns cs : Nat} {ys : List Value} {ka : Option Addr} {nk ck : Nat} {zs : List Value} (h : BS V W B nb pa np cp xs sa ns cs ys ka nk ck zs) {W' : World} {ao : Option Addr} {n' c' : Nat} {vs : List Value} (ho : W'.ownsRow B 41 2 (.slice ao n' c') n' vs) (hg : W.grownBy W' (Value.ownBlock (.slice pa np cp))) :
    BS V (W'.setCell ⟨nb, 0, none⟩ (.slice ao n' c')) B nb ao n' c' vs sa ns cs ys ka nk ck zs ∧ W'.cell? ⟨nb, 0, none⟩ = some (.slice pa np cp) ∧ W'.frozen? ⟨nb, 0, none⟩ = false := by
  have f1 : Fr (fun k => Value.ownBlock (.slice pa np cp) = some k) W W' := Fr.grown (Fr.refl _ W) hg (fun k hk _ => hk)
  have hb' : W'.heap[nb]? = some (.cells #[.slice pa np cp, .slice sa ns cs, .slice ka nk ck] 28 (0, 0)) := (f1.block nb (lt_of_heap h.hb) (fun e => type_ne h.oP h.hb (by decide) e)).trans h.hb
  have fs : Fr (fun k => k = nb) W' (W'.setCell ⟨nb, 0, none⟩ (.slice ao n' c')) := (Fr.refl (fun k => k = nb) W').setCell (p := ⟨nb, 0, none⟩) (fun _ => rfl) _
  refine ⟨⟨heap_setCell_same W' nb 0 _ _ _ hb', own_frameB ho fs (fun k hk e => type_ne ho hb' (by decide) (by rw [← e]; exact hk)), own_frameB (own_frameB h.oS f1 (fun k hk e => own_apart h.oS h.oP (by decide) k hk e)) fs (fun k hk e => type_ne (own_frameB h.oS f1 (fun k hk e => own_apart h.oS h.oP (by decide) k hk e)) hb' (by decide) (by rw [← e]; exact hk)), own_frameB (own_frameB h.oK f1 (fun k hk e => own_apart h.oK h.oP (by decide) k hk e)) fs (fun k hk e => type_ne (own_frameB h.oK f1 (fun k hk e => own_apart h.oK h.oP (by decide) k hk e)) hb' (by decide) (by rw [← e]; exact hk)), Fr.trans (Fr.grown h.fr hg (fun k hk hl => by have := h.oP.lt k hk; have := h.hB; omega)) fs (fun j hj e => by have := h.hn; omega), h.hn, h.hB, Nat.le_trans (Nat.le_trans h.hW f1.size) fs.size⟩, (cell_of_row _ _ _ _ _ _ hb').trans rfl, frozen_of_row W' nb 0 _ _ hb'⟩
theorem BS.growS {V W : World} {B nb : Nat} {pa : Option Addr} {np cp : Nat} {xs : List Value} {sa : Option Addr} {ns cs : Nat} {ys : List Value} {ka : Option Addr} {nk ck : Nat} {zs : List Value} (h : BS V W B nb pa np cp xs sa ns cs ys ka nk ck zs) {W' : World} {ao : Option Addr} {n' c' : Nat} {vs : List Value} (ho : W'.ownsRow B 9 1 (.slice ao n' c') n' vs) (hg : W.grownBy W' (Value.ownBlock (.slice sa ns cs))) :
    BS V (W'.setCell ⟨nb, 1, none⟩ (.slice ao n' c')) B nb pa np cp xs ao n' c' vs ka nk ck zs ∧ W'.cell? ⟨nb, 1, none⟩ = some (.slice sa ns cs) ∧ W'.frozen? ⟨nb, 1, none⟩ = false := by
  have f1 : Fr (fun k => Value.ownBlock (.slice sa ns cs) = some k) W W' := Fr.grown (Fr.refl _ W) hg (fun k hk _ => hk)
  have hb' : W'.heap[nb]? = some (.cells #[.slice pa np cp, .slice sa ns cs, .slice ka nk ck] 28 (0, 0)) := (f1.block nb (lt_of_heap h.hb) (fun e => type_ne h.oS h.hb (by decide) e)).trans h.hb
  have fs : Fr (fun k => k = nb) W' (W'.setCell ⟨nb, 1, none⟩ (.slice ao n' c')) := (Fr.refl (fun k => k = nb) W').setCell (p := ⟨nb, 1, none⟩) (fun _ => rfl) _
  refine ⟨⟨heap_setCell_same W' nb 1 _ _ _ hb', own_frameB (own_frameB h.oP f1 (fun k hk e => own_apart h.oP h.oS (by decide) k hk e)) fs (fun k hk e => type_ne (own_frameB h.oP f1 (fun k hk e => own_apart h.oP h.oS (by decide) k hk e)) hb' (by decide) (by rw [← e]; exact hk)), own_frameB ho fs (fun k hk e => type_ne ho hb' (by decide) (by rw [← e]; exact hk)), own_frameB (own_frameB h.oK f1 (fun k hk e => own_apart h.oK h.oS (by decide) k hk e)) fs (fun k hk e => type_ne (own_frameB h.oK f1 (fun k hk e => own_apart h.oK h.oS (by decide) k hk e)) hb' (by decide) (by rw [← e]; exact hk)), Fr.trans (Fr.grown h.fr hg (fun k hk hl => by have := h.oS.lt k hk; have := h.hB; omega)) fs (fun j hj e => by have := h.hn; omega), h.hn, h.hB, Nat.le_trans (Nat.le_trans h.hW f1.size) fs.size⟩, (cell_of_row _ _ _ _ _ _ hb').trans rfl, frozen_of_row W' nb 1 _ _ hb'⟩
theorem BS.growK {V W : World} {B nb : Nat} {pa : Option Addr} {np cp : Nat} {xs : List Value} {sa : Option Addr} {ns cs : Nat} {ys : List Value} {ka : Option Addr} {nk ck : Nat} {zs : List Value} (h : BS V W B nb pa np cp xs sa ns cs ys ka nk ck zs) {W' : World} {ao : Option Addr} {n' c' : Nat} {vs : List Value} (ho : W'.ownsRow B 46 33 (.slice ao n' c') n' vs) (hg : W.grownBy W' (Value.ownBlock (.slice ka nk ck))) :
    BS V (W'.setCell ⟨nb, 2, none⟩ (.slice ao n' c')) B nb pa np cp xs sa ns cs ys ao n' c' vs ∧ W'.cell? ⟨nb, 2, none⟩ = some (.slice ka nk ck) ∧ W'.frozen? ⟨nb, 2, none⟩ = false := by
  have f1 : Fr (fun k => Value.ownBlock (.slice ka nk ck) = some k) W W' := Fr.grown (Fr.refl _ W) hg (fun k hk _ => hk)
  have hb' : W'.heap[nb]? = some (.cells #[.slice pa np cp, .slice sa ns cs, .slice ka nk ck] 28 (0, 0)) := (f1.block nb (lt_of_heap h.hb) (fun e => type_ne h.oK h.hb (by decide) e)).trans h.hb
  have fs : Fr (fun k => k = nb) W' (W'.setCell ⟨nb, 2, none⟩ (.slice ao n' c')) := (Fr.refl (fun k => k = nb) W').setCell (p := ⟨nb, 2, none⟩) (fun _ => rfl) _
  refine ⟨⟨heap_setCell_same W' nb 2 _ _ _ hb', own_frameB (own_frameB h.oP f1 (fun k hk e => own_apart h.oP h.oK (by decide) k hk e)) fs (fun k hk e => type_ne (own_frameB h.oP f1 (fun k hk e => own_apart h.oP h.oK (by decide) k hk e)) hb' (by decide) (by rw [← e]; exact hk)), own_frameB (own_frameB h.oS f1 (fun k hk e => own_apart h.oS h.oK (by decide) k hk e)) fs (fun k hk e => type_ne (own_frameB h.oS f1 (fun k hk e => own_apart h.oS h.oK (by decide) k hk e)) hb' (by decide) (by rw [← e]; exact hk)), own_frameB ho fs (fun k hk e => type_ne ho hb' (by decide) (by rw [← e]; exact hk)), Fr.trans (Fr.grown h.fr hg (fun k hk hl => by have := h.oK.lt k hk; have := h.hB; omega)) fs (fun j hj e => by have := h.hn; omega), h.hn, h.hB, Nat.le_trans (Nat.le_trans h.hW f1.size) fs.size⟩, (cell_of_row _ _ _ _ _ _ hb').trans rfl, frozen_of_row W' nb 2 _ _ hb'⟩
end Go.Proofs.Yteddbkbfnafbpaa
