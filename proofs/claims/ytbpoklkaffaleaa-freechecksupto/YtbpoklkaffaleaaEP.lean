/- free: begun. -/
import Derived.Test.YtbpoklkaffaleaaEO
namespace Go.Proofs.Ytbpoklkaffaleaa
open Go.RowKit Go.Maps

theorem Try.infSp : (Try.prog.info? 101).map (fun i => (i.zero, i.size, i.bytes)) = some (some (.agg #[.int .u32 0, .int .i64 0]), 2, 16) := by kernel_rfl
theorem run_partSps (w : World) (ty : TypeId) {B n : Nat} {v : Value} {xs : List Value} (hown : w.ownsRow B 101 2 v n xs) {x : Part} (hx : PartOk w 2 x) (hb : n + x.n ≤ 1099511627776) (hB : B ≤ w.heap.size) :
    ∃ v' w', (Builtin.append_ #[84, 84] ty #[v, .slice x.ao x.n x.c]).run Try.prog w = .ok v' w' ∧ w'.ownsRow B 101 2 v' (n + x.n) (xs ++ x.cells) ∧ w.grownBy w' v.ownBlock := by
  obtain ⟨i0, hi, hz0, hz1, hz2⟩ := info_parts Try.infSp
  obtain ⟨ao, m, c, cs⟩ := x
  cases ao with
  | none =>
    obtain ⟨e1, e2⟩ := hx.none rfl
    have e3 := hx.len
    simp only at e1 e2 e3
    subst e1 e2
    have e4 : cs = [] := List.eq_nil_of_length_eq_zero (by omega)
    subst e4
    refine ⟨v, w, run_append_owned_none (P := Try.prog) (w := w) B 84 ty 101 i0 2 Try.underlying84 hi v n xs hown, ?_, ⟨rfl, rfl, rfl, Nat.le_refl _, fun _ _ _ => rfl⟩⟩
    rw [List.append_nil]; exact hown
  | some a =>
    simp only at hb
    obtain ⟨v', w', h1, h2, h3, _⟩ := run_append_own (P := Try.prog) w B 84 ty 101 i0 (.agg #[.int .u32 0, .int .i64 0]) 2 16 Try.underlying84 hi hz0 hz1 hz2 rfl (by decide) v n xs hown a m c cs hx.len (hx.at_ a rfl) hx.one (by unfold maxLen; omega) (by omega) hB
    exact ⟨v', w', h1, h2, h3⟩
theorem wpList_partSps (w : World) {ops : Array Oper} {rest : List Oper} {o : Oper} {a : Act} {Q : Exit → Act → World → Prop} (hgd : o.guard = none) (sl y : Operand)
    (ho : o.op = .call { callee := .builtin .append, args := #[sl, y], argTypes := #[84, 84] }) {B n : Nat} {v : Value} {xs : List Value} (hs : a.eval sl = v) (hown : w.ownsRow B 101 2 v n xs) {x : Part} (hy : a.eval y = .slice x.ao x.n x.c) (hx : PartOk w 2 x) (hb : n + x.n ≤ 1099511627776) (hB : B ≤ w.heap.size)
    (hk : ∀ ao c w', w'.ownsRow B 101 2 (.slice ao (n + x.n) c) (n + x.n) (xs ++ x.cells) → w.grownBy w' v.ownBlock → wpList Try.prog ops Q rest (a.put o.dst (.slice ao (n + x.n) c)) w') : wpList Try.prog ops Q (o :: rest) a w := by
  obtain ⟨v', w', hr, h2, h3⟩ := run_partSps w o.type hown hx hb hB
  obtain ⟨ao, c, rfl⟩ := own_shape h2
  exact Lib.wpList_append_run w hgd sl y _ _ ho _ _ hs hy _ _ hr (hk ao c w' h2 h3)
def spcells (S : List (Nat × Nat)) : List Value := S.flatMap fun x => [.int .u32 (x.1 : Int), .int .i64 (x.2 : Int)]
theorem spcells_app (a b : List (Nat × Nat)) : spcells (a ++ b) = spcells a ++ spcells b := List.flatMap_append
theorem spcells_get : ∀ (S : List (Nat × Nat)) (j : Nat) (x : Nat × Nat), S[j]? = some x → (spcells S)[j * 2]? = some (.int .u32 (x.1 : Int)) ∧ (spcells S)[j * 2 + 1]? = some (.int .i64 (x.2 : Int))
  | [], j, x, h => by simp at h
  | y :: ys, 0, x, h => by
    simp at h
    subst h
    exact ⟨rfl, rfl⟩
  | y :: ys, j + 1, x, h => by
    have := spcells_get ys j x (by simpa using h)
    rw [show (j + 1) * 2 = j * 2 + 2 from by omega]
    exact this
theorem own_sprow {W : World} {e : TypeId} {B n cap : Nat} {S : List (Nat × Nat)} {ao : Option Addr} (h : W.ownsRow B e 2 (.slice ao n cap) n (spcells S)) (hn : n = S.length) : ∃ g, SpRow W ao g 0 S ∧ (S ≠ [] → (Value.slice ao n cap).ownBlock = some g) := by
  by_cases h0 : S = []
  · subst h0
    exact ⟨0, ⟨fun e => absurd rfl e, fun j x hx => by simp at hx⟩, fun e => absurd rfl e⟩
  · obtain ⟨g, rfl, hg⟩ := own_some (own_base h (Nat.zero_le _)) (by rw [hn]; intro e; exact h0 (List.eq_nil_of_length_eq_zero e))
    refine ⟨g, ⟨fun _ => ⟨rfl, hg⟩, fun j x hx => ?_⟩, fun _ => rfl⟩
    obtain ⟨k1, k2⟩ := spcells_get S j x hx
    rw [Nat.zero_add]
    exact ⟨own_cell (own_base h (Nat.zero_le _)) k1, own_cell (own_base h (Nat.zero_le _)) k2⟩
theorem part_twoSp {W : World} {g : Nat} {x y : Value} (t : TypeId) (fr : Nat × Nat) (h : W.heap[g]? = some (.cells #[x, y] t fr)) (hx : x.oneCell' = true) (hy : y.oneCell' = true) : PartOk W 2 ⟨some ⟨g, 0, none⟩, 1, 1, [x, y]⟩ :=
  ⟨rfl, fun e => (by cases e), fun a ha j u hj => by
    cases ha
    rw [WideShapes.add_plain, Nat.zero_add, cell_of_row _ _ _ _ _ _ h, ← Array.getElem?_toList]
    exact hj, fun u hu => by
      simp only [List.mem_cons, List.not_mem_nil, or_false] at hu
      rcases hu with rfl | rfl
      · exact hx
      · exact hy⟩
/-- The spares of a batch: its numbers that are not held. -/
def spF (H : SetD) (i : Nat) (ns : List Nat) : List (Nat × Nat) := (ns.filter fun x => !hasN H x).map fun x => (x, i)
def spL (H : SetD) : Nat → List Bt → List (Nat × Nat)
  | _, [] => []
  | i, x :: xs => spF H i x.ns ++ spL H (i + 1) xs
theorem spL_snoc (H : SetD) : ∀ (L : List Bt) (i : Nat) (x : Bt), spL H i (L ++ [x]) = spL H i L ++ spF H (i + L.length) x.ns
  | [], i, x => by simp [spL]
  | y :: ys, i, x => by
    show spF H i y.ns ++ spL H (i + 1) (ys ++ [x]) = _
    rw [spL_snoc H ys (i + 1) x, ← List.append_assoc]
    show _ = spF H i y.ns ++ spL H (i + 1) ys ++ spF H (i + (ys.length + 1)) x.ns
    rw [show i + 1 + ys.length = i + (ys.length + 1) from by omega]
theorem spF_snoc (H : SetD) (i : Nat) (ns : List Nat) (x : Nat) : spF H i (ns ++ [x]) = spF H i ns ++ (if hasN H x then [] else [(x, i)]) := by
  unfold spF
  rw [List.filter_append, List.map_append]
  cases h : hasN H x <;> simp [h]
theorem spF_len (H : SetD) (i : Nat) (ns : List Nat) : (spF H i ns).length ≤ ns.length := by
  unfold spF
  rw [List.length_map]
  exact List.length_filter_le _ _
end Go.Proofs.Ytbpoklkaffaleaa
