/-
  A list of truths that came in, opened.
-/
import Derived.Test.YtcbbjicoedeioaaU1
namespace Go.Proofs.Ytcbbjicoedeioaa
open Go.ChangeShapes Go.WideShapes Go.ChangeAt Go.RowKit

theorem bulk_len {H : Type} (l : List (DataW H)) : l.length ≤ Rows.uptoBulkAll l := by
  induction l with
  | nil => simp
  | cons x l ih =>
    have h1 : 1 ≤ Rows.uptoBulk x := by
      cases x with
      | lit l => cases l <;> simp [Rows.uptoBulk]
      | nil => simp [Rows.uptoBulk]
      | ptr d => simp [Rows.uptoBulk]
      | slice a b => simp [Rows.uptoBulk]
      | agg p => simp [Rows.uptoBulk]
      | iface t d => simp [Rows.uptoBulk]
      | map e => simp [Rows.uptoBulk]
      | held h => simp [Rows.uptoBulk]
    rw [Rows.uptoBulkAll, List.length_cons]; omega

set_option maxRecDepth 100000 in
theorem open_bools {H : Type} {enc : TypeId × Value → H} {W : World} {v : Value} {d : DataW H} {pl : List MemPlace} {base : Nat}
    (hv : Value.okWide Try.prog W .any base 23 v) (h : DataW.Trod enc Try.prog W 0 (fun _ => true) true 23 v d pl) (hb : Rows.uptoBulk d ≤ 1048576) :
    ∃ bs, ElemIn Value.bool W.heap.size W v bs := by
  obtain ⟨a0, len, cap, rfl⟩ := okWide_slice Try.underlying23 hv
  obtain ⟨fuel, hf⟩ := h
  rcases Deep.open_slice1 Try.underlying23 (by kernel_rfl) hf with ⟨hcs, hx⟩ | ⟨a, len', cap', mm, nn, V, D, Pl, hcs, _, hl, hm, hmm, hx, hel⟩
  · simp [Value.cells] at hcs
    obtain ⟨rfl, rfl, rfl⟩ := hcs
    exact ⟨[], none, 0, rfl, by simp, Or.inl rfl⟩
  · simp [Value.cells] at hcs
    obtain ⟨rfl, rfl, rfl⟩ := hcs
    simp only [Prod.mk.injEq] at hx
    obtain ⟨rfl, _⟩ := hx
    have hmc : mm = cap := by simpa using hmm
    subst hmc
    rw [Rows.uptoBulk] at hb
    have hln := bulk_len ((List.range len).map D)
    rw [List.length_map, List.length_range] at hln
    obtain ⟨T, hT⟩ := Deep.choose_lt (α := Bool) (n := len) (p := fun i t => W.cell? (a.add i) = some (.bool t)) (fun i hi => by
      obtain ⟨h1, h2⟩ := hel i (by omega)
      obtain ⟨b, e, _⟩ := DataW.trod_bool Try.underlying4 h2
      simp only [List.cons.injEq, and_true] at e
      exact ⟨b, by rw [h1, e]⟩)
    have hlen : ((List.range len).map T).length = len := by simp
    refine ⟨(List.range len).map T, some a, mm, by rw [hlen], by omega, ?_⟩
    by_cases h0 : len = 0
    · left; subst h0; rfl
    · right
      have hc0 := hT 0 (by omega)
      obtain ⟨b, off, spot⟩ := a
      have hspot : spot = none := by simpa [Addr.add] using World.cell?_spot hc0
      subst hspot
      refine ⟨b, off, rfl, ?_, ?_⟩
      · have := World.block_lt_of_cell? _ _ hc0
        simpa [Addr.add] using this
      · intro i x hi
        have hi1 : i < len := by
          have := (List.getElem?_eq_some_iff.1 hi).1
          omega
        have hxt : x = T i := by
          rw [List.getElem?_map, List.getElem?_range hi1] at hi
          simpa using hi.symm
        have := hT i hi1
        rw [add_plain] at this
        rw [this, hxt]
end Go.Proofs.Ytcbbjicoedeioaa
