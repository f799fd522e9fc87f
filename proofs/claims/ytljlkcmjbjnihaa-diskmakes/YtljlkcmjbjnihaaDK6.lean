/- A list of texts that came in, opened. -/
import Derived.Test.YtljlkcmjbjnihaaOZ
import Derived.OpenShut
import Derived.SliceStrings
import Derived.JoinedCond
namespace Go.Proofs.Ytljlkcmjbjnihaa
open Go.ChangeShapes Go.WideShapes Go.ChangeAt Go.RowKit

def sumTx (ss : List ByteArray) : Nat := (ss.map fun s => s.size + 1).sum
theorem sumTx_cons (s : ByteArray) (ss : List ByteArray) : sumTx (s :: ss) = s.size + 1 + sumTx ss := by simp [sumTx]
theorem sumTx_len (ss : List ByteArray) : ss.length ≤ sumTx ss := by
  induction ss with
  | nil => simp
  | cons s ss ih => rw [sumTx_cons, List.length_cons]; omega
theorem sumTx_mem {ss : List ByteArray} {s : ByteArray} (h : s ∈ ss) : s.size ≤ sumTx ss := by
  induction ss with
  | nil => cases h
  | cons t ss ih =>
    rw [sumTx_cons]
    rcases List.mem_cons.1 h with rfl | h
    · omega
    · have := ih h; omega
theorem bulkTx {H : Type} (ss : List ByteArray) : Rows.uptoBulkAll (H := H) (Go.ChangeShapes.strs ss) = sumTx ss := by
  induction ss with
  | nil => rfl
  | cons s ss ih =>
    have e : Go.ChangeShapes.strs (H := H) (s :: ss) = .lit (.string s.data.toList) :: Go.ChangeShapes.strs ss := rfl
    rw [e, Rows.uptoBulkAll, ih, sumTx_cons, Rows.uptoBulk, Array.length_toList]
    rfl

set_option maxRecDepth 100000 in
/-- A list of texts that came in. -/
theorem open_tx_in {H : Type} {enc : TypeId × Value → H} {W : World} {cs : List Value} {x : DataW H × List MemPlace} {fuel : Nat}
    (hf : DataW.trod enc Try.prog W 0 (fun _ => true) true fuel 22 cs = some x) :
    ∃ ss pa pb po pc, cs = [.slice pa ss.length pc] ∧ TRow W pa pb po ss ∧ sumTx ss ≤ Rows.uptoBulk x.1 := by
  rcases open_strings Try.underlying22 Try.underlying9 (by kernel_rfl) hf with ⟨rfl, rfl⟩ | ⟨a, len, cap, ss, rfl, _, hl, hm, hz, rfl, hcell, hws⟩
  · exact ⟨[], none, 0, 0, 0, rfl, ⟨fun e => absurd rfl e, fun j s hj => by simp at hj⟩, by simp [sumTx]⟩
  · have hlen : ss.length = cap := by simpa using hz
    have hb2 : Rows.uptoBulk (H := H) (.slice (Go.ChangeShapes.strs (ss.take len)) (Go.ChangeShapes.strs (ss.drop len))) = sumTx (ss.take len) + sumTx (ss.drop len) + 1 := by
      rw [Rows.uptoBulk, bulkTx, bulkTx]
    simp only
    rw [hb2]
    have htl : (ss.take len).length = len := by rw [List.length_take]; omega
    by_cases h0 : len = 0
    · subst h0
      exact ⟨[], some a, 0, 0, cap, rfl, ⟨fun e => absurd rfl e, fun j s hj => by simp at hj⟩, by simp [sumTx]⟩
    · have hc0 := hcell 0 (by omega)
      obtain ⟨b, off, spot⟩ := a
      have hspot : spot = none := by simpa [Addr.add] using World.cell?_spot hc0
      subst hspot
      refine ⟨ss.take len, some ⟨b, off, none⟩, b, off, cap, by rw [htl], ⟨fun _ => ⟨rfl, ?_⟩, ?_⟩, by omega⟩
      · have := World.block_lt_of_cell? _ _ hc0
        simpa [Addr.add] using this
      · intro i s hi
        have hilt : i < len := by
          have := (List.getElem?_eq_some_iff.1 hi).1
          omega
        have := hcell i (by omega)
        rw [Addr.add_mid] at this
        rw [this]
        rw [List.getElem?_take, if_pos hilt] at hi
        rw [List.getD_eq_getElem?_getD, hi]; rfl
set_option maxRecDepth 100000 in
theorem open_tx {H : Type} {enc : TypeId × Value → H} {W : World} {v : Value} {d : DataW H} {pl : List MemPlace} {base : Nat}
    (hv : Value.okWide Try.prog W .any base 22 v) (h : DataW.Trod enc Try.prog W 0 (fun _ => true) true 22 v d pl) :
    ∃ ss pa pb po pc, v = .slice pa ss.length pc ∧ TRow W pa pb po ss ∧ sumTx ss ≤ Rows.uptoBulk d := by
  obtain ⟨a0, len, cap, rfl⟩ := okWide_slice Try.underlying22 hv
  obtain ⟨fuel, hf⟩ := h
  obtain ⟨ss, pa, pb, po, pc, e, h1, h2⟩ := open_tx_in hf
  simp only [Value.cells, List.cons.injEq, and_true] at e
  exact ⟨ss, pa, pb, po, pc, e, h1, h2⟩
end Go.Proofs.Ytljlkcmjbjnihaa
