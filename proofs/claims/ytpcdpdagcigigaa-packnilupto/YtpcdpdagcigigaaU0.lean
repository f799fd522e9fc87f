/-
  What the bound on the bulk gives; a list of texts that came in, opened.
-/
import Derived.Test.YtpcdpdagcigigaaRows
import Derived.Test.YtpcdpdagcigigaaWH
import Derived.Test.YtpcdpdagcigigaaWC
import Derived.ProofKit
import Derived.OpenShut
import Derived.SliceStrings
import Derived.JoinedCond
namespace Go.Proofs.Ytpcdpdagcigigaa
open Go.ChangeShapes Go.WideShapes Go.ChangeAt Go.RowKit

def sumB (ss : List ByteArray) : Nat := (ss.map fun s => s.size + 1).sum
theorem sumB_cons (s : ByteArray) (ss : List ByteArray) : sumB (s :: ss) = s.size + 1 + sumB ss := by simp [sumB]
theorem sumB_len (ss : List ByteArray) : ss.length ≤ sumB ss := by
  induction ss with
  | nil => simp
  | cons s ss ih => rw [sumB_cons, List.length_cons]; omega
theorem sumB_mem {ss : List ByteArray} {s : ByteArray} (h : s ∈ ss) : s.size ≤ sumB ss := by
  induction ss with
  | nil => cases h
  | cons t ss ih =>
    rw [sumB_cons]
    rcases List.mem_cons.1 h with rfl | h
    · omega
    · have := ih h; omega
theorem sumB_texts (ss : List ByteArray) : (textsB ss).length ≤ 11 * sumB ss := by
  induction ss with
  | nil => simp [textsB]
  | cons s ss ih =>
    have e : textsB (s :: ss) = textB s ++ textsB ss := by simp [textsB]
    have h1 := freeB_length s.size
    have h2 := bytes_length s
    rw [sumB_cons, e, List.length_append]
    unfold textB
    rw [List.length_append, h2]; omega
theorem bulk_strs {H : Type} (ss : List ByteArray) : Rows.uptoBulkAll (H := H) (Go.ChangeShapes.strs ss) = sumB ss := by
  induction ss with
  | nil => rfl
  | cons s ss ih =>
    have e : Go.ChangeShapes.strs (H := H) (s :: ss) = .lit (.string s.data.toList) :: Go.ChangeShapes.strs ss := rfl
    rw [e, Rows.uptoBulkAll, ih, sumB_cons, Rows.uptoBulk, bytes_length]

set_option maxRecDepth 100000 in
/-- A list of texts that came in. -/
theorem open_texts {H : Type} {enc : TypeId × Value → H} {W : World} {v : Value} {d : DataW H} {pl : List MemPlace} {base : Nat}
    (hv : Value.okWide Try.prog W .any base 23 v) (h : DataW.Trod enc Try.prog W 0 (fun _ => true) true 23 v d pl) (hb : Rows.uptoBulk d ≤ 1048576) :
    ∃ ss, StrSl W v ss ∧ sumB ss ≤ Rows.uptoBulk d := by
  obtain ⟨a0, len, cap, rfl⟩ := okWide_slice Try.underlying23 hv
  obtain ⟨fuel, hf⟩ := h
  rcases open_strings Try.underlying23 Try.underlying9 (by kernel_rfl) hf with ⟨hcs, hx⟩ | ⟨a, len', cap', ss, hcs, _, hl, hm, hz, hx, hcell, hws⟩
  · simp [Value.cells] at hcs
    obtain ⟨rfl, rfl, rfl⟩ := hcs
    exact ⟨[], ⟨none, 0, rfl, by simp, Or.inl rfl⟩, by simp [sumB]⟩
  · simp [Value.cells] at hcs
    obtain ⟨rfl, rfl, rfl⟩ := hcs
    simp only [Prod.mk.injEq] at hx
    obtain ⟨rfl, _⟩ := hx
    have hlen : ss.length = cap := by simpa using hz
    have hb2 : Rows.uptoBulk (H := H) (.slice (Go.ChangeShapes.strs (ss.take len)) (Go.ChangeShapes.strs (ss.drop len))) = sumB (ss.take len) + sumB (ss.drop len) + 1 := by
      rw [Rows.uptoBulk, bulk_strs, bulk_strs]
    rw [hb2] at hb ⊢
    have htl : (ss.take len).length = len := by rw [List.length_take]; omega
    have hsl := sumB_len (ss.take len)
    refine ⟨ss.take len, ⟨some a, cap, by rw [htl], by omega, ?_⟩, by omega⟩
    by_cases h0 : len = 0
    · left; subst h0; rfl
    · right
      have hc0 := hcell 0 (by omega)
      obtain ⟨b, off, spot⟩ := a
      have hspot : spot = none := by simpa [Addr.add] using World.cell?_spot hc0
      subst hspot
      refine ⟨b, off, rfl, ?_, ?_⟩
      · have := World.block_lt_of_cell? _ _ hc0
        simpa [Addr.add] using this
      · intro i s hi
        have hilt : i < len := by
          have := (List.getElem?_eq_some_iff.1 hi).1
          omega
        have := hcell i (by omega)
        rw [add_plain] at this
        rw [this]
        rw [List.getElem?_take, if_pos hilt] at hi
        rw [List.getD_eq_getElem?_getD, hi]; rfl
end Go.Proofs.Ytpcdpdagcigigaa
