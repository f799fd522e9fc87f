/- A Writer that a call has made, and what is laid with it; a Reader that a call has made. -/
import Derived.Test.YtjlbkagkmcelgaaNC
import Derived.Test.YtjlbkagkmcelgaaWO
namespace Go.Proofs.Ytjlbkagkmcelgaa
open Go.RowKit

/-- A Writer at b that was made since w; its bytes are bs; what w had is as it was. -/
def WSt (w W : World) (b : Nat) (bs : List UInt8) : Prop := ∃ g, WrAt W b g bs ∧ w.heap.size ≤ b ∧ (∀ k, g = some k → w.heap.size ≤ k) ∧ Same w W
theorem WSt.base {w W : World} {b : Nat} {bs : List UInt8} (h : WSt w W b bs) : Same w W := h.choose_spec.2.2.2
theorem WSt.keep {w W W' : World} {b : Nat} {g g' : Option Nat} {bs : List UInt8} (hb : w.heap.size ≤ b) (hg : ∀ k, g = some k → w.heap.size ≤ k) (s : Same w W) (h' : WrAt W' b g' bs) (st : WrStep b g g' W W') : WSt w W' b bs := by
  refine ⟨g', h', hb, ?_, ?_⟩
  · intro k hk
    rcases st.2 k hk with e | e
    · exact hg k e
    · exact Nat.le_trans s.size e
  · refine Fr.trans s st.1 ?_
    rintro i hi (e | e)
    · omega
    · have := hg i e.symm; omega
theorem WrAt.same1 {w w' : World} {b : Nat} {g : Option Nat} {bs : List UInt8} (h : WrAt w b g bs) (k : Same w w') : WrAt w' b g bs := by
  obtain ⟨ao, c, hb, ho, hg⟩ := h
  exact ⟨ao, c, by rw [k.block b (lt_of_heap hb) (fun f => f)]; exact hb, own_frame ho k (fun _ _ f => f), hg⟩
theorem WSt.same {w W W' : World} {b : Nat} {bs : List UInt8} (h : WSt w W b bs) (s : Same W W') : WSt w W' b bs := by
  obtain ⟨g, h1, h2, h3, h4⟩ := h
  exact ⟨g, h1.same1 s, h2, h3, h4.trans s⟩
theorem wst_new (w : World) : WSt w (w.alloc (.cells #[.bool true, .slice none 0 0] 93)) w.heap.size [] :=
  ⟨none, ⟨none, 0, heap_alloc_new w _, World.ownsRow_nil _ _ _ _, rfl⟩, Nat.le_refl _, (by intro k h; cases h), (Fr.refl _ w).alloc _⟩
theorem wst_string {w W : World} {b : Nat} {bs : List UInt8} (h : WSt w W b bs) : Calls Try.prog 45 #[.pointer (some ⟨b, 0, none⟩)] W fun e w' => e = .returned (.string ⟨bs.toArray⟩) ∧ W = w' := by
  obtain ⟨g, h1, _⟩ := h
  exact wstring_calls h1
theorem wst_u8 {w W : World} {b : Nat} {bs : List UInt8} (x : Nat) (hx : x < 256 ^ 1) (h : WSt w W b bs) (hl : bs.length ≤ 1000000000000) :
    Calls Try.prog 42 #[.pointer (some ⟨b, 0, none⟩), .int .u8 x] W fun e w' => e = .returned (.tuple #[]) ∧ WSt w w' b (bs ++ fixB 1 x) := by
  obtain ⟨g, h1, h2, h3, h4⟩ := h
  have hx2 : x < 256 ^ 1 := hx
  refine (put_u8 (x : Int) (by omega) (by omega) h1 hl).mono fun e w' ⟨he, g', hw', st⟩ => ⟨he, ?_⟩
  exact WSt.keep h2 h3 h4 hw' st
end Go.Proofs.Ytjlbkagkmcelgaa
