/- A Writer that a call has made, and what is laid with it; a Reader that a call has made. -/
import Derived.Test.YtaknpcimdpdekaaDoorMC
import Derived.Test.YtaknpcimdpdekaaDoorWO
namespace Go.Proofs.YtaknpcimdpdekaaDoor
open Go.RowKit

/-- A Writer at b that was made since w; its bytes are bs; what w had is as it was. -/
def WSt (w W : World) (b : Nat) (bs : List UInt8) : Prop := ∃ g, WrAt W b g bs ∧ w.heap.size ≤ b ∧ (∀ k, g = some k → w.heap.size ≤ k) ∧ Same w W
theorem WSt.base {w W : World} {b : Nat} {bs : List UInt8} (h : WSt w W b bs) : Same w W := h.choose_spec.2.2.2
theorem WSt.keep {w W W' : World} {b : Nat} {g g' : Option Nat} {bs : List UInt8} (hb : w.heap.size ≤ b) (hg : ∀ k, g = some k → w.heap.size ≤ k) (s : Same w W) (h' : WrAt W' b g' bs) (st : WrStep b g g' W W') : WSt w W' b bs := by
  refine ⟨g', h', hb, ?_, ?_⟩
  · intro k hk
    rcases st.2 k hk with e | e
    · exact hg k e
    · exact Nat.le_trans s.size e
  · refine Fr.trans s st.1 ?_
    rintro i hi (e | e)
    · omega
    · have := hg i e.symm; omega
theorem WrAt.same1 {w w' : World} {b : Nat} {g : Option Nat} {bs : List UInt8} (h : WrAt w b g bs) (k : Same w w') : WrAt w' b g bs := by
  obtain ⟨ao, c, hb, ho, hg⟩ := h
  exact ⟨ao, c, by rw [k.block b (lt_of_heap hb) (fun f => f)]; exact hb, own_frame ho k (fun _ _ f => f), hg⟩
theorem WSt.same {w W W' : World} {b : Nat} {bs : List UInt8} (h : WSt w W b bs) (s : Same W W') : WSt w W' b bs := by
  obtain ⟨g, h1, h2, h3, h4⟩ := h
  exact ⟨g, h1.same1 s, h2, h3, h4.trans s⟩
theorem wst_new (w : World) : WSt w (w.alloc (.cells #[.bool true, .slice none 0 0] 114)) w.heap.size [] :=
  ⟨none, ⟨none, 0, heap_alloc_new w _, World.ownsRow_nil _ _ _ _, rfl⟩, Nat.le_refl _, (by intro k h; cases h), (Fr.refl _ w).alloc _⟩
theorem wst_string {w W : World} {b : Nat} {bs : List UInt8} (h : WSt w W b bs) : Calls Tryd.prog 52 #[.pointer (some ⟨b, 0, none⟩)] W fun e w' => e = .returned (.string ⟨bs.toArray⟩) ∧ W = w' := by
  obtain ⟨g, h1, _⟩ := h
  exact wstring_calls h1
theorem wst_raw {w W : World} {b : Nat} {bs : List UInt8} (s : ByteArray) (h : WSt w W b bs) (hl : bs.length + s.size ≤ 1000000000000) :
    Calls Tryd.prog 44 #[.pointer (some ⟨b, 0, none⟩), .slice (some ⟨W.heap.size, 0, none⟩) 1 1] (W.alloc (.cells #[.string s] 9)) fun e w' => e = .returned (.tuple #[]) ∧ WSt w w' b (bs ++ s.data.toList) := by
  obtain ⟨g, h1, h2, h3, h4⟩ := h
  have hlt := lt_of_heap h1.choose_spec.choose_spec.1
  have hgl : ∀ k, g = some k → k < W.heap.size := by
    obtain ⟨ao, c, _, ho, rfl⟩ := h1
    intro k hk
    exact own_lt ho (by cases ao <;> simp_all [Value.ownBlock])
  have ef : flat [s] = s.data.toList := by simp [flat]
  have hw := wraw_some (w := W.alloc (.cells #[.string s] 9)) [s] W.heap.size 0 1 (by
    intro i x hx
    match i, hx with
    | 0, hx => simp at hx; subst hx; simp
    | i + 1, hx => simp at hx) (by simp) (by omega) (by intro e; have := hgl _ e.symm; omega) (by simp) (h1.same1 ((Fr.refl _ W).alloc _)) (by rw [ef, bytes_length]; exact hl)
  rw [ef] at hw
  refine hw.mono fun e w' ⟨he, g', hw', st⟩ => ⟨he, ?_⟩
  exact WSt.keep h2 h3 (h4.alloc _) hw' st
theorem wst_u8 {w W : World} {b : Nat} {bs : List UInt8} (x : Nat) (hx : x < 256 ^ 1) (h : WSt w W b bs) (hl : bs.length ≤ 1000000000000) :
    Calls Tryd.prog 45 #[.pointer (some ⟨b, 0, none⟩), .int .u8 x] W fun e w' => e = .returned (.tuple #[]) ∧ WSt w w' b (bs ++ fixB 1 x) := by
  obtain ⟨g, h1, h2, h3, h4⟩ := h
  have hx2 : x < 256 ^ 1 := hx
  refine (put_u8 (x : Int) (by omega) (by omega) h1 hl).mono fun e w' ⟨he, g', hw', st⟩ => ⟨he, ?_⟩
  exact WSt.keep h2 h3 h4 hw' st
theorem wst_u16 {w W : World} {b : Nat} {bs : List UInt8} (x : Nat) (hx : x < 256 ^ 2) (h : WSt w W b bs) (hl : bs.length ≤ 1000000000000) :
    Calls Tryd.prog 47 #[.pointer (some ⟨b, 0, none⟩), .int .u16 x] W fun e w' => e = .returned (.tuple #[]) ∧ WSt w w' b (bs ++ fixB 2 x) := by
  obtain ⟨g, h1, h2, h3, h4⟩ := h
  have hx2 : x < 256 ^ 2 := hx
  refine (put_u16 (x : Int)   h1 hl).mono fun e w' ⟨he, g', hw', st⟩ => ⟨he, ?_⟩
  exact WSt.keep h2 h3 h4 hw' st
theorem wst_u32 {w W : World} {b : Nat} {bs : List UInt8} (x : Nat) (hx : x < 256 ^ 4) (h : WSt w W b bs) (hl : bs.length ≤ 1000000000000) :
    Calls Tryd.prog 49 #[.pointer (some ⟨b, 0, none⟩), .int .u32 x] W fun e w' => e = .returned (.tuple #[]) ∧ WSt w w' b (bs ++ fixB 4 x) := by
  obtain ⟨g, h1, h2, h3, h4⟩ := h
  have hx2 : x < 256 ^ 4 := hx
  refine (put_u32 (x : Int)   h1 hl).mono fun e w' ⟨he, g', hw', st⟩ => ⟨he, ?_⟩
  exact WSt.keep h2 h3 h4 hw' st
theorem wst_u64 {w W : World} {b : Nat} {bs : List UInt8} (x : Nat) (hx : x < 256 ^ 8) (h : WSt w W b bs) (hl : bs.length ≤ 1000000000000) :
    Calls Tryd.prog 48 #[.pointer (some ⟨b, 0, none⟩), .int .u64 x] W fun e w' => e = .returned (.tuple #[]) ∧ WSt w w' b (bs ++ fixB 8 x) := by
  obtain ⟨g, h1, h2, h3, h4⟩ := h
  have hx2 : x < 256 ^ 8 := hx
  refine (put_u64 (x : Int)   h1 hl).mono fun e w' ⟨he, g', hw', st⟩ => ⟨he, ?_⟩
  exact WSt.keep h2 h3 h4 hw' st

theorem wst_digest {w W : World} {b : Nat} {bs : List UInt8} (D : List UInt8) (hD : D.length = 32) (h : WSt w W b bs) (hl : bs.length ≤ 900000000000) :
    Calls Tryd.prog 50 #[.pointer (some ⟨b, 0, none⟩), .int .i64 32, .agg (bcells D).toArray] W fun e w' => e = .returned (.tuple #[]) ∧ WSt w w' b (bs ++ D) := by
  obtain ⟨g, h1, h2, h3, h4⟩ := h
  have e32 : D.take (widthN 32) = D := by rw [show widthN 32 = 32 from rfl, List.take_of_length_le (by omega)]
  have hw := wdigest_calls 32 D hD h1 hl
  rw [e32] at hw
  exact hw.mono fun e w' ⟨he, g', hw', st⟩ => ⟨he, WSt.keep h2 h3 h4 hw' st⟩

theorem rRaw_ok (s : ByteArray) (p n : Nat) (h : p + n ≤ s.size) : rRaw s p 0 (n : Int) = (s.extract p (p + n), p + n, 0) := by
  unfold rRaw
  rw [if_pos rfl, Int.toNat_natCast, if_neg (by omega)]
/-- The number that some bytes of s are. -/
def beAt (s : ByteArray) (p n : Nat) : Nat := beN (s.extract p (p + n)).data.toList
theorem extract_len (s : ByteArray) (p n : Nat) (h : p + n ≤ s.size) : (s.extract p (p + n)).data.toList.length = n := by
  rw [bytes_length, ByteArray.size_extract]; omega
theorem beAt_lt (s : ByteArray) (p n : Nat) (h : p + n ≤ s.size) : beAt s p n < 256 ^ n := by
  have := beN_lt (s.extract p (p + n)).data.toList
  rw [extract_len s p n h] at this
  exact this
end Go.Proofs.YtaknpcimdpdekaaDoor
