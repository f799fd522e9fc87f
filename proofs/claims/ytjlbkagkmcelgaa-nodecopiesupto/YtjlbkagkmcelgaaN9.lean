/- The closure that lays a branch's kids. -/
import Derived.Test.YtjlbkagkmcelgaaN8
namespace Go.Proofs.Ytjlbkagkmcelgaa
open Go.RowKit

/-- A Writer at b, the box 'first' at fb, the box of the separators that are left at sb, all made since w. -/
structure KSt (w W : World) (b : Nat) (bs : List UInt8) (fb sb : Nat) (first : Bool) (sv : Value) : Prop where
  wr : ∃ g, WrAt W b g bs ∧ ∀ k, g = some k → w.heap.size ≤ k ∧ k ≠ fb ∧ k ≠ sb
  ne : w.heap.size ≤ b ∧ b ≠ fb ∧ b ≠ sb ∧ fb ≠ sb ∧ w.heap.size ≤ fb ∧ w.heap.size ≤ sb
  ff : W.heap[fb]? = some (.cells #[.bool first] 4 (0, 0))
  sf : W.heap[sb]? = some (.cells #[sv] 23 (0, 0))
  base : Same w W
theorem KSt.step {w W : World} {b : Nat} {bs : List UInt8} {fb sb : Nat} {f : Bool} {sv : Value} (h : KSt w W b bs fb sb f sv) :
    ∃ g, WrAt W b g bs ∧ ∀ W' g' bs', WrAt W' b g' bs' → WrStep b g g' W W' → KSt w W' b bs' fb sb f sv := by
  obtain ⟨⟨g, hw, hg⟩, ⟨n1, n2, n3, n4, n5, n6⟩, h3, h4, h5⟩ := h
  have l1 := lt_of_heap h3
  have l2 := lt_of_heap h4
  refine ⟨g, hw, fun W' g' bs' hw' st => ⟨⟨g', hw', fun k hk => ?_⟩, ⟨n1, n2, n3, n4, n5, n6⟩, st.keep h3 (fun e => n2 e.symm) (fun e => (hg _ e.symm).2.1 rfl), st.keep h4 (fun e => n3 e.symm) (fun e => (hg _ e.symm).2.2 rfl), ?_⟩⟩
  · rcases st.2 k hk with e | e
    · exact hg k e
    · have := h5.size
      exact ⟨by omega, by omega, by omega⟩
  · refine Fr.trans h5 st.1 ?_
    rintro i hi (e | e)
    · omega
    · have := (hg i e.symm).1; omega
theorem KSt.alloc {w W : World} {b : Nat} {bs : List UInt8} {fb sb : Nat} {f : Bool} {sv : Value} (h : KSt w W b bs fb sb f sv) (o : Obj) : KSt w (W.alloc o) b bs fb sb f sv := by
  obtain ⟨g, hw, hs⟩ := h.step
  exact hs _ g bs (hw.same1 ((Fr.refl _ W).alloc o)) (WrStep.alloc b g W o)
theorem KSt.setF {w W : World} {b : Nat} {bs : List UInt8} {fb sb : Nat} {f : Bool} {sv : Value} (h : KSt w W b bs fb sb f sv) (x : Bool) : KSt w (W.setCell ⟨fb, 0, none⟩ (.bool x)) b bs fb sb x sv := by
  obtain ⟨⟨g, hw, hg⟩, ⟨n1, n2, n3, n4, n5, n6⟩, h3, h4, h5⟩ := h
  refine ⟨⟨g, ?_, hg⟩, ⟨n1, n2, n3, n4, n5, n6⟩, heap_setCell_same W fb 0 _ _ (.bool x) h3, (Below.heap_setCell _ ⟨fb, 0, none⟩ _ sb (by simp only; omega)).trans h4, h5.setCell (p := ⟨fb, 0, none⟩) (fun hh => by simp only at hh; omega) _⟩
  obtain ⟨ao, c, hb, ho, hgg⟩ := hw
  refine ⟨ao, c, (Below.heap_setCell _ ⟨fb, 0, none⟩ _ b (by simp only; omega)).trans hb, own_setCell ho ?_ _, hgg⟩
  intro e
  have : g = some fb := by rw [hgg]; cases ao <;> simp_all [Value.ownBlock]
  exact (hg fb this).2.1 rfl
theorem KSt.setS {w W : World} {b : Nat} {bs : List UInt8} {fb sb : Nat} {f : Bool} {sv : Value} (h : KSt w W b bs fb sb f sv) (x : Value) : KSt w (W.setCell ⟨sb, 0, none⟩ x) b bs fb sb f x := by
  obtain ⟨⟨g, hw, hg⟩, ⟨n1, n2, n3, n4, n5, n6⟩, h3, h4, h5⟩ := h
  refine ⟨⟨g, ?_, hg⟩, ⟨n1, n2, n3, n4, n5, n6⟩, (Below.heap_setCell _ ⟨sb, 0, none⟩ _ fb (by simp only; omega)).trans h3, heap_setCell_same W sb 0 _ _ x h4, h5.setCell (p := ⟨sb, 0, none⟩) (fun hh => by simp only at hh; omega) _⟩
  obtain ⟨ao, c, hb, ho, hgg⟩ := hw
  refine ⟨ao, c, (Below.heap_setCell _ ⟨sb, 0, none⟩ _ b (by simp only; omega)).trans hb, own_setCell ho ?_ _, hgg⟩
  intro e
  have : g = some sb := by rw [hgg]; cases ao <;> simp_all [Value.ownBlock]
  exact (hg sb this).2.2 rfl
theorem KSt.cells {w W : World} {b : Nat} {bs : List UInt8} {fb sb : Nat} {f : Bool} {sv : Value} (h : KSt w W b bs fb sb f sv) :
    W.cell? ⟨fb, 0, none⟩ = some (.bool f) ∧ W.frozen? ⟨fb, 0, none⟩ = false ∧ W.cell? ⟨sb, 0, none⟩ = some sv ∧ W.frozen? ⟨sb, 0, none⟩ = false :=
  ⟨by rw [cell_of_row _ _ _ _ _ _ h.ff]; rfl, frozen_of_row W fb 0 _ _ h.ff, by rw [cell_of_row _ _ _ _ _ _ h.sf]; rfl, frozen_of_row W sb 0 _ _ h.sf⟩

theorem lay_page {w W : World} {b : Nat} {bs : List UInt8} {fb sb : Nat} {f : Bool} {sv : Value} (q : Int) (k : Kid) (hk : KidOk k) (h : KSt w W b bs fb sb f sv) (hl : bs.length ≤ 800000000000) :
    Calls Try.prog 39 #[.int .i64 q, .pointer (some ⟨b, 0, none⟩), kidV k] W fun e w' => e = .returned (.tuple #[]) ∧ KSt w w' b (bs ++ kidB true q k) fb sb f sv := by
  obtain ⟨g, hw, hs⟩ := h.step
  exact (layKid_calls q k hk hw hl).mono fun e w' ⟨he, g', hw', st⟩ => ⟨he, hs _ g' _ (by unfold kidB; simpa using hw') st⟩
set_option maxRecDepth 100000 in
set_option maxHeartbeats 1000000 in
theorem kidFirst_page {w W : World} {b : Nat} {bs : List UInt8} {fb sb xb ab : Nat} {sv : Value} (q : Int) (k : Kid) (hk : KidOk k) (h : KSt w W b bs fb sb true sv) (hl : bs.length ≤ 700000000000)
    (hx : w.cell? ⟨xb, 0, none⟩ = some (.func (.func 39) #[] #[])) (ha : w.cell? ⟨ab, 1, none⟩ = some (.int .i64 q)) :
    Calls Try.prog 47 #[.pointer (some ⟨b, 0, none⟩), kidV k, .pointer (some ⟨fb, 0, none⟩), .pointer (some ⟨sb, 0, none⟩), .pointer (some ⟨xb, 0, none⟩), .pointer (some ⟨ab, 0, none⟩)] W fun e w' => e = .returned (.tuple #[]) ∧ KSt w w' b (bs ++ kidB true q k) fb sb false sv := by
  have h1 := h.alloc (.cells (kcells k).toArray 37)
  obtain ⟨c0, f0, c1, f1⟩ := h1.cells
  have h2 := (h.setF false).alloc (.cells (kcells k).toArray 37)
  have hX := h2.base.keep hx
  have hA := h2.base.keep ha
  have hz := Try.infoKid2 hk
  have hsz : (W.setCell ⟨fb, 0, none⟩ (.bool false)).heap.size = W.heap.size := by simp [World.setCell]
  have r1 : ((W.setCell ⟨fb, 0, none⟩ (.bool false)).alloc (.cells (kcells k).toArray 37)).heap[W.heap.size]? = some (.cells (kcells k).toArray 37 (0, 0)) := by
    have := heap_alloc_new (W.setCell ⟨fb, 0, none⟩ (.bool false)) (.cells (kcells k).toArray 37 (0, 0))
    rw [hsz] at this
    exact this
  have HL : Hid (Calls Try.prog 39 #[.int .i64 q, .pointer (some ⟨b, 0, none⟩), kidV k] ((W.setCell ⟨fb, 0, none⟩ (.bool false)).alloc (.cells (kcells k).toArray 37)) fun e w' => e = .returned (.tuple #[]) ∧ KSt w w' b (bs ++ kidB true q k) fb sb false sv) := lay_page q k hk h2 (by omega)
  have hlt : fb < W.heap.size := lt_of_heap h.ff
  unfold kidV at HL ⊢
  generalize (kcells k).toArray = KA at *
  clear h h1 h2 hk hx ha hl hsz c1 f1
  go_enter Try.func47, Try.ntmps47
  go_wp2_with (refine wpList_load_row (by rfl) 37 _ (by rfl) W.heap.size (by rfl) 37 KA (0, 0) _ r1 Try.underlying37 rfl hz ?_)
  refine HL.out.mono ?_
  rintro e w1 ⟨rfl, h3⟩
  go_wp2_with fail
  go_end0
  exact ⟨rfl, h3⟩
set_option maxRecDepth 100000 in
set_option maxHeartbeats 1000000 in
theorem kidNext_page {w W : World} {b : Nat} {bs : List UInt8} {fb sb xb ab rb ro n c : Nat} {s : ByteArray} (q : Int) (k : Kid) (hk : KidOk k) (h : KSt w W b bs fb sb false (.slice (some ⟨rb, ro, none⟩) (n + 1) c)) (hl : bs.length + (textB s).length ≤ 700000000000)
    (hx : w.cell? ⟨xb, 0, none⟩ = some (.func (.func 39) #[] #[])) (ha : w.cell? ⟨ab, 1, none⟩ = some (.int .i64 q)) (hs : w.cell? ⟨rb, ro, none⟩ = some (.string s)) (hc : n + 1 ≤ c) (hcm : c ≤ 9223372036854775807) :
    Calls Try.prog 47 #[.pointer (some ⟨b, 0, none⟩), kidV k, .pointer (some ⟨fb, 0, none⟩), .pointer (some ⟨sb, 0, none⟩), .pointer (some ⟨xb, 0, none⟩), .pointer (some ⟨ab, 0, none⟩)] W fun e w' => e = .returned (.tuple #[]) ∧ ∃ ra, KSt w w' b (bs ++ textB s ++ kidB true q k) fb sb false (.slice ra n (c - 1)) ∧ (0 < n → ra = some ⟨rb, ro + 1, none⟩) := by
  have h1 := h.alloc (.cells (kcells k).toArray 37)
  have hz := Try.infoKid2 hk
  have hls := textB_len s
  obtain ⟨c0, f0, c1, f1⟩ := h1.cells
  have s0 := h1.base.keep hs
  obtain ⟨V, hV⟩ : ∃ V, V = W.alloc (.cells (kcells k).toArray 37) := ⟨_, rfl⟩
  have r0 : V.heap[W.heap.size]? = some (.cells (kcells k).toArray 37 (0, 0)) := by rw [hV]; exact heap_alloc_new W _
  rw [← hV] at h1
  obtain ⟨g0, hw0, hg0⟩ := h.wr
  obtain ⟨lb, lg⟩ := hw0.ltb
  have hlf : fb < W.heap.size := lt_of_heap h.ff
  have hlsb : sb < W.heap.size := lt_of_heap h.sf
  have hwv : WrAt V b g0 bs := by rw [hV]; exact hw0.same1 ((Fr.refl _ W).alloc _)
  have HT : Hid (Calls Try.prog 48 #[.pointer (some ⟨b, 0, none⟩), .string s] V fun e w' => e = .returned (.tuple #[]) ∧ KSt w w' b (bs ++ textB s) fb sb false (.slice (some ⟨rb, ro, none⟩) (n + 1) c) ∧ w'.heap[W.heap.size]? = some (.cells (kcells k).toArray 37 (0, 0))) := by
    obtain ⟨g, hw, hst⟩ := h1.step
    have hgw := hw
    refine (wtext_calls s hwv (by omega)).mono fun e w' ⟨he, g', hw', st⟩ => ⟨he, ?_, st.keep r0 (by omega) (fun e => by have := lg _ e.symm; omega)⟩
    exact ⟨⟨g', hw', fun k hk => by
      rcases st.2 k hk with e | e
      · exact hg0 k e
      · have h5 := h1.base.size
        have l1 := lt_of_heap h1.ff
        have l2 := lt_of_heap h1.sf
        exact ⟨by omega, by omega, by omega⟩⟩, h1.ne, st.keep h1.ff (fun e => h1.ne.2.1 e.symm) (fun e => (hg0 _ e.symm).2.1 rfl), st.keep h1.sf (fun e => h1.ne.2.2.1 e.symm) (fun e => (hg0 _ e.symm).2.2 rfl), by
      refine Fr.trans h1.base st.1 ?_
      rintro i hi (e | e)
      · have := h1.ne.1; omega
      · have := (hg0 i e.symm).1; omega⟩
  have HL : Hid (∀ W2 sv, KSt w W2 b (bs ++ textB s) fb sb false sv → Calls Try.prog 39 #[.int .i64 q, .pointer (some ⟨b, 0, none⟩), kidV k] W2 fun e w' => e = .returned (.tuple #[]) ∧ KSt w w' b (bs ++ textB s ++ kidB true q k) fb sb false sv) := fun W2 sv h2 => lay_page q k hk h2 (by rw [List.length_append]; omega)
  have hnfs : ¬ fb = sb := h.ne.2.2.2.1
  have hnsf : ¬ sb = fb := fun e => hnfs e.symm
  unfold kidV at HL ⊢
  generalize (kcells k).toArray = KA at *
  clear h h1 hk hl hls hs hw0 hwv hg0 lb lg r0 g0
  go_enter Try.func47, Try.ntmps47
  go_wp2_with fail
  rw [← hV]
  clear hV c0 f0 c1 f1 s0
  refine HT.out.mono ?_
  rintro e w1 ⟨rfl, h1, r1⟩
  obtain ⟨c0, f0, c1, f1⟩ := h1.cells
  by_cases hc1 : c = 1
  · subst hc1
    obtain rfl : n = 0 := by omega
    have h2 := (h1.setS (.slice (some ⟨rb, ro, none⟩) 0 0)).setF false
    have hX := h2.base.keep hx
    have hA := h2.base.keep ha
    have f0 : (w1.setCell ⟨sb, 0, none⟩ (.slice (some ⟨rb, ro, none⟩) 0 0)).frozen? ⟨fb, 0, none⟩ = false := (h1.setS _).cells.2.1
    have r2 : ((w1.setCell ⟨sb, 0, none⟩ (.slice (some ⟨rb, ro, none⟩) 0 0)).setCell ⟨fb, 0, none⟩ (.bool false)).heap[W.heap.size]? = some (.cells KA 37 (0, 0)) := (Below.heap_setCell _ ⟨fb, 0, none⟩ _ W.heap.size (by simp only; omega)).trans ((Below.heap_setCell _ ⟨sb, 0, none⟩ _ W.heap.size (by simp only; omega)).trans r1)
    have HL2 : Hid (Calls Try.prog 39 #[.int .i64 q, .pointer (some ⟨b, 0, none⟩), .agg KA] ((w1.setCell ⟨sb, 0, none⟩ (.slice (some ⟨rb, ro, none⟩) 0 0)).setCell ⟨fb, 0, none⟩ (.bool false)) fun e w' => e = .returned (.tuple #[]) ∧ KSt w w' b (bs ++ textB s ++ kidB true q k) fb sb false (.slice (some ⟨rb, ro, none⟩) 0 0)) := HL.out _ _ h2
    clear h2 h1 HL hx ha r1
    go_wp2_with (refine wpList_load_row (by rfl) 37 _ (by rfl) W.heap.size (by rfl) 37 KA (0, 0) _ r2 Try.underlying37 rfl hz ?_)
    refine HL2.out.mono ?_
    rintro e w3 ⟨rfl, h3⟩
    go_wp2_with fail
    go_end0
    exact ⟨rfl, _, h3, fun h => by omega⟩
  · have hc2 : 2 ≤ c := by omega
    clear hc1
    have h2 := (h1.setS (.slice (some ⟨rb, ro + 1, none⟩) n (c - 1))).setF false
    have hX := h2.base.keep hx
    have hA := h2.base.keep ha
    have f0 : (w1.setCell ⟨sb, 0, none⟩ (.slice (some ⟨rb, ro + 1, none⟩) n (c - 1))).frozen? ⟨fb, 0, none⟩ = false := (h1.setS _).cells.2.1
    have r2 : ((w1.setCell ⟨sb, 0, none⟩ (.slice (some ⟨rb, ro + 1, none⟩) n (c - 1))).setCell ⟨fb, 0, none⟩ (.bool false)).heap[W.heap.size]? = some (.cells KA 37 (0, 0)) := (Below.heap_setCell _ ⟨fb, 0, none⟩ _ W.heap.size (by simp only; omega)).trans ((Below.heap_setCell _ ⟨sb, 0, none⟩ _ W.heap.size (by simp only; omega)).trans r1)
    have HL2 : Hid (Calls Try.prog 39 #[.int .i64 q, .pointer (some ⟨b, 0, none⟩), .agg KA] ((w1.setCell ⟨sb, 0, none⟩ (.slice (some ⟨rb, ro + 1, none⟩) n (c - 1))).setCell ⟨fb, 0, none⟩ (.bool false)) fun e w' => e = .returned (.tuple #[]) ∧ KSt w w' b (bs ++ textB s ++ kidB true q k) fb sb false (.slice (some ⟨rb, ro + 1, none⟩) n (c - 1))) := HL.out _ _ h2
    clear h2 h1 HL hx ha r1
    go_wp2_with (refine wpList_load_row (by rfl) 37 _ (by rfl) W.heap.size (by rfl) 37 KA (0, 0) _ r2 Try.underlying37 rfl hz ?_)
    refine HL2.out.mono ?_
    rintro e w3 ⟨rfl, h3⟩
    go_wp2_with fail
    go_end0
    exact ⟨rfl, _, h3, fun _ => rfl⟩
theorem lay_plain {w W : World} {b : Nat} {bs : List UInt8} {fb sb : Nat} {f : Bool} {sv : Value} (q : Int) (k : Kid) (hk : KidOk k) (h : KSt w W b bs fb sb f sv) (hl : bs.length ≤ 900000000000) :
    Calls Try.prog 50 #[.int .i64 q, .pointer (some ⟨b, 0, none⟩), kidV k] W fun e w' => e = .returned (.tuple #[]) ∧ KSt w w' b (bs ++ kidB false q k) fb sb f sv := by
  obtain ⟨g, hw, hs⟩ := h.step
  exact (laySum_calls q k hk hw hl).mono fun e w' ⟨he, g', hw', st⟩ => ⟨he, hs _ g' _ (by unfold kidB; simpa using hw') st⟩
set_option maxRecDepth 100000 in
set_option maxHeartbeats 1000000 in
theorem kidFirst_plain {w W : World} {b : Nat} {bs : List UInt8} {fb sb xb ab : Nat} {sv : Value} (q : Int) (k : Kid) (hk : KidOk k) (h : KSt w W b bs fb sb true sv) (hl : bs.length ≤ 700000000000)
    (hx : w.cell? ⟨xb, 0, none⟩ = some (.func (.func 50) #[] #[])) (ha : w.cell? ⟨ab, 1, none⟩ = some (.int .i64 q)) :
    Calls Try.prog 47 #[.pointer (some ⟨b, 0, none⟩), kidV k, .pointer (some ⟨fb, 0, none⟩), .pointer (some ⟨sb, 0, none⟩), .pointer (some ⟨xb, 0, none⟩), .pointer (some ⟨ab, 0, none⟩)] W fun e w' => e = .returned (.tuple #[]) ∧ KSt w w' b (bs ++ kidB false q k) fb sb false sv := by
  have h1 := h.alloc (.cells (kcells k).toArray 37)
  obtain ⟨c0, f0, c1, f1⟩ := h1.cells
  have h2 := (h.setF false).alloc (.cells (kcells k).toArray 37)
  have hX := h2.base.keep hx
  have hA := h2.base.keep ha
  have hz := Try.infoKid2 hk
  have hsz : (W.setCell ⟨fb, 0, none⟩ (.bool false)).heap.size = W.heap.size := by simp [World.setCell]
  have r1 : ((W.setCell ⟨fb, 0, none⟩ (.bool false)).alloc (.cells (kcells k).toArray 37)).heap[W.heap.size]? = some (.cells (kcells k).toArray 37 (0, 0)) := by
    have := heap_alloc_new (W.setCell ⟨fb, 0, none⟩ (.bool false)) (.cells (kcells k).toArray 37 (0, 0))
    rw [hsz] at this
    exact this
  have HL : Hid (Calls Try.prog 50 #[.int .i64 q, .pointer (some ⟨b, 0, none⟩), kidV k] ((W.setCell ⟨fb, 0, none⟩ (.bool false)).alloc (.cells (kcells k).toArray 37)) fun e w' => e = .returned (.tuple #[]) ∧ KSt w w' b (bs ++ kidB false q k) fb sb false sv) := lay_plain q k hk h2 (by omega)
  have hlt : fb < W.heap.size := lt_of_heap h.ff
  unfold kidV at HL ⊢
  generalize (kcells k).toArray = KA at *
  clear h h1 h2 hk hx ha hl hsz c1 f1
  go_enter Try.func47, Try.ntmps47
  go_wp2_with (refine wpList_load_row (by rfl) 37 _ (by rfl) W.heap.size (by rfl) 37 KA (0, 0) _ r1 Try.underlying37 rfl hz ?_)
  refine HL.out.mono ?_
  rintro e w1 ⟨rfl, h3⟩
  go_wp2_with fail
  go_end0
  exact ⟨rfl, h3⟩
set_option maxRecDepth 100000 in
set_option maxHeartbeats 1000000 in
theorem kidNext_plain {w W : World} {b : Nat} {bs : List UInt8} {fb sb xb ab rb ro n c : Nat} {s : ByteArray} (q : Int) (k : Kid) (hk : KidOk k) (h : KSt w W b bs fb sb false (.slice (some ⟨rb, ro, none⟩) (n + 1) c)) (hl : bs.length + (textB s).length ≤ 700000000000)
    (hx : w.cell? ⟨xb, 0, none⟩ = some (.func (.func 50) #[] #[])) (ha : w.cell? ⟨ab, 1, none⟩ = some (.int .i64 q)) (hs : w.cell? ⟨rb, ro, none⟩ = some (.string s)) (hc : n + 1 ≤ c) (hcm : c ≤ 9223372036854775807) :
    Calls Try.prog 47 #[.pointer (some ⟨b, 0, none⟩), kidV k, .pointer (some ⟨fb, 0, none⟩), .pointer (some ⟨sb, 0, none⟩), .pointer (some ⟨xb, 0, none⟩), .pointer (some ⟨ab, 0, none⟩)] W fun e w' => e = .returned (.tuple #[]) ∧ ∃ ra, KSt w w' b (bs ++ textB s ++ kidB false q k) fb sb false (.slice ra n (c - 1)) ∧ (0 < n → ra = some ⟨rb, ro + 1, none⟩) := by
  have h1 := h.alloc (.cells (kcells k).toArray 37)
  have hz := Try.infoKid2 hk
  have hls := textB_len s
  obtain ⟨c0, f0, c1, f1⟩ := h1.cells
  have s0 := h1.base.keep hs
  obtain ⟨V, hV⟩ : ∃ V, V = W.alloc (.cells (kcells k).toArray 37) := ⟨_, rfl⟩
  have r0 : V.heap[W.heap.size]? = some (.cells (kcells k).toArray 37 (0, 0)) := by rw [hV]; exact heap_alloc_new W _
  rw [← hV] at h1
  obtain ⟨g0, hw0, hg0⟩ := h.wr
  obtain ⟨lb, lg⟩ := hw0.ltb
  have hlf : fb < W.heap.size := lt_of_heap h.ff
  have hlsb : sb < W.heap.size := lt_of_heap h.sf
  have hwv : WrAt V b g0 bs := by rw [hV]; exact hw0.same1 ((Fr.refl _ W).alloc _)
  have HT : Hid (Calls Try.prog 48 #[.pointer (some ⟨b, 0, none⟩), .string s] V fun e w' => e = .returned (.tuple #[]) ∧ KSt w w' b (bs ++ textB s) fb sb false (.slice (some ⟨rb, ro, none⟩) (n + 1) c) ∧ w'.heap[W.heap.size]? = some (.cells (kcells k).toArray 37 (0, 0))) := by
    obtain ⟨g, hw, hst⟩ := h1.step
    have hgw := hw
    refine (wtext_calls s hwv (by omega)).mono fun e w' ⟨he, g', hw', st⟩ => ⟨he, ?_, st.keep r0 (by omega) (fun e => by have := lg _ e.symm; omega)⟩
    exact ⟨⟨g', hw', fun k hk => by
      rcases st.2 k hk with e | e
      · exact hg0 k e
      · have h5 := h1.base.size
        have l1 := lt_of_heap h1.ff
        have l2 := lt_of_heap h1.sf
        exact ⟨by omega, by omega, by omega⟩⟩, h1.ne, st.keep h1.ff (fun e => h1.ne.2.1 e.symm) (fun e => (hg0 _ e.symm).2.1 rfl), st.keep h1.sf (fun e => h1.ne.2.2.1 e.symm) (fun e => (hg0 _ e.symm).2.2 rfl), by
      refine Fr.trans h1.base st.1 ?_
      rintro i hi (e | e)
      · have := h1.ne.1; omega
      · have := (hg0 i e.symm).1; omega⟩
  have HL : Hid (∀ W2 sv, KSt w W2 b (bs ++ textB s) fb sb false sv → Calls Try.prog 50 #[.int .i64 q, .pointer (some ⟨b, 0, none⟩), kidV k] W2 fun e w' => e = .returned (.tuple #[]) ∧ KSt w w' b (bs ++ textB s ++ kidB false q k) fb sb false sv) := fun W2 sv h2 => lay_plain q k hk h2 (by rw [List.length_append]; omega)
  have hnfs : ¬ fb = sb := h.ne.2.2.2.1
  have hnsf : ¬ sb = fb := fun e => hnfs e.symm
  unfold kidV at HL ⊢
  generalize (kcells k).toArray = KA at *
  clear h h1 hk hl hls hs hw0 hwv hg0 lb lg r0 g0
  go_enter Try.func47, Try.ntmps47
  go_wp2_with fail
  rw [← hV]
  clear hV c0 f0 c1 f1 s0
  refine HT.out.mono ?_
  rintro e w1 ⟨rfl, h1, r1⟩
  obtain ⟨c0, f0, c1, f1⟩ := h1.cells
  by_cases hc1 : c = 1
  · subst hc1
    obtain rfl : n = 0 := by omega
    have h2 := (h1.setS (.slice (some ⟨rb, ro, none⟩) 0 0)).setF false
    have hX := h2.base.keep hx
    have hA := h2.base.keep ha
    have f0 : (w1.setCell ⟨sb, 0, none⟩ (.slice (some ⟨rb, ro, none⟩) 0 0)).frozen? ⟨fb, 0, none⟩ = false := (h1.setS _).cells.2.1
    have r2 : ((w1.setCell ⟨sb, 0, none⟩ (.slice (some ⟨rb, ro, none⟩) 0 0)).setCell ⟨fb, 0, none⟩ (.bool false)).heap[W.heap.size]? = some (.cells KA 37 (0, 0)) := (Below.heap_setCell _ ⟨fb, 0, none⟩ _ W.heap.size (by simp only; omega)).trans ((Below.heap_setCell _ ⟨sb, 0, none⟩ _ W.heap.size (by simp only; omega)).trans r1)
    have HL2 : Hid (Calls Try.prog 50 #[.int .i64 q, .pointer (some ⟨b, 0, none⟩), .agg KA] ((w1.setCell ⟨sb, 0, none⟩ (.slice (some ⟨rb, ro, none⟩) 0 0)).setCell ⟨fb, 0, none⟩ (.bool false)) fun e w' => e = .returned (.tuple #[]) ∧ KSt w w' b (bs ++ textB s ++ kidB false q k) fb sb false (.slice (some ⟨rb, ro, none⟩) 0 0)) := HL.out _ _ h2
    clear h2 h1 HL hx ha r1
    go_wp2_with (refine wpList_load_row (by rfl) 37 _ (by rfl) W.heap.size (by rfl) 37 KA (0, 0) _ r2 Try.underlying37 rfl hz ?_)
    refine HL2.out.mono ?_
    rintro e w3 ⟨rfl, h3⟩
    go_wp2_with fail
    go_end0
    exact ⟨rfl, _, h3, fun h => by omega⟩
  · have hc2 : 2 ≤ c := by omega
    clear hc1
    have h2 := (h1.setS (.slice (some ⟨rb, ro + 1, none⟩) n (c - 1))).setF false
    have hX := h2.base.keep hx
    have hA := h2.base.keep ha
    have f0 : (w1.setCell ⟨sb, 0, none⟩ (.slice (some ⟨rb, ro + 1, none⟩) n (c - 1))).frozen? ⟨fb, 0, none⟩ = false := (h1.setS _).cells.2.1
    have r2 : ((w1.setCell ⟨sb, 0, none⟩ (.slice (some ⟨rb, ro + 1, none⟩) n (c - 1))).setCell ⟨fb, 0, none⟩ (.bool false)).heap[W.heap.size]? = some (.cells KA 37 (0, 0)) := (Below.heap_setCell _ ⟨fb, 0, none⟩ _ W.heap.size (by simp only; omega)).trans ((Below.heap_setCell _ ⟨sb, 0, none⟩ _ W.heap.size (by simp only; omega)).trans r1)
    have HL2 : Hid (Calls Try.prog 50 #[.int .i64 q, .pointer (some ⟨b, 0, none⟩), .agg KA] ((w1.setCell ⟨sb, 0, none⟩ (.slice (some ⟨rb, ro + 1, none⟩) n (c - 1))).setCell ⟨fb, 0, none⟩ (.bool false)) fun e w' => e = .returned (.tuple #[]) ∧ KSt w w' b (bs ++ textB s ++ kidB false q k) fb sb false (.slice (some ⟨rb, ro + 1, none⟩) n (c - 1))) := HL.out _ _ h2
    clear h2 h1 HL hx ha r1
    go_wp2_with (refine wpList_load_row (by rfl) 37 _ (by rfl) W.heap.size (by rfl) 37 KA (0, 0) _ r2 Try.underlying37 rfl hz ?_)
    refine HL2.out.mono ?_
    rintro e w3 ⟨rfl, h3⟩
    go_wp2_with fail
    go_end0
    exact ⟨rfl, _, h3, fun _ => rfl⟩
end Go.Proofs.Ytjlbkagkmcelgaa
