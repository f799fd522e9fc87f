/- The closure that reads a branch's kids. -/
import Derived.Test.YtjlbkagkmcelgaaNF
namespace Go.Proofs.Ytjlbkagkmcelgaa
open Go.RowKit

theorem own_lt2 {e : TypeId} {w : World} {v : Value} {n sz : Nat} {xs : List Value} (h : w.ownsRow 0 e sz v n xs) {k : Nat} (hk : v.ownBlock = some k) : k < w.heap.size := by
  rcases h.2 with ⟨hv, _⟩ | ⟨g, cap, cur, hv, _, hh, _⟩
  · rw [hv] at hk; cases hk
  · rw [hv] at hk; cases hk; exact lt_of_heap hh
def scells (l : List ByteArray) : List Value := l.map fun s => Value.string s
theorem scells_append (a b : List ByteArray) : scells (a ++ b) = scells a ++ scells b := by simp [scells]
/-- A Reader at b, the flag at fb, the node under way at nb, its separators' row at ao: all made since w. -/
structure RK (w W : World) (b : Nat) (s : ByteArray) (p c : Nat) (fb nb : Nat) (first : Bool) (sl : List ByteArray) (ao : Option Addr) (cap : Nat) : Prop where
  rd : RdAt W b s p c
  ne : w.heap.size ≤ b ∧ w.heap.size ≤ fb ∧ w.heap.size ≤ nb ∧ b ≠ fb ∧ b ≠ nb ∧ fb ≠ nb
  ff : W.heap[fb]? = some (.cells #[.bool first] 4 (0, 0))
  nf : W.heap[nb]? = some (.cells #[.slice none 0 0, .slice ao sl.length cap, .slice none 0 0] 26 (0, 0))
  own : W.ownsRow 0 9 1 (.slice ao sl.length cap) sl.length (scells sl)
  fre : ∀ k, ao.map (·.block) = some k → w.heap.size ≤ k ∧ k ≠ b ∧ k ≠ fb ∧ k ≠ nb
  base : Same w W
theorem own_blk (ao : Option Addr) (n c : Nat) : Value.ownBlock (.slice ao n c) = ao.map (·.block) := by cases ao <;> rfl
/-- The blocks that the closure may turn. -/
abbrev RKf (b fb nb : Nat) (ao : Option Addr) (k : Nat) : Prop := k = b ∨ k = fb ∨ k = nb ∨ some k = ao.map (·.block)
theorem RK.frame {w W W' : World} {b : Nat} {s : ByteArray} {p c fb nb : Nat} {f : Bool} {sl : List ByteArray} {ao : Option Addr} {cap : Nat} {S : Nat → Prop} (h : RK w W b s p c fb nb f sl ao cap) (k : Fr S W W') (hb : ∀ i, S i → w.heap.size ≤ i ∧ ¬ RKf b fb nb ao i) : RK w W' b s p c fb nb f sl ao cap := by
  refine ⟨h.rd.frame k (fun e => (hb _ e).2 (Or.inl rfl)), h.ne, (k.block fb (lt_of_heap h.ff) (fun e => (hb _ e).2 (Or.inr (Or.inl rfl)))).trans h.ff, (k.block nb (lt_of_heap h.nf) (fun e => (hb _ e).2 (Or.inr (Or.inr (Or.inl rfl))))).trans h.nf, own_frame2 h.own k (fun i hi e => (hb _ e).2 (Or.inr (Or.inr (Or.inr (by rw [← hi, own_blk]))))), h.fre, Fr.trans h.base k (fun i hi e => by have := (hb i e).1; omega)⟩
theorem RK.same {w W W' : World} {b : Nat} {s : ByteArray} {p c fb nb : Nat} {f : Bool} {sl : List ByteArray} {ao : Option Addr} {cap : Nat} (h : RK w W b s p c fb nb f sl ao cap) (k : Same W W') : RK w W' b s p c fb nb f sl ao cap := h.frame k (fun _ e => e.elim)
/-- A step of the Reader. -/
theorem RK.rstep {w W W' : World} {b : Nat} {s : ByteArray} {p c p' c' fb nb : Nat} {f : Bool} {sl : List ByteArray} {ao : Option Addr} {cap : Nat} (h : RK w W b s p c fb nb f sl ao cap) (hr : RdAt W' b s p' c') (k : RdStep b W W') : RK w W' b s p' c' fb nb f sl ao cap := by
  obtain ⟨n1, n2, n3, n4, n5, n6⟩ := h.ne
  refine ⟨hr, h.ne, (k.block fb (lt_of_heap h.ff) (fun e => n4 e.symm)).trans h.ff, (k.block nb (lt_of_heap h.nf) (fun e => n5 e.symm)).trans h.nf, own_frame2 h.own k (fun i hi e => (h.fre i (by rw [← own_blk, hi])).2.1 e), h.fre, Fr.trans h.base k (fun i hi e => by omega)⟩
theorem RK.setF {w W : World} {b : Nat} {s : ByteArray} {p c fb nb : Nat} {f : Bool} {sl : List ByteArray} {ao : Option Addr} {cap : Nat} (h : RK w W b s p c fb nb f sl ao cap) (x : Bool) : RK w (W.setCell ⟨fb, 0, none⟩ (.bool x)) b s p c fb nb x sl ao cap := by
  obtain ⟨n1, n2, n3, n4, n5, n6⟩ := h.ne
  have k : Fr (fun i => i = fb) W (W.setCell ⟨fb, 0, none⟩ (.bool x)) := (Fr.refl (fun i => i = fb) W).setCell (p := ⟨fb, 0, none⟩) (fun _ => rfl) _
  refine ⟨h.rd.frame k n4, h.ne, heap_setCell_same W fb 0 _ _ (.bool x) h.ff, (k.block nb (lt_of_heap h.nf) (fun e => n6 e.symm)).trans h.nf, own_frame2 h.own k (fun i hi e => (h.fre i (by rw [← own_blk, hi])).2.2.1 e), h.fre, Fr.trans h.base k (fun i hi e => by omega)⟩
theorem RK.cells {w W : World} {b : Nat} {s : ByteArray} {p c fb nb : Nat} {f : Bool} {sl : List ByteArray} {ao : Option Addr} {cap : Nat} (h : RK w W b s p c fb nb f sl ao cap) :
    W.cell? ⟨fb, 0, none⟩ = some (.bool f) ∧ W.frozen? ⟨fb, 0, none⟩ = false ∧ W.cell? ⟨nb, 1, none⟩ = some (.slice ao sl.length cap) ∧ W.frozen? ⟨nb, 1, none⟩ = false :=
  ⟨by rw [cell_of_row _ _ _ _ _ _ h.ff]; rfl, frozen_of_row W fb 0 _ _ h.ff, by rw [cell_of_row _ _ _ _ _ _ h.nf]; rfl, frozen_of_row W nb 1 _ _ h.nf⟩

set_option maxRecDepth 100000 in
set_option maxHeartbeats 1000000 in
theorem kidOne_page {w W : World} {b : Nat} {s : ByteArray} {p c fb nb xb ab : Nat} {sl : List ByteArray} {ao : Option Addr} {cap : Nat} (q : Int) (h : RK w W b s p c fb nb true sl ao cap)
    (hx : w.cell? ⟨xb, 1, none⟩ = some (.func (.func 40) #[] #[])) (ha : w.cell? ⟨ab, 1, none⟩ = some (.int .i64 q)) :
    Calls Try.prog 77 #[.pointer (some ⟨b, 0, none⟩), .pointer (some ⟨fb, 0, none⟩), .pointer (some ⟨nb, 0, none⟩), .pointer (some ⟨ab, 0, none⟩), .pointer (some ⟨xb, 0, none⟩)] W fun e w' => e = .returned (kidV (rdKid q s p c).1) ∧ RK w w' b s (rdKid q s p c).2.1 (rdKid q s p c).2.2 fb nb false sl ao cap ∧ Fr (RKf b fb nb ao) W w' := by
  have h1 := h.same ((Fr.refl _ W).alloc (.cells #[.int .u32 0, .int .u8 0, .int .u8 0, .int .u8 0, .int .u8 0, .int .u8 0, .int .u8 0, .int .u8 0, .int .u8 0, .int .u8 0, .int .u8 0, .int .u8 0, .int .u8 0, .int .u8 0, .int .u8 0, .int .u8 0, .int .u8 0, .int .u8 0, .int .u8 0, .int .u8 0, .int .u8 0, .int .u8 0, .int .u8 0, .int .u8 0, .int .u8 0, .int .u8 0, .int .u8 0, .int .u8 0, .int .u8 0, .int .u8 0, .int .u8 0, .int .u8 0, .int .u8 0] 37))
  obtain ⟨c0, f0, _, _⟩ := h1.cells
  have h2 : RK w ((W.setCell ⟨fb, 0, none⟩ (.bool false)).alloc (.cells #[.int .u32 0, .int .u8 0, .int .u8 0, .int .u8 0, .int .u8 0, .int .u8 0, .int .u8 0, .int .u8 0, .int .u8 0, .int .u8 0, .int .u8 0, .int .u8 0, .int .u8 0, .int .u8 0, .int .u8 0, .int .u8 0, .int .u8 0, .int .u8 0, .int .u8 0, .int .u8 0, .int .u8 0, .int .u8 0, .int .u8 0, .int .u8 0, .int .u8 0, .int .u8 0, .int .u8 0, .int .u8 0, .int .u8 0, .int .u8 0, .int .u8 0, .int .u8 0, .int .u8 0] 37)) b s p c fb nb false sl ao cap := (h.setF false).same ((Fr.refl _ _).alloc _)
  have hX := h2.base.keep hx
  have hA := h2.base.keep ha
  have hlf : fb < W.heap.size := lt_of_heap h.ff
  have hsz : (W.setCell ⟨fb, 0, none⟩ (.bool false)).heap.size = W.heap.size := by simp [World.setCell]
  have r1 : ((W.setCell ⟨fb, 0, none⟩ (.bool false)).alloc (.cells #[.int .u32 0, .int .u8 0, .int .u8 0, .int .u8 0, .int .u8 0, .int .u8 0, .int .u8 0, .int .u8 0, .int .u8 0, .int .u8 0, .int .u8 0, .int .u8 0, .int .u8 0, .int .u8 0, .int .u8 0, .int .u8 0, .int .u8 0, .int .u8 0, .int .u8 0, .int .u8 0, .int .u8 0, .int .u8 0, .int .u8 0, .int .u8 0, .int .u8 0, .int .u8 0, .int .u8 0, .int .u8 0, .int .u8 0, .int .u8 0, .int .u8 0, .int .u8 0, .int .u8 0] 37)).heap[W.heap.size]? = some (.cells #[.int .u32 0, .int .u8 0, .int .u8 0, .int .u8 0, .int .u8 0, .int .u8 0, .int .u8 0, .int .u8 0, .int .u8 0, .int .u8 0, .int .u8 0, .int .u8 0, .int .u8 0, .int .u8 0, .int .u8 0, .int .u8 0, .int .u8 0, .int .u8 0, .int .u8 0, .int .u8 0, .int .u8 0, .int .u8 0, .int .u8 0, .int .u8 0, .int .u8 0, .int .u8 0, .int .u8 0, .int .u8 0, .int .u8 0, .int .u8 0, .int .u8 0, .int .u8 0, .int .u8 0] 37 (0, 0)) := by
    have := heap_alloc_new (W.setCell ⟨fb, 0, none⟩ (.bool false)) (.cells #[.int .u32 0, .int .u8 0, .int .u8 0, .int .u8 0, .int .u8 0, .int .u8 0, .int .u8 0, .int .u8 0, .int .u8 0, .int .u8 0, .int .u8 0, .int .u8 0, .int .u8 0, .int .u8 0, .int .u8 0, .int .u8 0, .int .u8 0, .int .u8 0, .int .u8 0, .int .u8 0, .int .u8 0, .int .u8 0, .int .u8 0, .int .u8 0, .int .u8 0, .int .u8 0, .int .u8 0, .int .u8 0, .int .u8 0, .int .u8 0, .int .u8 0, .int .u8 0, .int .u8 0] 37 (0, 0))
    rw [hsz] at this
    exact this
  have y0 : Fr (RKf b fb nb ao) W ((W.setCell ⟨fb, 0, none⟩ (.bool false)).alloc (.cells #[.int .u32 0, .int .u8 0, .int .u8 0, .int .u8 0, .int .u8 0, .int .u8 0, .int .u8 0, .int .u8 0, .int .u8 0, .int .u8 0, .int .u8 0, .int .u8 0, .int .u8 0, .int .u8 0, .int .u8 0, .int .u8 0, .int .u8 0, .int .u8 0, .int .u8 0, .int .u8 0, .int .u8 0, .int .u8 0, .int .u8 0, .int .u8 0, .int .u8 0, .int .u8 0, .int .u8 0, .int .u8 0, .int .u8 0, .int .u8 0, .int .u8 0, .int .u8 0, .int .u8 0] 37)) := ((Fr.refl (RKf b fb nb ao) W).setCell (p := ⟨fb, 0, none⟩) (fun _ => Or.inr (Or.inl rfl)) _).alloc _
  have hok := rdKid_ok q s p c
  have hz := Try.infoKid2 hok
  have hks : (kcells (rdKid q s p c).1).toArray.size = 33 := by rw [List.size_toArray, kcells_length hok.d]
  have hko := kcells_one (rdKid q s p c).1
  have hbl := h.rd.lt
  have HR : Hid (∀ V, RK w V b s p c fb nb false sl ao cap → Calls Try.prog 40 #[.int .i64 q, .pointer (some ⟨b, 0, none⟩)] V fun e w' => e = .returned (kidV (rdKid q s p c).1) ∧ RK w w' b s (rdKid q s p c).2.1 (rdKid q s p c).2.2 fb nb false sl ao cap ∧ RdStep b V w') := fun V hV => (fn_kid hV.rd q).mono fun e w' ⟨he, hr, st⟩ => ⟨he, hV.rstep hr st, st⟩
  have HRES : Hid (∀ (tmps : Array Value) (V : World) (cs : Array Value), V.heap[W.heap.size]? = some (.cells cs 37 (0, 0)) → cs.size = 33 → tmps.getD 6 undef = .pointer (some ⟨W.heap.size, 0, none⟩) → (results Try.f77 tmps).run Try.prog V = .ok (.agg cs) V) := fun tmps V cs hh h2 hp => results_cell_row (p := 6) (ty := 37) (by kernel_rfl) tmps _ W.heap.size 37 _ (0, 0) _ hp hh Try.underlying37 rfl (by rw [h2]; exact Try.infoKid)
  have HFB : Hid (∀ k, ao.map (·.block) = some k → k < W.heap.size) := fun k hk => own_lt2 h.own (by rw [own_blk]; exact hk)
  have hln : nb < W.heap.size := lt_of_heap h.nf
  unfold kidV at HR ⊢
  generalize (kcells (rdKid q s p c).1).toArray = KA at *
  obtain ⟨p2, hp2⟩ : ∃ p2, p2 = (rdKid q s p c).2.1 := ⟨_, rfl⟩
  obtain ⟨c2, hc2⟩ : ∃ c2, c2 = (rdKid q s p c).2.2 := ⟨_, rfl⟩
  rw [← hp2, ← hc2] at HR ⊢
  clear h h1 hx ha hsz hok hp2 hc2
  go_enter Try.func77, Try.ntmps77
  go_wp2_with fail
  generalize ((W.setCell ⟨fb, 0, none⟩ (.bool false)).alloc (.cells #[.int .u32 0, .int .u8 0, .int .u8 0, .int .u8 0, .int .u8 0, .int .u8 0, .int .u8 0, .int .u8 0, .int .u8 0, .int .u8 0, .int .u8 0, .int .u8 0, .int .u8 0, .int .u8 0, .int .u8 0, .int .u8 0, .int .u8 0, .int .u8 0, .int .u8 0, .int .u8 0, .int .u8 0, .int .u8 0, .int .u8 0, .int .u8 0, .int .u8 0, .int .u8 0, .int .u8 0, .int .u8 0, .int .u8 0, .int .u8 0, .int .u8 0, .int .u8 0, .int .u8 0] 37)) = V at *
  refine (HR.out _ h2).mono ?_
  rintro e W1 ⟨rfl, h3, st⟩
  have r2 := (st.block W.heap.size (lt_of_heap r1) (by omega)).trans r1
  have y1 : Fr (RKf b fb nb ao) W W1 := Fr.trans y0 st (fun i _ e => Or.inl e)
  clear st y0
  go_wp2_with (refine wpList_store_whole (by rfl) 37 _ _ (by rfl) W.heap.size KA _ 37 (by rfl) (by rfl) r2 (by rw [hks]; rfl) hz hko ?_; intro W2 r3 f3)
  refine bodyPost_ret (HRES.out _ _ _ r3 hks rfl) rfl ⟨rfl, h3.frame f3 (fun i e => ⟨?_, ?_⟩), Fr.trans y1 f3 (fun i hi e => by omega)⟩
  · have := h3.ne; have := y1.size; have := h3.base.size; omega
  · rintro (e2 | e2 | e2 | e2)
    · omega
    · omega
    · omega
    · have := HFB.out i e2.symm; omega
end Go.Proofs.Ytjlbkagkmcelgaa
