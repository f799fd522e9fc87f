/-
  Rows of bytes that a slice's value owns.
-/
import Derived.Test.YtjhnehhiahoelaaDoorPF
import Derived.Test.YtjhnehhiahoelaaDoorT7
namespace Go.Proofs.YtjhnehhiahoelaaDoor
open Go.RowKit

def bcells (bs : List UInt8) : List Value := bs.map fun b => Value.int .u8 b.toNat
theorem bcells_append (a b : List UInt8) : bcells (a ++ b) = bcells a ++ bcells b := by simp [bcells]
theorem bcells_length (a : List UInt8) : (bcells a).length = a.length := by simp [bcells]

/-- The bytes bs lie in the row that a slice value owns (whatever block). -/
abbrev Owns (w : World) (v : Value) (bs : List UInt8) : Prop := w.ownsRow 0 5 1 v bs.length (bcells bs)

theorem own_form {e : TypeId} {w : World} {v : Value} {n : Nat} {xs : List Value} (h : w.ownsRow 0 e 1 v n xs) : ∃ ao c, v = .slice ao n c ∧ v.ownBlock = ao.map (·.block) := by
  rcases h.2 with ⟨hv, h0⟩ | ⟨g, cap, cur, hv, _⟩
  · exact ⟨none, 0, by rw [hv, h0], by rw [hv]; rfl⟩
  · exact ⟨some ⟨g, 0, none⟩, cap, hv, by rw [hv]; rfl⟩

/-- A row's block is no block of another element type. -/
theorem own_ne {e : TypeId} {w : World} {v : Value} {n : Nat} {xs : List Value} (h : w.ownsRow 0 e 1 v n xs) {b : Nat} {cs : Array Value} {t : TypeId} {fr : Nat × Nat} (hb : w.heap[b]? = some (.cells cs t fr)) (ht : t ≠ e) : v.ownBlock ≠ some b := by
  rcases h.2 with ⟨hv, _⟩ | ⟨g, cap, cur, hv, _, hg, _⟩
  · rw [hv]; simp [Value.ownBlock]
  · rw [hv]; intro e
    have : g = b := by simpa [Value.ownBlock] using e
    subst this; rw [hg] at hb; simp at hb; exact ht hb.2.1.symm

theorem own_lt {e : TypeId} {w : World} {v : Value} {n : Nat} {xs : List Value} (h : w.ownsRow 0 e 1 v n xs) {k : Nat} (hk : v.ownBlock = some k) : k < w.heap.size := (h.lt k hk).2

theorem own_setCell {e : TypeId} {w : World} {v : Value} {n : Nat} {xs : List Value} (h : w.ownsRow 0 e 1 v n xs) {p : Addr} (hp : v.ownBlock ≠ some p.block) (u : Value) : (w.setCell p u).ownsRow 0 e 1 v n xs := by
  obtain ⟨h1, h2⟩ := h
  refine ⟨h1, ?_⟩
  rcases h2 with h2 | ⟨g, cap, cur, hv, hg, hh, r⟩
  · exact Or.inl h2
  · refine Or.inr ⟨g, cap, cur, hv, hg, ?_, r⟩
    rw [Below.heap_setCell _ _ _ _ (by intro e; apply hp; rw [hv, e]; rfl)]; exact hh

theorem own_frame {e : TypeId} {w w' : World} {v : Value} {n : Nat} {xs : List Value} {S : Nat → Prop} (h : w.ownsRow 0 e 1 v n xs) (hf : Fr S w w') (hn : ∀ k, v.ownBlock = some k → ¬ S k) : w'.ownsRow 0 e 1 v n xs := by
  obtain ⟨h1, h2⟩ := h
  refine ⟨h1, ?_⟩
  rcases h2 with h2 | ⟨g, cap, cur, hv, hg, hh, r⟩
  · exact Or.inl h2
  · exact Or.inr ⟨g, cap, cur, hv, hg, by rw [hf.block g (lt_of_heap hh) (hn g (by rw [hv]; rfl))]; exact hh, r⟩

theorem owns_string {P : Program} {w : World} {v : Value} {bs : List UInt8} (h : Owns w v bs) (src dst : TypeId) (hs : P.underlying src = some (.slice 5)) (he : P.underlying 5 = some (.int .u8)) (hd : P.underlying dst = some .string) :
    (convert src dst v).run P w = .ok (.string ⟨bs.toArray⟩) w := by
  rcases h.2 with ⟨hv, h0⟩ | ⟨g, cap, cur, hv, _, hg, hnc, hcm, hcs, htake⟩
  · have : bs = [] := List.eq_nil_of_length_eq_zero h0
    subst this; subst hv
    rw [run_convert_bytes_string w src dst 5 none 0 0 hs he hd]
    simp [Conv.bytesToString]
    rfl
  · subst hv
    refine run_convert_bytes_back w src dst 5 ⟨g, 0, none⟩ cap bs hs he hd ?_
    intro j hj
    refine h.cells (g := g) rfl j _ ?_
    simp [bcells, hj]

theorem Tryd.info5 : (Tryd.prog.info? 5).map (fun i => (i.zero, i.size, i.bytes)) = some (some (.int .u8 0), 1, 1) := by kernel_rfl
/-- From w to w' the row of v alone may have turned; the row of v' is v's, or new. -/
def BStep (v v' : Value) (w w' : World) : Prop := Fr (fun k => some k = v.ownBlock) w w' ∧ (∀ k, v'.ownBlock = some k → v.ownBlock = some k ∨ w.heap.size ≤ k)
theorem BStep.refl (v : Value) (w : World) : BStep v v w w := ⟨Fr.refl _ _, fun _ h => Or.inl h⟩
theorem BStep.trans {v v1 v2 : Value} {w w1 w2 : World} (h : BStep v v1 w w1) (k : BStep v1 v2 w1 w2) : BStep v v2 w w2 := by
  refine ⟨h.1.trans k.1 ?_, ?_⟩
  · intro i hi e
    rcases h.2 i e.symm with h' | h'
    · exact h'.symm
    · omega
  · intro i hi
    rcases k.2 i hi with h' | h'
    · exact h.2 i h'
    · right; exact Nat.le_trans h.1.size h'
theorem BStep.same {v v1 : Value} {w w1 w2 : World} (h : Same w w1) (k : BStep v v1 w1 w2) : BStep v v1 w w2 :=
  ⟨Fr.trans (h.mono (fun _ _ f => f.elim)) k.1 (fun _ _ e => e), fun i hi => by rcases k.2 i hi with e | e; exact Or.inl e; exact Or.inr (Nat.le_trans h.size e)⟩
theorem BStep.then_same {v v1 : Value} {w w1 w2 : World} (h : BStep v v1 w w1) (k : Same w1 w2) : BStep v v1 w w2 :=
  ⟨Fr.trans h.1 k (fun _ _ f => f.elim), h.2⟩
/-- What an append leaves. -/
theorem own_push {w w1 : World} {v : Value} {bs ns : List UInt8} {g cap N : Nat} (hN : N = ns.length) (hown : w1.ownsRow 0 5 1 (.slice (some ⟨g, 0, none⟩) (bs.length + N) cap) (bs.length + N) (bcells bs ++ bcells ns)) (hgrow : w.grownBy w1 v.ownBlock) (hat : v.ownBlock = some g ∨ g = w.heap.size) :
    Owns w1 (.slice (some ⟨g, 0, none⟩) (bs ++ ns).length cap) (bs ++ ns) ∧ BStep v (.slice (some ⟨g, 0, none⟩) (bs ++ ns).length cap) w w1 := by
  subst hN
  refine ⟨?_, (Fr.refl _ w).grown hgrow (fun k hk _ => hk.symm), ?_⟩
  · show World.ownsRow _ _ _ _ _ _ _
    rw [bcells_append, List.length_append]; exact hown
  · intro k hk
    have : g = k := by simpa [Value.ownBlock] using hk
    subst this
    rcases hat with h | h
    · exact Or.inl h
    · right; omega
/-- What an append leaves, in a world whose blocks are those of w and some new ones. -/
theorem own_push_at {w W w1 : World} {v : Value} {bs ns : List UInt8} {g cap N B : Nat} (sw : Same w W) (hB : W.heap.size = B) (hN : N = ns.length) (hown : w1.ownsRow 0 5 1 (.slice (some ⟨g, 0, none⟩) (bs.length + N) cap) (bs.length + N) (bcells bs ++ bcells ns)) (hgrow : W.grownBy w1 v.ownBlock) (hat : v.ownBlock = some g ∨ g = B) :
    Owns w1 (.slice (some ⟨g, 0, none⟩) (bs ++ ns).length cap) (bs ++ ns) ∧ BStep v (.slice (some ⟨g, 0, none⟩) (bs ++ ns).length cap) w w1 := by
  obtain ⟨h1, h2⟩ := own_push hN hown hgrow (by rw [hB]; exact hat)
  exact ⟨h1, BStep.same sw h2⟩
end Go.Proofs.YtjhnehhiahoelaaDoor
