/- disk: a disk in memory, its parts named; what writing to its pages leaves. -/
import Derived.Test.YtljlkcmjbjnihaaOJ
import Derived.Test.YtljlkcmjbjnihaaOF
namespace Go.Proofs.Ytljlkcmjbjnihaa
open Go.RowKit

structure DkO (w : World) (b : Nat) (D : Dk) (S : Nat → Prop) (pa ia wa aa : Option Addr) (pc ic wc ac : Nat) : Prop where
  row : w.heap[b]? = some (.cells (dkC D (.slice pa D.P.length pc) (.slice ia D.I.length ic) (.slice wa D.W.length wc) (.slice aa 0 ac)).toArray 51 (0, 0))
  rP : w.ownsRow 0 9 1 (.slice pa D.P.length pc) D.P.length (scells D.P)
  rI : w.ownsRow 0 9 1 (.slice ia D.I.length ic) D.I.length (scells D.I)
  rW : w.ownsRow 0 77 4 (.slice wa D.W.length wc) D.W.length (wtCs D.W)
  sP : ∀ k, (Value.slice pa D.P.length pc).ownBlock = some k → S k
  sI : ∀ k, (Value.slice ia D.I.length ic).ownBlock = some k → S k
  sW : ∀ k, (Value.slice wa D.W.length wc).ownBlock = some k → S k
  ne : ∀ k, (Value.slice pa D.P.length pc).ownBlock = some k → (Value.slice ia D.I.length ic).ownBlock = some k → False
  mem : S b
  lt : ∀ k, S k → k < w.heap.size
theorem DkAt.open {w : World} {b : Nat} {D : Dk} {S : Nat → Prop} (h : DkAt w b D S) : ∃ pa ia wa aa pc ic wc ac, DkO w b D S pa ia wa aa pc ic wc ac := by
  obtain ⟨⟨pa, ia, wa, aa, pc, ic, wc, ac, h1, h2, h3, h4, h5, h6, h7, h8⟩, hm, hl⟩ := h
  exact ⟨pa, ia, wa, aa, pc, ic, wc, ac, ⟨h1, h2, h3, h4, h5, h6, h7, h8, hm, hl⟩⟩
section
variable {w w' : World} {b : Nat} {D : Dk} {S : Nat → Prop} {pa ia wa aa : Option Addr} {pc ic wc ac : Nat}
theorem DkO.dk (h : DkO w b D S pa ia wa aa pc ic wc ac) : DkAt w b D S := ⟨⟨pa, ia, wa, aa, pc, ic, wc, ac, h.row, h.rP, h.rI, h.rW, h.sP, h.sI, h.sW, h.ne⟩, h.mem, h.lt⟩
theorem DkO.same (h : DkO w b D S pa ia wa aa pc ic wc ac) (s : Same w w') : DkO w' b D S pa ia wa aa pc ic wc ac :=
  ⟨heap_fr h.row s (fun f => f), own_frameB h.rP s (fun _ _ f => f), own_frameB h.rI s (fun _ _ f => f), own_frameB h.rW s (fun _ _ f => f), h.sP, h.sI, h.sW, h.ne, h.mem, fun k hk => Nat.lt_of_lt_of_le (h.lt k hk) s.size⟩
/-- Rows of unlike types lie apart. -/
theorem rows_apart {B B2 n m c c2 s1 s2 : Nat} {e e2 : TypeId} {x y : Option Addr} {xs ys : List Value} (h1 : w.ownsRow B e s1 (.slice x n c) n xs) (h2 : w.ownsRow B2 e2 s2 (.slice y m c2) m ys) (hne : e ≠ e2) (k : Nat) (k1 : (Value.slice x n c).ownBlock = some k) (k2 : (Value.slice y m c2).ownBlock = some k) : False := by
  obtain ⟨c1, g1⟩ := own_cellsB h1 k1
  obtain ⟨c2, g2⟩ := own_cellsB h2 k2
  rw [g1] at g2
  cases g2
  exact hne rfl
theorem Land.of {S : Nat → Prop} {k : Nat} (h : S k) : Land S w w' k := Or.inl h
/-- The image is written to. -/
theorem DkO.comeI {I' : List ByteArray} (h : DkO w b D S pa ia wa aa pc ic wc ac) (so : ShOut w w' b 2 ia D.I.length ic (dkC D (.slice pa D.P.length pc) (.slice ia D.I.length ic) (.slice wa D.W.length wc) (.slice aa 0 ac)).toArray 51 I') :
    ∃ ia' ic', DkO w' b { D with I := I' } (Land S w w') pa ia' wa aa pc ic' wc ac ∧ Fr S w w' := by
  obtain ⟨ia', ic', g1, g2, g3, g4⟩ := so
  have hf : Fr S w w' := g3.mono (fun k _ e => e.elim (fun e => e ▸ h.mem) (h.sI k))
  have nb : ∀ {x : Option Addr} {n c s1 : Nat} {e : TypeId} {xs : List Value}, w.ownsRow 0 e s1 (.slice x n c) n xs → e ≠ 51 → ∀ k, (Value.slice x n c).ownBlock = some k → k = b → False := fun ho he k hk e => own_neT ho h.row he k hk e
  have loc : ∀ k, (Value.slice ia' I'.length ic').ownBlock = some k → Land S w w' k := fun k hk => by
    rcases g4 k hk with e | e
    · exact Or.inl (h.sI k e)
    · obtain ⟨_, hc⟩ := own_cellsB g2 hk
      exact Or.inr ⟨e, lt_of_heap hc⟩
  refine ⟨ia', ic', ⟨?_, ?_, g2, ?_, fun k hk => Or.inl (h.sP k hk), loc, fun k hk => Or.inl (h.sW k hk), ?_, Or.inl h.mem, ?_⟩, hf⟩
  · rw [g1]; rfl
  · exact own_frameB h.rP g3 (fun k hk e => e.elim (nb h.rP (by decide) k hk) (h.ne k hk))
  · exact own_frameB h.rW g3 (fun k hk e => e.elim (nb h.rW (by decide) k hk) (fun e2 => rows_apart h.rW h.rI (by decide) k hk e2))
  · intro k hk hk2
    rcases g4 k hk2 with e | e
    · exact h.ne k hk e
    · have := h.lt k (h.sP k hk); omega
  · rintro k (hk | hk)
    · exact Nat.lt_of_lt_of_le (h.lt k hk) hf.size
    · exact hk.2
/-- What is seen is written to. -/
theorem DkO.comeP {P' : List ByteArray} (h : DkO w b D S pa ia wa aa pc ic wc ac) (so : ShOut w w' b 0 pa D.P.length pc (dkC D (.slice pa D.P.length pc) (.slice ia D.I.length ic) (.slice wa D.W.length wc) (.slice aa 0 ac)).toArray 51 P') :
    ∃ pa' pc', DkO w' b { D with P := P' } (Land S w w') pa' ia wa aa pc' ic wc ac ∧ Fr S w w' := by
  obtain ⟨pa', pc', g1, g2, g3, g4⟩ := so
  have hf : Fr S w w' := g3.mono (fun k _ e => e.elim (fun e => e ▸ h.mem) (h.sP k))
  have nb : ∀ {x : Option Addr} {n c s1 : Nat} {e : TypeId} {xs : List Value}, w.ownsRow 0 e s1 (.slice x n c) n xs → e ≠ 51 → ∀ k, (Value.slice x n c).ownBlock = some k → k = b → False := fun ho he k hk e => own_neT ho h.row he k hk e
  have loc : ∀ k, (Value.slice pa' P'.length pc').ownBlock = some k → Land S w w' k := fun k hk => by
    rcases g4 k hk with e | e
    · exact Or.inl (h.sP k e)
    · obtain ⟨_, hc⟩ := own_cellsB g2 hk
      exact Or.inr ⟨e, lt_of_heap hc⟩
  refine ⟨pa', pc', ⟨?_, g2, ?_, ?_, loc, fun k hk => Or.inl (h.sI k hk), fun k hk => Or.inl (h.sW k hk), ?_, Or.inl h.mem, ?_⟩, hf⟩
  · rw [g1]; rfl
  · exact own_frameB h.rI g3 (fun k hk e => e.elim (nb h.rI (by decide) k hk) (fun e2 => h.ne k e2 hk))
  · exact own_frameB h.rW g3 (fun k hk e => e.elim (nb h.rW (by decide) k hk) (fun e2 => rows_apart h.rW h.rP (by decide) k hk e2))
  · intro k hk hk2
    rcases g4 k hk with e | e
    · exact h.ne k e hk2
    · have := h.lt k (h.sI k hk2); omega
  · rintro k (hk | hk)
    · exact Nat.lt_of_lt_of_le (h.lt k hk) hf.size
    · exact hk.2
/-- A store of a plain cell. -/
theorem DkO.setS {D' : Dk} (h : DkO w b D S pa ia wa aa pc ic wc ac) (i : Nat) (v : Value) (hP : D'.P = D.P) (hI : D'.I = D.I) (hW : D'.W = D.W) (hC : ∀ sp si sw sa, (dkC D sp si sw sa).set i v = dkC D' sp si sw sa) :
    DkO (w.setCell ⟨b, i, none⟩ v) b D' S pa ia wa aa pc ic wc ac ∧ Fr S w (w.setCell ⟨b, i, none⟩ v) := by
  have f : Fr (fun k => k = b) w (w.setCell ⟨b, i, none⟩ v) := Fr.setCell (S := fun k => k = b) (Fr.refl _ w) (p := ⟨b, i, none⟩) (fun _ => rfl) _
  refine ⟨⟨?_, ?_, ?_, ?_, ?_, ?_, ?_, ?_, h.mem, fun k hk => Nat.lt_of_lt_of_le (h.lt k hk) f.size⟩, f.mono (fun k _ e => e ▸ h.mem)⟩
  · rw [hP, hI, hW, heap_setCell_same w b i _ _ _ h.row, ← hC]
    simp
  · rw [hP]; exact own_frameB h.rP f (fun k hk e => own_neT h.rP h.row (by decide) k hk e)
  · rw [hI]; exact own_frameB h.rI f (fun k hk e => own_neT h.rI h.row (by decide) k hk e)
  · rw [hW]; exact own_frameB h.rW f (fun k hk e => own_neT h.rW h.row (by decide) k hk e)
  · rw [hP]; exact h.sP
  · rw [hI]; exact h.sI
  · rw [hW]; exact h.sW
  · rw [hP, hI]; exact h.ne
theorem DkO.cell (h : DkO w b D S pa ia wa aa pc ic wc ac) (i : Nat) {v : Value} (hv : (dkC D (.slice pa D.P.length pc) (.slice ia D.I.length ic) (.slice wa D.W.length wc) (.slice aa 0 ac))[i]? = some v) : w.cell? ⟨b, i, none⟩ = some v := by
  rw [cell_of_row _ _ _ _ _ _ h.row, List.getElem?_toArray]; exact hv
theorem DkO.frozen (h : DkO w b D S pa ia wa aa pc ic wc ac) (i : Nat) : w.frozen? ⟨b, i, none⟩ = false := frozen_of_row _ _ _ _ _ h.row
/-- What waits is another list now. -/
theorem DkO.setW {W' : List Wt} {wa' : Option Addr} {wc' : Nat} {w0 : World} (h : DkO w b D S pa ia wa aa pc ic wc ac) (h0 : Fr S w0 w) (hr : w.ownsRow 0 77 4 (.slice wa' W'.length wc') W'.length (wtCs W')) (hs : ∀ k, (Value.slice wa' W'.length wc').ownBlock = some k → S k) :
    DkO (w.setCell ⟨b, 6, none⟩ (.slice wa' W'.length wc')) b { D with W := W' } S pa ia wa' aa pc ic wc' ac ∧ Fr S w0 (w.setCell ⟨b, 6, none⟩ (.slice wa' W'.length wc')) := by
  have f : Fr (fun k => k = b) w (w.setCell ⟨b, 6, none⟩ (.slice wa' W'.length wc')) := Fr.setCell (S := fun k => k = b) (Fr.refl _ w) (p := ⟨b, 6, none⟩) (fun _ => rfl) _
  refine ⟨⟨?_, ?_, ?_, ?_, h.sP, h.sI, hs, h.ne, h.mem, fun k hk => Nat.lt_of_lt_of_le (h.lt k hk) f.size⟩, Fr.trans h0 f (fun k _ e => e ▸ h.mem)⟩
  · rw [heap_setCell_same w b 6 _ _ _ h.row]; rfl
  · exact own_frameB h.rP f (fun k hk e => own_neT h.rP h.row (by decide) k hk e)
  · exact own_frameB h.rI f (fun k hk e => own_neT h.rI h.row (by decide) k hk e)
  · exact own_frameB hr f (fun k hk e => own_neT hr h.row (by decide) k hk e)
/-- What is seen is another row now. -/
theorem DkO.newP {P' : List ByteArray} {pa' : Option Addr} {pc' : Nat} {w0 : World} (h : DkO w b D S pa ia wa aa pc ic wc ac) (h0 : Fr S w0 w) (hr : w.ownsRow 0 9 1 (.slice pa' P'.length pc') P'.length (scells P')) (hs : ∀ k, (Value.slice pa' P'.length pc').ownBlock = some k → S k) (hn : ∀ k, (Value.slice pa' P'.length pc').ownBlock = some k → (Value.slice ia D.I.length ic).ownBlock = some k → False) :
    DkO (w.setCells b 0 [.int .i64 (D.page : Int), .slice pa' P'.length pc']) b { D with P := P' } S pa' ia wa aa pc' ic wc ac ∧ Fr S w0 (w.setCells b 0 [.int .i64 (D.page : Int), .slice pa' P'.length pc']) := by
  have f : Fr (fun k => k = b) w (w.setCells b 0 [.int .i64 (D.page : Int), .slice pa' P'.length pc']) := Fr.setCells (S := fun k => k = b) (fun _ => rfl) _ 0 w (Fr.refl _ w)
  refine ⟨⟨?_, ?_, ?_, ?_, hs, h.sI, h.sW, hn, h.mem, fun k hk => Nat.lt_of_lt_of_le (h.lt k hk) f.size⟩, Fr.trans h0 f (fun k _ e => e ▸ h.mem)⟩
  · exact (heap_setCell_same _ _ 1 _ _ _ (heap_setCell_same _ _ 0 _ _ _ h.row)).trans (by rfl)
  · exact own_frameB hr f (fun k hk e => own_neT hr h.row (by decide) k hk e)
  · exact own_frameB h.rI f (fun k hk e => own_neT h.rI h.row (by decide) k hk e)
  · exact own_frameB h.rW f (fun k hk e => own_neT h.rW h.row (by decide) k hk e)
end
theorem Land.trans {S : Nat → Prop} {w w1 w2 : World} (h1 : w.heap.size ≤ w1.heap.size) (h2 : w1.heap.size ≤ w2.heap.size) {k : Nat} (h : Land (Land S w w1) w1 w2 k) : Land S w w2 k := by
  rcases h with (h | h) | h
  · exact Or.inl h
  · exact Or.inr ⟨h.1, by omega⟩
  · exact Or.inr ⟨by omega, h.2⟩
theorem DkO.land {w : World} {b : Nat} {D : Dk} {S T : Nat → Prop} {pa ia wa aa : Option Addr} {pc ic wc ac : Nat} (h : DkO w b D S pa ia wa aa pc ic wc ac) (hs : ∀ k, S k → T k) (hl : ∀ k, T k → k < w.heap.size) : DkO w b D T pa ia wa aa pc ic wc ac :=
  ⟨h.row, h.rP, h.rI, h.rW, fun k hk => hs k (h.sP k hk), fun k hk => hs k (h.sI k hk), fun k hk => hs k (h.sW k hk), h.ne, hs b h.mem, hl⟩
end Go.Proofs.Ytljlkcmjbjnihaa
